import Derived.Test.YtlgeloebpdmnnaaGreatDoorC36
set_option maxHeartbeats 8000000
set_option maxRecDepth 100000
namespace Go.Proofs.YtlgeloebpdmnnaaGreatDoor
open Go.RowKit Go.Maps Tryz Sc
section
open Go.Shelf
theorem MG{z:Int}{v:Nat}{l:List aU}(h:l.any (jQ z)=false):l.map (cN z v)=l:=by
 rw[List.any_eq_false]at h;have:∀p∈l,cN z v p=p:=λp hp=>by
  have:=h p hp;unfold jQ at this;unfold cN;rw[mE<|by simpa using this]
 conv=>rhs;rw[<-List.map_id l]
 exact List.map_congr_left this
theorem VL [Inhabited Bs](p t:Nat)(z v:Int)(S:List Nat)(R:aP)(w:nL)(h:gh w p S R)(hn:R.ai.length<=1048576)(j:∀x,aO R.ai t=some x->x.st≠5\/v<2\/4<v):
  Calls prog 82 #[gx p,.int .u64 (t:Int),.int .i64 z,.int .i64 v] w λe w'=>e=.returned (.tuple #[])/\∃q,w'=w.drewN q:=by
 obtain⟨F,y,u,ps,h,rfl⟩:=h;have G:=h.len;have hf:=gT p t F y u ps R w h dp;have f:=af h.blk 0;simp at f;have⟨J,c,o,H⟩:=h.slice;rw[o]at f;cases U:eW R.ai t with
 |none=>
  rw[U]at hf;have a:CN none=-1:=rfl;rw[a]at hf;clear h H U a o G j;go_enter func82,ntmps82;go_wp2_with fail;apply hf.mono;clear hf;rintro e d ⟨rfl,q,rfl⟩;go_wp2;(try simp only[Exit.inBlock,Exit.then]);apply zA (xw rfl _ _ _) rfl;exact⟨rfl,_,rfl⟩
 |some i=>
  have⟨x,hx,s,E⟩:=fO U;have⟨P,b⟩:=h.at hx;obtain⟨g,rfl,A,l,B,C,D⟩:=H i _ b;have I:=(zzd.1 b).1;rw[U]at hf;have a:CN (some i)=(i:Int):=rfl;rw[a]at hf;have M:¬(i:Int)<0:=dp;have N:(0:Int)<=i:=dp;have O:(i:Int)<(ps.length:Int):=dp;have m:=j x E;have⟨st,k⟩:∃st,st=x.st:=⟨_,rfl⟩;simp only at l;rw[<-k]at l m;clear h H U E hx s b a k o G j A B C D;by_cases r:st=5
  .subst r;by_cases L:v<2
   .go_enter func82,ntmps82;go_wp2_with fail;apply hf.mono;clear hf;rintro e d ⟨rfl,q,rfl⟩;go_wp2;(try simp only[Exit.inBlock,Exit.then]);apply zA (xw rfl _ _ _) rfl;exact⟨rfl,_,rfl⟩
   .have h4:4<v:=dp;go_enter func82,ntmps82;go_wp2_with fail;apply hf.mono;clear hf;rintro e d ⟨rfl,q,rfl⟩;go_wp2;(try simp only[Exit.inBlock,Exit.then]);apply zA (xw rfl _ _ _) rfl;exact⟨rfl,_,rfl⟩
  .have j5:¬(st:Int)=5:=dp;have n:=oT.2 j5;have K:((st:Int) != 5)=true:=by unfold bne;rw[n];rfl
   go_enter func82,ntmps82;go_wp2_with fail;apply hf.mono;clear hf;rintro e d ⟨rfl,q,rfl⟩;go_wp2;(try simp only[Exit.inBlock,Exit.then]);apply zA (xw rfl _ _ _) rfl;exact⟨rfl,_,rfl⟩
theorem QY [Inhabited Bs](rp t i:Nat)(z:Int)(v:Nat)(hv:2<=v/\v<=4)(S:List Nat)(R:aP)(x:aK)(w:nL)(h:gh w rp S R)(hn:R.ai.length<=1048576)(gU:eW R.ai t=some i)(hx:R.ai[i]?=some x)(h5:x.st=5)(hne:x.parts≠[])(hle:x.parts.length<=8)(D5:R.out.length<=1048000)(uO:R.res.length<=1048000):
  Calls prog 82 #[gx rp,.int .u64 (t:Int),.int .i64 z,.int .i64 (v:Int)] w λe w'=>e=.returned (.tuple #[])/\∃S',gh w' rp S' (R.jV i x z v t)/\fo S S' w w':=by
 obtain⟨r0,My,rz0,rz1,rz2⟩:=tO Ap;obtain⟨xv,rv,ov,ps,h,rfl⟩:=h;have eG:=h.len;have hf:=gT rp t xv rv ov ps R w h dp;have c0:=af h.blk 0;simp at c0;obtain⟨ao,c,mo,H⟩:=h.slice;rw[mo]at c0;obtain⟨v0,GN⟩:=h.at hx;obtain⟨g,rfl,x0,x1,x2,x3,x4⟩:=H i _ GN;have Aq:=(zzd.1 GN).1;rw[gU]at hf;have e1:CN (some i)=(i:Int):=rfl;rw[e1]at hf;have i0:¬(i:Int)<0:=dp
 have i1:(0:Int)<=i:=dp;have i2:(i:Int)<(ps.length:Int):=dp;simp only at x1;rw[h5]at x1;have ly:=h.prt _<|zzh GN;simp only at ly;obtain⟨po,pc,ep,HP⟩:=kf ly;obtain⟨p0,Rh⟩:∃p0,x.parts[0]?=some p0:=⟨_,zzg<|zzE.2 hne⟩;obtain⟨pb,BI,_⟩:=HP 0 p0 Rh;obtain⟨m,hm⟩:∃m,m=x.parts.length:=⟨_,rfl⟩;rw[BI,<-hm]at ep;subst ep;obtain⟨n,kC⟩:∃n,n=ps.length:=⟨_,rfl⟩;rw[<-kC]at c0 i2 Aq mo;have GM:Hid (uJ w w rp i g n c pb m pc rv ov ov ps R x):=⟨⟨ps,by rw[<-mo];exact h,GN,⟨Fr.refl _ _,λ_ hk _=>hk⟩,kC.symm⟩,hm.symm⟩;have HX:=ah<|show xv=.slice (some ⟨g,0,none⟩) n c/\x.parts.length=m/\R.ai[i]?=some x/\ps.length=n/\R.ai.length<=1048576 from ⟨mo,hm.symm,hx,kC.symm,hn⟩;have HS:Hid (x.st=5):=h5;have Ti:m<=8:=by rw[hm];exact hle
 have hnb:n<=1048576:=dp;have v2:¬(v:Int)<2:=dp;have v4:¬(4:Int)<(v:Int):=by omega
 have v0':¬(v:Int)=0:=by omega
 have bv0:((v:Int)==0)=false:=oT.2 v0';have HOL:=ah<|zzb D5 uO;rw[mo];clear h H gU hx GN e1 mo eG hne hle ly HP Rh BI kC hm x0 x2 x3 x4 h5 D5 uO hn
 go_enter func82,ntmps82
 go_wp2_with fail;refine hf.mono ?_;clear hf;rintro e w1 ⟨rfl,q,rfl⟩
 have HKA:Hid (uJ w (w.drewN q) rp i g n c pb m pc rv ov ov ps (R.setAt i<|x.pt<|upTo (cN z v) x.parts 0)<|x.pt<|upTo (cN z v) x.parts 0):=by
  have h1:=GM.out.fr<|(Fr.refl [] w).dE q;exact h1.cast (by rw[lu];exact(oQ HX.2.2.1).symm)<|by rw[lu]
 clear GM;go_wp2
 go_loopw [9,10,11,12] (λal so mi j wr=>∃(k:Nat) (a b d:Bool),k<=m/\al=.bool a/\so=.bool b/\mi=.bool d/\j=.int .i64 k/\Hid (a=!((x.parts.take k).any λp=>rQ<|cN z v p))/\Hid (b=(x.parts.take k).any λp=>uy<|cN z v p)/\Hid (d=(x.parts.take k).any (jQ z))/\Hid (uJ w wr rp i g n c pb m pc rv ov ov ps (R.setAt i<|x.pt<|upTo (cN z v) x.parts k)<|x.pt<|upTo (cN z v) x.parts k)) (λ_ _ _ j _=>m-(intOf j).toNat)
 case atStart=>exact⟨0,true,false,false,zzs _,rfl,rfl,rfl,rfl,rfl,rfl,rfl,HKA⟩
 case round=>
  obtain⟨k,a,b,d,hk,rfl,rfl,rfl,rfl,HA,HB,HD,HK⟩:=hrel;obtain⟨a0,a1,a2,a3,a4,eH,HC⟩:=HK.out.cells;clear a1 a2 a3;by_cases bW:k<m
  .obtain⟨p,hp⟩:∃p,x.parts[k]?=some p:=⟨_,zzg<|by rw[HX.2.1];exact bW⟩;have⟨b0,b1,b2⟩:=HC k p<|kZ _ hp;have⟨f0,_,_⟩:=HK.out.free;have g2:=f0<|k*3+1;have AV:=HK.out.ne;have ne1:¬pb=rp:=AV.1;have ne2:¬pb=g:=AV.2.1;have k0:(0:Int)<=k:=dp
   have k1:(k:Int)<m:=dp;have Y2:=ah<|xM (λp=>rQ<|cN z v p) hp;have Y3:=ah<|xM (λp=>uy<|cN z v p) hp;have Y4:=ah<|xM (jQ z) hp;have dB:pb<wr.heap.size:=AV.2.2.2.1;have dy:g<wr.heap.size:=AV.2.2.2.2.1;have iL:rp<wr.heap.size:=AV.2.2.2.2.2;clear HC f0 AV;by_cases hz:(p.cH:Int)=z/\p.aZ=0
   .have Y5:cN z v p={p with aZ:=v}:=by unfold cN;rw[oo hz]
    have Uh:jQ z p=true:=by unfold jQ;exact zI hz
    have nH:Hid (∀o,uJ w ((wr.setCell ⟨pb,k*3+1,none⟩<|.int .i64 (v:Int)).alloc o) rp i g n c pb m pc rv ov ov ps (R.setAt i<|x.pt<|upTo (cN z v) x.parts<|k+1)<|x.pt<|upTo (cN z v) x.parts<|k+1):=λo=>by
     have h1:=HK.out.TS (kx:=k) (j:=1) (l:=p) (l':=cN z v p) (u:=.int .i64 (v:Int)) (kZ _ hp) (by decide) (by rw[Y5];rfl);exact(h1.cast (by rw[iU _ hp];simp[aK.pt,aP.setAt])<|by rw[iU _ hp]).fr<|(fU _).alloc o
    have We:=ah (show(a&&((v:Int) != 0))=!((x.parts.take (k+1)).any λp=>rQ (cN z v p)) by
     rw[Y2.out,HA.out];simp only[Y5];unfold rQ bne;rw[bv0,show(v==0)=false by simp;omega]
     simp)
    have xQ:=ah (show(b||((v:Int)==2))=(x.parts.take (k+1)).any λp=>uy (cN z v p) by
     rw[Y3.out,HB.out];simp only[Y5];unfold uy;congr 1;rw[Bool.eq_iff_iff];simp;omega)
    have Rl:=ah (show true=(x.parts.take<|k+1).any (jQ z) by rw[Y4.out,Uh];simp);have bz:((p.cH:Int)==z)=true:=by simp[hz.1]
    have bo:((p.aZ:Int)==0)=true:=by simp[hz.2]
    have⟨sh,pJ⟩:∃sh:Int,sh=(p.cH:Int):=⟨_,rfl⟩;have⟨vo,rX⟩:∃vo:Int,vo=(p.aZ:Int):=⟨_,rfl⟩;obtain⟨lf,rS⟩:∃lf,lf=p.left:=⟨_,rfl⟩;rw[<-rS]at b2;have hsz:sh=z:=by rw[pJ];exact hz.1
    have hvz:vo=0:=by rw[rX];have:=hz.2;omega
    rw[<-pJ]at b0 bz;rw[<-rX]at b1 bo;clear hp Y5 Uh pJ rX rS hz Y2 Y3 Y4 HA HB HD HK
    cases a<;>cases b
    all_goals
     go_wp2
     go_roundw
     case rel=>exact⟨k+1,_,_,_,dp,rfl,rfl,rfl,eR,We,xQ,Rl,nH.out _⟩
     case measure=>simp[intOf];omega
   .have Y5:cN z v p=p:=by unfold cN;rw[mE hz]
    have Uh:jQ z p=false:=by unfold jQ;exact zY hz
    have nH:Hid (∀o,uJ w (wr.alloc o) rp i g n c pb m pc rv ov ov ps (R.setAt i<|x.pt<|upTo (cN z v) x.parts<|k+1)<|x.pt<|upTo (cN z v) x.parts<|k+1):=λo=>by
     have e:upTo (cN z v) x.parts (k+1)=upTo (cN z v) x.parts k:=by rw[iU _ hp,Y5];exact f_<|kZ _ hp
     exact(HK.out.cast (by rw[e])<|by rw[e]).fr<|(fU wr).alloc o
    have We:=ah (show(a&&((p.aZ:Int) != 0))=!((x.parts.take (k+1)).any λp=>rQ (cN z v p)) by
     rw[Y2.out,HA.out];simp only[Y5];unfold rQ;rw[Bool.not_or];congr 1;rw[Bool.eq_iff_iff];simp)
    have xQ:=ah (show(b||((p.aZ:Int)==2))=(x.parts.take (k+1)).any λp=>uy (cN z v p) by
     rw[Y3.out,HB.out];simp only[Y5];unfold uy;congr 1;rw[Bool.eq_iff_iff];simp;omega)
    have Rl:=ah (show d=(x.parts.take<|k+1).any (jQ z) by rw[Y4.out,Uh,<-HD.out];simp);have⟨sh,pJ⟩:∃sh:Int,sh=(p.cH:Int):=⟨_,rfl⟩;have⟨vo,rX⟩:∃vo:Int,vo=(p.aZ:Int):=⟨_,rfl⟩;have⟨lf,rS⟩:=gb p.left;rw[<-rS]at b2;have hz':¬sh=z\/(sh=z/\¬vo=0):=dp
    rw[<-pJ]at b0;rw[<-rX]at b1 We xQ;clear hp Y5 Uh pJ rX rS hz Y2 Y3 Y4 HA HB HD HK;obtain n1|⟨n1,n2⟩:=hz'
    .have bz:(sh==z)=false:=oT.2 n1;cases a<;>cases b
     all_goals
      go_wp2;go_roundw;.exact⟨k+1,_,_,_,dp,rfl,rfl,rfl,eR,We,xQ,Rl,nH.out _⟩
      case measure=>simp[intOf];omega
    .have bz:(sh==z)=true:=by simp[n1]
     have bo:(vo==0)=false:=oT.2 n2;have bo2:(vo != 0)=true:=by unfold bne;rw[bo];rfl
     have HA3:=ah (show(a&&true)=!((x.parts.take<|k+1).any λp=>rQ<|cN z v p) by rw[<-bo2];exact We.out);clear We;cases a<;>cases b
     all_goals
      go_wp2;go_roundw;.exact⟨k+1,_,_,_,dp,rfl,rfl,rfl,eR,HA3,xQ,Rl,nH.out _⟩
      case measure=>simp[intOf];omega
  .obtain rfl:k=m:=dp;have kP:upTo (cN z v) x.parts k=x.parts.map (cN z v):=xL _ (by rw[HX.2.1];exact zzc _);have tY:x.parts.take k=x.parts:=zzt (by rw[HX.2.1];exact zzc _);have TN:Hid (uJ w wr rp i g n c pb k pc rv ov ov ps (R.setAt i {x with parts:=x.parts.map (cN z v)}) {x with parts:=x.parts.map (cN z v)}):=HK.out.cast (by rw[kP]) (by rw[kP]);have hA:=HA.out;have hB:=HB.out;have hD:=HD.out;rw[tY]at hA hB hD;have HA3:=ah (show a=!((x.parts.map<|cN z v).any rQ) by rw[hA,List.any_map];rfl);have DI:=ah (show b=(x.parts.map<|cN z v).any uy by rw[hB,List.any_map];rfl);have HD3:=ah hD;clear HC kP tY hA hB hD HA HB HD HK;cases d
   .have HF:=ah (show ∃S',gh wr rp S' (R.jV i x z v t)/\fo (kb rp (.slice (some ⟨g,0,none⟩) n c) rv ov ps) S' w wr from by
     have⟨ps',o8,Kb,uB,zh⟩:=TN.out.EE;refine⟨_,⟨_,_,_,_,?_,rfl⟩,uB⟩;have e:R.jV i x z v t=R.setAt i {x with parts:=x.parts.map (cN z v)}:=by
      unfold aP.jV;rw[<-HD3.out];simp only[if_true];rw[MG HD3.out.symm];exact(oQ HX.2.2.1).symm
     rw[e];exact o8)
    go_wp2;(try simp only[Exit.inBlock,Exit.then]);refine zA (xw rfl _ _ _) rfl ?_;exact⟨rfl,HF.out⟩
   .by_cases h3:v=3
    .have b3:((v:Int)==3)=true:=by simp[h3]
     have i3:(v:Int)=3:=dp;have⟨ps',o8,Kb,uB,zh⟩:=TN.out.EE;have hud:=yv rp i _ rv ov ps' _ wr o8 _ (o8.back Kb) dp (by simp;have:=HX.2.1;omega) (by have:=HOL.out;show R.out.length<=_;omega) (by have:=HOL.out;show R.res.length<=_;omega);have Cx:=ah uB;clear o8 Kb uB;go_wp2_with fail;refine hud.mono ?_;clear hud;rintro e w5 ⟨rfl,S5,h5,k5⟩;have HF:=ah (show ∃S',gh w5 rp S' (R.jV i x z v t)/\fo (kb rp (.slice (some ⟨g,0,none⟩) n c) rv ov ps) S' w w5 from by
      refine⟨S5,?_,Cx.out.trans k5⟩;have e:R.jV i x z v t=(R.setAt i {x with parts:=x.parts.map (cN z v)}).l8 i {x with parts:=x.parts.map (cN z v)}:=by
       unfold aP.jV;rw[<-HD3.out];simp only[Bool.true_eq_false,if_false];rw[oo h3]
      rw[e];exact h5)
     clear h5 k5;go_wp2;(try simp only[Exit.inBlock,Exit.then]);refine zA (xw rfl _ _ _) rfl ?_;exact⟨rfl,HF.out⟩
    .have i3:¬(v:Int)=3:=dp;have b3:((v:Int)==3)=false:=oT.2 i3;cases a
     .have HF:=ah (show ∃S',gh wr rp S' (R.jV i x z v t)/\fo (kb rp (.slice (some ⟨g,0,none⟩) n c) rv ov ps) S' w wr from by
       have⟨ps',o8,Kb,uB,zh⟩:=TN.out.EE;refine⟨_,⟨_,_,_,_,?_,rfl⟩,uB⟩;have e0:(x.parts.map<|cN z v).any rQ=true:=by simpa using HA3.out
       have e:R.jV i x z v t=R.setAt i {x with parts:=x.parts.map (cN z v)}:=by
        unfold aP.jV;rw[<-HD3.out];simp only[Bool.true_eq_false,if_false];rw[mE h3,e0,oo rfl]
       rw[e];exact o8)
      go_wp2;(try simp only[Exit.inBlock,Exit.then]);refine zA (xw rfl _ _ _) rfl ?_;exact⟨rfl,HF.out⟩
     .obtain⟨ps',o8,Kb,uB,zh⟩:=TN.out.EE;have pB:=(zza.1 o8.blk).1;have hne:=o8.ne;have⟨N,hN⟩:=gb R.res.length;have ZI:N<=1048600:=by have:=HOL.out;omega
      have HL:=ah<|show rp<wr.heap.size/\rv.ownBlock≠some rp from ⟨pB,hne.2.1⟩;have HA:=ah (show bQ wr rp (.slice (some ⟨g,0,none⟩) n c) rv ov ps' (R.setAt i {x with parts:=x.parts.map (cN z v)})/\wr.ownsRow B0 174 2 rv N (lj R.res)/\(∀(W:nL) (v:Value) (xs:List Value),W.ownsRow B0 174 2 v (N+1) xs->W.ownsRow B0 174 2 v (R.res.length+1) xs)from ⟨o8,by rw[hN];exact o8.res,λW v xs hh=>by rw[<-hN];exact hh⟩);have o3:=af o8.blk 2;simp at o3;have Cx:=ah<|show fo (kb rp (.slice (some ⟨g,0,none⟩) n c) rv ov ps) (kb rp (.slice (some ⟨g,0,none⟩) n c) rv ov ps') w wr/\ps'[i]?=some ({x with parts:=x.parts.map (cN z v)},.slice (some ⟨pb,0,none⟩) k pc)/\ps'.length=n from ⟨uB,Kb,zh⟩;clear o8 Kb uB zh pB hne hN
      go_upto_region 19 with (at_builtin;refine fH rfl _ _ 117 rfl B0 174 r0 _ 2 16 underlying117 My rz0 rz1 rz2 rfl du rv N (lj R.res) rfl (HA.2.1.alloc _) 1 [.int .u64 (t:Int),.int .i64 5] (.inl ⟨⟨wr.heap.size,0,none⟩,1,rfl,fV _ #[.int .u64 (t:Int),.int .i64 5] _⟩) rfl (by intro u hu;simp at hu;obtain rfl|rfl:=hu<;>rfl) eE dp (by have:=HA.1.low;simp;omega) ?_;intro v2 w2 ik fT vw;obtain⟨o2,m2,k2,rfl⟩:=dN ik;have gI:Fr [] wr (wr.alloc<|.cells #[.int .u64 (t:Int),.int .i64 5] 174):=(fU wr).alloc _;have mB:Fr rv.ownBlock.toList wr w2:=(gI.mono dv).trans<|Fr.cA fT;have dy:=(mB.block rp HL.1<|by simp;exact HL.2).trans HA.1.blk;have t2:=af dy 2;have tf:=aq dy 2;have Wk:=ah (HA.1.TJ gI fT (t,5) (HA.2.2 _ _ _ ik)<|by simpa using vw);simp at t2;clear ik fT vw gI mB dy);have⟨W2,fj⟩:=gb <|w2.setCell ⟨rp,2,none⟩ (.slice o2 m2 k2);rw[<-fj]at Wk ⊢;have⟨R2,rJ⟩:=gb <|{R.setAt i {x with parts:=x.parts.map (cN z v)}with res:=(R.setAt i {x with parts:=x.parts.map (cN z v)}).res++[(t,5)]};have VM:=ah (show bQ W2 rp (.slice (some ⟨g,0,none⟩) n c) (.slice o2 m2 k2) ov ps' R2/\fo (kb rp (.slice (some ⟨g,0,none⟩) n c) rv ov ps) (kb rp (.slice (some ⟨g,0,none⟩) n c) (.slice o2 m2 k2) ov ps') w W2 from ⟨by rw[rJ];exact Wk.1,Cx.1.trans Wk.2.1⟩);have pM:=ah rJ;clear fj rJ Wk t2 tf HA HL o3 ZI
      cases b
      .have hdr:=yt rp i _ (.slice o2 m2 k2) ov ps' _ W2 VM.1 (by have:=Cx.2.2;omega) (by have:=Cx.2.2;omega);go_wp2_with fail;refine hdr.mono ?_;clear hdr;rintro e w5 ⟨rfl,⟨CP,kr,vJ⟩,iR⟩;have HF:=ah (show ∃S',gh w5 rp S' (R.jV i x z v t)/\fo (kb rp (.slice (some ⟨g,0,none⟩) n c) rv ov ps) S' w w5 from by
        refine⟨_,⟨_,_,_,_,?_,rfl⟩,VM.2.trans<|JG (i:=i) vJ iR⟩
        have e:R.jV i x z v t={R2 with ai:=R2.ai.take i++R2.ai.drop (i+1)}:=by
         unfold aP.jV;rw[<-HD3.out];simp only[Bool.true_eq_false,if_false];have e0:(x.parts.map<|cN z v).any rQ=false:=by have:=HA3.out;simpa using this
         rw[mE h3,e0,<-DI.out,pM.out];unfold aP.setAt;simp only[Bool.false_eq_true,if_false,if_true];rw[set_drop]
        rw[e]
        exact kr)
       clear kr vJ iR;go_wp2
       (try simp only[Exit.inBlock,Exit.then])
       refine zA (xw rfl _ _ _) rfl ?_;exact⟨rfl,HF.out⟩
      .have EW:=VM.1;obtain⟨Y6,h6k⟩:=EW.LI (j:=1) (x':=⟨x.id,6,x.gH,x.parts.map<|cN z v,x.aS⟩) (u:=.int .i64 6) (by rw[Cx.2.2]) Cx.2.1 du rfl rfl;have d0:=af EW.blk 0;simp at d0;have⟨gcc,SX⟩:=aL EW.kF (g:=g) rfl;have gf:=aq SX<|i*5+1;have⟨ao9,c9,e9,H9⟩:=EW.slice;have⟨g9,e99,y0,y1,y2,y3,y4⟩:=H9 i _ Cx.2.1
       have eg:g=g9:=by
        rw[e99]at e9;simp only[Bx,Option.some.injEq,Addr.mk.injEq,and_true]at e9;exact e9.1
       subst eg;have⟨W3,qC⟩:=gb <|W2.setCell ⟨g,i*5+1,none⟩ (.int .i64 6);rw[<-qC]at Y6 h6k;have⟨R3,C'⟩:=gb <|{R2 with ai:=R2.ai.set i ⟨x.id,6,x.gH,x.parts.map<|cN z v,x.aS⟩};rw[<-C']at Y6;have⟨Q,hQ⟩:=gb <|x.parts.map (cN z v);have hQl:Q.length=k:=by rw[hQ,zzn];exact HX.2.1
       have YS:Hid (uJ W3 W3 rp i g n c pb k pc (.slice o2 m2 k2) ov ov (ps'.set i (⟨x.id,6,x.gH,Q,x.aS⟩,.slice (some ⟨pb,0,none⟩) k pc)) R3 ⟨x.id,6,x.gH,Q,x.aS⟩):=⟨⟨_,by rw[hQ];exact Y6,by rw[List.getElem?_set_self (zzd.1 Cx.2.1).1],⟨Fr.refl _ _,λ_ hk _=>hk⟩,by rw[List.length_set];exact Cx.2.2⟩,hQl⟩;have HKB:=ah (show fo (kb rp (.slice (some ⟨g,0,none⟩) n c) rv ov ps) (kb rp (.slice (some ⟨g,0,none⟩) n c) (.slice o2 m2 k2) ov<|ps'.set i (⟨x.id,6,x.gH,Q,x.aS⟩,.slice (some ⟨pb,0,none⟩) k pc)) w W3 from by rw[hQ];exact VM.2.trans h6k)
       have BV:=ah (show R.jV i x z v t={R3 with ai:=R3.ai.set i ⟨x.id,6,x.gH,Q.map gm,x.aS⟩,out:=R.out++eB uy t 5 Q} by
        unfold aP.jV;rw[<-HD3.out];simp only[Bool.true_eq_false,if_false];have e0:(x.parts.map<|cN z v).any rQ=false:=by simpa using HA3.out
        rw[mE h3,e0,<-DI.out,C',pM.out,hQ];unfold aP.setAt;simp)
       have HRO:Hid (R3.out=R.out):=by rw[C',pM.out];rfl
       have HSA:Hid (R3.ai[i]?=some ⟨x.id,6,x.gH,Q,x.aS⟩):=by
        have⟨psx,oW,iY,_⟩:=YS.out.EE;exact oW.back iY
       have HQL:=ah hQl;clear Y6 h6k EW SX H9 e9 hQ C' hQl y0 y2 y3 y4 VM Cx pM TN HA3 DI HD3;go_upto_region 23 with fail;rw[<-qC];clear qC d0 gf y1;generalize ps'.set i (⟨x.id,6,x.gH,Q,x.aS⟩,.slice (some ⟨pb,0,none⟩) k pc)=lA at YS HKB;have⟨X,hX⟩:∃X:Nat,X=x.id:=⟨_,rfl⟩;have⟨G,hG⟩:∃G:Nat,G=x.gH:=⟨_,rfl⟩;have⟨Y,hY⟩:∃Y:Bool,Y=x.aS:=⟨_,rfl⟩;rw[<-hX,<-hG,<-hY]at YS BV HSA;clear hX hG hY;have HKL:Hid (uJ W3 W3 rp i g n c pb k pc (.slice o2 m2 k2) ov ov lA {R3 with ai:=R3.ai.set i ⟨X,6,G,upTo gm Q 0,Y⟩,out:=R.out++eB uy t 5 (Q.take 0)} ⟨X,6,G,upTo gm Q 0,Y⟩):=YS.out.cast (by rw[lu];rw[f_ HSA.out];simp[eB,<-HRO.out]) (by rw[lu]);clear YS;go_loopw [14] (λj wr=>∃(q:Nat) (iT:Value),q<=k/\j=.int .i64 q/\Hid (uJ W3 wr rp i g n c pb k pc (.slice o2 m2 k2) ov iT lA {R3 with ai:=R3.ai.set i ⟨X,6,G,upTo gm Q q,Y⟩,out:=R.out++eB uy t 5 (Q.take q)} ⟨X,6,G,upTo gm Q q,Y⟩)) (λj _=>k-(intOf j).toNat);.exact⟨0,ov,zzs _,rfl,HKL⟩
       case round=>
        obtain⟨q,iJ,hq,rfl,HK⟩:=hrel;have⟨a0,a1,a2,a3,a4,eH,HC⟩:=HK.out.cells;clear a2 a3;by_cases bW:q<k
        .obtain⟨p,hp⟩:∃p,Q[q]?=some p:=⟨_,zzg<|by rw[HQL.out];exact bW⟩;have⟨b0,b1,b2⟩:=HC q p<|kZ _ hp;have⟨f0,_,_⟩:=HK.out.free;have g2:=f0<|q*3+2;have AV:=HK.out.ne;have ne1:¬pb=rp:=AV.1;have ne2:¬pb=g:=AV.2.1;have k0:(0:Int)<=q:=dp
         have k1:(q:Int)<k:=dp;have HNE:=ah AV;clear HC f0 AV;have⟨vo,rX⟩:=gb p.aZ;have⟨sh,pJ⟩:=gb p.cH;rw[<-rX]at b1;rw[<-pJ]at b0;by_cases h2:vo=2
         .have nH:Hid (uJ W3 (wr.setCell ⟨pb,q*3+2,none⟩<|.bool true) rp i g n c pb k pc (.slice o2 m2 k2) ov iJ lA {R3 with ai:=R3.ai.set i ⟨X,6,G,upTo gm Q<|q+1,Y⟩,out:=R.out++eB uy t 5 (Q.take q)} ⟨X,6,G,upTo gm Q<|q+1,Y⟩):=by
           have qM:gm p={p with left:=true}:=by unfold gm;rw[oo dp]
           have h1:=HK.out.TS (kx:=q) (j:=2) (l:=p) (l':=gm p) (u:=.bool true) (kZ _ hp) du (by rw[qM];rfl);exact h1.cast (by rw[iU _ hp];simp[aK.pt])<|by rw[iU _ hp]
          have HSH:Hid ((wr.setCell ⟨pb,q*3+2,none⟩<|.bool true).cell? ⟨pb,q*3,none⟩=some (.int .i64 (sh:Int))):=by
           have h1:=(nH.out.cells.2.2.2.2.2.2 q (gm p)<|by rw[iU _ hp];exact List.getElem?_set_self<|by rw[Vz];exact(zzd.1 hp).1).1;rw[tv,<-pJ]at h1;exact h1
          have HTP:=ah (show eB uy t 5 (Q.take (q+1))=eB uy t 5 (Q.take q)++[(t,sh,5)] by
           unfold eB;rw[vV,hp];simp[uy,<-rX,h2,pJ])
          clear hp rX pJ;subst h2;have⟨W4,nt⟩:=gb <|wr.setCell ⟨pb,q*3+2,none⟩ (.bool true);rw[<-nt]at nH HSH;have⟨Y1,kr,IK,Dr,Kh⟩:=nH.out.EE;have pB:=(zza.1 kr.blk).1;have AV:=nH.out.ne;have dM:=nH.out.cells;have hne:=kr.ne;have⟨OL,xS⟩:=gb <|R.out++eB uy t 5 (Q.take q);have⟨N,hN⟩:=gb OL.length;have ZI:N<=1048600:=by
           have h1:=qw uy t 5<|Q.take q;have h2:=HOL.out;rw[zzm,HQL.out]at h1;rw[hN,xS,zzi];omega
          have Gk:=kr.prt _<|zzh IK;have HL:=ah (show rp<W4.heap.size/\g<W4.heap.size/\pb<W4.heap.size/\iJ.ownBlock≠some rp/\iJ.ownBlock≠some g/\iJ.ownBlock≠some pb/\g≠rp/\pb≠rp from ⟨pB,AV.2.2.2.2.1,AV.2.2.2.1,hne.2.2.1,λe=>cP kr.out kr.kF du e rfl,λe=>cP kr.out Gk du e rfl,AV.2.2.1,AV.1⟩);have HA:=ah (show bQ W4 rp (.slice (some ⟨g,0,none⟩) n c) (.slice o2 m2 k2) iJ Y1 {R3 with ai:=R3.ai.set i ⟨X,6,G,upTo gm Q<|q+1,Y⟩,out:=OL}/\W4.ownsRow B0 170 3 iJ N (jv OL)/\(∀(W:nL) (v:Value) (xs:List Value),W.ownsRow B0 170 3 v (N+1) xs->W.ownsRow B0 170 3 v (OL.length+1) xs)from ⟨by rw[xS];exact kr,by rw[hN,xS];exact kr.out,λW v xs hh=>by rw[<-hN];exact hh⟩);have sK:=ah (show ∀W':nL,W'.cell? ⟨rp,0,none⟩=some (.slice (some ⟨g,0,none⟩) n c)->W'.heap[g]?=W4.heap[g]?->W'.heap[pb]?=W4.heap[pb]?->W'.cell? ⟨rp,0,none⟩=some (.slice (some ⟨g,0,none⟩) n c)/\W'.cell? ⟨g,i*5+3,none⟩=some (.slice (some ⟨pb,0,none⟩) k pc)/\W'.cell? ⟨pb,q*3,none⟩=some (.int .i64 (sh:Int))from λW' h0 h1 h2=>⟨h0,(zze (a:=⟨g,i*5+3,none⟩) h1).trans dM.2.2.2.2.1,(zze (a:=⟨pb,q*3,none⟩) h2).trans HSH.out⟩);have HCO:Hid (W4.cell? ⟨rp,0,none⟩=some (.slice (some ⟨g,0,none⟩) n c)):=dM.1;have Fk:∀o,(W4.drew.alloc o).heap[g]?=W4.heap[g]?:=λo=>zzf W4.drew o g AV.2.2.2.2.1
          have o6:∀o,(W4.drew.alloc o).heap[pb]?=W4.heap[pb]?:=λo=>zzf W4.drew o pb AV.2.2.2.1
          have al2:∀o,(W4.drew.alloc o).cell? ⟨rp,0,none⟩=some (.slice (some ⟨g,0,none⟩) n c):=λo=>(sR _ _ _ pB).trans dM.1
          have LG:∀o,(W4.drew.alloc o).cell? ⟨rp,3,none⟩=some iJ:=λo=>(sR _ _ _ pB).trans dM.2.1
          have al4:∀o,(W4.alloc o).cell? ⟨rp,3,none⟩=some iJ:=λo=>(sR _ _ _ pB).trans dM.2.1
          have o3:=dM.2.1;have HZ:=ah (show ∀W' iT,bQ W' rp (.slice (some ⟨g,0,none⟩) n c) (.slice o2 m2 k2) iT Y1 {R3 with ai:=R3.ai.set i ⟨X,6,G,upTo gm Q<|q+1,Y⟩,out:=OL++[(t,sh,5)]}->fo (kb rp (.slice (some ⟨g,0,none⟩) n c) (.slice o2 m2 k2) iJ Y1) (kb rp (.slice (some ⟨g,0,none⟩) n c) (.slice o2 m2 k2) iT Y1) W4 W'->uJ W3 W' rp i g n c pb k pc (.slice o2 m2 k2) ov iT lA {R3 with ai:=R3.ai.set i ⟨X,6,G,upTo gm Q<|q+1,Y⟩,out:=R.out++eB uy t 5 (Q.take<|q+1)} ⟨X,6,G,upTo gm Q<|q+1,Y⟩from λW' iT h1 h2=>⟨⟨Y1,by rw[HTP.out,<-zzx,<-xS];exact h1,IK,Dr.trans h2,Kh⟩,nH.out.len⟩);clear kr IK Dr Kh pB AV dM hne xS hN Gk nH
          go_upto_region 27 with fail;rw[<-nt];clear nt a0 a1 a4 b0 b1 b2 g2 HK ne1 ne2;refine eX (S:=(λw'=>w'.cell? ⟨rp,3,none⟩=some iJ/\w'.cell? ⟨rp,0,none⟩=some (.slice (some ⟨g,0,none⟩) n c)/\w'.cell? ⟨g,i*5+3,none⟩=some (.slice (some ⟨pb,0,none⟩) k pc)/\w'.cell? ⟨pb,q*3,none⟩=some (.int .i64 (sh:Int)))) (z:=23) eu rfl eu ⟨by first|assumption|exact dM.2.1,sK.out _ HCO.out rfl rfl⟩ λhHeld=>?_;refine b_ 0 ?_;refine b_ 1 ?_;refine b_ 2 ?_;refine b_ 3 ?_;refine b_ 4 ?_;refine b_ 5 ?_;refine b_ 6 ?_;refine b_ 7 ?_;refine b_ 8 ?_;refine b_ 9 ?_;refine b_ 10 ?_;refine b_ 11 ?_;refine b_ 12 ?_;refine b_ 13 ?_;refine b_ 14 ?_;refine b_ 15 ?_;refine b_ 16 ?_;refine b_ 17 ?_;refine b_ 18 ?_
          (try simp only[Act.put,mA,hU,mI])
          refine um (rs:=[19]) eu dv<|yg (λK hK=>?_) ua;go_simp;refine hK.out _ _ ⟨LG _,sK.out _ (al2 _) (Fk _)<|o6 _⟩ λhHeld=>?_;clear hK K
          (try simp only[Act.put,mA,hU,mI])
          refine um (rs:=[20]) eu dv<|yg (λK hK=>?_) ua;rw[oo<|by rfl];refine nr _ _ rfl B0 iJ N (jv OL) t (sh:Int) 5 W4.heap.size rfl (ar HA.2.1 ((fU W4).drew.alloc _) dv) rfl (oz _ _) dp (by have:=HA.1.low;simp;omega) ?_;intro v' w1 bF bK dX;obtain⟨av,mv,cv,rfl⟩:=dN bF;have gI:Fr [] W4 (W4.drew.alloc<|.cells #[.int .u64 (t:Int),.int .i64 (sh:Int),.int .i64 5] 170):=(fU W4).drew.alloc _;have mB:Fr iJ.ownBlock.toList W4 w1:=(gI.mono dv).trans<|Fr.cA bK;have dB:=(mB.block rp HL.1<|by simp;exact HL.2.2.2.1).trans HA.1.blk;have g0:=mB.block g HL.2.1 (by simp;exact HL.2.2.2.2.1);have g1:=mB.block pb HL.2.2.1 (by simp;exact HL.2.2.2.2.2.1);have d0:=af dB 0;have d3:=af dB 3;have f3:=aq dB 3;simp at d3 d0;have HX:=ah (HA.1.yu gI bK (t,sh,5) (HA.2.2 _ _ _ bF)<|by simpa using dX);have GC:=ah λu=>(wg w1 ⟨rp,3,none⟩ u g HL.2.2.2.2.2.2.1).trans g0;have Rq:=ah λu=>(wg w1 ⟨rp,3,none⟩ u pb HL.2.2.2.2.2.2.2).trans g1;have HE2:Hid (∀u,(w1.setCell ⟨rp,3,none⟩ u).cell? ⟨rp,0,none⟩=some (.slice (some ⟨g,0,none⟩) n c)):=λu=>by have h9:=af (aF dB 3 u) 0;simpa using h9
          clear bF bK dX gI mB dB;refine hK.out _ _ ⟨d3,sK.out _ d0 g0 g1⟩ λhHeld=>?_;clear hK K
          (try simp only[Act.put,mA,hU,mI])
          refine b_ 21 ?_;refine b_ 22 ?_
          (try simp only[Act.put,mA,hU,mI])
          refine Cj eu ?_ _;refine lV rfl rfl ?_;go_simp;have HY:=ah<|HZ.out _ _ HX.1 HX.2.1;go_wp2
          go_roundw
          case rel=>exact⟨q+1,_,dp,eR,HY⟩
          case measure=>simp[intOf];omega
         .have n2:¬(vo:Int)=2:=dp;have bn2:((vo:Int)==2)=false:=oT.2 n2
          have nH:Hid (uJ W3 wr rp i g n c pb k pc (.slice o2 m2 k2) ov iJ lA {R3 with ai:=R3.ai.set i ⟨X,6,G,upTo gm Q<|q+1,Y⟩,out:=R.out++eB uy t 5 (Q.take<|q+1)} ⟨X,6,G,upTo gm Q<|q+1,Y⟩):=by
           have qM:gm p=p:=by unfold gm;rw[mE dp]
           have e:upTo gm Q (q+1)=upTo gm Q q:=by rw[iU _ hp,qM];exact f_<|kZ _ hp
           have e2:eB uy t 5 (Q.take<|q+1)=eB uy t 5 (Q.take q):=by
            unfold eB;rw[vV,hp];have:uy p=false:=by unfold uy;simp;omega
            simp[this]
           exact HK.out.cast (by rw[e,e2])<|by rw[e]
          clear hp rX pJ;go_wp2
          go_roundw
          case rel=>exact⟨q+1,iJ,dp,eR,nH⟩
          case measure=>simp[intOf];omega
        .obtain rfl:q=k:=dp;have kP:upTo gm Q q=Q.map gm:=xL _ (by rw[HQL.out];exact zzc _);have tY:Q.take q=Q:=zzt<|by rw[HQL.out];exact zzc _
         have HF:=ah (show ∃S',gh wr rp S' (R.jV i x z v t)/\fo (kb rp (.slice (some ⟨g,0,none⟩) n c) rv ov ps) S' w wr from by
          have⟨Y1,kr,IK,Dr,_⟩:=HK.out.EE;refine⟨_,⟨_,_,_,_,?_,rfl⟩,HKB.out.trans Dr⟩;rw[BV.out,<-kP];rw[tY]at kr;exact kr)
         clear HC kP tY;go_wp2;go_end0;exact⟨rfl,HF.out⟩
end
end Go.Proofs.YtlgeloebpdmnnaaGreatDoor
