import Derived.Test.YtlgeloebpdmnnaaGreatDoorC36
set_option maxHeartbeats 4000000
set_option maxRecDepth 100000
namespace Go.Proofs.YtlgeloebpdmnnaaGreatDoor
open Go.RowKit Go.Maps Tryz Sc
section
open Go.Shelf
variable{w:nL}
def yV [Inhabited Bs](w:nL)(o:Option Addr)(zs:List Int):Prop:=∀(k:Nat) (z:Int),zs[k]?=some z->XV z/\∃g f,o=some (hP g f)/\g<B0/\w.cell? (hP g (f+k))=some (.int .i64 z)
theorem yV.below [Inhabited Bs]{w':nL}{o:Option Addr}{zs:List Int}(h:yV w o zs)(hb:Below B0 w w'):yV w' o zs:=λk z i=>by
 have⟨c,g,f,e,b,d⟩:=h k z i;exact⟨c,g,f,e,b,(zze<|hb.block g b).trans d⟩
theorem MD [Inhabited Bs](D t:Nat)(I:Option Addr)(a1:Nat)(zs:List Int)(W T S:Value)(ps:List<|aK×Value)(R:aP)(w:nL)(h:bQ w D W T S ps R)(hn:R.ai.length<=1048576)(hlen:zs.length<=1048576)(a:yV w I zs)(n:R.gD t zs≠0):
  Calls prog 75 #[gx D,.int .u64 (t:Int),.slice I zs.length a1] w λe w'=>e=.returned (.int .i64 (R.gD t zs:Int))/\∃q,w'=w.drewN q:=by
 have G:=h.len;have hf:=gT D t W T S ps R w h dp;have J:=af h.blk 0;simp at J;have⟨ax,c,p,H⟩:=h.slice;rw[p]at J;cases U:eW R.ai t with
 |none=>
  have f:=i_ U;rw[U]at hf;have b:CN none=-1:=rfl;rw[b]at hf;have E:R.gD t zs=7:=by unfold aP.gD;rw[f]
  rw[E];clear h H U f b E p G n a
  go_enter func75,ntmps75
  go_wp2_with fail;refine hf.mono ?_;clear hf;rintro e F ⟨rfl,q,rfl⟩;go_wp2;go_ret;exact⟨rfl,_,rfl⟩
 |some i=>
  have⟨x,hx,O,f⟩:=fO U;have⟨v,o⟩:=h.at hx;obtain⟨g,rfl,x0,V,x2,x3,x4⟩:=H i _ o;have Aq:=(zzd.1 o).1;rw[U]at hf;have b:CN (some i)=(i:Int):=rfl;rw[b]at hf;have i0:¬(i:Int)<0:=dp;have i1:(0:Int)<=i:=dp;have i2:(i:Int)<(ps.length:Int):=dp;have⟨st,l⟩:∃st,st=x.st:=⟨_,rfl⟩;simp only at V;rw[<-l]at V;have E:R.gD t zs=if st=4 then (if jL 0 zs then 0 else 6)else 4:=by unfold aP.gD;rw[f,l]
  by_cases s:st=4
  .rw[oo s]at E;have B:jL 0 zs=false:=by
    cases hb:jL 0 zs with
    |false=>rfl
    |true=>rw[hb]at E;exact absurd E n
   rw[B]at E;rw[E];subst s;have Z:=ah a;have Y:=ah B;have⟨m,A⟩:=gb zs.length;rw[<-A]at hlen ⊢;have M:Hid (zs.length=m):=A.symm;clear h H U f hx O o b l E p G n a A B;by_cases h0:m=0
   .subst h0;go_enter func75,ntmps75;go_wp2_with fail;apply hf.mono;clear hf;rintro e F ⟨rfl,q,rfl⟩;go_wp2;go_ret;exact⟨rfl,_,rfl⟩
   .have m0:¬(m:Int)=0:=dp;have a':=oT.2 m0;go_enter func75,ntmps75;go_wp2_with fail;apply hf.mono;clear hf;rintro e F ⟨rfl,q,rfl⟩;go_wp2;go_loopw [8] (λj wr=>∃k:Nat,k<=m/\j=.int .i64 k/\Hid (yT zs k)/\∃q,wr=w.drewN q) (λj _=>m-(intOf j).toNat)
    case atStart=>exact⟨0,zzs _,rfl,JI zs,_,rfl⟩
    case round=>
     obtain⟨k,hk,rfl,r,q,rfl⟩:=hrel;by_cases bW:k<m
     .obtain⟨z,a⟩:∃z,zs[k]?=some z:=⟨_,zzg<|by rw[M.out];exact bW⟩;obtain⟨ae,gz,ag,rfl,ab,y0⟩:=Z.out k z a;have k0:(0:Int)<=k:=dp
      have k1:(k:Int)<m:=dp;have a7:=ah a;by_cases L:z<1
      .clear a;have d1:=zI L;go_wp2;go_quiet (fail)
       go_wp2;go_ret;exact⟨rfl,_,rfl⟩
      have d1:=zY L;by_cases N:8<z
      .clear a;have d8:=zI N;go_wp2;go_quiet (fail)
       go_wp2;go_ret;exact⟨rfl,_,rfl⟩
      have d8:=zY N;by_cases X:k=0
      .subst X;rw[Nat.add_zero]at y0;have C:=ah (zJ r.out a dp dp λy d=>dp);clear a;go_wp2;go_quiet (fail)
       go_wp2;go_roundw;.exact⟨1,dp,eR,C,_,rfl⟩
       case measure=>simp[intOf];omega
      .obtain⟨j,rfl⟩:∃j,k=j+1:=⟨k-1,dp⟩;have⟨y,d⟩:∃y,zs[j]?=some y:=⟨_,zzg<|by rw[M.out];omega⟩;have⟨ad,gy,a8,K,_,y1⟩:=Z.out j y d;simp only[Option.some.injEq,Addr.mk.injEq,and_true]at K;obtain⟨rfl,rfl⟩:=K;have kp:(0:Int)<((j+1:Nat):Int):=dp
       have ks:(((j+1:Nat):Int)-1)=(j:Int):=dp;have kw:IntKind.i64.wrap (j:Int)=j:=eD;have dk:=zI dp;have j0:(0:Int)<=j:=dp
       have j1:(j:Int)<m:=dp;by_cases Q:z<=y
       .have dz:decide (z<=y)=true:=zI Q;clear a d;go_wp2;go_quiet (fail)
        go_wp2;go_ret;exact⟨rfl,_,rfl⟩
       .have C:=ah (zJ r.out a dp dp λu _ P=>by rw[show j+1-1=j by omega,d]at P;cases P;omega);have dz:=zY Q;clear a d;go_wp2;go_quiet (fail)
        go_wp2;go_roundw;.exact⟨j+1+1,dp,eR,C,_,rfl⟩
        case measure=>simp[intOf];omega
     .have hkm:k=m:=dp;exact absurd (VE (M.out.trans hkm.symm) r.out dp)<|by rw[Y.out];simp
  .have n4:¬(st:Int)=4:=dp;have b4:=oT.2 n4;have aa:((st:Int) != 4)=true:=by unfold bne;rw[b4];rfl
   rw[mE s]at E;rw[E];clear h H U f hx O o b l E p G n a;go_enter func75,ntmps75;go_wp2_with fail;apply hf.mono;clear hf;rintro e F ⟨rfl,q,rfl⟩;go_wp2;go_ret;exact⟨rfl,_,rfl⟩
theorem QX{o:Oper}{a:Act}{K:Act->nL->Prop}{Q:Exit->Act->nL->Prop}(s x:Operand)
  (d:o.op=.call {callee:=.builtin .append,args:=#[s,x],argTypes:=#[121,121]})
  (base:Nat) (v:Value) (n:Nat) (xs:List Value) (y b:Nat) (e:a.eval s=v) (M:w.ownsRow base 162 3 v n xs) (hx:a.eval x=.slice (some<|gi b) 1 1)
  (hb:w.heap[b]?=some (.cells #[.int .i64 (y:Int),.int .i64 0,.bool false] 162 (0,0))) (hn:n<=4398046511103) (B:base<=w.heap.size)
  (h:∀c w',w'.ownsRow base 162 3 c (n+1) (xs++[.int .i64 (y:Int),.int .i64 0,.bool false])->w.grownBy w' v.ownBlock->(c.ownBlock=v.ownBlock\/c.ownBlock=some w.heap.size)->K (a.put o.dst c) w'):o.wp prog a w K Q:=by
 have⟨k,i,f,g,j⟩:=tO BG;have l:=af hb 0;have kn:=af hb 1;have iy:=af hb 2;simp at l kn iy;refine gV s x 121 d base 162 k _ 3 24 underlying121 i f g j rfl du v n xs e M (gi b) 1 1 [.int .i64 (y:Int),.int .i64 0,.bool false] hx rfl ?_ ?_ eE dp B ?_
 .intro jj u fK;match jj,fK with
  |0,fK=>simp at fK;subst fK;simpa [Addr.add]using l
  |1,fK=>simp at fK;subst fK;simpa [Addr.add]using kn
  |2,fK=>simp at fK;subst fK;simpa [Addr.add]using iy
 .intro u hu;simp at hu;obtain rfl|rfl|rfl:=hu<;>rfl
 .intro c w' qy EV ha';exact h c w' qy EV ha'
structure ME [Inhabited Bs](w wr:nL)(rp i g n c:Nat)(rv ov iT pv:Value)(ps:List (aK × Value))(R':aP)(y:aK):Prop where
 EE:∃ps',bQ wr rp (.slice (some (gi g)) n c) rv iT ps' R'/\ps'[i]?=some (y,pv)/\fo (kb rp (.slice (some (gi g)) n c) rv ov ps) (kb rp (.slice (some (gi g)) n c) rv iT ps') w wr/\ps'.length=n
section
variable [Inhabited Bs]{w wr:nL}{rp i g n c:Nat}{rv ov iT pv:Value}{ps:List (aK × Value)}{R':aP}{y:aK}
theorem ME.cells(h:ME w wr rp i g n c rv ov iT pv ps R' y):wr.cell? (gi rp)=some (.slice (some<|gi g) n c)/\wr.cell? (hP rp 3)=some iT/\wr.cell? (hP g<|i*5+1)=some (.int .i64 (y.st:Int))/\wr.cell? (hP g<|i*5+2)=some (.int .i64 (y.gH:Int))/\wr.cell? (hP g<|i*5+3)=some pv/\i<n/\g≠rp/\g<wr.heap.size/\rp<wr.heap.size/\(∀j,wr.frozen? (hP g j)=false):=by
 have⟨r,a,hp,_,m⟩:=h.EE;have b:=af a.blk 0;have c3:=af a.blk 3;simp at b c3;have⟨q,c',e,H⟩:=a.slice;have⟨l,d,s,x,o,p,t⟩:=H i _ hp;rw[d]at e;have k:g=l:=by grind
 subst k;have⟨c2,f⟩:=aL a.kF rfl;exact⟨b,c3,x,o,p,by rw[<-m];exact(zzd.1 hp).1,λe=>aQ a.kF a.blk du<|by rw[e];rfl,(a.kF.lt g rfl).2,(zza.1 a.blk).1,λj=>aq f j⟩
theorem ME.LI(h:ME w wr rp i g n c rv ov iT pv ps R' y){j:Nat}{u:Value}{y':aK}(d:j<5)(hf:nQ (y',pv)=(nQ (y,pv)).set j u)(l:y'.parts=y.parts):ME w (wr.setCell (hP g<|i*5+j) u) rp i g n c rv ov iT pv ps {R' with ai:=R'.ai.set i y'} y':=by
 have⟨p,H,hp,B,L⟩:=h.EE;obtain⟨a,b⟩:=H.LI (by rw[L]) hp d hf l;exact⟨_,a,by rw[List.getElem?_set_self (zzd.1 hp).1],B.trans b,by rw[List.length_set];exact L⟩
theorem ME.fr{a:nL}(h:ME w wr rp i g n c rv ov iT pv ps R' y)(hf:Fr [] wr a):ME w a rp i g n c rv ov iT pv ps R' y:=by
 have⟨p,H,hp,B,l⟩:=h.EE;exact⟨p,H.fr hf,hp,B.trans<|fo.of hf,l⟩
theorem ME.cast{R:aP}{a:aK}(h:ME w wr rp i g n c rv ov iT pv ps R' y)(e:R'=R)(b:y=a):ME w wr rp i g n c rv ov iT pv ps R a:=by grind
end
abbrev tC(z:Nat):aU:=⟨z,0,false⟩
theorem MF{xs:List Nat}{k x:Nat}(h:xs[k]?=some x):fc (xs.take<|k+1)=fc (xs.take k)++[tC x]:=by
 unfold fc;rw[vV,h];simp
theorem JP [Inhabited Bs](rp t i:Nat)(ao:Option Addr)(b7:Nat)(xs:List Nat)(hr:j_ xs)(S:List Nat)(R:aP)(x:aK)(w:nL)(h:gh w rp S R)(hn:R.ai.length<=1048576)(gU:eW R.ai t=some i)(hx:R.ai[i]?=some x)(h4:x.st=4)(Rh:x.parts=[])(s:yV w ao (xs.map λx:Nat=>(x:Int)))(D5:R.out.length<=1048000):
  Calls prog 75 #[gx rp,.int .u64 (t:Int),.slice ao xs.length b7] w λe w'=>e=.returned (.int .i64 0)/\∃S',gh w' rp S' (R.iu t xs)/\fo S S' w w':=by
 obtain⟨xv,rv,ov,ps,h,rfl⟩:=h;have eG:=h.len;have hf:=gT rp t xv rv ov ps R w h dp;have c0:=af h.blk 0;simp at c0;have⟨ax,c,mo,H⟩:=h.slice;rw[mo]at c0;have⟨v0,GN⟩:=h.at hx;obtain⟨g,rfl,x0,x1,x2,x3,x4⟩:=H i _ GN;have Aq:=(zzd.1 GN).1;rw[gU]at hf;have e1:CN (some i)=(i:Int):=rfl;rw[e1]at hf;have i0:¬(i:Int)<0:=dp
 have i1:(0:Int)<=i:=dp;have i2:(i:Int)<(ps.length:Int):=dp;simp only at x1;rw[h4]at x1;have⟨n,kC⟩:=gb ps.length;rw[<-kC]at c0 i2 Aq mo;have GM:Hid (ME w w rp i g n c rv ov ov v0 ps R x):=⟨ps,by rw[<-mo];exact h,GN,⟨Fr.refl _ _,λ_ hk _=>hk⟩,kC.symm⟩;have X:=ah<|show x.parts=[]/\R.ai[i]?=some x/\eW R.ai t=some i/\x.st=4 from ⟨Rh,hx,gU,h4⟩;have HR:=ah hr;have b8:=hr.len;have wU:0<xs.length:=zzE.2 hr.ne;have HZ:=ah (show ∀(k y:Nat),xs[k]?=some y->∃g r,ao=some ⟨g,r,none⟩/\g<B0/\w.cell? ⟨g,r+k,none⟩=some (.int .i64 (y:Int))from λk y M=>(s k (y:Int)<|by rw[zzy,M];rfl).2);have b0:=ah D5
 have C_:=ah (show B0<=w.heap.size/\∀q∈kb rp (.slice (some ⟨g,0,none⟩) n c) rv ov ps,B0<=q from ⟨h.low,λq hq=>by
  rw[<-mo]at hq;obtain rfl|e|e|e|⟨y,M,e⟩:=dC.1 hq
  .exact h.base
  .exact(h.kF.lt q e).1
  .exact(h.res.lt q e).1
  .exact(h.out.lt q e).1
  .exact((h.prt y M).lt q e).1⟩)
 have⟨m,hm⟩:=gb xs.length;rw[<-hm]at b8 wU ⊢;have T:Hid (xs.length=m):=hm.symm;have bf:n<=1048576:=dp;have m0:¬(m:Int)=0:=dp;have ba:((m:Int)==0)=false:=oT.2 m0;rw[mo];clear h H gU hx GN e1 mo eG kC hm x0 x2 x3 x4 h4 D5 hn s hr Rh;go_enter func75,ntmps75;go_wp2_with fail;refine hf.mono ?_;clear hf;rintro e f ⟨rfl,q,rfl⟩;go_wp2;go_loopw [8] (λj wr=>∃k:Nat,k<=m/\j=.int .i64 k/\Hid True/\∃q,wr=w.drewN q) (λj _=>m-(intOf j).toNat);case atStart=>exact⟨0,zzs _,rfl,trivial,_,rfl⟩
 case round=>
  obtain⟨k,hk,rfl,b6,q,rfl⟩:=hrel;by_cases bW:k<m
  .obtain⟨z,s⟩:∃z,xs[k]?=some z:=⟨_,zzg<|by rw[T.out];exact bW⟩;obtain⟨b,r,rfl,a7,y0⟩:=HZ.out k z s;have⟨r1,r8,an⟩:=HR.out.to s;have k0:(0:Int)<=k:=dp
   have k1:(k:Int)<m:=dp;have d1:decide ((z:Int)<1)=false:=zY dp;have d8:decide ((8:Int)<(z:Int))=false:=zY dp;by_cases D8:k=0
   .subst D8;rw[Nat.add_zero]at y0;clear s an r1 r8 a7;go_wp2
    go_quiet (fail)
    go_wp2;go_roundw;case rel=>exact⟨1,dp,eR,b6,_,rfl⟩
    case measure=>simp[intOf];omega
   .obtain⟨j,rfl⟩:∃j,k=j+1:=⟨k-1,dp⟩;have⟨y,M⟩:∃y,xs[j]?=some y:=⟨_,zzg<|by rw[T.out];omega⟩;have⟨gy,b9,ey,_,y1⟩:=HZ.out j y M;simp only[Option.some.injEq,Addr.mk.injEq,and_true]at ey;obtain⟨rfl,rfl⟩:=ey;have bg:=an y dp (by rw[show j+1-1=j by omega];exact M);have kp:(0:Int)<((j+1:Nat):Int):=dp
    have ks:(((j+1:Nat):Int)-1)=(j:Int):=dp;have kw:IntKind.i64.wrap (j:Int)=j:=eD;have dk:decide ((0:Int)<(j:Int)+1)=true:=zI dp;have j0:(0:Int)<=j:=dp
    have j1:(j:Int)<m:=dp;have dz:decide ((z:Int)<=(y:Int))=false:=zY dp;have b1:Hid True:=trivial;obtain⟨s1,s8,_⟩:=HR.out.to M;clear s M an a7;go_wp2
    go_quiet (fail)
    go_wp2;go_roundw;case rel=>exact⟨j+1+1,dp,eR,b1,_,rfl⟩
    case measure=>simp[intOf];omega
  .have IX:¬(k:Int)<m:=dp;have aX:Hid (ME w (w.drewN q) rp i g n c rv ov ov v0 ps {R with ai:=R.ai.set i<|x.pt<|fc<|xs.take 0,out:=R.out++(xs.take 0).map λy=>(t,y,1)} (x.pt<|fc<|xs.take 0)):=by
    refine(GM.out.fr<|(fU w).dE q).cast ?_ ?_
    .have e:x.pt (fc<|xs.take 0)=x:=by unfold aK.pt fc;rw[List.take_zero,List.map_nil,<-X.1]
     rw[e,f_ X.2.1];simp
    .unfold aK.pt fc;rw[List.take_zero,List.map_nil,<-X.1]
   clear GM;go_wp2;go_loopw [9] (λj wr=>∃(k:Nat) (pv iT:Value),k<=m/\j=.int .i64 k/\Hid (ME w wr rp i g n c rv ov iT pv ps {R with ai:=R.ai.set i<|x.pt<|fc<|xs.take k,out:=R.out++(xs.take k).map λy=>(t,y,1)} (x.pt<|fc<|xs.take k))) (λj _=>m-(intOf j).toNat);case atStart=>exact⟨0,v0,ov,zzs _,rfl,aX⟩
   case round=>
    obtain⟨k,pv,J,hk,rfl,HK⟩:=hrel;have⟨a0,a1,a2,a3,a4,eH,aA,nA,uO,a'⟩:=HK.out.cells;have gf:=a'<|i*5+3;by_cases bW:k<m
    .obtain⟨z,s⟩:∃z,xs[k]?=some z:=⟨_,zzg<|by rw[T.out];exact bW⟩;obtain⟨b,r,rfl,a7,y0⟩:=HZ.out k z s;have k0:(0:Int)<=k:=dp
     have k1:(k:Int)<m:=dp;have⟨Y1,A,U,Dr,Kh⟩:=HK.out.EE;have Q:=A.prt _<|zzh U
     have aW:wr.cell? ⟨b,r+k,none⟩=some (.int .i64 (z:Int)):=by
      have lD:wr.heap[b]?=w.heap[b]?:=Dr.fr.block b (zzl a7 C_.1) (λhm=>by have:=C_.2 b hm;omega);exact(zze (a:=⟨b,r+k,none⟩) lD).trans y0
     have⟨L,ab⟩:=gb <|fc (xs.take k);have⟨V,aa⟩:=gb L.length;have b':V<=8:=by rw[aa,ab];unfold fc;rw[zzn,zzm,T.out];omega
     have⟨O,xS⟩:=gb <|R.out++(xs.take k).map λy=>(t,y,1)
     have⟨N,hN⟩:=gb O.length;have ZI:N<=1048600:=by
      have h2:=b0.out;rw[hN,xS,zzi,zzn,zzm,T.out];omega
     rw[<-ab]at A U Q;rw[<-xS]at A;have b4:=A.low;have ag:b<wr.heap.size:=by omega
     have l:=ah (show rp<wr.heap.size/\b<wr.heap.size/\g<wr.heap.size/\pv.ownBlock≠some rp/\pv.ownBlock≠some b/\pv.ownBlock≠some g/\rp≠g/\b≠g from ⟨uO,ag,nA,aQ Q A.blk du,λe=>by have:=(Q.lt b e).1;omega,λe=>cP Q A.kF du e rfl,λe=>aA e.symm,by have:=(A.kF.lt g rfl).1;omega⟩);have F:=ah (show bQ wr rp (.slice (some ⟨g,0,none⟩) n c) rv J Y1 {R with ai:=R.ai.set i<|x.pt L,out:=O}/\wr.ownsRow B0 162 3 pv V (fP L)from ⟨A,by rw[aa];exact Q⟩);have I:=ah (show ∀p:nL,p.heap[rp]?=wr.heap[rp]?->p.heap[b]?=wr.heap[b]?->p.cell? ⟨rp,0,none⟩=some (.slice (some ⟨g,0,none⟩) n c)/\p.cell? ⟨b,r+k,none⟩=some (.int .i64 (z:Int))from λp h1 h2=>⟨(zze (a:=⟨rp,0,none⟩) h1).trans a0,(zze (a:=⟨b,r+k,none⟩) h2).trans aW⟩);have ad:Hid (wr.cell? ⟨g,i*5+3,none⟩=some pv/\wr.frozen? ⟨g,i*5+3,none⟩=false):=⟨a4,gf⟩;have Fk:∀o,(wr.drew.alloc o).heap[rp]?=wr.heap[rp]?:=λo=>zzf wr.drew o rp uO
     have o6:∀o,(wr.drew.alloc o).heap[b]?=wr.heap[b]?:=λo=>zzf wr.drew o b ag
     have LG:∀o,(wr.drew.alloc o).cell? ⟨g,i*5+3,none⟩=some pv:=λo=>(sR _ _ _ nA).trans a4
     have ay:∀o,(wr.alloc o).cell? ⟨g,i*5+3,none⟩=some pv:=λo=>(sR _ _ _ nA).trans a4
     have b2:=ah (show ∀(f:nL) (C:Value),Fr pv.ownBlock.toList wr f->f.ownsRow B0 162 3 C (V+1) (fP L++[.int .i64 (z:Int),.int .i64 0,.bool false])->(C.ownBlock=pv.ownBlock\/∃u,C.ownBlock=some u/\wr.heap.size<=u)->∃E,bQ (f.setCell ⟨g,i*5+3,none⟩ C) rp (.slice (some ⟨g,0,none⟩) n c) rv J E {R with ai:=R.ai.set i (x.pt (L++[tC z])),out:=O}/\E[i]?=some (x.pt (L++[tC z]),C)/\fo (kb rp (.slice (some ⟨g,0,none⟩) n c) rv ov ps) (kb rp (.slice (some ⟨g,0,none⟩) n c) rv J E) w (f.setCell ⟨g,i*5+3,none⟩ C)/\E.length=n from λf C kO eM fE=>by
      obtain⟨q1,q2⟩:=A.afs (x':=x.pt<|L++[tC z]) (v2:=C) (by rw[Kh]) U kO (by show f.ownsRow B0 _ 3 C (L++[tC z]).length (fP<|L++[tC z]);rw[zzi,PN,<-aa];exact eM) fE rfl;refine⟨_,?_,by rw[List.getElem?_set_self (zzd.1 U).1],Dr.trans q2,by rw[List.length_set];exact Kh⟩;have e:({R with ai:=R.ai.set i<|x.pt<|L++[tC z],out:=O}:aP)={({R with ai:=R.ai.set i<|x.pt L,out:=O}:aP)with ai:=({R with ai:=R.ai.set i<|x.pt L,out:=O}:aP).ai.set i (x.pt<|L++[tC z])}:=dv
      rw[e]
      exact q1)
     have VK:=ah (show fc (xs.take<|k+1)=L++[tC z]/\(R.out++(xs.take<|k+1).map λy=>(t,y,1))=O++[(t,z,1)]/\O.length=N from ⟨by rw[MF s,ab],by rw[xS,vV,s];simp,hN.symm⟩);have ae:=ah<|show b<B0 from a7;clear A U Dr Kh Q ab aa xS hN b4 ag s aW y0 a1 a2 a3 a' HK aA nA uO a7;go_wp2;refine eX (S:=(λw'=>w'.cell? ⟨g,i*5+3,none⟩=some pv/\w'.cell? ⟨rp,0,none⟩=some (.slice (some ⟨g,0,none⟩) n c)/\w'.cell? ⟨b,r+k,none⟩=some (.int .i64 (z:Int)))) (z:=22) eu rfl eu ⟨by first|assumption|exact dM.2.1,I.out _ rfl rfl⟩ λa8=>?_;refine b_ 0 ?_;refine b_ 1 ?_;refine b_ 2 ?_;refine b_ 3 ?_;refine b_ 4 ?_;refine b_ 5 ?_;refine b_ 6 ?_;refine b_ 7 ?_;refine b_ 8 ?_;refine b_ 9 ?_;refine b_ 10 ?_;refine b_ 11 ?_;refine b_ 12 ?_;refine b_ 13 ?_;refine b_ 14 ?_;refine b_ 15 ?_;refine b_ 16 ?_;refine b_ 17 ?_
     (try simp only[Act.put,mA,hU,mI])
     refine um (rs:=[18]) eu dv<|yg (λK B=>?_) ua;go_simp;refine B.out _ _ ⟨LG _,I.out _ (Fk _)<|o6 _⟩ λa8=>?_;clear B K
     (try simp only[Act.put,mA,hU,mI])
     refine um (rs:=[19]) eu dv<|yg (λK B=>?_) ua;rw[oo<|by rfl];refine QX _ _ rfl B0 pv V (fP L) z wr.heap.size rfl (ar F.2 ((fU wr).drew.alloc _) dv) rfl (oz _ _) dp (by have:=F.1.low;simp;omega) ?_;intro C f P Y dX;obtain⟨av,mv,cv,rfl⟩:=dN P;have gI:Fr [] wr (wr.drew.alloc<|.cells #[.int .i64 (z:Int),.int .i64 0,.bool false] 162):=(fU wr).drew.alloc _;have G:Fr pv.ownBlock.toList wr f:=(gI.mono dv).trans<|Fr.cA Y;have g0:=G.block rp l.1 (by simp;exact l.2.2.2.1);have Z:=G.block b l.2.1 (by simp;exact l.2.2.2.2.1);have gg:=G.block g l.2.2.1 (by simp;exact l.2.2.2.2.2.1);have d3:=(zze (a:=⟨g,i*5+3,none⟩) gg).trans ad.1;have f3:=(zzw (a:=⟨g,i*5+3,none⟩) gg).trans ad.2;have X:=ah (b2.out f (.slice av mv cv) G P<|dX.elim .inl λe=>.inr ⟨_,e,dv⟩);have GC:=ah λu=>(wg f ⟨g,i*5+3,none⟩ u rp l.2.2.2.2.2.2.1).trans g0;have Rq:=ah λu=>(wg f ⟨g,i*5+3,none⟩ u b l.2.2.2.2.2.2.2).trans Z;clear P Y dX gI G gg;refine B.out _ _ ⟨d3,I.out _ g0 Z⟩ λa8=>?_;clear B K
     (try simp only[Act.put,mA,hU,mI]);refine b_ 20 ?_;refine b_ 21 ?_;(try simp only[Act.put,mA,hU,mI]);refine Cj eu ?_ _;refine lV rfl rfl ?_;go_simp;have⟨E,D,aE,al,ZO⟩:=X.out;have⟨d,vg⟩:∃d,d=f.setCell ⟨g,i*5+3,none⟩ (.slice av mv cv):=⟨_,rfl⟩;have aI:d.cell? ⟨b,r+k,none⟩=some (.int .i64 (z:Int)):=by rw[vg];exact(I.out _ (GC.out _)<|Rq.out _).2
     rw[<-vg]at D al ⊢;clear X GC Rq I l F ad Fk o6 LG ay vg d3 f3 g0 Z a0 a4 gf;have pB:=(zza.1 D.blk).1;have b5:=D.low;have rO:b<d.heap.size:=by have:=ae.out;omega
     have l:=ah (show rp<d.heap.size/\b<d.heap.size/\J.ownBlock≠some rp/\J.ownBlock≠some b/\b≠rp from ⟨pB,rO,D.ne.2.2.1,λe=>by have:=(D.out.lt b e).1;have:=ae.out;omega,by have:=D.base;have:=ae.out;omega⟩);have F:=ah (show bQ d rp (.slice (some ⟨g,0,none⟩) n c) rv J E {R with ai:=R.ai.set i<|x.pt<|L++[tC z],out:=O}/\d.ownsRow B0 170 3 J N (jv O)/\(∀(W:nL) (v:Value) (xs:List Value),W.ownsRow B0 170 3 v (N+1) xs->W.ownsRow B0 170 3 v (O.length+1) xs)from ⟨D,by rw[<-VK.2.2];exact D.out,λW v xs hh=>by rw[VK.2.2];exact hh⟩);have I:=ah (show ∀p:nL,p.heap[b]?=d.heap[b]?->p.cell? ⟨b,r+k,none⟩=some (.int .i64 (z:Int))from λp h2=>(zze (a:=⟨b,r+k,none⟩) h2).trans aI);have o3:=af D.blk 3;simp at o3;have o6:∀o,(d.drew.alloc o).heap[b]?=d.heap[b]?:=λo=>zzf d.drew o b rO
     have LG:∀o,(d.drew.alloc o).cell? ⟨rp,3,none⟩=some J:=λo=>(sR _ _ _ pB).trans o3
     have ay:∀o,(d.alloc o).cell? ⟨rp,3,none⟩=some J:=λo=>(sR _ _ _ pB).trans o3
     have b3:=ah (show ∀p iT,bQ p rp (.slice (some ⟨g,0,none⟩) n c) rv iT E {R with ai:=R.ai.set i<|x.pt<|L++[tC z],out:=O++[(t,z,1)]}->fo (kb rp (.slice (some ⟨g,0,none⟩) n c) rv J E) (kb rp (.slice (some ⟨g,0,none⟩) n c) rv iT E) d p->ME w p rp i g n c rv ov iT (.slice av mv cv) ps {R with ai:=R.ai.set i<|x.pt<|fc<|xs.take<|k+1,out:=R.out++(xs.take<|k+1).map λy=>(t,y,1)} (x.pt<|fc<|xs.take<|k+1)from λp iT h1 h2=>⟨E,by rw[VK.1,VK.2.1];exact h1,by rw[VK.1];exact aE,al.trans h2,ZO⟩);clear D aE al ZO pB b5 rO aI;go_wp2;refine eX (S:=(λw'=>w'.cell? ⟨rp,3,none⟩=some J/\w'.cell? ⟨b,r+k,none⟩=some (.int .i64 (z:Int)))) (z:=15) eu rfl eu ⟨by first|assumption|exact dM.2.1,I.out _ rfl⟩ λa8=>?_;refine b_ 0 ?_;refine b_ 1 ?_;refine b_ 2 ?_;refine b_ 3 ?_;refine b_ 4 ?_;refine b_ 5 ?_;refine b_ 6 ?_;refine b_ 7 ?_;refine b_ 8 ?_;refine b_ 9 ?_;refine b_ 10 ?_
     (try simp only[Act.put,mA,hU,mI]);refine um (rs:=[11]) eu dv<|yg (λK B=>?_) ua;go_simp;refine B.out _ _ ⟨LG _,I.out _<|o6 _⟩ λa8=>?_;clear B K
     (try simp only[Act.put,mA,hU,mI]);refine um (rs:=[12]) eu dv<|yg (λK B=>?_) ua;rw[oo<|by rfl];refine nr _ _ rfl B0 J N (jv O) t (z:Int) 1 d.heap.size rfl (ar F.2.1 ((fU d).drew.alloc _) dv) rfl (oz _ _) dp (by have:=F.1.low;simp;omega) ?_;intro C f P Y dX;obtain⟨av,mv,cv,rfl⟩:=dN P;have gI:Fr [] d (d.drew.alloc<|.cells #[.int .u64 (t:Int),.int .i64 (z:Int),.int .i64 1] 170):=(fU d).drew.alloc _;have G:Fr J.ownBlock.toList d f:=(gI.mono dv).trans<|Fr.cA Y;have dB:=(G.block rp l.1<|by simp;exact l.2.2.1).trans F.1.blk;have Z:=G.block b l.2.1 (by simp;exact l.2.2.2.1);have d3:=af dB 3;have f3:=aq dB 3;simp at d3;have X:=ah (F.1.yu gI Y (t,z,1) (F.2.2 _ _ _ P)<|by simpa using dX);have Rq:=ah λu=>(wg f ⟨rp,3,none⟩ u b l.2.2.2.2).trans Z;clear P Y dX gI G dB;refine B.out _ _ ⟨d3,I.out _ Z⟩ λa8=>?_;clear B K
     (try simp only[Act.put,mA,hU,mI]);refine b_ 13 ?_;refine b_ 14 ?_;(try simp only[Act.put,mA,hU,mI]);refine Cj eu ?_ _;refine lV rfl rfl ?_;go_simp;have HY:=ah<|b3.out _ _ X.1 X.2.1;go_wp2
     go_roundw
     case rel=>exact⟨k+1,_,_,dp,eR,HY⟩
     case measure=>simp[intOf];omega
    .have Mr:¬(k:Int)<m:=dp;have tY:xs.take k=xs:=zzt (by rw[T.out];omega);have bb:=a'<|i*5+1;have bc:=a'<|i*5+2;have uL:=HK.out.LI (j:=1) (u:=.int .i64 5) (y':=⟨x.id,5,x.gH,fc<|xs.take k,x.aS⟩) (by decide) rfl rfl;have RY:=uL.LI (j:=2) (u:=.int .i64 0) (y':=⟨x.id,5,0,fc<|xs.take k,x.aS⟩) du rfl rfl
     have HF:=ah (show ∃S',gh ((wr.setCell ⟨g,i*5+1,none⟩ (.int .i64 5)).setCell ⟨g,i*5+2,none⟩ (.int .i64 0)) rp S' (R.iu t xs)/\fo (kb rp (.slice (some ⟨g,0,none⟩) n c) rv ov ps) S' w ((wr.setCell ⟨g,i*5+1,none⟩ (.int .i64 5)).setCell ⟨g,i*5+2,none⟩ (.int .i64 0))from by
      have⟨Y1,A,U,Dr,_⟩:=RY.EE;refine⟨_,⟨_,_,_,_,?_,rfl⟩,Dr⟩;have e:R.iu t xs={R with ai:=R.ai.set i ⟨x.id,5,0,fc<|xs.take k,x.aS⟩,out:=R.out++(xs.take k).map λy=>(t,y,1)}:=by
       unfold aP.iu;rw[X.2.2.1];show(match R.ai[i]? with|none=>R|some x=>_)=_;rw[X.2.1];show(if x.st=4 then _ else R)=_;rw[oo X.2.2.2,X.1,tY,List.nil_append]
      rw[e];simpa using A)
     clear uL RY tY;go_wp2;go_ret;exact⟨rfl,HF.out⟩
end
end Go.Proofs.YtlgeloebpdmnnaaGreatDoor
