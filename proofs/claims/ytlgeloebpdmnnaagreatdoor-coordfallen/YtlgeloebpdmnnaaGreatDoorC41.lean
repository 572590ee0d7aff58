import Derived.Test.YtlgeloebpdmnnaaGreatDoorC39
set_option maxHeartbeats 8000000
set_option maxRecDepth 100000
namespace Go.Proofs.YtlgeloebpdmnnaaGreatDoor
open Go.RowKit Go.Maps Tryz Sc
section
open Go.Shelf
theorem VS:(Tryz.prog.info? 34).map (λi=>(i.zero,i.size,i.bytes))=some (some<|.int .u64 0,1,8):=eu
def kz(l:List Nat):List Value:=l.map λt:Nat=>.int .u64 (t:Int)
theorem Y8{w:nL}{b:Nat}{v:Value}{l:List Nat}(h:w.ownsRow b 34 1 v l.length<|kz l):∃o c,v=.slice o l.length c/\∀k t:Nat,l[k]?=some t->∃g,o=some (gi g)/\w.cell? (hP g k)=some (.int .u64 (t:Int)):=by
 rcases h.2 with⟨e,a⟩|⟨g,p,r,e,rest⟩
 .grind
 .grind [fA,kz]
theorem Q5 [Inhabited Bs](r:Nat)(S:List Nat)(R:aP)(w:nL)(a':gh w r S R)(Dd:jE R.ai)(hn:R.ai.length<=12)(qI:∀x∈R.ai,x.parts.length<=8)(UU:∀x∈R.ai,x.st=5->x.gH<=1000)(D5:R.out.length<=1000000)(uO:R.res.length<=1000000):
  Calls prog 73 #[gx r] w λe w'=>e=.returned (.tuple #[])/\∃S',gh w' r S' R.tick/\fo S S' w w':=by
 have⟨u0,bO,bX,bY,bZ⟩:=tO VS;have c7:=ah a';have⟨xv,rv,ov,ps,a',hS⟩:=a';have HI:=ah a';have bu:=ah hS;clear hS;have⟨n,kC⟩:=gb ps.length;have HN:Hid (ps.length=n):=kC.symm;have c8:n<=12:=by rw[kC,a'.len];exact hn
 have⟨ids,QI⟩:=gb <|R.ai.map (·.id);have Aq:ids.length=n:=by rw[QI,zzn,kC,a'.len]
 have u_:ids.Nodup:=by
  rw[QI];unfold List.Nodup;rw[zv];exact Dd.imp λmZ=>dp
 have HB:=ah<|show jE R.ai/\(∀x∈R.ai,x.parts.length<=8)/\(∀x∈R.ai,x.st=5->x.gH<=1000)/\R.out.length<=1000000/\R.res.length<=1000000/\R.ai.length<=12 from ⟨Dd,qI,UU,D5,uO,hn⟩;have Y9:=ah<|show ids=R.ai.map (·.id)/\ids.length=n/\ids.Nodup from ⟨QI,Aq,u_⟩;clear a' kC Dd hn qI UU D5 uO QI Aq u_
 go_enter func73,ntmps73;go_wp2;go_loopw [2,3] (λiv j wr=>∃k:Nat,k<=n/\j=.int .i64 k/\Hid (wr.ownsRow w.heap.size 34 1 iv k (kz<|ids.take k)/\Fr [] w wr)) (λ_ j _=>n-(intOf j).toNat);case atStart=>exact⟨0,zzs _,rfl,by rw[List.take_zero];exact zzu _ _ _ _,fU w⟩
 case round=>
  obtain⟨k,hk,rfl,hr⟩:=hrel;have Cr:=HI.out.fr hr.2;have c0:=af Cr.blk 0;simp at c0;have⟨ao,c,e0,H⟩:=Cr.slice;rw[e0,HN.out]at c0;have⟨ia,im,F,ei⟩:=dN hr.1;subst ei;by_cases bW:k<n
  .obtain⟨p,hp⟩:∃p,ps[k]?=some p:=⟨_,zzg<|by rw[HN.out];exact bW⟩;obtain⟨g,rfl,x0,x1,x2,x3,x4⟩:=H k p hp;have b':ids[k]?=some p.1.id:=by rw[Y9.1,zzy,HI.out.back hp];rfl
   have⟨t,ht⟩:=gb p.1.id;rw[<-ht]at x0 b';have k0:(0:Int)<=k:=dp;have k1:(k:Int)<n:=dp;have HP:=ah (show kz (ids.take<|k+1)=kz (ids.take k)++[.int .u64 (t:Int)] by unfold kz;rw[vV,b'];simp);clear H hp b' ht x1 x2 x3 x4 Cr;go_wp2_with (at_builtin;refine fH rfl _ _ 49 rfl w.heap.size 34 u0 _ 1 8 underlying49 bO bX bY bZ rfl du _ k (kz<|ids.take k) rfl (hr.1.alloc _) 1 [.int .u64 (t:Int)] (.inl ⟨⟨wr.heap.size,0,none⟩,1,rfl,fV _ #[.int .u64 (t:Int)] _⟩) rfl (by intro u hu;simp at hu;subst hu;rfl) eE dp (by have:=hr.2.size;simp;omega) ?_;intro v5 w5 vt rO bN)
   have bt:Hid (w5.ownsRow w.heap.size 34 1 v5 (k+1) (kz<|ids.take<|k+1)/\Fr [] w w5):=⟨by rw[HP.out];exact vt,Fr.od (hr.2.alloc _) (λq hq=>(hr.1.lt q hq).1) rO⟩;clear vt rO bN
   go_roundw;case rel=>exact⟨k+1,dp,eR,bt⟩
   case measure=>simp[intOf];omega
  .have CZ:k=n:=dp;have tY:ids.take k=ids:=zzt (by rw[Y9.2.1];omega);have aW:=hr.1;rw[tY,CZ]at aW;have bl:im=n:=by
    rcases aW.2 with⟨e,h0⟩|⟨_,_,_,e,_⟩
    .simp only[Bx]at e;omega
    .simp only[Bx]at e;exact e.2.1
   rw[bl]at aW ⊢;have H0:Hid (∃K,gh wr r K ((ids.take 0).foldl aP.aR R)/\fo S K w wr/\wr.ownsRow w.heap.size 34 1 (.slice ia n F) n (kz ids)):=⟨S,⟨xv,rv,ov,ps,Cr,bu.out⟩,fo.of hr.2,aW⟩;have IX:¬(k:Int)<n:=dp;clear H aW Cr hr tY CZ bl;go_wp2;clear c0 bW IX hk;go_loopw [4] (λj wr=>∃k:Nat,k<=n/\j=.int .i64 k/\Hid (∃K,gh wr r K ((ids.take k).foldl aP.aR R)/\fo S K w wr/\wr.ownsRow w.heap.size 34 1 (.slice ia n F) n (kz ids))) (λj _=>n-(intOf j).toNat)
   case atStart=>exact⟨0,zzs _,rfl,H0⟩
   case round=>
    obtain⟨k,hk,rfl,hr⟩:=hrel;by_cases bW:k<n
    .obtain⟨t,ht⟩:∃t,ids[k]?=some t:=⟨_,zzg<|by rw[Y9.2.1];exact bW⟩;have⟨K,IJ,Y_,jU⟩:=hr.out;obtain⟨bR,bT,bg,ZR⟩:=Y8 (l:=ids) (by rw[Y9.2.1];exact jU);obtain⟨I,ea,z0⟩:=ZR k t ht;obtain⟨rfl,dM,rfl⟩:ia=bR/\n=ids.length/\F=bT:=by simpa using bg
     clear dM;subst ea;have⟨B,hR⟩:=gb <|(ids.take k).foldl aP.aR R;rw[<-hR]at IJ;have EK:=JU (ids.take k) R HB.1 HB.2.1;have bc:=EF (ids.take k) R HB.2.1;rw[<-hR]at EK bc;have CV:=ML Y9.2.2 ht;have⟨x,b0⟩:∃x,aO B.ai t=some x:=by
      rw[EK.2.1 t CV];have hm:=zzh ht;rw[Y9.1]at hm;obtain⟨x,hx,rfl⟩:=zzq.1 hm;exact⟨x,HB.1.at hx⟩
     have⟨i,gU,TF,bx⟩:=fg b0;have bf:x.st=5->x.gH<=1000:=by
      rw[EK.2.1 t CV]at b0;exact HB.2.2.1 x (bh b0).1
     have bp:x.parts.length<=8:=EK.2.2.2 x<|zzh TF;have wh:(ids.take k).length<=12:=by rw[zzm,Y9.2.1];omega
     have ae:=ah (show B.out.length<=1000100/\B.res.length<=1000100/\B.ai.length<=12 from ⟨by have:=HB.2.2.2.1;omega,by have:=HB.2.2.2.2.1;omega,by have:=HB.2.2.2.2.2;omega⟩);have Gy:=ah<|MK ids R ht;rw[<-hR]at Gy;have⟨J,M,Q,Q7,P,bo⟩:=IJ;have hf:=gT r t J M Q Q7 B wr P (by have:=ae.out;have:=P.len;omega);rw[gU]at hf;have e1:CN (some i)=(i:Int):=rfl;rw[e1]at hf;have o_:=P.len;have⟨v0,GN⟩:=P.at TF;have c0:=af P.blk 0;simp at c0;have⟨ax,c,mo,H⟩:=P.slice;rw[mo]at c0;obtain⟨g,rfl,x0,x1,x2,x3,x4⟩:=H i _ GN;have⟨U,pm,C,bm⟩:=dN<|P.prt _<|zzh GN;simp only at bm x0 x1 x2 x3 x4;subst bm;have⟨D,hD⟩:=gb x.id;have⟨st,cf⟩:∃st,st=x.st:=⟨_,rfl⟩;have⟨E,ba⟩:=gb x.gH;have⟨N1,Yo⟩:=gb Q7.length;rw[<-hD]at x0;rw[<-cf]at x1;rw[<-ba]at x2;rw[<-Yo]at c0;have k0:(0:Int)<=k:=dp
     have k1:(k:Int)<n:=dp;have i1:(0:Int)<=i:=dp;have Aq:=(zzd.1 GN).1;have i2:(i:Int)<N1:=dp;have ZI:N1<=12:=by have:=ae.out;omega
     have HW:=ah (show bQ wr r J M Q Q7 B/\fo S (kb r J M Q Q7) w wr/\wr.ownsRow w.heap.size 34 1 (.slice (some ⟨I,0,none⟩) n F) n (kz ids)/\Q7[i]?=some (x,.slice U pm C)/\J=.slice (some ⟨g,0,none⟩) N1 c/\N1=Q7.length/\B.ai[i]?=some x/\(x.st=5->x.gH<=1000)/\x.parts.length<=8 from ⟨P,by rw[<-bo];exact Y_,jU,GN,by rw[Yo];exact mo,Yo,TF,bf,bp⟩);have Oh:=ah<|show D=x.id/\st=x.st/\E=x.gH/\aO B.ai t=some x from ⟨hD,cf,ba,b0⟩;have bq:=ah EK.1;clear P H gU TF bx b0 bf bp wh EK bc CV jU Y_ GN mo bo hR e1 o_ Yo hD cf ba ht ZR bg hr Aq;go_wp2_with fail;refine hf.mono ?_;clear hf;rintro e w1 ⟨rfl,q,rfl⟩;have⟨L,gP⟩:=gb <|wr.drewN q;rw[<-gP];have pU:Fr [] wr L:=by rw[gP];exact(fU wr).dE q
     have oU:∀a,L.cell? a=wr.cell? a:=λa=>by rw[gP];rfl
     rw[<-oU]at c0 x0 x1 x2 x3 x4;have se:=ah (show bQ L r J M Q Q7 B/\fo S (kb r J M Q Q7) w L/\L.ownsRow w.heap.size 34 1 (.slice (some ⟨I,0,none⟩) n F) n (kz ids)from ⟨HW.1.fr pU,HW.2.1.trans<|fo.of pU,ar HW.2.2.1 pU dv⟩);have DE:=ah HW.2.2.2;have Y':w.heap.size<=L.heap.size:=se.2.1.fr.size;clear gP pU oU z0 HW;have nA:g<L.heap.size:=(se.1.kF.lt g<|by rw[DE.2.1];rfl).2;have Za:r<L.heap.size:=(zza.1 se.1.blk).1;have b4:L.frozen? ⟨g,i*5+2,none⟩=false:=by
      obtain⟨cb,JH⟩:=aL se.1.kF (g:=g) (by rw[DE.2.1];rfl);exact aq JH _
     have bD:pm=x.parts.length:=by
      have ly:=se.1.prt _<|zzh DE.1;rcases ly.2 with⟨e,h0⟩|⟨_,_,_,e,_⟩
      .simp only[Bx]at e;simp only at h0;omega
      .simp only[Bx]at e;exact e.2.1
     have⟨m,hm⟩:=gb pm;have Ti:m<=8:=by have:=DE.2.2.2.2.2;omega
     have Pa:=ah (show x.parts.length=m by omega);rw[<-hm]at x3;have b2:=ah (show Q7[i]?=some (x,.slice U m C) by rw[hm];exact DE.1);have⟨b,hb⟩:=gb L.heap.size;have bb:Hid (b≠r):=by rw[hb];exact λe=>dp
     clear bD hm;by_cases CO:x.aS=true
     .rw[CO]at x4;have OD:B.aR t=B:=by
       have⟨i',V8,e⟩:=mV Oh.2.2.2;rw[e,oo CO]
      have⟨h,Z⟩:=gb <|L.alloc (.cells #[.int .u64 (D:Int),.int .i64 (st:Int),.int .i64 (E:Int),.slice U m C,.bool true] 123);have bH:Fr [] L h:=by rw[Z];exact(fU _).alloc _
      have HF:Hid (∃K,gh h r K ((ids.take<|k+1).foldl aP.aR R)/\fo S K w h/\h.ownsRow w.heap.size 34 1 (.slice (some ⟨I,0,none⟩) n F) n (kz ids)):=⟨_,⟨J,M,Q,Q7,by rw[Gy.out,OD];exact se.1.fr bH,rfl⟩,se.2.1.trans<|fo.of bH,ar se.2.2 bH dv⟩;clear bH OD CO;go_wp2;rw[<-Z]
      go_roundw;case rel=>exact⟨k+1,dp,eR,HF⟩
      case measure=>simp[intOf];omega
     have sL:x.aS=false:=by simpa using CO
     rw[sL]at x4;have b7:=ah sL;clear CO sL;by_cases h5:st=5
     .have AH:x.st=5:=by rw[<-Oh.2.1];exact h5
      have c9:E<=1000:=by rw[Oh.2.2.1];exact DE.2.2.2.2.1 AH
      subst h5;have⟨a7,hA⟩:=gb <|E+1;have iA:(E:Int)+1=(a7:Int):=dp;have jA:IntKind.i64.wrap (a7:Int)=a7:=eD;obtain⟨q1,q2⟩:=se.1.LI (j:=2) (x':={x with gH:=x.gH+1}) (u:=.int .i64 (a7:Int)) (by rw[DE.2.1,DE.2.2.1]) b2.out (by decide) (by rw[hA,Oh.2.2.1];rfl) rfl;obtain⟨h,Z⟩:∃h,h=(L.setCell ⟨g,i*5+2,none⟩<|.int .i64 (a7:Int)).alloc (.cells #[.int .u64 (D:Int),.int .i64 5,.int .i64 (E:Int),.slice U m C,.bool false] 123):=⟨_,rfl⟩;have bH:Fr [] (L.setCell ⟨g,i*5+2,none⟩<|.int .i64 (a7:Int)) h:=by rw[Z];exact(fU _).alloc _
      obtain⟨A,xN⟩:∃A,A=Q7.set i ({x with gH:=x.gH+1},.slice U m C):=⟨_,rfl⟩;obtain⟨d,rJ⟩:∃d,d={B with ai:=B.ai.set i {x with gH:=x.gH+1}}:=⟨_,rfl⟩;rw[<-xN]at q1 q2;rw[<-rJ]at q1
      have G:=ah (show bQ h r J M Q A d/\fo S (kb r J M Q A) w h/\h.ownsRow w.heap.size 34 1 (.slice (some ⟨I,0,none⟩) n F) n (kz ids)/\h.heap[b]?=some (.cells #[.int .u64 (D:Int),.int .i64 5,.int .i64 (E:Int),.slice U m C,.bool false] 123 (0,0))from ⟨q1.fr bH,(se.2.1.trans q2).trans (fo.of bH),ar (ar se.2.2 (Fr.cG (S:=[g]) (by simp) _ _) (λz hz Gx=>by
       simp at Gx;subst Gx;exact cP se.2.2 se.1.kF du hz (by rw[DE.2.1];rfl))) bH dv,by rw[Z,hb];exact(by simpa using oz (L.setCell ⟨g,i*5+2,none⟩ (.int .i64 (a7:Int))) _)⟩)
      have HQ:=ah (show x.parts.length=m/\A[i]?=some ({x with gH:=x.gH+1},.slice U m C)/\({x with gH:=x.gH+1}:aK).parts=x.parts/\d.out.length<=1000200 from ⟨Pa.out,by rw[xN,List.getElem?_set_self (zzd.1 b2.out).1],rfl,by rw[rJ];have:=ae.1;show B.out.length<=_;omega⟩);have Rl:=ah<|show d.ai[i]?=some {x with gH:=x.gH+1}/\A.length<=12/\d.res.length<=1000200 from ⟨by rw[rJ];exact List.getElem?_set_self (zzd.1 DE.2.2.2.1).1,by rw[xN,List.length_set];have:=DE.2.2.1;omega,by rw[rJ];have:=ae.2.1;show B.res.length<=_;omega⟩
      have OD:B.aR t=if x.gH+1=8 then (B.setAt i {x with gH:=x.gH+1}).l8 i {x with gH:=x.gH+1}else {B with ai:=B.ai.set i {x with gH:=x.gH+1},out:=B.out++eB rQ x.id 1 x.parts}:=by
       have⟨i',V8,e⟩:=mV Oh.2.2.2;have:i'=i:=bq.out.ne V8 DE.2.2.2.1 rfl;subst this;rw[e,mE<|by rw[b7.out];decide,oo AH]
      have b3:=ah (show a7=x.gH+1/\B.aR t=if x.gH+1=8 then (B.setAt i {x with gH:=x.gH+1}).l8 i {x with gH:=x.gH+1}else {B with ai:=B.ai.set i {x with gH:=x.gH+1},out:=B.out++eB rQ x.id 1 x.parts}from ⟨by rw[hA,Oh.2.2.1],OD⟩);have pM:=ah rJ;have Xg:=ah hb;clear q1 q2 bH xN rJ hA OD AH hb;by_cases h8:a7=8
      .have HFU:=ah (yv r i J M Q A d h G.1 _ Rl.1 (by have:=Rl.2.1;omega) (by show x.parts.length<=8;have:=Pa.out;omega) (by have:=HQ.2.2.2;omega)<|by have:=Rl.2.2;omega);subst h8;rw[show((8:Nat):Int)=8 from rfl]at Z;go_wp2_with fail;rw[<-Z];refine HFU.out.mono ?_;clear Z c0 x0 x1 x2 x3 x4 b4 nA Za Y';rintro e w5 ⟨rfl,S5,h5,k5⟩;have HF:Hid (∃K,gh w5 r K ((ids.take<|k+1).foldl aP.aR R)/\fo S K w w5/\w5.ownsRow w.heap.size 34 1 (.slice (some ⟨I,0,none⟩) n F) n (kz ids)):=by
        refine⟨S5,?_,G.2.1.trans k5,ar G.2.2.1 k5.fr λz hz Gx=>?_⟩
        .rw[Gy.out,b3.2,oo b3.1.symm];rw[pM.out]at h5;exact h5
        .rcases dC.1 Gx with rfl|e|e|e|⟨y,hy,e⟩
         .exact aQ G.2.2.1 G.1.blk du hz
         .exact cP G.2.2.1 G.1.kF du hz e
         .exact cP G.2.2.1 G.1.res du hz e
         .exact cP G.2.2.1 G.1.out du hz e
         .exact cP G.2.2.1 (G.1.prt y hy) du hz e
       clear h5 k5;go_wp2;go_roundw;case rel=>exact⟨k+1,dp,eR,HF⟩
       case measure=>simp[intOf];omega
      .have n8:¬(a7:Int)=8:=dp;have b8:((a7:Int)==8)=false:=oT.2 n8;have XC:=ah (show(ids.take (k+1)).foldl aP.aR R={d with out:=d.out++eB rQ D 1 x.parts} by
        rw[Gy.out,b3.2,mE (by have:=b3.1;omega),pM.out,Oh.1])
       go_wp2;rw[<-Z,<-Xg.out];clear Z c0 x0 x1 x2 x3 x4 b4 nA Za Y';have Gv:Hid (bQ h r J M Q A {d with out:=d.out++eB rQ D 1 (x.parts.take 0)}/\fo S (kb r J M Q A) w h/\h.ownsRow w.heap.size 34 1 (.slice (some ⟨I,0,none⟩) n F) n (kz ids)/\h.heap[b]?=some (.cells #[.int .u64 (D:Int),.int .i64 5,.int .i64 (E:Int),.slice U m C,.bool false] 123 (0,0))):=⟨by simpa [eB]using G.1,G.2⟩;clear G
       go_loopw [7] (λj wr=>∃(y:Nat) (T:Value),y<=m/\j=.int .i64 y/\Hid (bQ wr r J M T A {d with out:=d.out++eB rQ D 1 (x.parts.take y)}/\fo S (kb r J M T A) w wr/\wr.ownsRow w.heap.size 34 1 (.slice (some ⟨I,0,none⟩) n F) n (kz ids)/\wr.heap[b]?=some (.cells #[.int .u64 (D:Int),.int .i64 5,.int .i64 (E:Int),.slice U m C,.bool false] 123 (0,0)))) (λj _=>m-(intOf j).toNat)
       case atStart=>exact⟨0,Q,zzs _,rfl,Gv⟩
       case round=>
        obtain⟨y,X,hy,rfl,Y⟩:=hrel;have aa:=af Y.2.2.2 0;have ab:=af Y.2.2.2 1;have ad:=af Y.2.2.2 3;simp at aa ab ad;by_cases aE:y<m
        .have y0:(0:Int)<=y:=dp;have y1:(y:Int)<m:=dp;have⟨p,hp⟩:∃p,x.parts[y]?=some p:=⟨_,zzg<|by rw[HQ.1];exact aE⟩;have ly:=Y.1.prt _<|zzh HQ.2.1;simp only at ly;have⟨b1,ZH,BI,HP⟩:=kf ly;have⟨f,wI,z0,z1,z2⟩:=HP y p hp;obtain⟨rfl,aI,rfl⟩:U=b1/\m=x.parts.length/\C=ZH:=by simpa using BI
         clear aI;subst wI;have⟨V,pJ⟩:=gb p.cH;have⟨vo,rX⟩:=gb p.aZ;have⟨lf,rS⟩:=gb p.left;rw[<-pJ]at z0;rw[<-rX]at z1;rw[<-rS]at z2;by_cases h0:vo=0
         .have agq:p.aZ=0:=dp;subst h0;have al:=ah (show eB rQ D 1 (x.parts.take<|y+1)=eB rQ D 1 (x.parts.take y)++[(D,V,1)] by rw[JV hp<|by unfold rQ;simp[agq],<-pJ]);have O:=Y.1;have pB:=(zza.1 O.blk).1;have C6:=(zza.1 Y.2.2.2).1;have Rp:=(ly.lt f rfl).2;have⟨bA,sP⟩:=aL ly (g:=f) rfl;have aX:=O.ne;have⟨OL,xS⟩:=gb <|d.out++eB rQ D 1 (x.parts.take y);have⟨N,hN⟩:=gb OL.length;have ZI:N<=1048600:=by
           have a1:=qw rQ D 1<|x.parts.take y;have a2:=HQ.2.2.2;rw[zzm,HQ.1]at a1;rw[hN,xS,zzi];omega
          have HL:=ah (show r<wr.heap.size/\b<wr.heap.size/\f<wr.heap.size/\X.ownBlock≠some r/\X.ownBlock≠some b/\X.ownBlock≠some f/\b≠r/\f≠r from ⟨pB,C6,Rp,aX.2.2.1,aQ O.out Y.2.2.2 du,aQ O.out sP du,bb.out,λe=>by rw[e,O.blk]at sP;cases sP⟩);have HA:=ah (show bQ wr r J M X A {d with out:=OL}/\wr.ownsRow B0 170 3 X N (jv OL)/\(∀(W:nL) (v:Value) (xs:List Value),W.ownsRow B0 170 3 v (N+1) xs->W.ownsRow B0 170 3 v (OL.length+1) xs)from ⟨by rw[xS];exact O,by rw[hN,xS];exact O.out,λW v xs hh=>by rw[<-hN];exact hh⟩);have sK:=ah (show ∀s:nL,s.heap[b]?=wr.heap[b]?->s.heap[f]?=wr.heap[f]?->s.cell? ⟨b,0,none⟩=some (.int .u64 (D:Int))/\s.cell? ⟨b,3,none⟩=some (.slice (some ⟨f,0,none⟩) m C)/\s.cell? ⟨f,y*3,none⟩=some (.int .i64 (V:Int))from λs P h2=>⟨(zze (a:=⟨b,0,none⟩) P).trans aa,(zze (a:=⟨b,3,none⟩) P).trans ad,(zze (a:=⟨f,y*3,none⟩) h2).trans z0⟩);have b9:=ah (show ∀s:nL,s.heap[b]?=wr.heap[b]?->s.cell? ⟨b,1,none⟩=some (.int .i64 5)from λs P=>(zze (a:=⟨b,1,none⟩) P).trans ab);have o3:=af O.blk 3;simp at o3;have Fk:∀o,(wr.drew.alloc o).heap[b]?=wr.heap[b]?:=λo=>zzf wr.drew o b C6
          have o6:∀o,(wr.drew.alloc o).heap[f]?=wr.heap[f]?:=λo=>zzf wr.drew o f Rp
          have LG:∀o,(wr.drew.alloc o).cell? ⟨r,3,none⟩=some X:=λo=>(sR _ _ _ pB).trans o3
          have bz:∀o,(wr.alloc o).cell? ⟨r,3,none⟩=some X:=λo=>(sR _ _ _ pB).trans o3
          have HE:=ah (show ∀s T,bQ s r J M T A {d with out:=OL++[(D,V,1)]}->fo (kb r J M X A) (kb r J M T A) wr s->Fr (r::X.ownBlock.toList) wr s->s.heap[b]?=wr.heap[b]?->(bQ s r J M T A {d with out:=d.out++eB rQ D 1 (x.parts.take (y+1))}/\fo S (kb r J M T A) w s/\s.ownsRow w.heap.size 34 1 (.slice (some ⟨I,0,none⟩) n F) n (kz ids)/\s.heap[b]?=some (.cells #[.int .u64 (D:Int),.int .i64 5,.int .i64 (E:Int),.slice (some ⟨f,0,none⟩) m C,.bool false] 123 (0,0)))from λs T P h2 h3 h4=>⟨by rw[al.out,<-zzx,<-xS];exact P,Y.2.1.trans h2,ar Y.2.2.1 h3 (λq hq hm=>by
           obtain rfl|hm:=zzj.1 hm
           .exact aQ Y.2.2.1 O.blk du hq
           .exact cP Y.2.2.1 O.out du hq (by simpa using hm)),h4.trans Y.2.2.2⟩)
          clear hp ly HP BI pJ rX rS Y O pB C6 Rp sP aX xS hN al;go_wp2;refine eX (S:=(λw'=>w'.cell? ⟨r,3,none⟩=some X/\w'.cell? ⟨b,0,none⟩=some (.int .u64 (D:Int))/\w'.cell? ⟨b,3,none⟩=some (.slice (some ⟨f,0,none⟩) m C)/\w'.cell? ⟨f,y*3,none⟩=some (.int .i64 (V:Int)))) (z:=18) eu rfl eu ⟨by first|assumption|exact dM.2.1,sK.out _ rfl rfl⟩ λaA=>?_;refine b_ 0 ?_;refine b_ 1 ?_;refine b_ 2 ?_;refine b_ 3 ?_;refine b_ 4 ?_;refine b_ 5 ?_;refine b_ 6 ?_;refine b_ 7 ?_;refine b_ 8 ?_;refine b_ 9 ?_;refine b_ 10 ?_;refine b_ 11 ?_;refine b_ 12 ?_;refine b_ 13 ?_
          (try simp only[Act.put,mA,hU,mI]);refine um (rs:=[14]) eu dv<|yg (λa8 hK=>?_) ua;go_simp;refine hK.out _ _ ⟨LG _,sK.out _ (Fk _)<|o6 _⟩ λaA=>?_;clear hK a8
          (try simp only[Act.put,mA,hU,mI]);refine um (rs:=[15]) eu dv<|yg (λa8 hK=>?_) ua;rw[oo<|by rfl];refine nr _ _ rfl B0 X N (jv OL) D (V:Int) 1 wr.heap.size rfl (ar HA.2.1 ((fU wr).drew.alloc _) dv) rfl (oz _ _) dp (by have:=HA.1.low;simp;omega) ?_;intro v' w1 bF bK dX;obtain⟨av,mv,cv,rfl⟩:=dN bF;have gI:Fr [] wr (wr.drew.alloc<|.cells #[.int .u64 (D:Int),.int .i64 (V:Int),.int .i64 1] 170):=(fU wr).drew.alloc _;have mB:Fr X.ownBlock.toList wr w1:=(gI.mono dv).trans<|Fr.cA bK;have dB:=(mB.block r HL.1<|by simp;exact HL.2.2.2.1).trans HA.1.blk;have g0:=mB.block b HL.2.1 (by simp;exact HL.2.2.2.2.1);have g1:=mB.block f HL.2.2.1 (by simp;exact HL.2.2.2.2.2.1);have d3:=af dB 3;have f3:=aq dB 3;simp at d3;have HX:=ah (HA.1.yu gI bK (D,V,1) (HA.2.2 _ _ _ bF)<|by simpa using dX);have GC:=ah λu=>(wg w1 ⟨r,3,none⟩ u b HL.2.2.2.2.2.2.1).trans g0;have Rq:=ah λu=>(wg w1 ⟨r,3,none⟩ u f HL.2.2.2.2.2.2.2).trans g1;clear bF bK dX gI mB dB;refine hK.out _ _ ⟨d3,sK.out _ g0 g1⟩ λaA=>?_;clear hK a8
          (try simp only[Act.put,mA,hU,mI]);refine b_ 16 ?_;refine b_ 17 ?_;(try simp only[Act.put,mA,hU,mI]);refine Cj eu ?_ _;refine lV rfl rfl ?_;go_simp;have HZ:=ah<|HE.out _ _ HX.1 HX.2.1 HX.2.2<|GC.out _;have c6:=b9.out _<|GC.out<|.slice av mv cv;go_wp2
          go_roundw;case rel=>exact⟨y+1,.slice av mv cv,dp,eR,HZ⟩
          case measure=>simp[intOf];omega
         .have j0:¬(vo:Int)=0:=dp;have ca:((vo:Int)==0)=false:=oT.2 j0;have an:Hid (∃T,bQ wr r J M T A {d with out:=d.out++eB rQ D 1 (x.parts.take<|y+1)}/\fo S (kb r J M T A) w wr/\wr.ownsRow w.heap.size 34 1 (.slice (some ⟨I,0,none⟩) n F) n (kz ids)/\wr.heap[b]?=some (.cells #[.int .u64 (D:Int),.int .i64 5,.int .i64 (E:Int),.slice (some ⟨f,0,none⟩) m C,.bool false] 123 (0,0))):=⟨X,by rw[Gn hp<|by unfold rQ;simp;omega];exact Y.1,Y.2⟩;clear hp ly HP BI pJ rX rS Y;have⟨I5,ay⟩:∃I5,Hid (bQ wr r J M I5 A {d with out:=d.out++eB rQ D 1 (x.parts.take<|y+1)}/\fo S (kb r J M I5 A) w wr/\wr.ownsRow w.heap.size 34 1 (.slice (some ⟨I,0,none⟩) n F) n (kz ids)/\wr.heap[b]?=some (.cells #[.int .u64 (D:Int),.int .i64 5,.int .i64 (E:Int),.slice (some ⟨f,0,none⟩) m C,.bool false] 123 (0,0))):=an.out;go_wp2
          go_roundw;case rel=>exact⟨y+1,I5,dp,eR,ay⟩
          case measure=>simp[intOf];omega
        .have Mr:¬(y:Int)<m:=dp;have Lo:x.parts.take y=x.parts:=zzt<|by rw[HQ.1];omega
         have HF:Hid (∃K,gh wr r K ((ids.take<|k+1).foldl aP.aR R)/\fo S K w wr/\wr.ownsRow w.heap.size 34 1 (.slice (some ⟨I,0,none⟩) n F) n (kz ids)):=by
          refine⟨_,⟨_,_,_,_,?_,rfl⟩,Y.2.1,Y.2.2.1⟩;have h9:=Y.1;rw[Lo]at h9;rw[XC.out];exact h9
         clear Lo;go_wp2;go_roundw;case rel=>exact⟨k+1,dp,eR,HF⟩
         case measure=>simp[intOf];omega
     .by_cases h6:st=6
      .subst h6;have⟨h,Z⟩:=gb <|L.alloc (.cells #[.int .u64 (D:Int),.int .i64 6,.int .i64 (E:Int),.slice U m C,.bool false] 123);have bH:Fr [] L h:=by rw[Z];exact(fU _).alloc _
       have⟨A,xN⟩:=gb Q7;have⟨d,rJ⟩:=gb B;have G:=ah (show bQ h r J M Q A d/\fo S (kb r J M Q A) w h/\h.ownsRow w.heap.size 34 1 (.slice (some ⟨I,0,none⟩) n F) n (kz ids)/\h.heap[b]?=some (.cells #[.int .u64 (D:Int),.int .i64 6,.int .i64 (E:Int),.slice U m C,.bool false] 123 (0,0))from ⟨by rw[xN,rJ];exact se.1.fr bH,by rw[xN];exact se.2.1.trans<|fo.of bH,ar se.2.2 bH dv,by rw[Z,hb];exact oz L _⟩);have HQ:=ah<|show x.parts.length=m/\A[i]?=some (x,.slice U m C)/\x.parts=x.parts/\d.out.length<=1000200 from ⟨Pa.out,by rw[xN];exact b2.out,rfl,by rw[rJ];have:=ae.1;omega⟩
       have OD:B.aR t={B with out:=B.out++eB (·.left) x.id 5 x.parts}:=by
        have⟨i',V8,e⟩:=mV Oh.2.2.2;rw[e,mE<|by rw[b7.out];decide,mE<|by rw[<-Oh.2.1];omega,oo<|by rw[<-Oh.2.1]]
       have XC:=ah (show(ids.take (k+1)).foldl aP.aR R={d with out:=d.out++eB (·.left) D 5 x.parts} by
        rw[Gy.out,OD,rJ,Oh.1])
       have Xg:=ah hb;clear bH xN rJ OD hb;go_wp2;rw[<-Z,<-Xg.out];clear Z c0 x0 x1 x2 x3 x4 b4 nA Za Y';have Gv:Hid (bQ h r J M Q A {d with out:=d.out++eB (·.left) D 5 (x.parts.take 0)}/\fo S (kb r J M Q A) w h/\h.ownsRow w.heap.size 34 1 (.slice (some ⟨I,0,none⟩) n F) n (kz ids)/\h.heap[b]?=some (.cells #[.int .u64 (D:Int),.int .i64 6,.int .i64 (E:Int),.slice U m C,.bool false] 123 (0,0))):=⟨by simpa [eB]using G.1,G.2⟩;clear G
       go_loopw [7] (λj wr=>∃(y:Nat) (T:Value),y<=m/\j=.int .i64 y/\Hid (bQ wr r J M T A {d with out:=d.out++eB (·.left) D 5 (x.parts.take y)}/\fo S (kb r J M T A) w wr/\wr.ownsRow w.heap.size 34 1 (.slice (some ⟨I,0,none⟩) n F) n (kz ids)/\wr.heap[b]?=some (.cells #[.int .u64 (D:Int),.int .i64 6,.int .i64 (E:Int),.slice U m C,.bool false] 123 (0,0)))) (λj _=>m-(intOf j).toNat)
       case atStart=>exact⟨0,Q,zzs _,rfl,Gv⟩
       case round=>
        obtain⟨y,X,hy,rfl,Y⟩:=hrel;have aa:=af Y.2.2.2 0;have ab:=af Y.2.2.2 1;have ad:=af Y.2.2.2 3;simp at aa ab ad;by_cases aE:y<m
        .have y0:(0:Int)<=y:=dp;have y1:(y:Int)<m:=dp;have⟨p,hp⟩:∃p,x.parts[y]?=some p:=⟨_,zzg<|by rw[HQ.1];exact aE⟩;have ly:=Y.1.prt _<|zzh HQ.2.1;simp only at ly;have⟨b1,ZH,BI,HP⟩:=kf ly;have⟨f,wI,z0,z1,z2⟩:=HP y p hp;obtain⟨rfl,aI,rfl⟩:U=b1/\m=x.parts.length/\C=ZH:=by simpa using BI
         clear aI;subst wI;have⟨V,pJ⟩:=gb p.cH;have⟨vo,rX⟩:=gb p.aZ;have⟨lf,rS⟩:=gb p.left;rw[<-pJ]at z0;rw[<-rX]at z1;rw[<-rS]at z2;cases lf
         .have wU:p.left=false:=rS.symm;have an:Hid (∃T,bQ wr r J M T A {d with out:=d.out++eB (·.left) D 5 (x.parts.take<|y+1)}/\fo S (kb r J M T A) w wr/\wr.ownsRow w.heap.size 34 1 (.slice (some ⟨I,0,none⟩) n F) n (kz ids)/\wr.heap[b]?=some (.cells #[.int .u64 (D:Int),.int .i64 6,.int .i64 (E:Int),.slice (some ⟨f,0,none⟩) m C,.bool false] 123 (0,0))):=⟨X,by rw[Gn hp<|wU];exact Y.1,Y.2⟩;clear hp ly HP BI pJ rX rS Y;have⟨I5,ay⟩:∃I5,Hid (bQ wr r J M I5 A {d with out:=d.out++eB (·.left) D 5 (x.parts.take<|y+1)}/\fo S (kb r J M I5 A) w wr/\wr.ownsRow w.heap.size 34 1 (.slice (some ⟨I,0,none⟩) n F) n (kz ids)/\wr.heap[b]?=some (.cells #[.int .u64 (D:Int),.int .i64 6,.int .i64 (E:Int),.slice (some ⟨f,0,none⟩) m C,.bool false] 123 (0,0))):=an.out;go_wp2
          go_roundw;case rel=>exact⟨y+1,I5,dp,eR,ay⟩
          case measure=>simp[intOf];omega
         .have wU:p.left=true:=rS.symm;have al:=ah (show eB (·.left) D 5 (x.parts.take<|y+1)=eB (·.left) D 5 (x.parts.take y)++[(D,V,5)] by rw[JV hp<|wU,<-pJ]);have O:=Y.1;have pB:=(zza.1 O.blk).1;have C6:=(zza.1 Y.2.2.2).1;have Rp:=(ly.lt f rfl).2;have⟨bA,sP⟩:=aL ly (g:=f) rfl;have aX:=O.ne;have⟨OL,xS⟩:=gb <|d.out++eB (·.left) D 5 (x.parts.take y);have⟨N,hN⟩:=gb OL.length;have ZI:N<=1048600:=by
           have a1:=qw (·.left) D 5<|x.parts.take y;have a2:=HQ.2.2.2;rw[zzm,HQ.1]at a1;rw[hN,xS,zzi];omega
          have HL:=ah (show r<wr.heap.size/\b<wr.heap.size/\f<wr.heap.size/\X.ownBlock≠some r/\X.ownBlock≠some b/\X.ownBlock≠some f/\b≠r/\f≠r from ⟨pB,C6,Rp,aX.2.2.1,aQ O.out Y.2.2.2 du,aQ O.out sP du,bb.out,λe=>by rw[e,O.blk]at sP;cases sP⟩);have HA:=ah (show bQ wr r J M X A {d with out:=OL}/\wr.ownsRow B0 170 3 X N (jv OL)/\(∀(W:nL) (v:Value) (xs:List Value),W.ownsRow B0 170 3 v (N+1) xs->W.ownsRow B0 170 3 v (OL.length+1) xs)from ⟨by rw[xS];exact O,by rw[hN,xS];exact O.out,λW v xs hh=>by rw[<-hN];exact hh⟩);have sK:=ah (show ∀s:nL,s.heap[b]?=wr.heap[b]?->s.heap[f]?=wr.heap[f]?->s.cell? ⟨b,0,none⟩=some (.int .u64 (D:Int))/\s.cell? ⟨b,3,none⟩=some (.slice (some ⟨f,0,none⟩) m C)/\s.cell? ⟨f,y*3,none⟩=some (.int .i64 (V:Int))from λs P h2=>⟨(zze (a:=⟨b,0,none⟩) P).trans aa,(zze (a:=⟨b,3,none⟩) P).trans ad,(zze (a:=⟨f,y*3,none⟩) h2).trans z0⟩);have b9:=ah (show ∀s:nL,s.heap[b]?=wr.heap[b]?->s.cell? ⟨b,1,none⟩=some (.int .i64 6)from λs P=>(zze (a:=⟨b,1,none⟩) P).trans ab);have o3:=af O.blk 3;simp at o3;have Fk:∀o,(wr.drew.alloc o).heap[b]?=wr.heap[b]?:=λo=>zzf wr.drew o b C6
          have o6:∀o,(wr.drew.alloc o).heap[f]?=wr.heap[f]?:=λo=>zzf wr.drew o f Rp
          have LG:∀o,(wr.drew.alloc o).cell? ⟨r,3,none⟩=some X:=λo=>(sR _ _ _ pB).trans o3
          have bz:∀o,(wr.alloc o).cell? ⟨r,3,none⟩=some X:=λo=>(sR _ _ _ pB).trans o3
          have HE:=ah (show ∀s T,bQ s r J M T A {d with out:=OL++[(D,V,5)]}->fo (kb r J M X A) (kb r J M T A) wr s->Fr (r::X.ownBlock.toList) wr s->s.heap[b]?=wr.heap[b]?->(bQ s r J M T A {d with out:=d.out++eB (·.left) D 5 (x.parts.take (y+1))}/\fo S (kb r J M T A) w s/\s.ownsRow w.heap.size 34 1 (.slice (some ⟨I,0,none⟩) n F) n (kz ids)/\s.heap[b]?=some (.cells #[.int .u64 (D:Int),.int .i64 6,.int .i64 (E:Int),.slice (some ⟨f,0,none⟩) m C,.bool false] 123 (0,0)))from λs T P h2 h3 h4=>⟨by rw[al.out,<-zzx,<-xS];exact P,Y.2.1.trans h2,ar Y.2.2.1 h3 (λq hq hm=>by
           rcases zzj.1 hm with rfl|hm
           .exact aQ Y.2.2.1 O.blk du hq
           .exact cP Y.2.2.1 O.out du hq (by simpa using hm)),h4.trans Y.2.2.2⟩)
          clear hp ly HP BI pJ rX rS Y O pB C6 Rp sP aX xS hN al;go_wp2;refine eX (S:=(λw'=>w'.cell? ⟨r,3,none⟩=some X/\w'.cell? ⟨b,0,none⟩=some (.int .u64 (D:Int))/\w'.cell? ⟨b,3,none⟩=some (.slice (some ⟨f,0,none⟩) m C)/\w'.cell? ⟨f,y*3,none⟩=some (.int .i64 (V:Int)))) (z:=18) eu rfl eu ⟨by first|assumption|exact dM.2.1,sK.out _ rfl rfl⟩ λaA=>?_;refine b_ 0 ?_;refine b_ 1 ?_;refine b_ 2 ?_;refine b_ 3 ?_;refine b_ 4 ?_;refine b_ 5 ?_;refine b_ 6 ?_;refine b_ 7 ?_;refine b_ 8 ?_;refine b_ 9 ?_;refine b_ 10 ?_;refine b_ 11 ?_;refine b_ 12 ?_;refine b_ 13 ?_
          (try simp only[Act.put,mA,hU,mI]);refine um (rs:=[14]) eu dv<|yg (λa8 hK=>?_) ua;go_simp;refine hK.out _ _ ⟨LG _,sK.out _ (Fk _)<|o6 _⟩ λaA=>?_;clear hK a8
          (try simp only[Act.put,mA,hU,mI]);refine um (rs:=[15]) eu dv<|yg (λa8 hK=>?_) ua;rw[oo<|by rfl];refine nr _ _ rfl B0 X N (jv OL) D (V:Int) 5 wr.heap.size rfl (ar HA.2.1 ((fU wr).drew.alloc _) dv) rfl (oz _ _) dp (by have:=HA.1.low;simp;omega) ?_;intro v' w1 bF bK dX;obtain⟨av,mv,cv,rfl⟩:=dN bF;have gI:Fr [] wr (wr.drew.alloc<|.cells #[.int .u64 (D:Int),.int .i64 (V:Int),.int .i64 5] 170):=(fU wr).drew.alloc _;have mB:Fr X.ownBlock.toList wr w1:=(gI.mono dv).trans<|Fr.cA bK;have dB:=(mB.block r HL.1<|by simp;exact HL.2.2.2.1).trans HA.1.blk;have g0:=mB.block b HL.2.1 (by simp;exact HL.2.2.2.2.1);have g1:=mB.block f HL.2.2.1 (by simp;exact HL.2.2.2.2.2.1);have d3:=af dB 3;have f3:=aq dB 3;simp at d3;have HX:=ah (HA.1.yu gI bK (D,V,5) (HA.2.2 _ _ _ bF)<|by simpa using dX);have GC:=ah λu=>(wg w1 ⟨r,3,none⟩ u b HL.2.2.2.2.2.2.1).trans g0;have Rq:=ah λu=>(wg w1 ⟨r,3,none⟩ u f HL.2.2.2.2.2.2.2).trans g1;clear bF bK dX gI mB dB;refine hK.out _ _ ⟨d3,sK.out _ g0 g1⟩ λaA=>?_;clear hK a8
          (try simp only[Act.put,mA,hU,mI]);refine b_ 16 ?_;refine b_ 17 ?_;(try simp only[Act.put,mA,hU,mI]);refine Cj eu ?_ _;refine lV rfl rfl ?_;go_simp;have HZ:=ah<|HE.out _ _ HX.1 HX.2.1 HX.2.2<|GC.out _;have c6:=b9.out _<|GC.out<|.slice av mv cv;go_wp2
          go_roundw;case rel=>exact⟨y+1,.slice av mv cv,dp,eR,HZ⟩
          case measure=>simp[intOf];omega
        .have Mr:¬(y:Int)<m:=dp;have Lo:x.parts.take y=x.parts:=zzt<|by rw[HQ.1];omega
         have HF:Hid (∃K,gh wr r K ((ids.take<|k+1).foldl aP.aR R)/\fo S K w wr/\wr.ownsRow w.heap.size 34 1 (.slice (some ⟨I,0,none⟩) n F) n (kz ids)):=by
          refine⟨_,⟨_,_,_,_,?_,rfl⟩,Y.2.1,Y.2.2.1⟩;have h9:=Y.1;rw[Lo]at h9;rw[XC.out];exact h9
         clear Lo;go_wp2;go_roundw;case rel=>exact⟨k+1,dp,eR,HF⟩
         case measure=>simp[intOf];omega
      .have j5:¬(st:Int)=5:=dp;have b5:((st:Int)==5)=false:=oT.2 j5;have j6:¬(st:Int)=6:=dp;have b6:((st:Int)==6)=false:=oT.2 j6;have⟨h,Z⟩:=gb <|L.alloc (.cells #[.int .u64 (D:Int),.int .i64 (st:Int),.int .i64 (E:Int),.slice U m C,.bool false] 123);have bH:Fr [] L h:=by rw[Z];exact(fU _).alloc _
       have⟨A,xN⟩:=gb Q7;have⟨d,rJ⟩:=gb B;have G:=ah (show bQ h r J M Q A d/\fo S (kb r J M Q A) w h/\h.ownsRow w.heap.size 34 1 (.slice (some ⟨I,0,none⟩) n F) n (kz ids)/\h.heap[b]?=some (.cells #[.int .u64 (D:Int),.int .i64 (st:Int),.int .i64 (E:Int),.slice U m C,.bool false] 123 (0,0))from ⟨by rw[xN,rJ];exact se.1.fr bH,by rw[xN];exact se.2.1.trans<|fo.of bH,ar se.2.2 bH dv,by rw[Z,hb];exact oz L _⟩);have HQ:=ah<|show x.parts.length=m/\A[i]?=some (x,.slice U m C)/\x.parts=x.parts/\d.out.length<=1000200 from ⟨Pa.out,by rw[xN];exact b2.out,rfl,by rw[rJ];have:=ae.1;omega⟩
       have OD:B.aR t=B:=by
        have⟨i',V8,e⟩:=mV Oh.2.2.2;rw[e,mE<|by rw[b7.out];decide,mE<|by rw[<-Oh.2.1];omega,mE<|by rw[<-Oh.2.1];exact h6]
       have XC:=ah (show(ids.take (k+1)).foldl aP.aR R={d with out:=d.out++eB (λ_=>false) D 5 x.parts} by
        rw[Gy.out,OD,rJ,show eB (λ_=>false) D 5 x.parts=[] by unfold eB;rw[List.filter_eq_nil_iff.2 (λ_ _=>dv)];rfl,wo])
       have Xg:=ah hb;clear bH xN rJ OD hb;go_wp2;rw[<-Z,<-Xg.out];clear Z c0 x0 x1 x2 x3 x4 b4 nA Za Y';have Gv:Hid (bQ h r J M Q A {d with out:=d.out++eB (λ_=>false) D 5 (x.parts.take 0)}/\fo S (kb r J M Q A) w h/\h.ownsRow w.heap.size 34 1 (.slice (some ⟨I,0,none⟩) n F) n (kz ids)/\h.heap[b]?=some (.cells #[.int .u64 (D:Int),.int .i64 (st:Int),.int .i64 (E:Int),.slice U m C,.bool false] 123 (0,0))):=⟨by simpa [eB]using G.1,G.2⟩;clear G
       go_loopw [7] (λj wr=>∃(y:Nat) (T:Value),y<=m/\j=.int .i64 y/\Hid (bQ wr r J M T A {d with out:=d.out++eB (λ_=>false) D 5 (x.parts.take y)}/\fo S (kb r J M T A) w wr/\wr.ownsRow w.heap.size 34 1 (.slice (some ⟨I,0,none⟩) n F) n (kz ids)/\wr.heap[b]?=some (.cells #[.int .u64 (D:Int),.int .i64 (st:Int),.int .i64 (E:Int),.slice U m C,.bool false] 123 (0,0)))) (λj _=>m-(intOf j).toNat)
       case atStart=>exact⟨0,Q,zzs _,rfl,Gv⟩
       case round=>
        obtain⟨y,X,hy,rfl,Y⟩:=hrel;have aa:=af Y.2.2.2 0;have ab:=af Y.2.2.2 1;have ad:=af Y.2.2.2 3;simp at aa ab ad;by_cases aE:y<m
        .have y0:(0:Int)<=y:=dp;have y1:(y:Int)<m:=dp;have⟨p,hp⟩:∃p,x.parts[y]?=some p:=⟨_,zzg<|by rw[HQ.1];exact aE⟩;have ly:=Y.1.prt _<|zzh HQ.2.1;simp only at ly;have⟨b1,ZH,BI,HP⟩:=kf ly;have⟨f,wI,z0,z1,z2⟩:=HP y p hp;obtain⟨rfl,aI,rfl⟩:U=b1/\m=x.parts.length/\C=ZH:=by simpa using BI
         clear aI;subst wI;have⟨V,pJ⟩:=gb p.cH;have⟨vo,rX⟩:=gb p.aZ;have⟨lf,rS⟩:=gb p.left;rw[<-pJ]at z0;rw[<-rX]at z1;rw[<-rS]at z2;have an:Hid (∃T,bQ wr r J M T A {d with out:=d.out++eB (λ_=>false) D 5 (x.parts.take<|y+1)}/\fo S (kb r J M T A) w wr/\wr.ownsRow w.heap.size 34 1 (.slice (some ⟨I,0,none⟩) n F) n (kz ids)/\wr.heap[b]?=some (.cells #[.int .u64 (D:Int),.int .i64 (st:Int),.int .i64 (E:Int),.slice (some ⟨f,0,none⟩) m C,.bool false] 123 (0,0))):=⟨X,by rw[Gn hp<|rfl];exact Y.1,Y.2⟩;clear hp ly HP BI pJ rX rS Y;have⟨I5,ay⟩:∃I5,Hid (bQ wr r J M I5 A {d with out:=d.out++eB (λ_=>false) D 5 (x.parts.take<|y+1)}/\fo S (kb r J M I5 A) w wr/\wr.ownsRow w.heap.size 34 1 (.slice (some ⟨I,0,none⟩) n F) n (kz ids)/\wr.heap[b]?=some (.cells #[.int .u64 (D:Int),.int .i64 (st:Int),.int .i64 (E:Int),.slice (some ⟨f,0,none⟩) m C,.bool false] 123 (0,0))):=an.out;go_wp2
         go_roundw;case rel=>exact⟨y+1,I5,dp,eR,ay⟩
         case measure=>simp[intOf];omega
        .have Mr:¬(y:Int)<m:=dp;have Lo:x.parts.take y=x.parts:=zzt<|by rw[HQ.1];omega
         have HF:Hid (∃K,gh wr r K ((ids.take<|k+1).foldl aP.aR R)/\fo S K w wr/\wr.ownsRow w.heap.size 34 1 (.slice (some ⟨I,0,none⟩) n F) n (kz ids)):=by
          refine⟨_,⟨_,_,_,_,?_,rfl⟩,Y.2.1,Y.2.2.1⟩;have h9:=Y.1;rw[Lo]at h9;rw[XC.out];exact h9
         clear Lo;go_wp2;go_roundw;case rel=>exact⟨k+1,dp,eR,HF⟩
         case measure=>simp[intOf];omega
    .have CZ:k=n:=dp;have HF:=ah (show ∃S',gh wr r S' R.tick/\fo S S' w wr from by
      have⟨K,IJ,Y_,_⟩:=hr.out;refine⟨K,?_,Y_⟩;unfold aP.tick;rw[zzt<|by rw[Y9.2.1];omega,Y9.1]at IJ
      exact IJ)
     have IX:¬(k:Int)<n:=dp;go_wp2;go_end0;exact⟨rfl,HF.out⟩
end
end Go.Proofs.YtlgeloebpdmnnaaGreatDoor
