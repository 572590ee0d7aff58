import Derived.Test.YtlgeloebpdmnnaaGreatDoorC09
import Derived.Test.YtlgeloebpdmnnaaGreatDoorC11
import Derived.Lib.SmallJoins
set_option maxHeartbeats 4000000
set_option maxRecDepth 100000
namespace Go.Proofs.YtlgeloebpdmnnaaGreatDoor
open Go.RowKit Go.Maps Tryz Sc
variable{segs:List Nat}{B D N b e h j k low m n p q:Nat}{V pv r s v:Value}{d d':aj}{l:au}{c w w':nL}
def au.iP(l:au)(d:aj)(gone first:Nat):au × aj × Nat :=
 if (l.sync d).2.2=0 then
  if ((l.sync d).2.1.bn first).2=0 then
   ((l.sync d).1,((l.sync d).2.1.bn first).1.removeAll ((l.segs.take gone).map aw))
  else ((l.sync d).1,(l.sync d).2.1.bn first)
 else l.sync d
def au.qR(l:au)(d:aj)(gone first:Nat):Nat:=if (l.sync d).2.2=0 then (if ((l.sync d).2.1.bn first).2=0 then gone else 0) else 0
theorem Fe(l:au)(d:aj)(gone first:Nat):l.qR d gone first<=gone:=by grind[au.qR]
theorem aM.fW{c:Nat}(a:aM w B c p h N pv s v l d n D e)(b:n<=m)(Z:m<=1000000000):aM w B c p h N pv s v l d m D e where
 bP:=a.bP.fW b Z
 blk:=a.blk;base:=a.base;segs:=a.segs;recs:=a.recs;eJ:=⟨zzk a.eJ.1 b,a.eJ.2⟩;iC:=zzk a.iC b;kQ:=a.kQ;iO:=by have:=a.iO;omega
 nU:=a.nU
theorem t_(l:au)(d:aj):(l.sync d).1.segs=l.segs:=by grind[au.sync]
theorem Pf(l:au)(d:aj):(l.sync d).1.recs=l.recs:=by grind[au.sync]
theorem Xz(B a p D N n Q S xZ j i o first gone:Nat)(pv Y W:Value)(l:au)(d:aj)(w:nL)(h:aM w B a p D N pv Y W l d n Q S)(hn:n+2+gone<=1000000000)(hB:2<=B)(dK:dJ w)(hx:first<2^64)(hg:gone<=l.segs.length)(E9:0<gone)
  (r:w.heap[xZ]?=some (.cells #[.func (.func 140) #[gx a] #[],.func (.func 162) #[] #[gx j,gx i],.func (.func 164) #[] #[gx j,gx o]] 147))
  (P:w.heap[j]?=some (.cells #[gx a] 66)) (X:w.heap[i]?=some (.cells #[.int .u64 (first:Int)] 34)) (G:¬Own a p w i) (T:w.heap[o]?=some (.cells #[.int .i64 (gone:Int)] 3)) :
  Calls prog 139 #[.slice (some<|gi xZ) 3 3] w (lM B a p D N (n+2+l.qR d gone first) [] (l.iP d gone first) w):=by
 have L:Hid (n+2+l.qR d gone first<=1000000000):=by have:=Fe l d gone first;show n+2+l.qR d gone first<=1000000000;omega
 have z0:=af r 0;simp at z0;have I:=ah h;have CD:1<w.heap.size:=by have:=h.bP.base.2.2.2;omega
 go_enter func139,ntmps139;go_wp2;apply Bn 4;rw[wk];go_wp2_with fail;apply(tU B a p D N n Q S pv Y W l d w I.out dp).mono;rintro e g ⟨rfl,⟨mj,tV,gM,nK,nG,eK⟩,gq⟩;have R:∀{q:Nat} {c:Array Value} {t:TypeId},w.heap[q]?=some (.cells c t (0,0))->t≠65->t≠200->t≠177->t≠34->t≠89->g.heap[q]?=some (.cells c t (0,0)):=λ{q c t} b s u v x y=>
  (gq.block q (zza.1 b).1<|I.out.free b s u v x y).trans b
 have A:=R r du du du du du;have C:=R P du du du du du;have J:=R T du du du du du;have K:=(gq.block i (zza.1 X).1 G).trans X;have F:=dK.cZ (gq.block 1 CD λz=>by have:=I.out.ge z;omega);have z1:=af A 1;simp at z1;have ab:1<g.heap.size:=by have:=gq.size;omega
 have k:=ah eK;have O:=ah gq;have Gv:=ah A;have V:=ah C;have a1:=ah K;have a7:=ah J;clear h eK gq A C K J r P X T R z0 G;by_cases f:(l.sync d).2.2=0
 .rw[f,aT];go_wp2;rw[wk];go_wp2_with fail;apply(S7 B a p D N n nK nG j i first mj tV gM (l.sync d).1 (l.sync d).2.1 g k.out dp hx V.out a1.out).mono;rintro e w2 ⟨rfl,⟨CG,DM,C1,eL⟩,ik⟩;have R:∀{q:Nat} {c:Array Value} {t:TypeId},g.heap[q]?=some (.cells c t (0,0))->t≠65->t≠200->t≠177->t≠34->t≠89->w2.heap[q]?=some (.cells c t (0,0)):=λ{q c t} b s u v x y=>
   (ik.block q (zza.1 b).1<|k.out.free b s u v x y).trans b
  have U:=R Gv.out du du du du du;have E:=R V.out du du du du du;have M:=R a7.out du du du du du;have aa:=F.cZ (ik.block 1 ab λz=>by have:=k.out.ge z;omega);have z2:=af U 2;simp at z2;have m:=ah eL;have Z:=ah<|O.out.trans ik;have a':=ah E;have ad:=ah M;clear eL ik U E M R z1 F;by_cases iy:((l.sync d).2.1.bn first).2=0
  .obtain⟨nm,nE⟩:∃nm,nm=(l.segs.take gone).map aw:=⟨_,rfl⟩;have e:l.iP d gone first=((l.sync d).1,((l.sync d).2.1.bn first).1.removeAll nm):=by unfold au.iP;rw[oo f,oo iy,nE]
   have HE:=ah e;have a8:=ah nE;clear e nE;have⟨gs,cs,Hh⟩:=eQ m.out.segs (by rw[t_];omega);subst Hh;rw[iy,aT];go_wp2;rw[wk];go_wp2_with fail;apply(S_ B a p D N (n+2) DM C1 j o gone gs cs CG gM (l.sync d).1 ((l.sync d).2.1.bn first).1 w2 m.out (by rw[t_];exact hg) E9 hn hB aa a'.out ad.out).mono;rintro e w3 ⟨rfl,⟨Ht,J_,Hu,nV⟩,wj⟩;rw[t_]at nV ⊢;rw[<-a8.out]at nV ⊢;have H:Hid (lM B a p D N (n+2+l.qR d gone first) [] (l.iP d gone first) w (.returned<|bB (((l.sync d).2.1.bn first).1.removeAll nm).2) w3):=by
    show lM _ _ _ _ _ _ _ _ _ _ _;have eg:l.qR d gone first=gone:=by unfold au.qR;rw[oo f,oo iy]
    rw[HE.out,eg];exact⟨rfl,⟨Ht,_,gM,J_,Hu,nV⟩,(Z.out.trans wj).x⟩
   clear nV wj;by_cases mH:(((l.sync d).2.1.bn first).1.removeAll nm).2=0
   .rw[mH,aT]at H ⊢;go_wp2;rw[wk];go_wp2;go_ret;exact H.out
   .rw[aV mH]at H ⊢;go_wp2;go_ret;exact H.out
  .have H:Hid (lM B a p D N (n+2+l.qR d gone first) [] (l.iP d gone first) w (.returned<|bB ((l.sync d).2.1.bn first).2) w2):=by
    show lM _ _ _ _ _ _ _ _ _ _ _;have e:l.iP d gone first=((l.sync d).1,(l.sync d).2.1.bn first):=by unfold au.iP;rw[oo f,mE iy]
    rw[e];exact⟨rfl,⟨CG,tV,gM,DM,C1,m.out.fW dp L.out⟩,Z.out.x⟩
   rw[aV iy]at H ⊢;go_wp2;go_ret;exact H.out
 .have H:Hid (lM B a p D N (n+2+l.qR d gone first) [] (l.iP d gone first) w (.returned<|bB (l.sync d).2.2) g):=by
   show lM _ _ _ _ _ _ _ _ _ _ _;have e:l.iP d gone first=l.sync d:=by unfold au.iP;rw[mE f]
   rw[e];exact⟨rfl,⟨mj,tV,gM,nK,nG,k.out.fW dp L.out⟩,O.out.x⟩
  rw[aV f]at H ⊢;go_wp2;go_ret;exact H.out
def pG(x:Nat):au:=⟨[],600,[],x,0,0⟩
theorem aM.XH{A i:Nat}(a:aM w B b p h N pv s r l d n D A)(q:aC w' B p h N V d' n j i)(hf:qQ p w w'):aM w' B b p h N V s r l d' n j i/\mJ b p w w':=by
 have M:=(zza.1 a.blk).1
 have u:∀k,k<(nF w)->(k=b\/s.ownBlock=some k\/r.ownBlock=some k)->¬nj p w k:=λk _ c o=>by
  have:=a.sep k<|(a.bP.fI k).1 o;obtain e|e|e:=c<;>grind
 have y:w'.heap[b]?=some (o0 p s r l):=(hf.block b M<|u b M<|.inl rfl).trans a.blk;have W:∀(e:TypeId) (k m:Nat) (v:Value) (xs:List Value),(∀g,v.ownBlock=some g->g=b\/s.ownBlock=some g\/r.ownBlock=some g)->w.ownsRow B e k v m xs->w'.ownsRow B e k v m xs:=λe k m v xs z x=>by
  refine⟨x.1,?_⟩;obtain C|⟨g,cap,cur,rfl,h2,h3,h4⟩:=x.2
  .grind
  .exact .inr ⟨g,cap,cur,rfl,h2,(hf.block g (zza.1 h3).1<|u g (zza.1 h3).1<|z g rfl).trans h3,h4⟩
 have t:aM w' B b p h N V s r l d' n j i:={bP:=q,blk:=y,base:=a.base,segs:=W _ _ _ _ _ (λg f=>.inr<|.inl f) a.segs,recs:=W _ _ _ _ _ (λg f=>.inr<|.inr f) a.recs,eJ:=a.eJ,iC:=a.iC,kQ:=a.kQ,iO:=a.iO,nU:=a.nU};refine⟨t,hf.os,hf.tape,hf.output,hf.size,λk c hn=>hf.block k c λo=>hn ?_,λk c o=>?_⟩
 .rw[a.own];have:=(a.bP.fI k).1 o;simp at this;obtain e|e|e|e:=this<;>simp[e]
 .rw[a.own];obtain e|e|e|e|e|e|e:=(t.own k).1 o
  .grind
  .grind
  .grind
  .grind
  .have:=(a.bP.fI k).1 (hf.stay k c<|(q.fI k).2<|by simp[e]);simp at this;obtain e|e|e|e:=this<;>simp[e]
  .grind
  .grind
theorem uR(B b p D N n f g low:Nat)(pv j v:Value)(l:au)(d:aj)(w:nL)(h:aM w B b p D N pv j v l d n f g):
  Calls prog 161 #[gx b,.int .u64 (low:Int)] w λe w'=>e=.returned (.int .i64 (bM l.segs low:Nat))/\∃q,w'=w.drewN q:=by
 by_cases s:0<l.segs.length
 .obtain⟨gs,cs,H⟩:=eQ h.segs s;subst H;exact Br B b p D N n f g low gs cs pv v l d w h
 .have my:l.segs=[]:=List.length_eq_zero_iff.1 dp;have⟨a,m,c,H⟩:=dN h.segs;have i:m=0:=by
   subst H;rcases h.segs.2 with⟨e,o⟩|⟨k,z,r,e,_⟩
   .cases e;rfl
   .cases e;rw[my];rfl
  subst i H;have c1:=af h.blk 1;simp at c1;have e:bM l.segs low=0:=by rw[my];rfl
  rw[e];clear h e;go_enter func161,ntmps161;go_wp2;apply Bn 1;rw[wk];go_wp2;go_ret;exact⟨rfl,0,rfl⟩
theorem aaN(B g p D N n o q n':Nat)(X:List Nat)(pv s v:Value)(a:Option Addr)(k c:Nat)(l:au)(d:aj)(r:au×aj×Nat)(w:nL)(h:aM w B g p D N pv s v l d n o q)(hn:n<=n')(u:n'<=1000000000)
  (T:l.failed=0->Calls prog 139 #[.slice a k c] w (lM B g p D N n' X r w)) :
  Calls prog 156 #[gx g,.slice a k c] w (lM B g p D N n' X (l.wr d r) w):=by
 have t:=af h.blk 0;have i:=af h.blk 6;simp at t i;have I:=ah h;have z:=Nf p;by_cases hf:l.failed=0
 .rw[hf,aT]at i;have e:l.wr d r=({r.1 with failed:=r.2.2},r.2.1,r.2.2):=by unfold au.wr;rw[oo hf]
  rw[e];clear e;replace T:=T hf;go_enter func156,ntmps156;go_wp2_with fail;apply T.mono;rintro e A ⟨rfl,⟨mj,tV,gM,nK,nG,eK⟩,gq⟩;have H:=ah eK;have O:=ah gq;have x:=af eK.blk 6;have y:=aq eK.blk 6;simp at x;clear eK gq h;by_cases j:r.2.2=0
  .rw[j,aT];go_wp2;go_ret;obtain⟨L,f⟩:=H.out.fail (c:=0) rfl;unfold lM;simp only;rw[j];exact⟨rfl,⟨mj,tV,gM,nK,nG,L⟩,O.out.trans<|H.out.ofx L f (by intro k b _;simp at b;simp[b]) (bU.refl _ _) (bU.refl _ _)<|bU.refl _ _⟩
  .have he:=aV j;obtain⟨L,f⟩:=H.out.fail (c:=r.2.2) rfl;rw[he]at L f ⊢;have m:=ah L;clear L;go_wp2;go_ret;exact⟨by simp only;rw[he];rfl,⟨mj,tV,gM,nK,nG,m.out⟩,O.out.trans<|H.out.ofx m.out f (by intro k b _;simp at b;simp[b]) (bU.refl _ _) (bU.refl _ _)<|bU.refl _ _⟩
 .rw[aV hf]at i;have e:l.wr d r=(l,d,l.failed):=by unfold au.wr;rw[mE hf]
  rw[e];go_enter func156,ntmps156;go_wp2;go_ret;exact⟨by simp only;rw[aV hf];rfl,⟨pv,s,v,o,q,I.out.fW hn u⟩,(mJ.refl _ _ _).x⟩
theorem Lf:∀(rs:List Rec) (k:Nat),cM (rs.drop k)=(cM rs).drop (k*3):=by
 intro rs;induction rs with
 |nil=>grind[cM]
 |cons r rs ih=>
  intro k;cases k with
  |zero=>simp
  |succ k=>grind[dQ,cM]
theorem Tb(rs:List Rec):∀u∈cM rs,u.oneCell'=true:=by
 intro u a;simp only[cM,List.mem_flatMap]at a;have⟨r,_,h⟩:=a;simp[dQ]at h;obtain rfl|rfl|rfl:=h<;>rfl
theorem aaO(B r m c k:Nat)(rs:List Rec)(w:nL)(h:w.ownsRow B 89 3 (.slice (some<|gi r) m c) m<|cM rs)(l:rs.length=m)(n:m<=1000000000):
  Calls prog 166 #[.slice (some<|hP r<|k*3) (m-k)<|c-k] w λe w'=>∃v,e=.returned v/\w'.ownsRow w.heap.size 89 3 v (rs.drop k).length (cM<|rs.drop k)/\Below w.heap.size w w':=by
 have⟨f,i,a,b,d⟩:=tO Ak;have hlen:(rs.drop k).length=m-k:=by simp[l]
 refine(Tryz.slices_CloneR f _ 3 32 i a b d rfl du sizeOf89 r (k*3) (m-k) (c-k) (cM<|rs.drop k) w (by rw[tQ,hlen]) eE dp ?_<|Tb _).mono ?_
 .intro j u hu;rw[Lf,List.getElem?_drop]at hu;have:=h.cells rfl _ u hu;simpa [Addr.add_lit]using this
 .grind
theorem aaP(B s m cs k:Nat)(l:List Nat)(w:nL)(h:w.ownsRow B 34 1 (.slice (some<|gi s) m cs) m<|fC l)(b:l.length=m)(o:m<=1000000000):
  Calls prog 167 #[.slice (some<|hP s k) (m-k)<|cs-k] w λe w'=>∃v,e=.returned v/\w'.ownsRow w.heap.size 34 1 v (l.drop k).length (fC<|l.drop k)/\Below w.heap.size w w':=by
 have⟨n,i,c,d,f⟩:=tO wL;have hlen:(l.drop k).length=m-k:=by simp[b]
 refine(Tryz.slices_Clone n _ 1 8 i c d f rfl du sizeOf34 s k (m-k) (cs-k) (fC<|l.drop k) w (by rw[Su,hlen];omega) eE dp ?_<|by intro u a;unfold fC at a;obtain⟨x,_,rfl⟩:=zzq.1 a;rfl).mono ?_
 .intro j u a;have hu':(fC l)[k+j]?=some u:=by grind[fC]
  have:=h.cells rfl _ u hu';simpa [Addr.add_lit]using this
 .grind
theorem bU.Tc{s:Nat}{a:Value}{xs:List Value}(h:w.ownsRow s e k a n xs):bU s v a:=λq b=>.inr (h.lt q b).1
theorem aM.XA{z:Value}{rs:List Rec}(a:aM w B b p h N pv s z l d n D j)(F:Below w.heap.size w c)(q:c.ownsRow w.heap.size 89 3 v rs.length<|cM rs)(u:rs.length<=n):
  aM (c.setCell (hP b 3) v) B b p h N pv s v {l with recs:=rs} d n D j/\mJ b p w (c.setCell (hP b 3) v)/\Fr [b] w (c.setCell (hP b 3) v):=by
 have y:=(zza.1 a.blk).1;have M:=(F.block b y).trans a.blk;have⟨W,m⟩:∃W,W=c.setCell ⟨b,3,none⟩ v:=⟨_,rfl⟩;rw[<-m];have t:Fr [b] c W:=by grind[Fr.cG]
 have hf:=(Fr.bE F _).trans t;have hb:W.heap[b]?=some (o0 p s v {l with recs:=rs}):=by
  rw[m];have:=aF M 3 v;simpa using this
 have r:=ar q t λg i=>by simp;intro e;subst e;exact aQ q M du i
 have x:=ar a.segs hf (λg i o=>by
  simp at o;subst o;exact aQ a.segs a.blk du i)
 have L:=a.rows hf (by intro k f _;simp at f;exact .inl f) hb x (Joins.ownsRow_le r a.bP.base.2.2.2) (zzc _) a.bP.hn a.eJ u a.kQ a.iO a.nU;exact⟨L,a.C0 L hf (by intro k f _;simp at f;simp[f]) (.inl rfl) (bU.refl _ _) (bU.refl _ _)<|bU.Tc r,hf⟩
theorem aM.XB{A:Value}{ss:List Nat}(a:aM w B b p h N pv A r l d n D j)(F:Below w.heap.size w c)(q:c.ownsRow w.heap.size 34 1 v ss.length<|fC ss)(x:ss.length<=n/\∀s∈ss,s<2^64):
  aM (c.setCell (hP b 1) v) B b p h N pv v r {l with segs:=ss} d n D j/\mJ b p w (c.setCell (hP b 1) v)/\Fr [b] w (c.setCell (hP b 1) v):=by
 have z:=(zza.1 a.blk).1;have M:=(F.block b z).trans a.blk;have⟨W,m⟩:∃W,W=c.setCell ⟨b,1,none⟩ v:=⟨_,rfl⟩;rw[<-m];have u:Fr [b] c W:=by grind[Fr.cG]
 have hf:=(Fr.bE F _).trans u;have hb:W.heap[b]?=some (o0 p v r {l with segs:=ss}):=by
  rw[m];have:=aF M 1 v;simpa using this
 have t:=ar q u λg i=>by simp;intro e;subst e;exact aQ q M du i
 have y:=ar a.recs hf (λg i o=>by
  simp at o;subst o;exact aQ a.recs a.blk du i)
 have L:=a.rows hf (by intro k f _;simp at f;exact .inl f) hb (Joins.ownsRow_le t a.bP.base.2.2.2) y (zzc _) a.bP.hn x a.iC a.kQ a.iO a.nU;exact⟨L,a.C0 L hf (by intro k f _;simp at f;simp[f]) (.inl rfl) (bU.refl _ _) (bU.Tc t)<|bU.refl _ _,hf⟩
theorem Ff:∀{f k:Nat},k<segs.length->fF segs low f k<segs.length:=by
 intro f;induction f with
 |zero=>intro k h;exact h
 |succ f ih=>
  intro k h;by_cases a:k+1<segs.length
  .obtain⟨s,hs⟩:∃s,segs[k+1]?=some s:=⟨_,zzg a⟩;by_cases l:s<=low
   .grind [vy]
   .grind [vz]
  .grind [vx]
theorem wR(h:bM segs low≠0):bM segs low<segs.length:=by
 cases segs with
 |nil=>exact absurd rfl h
 |cons a t=>exact Ff dv
theorem aM.ltO{f:Nat}(a:aM w B b p h N pv s v l d n D f)(c:Own b p w k):k<w.heap.size:=by
 obtain e|e|e|e|e|e|e:=(a.own k).1 c
 .rw[e];exact(zza.1 a.blk).1
 .rw[e];exact(zza.1 a.bP.blk).1
 .rw[e];exact a.bP.lB.lt
 .rw[e];exact a.bP.now.lt
 .exact(a.bP.pen.lt k e).2
 .exact(a.segs.lt k e).2
 .exact(a.recs.lt k e).2
theorem lM.fW{l:Nat}{X:List Nat}{r:au×aj×Nat}{e:Ending}(a:lM B l p h N n X r w e w')(f:n<=m)(Z:m<=1000000000):lM B l p h N m X r w e w':=by
 have⟨b,⟨pv,s,v,D,g,c⟩,d⟩:=a;exact⟨b,⟨pv,s,v,D,g,c.fW f Z⟩,d⟩
theorem Pg(l:au)(d:aj)(gone first:Nat):(l.iP d gone first).1.segs=l.segs:=by grind[au.iP,t_]
theorem Ph(l:au)(d:aj)(gone first:Nat):(l.iP d gone first).1.recs=l.recs:=by grind[au.iP,Pf]
theorem dL(w:nL)(a i b j:Nat)(v:Value)(h:b≠a):(w.setCell (hP a i) v).cell? (hP b j)=w.cell? (hP b j):=
 zze (by
  by_cases hb:b<nF w
  .exact(Fr.cG (w:=w) (p:=a) (S:=[a]) (by simp) i v).block b hb<|by simpa using h
  .rw[Array.getElem?_eq_none (by simpa using hb),Array.getElem?_eq_none (by simpa using hb)])
def au.cut(l:au)(d:aj)(low:Nat):au × aj × Nat :=
 if bM l.segs low=0 then l.wr d (l.sync d) else
  let gone:=bM l.segs low
  let first:=l.segs.getD gone 0
  let r:=l.wr d (l.iP d gone first)
  if r.2.2=0 then ({ r.1 with recs:=r.1.recs.drop (first-(r.1.recs.headD ⟨0,0,[]⟩).cW),segs:=r.1.segs.drop gone },r.2.1,0) else r
theorem Td(g B b p D N n P Q low:Nat)(pv sv R:Value)(l:au)(d:aj)(w:nL)(a7:aM w B b p D N pv sv R l d n P Q)(hn:n+2+l.segs.length<=1000000000)(hB:2<=B)(dK:dJ w)
  (ag:g<=l.segs.length) (SX:l.failed=0->bM l.segs low≠0->l.qR d (bM l.segs low) (l.segs.getD (bM l.segs low) 0)<=g) (hinv:l.failed=0->∀k s:Nat,l.segs[k]?=some s->∃r rs,l.recs=r::rs/\r.cW<=s/\s-r.cW<l.recs.length) :
  Calls prog 100 #[gx b,.int .u64 (low:Int)] w (lO B b p D N (n+2+g) (l.cut d low) w):=by
 have DB:n+2+g<=1000000000:=dp;have ax:Hid (l.failed=0->bM l.segs low≠0->l.qR d (bM l.segs low) (l.segs.getD (bM l.segs low) 0)<=g):=SX;clear SX;have H:Hid (aM w B b p D N pv sv R l d n P Q):=a7;clear a7;by_cases G:bM l.segs low=0
 .have e:l.cut d low=l.wr d (l.sync d):=by unfold au.cut;rw[oo G]
  rw[e];go_enter func100,ntmps100
  go_wp2_with fail;have I:Fr [] w (w.alloc<|.cells #[.pointer<|some ⟨b,0,none⟩] 66):=(fU w).alloc _;refine(uR B b p D N n P Q low pv sv R l d _<|H.out.new I).mono ?_;rintro e f ⟨rfl,q,mR⟩;rw[G];have Y:Fr [] w f:=by rw[mR];exact⟨I.os,I.tape,I.output,I.size,I.block⟩
  have E:f.heap[w.heap.size]?=some (.cells #[.pointer<|some ⟨b,0,none⟩] 66):=by rw[mR];exact oz w _
  have U:=af E 0;simp at U;have eK:w.heap.size<f.heap.size:=(zza.1 E).1;have uL:Hid (Fr [] w f):=Y;clear mR I Y E;go_wp2_with fail;have bH:Fr [] w ((f.alloc<|.cells #[.int .i64 0] 3).alloc<|.cells #[.func (.func 140) #[.pointer<|some ⟨b,0,none⟩] #[]] 147):=(uL.out.alloc _).alloc _;refine(Ta B b p D N n P Q (f.heap.size+1) pv sv R l d _ (H.out.new bH) dp<|(congrArg _ dv).trans<|oz _ _).mono ?_;rintro e w2 ⟨rfl,⟨CG,SE,J8,DM,C1,eL⟩,ik⟩;have H2:Hid (lO B b p D N (n+2+g) (l.wr d<|l.sync d) w (.returned<|bB (l.wr d<|l.sync d).2.2) w2):=⟨rfl,⟨CG,SE,J8,DM,C1,eL.fW dp DB⟩,(H.out.zS bH).trans ik.C0⟩;clear eL ik;go_wp2;go_ret;exact H2.out
 .obtain⟨gone,Ia⟩:∃gone,bM l.segs low=gone:=⟨_,rfl⟩;have nA:gone<l.segs.length:=by rw[<-Ia];exact wR G
  have⟨first,pD⟩:∃first,l.segs[gone]?=some first:=⟨_,zzg nA⟩
  have⟨V,cs,Hh⟩:=eQ H.out.segs dp;subst Hh;have b6:first<18446744073709551616:=H.out.eJ.2 first<|zzh pD
  have s0:=n_ H.out.segs gone first pD
  have c1:=af H.out.blk 1;simp at c1;have XC:Hid (l.segs[gone]?=some first):=pD
  have ay:Hid (l.failed=0->n+2+l.qR d gone first<=n+2+g):=λhf=>by
   have h1:=ax.out hf G;have e:l.segs.getD gone 0=first:=by rw[Il,pD];rfl
   rw[Ia,e]at h1;omega
  have qM:=(zza.1 H.out.blk).1;have ag:=(H.out.segs.lt V rfl).2;clear pD;go_enter func100,ntmps100
  go_wp2_with fail;have I:Fr [] w (w.alloc<|.cells #[.pointer<|some ⟨b,0,none⟩] 66):=(fU w).alloc _;refine(uR B b p D N n P Q low pv _ R l d _<|H.out.new I).mono ?_;rintro e f ⟨rfl,q,mR⟩;rw[Ia];have Y:Fr [] w f:=by rw[mR];exact⟨I.os,I.tape,I.output,I.size,I.block⟩
  have E:f.heap[w.heap.size]?=some (.cells #[.pointer<|some ⟨b,0,none⟩] 66):=by rw[mR];exact oz w _
  have U:=af E 0;simp at U;have eK:w.heap.size<f.heap.size:=(zza.1 E).1;have uL:Hid (Fr [] w f):=Y;have an:Hid (f.heap[w.heap.size]?=some (.cells #[.pointer<|some ⟨b,0,none⟩] 66)):=E;have d1:f.cell? ⟨b,1,none⟩=some (.slice (some ⟨V,0,none⟩) l.segs.length cs):=(zze (a:=⟨b,1,none⟩)<|Y.block b qM dv).trans c1;have t1:f.cell? ⟨V,gone,none⟩=some (.int .u64 (first:Int)):=(zze (a:=⟨V,gone,none⟩)<|Y.block V ag dv).trans s0;have k0:¬(gone:Int)=0:=dp
  have k1:((gone:Int)==0)=false:=by simpa using k0
  have k2:(gone:Int)<(l.segs.length:Int):=dp;have k3:(0:Int)<=gone:=dp;clear mR I Y E c1 s0;have aE:b<f.heap.size:=dp;have aI:V<f.heap.size:=dp;go_wp2_with fail;go_region;go_wp2_with fail;have⟨W,Z⟩:∃W:nL,W=(((f.alloc<|.cells #[.int .i64 (gone:Int)] 3).alloc<|.cells #[.int .u64 (first:Int)] 34).alloc<|.cells #[.func (.func 140) #[.pointer<|some ⟨b,0,none⟩] #[],.func (.func 162) #[] #[.pointer<|some ⟨w.heap.size,0,none⟩,.pointer<|some ⟨f.heap.size+1,0,none⟩],.func (.func 164) #[] #[.pointer<|some ⟨w.heap.size,0,none⟩,.pointer<|some ⟨f.heap.size,0,none⟩]] 147).drew:=⟨_,rfl⟩;rw[<-Z];have fu:Fr [] w W:=by rw[Z];exact(((uL.out.alloc _).alloc _).alloc _).drew
  have gI:Fr [] f W:=by rw[Z];exact((((fU f).alloc _).alloc _).alloc _).drew
  have zT:W.heap[f.heap.size+1+1]?=some (.cells #[.func (.func 140) #[.pointer<|some ⟨b,0,none⟩] #[],.func (.func 162) #[] #[.pointer<|some ⟨w.heap.size,0,none⟩,.pointer<|some ⟨f.heap.size+1,0,none⟩],.func (.func 164) #[] #[.pointer<|some ⟨w.heap.size,0,none⟩,.pointer<|some ⟨f.heap.size,0,none⟩]] 147):=by
   rw[Z];exact(congrArg _ dv).trans<|oz _ _
  have XD:W.heap[f.heap.size]?=some (.cells #[.int .i64 (gone:Int)] 3):=by
   rw[Z];exact(zzf _ _ _ ef).trans<|(zzf _ _ _ dv).trans<|oz _ _
  have Te:W.heap[f.heap.size+1]?=some (.cells #[.int .u64 (first:Int)] 34):=by
   rw[Z];exact(zzf _ _ _ dv).trans<|(congrArg _ dv).trans<|oz _ _
  have zX:W.heap[w.heap.size]?=some (.cells #[.pointer<|some ⟨b,0,none⟩] 66):=(gI.block _ eK dv).trans an.out;have nV:=H.out.new fu;have Nl:¬Own b p W (f.heap.size+1):=λho=>by
   have:=H.out.ltO<|(H.out.own _).2<|(nV.own _).1 ho;omega
  have aA:dJ W:=dK.cZ (fu.block 1 (by have:=H.out.bP.base.2.2.2;omega) dv);have⟨x,E⟩:∃x,w.heap.size=x:=⟨_,rfl⟩;have⟨j,oV⟩:∃j,f.heap.size=j:=⟨_,rfl⟩;have rU:b<x/\x<j:=dp
  have b5:j+1<W.heap.size:=by rw[<-oV];exact(zza.1 Te).1
  have W_:Hid (mJ b p w W):=H.out.zS fu;rw[E]at zT zX ⊢;rw[oV]at zT XD Te Nl ⊢;have H3:Hid (aM W B b p D N pv (.slice (some ⟨V,0,none⟩) l.segs.length cs) R l d n P Q):=nV;have rG:=aaN B b p D N n P Q (n+2+g) [] pv _ R (some ⟨j+1+1,0,none⟩) 3 3 l d (l.iP d gone first) W nV dp DB (λI=>(Xz B b p D N n P Q (j+1+1) x (j+1) j first gone pv _ R l d W nV dp hB aA b6 dp dp zT zX Te Nl XD).mono λe w' a7=>a7.fW (ay.out I) DB);have aW:Hid (W.heap[x]?=some (.cells #[.pointer<|some ⟨b,0,none⟩] 66)):=zX;have ao:Hid (W.heap[j+1]?=some (.cells #[.int .u64 (first:Int)] 34)/\¬Own b p W (j+1)):=⟨Te,Nl⟩;have aX:Hid (W.heap[j]?=some (.cells #[.int .i64 (gone:Int)] 3)):=XD;clear Z fu gI zT XD Te zX Nl nV E oV U uL d1 t1 an eK aE aI ag qM;refine rG.mono ?_;rintro e h ⟨rfl,⟨Rj,sv4,rv4,nD4,nN4,y⟩,oX⟩;clear rG;have z:Hid (aM h B b p D N Rj sv4 rv4 (l.wr d<|l.iP d gone first).1 (l.wr d<|l.iP d gone first).2.1 (n+2+g) nD4 nN4):=y;have ad:Hid (mJ b p W h):=oX.C0;clear y oX;by_cases M:(l.wr d<|l.iP d gone first).2.2=0
  .have X:l.failed=0:=by
    by_cases X:l.failed=0
    .exact X
    .exfalso;unfold au.wr at M;rw[mE X]at M;exact X M
   have⟨J,rs,CI,si,zo⟩:=hinv X gone first XC.out
   have⟨L,hL⟩:=gb <|(l.wr d<|l.iP d gone first).1;have⟨ab,hD⟩:=gb <|(l.wr d<|l.iP d gone first).2.1;have ae:L.segs=l.segs:=by rw[hL];unfold au.wr;rw[oo X];exact Pg l d gone first
   have a8:L.recs=l.recs:=by rw[hL];unfold au.wr;rw[oo X];exact Ph l d gone first
   have hcut:Hid (l.cut d low=({L with recs:=L.recs.drop<|first-J.cW,segs:=L.segs.drop gone},ab,0)):=by
    show l.cut d low=_;unfold au.cut;rw[mE G,Ia];simp only;rw[show l.segs.getD gone 0=first by rw[Il,XC.out];rfl,oo M,<-hL,<-hD,a8,CI];rfl
   rw[<-hL,<-hD]at z;have y:=z.out;have⟨A,cr,b7⟩:=eQ y.recs (by rw[a8,CI];simp);have⟨g5,c5,Hh⟩:=eQ y.segs (by rw[ae];omega);subst b7 Hh;have⟨k,hk⟩:=gb <|first-J.cW
   have⟨m,O⟩:=gb L.recs.length;have ba:k<m:=by rw[hk,O,a8];exact zo
   have zR:∀{q:Nat} {c:Array Value} {t:TypeId},W.heap[q]?=some (.cells c t (0,0))->t≠65->t≠200->t≠177->t≠34->t≠89->h.heap[q]?=some (.cells c t (0,0)):=λ{q c t} G h1 h2 h3 h4 h5=>
    (ad.out.block q (zza.1 G).1<|H3.out.free G h1 h2 h3 h4 h5).trans G
   have e0:=zR aW.out (by decide) du du du du;have e2:=zR aX.out (by decide) (by decide) du du du;have e1:=(ad.out.block (j+1) b5 ao.2).trans ao.1;have a0:h.cell? ⟨x,0,none⟩=some (.pointer<|some ⟨b,0,none⟩):=(af e0 0).trans dv;have a1:h.cell? ⟨j+1,0,none⟩=some (.int .u64 (first:Int)):=(af e1 0).trans dv;have a2:h.cell? ⟨j,0,none⟩=some (.int .i64 (gone:Int)):=(af e2 0).trans dv;have a3:h.cell? ⟨b,3,none⟩=some (.slice (some ⟨A,0,none⟩) m cr):=by rw[O];exact(af y.blk 3).trans dv
   have a4:h.cell? ⟨A,0,none⟩=some (.int .u64 (J.cW:Int)):=by
    have:=y.recs.cells (g:=A) rfl 0 (.int .u64 (J.cW:Int))<|by rw[a8,CI];rfl
    simpa [Addr.add_lit]using this
   have a5:h.frozen? ⟨b,3,none⟩=false:=aq y.blk 3;have j1:IntKind.u64.wrap ((first:Int)-(J.cW:Int))=(k:Int):=by rw[Bl];omega
   have j2:(k:Int)<=m:=dp;have j3:m<=cr:=by
    rcases y.recs.2 with⟨e,_⟩|⟨g',mz,b4,e,_,_,h3,h4,_⟩
    .cases e
    .cases e;rw[O];exact h3
   have j4:(k:Int)<=cr:=dp;have j5:0<m:=dp;have j6:¬cr=k:=dp;have bb:m<=n+2+g:=by rw[O];exact y.iC
   have a':b<h.heap.size/\x<h.heap.size/\j+1<h.heap.size/\A<h.heap.size:=⟨(zza.1 y.blk).1,(zza.1 e0).1,(zza.1 e1).1,(y.recs.lt A rfl).2⟩;have HE:Hid (h.heap[x]?=some (.cells #[.pointer<|some ⟨b,0,none⟩] 66)/\h.heap[j]?=some (.cells #[.int .i64 (gone:Int)] 3)):=⟨e0,e2⟩;have al:Hid (L.recs=l.recs/\L.segs=l.segs/\k=first-J.cW/\m=L.recs.length/\l.recs=J::rs/\J.cW<=first):=⟨a8,ae,hk,O,CI,si⟩;clear hL hD a8 ae hk CI si zo y hinv e0 e1 e2 zR;have Pj:=aaO B A m cr k L.recs h.drew (by rw[O];exact z.out.recs) O.symm dp;have b0:Hid (Calls prog 166 #[.slice (some ⟨A,k*3,none⟩) (m-k)<|cr-k] h.drew λe w'=>∃v,e=.returned v/\w'.ownsRow h.drew.heap.size 89 3 v (L.recs.drop k).length (cM<|L.recs.drop k)/\Below h.drew.heap.size h.drew w'):=Pj;have aa:x≠b/\j+1≠b/\A≠b:=⟨dp,dp,λe=>aQ z.out.recs z.out.blk du<|by rw[e];rfl⟩;have o_:0<(L.recs.drop k).length:=ef
   clear O Pj;rw[M,aT];clear M;go_wp2_with fail;refine wp_region_held_drew (S:=(λw'=>w'.cell? ⟨x,0,none⟩=some (.pointer<|some ⟨b,0,none⟩)/\w'.cell? ⟨j+1,0,none⟩=some (.int .u64 (first:Int))/\w'.cell? ⟨A,0,none⟩=some (.int .u64 (J.cW:Int)))) eu ?_ (λC=>?_)
   .simp[*]
   refine b_ 0 ?_;refine b_ 1 ?_;refine b_ 2 ?_;refine b_ 3 ?_;refine b_ 5 ?_;refine b_ 6 ?_;refine b_ 7 ?_;refine b_ 8 ?_;(try simp only[Act.put,mA,hU,mI]);refine um (rs:=[4,9]) eu dv ?_;refine yg (λK o=>?_)<|yg (λK o=>?_) ua
   focus
    go_simp;refine o.out _ _ ?_ λC=>?_
    .simp[*]
    clear o K;(try simp only[Act.put,mA,hU,mI]);refine um (rs:=[9]) eu dv ?_;refine yg (λK o=>?_) ua;go_simp;refine o.out _ _ ?_ λC=>?_
    .simp[*]
    clear o K;(try simp only[Act.put,mA,hU,mI]);refine b_ 10 ?_;refine b_ 11 ?_;refine b_ 12 ?_;(try simp only[Act.put,mA,hU,mI]);refine wpAnyH_take (i:=13) (oi:=⟨some 48,.binOp BinOp.sub 34 (.tmp 40) (.tmp 47) 34,34,"log.go:68",#[⟨5,.data⟩,⟨12,.data⟩],none⟩) (v:=.int .u64 (k:Int)) rfl eu eu eu (λ_ _ _ a7=>a7) (Or.inl ⟨by rfl,?_⟩) eS ?_
    .intro w hSw;(try dsimp only at hSw);go_simp
   rotate_left;focus
    go_simp;refine o.out _ _ ?_ λC=>?_
    .simp[*]
    clear o K;(try simp only[Act.put,mA,hU,mI]);refine b_ 10 ?_;refine b_ 11 ?_;refine b_ 12 ?_;refine b_ 13 ?_;(try simp only[Act.put,mA,hU,mI]);refine um (rs:=[4]) eu dv ?_;refine yg (λK o=>?_) ua;go_simp;refine o.out _ _ ?_ λC=>?_
    .simp[*]
    clear o K
   all_goals
    (try simp only[Act.put,mA,hU,mI]);refine b_ 14 ?_;(try simp only[Act.put,mA,hU,mI]);refine um (rs:=[15]) eu dv ?_;refine Jc rfl (λK o=>?_) ua;go_simp;refine b0.out.mono ?_;rintro e T ⟨v5,rfl,vt,rF⟩;have⟨g6,c6,b8⟩:=eQ vt o_;subst b8;have hb:Below h.heap.size h T:=⟨rF.os,rF.tape,rF.output,rF.size,rF.block⟩;have U:=(hb.cell (p:=⟨x,0,none⟩) a'.2.1).trans a0;have x2:=(hb.cell (p:=⟨j+1,0,none⟩) a'.2.2.1).trans a1;have x3:=(hb.cell (p:=⟨b,3,none⟩) a'.1).trans a3;have x4:=(hb.cell (p:=⟨A,0,none⟩) a'.2.2.2).trans a4;have x5:T.frozen? ⟨b,3,none⟩=false:=(zzw (a:=⟨b,3,none⟩)<|hb.block b a'.1).trans a5;have y1:=λv=>(dL T b 3 x 0 v aa.1).trans U;have y2:=λv=>(dL T b 3 (j+1) 0 v aa.2.1).trans x2;have y4:=λv=>(dL T b 3 A 0 v aa.2.2).trans x4;have H5:Hid (T.ownsRow h.heap.size 89 3 (.slice (some ⟨g6,0,none⟩) (L.recs.drop k).length c6) (L.recs.drop k).length (cM<|L.recs.drop k)/\Below h.heap.size h T):=⟨vt,hb⟩;clear vt rF hb
    go_wp2_with fail;refine o.out _ _ ?_ λC=>?_
    .simp[*]
    clear o K;(try simp only[Act.put,mA,hU,mI]);refine b_ 16 ?_;refine b_ 17 ?_;(try simp only[Act.put,mA,hU,mI]);refine um (rs:=[18]) eu dv ?_;refine Jc rfl (λK o=>?_) ua;go_simp;refine o.out _ _ ?_ λC=>?_
    .simp[*]
    clear o K;(try simp only[Act.put,mA,hU,mI]);refine Cj eu ?_ _;go_wp2_with fail;have⟨u,pE⟩:∃u:nL,u=T.setCell ⟨b,3,none⟩ (.slice (some ⟨g6,0,none⟩) (L.recs.length-k) c6):=⟨_,rfl⟩;rw[<-pE];clear C;have F:=z.out.XA H5.2 H5.1 (by simp;have:=z.out.iC;omega);rw[zzz,<-pE]at F;have b1:=(F.2.2.block x a'.2.1<|by simpa using aa.1).trans HE.1;have b2:=(F.2.2.block j dp ef).trans HE.2;have z1:u.cell? ⟨x,0,none⟩=some (.pointer<|some ⟨b,0,none⟩):=(af b1 0).trans dv;have z2:u.cell? ⟨j,0,none⟩=some (.int .i64 (gone:Int)):=(af b2 0).trans dv;have⟨ns,DA⟩:=gb L.segs.length;have z3:u.cell? ⟨b,1,none⟩=some (.slice (some ⟨g5,0,none⟩) ns c5):=by rw[DA];exact(af F.1.blk 1).trans dv
    have z5:u.frozen? ⟨b,1,none⟩=false:=aq F.1.blk 1;have b':gone<ns:=by rw[DA,al.2.1];exact nA
    have Pm:ns<=c5:=by
     rcases F.1.segs.2 with⟨e,_⟩|⟨g',mz,b4,e,_,_,h3,h4,_⟩
     .cases e
     .cases e;rw[DA];exact h3
    have l1:(gone:Int)<=ns:=dp;have l2:(gone:Int)<=c5:=dp;have l3:¬c5=gone:=dp;have av:Hid (Calls prog 167 #[.slice (some ⟨g5,gone,none⟩) (ns-gone)<|c5-gone] u.drew λe w'=>∃v,e=.returned v/\w'.ownsRow u.drew.heap.size 34 1 v (L.segs.drop gone).length (fC<|L.segs.drop gone)/\Below u.drew.heap.size u.drew w'):=aaP B g5 ns c5 gone L.segs u.drew (by rw[DA];exact F.1.segs) DA.symm (by have h7:L.segs.length<=n+2+g:=z.out.eJ.1;omega);have Pn:b<u.heap.size/\x<u.heap.size/\j<u.heap.size:=⟨(zza.1 F.1.blk).1,(zza.1 b1).1,(zza.1 b2).1⟩;have b3:0<(L.segs.drop gone).length:=ef
    have Q6:Hid (aM u B b p D N Rj (.slice (some ⟨g5,0,none⟩) L.segs.length c5) (.slice (some ⟨g6,0,none⟩) (L.recs.length-k) c6) {L with recs:=L.recs.drop k} ab (n+2+g) nD4 nN4/\mJ b p h u):=⟨F.1,F.2.1⟩;clear F b1 b2 DA pE;refine wp_region_held_drew (S:=(λw'=>w'.cell? ⟨x,0,none⟩=some (.pointer<|some ⟨b,0,none⟩)/\w'.cell? ⟨j,0,none⟩=some (.int .i64 (gone:Int)))) eu ?_ (λC=>?_)
    .simp[*]
    refine b_ 0 ?_;refine b_ 1 ?_;refine b_ 2 ?_;refine b_ 3 ?_;refine b_ 5 ?_;(try simp only[Act.put,mA,hU,mI]);refine um (rs:=[4]) eu dv ?_;refine yg (λK o=>?_) ua;go_simp;refine o.out _ _ ?_ λC=>?_
    .simp[*]
    clear o K;(try simp only[Act.put,mA,hU,mI]);refine b_ 6 ?_;(try simp only[Act.put,mA,hU,mI]);refine um (rs:=[7]) eu dv ?_;refine Jc rfl (λK o=>?_) ua;go_simp;refine av.out.mono ?_;rintro e w7 ⟨v7,rfl,XE,uS⟩;have⟨g8,c8,b9⟩:=eQ XE b3;subst b9;have hb:Below u.heap.size u w7:=⟨uS.os,uS.tape,uS.output,uS.size,uS.block⟩;have U:=(hb.cell (p:=⟨x,0,none⟩) Pn.2.1).trans z1;have x2:=(hb.cell (p:=⟨j,0,none⟩) Pn.2.2).trans z2;have x3:=(hb.cell (p:=⟨b,1,none⟩) Pn.1).trans z3;have x5:w7.frozen? ⟨b,1,none⟩=false:=(zzw (a:=⟨b,1,none⟩)<|hb.block b Pn.1).trans z5;have y1:=λv=>(dL w7 b 1 x 0 v aa.1).trans U
    have y2:=λv=>(dL w7 b 1 j 0 v dp).trans x2
    have H7:Hid (w7.ownsRow u.heap.size 34 1 (.slice (some ⟨g8,0,none⟩) (L.segs.drop gone).length c8) (L.segs.drop gone).length (fC<|L.segs.drop gone)/\Below u.heap.size u w7):=⟨XE,hb⟩;clear XE uS hb;go_wp2_with fail;refine o.out _ _ ?_ λC=>?_
    .simp[*]
    clear o K;(try simp only[Act.put,mA,hU,mI]);refine b_ 8 ?_;refine b_ 9 ?_;(try simp only[Act.put,mA,hU,mI]);refine um (rs:=[10]) eu dv ?_;refine Jc rfl (λK o=>?_) ua;go_simp;refine o.out _ _ ?_ λC=>?_
    .simp[*]
    clear o K;(try simp only[Act.put,mA,hU,mI]);refine Cj eu ?_ _;have q8:=Q6.1.XB H7.2 H7.1 ⟨by have h7:L.segs.length<=n+2+g:=z.out.eJ.1;simp;omega,λs hs=>z.out.eJ.2 s<|List.mem_of_mem_drop hs⟩;rw[zzz]at q8
    have H8:Hid (lO B b p D N (n+2+g) (l.cut d low) w (.returned .nilIface)<|w7.setCell ⟨b,1,none⟩<|.slice (some ⟨g8,0,none⟩) (L.segs.length-gone) c8):=by
     show lO _ _ _ _ _ _ _ _ _ _;rw[hcut.out,<-al.2.2.1];exact⟨rfl,⟨Rj,_,_,nD4,nN4,q8.1⟩,W_.out.trans<|ad.out.trans<|Q6.2.trans q8.2.1⟩
    clear q8;go_wp2;go_ret;exact H8.out
  .have e:l.cut d low=l.wr d (l.iP d gone first):=by unfold au.cut;rw[mE G,Ia];simp only;rw[show l.segs.getD gone 0=first by rw[Il,XC.out];rfl,mE M]
   have H5:Hid (lO B b p D N (n+2+g) (l.cut d low) w (.returned<|bB (l.wr d<|l.iP d gone first).2.2) h):=by
    show lO _ _ _ _ _ _ _ _ _ _;rw[e];exact⟨rfl,⟨Rj,sv4,rv4,nD4,nN4,z.out⟩,W_.out.trans ad.out⟩
   rw[aV M]at H5 ⊢;go_wp2;go_ret;exact H5.out
abbrev kS(a b c d:Int):Value:=.agg #[.int .i64 a,.int .i64 b,.int .i64 c,.int .i64 d]
def aj.aJ(d:aj)(a b:Int):aj:={ d with left:=a,full:=b }
section
variable{w w':nL}{B hp I p h E n J O:Nat}{pv g f:Value}{l:au}{d:aj}
theorem aM.aJ(e:aM w B I p h E pv g f l d n J O)(a b:Int)(hf:Fr [p] w w')(hb:w'.heap[p]?=some (lH h E pv a b d.down)):
  aM w' B I p h E pv g f l (d.aJ a b) n J O/\mJ I p w w':=by
 have i:=e.turned (e.bP.fL hf a b d.down hb) hf (λk c _=>e.sep k<|by simp at c;simp[c])<|zzc _;exact⟨i,e.C0 i hf (λk c _=>by simp at c;simp[c]) (.inl rfl) (bU.refl _ _) (bU.refl _ _)<|bU.refl _ _⟩
end
theorem pW(c:Nat)(w:nL)(g:Met w):Calls prog 35 #[bB c] w λe w'=>e=.returned (.int .i64 (c:Int))/\Fr [] w w':=by
 by_cases h:c=0
 .subst h;rw[aT];apply(Sj w).mono;rintro e a ⟨rfl,hb⟩;exact⟨rfl,Fr.bE hb _⟩
 .rw[aV h];apply(Sk (c:Int) w g).mono;rintro e a ⟨rfl,hb⟩;exact⟨rfl,Fr.bE hb _⟩
abbrev C5(p:Nat):Obj:=.cells #[gx p] 273
theorem mJ.qD{a:Nat}(hf:mJ a p w w')(c:aM w B a p h N pv s v l d n D e)(b:w.heap[q]?=some (C5 a)):w'.heap[q]?=some (C5 a):=
 (hf.block q (zza.1 b).1<|c.free b du du du du du).trans b
theorem zp(B a p D N n b c kind:Nat)(pv f v:Value)(l:au)(d:aj)(s:nS)(w:nL)(h:aM w B a p D N pv f v l d n b c)(k:kind<256)(hn:n+3<1000000000)(i:2<=B)(M:l.filled<600->l.segs≠[])(K:dJ w):
  Calls prog 98 #[gx a,.int .u8 (kind:Int),.string s] w (E6 B a p D N (n+3) (l.append d kind s) w):=by
 by_cases g:255<s.size
 .refine(KT B a p D N n b c kind pv f v l d s w h g dp).mono ?_;rintro e w2 ⟨he,⟨CG,SE,J8,DM,C1,eL⟩,ik⟩;exact⟨he,⟨CG,SE,J8,DM,C1,eL.fW dp dp⟩,ik⟩
 .grind [Hj]
def au.note(l:au)(d:aj)(kind:Nat)(s:nS):au × aj × Nat:=((l.append d kind s).1,(l.append d kind s).2.1,(l.append d kind s).2.2.2)
theorem wS(B g a p D N n c f kind:Nat)(pv i v:Value)(l:au)(d:aj)(s:nS)(w:nL)(b:w.heap[g]?=some (C5 a))(h:aM w B a p D N pv i v l d n c f)(m:kind<256)(hn:n+3<1000000000)(k:2<=B)(M:l.filled<600->l.segs≠[])(K:dJ w):
  Calls prog 188 #[gx g,.int .u8 (kind:Int),.string s] w (lO B a p D N (n+3) (l.note d kind s) w):=by
 have j:=af b 0;simp at j;have C:=ah<|zp B a p D N n c f kind pv i v l d s w h m hn k M K;clear h b
 go_enter func188,ntmps188;go_wp2_with fail;apply C.out.mono;rintro e o ⟨rfl,eK,gq⟩;have H:=ah<|zzb eK gq;clear eK gq;go_wp2;go_ret;exact⟨rfl,H.1,H.2⟩
def au.keep(l:au)(d:aj)(kind:Nat)(s:nS):au × aj × Nat :=
 if (l.note d kind s).2.2=0 then (l.note d kind s).1.force (l.note d kind s).2.1 else l.note d kind s
theorem Ib(B g a p D N n i j kind:Nat)(pv k v:Value)(l:au)(d:aj)(s:nS)(w:nL)(b:w.heap[g]?=some (C5 a))(h:aM w B a p D N pv k v l d n i j)(r:kind<256)(hn:n+3<1000000000)(o:2<=B)(M:l.filled<600->l.segs≠[])(K:dJ w):
  Calls prog 185 #[gx g,.int .u8 (kind:Int),.string s] w (lO B a p D N (n+3) (l.keep d kind s) w):=by
 have C:=ah<|wS B g a p D N n i j kind pv k v l d s w b h r hn o M K;have G:=ah<|zzb b h;clear h b
 go_enter func185,ntmps185;go_wp2_with fail;apply C.out.mono;rintro e t ⟨rfl,⟨mj,tV,gM,nK,nG,eK⟩,gq⟩;have q:=gq.qD G.2 G.1;have m:=af q 0;simp at m;have H:=ah<|zzb eK gq;clear eK gq q;by_cases c:(l.note d kind s).2.2=0
 .have e:l.keep d kind s=(l.note d kind s).1.force (l.note d kind s).2.1:=by unfold au.keep;rw[oo c]
  rw[c,aT];go_wp2_with fail;apply(Pe B a p D N (n+3) nK nG mj tV gM _ _ t H.1 dp).mono;rintro e w2 ⟨rfl,eL,ik⟩;have f:=ah<|zzb eL<|H.2.trans ik;clear eL ik;go_wp2;go_ret;rw[e];exact⟨rfl,f.1,f.2⟩
 .have e:l.keep d kind s=l.note d kind s:=by unfold au.keep;rw[mE c]
  rw[aV c];go_wp2;go_ret;rw[e];exact⟨by rw[aV c];rfl,⟨mj,tV,gM,nK,nG,H.1⟩,H.2⟩
abbrev iE(a b c d:Int):Obj:=.cells #[.int .i64 a,.int .i64 b,.int .i64 c,.int .i64 d] 30
theorem qQ.ofO{W:nL}{n' s r M C:Nat}{c f:Value}{l':au}{g:aj}(i:aC w B p h N pv g m M C)(j:aM W B b p h N pv (.slice none 0 0) (.slice none 0 0) l d n D q)(hf:Fr [] w W)(t:w.heap.size<=b)(o:mJ b p W w')(z:aM w' B b p h N V c f l' d' n' s r):qQ p w w':=by
 have y:∀k,k<w.heap.size->Own b p W k->nj p w k:=λk a O=>by
  rw[i.fI];rcases (j.own k).1 O with e|e|e|e|e|e|e
  .omega
  .simp[e]
  .simp[e]
  .simp[e]
  .simp[e]
  .cases e
  .cases e
 refine⟨o.os.trans hf.os,o.tape.trans hf.tape,o.output.trans hf.output,zzk hf.size o.size,λk a hn=>?_,λk a hD=>?_⟩
 .exact(o.block k (zzl a hf.size) λO=>hn<|y k a O).trans<|hf.block k a dv
 .refine y k a<|o.stay k (zzl a hf.size) ?_;have:=(z.bP.fI k).1 hD;rw[z.own];simp at this;obtain e|e|e|e:=this<;>simp[e]
section
open Go.Shelf
variable{S:List Nat}{A B:nL}
structure nP(S:List Nat)(A B:nL):Prop where
 size:A.heap.size<=B.heap.size
 same:∀k∈S,k<A.heap.size->B.heap[k]?=A.heap[k]?
theorem nP.trans{C:nL}(h:nP S A B)(k:nP S B C):nP S A C:=
 ⟨zzk h.size k.size,λi a l=>(k.same i a<|zzl l h.size).trans<|h.same i a l⟩
theorem nP.book{w:nL}(h:∀k∈S,k<w.heap.size)(W:nL)(l:Nat)(o b:Obj)(c:w.heap.size<=l)(_:W.heap[l]?=some o)(_:o.isCells=false)(_:o.isWalk=false):nP S W (W.putObj l b):=
 ⟨dv,λk a _=>qY λe=>by have:=h k a;omega⟩
theorem nP.alloc(W:nL)(o:Obj):nP S W (W.alloc o):=⟨dv,λk _ l=>zzf _ _ k l⟩
theorem nP.refl{S:List Nat}(W:nL):nP S W W:=⟨zzc _,λ_ _ _=>rfl⟩
theorem nP.below{n:Nat}(h:Below n A B)(a:∀k∈S,k<n):nP S A B:=⟨h.size,λk b _=>h.block k<|a k b⟩
def rowsOf(v:Value):List Nat:=v.ownBlock.toList
theorem Tf(n:Nat)(hn:1<=n)(l B q g z:Nat)(rs:List Rec)(hlen:rs.length<=1000000000)(J d:List Rec->nL->Prop)
  (F:∀s W b,J s W->W.grownBy b none->J s b)
  (Y:∀p x W,J p W->p.length<rs.length->x∈rs->YieldAt Fence.wide (n-1) prog l #[Hy x] W λe b=>
   (e=.returned (.bool true)/\J (p++[x]) b/\nP [g] W b)\/(e=.returned (.bool false)/\d (p++[x]) b))
  (W:nL) (I:g<W.heap.size) (X:W.cell? (gi B)=some (gx q)) (D:W.cell? (hP q 3)=some (.slice (some<|gi g) rs.length z)) (R:ye W g rs) (C:J [] W) :
  CallsIn Fence.wide n prog 154 #[.func (.yield l) #[] #[],gx B] W λe b=>(∃v,e=.returned v) /\
   ((∃y,y=rs/\J y b)\/(∃p,p<+:rs/\d p b)):=by
 have⟨m,h⟩:=gb rs.length;rw[<-h]at D hlen;have M:=ah h;have H:Fence.wide.round=none:=rfl;clear h;refine callsIn_of_wp func154 rfl trivial ?_ H;simp only[ntmps154,ji,zzr,jn,Nat.reduceAdd,Nat.reduceSub,mK,jo,j7,j8,kV,lC];gi_wp2;gi_loopw [10] (λi wr=>∃k:Nat,k<=m/\i=.int .i64 k/\J (rs.take k) wr/\nP [g] W wr)
  (λi _=>m-(intOf i).toNat)
 .exact⟨0,zzs _,rfl,by simpa using C,nP.refl _⟩
 case round=>
  obtain⟨k,O,rfl,f,o⟩:=hrel;by_cases L:k<m
  .obtain⟨r,hr⟩:∃r,rs[k]?=some r:=⟨_,zzg<|by have:=M.out;omega⟩;have V:=o.same g dv I;have⟨t,u,w⟩:=R k r hr;have Q:=(zze V).trans t;have S:=(zze V).trans u;have U:=(zze V).trans w;have⟨c,j⟩:=gb <|wr.alloc (.cells #[.int .u64 (r.cW:Int),.int .u8 (r.kind:Int),.string<|str r.pay] 89);have T:wr.grownBy c none:=by rw[j];exact World.grownBy_alloc wr _ none
   have G:=F _ _ _ f T;have A:nP [g] W c:=by rw[j];exact o.trans<|nP.alloc _ _
   have⟨N,tmps,assign,body,P,E⟩:=Y _ r c G (by rw[zzm];have:=M.out;omega)<|zzh hr;subst j;clear t u w V
   gi_wp2;apply E.mono;rintro e K (⟨rfl,yc,lF⟩|⟨rfl,SP⟩)
   .gi_wp2;go_roundw;.exact⟨k+1,dp,dv,by rw[nX hr];exact yc,A.trans lF⟩
    case measure=>simp[intOf];omega
   .gi_wp2;apply zA (xw rfl _ _ _) rfl;exact⟨⟨_,rfl⟩,.inr ⟨_,by rw[<-nX hr];exact List.take_prefix _ _,SP⟩⟩
  .obtain rfl:k=m:=dp;gi_wp2;go_end0;exact⟨⟨_,rfl⟩,.inl ⟨_,by rw[M.out,List.take_length],f⟩⟩
theorem Bv(n:Nat)(hn:1<=n)(c d:Nat)(v:Value)(rs:List Rec)(w:nL)(hlen:rs.length<=1000000000)(O:c<w.heap.size)(M:d<w.heap.size)
  (E:w.cell? (gi c)=some (gx d)) (C:w.cell? (hP d 3)=some v) (L:yf w.heap.size w v rs) :
  SeqStopsK Fence.wide n prog 154 #[gx c] (λx:{ x:Rec // x∈rs }=>#[Hy x.1]) (nP (rowsOf v)) (λy=>y.map (·.1)=rs) (λb=>b.map (·.1) <+: rs) rs.length w:=λl J q W i D _ Y o=>by
 have c1:=(i.cell (p:=⟨c,0,none⟩) O).trans E;have c2:=(i.cell (p:=⟨d,3,none⟩) M).trans C;rcases L.below (i.mono (zzc _)) with⟨rfl,rfl⟩|⟨g,u,rfl,F,G⟩
 .refine(Hz Fence.wide n trivial rfl l c d (λ_ W=>J [] W) W c1 c2 o).mono ?_;rintro e k ⟨he,j⟩;exact⟨he,.inl ⟨[],rfl,j⟩⟩
 .have h:=Tf n hn l c d g u rs hlen (λb W=>∃T:List { x:Rec // x∈rs },T.map (·.1)=b/\J T W) (λb W=>∃T:List { x:Rec // x∈rs },T.map (·.1)=b/\q T W)
   (λs A B H K=>by obtain⟨a,e,j⟩:=H;exact⟨a,e,D a A B none j K (λr e=>by cases e)⟩)
   (λb x t j m hx=>by
    obtain⟨a,e,j⟩:=j;obtain⟨z,tmps,assign,body,I,R⟩:=Y a ⟨x,hx⟩ t j (by rw[<-e,zzn] at m;exact m);refine⟨z,tmps,assign,body,I,R.mono ?_⟩;rintro f k (⟨r1,r2,r3⟩|⟨r1,r2⟩)
    .exact .inl ⟨r1,⟨a++[⟨x,hx⟩],by simp[e],r2⟩,by simpa [rowsOf,Value.ownBlock] using r3⟩
    .exact .inr ⟨r1,⟨a++[⟨x,hx⟩],by simp[e],r2⟩⟩)
   W (zzl F i.size) c1 c2 G ⟨[],rfl,o⟩
  refine h.mono ?_;rintro e k ⟨he,⟨y,rfl,a,f,j⟩|⟨b,hp,a,f,j⟩⟩
  .exact⟨he,.inl ⟨a,f,j⟩⟩
  .exact⟨he,.inr ⟨a,by show _ <+: rs;rw[f];exact hp,j⟩⟩
end
end Go.Proofs.YtlgeloebpdmnnaaGreatDoor
