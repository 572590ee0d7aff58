import Derived.Test.YtlgeloebpdmnnaaGreatDoorC16
set_option maxHeartbeats 4000000
set_option maxRecDepth 100000
namespace Go.Proofs.YtlgeloebpdmnnaaGreatDoor
open Go.RowKit Go.Maps Tryz Sc
def UI:Nat->List (List Rec)->aG
 |_,[]=>λ_=>none
 |n,c :: cs=>(UI (n+c.length) cs).set (aw n) (some (str (dF c)))
def kh(x:Nat × Nat × Nat)(r:Rec):Nat × Nat × Nat:=if r.kind=254 then (r.cW,x.2) else if r.kind=255/\0<x.1 then (x.1,x.1,r.cW) else x
def h_(rs:List Rec):Nat × Nat × Nat:=rs.foldl kh (0,0,0)
theorem yG(rs:List Rec)(r:Rec):h_ (rs++[r])=kh (h_ rs) r:=by simp[h_]
def counts(b e:Nat)(r:Rec):Bool:=(decide (r.kind<128)&&decide (e<r.cW))||(decide (b<r.cW)&&decide (r.cW<e))
def counted(rs:List Rec):List Rec:=rs.filter (counts (h_ rs).2.1 (h_ rs).2.2)
section
open Go.Shelf
variable{S:List Nat}{W X:nL}
def Ki{rs:List Rec}(e:List { x:Rec // x∈rs }):Nat × Nat × Nat:=h_ (e.map (·.1))
theorem UJ{rs:List Rec}(e:List {x:Rec//x∈rs})(x:{x:Rec//x∈rs}):Ki (e++[x])=kh (Ki e) x.1:=by grind[Ki,yG]
theorem nP.dr(h:nP S W X):nP S W X.drew:=⟨h.size,h.same⟩
theorem KeepsOthers.dr(h:KeepsOthers W X):KeepsOthers W X.drew:=⟨h.size,h.same⟩
theorem nP.uH{n b:Nat}(h:∀k∈S,k<n)(hb:n<=b)(v:Value):nP S W (W.setCell (gi b) v):=
 ⟨dv,λk a _=>wg _ _ _ k<|by have:=h k a;simp;omega⟩
theorem Ei(n:Nat)(hn:4<=n)(i g:Nat)(P:Value)(rs:List Rec)(hlen:rs.length<=1000000000)(w:nL)(z:w.cell? (gi i)=some (gx g))(hL:lQ w g P rs):
  CallsIn Fence.wide n prog 207 #[gx i] w λe w'=>e=.returned (.tuple #[.int .u64 ((h_ rs).2.1:Int),.int .u64 ((h_ rs).2.2:Int)])/\Below w.heap.size w w':=by
 have K:Fence.wide.round=none:=rfl;have H:1<=n:=dp;have bH:Fence.wide.fn 97:=trivial;have fu:Fence.wide.fn 154:=trivial;have nA:i<w.heap.size:=zzF w ⟨i,0,none⟩ z;obtain⟨d,C⟩:∃d,d=((w.alloc (.cells #[.int .u64 0] 34)).alloc (.cells #[.int .u64 0] 34)).alloc (.cells #[.int .u64 0] 34):=⟨_,rfl⟩;have v:Below w.heap.size w d:=by rw[C];exact(((zzD _ w).alloc (zzc _) _).alloc dv _).alloc ef _
 have c0:d.cell? ⟨i,0,none⟩=some (.pointer (some ⟨g,0,none⟩)):=(v.cell (p:=⟨i,0,none⟩) nA).trans z;rw[C] at c0;refine callsIn_of_wp_marks func207 rfl trivial ?_ K;simp only[ntmps207,ji,zzr,jn,Nat.reduceAdd,Nat.reduceSub,mK,jo,j7,j8,kV,lC]
 gi_wp2_with (gi_at_call 97;refine(Lb Fence.wide (n-1) bH K _ _).mono ?_;rintro e w' ⟨rfl,rfl⟩)
 have G:=Boxed.new d 66 (.pointer (some ⟨g,0,none⟩));have O:d.heap.size=w.heap.size+3:=by rw[C];simp
 have b4:Boxed d (w.heap.size+1+1) 34 (.int .u64 0):=by
  have:=Boxed.new ((w.alloc (.cells #[.int .u64 0] 34)).alloc (.cells #[.int .u64 0] 34)) 34 (.int .u64 0);rw[zzv,zzv,<-C] at this;exact this
 have Y:Boxed d (w.heap.size+1) 34 (.int .u64 0):=by
  have:=(Boxed.new (w.alloc (.cells #[.int .u64 0] 34)) 34 (.int .u64 0)).alloc (.cells #[.int .u64 0] 34);rw[zzv,<-C] at this;exact this
 have U:Boxed d w.heap.size 34 (.int .u64 0):=by
  have:=((Boxed.new w 34 (.int .u64 0)).alloc (.cells #[.int .u64 0] 34)).alloc (.cells #[.int .u64 0] 34);rw[<-C] at this;exact this
 rw[<-C];clear C c0;have V:=U.alloc (.cells #[.pointer (some ⟨g,0,none⟩)] 66);have Z:=Y.alloc (.cells #[.pointer (some ⟨g,0,none⟩)] 66);have a1:=b4.alloc (.cells #[.pointer (some ⟨g,0,none⟩)] 66);have R:Below w.heap.size w (d.alloc (.cells #[.pointer (some ⟨g,0,none⟩)] 66)):=v.alloc v.size _;have q9:(d.alloc (.cells #[.pointer (some ⟨g,0,none⟩)] 66)).heap.size=w.heap.size+4:=by rw[zzv,O]
 have u:=hL.below R;rw[O] at G;obtain⟨A,gZ⟩:∃A,A=d.alloc (.cells #[.pointer (some ⟨g,0,none⟩)] 66):=⟨_,rfl⟩;rw[<-gZ] at G V Z a1 R q9 u ⊢;clear gZ U Y b4 v O
 refine wpIn_rangeFunc_ownH K H (gf:=154) (lb:=#[.pointer (some ⟨w.heap.size+1+1+1,0,none⟩)]) rfl fu (enters_of func154 eu rfl)
  (Bv (n-1) dp (w.heap.size+1+1+1) g P rs A hlen dp u.lt G.cell u.cell u.recs) (λh k=>h.trans k) (nP.book u.rows) (zzD _ _) (λ_=>rfl)
  (λa W=>((Boxed W w.heap.size 34 (.int .u64 ((Ki a).2.1:Int))/\Boxed W (w.heap.size+1) 34 (.int .u64 ((Ki a).2.2:Int)))/\Boxed W (w.heap.size+1+1) 34 (.int .u64 ((Ki a).1:Int)))/\Below w.heap.size w W)
  (λ_ _ _=>False)
  (OwnFrom.and (OwnFrom.and (OwnFrom.and (Own.from (boxed_own _ _ _) _) (Own.from (boxed_own _ _ _) _)) (Own.from (boxed_own _ _ _) _)) (ownFrom_below (zzc _) dp))
  (λ_ _ _ _ _ N _ _=>N)
  ⟨⟨⟨V,Z⟩,a1⟩,R⟩
  (λx F W=>∃B,w.heap.size+1+1<B/\W.heap[B]?=some (.cells #[.int .u64 (x.1.cW:Int),.int .u8 (x.1.kind:Int),.string (str x.1.pay)] 89 (0,0))/\F={ tmps:=#[.pointer (some ⟨i,0,none⟩),undef,.pointer (some ⟨w.heap.size,0,none⟩),.pointer (some ⟨w.heap.size+1,0,none⟩),.pointer (some ⟨w.heap.size+1+1,0,none⟩),.pointer (some ⟨B,0,none⟩),.pointer (some ⟨i,0,none⟩),.pointer (some ⟨i,0,none⟩),.pointer (some ⟨i,0,none⟩),.pointer (some ⟨g,0,none⟩),.func (.func 154) #[] #[.pointer (some ⟨w.heap.size+1+1+1,0,none⟩)],Hy x.1,undef,undef,undef,undef,undef,undef,undef,undef,undef,undef,undef,undef,undef,undef,undef,undef,undef,undef,undef],defers:=[] })
  (λx F _ X al row N z hr=>by
   obtain⟨B,H,I,h3⟩:=N
   exact⟨B,H,(z.block B (zza.1 I).1 (λe=>by obtain⟨_,o,ho,y⟩:=hr B e.symm;rw[I] at ho;cases ho;cases y)).trans I,h3⟩)
  ?assign ?body ?done ?stop
 case assign =>
  have pV:=@Bg;rintro l a x W ag ⟨⟨⟨tX,CQ⟩,RA⟩,Gt⟩ hK
  gi_wp2
  exact hK _ _ ((KeepsOthers.alloc _ _).from _) (nP.alloc _ _) ⟨⟨⟨tX.alloc _,CQ.alloc _⟩,RA.alloc _⟩,Gt.alloc Gt.size _⟩ ⟨W.heap.size,RA.lt,Cy W _,rfl⟩
 case body =>
  have pV:=@Bg;rintro l a x F W eL _ ⟨⟨⟨tX,CQ⟩,RA⟩,hB⟩ ⟨B,hBx,bX,rfl⟩ bW;have S:=ah (UJ a x);obtain⟨c,y⟩:∃c,c=Ki a:=⟨_,rfl⟩;rw[<-y] at tX CQ RA S;obtain⟨f,m,q⟩:=c;clear y;have x0:=bj bX 0;have r:=bj bX 1;simp at x0 r;have c2:=tX.cell;have c3:=CQ.cell;have c4:=RA.cell;have f2:=tX.frozen;have f3:=CQ.frozen;have f4:=RA.frozen;have M:=hL.rows;by_cases s:x.1.kind=254
  .have HE:Hid (Ki (a++[x])=(x.1.cW,m,q)):=by show _=_;rw[S.out];simp[kh,s]
   rw[s] at r;simp at r;clear S
   gi_wp2
   refine⟨(KeepsOthers.setCell W _ _).from _,nP.uH (b:=w.heap.size+1+1) M dp _,⟨⟨?_,?_⟩,?_⟩,hB.setCell (p:=⟨w.heap.size+1+1,0,none⟩) (by show w.heap.size<=w.heap.size+1+1;omega) _⟩
   .rw[HE.out];exact tX.other dp _
   .rw[HE.out];exact CQ.other dp _
   .rw[HE.out];exact RA.set _
  .have k1':¬(x.1.kind:Int)=254:=dp;by_cases t:x.1.kind=255
   .by_cases k3:0<f
    .have HE:Hid (Ki (a++[x])=(f,f,x.1.cW)):=by show _=_;rw[S.out];simp[kh,t,k3]
     rw[t] at r;simp at r;have ae:(0:Int)<f:=dp;clear S s k1';have a8:Hid (nP (rowsOf P) W ((W.setCell ⟨w.heap.size,0,none⟩ (.int .u64 (f:Int))).setCell ⟨w.heap.size+1,0,none⟩ (.int .u64 (x.1.cW:Int))).drew):=((nP.uH (b:=w.heap.size) M (zzc _) _).trans (nP.uH (b:=w.heap.size+1) M dp _)).dr
     have aa:Hid (((Boxed ((W.setCell ⟨w.heap.size,0,none⟩ (.int .u64 (f:Int))).setCell ⟨w.heap.size+1,0,none⟩ (.int .u64 (x.1.cW:Int))).drew w.heap.size 34 (.int .u64 ((Ki (a++[x])).2.1:Int))/\Boxed ((W.setCell ⟨w.heap.size,0,none⟩ (.int .u64 (f:Int))).setCell ⟨w.heap.size+1,0,none⟩ (.int .u64 (x.1.cW:Int))).drew (w.heap.size+1) 34 (.int .u64 ((Ki (a++[x])).2.2:Int)))/\Boxed ((W.setCell ⟨w.heap.size,0,none⟩ (.int .u64 (f:Int))).setCell ⟨w.heap.size+1,0,none⟩ (.int .u64 (x.1.cW:Int))).drew (w.heap.size+1+1) 34 (.int .u64 ((Ki (a++[x])).1:Int)))/\Below w.heap.size w ((W.setCell ⟨w.heap.size,0,none⟩ (.int .u64 (f:Int))).setCell ⟨w.heap.size+1,0,none⟩ (.int .u64 (x.1.cW:Int))).drew):=by
      refine⟨⟨⟨?_,?_⟩,?_⟩,((hB.setCell (p:=⟨w.heap.size,0,none⟩) (zzc _) _).setCell (p:=⟨w.heap.size+1,0,none⟩) (by show w.heap.size<=w.heap.size+1;omega) _).drew⟩
      .rw[HE.out];exact(tX.set _).other dp _
      .rw[HE.out];exact(CQ.other dp _).set _
      .rw[HE.out];exact(RA.other dp _).other dp _
     gi_wp2
     gi_region
     all_goals gi_wp2
     all_goals exact⟨(KeepsOthers.dr ((KeepsOthers.setCell W _ _).trans (KeepsOthers.setCell _ _ _))).from _,a8.out,aa.out⟩
    .have HE:Hid (Ki (a++[x])=(f,m,q)):=by show _=_;rw[S.out];simp[kh,t,k3]
     rw[t] at r;simp at r;have ae:¬(0:Int)<f:=dp;clear S s k1'
     gi_wp2
     exact⟨KeepsFrom.refl _ _,nP.refl _,⟨⟨by rw[HE.out];exact tX,by rw[HE.out];exact CQ⟩,by rw[HE.out];exact RA⟩,hB⟩
   .have HE:Hid (Ki (a++[x])=(f,m,q)):=by show _=_;rw[S.out];simp[kh,s,t]
    have an:¬(x.1.kind:Int)=255:=dp;clear S s t
    gi_wp2
    exact⟨KeepsFrom.refl _ _,nP.refl _,⟨⟨by rw[HE.out];exact tX,by rw[HE.out];exact CQ⟩,by rw[HE.out];exact RA⟩,hB⟩
 case done =>
  rintro D ys W hD ad ⟨⟨⟨tX,CQ⟩,RA⟩,hB⟩ hK;have a7:Ki ys=h_ rs:=by unfold Ki;rw[ad]
  rw[a7] at tX CQ RA;obtain⟨m,L⟩:∃m,m=(h_ rs).2.1:=⟨_,rfl⟩;obtain⟨q,J⟩:∃q,q=(h_ rs).2.2:=⟨_,rfl⟩;rw[<-L] at tX;rw[<-J] at CQ;have Q:=ah (zzb L J);clear L J a7;have c2:=tX.cell;have c3:=CQ.cell;have f2:=tX.frozen;have f3:=CQ.frozen
  gi_wp2
  gi_region
  gi_wp2
  obtain⟨j,E⟩:∃j,j=((W.setCell ⟨w.heap.size,0,none⟩ (.int .u64 (m:Int))).setCell ⟨w.heap.size+1,0,none⟩ (.int .u64 (q:Int))).drew:=⟨_,rfl⟩;rw[<-E];have v2:Boxed j w.heap.size 34 (.int .u64 (m:Int)):=by rw[E];exact(tX.set _).other dp _
  have v3:Boxed j (w.heap.size+1) 34 (.int .u64 (q:Int)):=by rw[E];exact(CQ.other dp _).set _
  have ab:Below w.heap.size w j:=by rw[E];exact((hB.setCell (p:=⟨w.heap.size,0,none⟩) (zzc _) _).setCell (p:=⟨w.heap.size+1,0,none⟩) (by show w.heap.size<=w.heap.size+1;omega) _).drew
  have T:j.heap[D]?=some (.deferred (some [])):=by
   rw[E];exact(wg _ _ _ D (by show D≠w.heap.size+1;omega)).trans ((wg _ _ _ D (by show D≠w.heap.size;omega)).trans hK)
  clear E;refine⟨dv,.inl ⟨_,_,rfl,DK T,?_⟩⟩;have q2:=(v2.kept (grownBy_putObj' j D (.deferred none)) ef).cell;have q3:=(v3.kept (grownBy_putObj' j D (.deferred none)) ef).cell;refine⟨.tuple #[.int .u64 (m:Int),.int .u64 (q:Int)],?_,by rw[<-Q.1,<-Q.2],ab.trans (belowK_b (w:=w) (zzc _) j D _ _ dp T rfl rfl)⟩;simp only[results,f207];simp[go_sem,q2,q3]
 case stop =>
  rintro D c a W _ _ h _;exact h.elim
def jX(t:fQ)(i:Nat):Nat:=t.parts.getD i 0
theorem Hx(n:Nat)(hn:5<=n)(b m:Nat)(L:List<|Nat×fQ)(l:L.length<=12)(w:nL)(h:dV KU EX w b m L):
  CallsIn Fence.wide n prog 231 #[.func (.func 284) #[] #[gx w.heap.size]] (w.alloc<|.cells #[.map<|some b] 192) λe w'=>∃v ss,e=.returned v/\ss.Perm (L.map (·.1))/\ss.Pairwise (·<=·)/\w'.ownsRow w.heap.size 34 1 v L.length (fC ss)/\(v=.slice none 0 0↔L.length=0)/\Below w.heap.size w w':=by
 have Y:Below w.heap.size w (w.alloc<|.cells #[.map<|some b] 192):=(zzD _ w).alloc (zzc _) _;have a:dV KU EX (w.alloc<|.cells #[.map<|some b] 192) b m L:=h.fr ((fU w).alloc _) dv;have s:=Hp (n-1-1-1) dp (nF w) b m L _ dv (by rw[bj<|Cy w<|.cells #[.map<|some b] 192];rfl) a;apply(K8 n hn _ _ trivial (enters_of func284 eu rfl) (L.map (·.1)) L.length l dv _ s).mono;rintro e w' ⟨v,ss,rfl,h1,h2,h3,h4,h5⟩;have hlen:ss.length=L.length:=by rw[h1.length_eq,zzn]
 rw[hlen]at h3;refine⟨v,ss,rfl,h1,h2,tW h3 dv,?_,Y.trans<|h5.mono dv⟩;rw[h4,<-hlen];exact List.length_eq_zero_iff.symm
abbrev elX(g:fQ):List Value:=[.int .i64 (g.state:Int),.int .u8 ((jX g 0:Nat):Int),.int .u8 ((jX g 1:Nat):Int),.int .u8 ((jX g 2:Nat):Int),.int .u8 ((jX g 3:Nat):Int),.int .u8 ((jX g 4:Nat):Int),.int .u8 ((jX g 5:Nat):Int),.int .u8 ((jX g 6:Nat):Int),.int .u8 ((jX g 7:Nat):Int),.int .u8 ((jX g 8:Nat):Int),.int .u64 (g.since:Int),bB g.aS]
theorem SV(q:Nat):(bB q).oneCell'=true:=by unfold bB;split<;>rfl
def K9(l:List fQ):List Value:=l.flatMap elX
theorem O'(l:List fQ)(g:fQ):K9 (l++[g])=K9 l++elX g:=by simp[K9]
theorem Nj:∀(l:List fQ) (k:Nat) (g:fQ),l[k]?=some g->∀i,i<12->(K9 l)[k*12+i]?=(elX g)[i]?
 |[],k,g,h=>by simp at h
 |x::l,0,g,h=>by
  simp at h;subst h;intro i a;unfold K9;rw[List.flatMap_cons,Nat.zero_mul,Nat.zero_add,Ij<|by simpa using a]
 |x::l,k+1,g,h=>by
  intro i a;have:=Nj l k g (by simpa using h) i a;unfold K9 at this ⊢;rw[List.flatMap_cons,Hn ef,<-this];congr 1;simp;omega
theorem Nk(t:fQ)(h:t.Ok):lz t=.agg #[.int .i64 (t.state:Int),.int .u8 ((jX t 0:Nat):Int),.int .u8 ((jX t 1:Nat):Int),.int .u8 ((jX t 2:Nat):Int),.int .u8 ((jX t 3:Nat):Int),.int .u8 ((jX t 4:Nat):Int),.int .u8 ((jX t 5:Nat):Int),.int .u8 ((jX t 6:Nat):Int),.int .u8 ((jX t 7:Nat):Int),.int .u8 ((jX t 8:Nat):Int),.int .u64 (t.since:Int),bB t.aS]:=by
 have⟨s,ps,z,q⟩:=t;have⟨p,a,b,c,d,e,f,g,i,hp⟩:=nine h.1;change ps=_ at hp;subst hp;rfl
theorem aaL:(Tryz.prog.info? 249).map (λi=>(i.zero,i.size,i.bytes))=some (some<|.agg #[.int .i64 0,.int .u8 0,.int .u8 0,.int .u8 0,.int .u8 0,.int .u8 0,.int .u8 0,.int .u8 0,.int .u8 0,.int .u8 0,.int .u64 0,.nilIface],12,48):=eu
theorem acx(p:Option Addr)(n c:Nat)(w:nL):(Builtin.len_ #[49] 3 #[.slice p n c]).run prog w=.ok (.int .i64 n) w:=by simp[Builtin.len_,run_underlying underlying49,goInt]
def wy(L:List (Nat × fQ))(ss:List Nat):List (Nat × fQ):=ss.map λk=>(k,(bJ L k).getD OS)
theorem Bt{σ:Type}(n:Nat)(hn:6<=n)(l h b m:Nat)(L:List<|Nat×fQ)(zV:L.length<=12)(W:nL)
  (J:σ->List (Nat×fQ)->nL->Prop) (Jx:List (Nat×fQ)->nL->Prop) (av:∀A,Below W.heap.size W A->∃q,J q [] A)
  (hS:∀A g a c c2,Below W.heap.size W A->W.heap.size<=g->W.heap.size<=a->A.heap[g]?=some (.cells c 34 (0,0))->A.heap[a]?=some (.cells c2 249 (0,0))->∃q,J q [] A/\∀s B,J q s B->B.heap[g]?=some (.cells c 34 (0,0))/\B.heap[a]?=some (.cells c2 249 (0,0)))
  (hY:∀q E x W1,J q E W1->E.length<L.length->x∈L->(∃ss:List Nat,ss.Perm (L.map (·.1))/\ss.Pairwise (·<=·)/\E++[x]<+:wy L ss)->YieldAt Fence.wide (n-1) prog l #[.int .u64 (x.1:Int),lz x.2] W1 λe M=>
   (e=.returned (.bool true)/\J q (E++[x]) M)\/(e=.returned (.bool false)/\Jx (E++[x]) M))
  (KX:W.cell? (gi h)=some (.map<|some b)) (hL:dV KU EX W b m L) :
  CallsIn Fence.wide n prog 240 #[.func (.yield l) #[] #[],gx h] W λe M=>(∃v,e=.returned v) /\
   ((∃q ss,ss.Perm (L.map (·.1))/\ss.Pairwise (·<=·)/\J q (wy L ss) M)\/(∃E,True/\Jx E M)):=by
 have OT:=zzF W ⟨h,0,none⟩ KX;have cK:=SM (n-1) b W;have cS:=Hx (n-1) dp b m L zV W hL;have⟨i0,hi,aI,aX,b0⟩:=tO aaL;have bm:Fence.wide.fn 241:=trivial;have bo:Fence.wide.fn 231:=trivial;have ax:Fence.wide.fn 240:=trivial;have aA:Fence.wide.round=none:=rfl;have h1:1<=n:=dp
 have b3:=acx;have V:Hid (dV KU EX W b m L):=hL;have HB:Hid (h<W.heap.size/\W.cell? ⟨h,0,none⟩=some (.map<|some b)):=⟨OT,KX⟩;have⟨m0,Rk⟩:=gb L.length;have HM:Hid (m0=L.length):=Rk;rw[<-Rk]at cS zV;have b4:m0<=1000000000:=dp
 clear hL Rk;refine callsIn_of_wp func240 rfl ax ?_ aA;simp only[ntmps240,ji,zzr,jn,Nat.reduceAdd,Nat.reduceSub,mK,jo,j7,j8,kV,lC];gi_wp2_with (first
  |(gi_at_call 241;apply cK.mono;rintro e w0 ⟨rfl,rfl⟩)
  |(gi_at_call 231;apply cS.mono;rintro e w ⟨v,ss,rfl,Bq,hpw,H,my,dB⟩;obtain⟨pp,X,rfl⟩:=DQ H;have K:Hid (w.ownsRow W.heap.size 34 1 (.slice pp m0 X) m0 (fC ss)/\(Value.slice pp m0 X=.slice none 0 0↔m0=0)):=⟨H,my⟩;have o:Hid (ss.Perm (L.map (·.1))/\ss.Pairwise (·<=·)):=⟨Bq,hpw⟩;clear H my Bq hpw))
 clear cK cS;have I:Hid (Below W.heap.size W w):=dB;have ag:Hid (∀A,Below W.heap.size W A->∃q,J q [] A):=av;have F:Hid (ss.length=m0):=by show _=_;rw[o.1.length_eq,zzn,HM.out]
 clear dB KX;by_cases EY:m0=0
 .subst EY;obtain⟨rfl,rfl⟩:pp=none/\X=0:=by simpa using K.2.2 rfl
  clear K;have HE:Hid (ss=[]):=List.length_eq_zero_iff.1 F.out;gi_loopw [14] (λi wr=>i=.int .i64 0/\wr=w) (λ_ _=>0);case atStart=>exact⟨rfl,rfl⟩
  .obtain⟨rfl,rfl⟩:=hrel;gi_wp2;gi_loopw [27] (λi b1=>i=.int .i64 0/\b1=wr) (λ_ _=>0);case atStart=>exact⟨rfl,rfl⟩
   .obtain⟨rfl,rfl⟩:=hrel;gi_wp2;go_end0;obtain⟨q,hq⟩:=ag.out _ I.out;exact⟨⟨_,rfl⟩,.inl ⟨q,ss,o.1,o.2,by rw[HE.out];exact hq⟩⟩
 obtain⟨g,rfl⟩:∃g,pp=some ⟨g,0,none⟩:=by have⟨g,mz,e⟩:=Bo K.1 dp;exact⟨g,by simp at e;exact e.1⟩
 have H:=K.1;have U:Hid (∃r,w.heap[g]?=some (.cells r 34 (0,0))/\W.heap.size<=g/\∀(k x:Nat),ss[k]?=some x->r[k]?=some (Value.int .u64 (x:Int))):=by
  rcases H.2 with⟨_,h3⟩|⟨g',mz,r,e,hb,z,_,_,a7,tY⟩
  .omega
  .obtain⟨e1,e2⟩:g=g'/\X=mz:=by simpa using e
   subst e1;refine⟨r,z,hb,λk x D=>?_⟩;have o_:k<m0:=by have:=(zzd.1 D).1;have:=F.out;omega
   have:(r.toList.take<|m0*1)[k]?=some (.int .u64 (x:Int)):=by rw[tY];unfold fC;rw[zzy,D];rfl
   rw[List.getElem?_take_of_lt dp]at this;simpa using this
 clear H K;have⟨d,ae⟩:∃d:List fQ,d=ss.map λk=>(bJ L k).getD OS:=⟨_,rfl⟩
 have HV:Hid (d=ss.map λk=>(bJ L k).getD OS):=ae;have HG:Hid (g<w.heap.size):=by have⟨r,z,_⟩:=U.out;exact(zza.1 z).1
 have a1:Hid (∀k∈ss,∃v,(k,v)∈L/\k<18446744073709551616/\(bJ L k).getD OS=v):=λk D=>by
  have⟨p,hp,e⟩:=zzq.1<|o.1.mem_iff.1 D;obtain⟨_,_,_,gq,Z⟩:=V.out;obtain⟨p1,p2⟩:=p;simp at e;subst e;exact⟨p2,hp,(Z _ hp).1,by rw[jR gq hp];rfl⟩
 gi_loopw [14,4] (λi v wr=>∃k:Nat,k<=m0/\i=.int .i64 k/\Hid (wr.ownsRow w.heap.size 249 12 v k (K9<|d.take k)/\Below w.heap.size w wr))
  (λi _ _=>m0-(intOf i).toNat)
 .exact⟨0,zzs _,rfl,zzu _ _ _ _,zzD _ _⟩
 case round=>
  obtain⟨k,D,rfl,R⟩:=hrel;by_cases bW:k<m0
  .obtain⟨x,hx⟩:∃x,ss[k]?=some x:=⟨_,zzg<|by have:=F.out;omega⟩;have⟨y,t⟩:=gb <|(bJ L x).getD OS;have f:Below W.heap.size W wr:=I.out.trans<|R.2.mono I.out.size
   have ck:wr.cell? ⟨g,k,none⟩=some (.int .u64 (x:Int)):=by
    have⟨r,z,_,hc⟩:=U.out;have:=(R.2.block g HG.out).trans z;rw[bj this];exact hc k x hx
   have cB:=(f.cell HB.1).trans HB.2;have aE:x<18446744073709551616:=by
    have⟨_,_,ao,_⟩:=a1.out x<|zzh hx;exact ao
   have lJ:=(V.out.fr (S:=[]) ⟨f.os,f.tape,f.output,f.size,λk D _=>f.block k D⟩ (by simp)).look underlying192 (SL wr) KW aE;rw[<-t]at lJ;have Y:Hid (y=(bJ L x).getD OS/\ss[k]?=some x):=⟨t,hx⟩;clear t hx;have O:y.Ok:=by
    rw[Y.1];have⟨v,hv,_,e⟩:=a1.out x<|zzh Y.2;have⟨_,_,_,_,Z⟩:=V.out;rw[e];exact(Z _ hv).2
   change (Instr.lookup _ _ (.int .u64 (x:Int)) false).run _ _=.ok (lz y) _ at lJ;rw[Nk y O]at lJ;clear O;have a7:=R.2.size;have T:Hid (d.take (k+1)=d.take k++[y]):=by
    show _=_;rw[HV.out,vV,zzy,Y.2,Y.1];rfl
   gi_wp2_with (gi_at_builtin;apply wpListIn_append_own _ rfl _ _ 340 rfl w.heap.size 249 i0 _ 12 48 underlying340 hi aI aX b0 rfl du _ k _ rfl (R.1.alloc _) ⟨wr.heap.size,0,none⟩ 1 1 (elX y) rfl rfl (fV _ #[.int .i64 (y.state:Int),.int .u8 ((jX y 0:Nat):Int),.int .u8 ((jX y 1:Nat):Int),.int .u8 ((jX y 2:Nat):Int),.int .u8 ((jX y 3:Nat):Int),.int .u8 ((jX y 4:Nat):Int),.int .u8 ((jX y 5:Nat):Int),.int .u8 ((jX y 6:Nat):Int),.int .u8 ((jX y 7:Nat):Int),.int .u8 ((jX y 8:Nat):Int),.int .u64 (y.since:Int),bB y.aS] _) (by intro u hu;simp[elX]at hu;obtain rfl|rfl|rfl|rfl|rfl|rfl|rfl|rfl|rfl|rfl|rfl|rfl:=hu<;>first|rfl|exact SV _) eE dp ef;intro v' w2 bF bK _);go_roundw;case rel=>
    refine⟨k+1,dp,dv,by rw[T.out,O'];exact bF,?_⟩;exact((R.2.alloc a7 _).grown bK ef λj N=>(R.1.lt j N).1)
   case measure=>simp[intOf];omega
  .obtain rfl:k=m0:=dp;obtain⟨a,al,rfl⟩:=Bo R.1 dp;have a8:Hid (∃G,wr.heap[a]?=some (.cells G 249 (0,0))/\W.heap.size<=a/\∀(j:Nat) (y:fQ),d[j]?=some y->∀i,i<12->G[j*12+i]?=(elX y)[i]?):=by
    rcases R.1.2 with⟨_,h3⟩|⟨g',mz,r,e,hb,z,_,_,a7,tY⟩
    .omega
    .obtain⟨e1,e2⟩:a=g'/\al=mz:=by simpa using e
     subst e1;have bq:d.length=k:=by rw[HV.out,zzn,F.out]
     refine⟨r,z,zzk I.out.size hb,λj y N=>?_⟩;have bp:j<k:=by have:=(zzd.1 N).1;omega
     have e3:d.take k=d:=zzt dp;rw[e3]at tY;have fE:=Nj d j y N;rw[<-tY]at fE;intro i hi;have h9:=fE i hi;rw[List.getElem?_take_of_lt dp]at h9;simpa using h9
   have⟨r,SX,ay,ad⟩:=U.out;have⟨G,aa,an,ab⟩:=a8.out;have nz:=(R.2.block g HG.out).trans SX;have f:=I.out.trans<|R.2.mono I.out.size;have C:Hid ((∀(k x:Nat),ss[k]?=some x->r[k]?=some (Value.int .u64 (x:Int)))/\∀(j:Nat) (y:fQ),d[j]?=some y->∀i,i<12->G[j*12+i]?=(elX y)[i]?):=⟨ad,ab⟩;have⟨q,hq,cf⟩:=hS wr g a r G f ay an nz aa;have HS:Hid (J q [] wr):=hq;have T:Hid (∀s B,J q s B->B.heap[g]?=some (.cells r 34 (0,0))/\B.heap[a]?=some (.cells G 249 (0,0))):=cf
   gi_wp2;gi_loopw [27] (λi wr=>∃j:Nat,j<=k/\i=.int .i64 j/\Hid (J q ((wy L ss).take j) wr))
    (λi _=>k-(intOf i).toNat)
   .exact⟨0,zzs _,rfl,by rw[List.take_zero];exact HS.out⟩
   case round=>
    obtain⟨j,N,rfl,Q⟩:=hrel;by_cases b2:j<k
    .obtain⟨x,hx⟩:∃x,ss[j]?=some x:=⟨_,zzg<|by have:=F.out;omega⟩;have⟨y,t⟩:=gb <|(bJ L x).getD OS;have P:d[j]?=some y:=by rw[HV.out,zzy,hx,t];rfl
     have C3:(x,y)∈L:=by
      have⟨v,hv,_,e⟩:=a1.out x<|zzh hx;rw[t,e];exact hv
     have a':Hid ((wy L ss).take (j+1)=(wy L ss).take j++[(x,y)]):=by
      show _=_;rw[vV];unfold wy;rw[zzy,hx,t];rfl
     have cx:wr.cell? ⟨g,j,none⟩=some (.int .u64 (x:Int)):=by rw[bj (T.out _ _ Q.out).1];exact C.1 j x hx
     have b7:wr.cell? ⟨a,j*12,none⟩=some (.int .i64 (y.state:Int)):=by rw[bj (T.out _ _ Q.out).2];exact C.2 j y P 0 dp
     have b8:wr.cell? ⟨a,j*12+1,none⟩=some (.int .u8 ((jX y 0:Nat):Int)):=by rw[bj (T.out _ _ Q.out).2];exact C.2 j y P 1 dp
     have b9:wr.cell? ⟨a,j*12+2,none⟩=some (.int .u8 ((jX y 1:Nat):Int)):=by rw[bj (T.out _ _ Q.out).2];exact C.2 j y P 2 dp
     have b':wr.cell? ⟨a,j*12+3,none⟩=some (.int .u8 ((jX y 2:Nat):Int)):=by rw[bj (T.out _ _ Q.out).2];exact C.2 j y P 3 dp
     have ba:wr.cell? ⟨a,j*12+4,none⟩=some (.int .u8 ((jX y 3:Nat):Int)):=by rw[bj (T.out _ _ Q.out).2];exact C.2 j y P 4 dp
     have bb:wr.cell? ⟨a,j*12+5,none⟩=some (.int .u8 ((jX y 4:Nat):Int)):=by rw[bj (T.out _ _ Q.out).2];exact C.2 j y P 5 dp
     have bc:wr.cell? ⟨a,j*12+6,none⟩=some (.int .u8 ((jX y 5:Nat):Int)):=by rw[bj (T.out _ _ Q.out).2];exact C.2 j y P 6 dp
     have bf:wr.cell? ⟨a,j*12+7,none⟩=some (.int .u8 ((jX y 6:Nat):Int)):=by rw[bj (T.out _ _ Q.out).2];exact C.2 j y P 7 dp
     have bg:wr.cell? ⟨a,j*12+8,none⟩=some (.int .u8 ((jX y 7:Nat):Int)):=by rw[bj (T.out _ _ Q.out).2];exact C.2 j y P 8 dp
     have bl:wr.cell? ⟨a,j*12+9,none⟩=some (.int .u8 ((jX y 8:Nat):Int)):=by rw[bj (T.out _ _ Q.out).2];exact C.2 j y P 9 dp
     have b5:wr.cell? ⟨a,j*12+10,none⟩=some (.int .u64 (y.since:Int)):=by rw[bj (T.out _ _ Q.out).2];exact C.2 j y P 10 dp
     have b6:wr.cell? ⟨a,j*12+11,none⟩=some (bB y.aS):=by rw[bj (T.out _ _ Q.out).2];exact C.2 j y P 11 dp
     have⟨fn,tmps,assign,body,MY,E_⟩:=hY q _ (x,y) wr Q.out (by rw[zzm,<-HM.out];omega) C3 ⟨ss,o.1,o.2,by rw[<-a'.out];exact List.take_prefix _ _⟩
     have O:y.Ok:=by
      have⟨_,_,_,_,Z⟩:=V.out;exact(Z _ C3).2
     change (Instr.yield l #[.int .u64 (x:Int),lz y]).run _ _=_ at MY;rw[Nk y O]at MY;clear hx t P C3;gi_wp2;apply E_.mono;rintro e W3 (⟨rfl,yc⟩|⟨rfl,SP⟩)
     .have HN:Hid (J q ((wy L ss).take<|j+1) W3):=by rw[a'.out];exact yc
      clear yc;gi_wp2;go_roundw;case rel=>exact⟨j+1,dp,dv,HN.out⟩
      case measure=>simp[intOf];omega
     .gi_wp2;apply zA (xw rfl _ _ _) rfl;exact⟨⟨_,rfl⟩,.inr ⟨_,trivial,SP⟩⟩
    .obtain rfl:j=k:=dp;gi_wp2;go_end0;refine⟨⟨_,rfl⟩,.inl ⟨q,ss,o.1,o.2,?_⟩⟩;have e:(wy L ss).take j=wy L ss:=by
      rw[zzt];unfold wy;rw[zzn,F.out];exact zzc _
     rw[<-e];exact Q.out
theorem K_(n:Nat)(hn:6<=n)(l u b m:Nat)(L:List<|Nat×fQ)(V:L.length<=12)(W:nL)(K:nL->nL->Prop)(P:Nat->nL->Prop)
  (G:∀k A,W.heap.size<=k->Below W.heap.size W A->P k A)
  (Q:∀k A B c t,(t=34\/t=249)->K A B->A.heap[k]?=some (.cells c t (0,0))->P k A->B.heap[k]?=A.heap[k]?/\P k B)
  (J w:List (Nat×fQ)->nL->Prop)
  (F:∀s A B,J s A->A.grownBy B none->J s B)
  (Y:∀p x f,J p f->p.length<L.length->x∈L->(∃ss:List Nat,ss.Perm (L.map (·.1))/\ss.Pairwise (·<=·)/\p++[x]<+:wy L ss)->YieldAt Fence.wide (n-1) prog l #[.int .u64 (x.1:Int),lz x.2] f λe d=>
   (e=.returned (.bool true)/\J (p++[x]) d/\K f d)\/(e=.returned (.bool false)/\w (p++[x]) d))
  (X:W.cell? (gi u)=some (.map<|some b)) (M:dV KU EX W b m L) (D:J [] W) :
  CallsIn Fence.wide n prog 240 #[.func (.yield l) #[] #[],gx u] W λe d=>(∃v,e=.returned v) /\
   ((∃ss,ss.Perm (L.map (·.1))/\ss.Pairwise (·<=·)/\J (wy L ss) d)\/(∃p,True/\w p d)):=by
 have h:=Bt n hn l u b m L V W (λq s A=>J s A/\match q with|none=>True|some (g,o,i,o2)=>A.heap[g]?=some o/\P g A/\A.heap[i]?=some o2/\P i A/\(∃c,o=.cells c 34 (0,0))/\∃c,o2=.cells c 249 (0,0)) w
  (λA a=>⟨none,F [] W A D ⟨a.os,a.tape,a.output,a.size,λk C _=>a.block k C⟩,trivial⟩)
  (λA g i c c2 a N T y z=>⟨some (g,_,i,_),⟨F [] W A D ⟨a.os,a.tape,a.output,a.size,λk C _=>a.block k C⟩,y,G _ _ N a,z,G _ _ T a,⟨c,rfl⟩,c2,rfl⟩,λs B E=>⟨E.2.1,E.2.2.2.1⟩⟩)
  (λq p x f j y z I=>by
   have⟨H,tmps,assign,body,O,R⟩:=Y p x f j.1 y z I;refine⟨H,tmps,assign,body,O,R.mono ?_⟩;rintro e d (⟨r1,r2,r3⟩|r)
   .refine .inl ⟨r1,r2,?_⟩;match q,j with
    |none,_=>trivial
    |some (g,o,i,o2),⟨_,a1,a2,a3,a4,⟨c,ec⟩,c2,ec2⟩=>grind
   .exact .inr r) X M
 apply h.mono;rintro e d ⟨he,⟨q,ss,p1,p2,j⟩|⟨p,_,hf⟩⟩
 .exact⟨he,.inl ⟨ss,p1,p2,j.1⟩⟩
 .exact⟨he,.inr ⟨p,trivial,hf⟩⟩
theorem Bu(n:Nat)(b:Nat)(w:nL):
  CallsIn Fence.wide n prog 178 #[.map<|some b] w λe w'=>e=.returned (.func (.func 240) #[] #[gx w.heap.size])/\w'=w.alloc (.cells #[.map<|some b] 192):=by
 refine callsIn_of_wp func178 rfl trivial ?_ rfl;simp only[ntmps178,ji,zzr,jn,Nat.reduceAdd,Nat.reduceSub,mK,jo,j7,j8,kV,lC];gi_wp2;go_ret;exact⟨rfl,rfl⟩
end
end Go.Proofs.YtlgeloebpdmnnaaGreatDoor
