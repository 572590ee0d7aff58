import Derived.Test.YtdcafjmdfpjcbaaGreatDoorC35
set_option maxHeartbeats 8000000
set_option maxRecDepth 100000
namespace Go.Proofs.YtdcafjmdfpjcbaaGreatDoor
open Go.RowKit Go.Maps Tryz Sc
variable{a b p:ByteArray}{rp:Nat}{t v:Value}{w w2:World}{R:aK}{x:a_}{r:oU}
abbrev WU(l:aJ):Value:=.agg #[.string l.key,.bool l.wr,.bool l.gone,.string l.val]
theorem JZ(h:a.data.toList<b.data.toList):Op.bytesLess a.toList b.toList=true:=by rw[Proofs.bytesLess_eq];simpa [Lib.toList_data]using h
theorem yw(h:¬a.data.toList<b.data.toList):Op.bytesLess a.toList b.toList=false:=by rw[Proofs.bytesLess_eq];simpa [Lib.toList_data]using h
theorem En(h:a≠b):(a.toList==b.toList)=false:=by
 rw[beq_eq_false_iff_ne];intro e;exact h<|l7<|by simpa [Lib.toList_data]using e
theorem C0(l:aJ){d:Bool}(h:p≠l.key)(g:¬(d=false/\l.key.data.toList<p.data.toList)):cI l ((p,a)::r) d=(p,a)::cI l r d:=by grind[cI]
theorem J1(l:aJ):cI l ((l.key,p)::r) false=(l.key,l.val)::cI l r true:=by grind[cI,nZ]
theorem J2(l:aJ):cI l ((l.key,p)::r) true=cI l r true:=by grind[cI]
theorem N8(l:aJ)(h:l.key.data.toList<p.data.toList):cI l ((p,a)::r) false=(l.key,l.val)::(p,a)::cI l r true:=by grind[cI]
theorem Fr.newer{a:World}{B:Nat}(f:Fr [] w a)(h:∀k,v.ownBlock=some k->B<=k)(c:w.heap.size<=B)(g:a.grownBy w2 v.ownBlock):Fr [] w w2:=
 Fr.dV f (λk b=>zzk c<|h k b) g
theorem cX.YU [Inhabited Bs]{v2:Value}{s:List (a_×Value)}{b:oU}(h:cX w rp t v s R)(f:Fr [] w w2)(o:w2.ownsRow B0 102 2 v2 b.length<|eA b):cX (w2.setCell (dH rp) v2) rp v2 v s ⟨b,R.af⟩:=by
 have a:=h.fr f;refine {base:=a.base,blk:=?_,tab:=b_ o a.blk dN,tk:=b_ a.tk a.blk dN,nj:=λp hp=>b_ (a.nj p hp) a.blk dN,apart:=a.apart,rs:=a.rs,mine:=λk c=>a.mine k (by rw[World.size_setCell]at c;exact c)};have:=aH a.blk 0 v2
 simpa using this
theorem Rl [Inhabited Bs](rp:Nat)(l:aJ)(R:aK)(w:World)(h:RS w rp R)(hn:R.table.length<=1048576):
  Calls prog 90 #[rM rp,WU l] w λe w'=>e=.returned (.tuple #[])/\RS w' rp ⟨gD R.table l,R.af⟩/\iE w w':=by
 have⟨tv,xv,ps,h⟩:=h;have⟨Y,jc,a7,a1,a6⟩:=info_parts vG;have⟨b,nX⟩:=xY <|w.alloc (.cells #[.string l.key,.bool l.wr,.bool l.gone,.string l.val] 134);have eU:Fr [] w b:=by rw[nX];exact(lE w).alloc _
 have ja:b.heap.size=w.heap.size+1:=by rw[nX];simp
 have Ly:b.heap[w.heap.size]?=some (.cells #[.string l.key,.bool l.wr,.bool l.gone,.string l.val] 134 (0,0)):=by rw[nX];exact heap_alloc_new w _
 have⟨T,hT⟩:=xY R.table;have⟨n,jD⟩:=xY T.length;have HN:Hid (T.length=n):=jD.symm;have K:Hid (cX b rp tv xv ps R/\Fr [] w b/\T=R.table/\b.heap[w.heap.size]?=some (.cells #[.string l.key,.bool l.wr,.bool l.gone,.string l.val] 134 (0,0))):=⟨h.fr eU,eU,hT,Ly⟩;rw[<-hT,<-jD]at hn;have a':Hid (True/\b.heap.size<=b.heap.size/\b.heap.size=w.heap.size+1):=⟨trivial,zzc _,ja⟩;clear h eU Ly jD hT;go_enter func90,ntmps90;go_wp2;rw[<-nX];clear nX;go_loopw [4,5,6] (λo dn i wr=>∃(k:Nat) (done:Bool) (t:oU),k<=n/\i=.int .i64 k/\dn=.bool done/\Hid (wr.ownsRow b.heap.size 102 2 o t.length (eA t)/\Fr [] b wr/\t.length<=2*k/\t++cI l (T.drop k) done=gD T l)) (λ_ _ i _=>n-(intOf i).toNat);case atStart=>exact⟨0,l.gone,[],zzs _,rfl,rfl,zzu _ _ _ _,lE _,sE,rfl⟩
 case round=>
  obtain⟨k,done,t,s,rfl,rfl,V⟩:=hrel;have⟨m,hm⟩:=xY t.length;have P:Hid (m=t.length):=hm;have UW:m<=2*k:=by rw[hm];exact V.2.2.1
  have ie:=V.2.1;have C:=V.1;rw[<-hm]at C;clear hm;have⟨ao,c,e0,H⟩:=K.1.table;rw[<-K.2.2.1,HN.out]at e0;rw[<-K.2.2.1]at H;by_cases bP:k<n
  .obtain⟨⟨p1,p2⟩,hp⟩:∃p,T[k]?=some p:=⟨_,zzg (by rw[HN.out];exact bP)⟩;obtain⟨g,rfl,x0,x1⟩:=H k _ hp;have O:Hid (t++cI l ((p1,p2)::T.drop (k+1)) done=gD T l):=by
    have:=V.2.2.2;rw[List.drop_eq_getElem_cons (by rw[HN.out];exact bP),(zzd.1 hp).2]at this;exact this
   have i1:(0:Int)<=k:=oE;have i2:(k:Int)<n:=oE;have q:Hid (∀W,Fr [] b W->W.cell? (dH rp)=some (.slice (some (dH g)) n c)/\W.cell? (d8 g (k*2))=some (.string p1)/\W.cell? (d8 g (k*2+1))=some (.string p2)/\W.cell? (dH w.heap.size)=some (.string l.key)/\W.cell? (d8 w.heap.size 3)=some (.string l.val)):=λW M=>by
    have L:=K.1.fr M;have c0:=aa L.blk 0;simp at c0;rw[e0]at c0;have X:=(M.block w.heap.size (by rw[a'.2.2];omega) sE).trans K.2.2.2;have l0:=aa X 0;have l3:=aa X 3;simp at l0 l3;exact⟨c0,(zze (M.block g (zzF b _ x0) sE)).trans x0,(zze (M.block g (zzF b _ x0) sE)).trans x1,l0,l3⟩
   have⟨y0,y1,y2,y3,y4⟩:=q.out wr ie;clear H hp x0 x1 V e0;cases done with
   |false=>
    obtain Z|a8|Tv:=Ri p1.data.toList l.key.data.toList
    .have bl:Op.bytesLess p1.toList l.key.toList=true:=JZ Z;have be:(p1.toList==l.key.toList)=false:=En (λe=>by rw[e]at Z;exact nZ _ Z);go_wp2;go_quiet (fail)
     have F:Fr [] b (wr.drewN nq):=ie.aR nq;have d:=av C ((lE wr).aR nq) sE;generalize wr.drewN nq=E2 at F d ⊢;clear C ie;have⟨B,D,y,E,z⟩:=q.out E2 F;go_wp2;go_quiet (fail)
     have A:Fr [] b (E2.drewN nq):=F.aR nq;have Q:=av d ((lE E2).aR nq) sE;generalize E2.drewN nq=Po at A Q ⊢;clear d F;have⟨B,D,y,E,z⟩:=q.out Po A;go_wp2_with (at_builtin;(apply b5 rfl _ _ 44 rfl b.heap.size 102 Y _ 2 32 underlying44 jc a7 a1 a6 rfl dN _ m _ rfl (Q.alloc _) 1 [.string p1,.string p2] (.inl ⟨dH Po.heap.size,1,rfl,cD _ #[.string p1,.string p2] _⟩) rfl (by intro u f;simp at f;obtain rfl|rfl:=f<;>rfl) mE oE (by have:=A.size;simp;omega);intro N j r x _;have J:Fr [] b j:=Fr.newer (A.alloc _) (λk s=>(Q.lt k s).1) (zzc _) x;have U:j.ownsRow b.heap.size 102 2 N (m+1) (eA (t++[(p1,p2)])):=(by rw[iK];exact r);have⟨B,D,y,E,z⟩:=q.out j J;clear r x));have I:Hid (j.ownsRow b.heap.size 102 2 N (t++[(p1,p2)]).length (eA (t++[(p1,p2)]))/\Fr [] b j/\(t++[(p1,p2)]).length<=2*(k+1)/\t++[(p1,p2)]++cI l (T.drop (k+1)) false=gD T l):=by
      have G:(t++[(p1,p2)]).length=(m+1):=by simp[<-P.out]
      refine⟨by rw[G];exact U,J,by rw[G];omega,?_⟩;rw[<-O.out,C0 l (λe=>by rw[e]at Z;exact nZ _ Z) (λh=>absurd h.2 (vF Z))];simp
     go_roundw;case rel=>exact⟨k+1,false,t++[(p1,p2)],oE,nF,rfl,I.out⟩
     case measure=>simp[intOf];omega
    .have ek:p1=l.key:=l7 a8;subst ek;have bl:Op.bytesLess l.key.toList l.key.toList=false:=yw (nZ _);have be:(l.key.toList==l.key.toList)=true:=sE;go_wp2;go_quiet (fail)
     have F:Fr [] b (wr.drewN nq):=ie.aR nq;have d:=av C ((lE wr).aR nq) sE;generalize wr.drewN nq=E2 at F d ⊢;clear C ie;have⟨B,D,y,E,z⟩:=q.out E2 F;go_wp2;go_quiet (fail)
     have A:Fr [] b (E2.drewN nq):=F.aR nq;have Q:=av d ((lE E2).aR nq) sE;generalize E2.drewN nq=Po at A Q ⊢;clear d F;have⟨B,D,y,E,z⟩:=q.out Po A;go_wp2_with (at_builtin;(apply b5 rfl _ _ 44 rfl b.heap.size 102 Y _ 2 32 underlying44 jc a7 a1 a6 rfl dN _ m _ rfl (Q.alloc _) 1 [.string l.key,.string l.val] (.inl ⟨dH Po.heap.size,1,rfl,cD _ #[.string l.key,.string l.val] _⟩) rfl (by intro u f;simp at f;obtain rfl|rfl:=f<;>rfl) mE oE (by have:=A.size;simp;omega);intro N j r x _;have J:Fr [] b j:=Fr.newer (A.alloc _) (λk s=>(Q.lt k s).1) (zzc _) x;have U:j.ownsRow b.heap.size 102 2 N (m+1) (eA (t++[(l.key,l.val)])):=(by rw[iK];exact r);have⟨B,D,y,E,z⟩:=q.out j J;clear r x));have I:Hid (j.ownsRow b.heap.size 102 2 N (t++[(l.key,l.val)]).length (eA (t++[(l.key,l.val)]))/\Fr [] b j/\(t++[(l.key,l.val)]).length<=2*(k+1)/\t++[(l.key,l.val)]++cI l (T.drop (k+1)) true=gD T l):=by
      have G:(t++[(l.key,l.val)]).length=(m+1):=by simp[<-P.out]
      refine⟨by rw[G];exact U,J,by rw[G];omega,?_⟩;rw[<-O.out,J1 l];simp
     go_roundw;case rel=>exact⟨k+1,true,t++[(l.key,l.val)],oE,nF,rfl,I.out⟩
     case measure=>simp[intOf];omega
    .have bl:Op.bytesLess p1.toList l.key.toList=false:=yw (vF Tv);have be:(p1.toList==l.key.toList)=false:=En (λe=>by rw[e]at Tv;exact nZ _ Tv);go_wp2;go_quiet (fail)
     have F:Fr [] b (wr.drewN nq):=ie.aR nq;have d:=av C ((lE wr).aR nq) sE;generalize wr.drewN nq=E2 at F d ⊢;clear C ie;have⟨B,D,y,E,z⟩:=q.out E2 F;go_wp2_with (at_builtin;(apply b5 rfl _ _ 44 rfl b.heap.size 102 Y _ 2 32 underlying44 jc a7 a1 a6 rfl dN _ m _ rfl (d.alloc _) 1 [.string l.key,.string l.val] (.inl ⟨dH E2.heap.size,1,rfl,cD _ #[.string l.key,.string l.val] _⟩) rfl (by intro u f;simp at f;obtain rfl|rfl:=f<;>rfl) mE oE (by have:=F.size;simp;omega);intro v2 w2 r x _;have A:Fr [] b w2:=Fr.newer (F.alloc _) (λk s=>(d.lt k s).1) (zzc _) x;have Q:w2.ownsRow b.heap.size 102 2 v2 (m+1) (eA (t++[(l.key,l.val)])):=(by rw[iK];exact r);have⟨B,D,y,E,z⟩:=q.out w2 A;clear r x));go_wp2;go_quiet (fail)
     have J:Fr [] b (w2.drewN nq):=A.aR nq;have U:=av Q ((lE w2).aR nq) sE;generalize w2.drewN nq=wq3 at J U ⊢;clear Q A;have⟨B,D,y,E,z⟩:=q.out wq3 J;go_wp2_with (at_builtin;(apply b5 rfl _ _ 44 rfl b.heap.size 102 Y _ 2 32 underlying44 jc a7 a1 a6 rfl dN _ (m+1) _ rfl (U.alloc _) 1 [.string p1,.string p2] (.inl ⟨dH wq3.heap.size,1,rfl,cD _ #[.string p1,.string p2] _⟩) rfl (by intro u f;simp at f;obtain rfl|rfl:=f<;>rfl) mE oE (by have:=J.size;simp;omega);intro v4 w4 r x _;have kN:Fr [] b w4:=Fr.newer (J.alloc _) (λk s=>(U.lt k s).1) (zzc _) x;have QU:w4.ownsRow b.heap.size 102 2 v4 ((m+1)+1) (eA (t++[(l.key,l.val)]++[(p1,p2)])):=(by rw[iK];exact r);have⟨B,D,y,E,z⟩:=q.out w4 kN;clear r x));have I:Hid (w4.ownsRow b.heap.size 102 2 v4 (t++[(l.key,l.val)]++[(p1,p2)]).length (eA (t++[(l.key,l.val)]++[(p1,p2)]))/\Fr [] b w4/\(t++[(l.key,l.val)]++[(p1,p2)]).length<=2*(k+1)/\t++[(l.key,l.val)]++[(p1,p2)]++cI l (T.drop (k+1)) true=gD T l):=by
      have G:(t++[(l.key,l.val)]++[(p1,p2)]).length=((m+1)+1):=by simp[<-P.out]
      refine⟨by rw[G];exact QU,kN,by rw[G];omega,?_⟩;rw[<-O.out,N8 l Tv];simp
     go_roundw;case rel=>exact⟨k+1,true,t++[(l.key,l.val)]++[(p1,p2)],oE,nF,rfl,I.out⟩
     case measure=>simp[intOf];omega
   |true=>
    by_cases a8:p1=l.key
    .subst a8;have be:(l.key.toList==l.key.toList)=true:=sE;go_wp2;go_quiet (fail)
     have F:Fr [] b (wr.drewN nq):=ie.aR nq;have d:=av C ((lE wr).aR nq) sE;generalize wr.drewN nq=E2 at F d ⊢;clear C ie;have⟨B,D,y,E,z⟩:=q.out E2 F;go_wp2;go_quiet (fail)
     have A:Fr [] b (E2.drewN nq):=F.aR nq;have Q:=av d ((lE E2).aR nq) sE;generalize E2.drewN nq=Po at A Q ⊢;clear d F;have⟨B,D,y,E,z⟩:=q.out Po A;have I:Hid (Po.ownsRow b.heap.size 102 2 u4 (t).length (eA (t))/\Fr [] b Po/\(t).length<=2*(k+1)/\t++cI l (T.drop (k+1)) true=gD T l):=by
      have G:(t).length=m:=by simp[<-P.out]
      refine⟨by rw[G];exact Q,A,by rw[G];omega,?_⟩;rw[<-O.out,J2 l]
     go_wp2;go_roundw;case rel=>exact⟨k+1,true,t,oE,nF,rfl,I.out⟩
     case measure=>simp[intOf];omega
    .have be:(p1.toList==l.key.toList)=false:=En a8;go_wp2;go_quiet (fail)
     have F:Fr [] b (wr.drewN nq):=ie.aR nq;have d:=av C ((lE wr).aR nq) sE;generalize wr.drewN nq=E2 at F d ⊢;clear C ie;have⟨B,D,y,E,z⟩:=q.out E2 F;go_wp2;go_quiet (fail)
     have A:Fr [] b (E2.drewN nq):=F.aR nq;have Q:=av d ((lE E2).aR nq) sE;generalize E2.drewN nq=Po at A Q ⊢;clear d F;have⟨B,D,y,E,z⟩:=q.out Po A;go_wp2_with (at_builtin;(apply b5 rfl _ _ 44 rfl b.heap.size 102 Y _ 2 32 underlying44 jc a7 a1 a6 rfl dN _ m _ rfl (Q.alloc _) 1 [.string p1,.string p2] (.inl ⟨dH Po.heap.size,1,rfl,cD _ #[.string p1,.string p2] _⟩) rfl (by intro u f;simp at f;obtain rfl|rfl:=f<;>rfl) mE oE (by have:=A.size;simp;omega);intro N j r x _;have J:Fr [] b j:=Fr.newer (A.alloc _) (λk s=>(Q.lt k s).1) (zzc _) x;have U:j.ownsRow b.heap.size 102 2 N (m+1) (eA (t++[(p1,p2)])):=(by rw[iK];exact r);have⟨B,D,y,E,z⟩:=q.out j J;clear r x));have I:Hid (j.ownsRow b.heap.size 102 2 N (t++[(p1,p2)]).length (eA (t++[(p1,p2)]))/\Fr [] b j/\(t++[(p1,p2)]).length<=2*(k+1)/\t++[(p1,p2)]++cI l (T.drop (k+1)) true=gD T l):=by
      have G:(t++[(p1,p2)]).length=(m+1):=by simp[<-P.out]
      refine⟨by rw[G];exact U,J,by rw[G];omega,?_⟩;rw[<-O.out,C0 l a8 (λh=>by cases h.1)];simp
     go_roundw;case rel=>exact⟨k+1,true,t++[(p1,p2)],oE,nF,rfl,I.out⟩
     case measure=>simp[intOf];omega
  .have Hz:k=n:=oE;have O:Hid (t++cI l [] done=gD T l):=by
    have:=V.2.2.2;rw[List.drop_eq_nil_of_le (by rw[HN.out];omega)]at this;exact this
   have L:=K.1.fr ie;have c0:=aa L.blk 0;have f0:=au L.blk 0;simp at c0;rw[e0]at c0;have X:=(ie.block w.heap.size (by rw[a'.2.2];omega) sE).trans K.2.2.2;have l0:=aa X 0;have l3:=aa X 3;simp at l0 l3;have JP:Hid (∀(W:World) (v:Value),Fr [] b W->W.ownsRow b.heap.size 102 2 v (gD T l).length (eA (gD T l))->RS (W.setCell (dH rp) v) rp ⟨gD R.table l,R.af⟩/\iE w (W.setCell ⟨rp,0,none⟩ v)):=λW v M r=>by
    rw[<-K.2.2.1];exact⟨⟨_,_,_,K.1.YU M (ownsRow_base_a r K.1.low)⟩,(iE.dJ (K.2.1.trans M) sE).trans (iE.dJ (Fr.cH (S:=[rp]) (by simp) _ _) λk s=>by simp at s;subst s;exact(K.1.fr M).ref)⟩
   clear H V L X;cases done with
   |true=>
    have e9:gD T l=t:=by rw[<-O.out];simp[cI]
    have hR:=JP.out wr u4 ie (by rw[e9,<-P.out];exact C);have I:=ae hR;obtain⟨o2,c2,rfl⟩:=bZ C;clear hR JP;go_wp2;go_end0;exact⟨rfl,I.out⟩
   |false=>
    have e9:Hid (gD T l=t++[(l.key,l.val)]):=by show _=_;rw[<-O.out];simp[cI]
    go_wp2_with (at_builtin;apply b5 rfl _ _ 44 rfl b.heap.size 102 Y _ 2 32 underlying44 jc a7 a1 a6 rfl dN _ m _ rfl (C.alloc _) 1 [.string l.key,.string l.val] (.inl ⟨dH wr.heap.size,1,rfl,cD _ #[.string l.key,.string l.val] _⟩) rfl (by intro u f;simp at f;obtain rfl|rfl:=f<;>rfl) mE oE (by have:=ie.size;simp;omega);intro v1 w1 fe iN _;obtain⟨o2,c2,rfl⟩:=bZ fe;have F:Fr [] b w1:=Fr.newer (ie.alloc _) (λk s=>(C.lt k s).1) (zzc _) iN;have I:=ae (JP.out w1 _ F (by rw[e9.out,iK,zzi,<-P.out];exact fe));have L:=K.1.fr F;have f1:=au L.blk 0;have c1:=aa L.blk 0;clear fe iN L F);go_end0;exact⟨rfl,I.out⟩
theorem ud(l:aJ):∀(b:oU) (d:Bool),(cI l b d).length<=b.length+1
 |[],d=>by cases d<;>simp[cI]
 |p::r,d=>by
  have h:=ud l r d;have a:(cI l r true).length<=r.length:=by rw[kU];exact List.length_filter_le _ _
  unfold cI;split
  .simp;omega
  .split
   .simp;omega
   .split
    .simp;omega
    .simp;omega
theorem RS.tx [Inhabited Bs](h:RS w rp R){i:Nat}(m:R.af[i]?=some x):∃g c b d,w.cell? (d8 rp 1)=some (.slice (some<|dH g) R.af.length c)/\w.cell? (d8 g<|i*5+1)=some (.int .i64 (x.st:Int))/\w.cell? (d8 g<|i*5+4)=some (.slice b x.ak.length d) /\
  ∀k l,x.ak[k]?=some l->∃a,b=some (dH a)/\w.cell? (d8 a<|k*4)=some (.string l.key)/\w.cell? (d8 a<|k*4+1)=some (.bool l.wr)/\w.cell? (d8 a<|k*4+2)=some (.bool l.gone)/\w.cell? (d8 a<|k*4+3)=some (.string l.val):=by
 have⟨u,y,s,h⟩:=h;have c1:=aa h.blk 1;simp at c1;have⟨v,hp⟩:=h.at m;have⟨r,c,o,H⟩:=h.slice;have⟨g,n,t,f,p,q,e⟩:=H i _ hp;have⟨b,d,j,L⟩:=mR<|h.nj _<|zzh hp;simp only[]at f e j L;rw[o,n,h.len]at c1;rw[j]at e;exact⟨g,c,b,d,c1,f,e,L⟩
def aK.cR(R:aK)(t:Nat):aK × Nat :=
 if t=0 then (R,7) else
 match aU R.af t with
 |none=>(R,0)
 |some x=>if x.st=3 then (⟨eE R.table x.ak,del R.af t⟩,0) else (R,4)
theorem GG [Inhabited Bs](rp t:Nat)(R:aK)(w:World)(h:RS w rp R)(hn:R.af.length<=1048576)(O:jg R.af)(Y:∀x∈R.af,x.ak.length<=1000)(xu:R.table.length<=500000):
  Calls prog 55 #[rM rp,.int .u64 (t:Int)] w λe w'=>e=.returned (.int .i64 ((R.cR t).2:Int))/\RS w' rp (R.cR t).1/\iE w w'/\(R.state t≠3->Fr [] w w'):=by
 have s:=ae<|zzb h O
 have a:Calls prog 77 #[.pointer<|some (dH rp),.int .u64 (t:Int)] w λe w'=>e=.returned (.int .i64<|ze<|p8 R.af t)/\∃q,w'=w.drewN q:=by
  have⟨V,M,I,h⟩:=h;exact oI rp t V M I R w h<|by rw[h.len];omega
 by_cases v:t=0
 .have f:R.cR t=(R,7):=if_pos v;subst v;clear h;go_enter func55,ntmps55;go_wp2_with fail;apply a.mono;rintro e d ⟨rfl,q,rfl⟩;have N:=ae<|(lE w).aR q;clear a;go_wp2;go_ret;rw[f];exact⟨rfl,s.1.fr N.out,iE.dJ N.out sE,λ_=>N.out⟩
 have z1:¬((t:Int)=0):=oE;have b0:((t:Int)==0)=false:=sC;cases o:p8 R.af t with
 |none=>
  have f:R.cR t=(R,0):=by unfold aK.cR;rw[if_neg v,mg o]
  rw[o]at a;have G:ze none=-1:=rfl;rw[G]at a;clear h o;go_enter func55,ntmps55;go_wp2_with fail;apply a.mono;rintro e d ⟨rfl,q,rfl⟩;have N:=ae<|(lE w).aR q;clear a;go_wp2;go_ret;rw[f];exact⟨rfl,s.1.fr N.out,iE.dJ N.out sE,λ_=>N.out⟩
 |some i=>
  have⟨x,m,a1,J⟩:=kR o;rw[o]at a;have G:ze (some i)=(i:Int):=rfl;rw[G]at a;have X:i<R.af.length:=(zzd.1 m).1;have HX:Hid (R.af.take i++R.af.drop (i+1)=del R.af t):=by have:=O.erase m;rw[a1]at this;exact this
  have JN:=Y x<|zzh m;have Z:=ae<|zzb m J;have⟨n,D⟩:=xY R.af.length;have HN:=ae D;rw[<-D]at X hn;have⟨b,L⟩:=xY x.ak.length;have S:=ae L;rw[<-L]at JN
  have Q:Hid (∀(W:World) (T:oU),RS W rp ⟨T,R.af⟩->∃g c y A,W.cell? (d8 rp 1)=some (.slice (some (dH g)) n c)/\W.cell? (d8 g (i*5+1))=some (.int .i64 (x.st:Int))/\W.cell? (d8 g (i*5+4))=some (.slice y b A) /\
   ∀k l,x.ak[k]?=some l->∃j,y=some (dH j)/\W.cell? (d8 j (k*4))=some (.string l.key)/\W.cell? (d8 j (k*4+1))=some (.bool l.wr)/\W.cell? (d8 j (k*4+2))=some (.bool l.gone)/\W.cell? (d8 j (k*4+3))=some (.string l.val)):=λW T hW=>by
   have:=hW.tx m;rw[D,L];exact this
  have i0:(0:Int)<=i:=oE;have i1:(i:Int)<n:=oE;have i2:¬(i:Int)<0:=oE;have cm:Hid (R.state t=x.st):=by show _=_;unfold aK.state;rw[J];rfl
  clear h o m D L Y O J;by_cases C:x.st=3
  .have f:R.cR t=(⟨eE R.table x.ak,del R.af t⟩,0):=by unfold aK.cR;rw[if_neg v,Z.2];simp[C]
   go_enter func55,ntmps55;go_wp2_with fail;apply a.mono;rintro e d ⟨rfl,q,rfl⟩;have N:Fr [] w (w.drewN q):=(lE w).aR q;generalize w.drewN q=d at N ⊢;clear a;have⟨g,c,y,A,c1,z,U,_⟩:=Q.out d R.table<|s.1.fr N;rw[C]at z;have F:=ae N;clear N;go_wp2;clear c1 z U
   go_loopw [6] (λE wr=>∃(k:Nat) (T:oU),k<=b/\E=.int .i64 k/\Hid (RS wr rp ⟨T,R.af⟩/\iE w wr/\eE T (x.ak.drop k)=eE R.table x.ak/\T.length<=R.table.length+k)) (λE _=>b-(intOf E).toNat);case atStart=>exact⟨0,R.table,zzs _,rfl,s.1.fr F.out,iE.dJ F.out sE,rfl,sE⟩
   case round=>
    obtain⟨k,T,P,rfl,r⟩:=hrel;have⟨g,c,y,A,c1,z,U,K⟩:=Q.out wr T r.1;by_cases bP:k<b
    .obtain⟨l,ic⟩:∃l,x.ak[k]?=some l:=⟨_,zzg<|by rw[<-S.out];exact bP⟩;obtain⟨j,rfl,y0,y1,y2,y3⟩:=K k l ic;have j0:(0:Int)<=k:=oE
     have j1:(k:Int)<b:=oE;have HD:Hid (eE T (x.ak.drop k)=eE (if l.wr=true then gD T l else T) (x.ak.drop<|k+1)):=by
      show _=_;rw[List.drop_eq_getElem_cons<|by rw[<-S.out];exact bP,(zzd.1 ic).2];rfl
     have YV:T.length<=1048576:=by have:=r.2.2.2;omega
     clear K ic;cases p:l.wr with
     |true=>
      have B:=Rl rp l ⟨T,R.af⟩ wr r.1 YV;rw[p]at y1;unfold WU at B;rw[p]at B;go_wp2_with fail;apply B.mono;rintro e w2 ⟨rfl,lQ,cU⟩;have H:Hid (RS w2 rp ⟨gD T l,R.af⟩/\iE w w2/\eE (gD T l) (x.ak.drop<|k+1)=eE R.table x.ak/\(gD T l).length<=R.table.length+(k+1)):=by
       refine⟨lQ,r.2.1.trans cU,?_,?_⟩
       .have:=HD.out;rw[if_pos p]at this;rw[<-this];exact r.2.2.1
       .have h1:=ud l T l.gone;have h2:=r.2.2.2;unfold gD;omega
      clear B lQ cU;go_wp2;go_roundw;case rel=>exact⟨k+1,gD T l,oE,nF,H.out⟩
      case measure=>simp[intOf];omega
     |false=>
      rw[p]at y1;have H:Hid (RS wr rp ⟨T,R.af⟩/\iE w wr/\eE T (x.ak.drop<|k+1)=eE R.table x.ak/\T.length<=R.table.length+(k+1)):=by
       refine⟨r.1,r.2.1,?_,by have:=r.2.2.2;omega⟩;have:=HD.out;rw[if_neg<|by simp[p]]at this;rw[<-this];exact r.2.2.1
      go_wp2;go_roundw;case rel=>exact⟨k+1,T,oE,nF,H.out⟩
      case measure=>simp[intOf];omega
    .have HT:Hid (T=eE R.table x.ak):=by
      have:=r.2.2.1;rw[List.drop_eq_nil_of_le<|by rw[<-S.out];omega]at this;exact this
     have⟨V,M,I,u⟩:=r.1;have hd:=xt rp i V M I ⟨T,R.af⟩ wr u (by rw[u.len];show i<R.af.length;rw[<-HN.out];exact X) (by rw[u.len];show R.af.length<=_;rw[<-HN.out];exact hn);have a6:=ae u.ref;clear K u;go_wp2_with fail;apply hd.mono;rintro e w2 ⟨rfl,⟨CX,lQ⟩,hf⟩;have H:Hid (RS w2 rp ⟨eE R.table x.ak,del R.af t⟩/\iE w w2):=⟨by rw[<-HX.out,<-HT.out];exact⟨_,_,_,lQ⟩,r.2.1.trans (iE.dJ hf λk P=>by simp at P;subst P;exact a6.out)⟩;clear hd lQ hf;go_wp2;go_ret;rw[f];exact⟨rfl,H.1,H.2,λh=>absurd (cm.out.trans C) h⟩
  .have f:R.cR t=(R,4):=by unfold aK.cR;rw[if_neg v,Z.2];simp[C]
   have z3:¬((x.st:Int)=3):=oE;go_enter func55,ntmps55;go_wp2_with fail;apply a.mono;rintro e d ⟨rfl,q,rfl⟩;have N:Fr [] w (w.drewN q):=(lE w).aR q;generalize w.drewN q=d at N ⊢;clear a;have⟨g,c,y,A,c1,z,U,_⟩:=Q.out d R.table<|s.1.fr N;have F:=ae N;clear N;go_wp2;go_ret;rw[f];exact⟨rfl,s.1.fr F.out,iE.dJ F.out sE,λ_=>F.out⟩
theorem C1(l:oU):∀u∈eA l,u.oneCell'=true:=by
 intro u h;have⟨p,hp,q⟩:=List.mem_flatMap.1 h;simp at q;obtain rfl|rfl:=q<;>rfl
theorem C2(l:List aJ):∀u∈dW l,u.oneCell'=true:=by
 intro u h;have⟨p,hp,q⟩:=List.mem_flatMap.1 h;simp at q;obtain rfl|rfl|rfl|rfl:=q<;>rfl
theorem zf{base:Nat}{e:TypeId}{size n:Nat}{xs:List Value}(h:w.ownsRow base e size v n xs):Ei w v n xs:=by
 rcases h.2 with⟨rfl,rfl⟩|⟨g,p,r,rfl,rest⟩
 .exact .inr ⟨rfl,rfl,List.eq_nil_of_length_eq_zero<|by rw[h.1];simp⟩
 .refine .inl ⟨_,_,rfl,h.cells rfl⟩
theorem Fr.C3{b:World}(h:Fr [] w b)(k:Fr v.ownBlock.toList b w2)(c:eB w v):Fr [] w w2:=
 ⟨k.os.trans h.os,k.tape.trans h.tape,k.output.trans h.output,zzk h.size k.size,λi a hn=>(k.block i (zzl a h.size) λm=>by have:=c i (by simpa using m);omega).trans<|h.block i a hn⟩
theorem cX.Rm [Inhabited Bs]{c:World}{d:Nat}{a b l:Value}{s:List (a_×Value)}{T:oU}{X:List a_}(h:cX w d t a s ⟨T,X⟩)(f:Fr a.ownBlock.toList w c)(E:c.ownsRow B0 92 5 b (s.length+1)<|cT s++jZ (x,l))(G:c.ownsRow B0 134 4 l x.ak.length<|dW x.ak)(i:eB w l)(I:∀k,b.ownBlock=some k->a.ownBlock=some k\/w.heap.size<=k):
  cX (c.setCell (d8 d 1) b) d t b (s++[(x,l)]) ⟨T,X++[x]⟩:=by
 have B:∀{e:TypeId} {size n:Nat} {v:Value} {y:List Value},e≠92->w.ownsRow B0 e size v n y->∀g,v.ownBlock=some g->g∉a.ownBlock.toList:=by
  intro e size n v y z u g A m;have U:a.ownBlock=some g:=by grind
  have⟨c1,C⟩:=aF u A;have⟨c2,o⟩:=aF h.tk U;rw[C]at o;cases o;exact z rfl
 have J:c.heap[d]?=some (vI t a):=(f.block d (zza.1 h.blk).1 λm=>bG h.tk h.blk dN<|by simpa using m).trans h.blk;refine {base:=h.base,blk:=?_,tab:=b_ (av h.tab f<|B dN h.tab) J dN,tk:=?_,nj:=λp hp=>?_,apart:=?_,rs:=by rw[List.map_append,h.rs];rfl,mine:=λk D=>?mn}
 case mn=>
  have F:=f.size;obtain e|e|⟨p,hp,e⟩|e:=D
  .exact h.mine k<|.inl e
  .rcases I k e with e|e
   .exact h.mine k<|.inr<|.inl e
   .exact h.mine k<|.inr<|.inr<|.inr e
  .rcases zzo.1 hp with hp|hp
   .exact h.mine k<|.inr<|.inr<|.inl ⟨p,hp,e⟩
   .simp at hp;subst hp;exact h.mine k<|.inr<|.inr<|.inr<|i k e
  .rw[World.size_setCell]at e;exact h.mine k<|.inr<|.inr<|.inr oE
 .have:=aH J 1 b;simpa using this
 .rw[zzi,kW];refine b_ ?_ J dN;have e:cT [(x,l)]=jZ (x,l):=rfl;rw[e];exact E
 .rcases zzo.1 hp with hp|hp
  .exact b_ (av (h.nj p hp) f<|B dN<|h.nj p hp) J dN
  .grind [b_]
 .refine List.pairwise_append.2 ⟨h.apart,sE,λp hp q j=>?_⟩;simp at j;subst j
  cases r:p.2.ownBlock with
  |none=>grind
  |some g=>
   refine .inr λe=>?_
   have K:=((h.nj p hp).lt g r).2;have H:=i g e.symm;omega
def RSn [Inhabited Bs](w w':World)(rp:Nat)(R:aK):Prop:=∃t v s,cX w' rp t v s R/\eB w v/\∀p∈s,eB w p.2
theorem N9 [Inhabited Bs](rp:Nat)(R:aK)(w:World)(h:RS w rp R)(hn:R.af.length<=1048576)(hl:∀x∈R.af,x.ak.length<=1000)(xu:R.table.length<=1048576):
  Calls prog 15 #[rM rp] w λe w'=>∃b,e=.returned (rM b)/\w.heap.size<=b/\RSn w w' b R/\Fr [] w w':=by
 have⟨tv,xv,ps,h⟩:=h;have⟨i0,jc,a',a7,a8⟩:=info_parts vG;have⟨j0,ad,ak,al,an⟩:=info_parts vJ;have⟨l0,J3,YW,YX,YY⟩:=info_parts rS;have c0:=aa h.blk 0;have c1:=aa h.blk 1;simp at c0 c1;have N5:rp<w.heap.size:=(zza.1 h.blk).1;have yO:=zf h.tab;have I:=ae h;clear h;go_enter func15,ntmps15;go_wp2_with (at_builtin;refine b5 rfl _ _ 44 rfl w.heap.size 102 i0 _ 2 32 underlying44 jc a' a7 a8 rfl dN (.slice none 0 0) 0 [] rfl (zzu _ _ _ _) R.table.length (eA R.table) yO (Ak _) (C1 _) mE oE (zzc _) ?_;intro t1 S fe iN uH;obtain⟨o1,y,rfl⟩:=bZ fe;have K:Fr [] w S:=Fr.dV (lE w) (eB.nil w) iN;clear iN uH);have⟨b,J⟩:=xY S.heap.size;have⟨j,F⟩:=xY <|S.alloc (.cells #[.slice o1 R.table.length y,.slice none 0 0] 47);have o7:Fr [] w j:=by rw[F];exact K.alloc _
 have a1:cX j b (.slice o1 R.table.length y) (.slice none 0 0) [] ⟨R.table,[]⟩:=by
  refine {base:=zzk I.out.low<|by rw[J];exact K.size,blk:=?_,tab:=?_,tk:=zzu _ _ _ _,nj:=sE,apart:=sE,rs:=rfl,mine:=λk hk=>I.out.mine k (.inr<|.inr<|.inr ?mn)}
  case mn=>
   have ab:=K.size;obtain e|e|⟨p,hp,_⟩|e:=hk
   .omega
   .cases e
   .cases hp
   .have:=o7.size;omega
  .rw[F,J];exact heap_alloc_new S _
  .rw[F];have:=ownsRow_base_a fe I.out.low
   simpa using this.alloc _
 have Hw:w.heap.size<=b:=by rw[J];exact K.size
 have E:b<j.heap.size:=(zza.1 a1.blk).1;rw[<-F];rw[<-J];have N:=ae<|show cX j b (.slice o1 R.table.length y) (.slice none 0 0) [] ⟨R.table,[]⟩/\Fr [] w j/\w.heap.size<=b/\b<j.heap.size from ⟨a1,o7,Hw,E⟩;clear F J a1 o7 fe K yO c0 c1 jc a' a7 a8 Hw E;obtain⟨n,jD⟩:∃n,n=ps.length:=⟨_,rfl⟩;have HN:=ae jD.symm;rw[<-I.out.len,<-jD]at hn;clear jD;have HL:=ae hl;clear hl
 go_loopw [4] (λi wr=>∃(k:Nat) (O:Value) (s:List<|a_×Value),k<=n/\i=.int .i64 k/\Hid (cX wr b (.slice o1 R.table.length y) O s ⟨R.table,R.af.take k⟩/\Fr [] w wr/\s.length=k/\eB w O/\j.heap.size<=wr.heap.size/\∀p∈s,eB w p.2)) (λi _=>n-(intOf i).toNat)
 case atStart=>exact⟨0,.slice none 0 0,[],zzs _,rfl,N.1,N.2.1,rfl,eB.nil _,zzc _,sE⟩
 case round=>
  obtain⟨k,O,s,hk,rfl,d⟩:=hrel;have Q:=I.out.fr d.2.1;have c1:=aa Q.blk 1;simp at c1;obtain⟨ao,c,e0,H⟩:=Q.slice;rw[e0,HN.out]at c1;have ab:=d.2.1.size;have Rn:=zzk I.out.low ab;have E:=zzl N.2.2.2 d.2.2.2.2.1;by_cases bP:k<n
  .obtain⟨p,hp⟩:∃p,ps[k]?=some p:=⟨_,zzg<|by rw[HN.out];exact bP⟩;obtain⟨g,rfl,x0,x1,x2,x3,x4⟩:=H k p hp;have M:=Q.nj p<|zzh hp;obtain⟨pa,pc,ep⟩:=bZ M;have JN:=HL.out p.1<|zzh<|I.out.back hp;obtain⟨l,uL⟩:∃l,l=p.1.ak.length:=⟨_,rfl⟩;rw[ep]at x4 M;rw[<-uL]at x4 M JN;have a6:=aa d.1.blk 1;simp at a6;have i1:(0:Int)<=k:=oE
   have i2:(k:Int)<n:=oE;have HP:=ae<|zzb hp uL;have TI:=zf<|M.alloc<|.cells #[.int .u64 (p.1.id:Int),.int .i64 (p.1.st:Int),.int .i64 (p.1.ops:Int),.int .i64 (p.1.jY:Int),.slice pa l pc] 92;clear H hp Q uL ep M
   go_wp2_with (at_builtin;refine b5 rfl _ _ 90 rfl wr.heap.size 134 l0 _ 4 40 underlying90 J3 YW YX YY rfl dN (.slice none 0 0) 0 [] rfl (zzu _ _ _ _) l (dW p.1.ak) TI (by rw[Aj,<-HP.2]) (C2 _) mE oE sE ?_;intro lv w2 iH Y wV;obtain⟨o2,f,rfl⟩:=bZ iH;have U:=(Y.block wr.heap.size sE<|by simp[Value.ownBlock]).trans<|heap_alloc_new wr _;have q0:=aa U 0;have q1:=aa U 1;have q2:=aa U 2;have q3:=aa U 3;have q4:=aa U 4;have qf:=au U 4;have lI:=Y.cell ((zze (a:=⟨b,1,none⟩)<|zzf wr _ b E).trans a6) (by simp[Value.ownBlock]);simp at q0 q1 q2 q3 q4)
   have X:Fr [] wr (w2.setCell ⟨wr.heap.size,4,none⟩<|.slice o2 l f):=(Fr.dV ((lE wr).alloc _) (eB.nil wr) Y).setCell (.inr<|zzc _) _;have Z:(w2.setCell ⟨wr.heap.size,4,none⟩<|.slice o2 l f).ownsRow wr.heap.size 134 4 (.slice o2 l f) l (dW p.1.ak):=b_ (by simpa using iH) U dN;have V:=aH U 4<|.slice o2 l f;obtain⟨W,YZ⟩:∃W,W=w2.setCell ⟨wr.heap.size,4,none⟩ (.slice o2 l f):=⟨_,rfl⟩;rw[<-YZ]at X Z V ⊢;clear YZ q0 q1 q2 q3 q4 qf lI Y wV iH U a6 TI;have b0:=aa V 0;have b1:=aa V 1;have b2:=aa V 2;have b3:=aa V 3;have b4:=aa V 4;simp at b0 b1 b2 b3 b4;have A:=d.1.fr X;have p2:=aa A.blk 1;have g2:=au A.blk 1;simp at p2;have oX:=zzl E X.size;have yG:∀z,(W.alloc z).frozen? ⟨b,1,none⟩=false:=λz=>(zzw (a:=⟨b,1,none⟩)<|zzf W z b oX).trans g2
   have O9:∀z,(W.alloc z).cell? ⟨b,1,none⟩=some O:=λz=>(zze (a:=⟨b,1,none⟩)<|zzf W z b oX).trans p2
   have G:=A.tk;rw[d.2.2.1]at G;obtain⟨t,v,ex⟩:=bZ G;subst ex;have HB:Hid (W.heap[b]?=some (vI (.slice o1 R.table.length y)<|.slice t k v)/\some b≠(Value.slice t k v).ownBlock):=⟨A.blk,λe=>bG G A.blk dN e.symm⟩;have Uh:=zzk Rn X.size;have o:=ae<|show Fr [] wr W/\W.ownsRow wr.heap.size 134 4 (.slice o2 l f) l (dW p.1.ak)/\W.ownsRow B0 92 5 (.slice t k v) k (cT s)from ⟨X,Z,G⟩;clear X Z V A G
   go_region_law (first|(rw[if_pos<|by rfl];refine fT _ _ 45 rfl B0 92 j0 _ 5 56 underlying45 ad ak al an rfl dN _ k (cT s) rfl (o.2.2.alloc _) ⟨W.heap.size,0,none⟩ 1 1 [.int .u64 (p.1.id:Int),.int .i64 (p.1.st:Int),.int .i64 (p.1.ops:Int),.int .i64 (p.1.jY:Int),.slice o2 l f] rfl rfl (cD _ #[.int .u64 (p.1.id:Int),.int .i64 (p.1.st:Int),.int .i64 (p.1.ops:Int),.int .i64 (p.1.jY:Int),.slice o2 l f] _) (by intro u hu;simp at hu;obtain rfl|rfl|rfl|rfl|rfl:=hu<;>rfl) mE oE (zzk Uh sE) ?_;intro v4 C lh T jH;obtain⟨L,c4,rfl⟩:=bZ lh;have tH:C.heap[b]?=some (vI (.slice o1 R.table.length y)<|.slice t k v):=(T.block b sC HB.2).trans<|(zzf W _ b oX).trans HB.1;have t2:=aa tH 1;have tf:=au tH 1;simp at t2))
   all_goals
    have P:Fr (Value.slice t k v).ownBlock.toList wr C:=(o.1.mono sE).trans<|(((Fr.refl _ W).alloc _).drew).trans<|Fr.dc (r:=(Value.slice t k v).ownBlock) T
    have HR:Hid (cX (C.setCell ⟨b,1,none⟩<|.slice L (k+1) c4) b (.slice o1 R.table.length y) (.slice L (k+1) c4) (s++[(p.1,.slice o2 l f)]) ⟨R.table,R.af.take<|k+1⟩/\Fr [] w (C.setCell ⟨b,1,none⟩<|.slice L (k+1) c4)/\(s++[(p.1,(.slice o2 l f:Value))]).length=k+1/\eB w (.slice L (k+1) c4)/\j.heap.size<=(C.setCell ⟨b,1,none⟩<|.slice L (k+1) c4).heap.size/\∀q∈s++[(p.1,(.slice o2 l f:Value))],eB w q.2):=by
     have Tz:C.ownsRow B0 134 4 (.slice o2 l f) p.1.ak.length (dW p.1.ak):=by
      have h1:=av (ownsRow_base_a o.2.1 Rn) (((lE W).alloc<|.cells #[.int .u64 (p.1.id:Int),.int .i64 (p.1.st:Int),.int .i64 (p.1.ops:Int),.int .i64 (p.1.jY:Int),.slice o2 l f] 92).drew) sE;have h2:=av o.2.2 (((lE W).alloc<|.cells #[.int .u64 (p.1.id:Int),.int .i64 (p.1.st:Int),.int .i64 (p.1.ops:Int),.int .i64 (p.1.jY:Int),.slice o2 l f] 92).drew) sE;rw[<-HP.2];refine av h1 (Fr.dc (r:=(Value.slice t k v).ownBlock) T) λg D m=>?_
      have nU:(Value.slice t k v).ownBlock=some g:=by simpa using m
      have⟨ca,ea⟩:=aF h1 D;have⟨cb,eb⟩:=aF h2 nU;rw[ea]at eb;cases eb
     have e1:R.af.take (k+1)=R.af.take k++[p.1]:=by rw[List.take_add_one,I.out.back HP.1];rfl
     have B:=d.2.2.1;refine⟨?_,?_,by simp[B],?_,?_,?_⟩
     .rw[e1];exact d.1.Rm P (by rw[B];exact lh) Tz (λg D=>(o.2.1.lt g D).1) λq B=>jH.elim (λe=>.inl<|e▸B) λe=>.inr<|by rw[e]at B;cases B;have:=o.1.size;simp;omega
     .have hx:=(d.2.1).C3 P d.2.2.2.1;exact hx.setCell (.inr N.2.2.1) _
     .exact eB.next d.2.2.2.1 (by have:=o.1.size;simp;omega) jH
     .have h1:=P.size;have h2:=d.2.2.2.2.1;simp[World.setCell];omega
     .intro q m;obtain m|m:=zzo.1 m
      .exact d.2.2.2.2.2 q m
      .simp at m;subst m;exact λg D=>zzk d.2.1.size (o.2.1.lt g D).1
    clear P T lh jH tH;go_wp2;go_roundw;case rel=>exact⟨k+1,_,_,oE,nF,HR.out⟩
    case measure=>simp[intOf];omega
  .have Hz:k=n:=oE;have HT:Hid (R.af.take k=R.af):=zzt (by rw[Hz,<-HN.out,I.out.len];omega);clear H;go_wp2;go_ret;refine⟨b,rfl,N.2.2.1,?_,d.2.1⟩;have:=d.1;rw[HT.out]at this;exact⟨_,_,_,this,d.2.2.2.1,d.2.2.2.2.2⟩
theorem L'(k n:Nat):k9 (be k n):=Fa k n
abbrev kk:ByteArray:=⟨#[107]⟩
def pk(c:Int)(n:Nat):Nat:=((if c<0 then -(c+1) else c)%(n:Int)).toNat
theorem GH{a b:Int}(h:a=b):Ending.returned (.int .i64 a)=.returned (.int .i64 b):=by rw[h]
theorem aa5(c:Int)(n:Nat)(hn:0<n):pk c n<n:=by
 unfold pk;have h:=Int.emod_nonneg (if c<0 then -(c+1)else c) (show(n:Int)≠0 by omega);have a:=Int.emod_lt_of_pos (if c<0 then -(c+1)else c) (show(0:Int)<n by omega);omega
end Go.Proofs.YtdcafjmdfpjcbaaGreatDoor
