import Derived.Test.YtdcafjmdfpjcbaaGreatDoorC20
set_option maxHeartbeats 4000000
set_option maxRecDepth 100000
namespace Go.Proofs.YtdcafjmdfpjcbaaGreatDoor
open Go.RowKit Go.Maps Tryz Sc
variable{H T V g m n p:Nat}{w w':World}{s:ag}
def zS(L:List (ByteArray × aQ)):Bool:=L.any λp=>p.2.writes
theorem B2(b n:Nat)(L:List<|ByteArray×aQ)(w:World)(h:bB KS EG w b n L):
  Calls prog 191 #[.map<|some b] w λe w'=>e=.returned (.bool<|zS L)/\Fr [] w w':=by
 have I:=ae h;clear h;go_enter func191,ntmps191;go_wp2_with (first
  |(at_range;apply fF rfl _ 303 287 rfl underlying303 b n L rfl I.out;intro C y q D)
  |go_in)
 go_frame;have N:=ae<|Fr.dc q;have J:=ae y;clear y q
 go_loopw [4] (λ_ wr=>∃rem,Hid<|bI KS EG wr b w.heap.size n L rem/\(∀p∈L,p∉rem->p.2.writes=false)/\Fr [] w wr/\w.heap.size+1<=wr.heap.size) (λ_ wr=>wr.rangeLeft b w.heap.size);case atStart=>exact⟨L,J.out,λp z o=>absurd z o,N.out,oE⟩
 case round=>
  have⟨rem,X⟩:=hrel;have f:=X.1;go_wp2_with (first
   |(at_next;refine fQ rfl _ rfl b w.heap.size n L rem rfl f ?_ ?_)
   |go_in)
  .intro eQ;go_wp2;go_ret;refine⟨?_,X.2.2.1⟩;have B:zS L=false:=by
    unfold zS;rw[List.any_eq_false];intro p hp;rw[X.2.1 p hp<|by rw[eQ];simp];simp
   rw[B];rfl
  .intro k x w2 hm pW bP dY cC uI;have Y:(k,x)∈L:=by
    have⟨_,_,_,_,_,_,_,_,i,_⟩:=f;exact i _ hm
   have T:Hid (Fr [] w w2):=X.2.2.1.andThen (Fr.bK dY) (λj v A=>by simp at v;omega);have m:w.heap.size+1<=w2.heap.size:=by have:=X.2.2.2;omega
   have Q:(Instr.entry<|.pointer<|some (dH w.heap.size)).run prog w2=.ok (.tuple #[.string k,.agg #[.int .u8 (x.way:Int),.string x.val]]) w2:=uI;have O:Hid (x.writes=false->∀W,Fr [] w2 W->(∃rem,Hid<|bI KS EG W b w.heap.size n L rem/\(∀p∈L,p∉rem->p.2.writes=false)/\Fr [] w W/\w.heap.size+1<=W.heap.size)/\W.rangeLeft b w.heap.size<wr.rangeLeft b w.heap.size):=λd W c=>by
    have⟨s,r⟩:=pW.fr c sE sE;refine⟨⟨cO rem k,s,λp hp hn=>?_,T.out.trans c,zzk m c.size⟩,by rw[r];exact bP⟩;by_cases g:p∈rem
    .have TC:p.1=k:=Decidable.byContradiction λl=>hn<|zzp.2 ⟨g,by simp[l]⟩
     have R:aV L:=by have⟨_,_,_,t,_⟩:=f.owns;exact t
     have:=R.same hp Y TC;rw[this];exact d
    .exact X.2.1 p hp g
   have S:Hid (x.writes=true->zS L=true):=λd=>by
    unfold zS;rw[List.any_eq_true];exact⟨_,Y,d⟩
   clear f pW hm Y uI dY cC bP;by_cases a:x.way=0
   .have hb:((x.way:Int) != 0)=false:=by simp[a]
    have u:Hid _:=O.out (by simp[aQ.writes,a]);clear O S a;go_wp2;exact u.out _<|((lE w2).alloc _).alloc _
   .have hb:((x.way:Int) != 0)=true:=by simp[a]
    have P:Hid _:=S.out (by simp[aQ.writes,a]);clear O S a;go_wp2;go_ret;exact⟨by rw[P.out];rfl,T.out.trans<|((lE w2).alloc _).alloc _⟩
section
variable{P:Program}{K V:Type}[DecidableEq K]{E:TypeId}{KR:jI P K E}{ER:nC V}{w:World}{ops:Array Oper}{rest:List Oper}{o:Oper}{a:Act}{Q:Exit->Act->World->Prop}
theorem pQ(v:o.guard=none)(m x:Operand)(t e:TypeId)(B:o.op=Op.call {callee:=Callee.builtin Builtin.delete,args:=#[m,x],argTypes:=#[t,E]})(G:P.underlying t=some (.map E e))(b r n:Nat)(l rem:List<|K×V)(d:a.eval m=.map (some b))(M:bI KR ER w b r n l rem)
  (k:K) (h:KR.ok k) (D:a.eval x=KR.kv k)
  (F:∀w',bI KR ER w' b r n (cO l k) (cO rem k)->w'.rangeLeft b r<=w.rangeLeft b r->w.grownBy w' (some b)->wpList P ops Q rest (a.put o.dst<|.tuple #[]) w'):wpList P ops Q (o::rest) a w:=by
 have⟨es,left,u,f,hp,C,z,y,q,s⟩:=M;apply wpList_delete_ranges w v m x t E B e KR.law G ER.R b r n _ left u d f _ (KR.kl k) D (KR.key k h);intro w' i U g A;have S:w'.rangeLeft b r<=w.rangeLeft b r:=by rw[U.left_eq,f.left_eq];exact g
 rw[DataW.del_eq]at U;refine F w' ⟨_,_,i,U,wT hp z h,C.del k,λp hp=>z p (zzp.1 hp).1,y.del k,λp hp=>?_,λj c=>?_⟩ S A.grown
 .have:=zzp.1 hp;exact zzp.2 ⟨q p this.1,this.2⟩
 .rw[s j c,KR.same c h,iI];by_cases e:j=k
  .simp[e]
  .simp[e]
end
theorem D2(bs p g V T H n tx:Nat)(k:ByteArray)(x:aQ)(s:ag)(w:World)(h:bC w p g V T H n s)(f:w.heap[bs]?=some (.cells #[rM p] 60))(I:tx<2^64):
  Calls prog 184 #[.agg #[.int .u64 (tx:Int),.string k],.agg #[.int .u8 (x.way:Int),.string x.val],rM bs] w λe w'=>e=.returned (.bool<|decide<|(s.aM tx).state=0)/\Fr [] w w':=by
 have a:=ae h;have d:=aa f 0;simp at d;have W:bs<w.heap.size:=(zza.1 f).1;have z:¬bs=w.heap.size:=oE;have c:¬bs=w.heap.size+1:=oE;clear h f;go_enter func184,ntmps184;go_wp2_with fail;apply(Nw p g V T H n tx s _ (a.out.fr (((lE w).alloc _).alloc _) sE sE sE sE) I).mono;rintro e b ⟨rfl,q,rfl⟩;go_wp2;go_ret;refine⟨?_,fR (((lE w).alloc _).alloc _) q⟩;congr 2;by_cases e:(s.aM tx).state=0
 .simp[e]
 .simp[e]
def qD(s:ag)(p:(Nat × ByteArray) × aQ):Bool:=!decide ((s.aM p.1.1).state=0)
theorem F7(bs a l V T H n:Nat)(s:ag)(w:World)(h:bC w a l V T H n s)(f:w.heap[bs]?=some (.cells #[rM a] 60)):
  Calls prog 183 #[.map<|some H,.func (.func 184) #[] #[rM bs]] w λe w'=>e=.returned (.tuple #[])/\bC w' a l V T H n {s with holds:=s.holds.filter (qD s)}/\Fr [H] w w':=by
 have I:Hid (bC w a l V T H n s):=h;have O:Hid (w.heap[bs]?=some (.cells #[.pointer<|some ⟨a,0,none⟩] 60)):=f;have W:bs<w.heap.size:=(zza.1 f).1;have a1:H<w.heap.size:=h.oT.2.2.2.1;have q:bs≠H:=by rintro rfl;have⟨es,c,e⟩:=h.holds.isMap;rw[f]at e;cases e
 clear h f;go_enter func183,ntmps183;go_wp2_with (first
  |(at_range;apply fF (KR:=KH) (ER:=EG) rfl _ 145 287 rfl underlying145 H n s.holds rfl I.out.holds;intro J K v ja)
  |go_in)
 go_frame;have QN:Hid (Fr [H] w J):=(Fr.dc v).mono sE;have Jl:Hid (bI KH EG J H w.heap.size n (s.holds.filter λ_=>true) s.holds):=by
  have e:(s.holds.filter λ_=>true)=s.holds:=List.filter_eq_self.2 sE;rw[e];exact K
 clear K v;go_loopw [4] (λ_ wr=>∃rem g,Hid<|bI KH EG wr H w.heap.size n (s.holds.filter g) rem/\(∀p∈s.holds,p∉rem->g p=qD s p)/\(∀p∈rem,p∈s.holds)/\Fr [H] w wr/\w.heap.size+1<=wr.heap.size) (λ_ wr=>wr.rangeLeft H w.heap.size);case atStart=>exact⟨s.holds,λ_=>true,Jl.out,λp h1 h2=>absurd h1 h2,λp hp=>hp,QN.out,oE⟩
 case round=>
  have⟨rem,g,X⟩:=hrel;have k:=X.1;go_wp2_with (first
   |(at_next;refine fQ (KR:=KH) (ER:=EG) rfl _ rfl H w.heap.size n (s.holds.filter g) rem rfl k ?_ ?_)
   |go_in)
  .intro eQ;go_wp2;go_end0;have e:s.holds.filter g=s.holds.filter (qD s):=List.filter_congr λp hp=>X.2.1 p hp<|by rw[eQ];simp
   refine⟨rfl,?_,X.2.2.2.1⟩;rw[<-e];exact I.out.vt X.2.2.2.1 X.1.owns<|zzc _
  .intro tx k2 x w2 m pW bP dY cC uI;have t:((tx,k2),x)∈s.holds:=X.2.2.1 _ m;have z:tx<18446744073709551616/\k2.size<=maxLen:=by
    have⟨_,_,_,_,z⟩:=I.out.holds;exact(z _ t).1
   have TB:Hid (w2.rangeLeft H w.heap.size<wr.rangeLeft H w.heap.size):=bP;have B:Hid (bI KH EG w2 H w.heap.size n (s.holds.filter g)<|cO rem (tx,k2)):=pW;have i:Hid (Fr [H] w w2):=X.2.2.2.1.andThen (Fr.bK dY) (λj hj hl=>by simp at hj;omega);have wN:w.heap.size+1<=w2.heap.size:=by have:=X.2.2.2.2;omega
   have QO:(Instr.entry<|.pointer<|some ⟨w.heap.size,0,none⟩).run prog w2=.ok (.tuple #[.agg #[.int .u64 (tx:Int),.string k2],.agg #[.int .u8 (x.way:Int),.string x.val]]) w2:=uI;have Ys:Hid (bC w2 a l V T H n {s with holds:=s.holds.filter g}):=I.out.vt i.out B.out.owns<|zzc _;have P:Hid (w2.heap[bs]?=some (.cells #[.pointer<|some ⟨a,0,none⟩] 60)):=(i.out.block bs W<|by simp;exact q).trans O.out;have L:Hid (aV s.holds):=by have⟨_,_,_,h3,_⟩:=I.out.holds;exact h3
   have r:Hid (((tx,k2),x)∈rem/\((tx,k2),x)∈s.holds):=⟨m,t⟩;have HG:Hid (g ((tx,k2),x)=true):=by
    have⟨_,_,_,_,_,_,_,_,S,_⟩:=k;exact(zzp.1<|S _ m).2
   clear k pW m t uI dY cC bP;go_wp2_with fail;apply(D2 bs a l V T H n tx k2 x {s with holds:=s.holds.filter g} _ (Ys.out.fr (((lE w2).alloc _).alloc _) sE sE sE sE) (((((lE w2).alloc _).alloc _).block bs oE sE).trans P.out) z.1).mono;rintro e b ⟨rfl,UX⟩;have F:Hid (Fr [] w2 b):=(((lE w2).alloc _).alloc _).trans UX;have A:b.heap[w2.heap.size]?=some (.cells #[.int .u64 (tx:Int),.string k2] 289):=by
    rw[UX.block w2.heap.size sC sE,((Fr.refl []<|w2.alloc<|.cells #[.int .u64 (tx:Int),.string k2] 289).alloc _).block w2.heap.size sE sE];exact heap_alloc_new _ _
   have k0:=aa A 0;have k1:=aa A 1;simp at k0 k1;clear UX A;have Y:Hid (qD s ((tx,k2),x)=!decide ((s.aM tx).state=0)):=rfl;have Z:Hid (w.heap.size+1<=b.heap.size):=zzk wN F.out.size;have y:({s with holds:=s.holds.filter g}:ag).aM tx=s.aM tx:=rfl;rw[y];clear y;have⟨D,u⟩:=B.out.fr F.out sE sE;have o:Hid (bI KH EG b H w.heap.size n (s.holds.filter g) (cO rem (tx,k2))/\b.rangeLeft H w.heap.size<wr.rangeLeft H w.heap.size):=⟨D,by rw[u];exact TB.out⟩;have C:Hid (Fr [H] w b):=i.out.trans (F.out.mono sE);have Q:Hid (∀p∈cO rem (tx,k2),p∈s.holds):=λp hp=>X.2.2.1 p (zzp.1 hp).1
   have E:Hid (∀p∈s.holds,p∉cO rem (tx,k2)->p=((tx,k2),x)\/p∉rem):=λp hp hn=>by
    by_cases G:p∈rem
    .have TC:p.1=(tx,k2):=Decidable.byContradiction λq=>hn<|zzp.2 ⟨G,by simp[q]⟩
     exact .inl<|L.out.same hp r.2 TC
    .exact .inr G
   clear D u;by_cases d:(s.aM tx).state=0
   .have hd:decide ((s.aM tx).state=0)=true:=by simp[d]
    rw[hd]at Y ⊢;clear d hd;go_wp2_with (first
     |(at_delete;apply pQ (KR:=KH) (ER:=EG) rfl _ _ 145 287 rfl underlying145 H w.heap.size n (s.holds.filter g) (cO rem (tx,k2)) rfl o.1 (tx,k2) z rfl;intro w4 U R iX)
     |go_in)
    go_frame;go_wp2;have N:Fr [H] b w4:=Fr.bK iX;have e4:cO (s.holds.filter g) (tx,k2)=s.holds.filter λp=>!decide (p.1=(tx,k2))&&g p:=List.filter_filter ..
    rw[e4]at U;go_roundw;case rel=>
     refine⟨cO (cO rem (tx,k2)) (tx,k2),λp=>!decide (p.1=(tx,k2))&&g p,U,λp hp hn=>?_,λp hp=>Q.out p (zzp.1 hp).1,C.out.trans N,zzk Z.out N.size⟩;have M:p∉cO rem (tx,k2):=λm=>hn<|zzp.2 ⟨m,(zzp.1 m).2⟩
     obtain rfl|Fu:=E.out p hp M
     .rw[Y.out];simp
     .have WG:¬p.1=(tx,k2):=λe=>Fu<|by rw[L.out.same hp r.2 e];exact r.1
      rw[<-X.2.1 p hp Fu];simp[WG]
    case measure=>exact Nat.lt_of_le_of_lt R o.2
   .have hd:decide ((s.aM tx).state=0)=false:=by simp[d]
    rw[hd]at Y ⊢;clear d hd;go_wp2;refine⟨⟨cO rem (tx,k2),g,o.1,λp hp hn=>?_,Q.out,C.out,Z.out⟩,o.2⟩;obtain rfl|Fu:=E.out p hp hn
    .rw[HG.out,Y.out];rfl
    .exact X.2.1 p hp Fu
def ag.release(s:ag):ag:={ s with holds:=s.holds.filter (qD s) }
def ag.forget(s:ag)(t:Nat):ag:=ag.release { s with af:=cO s.af t }
theorem bC.ld{ts:List (Nat×fX)}(h:bC w p g V T H n s)(f:Fr [T] w w')(a:bB KU ET w' T m ts)(hn:n<=m):bC w' p g V T H m {s with af:=ts}:=
 {blk:=(f.block p h.oT.1 (by simp;exact h.oT.2.2.2.2.2.1)).trans h.blk
  aS:=(h.aS.fr f<|by simp;exact h.ne.1).mono hn
  af:=a
  holds:=(h.holds.fr f<|by simp;exact λe=>h.ne.2.2 e.symm).mono hn
  ne:=h.ne
  aL:=h.aL}
theorem yg(p g V T H n:Nat)(s:ag)(w:World)(h:bC w p g V T H n s):
  Calls prog 133 #[rM p] w λe w'=>e=.returned (.tuple #[])/\bC w' p g V T H n s.release/\Fr [H] w w':=by
 have I:=ae h;have c3:=aa h.blk 3;simp at c3;have K:=h.oT.1;have b:¬p=w.heap.size:=oE;have z:¬w.heap.size=p:=oE;clear h;go_enter func133,ntmps133;go_wp2_with fail;apply(F7 w.heap.size p g V T H n s _ (I.out.fr ((lE w).alloc _) sE sE sE sE)<|heap_alloc_new _ _).mono;rintro e a ⟨rfl,d_,bF⟩;have Y:=ae d_;clear d_;go_wp2;go_end0;exact⟨rfl,Y.out,((Fr.refl [H] w).alloc _).trans bF⟩
theorem kO(p g V T H n t:Nat)(s:ag)(w:World)(h:bC w p g V T H n s)(b:t<2^64):
  Calls prog 140 #[rM p,.int .u64 (t:Int)] w λe w'=>e=.returned (.tuple #[])/\bC w' p g V T H n (s.forget t)/\Fr [T,H] w w':=by
 have I:=ae h;have c2:=aa h.blk 2;simp at c2;clear h;go_enter func140,ntmps140;go_wp2_with (first
  |(at_delete;apply qA rfl _ _ 144 195 rfl underlying144 T n s.af rfl I.out.af t b rfl;intro c A N)
  |fail)
 have Z:=I.out.ld (Fr.bK N) A<|zzc _;have r:=yg p g V T H n _ c Z;have f:=ae<|Fr.bK N;clear Z A N c2;go_wp2_with fail;apply r.mono;rintro e w2 ⟨rfl,cC,cA⟩;have J:=ae cC;clear cC;go_wp2;go_end0;exact⟨rfl,J.out,(f.out.mono<|by intro k _ a;simp at a;simp[a]).trans<|cA.mono<|by intro k _ a;simp at a;simp[a]⟩
def qE(s:ag)(x:fX):Bool:=!decide (x.state=3)&&decide ((16:Int)<=IntKind.u64.wrap ((s.aL:Int)-(x.last:Int)))
def pR(s:ag)(p:Nat × fX):Bool:=!qE s p.2
theorem Nz(bs p g V T H n tx:Nat)(x:fX)(s:ag)(w:World)(h:bC w p g V T H n s)(f:w.heap[bs]?=some (.cells #[rM p] 60)):
  Calls prog 132 #[.int .u64 (tx:Int),.agg #[.int .i64 (x.state:Int),.int .i64 (x.done:Int),.int .u64 (x.last:Int)],rM bs] w λe w'=>e=.returned (.bool<|qE s x)/\Fr [] w w':=by
 have d:=aa f 0;have c4:=aa h.blk 4;simp at d c4;have W:bs<w.heap.size:=(zza.1 f).1;have K:=h.oT.1;have z:¬bs=w.heap.size:=oE;have b:¬p=w.heap.size:=oE;clear h f;by_cases a:x.state=3
 .have hb:((x.state:Int) != 3)=false:=by simp[a]
  have I:qE s x=false:=by simp[qE,a]
  rw[I];clear a I;go_enter func132,ntmps132;go_wp2;go_quiet (fail)
  go_wp2;go_ret;exact⟨rfl,fR ((lE w).alloc _) _⟩
 .have hb:((x.state:Int) != 3)=true:=sC;have I:qE s x=decide ((16:Int)<=IntKind.u64.wrap ((s.aL:Int)-(x.last:Int))):=by simp[qE,a]
  rw[I];clear a I;go_enter func132,ntmps132;go_wp2;go_quiet (fail)
  go_wp2;go_ret;exact⟨rfl,fR ((lE w).alloc _) _⟩
theorem F9(bs a l V T H n:Nat)(s:ag)(w:World)(h:bC w a l V T H n s)(f:w.heap[bs]?=some (.cells #[rM a] 60)):
  Calls prog 131 #[.map<|some T,.func (.func 132) #[] #[rM bs]] w λe w'=>e=.returned (.tuple #[])/\bC w' a l V T H n {s with af:=s.af.filter (pR s)}/\Fr [T] w w':=by
 have I:Hid (bC w a l V T H n s):=h;have M:Hid (w.heap[bs]?=some (.cells #[.pointer<|some ⟨a,0,none⟩] 60)):=f;have W:bs<w.heap.size:=(zza.1 f).1;have a1:T<w.heap.size:=h.oT.2.2.1;have q:bs≠T:=by rintro rfl;have⟨es,c,e⟩:=h.af.isMap;rw[f]at e;cases e
 clear h f;go_enter func131,ntmps131;go_wp2_with (first
  |(at_range;apply fF (KR:=KU) (ER:=ET) rfl _ 144 195 rfl underlying144 T n s.af rfl I.out.af;intro G J v ja)
  |go_in)
 go_frame;have S:Hid (Fr [T] w G):=(Fr.dc v).mono sE;have Jl:Hid (bI KU ET G T w.heap.size n (s.af.filter λ_=>true) s.af):=by
  have e:(s.af.filter λ_=>true)=s.af:=List.filter_eq_self.2 sE;rw[e];exact J
 clear J v;go_loopw [4] (λ_ wr=>∃rem g,Hid<|bI KU ET wr T w.heap.size n (s.af.filter g) rem/\(∀p∈s.af,p∉rem->g p=pR s p)/\(∀p∈rem,p∈s.af)/\Fr [T] w wr/\w.heap.size+1<=wr.heap.size) (λ_ wr=>wr.rangeLeft T w.heap.size);case atStart=>exact⟨s.af,λ_=>true,Jl.out,λp h1 h2=>absurd h1 h2,λp hp=>hp,S.out,oE⟩
 case round=>
  have⟨rem,g,X⟩:=hrel;have k:=X.1;go_wp2_with (first
   |(at_next;refine fQ (KR:=KU) (ER:=ET) rfl _ rfl T w.heap.size n (s.af.filter g) rem rfl k ?_ ?_)
   |go_in)
  .intro eQ;go_wp2;go_end0;have e:s.af.filter g=s.af.filter (pR s):=List.filter_congr λp hp=>X.2.1 p hp<|by rw[eQ];simp
   refine⟨rfl,?_,X.2.2.2.1⟩;rw[<-e];exact I.out.ld X.2.2.2.1 X.1.owns<|zzc _
  .intro tx x w2 m pW bP dY cC uI;have t:(tx,x)∈s.af:=X.2.2.1 _ m;have z:tx<18446744073709551616:=by
    have⟨_,_,_,_,z⟩:=I.out.af;exact(z _ t).1
   have TB:Hid (w2.rangeLeft T w.heap.size<wr.rangeLeft T w.heap.size):=bP;have B:Hid (bI KU ET w2 T w.heap.size n (s.af.filter g)<|cO rem tx):=pW;have i:Hid (Fr [T] w w2):=X.2.2.2.1.andThen (Fr.bK dY) (λj hj hl=>by simp at hj;omega);have wN:w.heap.size+1<=w2.heap.size:=by have:=X.2.2.2.2;omega
   have QO:(Instr.entry<|.pointer<|some ⟨w.heap.size,0,none⟩).run prog w2=.ok (.tuple #[.int .u64 (tx:Int),.agg #[.int .i64 (x.state:Int),.int .i64 (x.done:Int),.int .u64 (x.last:Int)]]) w2:=uI;have Ys:Hid (bC w2 a l V T H n {s with af:=s.af.filter g}):=I.out.ld i.out B.out.owns<|zzc _;have O:Hid (w2.heap[bs]?=some (.cells #[.pointer<|some ⟨a,0,none⟩] 60)):=(i.out.block bs W<|by simp;exact q).trans M.out;have K:Hid (aV s.af):=by have⟨_,_,_,h3,_⟩:=I.out.af;exact h3
   have r:Hid ((tx,x)∈rem/\(tx,x)∈s.af):=⟨m,t⟩;have HG:Hid (g (tx,x)=true):=by
    have⟨_,_,_,_,_,_,_,_,R,_⟩:=k;exact(zzp.1<|R _ m).2
   clear k pW m t uI dY cC bP;go_wp2_with fail;apply(Nz bs a l V T H n tx x {s with af:=s.af.filter g} _ (Ys.out.fr ((lE w2).alloc _) sE sE sE sE)<|(((lE w2).alloc _).block bs oE sE).trans O.out).mono;rintro e b ⟨rfl,UX⟩;have F:Hid (Fr [] w2 b):=((lE w2).alloc _).trans UX;clear UX;have Y:Hid (pR s (tx,x)=!qE s x):=rfl;have Z:Hid (w.heap.size+1<=b.heap.size):=zzk wN F.out.size;have y:qE {s with af:=s.af.filter g} x=qE s x:=rfl;rw[y];clear y;have⟨C,u⟩:=B.out.fr F.out sE sE;have o:Hid (bI KU ET b T w.heap.size n (s.af.filter g) (cO rem tx)/\b.rangeLeft T w.heap.size<wr.rangeLeft T w.heap.size):=⟨C,by rw[u];exact TB.out⟩;have A:Hid (Fr [T] w b):=i.out.trans (F.out.mono sE);have Q:Hid (∀p∈cO rem tx,p∈s.af):=λp hp=>X.2.2.1 p (zzp.1 hp).1
   have D:Hid (∀p∈s.af,p∉cO rem tx->p=(tx,x)\/p∉rem):=λp hp hn=>by
    by_cases E:p∈rem
    .have TC:p.1=tx:=Decidable.byContradiction λq=>hn<|zzp.2 ⟨E,by simp[q]⟩
     exact .inl<|K.out.same hp r.2 TC
    .exact .inr E
   clear C u;cases d:qE s x with
   |true=>
    rw[d]at Y;clear d;go_wp2_with (first
     |(at_delete;apply pQ (KR:=KU) (ER:=ET) rfl _ _ 144 195 rfl underlying144 T w.heap.size n (s.af.filter g) (cO rem tx) rfl o.1 tx z rfl;intro w4 U P iX)
     |go_in)
    go_frame;go_wp2;have N:Fr [T] b w4:=Fr.bK iX;have e4:cO (s.af.filter g) tx=s.af.filter λp=>!decide (p.1=tx)&&g p:=List.filter_filter ..
    rw[e4]at U;go_roundw;case rel=>
     refine⟨cO (cO rem tx) tx,λp=>!decide (p.1=tx)&&g p,U,λp hp hn=>?_,λp hp=>Q.out p (zzp.1 hp).1,A.out.trans N,zzk Z.out N.size⟩;have L:p∉cO rem tx:=λm=>hn<|zzp.2 ⟨m,(zzp.1 m).2⟩
     obtain rfl|Fu:=D.out p hp L
     .rw[Y.out];simp
     .have WG:¬p.1=tx:=λe=>Fu<|by rw[K.out.same hp r.2 e];exact r.1
      rw[<-X.2.1 p hp Fu];simp[WG]
    case measure=>exact Nat.lt_of_le_of_lt P o.2
   |false=>
    rw[d]at Y;clear d;go_wp2;refine⟨⟨cO rem tx,g,o.1,λp hp hn=>?_,Q.out,A.out,Z.out⟩,o.2⟩;obtain rfl|Fu:=D.out p hp hn
    .rw[HG.out,Y.out];rfl
    .exact X.2.1 p hp Fu
def ag.tick(s:ag):ag :=
 let s1:ag:={ s with aL:=s.aL+1 }
 ag.release { s1 with af:=s1.af.filter (pR s1) }
theorem bC.Jn(h:bC w p g V T H n s)(t:s.aL+1<2^64):bC (w.setCell (d8 p 4)<|.int .u64<|(s.aL:Int)+1) p g V T H n {s with aL:=s.aL+1}:=by
 have f:Fr [p] w (w.setCell (d8 p 4)<|.int .u64<|(s.aL:Int)+1):=Fr.cH sE _ _;have⟨_,_,_,_,a,b,c⟩:=h.oT;refine {blk:=?_,aS:=h.aS.fr f<|by simp;exact λe=>a e.symm,af:=h.af.fr f<|by simp;exact λe=>b e.symm,holds:=h.holds.fr f<|by simp;exact λe=>c e.symm,ne:=h.ne,aL:=t};have:=aH h.blk 4<|.int .u64<|(s.aL:Int)+1;simp at this;exact this
theorem QV(a g V T H n:Nat)(s:ag)(w:World)(h:bC w a g V T H n s)(t:s.aL+1<2^64):
  Calls prog 85 #[rM a] w λe w'=>e=.returned (.tuple #[])/\bC w' a g V T H n s.tick/\Fr [a,T,H] w w':=by
 have I:=ae h;have c2:=aa h.blk 2;have c4:=aa h.blk 4;have m:=au h.blk 4;simp at c2 c4;have K:=h.oT.1;have z:¬a=w.heap.size:=oE;have o:¬w.heap.size=a:=oE;have j:IntKind.u64.wrap ((s.aL:Int)+1)=(s.aL:Int)+1:=by rw[IntKind.wrap_u64];omega
 clear h;go_enter func85,ntmps85;go_wp2_with fail;have D:(w.setCell (d8 a 4)<|.int .u64<|(s.aL:Int)+1).heap.size=w.heap.size:=sE
 have f:=heap_alloc_new (w.setCell (d8 a 4)<|.int .u64<|(s.aL:Int)+1)<|.cells #[.pointer<|some (dH a)] 60;rw[D]at f;have q:=I.out.oT.2.2.1;apply(F9 w.heap.size a g V T H n {s with aL:=s.aL+1} _ ((I.out.Jn t).fr ((lE _).alloc _) sE sE sE sE) f).mono;rintro e c ⟨rfl,d_,bF⟩;have l:Hid (Fr [a,T,H] w c):=((Fr.cH sE 4<|.int .u64<|(s.aL:Int)+1).alloc _).trans (bF.mono<|by intro k _ b;simp at b;simp[b]);have d:c.heap[w.heap.size]?=some (.cells #[.pointer<|some (dH a)] 60):=(bF.block w.heap.size sE sC).trans f;have i:=aa d 0;simp at i;have r:=yg a g V T H n _ c d_;clear d_ bF d f D;go_wp2_with fail;apply r.mono;rintro e w2 ⟨rfl,cC,cA⟩;have J:=ae cC;clear cC r;go_wp2;go_end0;exact⟨rfl,J.out,l.out.trans<|cA.mono<|by intro k _ b;simp at b;simp[b]⟩
theorem bC.LN{v:List (ByteArray×ByteArray)}(h:bC w p g V T H n s)(f:Fr [V] w w')(a:bB KS ES w' V m v)(hn:n<=m):bC w' p g V T H m {s with aS:=v}:=
 {blk:=(f.block p h.oT.1 (by simp;exact h.oT.2.2.2.2.1)).trans h.blk
  aS:=a
  af:=(h.af.fr f<|by simp;exact λe=>h.ne.1 e.symm).mono hn
  holds:=(h.holds.fr f<|by simp;exact λe=>h.ne.2.1 e.symm).mono hn
  ne:=h.ne
  aL:=h.aL}
theorem bB.tS{K V:Type}[DecidableEq K]{c t e:TypeId}{KR:jI prog K c}{ER:nC V}{b:Nat}{l:List (K×V)}(h:bB KR ER w b n l)(g:Tryz.prog.underlying t=some (.map c e))(hn:n<maxLen){k:K}(d:KR.ok k){v:V}(a:ER.ok v):
  ∃w',(Instr.mapUpdate t (.map<|some b) (KR.kv k)<|ER.ev v).run prog w=.ok () w'/\bB KR ER w' b (n+1) (dm l k v)/\w.grownBy w' (some b):=by
 have⟨es,o,hp,f,z⟩:=h;have⟨w',r,u,y⟩:=o.store KR.law g hn (KR.key k d)<|ER.made v a;exact⟨w',r,bB.Ws hp f z d a u,y.grown⟩
def iQ(g:Option aQ)(d:Option ByteArray):Option ByteArray :=
 match g with
 |none=>d
 |some g=>if g.way=1 then some g.val else if g.way=2 then none else d
theorem CL(f o V T H n t c:Nat)(s:ag)(w:World)(h:bC w f o V T H n s)(Z:t<2^64)(hn:n+c<maxLen)
  (E:∀L:List<|ByteArray×aQ,aV L->(∀k,aj L k=aj s.holds (t,k))->L.length<=c) (Q:∀p∈s.holds,p.2.val.size<=maxLen) :
  Calls prog 143 #[rM f,.int .u64 (t:Int)] w λe w'=>e=.returned (.tuple #[])/\∃a,bC w' f o V T H (n+c) (ag.forget {s with aS:=a} t)/\(∀k,aj a k=iQ (aj s.holds (t,k)) (aj s.aS k))/\Fr [V,T,H] w w':=by
 have HI:=ae h;have c1:=aa h.blk 1;simp at c1;have ho:=nG f o V T H n t s w h Z oE;clear h;go_enter func143,ntmps143;go_wp2_with fail;apply ho.mono;clear ho;rintro e d ⟨b,L,rfl,hb,hL,ic,bF⟩;have J:=ae hL;have F:Hid (bC d f o V T H n s):=HI.out.fr bF sE sE sE sE;have lf:=ae bF;have K:=ae ic;clear hL bF ic;go_wp2_with (first
  |(at_range;apply fF (KR:=KS) (ER:=EG) rfl _ 303 287 rfl underlying303 b n L rfl J.out;intro R U I ja)
  |fail)
 go_frame;have QN:Hid (Fr [V] d R):=(Fr.dc I).mono sE;have Jl:=ae U;have an:Hid (bB KS ES R V n s.aS):=F.out.aS.fr (Fr.dc I) sE;have aA:L.length<=c:=by have⟨_,_,_,B,_⟩:=J.out;exact E L B K.out
 have ay:V<w.heap.size:=HI.out.oT.2.1;have ov:=J.out.lt;have a8:b≠V:=oE;have HC:=ae E;have ab:=ae Q;clear U I E Q;go_loopw [4] (λ_ wr=>∃rem a m,Hid<|bI KS EG wr b d.heap.size n L rem/\bB KS ES wr V m a/\m+rem.length<=n+L.length/\(∀k,aj a k=if (aj rem k).isSome=true then aj s.aS k else iQ (aj s.holds (t,k)) (aj s.aS k))/\Fr [V] d wr/\d.heap.size+1<=wr.heap.size) (λ_ wr=>wr.rangeLeft b d.heap.size)
 case atStart=>
  refine⟨L,s.aS,n,Jl.out,an.out,zzc _,λk=>?_,QN.out,oE⟩;have:=K.out k
  cases e:aj L k with
  |none=>rw[e]at this;rw[<-this];rfl
  |some v=>rfl
 case round=>
  have⟨rem,a,m,X⟩:=hrel;have g:=X.1;go_wp2_with (first
   |(at_next;refine fQ (KR:=KS) (ER:=EG) rfl _ rfl b d.heap.size n L rem rfl g ?_ ?_)
   |go_in)
  .intro eQ;have jc:=F.out.LN X.2.2.2.2.1 (X.2.1.mono (n':=n+c)<|by have:=X.2.2.1;omega) oE;have P:=kO f o V T H (n+c) t _ wr jc Z;clear jc g;go_wp2_with fail;apply P.mono;rintro e w5 ⟨rfl,NA,kP⟩;have Jo:=ae NA;have ak:=ae kP;clear NA kP P;go_wp2;go_end0;refine⟨rfl,a,Jo.out,λk=>?_,((lf.out.mono sE).trans<|X.2.2.2.2.1.mono<|by intro k _ q;simp at q;simp[q]).trans<|ak.out.mono<|by intro k _ q;simp at q;obtain rfl|rfl:=q<;>simp⟩;rw[X.2.2.2.1 k,eQ];rfl
  .intro k x w2 hm pW bP dY cC uI;have Y:(k,x)∈L:=by
    have⟨_,_,_,_,_,_,_,_,h6,_⟩:=g;exact h6 _ hm
   have z:k.size<=maxLen:=by
    have⟨_,_,_,_,z⟩:=g.owns;exact(z _ Y).1
   have D1:Hid (aV L):=by have⟨_,_,_,B,_⟩:=g.owns;exact B
   have a6:=ae<|(K.out k).symm.trans<|bS D1.out Y;have a7:x.val.size<=maxLen:=ab.out _<|bJ a6.out;have D:Hid (Fr [V] d w2):=X.2.2.2.2.1.andThen (Fr.bK dY) (λj hj S=>by simp at hj;omega);have N:Hid (bB KS ES w2 V m a):=X.2.1.fr (Fr.bK dY)<|by simp;have:=F.out.oT.2.1;omega
   have al:m<maxLen:=by
    have i:=lx hm;have l:=X.2.2.1;omega
   have ad:=ae<|lx hm;have sY:=aa ((D.out.block f F.out.oT.1<|by simp;exact F.out.oT.2.2.2.2.1).trans F.out.blk) 1;simp at sY;have aC:f<w2.heap.size:=zzl F.out.oT.1 D.out.size;have z1:¬f=w2.heap.size:=oE
   have wN:d.heap.size+1<=w2.heap.size:=by have:=X.2.2.2.2.2;omega
   have QO:(Instr.entry<|.pointer<|some ⟨d.heap.size,0,none⟩).run prog w2=.ok (.tuple #[.string k,.agg #[.int .u8 (x.way:Int),.string x.val]]) w2:=uI;have O:Hid (∀W r m',Fr [V] w2 W->bB KS ES W V m' r->m'<=m+1->(∀j,aj r j=if j=k then iQ (some x) (aj s.aS k)else aj a j) ->
     (∃rem a m,Hid (bI KS EG W b d.heap.size n L rem/\bB KS ES W V m a/\m+rem.length<=n+L.length/\(∀k,aj a k=if (aj rem k).isSome=true then aj s.aS k else iQ (aj s.holds (t,k)) (aj s.aS k))/\Fr [V] d W/\d.heap.size+1<=W.heap.size))/\W.rangeLeft b d.heap.size<wr.rangeLeft b d.heap.size):=λW r m' A hM ao S=>by
    have⟨r1,r2⟩:=pW.fr A (by simp;exact a8) (by simp;have:=F.out.oT.2.1;omega);refine⟨⟨cO rem k,r,m',r1,hM,by have:=ad.out;have:=X.2.2.1;omega,λj=>?_,D.out.trans A,zzk wN A.size⟩,by rw[r2];exact bP⟩;rw[S j,iI];by_cases e:j=k
    .subst e;rw[if_pos rfl,if_pos rfl,a6.out];rfl
    .rw[if_neg e,if_neg e];exact X.2.2.2.1 j
   have a':Hid (aj a k=aj s.aS k):=by
    have e:=X.2.2.2.1 k;rw[bS (by have⟨_,_,_,_,_,_,_,h5,_⟩:=g;exact h5) hm]at e;exact e
   clear g pW hm Y uI dY cC bP c1;by_cases i:x.way=1
   .have hb:((x.way:Int)==1)=true:=by simp[i]
    have hi:(x.way:Int)=1:=oE;have G:Hid (iQ (some x) (aj s.aS k)=some x.val):=by unfold Hid;simp[iQ,i]
    clear i;have⟨y,a1,M,u⟩:=bB.tS (N.out.fr ((lE w2).alloc<|.cells #[.int .u8 (x.way:Int),.string x.val] 287).drew sE) underlying143 al (k:=k) z (v:=x.val) a7;have Ui:(Instr.mapUpdate 143 (.map<|some V) (.string k)<|.string x.val).run prog (w2.alloc<|.cells #[.int .u8 (x.way:Int),.string x.val] 287).drew=.ok () y:=a1;have Z1:=ae M;have C:=ae<|((Fr.refl [V] w2).alloc _).drew.trans<|Fr.bK u;clear a1 M u;rw[hi]at Ui;go_wp2
    go_region;all_goals go_wp2
    exact O.out y _ _ C.out Z1.out (zzc _) λj=>by rw[gj,G.out]
   .have hb:((x.way:Int)==1)=false:=sC;have hi:¬(x.way:Int)=1:=oE;by_cases l:x.way=2
    .have cU:((x.way:Int)==2)=true:=by simp[l]
     have rr:(x.way:Int)=2:=oE;have G:Hid (iQ (some x) (aj s.aS k)=none):=by unfold Hid;simp[iQ,l]
     clear i l;go_wp2_with (first
      |(at_delete;apply qA (KR:=KS) (ER:=ES) rfl _ _ 143 9 rfl underlying143 V m a rfl (N.out.fr ((lE w2).alloc _) sE) k z rfl;intro y M u)
      |go_in)
     go_frame;go_wp2;have C:=ae<|((Fr.refl [V] w2).alloc _).trans<|Fr.bK u;have fin:=O.out y _ _ C.out M oE λj=>by rw[iI,G.out]
     go_roundw;case rel=>exact fin.1
     case measure=>exact fin.2
    .have cU:((x.way:Int)==2)=false:=sC;have G:Hid (iQ (some x) (aj s.aS k)=aj s.aS k):=by unfold Hid;simp[iQ,i,l]
     clear i l;go_wp2;refine O.out _ a m ((Fr.refl [V] w2).alloc _) (N.out.fr ((lE w2).alloc _) sE) oE λj=>?_;by_cases e:j=k
     .subst e;rw[if_pos rfl,G.out];exact a'.out
     .rw[if_neg e]
end Go.Proofs.YtdcafjmdfpjcbaaGreatDoor
