import Derived.Test.YtdcafjmdfpjcbaaGreatDoorC19
import Derived.DeepKeys5
set_option maxHeartbeats 4000000
set_option maxRecDepth 100000
namespace Go.Proofs.YtdcafjmdfpjcbaaGreatDoor
open Go.RowKit Go.Maps Tryz Sc
variable{k:ByteArray}{S:List Nat}{H T V g lg m n p t:Nat}{K:Type}{w w':World}
section
variable{P:Program}{K V:Type}[DecidableEq K]{E:TypeId}(KR:jI P K E)(ER:nC V)
def bI(w:World)(b r n:Nat)(l rem:List (K × V)):Prop :=
 ∃es left t,w.ranges P E ER.R b r n (.map es) left t/\es.Perm (l.map (mH KR ER))/\aV l/\(∀p∈l,KR.ok p.1/\ER.ok p.2)/\aV rem/\(∀p∈rem,p∈l)/\∀k,KR.ok k->left (KR.kl k)=(aj rem k).isSome
variable{KR ER}{w w':World}{b r n:Nat}{l rem:List (K × V)}
theorem iI{k j:K}:aj (cO rem k) j=if j=k then none else aj rem j:=by grind[gO,aj,cO]
theorem bI.owns(h:bI KR ER w b r n l rem):bB KR ER w b n l:=by
 have⟨es,left,t,c,e,d,a,_⟩:=h;exact⟨es,c.owns,e,d,a⟩
theorem bI.lt(h:bI KR ER w b r n l rem):r<w.heap.size:=by have⟨_,_,_,a,_⟩:=h;exact a.lt
theorem bI.fr{S:List Nat}(h:bI KR ER w b r n l rem)(f:Fr S w w')(g:b∉S)(e:r∉S):bI KR ER w' b r n l rem/\w'.rangeLeft b r=w.rangeLeft b r:=by
 have y:=h.owns.lt;have d:=h.lt;have⟨es,left,t,a,i⟩:=h;have c:w'.ranges P E ER.R b r n (.map es) left t:=by
  unfold World.ranges at a ⊢;rw[f.block b y g,f.block r d e];exact a
 exact⟨⟨es,left,t,c,i⟩,by rw[c.left_eq,a.left_eq]⟩
end
section
variable{P:Program}{K V:Type}[DecidableEq K]{E:TypeId}{KR:jI P K E}{ER:nC V}{w:World}{ops:Array Oper}{rest:List Oper}{o:Oper}{a:Act}{Q:Exit->Act->World->Prop}
theorem fF(g:o.guard=none)(m:Operand)(t e:TypeId)(B:o.op=Op.range t m)(r:P.underlying t=some (.map E e))(b n:Nat)(l:List<|K×V)(d:a.eval m=.map (some b))(M:bB KR ER w b n l)
  (f:∀w',bI KR ER w' b w.heap.size n l l->w.grownBy w' none->w'.heap.size=w.heap.size+1->wpList P ops Q rest (a.put o.dst<|rM w.heap.size) w'):wpList P ops Q (o::rest) a w:=by
 have⟨es,i,hp,h,z⟩:=M;apply wpList_range_own w g m t B E e KR.law r ER.R b n _ d i;intro w' s j c;exact f w' ⟨es,_,_,s,hp,h,z,h,λp hp=>hp,λk q=>zI hp z q⟩ j c
theorem fQ(L:o.guard=none)(t:Operand)(M:o.op=Op.next t false)(b r n:Nat)(l rem:List<|K×V)(O:a.eval t=(rM r))(T:bI KR ER w b r n l rem)
  (W:rem=[]->wpList P ops Q rest (a.put o.dst<|.tuple #[.bool false]) w)
  (G:∀(k:K) (v:V) (w':World),(k,v)∈rem->bI KR ER w' b r n l (cO rem k)->w'.rangeLeft b r<w.rangeLeft b r->w.grownBy w' (some r)->w'.heap.size=w.heap.size ->
   (Instr.entry (rM r)).run P w'=.ok (.tuple #[KR.kv k,ER.ev v]) w'->wpList P ops Q rest (a.put o.dst (.tuple #[.bool true,KR.kv k,ER.ev v])) w'):wpList P ops Q (o::rest) a w:=by
 have⟨es,left,J,A,hp,d,z,B,g,i⟩:=T;refine wpList_next_ranges w L t M E KR.law ER.R id id (λf _ _=>⟨f,rfl⟩) (λv _ _=>⟨v,rfl⟩) b r n _ left J O A ?_ ?_
 .intro _ hl;apply W;cases h:rem with
  |nil=>rfl
  |cons p q=>
   have s:(p.1,p.2)∈rem:=by rw[h];exact List.mem_cons_self
   have:=i p.1 (z _<|g _ s).1;rw[hl,bS B s]at this;cases this
 .intro f val kl y w' Qk Fy ic hv gJ DU bP j9 hsz uI;have D:Maps.has (.map es) kl=true:=Maps.has_true_of_atKey gJ;rw[Maps.has_eq,List.any_eq_true]at D;have⟨p,H,N⟩:=D;obtain⟨q,c,rfl⟩:=zzq.1<|hp.mem_iff.1 H;have⟨k,v⟩:=q;have m:=(z _ c).1;have R:=(z _ c).2;have F:KR.kl k=kl:=WideAt.sameKey_eq N;subst F;have U:f=KR.kv k:=KR.law.inj Fy<|KR.key k m;have x:=gJ<|ER.el v;rw[uY hp d z m<|bS d c]at x;have S:val=ER.ev v:=ER.inv val v y.2 R<|by rw[x];exact hv
  have Z:(k,v)∈rem:=by
   have:=i k m;rw[ic]at this;cases h:aj rem k with
   |none=>rw[h]at this;cases this
   |some u=>
    have I:=d.same (g _<|bJ h) c rfl;rw[<-I];exact bJ h
  subst U S;refine G k v w' Z ⟨es,_,Qk,DU,hp,d,z,B.del k,λp hp=>g p (zzp.1 hp).1,λj C=>?_⟩ (by rw[DU.left_eq,A.left_eq];exact bP) j9 hsz uI;rw[i j C,KR.same C m,iI];by_cases e:j=k
  .simp[e]
  .simp[e]
end
noncomputable def KS:jI prog ByteArray 9 where
 kv:=.string
 kl:=gK
 ok:=λk=>k.size<=maxLen
 law:=uP
 key:=λ_ hk=>Go.WideMaps.keyOf_string_mk underlying9 hk
 inj:=λ_ _ h=>by simpa using h
theorem wfU{x:Nat}(h:x<2^64):(Lit.int .u64 (x:Int)).wf=true:=by
 have a:IntKind.u64.min=0:=rfl;have b:IntKind.u64.max=18446744073709551615:=rfl;simp[Lit.wf,a,b];omega
noncomputable def KU:jI prog Nat 34 where
 kv:=λx=>.int .u64 (x:Int)
 kl:=λx=>.int .u64 (x:Int)
 ok:=λx=>x<18446744073709551616
 law:=Go.Maps.int_keyed underlying34
 key:=λ_ hk=>Go.Maps.keyOf_int_mk underlying34 (wfU hk)
 inj:=λa b h=>by simp at h;omega
theorem aas:laidOutB prog=true:=k6
theorem aat:(289:TypeId)<Tryz.prog.types.size:=of_decide_eq_true k6
theorem aau:(match Tryz.prog.underlying 289 with|some (.array _ _)|some (.struct _)=>true|_=>false)=true:=k6
theorem acv:Keyed prog 289:=Keyed.of_law<|deep_law_laid aas (m:=3) (by omega) aat k6 aau
theorem Qm:Tryz.prog.keyType 289=true:=k6
theorem Qn:Tryz.prog.cellsOf 289=2:=k6
theorem X8:Tryz.prog.cellsOf 34=1:=k6
theorem X9:Tryz.prog.cellsOf 9=1:=k6
abbrev CG(k:Nat × ByteArray):Value:=.agg #[.int .u64 (k.1:Int),.string k.2]
theorem acw{k:Nat×ByteArray}(b:k.1<2^64)(f:k.2.size<=maxLen):∃l,keyOf prog 289 (CG k)=some l:=by
 have a:∀d,∃l,(if Tryz.prog.keyType 289&&(CG k).formed prog 289 then (Tryz.prog.keyLits (d+1+1) 289 (CG k).cells.toList).map λs=>Lit.string (keyBytes s)else none)=some l:=λd=>by
  have g:=wfU b;have c:(CG k).formed prog 289=true:=by simp[Value.formed,underlying289,Qn]
  rw[Qm,c];simp only[Program.keyLits,underlying289];simp[Value.cells,Qn,X8,X9,g,f]
 have⟨d,i⟩:∃d,Tryz.prog.types.size+1=d+1+1:=by
  have h:=Nat.lt_of_le_of_lt (zzs _) aat;exact⟨Tryz.prog.types.size-1,by rw[Nat.sub_add_cancel h]⟩
 have e:=underlying289;unfold keyOf;rw[i];split
 .exact a d
 .exact a d
 .grind
noncomputable def KH:jI prog (Nat × ByteArray) 289 where
 kv:=CG
 kl:=λk=>(keyOf prog 289 (CG k)).getD (.bool false)
 ok:=λk=>k.1<18446744073709551616/\k.2.size<=maxLen
 law:=acv
 key:=λk hk=>by obtain⟨l,hl⟩:=acw hk.1 hk.2;rw[hl];rfl
 inj:=λa b h=>by
  obtain⟨a1,a2⟩:=a;obtain⟨b1,b2⟩:=b;simp at h;obtain⟨h3,h4⟩:=h;have h5:a1=b1:=by omega
  rw[h5,h4]
noncomputable def ES:nC ByteArray where
 R:=plainElem prog 9
 ev:=.string
 el:=λs=>.lit (.string s.data.toList)
 ok:=λs=>s.size<=maxLen
 made:=λ_ h=>plainElem_string underlying9 h
 inv:=λx v ps _ h=>by
  obtain⟨s,rfl,h2,_⟩:=plainElem_string_inv underlying9 h;simp only[Prod.mk.injEq,DataW.lit.injEq] at h2;rw[qm h2.1]
structure fX where
 state:Nat
 done:Nat
 last:Nat
abbrev acx(t:fX):Value:=.agg #[.int .i64 (t.state:Int),.int .i64 (t.done:Int),.int .u64 (t.last:Int)]
def X_:Value->Option (DataW Unit × List MemPlace)
 |.agg cs=>match cs.toList with
  |[.int .i64 a,.int .i64 b,.int .u64 c]=>some (.agg [.lit (.int .i64 a),.lit (.int .i64 b),.lit (.int .u64 c)],[])
  |_=>none
 |_=>none
noncomputable def ET:nC fX where
 R:=X_
 ev:=acx
 el:=λt=>.agg [.lit (.int .i64 (t.state:Int)),.lit (.int .i64 (t.done:Int)),.lit (.int .u64 (t.last:Int))]
 ok:=λ_=>True
 made:=λ_ _=>by simp[X_]
 inv:=λx v ps _ h=>by
  unfold X_ at h;split at h
  .rename_i cs;split at h
   .rename_i a b c hc;simp at h;obtain⟨⟨rfl,rfl,rfl⟩,_⟩:=h;show Value.agg cs=Value.agg _;congr 1;exact Array.toList_inj.1 (by rw[hc])
   .cases h
  .cases h
structure aQ where
 way:Nat
 val:ByteArray
abbrev aav(g:aQ):Value:=.agg #[.int .u8 (g.way:Int),.string g.val]
def Qo:Value->Option (DataW Unit × List MemPlace)
 |.agg cs=>match cs.toList with
  |[.int .u8 a,.string s]=>some (.agg [.lit (.int .u8 a),.lit (.string s.data.toList)],[])
  |_=>none
 |_=>none
noncomputable def EG:nC aQ where
 R:=Qo
 ev:=aav
 el:=λg=>.agg [.lit (.int .u8 (g.way:Int)),.lit (.string g.val.data.toList)]
 ok:=λ_=>True
 made:=λ_ _=>by simp[Qo]
 inv:=λx v ps _ h=>by
  unfold Qo at h;split at h
  .rename_i cs;split at h
   .rename_i a s hc;simp only[Option.some.injEq,Prod.mk.injEq,DataW.agg.injEq,List.cons.injEq,DataW.lit.injEq,Lit.int.injEq,true_and,and_true] at h;obtain⟨⟨rfl,h2⟩,_⟩:=h;rw[qm h2] at hc;show Value.agg cs=Value.agg _;congr 1;exact Array.toList_inj.1 (by rw[hc])
   .cases h
  .cases h
theorem Lz(w:World):(zeroValue 195).run prog w=.ok (ET.ev ⟨0,0,0⟩) w:=k6
theorem qB(w:World):(zeroValue 287).run prog w=.ok (EG.ev ⟨0,yA⟩) w:=k6
theorem LA(w:World):(zeroValue 9).run prog w=.ok (ES.ev yA) w:=k6
structure ag where
 aS:List (ByteArray × ByteArray)
 af:List (Nat × fX)
 holds:List ((Nat × ByteArray) × aQ)
 aL:Nat
def ag.aM(s:ag)(t:Nat):fX:=(aj s.af t).getD ⟨0,0,0⟩
def ag.dx(s:ag)(t:Nat)(k:ByteArray):aQ:=(aj s.holds (t,k)).getD ⟨0,yA⟩
def lgP(lg:Nat):Option Addr:=if lg=0 then none else some (dH lg)
theorem iw(h:1<=lg):lgP lg=some (dH lg):=if_neg oE
abbrev shO(lg bV bT bH:Nat)(aL:Nat):Obj:=.cells #[.pointer (lgP lg),.map (some bV),.map (some bT),.map (some bH),.int .u64 (aL:Int)] 148
structure bC(w:World)(sp lg bV bT bH n:Nat)(s:ag):Prop where
 blk:w.heap[sp]?=some (shO lg bV bT bH s.aL)
 aS:bB KS ES w bV n s.aS
 af:bB KU ET w bT n s.af
 holds:bB KH EG w bH n s.holds
 ne:bV≠bT/\bV≠bH/\bT≠bH
 aL:s.aL<2^64
theorem bC.fr{sp bV bT bH:Nat}{s:ag}(h:bC w sp lg bV bT bH n s)(f:Fr S w w')(b:sp∉S)(c:bV∉S)(d:bT∉S)(a:bH∉S):bC w' sp lg bV bT bH n s where
 blk:=(f.block sp (zza.1 h.blk).1 b).trans h.blk
 aS:=h.aS.fr f c;af:=h.af.fr f d;holds:=h.holds.fr f a;ne:=h.ne;aL:=h.aL
section
variable{w:World}{sp lg bV bT bH n:Nat}{s:ag}
theorem bC.zR(h:bC w sp lg bV bT bH n s){t:Nat}(a:t<2^64):
  (Instr.lookup 144 (.map<|some bT) (.int .u64 (t:Int)) false).run prog w=.ok (.agg #[.int .i64 ((s.aM t).state:Int),.int .i64 ((s.aM t).done:Int),.int .u64 ((s.aM t).last:Int)]) w:=
 h.af.look underlying144 (Lz w) trivial a
theorem bC.aaE(h:bC w sp lg bV bT bH n s){k:ByteArray}(a:k.size<=maxLen):
  (Instr.lookup 143 (.map<|some bV) (.string k) true).run prog w=.ok (.tuple #[.string<|(aj s.aS k).getD yA,.bool (aj s.aS k).isSome]) w:=
 h.aS.DT underlying143 (LA w) (by show(0:Nat)<=maxLen;omega) a
theorem bC.WC(h:bC w sp lg bV bT bH n s){t:Nat}{k:ByteArray}(b:t<2^64)(a:k.size<=maxLen):
  (Instr.lookup 145 (.map<|some bH) (.agg #[.int .u64 (t:Int),.string k]) false).run prog w=.ok (.agg #[.int .u8 ((s.dx t k).way:Int),.string (s.dx t k).val]) w:=
 h.holds.look underlying145 (qB w) trivial (k:=(t,k)) ⟨b,a⟩
theorem bC.US(h:bC w sp lg bV bT bH n s){t:Nat}{k:ByteArray}(b:t<2^64)(a:k.size<=maxLen):
  (Instr.lookup 145 (.map<|some bH) (.agg #[.int .u64 (t:Int),.string k]) true).run prog w=.ok (.tuple #[.agg #[.int .u8 ((s.dx t k).way:Int),.string (s.dx t k).val],.bool (aj s.holds (t,k)).isSome]) w:=
 h.holds.DT underlying145 (qB w) trivial (k:=(t,k)) ⟨b,a⟩
end
theorem LL(a b c:Int)(w:World):(Instr.field 195 (.agg #[.int .i64 a,.int .i64 b,.int .u64 c]) 0).run prog w=.ok (.int .i64 a) w:=k6
theorem Nw(sp lg bV bT bH n t:Nat)(s:ag)(w:World)(h:bC w sp lg bV bT bH n s)(b:t<2^64):
  Calls prog 76 #[rM sp,.int .u64 (t:Int)] w λe w'=>e=.returned (.int .i64 ((s.aM t).state:Int))/\∃q,w'=w.drewN q:=by
 have c2:=aa h.blk 2;simp at c2;have l:=h.zR b;have U:=LL;have⟨T,a⟩:=xY <|s.aM t;rw[<-a]at l ⊢;clear h a;go_enter func76,ntmps76;go_wp2;go_ret;exact⟨rfl,0,rfl⟩
theorem CJ(sp lg bV bT bH n:Nat)(k:ByteArray)(s:ag)(w:World)(h:bC w sp lg bV bT bH n s)(c:k.size<=maxLen):
  Calls prog 78 #[rM sp,.string k] w λe w'=>e=.returned (.tuple #[.string<|(aj s.aS k).getD yA,.bool (aj s.aS k).isSome])/\∃q,w'=w.drewN q:=by
 have c1:=aa h.blk 1;simp at c1;have l:=h.aaE c;have⟨V,b⟩:∃V,V=(aj s.aS k).getD yA:=⟨_,rfl⟩;have⟨O,a⟩:=xY <|(aj s.aS k).isSome;rw[<-b,<-a]at l ⊢;clear h b a;go_enter func78,ntmps78;go_wp2;go_ret2;exact⟨rfl,0,rfl⟩
def aQ.writes(g:aQ):Bool:=!decide (g.way=0)
theorem vq(g:aQ)(w:World):Calls prog 179 #[.agg #[.int .u8 (g.way:Int),.string g.val]] w λe w'=>e=.returned (.bool g.writes)/\w'=w.alloc (.cells #[.int .u8 (g.way:Int),.string g.val] 287):=by
 go_enter func179,ntmps179;go_wp2;go_ret;refine⟨?_,rfl⟩;congr 2;unfold aQ.writes;by_cases h:g.way=0
 .simp[h]
 .simp[h]
def pd(s:ag)(t:Nat)(k:ByteArray)(wr:Bool)(o:Nat):Bool :=
 (aj s.holds (o,k)).isSome&&(!decide (o=t)&&((s.dx o k).writes||wr))
def ag.pP(s:ag)(t:Nat)(k:ByteArray)(wr:Bool):Bool:=s.af.any λp=>pd s t k wr p.1
theorem FX(i B V T E n t:Nat)(k:ByteArray)(g:aQ)(s:ag)(w:World)(h:bC w i B V T E n s)(hk:k.size<=maxLen):
  Calls prog 227 #[rM i,.int .u64 (t:Int),.string k,.agg #[.int .u8 (g.way:Int),.string g.val]] w λe w'=>e=.returned (.bool<|s.pP t k g.writes)/\Fr [] w w':=by
 have K:Hid (bC w i B V T E n s):=h;have c2:=aa h.blk 2;simp at c2;have uK:i<w.heap.size:=(zza.1 h.blk).1;clear h;go_enter func227,ntmps227;go_wp2_with (first
  |(at_range;apply fF (KR:=KU) (ER:=ET) rfl _ 144 195 rfl underlying144 T n s.af rfl (K.out.af.fr ((lE w).alloc _) sE);intro f y b N)
  |go_in)
 have J:(w.alloc<|.cells #[.int .u8 (g.way:Int),.string g.val] 287).heap.size=w.heap.size+1:=sE
 rw[J]at y N ⊢;clear J;go_frame;have U:Fr [] w f:=((lE w).alloc _).trans<|Fr.dc b
 have M:f.heap[w.heap.size]?=some (.cells #[.int .u8 (g.way:Int),.string g.val] 287):=by
  rw[b.block w.heap.size sE sE];exact heap_alloc_new _ _
 have Jl:Hid (bI KU ET f T (w.heap.size+1) n s.af s.af):=y;have a7:f.heap.size=w.heap.size+2:=oE;have QN:Hid (Fr [] w f):=U;have a1:Hid (f.heap[w.heap.size]?=some (.cells #[.int .u8 (g.way:Int),.string g.val] 287)):=M;clear y b N U M;go_loopw [9] (λ_ wr=>∃rem,Hid<|bI KU ET wr T (w.heap.size+1) n s.af rem/\(∀p∈s.af,p∉rem->pd s t k g.writes p.1=false)/\Fr [] w wr/\wr.heap[w.heap.size]?=some (.cells #[.int .u8 (g.way:Int),.string g.val] 287)/\w.heap.size+2<=wr.heap.size) (λ_ wr=>wr.rangeLeft T<|w.heap.size+1);case atStart=>exact⟨s.af,Jl.out,λp h1 h2=>absurd h1 h2,QN.out,a1.out,oE⟩
 case round=>
  have⟨rem,X⟩:=hrel;have q:=X.1;go_wp2_with (first
   |(at_next;refine fQ (KR:=KU) (ER:=ET) rfl _ rfl T (w.heap.size+1) n s.af rem rfl q ?_ ?_)
   |go_in)
  .intro eQ;go_wp2;go_ret;refine⟨?_,X.2.2.1⟩;have iB:s.pP t k g.writes=false:=by
    unfold ag.pP;rw[List.any_eq_false];intro p hp;rw[X.2.1 p hp<|by rw[eQ];simp];simp
   rw[iB];rfl
  .intro o x w2 hm pW bP dY cC uI;have F:(o,x)∈s.af:=by
    have⟨_,_,_,_,_,_,_,_,h6,_⟩:=q;exact h6 _ hm
   have ho:o<18446744073709551616:=by
    have⟨_,_,_,_,dz⟩:=q.owns;exact(dz _ F).1
   have A:Fr [] w w2:=X.2.2.1.andThen (Fr.bK dY) (λj hj C=>by simp at hj;omega);have Q:=K.out.fr A sE sE sE sE;have D:w2.heap[w.heap.size]?=some (.cells #[.int .u8 (g.way:Int),.string g.val] 287):=by
    rw[dY.block w.heap.size (by have:=X.2.2.2.2;omega) sE];exact X.2.2.2.1
   have c3:=aa Q.blk 3;simp at c3;have C:=Q.US ho hk;have H:Hid (pd s t k g.writes o=((aj s.holds (o,k)).isSome&&(!decide (o=t)&&((s.dx o k).writes||g.writes)))):=rfl;have⟨G,L⟩:=xY <|s.dx o k;have⟨O,z⟩:=xY <|(aj s.holds (o,k)).isSome;rw[<-L,<-z]at C H;clear L z;have B1:Hid (bI KU ET w2 T (w.heap.size+1) n s.af<|cO rem o):=pW;have r:Hid (Fr [] w w2):=A;have u:Hid (w2.heap[w.heap.size]?=some (.cells #[.int .u8 (g.way:Int),.string g.val] 287)):=D;have wN:w.heap.size+2<=w2.heap.size:=by have:=X.2.2.2.2;omega
   have QO:(Instr.entry<|.pointer<|some ⟨w.heap.size+1,0,none⟩).run prog w2=.ok (.tuple #[.int .u64 (o:Int),.agg #[.int .i64 (x.state:Int),.int .i64 (x.done:Int),.int .u64 (x.last:Int)]]) w2:=uI;have HM:Hid ((o,x)∈rem/\(o,x)∈s.af):=⟨hm,F⟩;have TB:Hid (w2.rangeLeft T (w.heap.size+1)<wr.rangeLeft T (w.heap.size+1)):=bP;clear q pW A Q D hm F uI dY cC bP;have c:Hid (pd s t k g.writes o=false->∀W,Fr [] w2 W->(∃rem,Hid<|bI KU ET W T (w.heap.size+1) n s.af rem/\(∀p∈s.af,p∉rem->pd s t k g.writes p.1=false)/\Fr [] w W/\W.heap[w.heap.size]?=some (.cells #[.int .u8 (g.way:Int),.string g.val] 287)/\w.heap.size+2<=W.heap.size)/\W.rangeLeft T (w.heap.size+1)<wr.rangeLeft T (w.heap.size+1)):=λv W l=>by
    have⟨r1,R⟩:=B1.out.fr l sE sE;refine⟨⟨cO rem o,r1,λp hp hn=>?_,r.out.trans l,(l.block _ oE sE).trans u.out,zzk wN l.size⟩,by rw[R];exact TB.out⟩;by_cases I:p∈rem
    .have TC:p.1=o:=Decidable.byContradiction λa6=>hn<|zzp.2 ⟨I,by simp[a6]⟩
     rw[TC];exact v
    .exact X.2.1 p hp I
   have S:Hid (pd s t k g.writes o=true->s.pP t k g.writes=true):=λv=>by
    unfold ag.pP;rw[List.any_eq_true];exact⟨_,HM.2,v⟩
   cases O with
   |false=>
    have Y:Hid _:=c.out (by rw[H.out];rfl);clear c S;go_wp2;exact Y.out _<|(lE w2).alloc _
   |true=>
    have q0:=aa u.out 0;have q1:=aa u.out 1;simp at q0 q1;have z1:w.heap.size<w2.heap.size:=oE;have z2:¬w.heap.size=w2.heap.size:=oE;have z3:¬w.heap.size=w2.heap.size+1:=oE;by_cases a:o=t
    .have Y:Hid _:=c.out (by rw[H.out];simp[a]);have hb:((o:Int) != (t:Int))=false:=by simp[a]
     clear c S a;go_wp2;exact Y.out _<|(lE w2).alloc _
    .have hb:((o:Int) != (t:Int))=true:=sC;by_cases Z:G.way=0
     .have gw:((G.way:Int) != 0)=false:=by simp[Z]
      have d:G.writes=false:=by simp[aQ.writes,Z]
      by_cases b:g.way=0
      .have cU:((g.way:Int) != 0)=false:=by simp[b]
       have m:g.writes=false:=by simp[aQ.writes,b]
       have Y:Hid _:=c.out (by rw[H.out,d,m];simp);clear c S a Z b d m;go_wp2;exact Y.out _<|(((lE w2).alloc _).alloc _).alloc _
      .have cU:((g.way:Int) != 0)=true:=by simp[b]
       have m:g.writes=true:=by simp[aQ.writes,b]
       have P:Hid _:=S.out (by rw[H.out,d,m];simp[a]);clear c S a Z b d m;go_wp2;go_ret;exact⟨by rw[P.out];rfl,r.out.trans<|(((lE w2).alloc _).alloc _).alloc _⟩
     .have gw:((G.way:Int) != 0)=true:=by simp[Z]
      have d:G.writes=true:=by simp[aQ.writes,Z]
      have P:Hid _:=S.out (by rw[H.out,d];simp[a]);clear c S a Z d;go_wp2;go_ret;exact⟨by rw[P.out];rfl,r.out.trans<|((lE w2).alloc _).alloc _⟩
theorem bC.mono{s:ag}(h:bC w p g V T H n s)(hn:n<=m):bC w p g V T H m s:=
 {h with aS:=h.aS.mono hn,af:=h.af.mono hn,holds:=h.holds.mono hn}
theorem bC.oT{s:ag}(h:bC w p g V T H n s):p<w.heap.size/\V<w.heap.size/\T<w.heap.size/\H<w.heap.size/\p≠V/\p≠T/\p≠H:=by
 refine⟨(zza.1 h.blk).1,h.aS.lt,h.af.lt,h.holds.lt,?_,?_,?_⟩
 .rintro rfl;have⟨es,c,e⟩:=h.aS.isMap;rw[h.blk]at e;cases e
 .rintro rfl;have⟨es,c,e⟩:=h.af.isMap;rw[h.blk]at e;cases e
 .rintro rfl;have⟨es,c,e⟩:=h.holds.isMap;rw[h.blk]at e;cases e
theorem bC.vt{s:ag}{a:List ((Nat×ByteArray)×aQ)}(h:bC w p g V T H n s)(f:Fr [H] w w')(b:bB KH EG w' H m a)(hn:n<=m):bC w' p g V T H m {s with holds:=a}:=
 {blk:=(f.block p h.oT.1 (by simp;exact h.oT.2.2.2.2.2.2)).trans h.blk
  aS:=(h.aS.fr f<|by simp;exact h.ne.2.1).mono hn
  af:=(h.af.fr f<|by simp;exact h.ne.2.2).mono hn
  holds:=b
  ne:=h.ne
  aL:=h.aL}
def ag.take(s:ag)(t:Nat)(k:ByteArray)(g:aQ):ag:=if (g.writes||!(s.dx t k).writes)=true then { s with holds:=dm s.holds (t,k) g } else s
abbrev BZ(p:Nat):Obj:=.cells #[rM p] 229
theorem kI.lW{B a h bN D N q:Nat}{v s r:Value}{l:aq}{d:ah}(f:kI a p w w')(c:aD w B a p h bN v s r l d n D N)(b:w.heap[q]?=some (BZ a)):w'.heap[q]?=some (BZ a):=
 (f.block q (zza.1 b).1<|c.free b dN dN dN dN dN).trans b
theorem ye(B a p D bN n b N kind:Nat)(v c r:Value)(l:aq)(d:ah)(s:ByteArray)(w:World)(h:aD w B a p D bN v c r l d n b N)(k:kind<256)(hn:n+3<1000000000)(g:2<=B)(G:l.filled<600->l.segs≠[])(F:dw w):
  Calls prog 71 #[rM a,.int .u8 (kind:Int),.string s] w (DM B a p D bN (n+3) (l.append d kind s) w):=by
 by_cases f:255<s.size
 .refine(I4 B a p D bN n b N kind v c r l d s w h f oE).mono ?_;rintro e w2 ⟨he,⟨ya,Qg,Nc,CF,BP,eN⟩,iH⟩;exact⟨he,⟨ya,Qg,Nc,CF,BP,eN.fK oE oE⟩,iH⟩
 .grind [Fv]
def aq.note(l:aq)(d:ah)(kind:Nat)(s:ByteArray):aq × ah × Nat:=((l.append d kind s).1,(l.append d kind s).2.1,(l.append d kind s).2.2.2)
theorem vp(B f a p D bN n b N kind:Nat)(v c r:Value)(l:aq)(d:ah)(s:ByteArray)(w:World)(g:w.heap[f]?=some (BZ a))(h:aD w B a p D bN v c r l d n b N)(k:kind<256)(hn:n+3<1000000000)(j:2<=B)(G:l.filled<600->l.segs≠[])(F:dw w):
  Calls prog 144 #[rM f,.int .u8 (kind:Int),.string s] w (jE B a p D bN (n+3) (l.note d kind s) w):=by
 have i:=aa g 0;simp at i;have C:=ae<|ye B a p D bN n b N kind v c r l d s w h k hn j G F;clear h g
 go_enter func144,ntmps144;go_wp2_with fail;apply C.out.mono;rintro e m ⟨rfl,fE,fe⟩;have H:=ae<|zzb fE fe;clear fE fe;go_wp2;go_ret;exact⟨rfl,H.1,H.2⟩
def aq.keep(l:aq)(d:ah)(kind:Nat)(s:ByteArray):aq × ah × Nat :=
 if (l.note d kind s).2.2=0 then (l.note d kind s).1.force (l.note d kind s).2.1 else l.note d kind s
theorem FW(B b a p D bN n i k kind:Nat)(j v r:Value)(l:aq)(d:ah)(s:ByteArray)(w:World)(g:w.heap[b]?=some (BZ a))(h:aD w B a p D bN j v r l d n i k)(t:kind<256)(hn:n+3<1000000000)(o:2<=B)(u:l.filled<600->l.segs≠[])(F:dw w):
  Calls prog 141 #[rM b,.int .u8 (kind:Int),.string s] w (jE B a p D bN (n+3) (l.keep d kind s) w):=by
 have C:=ae<|vp B b a p D bN n i k kind j v r l d s w g h t hn o u F;have G:=ae<|zzb g h;clear h g
 go_enter func141,ntmps141;go_wp2_with fail;apply C.out.mono;rintro e m ⟨rfl,⟨kr,sB,qz,lT,lN,fE⟩,fe⟩;have N:=fe.lW G.2 G.1;have q:=aa N 0;simp at q;have H:=ae<|zzb fE fe;clear fE fe N;by_cases c:(l.note d kind s).2.2=0
 .have e:l.keep d kind s=(l.note d kind s).1.force (l.note d kind s).2.1:=by unfold aq.keep;rw[if_pos c]
  rw[c,bQ];go_wp2_with fail;apply(Ns B a p D bN (n+3) lT lN kr sB qz _ _ m H.1 oE).mono;rintro e w2 ⟨rfl,eN,iH⟩;have f:=ae<|zzb eN<|H.2.trans iH;clear eN iH;go_wp2;go_ret;rw[e];exact⟨rfl,f.1,f.2⟩
 .have e:l.keep d kind s=l.note d kind s:=by unfold aq.keep;rw[if_neg c]
  rw[aG c];go_wp2;go_ret;rw[e];exact⟨by rw[aG c];rfl,⟨kr,sB,qz,lT,lN,H.1⟩,H.2⟩
section
variable{w w':World}{B lp p bD bN n O U:Nat}{E I J:Value}{l:aq}{d:ah}
theorem aD.rL(h:aD w B lp p bD bN E I J l d n O U){b:Nat}(a:∃es c,w.heap[b]?=some (.map es c))(f:b≠bD)(g:b≠bN):¬Own lp p w b:=by
 have⟨es,c,a⟩:=a;rw[h.own];rintro (e|e|e|e|e|e|e)
 .subst e;rw[h.blk]at a;cases a
 .subst e;rw[h.bE.blk]at a;cases a
 .exact f e
 .exact g e
 .obtain⟨c,hc⟩:=aF h.bE.pen e;rw[hc]at a;cases a
 .obtain⟨c,hc⟩:=aF h.segs e;rw[hc]at a;cases a
 .obtain⟨c,hc⟩:=aF h.recs e;rw[hc]at a;cases a
theorem aD.apart{S:List Nat}(h:aD w B lp p bD bN E I J l d n O U)(f:Fr S w w')(j:∀k∈S,k<w.heap.size->¬Own lp p w k/\∀t,w.heap[k]?≠some (fS t)):aD w' B lp p bD bN E I J l d n O U:=by
 have y:∀k,k<w.heap.size->Own lp p w k->k∉S:=λk a o m=>(j k m a).1 o
 have lt:∀k,Own lp p w k->k<w.heap.size:=λk o=>by
  obtain e|e|e|e|e|e|e:=(h.own k).1 o
  .rw[e];exact(zza.1 h.blk).1
  .rw[e];exact(zza.1 h.bE.blk).1
  .rw[e];exact h.bE.j8.lt
  .rw[e];exact h.bE.now.lt
  .exact(h.bE.pen.lt k e).2
  .exact(h.segs.lt k e).2
  .exact(h.recs.lt k e).2
 have b:∀k,Own lp p w k->k∉S:=λk o=>y k (lt k o) o
 have c:∀{k},(k=lp\/k=p\/k=bD\/k=bN\/E.ownBlock=some k\/I.ownBlock=some k\/J.ownBlock=some k)->k∉S:=λ{k} a=>b k<|(h.own k).2 a
 refine h.turned (h.bE.fr f (c sE) (c sE) (c sE) (λg i=>c<|by simp[i]) λq s t=>?_) f (λk a r=>?_)<|zzc _
 .grind
 .grind
end
structure CK(w:World)(sp gp bV bT bH bD bN lp:Nat):Prop where
 lW:w.heap[gp]?=some (BZ lp)
 ne:bV≠bD/\bV≠bN/\bT≠bD/\bT≠bN/\bH≠bD/\bH≠bN
section
variable{w w':World}{B sp gp bV bT bH m lp p bD bN n O U:Nat}{E I J:Value}{l:aq}{d:ah}{s:ag}
theorem bC.free(a:bC w sp gp bV bT bH m s)(h:aD w B lp p bD bN E I J l d n O U)(x:CK w sp gp bV bT bH bD bN lp):∀k∈[sp,gp,bV,bT,bH],¬Own lp p w k/\∀t,w.heap[k]?≠some (fS t):=by
 intro k f;simp at f;obtain rfl|rfl|rfl|rfl|rfl:=f
 .exact⟨h.free a.blk dN dN dN dN dN,λt e=>by rw[a.blk]at e;cases e⟩
 .exact⟨h.free x.lW dN dN dN dN dN,λt e=>by rw[x.lW]at e;cases e⟩
 .exact⟨h.rL a.aS.isMap x.ne.1 x.ne.2.1,λt e=>by have⟨es,c,b⟩:=a.aS.isMap;rw[b]at e;cases e⟩
 .exact⟨h.rL a.af.isMap x.ne.2.2.1 x.ne.2.2.2.1,λt e=>by have⟨es,c,b⟩:=a.af.isMap;rw[b]at e;cases e⟩
 .exact⟨h.rL a.holds.isMap x.ne.2.2.2.2.1 x.ne.2.2.2.2.2,λt e=>by have⟨es,c,b⟩:=a.holds.isMap;rw[b]at e;cases e⟩
theorem bC.BG(a:bC w sp gp bV bT bH m s)(h:aD w B lp p bD bN E I J l d n O U)(x:CK w sp gp bV bT bH bD bN lp)(f:kI lp p w w'):bC w' sp gp bV bT bH m s/\CK w' sp gp bV bT bH bD bN lp:=by
 have j:=a.free h x;have v:∀{K V:Type} [DecidableEq K] {t:TypeId} {KR:jI prog K t} {ER:nC V} {b k:Nat} {L:List (K×V)},bB KR ER w b k L->b∈[sp,gp,bV,bT,bH]->bB KR ER w' b k L:=by
  intro K V _ t KR ER b k L M i;have P:=M.lt;have⟨es,⟨g,c,e,o⟩,r⟩:=M;exact⟨es,⟨g,c,(f.block b P (j b i).1).trans e,o⟩,r⟩
 exact⟨{blk:=(f.block sp a.oT.1 (j sp sE).1).trans a.blk,aS:=v a.aS sE,af:=v a.af sE,holds:=v a.holds sE,ne:=a.ne,aL:=a.aL},
  {lW:=(f.block gp (zza.1 x.lW).1 (j gp sE).1).trans x.lW,ne:=x.ne}⟩
theorem aD.QS{S:List Nat}(h:aD w B lp p bD bN E I J l d n O U)(a:bC w sp gp bV bT bH m s)(x:CK w sp gp bV bT bH bD bN lp)(f:Fr S w w')(g:∀k∈S,k∈[sp,bV,bT,bH]):aD w' B lp p bD bN E I J l d n O U/\CK w' sp gp bV bT bH bD bN lp:=by
 have j:=a.free h x;have sub:∀k∈S,k∈[sp,gp,bV,bT,bH]:=λk b=>by have:=g k b;simp at this ⊢;obtain e|e|e|e:=this<;>simp[e]
 refine⟨h.apart f λk b _=>j k<|sub k b,{lW:=(f.block gp (zza.1 x.lW).1 λi=>?_).trans x.lW,ne:=x.ne}⟩;have:=g gp i;simp at this;have D:=x.lW;obtain e|e|e|e:=this
 .rw[e,a.blk]at D;simp at D
 .obtain⟨es,c,e2⟩:=a.aS.isMap;rw[e,e2]at D;cases D
 .obtain⟨es,c,e2⟩:=a.af.isMap;rw[e,e2]at D;cases D
 .obtain⟨es,c,e2⟩:=a.holds.isMap;rw[e,e2]at D;cases D
end
theorem lx{V:Type}[DecidableEq K]{l:List (K×V)}{k:K}{v:V}(h:(k,v)∈l):(cO l k).length+1<=l.length:=by
 have:(cO l k).length<l.length:=by
  unfold cO;rw[List.length_filter_lt_length_iff_exists];exact⟨_,h,sE⟩
 omega
theorem gj{V:Type}[DecidableEq K]{l:List (K×V)}{k j:K}{v:V}:aj (dm l k v) j=if j=k then some v else aj l j:=by
 by_cases e:j=k
 .grind [aj,dm]
 .rw[if_neg e];have h:=iI (rem:=l) (k:=k) (j:=j);rw[if_neg e]at h;rw[<-h];have a:¬k=j:=λx=>e x.symm
  simp[aj,dm,a]
theorem Yq(W:World):(Instr.makeMap 303 none).run prog W=.ok (.map<|some W.heap.size) (W.alloc<|.map #[] 0):=by
 simp[Instr.makeMap]
theorem nG(p u Z R H n t:Nat)(s:ag)(w:World)(h:bC w p u Z R H n s)(ht:t<2^64)(hn:n<maxLen):
  Calls prog 190 #[rM p,.int .u64 (t:Int)] w λe w'=>∃b L,e=.returned (.map<|some b)/\w.heap.size<=b/\bB KS EG w' b n L/\(∀k,aj L k=aj s.holds (t,k))/\Fr [] w w':=by
 have I:=ae h;have c3:=aa h.blk 3;simp at c3;have uK:p<w.heap.size:=(zza.1 h.blk).1;clear h;have UW:=Yq;go_enter func190,ntmps190;go_wp2_with (first
  |(at_range;apply fF rfl _ 145 287 rfl underlying145 H n s.holds rfl (I.out.holds.fr ((lE w).alloc _) sE);intro K y q U)
  |go_in)
 have J:(w.alloc<|.map #[] 0).heap.size=w.heap.size+1:=sE
 rw[J]at y U ⊢;clear J;go_frame;have Q:=ae<|((lE w).alloc _).trans<|Fr.dc q;have G:Hid (bB KS EG K w.heap.size 0 []):=(bB.made w).fr (Fr.dc q) sE;have V:=ae y;have hlen:=I.out.holds.len;clear y q
 go_loopw [6] (λ_ wr=>∃rem L m,Hid<|bI KH EG wr H (w.heap.size+1) n s.holds rem/\bB KS EG wr w.heap.size m L/\m+rem.length<=n/\(∀k,aj L k=if (aj rem (t,k)).isSome=true then none else aj s.holds (t,k))/\Fr [] w wr/\w.heap.size+2<=wr.heap.size) (λ_ wr=>wr.rangeLeft H<|w.heap.size+1)
 case atStart=>
  refine⟨s.holds,[],0,V.out,G.out,oE,λk=>?_,Q.out,oE⟩
  cases aj s.holds (t,k)with
  |none=>rfl
  |some v=>rfl
 case round=>
  have⟨rem,L,m,X⟩:=hrel;have f:=X.1;go_wp2_with (first
   |(at_next;refine fQ rfl _ rfl H (w.heap.size+1) n s.holds rem rfl f ?_ ?_)
   |go_in)
  .intro eQ;go_wp2;go_ret;refine⟨w.heap.size,L,rfl,zzc _,X.2.1.mono<|by have:=X.2.2.1;omega,λk=>?_,X.2.2.2.2.1⟩;rw[X.2.2.2.1 k,eQ];rfl
  .intro tx k2 x w2 hm pW bP dY cC uI;have Y:((tx,k2),x)∈s.holds:=by
    have⟨_,_,_,_,_,_,_,_,C,_⟩:=f;exact C _ hm
   have z:tx<18446744073709551616/\k2.size<=maxLen:=by
    have⟨_,_,_,_,z⟩:=f.owns;exact(z _ Y).1
   have l:=ae bP;have B:=ae pW;have T:Hid (Fr [] w w2):=X.2.2.2.2.1.andThen (Fr.bK dY) (λj c A=>by simp at c;omega);have d:Hid (bB KS EG w2 w.heap.size m L):=X.2.1.fr (Fr.bK dY) sE;have N:w.heap.size+2<=w2.heap.size:=by have:=X.2.2.2.2.2;omega
   have QO:(Instr.entry<|.pointer<|some (dH (w.heap.size+1))).run prog w2=.ok (.tuple #[.agg #[.int .u64 (tx:Int),.string k2],.agg #[.int .u8 (x.way:Int),.string x.val]]) w2:=uI;have F:=ae<|zzb hm Y;have S:Hid (aV s.holds):=by have⟨_,_,_,O,_⟩:=f.owns;exact O
   clear f pW hm Y uI dY cC bP;have P:m<maxLen:=by
    have o:=lx F.1;have i:=X.2.2.1;omega
   by_cases g:tx=t
   .subst g;go_wp2_with (first
     |(at_mapUpdate;apply zJ rfl _ _ _ 303 287 rfl underlying303 w.heap.size m L rfl (d.out.fr (((lE w2).alloc _).alloc _) sE) P k2 z.2 rfl x trivial rfl;intro M W E)
     |go_in)
    go_frame;go_wp2;have D:Fr [w.heap.size] w2 M:=(((Fr.refl [w.heap.size] w2).alloc _).alloc _).trans<|Fr.bK E;have jW:H<w.heap.size:=I.out.oT.2.2.2.1;have⟨a,r⟩:=B.out.fr D sC sE
    go_roundw;case rel=>
     refine⟨cO rem (tx,k2),dm L k2 x,m+1,a,W,?_,λk=>?_,T.out.andThen D λj c A=>by simp at c;omega,zzk N D.size⟩
     .have o:=lx F.1;have i:=X.2.2.1;omega
     .rw[gj,iI];by_cases e:k=k2
      .subst e;rw[if_pos rfl,if_pos (rfl:(tx,k)=(tx,k))];exact(bS S.out F.2).symm
      .have e1:¬(tx,k)=(tx,k2):=by simp[e]
       rw[if_neg e,if_neg e1];exact X.2.2.2.1 k
    case measure=>rw[r];exact l.out
   .have hb:((tx:Int)==t)=false:=sC;go_wp2;have⟨a,r⟩:=B.out.fr (((lE w2).alloc<|.cells #[.int .u64 (tx:Int),.string k2] 289).alloc<|.cells #[.int .u8 (x.way:Int),.string x.val] 287) sE sE;refine⟨⟨cO rem (tx,k2),L,m,a,d.out.fr (((lE w2).alloc _).alloc _) sE,?_,λk=>?_,T.out.trans<|((lE w2).alloc _).alloc _,zzk N sC⟩,by rw[r];exact l.out⟩
    .have o:=lx F.1;have i:=X.2.2.1;omega
    .have e1:¬(t,k)=(tx,k2):=λe=>g (congrArg Prod.fst e).symm
     rw[iI,if_neg e1];exact X.2.2.2.1 k
end Go.Proofs.YtdcafjmdfpjcbaaGreatDoor
