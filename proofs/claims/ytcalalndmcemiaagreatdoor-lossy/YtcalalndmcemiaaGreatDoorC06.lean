import Derived.Test.YtcalalndmcemiaaGreatDoorC02
import Derived.Test.YtcalalndmcemiaaGreatDoorC04
namespace Go.Proofs.YtcalalndmcemiaaGreatDoor
open Go.RowKit Go.Maps Tryz Sc
theorem Cc(s:ByteArray)(w:World)(hs:s.size<=281474976710656):
  Calls prog 109 #[.string s] w λe w'=>e=.returned (.string s)/\Below w.heap.size w w':=by
 go_enter func109,ntmps109
 go_wp2_with fail;refine(Tryz.stringslite_Clone s w hs).mono ?_;rintro e a ⟨rfl,hb⟩;go_wp2;go_ret;exact⟨rfl,hb⟩
section
variable{K V:Type}[DecidableEq K]
def ak(l:List (K × V))(k:K):Option V:=(l.find? λp=>decide (p.1=k)).map (·.2)
def aT(l:List (K × V))(k:K):List (K × V):=l.filter λp=>!decide (p.1=k)
def aV(l:List (K × V))(k:K)(v:V):List (K × V):=(k,v) :: aT l k
def b_(l:List (K × V)):Prop:=l.Pairwise λp q=>p.1≠q.1
omit [DecidableEq K] in
theorem b_.same{l:List (K×V)}(h:b_ l){p q:K×V}(c:p∈l)(d:q∈l)(e:p.1=q.1):p=q:=by
 induction l with
 |nil=>cases c
 |cons x r ih=>
  have⟨b,f⟩:=zzA.1 h;obtain a|a:=zzj.1 c
  .rcases zzj.1 d with R|R
   .rw[a,R]
   .rw[a]at e;exact absurd e<|b q R
  .rcases zzj.1 d with R|R
   .rw[R]at e;exact absurd e.symm<|b p a
   .exact ih f a R
theorem bZ{l:List (K×V)}{k:K}{v:V}(h:ak l k=some v):(k,v)∈l:=by
 unfold ak at h;cases hf:l.find? (λp=>decide<|p.1=k)with
 |none=>rw[hf]at h;cases h
 |some p=>
  rw[hf]at h;have d:=List.mem_of_find?_eq_some hf;have c:=List.find?_some hf;simp at h c;have⟨a,b⟩:=p;simp at h c;subst h c;exact d
theorem kJ{l:List (K×V)}{k:K}:ak l k=none↔∀p∈l,p.1≠k:=by
 unfold ak;simp[List.find?_eq_none]
theorem cP{l:List (K×V)}(h:b_ l){k:K}{v:V}(m:(k,v)∈l):ak l k=some v:=by
 cases a:ak l k with
 |none=>exact absurd rfl<|kJ.1 a _ m
 |some u=>have:=h.same m (bZ a) rfl;simp at this;rw[this]
theorem b_.del{l:List (K×V)}(h:b_ l)(k:K):b_ (aT l k):=List.Pairwise.filter _ h
theorem b_.put{l:List (K×V)}(h:b_ l)(k:K)(v:V):b_ (aV l k v):=
 zzA.2 ⟨λq a e=>by have:=(zzp.1 a).2;simp at this;exact this e.symm,h.del k⟩
end
structure iD(P:Program)(K:Type)(kt:TypeId) where
 kv:K->Value
 kl:K->Lit
 ok:K->Prop
 law:Keyed P kt
 key:∀k,ok k->keyOf P kt (kv k)=some (kl k)
 inj:∀a b,kv a=kv b->a=b
structure kK(V:Type) where
 R:Value->Option (DataW Unit × List MemPlace)
 ev:V->Value
 el:V->DataW Unit
 ok:V->Prop
 made:∀v,ok v->R (ev v)=some (el v,[])
 inv:∀x v ps,ok v->R x=some (el v,ps)->x=ev v
section
variable{P:Program}{K V:Type}[DecidableEq K]{kt:TypeId}(KR:iD P K kt)(ER:kK V)
omit [DecidableEq K] in
theorem iD.Sp{a b:K}(c:KR.ok a)(hb:KR.ok b)(h:KR.kl a=KR.kl b):a=b:=
 KR.inj a b (KR.law.inj (KR.key a c)<|by rw[h];exact KR.key b hb)
theorem iD.same{a b:K}(c:KR.ok a)(hb:KR.ok b):(KR.kl a).sameKey (KR.kl b)=decide (a=b):=by
 by_cases e:a=b
 .subst e;rw[WideAt.sameKey_self<|KR.law.key<|KR.key a c];simp
 .rw[Maps.sameKey_ne λh=>e<|KR.Sp c hb h];simp[e]
def l4(p:K × V):Lit × DataW Unit:=(KR.kl p.1,ER.el p.2)
def aO(w:World)(b n:Nat)(l:List (K × V)):Prop :=
 ∃E,w.ownsMap P kt ER.R b n (.map E)/\E.Perm (l.map (l4 KR ER))/\b_ l/\∀p∈l,KR.ok p.1/\ER.ok p.2
variable{KR ER}{w w':World}{b n:Nat}{l:List (K × V)}{E:List (Lit × DataW Unit)}
theorem xV(b:E.Perm<|l.map<|l4 KR ER)(B:∀p∈l,KR.ok p.1/\ER.ok p.2){k:K}(h:KR.ok k):Maps.has (.map E) (KR.kl k)=(ak l k).isSome:=by
 rw[Maps.has_eq,b.any_eq,List.any_map];cases a:ak l k with
 |none=>
  rw[Option.isSome_none,List.any_eq_false];intro p m;have:=kJ.1 a p m;simp only[Function.comp,l4];rw[KR.same (B p m).1 h];simp[this]
 |some v=>
  rw[Option.isSome_some,List.any_eq_true];refine⟨(k,v),bZ a,?_⟩;simp only[Function.comp,l4];rw[KR.same h h];simp
theorem tL(c:E.Perm<|l.map<|l4 KR ER)(d:b_ l)(B:∀p∈l,KR.ok p.1/\ER.ok p.2){k:K}(h:KR.ok k){v:V}(b:ak l k=some v)(z:DataW Unit):(DataW.map E).atKey (KR.kl k) z=ER.el v:=by
 have m:=c.mem_iff.2<|zzq.2 ⟨(k,v),bZ b,rfl⟩;simp only[DataW.atKey]
 cases hf:E.find? (λp=>p.1.sameKey<|KR.kl k)with
 |none=>
  have:=List.find?_eq_none.1 hf _ m;simp only[l4]at this;rw[KR.same h h]at this;simp at this
 |some q=>
  have e:=c.mem_iff.1<|List.mem_of_find?_eq_some hf;have a:=List.find?_some hf;obtain⟨p,r,rfl⟩:=zzq.1 e;simp only[l4]at a ⊢;rw[KR.same (B p r).1 h]at a;have f:p.1=k:=by simpa using a
  have:=d.same r (bZ b) f;rw[this]
omit [DecidableEq K] in
theorem aO.made(w:World):aO KR ER (w.alloc<|.map #[] 0) w.heap.size 0 []:=
 ⟨[],World.ownsMap_made _ _ _ _,List.Perm.refl _,List.Pairwise.nil,bR⟩
omit [DecidableEq K] in
theorem aO.lt(h:aO KR ER w b n l):b<w.heap.size:=by have⟨E,h,_⟩:=h;exact h.lt
omit [DecidableEq K] in
theorem aO.isMap(h:aO KR ER w b n l):∃E c,w.heap[b]?=some (.map E c):=by have⟨_,⟨E,c,h,_⟩,_⟩:=h;exact⟨E,c,h⟩
omit [DecidableEq K] in
theorem aO.mono(h:aO KR ER w b n l){n':Nat}(hn:n<=n'):aO KR ER w b n' l:=by have⟨E,h,r⟩:=h;exact⟨E,h.mono hn,r⟩
omit [DecidableEq K] in
theorem aO.fr{S:List Nat}(h:aO KR ER w b n l)(hf:Fr S w w')(hb:b∉S):aO KR ER w' b n l:=by
 have U:=h.lt;have⟨E,⟨e,c,a,d⟩,r⟩:=h;exact⟨E,⟨e,c,(hf.block b U hb).trans a,d⟩,r⟩
omit [DecidableEq K] in
theorem aO.len(h:aO KR ER w b n l):l.length<=n:=by
 have⟨E,h,p,_⟩:=h;have:=h.size_le;rw[Maps.size_eq,p.length_eq,zzn]at this;exact this
theorem uV(a:E.Perm<|l.map<|l4 KR ER)(B:∀p∈l,KR.ok p.1/\ER.ok p.2){k:K}(h:KR.ok k):(E.filter<|ChangeMaps.notKey<|KR.kl k).Perm ((aT l k).map<|l4 KR ER):=by
 apply(a.filter _).trans;rw[List.filter_map];unfold aT;rw[List.filter_congr λp m=>?_];simp only[Function.comp,l4,ChangeMaps.notKey];rw[KR.same (B p m).1 h]
theorem aO.UL{k:K}{v:V}(c:E.Perm<|l.map<|l4 KR ER)(a:b_ l)(B:∀p∈l,KR.ok p.1/\ER.ok p.2)(h:KR.ok k)(d:ER.ok v)(o:w'.ownsMap P kt ER.R b n<|(DataW.map E).put (KR.kl k)<|ER.el v):aO KR ER w' b n (aV l k v):=by
 rw[DataW.put_eq]at o;refine⟨_,o,?_,a.put k v,λp m=>?_⟩
 .unfold ChangeMaps.putKey;exact(WideShapes.insert_perm _ _).trans<|(uV c B h).cons _
 .rcases zzj.1 m with rfl|m
  .exact⟨h,d⟩
  .exact B p (zzp.1 m).1
theorem aO.aab{k:K}(c:E.Perm<|l.map<|l4 KR ER)(h:b_ l)(B:∀p∈l,KR.ok p.1/\ER.ok p.2)(a:KR.ok k)(o:w'.ownsMap P kt ER.R b n<|(DataW.map E).del<|KR.kl k):aO KR ER w' b n (aT l k):=by
 rw[DataW.del_eq]at o;exact⟨_,o,uV c B a,h.del k,λp m=>B p (zzp.1 m).1⟩
theorem aO.Ch{t e:TypeId}(h:aO KR ER w b n l)(i:P.underlying t=some (.map kt e)){z:V}(j:(zeroValue e).run P w=.ok (ER.ev z) w)(f:ER.ok z){k:K}(c:KR.ok k):
  (Instr.lookup t (.map<|some b) (KR.kv k) true).run P w=.ok (.tuple #[ER.ev<|(ak l k).getD z,.bool (ak l k).isSome]) w:=by
 have⟨E,o,p,g,B⟩:=h;have⟨v,ps,r,d⟩:=o.look_ok KR.law i j (ER.made z f)<|KR.key k c;rw[xV p B c]at r
 cases a:ak l k with
 |none=>
  rw[a]at r;have Q:Maps.has (.map E) (KR.kl k)=false:=by rw[xV p B c,a];rfl
  rw[Maps.atKey_of_not_has Q]at d;rw[ER.inv v z ps f d]at r;exact r
 |some u=>
  rw[a]at r;rw[tL p g B c a]at d;rw[ER.inv v u ps (B _<|bZ a).2 d]at r;exact r
theorem aO.look{t e:TypeId}(h:aO KR ER w b n l)(i:P.underlying t=some (.map kt e)){z:V}(j:(zeroValue e).run P w=.ok (ER.ev z) w)(f:ER.ok z){k:K}(c:KR.ok k):
  (Instr.lookup t (.map<|some b) (KR.kv k) false).run P w=.ok (ER.ev<|(ak l k).getD z) w:=by
 have⟨E,o,p,g,B⟩:=h;have⟨v,ps,r,a⟩:=o.lookup KR.law i j (ER.made z f)<|KR.key k c
 cases d:ak l k with
 |none=>
  have Q:Maps.has (.map E) (KR.kl k)=false:=by rw[xV p B c,d];rfl
  rw[Maps.atKey_of_not_has Q]at a;rw[ER.inv v z ps f a]at r;exact r
 |some u=>
  rw[tL p g B c d]at a;rw[ER.inv v u ps (B _<|bZ d).2 a]at r;exact r
omit [DecidableEq K] in
theorem aO.Ci{t e:TypeId}(h:aO KR ER w b n l)(a:P.underlying t=some (.map kt e))(ty:TypeId):(Builtin.len_ #[t] ty #[.map<|some b]).run P w=.ok (.int .i64 (l.length:Int)) w:=by
 have⟨E,o,p,_⟩:=h;have:=o.len a ty;rwa [Maps.size_eq,p.length_eq,zzn]at this
end
section
variable{P:Program}{K V:Type}[DecidableEq K]{kt:TypeId}{KR:iD P K kt}{ER:kK V}{w:World}{ops:Array Oper}{rest:List Oper}{o:Oper}{a:Act}{Q:Exit->Act->World->Prop}
theorem xW(j:o.guard=none)(m x v:Operand)(t e:TypeId)(d:o.op=Op.mapUpdate t m x v)(s:P.underlying t=some (.map kt e))(b n:Nat)(l:List<|K×V)(p:a.eval m=.map (some b))(M:aO KR ER w b n l)(hn:n<maxLen)
  (k:K) (h:KR.ok k) (z:a.eval x=KR.kv k) (u:V) (c:ER.ok u) (y:a.eval v=ER.ev u)
  (i:∀w',aO KR ER w' b (n+1) (aV l k u)->w.grownBy w' (some b)->wpList P ops Q rest (a.put o.dst undef) w'):wpList P ops Q (o::rest) a w:=by
 have⟨E,q,r,f,B⟩:=M;apply wpList_mapUpdate_own w j m x v t d kt e KR.law s ER.R b n _ p q hn _ _ (KR.kl k) z y (KR.key k h) _ [] (ER.made u c);intro w' A g;exact i w' (aO.UL r f B h c A) g
theorem iE(g:o.guard=none)(m x:Operand)(t e:TypeId)(u:o.op=Op.call {callee:=Callee.builtin Builtin.delete,args:=#[m,x],argTypes:=#[t,kt]})(j:P.underlying t=some (.map kt e))(b n:Nat)(l:List<|K×V)(f:a.eval m=.map (some b))(M:aO KR ER w b n l)
  (k:K) (h:KR.ok k) (q:a.eval x=KR.kv k)
  (d:∀w',aO KR ER w' b n (aT l k)->w.grownBy w' (some b)->wpList P ops Q rest (a.put o.dst<|.tuple #[]) w'):wpList P ops Q (o::rest) a w:=by
 have⟨E,i,p,c,B⟩:=M;apply wpList_delete_own w g m x _ _ u e KR.law j ER.R b n _ f i _ (KR.kl k) q (KR.key k h);intro w' s r;exact d w' (aO.aab p c B h s) r.grown
end
section
variable{P:Program}{K V:Type}[DecidableEq K]{E:TypeId}(KR:iD P K E)(ER:kK V)
def aY(w:World)(b r n:Nat)(l rem:List (K × V)):Prop :=
 ∃s left t,w.ranges P E ER.R b r n (.map s) left t/\s.Perm (l.map (l4 KR ER))/\b_ l/\(∀p∈l,KR.ok p.1/\ER.ok p.2)/\b_ rem/\(∀p∈rem,p∈l)/\∀k,KR.ok k->left (KR.kl k)=(ak rem k).isSome
variable{KR ER}{w w':World}{b r n:Nat}{l rem:List (K × V)}
theorem fY{k j:K}:ak (aT rem k) j=if j=k then none else ak rem j:=by
 by_cases e:j=k
 .subst e;rw[if_pos rfl,kJ];intro p a;have:=(zzp.1 a).2;simpa using this
 .rw[if_neg e];unfold ak aT;congr 1;rw[List.find?_filter];congr 1;funext p;by_cases h:p.1=j
  .simp[h,e]
  .simp[h]
theorem aY.owns(h:aY KR ER w b r n l rem):aO KR ER w b n l:=by
 have⟨s,left,t,a,c,d,e,_⟩:=h;exact⟨s,a.owns,c,d,e⟩
theorem aY.lt(h:aY KR ER w b r n l rem):r<w.heap.size:=by have⟨_,_,_,a,_⟩:=h;exact a.lt
theorem aY.fr{S:List Nat}(h:aY KR ER w b r n l rem)(hf:Fr S w w')(hb:b∉S)(e:r∉S):aY KR ER w' b r n l rem/\w'.rangeLeft b r=w.rangeLeft b r:=by
 have p:=h.owns.lt;have d:=h.lt;have⟨s,left,t,a,c⟩:=h;have q:w'.ranges P E ER.R b r n (.map s) left t:=by
  unfold World.ranges at a ⊢;rw[hf.block b p hb,hf.block r d e];exact a
 exact⟨⟨s,left,t,q,c⟩,by rw[q.left_eq,a.left_eq]⟩
end
section
variable{P:Program}{K V:Type}[DecidableEq K]{E:TypeId}{KR:iD P K E}{ER:kK V}{w:World}{ops:Array Oper}{rest:List Oper}{o:Oper}{a:Act}{Q:Exit->Act->World->Prop}
theorem fq(f:o.guard=none)(m:Operand)(t e:TypeId)(u:o.op=Op.range t m)(r:P.underlying t=some (.map E e))(b n:Nat)(l:List<|K×V)(j:a.eval m=.map (some b))(M:aO KR ER w b n l)
  (d:∀w',aY KR ER w' b w.heap.size n l l->w.grownBy w' none->w'.heap.size=w.heap.size+1->wpList P ops Q rest (a.put o.dst<|.pointer<|some ⟨w.heap.size,0,none⟩) w'):wpList P ops Q (o::rest) a w:=by
 have⟨s,q,h,c,B⟩:=M;apply wpList_range_own w f m t u E e KR.law r ER.R b n _ j q;intro w' Z g z;exact d w' ⟨s,_,_,Z,h,c,B,c,λp h=>h,λk i=>xV h B i⟩ g z
theorem fN(U:o.guard=none)(t:Operand)(S:o.op=Op.next t false)(b r n:Nat)(l rem:List<|K×V)(W:a.eval t=.pointer (some ⟨r,0,none⟩))(T:aY KR ER w b r n l rem)
  (F:rem=[]->wpList P ops Q rest (a.put o.dst<|.tuple #[.bool false]) w)
  (G:∀(k:K) (v:V) (w':World),(k,v)∈rem->aY KR ER w' b r n l (aT rem k)->w'.rangeLeft b r<w.rangeLeft b r->w.grownBy w' (some r)->w'.heap.size=w.heap.size ->
   (Instr.entry (.pointer (some ⟨r,0,none⟩))).run P w'=.ok (.tuple #[KR.kv k,ER.ev v]) w'->wpList P ops Q rest (a.put o.dst (.tuple #[.bool true,KR.kv k,ER.ev v])) w'):wpList P ops Q (o::rest) a w:=by
 have⟨s,left,J,Z,h,d,B,z,g,i⟩:=T;refine wpList_next_ranges w U t S E KR.law ER.R id id (λm _ _=>⟨m,rfl⟩) (λv _ _=>⟨v,rfl⟩) b r n _ left J W Z ?_ ?_
 .intro _ hl;apply F;cases c:rem with
  |nil=>rfl
  |cons p q=>
   have C:(p.1,p.2)∈rem:=by rw[c];exact List.mem_cons_self
   have:=i p.1 (B _<|g _ C).1;rw[hl,cP z C]at this;cases this
 .intro m val kl y w' On Cj my hv eW Ck bU g_ hsz iU;have O:=Maps.has_true_of_atKey eW;rw[Maps.has_eq,List.any_eq_true]at O;have⟨p,Y,I⟩:=O;obtain⟨q,f,rfl⟩:=zzq.1<|h.mem_iff.1 Y;have⟨k,v⟩:=q;have D:=(B _ f).1;have X:=(B _ f).2;have N:KR.kl k=kl:=WideAt.sameKey_eq I;subst N;have M:m=KR.kv k:=KR.law.inj Cj<|KR.key k D;have x:=eW<|ER.el v;rw[tL h d B D<|cP d f]at x;have R:=ER.inv val v y.2 X<|by rw[x];exact hv
  have H:(k,v)∈rem:=by
   have:=i k D;rw[my]at this;cases c:ak rem k with
   |none=>rw[c]at this;cases this
   |some u=>
    have L:=d.same (g _<|bZ c) f rfl;rw[<-L];exact bZ c
  subst M R;refine G k v w' H ⟨s,_,On,Ck,h,d,B,z.del k,λp h=>g p (zzp.1 h).1,λj A=>?_⟩ (by rw[Ck.left_eq,Z.left_eq];exact bU) g_ hsz iU;rw[i j A,KR.same A D,fY];by_cases e:j=k
  .simp[e]
  .simp[e]
end
end Go.Proofs.YtcalalndmcemiaaGreatDoor
