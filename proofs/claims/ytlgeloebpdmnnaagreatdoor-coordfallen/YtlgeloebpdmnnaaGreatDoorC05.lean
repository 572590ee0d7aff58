import Derived.Test.YtlgeloebpdmnnaaGreatDoorC01
import Derived.DeepKeys5
import Derived.BigQuiet
namespace Go.Proofs.YtlgeloebpdmnnaaGreatDoor
open Go.RowKit Go.Maps Tryz Sc
variable{k:Nat}{e t:TypeId}
section
variable{K V:Type}[DecidableEq K]
def bJ(l:List (K × V))(k:K):Option V:=(l.find? λp=>decide (p.1=k)).map (·.2)
def dU(l:List (K × V))(k:K):List (K × V):=l.filter λp=>!decide (p.1=k)
def dt(l:List (K × V))(k:K)(v:V):List (K × V):=(k,v) :: dU l k
def fM(l:List (K × V)):Prop:=l.Pairwise λp q=>p.1≠q.1
omit [DecidableEq K] in
theorem fM.same{l:List (K×V)}(h:fM l){p q:K×V}(hp:p∈l)(c:q∈l)(e:p.1=q.1):p=q:=by
 induction l with
 |nil=>cases hp
 |cons x r ih=>
  have⟨d,b⟩:=zzA.1 h;obtain A|A:=zzj.1 hp
  .grind
  .rcases zzj.1 c with a|a
   .grind
   .exact ih b A a
theorem eO{l:List (K×V)}{k:K}{v:V}(h:bJ l k=some v):(k,v)∈l:=by
 unfold bJ at h;cases hf:l.find? (λp=>decide<|p.1=k)with
 |none=>grind
 |some p=>grind
theorem sB{l:List (K×V)}{k:K}:bJ l k=none↔∀p∈l,p.1≠k:=by
 unfold bJ;simp[List.find?_eq_none]
theorem jR{l:List (K×V)}(h:fM l){k:K}{v:V}(m:(k,v)∈l):bJ l k=some v:=by
 cases a:bJ l k with
 |none=>grind[sB]
 |some u=>have:=h.same m (eO a) rfl;simp at this;rw[this]
theorem fM.del{l:List (K×V)}(h:fM l)(k:K):fM (dU l k):=List.Pairwise.filter _ h
theorem fM.put{l:List (K×V)}(h:fM l)(k:K)(v:V):fM (dt l k v):=
 zzA.2 ⟨λq a e=>by have:=(zzp.1 a).2;simp at this;exact this e.symm,h.del k⟩
end
structure qN(P:Program)(K:Type)(kt:TypeId) where
 kv:K->Value
 kl:K->Lit
 ok:K->Prop
 law:Keyed P kt
 key:∀k,ok k->keyOf P kt (kv k)=some (kl k)
 inj:∀a b,kv a=kv b->a=b
structure Bp(V:Type) where
 R:Value->Option (DataW Unit × List MemPlace)
 ev:V->Value
 el:V->DataW Unit
 ok:V->Prop
 made:∀v,ok v->R (ev v)=some (el v,[])
 inv:∀x v ps,ok v->R x=some (el v,ps)->x=ev v
section
variable{P:Program}{K V:Type}[DecidableEq K]{kt:TypeId}(KR:qN P K kt)(ER:Bp V)
omit [DecidableEq K] in
theorem qN.Xl{a b:K}(c:KR.ok a)(hb:KR.ok b)(h:KR.kl a=KR.kl b):a=b:=
 KR.inj a b (KR.law.inj (KR.key a c)<|by rw[h];exact KR.key b hb)
theorem qN.same{a b:K}(c:KR.ok a)(hb:KR.ok b):(KR.kl a).sameKey (KR.kl b)=decide (a=b):=by
 by_cases e:a=b
 .subst e;rw[WideAt.sameKey_self<|KR.law.key<|KR.key a c];simp
 .rw[Maps.sameKey_ne λh=>e<|KR.Xl c hb h];simp[e]
def pg(p:K × V):Lit × DataW Unit:=(KR.kl p.1,ER.el p.2)
def dV(w:nL)(b n:Nat)(l:List (K × V)):Prop :=
 ∃es,w.ownsMap P kt ER.R b n (.map es)/\es.Perm (l.map (pg KR ER))/\fM l/\∀p∈l,KR.ok p.1/\ER.ok p.2
variable{KR ER}{w w':nL}{b n:Nat}{l:List (K × V)}{es:List (Lit × DataW Unit)}
theorem SI(hp:es.Perm<|l.map<|pg KR ER)(Z:∀p∈l,KR.ok p.1/\ER.ok p.2){k:K}(h:KR.ok k):Maps.has (.map es) (KR.kl k)=(bJ l k).isSome:=by
 rw[Maps.has_eq,hp.any_eq,List.any_map];cases a:bJ l k with
 |none=>
  rw[Option.isSome_none,List.any_eq_false];intro p m;have:=sB.1 a p m;simp only[Function.comp,pg];rw[KR.same (Z p m).1 h];simp[this]
 |some v=>
  rw[Option.isSome_some,List.any_eq_true];refine⟨(k,v),eO a,?_⟩;simp only[Function.comp,pg];rw[KR.same h h];simp
theorem Hk(hp:es.Perm<|l.map<|pg KR ER)(c:fM l)(Z:∀p∈l,KR.ok p.1/\ER.ok p.2){k:K}(h:KR.ok k){v:V}(a:bJ l k=some v)(z:DataW Unit):(DataW.map es).atKey (KR.kl k) z=ER.el v:=by
 have m:=hp.mem_iff.2<|zzq.2 ⟨(k,v),eO a,rfl⟩;simp only[DataW.atKey]
 cases hf:es.find? (λp=>p.1.sameKey<|KR.kl k)with
 |none=>
  have:=List.find?_eq_none.1 hf _ m;simp only[pg]at this;rw[KR.same h h]at this;simp at this
 |some q=>
  have d:=hp.mem_iff.1<|List.mem_of_find?_eq_some hf;have b:=List.find?_some hf;obtain⟨p,A,rfl⟩:=zzq.1 d;simp only[pg]at b ⊢;rw[KR.same (Z p A).1 h]at b;have e:p.1=k:=by grind
  have:=c.same A (eO a) e;rw[this]
omit [DecidableEq K] in
theorem dV.made(w:nL):dV KR ER (w.alloc<|.map #[] 0) w.heap.size 0 []:=
 ⟨[],World.ownsMap_made _ _ _ _,List.Perm.refl _,List.Pairwise.nil,dv⟩
omit [DecidableEq K] in
theorem dV.lt(h:dV KR ER w b n l):b<w.heap.size:=by have⟨es,h,_⟩:=h;exact h.lt
omit [DecidableEq K] in
theorem dV.isMap(h:dV KR ER w b n l):∃es c,w.heap[b]?=some (.map es c):=by have⟨_,⟨es,c,h,_⟩,_⟩:=h;exact⟨es,c,h⟩
omit [DecidableEq K] in
theorem dV.mono(h:dV KR ER w b n l){n':Nat}(hn:n<=n'):dV KR ER w b n' l:=by have⟨es,h,r⟩:=h;exact⟨es,h.mono hn,r⟩
omit [DecidableEq K] in
theorem dV.fr{S:List Nat}(h:dV KR ER w b n l)(hf:Fr S w w')(hb:b∉S):dV KR ER w' b n l:=by
 have W:=h.lt;have⟨es,⟨e,c,a,d⟩,r⟩:=h;exact⟨es,⟨e,c,(hf.block b W hb).trans a,d⟩,r⟩
theorem DR(hp:es.Perm<|l.map<|pg KR ER)(Z:∀p∈l,KR.ok p.1/\ER.ok p.2){k:K}(h:KR.ok k):(es.filter<|ChangeMaps.notKey<|KR.kl k).Perm ((dU l k).map<|pg KR ER):=by
 apply(hp.filter _).trans;rw[List.filter_map];unfold dU;rw[List.filter_congr λp m=>?_];simp only[Function.comp,pg,ChangeMaps.notKey];rw[KR.same (Z p m).1 h]
theorem dV.aco{k:K}{v:V}(hp:es.Perm<|l.map<|pg KR ER)(h:fM l)(Z:∀p∈l,KR.ok p.1/\ER.ok p.2)(a:KR.ok k)(c:ER.ok v)(o:w'.ownsMap P kt ER.R b n<|(DataW.map es).put (KR.kl k)<|ER.el v):dV KR ER w' b n (dt l k v):=by
 rw[DataW.put_eq]at o;refine⟨_,o,?_,h.put k v,λp m=>?_⟩
 .unfold ChangeMaps.putKey;exact(WideShapes.insert_perm _ _).trans<|(DR hp Z a).cons _
 .rcases zzj.1 m with rfl|m
  .grind
  .exact Z p (zzp.1 m).1
theorem dV.acp{k:K}(hp:es.Perm<|l.map<|pg KR ER)(h:fM l)(Z:∀p∈l,KR.ok p.1/\ER.ok p.2)(a:KR.ok k)(o:w'.ownsMap P kt ER.R b n<|(DataW.map es).del<|KR.kl k):dV KR ER w' b n (dU l k):=by
 rw[DataW.del_eq]at o;exact⟨_,o,DR hp Z a,h.del k,λp m=>Z p (zzp.1 m).1⟩
theorem dV.look{t e:TypeId}(h:dV KR ER w b n l)(i:P.underlying t=some (.map kt e)){z:V}(j:(zeroValue e).run P w=.ok (ER.ev z) w)(f:ER.ok z){k:K}(c:KR.ok k):
  (Instr.lookup t (.map<|some b) (KR.kv k) false).run P w=.ok (ER.ev<|(bJ l k).getD z) w:=by
 have⟨es,o,hp,g,Z⟩:=h;have⟨v,ps,r,a⟩:=o.lookup KR.law i j (ER.made z f)<|KR.key k c
 cases d:bJ l k with
 |none=>
  have m:Maps.has (.map es) (KR.kl k)=false:=by grind[SI]
  rw[Maps.atKey_of_not_has m]at a;rw[ER.inv v z ps f a]at r;exact r
 |some u=>
  rw[Hk hp g Z c d]at a;rw[ER.inv v u ps (Z _<|eO d).2 a]at r;exact r
omit [DecidableEq K] in
theorem dV.aaG{t e:TypeId}(h:dV KR ER w b n l)(a:P.underlying t=some (.map kt e))(y:TypeId):(Builtin.len_ #[t] y #[.map<|some b]).run P w=.ok (.int .i64 (l.length:Int)) w:=by
 have⟨es,o,hp,_⟩:=h;have:=o.len a y;rwa [Maps.size_eq,hp.length_eq,zzn]at this
end
section
variable{P:Program}{K V:Type}[DecidableEq K]{kt:TypeId}{KR:qN P K kt}{ER:Bp V}{w:nL}{ops:Array Oper}{rest:List Oper}{o:Oper}{a:Act}{Q:Exit->Act->nL->Prop}
theorem lN(g:o.guard=none)(m x:Operand)(t e:TypeId)(N:o.op=Op.call {callee:=Callee.builtin Builtin.delete,args:=#[m,x],argTypes:=#[t,kt]})(j:P.underlying t=some (.map kt e))(b n:Nat)(l:List<|K×V)(f:a.eval m=.map (some b))(M:dV KR ER w b n l)
  (k:K) (h:KR.ok k) (hx:a.eval x=KR.kv k)
  (d:∀w',dV KR ER w' b n (dU l k)->w.grownBy w' (some b)->wpList P ops Q rest (a.put o.dst<|.tuple #[]) w'):wpList P ops Q (o::rest) a w:=by
 have⟨es,i,hp,c,Z⟩:=M;apply wpList_delete_own w g m x _ _ N e KR.law j ER.R b n _ f i _ (KR.kl k) hx (KR.key k h);intro w' y r;exact d w' (dV.acp hp c Z h y) r.grown
end
section
variable{P:Program}{K V:Type}[DecidableEq K]{E:TypeId}(KR:qN P K E)(ER:Bp V)
def gY(w:nL)(b r n:Nat)(l rem:List (K × V)):Prop :=
 ∃es left t,w.ranges P E ER.R b r n (.map es) left t/\es.Perm (l.map (pg KR ER))/\fM l/\(∀p∈l,KR.ok p.1/\ER.ok p.2)/\fM rem/\(∀p∈rem,p∈l)/\∀k,KR.ok k->left (KR.kl k)=(bJ rem k).isSome
variable{KR ER}{w w':nL}{b r n:Nat}{l rem:List (K × V)}
theorem js{k j:K}:bJ (dU rem k) j=if j=k then none else bJ rem j:=by grind[sB,bJ,dU]
end
theorem wfU{x:Nat}(h:x<2^64):(Lit.int .u64 (x:Int)).wf=true:=by
 have a:IntKind.u64.min=0:=rfl;have b:IntKind.u64.max=18446744073709551615:=rfl;simp[Lit.wf,a,b];omega
noncomputable def KU:qN prog Nat 34 where
 kv:=λx=>.int .u64 (x:Int)
 kl:=λx=>.int .u64 (x:Int)
 ok:=λx=>x<18446744073709551616
 law:=Go.Maps.int_keyed underlying34
 key:=λ_ hk=>Go.Maps.keyOf_int_mk underlying34 (wfU hk)
 inj:=λa b h=>by simp at h;omega
structure Xq where
 state:Nat
 done:Nat
 last:Nat
structure zm where
 way:Nat
 val:nS
structure eI where
 ahr:List (nS × nS)
 aD:List (Nat × Xq)
 holds:List ((Nat × nS) × zm)
 bw:Nat
def eI.eC(s:eI)(t:Nat):Xq:=(bJ s.aD t).getD ⟨0,0,0⟩
def eI.acK(s:eI)(t:Nat)(k:nS):zm:=(bJ s.holds (t,k)).getD ⟨0,gW⟩
def lgP(g:Nat):Option Addr:=if g=0 then none else some (gi g)
theorem kq{g:Nat}(h:1<=g):lgP g=some (gi g):=mE dp
def zm.writes(g:zm):Bool:=!decide (g.way=0)
structure fQ where
 state:Nat
 parts:List Nat
 since:Nat
 aS:Nat
def fQ.Ok(t:fQ):Prop:=t.parts.length=9/\∀p∈t.parts,p<256
def Xm(ps:List Nat):Value:=.agg (ps.map λp:Nat=>Value.int .u8 (p:Int)).toArray
def J9(t:fQ):List Value:=.int .i64 (t.state:Int) :: ((t.parts.map λp:Nat=>Value.int .u8 (p:Int))++[.int .u64 (t.since:Int),bB t.aS])
def lz(t:fQ):Value:=.agg (J9 t).toArray
theorem nine{l:List Nat}(h:l.length=9):∃a b c d e f g i j,l=[a,b,c,d,e,f,g,i,j]:=by
 match l,h with
 |[a,b,c,d,e,f,g,i,j],_=>grind
abbrev OS:fQ:=⟨0,[0,0,0,0,0,0,0,0,0],0,0⟩
theorem KW:OS.Ok:=⟨rfl,du⟩
@[go_sem] theorem SJ (P:Program) (w:nL) (a:Addr) (q:Nat) (m:Mode):(store a (bB q) m).run P w=stored P w a (bB q) m:=run_store P w a _ m (by unfold bB;split<;>rfl)
@[go_sem] theorem Xn (P:Program) (w:nL) (t:TypeId) (q:Nat) (h:P.underlying t=some (.interface (P.methodsAt t))):(binOp .neq t (bB q) .nilIface).run P w=.ok (.bool (decide (q≠0))) w:=by
 by_cases e:q=0
 .subst e;rw[aT,run_neq_nil_nil w t h];rfl
 .rw[aV e,run_neq_held_nil w t _ _ h];simp[e]
def dbR:Value->Option Nat
 |.nilIface=>some 0
 |.iface t (.int .i64 n)=>if t=27/\0<n then some n.toNat else none
 |_=>none
theorem SK(q:Nat):dbR (bB q)=some q:=by
 by_cases h:q=0
 .subst h;rfl
 .rw[aV h];show(if _ then _ else _)=_;rw[oo ⟨rfl,dp⟩];simp
theorem Xo{v:Value}{q:Nat}(h:dbR v=some q):v=bB q:=by
 unfold dbR at h;split at h
 .cases h;rfl
 .grind [aV]
 .cases h
def txR:Value->Option (DataW Unit × List MemPlace)
 |.agg cs=>match cs.toList with
  |[.int .i64 s,.int .u8 a,.int .u8 b,.int .u8 c,.int .u8 d,.int .u8 e,.int .u8 f,.int .u8 g,.int .u8 i,.int .u8 j,.int .u64 z,v]=>(dbR v).map λq:Nat=>(.agg [.lit (.int .i64 s),.lit (.int .u8 a),.lit (.int .u8 b),.lit (.int .u8 c),.lit (.int .u8 d),.lit (.int .u8 e),.lit (.int .u8 f),.lit (.int .u8 g),.lit (.int .u8 i),.lit (.int .u8 j),.lit (.int .u64 z),.lit (.int .i64 (q:Int))],[])
  |_=>none
 |_=>none
noncomputable def EX:Bp fQ where
 R:=txR
 ev:=lz
 el:=λt=>.agg (.lit (.int .i64 (t.state:Int)) :: ((t.parts.map λp:Nat=>.lit (.int .u8 (p:Int)))++[.lit (.int .u64 (t.since:Int)),.lit (.int .i64 (t.aS:Int))]))
 ok:=fQ.Ok
 made:=λt h=>by
  obtain⟨a,b,c,d,e,f,g,i,j,hl⟩:=nine h.1;obtain⟨s,ps,z,q⟩:=t;simp at hl;subst hl;simp[txR,lz,J9,SK]
 inv:=λx t ps ht h=>by
  obtain⟨a',b',c',d',e',f',g',i',j',hl⟩:=nine ht.1;obtain⟨s',ps',z',q'⟩:=t;simp at hl;subst hl;unfold txR at h;split at h
  .rename_i cs;split at h
   .rename_i hc;obtain⟨q,hq,h⟩:=Option.map_eq_some_iff.1 h;have hv:=Xo hq;simp at h;obtain⟨⟨rfl,rfl,rfl,rfl,rfl,rfl,rfl,rfl,rfl,rfl,rfl,eq⟩,_⟩:=h;obtain rfl:q=q':=by omega
    subst hv;show Value.agg cs=Value.agg _;congr 1;exact Array.toList_inj.1 (by rw[hc];rfl)
   .cases h
  .cases h
theorem SL(w:nL):(zeroValue 249).run prog w=.ok (EX.ev OS) w:=eu
theorem Xp(t:fQ)(h:t.Ok)(w:nL):(Instr.field 249 (lz t) 0).run prog w=.ok (.int .i64 (t.state:Int)) w:=by
 obtain⟨s,ps,z,q⟩:=t;obtain⟨a,b,c,d,e,f,g,i,j,rfl⟩:=nine h.1;kernel_rfl
theorem E8(h:k<9):k=0\/k=1\/k=2\/k=3\/k=4\/k=5\/k=6\/k=7\/k=8:=dp
theorem aaH{ps:List Nat}(h:ps.length=9)(l:k<9)(w:nL):(Instr.index 247 (Xm ps)<|.int .i64 (k:Int)).run prog w=.ok (.int .u8 ((ps.getD k 0:Nat):Int)) w:=by
 obtain⟨a,b,c,d,e,f,g,i,j,rfl⟩:=nine h;obtain rfl|rfl|rfl|rfl|rfl|rfl|rfl|rfl|rfl:=E8 l<;>kernel_rfl
end Go.Proofs.YtlgeloebpdmnnaaGreatDoor
