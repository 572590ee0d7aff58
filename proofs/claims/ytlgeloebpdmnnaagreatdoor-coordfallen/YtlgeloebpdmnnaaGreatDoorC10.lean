import Derived.Test.YtlgeloebpdmnnaaGreatDoorC08
import Derived.Test.YtlgeloebpdmnnaaGreatDoorC06
namespace Go.Proofs.YtlgeloebpdmnnaaGreatDoor
open Go.RowKit Go.Maps Tryz Sc
variable{K V:Type}
theorem dV.qV[DecidableEq K]{d t e:TypeId}{KR:qN prog K d}{ER:Bp V}{w:nL}{b n:Nat}{l:List (K×V)}(h:dV KR ER w b n l)(g:Tryz.prog.underlying t=some (.map d e))(hn:n<maxLen){k:K}(a:KR.ok k){v:V}(c:ER.ok v):
  ∃w',(Instr.mapUpdate t (.map<|some b) (KR.kv k)<|ER.ev v).run prog w=.ok () w'/\dV KR ER w' b (n+1) (dt l k v)/\w.grownBy w' (some b):=by
 have⟨es,o,hp,f,Z⟩:=h;have⟨w',r,y,i⟩:=o.store KR.law g hn (KR.key k a)<|ER.made v c;exact⟨w',r,dV.aco hp f Z a c y,i.grown⟩
def eI.Nu(s:eI)(t:Nat)(q:Int)(k v:nS):Nat :=
 if t=0 then 7 else if k.size<1\/16<k.size\/32<v.size then 1 else if (s.eC t).state=3\/q≠((s.eC t).done:Int) then 4 else if (s.eC t).state=2 then 3 else if (s.eC t).state=0/\12<=s.aD.length then 5 else 0
def eI.count(s:eI)(t:Nat):Nat:=(s.holds.filter λp=>decide (p.1.1=t)).length
theorem Py[DecidableEq K]{l:List (K×V)}(h:fM l):(l.map (·.1)).Nodup:=by
 unfold List.Nodup;rw[zv];exact h
def eI.XJ(s:eI)(t:Nat)(k:nS):Nat:=if (bJ s.holds (t,k)).isSome=false/\4<=s.count t then 5 else 0
def eI.refuse(s:eI)(t:Nat)(q:Int)(k v:nS):Nat:=if s.Nu t q k v=0 then s.XJ t k else s.Nu t q k v
section
open Go
variable{a:Act}{z:Nat}{w:nL}
theorem IE{α:Type}{p:α->Bool}{xs:Array α}(h:xs.any p=true):∃x∈xs,p x=true:=by grind
section
variable{P:Program}{ops:Array Oper}{Q I:Exit->Act->nL->Prop}{E:Region.Mode}{S:nL->Prop}
theorem LC(q:∀e a w,e≠.normal->I e a w->Q e a w){i:Nat}{K:Act->nL->Prop}{a:Act}{w:nL}(h:wpOp P ops I i K a w):wpOp P ops Q i K a w:=by
 have l:LetsOut I->LetsOut Q:=λ⟨a,w,h⟩=>⟨a,w,q _ a w dv h⟩
 unfold wpOp at *;split
 .rename_i ho;simp only[ho]at h;exact h
 .rename_i o ho;simp only[ho]at h;split
  .rename_i hw;simp only[hw,if_true]at h;obtain h|⟨h1,h2⟩:=h
   .refine .inl ?_;unfold Oper.wp at *;generalize (execOp a.eval o).run P w=r at *;cases r with
    |ok n w'=>
     cases n<;>simp only[Oper.upon]at h ⊢
     case enter f args=>
      refine Calls.mono h λe d b=>?_
      cases e with
      |returned u=>exact b
      |panicked c=>exact q _ _ _ dv b
      |outgrown=>exact l b
     all_goals exact h
    |halt x w'=>
     cases x<;>simp only[Oper.upon]at h ⊢
     case panic u=>exact q _ _ _ dv h
   .exact .inr ⟨h1,l h2⟩
  .rename_i hw;simp only[hw]at h;exact h
def Nz(P:Program)(ops:Array Oper)(Q:Exit->Act->nL->Prop)(z:Nat):Exit->Act->nL->Prop
 |.normal,a,w=>wpOp P ops Q z (λb w'=>Q .normal b w') a w
 |e,a,w=>Q e a w
theorem lV{z:Nat}{o:Oper}{a:Act}{w:nL}(c:ops[z]?=some o)(g:o.guard=none)(h:o.wp P a w (λb w'=>Q .normal b w') Q):Nz P ops Q z .normal a w:=by
 show wpOp P ops Q z _ a w;unfold wpOp;simp only[c];rw[oo<|by simp[Region.wanted,g]];exact .inl h
theorem IG{z:Nat}(e:Exit)(a:Act)(w:nL)(h:e≠.normal)(q:Nz P ops Q z e a w):Q e a w:=by
 cases e<;>first|exact absurd rfl h|exact q
def Ft(E:Region.Mode)(ops:Array Oper)(z:Nat):Bool :=
 decide (z<ops.size)&&(List.range ops.size).all λi=>match ops[i]? with
  |none=>true
  |some o=>o.after.all (λe=>decide (e.on<i)&&decide (e.on≠z))&&(decide (i≠z)||(List.range ops.size).all λj=>decide (j=z)||o.after.any λe=>Region.binds E e&&(decide (e.on=j)||match ops[e.on]? with
   |none=>false
   |some o'=>o'.after.any λa=>Region.binds E a && decide (a.on=j)))
def NA(E:Region.Mode)(ops:Array Oper)(l:Array Bool):Prop:=∀(i:Nat) (o:Oper),ops[i]?=some o->l.getD i false=true->∀e∈o.after,Region.binds E e=true->l.getD e.on false=true
theorem D4(l:Array Bool)(i j:Nat)(d:Bool)(h:i<l.size):(l.setIfInBounds i true).getD j d=if i=j then true else l.getD j d:=by
 by_cases e:i=j<;>simp_all
theorem LD{z:Nat}(Z:Ft E ops z=true):∀(fuel:Nat) (l:Array Bool) (a:Act) (w:nL),l.size=ops.size->l.getD z true=false->NA E ops l->wpAny P E ops (Nz P ops Q z) fuel (l.setIfInBounds z true) a w->wpAny P E ops Q (fuel+1) l a w:=by
 simp only[Ft,Bool.and_eq_true,decide_eq_true_eq,List.all_eq_true,List.mem_range]at Z;have⟨D,N⟩:=Z;have S:∀(i:Nat) (o:Oper),ops[i]?=some o->∀e∈o.after,e.on<i/\e.on≠z:=λi o f e c=>by
  have:=N i (zza.1 f).1;rw[f]at this;simp only[Bool.and_eq_true,Array.all_eq_true_iff_forall_mem,decide_eq_true_eq]at this;exact this.1 e c
 have T:∀(t:Oper),ops[z]?=some t->∀j,j<ops.size->j≠z->∃e∈t.after,Region.binds E e=true/\(e.on=j\/∃n,ops[e.on]?=some n/\∃m∈n.after,Region.binds E m=true/\m.on=j):=λt f j q r=>by
  have:=N z D;rw[f]at this;simp only[Bool.and_eq_true,Bool.or_eq_true,decide_eq_true_eq,List.all_eq_true,List.mem_range]at this;obtain e|h:=this.2
  .exact absurd rfl e
  .rcases h j q with e|h
   .exact absurd e r
   .obtain⟨e,c,h⟩:=IE h;simp only[Bool.and_eq_true,Bool.or_eq_true,decide_eq_true_eq]at h;refine⟨e,c,h.1,h.2.imp id λh=>?_⟩
    cases y:ops[e.on]? with
    |none=>rw[y]at h;cases h
    |some n=>
     rw[y]at h;have⟨m,A,h⟩:=IE h;simp only[Bool.and_eq_true,decide_eq_true_eq]at h;exact⟨n,rfl,m,A,h.1,h.2⟩
 have O:∀{l:Array Bool} {j:Nat},j<l.size->l.getD j false=true->l.getD j true≠false:=λ{l j} q p x=>by
  simp[Array.getD,q]at p x;rw[p]at x;cases x
 have some_:∀(l:Array Bool),l.size=ops.size->∀k,k<ops.size->l.getD k true=false->∃i,i∈Region.ready E ops l:=λl d k=>by
  induction k using Nat.strongRecOn with
  |_ k ihk=>
  intro g a7;by_cases hp:∀e∈(ops[k]'(g)).after,Region.binds E e=true->l.getD e.on false=true
  .exact⟨k,mem_ready.2 ⟨a7,_,Cq g,hp⟩⟩
  .simp only[Classical.not_forall]at hp;have⟨e,c,hb,I⟩:=hp;have W:=(S k _ (Cq g) e c).1;apply ihk e.on W dp;have:e.on<l.size:=dp
   simp[Array.getD,this]at I ⊢;exact I
 have U:∀(l:Array Bool),l.size=ops.size->NA E ops l->z∈Region.ready E ops l->Region.ready E ops (l.setIfInBounds z true)=[]:=λl d M C=>by
  have⟨s,t,a1,K⟩:=mem_ready.1 C;rw[List.eq_nil_iff_forall_not_mem];intro j q;obtain⟨u,oj,Y,-⟩:=mem_ready.1 q;have X:=(zza.1 Y).1;rw[D4 l z j true dp]at u;by_cases r:z=j
  .rw[oo r]at u;cases u
  .rw[mE r]at u;have⟨e,c,hb,h⟩:=T t a1 j X λe=>r e.symm;have p:=K e c hb;obtain h|⟨n,y,m,A,CY,h⟩:=h
   .subst h;exact O dp p u
   .have:=M e.on n y p m A CY;rw[h]at this;exact O dp this u
 have V:∀(l:Array Bool) (i:Nat),l.size=ops.size->NA E ops l->i∈Region.ready E ops l->NA E ops (l.setIfInBounds i true):=λl i d M C k o f g e c hb=>by
  have⟨hu,oi,L,K⟩:=mem_ready.1 C;have LF:=(zza.1 L).1;rw[D4 l i _ false dp]at g ⊢;by_cases F:i=e.on
  .rw[oo F]
  .rw[mE F];by_cases G:i=k
   .subst G;rw[L]at f;cases f;exact K e c hb
   .rw[mE G]at g;exact M k o f g e c hb
 intro fuel;induction fuel with
 |zero=>
  intro l a w d s J H;refine⟨λh=>?_,λi b=>?_⟩
  .obtain⟨i,b⟩:=some_ l d z D s;rw[h]at b;cases b
  .by_cases e:i=z
   .subst e;exact wpOp_mono (λv w' B=>⟨H.1,B⟩) H.2
   .have:=ready_mono b e;rw[H.1]at this;cases this
 |succ fuel ih=>
  intro l a w d s J H;refine⟨λh=>?_,λi b=>?_⟩
  .obtain⟨i,b⟩:=some_ l d z D s;rw[h]at b;cases b
  .by_cases e:i=z
   .subst e;have R:=U l d J b;exact wpOp_mono (λv w' B=>⟨λ_=>B,by rw[R];simp⟩)<|H.1 R
   .refine wpOp_mono (λv w' h=>?_)<|LC IG<|H.2 i<|ready_mono b e;refine ih (l.setIfInBounds i true) v w' (by simpa using d) ?_ (V l i d J b) ?_
    .rw[getD_set_ne true e];exact s
    .rw[Array.setIfInBounds_comm _ _ e];exact h
theorem eX{id z f:Nat}{a:Act}{w:nL}(m:P.follows .mixedOrders=true)(hf:ops.size=f+1)(Z:Ft .any ops z=true)(c:S w.drew)
  (h:S w.drew->wpAnyH P .any ops (Nz P ops Q z) S f ((Array.replicate ops.size false).setIfInBounds z true) a w.drew):(Code.region id ops true).wp P Q a w:=by
 apply wp_region_any m;have d:z<ops.size:=by
  have:=Z;simp only[Ft,Bool.and_eq_true,decide_eq_true_eq]at this;exact this.1
 have:=LD Z f (Array.replicate ops.size false) a w.drew dv (by simp[Array.getD,d]) (λi o _ b=>by
  exfalso;by_cases s:i<ops.size
  .simp[Array.getD,s]at b
  .simp[Array.getD,s]at b) (wpAny_of_held _ _ _ _ (h c))
 rw[<-hf]at this;exact this
end
end
end Go.Proofs.YtlgeloebpdmnnaaGreatDoor
