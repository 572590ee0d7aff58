import Derived.Test.YtcalalndmcemiaaGreatDoorC01
namespace Go.Proofs.YtcalalndmcemiaaGreatDoor
open Go.RowKit Go.Maps Tryz
section
open Go
variable{a:Act}{z:Nat}{w:World}
theorem FU{α:Type}{p:α->Bool}{xs:Array α}(h:xs.any p=true):∃x∈xs,p x=true:=by
 rw[<-Array.any_toList,List.any_eq_true]at h;have⟨x,b,a⟩:=h;exact⟨x,by simpa using b,a⟩
section
variable{P:Program}{ops:Array Oper}{Q G:Exit->Act->World->Prop}{E:Region.Mode}{S:World->Prop}
theorem I8(q:∀e a w,e≠.normal->G e a w->Q e a w){i:Nat}{K:Act->World->Prop}{a:Act}{w:World}(h:wpOp P ops G i K a w):wpOp P ops Q i K a w:=by
 have l:LetsOut G->LetsOut Q:=λ⟨a,w,h⟩=>⟨a,w,q _ a w bR h⟩
 unfold wpOp at *;split
 .rename_i ho;simp only[ho]at h;exact h
 .rename_i o ho;simp only[ho]at h;split
  .rename_i hw;simp only[hw,if_true]at h;obtain h|⟨h1,h2⟩:=h
   .refine .inl ?_;unfold Oper.wp at *;generalize (execOp a.eval o).run P w=r at *;cases r with
    |ok n w'=>
     cases n<;>simp only[Oper.upon]at h ⊢
     case enter f args=>
      refine Calls.mono h λe d b=>?_
      cases e with
      |returned u=>exact b
      |panicked c=>exact q _ _ _ bR b
      |outgrown=>exact l b
     all_goals exact h
    |halt x w'=>
     cases x<;>simp only[Oper.upon]at h ⊢
     case panic u=>exact q _ _ _ bR h
   .exact .inr ⟨h1,l h2⟩
  .rename_i hw;simp only[hw]at h;exact h
def Ks(P:Program)(ops:Array Oper)(Q:Exit->Act->World->Prop)(z:Nat):Exit->Act->World->Prop
 |.normal,a,w=>wpOp P ops Q z (λb w'=>Q .normal b w') a w
 |e,a,w=>Q e a w
theorem zq{z:Nat}{o:Oper}{a:Act}{w:World}(c:ops[z]?=some o)(g:o.guard=none)(h:o.wp P a w (λb w'=>Q .normal b w') Q):Ks P ops Q z .normal a w:=by
 show wpOp P ops Q z _ a w;unfold wpOp;simp only[c];rw[if_pos<|by simp[Region.wanted,g]];exact .inl h
theorem FV{z:Nat}(e:Exit)(a:Act)(w:World)(h:e≠.normal)(q:Ks P ops Q z e a w):Q e a w:=by
 cases e<;>first|exact absurd rfl h|exact q
def Dk(E:Region.Mode)(ops:Array Oper)(z:Nat):Bool :=
 decide (z<ops.size)&&(List.range ops.size).all λi=>match ops[i]? with
  |none=>true
  |some o=>o.after.all (λe=>decide (e.on<i)&&decide (e.on≠z))&&(decide (i≠z)||(List.range ops.size).all λj=>decide (j=z)||o.after.any λe=>Region.binds E e&&(decide (e.on=j)||match ops[e.on]? with
   |none=>false
   |some o'=>o'.after.any λa=>Region.binds E a && decide (a.on=j)))
def Kt(E:Region.Mode)(ops:Array Oper)(l:Array Bool):Prop:=∀(i:Nat) (o:Oper),ops[i]?=some o->l.getD i false=true->∀e∈o.after,Region.binds E e=true->l.getD e.on false=true
theorem BO(l:Array Bool)(i j:Nat)(d:Bool)(h:i<l.size):(l.setIfInBounds i true).getD j d=if i=j then true else l.getD j d:=by
 by_cases e:i=j
 .subst e;simp[Array.getD,h]
 .rw[if_neg e,getD_set_ne d e]
theorem I9{z:Nat}(G:Dk E ops z=true):∀(fuel:Nat) (l:Array Bool) (a:Act) (w:World),l.size=ops.size->l.getD z true=false->Kt E ops l->wpAny P E ops (Ks P ops Q z) fuel (l.setIfInBounds z true) a w->wpAny P E ops Q (fuel+1) l a w:=by
 simp only[Dk,Bool.and_eq_true,decide_eq_true_eq,List.all_eq_true,List.mem_range]at G;have⟨F,W⟩:=G;have V:∀(i:Nat) (o:Oper),ops[i]?=some o->∀e∈o.after,e.on<i/\e.on≠z:=λi o f e c=>by
  have:=W i (zza.1 f).1;rw[f]at this;simp only[Bool.and_eq_true,Array.all_eq_true_iff_forall_mem,decide_eq_true_eq]at this;exact this.1 e c
 have S:∀(t:Oper),ops[z]?=some t->∀j,j<ops.size->j≠z->∃e∈t.after,Region.binds E e=true/\(e.on=j\/∃n,ops[e.on]?=some n/\∃m∈n.after,Region.binds E m=true/\m.on=j):=λt f j q r=>by
  have:=W z F;rw[f]at this;simp only[Bool.and_eq_true,Bool.or_eq_true,decide_eq_true_eq,List.all_eq_true,List.mem_range]at this;obtain e|h:=this.2
  .exact absurd rfl e
  .rcases h j q with e|h
   .exact absurd e r
   .obtain⟨e,c,h⟩:=FU h;simp only[Bool.and_eq_true,Bool.or_eq_true,decide_eq_true_eq]at h;refine⟨e,c,h.1,h.2.imp id λh=>?_⟩
    cases u:ops[e.on]? with
    |none=>rw[u]at h;cases h
    |some n=>
     rw[u]at h;have⟨m,A,h⟩:=FU h;simp only[Bool.and_eq_true,decide_eq_true_eq]at h;exact⟨n,rfl,m,A,h.1,h.2⟩
 have R:∀{l:Array Bool} {j:Nat},j<l.size->l.getD j false=true->l.getD j true≠false:=λ{l j} q p y=>by
  simp[Array.getD,q]at p y;rw[p]at y;cases y
 have some_:∀(l:Array Bool),l.size=ops.size->∀k,k<ops.size->l.getD k true=false->∃i,i∈Region.ready E ops l:=λl d k=>by
  induction k using Nat.strongRecOn with
  |_ k ihk=>
  intro g a7;by_cases B:∀e∈(ops[k]'(g)).after,Region.binds E e=true->l.getD e.on false=true
  .exact⟨k,mem_ready.2 ⟨a7,_,Array.getElem?_eq_getElem g,B⟩⟩
  .simp only[Classical.not_forall]at B;have⟨e,c,hb,L⟩:=B;have X:=(V k _ (Array.getElem?_eq_getElem g) e c).1;apply ihk e.on X bL;have:e.on<l.size:=bL
   simp[Array.getD,this]at L ⊢;exact L
 have T:∀(l:Array Bool),l.size=ops.size->Kt E ops l->z∈Region.ready E ops l->Region.ready E ops (l.setIfInBounds z true)=[]:=λl d N D=>by
  have⟨s,t,a6,v⟩:=mem_ready.1 D;rw[List.eq_nil_iff_forall_not_mem];intro j q;obtain⟨Z,oj,a1,-⟩:=mem_ready.1 q;have Y:=(zza.1 a1).1;rw[BO l z j true bL]at Z;by_cases r:z=j
  .rw[if_pos r]at Z;cases Z
  .rw[if_neg r]at Z;have⟨e,c,hb,h⟩:=S t a6 j Y λe=>r e.symm;have p:=v e c hb;obtain h|⟨n,u,m,A,iA,h⟩:=h
   .subst h;exact R bL p Z
   .have:=N e.on n u p m A iA;rw[h]at this;exact R bL this Z
 have U:∀(l:Array Bool) (i:Nat),l.size=ops.size->Kt E ops l->i∈Region.ready E ops l->Kt E ops (l.setIfInBounds i true):=λl i d N D k o f g e c hb=>by
  have⟨hu,oi,O,v⟩:=mem_ready.1 D;have a8:=(zza.1 O).1;rw[BO l i _ false bL]at g ⊢;by_cases I:i=e.on
  .rw[if_pos I]
  .rw[if_neg I];by_cases J:i=k
   .subst J;rw[O]at f;cases f;exact v e c hb
   .rw[if_neg J]at g;exact N k o f g e c hb
 intro fuel;induction fuel with
 |zero=>
  intro l a w d s K H;refine⟨λh=>?_,λi b=>?_⟩
  .obtain⟨i,b⟩:=some_ l d z F s;rw[h]at b;cases b
  .by_cases e:i=z
   .subst e;exact wpOp_mono (λx w' C=>⟨H.1,C⟩) H.2
   .have:=ready_mono b e;rw[H.1]at this;cases this
 |succ fuel ih=>
  intro l a w d s K H;refine⟨λh=>?_,λi b=>?_⟩
  .obtain⟨i,b⟩:=some_ l d z F s;rw[h]at b;cases b
  .by_cases e:i=z
   .subst e;have M:=T l d K b;exact wpOp_mono (λx w' C=>⟨λ_=>C,by rw[M];simp⟩)<|H.1 M
   .refine wpOp_mono (λx w' h=>?_)<|I8 FV<|H.2 i<|ready_mono b e;refine ih (l.setIfInBounds i true) x w' (by simpa using d) ?_ (U l i d K b) ?_
    .rw[getD_set_ne true e];exact s
    .rw[Array.setIfInBounds_comm _ _ e];exact h
theorem zr{id z f:Nat}{a:Act}{w:World}(m:P.follows .mixedOrders=true)(hf:ops.size=f+1)(B:Dk .any ops z=true)(c:S w.drew)
  (h:S w.drew->wpAnyH P .any ops (Ks P ops Q z) S f ((Array.replicate ops.size false).setIfInBounds z true) a w.drew):(Code.region id ops true).wp P Q a w:=by
 apply wp_region_any m;have s:z<ops.size:=by
  have:=B;simp only[Dk,Bool.and_eq_true,decide_eq_true_eq]at this;exact this.1
 have:=I9 B f (Array.replicate ops.size false) a w.drew bR (by simp[Array.getD,s]) (λi o _ b=>by
  exfalso;by_cases hs:i<ops.size
  .simp[Array.getD,hs]at b
  .simp[Array.getD,hs]at b) (wpAny_of_held _ _ _ _ (h c))
 rw[<-hf]at this;exact this
end
end
end Go.Proofs.YtcalalndmcemiaaGreatDoor
