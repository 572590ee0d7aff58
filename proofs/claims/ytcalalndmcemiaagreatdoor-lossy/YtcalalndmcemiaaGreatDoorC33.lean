import Derived.Test.YtcalalndmcemiaaGreatDoorC31
namespace Go.Proofs.YtcalalndmcemiaaGreatDoor
open Go.RowKit Go.Maps Tryz Sc
variable{L S:List Nat}{out:List bt}{B E K a i:Nat}{w w':World}{c:aU}
structure xu(B:Nat)(w w':World):Prop where
 below:Below B w w'
 cells:∀(k:Nat) (c:Array Value) (t:TypeId) (fr:Nat × Nat),w.heap[k]?=some (.cells c t fr)->¬bo t->w'.heap[k]?=some (.cells c t fr)
theorem xu.trans{a b c:World}(h:xu B a b)(k:xu B b c):xu B a c:=⟨h.below.trans k.below,λi x t fr e d=>k.cells i x t fr (h.cells i x t fr e d) d⟩
theorem xu.new(h:Fr [] w w')(b:B<=w.heap.size):xu B w w':=⟨h.below b bR,λk _ _ _ a _=>(h.block k (zza.1 a).1 bR).trans a⟩
theorem xu.of(h:Fr L w w')(d:B<=w.heap.size)(b:∀k∈L,B<=k/\fU w.heap[k]?):xu B w w':=
 ⟨h.below d λk a=>(b k a).1,λk c t fr a e=>(h.block k (zza.1 a).1 λm=>e<|by have:=(b k m).2;rw[a]at this;exact this.not).trans a⟩
def oV(w:World)(S:List Nat):Prop:=∀k∈S,k<w.heap.size->∃c t fr,w.heap[k]?=some (.cells c t fr)/\¬bo t/\(t=9->2<=c.size)
theorem oV.nil(w:World):oV w []:=λk h=>by cases h
theorem oV.one{k:Nat}{c:Array Value}{t:TypeId}{fr:Nat×Nat}(h:w.heap[k]?=some (.cells c t fr))(b:¬bo t)(hs:t≠9):oV w [k]:=λj a _=>by
 simp at a;subst a;exact⟨c,t,fr,h,b,λe=>absurd e hs⟩
theorem oV.Fm(h:oV w S)(d:∀k∈L,fU w.heap[k]?):∀k∈S,k<w.heap.size->k∉L/\∀t,w.heap[k]?≠some (dV t):=λk f l=>by
 have⟨c,t,fr,e,g,hs⟩:=h k f l;refine⟨λm=>g<|by have:=d k m;rw[e]at this;exact this.not,λu b=>?_⟩;rw[e]at b;have:=Option.some.inj b;simp only[Obj.cells.injEq]at this;have a:=hs this.2.1;rw[this.1]at a;simp at a
theorem dh.mono{s:ag}(h:dh w B i a s out K L)(k:K<=E):dh w B i a s out E L:=by
 obtain⟨f,p,j,g,V,T,H,e,D,N,m,n,l,d,v,b,c,o,rfl⟩:=h;exact⟨f,p,j,g,V,T,H,e,D,N,m,n,l,d,v,b,c,bL,rfl⟩
theorem cT.mono(h:cT w B a c out K L)(k:K<=E):cT w B a c out E L:=by
 obtain⟨j,p,b,g,T,i,D,N,m,n,l,d,v,e,f,o,rfl⟩:=h;exact⟨j,p,b,g,T,i,D,N,m,n,l,d,v,e,f,bL,rfl⟩
theorem cN.mono(h:cN K c)(a:K<=E):cN E c:=⟨h.once,h.len,by have:=h.fB;omega,h.xt⟩
structure jI(w:World)(B:Nat)(az:List Nat)(c:aU)(co:List bt)(ss:List (ag × List bt))(K:Nat)(Ls:List (List Nat)):Prop where
 len:az.length=ss.length+1/\Ls.length=ss.length+1
 base:B<=w.heap.size
 co:∃hp L,az[0]?=some hp/\Ls[0]?=some L/\cT w B hp c co K L
 cg:cN K c
 sh:∀i s,ss[i]?=some s->∃hp L,az[i+1]?=some hp/\Ls[i+1]?=some L/\dh w B (i+1) hp s.1 s.2 K L/\cz K s.1
 zK:Ls.Pairwise λa b=>∀k∈a,k∉b
section
variable{w w':World}{B K E:Nat}{az:List Nat}{c c':aU}{co G:List bt}{ss:List (ag × List bt)}{Ls:List (List Nat)}
theorem jI.obj(h:jI w B az c co ss K Ls){i:Nat}{L:List Nat}(b:Ls[i]?=some L):∀k∈L,B<=k/\fU w.heap[k]?:=by
 cases i with
 |zero=>
  obtain⟨p,d,-,e,a⟩:=h.co;rw[b]at e;cases e;exact a.obj
 |succ i=>
  have f:i<ss.length:=by have:=(zzd.1 b).1;have:=h.len.2;omega
  obtain⟨p,d,-,e,a,-⟩:=h.sh i _<|zzg f;rw[b]at e
  cases e;exact a.obj
theorem jI.apart(h:jI w B az c co ss K Ls){i j:Nat}{L M:List Nat}(a:Ls[i]?=some L)(b:Ls[j]?=some M)(J:i≠j):∀k∈L,k∉M:=by
 have y:∀(i j:Nat) (L M:List Nat),Ls[i]?=some L->Ls[j]?=some M->i<j->∀k∈L,k∉M:=λi j L M a b J=>by
  have:=List.pairwise_iff_getElem.1 h.zK i j (zzd.1 a).1 (zzd.1 b).1 J;rw[(zzd.1 a).2,(zzd.1 b).2]at this;exact this
 obtain e|e:=Nat.lt_or_gt_of_ne J
 .exact y i j L M a b e
 .exact λk d m=>y j i M L b a e k m d
theorem jI.law{S:List Nat}(h:jI w B az c co ss K Ls)(hf:Fr S w w')(b:oV w S):jI w' B az c co ss K Ls:=by
 refine⟨h.len,zzk h.base hf.size,?_,h.cg,λi s hs=>?_,h.zK⟩
 .obtain⟨hp,L,e1,e2,h1⟩:=h.co;exact⟨hp,L,e1,e2,h1.apart hf<|b.Fm λk a=>(h1.obj k a).2⟩
 .obtain⟨hp,L,e1,e2,h1,h2⟩:=h.sh i s hs;exact⟨hp,L,e1,e2,h1.apart hf<|b.Fm λk a=>(h1.obj k a).2,h2⟩
theorem jI.new(h:jI w B az c co ss K Ls)(hf:Fr [] w w'):jI w' B az c co ss K Ls:=h.law hf<|oV.nil w
theorem jI.mono(h:jI w B az c co ss K Ls)(a:K<=E):jI w B az c co ss E Ls:=by
 refine⟨h.len,h.base,?_,h.cg.mono a,λi s hs=>?_,h.zK⟩
 .obtain⟨hp,L,e1,e2,h1⟩:=h.co;exact⟨hp,L,e1,e2,h1.mono a⟩
 .obtain⟨hp,L,e1,e2,h1,h2⟩:=h.sh i s hs;exact⟨hp,L,e1,e2,h1.mono a,h2.mono a⟩
theorem Kb{Ls:List (List Nat)}{i:Nat}{L l:List Nat}{n:Nat}(h:Ls.Pairwise λa b=>∀k∈a,k∉b)(p:Ls[i]?=some L)(G:∀k,k<n->k∈l->k∈L)(U:∀M∈Ls,∀k∈M,k<n):(Ls.set i l).Pairwise λa b=>∀k∈a,k∉b:=by
 rw[List.pairwise_iff_getElem]at h ⊢;intro a b d hb C;rw[List.length_set]at d hb;have f:=zzd.1 p;have⟨f,o⟩:=f;rw[List.getElem_set,List.getElem_set];split
 .rename_i e;subst e;rw[if_neg bL];intro k g m;have j:=U _ (List.getElem_mem hb) k m;have c:=h i b f hb C;rw[o]at c;exact c k (G k j g) m
 .split
  .rename_i e;subst e;intro k g m;have j:=U _ (List.getElem_mem d) k g;have c:=h a i d f C;rw[o]at c;exact c k g<|G k j m
  .exact h a b d hb C
theorem jI.lt(h:jI w B az c co ss K Ls):∀M∈Ls,∀k∈M,k<w.heap.size:=λM a k d=>by
 have⟨i,b,e⟩:=List.getElem_of_mem a;exact(h.obj (by rw[zzg b,e]) k d).2.lt
theorem jI.jg(h:jI w B az c co ss K Ls){i:Nat}{s:ag×List bt}(hs:ss[i]?=some s):∃p L,az[i+1]?=some p/\dh w B (i+1) p s.1 s.2 K L/\cz K s.1 /\
  ∀{w':World} {s':ag×List bt} {E:Nat} {b:List Nat},K<=E->dh w' B (i+1) p s'.1 s'.2 E b->cz E s'.1->jk L b w w'->(∃r,jI w' B az c co (ss.set i s') E r)/\xu B w w'/\∃L∈Ls,Fr L w w':=by
 have⟨p,L,o,a,x,y⟩:=h.sh i s hs;refine⟨p,L,o,x,y,λ{w' s' E b} z hn A hf=>⟨⟨Ls.set (i+1) b,?_⟩,xu.of hf.fr h.base<|h.obj a,L,zzh a,hf.fr⟩⟩;have u:=(zzd.1 hs).1;have n:=h.mono z;refine⟨by rw[List.length_set,List.length_set];exact h.len,zzk h.base hf.fr.size,?_,n.cg,λj t g=>?_,Kb h.zK a hf.stay h.lt⟩
 .obtain⟨q,M,l,d,m⟩:=n.co;refine⟨q,M,l,by rw[List.getElem?_set_ne bL];exact d,m.apart hf.fr λk f C=>⟨h.apart a d bL k f,(h.obj a k f).2.text⟩⟩
 .by_cases e:i=j
  .subst e;rw[List.getElem?_set_self u]at g;cases g;exact⟨p,b,o,by rw[List.getElem?_set_self (zzd.1 a).1],hn,A⟩
  .rw[List.getElem?_set_ne e]at g;have⟨q,M,l,d,m,v⟩:=n.sh j t g;exact⟨q,M,l,by rw[List.getElem?_set_ne bL];exact d,m.apart hf.fr λk f C=>⟨h.apart a d bL k f,(h.obj a k f).2.text⟩,v⟩
theorem jI.qA(h:jI w B az c co ss K Ls):∃p L,az[0]?=some p/\cT w B p c co K L /\
  ∀{w':World} {c':aU} {G:List bt} {E:Nat} {a:List Nat},K<=E->cT w' B p c' G E a->cN E c'->jk L a w w'->(∃r,jI w' B az c' G ss E r)/\xu B w w'/\∃L∈Ls,Fr L w w':=by
 have⟨p,L,d,e,m⟩:=h.co;refine⟨p,L,d,m,λ{w' c' G E a} n hn o hf=>⟨⟨Ls.set 0 a,?_⟩,xu.of hf.fr h.base<|h.obj e,L,zzh e,hf.fr⟩⟩;have q:=h.mono n;refine⟨by rw[List.length_set];exact h.len,zzk h.base hf.fr.size,⟨p,a,d,by rw[List.getElem?_set_self (zzd.1 e).1],hn⟩,o,λj t u=>?_,Kb h.zK e hf.stay h.lt⟩;have⟨s,M,g,b,i,l⟩:=q.sh j t u;exact⟨s,M,g,by rw[List.getElem?_set_ne bL];exact b,i.apart hf.fr λk f v=>⟨h.apart e b bL k f,(h.obj e k f).2.text⟩,l⟩
end
end Go.Proofs.YtcalalndmcemiaaGreatDoor
