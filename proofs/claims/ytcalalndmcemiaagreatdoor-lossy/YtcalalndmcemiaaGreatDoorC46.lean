import Derived.Test.YtcalalndmcemiaaGreatDoorC43
namespace Go.Proofs.YtcalalndmcemiaaGreatDoor
open Go.RowKit Go.Maps Tryz Sc
variable{D l ord ps:List Nat}{ds:List aS}{b new:List bt}{i k st t w wh:Nat}{A A' a:aB}{g:aK}{x x' y:aS}{c c' c1:aU}{s:ag}{m:bt}{T:fe}
def C7(st:Nat)(x:aS):Prop:=(st=4/\x.asked=false/\x.what=0)\/(st=5/\x.asked=true/\x.what=0)\/(st=6/\x.asked=true/\x.what=5)\/(st=0/\(x.what=6\/x.what=5/\x.asked=true))
def wY(T:fe)(k st:Nat)(x:aS):Prop :=
 (st=1->0<x.seq.getD k 0/\(x.asked=true->T.state=5/\T.parts.getD k 0=1\/x.what=6)) /\
 (st=2->x.lost=true) /\
 (st=3->x.asked=true/\(T.state=5/\(T.parts.getD k 0=1\/T.parts.getD k 0=2)\/T.state=6/\T.parts.getD k 0=2\/x.what=6))
def sU(T:fe)(st:Nat)(x:aS)(m:bt):Prop :=
 (m.kind=1->x.asked=true)/\(m.kind=2->x.asked=true/\st≠1)/\(m.kind=4->x.asked=true/\st=0)/\(m.kind=5->x.what=5)/\(m.kind=6->x.what=6\/x.what=5/\T.state=0)/\(m.kind=7->x.what=5/\st=0)
def aB.mF(A:aB)(i t:Nat):Nat:=(A.ss[i]?.map λs=>(s.1.aP t).state).getD 0
def aB.all(A:aB):List bt:=A.bC++(A.co++cY A.c.out)++A.ss.flatMap (·.2)
structure Jv(A:aB):Prop where
 ids:∀(j:Nat) (x:aS),A.ds[j]?=some x->x.id=j+1
 Nf:A.c.next=A.ds.length+1
 own:∀t,(A.c.tx t).state≠0->1<=t/\t<=A.ds.length
 st:∀(j:Nat) (x:aS),A.ds[j]?=some x->C7 (A.c.tx (j+1)).state x/\(x.asked=true->x.lost=false)/\x.seq.length=A.ss.length+1
 sh:∀i t,A.mF i t≠0->1<=t/\∃x,A.ds[t-1]?=some x/\wY (A.c.tx t) (i+1) (A.mF i t) x
 ms:∀m∈A.all,m.Ok/\m.src<=A.ss.length/\m.dst<=A.ss.length/\∃x,A.ds[m.aP-1]?=some x/\sU (A.c.tx m.aP) (A.mF (m.src-1) m.aP) x m
 ZA:∀(i:Nat) (s:ag × List bt),A.ss[i]?=some s->∀p∈s.1.holds,p.2.way=1->∃x,A.ds[p.1.1-1]?=some x/\(i+1,p.1.2,p.2.val)∈x.writes
 val:∀(i:Nat) (s:ag × List bt),A.ss[i]?=some s->∀y∈s.1.aM,eK A.ds A.ord (i+1,y.1,y.2)=true
 ord:(∀(j:Nat) (x:aS),A.ds[j]?=some x->x.what=5->j∈A.ord)/\(∀j∈A.ord,∃x,A.ds[j]?=some x/\x.what=5)/\A.ord.Nodup
 BG:∀t k,((A.c.tx t).parts.getD k 0≠0->1<=k/\k<=A.ss.length)/\((A.c.tx t).parts.getD k 0=1->(A.c.tx t).state=5)
 res:A.c.res=[]
theorem Jv.at_(h:Jv A)(W:1<=t)(l:A.ds[t-1]?=some x)(v:A'.ds=A.ds.set (t-1) x')(o:∀u,u≠t->A'.c.tx u=A.c.tx u)(z:A'.ss.length=A.ss.length)(E:∀i u,u≠t->A'.mF i u=A.mF i u)(M:A'.c.next=A.c.next)
  (Q:x'.id=x.id) (J:C7 (A'.c.tx t).state x') (G:(x'.asked=true->x'.lost=false)/\x'.seq.length=x.seq.length) (K:∀i,A'.mF i t≠0->wY (A'.c.tx t) (i+1) (A'.mF i t) x')
  (wO:∀m∈A'.all,m∈A.all/\(m.aP=t->sU (A'.c.tx t) (A'.mF (m.src-1) t) x' m)\/m.aP=t/\m.Ok/\m.src<=A.ss.length/\m.dst<=A.ss.length/\sU (A'.c.tx t) (A'.mF (m.src-1) t) x' m)
  (P:∀(i:Nat) (s':ag×List bt),A'.ss[i]?=some s'->∀p∈s'.1.holds,p.2.way=1->(∃s,A.ss[i]?=some s/\p∈s.1.holds)\/p.1.1=t/\(i+1,p.1.2,p.2.val)∈x'.writes) (Y:∀y∈x.writes,y∈x'.writes)
  (X:∀(i:Nat) (s':ag×List bt),A'.ss[i]?=some s'->∀y∈s'.1.aM,eK A'.ds A'.ord (i+1,y.1,y.2)=true)
  (S:A'.ord=A.ord/\(x'.what=5↔x.what=5)\/A'.ord=A.ord++[t-1]/\x.what=0/\x'.what=5) (D:∀k,((A'.c.tx t).parts.getD k 0≠0->1<=k/\k<=A.ss.length)/\((A'.c.tx t).parts.getD k 0=1->(A'.c.tx t).state=5)) (T:A'.c.res=[]):Jv A':=by
 have U:=(zzd.1 l).1;have L:A'.ds[t-1]?=some x':=by rw[v];exact List.getElem?_set_self U
 have w:∀j,j≠t-1->A'.ds[j]?=A.ds[j]?:=λj c=>by rw[v];exact List.getElem?_set_ne λe=>c e.symm
 have len:A'.ds.length=A.ds.length:=by rw[v,List.length_set]
 refine⟨λj y c=>?_,by rw[M,h.Nf,len],λu n=>?_,λj y c=>?_,λi u n=>?_,λm R=>?_,λi s' Z p D I=>?_,X,?_,λu k=>?_,T⟩
 .by_cases e:j=t-1
  .subst e;rw[L]at c;cases c;rw[Q];exact h.ids _ x l
  .rw[w j e]at c;exact h.ids j y c
 .rw[len];by_cases e:u=t
  .subst e;omega
  .rw[o u e]at n;exact h.own u n
 .rw[z];by_cases e:j=t-1
  .subst e;rw[L]at c;cases c;have:=(h.st _ x l).2.2;rw[show t-1+1=t by omega];exact⟨J,G.1,by rw[G.2];exact this⟩
  .rw[w j e]at c;have:=h.st j y c;rw[o (j+1) bL];exact this
 .by_cases e:u=t
  .subst e;exact⟨W,x',L,K i n⟩
  .rw[E i u e]at n ⊢;have⟨g,y,d,hs⟩:=h.sh i u n;exact⟨g,y,by rw[w (u-1) bL];exact d,by rw[o u e];exact hs⟩
 .rw[z];rcases wO m R with⟨tC,C⟩|⟨rfl,g,q,r,N⟩
  .obtain⟨g,q,r,y,d,hs⟩:=h.ms m tC;by_cases e:m.aP=t
   .rw[e];exact⟨g,q,r,x',L,C e⟩
   .have Eb:m.aP≠0:=λe0=>by
     have:=g.sound;unfold eX at this;simp at this;omega
    exact⟨g,q,r,y,by rw[w _ bL];exact d,by rw[o _ e,E _ _ e];exact hs⟩
  .exact⟨g,q,r,x',L,N⟩
 .rcases P i s' Z p D I with⟨s,hs,V⟩|⟨e,V⟩
  .obtain⟨y,d,hyw⟩:=h.ZA i s hs p V I;by_cases e:p.1.1-1=t-1
   .rw[e]at d ⊢;rw[l]at d;cases d;exact⟨x',L,Y _ hyw⟩
   .exact⟨y,by rw[w _ e];exact d,hyw⟩
  .rw[e];exact⟨x',L,V⟩
 .have keep:∀j∈A.ord,(x.what=5->x'.what=5)->∃y,A'.ds[j]?=some y/\y.what=5:=λj c C=>by
   have⟨y,d,f⟩:=h.ord.2.1 j c;by_cases e:j=t-1
   .subst e;rw[l]at d;cases d;exact⟨x',L,C f⟩
   .exact⟨y,by rw[w j e];exact d,f⟩
  rcases S with⟨B,H⟩|⟨B,h0,F⟩
  .rw[B];refine⟨λj y c f=>?_,λj c=>keep j c H.2,h.ord.2.2⟩;by_cases e:j=t-1
   .subst e;rw[L]at c;cases c;exact h.ord.1 _ x l<|H.1 f
   .rw[w j e]at c;exact h.ord.1 j y c f
  .rw[B];refine⟨λj y c f=>?_,λj c=>?_,?_⟩
   .by_cases e:j=t-1
    .subst e;simp
    .rw[w j e]at c;exact List.mem_append_left _<|h.ord.1 j y c f
   .rcases zzo.1 c with e|e
    .exact keep j e λ_=>F
    .simp at e;subst e;exact⟨x',L,F⟩
   .rw[List.nodup_append];refine⟨h.ord.2.2,bR,λa O b hb e=>?_⟩;simp at hb;subst hb e;have⟨y,d,f⟩:=h.ord.2.1 _ O;rw[l]at d
    cases d;omega
 .rw[z];by_cases e:u=t
  .subst e;exact D k
  .rw[o u e];exact h.BG u k
theorem um(c:aU)(t u:Nat)(T:fe):({ c with ai:=aV c.ai t T }:aU).tx u=if u=t then T else c.tx u:=by
 unfold aU.tx aV ak;rw[List.find?_cons];by_cases e:u=t
 .subst e;simp
 .rw[if_neg e];simp only[show ¬t=u from λb=>e b.symm,decide_false];congr 2;unfold aT;rw[List.find?_filter];congr 1;funext p;by_cases a:p.1=u
  .simp[a,e]
  .simp[a]
theorem vF(c:aU)(t u:Nat):({ c with ai:=aT c.ai t }:aU).tx u=if u=t then A0 else c.tx u:=by
 unfold aU.tx aT ak;rw[List.find?_filter];by_cases e:u=t
 .subst e;rw[if_pos rfl];rw[List.find?_eq_none.2 (λp _=>by by_cases e:p.1=u<;>simp[e])];rfl
 .rw[if_neg e];congr 3;funext p;by_cases a:p.1=u
  .simp[a,e]
  .simp[a]
theorem rq{q:Nat->Bool}:k∈dK q ps↔k<9/\q (ps.getD k 0)=true:=by
 unfold dK iN;rw[zzp,List.mem_range]
theorem IH(xs:List Nat)(k:Nat):∀ps:List Nat,(xs.foldl (λps x=>ps.set x 1) ps).getD k 0=if k∈xs/\k<ps.length then 1 else ps.getD k 0:=by
 induction xs with
 |nil=>intro ps;simp
 |cons x xs ih =>
  intro ps;rw[List.foldl_cons,ih,List.length_set];by_cases a:k<ps.length
  .by_cases e:k∈xs
   .simp[e,a]
   .by_cases b:k=x
    .subst b;simp[e,a,List.getD_eq_getElem?_getD]
    .have:(ps.set x 1).getD k 0=ps.getD k 0:=by rw[List.getD_eq_getElem?_getD,List.getD_eq_getElem?_getD,List.getElem?_set_ne (λe=>b e.symm)]
     rw[if_neg (λh=>e h.1),if_neg (λh=>by rcases zzj.1 h.1 with h|h;exact b h;exact e h)];exact this
  .have h1:ps.getD k 0=0:=by rw[List.getD_eq_getElem?_getD,List.getElem?_eq_none (by omega)];rfl
   have c:(ps.set x 1).getD k 0=0:=by rw[List.getD_eq_getElem?_getD,List.getElem?_eq_none (by rw[List.length_set];omega)];rfl
   rw[if_neg (λh=>a h.2),if_neg (λh=>a h.2),h1,c]
theorem vG(k:Nat):([0,0,0,0,0,0,0,0,0]:List Nat).getD k 0=0:=by
 match k with
 |0|1|2|3|4|5|6|7|8=>rfl
 |k+9=>rfl
theorem II(xs:List Nat)(k:Nat):(ch xs 1).getD k 0=if k∈xs/\k<9 then 1 else 0:=by
 have:=IH xs k [0,0,0,0,0,0,0,0,0];rw[vG] at this;exact this
theorem IJ{q:Nat->Bool}(a:q 0=false)(h:ps.any q=false):q (ps.getD k 0)=false:=by
 rw[List.getD_eq_getElem?_getD]
 cases e:ps[k]? with
 |none=>exact a
 |some y =>
  have:=List.any_eq_false.1 h y (zzh e)
  simpa using this
theorem lU(l:List Nat)(i j v:Nat):(l.set i v).getD j 0=if i=j/\j<l.length then v else l.getD j 0:=by
 rw[List.getD_eq_getElem?_getD,List.getD_eq_getElem?_getD,List.getElem?_set];by_cases e:i=j
 .subst e;by_cases h:i<l.length
  .simp[h]
  .simp[h]
 .simp[e]
theorem sV{seq:List Nat}{n:Nat}:k∈worked seq n↔1<=k/\k<=n/\0<seq.getD k 0:=by
 induction n with
 |zero=>simp[worked];omega
 |succ n ih=>
  unfold worked;rw[zzo,ih];constructor
  .rintro (h|h)
   .omega
   .split at h
    .simp at h;subst h;omega
    .cases h
  .rintro⟨h1,h2,h3⟩;by_cases e:k=n+1
   .subst e;right;rw[if_pos h3];simp
   .left;omega
theorem Dc{new:List (Nat×Nat×Nat)}(e:A'.bC=A.bC)(a:A'.co=A.co)(b:A'.ss=A.ss)(o:A'.c.out=A.c.out++new)(h:m∈A'.all):m∈A.all\/m∈cY new:=by
 unfold aB.all at *;rw[e,a,b,o]at h;simp only[cY,List.map_append,zzo]at h ⊢;obtain(h|h|h|h)|h:=h
 .exact .inl<|.inl<|.inl h
 .exact .inl<|.inl<|.inr<|.inl h
 .exact .inl<|.inl<|.inr<|.inr h
 .exact .inr h
 .exact .inl<|.inr h
section
variable{A:aB}{t:Nat}{x:aS}
theorem Jv.fresh(h:Jv A)(f:A.ds[t-1]?=some x)(a:x.asked=false)(o:x.what=0){m:bt}(c:m∈A.all)(d:m.aP=t):m.kind≠1/\m.kind≠2/\m.kind≠4/\m.kind≠5/\m.kind≠6/\m.kind≠7:=by
 obtain⟨-,-,-,y,b,k,g,i,j,l,n⟩:=h.ms m c;rw[d,f]at b;cases b;refine⟨λe=>?_,λe=>?_,λe=>?_,λe=>?_,λe=>?_,λe=>?_⟩
 .rw[k e]at a;cases a
 .rw[(g e).1]at a;cases a
 .rw[(i e).1]at a;cases a
 .have:=j e;omega
 .rcases l e with e|e<;>omega
 .have:=(n e).1;omega
theorem sU.none{T:fe}{st:Nat}{y:aS}{m:bt}(h:m.kind≠1/\m.kind≠2/\m.kind≠4/\m.kind≠5/\m.kind≠6/\m.kind≠7):sU T st y m:=
 ⟨λe=>absurd e h.1,λe=>absurd e h.2.1,λe=>absurd e h.2.2.1,λe=>absurd e h.2.2.2.1,λe=>absurd e h.2.2.2.2.1,λe=>absurd e h.2.2.2.2.2⟩
theorem Jv.known(h:Jv A){x':aS}{D:List Nat}(a:A.ds[t-1]?=some x)(w:x'.writes=x.writes)(o:D=A.ord\/D=A.ord++[t-1]):∀(i:Nat) (s:ag×List bt),A.ss[i]?=some s->∀y∈s.1.aM,eK (A.ds.set (t-1) x') D (i+1,y.1,y.2)=true:=λi s hs y b=>by
 have:=vE a w<|h.val i s hs y b;obtain e|e:=o<;>rw[e]
 .exact this
 .exact BF _ this
theorem Jv.ask(h:Jv A)(B:1<=t)(b:A.ds[t-1]?=some x)(H:(A.c.tx t).state=4)(G:x.lost=false)(hn:A.ss.length<=8)(J:t<18446744073709551616):Jv {A with c:=A.c.asked t<|worked x.seq A.ss.length,ds:=A.ds.set (t-1) {x with asked:=true}}:=by
 have o:=(h.st _ x b).1;rw[show t-1+1=t by omega,H]at o;have V:x.asked=false/\x.what=0:=by obtain h|h|h|h:=o<;>simp_all
 have g:∀u,(A.c.asked t<|worked x.seq A.ss.length).tx u=if u=t then ⟨5,ch (worked x.seq A.ss.length) 1,A.c.aC⟩else A.c.tx u:=λu=>um A.c t u _
 have q:∀k,(ch (worked x.seq A.ss.length) 1).getD k 0=if k∈worked x.seq A.ss.length/\k<9 then 1 else 0:=λk=>II _ k
 refine h.at_ B b rfl (λu C=>by show(A.c.asked t _).tx u=_;rw[g,if_neg C]) rfl (λi u _=>rfl) rfl rfl ?_ ⟨λ_=>G,rfl⟩ (λi v=>?_) (λm a=>?_) (λi s' D p z I=>.inl ⟨s',D,z⟩) (λy l=>l) (h.known b rfl<|.inl rfl) (.inl ⟨rfl,Iff.rfl⟩) (λk=>?_) h.res
 .show C7 ((A.c.asked t _).tx t).state _;rw[g,if_pos rfl];exact .inr<|.inl ⟨rfl,rfl,V.2⟩
 .show wY ((A.c.asked t _).tx t) (i+1) (A.mF i t) _;have f:=v;obtain⟨-,y,l,s,E,F⟩:=h.sh i t f;rw[b]at l;cases l;rw[g,if_pos rfl];have K:i<A.ss.length:=by
   obtain e|e:=Nat.lt_or_ge i A.ss.length
   .exact e
   .unfold aB.mF at f;rw[List.getElem?_eq_none e]at f;exact absurd rfl f
  refine⟨λe=>⟨(s e).1,λ_=>.inl ⟨rfl,?_⟩⟩,λe=>?_,λe=>?_⟩
  .show(ch _ 1).getD (i+1) 0=1;rw[q,if_pos ⟨sV.2 ⟨bL,bL,(s e).1⟩,bL⟩]
  .rw[E e]at G;cases G
  .rw[(F e).1]at V;cases V.1
 .rcases Dc (A:=A) (A':={A with c:=A.c.asked t<|worked x.seq A.ss.length,ds:=A.ds.set (t-1) {x with asked:=true}}) (new:=(dK l_<|ch (worked x.seq A.ss.length) 1).map λk=>(t,k,1)) rfl rfl rfl rfl a with a|a
  .exact .inl ⟨a,λe=>sU.none<|h.fresh b V.1 V.2 a e⟩
  .right;simp only[cY,List.map_map,zzq]at a;obtain⟨k,j,rfl⟩:=a;have P:=rq.1 j;rw[q]at P;have w:k∈worked x.seq A.ss.length:=by
    by_cases e:k∈worked x.seq A.ss.length/\k<9
    .exact e.1
    .rw[if_neg e]at P;exact absurd P.2 bM
   have r:=sV.1 w;refine⟨rfl,C5 (d:=k) (t:=t) (.inl rfl) ⟨r.1,by omega⟩ ⟨by omega,J⟩,zzs _,r.2.1,λ_=>rfl,λe=>?_,λe=>?_,λe=>?_,λe=>?_,λe=>?_⟩<;>simp at e
 .show(((A.c.asked t _).tx t).parts.getD k 0≠0->_)/\(((A.c.asked t _).tx t).parts.getD k 0=1->_);rw[g,if_pos rfl];refine⟨λe=>?_,λ_=>rfl⟩;have n:=e;rw[q]at n;by_cases j:k∈worked x.seq A.ss.length/\k<9
  .have:=sV.1 j.1;omega
  .rw[if_neg j]at n;exact absurd rfl n
theorem Jv.abort{c':aU}{new:List (Nat×Nat×Nat)}(h:Jv A)(w:1<=t)(d:A.ds[t-1]?=some x)(hs:(A.c.tx t).state=4\/(A.c.tx t).state=5)(M:t<18446744073709551616)(hn:A.ss.length<=8)(f:∀u,c'.tx u=if u=t then A0 else A.c.tx u)(n:c'.next=A.c.next)(o:c'.out=A.c.out++new)(q:c'.res=[])(O:∀y∈new,y.1=t/\y.2.2=6/\(A.c.tx t).parts.getD y.2.1 0≠0):Jv {A with c:=c',ds:=A.ds.set (t-1) {x with what:=6}}:=by
 have G:=(h.st _ x d).1;rw[show t-1+1=t by omega]at G;have V:x.what=0:=by obtain h|h|h|h:=G<;>omega
 refine h.at_ w d rfl (λu z=>by show c'.tx u=_;rw[f,if_neg z]) rfl (λi u _=>rfl) n rfl ?_ ⟨(h.st _ x d).2.1,rfl⟩ (λi r=>?_) (λm b=>?_) (λi s' E p v N=>.inl ⟨s',E,v⟩) (λy a=>a) (h.known d rfl<|.inl rfl) (.inl ⟨rfl,cE⟩) (λk=>?_) q
 .show C7 (c'.tx t).state _;rw[f,if_pos rfl];exact .inr<|.inr<|.inr ⟨rfl,.inl rfl⟩
 .have AV:A.mF i t≠0:=r;obtain⟨-,y,a,J,K,L⟩:=h.sh i t AV;rw[d]at a;cases a;exact⟨λe=>⟨(J e).1,λ_=>.inr rfl⟩,K,λe=>⟨(L e).1,.inr<|.inr rfl⟩⟩
 .rcases Dc (A:=A) (A':={A with c:=c',ds:=A.ds.set (t-1) {x with what:=6}}) (new:=new) rfl rfl rfl o b with b|b
  .refine .inl ⟨b,λe=>?_⟩;obtain⟨-,-,-,y,a,B,g,j,C,D,l⟩:=h.ms m b;rw[e,d]at a
   cases a;rw[e]at g j D l;refine⟨B,g,j,λe=>?_,λ_=>.inl rfl,λe=>?_⟩
   .have:=C e;omega
   .have:=(l e).1;omega
  .right;simp only[cY,zzq]at b;obtain⟨y,a,rfl⟩:=b;have⟨F,H,I⟩:=O y a;have s:=(h.BG t y.2.1).1 I;rw[F,H];refine⟨rfl,⟨by simp[eX];omega,M⟩,zzs _,s.2,λe=>?_,λe=>?_,λe=>?_,λe=>?_,λ_=>.inl rfl,λe=>?_⟩<;>simp at e
 .show((c'.tx t).parts.getD k 0≠0->_)/\((c'.tx t).parts.getD k 0=1->_);rw[f,if_pos rfl];have:=vG k;exact⟨λe=>absurd this e,λe=>by rw[show A0.parts.getD k 0=0 from this]at e;cases e⟩
end
section
variable{A:aB}{t s v:Nat}{x:aS}{c':aU}{new:List (Nat × Nat × Nat)}
theorem sU.keep{T a:fe}{st:Nat}{y:aS}{m:bt}(h:sU T st y m)(b:y.what=5->T.state=0->a.state=0):sU a st y m:=by
 have⟨k,c,d,f,g,i⟩:=h;exact⟨k,c,d,f,λe=>(g e).imp id λe=>⟨e.1,b e.1 e.2⟩,i⟩
theorem Jv.count(h:Jv A)(J:1<=t)(d:A.ds[t-1]?=some x)(j:(A.c.tx t).parts.getD s 0=1)(o:v=2/\A.mF (s-1) t≠1\/v=4/\A.mF (s-1) t=0)(f:∀u,c'.tx u=if u=t then {A.c.tx t with parts:=(A.c.tx t).parts.set s v}else A.c.tx u)(D:c'.next=A.c.next)(l:c'.out=A.c.out)(E:c'.res=[]):Jv {A with c:=c'}:=by
 have z:=(h.BG t s).2 j;have Q:=(h.BG t s).1 bL;have G:=h.st _ x d;rw[show t-1+1=t by omega]at G;have V:∀k,((A.c.tx t).parts.set s v).getD k 0=if s=k/\k<(A.c.tx t).parts.length then v else (A.c.tx t).parts.getD k 0:=λk=>lU _ _ _ _
 have C:A.ds.set (t-1) x=A.ds:=by
  have I:=zzd.1 d;rw[<-I.2,List.set_getElem_self]
 refine h.at_ J d C.symm (λu K=>by show c'.tx u=_;rw[f,if_neg K]) rfl (λi u _=>rfl) D rfl ?_ ⟨G.2.1,rfl⟩ (λi H=>?_) (λm b=>?_) (λi s' L p j P=>.inl ⟨s',L,j⟩) (λy a=>a) h.val (.inl ⟨rfl,Iff.rfl⟩) (λk=>?_) E
 .show C7 (c'.tx t).state _;rw[f,if_pos rfl];exact G.1
 .show wY (c'.tx t) (i+1) (A.mF i t) x;have B:=H;obtain⟨-,y,a,r,M,w⟩:=h.sh i t B;rw[d]at a;cases a;rw[f,if_pos rfl];refine⟨λe=>⟨(r e).1,λF=>((r e).2 F).imp (λq=>⟨q.1,?_⟩) id⟩,M,λe=>⟨(w e).1,?_⟩⟩
  .show((A.c.tx t).parts.set s v).getD (i+1) 0=1;rw[V];split
   .rename_i e5;have:s-1=i:=bL;rw[this]at o;omega
   .exact q.2
  .show _/\(((A.c.tx t).parts.set s v).getD (i+1) 0=1\/((A.c.tx t).parts.set s v).getD (i+1) 0=2)\/_/\((A.c.tx t).parts.set s v).getD (i+1) 0=2\/_;rw[V];split
   .rename_i e5;have:s-1=i:=bL;rw[this]at o;refine .inl ⟨z,.inr ?_⟩;omega
   .exact(w e).2
 .refine .inl ⟨?_,λe=>?_⟩
  .unfold aB.all at b ⊢;rw[l]at b;exact b
  .show sU (c'.tx t) (A.mF (m.src-1) t) x m;have N:m∈A.all:=by
    unfold aB.all at b ⊢;rw[l]at b;exact b
   obtain⟨-,-,-,y,a,n⟩:=h.ms m N;rw[e]at a n;rw[d]at a;cases a;refine n.keep λ_ O=>?_;omega
 .show((c'.tx t).parts.getD k 0≠0->_)/\((c'.tx t).parts.getD k 0=1->(c'.tx t).state=5);rw[f,if_pos rfl];refine⟨λe=>?_,λ_=>z⟩;have g:=e;rw[V]at g;split at g
  .rename_i e5;omega
  .exact(h.BG t k).1 g
theorem Jv.Yp{ps:List Nat}(h:Jv A)(O:1<=t)(d:A.ds[t-1]?=some x)(j:(A.c.tx t).parts.getD s 0=1)(o:v=2/\A.mF (s-1) t≠1\/v=4/\A.mF (s-1) t=0)(F:ps=(A.c.tx t).parts.set s v)(uH:ps.any l_=false)(wJ:t<18446744073709551616)(hn:A.ss.length<=8)
  (f:(∀u,c'.tx u=if u=t then {A.c.tx t with parts:=ps,state:=6}else A.c.tx u)\/(∀u,c'.tx u=if u=t then A0 else A.c.tx u)/\ps.any jR=false) (H:c'.next=A.c.next) (I:c'.out=A.c.out++new) (J:c'.res=[]) (S:∀y∈new,y.1=t/\y.2.2=5/\ps.getD y.2.1 0≠0):Jv {A with c:=c',ds:=A.ds.set (t-1) {x with what:=5},ord:=A.ord++[t-1]}:=by
 have iz:=(h.BG t s).2 j;have zA:=(h.BG t s).1 bL;have G:=h.st _ x d;rw[show t-1+1=t by omega]at G;have V:x.asked=true/\x.what=0:=by rcases G.1 with h|h|h|h<;>first|omega|exact⟨h.2.1,h.2.2⟩
 have g:∀k,ps.getD k 0=if s=k/\k<(A.c.tx t).parts.length then v else (A.c.tx t).parts.getD k 0:=λk=>by rw[F];exact lU _ _ _ _
 have Q:∀k,ps.getD k 0≠1:=λk e=>by
  have:=IJ (k:=k) rfl uH;rw[e]at this;cases this
 have D:∀k,ps.getD k 0≠0->1<=k/\k<=A.ss.length:=λk e=>by
  rw[g]at e;split at e
  .omega
  .exact(h.BG t k).1 e
 have K:∀u,u≠t->c'.tx u=A.c.tx u:=λu P=>by
  obtain e|⟨e,-⟩:=f<;>rw[e,if_neg P]
 refine h.at_ O d rfl K rfl (λi u _=>rfl) H rfl ?_ ⟨G.2.1,rfl⟩ (λi M=>?_) (λm b=>?_) (λi s' T p j lr=>.inl ⟨s',T,j⟩) (λy a=>a) (h.known d rfl<|.inr rfl) (.inr ⟨rfl,V.2,rfl⟩) (λk=>?_) J
 .show C7 (c'.tx t).state _;obtain e|⟨e,-⟩:=f<;>rw[e,if_pos rfl]
  .exact .inr<|.inr<|.inl ⟨rfl,V.1,rfl⟩
  .exact .inr<|.inr<|.inr ⟨rfl,.inr ⟨rfl,V.1⟩⟩
 .show wY (c'.tx t) (i+1) (A.mF i t) {x with what:=5};have E:=M;obtain⟨-,y,a,Y,Z,C⟩:=h.sh i t E;rw[d]at a;cases a;have L:A.mF i t≠1:=λe=>by
   obtain q|q:=(Y e).2 V.1
   .by_cases e5:s=i+1
    .have:s-1=i:=bL;rw[this]at o;omega
    .apply Q<|i+1;rw[g,if_neg λh=>e5 h.1];exact q.2
   .omega
  have l:A.mF i t=3->ps.getD (i+1) 0=2:=λe=>by
   have q:(A.c.tx t).parts.getD (i+1) 0=1\/(A.c.tx t).parts.getD (i+1) 0=2:=by
    obtain q|q|q:=(C e).2
    .exact q.2
    .exact .inr q.2
    .omega
   have n:=Q<|i+1;rw[g]at n ⊢;split at n
   .rename_i e5;rw[if_pos e5];have:s-1=i:=bL;rw[this]at o;omega
   .rename_i e5;rw[if_neg e5];omega
  refine⟨λe=>absurd e L,Z,λe=>⟨(C e).1,.inr<|.inl ?_⟩⟩;obtain e5|⟨e5,a⟩:=f
  .rw[e5,if_pos rfl];exact⟨rfl,l e⟩
  .have:=IJ (k:=i+1) rfl a;rw[l e]at this;cases this
 .rcases Dc (A:=A) (A':={A with c:=c',ds:=A.ds.set (t-1) {x with what:=5},ord:=A.ord++[t-1]}) (new:=new) rfl rfl rfl I b with b|b
  .refine .inl ⟨b,λe=>?_⟩;obtain⟨-,-,-,y,a,R,r,w,k5,z,B⟩:=h.ms m b;rw[e,d]at a
   cases a;rw[e]at r w z B;refine⟨R,r,w,λe=>rfl,λe=>?_,λe=>?_⟩
   .rcases z e with q|q<;>omega
   .have:=(B e).1;omega
  .right;simp only[cY,zzq]at b;obtain⟨y,a,rfl⟩:=b;have⟨U,W,X⟩:=S y a;have N:=D _ X;rw[U,W];refine⟨rfl,⟨by simp[eX];omega,wJ⟩,zzs _,N.2,λe=>?_,λe=>?_,λe=>?_,λ_=>rfl,λe=>?_,λe=>?_⟩<;>simp at e
 .show((c'.tx t).parts.getD k 0≠0->_)/\((c'.tx t).parts.getD k 0=1->(c'.tx t).state=5);obtain e|⟨e,-⟩:=f<;>rw[e,if_pos rfl]
  .exact⟨λe=>D k e,λe=>absurd e<|Q k⟩
  .have:=vG k;exact⟨λe=>absurd this e,λe=>by rw[show A0.parts.getD k 0=0 from this]at e;cases e⟩
theorem Jv.done{ps:List Nat}(h:Jv A)(J:1<=t)(d:A.ds[t-1]?=some x)(M:(A.c.tx t).state=6)(n:(A.c.tx t).parts.getD s 0=2)(l:A.mF (s-1) t=0)(z:ps=(A.c.tx t).parts.set s 5)
  (f:(∀u,c'.tx u=if u=t then {A.c.tx t with parts:=ps}else A.c.tx u)\/(∀u,c'.tx u=if u=t then A0 else A.c.tx u)/\ps.any jf=false) (v:c'.next=A.c.next) (w:c'.out=A.c.out) (C:c'.res=[]):Jv {A with c:=c'}:=by
 have S:=(h.BG t s).1 bL;have G:=h.st _ x d;rw[show t-1+1=t by omega]at G;have I:x.asked=true/\x.what=5:=by obtain h|h|h|h:=G.1<;>first|omega|exact⟨h.2.1,h.2.2⟩
 have j:∀k,ps.getD k 0=if s=k/\k<(A.c.tx t).parts.length then 5 else (A.c.tx t).parts.getD k 0:=λk=>by rw[z];exact lU _ _ _ _
 have B:A.ds.set (t-1) x=A.ds:=by
  have F:=zzd.1 d;rw[<-F.2,List.set_getElem_self]
 have Q:∀k,(A.c.tx t).parts.getD k 0≠1:=λk e=>by have:=(h.BG t k).2 e;omega
 have D:∀u,u≠t->c'.tx u=A.c.tx u:=λu K=>by
  obtain e|⟨e,-⟩:=f<;>rw[e,if_neg K]
 refine h.at_ J d B.symm D rfl (λi u _=>rfl) v rfl ?_ ⟨G.2.1,rfl⟩ (λi E=>?_) (λm g=>?_) (λi s' L p n R=>.inl ⟨s',L,n⟩) (λy a=>a) h.val (.inl ⟨rfl,Iff.rfl⟩) (λk=>?_) C
 .show C7 (c'.tx t).state _;obtain e|⟨e,-⟩:=f<;>rw[e,if_pos rfl]
  .exact G.1
  .exact .inr<|.inr<|.inr ⟨rfl,.inr ⟨I.2,I.1⟩⟩
 .show wY (c'.tx t) (i+1) (A.mF i t) x;have V:=E;obtain⟨-,y,a,N,O,r⟩:=h.sh i t V;rw[d]at a;cases a;have H:s≠i+1:=λe=>by
   rw[show s-1=i by omega]at l;exact V l
  refine⟨λe=>?_,O,λe=>⟨(r e).1,?_⟩⟩
  .rcases (N e).2 I.1 with q|q<;>omega
  .have q:(A.c.tx t).parts.getD (i+1) 0=2:=by
    obtain q|q|q:=(r e).2
    .omega
    .exact q.2
    .omega
   have o:ps.getD (i+1) 0=2:=by rw[j,if_neg λh=>H h.1];exact q
   obtain e5|⟨e5,a⟩:=f
   .rw[e5,if_pos rfl];exact .inr<|.inl ⟨M,o⟩
   .have:=IJ (k:=i+1) rfl a;rw[o]at this;cases this
 .have tC:m∈A.all:=by
   unfold aB.all at g ⊢;rw[w]at g;exact g
  refine .inl ⟨tC,λe=>?_⟩;show sU (c'.tx t) (A.mF (m.src-1) t) x m;obtain⟨-,-,-,y,a,b⟩:=h.ms m tC;rw[e]at a b;rw[d]at a
  cases a;exact b.keep λ_ P=>bL
 .show((c'.tx t).parts.getD k 0≠0->_)/\((c'.tx t).parts.getD k 0=1->(c'.tx t).state=5);obtain e|⟨e,-⟩:=f<;>rw[e,if_pos rfl]
  .have b:=j k;refine⟨λe=>?_,λe=>?_⟩
   .have e':ps.getD k 0≠0:=e;rw[b]at e';split at e'
    .omega
    .exact(h.BG t k).1 e'
   .have e':ps.getD k 0=1:=e;rw[b]at e';split at e'
    .omega
    .exact absurd e'<|Q k
  .have:=vG k;exact⟨λe=>absurd this e,λe=>by rw[show A0.parts.getD k 0=0 from this]at e;cases e⟩
end
theorem qH(s:ag)(t u:Nat)(T:ft):({s with ai:=aV s.ai t T}:ag).aP u=if u=t then T else s.aP u:=by
 unfold ag.aP aV ak;rw[List.find?_cons];by_cases e:u=t
 .subst e;simp
 .rw[if_neg e];simp only[show ¬t=u from λb=>e b.symm,decide_false];congr 2;unfold aT;rw[List.find?_filter];congr 1;funext p;by_cases a:p.1=u
  .simp[a,e]
  .simp[a]
theorem fZ(s:ag)(t u:Nat):(s.forget t).aP u=if u=t then ⟨0,0,0⟩else s.aP u:=by
 show({s with ai:=aT s.ai t}:ag).aP u=_;unfold ag.aP aT ak;simp only[];rw[List.find?_filter];by_cases e:u=t
 .subst e;rw[if_pos rfl,List.find?_eq_none.2 λp _=>by by_cases e:p.1=u<;>simp[e]];rfl
 .rw[if_neg e];congr 3;funext p;by_cases a:p.1=u
  .simp[a,e]
  .simp[a]
theorem lJ{p:(Nat×ByteArray)×aK}(h:p∈(s.forget t).holds):p∈s.holds:=(zzp.1 h).1
theorem o6{s:ag×List bt}(h:A.ss[i]?=some s):A.mF i t=(s.1.aP t).state:=by unfold aB.mF;rw[h];rfl
theorem rr{j:Nat}{s s':ag×List bt}(h:A.ss[i]?=some s):({A with ss:=A.ss.set i s'}:aB).mF j t=if i=j then (s'.1.aP t).state else A.mF j t:=by
 unfold aB.mF;simp only[];by_cases e:i=j
 .subst e;rw[if_pos rfl,List.getElem?_set_self (zzd.1 h).1];rfl
 .rw[if_neg e,List.getElem?_set_ne e]
theorem uq{l:List (ag×List bt)}{s':ag×List bt}(h:m∈(l.set i s').flatMap (·.2)):m∈l.flatMap (·.2)\/m∈s'.2:=by
 rw[List.mem_flatMap]at h;have⟨y,a,h⟩:=h;obtain e|e:=List.mem_or_eq_of_mem_set a
 .exact .inl<|List.mem_flatMap.2 ⟨y,e,h⟩
 .rw[e]at h;exact .inr h
theorem Dd{s s':ag×List bt}(h:A.ss[i]?=some s)(o:s'.2=s.2++new)(a:m∈({A with ss:=A.ss.set i s'}:aB).all):m∈A.all\/m∈new:=by
 unfold aB.all at *;simp only[zzo]at a ⊢;obtain a|a:=a
 .exact .inl<|.inl a
 .rcases uq a with e|e
  .exact .inl<|.inr e
  .rw[o]at e;obtain e|e:=zzo.1 e
   .exact .inl<|.inr<|List.mem_flatMap.2 ⟨s,zzh h,e⟩
   .exact .inr e
section
variable{A:aB}{i t:Nat}{x:aS}{s s':ag × List bt}{new:List bt}
theorem Jv.jg(h:Jv A)(D:1<=t)(c:A.ds[t-1]?=some x)(hs:A.ss[i]?=some s)(r:∀u,u≠t->(s'.1.aP u).state=(s.1.aP u).state)(C:s'.2=s.2++new)
  (R:(s'.1.aP t).state≠0->wY (A.c.tx t) (i+1) (s'.1.aP t).state x) (hold:(s'.1.aP t).state=(s.1.aP t).state\/(s'.1.aP t).state=0\/(s'.1.aP t).state=3/\(s.1.aP t).state=1)
  (O:∀m∈new,m.aP=t/\m.src=i+1/\m.dst=0/\m.Ok/\sU (A.c.tx t) (s'.1.aP t).state x m)
  (v:∀p∈s'.1.holds,p∈s.1.holds) (F:∀y∈s'.1.aM,eK A.ds A.ord (i+1,y.1,y.2)=true):Jv {A with ss:=A.ss.set i s'}:=by
 have G:=h.st _ x c;rw[show t-1+1=t by omega]at G;have K:=(zzd.1 hs).1
 have B:A.ds.set (t-1) x=A.ds:=by
  have z:=zzd.1 c;rw[<-z.2,List.set_getElem_self]
 have W:∀(j:Nat) (y:ag×List bt),(A.ss.set i s')[j]?=some y->(i=j/\y=s')\/(i≠j/\A.ss[j]?=some y):=λj y a=>by
  by_cases e:i=j
  .subst e;rw[List.getElem?_set_self K]at a;cases a;exact .inl ⟨rfl,rfl⟩
  .rw[List.getElem?_set_ne e]at a;exact .inr ⟨e,a⟩
 refine h.at_ D c B.symm (λu _=>rfl) bR (λj u E=>?_) rfl rfl G.1 ⟨G.2.1,rfl⟩ (λj g=>?_) (λm b=>?_) (λj y a p n H=>?_) (λy a=>a) (λj y a=>?_) (.inl ⟨rfl,Iff.rfl⟩) (h.BG t) h.res
 .rw[rr hs];split
  .rename_i e;subst e;rw[r u E,o6 hs]
  .rfl
 .rw[rr hs]at g ⊢;split at g
  .rename_i e;subst e;rw[if_pos rfl];exact R g
  .rename_i e;rw[if_neg e];obtain⟨-,y,a,w⟩:=h.sh j t g;rw[c]at a;cases a;exact w
 .rcases Dd hs C b with b|b
  .refine .inl ⟨b,λe=>?_⟩;obtain⟨-,-,-,y,a,o,k,d,q,l,f⟩:=h.ms m b;rw[e]at a k d l f;rw[c]at a
   cases a;rw[rr hs];by_cases e5:i=m.src-1
   .rw[if_pos e5];rw[<-e5,o6 hs]at k d f;exact⟨o,λe=>⟨(k e).1,by have:=(k e).2;omega⟩,λe=>⟨(d e).1,by have:=(d e).2;omega⟩,q,l,λe=>⟨(f e).1,by have:=(f e).2;omega⟩⟩
   .rw[if_neg e5];exact⟨o,k,d,q,l,f⟩
  .obtain⟨q1,q2,q3,q4,q5⟩:=O m b;refine .inr ⟨q1,q4,bL,bL,?_⟩;rw[rr hs,if_pos bL];exact q5
 .rcases W j y a with⟨rfl,rfl⟩|⟨e,a⟩
  .exact .inl ⟨s,hs,v p n⟩
  .exact .inl ⟨y,a,n⟩
 .rcases W j y a with⟨rfl,rfl⟩|⟨e,a⟩
  .exact F
  .exact h.val j y a
theorem Jv.pJ(h:Jv A)(w:1<=t)(J:t<18446744073709551616)(g:A.ds[t-1]?=some x)(hs:A.ss[i]?=some s)(c:x.asked=true)(B:i<8):Jv {A with ss:=A.ss.set i ((s.1.kh t).1,s.2++[⟨(s.1.kh t).2,i+1,0,t⟩])}:=by
 have K:(s.1.aP t).state≠0->wY (A.c.tx t) (i+1) (s.1.aP t).state x:=λe=>by
  rw[<-o6 hs]at e ⊢;obtain⟨-,y,j,o⟩:=h.sh i t e;rw[g]at j;cases j;exact o
 have k:∀(q:ag) (v:Nat),(v=2/\(q.aP t).state=3\/v=3/\(q.aP t).state=0\/v=4/\(q.aP t).state=0)->(∀u,u≠t->(q.aP u).state=(s.1.aP u).state)->((q.aP t).state=(s.1.aP t).state\/(q.aP t).state=0\/(q.aP t).state=3/\(s.1.aP t).state=1)->(∀p∈q.holds,p∈s.1.holds)->q.aM=s.1.aM->Jv {A with ss:=A.ss.set i (q,s.2++[⟨v,i+1,0,t⟩])}:=λq v C l hold n z=>by
  refine h.jg w g hs l rfl (λf=>?_) hold (λm d=>?_) n<|by rw[show(q,s.2++[⟨v,i+1,0,t⟩]).1.aM=s.1.aM from z];exact h.val i s hs
  .show wY _ _ (q.aP t).state x;obtain e|e|⟨e,e'⟩:=hold
   .rw[e];exact K<|by rw[<-e];exact f
   .exact absurd e f
   .obtain⟨s1,-,-⟩:=K bL;refine⟨λe5=>bL,λe5=>bL,λ_=>⟨c,?_⟩⟩;obtain r|r:=(s1 e').2 c
    .exact .inl ⟨r.1,.inl r.2⟩
    .exact .inr<|.inr r
  .simp at d;subst d;refine⟨rfl,rfl,rfl,⟨by simp[eX];omega,J⟩,λe=>?_,λe=>⟨c,?_⟩,λe=>⟨c,?_⟩,λe=>?_,λe=>?_,λe=>?_⟩<;>simp only[]at e ⊢ <;> omega
 unfold ag.kh;split
 .rename_i e;exact k s.1 2 (.inl ⟨rfl,e⟩) (λ_ _=>rfl) (.inl rfl) (λ_ a=>a) rfl
 .split
  .rename_i e;split
   .refine k {s.1 with ai:=aV s.1.ai t ⟨3,0,0⟩} 2 (.inl ⟨rfl,by rw[qH,if_pos rfl]⟩) (λu b=>by rw[qH,if_neg b]) (.inr<|.inr ⟨by rw[qH,if_pos rfl],e⟩) (λ_ a=>a) rfl
   .exact k (s.1.forget t) 4 (.inr<|.inr ⟨rfl,by rw[fZ,if_pos rfl]⟩) (λu b=>by rw[fZ,if_neg b]) (.inr<|.inl<|by rw[fZ,if_pos rfl]) (λ_ a=>lJ a) rfl
  .exact k (s.1.forget t) 3 (.inr<|.inl ⟨rfl,by rw[fZ,if_pos rfl]⟩) (λu b=>by rw[fZ,if_neg b]) (.inr<|.inl<|by rw[fZ,if_pos rfl]) (λ_ a=>lJ a) rfl
end
theorem Ud{V:List (ByteArray × ByteArray)}{k v:ByteArray}{y:ByteArray × ByteArray}(h:y∈aV V k v):y∈V\/y=(k,v):=by
 rcases zzj.1 h with e|e
 .exact .inr e
 .exact .inl (zzp.1 e).1
theorem QA{H:List ((Nat × ByteArray) × aK)}{y:ByteArray × ByteArray}:∀{V:List (ByteArray × ByteArray)},y∈H.foldl (oT t) V->y∈V\/∃p∈H,p.1.1=t/\p.2.way=1/\y=(p.1.2,p.2.val):=by
 induction H with
 |nil=>intro V h;exact .inl h
 |cons p H ih =>
  intro V h;rw[List.foldl_cons] at h;rcases ih h with h|⟨q,hq,h⟩
  .unfold oT at h;split at h
   .rename_i e;split at h
    .rename_i e2;rcases Ud h with h|h
     .exact .inl h
     .exact .inr ⟨p,List.mem_cons_self ..,e,e2,h⟩
    .split at h
     .exact .inl (zzp.1 h).1
     .exact .inl h
   .exact .inl h
  .exact .inr ⟨q,List.mem_cons_of_mem _ hq,h⟩
section
variable{A:aB}{i t:Nat}{x:aS}{s:ag × List bt}
theorem Jv.won(h:Jv A)(c:A.ds[t-1]?=some x)(hs:A.ss[i]?=some s)(k:x.what=5)(m:1<=t)(hb:(s.1.aP t).state<=3):(s.1.aP t).state=0\/(s.1.aP t).state=3/\(A.c.tx t).state=6:=by
 have G:=h.st _ x c;rw[show t-1+1=t by omega] at G;by_cases e:(s.1.aP t).state=0
 .exact .inl e
 .right;rw[<-o6 hs] at e hb ⊢;obtain⟨-,y,d,f,g,j⟩:=h.sh i t e;rw[c] at d
  cases d
  have b:x.asked=true:=by
   rcases G.1 with h|h|h|h
   .omega
   .exact h.2.1
   .exact h.2.1
   .rcases h.2 with h|h
    .omega
    .exact h.2
  have l:(A.c.tx t).state=6\/(A.c.tx t).state=0:=by
   rcases G.1 with h|h|h|h<;>omega
  rcases (by omega:A.mF i t=1\/A.mF i t=2\/A.mF i t=3) with a|a|a
  .rcases (f a).2 b with q|q<;>omega
  .have:=G.2.1 b;rw[g a] at this;cases this
  .rcases (j a).2 with q|q|q
   .omega
   .exact⟨a,q.1⟩
   .omega
theorem Jv.comm(h:Jv A)(g:1<=t)(J:t<18446744073709551616)(a:A.ds[t-1]?=some x)(hs:A.ss[i]?=some s)(c:x.what=5)(n:i<8)(hb:(s.1.aP t).state<=3):Jv { A with ss:=A.ss.set i (s.1.dD t,s.2++[⟨7,i+1,0,t⟩]) }:=by
 have w:=h.won a hs c g hb
 have b:((s.1.dD t).aP t).state=0:=by
  unfold ag.dD;split
  .unfold ag.comm;rw[fZ,if_pos rfl]
  .rcases w with e|e
   .exact e
   .rename_i e';exact absurd e.1 e'
 refine h.jg (s':=(s.1.dD t,s.2++[⟨7,i+1,0,t⟩])) (new:=[⟨7,i+1,0,t⟩]) g a hs (λu k=>?_) rfl (λj=>absurd b j) (.inr (.inl b)) (λm f=>?_) (λp d=>?_) (λy l=>?_)
 .show((s.1.dD t).aP u).state=_;unfold ag.dD;split
  .unfold ag.comm;rw[fZ,if_neg k];rfl
  .rfl
 .simp at f;subst f;refine⟨rfl,rfl,rfl,⟨by simp[eX];omega,J⟩,λe=>?_,λe=>?_,λe=>?_,λe=>?_,λe=>?_,λ_=>⟨c,b⟩⟩<;>simp at e
 .have Vx:p∈(s.1.dD t).holds:=d;unfold ag.dD at Vx;split at Vx
  .exact lJ (s:={ s.1 with aM:=s.1.holds.foldl (oT t) s.1.aM }) Vx
  .exact Vx
 .have Gd:y∈(s.1.dD t).aM:=l;unfold ag.dD at Gd;split at Gd
  .rcases QA (show y∈s.1.holds.foldl (oT t) s.1.aM from Gd) with e|⟨p,d,e1,e2,e3⟩
   .exact h.val i s hs y e
   .obtain⟨z,hz,hzw⟩:=h.ZA i s hs p d e2;rw[e1,a] at hz
    cases hz;unfold eK;rw[List.any_eq_true];refine⟨t-1,h.ord.1 _ x a c,?_⟩;unfold wrote;rw[a];simp only[List.any_eq_true,decide_eq_true_eq];exact⟨_,hzw,by rw[e3]⟩
  .exact h.val i s hs y Gd
theorem Jv.Xp(h:Jv A)(c:1<=t)(f:A.ds[t-1]?=some x)(hs:A.ss[i]?=some s):Jv { A with ss:=A.ss.set i (s.1.forget t,s.2) }:=by
 have e:((s.1.forget t).aP t).state=0:=by rw[fZ,if_pos rfl]
 exact h.jg (s':=(s.1.forget t,s.2)) (new:=[]) c f hs (λu d=>by show((s.1.forget t).aP u).state=_;rw[fZ,if_neg d]) (by simp) (λa=>absurd e a) (.inr (.inl e)) (by simp) (λp b=>lJ b) (h.val i s hs)
end
theorem QB{H:List ((Nat×ByteArray)×aK)}{k:Nat×ByteArray}{p:(Nat×ByteArray)×aK}(h:p∈aV H k g):p∈H\/p=(k,g):=by
 obtain e|e:=zzj.1 h
 .exact .inr e
 .exact .inl (zzp.1 e).1
theorem QC(s:ag)(t u:Nat)(k:ByteArray)(g:aK):(s.take t k g).aP u=s.aP u:=by
 unfold ag.take;split<;>rfl
theorem Mr(s:ag)(t:Nat)(k:ByteArray)(g:aK):(s.take t k g).aM=s.aM:=by
 unfold ag.take;split<;>rfl
theorem IM{k:ByteArray}{p:(Nat×ByteArray)×aK}(h:p∈(s.take t k g).holds):p∈s.holds\/p=((t,k),g):=by
 unfold ag.take at h;split at h
 .exact QB h
 .exact .inl h
theorem sW(s:ag)(t:Nat)(seq:Int)(k:ByteArray)(g:aK):
  ((s.aJ t seq k g).2=0/\(∀u,((s.aJ t seq k g).1.aP u).state=if u=t then 1 else (s.aP u).state)/\(∀p∈(s.aJ t seq k g).1.holds,p∈s.holds\/p=((t,k),g))/\(s.aJ t seq k g).1.aM=s.aM) \/
  ((s.aJ t seq k g).2≠0/\(∀u,((s.aJ t seq k g).1.aP u).state=if u=t then 2 else (s.aP u).state)/\(s.aJ t seq k g).1.holds=s.holds/\(s.aJ t seq k g).1.aM=s.aM) \/
  ((s.aJ t seq k g).2≠0/\(s.aJ t seq k g).1=s):=by
 unfold ag.aJ;split
 .split
  .right;left;refine⟨bR,λu=>?_,rfl,rfl⟩;simp only[];rw[qH];split<;>rfl
  .left;refine⟨rfl,λu=>?_,λp h=>IM (s:={s with ai:=aV s.ai t ⟨1,(s.aP t).done+1,s.aC⟩}) h,Mr _ _ _ _⟩;simp only[];rw[QC,qH];split<;>rfl
 .rename_i e;exact .inr<|.inr ⟨e,rfl⟩
theorem IP{y:Nat×ByteArray×ByteArray}(b:ds[k]?=some x)(w:∀z∈x.writes,z∈x'.writes)(h:eK ds ord y=true):eK (ds.set k x') ord y=true:=by
 unfold eK at *;rw[List.any_eq_true]at *;have⟨j,c,a⟩:=h;refine⟨j,c,?_⟩;unfold wrote at *;by_cases e:k=j
 .subst e;rw[List.getElem?_set_self (zzd.1 b).1];rw[b]at a;simp only[List.any_eq_true,decide_eq_true_eq]at a ⊢;have⟨z,d,e⟩:=a;exact⟨z,w z d,e⟩
 .rw[List.getElem?_set_ne e];exact a
section
variable{A:aB}{i t:Nat}{x x':aS}{s:ag × List bt}{q:ag}
theorem Jv.oper(h:Jv A)(J:1<=t)(f:A.ds[t-1]?=some x)(hs:A.ss[i]?=some s)(b:x.asked=false)(D:x'.id=x.id/\x'.asked=x.asked/\x'.what=x.what/\x'.seq.length=x.seq.length/\(x.lost=true->x'.lost=true)/\∀k,0<x.seq.getD k 0->0<x'.seq.getD k 0)(w:∀y∈x.writes,y∈x'.writes)
  (E:∀u,u≠t->(q.aP u).state=(s.1.aP u).state) (F:(q.aP t).state=1/\0<x'.seq.getD (i+1) 0\/(q.aP t).state=2/\x'.lost=true\/(q.aP t).state=(s.1.aP t).state) (H:∀p∈q.holds,p.2.way=1->p∈s.1.holds\/p.1.1=t/\(i+1,p.1.2,p.2.val)∈x'.writes) (M:q.aM=s.1.aM) :
  Jv {A with ss:=A.ss.set i (q,s.2),ds:=A.ds.set (t-1) x'}:=by
 have⟨U,l,n,V,X,Y⟩:=D;have G:=h.st _ x f;rw[show t-1+1=t by omega]at G;have K:=(zzd.1 hs).1
 have P:x.what≠5:=λe=>by
  have:x.asked=true:=by
   obtain h|h|h|h:=G.1
   .omega
   .exact h.2.1
   .exact h.2.1
   .rcases h.2 with h|h
    .omega
    .exact h.2
  rw[b]at this;cases this
 have W:∀(j:Nat) (y:ag×List bt),(A.ss.set i (q,s.2))[j]?=some y->(i=j/\y=(q,s.2))\/(i≠j/\A.ss[j]?=some y):=λj y a=>by
  by_cases e:i=j
  .subst e;rw[List.getElem?_set_self K]at a;cases a;exact .inl ⟨rfl,rfl⟩
  .rw[List.getElem?_set_ne e]at a;exact .inr ⟨e,a⟩
 have C:∀j u,({A with ss:=A.ss.set i (q,s.2),ds:=A.ds.set (t-1) x'}:aB).mF j u=if i=j then (q.aP u).state else A.mF j u:=λj u=>rr hs
 have keep:∀k st,wY (A.c.tx t) k st x->wY (A.c.tx t) k st x':=λk st g=>by
  have⟨Z,s2,s3⟩:=g;refine⟨λe=>⟨Y k (Z e).1,λc=>?_⟩,λe=>X<|s2 e,λe=>?_⟩
  .rw[l,b]at c;cases c
  .rw[(s3 e).1]at b;cases b
 refine h.at_ J f rfl (λu _=>rfl) bR (λj u L=>?_) rfl U ?_ ⟨λe=>?_,V⟩ (λj d=>?_) (λm I=>?_) (λj y a p o T=>?_) w (λj y a z v=>?_) (.inl ⟨rfl,by rw[n]⟩) (h.BG t) h.res
 .rw[C];split
  .rename_i e;subst e;rw[E u L,o6 hs]
  .rfl
 .have:=G.1;unfold C7 at this ⊢;rw[l,n];exact this
 .rw[l,b]at e;cases e
 .rw[C]at d ⊢;split at d
  .rename_i e;subst e;rw[if_pos rfl];rcases F with⟨e,c⟩|⟨e,c⟩|e
   .rw[e];exact⟨λ_=>⟨c,λe5=>by rw[l,b]at e5;cases e5⟩,λe5=>bL,λe5=>bL⟩
   .rw[e];exact⟨λe5=>bL,λ_=>c,λe5=>bL⟩
   .rw[e]at d ⊢;rw[<-o6 hs]at d ⊢;obtain⟨-,y,a,g⟩:=h.sh i t d;rw[f]at a;cases a;exact keep _ _ g
  .rename_i e;rw[if_neg e];obtain⟨-,y,a,g⟩:=h.sh j t d;rw[f]at a;cases a;exact keep _ _ g
 .have tC:m∈A.all:=by
   rcases Dd (new:=[]) hs (by simp) (show m∈({A with ss:=A.ss.set i (q,s.2)}:aB).all from I)with e|e
   .exact e
   .cases e
  refine .inl ⟨tC,λe=>?_⟩;obtain⟨-,-,-,y,a,N,O,Q,R,B,S⟩:=h.ms m tC;rw[e]at a B;rw[f]at a
  cases a;refine⟨λe=>?_,λe=>?_,λe=>?_,λe=>absurd (R e) P,λe=>?_,λe=>absurd (S e).1 P⟩
  .rw[N e]at b;cases b
  .rw[(O e).1]at b;cases b
  .rw[(Q e).1]at b;cases b
  .rcases B e with r|r
   .exact .inl<|by rw[n];exact r
   .exact absurd r.1 P
 .rcases W j y a with⟨rfl,rfl⟩|⟨e,a⟩
  .rcases H p o T with r|r
   .exact .inl ⟨s,hs,r⟩
   .exact .inr r
  .exact .inl ⟨y,a,o⟩
 .refine IP f w ?_;rcases W j y a with⟨rfl,rfl⟩|⟨e,a⟩
  .have hz':z∈q.aM:=v;rw[M]at hz';exact h.val _ s hs z hz'
  .exact h.val j y a z v
end
def aB.QD(A:aB)(m:bt):Prop:=m.Ok/\m.src<=A.ss.length/\m.dst<=A.ss.length/\∃x,A.ds[m.aP-1]?=some x/\sU (A.c.tx m.aP) (A.mF (m.src-1) m.aP) x m
def core(s:ag × List bt):List (ByteArray × ByteArray) × List (Nat × ft) × List ((Nat × ByteArray) × aK):=(s.1.aM,s.1.ai,s.1.holds)
section
variable{A A':aB}
theorem Jv.move(h:Jv A)(a:A'.ds=A.ds)(f:A'.ord=A.ord)(b:∀u,A'.c.tx u=A.c.tx u)(B:A'.c.next=A.c.next)(er:A'.c.res=[])(l:A'.ss.length=A.ss.length)(g:∀i:Nat,(A'.ss[i]?).map core=(A.ss[i]?).map core)(C:∀m∈A'.all,m∈A.all\/A.QD m):Jv A':=by
 have d:∀(i:Nat) (s':ag×List bt),A'.ss[i]?=some s'->∃s,A.ss[i]?=some s/\s'.1.aM=s.1.aM/\s'.1.ai=s.1.ai/\s'.1.holds=s.1.holds:=λi s' w=>by
  have:=g i;rw[w]at this;cases e:A.ss[i]? with
  |none=>rw[e]at this;cases this
  |some s=>
   rw[e]at this;simp only[Option.map_some,core,Option.some.injEq,Prod.mk.injEq]at this;exact⟨s,rfl,this.1,this.2.1,this.2.2⟩
 have G:∀i t,A'.mF i t=A.mF i t:=λi t=>by
  unfold aB.mF;cases e:A'.ss[i]? with
  |none=>
   have:=g i;rw[e]at this;cases z:A.ss[i]? with
   |none=>rfl
   |some s=>rw[z]at this;cases this
  |some s'=>
   obtain⟨s,hs,-,c,-⟩:=d i s' e;rw[hs];simp only[Option.map_some,Option.getD_some];unfold ag.aP;rw[c]
 refine⟨by rw[a];exact h.ids,by rw[B,a];exact h.Nf,λt c=>?_,λj x o=>?_,λi t n=>?_,λm E=>?_,λi s' w p r D=>?_,λi s' w y v=>?_,by rw[a,f];exact h.ord,λt k=>?_,er⟩
 .rw[b]at c;rw[a];exact h.own t c
 .rw[a]at o;rw[b,l];exact h.st j x o
 .rw[G]at n ⊢;rw[a,b];exact h.sh i t n
 .rw[a,b,G,l];obtain q|q:=C m E
  .exact h.ms m q
  .exact q
 .obtain⟨s,hs,-,-,hh⟩:=d i s' w;rw[hh]at r;rw[a];exact h.ZA i s hs p r D
 .obtain⟨s,hs,hv,-,-⟩:=d i s' w;rw[hv]at v;rw[a,f];exact h.val i s hs y v
 .rw[b,l];exact h.BG t k
theorem Jv.bC(h:Jv A){b:List bt}(hb:∀m∈b,m∈A.all):Jv {A with bC:=b}:=by
 refine h.move (A':={A with bC:=b}) rfl rfl (λ_=>rfl) rfl h.res rfl (λ_=>rfl) λm a=>.inl ?_;unfold aB.all at a hb ⊢;simp only[zzo]at a hb ⊢;obtain(a|a)|a:=a
 .exact hb m a
 .exact .inl<|.inr a
 .exact .inr a
theorem Jv.send(h:Jv A)(i:Nat):Jv (A.send i):=by
 cases i with
 |zero=>
  refine h.move (A':=A.send 0) rfl rfl (λ_=>rfl) rfl h.res rfl (λ_=>rfl) λm a=>.inl ?_;unfold aB.all at a ⊢;simp only[aB.send,cY,List.map_nil,List.append_nil,zzo]at a ⊢;exact a
 |succ i=>
  cases e:A.ss[i]? with
  |none=>
   have:A.send (i+1)=A:=by simp only[aB.send,e]
   rw[this];exact h
  |some s=>
   have:A.send (i+1)={A with bC:=A.bC++s.2,ss:=A.ss.set i (s.1,[])}:=by simp only[aB.send,e]
   rw[this];refine h.move rfl rfl (λ_=>rfl) rfl h.res bR (λj=>?_) λm a=>.inl ?_
   .show((A.ss.set i (s.1,[]))[j]?).map core=_;by_cases b:i=j
    .subst b;rw[List.getElem?_set_self (zzd.1 e).1,e];rfl
    .rw[List.getElem?_set_ne b]
   .unfold aB.all at a ⊢;simp only[zzo]at a ⊢;obtain((a|a)|a)|a:=a
    .exact .inl<|.inl a
    .exact .inr<|List.mem_flatMap.2 ⟨s,zzh e,a⟩
    .exact .inl<|.inr a
    .rcases uq a with q|q
     .exact .inr q
     .cases q
theorem Jv.more(h:Jv A){new:List bt}{c':aU}{o:List (Nat×Nat×Nat)}(e:∀u,c'.tx u=A.c.tx u)(b:c'.next=A.c.next)(d:c'.res=[])(f:c'.out=A.c.out++o)(hn:∀m∈new++cY o,A.QD m):Jv {A with c:=c',co:=A.co++new}:=by
 refine h.move rfl rfl e b d rfl (λ_=>rfl) λm a=>?_;unfold aB.all at a ⊢;rw[show({A with c:=c',co:=A.co++new}:aB).c.out=A.c.out++o from f]at a;simp only[cY,List.map_append,zzo]at a hn ⊢;obtain(a|(a|a)|a|a)|a:=a
 .exact .inl<|.inl<|.inl a
 .exact .inl<|.inl<|.inr<|.inl a
 .exact .inr<|hn m<|.inl a
 .exact .inl<|.inl<|.inr<|.inr a
 .exact .inr<|hn m<|.inr a
 .exact .inl<|.inr a
theorem Jv.ans{m:bt}(h:Jv A)(f:A.QD m)(i:m.kind=8):Jv {A with co:=A.co++Fq A.c m.src m.aP}:=by
 obtain⟨b,d,g,x,c,-⟩:=f;have t:=b.sound;unfold eX at t;simp at t;have G:=(h.st _ x c).1;rw[show m.aP-1+1=m.aP by omega]at G;refine h.more (c':=A.c) (o:=[]) (λ_=>rfl) rfl h.res (by simp) λy a=>?_;simp only[cY,List.map_nil,List.append_nil]at a;unfold Fq at a;split at a
 .cases a
 .rename_i hne;simp at a;subst a;unfold kS at hne ⊢;split
  .rename_i e0;refine⟨⟨by simp[eX];omega,b.id⟩,zzs _,d,x,c,?_⟩;refine⟨λe=>?_,λe=>?_,λe=>?_,λe=>?_,λ_=>?_,λe=>?_⟩<;>first|(simp at e;done)|skip
   obtain q|q|q|q:=G
   .omega
   .omega
   .omega
   .exact q.2.imp id λr=>⟨r.1,q.1⟩
  .rename_i e0;rw[if_neg e0]at hne;split
   .rename_i e6;refine⟨⟨by simp[eX];omega,b.id⟩,zzs _,d,x,c,?_⟩;refine⟨λe=>?_,λe=>?_,λe=>?_,λ_=>?_,λe=>?_,λe=>?_⟩<;>first|(simp at e;done)|skip
    obtain q|q|q|q:=G<;>first|omega|exact q.2.2
   .rename_i e6;rw[if_neg e6]at hne;exact absurd rfl hne
end
section
variable{A:aB}
theorem Jv.begun{c':aU}{d:aS}(h:Jv A)(I:d.id=A.ds.length+1/\d.asked=false/\d.lost=false/\d.what=0/\d.seq.length=A.ss.length+1)(f:∀u,c'.tx u=if u=A.c.next then ⟨4,fL,0⟩ else A.c.tx u)(F:c'.next=A.c.next+1)(G:c'.res=[])(H:c'.out=A.c.out):Jv { A with c:=c',ds:=A.ds++[d] }:=by
 obtain⟨C,r,Q,D,E⟩:=I
 have hold:∀(j:Nat) (x:aS),A.ds[j]?=some x->(A.ds++[d])[j]?=some x:=λj x a=>by
  rw[List.getElem?_append_left (zzd.1 a).1];exact a
 have W:∀(j:Nat) (x:aS),(A.ds++[d])[j]?=some x->A.ds[j]?=some x\/j=A.ds.length/\x=d:=λj x a=>by
  rw[List.getElem?_append] at a;split at a
  .exact .inl a
  .right;rename_i e;have K:=(zzd.1 a).1;simp at K;have:j=A.ds.length:=by omega
   subst this;simp at a;exact⟨rfl,a.symm⟩
 have X:∀t x,A.ds[t-1]?=some x->1<=t->t≠A.c.next:=λt x b w e=>by
  have:=(zzd.1 b).1;have:=h.Nf;omega
 refine⟨λj x a=>?_,?_,λt w=>?_,λj x a=>?_,λi t J=>?_,λm n=>?_,λi s hs p L N=>?_,λi s hs y M=>Mk d (h.val i s hs y M),⟨λj x a g=>?_,λj a=>?_,h.ord.2.2⟩,λt k=>?_,G⟩
 .rcases W j x a with q|⟨rfl,rfl⟩
  .exact h.ids j x q
  .exact C
 .show c'.next=(A.ds++[d]).length+1;rw[F,h.Nf];simp
 .show 1<=t/\t<=(A.ds++[d]).length;have o:(c'.tx t).state≠0:=w;rw[f] at o;rw[zzi,List.length_singleton];split at o
  .rename_i e;have:=h.Nf;omega
  .have:=h.own t o;omega
 .show C7 (c'.tx (j+1)).state x/\_;rw[f];rcases W j x a with q|⟨rfl,rfl⟩
  .have:=(zzd.1 q).1;have:=h.Nf;rw[if_neg (by omega)];exact h.st j x q
  .rw[if_pos h.Nf.symm];exact⟨.inl ⟨rfl,r,D⟩,λe=>(by rw[r] at e;cases e),E⟩
 .have AV:A.mF i t≠0:=J;obtain⟨v,x,b,l⟩:=h.sh i t AV;refine⟨v,x,hold _ x b,?_⟩;show wY (c'.tx t) _ _ _;rw[f,if_neg (X t x b v)];exact l
 .have tC:m∈A.all:=by
   unfold aB.all at n ⊢;rw[show({ A with c:=c',ds:=A.ds++[d] }:aB).c.out=A.c.out from H] at n;exact n
  obtain⟨z,O,P,x,b,l⟩:=h.ms m tC;have B:=z.sound;unfold eX at B;simp at B;refine⟨z,O,P,x,hold _ x b,?_⟩;show sU (c'.tx m.aP) _ _ _;rw[f,if_neg (X _ x b (by omega))];exact l
 .obtain⟨x,b,hw⟩:=h.ZA i s hs p L N;exact⟨x,hold _ x b,hw⟩
 .rcases W j x a with q|⟨rfl,rfl⟩
  .exact h.ord.1 j x q g
  .omega
 .obtain⟨x,b,g⟩:=h.ord.2.1 j a;exact⟨x,hold j x b,g⟩
 .show((c'.tx t).parts.getD k 0≠0->_)/\((c'.tx t).parts.getD k 0=1->(c'.tx t).state=5);rw[f];split
  .have:=vG k;exact⟨λe=>absurd this e,λe=>by rw[show(⟨4,fL,0⟩:fe).parts.getD k 0=0 from this] at e;cases e⟩
  .exact h.BG t k
theorem Jv.Yq(h:Jv A):A.c.begun.2.2=0->A.c.begun.2.1=A.ds.length+1/\Jv { A with c:=A.c.begun.1,ds:=A.ds++[⟨A.ds.length+1,List.replicate (A.ss.length+1) 0,[],false,false,0⟩] }:=by
 unfold aU.begun;split
 .intro e;simp at e
 .intro _;refine⟨h.Nf,h.begun (c':={ A.c with next:=A.c.next+1,aW:=if A.c.next=A.c.aW then A.c.aW+16 else A.c.aW,ai:=aV A.c.ai A.c.next ⟨4,fL,0⟩ }) ⟨rfl,rfl,rfl,rfl,by simp⟩ (λu=>?_) rfl h.res rfl⟩;exact um A.c A.c.next u ⟨4,fL,0⟩
end
structure iB(n:Nat)(A:aB):Prop where
 ds:A.ds.length<=n
 wr:∀x∈A.ds,x.writes.length<=n
 vl:∀(i:Nat) (s:ag × List bt),A.ss[i]?=some s->s.1.aM.length<=100*n
section
variable{A A1 E:aB}{n t:Nat}{x:aS}
theorem IQ{m:Nat}:∀{l:List Nat},l.Nodup->(∀j∈l,j<m)->l.length<=m:=by
 induction m with
 |zero =>
  intro l _ hb
  cases l with
  |nil=>exact zzc _
  |cons j l=>exact absurd (hb j (List.mem_cons_self ..)) (Nat.not_lt_zero _)
 |succ m ih =>
  intro l h hb
  have a:=ih (h.erase m) (λj b=>by
   have q:=(h.mem_erase_iff).1 b;have:=hb j q.2;have:=q.1
   omega)
  by_cases e:m∈l
  .rw[List.length_erase_of_mem e] at a;omega
  .rw[List.erase_of_not_mem e] at a;omega
theorem Jv.De(h:Jv A):A.ord.length<=A.ds.length:=IQ h.ord.2.2 λj a=>by
 obtain⟨x,b,-⟩:=h.ord.2.1 j a;exact(zzd.1 b).1
theorem IU{ds:List aS}(h:∀(j:Nat) (x:aS),ds[j]?=some x->x.id=j+1):X9 ds:=λi j x y a b e=>by
 have:=h i x a;have:=h j y b;omega
theorem Jv.six(h:Jv A):∀x∈A.ds,(A.c.tx x.id).state=6->x.what=5:=λx b e=>by
 obtain⟨j,a⟩:=zzB.1 b;rw[h.ids j x a] at e;rcases (h.st j x a).1 with q|q|q|q<;>omega
theorem IV(i:∀(j:Nat) (x:aS),A.ds[j]?=some x->x.id=j+1)(hb:iB n A)(hn:n<=500000):Vo A.ds:=λx a=>by
 obtain⟨j,h⟩:=zzB.1 a;have:=i j x h;have:=(zzd.1 h).1;have:=hb.wr x a;have:=hb.ds;omega
theorem Jv.jX(h:Jv A)(hb:iB n A)(hn:n<=500000):Looks A A where
 ok:=⟨by rw[h.res];exact .nil _ _,IU h.ids,h.six,h.val⟩
 eq:=by rw[<-h.res]
 len:=by rw[h.res];have:=h.De;have:=hb.ds;simp;omega
 qE:=IV h.ids hb hn
 T8:=λi s hs=>by have:=hb.vl i s hs;omega
theorem Jv.AD{wh:Nat}(h:Jv E)(hb:iB n A1)(hn:n<=500000)(k:1<=t)(a:A1.ds[t-1]?=some x)(M:∀(j:Nat) (y:aS),A1.ds[j]?=some y->y.id=j+1)(b:x.what=0)(w:wh=5/\x.asked=true\/wh=6)(r:A1.c.res=[(t,wh)])(o:A1.ord.length<=A1.ds.length)
  (e:E={ A1 with ds:=A1.ds.set (t-1) { x with what:=wh },ord:=if wh=5 then A1.ord++[t-1] else A1.ord,c:={ A1.c with res:=[] } }):Looks A1 E where
 ok:=by
  have d:gL A1.ds (t-1) wh=E.ds:=by unfold gL;rw[a];simp only[b,if_true];rw[e]
  have f:iT A1.ds A1.ord (t-1) wh=E.ord:=by
   unfold iT;rw[a,e];simp only[b,true_and]
  refine⟨?_,IU M,λy g q=>h.six y g (by rw[e];exact q),λi s hs=>h.val i s (by rw[e];exact hs)⟩;rw[r];exact .cons a (by have:=M _ x a;omega) (.inl b) w (by rw[d,f];exact .nil _ _)
 eq:=by rw[e]
 len:=by rw[r];have:=hb.ds;simp;omega
 qE:=IV M hb hn
 T8:=λi s hs=>by have:=hb.vl i s hs;omega
theorem iB.mono{m:Nat}(h:iB n A)(b:n<=m):iB m A:=⟨by have:=h.ds;omega,λx a=>by have:=h.wr x a;omega,λi s hs=>by have:=h.vl i s hs;omega⟩
theorem iB.what{wh:Nat}(h:iB n A)(a:A.ds[t-1]?=some x){c:aU}{o:List Nat}:iB n { A with c:=c,ds:=A.ds.set (t-1) { x with what:=wh },ord:=o } :=
 ⟨by simp;exact h.ds,λy b=>by
  rcases List.mem_or_eq_of_mem_set b with q|q
  .exact h.wr y q
  .rw[q];exact h.wr x (zzh a),h.vl⟩
end
section
variable{A:aB}{n t k:Nat}{x:aS}
theorem Jv.QE{c1:aU}{new:List (Nat×Nat×Nat)}(h:Jv A)(hb:iB n A)(hn:n<=500000)(d:1<=t)(a:A.ds[t-1]?=some x)(hs:(A.c.tx t).state=4\/(A.c.tx t).state=5)(k:A.ss.length<=8)(e:∀u,c1.tx u=if u=t then A0 else A.c.tx u)(f:c1.next=A.c.next)(g:c1.out=A.c.out++new)(i:c1.res=[(t,6)])(O:∀y∈new,y.1=t/\y.2.2=6/\(A.c.tx t).parts.getD y.2.1 0≠0):∃b,Looks {A with c:=c1} b/\Jv b/\iB n b:=by
 have m:=(zzd.1 a).1;have l:=hb.ds;have G:=(h.st _ x a).1;rw[show t-1+1=t by omega]at G;have j:=h.abort (c':={c1 with res:=[]}) d a hs bL k e f g rfl O;refine⟨_,j.AD ⟨hb.ds,hb.wr,hb.vl⟩ hn d a h.ids ?_ (.inr rfl) i h.De rfl,j,hb.what a⟩;obtain q|q|q|q:=G<;>omega
theorem Jv.Kl{c1:aU}{v s:Nat}{ps:List Nat}{new:List (Nat×Nat×Nat)}(h:Jv A)(hb:iB n A)(hn:n<=500000)(d:1<=t)(a:A.ds[t-1]?=some x)(p:(A.c.tx t).parts.getD s 0=1)(l:v=2/\A.mF (s-1) t≠1\/v=4/\A.mF (s-1) t=0)(z:ps=(A.c.tx t).parts.set s v)(H:ps.any l_=false)(k:A.ss.length<=8)
  (e:(∀u,c1.tx u=if u=t then {A.c.tx t with parts:=ps,state:=6}else A.c.tx u)\/(∀u,c1.tx u=if u=t then A0 else A.c.tx u)/\ps.any jR=false) (f:c1.next=A.c.next) (g:c1.out=A.c.out++new) (i:c1.res=[(t,5)]) (O:∀y∈new,y.1=t/\y.2.2=5/\ps.getD y.2.1 0≠0):∃b,Looks {A with c:=c1} b/\Jv b/\iB n b:=by
 have r:=(zzd.1 a).1;have o:=hb.ds;have G:=(h.st _ x a).1;rw[show t-1+1=t by omega]at G;have m:=(h.BG t s).2 p;have j:=h.Yp (c':={c1 with res:=[]}) d a p l z H bL k e f g rfl O;have V:x.asked=true/\x.what=0:=by obtain q|q|q|q:=G<;>first|omega|exact q.2
 exact⟨_,j.AD ⟨hb.ds,hb.wr,hb.vl⟩ hn d a h.ids V.2 (.inl ⟨rfl,V.1⟩) i h.De rfl,j,hb.what a⟩
theorem ru{q:Nat->Bool}{ps:List Nat}{t w:Nat}{y:Nat×Nat×Nat}(a:y∈(dK q ps).map λk=>(t,k,w)):y.1=t/\y.2.2=w/\q (ps.getD y.2.1 0)=true:=by
 obtain⟨k,h,rfl⟩:=zzq.1 a;exact⟨rfl,rfl,(rq.1 h).2⟩
theorem Jv.kh(h:Jv A)(hb:iB n A)(hn:n<=500000)(f:A.ss.length<=8){m:bt}(o:A.QD m)(l:m.kind=2\/m.kind=3\/m.kind=4):∃d,Looks {A with c:=A.c.kT m.aP m.src m.kind} d/\Jv d/\iB n d:=by
 obtain⟨q,w,z,x,b,-,r,s,-,-,-⟩:=o;have g:=q.sound;unfold eX at g;simp at g;have t:1<=m.aP:=bL;unfold aU.kT;split
 .exact⟨A,h.jX hb hn,h,hb⟩
 .rename_i e1;have p:(A.c.tx m.aP).parts.getD m.src 0=1:=by
   by_cases e:(A.c.tx m.aP).parts.getD m.src 0=1
   .exact e
   .exact absurd e e1
  have j:=(h.BG _ _).2 p;split
  .refine h.QE hb hn t b (.inr j) f (λu=>?_) rfl rfl ?_ λy a=>?_
   .exact vF A.c m.aP u
   .show A.c.res++[(m.aP,6)]=_;rw[h.res];rfl
   .obtain⟨q1,q2,q3⟩:=ru a;refine⟨q1,q2,λe=>?_⟩;rw[lU]at q3;split at q3
    .cases q3
    .rw[e]at q3;cases q3
  .rename_i e3;have v:m.kind=2/\A.mF (m.src-1) m.aP≠1\/m.kind=4/\A.mF (m.src-1) m.aP=0:=by
    obtain e|e|e:=l
    .exact .inl ⟨e,(r e).2⟩
    .exact absurd e e3
    .exact .inr ⟨e,(s e).2⟩
   split
   .have hj:=h.count t b p v (λu=>um A.c m.aP u _) rfl rfl h.res;have i:iB n {A with c:={A.c with ai:=aV A.c.ai m.aP {A.c.tx m.aP with parts:=(A.c.tx m.aP).parts.set m.src m.kind}}}:=⟨hb.ds,hb.wr,hb.vl⟩;exact⟨_,hj.jX i hn,hj,i⟩
   .rename_i e4;have H:((A.c.tx m.aP).parts.set m.src m.kind).any l_=false:=by simpa using e4
    split
    .refine h.Kl hb hn t b p v rfl H f (.inl λu=>?_) rfl rfl ?_ λy a=>?_
     .exact um A.c m.aP u _
     .show A.c.res++[(m.aP,5)]=_;rw[h.res];rfl
     .obtain⟨q1,q2,q3⟩:=ru a;refine⟨q1,q2,λe=>?_⟩;rw[e]at q3
      cases q3
    .rename_i e5;have a:((A.c.tx m.aP).parts.set m.src m.kind).any jR=false:=by simpa using e5
     refine h.Kl (new:=[]) hb hn t b p v rfl H f (.inr ⟨λu=>?_,a⟩) rfl (by simp) ?_ (by simp)
     .exact vF A.c m.aP u
     .show A.c.res++[(m.aP,5)]=_;rw[h.res];rfl
theorem Jv.ack(h:Jv A)(hb:iB n A)(hn:n<=500000){m:bt}(l:A.QD m)(k:m.kind=7):∃a,Looks {A with c:=A.c.kn m.aP m.src} a/\Jv a/\iB n a:=by
 obtain⟨o,q,r,x,d,-,-,-,-,-,f⟩:=l;have g:=o.sound;unfold eX at g;simp at g;have t:1<=m.aP:=bL;unfold aU.kn;split
 .exact⟨A,h.jX hb hn,h,hb⟩
 .rename_i e1;have b:(A.c.tx m.aP).state=6:=by
   by_cases e:(A.c.tx m.aP).state=6
   .exact e
   .exact absurd (.inl e) e1
  have p:(A.c.tx m.aP).parts.getD m.src 0=2:=by
   by_cases e:(A.c.tx m.aP).parts.getD m.src 0=2
   .exact e
   .exact absurd (.inr e) e1
  split
  .have j:=h.done t d b p (f k).2 rfl (.inl λu=>um A.c m.aP u _) rfl rfl h.res;have i:iB n {A with c:={A.c with ai:=aV A.c.ai m.aP {A.c.tx m.aP with parts:=(A.c.tx m.aP).parts.set m.src 5}}}:=⟨hb.ds,hb.wr,hb.vl⟩;exact⟨_,j.jX i hn,j,i⟩
  .rename_i e4;have j:=h.done t d b p (f k).2 rfl (.inr ⟨λu=>vF A.c m.aP u,by simpa using e4⟩) rfl rfl h.res;have i:iB n {A with c:={A.c with ai:=aT A.c.ai m.aP}}:=⟨hb.ds,hb.wr,hb.vl⟩;exact⟨_,j.jX i hn,j,i⟩
end
def Ue(A:aB):Prop:=∀(i:Nat) (s:ag × List bt),A.ss[i]?=some s->(∀t,(s.1.aP t).state<=3)/\s.1.holds.length<=100
theorem QF(t:Nat):∀(H:List ((Nat × ByteArray) × aK)) (V:List (ByteArray × ByteArray)),(H.foldl (oT t) V).length<=V.length+H.length:=by
 intro H
 induction H with
 |nil=>intro V;simp
 |cons p H ih =>
  intro V;rw[List.foldl_cons,zzr];have h:=ih (oT t V p)
  have a:(oT t V p).length<=V.length+1:=by
   unfold oT;split
   .split
    .unfold aV;rw[zzr];have:=kC V p.1.2;omega
    .split
     .have:=kC V p.1.2;omega
     .omega
   .omega
  omega
section
variable{A:aB}{n i:Nat}{s s':ag × List bt}
theorem iB.jg(hb:iB n A)(v:s'.1.aM.length<=100*(n+1)):iB (n+1) { A with ss:=A.ss.set i s' } where
 ds:=Nat.le_succ_of_le hb.ds
 wr:=λx h=>by have:=hb.wr x h;omega
 vl:=λj y a=>by
  have d:(A.ss.set i s')[j]?=some y:=a;by_cases e:i=j
  .subst e;have l:=(zzd.1 d).1;rw[List.getElem?_set_self (by simpa using l)] at d
   cases d;exact v
  .rw[List.getElem?_set_ne e] at d;have:=hb.vl j y d;omega
theorem Mt(q:ag)(t:Nat):(q.kh t).1.aM=q.aM:=by
 unfold ag.kh
 repeat' split
 all_goals rfl
theorem Jv.Uf(h:Jv A)(hb:iB n A)(hn:n<500000)(p:A.ss.length<=8)(T:Ue A){m:bt}(d:A.QD m)(hs:A.ss[i]?=some s)(q:m.dst=i+1):
  Looks { A with ss:=A.ss.set i (fE (i+1) s.1 s.2 m) } { A with ss:=A.ss.set i (fE (i+1) s.1 s.2 m) }/\Jv { A with ss:=A.ss.set i (fE (i+1) s.1 s.2 m) }/\iB (n+1) { A with ss:=A.ss.set i (fE (i+1) s.1 s.2 m) }:=by
 obtain⟨o,g,l,x,a,k,-,-,f,-,-⟩:=d;have c:=o.sound;unfold eX at c;simp at c;have t:1<=m.aP:=by omega
 have X:m.src=0:=by omega
 have K:=(zzd.1 hs).1
 have y:∀s':ag × List bt,Jv { A with ss:=A.ss.set i s' }->s'.1.aM.length<=100*(n+1)->Looks { A with ss:=A.ss.set i s' } { A with ss:=A.ss.set i s' }/\Jv { A with ss:=A.ss.set i s' }/\iB (n+1) { A with ss:=A.ss.set i s' }:=λs' j v=>by
  have b:=hb.jg (i:=i) v;exact⟨j.jX b (by omega),j,b⟩
 have M:=hb.vl i s hs;unfold fE;rw[X];split
 .rename_i e;exact y _ (h.pJ t o.id a hs (k e) (by omega)) (by simp only[];rw[Mt];omega)
 .split
  .rename_i e;refine y _ (h.comm t o.id a hs (f e) (by omega) ((T i s hs).1 _)) ?_;simp only[];unfold ag.dD;split
   .show(s.1.holds.foldl (oT m.aP) s.1.aM).length<=_;have:=QF m.aP s.1.holds s.1.aM;have:=(T i s hs).2;omega
   .omega
  .exact y _ (h.Xp t a hs) (by show s.1.aM.length<=_;omega)
end
section
variable{A:aB}{n:Nat}
theorem Jv.recv(h:Jv A)(hb:iB n A)(hn:n<500000)(f:A.ss.length<=8)(T:Ue A){m:bt}(b:A.QD m):A.Comes m/\∃a,Looks (A.recv m) a/\Jv a/\iB (n+1) a:=by
 have C:=b;obtain⟨o,u,k,x,l,w,z,B,r,D,E⟩:=C;have t:=o.sound;unfold eX at t;simp at t;refine⟨⟨o,k,λe=>by omega,λe=>by omega,λi s v hs e5=>?_⟩,?_⟩
 .have:=h.won l hs (r e5) (by omega) ((T i s hs).1 _);unfold ag.fC;rw[if_pos (this.imp id (·.1))]
 .unfold aB.recv;split
  .rename_i e;unfold gj;split
   .rename_i e7;obtain⟨a,q,c,d⟩:=h.ack hb (by omega) b e7;exact⟨a,q,c,d.mono (by omega)⟩
   .split
    .rename_i e8;have j:=h.ans b e8;have g:iB (n+1) { A with co:=A.co++Fq A.c m.src m.aP }:=⟨Nat.le_succ_of_le hb.ds,λy p=>Nat.le_succ_of_le (hb.wr y p),λi s hs=>zzk (hb.vl i s hs) (by omega)⟩;exact⟨_,j.jX g (by omega),j,g⟩
    .obtain⟨a,q,c,d⟩:=h.kh hb (by omega) f b (by omega);exact⟨a,q,c,d.mono (by omega)⟩
  .rename_i i e;split
   .rename_i e';rw[List.getElem?_eq_none_iff] at e';omega
   .rename_i s hs;exact⟨_,h.Uf hb hn f T b hs e⟩
end
section
variable{A:aB}{i n:Nat}{s s':ag × List bt}{new:List bt}
theorem Jv.abz(h:Jv A)(hs:A.ss[i]?=some s)(n:∀u,(s'.1.aP u).state=(s.1.aP u).state\/(s'.1.aP u).state=0)(q:s'.2=s.2++new)(O:∀m∈new,m.kind=8/\m.src=i+1/\m.dst=0/\m.Ok/\(s.1.aP m.aP).state≠0)(o:∀p∈s'.1.holds,p∈s.1.holds)(v:s'.1.aM=s.1.aM):Jv { A with ss:=A.ss.set i s' }:=by
 have K:=(zzd.1 hs).1
 have W:∀(j:Nat) (y:ag × List bt),(A.ss.set i s')[j]?=some y->(i=j/\y=s')\/(i≠j/\A.ss[j]?=some y):=λj y a=>by
  by_cases e:i=j
  .subst e;rw[List.getElem?_set_self K] at a
   cases a;exact .inl ⟨rfl,rfl⟩
  .rw[List.getElem?_set_ne e] at a;exact .inr ⟨e,a⟩
 have G:∀j t,({ A with ss:=A.ss.set i s' }:aB).mF j t=A.mF j t\/({ A with ss:=A.ss.set i s' }:aB).mF j t=0:=λj t=>by
  rw[rr hs];split
  .rename_i e;subst e;rw[o6 hs];exact n t
  .exact .inl rfl
 refine⟨h.ids,h.Nf,h.own,λj x c=>?_,λj t c=>?_,λm d=>?_,λj y a p l r=>?_,λj y a z g=>?_,h.ord,λt k=>?_,h.res⟩
 .show _/\_/\x.seq.length=(A.ss.set i s').length+1;rw[List.length_set];exact h.st j x c
 .rcases G j t with e|e
  .rw[e] at c ⊢;exact h.sh j t c
  .exact absurd e c
 .show _/\m.src<=(A.ss.set i s').length/\m.dst<=(A.ss.set i s').length/\_;rw[List.length_set];rcases Dd hs q d with d|d
  .obtain⟨q1,q2,q3,x,f,k1,k2,k4,k5,k6,k7⟩:=h.ms m d;refine⟨q1,q2,q3,x,f,k1,λe=>?_,λe=>?_,k5,k6,λe=>?_⟩
   .refine⟨(k2 e).1,?_⟩;have:=(k2 e).2;rcases G (m.src-1) m.aP with b|b <;> rw[b]
    .exact this
    .decide
   .refine⟨(k4 e).1,?_⟩;rcases G (m.src-1) m.aP with b|b <;> rw[b];exact(k4 e).2
   .refine⟨(k7 e).1,?_⟩;rcases G (m.src-1) m.aP with b|b <;> rw[b];exact(k7 e).2
  .obtain⟨q1,q2,q3,q4,q5⟩:=O m d;rw[<-o6 hs] at q5;obtain⟨-,x,f,-⟩:=h.sh i m.aP q5;exact⟨q4,by omega,by omega,x,f,sU.none (by omega)⟩
 .rcases W j y a with⟨rfl,rfl⟩|⟨e,a⟩
  .exact h.ZA _ s hs p (o p l) r
  .exact h.ZA j y a p l r
 .rcases W j y a with⟨rfl,rfl⟩|⟨e,a⟩
  .rw[v] at g;exact h.val _ s hs z g
  .exact h.val j y a z g
 .show(_->1<=k/\k<=(A.ss.set i s').length)/\_;rw[List.length_set];exact h.BG t k
theorem Jv.Yr(h:Jv A)(hb:iB n A)(hn:n<500000)(hs:A.ss[i]?=some s)(e:∀u,(s'.1.aP u).state=(s.1.aP u).state\/(s'.1.aP u).state=0)(o:s'.2=s.2++new)(O:∀m∈new,m.kind=8/\m.src=i+1/\m.dst=0/\m.Ok/\(s.1.aP m.aP).state≠0)(b:∀p∈s'.1.holds,p∈s.1.holds)(v:s'.1.aM=s.1.aM):Looks { A with ss:=A.ss.set i s' } { A with ss:=A.ss.set i s' }/\Jv { A with ss:=A.ss.set i s' }/\iB (n+1) { A with ss:=A.ss.set i s' }:=by
 have j:=h.abz hs e o O b v;have a:=hb.jg (i:=i) (s':=s') (by rw[v];have:=hb.vl i s hs;omega);exact⟨j.jX a (by omega),j,a⟩
end
theorem IW{L:List (Nat × ft)}{q:Nat × ft->Bool}(d:∀p∈L,∀r∈L,p.1=r.1->p=r)(u:Nat):((ak (L.filter q) u).getD ⟨0,0,0⟩).state=((ak L u).getD ⟨0,0,0⟩).state\/((ak (L.filter q) u).getD ⟨0,0,0⟩).state=0:=by
 unfold ak
 cases e:(L.filter q).find? λp=>decide (p.1=u) with
 |none=>exact .inr rfl
 |some p =>
  left;have b:=zzp.1 (List.mem_of_find?_eq_some e);have h:=List.find?_some e;simp at h
  cases a:L.find? λp=>decide (p.1=u) with
  |none =>
   have:=List.find?_eq_none.1 a p b.1;simp[h] at this
  |some r =>
   have f:=List.mem_of_find?_eq_some a;have c:=List.find?_some a;simp at c;rw[d p b.1 r f (by rw[h,c])]
theorem wT.snoc{r:List (Nat×Nat)}{K:List aS}(h:wT r ds ord K D)(a:K[k]?=some x)(b:x.id=t)(c:x.what=0\/x.what=wh)(d:wh=5/\x.asked=true\/wh=6):wT (r++[(t,wh)]) ds ord (gL K k wh) (iT K D k wh):=by
 induction h with
 |nil ds ord=>exact .cons a b c d<|.nil _ _
 |cons a1 a2 a3 a4 _ ih=>exact .cons a1 a2 a3 a4<|ih a
abbrev aU.bare(c:aU):aU:={ c with res:=[] }
section
variable{A:aB}{n:Nat}
structure Tk(A:aB)(c:aU)(A2:aB)(k:Nat):Prop where
 res:wT c.res A.ds A.ord A2.ds A2.ord
 eq:A2={ A with c:=c.bare,ds:=A2.ds,ord:=A2.ord }
 jv:Jv A2
 cnt:c.res.length<=k
 pS:∀{n},iB n A->iB n A2
theorem QD.out{A:aB}{c:aU}{t k w:Nat}(h:Jv A)(d:∀u,A.c.tx u=c.tx u)(f:A.ss.length<=8)(l:A.ds.length<18446744073709551616)(hs:(c.tx t).state=5/\w=1\/(c.tx t).state=6/\w=5)(a:(c.tx t).parts.getD k 0≠0):A.QD ⟨w,0,k,t⟩:=by
 rw[<-d]at hs a;have o:=h.own t bL;have p:=(h.BG t k).1 a;have⟨x,b⟩:∃x,A.ds[t-1]?=some x:=⟨_,zzg bL⟩;have G:=(h.st _ x b).1;rw[show t-1+1=t by omega]at G;refine⟨⟨by simp[eX];omega,by show t<_;omega⟩,zzs _,p.2,x,b,λe=>?_,λe=>?_,λe=>?_,λe=>?_,λe=>?_,λe=>?_⟩<;>simp only[]at e
 .rcases G with q|q|q|q<;>first|omega|exact q.2.1
 .omega
 .omega
 .rcases G with q|q|q|q<;>first|omega|exact q.2.2
 .omega
 .omega
theorem Tk.more{a:aB}{c:aU}{k t w:Nat}{l:List Nat}(h:Tk A c a k)(i:A.ss.length<=8)(hb:a.ds.length<18446744073709551616)(hs:(c.tx t).state=5/\w=1\/(c.tx t).state=6/\w=5)(p:∀j∈l,(c.tx t).parts.getD j 0≠0):Tk A {c with out:=c.out++l.map λj=>(t,j,w)} {a with c:=aU.bare {c with out:=c.out++l.map λj=>(t,j,w)}} k:=by
 have e:=h.eq;have b:a.c=c.bare:=by rw[e]
 have g:a.ss=A.ss:=by rw[e]
 have d:∀u,a.c.tx u=c.tx u:=λu=>by rw[b];rfl
 refine⟨h.res,?_,?_,h.cnt,λhb=>?_⟩
 .rw[e]
 .have:=h.jv.more (new:=[]) (c':=aU.bare {c with out:=c.out++l.map λj=>(t,j,w)}) (o:=l.map λj=>(t,j,w)) (λu=>(d u).symm) (by rw[b]) rfl (by rw[b]) λm f=>?_
  .rw[List.append_nil]at this;exact this
  .simp only[cY,List.nil_append,List.map_map,zzq]at f;obtain⟨j,n,rfl⟩:=f;exact QD.out h.jv d (by rw[g];exact i) hb hs<|p j n
 .exact⟨(h.pS hb).ds,(h.pS hb).wr,(h.pS hb).vl⟩
theorem Tk.abort{a:aB}{c:aU}{k t:Nat}(h:Tk A c a k)(o:A.ss.length<=8)(hb:a.ds.length<18446744073709551616)(hs:(c.tx t).state=5):∃f,Tk A (c.jV t) f (k+1)/\f.ds.length=a.ds.length:=by
 have e:=h.eq;have d:a.c=c.bare:=by rw[e]
 have n:a.ss=A.ss:=by rw[e]
 have i:∀u,a.c.tx u=c.tx u:=λu=>by rw[d];rfl
 have T:(a.c.tx t).state=5:=by rw[i];exact hs
 have r:=h.jv.own t bL;have⟨x,b⟩:∃x,a.ds[t-1]?=some x:=⟨_,zzg bL⟩;have G:=(h.jv.st _ x b).1;rw[show t-1+1=t by omega]at G;have g:x.what=0:=by obtain q|q|q|q:=G<;>omega
 have p:=h.jv.abort (c':=(c.jV t).bare) (new:=(dK u_ (c.tx t).parts).map λk=>(t,k,6)) r.1 b (.inr T) bL (by rw[n];exact o) (λu=>by
   rw[d];exact vF c t u) (by rw[d];rfl) (by rw[d];rfl) rfl (λy s=>by
   have⟨v,w,j⟩:=ru s;refine⟨v,w,λe=>?_⟩;rw[i]at e;rw[e]at j
   cases j)
 have l:gL a.ds (t-1) 6=a.ds.set (t-1) {x with what:=6}:=by unfold gL;rw[b];simp only[g,if_true]
 have m:iT a.ds a.ord (t-1) 6=a.ord:=by unfold iT;rw[b];simp
 refine⟨{a with c:=(c.jV t).bare,ds:=a.ds.set (t-1) {x with what:=6}},⟨?_,?_,p,?_,λhb=>?_⟩,bR⟩
 .have:=h.res.snoc (t:=t) (wh:=6) b (by have:=h.jv.ids _ x b;omega) (.inl g)<|.inr rfl;rw[l,m]at this;exact this
 .rw[e]
 .show(c.res++[(t,6)]).length<=k+1;have:=h.cnt;simp;omega
 .exact(h.pS hb).what b
theorem IY(c:aU)(y:Nat×fe){u:Nat}(h:u≠y.1):(c.cU y).tx u=c.tx u:=by
 unfold aU.cU;split
 .split
  .have:=vF c y.1 u;rw[if_neg h]at this;exact this
  .rfl
 .split<;>rfl
theorem Tk.fold(d:A.ss.length<=8):∀(l:List<|Nat×fe) {c:aU} {b:aB} {k:Nat},Tk A c b k->b.ds.length<18446744073709551616->(l.map (·.1)).Nodup->(∀y∈l,c.tx y.1=y.2)->∃a,Tk A (l.foldl aU.cU c) a (k+l.length):=by
 intro l;induction l with
 |nil=>intro c b k h _ _ _;exact⟨b,h⟩
 |cons y l ih=>
  intro c b k h hb hn g;rw[List.foldl_cons];rw[List.map_cons,List.nodup_cons]at hn;have i:=g y<|List.mem_cons_self ..
  have G:∀z∈l,(c.cU y).tx z.1=z.2:=λz m=>by
   rw[IY c y λe=>hn.1<|by rw[<-e];exact List.mem_map_of_mem m];exact g z<|List.mem_cons_of_mem _ m
  have step:∃a,Tk A (c.cU y) a (k+1)/\a.ds.length=b.ds.length:=by
   have up:∀{c' a},Tk A c' a k->Tk A c' a (k+1):=λq=>⟨q.res,q.eq,q.jv,Nat.le_succ_of_le q.cnt,q.pS⟩
   unfold aU.cU;split
   .rename_i e5;rw[<-i]at e5;split
    .exact h.abort d hb e5
    .refine⟨_,up<|h.more d hb (.inl ⟨e5,rfl⟩) λj f e=>?_,rfl⟩;have:=(rq.1 f).2;rw[e]at this
     cases this
   .split
    .rename_i e6;rw[<-i]at e6;refine⟨_,up<|h.more d hb (.inr ⟨e6,rfl⟩) λj f e=>?_,rfl⟩;have:=(rq.1 f).2;rw[e]at this
     cases this
    .exact⟨b,up h,rfl⟩
  have⟨a,o,r⟩:=step;have⟨n,p⟩:=ih o bL hn.2 G;exact⟨n,by rw[zzr,show k+(l.length+1)=k+1+l.length by omega];exact p⟩
theorem Jv.tick(h:Jv A)(hb:iB n A)(hn:n<=500000)(g:A.ss.length<=8)(f:(A.c.ai.map (·.1)).Nodup)(P:A.c.ai.length<=12):∃a,Looks {A with c:=A.c.tick} a/\Jv a/\iB n a:=by
 have z:=hb.ds;have C:(iw A.c.ai).Perm (A.c.ai.map (·.1)):=List.mergeSort_perm _ _;have w:A.c.bare=A.c:=by have:=h.res;cases j:A.c;rw[j]at this;simp only at this;simp[this]
 have l:((qY A.c.ai<|iw A.c.ai).map (·.1))=iw A.c.ai:=by
  unfold qY;rw[List.map_map];exact List.map_id' _
 have v:Tk A {A.c with aC:=A.c.aC+1} {A with c:=aU.bare {A.c with aC:=A.c.aC+1}} 0:=⟨by rw[show({A.c with aC:=A.c.aC+1}:aU).res=[]from h.res];exact .nil _ _,rfl,h.move rfl rfl (λ_=>rfl) rfl rfl rfl (λ_=>rfl) λm o=>.inl o,by rw[show({A.c with aC:=A.c.aC+1}:aU).res=[]from h.res];exact zzc _,λhb=>⟨hb.ds,hb.wr,hb.vl⟩⟩
 have⟨a,t⟩:=Tk.fold g (qY A.c.ai (iw A.c.ai)) v (by show A.ds.length<_;omega) (by rw[l];exact C.nodup_iff.2 f) (λy u=>by
  obtain⟨k,-,rfl⟩:=zzq.1 u;rfl)
 have e:=t.eq;have p:=t.cnt;have hlen:(qY A.c.ai<|iw A.c.ai).length<=12:=by
  unfold qY;rw[zzn,C.length_eq,zzn];exact P
 have b:a.c=A.c.tick.bare:=by rw[e];rfl
 have d:a.ss=A.ss:=by rw[e]
 refine⟨a,⟨⟨t.res,IU h.ids,λx r q=>t.jv.six x r<|by rw[b];exact q,λi s hs=>t.jv.val i s<|by rw[d];exact hs⟩,e,?_,IV (A:=A) h.ids hb hn,λi s hs=>by have:=hb.vl i s hs;omega⟩,t.jv,t.pS hb⟩;have:=h.De;show A.ord.length+(A.c.tick).res.length<=_/\A.ds.length<=_;have:(A.c.tick).res.length<=0+(qY A.c.ai<|iw A.c.ai).length:=p;omega
end
section
variable{A:aB}{n i j sq er:Nat}{x x':aS}{s s':ag}{out:List bt}{k:ByteArray}{g:aK}{ws:List (Nat × ByteArray × ByteArray)}
theorem iB.Ug(hb:iB n A)(h:A.ds[j]?=some x)(w:x'.writes.length<=x.writes.length+1){c:aU}:iB (n+1) {A with c:=c,ds:=A.ds.set j x'} where
 ds:=by show(A.ds.set j x').length<=_;rw[List.length_set];exact Nat.le_succ_of_le hb.ds
 wr:=λy a=>by
  obtain q|q:=List.mem_or_eq_of_mem_set a
  .exact Nat.le_succ_of_le<|hb.wr y q
  .rw[q];have:=hb.wr x<|zzh h;omega
 vl:=λi s hs=>zzk (hb.vl i s hs) bL
theorem iB.op(hb:iB n A)(h:A.ds[j]?=some x)(w:x'.writes.length<=x.writes.length+1)(hs:A.ss[i]?=some (s,out))(v:s'.aM=s.aM):iB (n+1) {A with ss:=A.ss.set i (s',out),ds:=A.ds.set j x'} where
 ds:=(hb.Ug (x':=x') (c:=A.c) h w).ds
 wr:=(hb.Ug (x':=x') (c:=A.c) h w).wr;vl:=(hb.jg<|by show s'.aM.length<=_;rw[v];have:=hb.vl i _ hs;simp only at this;omega).vl
theorem Km{l:List Nat}{i q:Nat}(k:Nat)(h:0<l.getD k 0):0<(l.set i<|q+1).getD k 0:=by
 rw[lU];split
 .omega
 .exact h
theorem BH(s:ag)(t:Nat)(seq:Int)(k:ByteArray)(g:aK):(s.aJ t seq k g).1.aM=s.aM:=by
 obtain q|q|q:=sW s t seq k g
 .exact q.2.2.2
 .exact q.2.2.2
 .rw[q.2]
theorem Jv.adq(h:Jv A)(hb:iB n A)(hn:n<500000)(b:A.ds[j]?=some x)(hs:A.ss[i]?=some (s,out))(l:x.asked=false)(G:x.seq[i+1]?=some sq)(c:s.aJ x.id (sq:Int) k g=(s',0))(z:g.way=1->(i+1,k,g.val)∈ws)(E:ws.length<=1):
  Looks {A with ss:=A.ss.set i (s',out),ds:=A.ds.set j {x with writes:=x.writes++ws,seq:=x.seq.set (i+1) (sq+1)}} {A with ss:=A.ss.set i (s',out),ds:=A.ds.set j {x with writes:=x.writes++ws,seq:=x.seq.set (i+1) (sq+1)}}/\Jv {A with ss:=A.ss.set i (s',out),ds:=A.ds.set j {x with writes:=x.writes++ws,seq:=x.seq.set (i+1) (sq+1)}}/\iB (n+1) {A with ss:=A.ss.set i (s',out),ds:=A.ds.set j {x with writes:=x.writes++ws,seq:=x.seq.set (i+1) (sq+1)}}:=by
 have m:=h.ids j x b;have v:=BH s x.id sq k g;rw[c]at v;have f:=hb.op (x':={x with writes:=x.writes++ws,seq:=x.seq.set (i+1) (sq+1)}) b (by simp;omega) hs v;have d:=sW s x.id sq k g;rw[c]at d;have D:(∀u,(s'.aP u).state=if u=x.id then 1 else (s.aP u).state)/\∀p∈s'.holds,p∈s.holds\/p=((x.id,k),g):=by
  obtain q|q|q:=d
  .exact⟨q.2.1,q.2.2.1⟩
  .exact absurd rfl q.1
  .exact absurd rfl q.1
 have a:=h.oper (t:=x.id) (x':={x with writes:=x.writes++ws,seq:=x.seq.set (i+1) (sq+1)}) (q:=s') (by omega) (by rw[m];exact b) hs l ⟨rfl,rfl,rfl,bR,λe=>e,λk o=>Km k o⟩ (λy B=>List.mem_append_left _ B) (λu w=>by rw[D.1,if_neg w]) (.inl ⟨by rw[D.1,if_pos rfl],?_⟩) (λp r C=>?_) v
 .rw[show x.id-1=j by omega]at a;exact⟨a.jX f bL,a,f⟩
 .show 0<(x.seq.set (i+1)<|sq+1).getD (i+1) 0;rw[lU,if_pos ⟨rfl,(zzd.1 G).1⟩];omega
 .rcases D.2 p r with q|q
  .exact .inl q
  .subst q;exact .inr ⟨rfl,List.mem_append_right _<|z C⟩
theorem Jv.adr(h:Jv A)(hb:iB n A)(hn:n<500000)(c:A.ds[j]?=some x)(hs:A.ss[i]?=some (s,out))(m:x.asked=false)(d:s.aJ x.id (sq:Int) k g=(s',er))(K:er≠0):
  Looks {A with ss:=A.ss.set i (s',out),ds:=A.ds.set j {x with lost:=true}} {A with ss:=A.ss.set i (s',out),ds:=A.ds.set j {x with lost:=true}}/\Jv {A with ss:=A.ss.set i (s',out),ds:=A.ds.set j {x with lost:=true}}/\iB (n+1) {A with ss:=A.ss.set i (s',out),ds:=A.ds.set j {x with lost:=true}}:=by
 have o:=h.ids j x c;have v:=BH s x.id sq k g;rw[d]at v;have l:=hb.op (x':={x with lost:=true}) c (by simp) hs v;have f:=sW s x.id sq k g;rw[d]at f;have D:((∀u,(s'.aP u).state=if u=x.id then 2 else (s.aP u).state)\/s'=s)/\∀p∈s'.holds,p∈s.holds:=by
  obtain q|q|q:=f
  .exact absurd q.1 K
  .exact⟨.inl q.2.1,λp a=>by rw[show s'.holds=s.holds from q.2.2.1]at a;exact a⟩
  .have e:s'=s:=q.2;exact⟨.inr e,λp a=>by rw[e]at a;exact a⟩
 have b:=h.oper (t:=x.id) (x':={x with lost:=true}) (q:=s') (by omega) (by rw[o];exact c) hs m ⟨rfl,rfl,rfl,rfl,λ_=>rfl,λk r=>r⟩ (λy z=>z) (λu w=>?_) ?_ (λp a _=>.inl<|D.2 p a) v
 .rw[show x.id-1=j by omega]at b;exact⟨b.jX l bL,b,l⟩
 .rcases D.1 with q|q
  .rw[q,if_neg w]
  .rw[q]
 .rcases D.1 with q|q
  .exact .inr<|.inl ⟨by rw[q,if_pos rfl],rfl⟩
  .exact .inr<|.inr<|by rw[q]
theorem QI(s:ag)(t:Nat)(seq:Int)(k:ByteArray):s.aJ t seq k ⟨0,ByteArray.empty⟩=((s.get t seq k).1,(s.get t seq k).2.2.2):=by
 unfold ag.get;split
 .rename_i e;split
  .exact Prod.ext rfl e
  .exact Prod.ext rfl e
 .rfl
theorem Jv.abA(h:Jv A)(hb:iB n A)(hn:n<500000)(g:A.ss.length<=8)(a:A.ds[j]?=some x)(k:x.lost=false)(E:A.c.fC x.id (r_<|worked x.seq A.ss.length)=0):
  x.asked=false/\x.what=0/\Looks {A with c:=A.c.dD x.id<|r_<|worked x.seq A.ss.length,ds:=A.ds.set j {x with asked:=true}} {A with c:=A.c.dD x.id<|r_<|worked x.seq A.ss.length,ds:=A.ds.set j {x with asked:=true}}/\Jv {A with c:=A.c.dD x.id<|r_<|worked x.seq A.ss.length,ds:=A.ds.set j {x with asked:=true}}/\iB (n+1) {A with c:=A.c.dD x.id<|r_<|worked x.seq A.ss.length,ds:=A.ds.set j {x with asked:=true}}:=by
 have f:=h.ids j x a;have m:=(zzd.1 a).1;have l:=hb.ds
 have b:(A.c.tx x.id).state=4/\mj 0 (r_<|worked x.seq A.ss.length)=true:=by
  unfold aU.fC at E;split at E
  .cases E
  .split at E
   .cases E
   .rename_i e;split at E
    .rename_i e';exact⟨bL,e'⟩
    .cases E
 have S:A.c.dD x.id (r_<|worked x.seq A.ss.length)=A.c.asked x.id (worked x.seq A.ss.length):=by
  unfold aU.dD;rw[if_pos b];congr 1;unfold r_;rw[List.map_map];exact List.map_id' _
 have G:=(h.st j x a).1;rw[<-f,b.1]at G;rw[S];have d:=h.ask (t:=x.id) bL (by rw[f];exact a) b.1 k g bL;rw[show x.id-1=j by omega]at d;have i:=hb.Ug (x':={x with asked:=true}) (c:=A.c.asked x.id<|worked x.seq A.ss.length) a (by simp);refine⟨?_,?_,d.jX i bL,d,i⟩
 .rcases G with q|q|q|q<;>first|omega|exact q.2.1
 .rcases G with q|q|q|q<;>omega
end
section
variable{A:aB}{n i j sq:Nat}{x:aS}
theorem Jv.abB(h:Jv A)(hb:iB n A)(hn:n<=500000)(f:A.ss.length<=8)(b:A.ds[j]?=some x):(A.c.rZ x.id≠0\/x.what≠5)/\∃a,Looks {A with c:=A.c.iR x.id} a/\Jv a/\iB n a:=by
 have d:=h.ids j x b;have G:=(h.st j x b).1;rw[<-d]at G;unfold aU.rZ aU.iR;by_cases e:(A.c.tx x.id).state=0\/(A.c.tx x.id).state=6
 .refine⟨.inl ?_,?_⟩
  .split
   .decide
   .split
    .decide
    .omega
  .rw[if_pos e];exact⟨A,h.jX hb hn,h,hb⟩
 .rw[if_neg e];have hs:(A.c.tx x.id).state=4\/(A.c.tx x.id).state=5:=by obtain q|q|q|q:=G<;>omega
  refine⟨.inr<|by obtain q|q|q|q:=G<;>omega,?_⟩;refine h.QE hb hn bL (by rw[d];exact b) hs f (λu=>vF A.c x.id u) rfl rfl ?_ λy g=>?_
  .show A.c.res++[(x.id,6)]=_;rw[h.res];rfl
  .obtain⟨q1,q2,q3⟩:=ru g;refine⟨q1,q2,λe=>?_⟩;rw[e]at q3
   cases q3
theorem Jv.bump(h:Jv A)(hb:iB n A)(hn:n<500000)(b:A.ds[j]?=some x):Looks {A with ds:=A.ds.set j {x with seq:=x.seq.set i (sq+1)}} {A with ds:=A.ds.set j {x with seq:=x.seq.set i (sq+1)}}/\Jv {A with ds:=A.ds.set j {x with seq:=x.seq.set i (sq+1)}}/\iB (n+1) {A with ds:=A.ds.set j {x with seq:=x.seq.set i (sq+1)}}:=by
 have G:=h.st j x b;have k:=hb.Ug (x':={x with seq:=x.seq.set i (sq+1)}) (c:=A.c) b (by simp);have f:Jv {A with ds:=A.ds.set j {x with seq:=x.seq.set i (sq+1)}}:=by
  refine h.at_ (A':={A with ds:=A.ds.set j {x with seq:=x.seq.set i (sq+1)}}) (t:=j+1) (x':={x with seq:=x.seq.set i (sq+1)}) bL b rfl (λ_ _=>rfl) rfl (λ_ _ _=>rfl) rfl rfl G.1 ⟨G.2.1,bR⟩ (λd o=>?_) (λm g=>.inl ⟨g,λe=>?_⟩) (λd s' w p q _=>.inl ⟨s',w,q⟩) (λy a=>a) (λd s hs y a=>vE b rfl<|h.val d s hs y a) (.inl ⟨rfl,Iff.rfl⟩) (h.BG<|j+1) h.res
  .have AV:A.mF d (j+1)≠0:=o;obtain⟨-,y,a,l,r,u⟩:=h.sh d (j+1) AV;rw[show j+1-1=j by omega,b]at a
   cases a;exact⟨λe=>⟨Km _ (l e).1,(l e).2⟩,r,u⟩
  .obtain⟨-,-,-,y,a,k1,k2,k4,k5,k6,k7⟩:=h.ms m g;rw[e]at a k2 k4 k6 k7;rw[show j+1-1=j by omega,b]at a
   cases a;exact⟨k1,k2,k4,k5,k6,k7⟩
 exact⟨f.jX k bL,f,k⟩
theorem Jv.Yt(h:Jv A)(hb:iB n A)(hn:n<500000)(P:A.c.begun.2.2=0):A.c.begun.2.1=A.ds.length+1/\Looks {A with c:=A.c.begun.1,ds:=A.ds++[⟨A.ds.length+1,List.replicate (A.ss.length+1) 0,[],false,false,0⟩]} {A with c:=A.c.begun.1,ds:=A.ds++[⟨A.ds.length+1,List.replicate (A.ss.length+1) 0,[],false,false,0⟩]}/\Jv {A with c:=A.c.begun.1,ds:=A.ds++[⟨A.ds.length+1,List.replicate (A.ss.length+1) 0,[],false,false,0⟩]}/\iB (n+1) {A with c:=A.c.begun.1,ds:=A.ds++[⟨A.ds.length+1,List.replicate (A.ss.length+1) 0,[],false,false,0⟩]}:=by
 have⟨e,j⟩:=h.Yq P;have a:iB (n+1) {A with c:=A.c.begun.1,ds:=A.ds++[⟨A.ds.length+1,List.replicate (A.ss.length+1) 0,[],false,false,0⟩]}:=⟨by show(A.ds++[_]).length<=_;rw[zzi];have:=hb.ds;simp;omega,λy b=>by
  obtain q|q:=zzo.1 b
  .exact Nat.le_succ_of_le<|hb.wr y q
  .simp at q;rw[q];exact zzs _,λi s hs=>zzk (hb.vl i s hs) bL⟩
 exact⟨e,j.jX a bL,j,a⟩
theorem Jv.Yu(h:Jv A){m:bt}(a:m∈A.bC){b:List bt}:({A with bC:=b}:aB).QD m:=h.ms m<|by unfold aB.all;simp[a]
theorem Jv.come(h:Jv A)(hb:iB n A)(hn:n<500000)(c:A.ss.length<=8)(T:Ue A){m:bt}(d:m∈A.bC){b:List bt}(M:∀y∈b,y∈A.bC):({A with bC:=b}:aB).Comes m/\∃a,Looks (({A with bC:=b}:aB).recv m) a/\Jv a/\iB (n+1) a:=
 (h.bC (b:=b) λy e=>by unfold aB.all;simp[M y e]).recv (n:=n) ⟨hb.ds,hb.wr,hb.vl⟩ hn c T (h.Yu d)
theorem Jv.zero{A:aB}(a:A.ds=[]/\A.ord=[]/\A.bC=[]/\A.co=[])(c:A.c.ai=[]/\A.c.next=1/\A.c.res=[]/\A.c.out=[])(b:∀s∈A.ss,s.2=[]/\s.1.ai=[]/\s.1.holds=[]/\s.1.aM=[]):Jv A/\iB 0 A:=by
 have n:∀t,A.c.tx t=A0:=λt=>by unfold aU.tx;rw[c.1];rfl
 have G:∀i t,A.mF i t=0:=λi t=>by
  unfold aB.mF;cases e:A.ss[i]? with
  |none=>rfl
  |some s=>
   have:=b s<|zzh e;simp only[Option.map_some,Option.getD_some];unfold ag.aP;rw[this.2.1];rfl
 have W:A.all=[]:=by
  unfold aB.all;rw[a.2.2.1,a.2.2.2,c.2.2.2,zj λs hs=>(b s hs).1];rfl
 refine⟨⟨λj x h=>(by rw[a.1]at h;cases h),by rw[c.2.1,a.1];rfl,λt q=>absurd (by rw[n]) q,λj x h=>(by rw[a.1]at h;cases h),λi t o=>absurd (G i t) o,λm d=>(by rw[W]at d;cases d),λi s hs p f=>?_,λi s hs y l=>?_,⟨λj x h=>(by rw[a.1]at h;cases h),λj h=>(by rw[a.2.1]at h;cases h),by rw[a.2.1];exact List.nodup_nil⟩,λt k=>?_,c.2.2.1⟩,⟨by rw[a.1];exact zzc _,λx g=>(by rw[a.1]at g;cases g),λi s hs=>?_⟩⟩
 .rw[(b s<|zzh hs).2.2.1]at f;cases f
 .rw[(b s<|zzh hs).2.2.2]at l;cases l
 .rw[n];have:=vG k;exact⟨λe=>absurd this e,λe=>by rw[show A0.parts.getD k 0=0 from this]at e;cases e⟩
 .rw[(b s<|zzh hs).2.2.2];exact zzs _
end
end Go.Proofs.YtcalalndmcemiaaGreatDoor
