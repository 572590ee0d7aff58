import Derived.Test.YtdcafjmdfpjcbaaGreatDoorC26
set_option maxHeartbeats 2000000
set_option maxRecDepth 100000
namespace Go.Proofs.YtdcafjmdfpjcbaaGreatDoor
open Go.RowKit Go.Maps Tryz Sc
section
open Go.Shelf
variable{n p:Nat}{w:World}
structure NQ(p:Nat)(S:List Nat)(w w':World):Prop where
 os:w'.os=w.os
 tape:w'.tape=w.tape
 output:w'.output=w.output
 size:w.heap.size<=w'.heap.size
 block:∀k,k<w.heap.size->¬lq p w k->k∉S->w'.heap[k]?=w.heap[k]?
theorem aB.Aa{B h bN D N k:Nat}{v:Value}{d:ah}(b:aB w B p h bN v d n D N)(m:∃es c,w.heap[k]?=some (.map es c))(f:k≠h)(g:k≠bN):¬lq p w k:=by
 have⟨es,c,a⟩:=m;intro o;have:=(b.eO k).1 o;simp at this;obtain e|e|e|e:=this
 .rw[e,b.blk]at a;cases a
 .exact f e
 .exact g e
 .obtain⟨c2,hc⟩:=aF b.pen e;rw[hc]at a;cases a
theorem bC.blocks{w':World}{g a T H:Nat}{s:ag}(h:bC w p g a T H n s)(d:∀k∈[p,a,T,H],w'.heap[k]?=w.heap[k]?):bC w' p g a T H n s:=by
 have v:∀{K V:Type} [DecidableEq K] {t:TypeId} {KR:jI prog K t} {ER:nC V} {b k:Nat} {L:List (K×V)},bB KR ER w b k L->b∈[p,a,T,H]->bB KR ER w' b k L:=by
  intro K V _ t KR ER b k L M O;have⟨es,⟨f,c,e,i⟩,r⟩:=M;exact⟨es,⟨f,c,(d b O).trans e,i⟩,r⟩
 exact {blk:=(d p sE).trans h.blk,aS:=v h.aS sE,af:=v h.af sE,holds:=v h.holds sE,ne:=h.ne,aL:=h.aL}
abbrev U7(p:Nat):Value:=.func (.func 100) #[rM p] #[]
end
variable{B:Nat}{w w':World}
abbrev sh0:ag:=⟨[],[],[],0⟩
abbrev gB(p:Nat)(up:Bool)(v:Value):Obj:=.cells #[.int .i64 2,.int .i64 0,rM p,.bool up,.pointer none,v,.pointer none,.pointer none] 64
theorem qK(hp p h bN:Nat)(v m:Value)(up dn:Bool)(l f a b c k:Int)(w:World)(i:w.heap[hp]?=some (gB p up m))(g:w.heap[p]?=some (kF h bN v l f dn)):
  Calls prog 20 #[rM hp,fY a b c k] w λe w'=>e=.returned (.tuple #[])/\w'.heap[p]?=some (kF h bN v a b dn)/\Fr [p] w w':=by
 have n:hp<w.heap.size:=(zza.1 i).1;have y:p<w.heap.size:=(zza.1 g).1;have q:¬hp=p:=by intro e;subst e;rw[i]at g;cases g
 have A:¬p=hp:=λe=>q e.symm
 have t:¬p=w.heap.size:=oE;have z:¬w.heap.size=p:=oE;have⟨W,d⟩:=xY <|w.alloc (.cells #[.int .i64 a,.int .i64 b,.int .i64 c,.int .i64 k] 30);have j:W.heap[hp]?=some (gB p up m):=by rw[d,zzf w _ hp n];exact i
 have G:W.heap[p]?=some (kF h bN v l f dn):=by rw[d,zzf w _ p y];exact g
 have o:W.heap[w.heap.size]?=some (.cells #[.int .i64 a,.int .i64 b,.int .i64 c,.int .i64 k] 30 (0,0)):=by rw[d];exact heap_alloc_new w _
 have c2:=aa j 2;have c3:=aa G 3;have c4:=aa G 4;have c5:=aa G 5;have s:=au G 3;have u:=au G 4;have r:=aa o 0;have x:=aa o 1;simp at c2 c3 c4 c5 r x;have D:=ae G;have F:Hid (Fr [p] w W):=by rw[d];exact(Fr.refl [p] w).alloc _
 clear g i j G o;clear c5;go_enter func20,ntmps20;go_wp2;rw[<-d];clear d;go_region_held3 (λw'=>w'.cell? (d8 hp 2)=some (.pointer<|some (dH p))/\w'.cell? (dH w.heap.size)=some (.int .i64 a)/\w'.cell? (d8 w.heap.size 1)=some (.int .i64 b)) (simp[dT, *]) (fail);go_end0;refine⟨rfl,?_,F.out.trans<|((Fr.cH sE _ _).trans<|Fr.cH sE _ _).drew⟩;have:=aH (aH D.out 3<|.int .i64 a) 4<|.int .i64 b;simp at this;exact this
theorem LR(hp p h bN:Nat)(v q:Value)(up:Bool)(l f a b c k:Int)(w:World)(i:w.heap[hp]?=some (gB p up q))(g:w.heap[p]?=some (kF h bN v l f false)):
  Calls prog 27 #[rM hp,fY a b c k] w λe w'=>e=.returned (.tuple #[])/\w'.heap[p]?=some (kF h bN v (-1) (-1) false)/\Fr [p] w w':=by
 have r:hp<w.heap.size:=(zza.1 i).1;have y:p<w.heap.size:=(zza.1 g).1;have s:¬hp=p:=by intro e;subst e;rw[i]at g;cases g
 have C:¬p=hp:=λe=>s e.symm
 have z:¬p=w.heap.size:=oE;have B:¬w.heap.size=p:=oE;have⟨W,d⟩:=xY <|w.alloc (.cells #[.int .i64 a,.int .i64 b,.int .i64 c,.int .i64 k] 30);have m:W.heap[hp]?=some (gB p up q):=by rw[d,zzf w _ hp r];exact i
 have G:W.heap[p]?=some (kF h bN v l f false):=by rw[d,zzf w _ p y];exact g
 have o:W.heap[w.heap.size]?=some (.cells #[.int .i64 a,.int .i64 b,.int .i64 c,.int .i64 k] 30 (0,0)):=by rw[d];exact heap_alloc_new w _
 have c2:=aa m 2;have c3:=aa G 3;have c4:=aa G 4;have c5:=aa G 5;have u:=au G 3;have A:=au G 4;have t:=aa o 0;have x:=aa o 1;simp at c2 c3 c4 c5 t x;have D:=ae G;have F:Hid (Fr [p] w W):=by rw[d];exact(Fr.refl [p] w).alloc _
 clear g i m G o;go_enter func27,ntmps27;have n:=c2;have j:=c5;rw[d]at n j;go_wp2;rw[<-d];clear d n j;go_region_held3 (λw'=>w'.cell? (d8 hp 2)=some (.pointer<|some (dH p))) (simp[dT, *]) (fail);go_end0;refine⟨rfl,?_,F.out.trans<|((Fr.cH sE _ _).trans<|Fr.cH sE _ _).drew⟩;have:=aH (aH D.out 3<|.int .i64<|-1) 4<|.int .i64<|-1;simp at this;exact this
theorem LS(hp p:Nat)(up:Bool)(v:Value)(R:∃x,v=.pointer x)(w:World)(h:w.heap[hp]?=some (gB p up v)):
  Calls prog 21 #[rM hp] w λe w'=>e=.returned (.tuple #[])/\w'.heap[hp]?=some (gB p false<|.pointer none)/\Fr [hp] w w':=by
 obtain⟨x,rfl⟩:=R;have c3:=aa h 3;have c4:=aa h 4;have c5:=aa h 5;have a:=aa h 6;have c:=aa h 7;have d:=au h 3;have f:=au h 4;have g:=au h 5;have b:=au h 6;have i:=au h 7;simp at c3 c4 c5 a c;have H:=ae h;clear h;go_enter func21,ntmps21;go_wp2;go_end0;refine⟨rfl,?_,((((Fr.cH sE _ _).trans<|Fr.cH sE _ _).trans<|Fr.cH sE _ _).trans<|Fr.cH sE _ _).trans<|Fr.cH sE _ _⟩;have:=aH (aH (aH (aH (aH H.out 3<|.bool false) 4<|.pointer none) 5<|.pointer none) 6<|.pointer none) 7<|.pointer none;simp at this;exact this
structure HFs(B:Nat)(w w':World):Prop where
 below:Below B w w'
 afr:∀(k:Nat) (a b c d:Int),w.heap[k]?=some (iV a b c d)->w'.heap[k]?=some (iV a b c d)
section
variable{w w':World}{B E g I J O m m' U p h bN n n':Nat}{s i:ag}{l l':aq}{d d':ah}
theorem lH.cells(o:lH E I J O U p w w')(b:SL w B E g I J O m U p h bN n s l d){k:Nat}{c:Array Value}{t:TypeId}(a:w.heap[k]?=some (.cells c t (0,0)))(r:t≠58)(u:t≠162)(x:t≠137)(j:t≠34)(v:t≠82)(q:t≠148):w'.heap[k]?=some (.cells c t (0,0)):=by
 have⟨y,z,A,D,N,i⟩:=b.lg;refine(o.block k (zza.1 a).1 (i.free a r u x j v) ?_).trans a;intro f;simp at f;obtain e|e|e|e:=f
 .rw[e,b.sh.blk]at a;cases a;exact q rfl
 .obtain⟨es,c2,e2⟩:=b.sh.aS.isMap;rw[e,e2]at a;cases a
 .obtain⟨es,c2,e2⟩:=b.sh.af.isMap;rw[e,e2]at a;cases a
 .obtain⟨es,c2,e2⟩:=b.sh.holds.isMap;rw[e,e2]at a;cases a
theorem lH.ie(f:lH E I J O U p w w')(j:SL w B E g I J O m U p h bN n s l d)(t:B<=E/\B<=I/\B<=J/\B<=O):HFs B w w':=by
 have⟨v,q,r,D,N,i⟩:=j.lg;refine⟨⟨f.os,f.tape,f.output,f.size,λk e=>f.block k (zzl e i.bE.base.2.2.2) (λo=>by have:=i.ge o;omega) sC⟩,λk a b c x e=>f.cells j e dN dN dN dN dN dN⟩
theorem SL.bj(f:SL w B E g I J O m U p h bN n s l d)(a b:Int)(i:Fr [p] w w'){v:Value}(o:w'.heap[p]?=some (kF h bN v a b d.down))(q:w.heap[p]?=some (kF h bN v d.left d.full d.down)):
  SL w' B E g I J O m U p h bN n s l (d.bj a b)/\lH E I J O U p w w':=by
 have⟨j,t,u,D,N,c⟩:=f.lg;have e:j=v:=by have:=c.bE.blk;rw[q]at this;cases this;rfl
 subst e;have⟨k,r⟩:=c.bj a b i o;exact f.log r ⟨_,_,_,_,_,k⟩
end
theorem HFs.met(h:HFs B w w')(a:2<=B)(m:Met w):Met w':=m.below h.below oE
theorem HFs.p6(h:HFs B w w')(a:2<=B)(m:dw w):dw w':=m.cF<|h.below.block 1 oE
section
variable{P:Program}{K V:Type}[DecidableEq K]{E:TypeId}{KR:jI P K E}{ER:nC V}{w w':World}{b r n:Nat}{l rem:List (K × V)}
theorem FI:∀{l:List (K×V)} {k:K} {v:V},aV l->(k,v)∈l->l.Perm ((k,v)::cO l k)
 |[],_,_,_,h=>by cases h
 |p::r,k,v,h1,h2=>by
  have⟨a,c⟩:=zzA.1 h1;obtain e|hm:=zzj.1 h2
  .subst e;have:cO ((k,v)::r) k=r:=by
    unfold cO;rw[List.filter_cons_of_neg sE,List.filter_eq_self];intro q b;have:=a q b;simp;exact λe=>this e.symm
   rw[this]
  .have hne:p.1≠k:=λe=>a _ hm e
   have:cO (p::r) k=p::cO r k:=by unfold cO;rw[List.filter_cons_of_pos<|by simp[hne]]
   rw[this];exact((FI c hm).cons p).trans<|List.Perm.swap _ _ _
theorem bI.walks(h:bI KR ER w b r n l rem)(k:KeepsWalks w w'):bI KR ER w' b r n l rem/\w'.rangeLeft b r=w.rangeLeft b r:=by
 have⟨es,left,t,c,d⟩:=h;have a:=c.of_walks k;exact⟨⟨es,left,t,a,d⟩,by rw[a.left_eq,c.left_eq]⟩
theorem bI.iter(h:bI KR ER w b r n l rem):∃o:Obj,w.heap[r]?=some o/\o.isWalk=true:=by
 have⟨es,left,t,a,c⟩:=h;exact a.iter_walk
theorem bI.once(h:bI KR ER w b r n l rem):aV rem:=by
 have⟨_,_,_,_,_,_,_,a,_⟩:=h;exact a
end
section
variable{F:Fence}{I:Nat}{P:Program}{K V:Type}[DecidableEq K]{E:TypeId}{KR:jI P K E}{ER:nC V}{w:World}{ops:Array Oper}{rest:List Oper}{o:Oper}{a:Act}{Q:Exit->Act->World->Prop}
theorem tK(g:o.guard=none)(m:Operand)(t e:TypeId)(B:o.op=Op.range t m)(r:P.underlying t=some (.map E e))(b n:Nat)(l:List<|K×V)(d:a.eval m=.map (some b))(M:bB KR ER w b n l)
  (f:∀w',bI KR ER w' b w.heap.size n l l->w.grownBy w' none->w'.heap.size=w.heap.size+1->wpListIn F I P ops Q rest (a.put o.dst<|rM w.heap.size) w'):wpListIn F I P ops Q (o::rest) a w:=by
 have⟨es,i,hp,h,z⟩:=M;apply wpListIn_range_own w g m t B E e KR.law r ER.R b n _ d i;intro w' s j c;exact f w' ⟨es,_,_,s,hp,h,z,h,λp hp=>hp,λk q=>zI hp z q⟩ j c
theorem u_(N:o.guard=none)(t:Operand)(O:o.op=Op.next t false)(b r n:Nat)(l rem:List<|K×V)(S:a.eval t=(rM r))(W:bI KR ER w b r n l rem)
  (Y:rem=[]->wpListIn F I P ops Q rest (a.put o.dst<|.tuple #[.bool false]) w)
  (H:∀(k:K) (v:V) (w':World),(k,v)∈rem->bI KR ER w' b r n l (cO rem k)->w'.rangeLeft b r<w.rangeLeft b r->w.grownBy w' (some r)->w'.heap.size=w.heap.size ->
   (Instr.entry (rM r)).run P w'=.ok (.tuple #[KR.kv k,ER.ev v]) w'->wpListIn F I P ops Q rest (a.put o.dst (.tuple #[.bool true,KR.kv k,ER.ev v])) w'):wpListIn F I P ops Q (o::rest) a w:=by
 have⟨es,left,M,A,hp,d,z,B,g,i⟩:=W;refine wpListIn_next_ranges w N t O E KR.law ER.R id id (λf _ _=>⟨f,rfl⟩) (λv _ _=>⟨v,rfl⟩) b r n _ left M S A ?_ ?_
 .intro _ hl;apply Y;cases h:rem with
  |nil=>rfl
  |cons p q=>
   have s:(p.1,p.2)∈rem:=by rw[h];exact List.mem_cons_self
   have:=i p.1 (z _<|g _ s).1;rw[hl,bS B s]at this;cases this
 .intro f val kl y w' Qk Fy ic hv gJ DU bP j9 hsz uI;have D:Maps.has (.map es) kl=true:=Maps.has_true_of_atKey gJ;rw[Maps.has_eq,List.any_eq_true]at D;have⟨p,J,R⟩:=D;obtain⟨q,c,rfl⟩:=zzq.1<|hp.mem_iff.1 J;have⟨k,v⟩:=q;have m:=(z _ c).1;have T:=(z _ c).2;have G:KR.kl k=kl:=WideAt.sameKey_eq R;subst G;have X:f=KR.kv k:=KR.law.inj Fy<|KR.key k m;have x:=gJ<|ER.el v;rw[uY hp d z m<|bS d c]at x;have U:val=ER.ev v:=ER.inv val v y.2 T<|by rw[x];exact hv
  have Z:(k,v)∈rem:=by
   have:=i k m;rw[ic]at this;cases h:aj rem k with
   |none=>rw[h]at this;cases this
   |some u=>
    have L:=d.same (g _<|bJ h) c rfl;rw[<-L];exact bJ h
  subst X U;refine H k v w' Z ⟨es,_,Qk,DU,hp,d,z,B.del k,λp hp=>g p (zzp.1 hp).1,λj C=>?_⟩ (by rw[DU.left_eq,A.left_eq];exact bP) j9 hsz uI;rw[i j C,KR.same C m,iI];by_cases e:j=k
  .simp[e]
  .simp[e]
end
section
open Go.Shelf
theorem Qv(n:Nat)(b:Nat)(w:World):
  CallsIn Fence.wide n prog 177 #[.map<|some b] w λe w'=>e=.returned (.func (.func 225) #[] #[rM w.heap.size])/\w'=w.alloc (.cells #[.map<|some b] 144):=by
 refine callsIn_of_wp func177 rfl trivial ?_ rfl;simp only[ntmps177,mJ,zzr,mV,Nat.reduceAdd,Nat.reduceSub,m7,m8,n8,oS,p5,qS];gi_wp2;go_ret;exact⟨rfl,rfl⟩
theorem Qw(n:Nat)(hn:1<=n)(l B b m:Nat)(L:List<|Nat×fX)(W:World)(J d:List Nat->World->Prop)(g:AbidesFrom W.heap.size J)
  (o:∀p (x:Nat) W1,J p W1->p.length<L.length->YieldAt Fence.wide (n-1) prog l #[.int .u64 (x:Int)] W1 λe a=>
   (e=.returned (.bool true)/\J (p++[x]) a/\KeepsWalks W1 a)\/(e=.returned (.bool false)/\d (p++[x]) a))
  (D:W.cell? (dH B)=some (.map<|some b)) (h:bB KU ET W b m L) (u:J [] W) :
  CallsIn Fence.wide n prog 225 #[.func (.yield l) #[] #[],rM B] W λe a=>(∃v,e=.returned v) /\
   ((∃s,s.Perm (L.map (·.1))/\J s a)\/(∃p,True/\d p a)):=by
 have t:Fence.wide.round=none:=rfl;have Y:Fence.wide.fn 225:=trivial;have j:=ae h;have H:=ae g;clear h g;refine callsIn_of_wp func225 rfl Y ?_ t;simp only[ntmps225,mJ,zzr,mV,Nat.reduceAdd,Nat.reduceSub,m7,m8,n8,oS,p5,qS];gi_wp2_with (first
  |(gi_at_range;apply tK rfl _ 144 195 rfl underlying144 b m L rfl j.out;intro w y q C)
  |gi_in)
 go_frame;have S:Hid (bI KU ET w b W.heap.size m L L/\J [] w):=⟨y,H.out [] W w none u q λr e=>by cases e⟩;clear y q
 gi_loopw [3] (λ_ wr=>∃rem ss,Hid<|bI KU ET wr b W.heap.size m L rem/\(ss++rem.map (·.1)).Perm (L.map (·.1))/\J ss wr)
  (λ_ wr=>wr.rangeLeft b W.heap.size)
 case atStart=>exact⟨L,[],S.1,sE,S.2⟩
 case round=>
  have⟨rem,ss,X⟩:=hrel;have f:=X.1;gi_wp2_with (first
   |(gi_at_next;refine u_ rfl _ rfl b W.heap.size m L rem rfl f ?_ ?_)
   |gi_in)
  .intro eQ;gi_wp2;go_end0;exact⟨⟨_,rfl⟩,.inl ⟨ss,by have:=X.2.1;rw[eQ]at this;simpa using this,X.2.2⟩⟩
  .intro k v w2 hm pW bP dY cC uI;have i:J ss w2:=H.out ss wr w2 (some W.heap.size) X.2.2 dY λr e=>by cases e;exact⟨zzc _,f.iter⟩
   have K:(ss++[k]++(cO rem k).map (·.1)).Perm (L.map (·.1)):=by
    refine List.Perm.trans ?_ X.2.1;rw[zzx];exact(((FI f.once hm).map (·.1)).symm).append_left ss
   have hlen:ss.length<L.length:=by
    have:=K.length_eq;simp at this;omega
   have⟨z,tmps,assign,body,A,R⟩:=o ss k w2 i hlen;have N:=ae<|zzb pW<|zzb K bP
   change (Instr.entry _).run _ _=.ok (.tuple #[.int .u64 (k:Int),.agg #[.int .i64 (v.state:Int),.int .i64 (v.done:Int),.int .u64 (v.last:Int)]]) _ at uI;clear cC f pW K bP hm dY i;gi_wp2;apply R.mono;rintro e c (⟨rfl,BS,kM⟩|⟨rfl,DV⟩)
   .obtain⟨wU,sT⟩:=N.1.walks kM;have Z:Hid (bI KU ET c b W.heap.size m L (cO rem k)/\(ss++[k]++(cO rem k).map (·.1)).Perm (L.map (·.1))/\J (ss++[k]) c/\c.rangeLeft b W.heap.size<wr.rangeLeft b W.heap.size):=⟨wU,N.2.1,BS,by rw[sT];exact N.2.2⟩;clear wU sT kM BS
    gi_wp2;go_roundw;case rel=>exact⟨_,_,Z.1,Z.2.1,Z.2.2.1⟩
    case measure=>exact Z.2.2.2
   .gi_wp2;apply bodyPost_ret (results_none rfl _ _ _) rfl;exact⟨⟨_,rfl⟩,.inr ⟨_,trivial,DV⟩⟩
theorem FJ(n:Nat)(hn:1<=n)(B b m:Nat)(L:List<|Nat×fX)(w:World)(M:B<w.heap.size)(H:w.cell? (dH B)=some (.map<|some b))(a:bB KU ET w b m L):
  SeqStopsK Fence.wide n prog 225 #[rM B] (λx:Nat=>#[.int .u64 (x:Int)]) KeepsWalks (λs=>s.Perm<|L.map (·.1)) (λ_=>True) L.length w:=λl J d W h e _ Y c=>
 Qw n hn l B b m L W J d e Y ((h.cell M).trans H) (a.fr (S:=[]) ⟨h.os,h.tape,h.output,h.size,λk f _=>h.block k f⟩ (by simp)) c
theorem BW(n:Nat)(hn:3<=n)(g:Nat)(lb:Array Value)(G:Fence.wide.fn g)(B:∀args w,(callFunc g args).run prog w=.ok (.enter g args) w)(S:List Nat->Prop)(N:Nat)(hN:N<=1000000000)(w:World)
  (Z:SeqStopsK Fence.wide (n-1) prog g lb (λx:Nat=>#[.int .u64 (x:Int)]) KeepsWalks S (λ_=>True) N w) :
  CallsIn Fence.wide n prog 256 #[.slice none 0 0,.func (.func g) #[] lb] w λe w'=>∃v ss,e=.returned v/\S ss/\w'.ownsRow w.heap.size 34 1 v ss.length (dh ss)/\(v=.slice none 0 0↔ss=[])/\Below w.heap.size w w':=by
 have R:1<=n:=oE;have o:Fence.wide.round=none:=rfl;obtain⟨j,t,V,m,A⟩:=info_parts nB;refine callsIn_of_wp_marks func256 rfl trivial ?_ o;simp only[ntmps256,mJ,zzr,mV,Nat.reduceAdd,Nat.reduceSub,m7,m8,n8,oS,p5,qS]
 gi_wp2
 have O:=Boxed.new w 49 (.slice none 0 0);have C:Below w.heap.size w (w.alloc (.cells #[.slice none 0 0] 49)):=(zzD _ w).alloc (zzc _) _;have z:(w.alloc (.cells #[.slice none 0 0] 49)).heap.size=w.heap.size+1:=sE;obtain⟨f,b⟩:∃f,(w.alloc (.cells #[.slice none 0 0] 49))=f:=⟨_,rfl⟩;rw[b] at O C z ⊢;clear b
 refine wpIn_rangeFunc_ownH o R (gf:=g) (lb:=lb) rfl G B Z walksK_t walksK_b C (λ_=>rfl)
  (λp W=>(∃v,Boxed W w.heap.size 49 v/\W.ownsRow w.heap.size 34 1 v p.length (dh p)/\(v=.slice none 0 0↔p=[]))/\Below w.heap.size w W)
  (λ_ _ _=>False)
  (OwnFrom.and (Own.from (holdsRow_own w.heap.size w.heap.size 49 34 1 (λp:List Nat=>p.length) (λp=>dh p) (λp v=>(v=.slice none 0 0↔p=[]))) _) (ownFrom_below (zzc _) oE))
  (λ_ _ _ _ _ s _ _=>s)
  ⟨⟨_,O,zzu _ _ _ _,sE⟩,C⟩
  (λx a W=>a={ tmps:=#[.slice none 0 0,.func (.func g) #[] lb,.pointer (some ⟨w.heap.size,0,none⟩),undef,.slice none 0 0,.int .u64 (x:Int),.func (.func g) #[] lb,.int .u64 (x:Int),undef,undef,undef,undef,undef],defers:=[] })
  (λx a _ X a6 row s _ _=>s)
  ?assign ?body ?done ?stop
 case assign =>
  have F:=@Oper.semAt_some;rintro l p x W a1 I K
  gi_wp2
  exact K _ _ (KeepsFrom.refl _ _) (KeepsWalks.refl _) I rfl
 case body =>
  have F:=@Oper.semAt_some;rintro l p x a W eN _ ⟨⟨v,hv,aC,eQ⟩,hB⟩ rfl bP;have E:=hv.cell;have d:=ae eQ;clear eQ
  gi_wp2_with (gi_at_builtin;refine wpListIn_append_own _ rfl _ _ 49 rfl w.heap.size 34 j _ 1 8 underlying49 t V m A rfl dN _ _ _ rfl (aC.alloc _) ⟨W.heap.size,0,none⟩ 1 1 [.int .u64 (x:Int)] rfl rfl (cD _ #[.int .u64 (x:Int)] _) (by intro u i;simp at i;subst i;rfl) mE oE (by have:=hB.size;simp;omega) ?_;intro v' r P k _;obtain⟨Y,q,rfl⟩:=ownsRow_succ P;obtain⟨J,M,L,T,U⟩:=hv.appended dN aC hB.size (zzc _) P k;have om:=J.cell;have bF:=J.frozen;have H:Hid (KeepsWalks W (r.setCell ⟨w.heap.size,0,none⟩ (.slice (some ⟨Y,0,none⟩) (p.length+1) q))):=T.walks)
  exact⟨T.from _,H.out,⟨_,M,by rw[l_];simpa using L,sE⟩,hB.trans U⟩
 case done =>
  rintro D y W hD Q ⟨⟨v,hv,aC,eQ⟩,hB⟩ K;have E:=hv.cell;have d:=ae eQ;clear eQ
  gi_wp2
  refine⟨sE,.inl ⟨_,_,rfl,run_takeDeferred K,?_⟩⟩;exact⟨_,results_tmp rfl _ _ _,v,y,rfl,Q,ownsRow_putObj aC _ K rfl,d.out,hB.trans (belowK_b (w:=w) (zzc _) W D _ _ oE K rfl rfl)⟩
 case stop =>
  rintro D c p W _ _ h _;exact h.elim
theorem FP(n:Nat)(hn:4<=n)(g:Nat)(lb:Array Value)(G:Fence.wide.fn g)(a:∀args w,(callFunc g args).run prog w=.ok (.enter g args) w)(S:List Nat->Prop)(N:Nat)(hN:N<=1000000000)(w:World)
  (I:SeqStopsK Fence.wide (n-1-1) prog g lb (λx:Nat=>#[.int .u64 (x:Int)]) KeepsWalks S (λ_=>True) N w) :
  CallsIn Fence.wide n prog 224 #[.func (.func g) #[] lb] w λe w'=>∃v ss,e=.returned v/\S ss/\w'.ownsRow w.heap.size 34 1 v ss.length (dh ss)/\(v=.slice none 0 0↔ss=[])/\Below w.heap.size w w':=by
 have h:1<=n:=oE;have o:Fence.wide.round=none:=rfl;have F:Fence.wide.fn 256:=trivial;have A:=BW (n-1) oE g lb G a S N hN w I;refine callsIn_of_wp func224 rfl trivial ?_ o;simp only[ntmps224,mJ,zzr,mV,Nat.reduceAdd,Nat.reduceSub,m7,m8,n8,oS,p5,qS];gi_wp2_with (gi_at_call 256;apply A.mono;rintro e b ⟨v,ss,rfl,hS⟩);go_ret;exact⟨v,ss,rfl,hS⟩
theorem Jb(n:Nat)(hn:5<=n)(g:Nat)(lb:Array Value)(G:Fence.wide.fn g)(c:∀args w,(callFunc g args).run prog w=.ok (.enter g args) w)(s:List Nat)(N:Nat)(hN:N<=12)(H:s.length<=N)(w:World)
  (I:SeqStopsK Fence.wide (n-1-1-1) prog g lb (λx:Nat=>#[.int .u64 (x:Int)]) KeepsWalks (λy=>y.Perm s) (λ_=>True) N w) :
  CallsIn Fence.wide n prog 176 #[.func (.func g) #[] lb] w λe w'=>∃v ss,e=.returned v/\ss.Perm s/\ss.Pairwise (·<=·)/\w'.ownsRow w.heap.size 34 1 v ss.length (dh ss)/\(v=.slice none 0 0↔ss=[])/\Below w.heap.size w w':=by
 have j:1<=n:=oE;have o:Fence.wide.round=none:=rfl;have F:Fence.wide.fn 224:=trivial;have d:Fence.wide.fn 201:=trivial;have A:=FP (n-1) oE g lb G c (λy=>y.Perm s) N oE w I;clear I;refine callsIn_of_wp func176 rfl trivial ?_ o;simp only[ntmps176,mJ,zzr,mV,Nat.reduceAdd,Nat.reduceSub,m7,m8,n8,oS,p5,qS];gi_wp2_with (gi_at_call 224;apply A.mono;rintro e a ⟨v,ss,rfl,hS,aC,eQ,hb⟩;have X:Hid (ss.Perm s/\a.ownsRow w.heap.size 34 1 v ss.length (dh ss)/\(v=.slice none 0 0↔ss=[])/\Below w.heap.size w a):=⟨hS,aC,eQ,hb⟩;clear hS aC eQ hb);by_cases z:ss=[]
 .have hv:=X.2.2.1.2 z;subst hv;apply((callsIn_wide).2<|CH a).mono;rintro e w2 ⟨rfl,rfl⟩;gi_wp2;go_ret;exact⟨.slice none 0 0,ss,rfl,X.1,by rw[z];exact List.Pairwise.nil,X.2.1,⟨λ_=>z,λ_=>rfl⟩,X.2.2.2⟩
 .have Jc:=zzE.2 z;obtain⟨b,p,rfl⟩:=mG X.2.1 Jc;have h:ss.length<=12:=by rw[X.1.length_eq];omega
  apply((callsIn_wide).2<|Nq w.heap.size b ss.length p ss a X.2.1 rfl h).mono;rintro e w2 ⟨rfl,l',cC,wV⟩;have Y:=ae<|zzb cC wV;clear cC wV
  gi_wp2;go_ret;have l:=Y.1.perm.length_eq;have B:=(X.2.1.lt b rfl).1;refine⟨.slice (some (dH b)) ss.length p,l',rfl,Y.1.perm.trans X.1,nE.pairwise<|by rw[l];exact Y.2,by rw[l];exact Y.1.row,⟨λe=>by simp at e,λe=>by rw[e]at l;simp at l;omega⟩,X.2.2.2.trans ?_⟩;have f:=Y.1.fr;exact⟨f.os,f.tape,f.output,f.size,λk i=>f.block k (by have:=X.2.2.2.size;omega) sC⟩
end
end Go.Proofs.YtdcafjmdfpjcbaaGreatDoor
