import Derived.Test.YtdcafjmdfpjcbaaGreatDoorC36
set_option maxHeartbeats 2000000
set_option maxRecDepth 100000
namespace Go.Proofs.YtdcafjmdfpjcbaaGreatDoor
open Go.RowKit Go.Maps Tryz Sc
section
open Go.Shelf
variable{D N bN h k n p:Nat}{o:Obj}{r s v:Value}{A B C w w':World}{d:ah}{l:aq}
def tT:Obj->Bool
 |.loop ..=>true
 |.deferred ..=>true
 |_=>false
structure Bk(n:Nat)(A B:World):Prop where
 os:B.os=A.os
 tape:B.tape=A.tape
 output:B.output=A.output
 size:A.heap.size<=B.heap.size
 block:∀(k:Nat) (o:Obj),A.heap[k]?=some o->(tT o=false\/k<n)->B.heap[k]?=some o
theorem Bk.refl(n:Nat)(A:World):Bk n A A:=⟨rfl,rfl,rfl,zzc _,λ_ _ h _=>h⟩
theorem Bk.trans(h:Bk n A B)(k:Bk n B C):Bk n A C:=
 ⟨k.os.trans h.os,k.tape.trans h.tape,k.output.trans h.output,zzk h.size k.size,λi o b a=>k.block i o (h.block i o b a) a⟩
theorem Bk.mono{m:Nat}(h:Bk n A B)(c:m<=n):Bk m A B:=
 ⟨h.os,h.tape,h.output,h.size,λi o a b=>h.block i o a<|by obtain e|e:=b;exact .inl e;exact .inr oE⟩
theorem Bk.fr(h:Fr [] A B):Bk n A B:=
 ⟨h.os,h.tape,h.output,h.size,λk o a _=>(h.block k (zza.1 a).1 sE).trans a⟩
theorem Bk.put(h:A.heap[k]?=some o)(d:tT o=true)(hn:n<=k)(b:Obj):Bk n A (A.putObj k b):=
 ⟨rfl,rfl,rfl,sE,λi x a c=>by
  by_cases e:i=k
  .grind
  .exact(World.putObj_heap_other e).trans a⟩
def LO(A:World):List Nat:=(List.range A.heap.size).filter λk=>(A.heap[k]?.map tT).getD false
theorem NI(h:k∈LO A):∃o,A.heap[k]?=some o/\tT o=true:=by grind[LO]
theorem Bk.acX(h:Bk n A B):Fr (LO A) A B:=
 ⟨h.os,h.tape,h.output,h.size,λk a hn=>by
  rw[Array.getElem?_eq_getElem a];refine h.block k _ (Array.getElem?_eq_getElem a)<|.inl ?_
  cases b:tT A.heap[k]with
  |false=>rfl
  |true=>exact absurd (by unfold LO;rw[zzp,List.mem_range,Array.getElem?_eq_getElem a];exact⟨a,by simpa using b⟩) hn⟩
def vw:Obj->Bool
 |.cells _ t _=>decide (t≠58/\t≠162/\t≠137/\t≠34/\t≠82)
 |.map ..=>false
 |_=>true
structure yi(A B:World):Prop where
 size:A.heap.size<=B.heap.size
 same:∀(k:Nat) (o:Obj),A.heap[k]?=some o->vw o=true->B.heap[k]?=some o
theorem yi.refl(A:World):yi A A:=⟨zzc _,λ_ _ h _=>h⟩
theorem yi.trans(h:yi A B)(k:yi B C):yi A C:=⟨zzk h.size k.size,λi o b a=>k.same i o (h.same i o b a) a⟩
theorem yi.fr(h:Fr [] A B):yi A B:=⟨h.size,λk o a _=>(h.block k (zza.1 a).1 sE).trans a⟩
theorem NJ(h:tT o=true):vw o=true:=by cases o<;>first|rfl|cases h
theorem aD.vw{B:Nat}(a:aD w B k p h bN v s r l d n D N){q:Nat}(g:w.heap[q]?=some o)(f:vw o=true):¬Own k p w q:=by
 intro j;have y:∀{c:Array Value} {t:TypeId} {fr:Nat×Nat},w.heap[q]?=some (.cells c t fr)->False:=by
  intro c t fr b;rw[b]at g;cases g;simp[Go.Proofs.YtdcafjmdfpjcbaaGreatDoor.vw]at f;exact a.free b f.1 f.2.1 f.2.2.1 f.2.2.2.1 f.2.2.2.2 j
 obtain e|e|e|e|e|e|e:=(a.own q).1 j
 .subst e;exact y a.blk
 .subst e;exact y a.bE.blk
 .subst e;have⟨es,c,i⟩:=a.bE.j8.isMap;rw[i]at g;cases g;cases f
 .subst e;have⟨es,c,i⟩:=a.bE.now.isMap;rw[i]at g;cases g;cases f
 .obtain⟨c,b⟩:=aF a.bE.pen e;exact y b
 .obtain⟨c,b⟩:=aF a.segs e;exact y b
 .obtain⟨c,b⟩:=aF a.recs e;exact y b
theorem kI.kpo{B b:Nat}(f:kI b p w w')(c:aD w B b p h bN v s r l d n D N):yi w w':=
 ⟨f.size,λk _ a o=>(f.block k (zza.1 a).1<|c.vw a o).trans a⟩
theorem aD.bk{g:Nat}{B f:Nat}(c:aD w B f p h bN v s r l d n D N)(i:Bk g w w'):aD w' B f p h bN v s r l d n D N:=
 c.apart i.acX (λk j _=>by
  have⟨o,a,b⟩:=NI j;exact⟨c.vw a (NJ b),λt e=>by rw[a]at e;cases e;cases b⟩)
theorem JI(k v:ByteArray)(w:World)(c:k.size<256)(h:v.size<256):
  Calls prog 194 #[.string k,.string v] w λe w'=>e=.returned (.string<|str<|p7 k v)/\Below w.heap.size w w':=by
 have g:=vu w.heap.size (.slice none 0 0) [] 0 k w (zzu _ _ _ _) c oE<|zzc _
 go_enter func194,ntmps194;go_wp2_with fail;apply g.mono;clear g;rintro e d ⟨v1,rfl,fe,gw,_⟩;obtain⟨b,c1,rfl⟩:=dI fe oE;have Y:=vu w.heap.size (.slice (some (dH b)) (0+1+k.size) c1) _ (0+1+k.size) v d fe h oE gw.size;clear fe;go_wp2_with fail;apply Y.mono;clear Y;rintro e w2 ⟨v2,rfl,iH,cU,_⟩;obtain⟨a,c2,rfl⟩:=dI iH oE;have f:=oY w2 a 0 (0+1+k.size+1+v.size) c2 (p7 k v) (by simp[p7,dC];omega) (uN<|by simpa [p7]using iH);clear iH;go_wp2;go_ret;exact⟨rfl,gw.trans cU⟩
theorem JJ(n p:Nat)(w:World):
  CallsIn Fence.wide n prog 146 #[rM p] w λe w'=>e=.returned (.func (.func 193) #[] #[rM w.heap.size])/\w'=w.alloc (.cells #[rM p] 60):=by
 refine callsIn_of_wp func146 rfl trivial ?_ rfl;simp only[ntmps146,mJ,zzr,mV,Nat.reduceAdd,Nat.reduceSub,m7,m8,n8,oS,p5,qS];gi_wp2;go_ret;exact⟨rfl,rfl⟩
theorem Ra{k v:ByteArray}(b:k.size<256)(a:v.size<256):k9 (p7 k v):=by
 intro x h;unfold p7 at h;simp at h;obtain rfl|h|rfl|h:=h
 .exact b
 .exact jN k x h
 .exact a
 .exact jN v x h
end
variable{wr:Bool}{k:ByteArray}{seq:Int}{X es:List Rec}{T a b c mk n t:Nat}{r:Rec}{R:aK}{x:a_}{s:ag}
structure Gd(c T:Nat)(s:ag)(R:aK):Prop where
 rel:Rel s R
 aL:s.aL<=T
 table:R.table.length<=4*c
 ops:∀x∈R.af,x.ops<=c
 keys:∀p∈R.table,p.1.size<=16
 sH:∀x∈R.af,x.jY<16
section
variable{c T:Nat}{s E:ag}{R:aK}
theorem Gd.mono(h:Gd c T s R){a b:Nat}(f:c<=a)(e:T<=b):Gd a b s R:=⟨h.rel,zzk h.aL e,by have:=h.table;omega,λx d=>by have:=h.ops x d;omega,h.keys,h.sH⟩
theorem Gd.st(h:Gd c T s R)(t:Nat):R.state t<=3:=by
 unfold aK.state;cases a:aU R.af t with
 |none=>simp
 |some x=>have:=(h.rel.ok x (aN a).1).st;simp;omega
theorem Gd.state(h:Gd c T s R)(t:Nat):(s.aM t).state<=3:=by rw[h.rel.state];exact h.st t
theorem Gd.done(h:Gd c T s R)(t:Nat):(s.aM t).done<=c:=by
 cases a:aU R.af t with
 |none=>rw[h.rel.gone a];exact zzs _
 |some x=>
  rw[h.rel.here a];unfold a_.B8;split
  .grind
  .exact h.ops x (aN a).1
theorem Gd.count(h:Gd c T s R)(t:Nat):s.count t<=4:=by
 cases a:aU R.af t with
 |none=>rw[h.rel.Rh a];omega
 |some x=>rw[h.rel.count a];exact(h.rel.ok x (aN a).1).four
theorem Av{l:aJ}(h:l.key.size<=16)(a:l.val.size<=32):gz (l.key,l.dx):=by
 refine⟨h,a,?_⟩;show l.dx.way<256;unfold aJ.dx;simp only[];split
 .grind
 .decide
theorem Gd.holds(h:Gd c T s R){p:(Nat×ByteArray)×aQ}(hp:p∈s.holds):gz (p.1.2,p.2):=by
 have:=bS h.rel.o2 hp;rw[show p.1=(p.1.1,p.1.2)from rfl,h.rel.holds]at this;cases a:aU R.af p.1.1 with
 |none=>grind
 |some x=>
  rw[a]at this;simp only[Option.bind_some]at this;cases d:aT x.ak p.1.2 with
  |none=>grind
  |some l=>
   rw[d]at this;have e:=Option.some.inj this;have⟨m,f⟩:=pq d;have b:=(h.rel.ok x (aN a).1).small l m;rw[<-e,<-f];exact Av b.2.1 b.2.2
theorem Gd.small(h:Gd c T s R):s.Small:=λ_ hp=>h.holds hp
theorem Gd.len(h:Gd c T s R):s.af.length<=12:=by rw[h.rel.Rg];exact h.rel.len
theorem Gd.once(h:Gd c T s R)(t:Nat):iy (R.tx t).ak:=by
 unfold aK.tx;cases a:aU R.af t with
 |none=>unfold iy;simp
 |some x=>exact(h.rel.ok x (aN a).1).once
theorem Gd.aa6(h:Gd c T s R)(t:Nat):(R.tx t).ops<=c:=by
 unfold aK.tx;cases a:aU R.af t with
 |none=>grind
 |some x=>exact h.ops x (aN a).1
theorem Gd.four(h:Gd c T s R):∀x∈R.af,x.ak.length<=4:=λx a=>(h.rel.ok x a).four
theorem tu(s:ag)(t:Nat)(seq:Int)(k:ByteArray)(g:aQ):(s.aY t seq k g).1.aL=s.aL/\(s.aY t seq k g).1.aS=s.aS:=by grind[ag.aY,ag.take]
theorem Y0{t:Nat}{seq:Int}{k:ByteArray}{wr:Bool}{f:List aJ->List aJ}{x:a_}(h:∀x∈R.af,x.ops<=c)(b:(R.tx t).ops<=c)(a:x∈(R.op t seq k wr f).1.af):x.ops<=c+1:=by
 unfold aK.op at a;split at a
 .split at a
  .rcases mh a (show(R.tx t).dQ.id=t from yt R t)with rfl|⟨hm,_⟩
   .show(R.tx t).ops<=_;omega
   .grind
  .rcases mh a (show((R.tx t).worked f).id=t from yt R t)with rfl|⟨hm,_⟩
   .show(R.tx t).ops+1<=_;omega
   .grind
 .grind
theorem Ro{t:Nat}{seq:Int}{k:ByteArray}{wr:Bool}(f:List aJ->List aJ):(R.op t seq k wr f).1.table=R.table:=by grind[aK.op]
theorem Vh{t:Nat}{seq:Int}{k:ByteArray}{wr:Bool}{f:List aJ->List aJ}{x:a_}(h:∀x∈R.af,x.jY<16)(a:x∈(R.op t seq k wr f).1.af):x.jY<16:=by
 unfold aK.op at a;split at a
 .split at a
  .rcases mh a (show(R.tx t).dQ.id=t from yt R t)with rfl|⟨hm,_⟩
   .show 0<16;omega
   .grind
  .rcases mh a (show((R.tx t).worked f).id=t from yt R t)with rfl|⟨hm,_⟩
   .show 0<16;omega
   .grind
 .grind
theorem Gd.op(h:Gd c T s R)(t:Nat)(seq:Int)(k:ByteArray)(g:aQ)(f:List aJ->List aJ)(j:t<2^64)(e:g.val.size<=32)(b:L8 k g f):
  (s.aY t seq k g).2=(R.op t seq k g.writes f).2/\Gd (c+1) T (s.aY t seq k g).1 (R.op t seq k g.writes f).1:=by
 have⟨d,i⟩:=h.rel.op t seq k g f j e b;refine⟨d,i,by rw[(tu s t seq k g).1];exact h.aL,by rw[Ro];have:=h.table;omega,λx a=>Y0 h.ops (h.aa6 t) a,by rw[Ro];exact h.keys,λx a=>Vh h.sH a⟩
theorem Gd.forget(h:Gd c T s R)(t:Nat):Gd c T (s.forget t) ⟨R.table,del R.af t⟩:=
 ⟨h.rel.forget t,h.aL,h.table,λx a=>h.ops x (zzp.1 a).1,h.keys,λx a=>h.sH x (zzp.1 a).1⟩
theorem Gd.gone(h:Gd c T s R){t:Nat}(a:aU R.af t=none):Gd c T (s.forget t) R:=by
 have:=h.forget t;rw[Gx a]at this;exact this
theorem Gd.tick(h:Gd c T s R):Gd c (T+1) s.tick R.tick:=by
 refine⟨h.rel.tick,?_,h.table,λx a=>?_,h.keys,λx a=>?_⟩
 .have:=h.aL;show s.aL+1<=_;omega
 .obtain⟨y,hy,e⟩:=List.mem_filterMap.1 a;have:=h.ops y hy;unfold a_.eF at e;split at e
  .grind
  .grind
 .obtain⟨y,hy,e⟩:=List.mem_filterMap.1 a;have:=h.sH y hy;unfold a_.eF at e;split at e
  .grind
  .grind
theorem Aw(h:Gd c T s R){t:Nat}{x:a_}(a:aU R.af t=some x):(s.aM t).state=x.st:=by
 rw[h.rel.state];unfold aK.state;rw[a];rfl
theorem Eo(h:Gd c T s R){t:Nat}(x:aU R.af t=none):(s.aM t).state=0:=by
 rw[h.rel.state];unfold aK.state;rw[x];rfl
theorem rT:∀(s:List aJ) (b:oU),(eE b s).length<=b.length+s.length
 |[],b=>by simp[eE]
 |l::s,b=>by
  have ih:=rT s<|if l.wr=true then gD b l else b;have e:eE b (l::s)=eE (if l.wr=true then gD b l else b) s:=rfl;rw[e]
  have:(if l.wr=true then gD b l else b).length<=b.length+1:=by
   split
   .exact ud l b l.gone
   .omega
  rw[zzr];omega
theorem GI(l:aJ):∀(t:oU) (b:Bool) {q:ByteArray×ByteArray},q∈cI l t b->q∈t\/q.1=l.key
 |[],b,q,h=>by
  unfold cI at h;split at h
  .cases h
  .simp at h;exact .inr<|by rw[h]
 |y::ys,b,q,h=>by
  have k:∀a,q∈cI l ys a->q∈y::ys\/q.1=l.key:=λa h=>by
   obtain h|h:=GI l ys a h
   .exact .inl<|by simp[h]
   .exact .inr h
  unfold cI at h;split at h
  .rcases zzj.1 h with e|h
   .exact .inr<|by rw[e]
   .rcases zzj.1 h with e|h
    .exact .inl<|by simp[e]
    .exact k _ h
  .split at h
   .rcases zzj.1 h with e|h
    .exact .inl<|by simp[e]
    .exact k _ h
   .split at h
    .exact k _ h
    .rcases zzj.1 h with e|h
     .exact .inr<|by rw[e]
     .exact k _ h
theorem xw:∀(s:List aJ) (b:oU) {q:ByteArray×ByteArray},q∈eE b s->q∈b\/∃l∈s,q.1=l.key
 |[],b,q,h=>.inl h
 |l::s,b,q,h=>by
  obtain h|⟨x,hx,e⟩:=xw s (if l.wr=true then gD b l else b) h
  .split at h
   .rcases GI l b l.gone h with h|h
    .exact .inl h
    .exact .inr ⟨l,sE,h⟩
   .exact .inl h
  .exact .inr ⟨x,by simp[hx],e⟩
theorem Gd.cR(h:Gd c T s R){t:Nat}{x:a_}(a:aU R.af t=some x)(j:t≠0)(m:x.st=3)(v:aV s.aS)(g:aV E.aS)(f:kQ s E t):Gd (c+1) T E (R.cR t).1/\(R.cR t).2=0:=by
 have e:R.cR t=(⟨eE R.table x.ak,del R.af t⟩,0):=by grind[aK.cR]
 rw[e];refine⟨⟨h.rel.cR a v g f,?_,?_,λy b=>?_,λq d=>?_,λy b=>h.sH y (zzp.1 b).1⟩,rfl⟩
 .obtain⟨vs,rfl,_⟩:=f;exact h.aL
 .have h1:=rT x.ak R.table;have k:=h.table;have i:=h.four x (aN a).1;show(eE R.table x.ak).length<=_;omega
 .have:=h.ops y (zzp.1 b).1;omega
 .rcases xw x.ak R.table d with d|⟨l,hl,e⟩
  .exact h.keys q d
  .rw[e];exact((h.rel.ok x (aN a).1).small l hl).2.1
theorem N_(h:Gd c T s R){t:Nat}(f:R.state t≠3):R.cR t=(R,if t=0 then 7 else if (s.aM t).state=0 then 0 else 4):=by
 unfold aK.cR;by_cases a:t=0
 .grind
 rw[if_neg a,if_neg a];cases b:aU R.af t with
 |none=>grind[Eo]
 |some x=>
  have d:=Aw h b;have hn:¬x.st=3:=by rw[<-d,h.rel.state];exact f
  have e:¬x.st=0:=by have:=(h.rel.ok x (aN b).1).st;omega
  simp only[];rw[if_neg hn,d,if_neg e]
theorem Gd.abort(h:Gd c T s R)(t:Nat):Gd c T (if t=0 then s else s.forget t) (R.abort t).1/\(R.abort t).2=if t=0 then 7 else 0:=by
 unfold aK.abort;by_cases a:t=0
 .grind
 .rw[if_neg a,if_neg a,if_neg a];exact⟨h.forget t,rfl⟩
theorem C4:∀(xs:List<|ByteArray×aQ),(∀x∈xs,gz x)->(bW xs).length<=xs.length*51
 |[],_=>by simp[bW]
 |x::xs,h=>by
  have b:=CN (h x sE);have c:=C4 xs λy a=>h y<|by simp[a]
  unfold bW at *;rw[List.flatMap_cons,zzi,zzr];omega
theorem Gd.entry(h:Gd c T s R)(t:Nat){L:List (ByteArray×aQ)}(a:aV L)(b:∀k,aj L k=aj s.holds (t,k)):(str<|be 8 t++bW (b9 L)).size<=255:=by
 rw[qq,zzi,eY];have f:=ag.jx h.rel.o2 a b;have e:=h.count t;have l:(b9 L).length=L.length:=by grind[b9,dR]
 have:=C4 (b9 L) λx d=>by
  have m:=bS a<|oA a d;rw[b]at m;exact h.holds<|bJ m
 omega
end
theorem J6{L:List (ByteArray×aQ)}(h:aV L)(k:ByteArray):aj (b9 L) k=aj L k:=by
 have y:∀s:List ByteArray,aj (s.map λq=>(q,(aj L q).getD ⟨0,yA⟩)) k=if (s.any λq=>decide<|q=k)=true then some ((aj L k).getD ⟨0,yA⟩)else none:=by
  intro s;induction s with
  |nil=>rfl
  |cons q r ih=>grind[aj]
 unfold b9;rw[y];cases l:aj L k with
 |none=>
  rw[if_neg];intro m;have⟨q,b,e⟩:=List.any_eq_true.1 m;have e:q=k:=by grind
  subst e;have⟨v,a⟩:=kL.1 b;rw[bS h a]at l;cases l
 |some v=>rw[if_pos<|List.any_eq_true.2 ⟨k,kL.2 ⟨v,bJ l⟩,sE⟩];rfl
theorem J7{L:List (ByteArray×aQ)}(h:aV L):aV (b9 L):=by
 unfold aV b9 fJ;rw[List.pairwise_map,List.pairwise_map];have c:((L.map λp=>p.1.data.toList).mergeSort leB).Nodup:=by
  rw[(List.mergeSort_perm _ leB).nodup_iff];unfold List.Nodup;rw[List.pairwise_map];exact h.imp λY e=>Y<|l7 e
 apply c.imp;intro a b Y e;exact Y<|by simpa using congrArg (λx:ByteArray=>x.data.toList) e
theorem pz{b:oU}(h:lZ b):dy b=b:=(mi h.once).ext h<|kT h.once
theorem Ay(t:Nat):∀(xs:List<|ByteArray×aQ) (s:ag),aV xs->(∀x∈xs,aj s.holds (t,x.1)=none)->∀u k,aj (s.takes t xs).holds (u,k)=if u=t/\(aj xs k).isSome=true then aj xs k else aj s.holds (u,k)
 |[],s,_,_,u,k=>by
  rw[if_neg λh=>by have:=h.2;simp[aj]at this];rfl
 |x::r,s,h,hn,u,k=>by
  have⟨c,l⟩:=zzA.1 h;have j:s.dx t x.1=⟨0,yA⟩:=by unfold ag.dx;rw[hn x sE];rfl
  have i:s.take t x.1 x.2={s with holds:=dm s.holds (t,x.1) x.2}:=by
   unfold ag.take;rw[j,if_pos<|by simp[aQ.writes]]
  have e:s.takes t (x::r)=(s.take t x.1 x.2).takes t r:=rfl;rw[e,i,Ay t r _ l (λy d=>by
   show aj (dm s.holds (t,x.1) x.2) (t,y.1)=none;rw[gj,if_neg λe=>by have:=(Prod.ext_iff.1 e).2;exact c y d this.symm]
   exact hn y (by simp[d]))]
  show(if u=t/\(aj r k).isSome=true then aj r k else aj (dm s.holds (t,x.1) x.2) (u,k))=_;have f:aj (x::r) k=if k=x.1 then some x.2 else aj r k:=by
   unfold aj;rw[List.find?_cons];by_cases e:x.1=k
   .subst e;simp
   .rw[if_neg λh=>e h.symm];simp[e]
  rw[f,gj];by_cases b:k=x.1
  .subst b;have g:aj r x.1=none:=by
    cases q:aj r x.1 with
    |none=>rfl
    |some v=>exact absurd rfl<|c (x.1,v)<|bJ q
   rw[g,if_pos rfl];by_cases a:u=t
   .subst a;simp
   .simp[a]
  .rw[if_neg b];by_cases a:u=t
   .subst a;rw[if_neg λe=>b (Prod.ext_iff.1 e).2]
   .rw[if_neg λe=>a (Prod.ext_iff.1 e).1]
theorem Az(t:Nat):∀(xs:List<|ByteArray×aQ) (s:ag),(s.takes t xs).af=s.af/\(s.takes t xs).aS=s.aS/\(s.takes t xs).aL=s.aL/\(aV s.holds->aV (s.takes t xs).holds)
 |[],s=>⟨rfl,rfl,rfl,λh=>h⟩
 |x::r,s=>by
  have e:s.takes t (x::r)=(s.take t x.1 x.2).takes t r:=rfl;have⟨b,c,d,a⟩:=Az t r<|s.take t x.1 x.2
  have k:(s.take t x.1 x.2).af=s.af/\(s.take t x.1 x.2).aS=s.aS/\(s.take t x.1 x.2).aL=s.aL/\(aV s.holds->aV (s.take t x.1 x.2).holds):=by
   unfold ag.take;split
   .exact⟨rfl,rfl,rfl,λh=>h.put _ _⟩
   .exact⟨rfl,rfl,rfl,λh=>h⟩
  rw[e];exact⟨b.trans k.1,c.trans k.2.1,d.trans k.2.2.1,λh=>a<|k.2.2.2 h⟩
/-! ### what entries say -/
structure Bd(c:Nat)(R:aK):Prop where
 table:R.table.length<=4*c
 ops:∀x∈R.af,x.ops<=c
 keys:∀p∈R.table,p.1.size<=16
 sH:∀x∈R.af,x.jY<16
 len:R.af.length<=12
inductive sI(R:aK):Rec->aK->Prop
 |ni (i kd:Nat) (x:a_) (L:List (ByteArray × aQ)) (hk:kd%128=1) (h0:aU R.af x.id=none) (h3:x.st=3) (hx:x.Ok 0) (h1:aV L) (h2:∀k,aj L k=(aT x.ak k).map aJ.dx) (hl:L.length<=16):sI R ⟨i,kd,be 8 x.id++bW (b9 L)⟩ ⟨R.table,ins R.af x⟩
 |comm (i kd t:Nat) (x:a_) (hk:kd%128=2) (ht:t<18446744073709551616) (hx:aU R.af t=some x) (h3:x.st=3):sI R ⟨i,kd,be 8 t⟩ ⟨eE R.table x.ak,del R.af t⟩
 |aa7 (i kd t:Nat) (x:a_) (hk:kd%128=3) (ht:t<18446744073709551616) (hx:aU R.af t=some x) (h3:x.st=3):sI R ⟨i,kd,be 8 t⟩ ⟨R.table,del R.af t⟩
 |aa8 (i kd:Nat) (k v:ByteArray) (hk:kd%128=4) (h1:k.size<256) (h2:v.size<256):sI R ⟨i,kd,p7 k v⟩ ⟨gD R.table ⟨k,true,false,v⟩,R.af⟩
structure Pp(c T:Nat)(s:ag)(R:aK):Prop where
 tab:∀k,aj s.aS k=aj R.table k
 GJ:lZ R.table
 gd:Gd c T { s with aS:=R.table } R
theorem Pp.all(h:Pp c T s R)(v:aV s.aS):Gd c T s R:=by
 have t:R.table=dy s.aS:=h.GJ.ext (mi v) λk=>by rw[kT v,h.tab]
 have r:=h.gd.rel;exact⟨⟨r.jh,t,r.af,r.holds,r.ok,r.len,r.o1,r.o2⟩,h.gd.aL,h.gd.table,h.gd.ops,h.gd.keys,h.gd.sH⟩
theorem Bd.gd(h:Bd c R)(r:Rel s R)(t:s.aL<=T):Gd c T s R:=⟨r,t,h.table,h.ops,h.keys,h.sH⟩
theorem Rp(c T:Nat):Pp c T sh0 ⟨[],[]⟩:=by
 refine⟨λk=>rfl,List.Pairwise.nil,⟨?_,zzs _,zzs _,sE,sE,sE⟩⟩;exact {jh:=List.Pairwise.nil,table:=(pz List.Pairwise.nil).symm,af:=λt=>rfl,holds:=λt k=>rfl,ok:=sE,len:=sE,o1:=List.Pairwise.nil,o2:=List.Pairwise.nil}
theorem sI.aa9{n:aK}(h:sI R r n)(g:Pp c T s R)(f:Bd c n):Gn (λA=>Pp c T A n) s ⟨r.cQ,r.kind%128,r.pay⟩:=by
 have a:=g.gd.rel;have V:s.aL<=T:=g.gd.aL;cases h with
 |ni i kd x L hk h0 h3 hx d h2 o=>
  have M:=J7 d;have hlen:(b9 L).length=L.length:=by grind[b9,dR]
  have m:(s.aM x.id).state=0:=Eo g.gd h0;have F:∀k,aj s.holds (x.id,k)=none:=λk=>by
   have:=a.holds x.id k;rw[h0]at this;exact this
  rw[show(⟨i,kd,be 8 x.id++bW (b9 L)⟩:Rec).kind%128=1 from hk];refine .ni i x.id (b9 L) hx.Ef hx.E1 m (λy b=>?_) oE ?_
  .have hm:=bS d<|oA d b;rw[h2]at hm
   cases j:aT x.ak y.1 with
   |none=>grind
   |some l=>
    rw[j]at hm;have e:l.dx=y.2:=Option.some.inj hm;have⟨U,B⟩:=pq j;have w:=hx.small l U;have O:=Av w.2.1 w.2.2;rw[e,B]at O;refine⟨O,?_⟩;rw[<-e];show l.dx.way<=2;unfold aJ.dx;simp only[];split
    .grind
    .decide
  .have ic:=Ay x.id (b9 L) ({s with af:=dm s.af x.id ⟨3,0,0⟩}:ag) M λy _=>F y.1;have⟨u,C,H,J⟩:=Az x.id (b9 L) ({s with af:=dm s.af x.id ⟨3,0,0⟩}:ag);refine⟨λk=>?_,g.GJ,f.gd ?_ ?_⟩
   .show aj (s.kE x.id<|b9 L).aS k=_;unfold ag.kE;rw[C];exact g.tab k
   .refine {jh:=a.jh.ins x h0,table:=?_,af:=λt=>?_,holds:=λt k=>?_,ok:=λy b=>?_,len:=f.len,o1:=?_,o2:=?_}
    .show R.table=dy R.table;rw[pz g.GJ]
    .show aj (s.kE x.id<|b9 L).af t=_;unfold ag.kE;rw[u,vD x t h0];show aj (dm s.af x.id ⟨3,0,0⟩) t=_;rw[gj];by_cases e:t=x.id
     .grind [a_.B8]
     .rw[if_neg e,if_neg e];have j:=a.af t;show aj s.af t=_;have:aj s.af t=(aU R.af t).map (a_.B8 s.aL):=j;rw[this];show _=(aU R.af t).map (a_.B8 (({s with af:=dm s.af x.id ⟨3,0,0⟩}:ag).takes x.id<|b9 L).aL);rw[H]
    .show aj (s.kE x.id<|b9 L).holds (t,k)=_;unfold ag.kE;rw[ic t k,J6 d,vD x t h0,h2];by_cases e:t=x.id
     .grind [aT,aJ.dx]
     .rw[if_neg λh=>e h.1,if_neg e];exact a.holds t k
    .have hm:y=x\/y∈R.af:=by
      unfold ins at b;obtain b|b:=zzo.1 b
      .exact .inr<|(List.takeWhile_sublist _).mem b
      .rcases zzj.1 b with b|b
       .exact .inl b
       .exact .inr<|(List.dropWhile_sublist _).mem b
     have D:({(s.kE x.id<|b9 L)with aS:=R.table}:ag).aL=s.aL:=by grind[b9,ag.kE]
     rw[D];obtain rfl|hm:=hm
     .exact {E1:=hx.E1,Ef:=hx.Ef,st:=hx.st,jY:=λhn=>absurd h3 hn,once:=hx.once,four:=hx.four,small:=hx.small,read:=hx.read}
     .exact a.ok y hm
    .show aV (s.kE x.id<|b9 L).af;unfold ag.kE;rw[u];exact a.o1.put _ _
    .show aV (s.kE x.id<|b9 L).holds;unfold ag.kE;exact J a.o2
   .grind [b9,ag.kE]
 |comm i kd t x hk ht hx h3=>
  rw[show(⟨i,kd,be 8 t⟩:Rec).kind%128=2 from hk];have m:(s.aM t).state=3:=(Aw g.gd hx).trans h3;have W:s.count t<=16:=by have:=g.gd.count t;exact zzk this oE
  refine .comm i t ht m W (λp hp=>g.gd.small p hp) λA K=>?_;obtain⟨G,rfl,o⟩:=K;have E:=a.ok x (aN hx).1;have⟨z,I⟩:=tZ x.ak R.table E.once g.GJ;have d:Rel {s with aS:=eE R.table x.ak} ⟨eE R.table x.ak,R.af⟩:={jh:=a.jh,table:=(pz z).symm,af:=a.af,holds:=a.holds,ok:=a.ok,len:=a.len,o1:=a.o1,o2:=a.o2};refine⟨λk=>?_,z,f.gd (d.forget t) V⟩;show aj G k=_;rw[I,o,g.tab];have:=a.holds t k;rw[hx]at this;rw[show aj s.holds (t,k)=(aT x.ak k).map aJ.dx from this]
 |aa7 i kd t x hk ht hx h3=>
  rw[show(⟨i,kd,be 8 t⟩:Rec).kind%128=3 from hk];have m:(s.aM t).state=3:=(Aw g.gd hx).trans h3;exact .aaP i t ht m ⟨g.tab,g.GJ,f.gd (a.forget t) V⟩
 |aa8 i kd k v hk d h2=>
  rw[show(⟨i,kd,p7 k v⟩:Rec).kind%128=4 from hk];refine .aaQ i k v d h2 ⟨λq=>?_,g.GJ.gD _,f.gd ?_ V⟩
  .show aj (dm s.aS k v) q=_;rw[gj,xq _ g.GJ,g.tab];rfl
  .exact {jh:=a.jh,table:=(pz<|g.GJ.gD _).symm,af:=a.af,holds:=a.holds,ok:=a.ok,len:=a.len,o1:=a.o1,o2:=a.o2}
/-! ### entries one behind the other -/
def Ma(C:List (Rec × aK)):Nat->aK
 |0=>⟨[],[]⟩
 |i+1=>((C[i]?).map (·.2)).getD ⟨[],[]⟩
def Ie(c:Nat)(C:List (Rec × aK)):Prop:=∀i r R,C[i]?=some (r,R)->sI (Ma C i) r R/\Bd c R
def JC(c T:Nat)(C:List (Rec × aK))(e:List Rec)(s:ag):Prop:=Pp c T s (Ma C e.length)
theorem Ie.ac9{C:List (Rec×aK)}(h:Ie c C){p:List Rec}{x:Rec}(hp:p++[x]<+:C.map (·.1))(j:JC c T C p s):Gn (JC c T C<|p++[x]) s ⟨x.cQ,x.kind%128,x.pay⟩:=by
 have⟨z,i⟩:=hp;have J:(C.map (·.1))[p.length]?=some x:=by grind
 rw[zzy]at J;have⟨⟨r,R⟩,q,e⟩:=Option.map_eq_some_iff.1 J;have e:r=x:=e;subst e;have⟨a,d⟩:=h p.length r R q;have g:Ma C (p++[r]).length=R:=by
  rw[zzi];show((C[p.length]?).map (·.2)).getD ⟨[],[]⟩=R;rw[q];rfl
 have:=a.aa9 j d;have b:JC c T C (p++[r])=λf=>Pp c T f R:=by grind[JC]
 rw[b];exact this
theorem Mb(c:Nat):Ie c []:=λi r R h=>by simp at h
theorem Ie.snoc{C:List (Rec×aK)}(h:Ie c C)(d:sI (Ma C C.length) r R)(e:Bd c R):Ie c (C++[(r,R)]):=by
 have m:∀i,i<=C.length->Ma (C++[(r,R)]) i=Ma C i:=λi a=>by
  cases i with
  |zero=>rfl
  |succ i=>
   show(((C++[(r,R)])[i]?).map (·.2)).getD ⟨[],[]⟩=((C[i]?).map (·.2)).getD ⟨[],[]⟩;rw[List.getElem?_append_left oE]
 intro i q Q b;by_cases a:i<C.length
 .rw[List.getElem?_append_left a]at b;rw[m i oE];exact h i q Q b
 .grind
theorem AA(C:List<|Rec×aK)(r:Rec)(R:aK):Ma (C++[(r,R)]) (C++[(r,R)]).length=R:=by
 rw[zzi];show(((C++[(r,R)])[C.length]?).map (·.2)).getD ⟨[],[]⟩=R;simp
theorem Ie.mono{C:List (Rec×aK)}(h:Ie c C)(f:c<=b):Ie b C:=λi r R q=>by
 have⟨d,a⟩:=h i r R q;exact⟨d,⟨by have:=a.table;omega,λx e=>zzk (a.ops x e) f,a.keys,a.sH,a.len⟩⟩
/-! ### a ac_ that says a QS -/
theorem Mc(a:0<n):∀(X:List Rec),(∀r∈X,r.cQ<n)->(gC X).1<n/\(gC X).2.1<n/\(gC X).2.2<n:=by
 have y:∀(X:List Rec) (x:Nat×Nat×Nat),(∀r∈X,r.cQ<n)->x.1<n/\x.2.1<n/\x.2.2<n->(X.foldl iJ x).1<n/\(X.foldl iJ x).2.1<n/\(X.foldl iJ x).2.2<n:=by
  intro X;induction X with
  |nil=>grind
  |cons r X ih=>grind[iJ]
 exact λX h=>y X (0,0,0) h ⟨a,a,a⟩
theorem Ep(k:r.kind<128)(h:∀q∈X,q.cQ<r.cQ)(a:0<r.cQ):gC (X++[r])=gC X/\counted (X++[r])=counted X++[r]:=by
 have e:gC (X++[r])=gC X:=by grind[xm,iJ]
 have⟨_,_,b⟩:=Mc a X h;refine⟨e,?_⟩;unfold counted;rw[e,List.filter_append];congr 1;have:counts (gC X).2.1 (gC X).2.2 r=true:=by grind[counts]
 simp[this]
theorem Er(k:128<=r.kind/\r.kind≠255)(h:∀q∈X,q.cQ<r.cQ)(b:0<r.cQ):(gC<|X++[r]).2=(gC X).2/\counted (X++[r])=counted X/\(gC<|X++[r]).1=if r.kind=254 then r.cQ else (gC X).1:=by
 have e:gC (X++[r])=if r.kind=254 then (r.cQ,(gC X).2)else gC X:=by grind[xm,iJ]
 have⟨_,_,c⟩:=Mc b X h;have a:(gC<|X++[r]).2=(gC X).2:=by grind
 refine⟨a,?_,by rw[e];split<;>rfl⟩;unfold counted;rw[a,List.filter_append];have:counts (gC X).2.1 (gC X).2.2 r=false:=by grind[counts,gC]
 simp[this]
theorem Ca(m:0<b)(d:∀q∈X,q.cQ<b)(j:∀q∈es,b<q.cQ/\q.cQ<n/\128<=q.kind/\q.kind<254)(hn:b<n):gC (X++[⟨b,254,[]⟩]++es++[⟨n,255,[]⟩])=(b,b,n)/\counted (X++[⟨b,254,[]⟩]++es++[⟨n,255,[]⟩])=es:=by
 have O:∀(es:List Rec),(∀q∈es,128<=q.kind/\q.kind<254)->∀x,es.foldl iJ x=x:=by
  intro es;induction es with
  |nil=>grind
  |cons q r ih=>
   intro h x;have l:=h q sE;rw[List.foldl_cons];have:iJ x q=x:=by grind[iJ]
   rw[this];exact ih (λy f=>h y<|by simp[f]) x
 have e:gC (X++[⟨b,254,[]⟩]++es++[⟨n,255,[]⟩])=(b,b,n):=by grind[gC,iJ]
 refine⟨e,?_⟩;unfold counted;rw[e,List.filter_append,List.filter_append,List.filter_append];have k:X.filter (counts b n)=[]:=by
  rw[List.filter_eq_nil_iff];intro r a;have:=d r a;unfold counts;have c:¬n<r.cQ:=oE;have g:¬b<r.cQ:=oE;simp[c,g]
 have i:es.filter (counts b n)=es:=by
  rw[List.filter_eq_self];intro r a;have:=j r a;unfold counts;simp[this.1,this.2.1]
 have c1:counts b n ⟨b,254,[]⟩=false:=by simp[counts]
 have c3:counts b n ⟨n,255,[]⟩=false:=by simp[counts]
 simp only[k,i];simp[c1,c3]
structure vL(c mk:Nat)(X:List Rec)(R:aK):Prop where
 cp:mk=1\/(gC X).2.1≠0
 ch:∃C,Ie c C/\C.map (·.1)=counted X/\Ma C C.length=R
theorem vL.mono(h:vL c mk X R)(e:c<=a):vL a mk X R:=by
 have⟨C,b,d,f⟩:=h.ch;exact⟨h.cp,C,b.mono e,d,f⟩
theorem AF(c:Nat):vL c 1 [] ⟨[],[]⟩:=⟨.inl rfl,[],Mb c,rfl,rfl⟩
theorem vL.note{a:aK}(h:vL c mk X R)(k:r.kind<128)(l:∀q∈X,q.cQ<r.cQ)(b:0<r.cQ)(e:sI R r a)(g:Bd c a):vL c mk (X++[r]) a:=by
 have⟨j,f⟩:=Ep k l b;have⟨C,d,i,m⟩:=h.ch;refine⟨by rw[j];exact h.cp,C++[(r,a)],d.snoc (by rw[m];exact e) g,?_,AA C r a⟩;rw[List.map_append,i,f];rfl
theorem vL.eZ(h:vL c mk X R)(k:128<=r.kind/\r.kind≠255)(l:∀q∈X,q.cQ<r.cQ)(a:0<r.cQ):vL c mk (X++[r]) R:=by
 have⟨f,e,_⟩:=Er k l a;have⟨C,b,d,g⟩:=h.ch;exact⟨by rw[f];exact h.cp,C,b,by rw[d,e],g⟩
theorem vL.whole(f:0<b)(a:∀q∈X,q.cQ<b)(g:∀q∈es,b<q.cQ/\q.cQ<n/\128<=q.kind/\q.kind<254)(hn:b<n){C:List (Rec×aK)}(d:Ie c C)(m:C.map (·.1)=es)(h:Ma C C.length=R):vL c mk (X++[⟨b,254,[]⟩]++es++[⟨n,255,[]⟩]) R:=by
 have⟨i,e⟩:=Ca f a g hn;exact⟨.inr<|by rw[i];show b≠0;omega,C,d,by rw[e,m],h⟩
end Go.Proofs.YtdcafjmdfpjcbaaGreatDoor
