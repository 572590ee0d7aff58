import Derived.Test.YtdcafjmdfpjcbaaGreatDoorC36
set_option maxHeartbeats 16000000
set_option maxRecDepth 100000
namespace Go.Proofs.YtdcafjmdfpjcbaaGreatDoor
open Go.RowKit Go.Maps Tryz Sc
variable{wr:Bool}{k:ByteArray}{seq:Int}{xs:List a_}{c g i j rp t:Nat}{α:Type}{v v2:Value}{w:World}{R:aK}{x x':a_}
theorem RS.find [Inhabited Bs](h:RS w rp R)(hn:R.af.length<=1048576):Calls prog 77 #[rM rp,.int .u64 (t:Int)] w λe w'=>e=.returned (.int .i64<|ze<|p8 R.af t)/\∃q,w'=w.drewN q:=by
 have⟨v,x,s,h⟩:=h;exact oI rp t v x s R w h<|by rw[h.len];omega
theorem RS.all [Inhabited Bs](h:RS w rp R)(k:R.af[i]?=some x):∃g c b l,w.cell? (d8 rp 1)=some (.slice (some<|dH g) R.af.length c)/\w.cell? (d8 g<|i*5+1)=some (.int .i64 (x.st:Int))/\w.cell? (d8 g<|i*5+2)=some (.int .i64 (x.ops:Int))/\w.cell? (d8 g<|i*5+4)=some (.slice b x.ak.length l)/\w.ownsRow B0 134 4 (.slice b x.ak.length l) x.ak.length (dW x.ak):=by
 have⟨t,r,s,h⟩:=h;have c1:=aa h.blk 1;simp at c1;have⟨v,hp⟩:=h.at k;have⟨p,c,n,H⟩:=h.slice;have⟨g,m,q,e,f,o,d⟩:=H i _ hp;have a:=h.nj _<|zzh hp;have⟨b,l,j⟩:=bZ a;simp only[]at e f d j a;rw[n,m,h.len]at c1;rw[j]at d a;exact⟨g,c,b,l,c1,e,f,d,a⟩
theorem RS.nil [Inhabited Bs](h:RS w rp R):∃o c,w.cell? (d8 rp 1)=some (.slice o R.af.length c):=by
 have⟨v,x,s,h⟩:=h;have c1:=aa h.blk 1;simp at c1;have⟨o,c,e,H⟩:=h.slice;rw[e,h.len]at c1;exact⟨_,_,c1⟩
section
variable(rp t:Nat)(seq:Int)(k:ByteArray)(wr:Bool)(R:aK)(w:World)
theorem SQ [Inhabited Bs](h:RS w rp R)(hn:R.af.length<=12)(F:∀x∈R.af,x.ak.length<=4)(r:R.refuse t seq k≠0):
  Calls prog 127 #[rM rp,.int .u64 (t:Int),.int .i64 seq,.string k,.bool wr] w λe w'=>e=.returned (.tuple #[.int .i64 0,.int .i64 0,.int .i64 (R.refuse t seq k:Int)])/\Fr [] w w':=by
 have a:=h.find (t:=t) oE;by_cases s:t=0
 .have b:R.refuse t seq k=7:=if_pos s;subst s;clear a h;go_enter func127,ntmps127;go_wp2;go_ret3;exact⟨by first|(rw[b];rfl)|rfl,lE w⟩
 have z1:¬((t:Int)=0):=oE;have b0:((t:Int)==0)=false:=sC;by_cases H:k.size<1\/16<k.size
 .have b:R.refuse t seq k=1:=by unfold aK.refuse;rw[if_neg s,if_pos H]
  clear a h;obtain H|H:=H
  .have K:(k.size:Int)<1:=oE;go_enter func127,ntmps127;go_wp2;go_ret3;exact⟨by first|(rw[b];rfl)|rfl,lE w⟩
  .have K:¬(k.size:Int)<1:=oE;have O:(16:Int)<(k.size:Int):=oE;go_enter func127,ntmps127;go_wp2;go_ret3;exact⟨by first|(rw[b];rfl)|rfl,lE w⟩
 have K:¬(k.size:Int)<1:=oE;have O:¬(16:Int)<(k.size:Int):=oE;cases f:p8 R.af t with
 |none=>
  rw[f]at a;have z:ze none=-1:=rfl;rw[z]at a;have u:R.refuse t seq k=if seq≠0 then 4 else if R.af.length=12 then 5 else 0:=by unfold aK.refuse;rw[if_neg s,if_neg H,mg f]
  by_cases d:seq=0
  .have DH:R.af.length=12:=by
    by_cases e:R.af.length=12
    .exact e
    .rw[u,if_neg<|by simp[d],if_neg e]at r;exact absurd rfl r
   have b:R.refuse t seq k=5:=by rw[u,if_neg<|by simp[d],if_pos DH]
   have⟨ao,c,c1⟩:=h.nil;rw[DH]at c1;subst d;clear h f u;go_enter func127,ntmps127;go_wp2_with fail;apply a.mono;rintro e o ⟨rfl,q,rfl⟩;have N:=ae<|(lE w).aR q;clear a;go_wp2;go_ret3;exact⟨by first|(rw[b];rfl)|rfl,N.out⟩
  .have b:R.refuse t seq k=4:=by rw[u,if_pos d]
   clear h f u;go_enter func127,ntmps127;go_wp2_with fail;apply a.mono;rintro e o ⟨rfl,q,rfl⟩;have N:=ae<|(lE w).aR q;clear a;go_wp2;go_ret3;exact⟨by first|(rw[b];rfl)|rfl,N.out⟩
 |some i=>
  have⟨x,y,a1,J⟩:=kR f;rw[f]at a;have z:ze (some i)=(i:Int):=rfl;rw[z]at a;have u:R.refuse t seq k=if x.st=3 then 4 else if seq≠(x.ops:Int)then 4 else if x.st=2 then 3 else if (aT x.ak k).isSome=false/\x.ak.length=4 then 5 else 0:=by unfold aK.refuse;rw[if_neg s,if_neg H,J]
  have S:i<R.af.length:=(zzd.1 y).1;have⟨g,c,W,T,c1,A,x2,I,C⟩:=h.all y;have⟨n,E⟩:=xY R.af.length;rw[<-E]at c1 S hn;have i0:(0:Int)<=i:=oE;have i1:(i:Int)<n:=oE;have X:¬(i:Int)<0:=oE;have P:=F x<|zzh y;clear h f y E J F;by_cases m:x.st=3
  .have b:R.refuse t seq k=4:=by rw[u,if_pos m]
   rw[m]at A;clear u C;go_enter func127,ntmps127;go_wp2_with fail;apply a.mono;rintro e o ⟨rfl,q,rfl⟩;have N:=ae<|(lE w).aR q;clear a;go_wp2;go_ret3;exact⟨by first|(rw[b];rfl)|rfl,N.out⟩
  have L:¬((x.st:Int)=3):=oE;have M:((x.st:Int)==3)=false:=sC;by_cases d:¬seq=(x.ops:Int)
  .have b:R.refuse t seq k=4:=by rw[u,if_neg m,if_pos d]
   have Y:(seq != (x.ops:Int))=true:=by simp[d]
   clear u C;go_enter func127,ntmps127;go_wp2_with fail;apply a.mono;rintro e o ⟨rfl,q,rfl⟩;have N:=ae<|(lE w).aR q;clear a;go_wp2;go_ret3;exact⟨by first|(rw[b];rfl)|rfl,N.out⟩
  have d:seq=(x.ops:Int):=oE;subst d;by_cases v:x.st=2
  .have b:R.refuse t (x.ops:Int) k=3:=by rw[u,if_neg m,if_neg sE,if_pos v]
   rw[v]at A;clear u C L M;go_enter func127,ntmps127;go_wp2_with fail;apply a.mono;rintro e o ⟨rfl,q,rfl⟩;have N:=ae<|(lE w).aR q;clear a;go_wp2;go_ret3;exact⟨by first|(rw[b];rfl)|rfl,N.out⟩
  have z2:¬((x.st:Int)=2):=oE;have Z:((x.st:Int)==2)=false:=sC;have p:(aT x.ak k).isSome=false/\x.ak.length=4:=by
   by_cases e:(aT x.ak k).isSome=false/\x.ak.length=4
   .exact e
   .rw[u,if_neg m,if_neg sE,if_neg v,if_neg e]at r;exact absurd rfl r
  have b:R.refuse t (x.ops:Int) k=5:=by rw[u,if_neg m,if_neg sE,if_neg v,if_pos p]
  have B:=λq=>mj g (i*5) (.slice W x.ak.length T) k x.ak (w.drewN q) (by simpa using I) (av C ((lE w).aR q) sE)<|by have:=P;omega
  have G:lJ x.ak k=none:=by
   cases U:lJ x.ak k with
   |none=>rfl
   |some j=>have⟨l,_,_,Q⟩:=qP U;rw[Q]at p;simp at p
  have V:ze none=-1:=rfl;simp only[G,V]at B;rw[p.2]at I;clear u C G r p;go_enter func127,ntmps127;go_wp2_with fail;apply a.mono;rintro e o ⟨rfl,q,rfl⟩;clear a;have D:=B q;clear B;go_wp2_with fail;apply D.mono;rintro e w2 ⟨rfl,q2,rfl⟩;have N:=ae<|((lE w).aR q).aR q2;clear D;go_wp2;go_ret3;exact⟨by first|(rw[b];rfl)|rfl,by first|exact N.out|exact(lE w).aR _⟩
end
theorem Dk(xs:List a_)(t:Nat)(k:ByteArray)(wr:Bool):meets xs t k wr=(xs.map λx=>(x.id,x.ak)).any λy=>!decide (y.1=t)&&((aT y.2 k).map λl=>wr||l.wr).getD false:=by
 unfold meets;rw[List.any_map];rfl
theorem vZ{β:Type}(f:α->β){xs:List α}{x x':α}(h:xs[i]?=some x)(a:f x'=f x):(xs.set i x').map f=xs.map f:=by
 rw[List.map_set];apply List.ext_getElem?;intro m;rw[List.getElem?_set];split
 .grind
 .rfl
theorem xK(h:xs[i]?=some x)(b:x'.id=x.id)(a:x'.ak=x.ak)(t:Nat)(k:ByteArray)(wr:Bool):meets (xs.set i x') t k wr=meets xs t k wr:=by grind[Dk,vZ]
section
variable{w w2:World}{rp:Nat}{J I:Value}{E:List (a_ × Value)}{R:aK}
theorem Hc{E:List (a_×Value)}(h:E.Pairwise λp q=>p.2.ownBlock=none\/p.2.ownBlock≠q.2.ownBlock){i j:Nat}{p q:a_×Value}(l:E[i]?=some p)(f:E[j]?=some q)(k:i≠j){g:Nat}(hp:p.2.ownBlock=some g):q.2.ownBlock≠some g:=by
 have⟨a,d⟩:=zzd.1 l;have⟨c,b⟩:=zzd.1 f;obtain P|Tv:=Nat.lt_or_gt_of_ne k
 .have:=List.pairwise_iff_getElem.1 h i j a c P;rw[d,b,hp]at this;obtain e|e:=this
  .cases e
  .grind
 .have:=List.pairwise_iff_getElem.1 h j i c a Tv;rw[d,b,hp]at this;obtain e|e:=this
  .grind
  .exact e
theorem cX.VR [Inhabited Bs](h:cX w rp J I E R){i g c:Nat}{x x':a_}{v v2:Value}(H:I=.slice (some<|dH g) E.length c)(hp:E[i]?=some (x,v))(d:Fr v.ownBlock.toList w w2)(ho:w2.ownsRow B0 134 4 v2 x'.ak.length<|dW x'.ak)(D:v2.ownBlock=v.ownBlock\/∃z,v2.ownBlock=some z/\w.heap.size<=z)(W:jZ (x',v2)=(jZ (x,v)).set 4 v2):
  cX (w2.setCell (d8 g<|i*5+4) v2) rp J I (E.set i (x',v2)) ⟨R.table,R.af.set i x'⟩/\lK w g/\∀k∈v.ownBlock.toList,lK w k:=by
 have hi:i<E.length:=(zzd.1 hp).1;have B:=h.tk;rw[H]at B;have⟨Q,A⟩:=aF B rfl;have N:=h.nj _<|zzh hp;have G:∀{e:TypeId} {size n:Nat} {u:Value} {P:List Value},e≠134->w.ownsRow B0 e size u n P->∀q,u.ownBlock=some q->q∉v.ownBlock.toList:=by grind[aF]
 have U:g∉v.ownBlock.toList:=G dN B g rfl;have Y:w2.heap[g]?=some (.cells Q 92 (0,0)):=(d.block g (zza.1 A).1 U).trans A;have X:rp∉v.ownBlock.toList:=λl=>bG N h.blk dN<|by simpa using l
 have Z:=av B d (G dN B);refine⟨{base:=h.base,blk:=?_,tab:=b_ (av h.tab d<|G dN h.tab) Y dN,tk:=?_,nj:=λp l=>?_,apart:=?_,rs:=?_,mine:=h.Ej (by simp;exact d.size) (λk C=>?mq)},⟨⟨(B.lt g rfl).1,h.mine g<|.inr<|.inl<|by rw[H];rfl⟩,_,_,A,.inr<|.inl rfl⟩,λk C=>?_⟩
 case mq=>
  obtain e|⟨z,e,hz⟩:=D
  .exact h.Ao hp<|e▸C
  .have s:=C;rw[e]at s;cases s;exact h.mine _<|.inr<|.inr<|.inr hz
 .refine(Below.heap_setCell _ _ _ rp ?_).trans<|(d.block rp (zza.1 h.blk).1 X).trans h.blk;intro e;simp only[]at e;have:=h.blk;rw[e,A]at this
  cases this
 .rw[List.length_set,H];have:=qR (j:=i*5+4) (u:=v2) Z;have e:=vK (k:=5) (λ_=>rfl) E i 4 (x,v) (x',v2) v2 hp (by decide) W;unfold cT at this ⊢;rw[e];exact this
 .obtain⟨j,hj⟩:=zzB.1 l;rw[List.getElem?_set]at hj;split at hj
  .grind [b_]
  .rename_i em;have T:=h.nj p<|zzh hj;refine b_ (av T d λq F nU=>?_) Y dN;exact Hc h.apart hp hj em (by simpa using nU) F
 .rw[List.pairwise_iff_getElem];intro a b t r S;rw[List.length_set]at t r;have K:∀m (l:m<E.length),((E.set i (x',v2))[m]'(by rw[List.length_set];exact l)).2=if i=m then v2 else (E[m]).2:=by grind
  rw[K a t,K b r];have L:=List.pairwise_iff_getElem.1 h.apart a b t r S;have M:(E[i]).2=v:=by grind
  by_cases O:i=a
  .subst O;rw[if_pos rfl,if_neg oE];rw[M]at L;obtain e|⟨z,e,hz⟩:=D
   .grind
   .refine .inr λo=>?_
    rw[e]at o;have:=((h.nj _<|List.getElem_mem r).lt z o.symm).2;omega
  .rw[if_neg O];by_cases s:i=b
   .subst s;rw[if_pos rfl];rw[M]at L;obtain e|⟨z,e,hz⟩:=D
    .grind
    .cases F:(E[a]).2.ownBlock with
     |none=>grind
     |some y=>
      refine .inr λo=>?_
      rw[e]at o;cases o;have:=((h.nj _<|List.getElem_mem t).lt _ F).2;omega
   .grind
 .rw[List.map_set,h.rs]
 .have gT:v.ownBlock=some k:=by simpa using C
  have⟨cc,V⟩:=aF N gT;exact⟨⟨(N.lt k gT).1,h.Ao hp gT⟩,_,_,V,.inr<|.inr rfl⟩
end
abbrev dv(k:ByteArray):List aJ->List aJ:=λs=>if (aT s k).isSome=true then s else s++[⟨k,false,false,yA⟩]
theorem cX.gZ [Inhabited Bs]{E d:Value}{ps:List (a_×Value)}(h:cX w rp E d ps R){n:Nat}(a:d=.slice (some<|dH g) n c)(hp:ps[i]?=some (x,v)):
  w.cell? (d8 rp 1)=some (.slice (some<|dH g) n c)/\w.cell? (d8 g<|i*5+1)=some (.int .i64 (x.st:Int))/\w.cell? (d8 g<|i*5+2)=some (.int .i64 (x.ops:Int))/\w.cell? (d8 g<|i*5+3)=some (.int .i64 (x.jY:Int))/\w.cell? (d8 g<|i*5+4)=some v/\w.ownsRow B0 134 4 v x.ak.length (dW x.ak)/\∀j,w.frozen? (d8 g j)=false:=by
 have c1:=aa h.blk 1;simp at c1;have⟨q,s,e,H⟩:=h.slice;have⟨b,t,u,f,k,l,o⟩:=H i _ hp;rw[a]at e c1;simp only[Value.slice.injEq]at e;have p:b=g:=by grind
 subst p;have I:=h.tk;rw[a]at I;have⟨r,m⟩:=aF I rfl;exact⟨c1,f,k,l,o,h.nj _<|zzh hp,λj=>au m j⟩
structure EK [Inhabited Bs](w w':World)(rp t:Nat)(seq:Int)(k:ByteArray)(wr:Bool)(R:aK)(i kx:Nat):Prop where
 rs:RS w' rp (R.op t seq k wr (dv k)).1
 fr:iE w w'
 at_:(R.op t seq k wr (dv k)).2=0->∃l,(R.op t seq k wr (dv k)).1.af[i]?=some ((R.tx t).worked (dv k))/\(dv k (R.tx t).ak)[kx]?=some l/\l.key=k
theorem EL{f:List aJ->List aJ}(r:R.refuse t seq k=0)(m:meets (began R.af t) t k wr=true):R.op t seq k wr f=(⟨R.table,fH (began R.af t) (R.tx t).dQ⟩,3):=by grind[aK.op]
theorem r_{f:List aJ->List aJ}(r:R.refuse t seq k=0)(m:meets (began R.af t) t k wr=false):R.op t seq k wr f=(⟨R.table,fH (began R.af t)<|(R.tx t).worked f⟩,0):=by grind[aK.op]
theorem pG(a:jg xs){y z:a_}(b:xs[i]?=some x)(h:z.id=x.id):(xs.set i y).set i z=fH xs z:=by
 rw[List.set_set];exact a.set b h
theorem i_{xs:List α}{x y:α}(h:xs[i]?=some x):(xs.set i y)[i]?=some y:=by grind
def Tl [Inhabited Bs](W:World)(rp g n c i:Nat)(E:Value)(ps:List (a_ × Value))(R:aK)(x:a_)(v:Value):Prop:=cX W rp E (.slice (some (dH g)) n c) ps R/\ps.length=n/\ps[i]?=some (x,v)
section
variable{W I:World}{rp g n c i:Nat}{E:Value}{ps:List (a_ × Value)}{R:aK}{x:a_}{v:Value}
theorem Tl.fr [Inhabited Bs](h:Tl W rp g n c i E ps R x v)(f:Fr [] W I):Tl I rp g n c i E ps R x v:=⟨h.1.fr f,h.2⟩
theorem Tl.set [Inhabited Bs](h:Tl W rp g n c i E ps R x v){j:Nat}{u:Value}{x':a_}(b:j<5)(f:jZ (x',v)=(jZ (x,v)).set j u)(l:x'.ak=x.ak):Tl (W.setCell (d8 g<|i*5+j) u) rp g n c i E (ps.set i (x',v)) ⟨R.table,R.af.set i x'⟩ x' v/\iE W (W.setCell (d8 g<|i*5+j) u):=by
 obtain⟨d,e⟩:=h.1.aa3 (by rw[h.2.1]) h.2.2 b f l;exact⟨⟨d,by rw[List.length_set,h.2.1],i_ h.2.2⟩,iE.dJ (Fr.cH (S:=[g]) (by simp) _ _) λk a=>by simp at a;subst a;exact e⟩
theorem Tl.VR [Inhabited Bs](h:Tl W rp g n c i E ps R x v){x':a_}{v2:Value}(f:Fr v.ownBlock.toList W I)(o:I.ownsRow B0 134 4 v2 x'.ak.length<|dW x'.ak)(J:v2.ownBlock=v.ownBlock\/∃z,v2.ownBlock=some z/\W.heap.size<=z)(e:jZ (x',v2)=(jZ (x,v)).set 4 v2):RS (I.setCell (d8 g<|i*5+4) v2) rp ⟨R.table,R.af.set i x'⟩/\iE W (I.setCell (d8 g<|i*5+4) v2):=by
 obtain⟨b,d,j⟩:=h.1.VR (by rw[h.2.1]) h.2.2 f o J e;refine⟨⟨_,_,_,b⟩,iE.dJ (S:=g::v.ownBlock.toList) ((f.mono<|by simp +contextual).trans<|Fr.cH (by simp) _ _) λk a=>?_⟩;obtain rfl|a:=zzj.1 a
 .exact d
 .grind
theorem Tl.tx [Inhabited Bs](h:Tl W rp g n c i E ps R x v):R.af[i]?=some x:=h.1.back h.2.2
end
structure TkB [Inhabited Bs](w W:World)(t:Nat)(seq:Int)(k:ByteArray)(ps:List (a_ × Value))(R R1:aK)(x:a_):Prop where
 xs:R1.af=began R.af t
 tab:R1.table=R.table
 tx:x=R.tx t
 jh:jg R1.af
 fr:iE w W
 nj:∀p∈ps,p.1.ak.length<=4
 re:R.refuse t seq k=0
 ops:x.ops<4611686018427387904
section
variable(rp t:Nat)(k:ByteArray)(wr:Bool)(R:aK)(w:World)
theorem OG [Inhabited Bs](x:a_)(h:RS w rp R)(ha:jg R.af)(hn:R.af.length<=12)(hl:∀x∈R.af,x.ak.length<=4)(V:aU R.af t=some x)(hr:R.refuse t (x.ops:Int) k=0)(uw:x.ops<4611686018427387904):
  Calls prog 127 #[rM rp,.int .u64 (t:Int),.int .i64 (x.ops:Int),.string k,.bool wr] w λe w'=>∃i kx:Nat,e=.returned (.tuple #[.int .i64 (i:Int),.int .i64 (kx:Int),.int .i64 ((R.op t (x.ops:Int) k wr<|dv k).2:Int)])/\EK w w' rp t (x.ops:Int) k wr R i kx:=by
 have n_:=h.find (t:=t) oE;obtain⟨h0,kD,gT,sW,_⟩:=jQ hr;obtain⟨h3,h2,_,h4⟩:=sW x V
 obtain⟨i,Q⟩:∃i,p8 R.af t=some i:=by
  cases hz:p8 R.af t with
  |none=>rw[mg hz]at V;cases V
  |some i=>exact⟨i,rfl⟩
 obtain⟨x',hi,ay,a7⟩:=kR Q;rw[V]at a7
 cases a7;rw[Q]at n_;have e2:ze (some i)=(i:Int):=rfl;rw[e2]at n_;have z1:¬((t:Int)=0):=oE;have b0:((t:Int)==0)=false:=sC;have y1:¬(k.size:Int)<1:=oE;have y2:¬(16:Int)<(k.size:Int):=oE;have z3:¬((x.st:Int)=3):=oE;have b3:((x.st:Int)==3)=false:=sC;have z2:¬((x.st:Int)=2):=oE;have b2:((x.st:Int)==2)=false:=by simp;omega
 obtain⟨E,xv,ps,h⟩:=h;obtain⟨v,hp⟩:=h.at hi;obtain⟨ao,c,e0,H⟩:=h.slice;obtain⟨g,e3,_⟩:=H i _ hp;rw[e3]at e0;subst e0;obtain⟨n,jD⟩:∃n,n=ps.length:=⟨_,rfl⟩;have JS:i<ps.length:=(zzd.1 hp).1;have ab:ps.length<=12:=by rw[h.len];exact hn
 rw[<-jD]at JS ab h
 have HT:Hid (Tl w rp g n c i E ps R x v/\jg R.af/\∀p∈ps,p.1.ak.length<=4):=⟨⟨h,jD.symm,hp⟩,ha,λp hp=>by
  obtain⟨j,P⟩:=zzB.1 hp
  exact hl p.1 (zzh (h.back P))⟩
 have Jl:Hid (R.refuse t (x.ops:Int) k=0/\aU R.af t=some x):=⟨hr,V⟩;have i0:(0:Int)<=(i:Int):=by omega
 have i1:(i:Int)<(n:Int):=by omega
 have i2:¬(i:Int)<0:=by omega
 obtain⟨c1,o,A,s,f,C,m⟩:=HT.1.1.gZ rfl HT.1.2.2
 try simp only[]at o A s f C
 obtain⟨I,J,ev⟩:=bZ C;subst ev;have Kv:=hl x<|zzh hi;have X:=λq=>mj g (i*5) (.slice I x.ak.length J) k x.ak (w.drewN q) (by simpa using f) (av C ((Fr.refl [] w).aR q) (by simp)) (by omega)
 have ad:(∃j:Nat,lJ x.ak k=some j)\/(lJ x.ak k=none/\¬((x.ak.length:Int)=4)):=by
  cases hz:lJ x.ak k with
  |some j=>exact .inl ⟨j,rfl⟩
  |none=>exact .inr ⟨rfl,by have:=h4 (by rw[nI hz];rfl);omega⟩
 clear h hp H e3 jD Q hi V hl ha hn sW hr C m h4
 go_enter func127,ntmps127
 go_wp2_with fail;refine n_.mono ?_;rintro e w1 ⟨rfl,q,rfl⟩;clear n_;have a8:=X q;clear X;go_wp2_with fail;refine a8.mono ?_;rintro e w2 ⟨rfl,q2,rfl⟩;clear a8;have TW:=HT.1.fr<|((Fr.refl [] w).aR q).aR q2;have rW:iE w ((w.drewN q).drewN q2):=iE.dJ (((Fr.refl [] w).aR q).aR q2) (by simp);generalize (w.drewN q).drewN q2=W at TW rW ⊢;clear c1 o A s f;obtain⟨c1,o,A,s,f,C,m⟩:=TW.1.gZ rfl TW.2.2
 try simp only[]at o A s f C
 obtain⟨d,Ig⟩:∃d,d=R:=⟨_,rfl⟩
 have B:Hid (TkB w W t (x.ops:Int) k ps R d x):=by
  subst Ig;refine⟨?_,rfl,?_,HT.2.1,rW,HT.2.2,Jl.1,uw⟩
  .unfold began;rw[Jl.2];simp
  .unfold aK.tx;rw[Jl.2];rfl
 rw[<-Ig]at TW;have L:=ae TW;clear TW rW Ig C m;rcases ad with⟨j,P⟩|⟨P,h5⟩
 .have e5:ze (some j)=(j:Int):=rfl;have j5:¬(j:Int)<0:=oE;rw[P,e5];have HJ:Hid (lJ x.ak k=_):=P;clear P e5;obtain⟨U,r1⟩:=L.out.set (j:=3) (u:=.int .i64 0) (x':=⟨x.id,x.st,x.ops,0,x.ak⟩) dN rfl rfl
  have S:=ub rp t k wr E (.slice (some ⟨g,0,none⟩) n c) _ _ _ U.1 (by rw[U.2.1];omega) (λp hp=>by
   rcases List.mem_or_eq_of_mem_set hp with hp|rfl
   .have:=B.out.nj p hp;omega
   .have:=B.out.nj _ (zzh L.2.2);exact zzk this dN)
  have a1:meets (d.af.set i ⟨x.id,x.st,x.ops,0,x.ak⟩) t k wr=meets (began R.af t) t k wr:=by rw[xK (x:=x) (x':=⟨x.id,x.st,x.ops,0,x.ak⟩) L.out.tx rfl rfl,B.out.xs]
  rw[show(aK.mk d.table<|d.af.set i ⟨x.id,x.st,x.ops,0,x.ak⟩).af=d.af.set i ⟨x.id,x.st,x.ops,0,x.ak⟩from rfl,a1]at S;obtain⟨b,Y⟩:∃b,b=meets (began R.af t) t k wr:=⟨_,rfl⟩;rw[<-Y]at S;have HM:Hid (b=meets (began R.af t) t k wr):=Y;have H1:=ae<|zzb U r1;clear c1 o A s f;obtain⟨c1,o,A,s,f,C,m⟩:=L.1.gZ rfl L.2.2;have f3:=m<|i*5+3
  try simp only[]at o A s f C
  have a':=B.out.ops;have Kv:=B.out.nj _<|zzh L.2.2
  try simp only[]at Kv
  clear U r1 a1 Y C m;go_wp2_with fail;refine S.mono ?_;rintro e wm ⟨rfl,q3,rfl⟩;have D:=H1.1.fr<|(lE _).aR q3;have M:=H1.2.trans (iE.dJ ((lE _).aR q3) sE);generalize (W.setCell ⟨g,i*5+3,none⟩<|.int .i64 0).drewN q3=W2 at D M ⊢;clear S c1 o A s f f3 H1;obtain⟨c1,o,A,s,f,C,m⟩:=D.1.gZ rfl D.2.2;have f1:=m<|i*5+1;have f2:=m<|i*5+2
  try simp only[]at o A s f C
  cases b with
  |true=>
   obtain⟨T,N⟩:=D.set (j:=1) (u:=.int .i64 2) (x':=x.dQ) dN rfl rfl;have O:Hid (R.op t (x.ops:Int) k wr (dv k)=(⟨R.table,fH (began R.af t) (R.tx t).dQ⟩,3)):=EL B.out.re HM.out.symm
   have HR:Hid (EK w (W2.setCell ⟨g,i*5+1,none⟩<|.int .i64 2) rp t (x.ops:Int) k wr R 0 0):=by
    refine⟨?_,(B.out.fr.trans M).trans N,λh=>by rw[O.out]at h;cases h⟩;rw[O.out];have e9:(d.af.set i ⟨x.id,x.st,x.ops,0,x.ak⟩).set i x.dQ=fH (began R.af t) (R.tx t).dQ:=by rw[pG (z:=x.dQ) B.out.jh L.out.tx rfl,B.out.xs,<-B.out.tx]
    have:=T.1;rw[show(aK.mk (aK.mk d.table<|d.af.set i ⟨x.id,x.st,x.ops,0,x.ak⟩).table<|(aK.mk d.table<|d.af.set i ⟨x.id,x.st,x.ops,0,x.ak⟩).af.set i x.dQ)=aK.mk d.table ((d.af.set i ⟨x.id,x.st,x.ops,0,x.ak⟩).set i x.dQ)from rfl,e9,B.out.tab]at this;exact⟨_,_,_,this⟩
   clear T N C m D M;go_wp2;go_ret3;exact⟨0,0,by rw[O.out];rfl,HR.out⟩
  |false=>
   obtain⟨T,N⟩:=D.set (j:=2) (u:=.int .i64<|(x.ops:Int)+1) (x':=⟨x.id,x.st,x.ops+1,0,x.ak⟩) dN rfl rfl;have O:Hid (R.op t (x.ops:Int) k wr (dv k)=(⟨R.table,fH (began R.af t)<|(R.tx t).worked<|dv k⟩,0)):=r_ B.out.re HM.out.symm;obtain⟨d1,d2,d3,d4,d5,SR,a6⟩:=T.1.gZ rfl T.2.2;have X:=mj g (i*5) (.slice I x.ak.length J) k x.ak _ d5 SR oE;have H3:=ae<|zzb T<|(B.out.fr.trans M).trans N;clear T N C m D M d1 d2 d3 d4 d5 SR a6;go_wp2_with fail;refine X.mono ?_;rintro e wm ⟨rfl,q4,rfl⟩;have F:=H3.1.fr<|(lE _).aR q4;have Z:=H3.2.trans (iE.dJ ((Fr.refl [] _).aR q4) (by simp));generalize (W2.setCell ⟨g,i*5+2,none⟩<|.int .i64<|(x.ops:Int)+1).drewN q4=W4 at F Z ⊢;clear X c1 o A s f f1 f2 H3;obtain⟨c1,o,A,s,f,C,m⟩:=F.1.gZ rfl F.2.2;have f4:=m<|i*5+4
   try simp only[]at o A s f C
   have HX:Hid (∀y:a_,y.id=x.id->(((d.af.set i ⟨x.id,x.st,x.ops,0,x.ak⟩).set i ⟨x.id,x.st,x.ops+1,0,x.ak⟩).set i y)=fH (began R.af t) y):=λy hy=>by rw[List.set_set,pG B.out.jh L.out.tx hy,B.out.xs]
   have HA:Hid (∀y:a_,y.id=x.id->(fH (began R.af t) y)[i]?=some y):=λy hy=>by
    rw[<-HX.out y hy];exact i_<|i_<|i_ L.out.tx
   have Q:=HJ.out;rw[Q];obtain⟨l,P,hk,V⟩:=qP Q;have e1:ze (some j)=(j:Int):=rfl;have j2:¬(j:Int)<0:=by omega
   have HR:Hid (EK w W4 rp t (x.ops:Int) k wr R i j):=by
    have ef:dv k x.ak=x.ak:=by unfold dv;simp[V]
    refine⟨?_,Z,λ_=>⟨l,?_,?_,hk⟩⟩
    .rw[O.out,<-B.out.tx];have ew:x.worked (dv k)=⟨x.id,x.st,x.ops+1,0,x.ak⟩:=by unfold a_.worked;rw[ef]
     rw[ew];have e9:=pG (y:=⟨x.id,x.st,x.ops,0,x.ak⟩) (z:=⟨x.id,x.st,x.ops+1,0,x.ak⟩) B.out.jh L.out.tx rfl;rw[B.out.xs]at e9;have:=F.1;rw[show(aK.mk (aK.mk d.table<|d.af.set i ⟨x.id,x.st,x.ops,0,x.ak⟩).table<|(aK.mk d.table<|d.af.set i ⟨x.id,x.st,x.ops,0,x.ak⟩).af.set i ⟨x.id,x.st,x.ops+1,0,x.ak⟩)=aK.mk d.table ((d.af.set i ⟨x.id,x.st,x.ops,0,x.ak⟩).set i ⟨x.id,x.st,x.ops+1,0,x.ak⟩)from rfl,B.out.xs,e9,B.out.tab]at this;exact⟨_,_,_,this⟩
    .rw[O.out,<-B.out.tx];exact HA.out _ rfl
    .rw[<-B.out.tx,ef];exact P
   rw[e1];clear F Z C m Q;go_wp2;go_ret3;exact⟨i,j,by rw[O.out];rfl,HR.out⟩
 .have e5:ze none=-1:=rfl;rw[P,e5];have HJ:Hid (lJ x.ak k=_):=P;clear P e5;obtain⟨U,r1⟩:=L.out.set (j:=3) (u:=.int .i64 0) (x':=⟨x.id,x.st,x.ops,0,x.ak⟩) dN rfl rfl
  have S:=ub rp t k wr E (.slice (some ⟨g,0,none⟩) n c) _ _ _ U.1 (by rw[U.2.1];omega) (λp hp=>by
   rcases List.mem_or_eq_of_mem_set hp with hp|rfl
   .have:=B.out.nj p hp;omega
   .have:=B.out.nj _ (zzh L.2.2);exact zzk this dN)
  have a1:meets (d.af.set i ⟨x.id,x.st,x.ops,0,x.ak⟩) t k wr=meets (began R.af t) t k wr:=by rw[xK (x:=x) (x':=⟨x.id,x.st,x.ops,0,x.ak⟩) L.out.tx rfl rfl,B.out.xs]
  rw[show(aK.mk d.table<|d.af.set i ⟨x.id,x.st,x.ops,0,x.ak⟩).af=d.af.set i ⟨x.id,x.st,x.ops,0,x.ak⟩from rfl,a1]at S;obtain⟨b,Y⟩:∃b,b=meets (began R.af t) t k wr:=⟨_,rfl⟩;rw[<-Y]at S;have HM:Hid (b=meets (began R.af t) t k wr):=Y;have H1:=ae<|zzb U r1;clear c1 o A s f;obtain⟨c1,o,A,s,f,C,m⟩:=L.1.gZ rfl L.2.2;have f3:=m<|i*5+3
  try simp only[]at o A s f C
  have a':=B.out.ops;have Kv:=B.out.nj _<|zzh L.2.2
  try simp only[]at Kv
  clear U r1 a1 Y C m;go_wp2_with fail;refine S.mono ?_;rintro e wm ⟨rfl,q3,rfl⟩;have D:=H1.1.fr<|(lE _).aR q3;have M:=H1.2.trans (iE.dJ ((lE _).aR q3) sE);generalize (W.setCell ⟨g,i*5+3,none⟩<|.int .i64 0).drewN q3=W2 at D M ⊢;clear S c1 o A s f f3 H1;obtain⟨c1,o,A,s,f,C,m⟩:=D.1.gZ rfl D.2.2;have f1:=m<|i*5+1;have f2:=m<|i*5+2
  try simp only[]at o A s f C
  cases b with
  |true=>
   obtain⟨T,N⟩:=D.set (j:=1) (u:=.int .i64 2) (x':=x.dQ) dN rfl rfl;have O:Hid (R.op t (x.ops:Int) k wr (dv k)=(⟨R.table,fH (began R.af t) (R.tx t).dQ⟩,3)):=EL B.out.re HM.out.symm
   have HR:Hid (EK w (W2.setCell ⟨g,i*5+1,none⟩<|.int .i64 2) rp t (x.ops:Int) k wr R 0 0):=by
    refine⟨?_,(B.out.fr.trans M).trans N,λh=>by rw[O.out]at h;cases h⟩;rw[O.out];have e9:(d.af.set i ⟨x.id,x.st,x.ops,0,x.ak⟩).set i x.dQ=fH (began R.af t) (R.tx t).dQ:=by rw[pG (z:=x.dQ) B.out.jh L.out.tx rfl,B.out.xs,<-B.out.tx]
    have:=T.1;rw[show(aK.mk (aK.mk d.table<|d.af.set i ⟨x.id,x.st,x.ops,0,x.ak⟩).table<|(aK.mk d.table<|d.af.set i ⟨x.id,x.st,x.ops,0,x.ak⟩).af.set i x.dQ)=aK.mk d.table ((d.af.set i ⟨x.id,x.st,x.ops,0,x.ak⟩).set i x.dQ)from rfl,e9,B.out.tab]at this;exact⟨_,_,_,this⟩
   clear T N C m D M;go_wp2;go_ret3;exact⟨0,0,by rw[O.out];rfl,HR.out⟩
  |false=>
   obtain⟨T,N⟩:=D.set (j:=2) (u:=.int .i64<|(x.ops:Int)+1) (x':=⟨x.id,x.st,x.ops+1,0,x.ak⟩) dN rfl rfl;have O:Hid (R.op t (x.ops:Int) k wr (dv k)=(⟨R.table,fH (began R.af t)<|(R.tx t).worked<|dv k⟩,0)):=r_ B.out.re HM.out.symm;obtain⟨d1,d2,d3,d4,d5,SR,a6⟩:=T.1.gZ rfl T.2.2;have X:=mj g (i*5) (.slice I x.ak.length J) k x.ak _ d5 SR oE;have H3:=ae<|zzb T<|(B.out.fr.trans M).trans N;clear T N C m D M d1 d2 d3 d4 d5 SR a6;go_wp2_with fail;refine X.mono ?_;rintro e wm ⟨rfl,q4,rfl⟩;have F:=H3.1.fr<|(lE _).aR q4;have Z:=H3.2.trans (iE.dJ ((lE _).aR q4) sE);generalize (W2.setCell ⟨g,i*5+2,none⟩<|.int .i64<|(x.ops:Int)+1).drewN q4=W4 at F Z ⊢;clear X c1 o A s f f1 f2 H3;obtain⟨c1,o,A,s,f,C,m⟩:=F.1.gZ rfl F.2.2;have f4:=m<|i*5+4
   try simp only[]at o A s f C
   have HX:Hid (∀y:a_,y.id=x.id->(((d.af.set i ⟨x.id,x.st,x.ops,0,x.ak⟩).set i ⟨x.id,x.st,x.ops+1,0,x.ak⟩).set i y)=fH (began R.af t) y):=λy hy=>by rw[List.set_set,pG B.out.jh L.out.tx hy,B.out.xs]
   have HA:Hid (∀y:a_,y.id=x.id->(fH (began R.af t) y)[i]?=some y):=λy hy=>by
    rw[<-HX.out y hy];exact i_<|i_<|i_ L.out.tx
   have e1:ze none=-1:=rfl;have Q:=HJ.out;rw[Q,e1];have HW:Hid (Tl W4 rp g n c i E ((ps.set i (⟨x.id,x.st,x.ops,0,x.ak⟩,.slice I x.ak.length J)).set i (⟨x.id,x.st,x.ops+1,0,x.ak⟩,.slice I x.ak.length J)) ⟨d.table,(d.af.set i ⟨x.id,x.st,x.ops,0,x.ak⟩).set i ⟨x.id,x.st,x.ops+1,0,x.ak⟩⟩ ⟨x.id,x.st,x.ops+1,0,x.ak⟩ (.slice I x.ak.length J)/\iE w W4/\aT x.ak k=none):=⟨F,Z,nI Q⟩;have kB:g<W4.heap.size:=zzF W4 _ f;have Uv:rp<W4.heap.size:=zzF W4 _ c1;have an:∀K,(W4.alloc K).cell? ⟨rp,1,none⟩=some (.slice (some ⟨g,0,none⟩) n c):=λK=>(zze (a:=⟨rp,1,none⟩)<|zzf W4 K rp Uv).trans c1
   have ak:∀K,(W4.alloc K).cell? ⟨g,i*5+4,none⟩=some (.slice I x.ak.length J):=λK=>(zze (a:=⟨g,i*5+4,none⟩)<|zzf W4 K g kB).trans f
   have yG:∀K,(W4.alloc K).frozen? ⟨g,i*5+4,none⟩=false:=λK=>(zzw (a:=⟨g,i*5+4,none⟩)<|zzf W4 K g kB).trans f4
   obtain⟨l0,J3,YW,YX,YY⟩:=info_parts rS;obtain⟨G,uL⟩:∃G,G=x.ak.length:=⟨_,rfl⟩;have wD:Hid (G=x.ak.length):=uL;rw[<-uL]at f ak Kv C
   have HQ:Hid (W4.ownsRow B0 134 4 (.slice I G J) G (dW x.ak)/\some g≠(Value.slice I G J).ownBlock/\some rp≠(Value.slice I G J).ownBlock):=by
    have BI:=F.1.tk;obtain⟨al,hg⟩:=aF BI (g:=g) rfl;exact⟨C,λe=>bG C hg dN e.symm,λe=>bG C F.1.blk dN e.symm⟩
   clear F Z m Q C uL;go_wp2
   go_region_law (first|(rw[if_pos<|by rfl];refine fT _ _ 90 rfl B0 134 l0 _ 4 40 underlying90 J3 YW YX YY rfl dN _ G (dW x.ak) rfl (HQ.1.alloc _) ⟨W4.heap.size,0,none⟩ 1 1 (yu ⟨k,false,false,ByteArray.empty⟩) rfl rfl (cD _ #[.string k,.bool false,.bool false,.string ByteArray.empty] _) (by intro u hu;simp at hu;rcases hu with rfl|rfl|rfl|rfl<;>rfl) mE oE (zzk HW.1.1.low sE) ?_;intro v5 w5 qx wz SC;obtain⟨o5,c5,rfl⟩:=bZ qx;have SB:w5.heap[g]?=W4.heap[g]?:=(wz.block g sC HQ.2.1).trans<|zzf W4 _ g kB;have t4:=(zze (a:=⟨g,i*5+4,none⟩) SB).trans f;have tf:=(zzw (a:=⟨g,i*5+4,none⟩) SB).trans f4;have UO:w5.heap[rp]?=W4.heap[rp]?:=(wz.block rp sC HQ.2.2).trans<|zzf W4 _ rp Uv;have t1:=(zze (a:=⟨rp,1,none⟩) UO).trans c1;clear SB UO))
   all_goals
    have HR:Hid (EK w (w5.setCell ⟨g,i*5+4,none⟩<|.slice o5 (G+1) c5) rp t (x.ops:Int) k wr R i G):=by
     have ef:dv k x.ak=x.ak++[⟨k,false,false,ByteArray.empty⟩]:=by unfold dv;simp[HW.2.2]
     have ie:=(((Fr.refl _ W4).alloc _).drew).trans<|Fr.dc (r:=(Value.slice I G J).ownBlock) wz;have ew:x.worked (dv k)=⟨x.id,x.st,x.ops+1,0,x.ak++[⟨k,false,false,ByteArray.empty⟩]⟩:=by unfold a_.worked;rw[ef]
     have YV:=HW.1;rw[<-wD.out]at YV;obtain⟨k1,k2⟩:=YV.VR (x':=x.worked<|dv k) (v2:=.slice o5 (G+1) c5) ie (by rw[ew,Al];show w5.ownsRow _ _ _ _ (x.ak++[_]).length _;rw[zzi,<-wD.out];exact qx) (SC.elim (λe=>.inl e) λe=>.inr ⟨_,e,sE⟩) (by rw[ew];rfl);refine⟨?_,HW.2.1.trans k2,λ_=>⟨⟨k,false,false,ByteArray.empty⟩,?_,?_,rfl⟩⟩
     .rw[O.out,<-B.out.tx,<-HX.out (x.worked<|dv k) rfl,<-B.out.tab];exact k1
     .rw[O.out,<-B.out.tx];exact HA.out _ rfl
     .rw[<-B.out.tx,ef,wD.out];simp
    clear qx wz SC;go_wp2;go_ret3;exact⟨i,G,by rw[O.out];rfl,HR.out⟩
end
end Go.Proofs.YtdcafjmdfpjcbaaGreatDoor
