import Derived.Test.YtdcafjmdfpjcbaaGreatDoorC48
import Derived.Test.YtdcafjmdfpjcbaaGreatDoorC45
set_option maxHeartbeats 8000000
set_option maxRecDepth 100000
namespace Go.Proofs.YtdcafjmdfpjcbaaGreatDoor
open Go.RowKit Go.Maps Tryz Sc
variable{q:Bool}{T us:List Nat}{cs:List aK}{M b k m0:Nat}{o:Obj}{w:World}{R:aK}{s:ag}{l:aq}
abbrev oQ(hp p:Nat)(cv:Value)(sk hu:Bool)(uv:Value):Obj:=.cells #[rM hp,rM p,cv,.bool sk,.bool hu,uv] 51
abbrev cM:=Nat × aK × List Nat
def lD(x:cM):Value:=(rM x.1)
def S5(x y:cM):Prop:=x=y\/∀k∈x.2.2,k∉y.2.2
structure jV(b:Nat)(w:World)(hp kp:Nat)(cv:Value)(sk hu:Bool)(uv:Value)(m:cM)(cl:List cM)(us:List Nat):Prop where
 low:b<=kp
 kb:w.heap[kp]?=some (oQ hp m.1 cv sk hu uv)
 each:∀x∈m :: cl,lC b w x.1 x.2.1 x.2.2
 iW:w.ownsRow b 43 1 cv cl.length (cl.map lD)
 apart:(m :: cl).Pairwise S5
 used:w.ownsRow b 34 1 uv us.length (dh us)
section
variable{b hp kp p h bN n:Nat}{w w':World}{cv uv:Value}{sk hu:Bool}{m:cM}{cl:List cM}{us:List Nat}{so E:Option (Nat × List Nat)}{d:ah}
theorem jV.v_{T:List Nat}(h:jV b w hp kp cv sk hu uv m cl us)(f:Fr T w w')(d:∀k∈T,∀c t,w.heap[k]?=some (.cells c t (0,0))->t≠51/\t≠47/\t≠92/\t≠134/\t≠102/\t≠43)(J:∀g,uv.ownBlock=some g->g∉T):jV b w' hp kp cv sk hu uv m cl us where
 low:=h.low
 kb:=(f.block kp (zza.1 h.kb).1 λa=>(d kp a _ _ h.kb).1 rfl).trans h.kb;each:=λx l=>by
  have r:=h.each x l;refine r.v_ f (λk n a=>?_) λk a c t j=>(d k a c t j).2.2.2.2.1;have⟨_,c,t,j,o⟩:=r.cells n;have:=d k a c t j;obtain rfl|rfl|rfl:=o
  .grind
  .grind
  .grind
 iW:=av h.iW f λq i a=>by have⟨c,e⟩:=aF h.iW i;exact(d q a _ _ e).2.2.2.2.2 rfl
 apart:=h.apart;used:=av h.used f λq i a=>J q i a
theorem jV.new(h:jV b w hp kp cv sk hu uv m cl us)(f:Fr [] w w'):jV b w' hp kp cv sk hu uv m cl us:=
 h.v_ f (λk a=>by cases a) (λg _ a=>by cases a)
theorem jV.host{q:Nat}(l:jV b w hp kp cv sk hu uv m cl us)(u:nR w q hp p h bN so d n)(f:lA hp p so E w w')(s:∀g,uv.ownBlock=some g->¬jL hp p so w g):jV b w' hp kp cv sk hu uv m cl us/\∀g,uv.ownBlock=some g->¬jL hp p E w' g:=by
 have⟨T,j,r⟩:=EJ w.heap.size λk=>jL hp p so w k
 have ie:Fr T w w':=⟨f.os,f.tape,f.output,f.size,λk a hn=>f.block k a λo=>hn<|r k a o⟩;refine⟨l.v_ ie (λk a c t v=>?_) λg i a=>s g i<|j g a,λg i o=>?_⟩
 .have o:=j k a;refine⟨λe=>?_,λe=>?_,λe=>?_,λe=>?_,λe=>?_,λe=>?_⟩<;>subst e<;>exact u.free v dN dN dN dN dN dN dN o
 .have hl:=(l.used.lt g i).2;exact s g i<|f.stay g hl o
theorem jV.gR{R:aK}(h:jV b w hp kp cv sk hu uv m cl us)(v:pS b m.1 m.2.2 w w' R):∃S',jV b w' hp kp cv sk hu uv (m.1,R,S') (cl.map λx=>if x.1=m.1 then (m.1,R,S')else x) us/\(∀k∈S',k∈m.2.2\/w.heap.size<=k)/\Fr m.2.2 w w':=by
 have⟨S',z,i,u⟩:=v;have l:=h.each m sE;have n:∀{q:Nat} {c:Array Value} {t:TypeId},w.heap[q]?=some (.cells c t (0,0))->t≠47->t≠92->t≠134->q∉m.2.2:=λ{q c t} j I H F a=>by
  have⟨_,c2,J,s,B⟩:=l.cells a;rw[j]at s;cases s;obtain rfl|rfl|rfl:=B
  .grind
  .grind
  .grind
 have E:=zzA.1 h.apart;have G:∀x∈cl,x.1=m.1->x=m:=λx d e=>by
  obtain f|f:=E.1 x d
  .grind
  .have h1:=l.mem;have r:=(h.each x<|by simp[d]).mem;rw[e]at r;exact absurd r<|f _ h1
 have V:∀x∈cl,x.1≠m.1->(∀k∈x.2.2,k∉m.2.2)/\∀k∈x.2.2,k∉S':=λx d hn=>by
  have C:∀k∈x.2.2,k∉m.2.2:=λk a U=>by
   obtain f|f:=E.1 x d
   .grind
   .grind
  refine⟨C,λk a A=>?_⟩;obtain e|e:=u k A
  .grind
  .have:=(h.each x<|by simp[d]).lt a;omega
 refine⟨S',{low:=h.low,kb:=?_,each:=?_,iW:=?_,apart:=?_,used:=?_},u,i⟩
 .exact(i.block kp (zza.1 h.kb).1<|n h.kb dN dN dN).trans h.kb
 .intro x d;obtain rfl|d:=zzj.1 d
  .exact z
  .obtain⟨y,g,rfl⟩:=zzq.1 d;by_cases e:y.1=m.1
   .grind
   .rw[if_neg e];exact(h.each y<|by simp[g]).v_ i (V y g e).1 l.kinds
 .have e:(cl.map λx=>if x.1=m.1 then (m.1,R,S')else x).map lD=cl.map lD:=by
   rw[List.map_map];apply List.map_congr_left;intro x d;show lD (if x.1=m.1 then (m.1,R,S')else x)=lD x;split
   .grind [lD]
   .rfl
  rw[e,zzn];exact av h.iW i λq j a=>by have⟨c,o⟩:=aF h.iW j;exact n o dN dN dN a
 .refine zzA.2 ⟨λx d=>?_,?_⟩
  .obtain⟨y,g,rfl⟩:=zzq.1 d;by_cases e:y.1=m.1
   .rw[if_pos e];exact .inl rfl
   .rw[if_neg e];exact .inr λk a T=>(V y g e).2 k T a
  .rw[List.pairwise_map];apply E.2.imp_of_mem;intro x y d g D;by_cases p:x.1=m.1
   .rw[if_pos p];by_cases f:y.1=m.1
    .rw[if_pos f];exact .inl rfl
    .rw[if_neg f];exact .inr λk a T=>(V y g f).2 k T a
   .rw[if_neg p];by_cases f:y.1=m.1
    .rw[if_pos f];exact .inr λk a T=>(V x d p).2 k a T
    .grind
 .exact av h.used i λq j a=>by have⟨c,o⟩:=aF h.used j;exact n o dN dN dN a
end
section
variable{b hp E i:Nat}{w w2:World}{I J cv' d v:Value}{U a g f:Bool}{m x:cM}{O cl':List cM}{us us':List Nat}
theorem lC.beside{S:List Nat}{rp q:Nat}{R:aK}{d:Array Value}{t:TypeId}(h:lC b w rp R S)(e:w.heap[q]?=some (.cells d t (0,0)))(n:t≠47)(o:t≠92)(p:t≠134)(l:t≠102)(f:Fr [q] w w2):lC b w2 rp R S:=by
 refine h.v_ f (λk i m=>?_) λk m c g a=>?_
 .simp at m;subst m;have⟨_,c2,g,a,j⟩:=h.cells i;rw[e]at a;cases a;obtain rfl|rfl|rfl:=j
  .grind
  .grind
  .grind
 .grind
theorem jV.cell{d:Array Value}(l:b<=E)(q:w.heap[E]?=some (.cells d 51 (0,0)))(k:(w.setCell (d8 E i) v).heap[E]?=some (oQ hp m.1 I U a J))(e:∀x∈m::O,lC b w x.1 x.2.1 x.2.2)(g:w.ownsRow b 43 1 I O.length<|O.map lD)(c:(m::O).Pairwise S5)(f:w.ownsRow b 34 1 J us.length<|dh us):jV b (w.setCell (d8 E i) v) hp E I U a J m O us where
 low:=l
 kb:=k;each:=λx h=>(e x h).beside q dN dN dN dN<|Fr.cH sE _ _
 iW:=b_ g q dN;apart:=c;used:=b_ f q dN
theorem jV.OM(h:jV b w hp E I U a J m O us)(d:lC b w x.1 x.2.1 x.2.2)(e:∀y∈O,S5 x y):jV b (w.setCell (d8 E 1)<|rM x.1) hp E I U a J x O us:=by
 refine jV.cell h.low h.kb ?_ (λy c=>?_) h.iW (zzA.2 ⟨e,(zzA.1 h.apart).2⟩) h.used
 .have:=aH h.kb 1<|.pointer<|some (dH x.1)
  simpa using this
 .rcases zzj.1 c with rfl|c
  .exact d
  .exact h.each y<|by simp[c]
theorem jV.MC(h:jV b w hp E I U a J m O us)(q:Bool):jV b (w.setCell (d8 E 3)<|.bool q) hp E I q a J m O us:=by
 refine jV.cell h.low h.kb ?_ h.each h.iW h.apart h.used;have:=aH h.kb 3<|.bool q
 simpa using this
theorem jV.EN(h:jV b w hp E I U a J m O us)(q:Bool):jV b (w.setCell (d8 E 4)<|.bool q) hp E I U q J m O us:=by
 refine jV.cell h.low h.kb ?_ h.each h.iW h.apart h.used;have:=aH h.kb 4<|.bool q
 simpa using this
theorem jV.sM(h:jV b w hp E I U a J m O us)(f:Fr I.ownBlock.toList w w2)(s:w2.ownsRow b 43 1 cv' cl'.length<|cl'.map lD)(y:∀x∈cl',lC b w x.1 x.2.1 x.2.2)(r:(m::cl').Pairwise S5):jV b (w2.setCell (d8 E 2) cv') hp E cv' U a J m cl' us:=by
 have B:∀{e:TypeId} {q:Nat} {c:Array Value},e≠43->w.heap[q]?=some (.cells c e (0,0))->q∉I.ownBlock.toList:=λ{e q c} p i g=>by
  have u:I.ownBlock=some q:=by grind
  have⟨c2,l⟩:=aF h.iW u;rw[i]at l;cases l;exact p rfl
 have j:w2.heap[E]?=some (oQ hp m.1 I U a J):=(f.block E (zza.1 h.kb).1<|B dN h.kb).trans h.kb;have n:∀x∈m::cl',lC b w x.1 x.2.1 x.2.2:=λx d=>by
  obtain rfl|d:=zzj.1 d
  .exact h.each x sE
  .grind
 refine jV.cell h.low j ?_ (λx d=>?_) s r<|av h.used f λq i g=>?_
 .have:=aH j 2 cv';simpa using this
 .refine(n x d).v_ f (λk v=>?_) λk g c t o e=>?_
  .obtain⟨_,c,t,o,ht⟩:=(n x d).cells v;exact B (by obtain rfl|rfl|rfl:=ht<;>decide) o
  .grind
 .obtain⟨c,ec⟩:=aF h.used i;exact B dN ec g
theorem jV.ZC(h:jV b w hp E I U a J m O us)(f:Fr J.ownBlock.toList w w2)(r:w2.ownsRow b 34 1 d us'.length<|dh us'):jV b (w2.setCell (d8 E 5) d) hp E I U a d m O us':=by
 have B:∀{e:TypeId} {q:Nat} {c:Array Value},e≠34->w.heap[q]?=some (.cells c e (0,0))->q∉J.ownBlock.toList:=λ{e q c} p i g=>by
  have s:J.ownBlock=some q:=by grind
  have⟨c2,n⟩:=aF h.used s;rw[i]at n;cases n;exact p rfl
 have l:w2.heap[E]?=some (oQ hp m.1 I U a J):=(f.block E (zza.1 h.kb).1<|B dN h.kb).trans h.kb;refine jV.cell h.low l ?_ (λx j=>?_) (av h.iW f λq i g=>?_) h.apart r
 .have:=aH l 5 d;simpa using this
 .refine(h.each x j).v_ f (λk u=>?_) λk g c t o e=>?_
  .obtain⟨_,c,t,o,ht⟩:=(h.each x j).cells u;exact B (by obtain rfl|rfl|rfl:=ht<;>decide) o
  .grind
 .obtain⟨c,ec⟩:=aF h.iW i;exact B dN ec g
end
def KC:Obj->Bool
 |.cells _ t fr=>decide (fr=(0,0)/\(t=51\/t=43\/t=47\/t=92\/t=134))
 |_=>false
structure oh(b:Nat)(U:List Nat)(w w':World):Prop where
 os:w'.os=w.os
 tape:w'.tape=w.tape
 output:w'.output=w.output
 size:w.heap.size<=w'.heap.size
 block:∀(k:Nat) (o:Obj),w.heap[k]?=some o->KC o=false->k∉U->w'.heap[k]?=some o
 low:∀k,k<b->w'.heap[k]?=w.heap[k]?
section
variable{b:Nat}{U f:List Nat}{w w' w2:World}
theorem oh.trans(h:oh b U w w')(k:oh b f w' w2)(d:∀i∈f,i∈U\/w.heap.size<=i):oh b U w w2:=
 ⟨k.os.trans h.os,k.tape.trans h.tape,k.output.trans h.output,zzk h.size k.size,λi o a c hn=>k.block i o (h.block i o a c hn) c (λm=>by
  obtain e|e:=d i m
  .exact hn e
  .have:=(zza.1 a).1;omega),λi a=>(k.low i a).trans (h.low i a)⟩
theorem oh.dJ{T:List Nat}(d:b<=w.heap.size)(f:Fr T w w')(a:∀k∈T,b<=k/\(k∈U\/∀o,w.heap[k]?=some o->KC o=true)):oh b U w w':=
 ⟨f.os,f.tape,f.output,f.size,λk o h c hn=>(f.block k (zza.1 h).1 (λm=>by
  obtain e|e:=(a k m).2
  .exact hn e
  .rw[e o h]at c;cases c)).trans h,λk h=>f.block k oE (λm=>by have:=(a k m).1;omega)⟩
theorem oh.new(h:b<=w.heap.size)(f:Fr [] w w'):oh b U w w':=by grind[oh.dJ]
theorem oh.below(h:oh b U w w'):Below b w w':=⟨h.os,h.tape,h.output,h.size,h.low⟩
theorem oh.list(h:oh b U w w'):∃T,Fr T w w'/\∀k∈T,k<w.heap.size/\(k∈U\/∃o,w.heap[k]?=some o/\KC o=true):=by
 have⟨T,c,e⟩:=EJ w.heap.size λk=>k<w.heap.size/\(k∈U\/∃o,w.heap[k]?=some o/\KC o=true)
 refine⟨T,⟨h.os,h.tape,h.output,h.size,λk d hn=>?_⟩,c⟩;have a:w.heap[k]?=some w.heap[k]:=Array.getElem?_eq_getElem d
 cases l:KC w.heap[k]with
 |true=>grind
 |false=>
  by_cases u:k∈U
  .grind
  .rw[h.block k _ a l u,a]
theorem Br{o:Obj}(h:KC o=true):∃c t,o=.cells c t (0,0)/\(t=51\/t=43\/t=47\/t=92\/t=134):=by
 cases o with
 |cells c t fr=>
  have a:=of_decide_eq_true h;exact⟨c,t,by rw[a.1],a.2⟩
 |_=>cases h
end
section
variable{U:List Nat}{w w':World}{B hp p E g I J O a h bN m n:Nat}{s:ag}{l:aq}{d:ah}{kd:Int}
theorem kz.jA(f:kz w B hp p E g I J O a h bN m n s l d){b:Nat}(q:oh b U w w')(x:∀k∈U,¬jL hp p (some (a,[E,I,J,O])) w k/\∃c,w.heap[k]?=some (.cells c 34 (0,0))):kz w' B hp p E g I J O a h bN m n s l d/\∀k,jL hp p (some (a,[E,I,J,O])) w' k->jL hp p (some (a,[E,I,J,O])) w k:=by
 have⟨T,r,v⟩:=q.list;have⟨y,u⟩:=f.law r (λk j _=>by
  obtain e|⟨o,i,hl⟩:=(v k j).2
  .obtain⟨hn,c,hc⟩:=x k e;exact f.lwu hc λi=>hn<|eM.2<|.inr<|.inl i
  .obtain⟨c,t,rfl,ht⟩:=Br hl;obtain rfl|rfl|rfl|rfl|rfl:=ht<;>exact f.lw i dN dN dN dN dN dN dN dN dN)
 refine⟨y,λk j=>?_⟩;obtain e|e|e:=eM.1 j
 .exact eM.2<|.inl e
 .exact eM.2<|.inr<|.inl<|u k e
 .exact eM.2<|.inr<|.inr e
theorem wH.jA(u:wH w B kd hp p h bN d n){b:Nat}(m:oh b U w w')(z:∀k∈U,∃c,w.heap[k]?=some (.cells c 34 (0,0))):wH w' B kd hp p h bN d n/\∀k,jL hp p none w' k->jL hp p none w k:=by
 have⟨T,g,s⟩:=m.list;have q:∀k∈T,∃c t,w.heap[k]?=some (.cells c t (0,0))/\t≠58/\t≠162/\t≠9/\t≠64:=λk a=>by
  obtain e|⟨o,ho,hl⟩:=(s k a).2
  .grind
  .grind [Br]
 have⟨i,v,D,N,j⟩:=u;have f:=j.beside g (λk a=>by have⟨c,t,e,l,r,x,_⟩:=q k a;exact⟨c,t,e,l,r,x⟩);refine⟨⟨(g.block hp (zza.1 i).1 λy=>?_).trans i,v,D,N,f⟩,λk a=>?_⟩
 .grind
 .rcases eX.1 a with e|e
  .grind [eX]
  .exact eX.2<|.inr<|(j.eO k).2<|(f.eO k).1 e
end
theorem Hb:(Tryz.prog.info? 43).map (λi=>(i.zero,i.size,i.bytes))=some (some<|.pointer none,1,8):=k6
section
variable{b hp E:Nat}{w w2:World}{a J cv':Value}{O d:Bool}{m x:cM}{I cl':List cM}{us:List Nat}
theorem jV.ZD(h:jV b w hp E a O d J m I us){o:Obj}(c:w.heap[E]?=some o):KC o=true:=by
 rw[h.kb]at c;cases c;rfl
theorem jV.size(h:jV b w hp E a O d J m I us):b<=w.heap.size:=zzk h.low<|Nat.le_of_lt (zza.1 h.kb).1
theorem jV.pH(h:jV b w hp E a O d J m I us)(U:List Nat)(i:Nat)(v:Value):oh b U w (w.setCell (d8 E i) v):=
 oh.dJ h.size (Fr.cH (S:=[E]) (by simp) _ _) (λk c=>by simp at c;subst c;exact⟨h.low,.inr λo e=>h.ZD e⟩)
theorem jV.VW(h:jV b w hp E a O d J m I us)(U:List Nat)(g:Fr a.ownBlock.toList w w2):oh b U w (w2.setCell (d8 E 2) cv'):=by
 have C:=h.iW;refine oh.dJ (T:=E::a.ownBlock.toList) h.size ((g.mono<|by simp +contextual).trans<|Fr.cH (by simp) _ _) λk f=>?_;obtain rfl|f:=zzj.1 f
 .exact⟨h.low,.inr λo e=>h.ZD e⟩
 .refine⟨(C.lt k<|by simpa using f).1,.inr λo e=>?_⟩;have⟨c,i⟩:=aF C (show a.ownBlock=some k by simpa using f);rw[i]at e
  cases e;rfl
theorem jV.fresh{w:World}{c:cM}(h:jV b w hp E a O d J m I us)(hn:∀k∈c.2.2,w.heap.size<=k):(m::(I++[c])).Pairwise S5:=by
 have:(m::I++[c]).Pairwise S5:=List.pairwise_append.2 ⟨h.apart,sE,λy f z e=>by
  simp at e;subst e;exact .inr ((h.each y f).apart hn)⟩
 exact this
end
def ad9(b hp E:Nat)(w:World)(J:Value)(O forced:Bool)(x:cM)(I:List cM)(us:List Nat)(w':World):Prop:=∃(cv':Value) (c:cM),c.2.1=x.2.1/\jV b w' hp E cv' O false J x ((if forced then [] else I)++[c]) us/\oh b [] w w'
theorem OO(b hp E e:Nat)(w:World)(a J:Value)(O forced:Bool)(m x:cM)(I:List cM)(us:List Nat)(h:jV b w hp E a O false J m I us)(hx:lC b w x.1 x.2.1 x.2.2)(T:∀y∈I,S5 x y)(hn:x.2.1.af.length<=1048576)(F:∀y∈x.2.1.af,y.ak.length<=1000)(ht:x.2.1.table.length<=1048576)(V:I.length<=1048576):
  Calls prog 53 #[rM E,rM x.1,.int .i64 (e:Int),.int .i64 (e:Int),.bool forced] w λB w'=>B=.returned (.bool true)/\ad9 b hp E w J O forced x I us w':=by
 obtain⟨i0,jc,ad,a6,a8⟩:=info_parts Hb;have G:=aa h.kb 4;have k:=aa h.kb 2;have f1:=au h.kb 1;have f2:=au h.kb 2;have Z:=aa h.kb 1;simp at G k Z;have p:=h.OM hx T;have L:=h.pH [] 1<|.pointer<|some ⟨x.1,0,none⟩;have HC:=ae V;clear V;obtain⟨o,g,ec⟩:=bZ h.iW;subst ec
 have S:Hid (∀W,W=(w.setCell ⟨E,1,none⟩<|.pointer<|some ⟨x.1,0,none⟩).setCell ⟨E,2,none⟩ (.slice none 0 0)->jV b W hp E (.slice none 0 0) O false J x [] us/\oh b [] w W):=λW e=>by
  have K2:=p.sM (Fr.refl _ _) (cv':=.slice none 0 0) (cl':=[]) (zzu _ _ _ _) (by simp) sE;rw[e];exact⟨K2,L.trans (p.pH [] 2 _) sE⟩
 have H:=ae<|zzb p L;have s:∀W a7 q,jV b W hp E a7 O false J x q us->Calls prog 15 #[.pointer<|some ⟨x.1,0,none⟩] W λe w'=>MB b W e w' x.2.1:=λW _ _ hK=>ik (hK.each x sE) hn F ht
 clear p L h hx T hn F ht
 cases forced
 focus
  go_enter func53,ntmps53;go_wp2_with fail;apply(s _ _ _ H.1).mono;rintro B W ⟨cp,S',rfl,Hy,ie,yS⟩;have t:Hid (∃(o g:_) (q:List cM),q.length<=I.length/\jV b W hp E (.slice o q.length g) O false J x q us/\oh b [] w W/\(x::(q++[(cp,x.2.1,S')])).Pairwise S5/\q=if false=true then []else I):=⟨o,g,I,zzc _,H.1.new ie,H.2.trans (oh.new (U:=[]) H.1.size ie) (by simp),H.1.fresh yS,rfl⟩
 rotate_left;focus
  go_enter func53,ntmps53;go_wp2_with fail;apply(s _ _ _ (S.out _ rfl).1).mono;rintro B W ⟨cp,S',rfl,Hy,ie,yS⟩;have t:Hid (∃(o g:_) (q:List cM),q.length<=I.length/\jV b W hp E (.slice o q.length g) O false J x q us/\oh b [] w W/\(x::(q++[(cp,x.2.1,S')])).Pairwise S5/\q=if true=true then []else I):=⟨none,0,[],zzs _,(S.out _ rfl).1.new ie,(S.out _ rfl).2.trans (oh.new (U:=[]) (S.out _ rfl).1.size ie) (by simp),(S.out _ rfl).1.fresh yS,rfl⟩
 all_goals
  have a':=ae Hy;clear H s S Hy ie yS Z k G f1 f2;have⟨i,l,q,MR,K,N,Q,Y⟩:=t.out;have k:=aa K.kb 2;have mB:E<W.heap.size:=(zza.1 K.kb).1;simp at k;have C:=K.iW;have L_:=K.size;have⟨n,j⟩:=xY q.length;have ak:n<=1048576:=by have:=HC.out;omega
  have a1:some E≠(Value.slice i n l).ownBlock:=by rw[j];exact λe=>bG C K.kb dN e.symm
  have X:Hid (q.length=n/\jV b W hp E (.slice i n l) O false J x q us/\oh b [] w W/\(x::(q++[(cp,x.2.1,S')])).Pairwise S5):=⟨j.symm,by rw[j];exact K,N,Q⟩;have HQ:=ae Y;rw[<-j]at C k;clear K N MR j t Q Y
  go_wp2_with (at_builtin;apply b5 rfl _ _ 48 rfl b 43 i0 _ 1 8 underlying48 jc ad a6 a8 rfl dN _ n (q.map lD) rfl (C.alloc _) 1 [.pointer<|some ⟨cp,0,none⟩] (.inl ⟨⟨W.heap.size,0,none⟩,1,rfl,cD _ #[.pointer<|some ⟨cp,0,none⟩] _⟩) rfl (by intro u d;simp at d;subst d;rfl) mE oE (zzk L_ sE);intro v5 M z A ab;obtain⟨o5,c5,rfl⟩:=bZ z;have v:M.heap[E]?=some (oQ hp x.1 (.slice i n l) O false J):=(A.block E sC a1).trans<|(zzf W _ E mB).trans X.2.1.kb;have t2:=aa v 2;have tf:=au v 2;have P:Fr (Value.slice i n l).ownBlock.toList W M:=((Fr.refl _ W).alloc _).trans<|Fr.dc (r:=(Value.slice i n l).ownBlock) A;have R:=ae (zzb (X.2.1.sM (cl':=q++[(cp,x.2.1,S')]) P (by rw[zzi,X.1,List.map_append];exact z) (λy f=>by rcases zzo.1 f with f|f;exact X.2.1.each y (by simp[f]);simp at f;subst f;exact a'.out) X.2.2.2)<|X.2.1.VW (cv':=.slice o5 (n+1) c5) [] P);simp at t2;clear z A ab v P)
  go_ret;exact⟨rfl,_,(cp,x.2.1,S'),rfl,(by have D:=HQ.out;simp at D;subst D;exact R.1),X.2.2.1.trans R.2 sE⟩
def abS(b hp p:Nat)(w:World)(v:Value)(u:Bool)(m:cM)(R:aK)(l:List cM)(us:List Nat)(w':World):Prop:=∃(cv':Value) (cl':List cM),(u=true/\cl'=l\/u=false/\∃c,c.2.1=R/\cl'=l++[c])/\jV b w' hp p cv' true true v m cl' us/\oh b [] w w'
theorem KD(b hp p d:Nat)(w:World)(O v:Value)(f forced:Bool)(m x:cM)(l:List cM)(us:List Nat)(M:d=9\/d=10)(h:jV b w hp p O true f v m l us)(t:lC b w x.1 x.2.1 x.2.2)(hn:x.2.1.af.length<=1048576)(A:∀y∈x.2.1.af,y.ak.length<=1000)(L:x.2.1.table.length<=1048576)(F:l.length<=1048576):
  Calls prog 53 #[rM p,rM x.1,.int .i64 (d:Int),.int .i64 0,.bool forced] w λk w'=>k=.returned (.bool true)/\abS b hp p w v f m x.2.1 l us w':=by
 have⟨T,jc,a7,Y,a1⟩:=info_parts Hb;have I:=aa h.kb 3;have B:=aa h.kb 4;have f4:=au h.kb 4;simp at I B;have WW:¬(d:Int)=0:=oE;have G:=A9 d w;rw[show decide (d=9\/d=10)=true from decide_eq_true M]at G;have Z:=ae F;have H:=ae<|zzb h t;have J:=ik t hn A L;clear h t hn A L F
 cases f
 .go_enter func53,ntmps53;go_wp2_with fail;apply G.mono;rintro k w1 ⟨rfl,rfl⟩;clear G;go_wp2_with fail;apply J.mono;rintro k W ⟨cp,S',rfl,Hy,ie,yS⟩;have K:=H.1.new ie;have s:=ae<|zzb Hy<|zzb (H.1.fresh (c:=(cp,x.2.1,S')) yS) ie;clear J Hy ie yS I B f4;have⟨S,i,ec⟩:=bZ K.iW;subst ec;have E:=aa K.kb 2;have N:p<W.heap.size:=(zza.1 K.kb).1;simp at E;have C:=K.iW;have L_:=K.size;have⟨n,X⟩:=xY l.length;have a8:n<=1048576:=by have:=Z.out;omega
  have V:some p≠(Value.slice S n i).ownBlock:=by rw[X];exact λe=>bG C K.kb dN e.symm
  have j:Hid (l.length=n/\jV b W hp p (.slice S n i) true false v m l us):=⟨X.symm,by rw[X];exact K⟩;rw[<-X]at C E;clear K X
  go_wp2_with (at_builtin;apply b5 rfl _ _ 48 rfl b 43 T _ 1 8 underlying48 jc a7 Y a1 rfl dN _ n (l.map lD) rfl (C.alloc _) 1 [.pointer<|some (dH cp)] (.inl ⟨dH W.heap.size,1,rfl,cD _ #[.pointer<|some (dH cp)] _⟩) rfl (by intro u f;simp at f;subst f;rfl) mE oE (zzk L_ sE);intro v5 D q z a6;obtain⟨o5,c5,rfl⟩:=bZ q;have o:D.heap[p]?=some (oQ hp m.1 (.slice S n i) true false v):=(z.block p sC V).trans<|(zzf W _ p N).trans j.2.kb;have t2:=aa o 2;have tf:=au o 2;have P:Fr (Value.slice S n i).ownBlock.toList W D:=((Fr.refl _ W).alloc _).trans<|Fr.dc z;have g:=j.2.sM P (by rw[zzi,j.1,List.map_append];exact q) (λy a=>by obtain a|a:=zzo.1 a;exact j.2.each y (by simp[a]);simp at a;subst a;exact s.1) s.2.1;have Q:=aa g.kb 4;have a':=au g.kb 4;have R:=ae (zzb (g.EN true)<|(j.2.VW [] P).trans (g.pH [] 4<|.bool true) sE);simp at t2 Q;clear q z a6 o P g)
  go_ret;exact⟨rfl,_,_,.inr ⟨rfl,(cp,x.2.1,S'),rfl,rfl⟩,R.1,(oh.new H.1.size s.2.2).trans R.2 sE⟩
 .go_enter func53,ntmps53;go_wp2_with fail;apply G.mono;rintro k w1 ⟨rfl,rfl⟩;clear G J;go_wp2;go_ret;exact⟨rfl,_,l,.inl ⟨rfl,rfl⟩,H.1.EN true,H.1.pH [] 4<|.bool true⟩
structure KF(b:Nat)(w w':World):Prop where
 below:Below b w w'
 step:∀(i:Nat) (c:Array Value),w.heap[i]?=some (.cells c 40 (0,0))->w'.heap[i]?=some (.cells c 40 (0,0))
def Gl(w:World):Prop:=Met w/\dw w/\mP w
section
variable{b hp p h bN n kp k M m0:Nat}{w w' w2:World}{so E:Option (Nat × List Nat)}{d:ah}{U:List Nat}{cv uv:Value}{sk hu:Bool}{m:cM}{cl:List cM}{us:List Nat}{cs cs':List aK}{R:aK}
theorem KF.trans(h:KF b w w')(k:KF b w' w2):KF b w w2:=⟨h.below.trans k.below,λi c a=>k.step i c<|h.step i c a⟩
theorem KF.new(a:b<=w.heap.size)(f:Fr [] w w'):KF b w w':=⟨f.below a sE,λi c h=>(f.block i (zza.1 h).1 sE).trans h⟩
theorem KF.sL(c:nR w b hp p h bN so d n)(L:b<=hp)(f:lA hp p so E w w'):KF b w w':=⟨c.below L f,λi _ a=>(f.block i (zza.1 a).1<|c.step a).trans a⟩
theorem KF.KO(f:oh b U w w')(d:∀k∈U,∃c,w.heap[k]?=some (.cells c 34 (0,0))):KF b w w':=⟨f.below,λi c h=>f.block i _ h rfl (λm=>by
 have⟨c2,a⟩:=d i m;rw[h]at a;have e:(40:TypeId)=34:=by grind
 exact absurd e dN)⟩
theorem KF.gl(h:KF b w w')(a:3<=b)(g:Gl w):Gl w':=⟨g.1.below h.below oE,g.2.1.cF<|h.below.block 1 oE,g.2.2.below h.below oE⟩
theorem nR.jA(a:nR w b hp p h bN so d n){j:Nat}(f:oh j U w w')(e:∀k∈U,¬jL hp p so w k/\∃c,w.heap[k]?=some (.cells c 34 (0,0))):nR w' b hp p h bN so d n/\∀k,jL hp p so w' k->jL hp p so w k:=by
 rcases a with⟨g,i,V,T,H,q,m,s,l,rfl,a⟩|⟨rfl,a⟩
 .obtain⟨k1,k2⟩:=a.jA f e;exact⟨.inl ⟨g,i,V,T,H,q,m,s,l,rfl,k1⟩,k2⟩
 .obtain⟨k1,k2⟩:=a.jA f λk o=>(e k o).2;exact⟨.inr ⟨rfl,k1⟩,k2⟩
structure KA(b:Nat)(w:World)(hp p kp:Nat)(so:Option (Nat × List Nat))(cv:Value)(sk hu:Bool)(uv:Value)(m:cM)(cl:List cM)(us:List Nat):Prop where
 mem:jV b w hp kp cv sk hu uv m cl us
 free:∀g,uv.ownBlock=some g->¬jL hp p so w g
theorem KA.new(a:KA b w hp p kp so cv sk hu uv m cl us)(e:nR w b hp p h bN so d n)(f:Fr [] w w'):KA b w' hp p kp so cv sk hu uv m cl us:=
 ⟨a.mem.new f,λg c o=>a.free g c<|(e.new f).2.stay g (a.mem.used.lt g c).2 o⟩
theorem KA.host(a:KA b w hp p kp so cv sk hu uv m cl us)(c:nR w b hp p h bN so d n)(f:lA hp p so E w w'):KA b w' hp p kp E cv sk hu uv m cl us:=by
 have⟨e,k⟩:=a.mem.host c f a.free;exact⟨e,k⟩
theorem KA.law{cv':Value}{q j:Bool}{m':cM}{cl':List cM}(e:KA b w hp p kp so cv sk hu uv m cl us)(i:nR w b hp p h bN so d n)(a:jV b w' hp kp cv' q j uv m' cl' us)(f:oh b [] w w'):KA b w' hp p kp so cv' q j uv m' cl' us:=
 ⟨a,λg c o=>e.free g c<|(i.jA f λk l=>by cases l).2 g o⟩
theorem ny.new(e:ny w b hp p h so k cs R us sk hu M m0)(f:Fr [] w w'):ny w' b hp p h so k cs R us sk hu M m0/\lA hp p so so w w':=by
 obtain⟨c,g,V,T,H,i,bN,s,l,d,rfl,a,o⟩:=e;exact⟨⟨c,g,V,T,H,i,bN,s,l,d,rfl,(a.new f).1,o⟩,(a.new f).2.sL⟩
theorem ny.jA(i:ny w b hp p h so k cs R us sk hu M m0){e:Nat}(f:oh e U w w')(m:∀k∈U,¬jL hp p so w k/\∃c,w.heap[k]?=some (.cells c 34 (0,0))):ny w' b hp p h so k cs R us sk hu M m0:=by
 obtain⟨a,g,V,T,H,n,bN,s,l,d,rfl,j,o⟩:=i;exact⟨a,g,V,T,H,n,bN,s,l,d,rfl,(j.jA f m).1,o⟩
theorem ny.ZH(e:ny w b hp p h so k cs R us sk hu M m0){q:Bool}(c:sk=true->q=true):ny w b hp p h so k cs R us q hu M m0:=by
 obtain⟨a,g,V,T,H,i,bN,s,l,d,rfl,f,o⟩:=e;exact⟨a,g,V,T,H,i,bN,s,l,d,rfl,f,o.ZH c⟩
/-! ### those that it may be,by what a acf leaves of them -/
structure Alike(k:Nat)(cs cs':List aK):Prop where
 len:cs'.length=cs.length
 fwd:∀Q'∈cs',∃Q∈cs,Q'.rest=Q.rest
 bck:∀Q∈cs,∃Q'∈cs',Q'.rest=Q.rest
 EO:∀Q∈cs',Ck k Q
theorem Hi.alike(h:Hi cs us)(b:Alike k cs cs'):Hi cs' us:=by
 refine⟨λj a t o=>?_,λc g d n i m=>?_⟩
 .obtain⟨Q,a,e⟩:=b.fwd j a;exact h.use Q a t<|by rw[<-fc e];exact o
 .obtain⟨P1,hP1,p1⟩:=b.fwd c g;have⟨P,Y,p⟩:=b.fwd d n;have l:P1.table=c.table:=by grind[k7]
  have f:P.table=d.table:=by grind[k7]
  rw[p1,p];exact h.ZE P1 hP1 P Y (by rw[l,f,i])<|by rw[<-fc p1,<-fc p,m]
theorem tB.alike(h:tB R cs us)(b:Alike k cs cs'):tB R cs' us:=by
 refine⟨h.ku.alike b,λc a t g=>?_,h.Ik,?_⟩
 .obtain⟨Q,a,e⟩:=b.fwd c a;rw[fc e];exact h.sub Q a t g
 .obtain⟨Q,a,e⟩:=h.last;have⟨c,f,d⟩:=b.bck Q a;exact⟨c,f,d.trans e⟩
theorem fI.alike{s:ag}{l:aq}(h:fI k s l d cs R us sk hu M m0)(a:Alike k cs cs'):fI k s l d cs' R us sk hu M m0:=by
 have lW:∀{c mk:Nat} {X:List Rec},(∃Q∈cs,vL c mk X Q.rest)->∃Q∈cs',vL c mk X Q.rest:=λ⟨Q,g,t⟩=>by
  have⟨m,n,b⟩:=a.bck Q g;exact⟨m,n,by rw[b];exact t⟩
 refine⟨h.gd,h.ck,a.EO,by rw[a.len];exact h.Cm,h.zt,h.up,h.df,h.fl,?_⟩;rcases h.st with⟨q,j,p,ss,c1,o⟩|⟨q,j,p,f⟩
 .refine .inl ⟨q,j.alike a,p,ss,c1,⟨o.lg,o.ba,o.up,λi y x=>lW<|o.cd i y x,o.lW,?_⟩⟩;have⟨Q,g,e⟩:=o.last;have⟨m,n,b⟩:=a.bck Q g;exact⟨m,n,b.trans e⟩
 .exact .inr ⟨q,j,p.alike a,⟨f.code,f.fail,f.segs,f.sure.mono λF u=>by
   obtain⟨mk,ss,v,r,z,w⟩:=u
   exact⟨mk,ss,v,r,lW z,w⟩⟩⟩
end
theorem xO{k':Nat}{d d':ah}{mk:Nat}{ss:List Sg}{R0:aK}(g:qZ k d cs us M m0)(m:k<=k')(f:fA k<=fA k')(a:R0∈cs)(G:Pp k (20*k') s R0.rest)(v:aV s.aS)(h:iR l d' mk ss [])(e:iZ d'.ai mk ss)(c:d'.down=false)(L:vL k mk (chunks ss).flatten R0.rest)(hn:aw mk ss<=fA k+1):fI k' s l d' [R0.rest] R0.rest us false false mk mk:=by
 have u:=(g.EO R0 a).rest.mono m;have j:vL k' mk (chunks ss).flatten R0.rest.rest:=by rw[OP];exact L.mono m
 refine⟨(G.all v).mono m<|zzc _,u,λQ b=>by simp at b;rw[b];exact u,sE,by have:=g.zt;omega,c,h.floor,zzc _,.inl ⟨rfl,(g.ku.anew a a rfl rfl).2,?_,ss,[],⟨h,e,c,?_,?_,⟨R0.rest,sE,rfl⟩⟩⟩⟩
 .have:=h.next;simp at this;omega
 .have hdk:=h.Ke.1;rw[List.append_nil,hdk];exact Cd.all j
 .grind
section
variable{b hp p I J O U a f h bN m n E c T:Nat}{s:ag}{l:aq}{d:ah}{R:aK}{w:World}{g:Nat}{i j:Value}{o q:Bool}{x:cM}
theorem Tn(z:kz w b hp p I J O U a f h bN m n s l d)(B:w.heap[E]?=some (oQ hp g i o q j))(r:lC b w x.1 x.2.1 x.2.2)(u:Gd c T s R)(A:c<=100000)(y:m<=1000000000)(k:x.2.1.af.length<=12)(v:R.table=x.2.1.table->R.waiting=x.2.1.waiting->∀t,R.state t=x.2.1.state t):
  Calls prog 16 #[rM E,rM x.1] w λe w'=>e=.returned (.bool<|decide<|R.table=x.2.1.table/\R.waiting=x.2.1.waiting)/\Fr [] w w':=
 @SY (oP b) hp p I J O U a f h bN m n E x.1 c T s l d R x.2.1 w (@KL.mk (oP b) w hp p I J O U a f h bN m n s l d E x.1 x.2.1 z ⟨_,_,B,rfl⟩ r.rs) u A y k v
end
theorem xP{hp p h E:Nat}{so:Option (Nat×List Nat)}{o:Bool}{g:Nat}{i j:Value}{B m:Bool}{x:cM}(n:ny w b hp p h so k cs x.2.1 us o q M m0)(u:w.heap[E]?=some (oQ hp g i B m j))(r:lC b w x.1 x.2.1 x.2.2)(v:k<=16384):
  Calls prog 16 #[rM E,rM x.1] w λe w'=>e=.returned (.bool true)/\Fr [] w w':=by
 obtain⟨I,J,O,U,a,f,bN,s,l,d,rfl,t,c⟩:=n;apply(Tn t u r c.gd oE (by unfold mK;omega) c.ck.len λ_ _ _=>rfl).mono;rintro e w' ⟨he,hf⟩;refine⟨?_,hf⟩;rw[he];simp
section
variable{c T:Nat}{s:ag}{R:aK}
theorem Gd.put(h:Gd c T s R)(t:Nat)(seq:Int)(k v:ByteArray)(b:t<2^64):
  (s.aY t seq k ⟨1,v⟩).2=(R.put t seq k v).2/\Gd (c+1) T (s.aY t seq k ⟨1,v⟩).1 (R.put t seq k v).1:=by
 unfold aK.put;by_cases a:32<v.size
 .rw[if_pos a];have:s.aY t seq k ⟨1,v⟩=(s,if t=0 then 7 else 1):=by grind[ag.refuse,ag.fO,ag.aY,val]
  rw[this];exact⟨rfl,h.mono oE<|zzc _⟩
 .rw[if_neg a];exact h.op t seq k ⟨1,v⟩ _ b (by show v.size<=32;omega)<|CU ⟨k,true,false,v⟩ rfl<|by show v.size<=32;omega
theorem Gd.delete(h:Gd c T s R)(t:Nat)(seq:Int)(k:ByteArray)(a:t<2^64):
  (s.aY t seq k ⟨2,yA⟩).2=(R.delete t seq k).2/\Gd (c+1) T (s.aY t seq k ⟨2,yA⟩).1 (R.delete t seq k).1:=
 h.op t seq k ⟨2,yA⟩ _ a (by show 0<=32;omega) (CU ⟨k,true,true,yA⟩ rfl<|by show 0<=32;omega)
theorem Gd.get(h:Gd c T s R)(v:aV s.aS)(t:Nat)(seq:Int)(k:ByteArray)(d:t<2^64):
  (s.get t seq k).2=(R.get t seq k).2/\Gd (c+1) T (s.get t seq k).1 (R.get t seq k).1:=by
 have⟨a,b⟩:=h.op t seq k ⟨0,yA⟩ (dv k) d (by show 0<=32;omega)<|rR k;have w:(aQ.mk 0 yA).writes=false:=rfl;rw[w]at a b;have g:=b.rel.got (by rw[(tu s t seq k ⟨0,yA⟩).2];exact v) t k;unfold ag.get aK.get;rw[a];by_cases e:(R.op t seq k false<|dv k).2=0
 .grind
 .grind
end
end Go.Proofs.YtdcafjmdfpjcbaaGreatDoor
