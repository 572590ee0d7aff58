import Derived.Test.YtdcafjmdfpjcbaaGreatDoorC05
import Derived.Test.YtdcafjmdfpjcbaaGreatDoorC07
set_option maxHeartbeats 4000000
set_option maxRecDepth 100000
namespace Go.Proofs.YtdcafjmdfpjcbaaGreatDoor
open Go.RowKit Go.Maps Tryz Sc
variable{S X l:List Nat}{xs:List Value}{B D N bD bN f g h k lp n p q:Nat}{t:TypeId}{m pv r rv sv v:Value}{a b c w w':World}{d:ah}
structure aq where
 segs:List Nat
 filled:Nat
 recs:List Rec
 next:Nat
 ai:Nat
 failed:Nat
def dh(l:List Nat):List Value:=l.map λx:Nat=>.int .u64 (x:Int)
theorem l_(l:List Nat)(x:Nat):dh (l++[x])=dh l++[.int .u64 (x:Int)]:=by simp[dh]
theorem P4(l:List Nat):(dh l).length=l.length:=by simp[dh]
abbrev fo(p:Nat):Value:=.iface 54 (rM p)
abbrev nc(p:Nat)(sv rv:Value)(l:aq):Obj:=.cells #[fo p,sv,.int .i64 (l.filled:Int),rv,.int .u64 (l.next:Int),.int .u64 (l.ai:Int),cj l.failed] 137
def refs:Option Obj->List Nat
 |some (.cells c _ _)=>c.toList.filterMap λv=>match v with
  |.map r=>r
  |.slice (some a) _ _=>some a.block
  |_=>none
 |_=>[]
def Own(lp p:Nat)(w:World)(k:Nat):Prop:=k=lp\/k=p\/k∈refs w.heap[lp]?\/k∈refs w.heap[p]?
structure kI(lp p:Nat)(w w':World):Prop where
 os:w'.os=w.os
 tape:w'.tape=w.tape
 output:w'.output=w.output
 size:w.heap.size<=w'.heap.size
 block:∀k,k<w.heap.size->¬Own lp p w k->w'.heap[k]?=w.heap[k]?
 stay:∀k,k<w.heap.size->Own lp p w' k->Own lp p w k
theorem kI.refl(lp p:Nat)(w:World):kI lp p w w:=⟨rfl,rfl,rfl,zzc _,λ_ _ _=>rfl,λ_ _ h=>h⟩
theorem kI.trans(h:kI lp p a b)(k:kI lp p b c):kI lp p a c:=
 ⟨k.os.trans h.os,k.tape.trans h.tape,k.output.trans h.output,zzk h.size k.size,
  λi d hn=>(k.block i (zzl d h.size) λo=>hn<|h.stay i d o).trans<|h.block i d hn,
  λi d o=>h.stay i d (k.stay i (zzl d h.size) o)⟩
structure aD(w:World)(B lp p bD bN:Nat)(pv sv rv:Value)(l:aq)(d:ah)(n nD nN:Nat):Prop where
 bE:aB w B p bD bN pv d n nD nN
 blk:w.heap[lp]?=some (nc p sv rv l)
 base:B<=lp
 segs:w.ownsRow B 34 1 sv l.segs.length (dh l.segs)
 recs:w.ownsRow B 82 3 rv l.recs.length (cG l.recs)
 dL:l.segs.length<=n/\∀s∈l.segs,s<2^64
 fV:l.recs.length<=n
 jv:l.filled<=4096
 gy:l.next<=n+1
 lS:l.ai<2^64
theorem wP{e:TypeId}(h:w.ownsRow B e k v n xs):∃a m c,v=.slice a m c:=by
 rcases h.2 with⟨rfl,_⟩|⟨g,p,r,rfl,_⟩
 .grind
 .grind
def XV(v:Value):Option Nat:=match v with
 |.map r=>r
 |.slice (some a) _ _=>some a.block
 |_=>none
theorem zF(c:Array Value)(t:TypeId)(fr:Nat×Nat):refs (some<|.cells c t fr)=c.toList.filterMap XV:=rfl
theorem rE(h:∃a m c,v=.slice a m c):XV v=v.ownBlock:=by
 obtain⟨a,m,c,rfl⟩:=h;cases a<;>rfl
theorem P5(n:Nat):XV (cj n)=none:=by unfold cj;split<;>rfl
theorem Uk{l:aq}(s:∃a m c,sv=.slice a m c)(r:∃a m c,rv=.slice a m c)(k:Nat):k∈refs (some<|nc p sv rv l)↔sv.ownBlock=some k\/rv.ownBlock=some k:=by
 rw[zF];simp only[List.mem_filterMap,zzj,List.not_mem_nil,or_false];constructor
 .rintro⟨v,hv,hk⟩;obtain rfl|rfl|rfl|rfl|rfl|rfl|rfl:=hv
  .cases hk
  .grind [rE]
  .cases hk
  .grind [rE]
  .cases hk
  .cases hk
  .grind [P5]
 .grind [rE]
theorem Lp{a b:Int}{dn:Bool}(hp:∃a m c,pv=.slice a m c)(k:Nat):k∈refs (some<|kF bD bN pv a b dn)↔k=bD\/k=bN\/pv.ownBlock=some k:=by
 rw[zF];simp only[List.mem_filterMap,zzj,List.not_mem_nil,or_false];constructor
 .rintro⟨v,hv,hk⟩;obtain rfl|rfl|rfl|rfl|rfl|rfl:=hv
  .left;cases hk;rfl
  .right;left;cases hk;rfl
  .grind [rE]
  .cases hk
  .cases hk
  .cases hk
 .rintro (h|h|h)
  .exact⟨.map<|some bD,sE,by subst h;rfl⟩
  .exact⟨.map<|some bN,sE,by subst h;rfl⟩
  .grind [rE]
section
variable{w w':World}{B lp p bD bN n nD nN I n' J O:Nat}{pv sv rv E U f:Value}{l l':aq}{d d':ah}
theorem aD.own(h:aD w B lp p bD bN pv sv rv l d n nD nN)(k:Nat):Own lp p w k↔k=lp\/k=p\/k=bD\/k=bN\/pv.ownBlock=some k\/sv.ownBlock=some k\/rv.ownBlock=some k:=by
 unfold Own;rw[h.blk,h.bE.blk,Uk (wP h.segs)<|wP h.recs,Lp<|wP h.bE.pen];constructor
 .grind
 .grind
theorem aD.BG{S:List Nat}(h:aD w B lp p bD bN pv sv rv l d n nD nN)(c:aD w' B lp p bD I E U f l' d' n' J O)(a:Fr S w w')
  (i:∀k∈S,k<w.heap.size->k=lp\/k=p\/k=bD\/k=bN\/pv.ownBlock=some k\/sv.ownBlock=some k\/rv.ownBlock=some k)
  (r:I=bN\/w.heap.size<=I) (g:bn w.heap.size pv E) (j:bn w.heap.size sv U) (q:bn w.heap.size rv f):kI lp p w w':=by
 refine⟨a.os,a.tape,a.output,a.size,λk b hn=>a.block k b λm=>hn<|(h.own k).2<|i k m b,λk b o=>?_⟩;rw[h.own];obtain e|e|e|e|e|e|e:=(c.own k).1 o
 .grind
 .grind
 .grind
 .grind
 .rcases g k e with e|e
  .grind
  .omega
 .rcases j k e with e|e
  .grind
  .omega
 .rcases q k e with e|e
  .grind
  .omega
theorem aD.sep(h:aD w B lp p bD bN pv sv rv l d n nD nN):∀k∈dS p bD bN pv,k≠lp/\sv.ownBlock≠some k/\rv.ownBlock≠some k:=by
 intro k a;have y:∀(c:Array Value) (t:TypeId) (q:Nat),w.heap[q]?=some (.cells c t (0,0))->t≠58->t≠162->k≠q:=by
  intro c t q b f g e;subst e;obtain e|a:=zzj.1 a
  .rw[e,h.bE.blk]at b;cases b;exact f rfl
  obtain e|a:=zzj.1 a
  .exact h.bE.j8.cL b e.symm
  obtain e|a:=zzj.1 a
  .exact h.bE.now.cL b e.symm
  .simp at a;exact bG h.bE.pen b (λe=>g e.symm) a
 refine⟨y _ _ lp h.blk dN dN,λe=>?_,λe=>?_⟩
 .obtain⟨c,hc⟩:=aF h.segs e;exact y _ _ k hc dN dN rfl
 .obtain⟨c,hc⟩:=aF h.recs e;exact y _ _ k hc dN dN rfl
theorem aD.turned{S:List Nat}(h:aD w B lp p bD bN pv sv rv l d n nD nN)(c:aB w' B p bD bN E d' n' J O)(f:Fr S w w')(b:∀k∈S,k<w.heap.size->k≠lp/\sv.ownBlock≠some k/\rv.ownBlock≠some k)(hn:n<=n'):aD w' B lp p bD bN E sv rv l d' n' J O where
 bE:=c
 blk:=(f.block lp (zza.1 h.blk).1 λm=>(b lp m (zza.1 h.blk).1).1 rfl).trans h.blk;base:=h.base;segs:=av h.segs f λg a m=>(b g m (h.segs.lt g a).2).2.1 a
 recs:=av h.recs f λg a m=>(b g m (h.recs.lt g a).2).2.2 a
 dL:=⟨by have:=h.dL.1;omega,h.dL.2⟩
 fV:=by have:=h.fV;omega
 jv:=h.jv;gy:=by have:=h.gy;omega
 lS:=h.lS
end
theorem aD.I0{nD nN:Nat}{l l':aq}(h:aD w B lp p bD bN pv sv rv l d n nD nN)(f:Fr [lp] w w')(r:w'.heap[lp]?=some (nc p sv rv l'))
  (j:l'.segs.length<=n/\∀s∈l'.segs,s<2^64) (u:l'.recs.length<=n) (z:l'.filled<=4096) (i:l'.next<=n+1) (v:l'.ai<2^64) (y:l'.segs=l.segs) (o:l'.recs=l.recs):aD w' B lp p bD bN pv sv rv l' d n nD nN:=by
 have b:∀k∈dS p bD bN pv,k∉[lp]:=λk x m=>by simp at m;exact(h.sep k x).1 m
 refine {bE:=?_,blk:=r,base:=h.base,segs:=?_,recs:=?_,dL:=j,fV:=u,jv:=z,gy:=i,lS:=v}
 .refine h.bE.fr f (b p sE) (b bD sE) (b bN sE) (λg a=>b g<|by simp[a]) ?_;intro q c t;simp at c;subst c;rw[h.blk];intro e;cases e
 .rw[y];exact av h.segs f λg a=>by simp;intro e;subst e;exact bG h.segs h.blk dN a
 .rw[o];exact av h.recs f λg a=>by simp;intro e;subst e;exact bG h.recs h.blk dN a
def Ls(B lp p bD bN:Nat)(l:aq)(d:ah)(n:Nat)(w w':World):Prop :=
 (∃pv sv rv nD nN,aD w' B lp p bD bN pv sv rv l d n nD nN)/\kI lp p w w'
theorem Ul(h:Value)(w:World):(Go.method 564 54 h "Append").run prog w=.ok (353,h) w:=k6
theorem P7(h:Value)(w:World):(Go.method 564 54 h "Names").run prog w=.ok (354,h) w:=k6
theorem Lt(h:Value)(w:World):(Go.method 564 54 h "Read").run prog w=.ok (355,h) w:=k6
theorem Um(h:Value)(w:World):(Go.method 564 54 h "Remove").run prog w=.ok (356,h) w:=k6
theorem Un(h:Value)(w:World):(Go.method 564 54 h "Rename").run prog w=.ok (357,h) w:=k6
theorem Lu(h:Value)(w:World):(Go.method 564 54 h "Sync").run prog w=.ok (358,h) w:=k6
theorem XW(h:Value)(w:World):(Go.method 564 54 h "Write").run prog w=.ok (359,h) w:=k6
def aq.sync(l:aq)(d:ah):aq × ah × Nat :=
 if d.sync.2=0 then ({ l with ai:=l.next },d.sync.1,0) else (l,d.sync.1,d.sync.2)
theorem Uo{c:Nat}(h:c≠0):∃v,cj c=.iface 27 v:=⟨_,aG h⟩
theorem rF(B lp p bD bN n nD nN:Nat)(pv sv rv:Value)(l:aq)(d:ah)(w:World)(h:aD w B lp p bD bN pv sv rv l d n nD nN)(hn:n<=1000000000):
  Calls prog 96 #[rM lp] w λe w'=>e=.returned (cj (l.sync d).2.2)/\Ls B lp p bD bN (l.sync d).1 (l.sync d).2.1 n w w':=by
 have i:=aa h.blk 0;simp at i;have I:=ae h;clear h;go_enter func96,ntmps96;have r:=Lu;go_wp2_with fail;apply(qu B p bD bN n nD nN pv d w I.out.bE).mono;rintro e b ⟨rfl,⟨kr,lT,mF,sA⟩,bF⟩;have E:aD b B lp p bD bN kr sv rv l d.sync.1 n lT nN:=I.out.turned mF bF (λk a _=>I.out.sep k<|by simp at a;obtain h|h:=a<;>simp[h])<|zzc _;have j:kI lp p w b:=I.out.BG E bF (λk a _=>by simp at a;obtain h|h:=a<;>simp[h]) (.inl rfl) sA (bn.refl _ _)<|bn.refl _ _;have H:=ae E;have O:=ae j;have o:=aa E.blk 4;have q:=aa E.blk 5;have s:=au E.blk 5;simp at o q;clear mF sA bF E j i;by_cases c:d.sync.2=0
 .rw[c,bQ];go_wp2;go_ret;have e:l.sync d=({l with ai:=l.next},d.sync.1,0):=by unfold aq.sync;rw[if_pos c]
  rw[e];have⟨W,f⟩:∃W,W=b.setCell ⟨lp,5,none⟩ (.int .u64 (l.next:Int)):=⟨_,rfl⟩;rw[<-f];have g:Fr [lp] b W:=by rw[f];exact Fr.cH sE _ _
  have m:W.heap[lp]?=some (nc p sv rv {l with ai:=l.next}):=by rw[f];simpa using aH H.out.blk 5<|.int .u64 (l.next:Int)
  have N:aD W B lp p bD bN kr sv rv {l with ai:=l.next} d.sync.1 n lT nN:=H.out.I0 g m H.out.dL H.out.fV H.out.jv H.out.gy (by have:=H.out.gy;simp;omega) rfl rfl;exact⟨rfl,⟨kr,sv,rv,lT,nN,N⟩,O.out.trans<|H.out.BG N g (λk a _=>by simp at a;simp[a]) (.inl rfl) (bn.refl _ _) (bn.refl _ _)<|bn.refl _ _⟩
 .have e:l.sync d=(l,d.sync.1,d.sync.2):=by unfold aq.sync;rw[if_neg c]
  rw[aG c];go_wp2;go_ret;rw[e];exact⟨by rw[aG c];rfl,⟨kr,sv,rv,lT,nN,H.out⟩,O.out⟩
theorem nB:(Tryz.prog.info? 34).map (λi=>(i.zero,i.size,i.bytes))=some (some<|.int .u64 0,1,8):=k6
theorem Na{o:Oper}{a:Act}{K:Act->World->Prop}{Q:Exit->Act->World->Prop}(s x:Operand)
  (q:o.op=.call {callee:=.builtin .append,args:=#[s,x],argTypes:=#[49,49]})
  (base:Nat) (v:Value) (n:Nat) (l:List Nat) (r:Nat) (b:Nat) (j:a.eval s=v) (N:w.ownsRow base 34 1 v n<|dh l) (e:a.eval x=.slice (some<|dH b) 1 1)
  (m:w.cell? (dH b)=some (.int .u64 (r:Int))) (hn:n<=1073741824) (p:base<=w.heap.size)
  (h:∀c w',w'.ownsRow base 34 1 c (n+1) (dh<|l++[r])->w.grownBy w' v.ownBlock->(c.ownBlock=v.ownBlock\/c.ownBlock=some w.heap.size)->K (a.put o.dst c) w'):o.wp prog a w K Q:=by
 have⟨i,d,f,g,k⟩:=info_parts nB;refine fT s x 49 q base 34 i _ 1 8 underlying49 d f g k rfl dN v n (dh l) j N (dH b) 1 1 [.int .u64 (r:Int)] e rfl ?_ ?_ mE oE p ?_
 .intro jj u h_;match jj,h_ with
  |0,h_=>simp at h_;subst h_;simpa [Addr.add]using m
 .intro u hu;simp at hu;subst hu;rfl
 .intro c w' wu PC BC;refine h c w' ?_ PC BC;rw[l_];exact wu
def aq.room(l:aq)(d:ah):aq × ah × Nat :=
 if l.filled<600 then (l,d,0)
 else if (l.sync d).2.2=0 then ({ (l.sync d).1 with segs:=(l.sync d).1.segs++[(l.sync d).1.next],filled:=0 },(l.sync d).2.1,0)
 else l.sync d
theorem aD.more{b:Nat}{s:Value}{l:aq}(a:aD w B b p h bN v s r l d n D N)(hn:n<1000000000):aD w B b p h bN v s r l d (n+1) D N:=
 {a with bE:=a.bE.more hn,dL:=⟨by have:=a.dL.1;omega,a.dL.2⟩,fV:=by have:=a.fV;omega,gy:=by have:=a.gy;omega}
theorem P8{b:Nat}{g:Value}{l:aq}{o:Obj}{r:Option Nat}(f:aD c B b p h bN m v g l d n D N)(s:(c.alloc o).drew.grownBy w r)(q:r≠some b)(i:Nat):
  w.cell? (d8 b i)=c.cell? (d8 b i)/\w.frozen? (d8 b i)=false/\w.heap[b]?=some (nc p v g l):=by
 have j:=(zza.1 f.blk).1;have k:w.heap[b]?=c.heap[b]?:=by
  rw[s.block b sC λe=>q e.symm];exact zzf c _ b j
 exact⟨zze k,(zzw k).trans<|au f.blk i,k.trans f.blk⟩
theorem aD.rows{W:World}{n':Nat}{j L:Value}{l l':aq}(a:aD w B f p h bN v j m l d n D N)(J:Fr S w W)(u:∀k∈S,k<w.heap.size->k=f\/j.ownBlock=some k\/m.ownBlock=some k)
  (z:W.heap[f]?=some (nc p L r l')) (K:W.ownsRow B 34 1 L l'.segs.length<|dh l'.segs) (G:W.ownsRow B 82 3 r l'.recs.length<|cG l'.recs)
  (hn:n<=n') (F:n'<=1000000000) (Q:l'.segs.length<=n'/\∀s∈l'.segs,s<2^64) (H:l'.recs.length<=n') (P:l'.filled<=4096) (I:l'.next<=n' + 1) (M:l'.ai<2^64):aD W B f p h bN v L r l' d n' D N:=by
 have c:∀k∈dS p h bN v,k<w.heap.size->k∉S:=λk O C x=>by
  have:=a.sep k O;obtain e|e|e:=u k x C
  .grind
  .grind
  .grind
 have E:=(zza.1 a.bE.blk).1;have i:aB W B p h bN v d n D N:=by
  apply a.bE.fr J (c p sE E) (c h sE a.bE.j8.lt) (c bN sE a.bE.now.lt) (λg o=>c g (by simp[o]) (a.bE.pen.lt g o).2);intro q y t e;have A:=(zza.1 e).1;obtain b|b|b:=u q y A
  .subst b;rw[a.blk]at e;cases e
  .exact bG a.segs e dN b
  .exact bG a.recs e dN b
 exact {bE:={i with hD:=by have:=i.hD;omega,hN:=by have:=i.hN;omega,hn:=F},blk:=z,base:=a.base,segs:=K,recs:=G,dL:=Q,fV:=H,jv:=P,gy:=I,lS:=M}
theorem P9(B b p I bN n D N:Nat)(C y A:Value)(l:aq)(d:ah)(w:World)(h:aD w B b p I bN C y A l d n D N)(hn:n<1000000000):
  Calls prog 113 #[rM b] w λe w'=>e=.returned (cj (l.room d).2.2)/\Ls B b p I bN (l.room d).1 (l.room d).2.1 (n+1) w w':=by
 have c2:=aa h.blk 2;simp at c2;have R:=ae h;clear h;by_cases m:l.filled<600
 .have e:l.room d=(l,d,0):=by unfold aq.room;rw[if_pos m]
  rw[e];have Z:(l.filled:Int)<600:=oE;go_enter func113,ntmps113;go_wp2;go_ret;exact⟨rfl,⟨C,y,A,D,N,R.out.more hn⟩,kI.refl _ _ _⟩
 .have Z:¬(l.filled:Int)<600:=oE;have P:=ae m;clear m;go_enter func113,ntmps113;go_wp2_with fail;apply(rF B b p I bN n D N C y A l d w R.out oE).mono;rintro e j ⟨rfl,⟨kr,sB,qz,lT,lN,fE⟩,fe⟩;have H:=ae fE;have T:=ae fe;have J:=aa fE.blk 1;have k2:=aa fE.blk 2;have L:=aa fE.blk 4;have f1:=au fE.blk 1;simp at J k2 L;have wA:b<j.heap.size:=(zza.1 fE.blk).1;have F:∀o i,(j.alloc o).cell? (d8 b i)=j.cell? (d8 b i):=λo i=>zze<|zzf j o b wA
  have uH:∀o,(j.alloc o).cell? (d8 b 1)=some sB:=λo=>(F o 1).trans J
  have a1:∀o,(j.alloc o).cell? (d8 b 4)=some (.int .u64 ((l.sync d).1.next:Int)):=λo=>(F o 4).trans L
  clear F;clear fE fe c2;by_cases r:(l.sync d).2.2=0
  .rw[r,bQ];go_wp2;go_region_law (first|(rw[if_pos<|by rfl];refine Na _ _ rfl B sB (l.sync d).1.segs.length (l.sync d).1.segs (l.sync d).1.next j.heap.size rfl ?_ rfl ?_ ?_ ?_ ?_;(exact H.out.segs.alloc _);(simp);(have:=H.out.dL.1;omega);(have:=H.out.bE.base.2.2.2;simp;omega);intro v4 O E X M;obtain⟨q,G,rfl⟩:=ib E;have⟨q1,q2,u⟩:=P8 H.out X (bG H.out.segs H.out.blk dN) 1;rw[J]at q1;have U:Hid (bn j.heap.size sB<|.slice (some (dH q)) ((l.sync d).1.segs.length+1) G):=bn.lL M sE;clear M))
   all_goals (
    have V:=(aa u 2);have t2:=(au u 2);simp at V;have Q:=ae u;clear u;go_wp2;go_ret;have e:l.room d=({(l.sync d).1 with segs:=(l.sync d).1.segs++[(l.sync d).1.next],filled:=0},(l.sync d).2.1,0):=by unfold aq.room;rw[if_neg P.out,if_pos r]
    rw[e];have⟨W,z⟩:∃W,W=(O.setCell ⟨b,1,none⟩<|.slice (some ⟨q,0,none⟩) ((l.sync d).1.segs.length+1) G).setCell ⟨b,2,none⟩ (.int .i64 0):=⟨_,rfl⟩;rw[<-z];have S:Fr [b] O W:=by rw[z];exact(Fr.cH sE _ _).trans<|Fr.cH sE _ _
    have m:Fr (b::sB.ownBlock.toList) j W:=((((Fr.refl _ j).alloc _).drew).trans<|(Fr.dc X).mono λk _ f=>List.mem_cons_of_mem _ f).trans<|S.mono<|by intro k _ f;simp at f;simp[f]
    have Y:W.heap[b]?=some (nc p (.slice (some (dH q)) ((l.sync d).1.segs.length+1) G) qz {(l.sync d).1 with segs:=(l.sync d).1.segs++[(l.sync d).1.next],filled:=0}):=by
     rw[z];have:=aH (aH Q.out 1<|.slice (some (dH q)) ((l.sync d).1.segs.length+1) G) 2<|.int .i64 0;simp at this;exact this
    have hs:W.ownsRow B 34 1 (.slice (some (dH q)) ((l.sync d).1.segs.length+1) G) ((l.sync d).1.segs++[(l.sync d).1.next]).length (dh<|(l.sync d).1.segs++[(l.sync d).1.next]):=by
     have:=av E S λg v=>by simp;intro e;subst e;exact bG E Q.out dN v
     simpa using this
    have hr:W.ownsRow B 82 3 qz (l.sync d).1.recs.length (cG (l.sync d).1.recs):=av H.out.recs m (λg v t=>by
     obtain e|t:=zzj.1 t
     .subst e;exact bG H.out.recs H.out.blk dN v
     .simp at t;have⟨c,yK⟩:=aF H.out.segs t;exact bG H.out.recs yK dN v)
    have kJ:=H.out.gy;have K:=H.out.rows (n':=n+1) m (by intro k f _;rcases zzj.1 f with e|f;exact .inl e;simp at f;exact .inr<|.inl f) Y hs hr (by omega) (by omega)
     ⟨by have:=H.out.dL.1;simp;omega,by intro x s;obtain s|s:=zzo.1 s;exact H.out.dL.2 x s;simp at s;omega⟩ (by have:=H.out.fV;simp;omega) sE (by simp;omega) H.out.lS
    exact⟨rfl,⟨kr,_,qz,lT,lN,K⟩,T.out.trans (H.out.BG K m (by intro k f _;obtain e|f:=zzj.1 f;simp[e];simp at f;simp[f]) (.inl rfl) (bn.refl _ _) U.out (bn.refl _ _))⟩)
  .have e:l.room d=l.sync d:=by unfold aq.room;rw[if_neg P.out,if_neg r]
   rw[aG r];go_wp2;go_ret;rw[e];exact⟨by rw[aG r];rfl,⟨kr,sB,qz,lT,lN,H.out.more hn⟩,T.out⟩
theorem Fp{c:Array Value}{fr:Nat×Nat}(b:aB w B p h bN v d n D N)(a:w.heap[q]?=some (.cells c t fr))(f:t≠58)(g:t≠162):q∉dS p h bN v:=by
 intro m;obtain e|m:=zzj.1 m
 .rw[e,b.blk]at a;cases a;exact f rfl
 obtain e|m:=zzj.1 m
 .exact b.j8.cL a e.symm
 obtain e|m:=zzj.1 m
 .exact b.now.cL a e.symm
 .simp at m;exact bG b.pen a (λe=>g e.symm) m
theorem ou{len:Nat}{c:Array Value}{fr:Nat×Nat}(o:aB w B p h bN v d n D N)(r:w.ownsRow k 5 1 (.slice (some<|dH g) len f) len xs)(a:w.heap[q]?=some (.cells c t fr))(j:t≠58)(s:t≠162)(i:t≠5):q∉g::dS p h bN v:=by
 intro m;obtain e|m:=zzj.1 m
 .subst e;have⟨l,b⟩:=aF r rfl;rw[b]at a;cases a;exact i rfl
 .grind [Fp]
def P_(B b p D bN n a g:Nat)(v s r:Value)(l:aq)(d:ah)(o:iD)(w:World)(e:Ending)(w':World):Prop :=
 e=.returned (cj (d.tell o).2)/\(∃j E,aD w' B b p D bN j s r l (d.tell o).1 (n+1) a E/\bn w.heap.size v j)/\Fr (g :: dS p D bN v) w w'
theorem ma(h:w.ownsRow B 34 1 (.slice (some<|dH g) n p) n<|dh l)(k x:Nat)(b:l[k]?=some x):w.cell? (d8 g k)=some (.int .u64 (x:Int)):=by
 have a:(dh l)[k]?=some (.int .u64 (x:Int)):=by simp[dh,b]
 have:=h.cells rfl k _ a;simpa [Addr.add_lit]using this
theorem Qb(B b p D bN n z N i j g m y base s cs last:Nat)(v x:Value)(l:aq)(d:ah)(C:List Nat)(w:World)(h:aD w B b p D bN v (.slice (some<|dH s) l.segs.length cs) x l d n z N)(hn:n<1000000000)
  (H:l.segs[l.segs.length-1]?=some last) (W:w.heap[i]?=some (.cells #[rM b] 59)) (u:w.heap[j]?=some (.cells #[.slice (some<|dH g) m y] 179))
  (V:C.length=m) (t:w.ownsRow base 5 1 (.slice (some<|dH g) m y) m<|bs C) (nU:m<=4096) (Q:dw w) (G:last<2^64) :
  Calls prog 114 #[rM i,rM j] w (P_ B b p D bN n z g v (.slice (some<|dH s) l.segs.length cs) x l d ⟨2,ar last,yA,str C⟩ w):=by
 subst V;have hL:0<l.segs.length:=by
  have:=(zzd.1 H).1;omega
 have K:=aa W 0;have L:=aa u 0;have J:=aa h.blk 0;have c1:=aa h.blk 1;have A:=ma h.segs _ _ H;simp at K L J c1;have Z:=h.segs;have⟨S,F⟩:∃S,S+1=l.segs.length:=⟨l.segs.length-1,oE⟩;have a7:S<1000000000:=by have:=h.dL.1;omega
 have i0:(0:Int)<=S:=oE;have i1:(S:Int)<S+1:=oE;have i2:wrap64 (S:Int)=S:=by unfold wrap64;omega
 have i3:IntKind.i64.wrap (S:Int)=S:=iS;have I:=ae h;have HX:=ae W;have HY:=ae u;have R:=ae t;have a6:=Ul;rw[<-F]at c1 A;simp only[Nat.add_sub_cancel]at A;have HS:=ae F.symm;have P:i<w.heap.size/\j<w.heap.size/\b<w.heap.size/\s<w.heap.size:=⟨(zza.1 W).1,(zza.1 u).1,(zza.1 h.blk).1,(h.segs.lt s rfl).2⟩;have q:i∉g::dS p D bN v/\j∉g::dS p D bN v/\b∉g::dS p D bN v/\s∉g::dS p D bN v:=by
  have⟨cg,Z6⟩:=aF h.segs rfl;exact⟨ou h.bE t W dN dN dN,ou h.bE t u dN dN dN,ou h.bE t h.blk dN dN dN,ou h.bE t Z6 dN dN dN⟩
 clear h W u t Z F;go_enter func114,ntmps114;go_wp2;go_region_held3 (λw'=>w'.cell? (dH i)=some (.pointer<|some (dH b))/\w'.cell? (dH j)=some (.slice (some (dH g)) C.length y)/\w'.cell? (dH b)=some (fo p)/\w'.cell? (d8 b 1)=some (.slice (some (dH s)) (S+1) cs)/\w'.cell? (d8 s S)=some (.int .u64 (last:Int)))
  (simp[*])
  (first|(go_at_call 353;apply(IE B p D bN n z N g y base v d (ar last) C _ (I.out.bE.new<|Fr.bw f.out []) hn (by have:=gS last G;unfold maxLen;omega) (av R.out (Fr.bw f.out []) sE) nU).mono;rintro e w2 ⟨rfl,ow,cA⟩;have x2:=(zze<|cA.block i (zzl P.1 f.out.size) q.1).trans M;have y2:=(zze<|cA.block j (zzl P.2.1 f.out.size) q.2.1).trans y1;have e0:=(zze<|cA.block b (zzl P.2.2.1 f.out.size) q.2.2.1).trans O;have e1:=(zze<|cA.block b (zzl P.2.2.1 f.out.size) q.2.2.1).trans d1;have s2:=(zze<|cA.block s (zzl P.2.2.2 f.out.size) q.2.2.2).trans s1)|(go_at_call 115;apply(fP last w.drew G<|show dw w.drew from Q).mono;rintro e E ⟨rfl,nh⟩;have o:Below w.heap.size w E:=⟨nh.os,nh.tape,nh.output,nh.size,nh.block⟩;have M:=(o.cell P.1).trans K;have y1:=(o.cell P.2.1).trans L;have O:=(o.cell P.2.2.1).trans J;have d1:=(o.cell P.2.2.1).trans c1;have s1:=(o.cell P.2.2.2).trans A;have f:Hid (Below w.heap.size w E):=o;clear o nh))
 go_wp2;go_ret;have⟨ya,BP,hd,Y⟩:=ow;have U:=Fr.bw f.out [];have T:aD E B b p D bN v (.slice (some (dH s)) l.segs.length cs) x l d n z N:=I.out.turned (I.out.bE.new U) U sE<|zzc _
 have a1:∀k∈g::dS p D bN v,x.ownBlock≠some k:=by
  intro k r e;have⟨c,hc⟩:=aF I.out.recs e;exact ou I.out.bE R.out hc dN dN dN r
 have X:=T.turned hd cA (λk r _=>⟨λe=>q.2.2.1<|e▸r,λe=>q.2.2.2<|by cases e;exact r,a1 k r⟩) oE;refine⟨rfl,⟨ya,BP,X,λk r=>?_⟩,(U.mono sE).trans cA⟩;obtain e|e:=Y k r
 .exact .inl e
 .right;have:=f.out.size;omega
structure Tx(X:List Nat)(lp p:Nat)(w w':World):Prop where
 os:w'.os=w.os
 tape:w'.tape=w.tape
 output:w'.output=w.output
 size:w.heap.size<=w'.heap.size
 block:∀k,k<w.heap.size->¬Own lp p w k->k∉X->w'.heap[k]?=w.heap[k]?
 stay:∀k,k<w.heap.size->Own lp p w' k->Own lp p w k
theorem kI.x(h:kI lp p w w'):Tx X lp p w w':=⟨h.os,h.tape,h.output,h.size,λk a hn _=>h.block k a hn,h.stay⟩
theorem Tx.trans(h:Tx X lp p a b)(k:Tx X lp p b c):Tx X lp p a c:=
 ⟨k.os.trans h.os,k.tape.trans h.tape,k.output.trans h.output,zzk h.size k.size,
  λi d hn x=>(k.block i (zzl d h.size) (λo=>hn<|h.stay i d o) x).trans<|h.block i d hn x,
  λi d o=>h.stay i d (k.stay i (zzl d h.size) o)⟩
section
variable{w w':World}{B lp p h bN n O U n' o s:Nat}{E I J f j m:Value}{l l':aq}{d d':ah}
theorem aD.XX{X S:List Nat}(c:aD w B lp p h bN E I J l d n O U)(g:aD w' B lp p h bN f j m l' d' n' o s)(a:Fr S w w')
  (r:∀k∈S,k<w.heap.size->k∈X\/k=lp\/k=p\/k=h\/k=bN\/E.ownBlock=some k\/I.ownBlock=some k\/J.ownBlock=some k)
  (i:bn w.heap.size E f) (t:bn w.heap.size I j) (v:bn w.heap.size J m):Tx X lp p w w':=by
 refine⟨a.os,a.tape,a.output,a.size,λk b hn x=>a.block k b λq=>?_,λk b u=>?_⟩
 .rcases r k q b with e|e
  .exact x e
  .exact hn<|(c.own k).2 e
 rw[c.own];obtain e|e|e|e|e|e|e:=(g.own k).1 u
 .grind
 .grind
 .grind
 .grind
 .rcases i k e with e|e
  .grind
  .omega
 .rcases t k e with e|e
  .grind
  .omega
 .rcases v k e with e|e
  .grind
  .omega
theorem aD.ge(a:aD w B lp p h bN E I J l d n O U){k:Nat}(b:Own lp p w k):B<=k:=by
 obtain e|e|e|e|e|e|e:=(a.own k).1 b
 .rw[e];exact a.base
 .rw[e];exact a.bE.base.1
 .rw[e];exact a.bE.base.2.1
 .rw[e];exact a.bE.base.2.2.1
 .exact(a.bE.pen.lt k e).1
 .exact(a.segs.lt k e).1
 .exact(a.recs.lt k e).1
theorem aD.free(b:aD w B lp p h bN E I J l d n O U){q:Nat}{c:Array Value}{t:TypeId}{fr:Nat×Nat}(a:w.heap[q]?=some (.cells c t fr))(g:t≠58)(i:t≠162)(k:t≠137)(f:t≠34)(j:t≠82):¬Own lp p w q:=by
 intro o;have hn:=Fp b.bE a g i;obtain e|e|e|e|e|e|e:=(b.own q).1 o
 .rw[e,b.blk]at a;cases a;exact k rfl
 .grind
 .grind
 .grind
 .grind
 .exact bG b.segs a (λe=>f e.symm) e
 .exact bG b.recs a (λe=>j e.symm) e
end
theorem XY:Tryz.prog.globalNamed "internal/strconv.uint64pow10"=some 1:=k6
theorem dw.cF(h:dw w)(b:w'.heap[1]?=w.heap[1]?):dw w':=by
 unfold dw Lib.TabIs World.var? at *;rw[XY]at *;simp only[Option.bind_some]at *;rw[b];exact h
def aq.put(l:aq)(d:ah)(C:List Nat):aq × ah × Nat :=
 if (l.room d).2.2=0 then ((l.room d).1,((l.room d).2.1.tell ⟨2,ar ((l.room d).1.segs.getLastD 0),yA,str C⟩).1,((l.room d).2.1.tell ⟨2,ar ((l.room d).1.segs.getLastD 0),yA,str C⟩).2)
 else l.room d
def kK(B lp p h bN n:Nat)(X:List Nat)(r:aq × ah × Nat)(w:World)(e:Ending)(w':World):Prop :=
 e=.returned (cj r.2.2)/\(∃E I J O U,aD w' B lp p h bN E I J r.1 r.2.1 n O U)/\Tx X lp p w w'
theorem CD{l:aq}(h:l.filled<600->l.segs≠[])(r:(l.room d).2.2=0):(l.room d).1.segs≠[]:=by
 unfold aq.room at *;split
 .grind
 .rename_i hf;rw[if_neg hf]at r;split at r
  .simp_all
  .grind
theorem I1(h:l≠[]):l[l.length-1]?=some (l.getLastD 0):=by
 rw[List.getLastD_eq_getLast?,<-List.getLast?_eq_getElem?];cases a:l.getLast? with
 |none=>simp_all
 |some x=>rfl
theorem Up(B lp p h bN n O U y z g o base Q:Nat)(E I J:Value)(l:aq)(d:ah)(C:List Nat)(w:World)(a1:aD w B lp p h bN E I J l d n O U)(hn:n+1<1000000000)(hB:2<=B)(L:l.filled<600->l.segs≠[])
  (r:w.heap[Q]?=some (.cells #[.func (.func 113) #[rM lp] #[],.func (.func 114) #[] #[rM y,rM z]] 122))
  (M:w.heap[y]?=some (.cells #[rM lp] 59)) (X:w.heap[z]?=some (.cells #[.slice (some<|dH g) C.length o] 179))
  (R:w.ownsRow base 5 1 (.slice (some<|dH g) C.length o) C.length<|bs C) (nU:C.length<=4096) (dF:dw w) :
  Calls prog 95 #[.slice (some<|dH Q) 2 2] w (kK B lp p h bN (n+2) [g] (l.put d C) w):=by
 have P:=aa r 0;have Y:=aa r 1;simp at P Y;have u:=ae a1;go_enter func95,ntmps95;go_wp2;apply wp_loop_rounds 3;rw[rounds_succ];go_wp2_with fail;apply(P9 B lp p h bN n O U E I J l d w u.out oE).mono;rintro e f ⟨rfl,⟨kr,sB,qz,lT,lN,fE⟩,fe⟩;have j:∀{q:Nat} {c:Array Value} {t:TypeId},w.heap[q]?=some (.cells c t (0,0))->t≠58->t≠162->t≠137->t≠34->t≠82->f.heap[q]?=some (.cells c t (0,0)):=λ{q c t} v D b h3 h4 h5=>
  (fe.block q (zza.1 v).1<|u.out.free v D b h3 h4 h5).trans v
 have Z:=j r dN dN dN dN dN;have S:=j M dN dN dN dN dN;have N:=j X dN dN dN dN dN;have T:f.ownsRow base 5 1 (.slice (some (dH g)) C.length o) C.length (bs C):=by
  have⟨D,b⟩:=R;refine⟨D,?_⟩;obtain b|⟨G,W,K,e,b1,b2,b3⟩:=b
  .exact .inl b
  .exact .inr ⟨G,W,K,e,b1,j b2 dN dN dN dN dN,b3⟩
 have M4:1<w.heap.size:=by have:=u.out.bE.base.2.2.2;omega
 have Qd:dw f:=dF.cF (fe.block 1 M4 λho=>by have:=u.out.ge ho;omega);have z2:=aa Z 1;simp at z2;have i:=ae fE;have HO:=ae fe;have Ty:=ae S;have a8:=ae N;have XT:=ae T;have a6:=ae L;clear a1 fE fe Z S N T r M X R L j P Y;by_cases m:(l.room d).2.2=0
 .have wR:=CD a6.out m;have⟨last,F⟩:=xY <|(l.room d).1.segs.getLastD 0;have s:=I1 wR;rw[<-F]at s;have e:l.put d C=((l.room d).1,((l.room d).2.1.tell ⟨2,ar last,yA,str C⟩).1,((l.room d).2.1.tell ⟨2,ar last,yA,str C⟩).2):=by unfold aq.put;rw[if_pos m,<-F]
  have A:=ae e;have bP:last<18446744073709551616:=i.out.dL.2 last<|zzh s;have a7:=ae s;clear e s F
  have⟨x,cs,H_⟩:∃x cs,sB=.slice (some ⟨x,0,none⟩) (l.room d).1.segs.length cs:=by
   rcases i.out.segs.2 with⟨_,b⟩|⟨G,W,K,e,_⟩
   .exact absurd (List.length_eq_zero_iff.1 b) wR
   .exact⟨G,W,e⟩
  subst H_;clear wR;rw[m,bQ];go_wp2;rw[rounds_succ];go_wp2_with fail;apply(Qb B lp p h bN (n+1) lT lN y z g C.length o base x cs last kr qz (l.room d).1 (l.room d).2.1 C f i.out hn a7.out Ty.out a8.out rfl XT.out nU Qd bP).mono;rintro e w2 ⟨rfl,⟨ya,BP,eN,Fs⟩,cA⟩;have V:Tx [g] lp p f w2:=i.out.XX eN cA (by intro k a _;obtain e|a:=zzj.1 a;exact .inl (by simp[e]);right;obtain e|a:=zzj.1 a;simp[e];obtain e|a:=zzj.1 a;simp[e];obtain e|a:=zzj.1 a;simp[e];simp at a;simp[a]) Fs (bn.refl _ _)<|bn.refl _ _
  have H:Hid (kK B lp p h bN (n+2) [g] (l.put d C) w (.returned<|cj ((l.room d).2.1.tell ⟨2,ar last,yA,str C⟩).2) w2):=by
   show kK _ _ _ _ _ _ _ _ _ _ _;rw[A.out];exact⟨rfl,⟨ya,_,qz,lT,BP,eN⟩,HO.out.x.trans V⟩
  clear eN Fs cA V;by_cases lI:((l.room d).2.1.tell ⟨2,ar last,yA,str C⟩).2=0
  .rw[lI,bQ]at H ⊢;go_wp2;rw[rounds_succ];go_wp2;go_ret;exact H.out
  .rw[aG lI]at H ⊢;go_wp2;go_ret;exact H.out
 .have e:l.put d C=l.room d:=by unfold aq.put;rw[if_neg m]
  have A:=ae e;clear e;have H:Hid (kK B lp p h bN (n+2) [g] (l.put d C) w (.returned<|cj (l.room d).2.2) f):=by
   show kK _ _ _ _ _ _ _ _ _ _ _;rw[A.out];exact⟨rfl,⟨kr,sB,qz,lT,lN,i.out.more hn⟩,HO.out.x⟩
  rw[aG m]at H ⊢;go_wp2;go_ret;exact H.out
end Go.Proofs.YtdcafjmdfpjcbaaGreatDoor
