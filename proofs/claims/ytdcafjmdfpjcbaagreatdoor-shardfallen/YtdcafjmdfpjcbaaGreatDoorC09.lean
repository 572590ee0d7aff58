import Derived.Test.YtdcafjmdfpjcbaaGreatDoorC08
set_option maxHeartbeats 4000000
set_option maxRecDepth 100000
namespace Go.Proofs.YtdcafjmdfpjcbaaGreatDoor
open Go.RowKit Go.Maps Tryz Sc
variable{X l l':List Nat}{B D N bN g h j k n p:Nat}{v:Value}{a b c w w' wr:World}{d:ah}
def lq(p:Nat)(w:World)(k:Nat):Prop:=k=p\/k∈refs w.heap[p]?
structure pM(p:Nat)(w w':World):Prop where
 os:w'.os=w.os
 tape:w'.tape=w.tape
 output:w'.output=w.output
 size:w.heap.size<=w'.heap.size
 block:∀k,k<w.heap.size->¬lq p w k->w'.heap[k]?=w.heap[k]?
 stay:∀k,k<w.heap.size->lq p w' k->lq p w k
theorem pM.refl(p:Nat)(w:World):pM p w w:=⟨rfl,rfl,rfl,zzc _,λ_ _ _=>rfl,λ_ _ h=>h⟩
theorem pM.trans(h:pM p a b)(k:pM p b c):pM p a c:=
 ⟨k.os.trans h.os,k.tape.trans h.tape,k.output.trans h.output,zzk h.size k.size,
  λi d hn=>(k.block i (zzl d h.size) λo=>hn<|h.stay i d o).trans<|h.block i d hn,
  λi d o=>h.stay i d (k.stay i (zzl d h.size) o)⟩
section
variable{w w':World}{B p h bN n I J n' U f:Nat}{E O:Value}{d d':ah}
theorem aB.eO(a:aB w B p h bN E d n I J)(k:Nat):lq p w k↔k∈dS p h bN E:=by
 unfold lq;rw[a.blk,Lp<|wP a.pen];simp
theorem aB.UA{S:List Nat}(c:aB w B p h bN E d n I J)(g:aB w' B p h bN O d' n' U f)(a:Fr S w w')(j:∀k∈S,k<w.heap.size->k∈dS p h bN E)(i:bn w.heap.size E O):pM p w w':=by
 refine⟨a.os,a.tape,a.output,a.size,λk b hn=>a.block k b λm=>hn<|(c.eO k).2<|j k m b,λk b o=>?_⟩;rw[c.eO];have:=(g.eO k).1 o;obtain e|this:=zzj.1 this
 .simp[e]
 obtain e|this:=zzj.1 this
 .simp[e]
 obtain e|this:=zzj.1 this
 .simp[e]
 .simp at this;obtain e|e:=i k this
  .simp[e]
  .omega
theorem aB.iU(b:aB w B p h bN E d n I J){q:Nat}{c:Array Value}{t:TypeId}{fr:Nat×Nat}(a:w.heap[q]?=some (.cells c t fr))(f:t≠58)(g:t≠162):¬lq p w q:=by
 rw[b.eO];intro m;obtain e|m:=zzj.1 m
 .rw[e,b.blk]at a;cases a;exact f rfl
 obtain e|m:=zzj.1 m
 .exact b.j8.cL a e.symm
 obtain e|m:=zzj.1 m
 .exact b.now.cL a e.symm
 .simp at m;exact bG b.pen a (λe=>g e.symm) m
theorem pM.row{e:TypeId}{k m base:Nat}{v:Value}{xs:List Value}(f:pM p w w')(c:aB w B p h bN E d n I J)(r:w.ownsRow base e k v m xs)(a:e≠58)(b:e≠162):w'.ownsRow base e k v m xs:=by
 refine⟨r.1,?_⟩;obtain i|⟨g,cap,cur,rfl,b1,b2,b3⟩:=r.2
 .grind
 .exact .inr ⟨g,cap,cur,rfl,b1,(f.block g (zza.1 b2).1<|c.iU b2 a b).trans b2,b3⟩
end
def fu(l:List ByteArray):List Value:=l.map Value.string
theorem I_{l:List ByteArray}(h:w.ownsRow B 9 1 (.slice (some<|dH g) n p) n<|fu l)(k:Nat)(x:ByteArray)(b:l[k]?=some x):w.cell? (d8 g k)=some (.string x):=by
 have a:(fu l)[k]?=some (.string x):=by simp[fu,b]
 have:=h.cells rfl k _ a;simpa [Addr.add_lit]using this
def ah.removeAll(d:ah):List ByteArray->ah × Nat
 |[]=>d.sync
 |nm :: r=>if (d.tell ⟨3,nm,yA,yA⟩).2=0 then (d.tell ⟨3,nm,yA,yA⟩).1.removeAll r else d.tell ⟨3,nm,yA,yA⟩
def lU(B p h bN n:Nat)(r:ah × Nat)(w:World)(e:Ending)(w':World):Prop :=
 e=.returned (cj r.2)/\(∃E I J,aB w' B p h bN E r.1 n I J)/\pM p w w'
theorem aB.fK{I J:Nat}{E:Value}(a:aB w B p h bN E d n I J){m:Nat}(b:n<=m)(U:m<=1000000000):aB w B p h bN E d m I J:=
 {a with hD:=by have:=a.hD;omega,hN:=by have:=a.hN;omega,hn:=U}
theorem qC(B p h bN n I J g m s base:Nat)(E:Value)(d:ah)(l:List ByteArray)(w:World)(z:aB w B p h bN E d n I J)(o:l.length=m)(hn:n+m<=1000000000)(u:w.ownsRow base 9 1 (.slice (some<|dH g) m s) m<|fu l)(N:∀x∈l,x.size<=maxLen):
  Calls prog 98 #[fo p,.slice (some<|dH g) m s] w (lU B p h bN (n+m) (d.removeAll l) w):=by
 have H:=ae z;have M:=ae o;have U:=Um;have O:=Lu;have R:=ae u;clear z o u;go_enter func98,ntmps98;go_wp2;go_loopw [10] (λi wr=>∃k:Nat,k<=m/\i=.int .i64 k/\(∃f dr Z r,aB wr B p h bN f dr (n+k) Z r/\d.removeAll l=dr.removeAll (l.drop k))/\pM p w wr) (λi _=>m-(intOf i).toNat);case atStart=>exact⟨0,zzs _,rfl,⟨E,d,I,J,H.out,sE⟩,pM.refl _ _⟩
 case round=>
  obtain⟨k,W,rfl,⟨f,dr,Z,r,v,a⟩,ie⟩:=hrel;have D:=ae v;have F:=ae ie;have C:=ie.row H.out R.out dN dN;clear v ie;by_cases P:k<m
  .obtain⟨x,hx⟩:∃x,l[k]?=some x:=⟨_,zzg<|by rw[M.out];exact P⟩;have V:=I_ C k x hx;have Q:=N x<|zzh hx
   have K:l.drop k=x::l.drop (k+1):=by
    rw[List.drop_eq_getElem_cons<|by rw[M.out];exact P];have:=zzd.1 hx;have⟨X,L⟩:=this;rw[L]
   rw[K]at a;have y:=ae a;have S:(0:Int)<=k:=oE;have T:(k:Int)<m:=oE;clear a K hx C;go_wp2_with fail;apply(IG B p h bN (n+k) Z r f dr x wr D.out oE Q).mono;rintro e j ⟨rfl,⟨kr,lN,mF,sA⟩,bF⟩;have A:=ae mF;have t:Hid (pM p w j):=F.out.trans<|D.out.UA mF bF (λq b _=>b) sA;clear mF sA bF;by_cases c:(dr.tell ⟨3,x,yA,yA⟩).2=0
   .rw[c,bQ];go_wp2;go_roundw;case rel=>
     refine⟨k+1,oE,nF,⟨kr,_,Z,lN,A.out,?_⟩,t.out⟩;rw[y.out];show(if _ then _ else _)=_;rw[if_pos c]
    case measure=>simp[intOf];omega
   .rw[aG c];go_wp2;go_ret;have e:d.removeAll l=dr.tell ⟨3,x,yA,yA⟩:=by
     rw[y.out];show(if _ then _ else _)=_;rw[if_neg c]
    rw[e];exact⟨by rw[aG c];rfl,⟨kr,Z,lN,A.out.fK oE hn⟩,t.out⟩
  .obtain rfl:k=m:=oE;have e:d.removeAll l=dr.sync:=by
    rw[a,List.drop_of_length_le<|by rw[M.out];exact zzc _];rfl
   have y:=ae e;clear a e C;go_wp2_with fail;apply(qu B p h bN (n+k) Z r f dr wr D.out).mono;rintro e j ⟨rfl,⟨kr,lT,mF,sA⟩,bF⟩;have G:Hid (lU B p h bN (n+k) (d.removeAll l) w (.returned<|cj dr.sync.2) j):=by
    show lU _ _ _ _ _ _ _ _ _;rw[y.out];exact⟨rfl,⟨kr,lT,r,mF⟩,F.out.trans<|D.out.UA mF bF (λq b _=>by simp at b;obtain e|e:=b<;>simp[e]) sA⟩
   clear mF sA bF;go_wp2;go_ret;exact G.out
theorem LG:(Tryz.prog.info? 9).map (λi=>(i.zero,i.size,i.bytes))=some (some<|.string yA,1,16):=k6
theorem FL(l:List ByteArray)(x:ByteArray):fu (l++[x])=fu l++[.string x]:=by simp[fu]
theorem yb{ops:Array Oper}{rest:List Oper}{o:Oper}{a:Act}{Q:Exit->Act->World->Prop}(Y:o.guard=none)(s x:Operand)
  (q:o.op=.call {callee:=.builtin .append,args:=#[s,x],argTypes:=#[138,138]})
  (base:Nat) (v:Value) (n:Nat) (l:List ByteArray) (r:ByteArray) (b:Nat) (j:a.eval s=v) (N:w.ownsRow base 9 1 v n<|fu l) (f:a.eval x=.slice (some<|dH b) 1 1)
  (m:w.cell? (dH b)=some (.string r)) (hn:n<=1073741824) (p:base<=w.heap.size)
  (h:∀c w',w'.ownsRow base 9 1 c (n+1) (fu<|l++[r])->w.grownBy w' v.ownBlock->wpList prog ops Q rest (a.put o.dst c) w'):wpList prog ops Q (o::rest) a w:=by
 have⟨i,d,e,g,k⟩:=info_parts LG;refine wpList_append_own _ Y s x 138 q base 9 i _ 1 16 underlying138 d e g k rfl dN v n (fu l) j N (dH b) 1 1 [.string r] f rfl ?_ ?_ mE oE p ?_
 .intro jj u h_;match jj,h_ with
  |0,h_=>simp at h_;subst h_;simpa [Addr.add]using m
 .intro u hu;simp at hu;subst hu;rfl
 .intro c w' wu PC _;refine h c w' ?_ PC;rw[FL];exact wu
theorem ve(s f m cs:Nat)(l:List Nat)(w:World)(h:l.length=m)(G:m<=1000000000)(c:∀(k x:Nat),l[k]?=some x->w.cell? (d8 s<|f+k)=some (.int .u64 (x:Int))/\x<2^64)(g:s<w.heap.size)(F:dw w)(y:1<w.heap.size):
  Calls prog 121 #[.slice (some<|d8 s f) m cs] w λe w'=>∃v,e=.returned v/\w'.ownsRow w.heap.size 9 1 v m (fu<|l.map ar)/\Below w.heap.size w w':=by
 have L:=ae h;have C:=ae c;have D:=ae F;clear h c F;go_enter func121,ntmps121;go_wp2;go_loopw [3,8] (λv i wr=>∃k:Nat,k<=m/\i=.int .i64 k/\wr.ownsRow w.heap.size 9 1 v k (fu<|(l.take k).map ar)/\Below w.heap.size w wr) (λ_ i _=>m-(intOf i).toNat);case atStart=>exact⟨0,zzs _,rfl,zzu _ _ _ _,zzD _ _⟩
 case round=>
  obtain⟨k,Q,rfl,N,b⟩:=hrel;by_cases P:k<m
  .obtain⟨x,hx⟩:∃x,l[k]?=some x:=⟨_,zzg<|by rw[L.out];exact P⟩;have⟨c1,c2⟩:=C.out k x hx;have c3:=(b.cell g).trans c1;have H:=ae hx;have O:=ae N;have B:=ae b;have A:dw wr:=D.out.cF<|b.block 1 y;have J:(0:Int)<=k:=oE
   have K:(k:Int)<m:=oE;have r:=b.size;clear hx c1 N b;go_wp2_with fail;apply(fP x wr c2 A).mono;rintro e a ⟨rfl,gw⟩;have M:=gw.size;have d:a.ownsRow w.heap.size 9 1 u3 k (fu<|(l.take k).map ar):=av O.out (Fr.bw gw []) sE;have n:=ae<|B.out.trans<|gw.mono r;have o:=ae d;clear gw d
   go_wp2_with (at_builtin;apply yb rfl _ _ rfl w.heap.size u3 k ((l.take k).map ar) (ar x) a.heap.size rfl (o.out.alloc _) rfl sE oE sC;intro I t u X);have E:Below w.heap.size w t:=(n.out.alloc oE _).grown X sC λq j=>(o.out.lt q j).1;clear X
   go_roundw;case rel=>
    refine⟨k+1,oE,nF,?_,E⟩;rw[List.take_add_one,H.out]
    simpa using u
   case measure=>simp[intOf];omega
  .obtain rfl:k=m:=oE;have z:l.take k=l:=zzt (by rw[L.out];exact zzc _);rw[z]at N;go_wp2;go_ret;exact⟨u3,rfl,N,b⟩
theorem FM(w:World):Calls prog 121 #[.slice none 0 0] w λe w'=>e=.returned (.slice none 0 0)/\w'=w:=by
 go_enter func121,ntmps121;go_wp2;apply wp_loop_rounds 1;rw[rounds_succ];go_wp2;go_ret;exact⟨rfl,rfl⟩
theorem removeAll_nil(B p D bN n a N:Nat)(v:Value)(d:ah)(w:World)(h:aB w B p D bN v d n a N):
  Calls prog 98 #[fo p,.slice none 0 0] w (lU B p D bN n (d.removeAll []) w):=by
 have I:=ae h;have m:=Lu;clear h;go_enter func98,ntmps98;go_wp2;apply wp_loop_rounds 1;rw[rounds_succ];go_wp2_with fail;apply(qu B p D bN n a N v d w I.out).mono;rintro e c ⟨rfl,⟨kr,lT,mF,sA⟩,bF⟩;have H:Hid (lU B p D bN n (d.removeAll []) w (.returned<|cj d.sync.2) c):=⟨rfl,⟨kr,lT,N,mF⟩,I.out.UA mF bF (λq b _=>by simp at b;obtain e|e:=b<;>simp[e]) sA⟩;clear mF sA bF;go_wp2;go_ret;exact H.out
structure UB(X:List Nat)(p:Nat)(w w':World):Prop where
 os:w'.os=w.os
 tape:w'.tape=w.tape
 output:w'.output=w.output
 size:w.heap.size<=w'.heap.size
 block:∀k,k<w.heap.size->¬lq p w k->k∉X->w'.heap[k]?=w.heap[k]?
 stay:∀k,k<w.heap.size->lq p w' k->lq p w k
theorem pM.x(h:pM p w w'):UB X p w w':=⟨h.os,h.tape,h.output,h.size,λk a hn _=>h.block k a hn,h.stay⟩
theorem UB.trans(h:UB X p a b)(k:UB X p b c):UB X p a c:=
 ⟨k.os.trans h.os,k.tape.trans h.tape,k.output.trans h.output,zzk h.size k.size,
  λi d hn x=>(k.block i (zzl d h.size) (λo=>hn<|h.stay i d o) x).trans<|h.block i d hn x,
  λi d o=>h.stay i d (k.stay i (zzl d h.size) o)⟩
theorem aB.dfx{n' t E:Nat}{j:Value}{d':ah}(a:aB w B p h bN v d n D N)(c:aB w' B p h bN j d' n' t E)(f:Fr (g::dS p h bN v) w w')(i:bn w.heap.size v j):UB [g] p w w':=by
 refine⟨f.os,f.tape,f.output,f.size,λk b hn x=>f.block k b λm=>?_,λk b o=>?_⟩
 .rcases zzj.1 m with e|m
  .grind
  .exact hn<|(a.eO k).2 m
 rw[a.eO];have:=(c.eO k).1 o;obtain e|this:=zzj.1 this
 .simp[e]
 obtain e|this:=zzj.1 this
 .simp[e]
 obtain e|this:=zzj.1 this
 .simp[e]
 .simp at this;obtain e|e:=i k this
  .simp[e]
  .omega
theorem UB.UA(h:UB X p w w')(x:∀k∈X,w.heap.size<=k):pM p w w':=
 ⟨h.os,h.tape,h.output,h.size,λk a hn=>h.block k a hn λm=>by have:=x k m;omega,h.stay⟩
theorem aB.acy(a:aB w B p h bN v d n D N)(f:Fr [] w w'):pM p w w':=
 a.UA (a.new f) f sE (bn.refl _ _)
def cf:ByteArray:=⟨#[109,97,114,107,46,110,101,119]⟩
def dP:ByteArray:=⟨#[109,97,114,107]⟩
theorem y_:(cf.toList==dP.toList)=false/\cf≠dP:=by
 refine⟨by rw[ByteArray.toList_eq,ByteArray.toList_eq];decide,λe=>?_⟩;have:=congrArg (λx:ByteArray=>x.data.size) e;exact absurd this dN
def FN(B p b bN n:Nat)(X:List Nat)(r:ah × Nat)(w:World)(e:Ending)(w':World):Prop :=
 e=.returned (cj r.2)/\(∃v D N,aB w' B p b bN v r.1 n D N)/\UB X p w w'
theorem Nh(B p D bN n a N bd b g c base:Nat)(v:Value)(d:ah)(l:List Nat)(w:World)(h:aB w B p D bN v d n a N)(hn:n<1000000000)(L:w.heap[bd]?=some (.cells #[fo p] 111))(o:w.heap[b]?=some (.cells #[.slice (some<|dH g) l.length c] 179))
  (r:w.ownsRow base 5 1 (.slice (some<|dH g) l.length c) l.length<|bs l) (f:l.length<=4096) :
  Calls prog 170 #[rM bd,rM b] w (FN B p D bN (n+1) [g] (d.tell ⟨1,cf,yA,str l⟩) w):=by
 have x:=aa L 0;have y:=aa o 0;simp at x y;have I:=ae h;have R:=ae r;have m:=XW;clear h r L o;go_enter func170,ntmps170;go_wp2_with fail;apply(MZ B p D bN n a N g c base v d cf l w I.out hn dN R.out f).mono;rintro e i ⟨rfl,⟨kr,lN,mF,sA⟩,bF⟩;have H:Hid (FN B p D bN (n+1) [g] (d.tell ⟨1,cf,yA,str l⟩) w (.returned<|cj (d.tell ⟨1,cf,yA,str l⟩).2) i):=⟨rfl,⟨kr,a,lN,mF⟩,I.out.dfx mF bF sA⟩;clear mF sA bF;go_wp2;go_ret;exact H.out
theorem Ni(B p D bN n a N bd:Nat)(v:Value)(d:ah)(w:World)(h:aB w B p D bN v d n a N)(hn:n<1000000000)(L:w.heap[bd]?=some (.cells #[fo p] 111)):
  Calls prog 171 #[rM bd] w (lU B p D bN (n+1) (d.tell ⟨4,cf,dP,yA⟩) w):=by
 have x:=aa L 0;simp at x;have I:=ae h;have m:=Un;clear h L;go_enter func171,ntmps171;go_wp2_with fail;apply(II B p D bN n a N v d cf dP w I.out hn dN dN y_).mono;rintro e c ⟨rfl,⟨kr,lN,mF,sA⟩,bF⟩;have H:Hid (lU B p D bN (n+1) (d.tell ⟨4,cf,dP,yA⟩) w (.returned<|cj (d.tell ⟨4,cf,dP,yA⟩).2) c):=⟨rfl,⟨kr,a,lN,mF⟩,I.out.UA mF bF (λq b _=>b) sA⟩;clear mF sA bF;go_wp2;go_ret;exact H.out
def ah.bh(d:ah)(first:Nat):ah × Nat :=
 let t1:=d.tell ⟨1,cf,yA,str (ax first 0 [])⟩
 if t1.2=0 then
  let t2:=t1.1.sync
  if t2.2=0 then
   let t3:=t2.1.tell ⟨4,cf,dP,yA⟩
   if t3.2=0 then t3.1.sync else t3
  else t2
 else t1
theorem UC(B p D bN n z N bd l g k base Q first:Nat)(C:Value)(d:ah)(w:World)(a1:aB w B p D bN C d n z N)(hn:n+2<=1000000000)
  (m:w.heap[Q]?=some (.cells #[.func (.func 170) #[] #[rM bd,rM l],.func (.method "Sync") #[fo p] #[],.func (.func 171) #[] #[rM bd],.func (.method "Sync") #[fo p] #[]] 122))
  (L:w.heap[bd]?=some (.cells #[fo p] 111)) (O:w.heap[l]?=some (.cells #[.slice (some<|dH g) (ax first 0 []).length k] 179))
  (r:w.ownsRow base 5 1 (.slice (some<|dH g) (ax first 0 []).length k) (ax first 0 []).length<|bs<|ax first 0 []) (hl:(ax first 0 []).length<=4096) :
  Calls prog 95 #[.slice (some<|dH Q) 4 4] w (FN B p D bN (n+2) [g] (d.bh first) w):=by
 have A:=aa m 0;simp at A;have I:=ae a1;have a':=Lu;have⟨cg,Z⟩:=aF r rfl;have a8:Q≠g:=λe=>by rw[e,Z]at m;cases m
 have a6:bd≠g:=λe=>by rw[e,Z]at L;cases L
 go_enter func95,ntmps95;go_wp2;apply wp_loop_rounds 5;rw[rounds_succ];go_wp2_with fail;apply(Nh B p D bN n z N bd l g k base C d _ w I.out oE L O r hl).mono;have⟨b,R⟩:∃b,b=d.tell ⟨1,cf,yA,str<|ax first 0 []⟩:=⟨_,rfl⟩;have c:=ae R.symm;rw[<-R];clear R;rintro e K ⟨rfl,⟨kr,lT,lN,mF⟩,fe⟩;have u:=(fe.block Q (zza.1 m).1 (I.out.iU m dN dN)<|by simp;exact a8).trans m;have J:=(fe.block bd (zza.1 L).1 (I.out.iU L dN dN)<|by simp;exact a6).trans L;have y1:=aa u 1;simp at y1;have v:=ae u;have s:=ae J;have H:=ae mF;have W:=ae fe;clear a1 m L O r A u J mF fe Z;by_cases om:b.2=0
 .rw[om,bQ];go_wp2;rw[rounds_succ];go_wp2_with fail;apply(qu B p D bN (n+1) lT lN kr b.1 K H.out).mono;have⟨a,S⟩:=xY b.1.sync;have o:=ae S.symm;rw[<-S];clear S;rintro e w2 ⟨rfl,⟨ya,CF,ow,Fs⟩,cA⟩;have i:pM p K w2:=H.out.UA ow cA (λq h _=>by simp at h;obtain e|e:=h<;>simp[e]) Fs;have y:=(i.block Q (zza.1 v.out).1<|H.out.iU v.out dN dN).trans v.out;have P:=(i.block bd (zza.1 s.out).1<|H.out.iU s.out dN dN).trans s.out;have M:=aa y 2;simp at M;have Y:=ae y;have a7:=ae P;have j:=ae ow;have V:=ae<|W.out.trans i.x;clear y P ow i cA Fs y1;by_cases lI:a.2=0
  .rw[lI,bQ];go_wp2;rw[rounds_succ];go_wp2_with fail;apply(Ni B p D bN (n+1) CF lN bd ya a.1 w2 j.out oE a7.out).mono;have⟨t,U⟩:∃t,t=a.1.tell ⟨4,cf,dP,yA⟩:=⟨_,rfl⟩;have x:=ae U.symm;rw[<-U];clear U;rintro e w3 ⟨rfl,⟨Nj,Ph,Nk,Nl⟩,wO⟩;have X:=(wO.block Q (zza.1 Y.out).1<|j.out.iU Y.out dN dN).trans Y.out;have G:=aa X 3;simp at G;have f:=ae Nl;have T:=ae<|V.out.trans wO.x;clear X Nl wO M;by_cases oX:t.2=0
   .rw[oX,bQ];go_wp2;rw[rounds_succ];go_wp2_with fail;apply(qu B p D bN (n+2) Ph Nk Nj t.1 w3 f.out).mono;have E:Hid (d.bh first=t.1.sync):=by show _=_;unfold ah.bh;simp only;rw[c.out,if_pos om,o.out,if_pos lI,x.out,if_pos oX]
    rintro e w4 ⟨rfl,⟨pv4,nD4,hd4,acE⟩,kN⟩;have F:Hid (FN B p D bN (n+2) [g] (d.bh first) w (.returned<|cj t.1.sync.2) w4):=by
     show FN _ _ _ _ _ _ _ _ _ _;rw[E.out];exact⟨rfl,⟨pv4,nD4,Nk,hd4⟩,T.out.trans (f.out.UA hd4 kN (λq h _=>by simp at h;obtain e|e:=h<;>simp[e]) acE).x⟩
    clear hd4 acE kN G;by_cases Wj:t.1.sync.2=0
    .rw[Wj,bQ]at F ⊢;go_wp2;rw[rounds_succ];go_wp2;go_ret;exact F.out
    .rw[aG Wj]at F ⊢;go_wp2;go_ret;exact F.out
   .have E:Hid (d.bh first=t):=by show _=_;unfold ah.bh;simp only;rw[c.out,if_pos om,o.out,if_pos lI,x.out,if_neg oX]
    rw[aG oX];go_wp2;go_ret;unfold FN;rw[E.out];exact⟨by rw[aG oX];rfl,⟨Nj,Ph,Nk,f.out⟩,T.out⟩
  .have E:Hid (d.bh first=a):=by show _=_;unfold ah.bh;simp only;rw[c.out,if_pos om,o.out,if_neg lI]
   rw[aG lI];go_wp2;go_ret;unfold FN;rw[E.out];exact⟨by rw[aG lI];rfl,⟨ya,CF,lN,j.out.fK oE hn⟩,V.out⟩
 .have e:d.bh first=b:=by unfold ah.bh;simp only;rw[c.out,if_neg om]
  have E:=ae e;clear e;rw[aG om];go_wp2;go_ret;unfold FN;rw[E.out];exact⟨by rw[aG om];rfl,⟨kr,lT,lN,H.out.fK oE hn⟩,W.out⟩
theorem insert_nil(w:World):Calls prog 269 #[.slice none 0 0,.int .i64 0,.int .i64 0] w λe w'=>e=.returned (.tuple #[])/\w'=w:=by
 go_enter func269,ntmps269;go_wp2;apply wp_loop_rounds 1;rw[rounds_succ];go_wp2;go_end0;exact⟨rfl,rfl⟩
theorem UE(k:Int)(w:World):Calls prog 239 #[.slice none 0 0,.int .i64 0,.int .i64 0,.int .i64 k] w λe w'=>e=.returned (.tuple #[])/\w'=w:=by
 go_enter func239,ntmps239;go_wp2;apply wp_loop_rounds 1;rw[rounds_succ];go_wp2_with fail;apply(insert_nil w).mono;rintro e a ⟨rfl,rfl⟩;go_wp2;apply bodyPost_ret (results_none rfl _ _ _) rfl;exact⟨rfl,rfl⟩
theorem CH(w:World):Calls prog 201 #[.slice none 0 0] w λe w'=>e=.returned (.tuple #[])/\w'=w:=by
 go_enter func201,ntmps201;go_wp2_with fail;apply(Tryz.bits_Len 0 w oE oE).mono;rintro e a ⟨rfl,rfl⟩;go_wp2_with fail;apply(UE _ a).mono;rintro e a ⟨rfl,rfl⟩;go_wp2;go_end0;exact⟨rfl,rfl⟩
theorem I'(x:Int)(w:World):Calls prog 150 #[.slice none 0 0,.int .u64 x] w λe w'=>e=.returned (.tuple #[.int .i64 0,.bool false])/\w'=w:=by
 go_enter func150,ntmps150;go_wp2;apply wp_loop_rounds 1;rw[rounds_succ];go_wp2;go_ret2;exact⟨rfl,rfl⟩
theorem sU(B p b bN n D N:Nat)(a:Value)(d:ah)(w:World)(h:aB w B p b bN a d n D N)(M:d.down=false)(i:d.now dP=none):
  Calls prog 148 #[fo p] w λe w'=>e=.returned (.tuple #[.int .u64 1,.nilIface])/\Below w.heap.size w w':=by
 have m:=Lt;have r:=vd B p b bN n D N a d dP w h dN;have e:d.read dP=(none,8):=by unfold ah.read;rw[if_neg<|by rw[M];decide,i]
 clear h;go_enter func148,ntmps148;go_wp2_with fail;apply r.mono;clear r;rintro g c ⟨v,rfl,Qy,hb⟩;rw[e]at Qy ⊢;obtain rfl:v=.slice none 0 0:=Qy;rw[aG dN];go_wp2_with fail;apply(Lk 8 c).mono;rintro f w2 ⟨rfl,rfl⟩;go_wp2;go_ret2;exact⟨rfl,hb⟩
def vg(l:List Nat)(j:Nat):List Nat:=(l.set j (l.getD (j-1) 0)).set (j-1) (l.getD j 0)
theorem getD_at(h:j<l.length):l.getD j 0=l[j]:=by grind
theorem Ja(h:j<l.length):(vg l j).Perm l:=by grind[vg,getD_at]
theorem FO(h:j<l.length)(b:0<j)(a:Nat):(vg l j).getD a 0=if a=j then l.getD (j-1) 0 else if a=j-1 then l.getD j 0 else l.getD a 0:=by grind[vg]
def nE(l:List Nat)(k:Nat):Prop:=∀a b,a<b->b<k->l.getD a 0<=l.getD b 0
def o8(l:List Nat)(k j:Nat):Prop:=∀a b,a<b->b<k->b≠j->l.getD a 0<=l.getD b 0
theorem nE.but(h:nE l k):o8 l (k+1) k:=λa b c e d=>h a b c oE
theorem o8.first(h:o8 l k 0):nE l k:=λa b c d=>h a b c d oE
theorem o8.stop(h:o8 l k j)(g:0<j)(f:l.getD (j-1) 0<=l.getD j 0):nE l k:=by
 intro a b c d;by_cases e:b=j
 .subst e;by_cases i:a=b-1
  .grind
  .exact zzk (h a (b-1) oE oE oE) f
 .exact h a b c d e
theorem o8.swap(h:o8 l k j)(f:0<j)(B:j<l.length)(v:j<k)(P:l.getD j 0<l.getD (j-1) 0):o8 (vg l j) k (j-1):=by
 intro a b i d m;rw[FO B f,FO B f];by_cases e:b=j
 .rw[if_pos e,if_neg (by omega:¬a=j)];by_cases c:a=j-1
  .grind
  .rw[if_neg c];exact h a (j-1) oE oE oE
 .rw[if_neg e,if_neg m];by_cases c:a=j
  .rw[if_pos c];exact h (j-1) b oE d e
  .rw[if_neg c];by_cases g:a=j-1
   .rw[if_pos g];exact h j b oE d e
   .rw[if_neg g];exact h a b i d e
theorem nE.pairwise(h:nE l l.length):l.Pairwise (·<=·):=by
 rw[List.pairwise_iff_getElem];intro i j b a Z;have:=h i j Z a;rwa [getD_at b,getD_at a]at this
theorem acF(x:Int)(w:World):Calls prog 241 #[.int .u64 x] w λe w'=>e=.returned (.bool false)/\w'=w:=by
 go_enter func241,ntmps241;go_wp2;go_ret;exact⟨sE,rfl⟩
theorem eW(x y:Int)(w:World):Calls prog 202 #[.int .u64 x,.int .u64 y] w λe w'=>e=.returned (.bool<|decide<|x<y)/\w'=w:=by
 go_enter func202,ntmps202;go_wp2_with fail;apply(acF x w).mono;rintro e a ⟨rfl,rfl⟩;go_wp2;go_ret;exact⟨rfl,rfl⟩
theorem Np(l:List Nat)(j:Nat):((dh l).set j<|.int .u64 (l.getD (j-1) 0:Nat)).set (j-1) (.int .u64 (l.getD j 0:Nat))=dh (vg l j):=by
 unfold dh vg;rw[List.map_set,List.map_set]
structure lO(w wr:World)(B g n cap:Nat)(l l':List Nat):Prop where
 perm:l'.Perm l
 row:wr.ownsRow B 34 1 (.slice (some (dH g)) n cap) n (dh l')
 fr:Fr [g] w wr
theorem lO.swap(h:lO w wr B g n p l l')(a:j<l'.length):
  lO w ((wr.setCell (d8 g j)<|.int .u64 (l'.getD (j-1) 0:Nat)).setCell (d8 g<|j-1)<|.int .u64 (l'.getD j 0:Nat)) B g n p l (vg l' j) where
 perm:=(Ja a).trans h.perm
 row:=by
  have b:=((h.row.stored j<|.int .u64 (l'.getD (j-1) 0:Nat)).1.stored (j-1)<|.int .u64 (l'.getD j 0:Nat)).1
  rwa [Np]at b
 fr:=(h.fr.setCell (.inl sE) _).setCell (.inl sE) _
theorem lO.drewN(h:lO w wr B g n p l l')(k:Nat):lO w (wr.drewN k) B g n p l l' where
 perm:=h.perm
 row:=av h.row (fR (lE wr) k) λ_ _=>sE
 fr:=fR h.fr k
theorem lO.at(h:lO w wr B g n p l l')(a:k<l'.length):wr.cell? (d8 g k)=some (.int .u64 ((l'.getD k 0:Nat):Int)):=
 ma h.row k _ (by rw[getD_at a];exact zzg a)
theorem lO.free(h:lO w wr B g n p l l')(k:Nat):wr.frozen? (d8 g k)=false:=by
 rcases h.row.2 with⟨a,_⟩|⟨d,W,r,a,c,b,_⟩
 .simp at a
 .grind [au]
theorem UF(B g n p:Nat)(l:List Nat)(w:World)(h:w.ownsRow B 34 1 (.slice (some<|dH g) n p) n<|dh l)(t:l.length=n)(hn:n<=1000000000):
  Calls prog 269 #[.slice (some<|dH g) n p,.int .i64 0,.int .i64 (n:Int)] w λe w'=>e=.returned (.tuple #[])/\∃l',lO w w' B g n p l l'/\nE l' n:=by
 have L:Hid (l.length=n):=t;have D:Hid (lO w w B g n p l l):=⟨List.Perm.refl _,h,Fr.refl _ _⟩;clear h t;go_enter func269,ntmps269;go_wp2;go_loopw [6] (λi wr=>∃k:Nat,i=.int .i64 k/\1<=k/\(k<=n\/k=1)/\∃l',lO w wr B g n p l l'/\nE l' k) (λi _=>n-(intOf i).toNat);case atStart=>exact⟨1,rfl,oE,.inr rfl,l,D.out,λa b A F=>oE⟩
 case round=>
  obtain⟨k,rfl,O,R,d,f,H⟩:=hrel;by_cases P:k<n
  .have j1:(k:Int)<n:=oE;have G:IntKind.i64.wrap ((k:Int)+1)=(k:Int)+1:=iS;have o:Hid (lO w wr B g n p l d):=f;have m:Hid (nE d k):=H;clear f H;go_wp2;go_loopw [7] (λi E=>∃j:Nat,i=.int .i64 j/\j<=k/\∃l',lO w E B g n p l l'/\o8 l' (k+1) j) (λi _=>(intOf i).toNat);case atStart=>exact⟨k,rfl,oE,d,o.out,m.out.but⟩
   case round=>
    obtain⟨j,rfl,W,c,C,V⟩:=hrel;have J:Hid (lO w wr B g n p l c):=C;have z:Hid (o8 c (k+1) j):=V;have q:Hid (c.length=n):=by rw[<-L.out];exact C.perm.length_eq
    clear C V;have M:IntKind.i64.wrap ((k:Int)+1)=(k:Int)+1:=G;cases j with
    |zero=>
     go_wp2;go_quiet (first|(go_at_call 202;refine Calls.quiet_of_same<|eW _ _ _))
     go_wp2;refine⟨⟨k+1,sE,oE,.inl oE,c,J.out.drewN _,z.out.first⟩,iG⟩
    |succ i=>
     have c1:=J.out.at (k:=i+1) (by rw[q.out];omega);have c2:=J.out.at (k:=i) (by rw[q.out];omega);have S:wr.frozen? ⟨g,i+1,none⟩=false:=J.out.free _;have Q:wr.frozen? ⟨g,i,none⟩=false:=J.out.free _;have T:(0:Int)<((i+1:Nat):Int):=oE
     have K:IntKind.i64.wrap (((i+1:Nat):Int)-1)=(i:Int):=iS;have I:((i+1:Nat):Int)<(n:Int):=oE;have N:(i:Int)<n:=oE;obtain⟨x,s⟩:∃x,x=c.getD (i+1) 0:=⟨_,rfl⟩;obtain⟨y,r⟩:∃y,y=c.getD i 0:=⟨_,rfl⟩;rw[<-s]at c1;rw[<-r]at c2;have X:Hid (x=c.getD (i+1) 0):=s;have Y:Hid (y=c.getD i 0):=r;clear s r;by_cases v:(x:Int)<y
     .have hd:decide ((x:Int)<y)=true:=by simp[v]
      go_wp2;go_quiet (first|(go_at_call 202;refine Calls.quiet_of_same<|eW _ _ _))
      go_wp2;go_region;all_goals go_wp2
      have hlen:i+1<c.length:=by rw[q.out];omega
      have u:=(J.out.drewN<|nq+1).swap hlen;rw[show i+1-1=i from rfl,<-X.out,<-Y.out]at u;refine⟨⟨i,rfl,oE,vg c<|i+1,u,?_⟩,by simp[intOf]⟩;exact z.out.swap oE hlen oE<|by rw[show i+1-1=i from rfl,<-X.out,<-Y.out];omega
     .have hd:decide ((x:Int)<y)=false:=by simp[v]
      go_wp2;go_quiet (first|(go_at_call 202;refine Calls.quiet_of_same<|eW _ _ _))
      go_wp2;refine⟨⟨k+1,sE,oE,.inl oE,c,J.out.drewN _,z.out.stop oE ?_⟩,iG⟩;rw[show i+1-1=i from rfl,<-X.out,<-Y.out];omega
  .have j1:¬(k:Int)<n:=oE;have o:Hid (lO w wr B g n p l d):=f;have m:Hid (nE d k):=H;clear f H;go_wp2;go_end0;refine⟨rfl,d,o.out,λa b A F=>m.out a b A oE⟩
theorem QA(B g n p:Nat)(k:Int)(l:List Nat)(w:World)(h:w.ownsRow B 34 1 (.slice (some<|dH g) n p) n<|dh l)(a:l.length=n)(hn:n<=12):
  Calls prog 239 #[.slice (some<|dH g) n p,.int .i64 0,.int .i64 (n:Int),.int .i64 k] w λe w'=>e=.returned (.tuple #[])/\∃l',lO w w' B g n p l l'/\nE l' n:=by
 have i:=UF B g n p l w h a oE;have j:(n:Int)<=12:=oE
 have b:IntKind.i64.wrap ((n:Int)-0)=(n:Int):=iS;have d:IntKind.i64.wrap (n:Int)=n:=iS;clear h a;go_enter func239,ntmps239;go_wp2;apply wp_loop_rounds 1;rw[rounds_succ];go_wp2_with fail;apply i.mono;clear i;rintro e c ⟨rfl,hp⟩;go_wp2;apply bodyPost_ret (results_none rfl _ _ _) rfl;exact⟨rfl,hp⟩
theorem Nq(B g n p:Nat)(l:List Nat)(w:World)(h:w.ownsRow B 34 1 (.slice (some<|dH g) n p) n<|dh l)(a:l.length=n)(hn:n<=12):
  Calls prog 201 #[.slice (some<|dH g) n p] w λe w'=>e=.returned (.tuple #[])/\∃l',lO w w' B g n p l l'/\nE l' n:=by
 have hp:=λk=>QA B g n p k l w h a hn
 clear h a;go_enter func201,ntmps201;go_wp2_with fail;apply(Tryz.bits_Len n w oE oE).mono;rintro e b ⟨rfl,rfl⟩;go_wp2_with fail;apply(hp _).mono;rintro e b ⟨rfl,hq⟩;go_wp2;go_end0;exact⟨rfl,hq⟩
end Go.Proofs.YtdcafjmdfpjcbaaGreatDoor
