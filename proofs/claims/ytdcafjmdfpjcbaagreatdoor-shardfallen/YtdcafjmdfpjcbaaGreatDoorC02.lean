import Derived.Test.YtdcafjmdfpjcbaaGreatDoorC01
import Derived.Lib.BufferMore
import Derived.Deep.RegionLaw
set_option maxHeartbeats 1000000
set_option maxRecDepth 100000
namespace Go.Proofs.YtdcafjmdfpjcbaaGreatDoor
open Go.RowKit Go.Maps Tryz
variable{a:Act}{c:Array Value}{S:List Nat}{xs:List Value}{B D N bN h k n p q:Nat}{e t:TypeId}{j v:Value}{b w w' w2:World}{d:ah}{o:iD}
def cj(n:Nat):Value:=if n=0 then .nilIface else .iface 27 (.int .i64 (n:Int))
theorem bQ:cj 0=.nilIface:=rfl
theorem aG(h:n≠0):cj n=.iface 27 (.int .i64 (n:Int)):=by grind[cj]
abbrev kF(D bN:Nat)(v:Value)(l f:Int)(dn:Bool):Obj:=.cells #[.map (some D),.map (some bN),v,.int .i64 l,.int .i64 f,.bool dn] 58
theorem aa(h:w.heap[p]?=some (.cells c t (0,0)))(i:Nat):w.cell? (d8 p i)=c[i]?:=by simp[World.cell?,h]
theorem au(h:w.heap[p]?=some (.cells c t (0,0)))(i:Nat):w.frozen? (d8 p i)=false:=by simp[World.frozen?,h]
theorem aH(h:w.heap[p]?=some (.cells c t (0,0)))(i:Nat)(v:Value):(w.setCell (d8 p i) v).heap[p]?=some (.cells (c.setIfInBounds i v) t (0,0)):=by
 simp[World.setCell,Array.getElem?_modify,h]
theorem Fr.cH(hp:p∈S)(i:Nat)(v:Value):Fr S w (w.setCell (d8 p i) v):=(Fr.refl S w).setCell (Or.inl hp) v
theorem TR(h:d.down=true\/d.left=0):d.writes=({d with down:=true},10):=by grind[ah.writes]
theorem TS(h:¬(d.down=true\/d.left=0))(f:d.full=0):d.writes=({d with left:=wrap64<|d.left-1,full:=-1},9):=by grind[ah.writes]
theorem Wh(h:¬(d.down=true\/d.left=0))(f:¬d.full=0):d.writes=({d with left:=wrap64<|d.left-1,full:=wrap64 (d.full-1)},0):=by grind[ah.writes]
theorem Iu(p D bN:Nat)(v:Value)(d:ah)(w:World)(h:w.heap[p]?=some (kF D bN v d.left d.full d.down)):
  Calls prog 363 #[rM p] w λe w'=>e=.returned (cj d.writes.2)/\w'.heap[p]?=some (kF D bN v d.writes.1.left d.writes.1.full d.writes.1.down)/\Fr [p] w w':=by
 have H:=ae h;have c3:=aa h 3;have c4:=aa h 4;have c5:=aa h 5;have g:=au h 3;have c:=au h 4;have j:=au h 5;simp at c3 c4 c5;clear h;have⟨u,o,i,l,f,dn⟩:=d;simp only at c3 c4 c5 H;by_cases a:dn=true\/l=0
 .rw[TR a];go_enter func363,ntmps363;obtain rfl|rfl:=a
  .go_wp2;go_ret;exact⟨rfl,by simpa using aH H.out 5<|.bool true,Fr.cH sE _ _⟩
  .cases dn
   .go_wp2;go_ret;exact⟨rfl,by simpa using aH H.out 5<|.bool true,Fr.cH sE _ _⟩
   .go_wp2;go_ret;exact⟨rfl,by simpa using aH H.out 5<|.bool true,Fr.cH sE _ _⟩
 .have hl:¬l=0:=λe=>a<|Or.inr e
  have M:dn=false:=by cases dn with|false=>rfl|true=>exact absurd (Or.inl rfl) a
  by_cases b:f=0
  .rw[TS a b];subst b M;go_enter func363,ntmps363;go_wp2;go_ret;exact⟨rfl,by simpa using aH (aH H.out 3<|.int .i64<|wrap64<|l-1) 4<|.int .i64<|-1,(Fr.cH sE _ _).trans<|Fr.cH sE _ _⟩
  .rw[Wh a b];subst M;go_enter func363,ntmps363;go_wp2;go_ret;exact⟨rfl,by simpa using aH (aH H.out 3<|.int .i64<|wrap64<|l-1) 4<|.int .i64<|wrap64<|f-1,(Fr.cH sE _ _).trans<|Fr.cH sE _ _⟩
def gQ(o:iD):List Value:=[.int .i64 (o.kind:Int),.string o.name,.string o.to,.string o.data]
def opsV(l:List iD):List Value:=l.flatMap gQ
theorem ML(l:List iD)(o:iD):opsV (l++[o])=opsV l++gQ o:=by simp[opsV]
theorem XD:(Tryz.prog.info? 162).map (λi=>(i.zero,i.size,i.bytes))=some (some<|.agg #[.int .i64 0,.string yA,.string yA,.string yA],4,56):=k6
theorem fT{P:Program}{o:Oper}{K:Act->World->Prop}{Q:Exit->Act->World->Prop}(s x:Operand)(t:TypeId)
  (J:o.op=.call {callee:=.builtin .append,args:=#[s,x],argTypes:=#[t,t]})
  (base:Nat) (e:TypeId) (i:TypeInfo) (z:Value) (size bytes:Nat) (L:P.underlying t=some (.slice e)) (p:P.info? e=some i) (y:i.zero=some z)
  (A:i.size=size) (M:i.bytes=bytes) (H:z.cells.size=size) (g:0<size)
  (v:Value) (n:Nat) (xs:List Value) (q:a.eval s=v) (N:w.ownsRow base e size v n xs)
  (d:Addr) (m c:Nat) (news:List Value) (G:a.eval x=.slice (some d) m c) (l:news.length=m*size) (B:∀j u,news[j]?=some u->w.cell? (d.add j)=some u) (F:∀u∈news,u.oneCell'=true)
  (f:n+m<=maxLen) (I:(n+m)*bytes<=140737488355328) (C:base<=w.heap.size)
  (h:∀b w',w'.ownsRow base e size b (n+m) (xs++news)->w.grownBy w' v.ownBlock->(b.ownBlock=v.ownBlock\/b.ownBlock=some w.heap.size)->K (a.put o.dst b) w'):o.wp P a w K Q:=by
 have⟨b,w',r,k,E,_,D⟩:=run_append_own_at (P:=P) w base t o.type e i z size bytes L p y A M H g v n xs N d m c news l B F f I C;unfold Oper.wp execOp;simp only[J,resolve,invoke,builtin,Sem.run_bind,Sem.run_pure,Result.andThen_ok,List.map_toArray,List.map_cons,List.map_nil,q,G,r];exact h b w' k E D
def bn(s:Nat)(v a:Value):Prop:=∀k,a.ownBlock=some k->v.ownBlock=some k\/s<=k
theorem bn.refl(s:Nat)(v:Value):bn s v v:=λ_ h=>.inl h
theorem bn.nil(s:Nat)(v:Value):bn s v (.slice none 0 0):=λk h=>by cases h
theorem bn.lL{s:Nat}{a:Value}(h:a.ownBlock=v.ownBlock\/a.ownBlock=some q)(b:s<=q):bn s v a:=λk c=>by
 obtain h|h:=h
 .grind
 .grind
theorem jr{o:Oper}{K:Act->World->Prop}{Q:Exit->Act->World->Prop}(s x:Operand)
  (t:o.op=.call {callee:=.builtin .append,args:=#[s,x],argTypes:=#[56,56]})
  (base:Nat) (v:Value) (n:Nat) (l:List iD) (r:iD) (b:Nat) (m:a.eval s=v) (N:w.ownsRow base 162 4 v n<|opsV l) (f:a.eval x=.slice (some<|dH b) 1 1)
  (d:w.heap[b]?=some (uQ r)) (hn:n<=1073741824) (q:base<=w.heap.size)
  (h:∀c w',w'.ownsRow base 162 4 c (n+1) (opsV<|l++[r])->w.grownBy w' v.ownBlock->(c.ownBlock=v.ownBlock\/c.ownBlock=some w.heap.size)->K (a.put o.dst c) w'):o.wp prog a w K Q:=by
 have⟨i,e,g,k,p⟩:=info_parts XD;have j:=aa d 0;have om:=aa d 1;have lI:=aa d 2;have oX:=aa d 3;simp at j om lI oX;refine fT s x 56 t base 162 i _ 4 56 underlying56 e g k p rfl dN v n (opsV l) m N ⟨b,0,none⟩ 1 1 (gQ r) f rfl ?_ ?_ mE oE q ?_
 .intro jj u h_;match jj,h_ with
  |0,h_=>simp[gQ]at h_;subst h_;simpa [Addr.add]using j
  |1,h_=>simp[gQ]at h_;subst h_;simpa [Addr.add]using om
  |2,h_=>simp[gQ]at h_;subst h_;simpa [Addr.add]using lI
  |3,h_=>simp[gQ]at h_;subst h_;simpa [Addr.add]using oX
 .intro u hu;simp[gQ]at hu;obtain rfl|rfl|rfl|rfl:=hu<;>rfl
 .intro c w' wu PC BC;refine h c w' ?_ PC BC;rw[ML];exact wu
structure aB(w:World)(B p bD bN:Nat)(pv:Value)(d:ah)(n nD nN:Nat):Prop where
 blk:w.heap[p]?=some (kF bD bN pv d.left d.full d.down)
 base:B<=p/\B<=bD/\B<=bN/\B<=w.heap.size
 ne:bD≠bN
 j8:FileMap w bD nD d.ai
 now:FileMap w bN nN d.now
 pen:w.ownsRow B 162 4 pv d.pending.length (opsV d.pending)
 hD:nD+d.pending.length<=n
 hN:nN<=n
 hn:n<=1000000000
 MN:d.ai.Le (nD*4096)
 Hv:d.now.Le (nN*4096)
 ops:∀o∈d.pending,o.Ok 4096
theorem FileMap.cL{b:Nat}{m:az}{fr:Nat×Nat}(h:FileMap w b n m)(a:w.heap[q]?=some (.cells c t fr)):b≠q:=by
 have⟨es,f,d⟩:=h.isMap;intro e;subst e;rw[d]at a;cases a
theorem aF{g:Nat}(h:w.ownsRow B e k v n xs)(a:v.ownBlock=some g):∃c,w.heap[g]?=some (.cells c e (0,0)):=by
 rcases h.2 with⟨rfl,_⟩|⟨d,p,r,rfl,_,b,_⟩
 .cases a
 .cases a;exact⟨r,b⟩
theorem bG{a:TypeId}{fr:Nat×Nat}(h:w.ownsRow B e k v n xs)(d:w.heap[q]?=some (.cells c a fr))(b:e≠a):v.ownBlock≠some q:=by grind[aF]
abbrev dS(p D bN:Nat)(v:Value):List Nat:=p :: D :: bN :: v.ownBlock.toList
theorem av(h:w.ownsRow B e k v n xs)(f:Fr S w w')(s:∀g,v.ownBlock=some g->g∉S):w'.ownsRow B e k v n xs:=by
 refine⟨h.1,?_⟩;obtain a|⟨g,cap,cur,rfl,h2,h3,h4⟩:=h.2
 .grind
 .exact .inr ⟨g,cap,cur,rfl,h2,(f.block g (zza.1 h3).1<|s g rfl).trans h3,h4⟩
theorem aB.fr(a:aB w B p h bN v d n D N)(f:Fr S w w')(hp:p∉S)(c:h∉S)(e:bN∉S)(i:∀g,v.ownBlock=some g->g∉S)(b:∀q∈S,∀t,w.heap[q]?≠some (fS t)):aB w' B p h bN v d n D N where
 blk:=(f.block p (zza.1 a.blk).1 hp).trans a.blk
 base:=⟨a.base.1,a.base.2.1,a.base.2.2.1,zzk a.base.2.2.2 f.size⟩;ne:=a.ne;j8:=a.j8.fr f c b;now:=a.now.fr f e b;pen:=av a.pen f i;hD:=a.hD;hN:=a.hN;hn:=a.hn
 MN:=a.MN
 Hv:=a.Hv
 ops:=a.ops
theorem aB.new(a:aB w B p h bN v d n D N)(f:Fr [] w w'):aB w' B p h bN v d n D N:=
 a.fr f sE sE sE sE sE
theorem aB.more(a:aB w B p h bN v d n D N)(hn:n<1000000000):aB w B p h bN v d (n+1) D N:=
 {a with hD:=by have:=a.hD;omega,hN:=by have:=a.hN;omega,hn:=oE}
theorem aB.gR(a:aB w B p h bN v d n D N)(c:Fr [p] w w')(l f:Int)(dn:Bool)(j:w'.heap[p]?=some (kF h bN v l f dn)):
  aB w' B p h bN v {d with left:=l,full:=f,down:=dn} n D N where
 blk:=j
 base:=⟨a.base.1,a.base.2.1,a.base.2.2.1,zzk a.base.2.2.2 c.size⟩;ne:=a.ne;j8:=a.j8.fr c (by simp;exact a.j8.cL a.blk)<|by intro q b t;simp at b;subst b;rw[a.blk];intro e;cases e
 now:=a.now.fr c (by simp;exact a.now.cL a.blk)<|by intro q b t;simp at b;subst b;rw[a.blk];intro e;cases e
 pen:=av a.pen c λg i=>by simp;intro e;subst e;exact bG a.pen a.blk dN i
 hD:=a.hD;hN:=a.hN;hn:=a.hn
 MN:=a.MN
 Hv:=a.Hv
 ops:=a.ops
theorem gM(d:ah):d.writes.1={d with left:=d.writes.1.left,full:=d.writes.1.full,down:=d.writes.1.down}:=by grind[ah.writes]
theorem l8(B p D bN n a N:Nat)(v:Value)(d:ah)(w:World)(h:aB w B p D bN v d n a N):
  Calls prog 363 #[rM p] w λe w'=>e=.returned (cj d.writes.2)/\aB w' B p D bN v d.writes.1 n a N/\Fr [p] w w':=by
 apply(Iu p D bN v d w h.blk).mono;rintro e w' ⟨rfl,h1,h2⟩;refine⟨rfl,?_,h2⟩;rw[gM];exact h.gR h2 _ _ _ h1
def dB(d:ah)(o:iD)(B p D bN n a:Nat)(v:Value)(w:World)(e:Ending)(w':World):Prop :=
 e=.returned (cj (d.tell o).2)/\(∃j E,aB w' B p D bN j (d.tell o).1 (n+1) a E/\bn w.heap.size v j)/\Fr (dS p D bN v) w w'
theorem rj(h:d.writes.2=10):d.tell o=({d.writes.1 with pending:=d.writes.1.pending++[o]},10):=by grind[ah.tell]
theorem rk(h:d.writes.2=9):d.tell o=(d.writes.1,9):=by grind[ah.tell]
theorem Ct(h:d.writes.2=0)(a:d.writes.1.now o.name=none/\2<o.kind):d.tell o=(d.writes.1,8):=by grind[ah.tell]
theorem rm(h:d.writes.2=0)(a:¬(d.writes.1.now o.name=none/\2<o.kind))(b:¬(o.kind=4/\o.name=o.to)):d.tell o=({d.writes.1 with now:=cV d.writes.1.now o,pending:=d.writes.1.pending++[o]},0):=by grind[ah.tell]
theorem iO(d:ah):d.writes.2=10\/d.writes.2=9\/d.writes.2=0:=by grind[ah.writes]
theorem aB.Wi{f:World}(a:aB w B p h bN v d n D N)(K:o.Ok 4096)
  (u:w.grownBy f v.ownBlock) (F:f.ownsRow B 162 4 j (d.pending.length+1)<|opsV<|d.pending++[o]) (Q:w2=f.setCell (d8 p 2) j) :
  (∀n',D+(d.pending++[o]).length<=n'->N<=n'->n'<=1000000000->aB w2 B p h bN j {d with pending:=d.pending++[o]} n' D N)/\Fr (p::v.ownBlock.toList) w w2:=by
 have T:f.heap[p]?=some (kF h bN v d.left d.full d.down):=(u.block p (zza.1 a.blk).1 λe=>bG a.pen a.blk dN e.symm).trans a.blk;have H:=Fr.dc u;have A:Fr (p::v.ownBlock.toList) w w2:=by
  rw[Q];exact(H.mono λk _ J=>List.mem_cons_of_mem _ J).setCell (Or.inl sE) _
 have X:∀q∈p::v.ownBlock.toList,∀t,w.heap[q]?≠some (fS t):=by
  intro q i t e;obtain rfl|i:=zzj.1 i
  .rw[a.blk]at e;cases e
  .simp at i;exact bG a.pen e dN i
 have M:∀(b k:Nat) (m:az),FileMap w b k m->b∉p::v.ownBlock.toList:=by
  intro b k m s l;obtain rfl|l:=zzj.1 l
  .exact s.cL a.blk rfl
  .simp at l;have⟨c,I⟩:=aF a.pen l;exact s.cL I rfl
 refine⟨λn' C y E=>?_,A⟩;subst Q;have z:∀g,j.ownBlock=some g->g≠p:=by grind[bG]
 refine {blk:=?_,base:=⟨a.base.1,a.base.2.1,a.base.2.2.1,zzk a.base.2.2.2 A.size⟩,ne:=a.ne,j8:=a.j8.fr A (M _ _ _ a.j8) X,now:=a.now.fr A (M _ _ _ a.now) X,pen:=?_,hD:=C,hN:=y,hn:=E,MN:=a.MN,Hv:=a.Hv,ops:=?_}
 .have:=aH T 2 j;simpa using this
 .have:=av F (S:=[p]) (Fr.cH (w:=f) (p:=p) sE 2 j) λg G=>by simp;exact z g G
  simpa using this
 .intro x r;obtain r|r:=zzo.1 r
  .exact a.ops x r
  .grind
theorem aB.Iw(a:aB w B p h bN v d n D N)(hn:n<1000000000)(c:o.Ok 4096)
  (g:w.grownBy b v.ownBlock) (r:b.ownsRow B 162 4 j (d.pending.length+1)<|opsV<|d.pending++[o]) (Q:w2=b.setCell (d8 p 2) j) :
  aB w2 B p h bN j {d with pending:=d.pending++[o]} (n+1) D N/\Fr (p::v.ownBlock.toList) w w2:=by
 have⟨e,q⟩:=aB.Wi a c g r Q;exact⟨e (n+1) (by have:=a.hD;simp;omega) (by have:=a.hN;omega) oE,q⟩
theorem aB.Cv{c:Nat}{N:az}(a:aB w B p h bN v {d with now:=N} (n+1) D<|c+1)(e:o.Ok 4096)
  (g:w.grownBy b v.ownBlock) (r:b.ownsRow B 162 4 j (d.pending.length+1)<|opsV<|d.pending++[o]) (Q:w2=b.setCell (d8 p 2) j) (hD:D+d.pending.length<=n) :
  aB w2 B p h bN j {d with now:=N,pending:=d.pending++[o]} (n+1) D (c+1)/\Fr (p::v.ownBlock.toList) w w2:=by
 have⟨f,q⟩:=aB.Wi a e g r Q;exact⟨f (n+1) sC a.hN a.hn,q⟩
theorem ib(h:w.ownsRow B e k v (n+1) xs):∃g p,v=.slice (some<|dH g) (n+1) p:=by
 rcases h.2 with⟨_,a⟩|⟨g,p,r,rfl,_⟩
 .omega
 .grind
theorem sR{a:World}(b:aB a B p h bN v d n D N)(f:a.heap[q]?=some (uQ o))(g:(a.alloc<|uQ o).drew.grownBy w v.ownBlock)(i:v.ownBlock≠some q):
  w.cell? (d8 p 2)=some v/\w.frozen? (d8 p 2)=false/\w.cell? (dH q)=some (.int .i64 o.kind)/\w.cell? (d8 q 1)=some (.string o.name)/\w.cell? (d8 q 2)=some (.string o.to)/\w.cell? (d8 q 3)=some (.string o.data):=by
 have y:=(zza.1 b.blk).1;have l:=(zza.1 f).1;have c:w.heap[p]?=some (kF h bN v d.left d.full d.down):=by
  rw[g.block p sC λe=>bG b.pen b.blk dN e.symm];exact(zzf a _ p y).trans b.blk
 have k:w.heap[q]?=some (uQ o):=by
  rw[g.block q sC λe=>i e.symm];exact(zzf a _ q l).trans f
 refine⟨(aa c 2).trans sE,au c 2,(aa k 0).trans sE,(aa k 1).trans sE,(aa k 2).trans sE,(aa k 3).trans sE⟩
theorem aB.done(a:aB w B p h bN v d n D N)(b:w.heap[q]?=some (uQ o))(F:FileMap w2 bN (N+1)<|cV d.now o)(l:w.grownBy w2<|some bN)(hn:n<1000000000)(u:o.Ok 4096):
  aB w2 B p h bN v {d with now:=cV d.now o} (n+1) D (N+1)/\w2.heap[q]?=some (uQ o)/\Fr [bN] w w2:=by
 have f:=Fr.bK l;have m:∀r∈[bN],∀t,w.heap[r]?≠some (fS t):=by
  intro r i t e;simp at i;subst i;exact a.now.cL e rfl
 refine⟨?_,(f.block q (zza.1 b).1<|by simp;exact λe=>a.now.cL b e.symm).trans b,f⟩;refine {blk:=(f.block p (zza.1 a.blk).1<|by simp;exact λe=>a.now.cL a.blk e.symm).trans a.blk,base:=⟨a.base.1,a.base.2.1,a.base.2.2.1,zzk a.base.2.2.2 f.size⟩,ne:=a.ne,j8:=a.j8.fr f (by simp;exact a.ne) m,now:=F,pen:=av a.pen f λg j=>by simp;intro e;subst e;have⟨c,s⟩:=aF a.pen j;exact a.now.cL s rfl,hD:=by have:=a.hD;simp;omega,hN:=by have:=a.hN;omega,hn:=oE,MN:=a.MN,Hv:=?_,ops:=a.ops}
 .have:=yV a.Hv u;intro k t x;have:=this k t x;omega
theorem TT(w:World):(binOp .eql 67 (.iface 27<|.int .i64 10)<|.iface 27<|.int .i64 10).run prog w=.ok (.bool true) w:=k6
theorem TU(w:World):(binOp .eql 67 (.iface 27<|.int .i64 9)<|.iface 27<|.int .i64 10).run prog w=.ok (.bool false) w:=k6
section
open Sc
variable{a b:Int}{k:IntKind}
theorem acg(X:Nat)(h:X<4294967296):bits .and .u32 (X:Int) 1=((X%2:Nat):Int):=by
 have:=u32_and_nat X 1 h oE;rw[Nat.and_one_is_mod]at this;exact this
theorem ach(X:Nat)(h:X<4294967296):bits .xor .u32 (X:Int) 3988292384=((X^^^3988292384:Nat):Int):=u32_xor_nat X 3988292384 h oE
theorem aac(X:Nat)(h:X<4294967296):bits .xor .u32 4294967295 (X:Int)=((4294967295^^^X:Nat):Int):=u32_xor_nat 4294967295 X oE h
theorem PD(X:Nat)(h:X%2=1):half X=X/2^^^3988292384:=by grind[half]
theorem MQ(X:Nat)(h:¬X%2=1):half X=X/2:=by grind[half]
theorem Lc(h:a=b):Ending.returned (.int k a)=.returned (.int k b):=by rw[h]
theorem int_eq(h:a=b):Value.int k a=.int k b:=by rw[h]
theorem ru(n k j:Nat):((n:Int)/2^(8*(k-1-j))%256)=((digit k n j:Nat):Int):=by
 unfold digit;rw[show(256:Nat)^(k-1-j)=2^(8*(k-1-j)) by rw[Nat.pow_mul]];simp
end
end Go.Proofs.YtdcafjmdfpjcbaaGreatDoor
