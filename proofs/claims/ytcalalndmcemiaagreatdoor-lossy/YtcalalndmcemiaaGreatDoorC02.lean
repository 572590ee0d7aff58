import Derived.Test.YtcalalndmcemiaaGreatDoorC01
import Derived.Lib.BufferMore
set_option maxHeartbeats 1000000
set_option maxRecDepth 100000
namespace Go.Proofs.YtcalalndmcemiaaGreatDoor
open Go.RowKit Go.Maps Tryz
variable{c:Array Value}{ps:List MemPlace}{S T:List Nat}{rest:List Oper}{xs:List Value}{B D N b k n p q:Nat}{o:Oper}{e t:TypeId}{v:Value}{a w w':World}
abbrev cC:=ByteArray->Option ByteArray
def cC.set(m:cC)(k:ByteArray)(v:Option ByteArray):cC:=λx=>if x=k then v else m x
theorem cC.tu(m:cC)(k:ByteArray)(v:Option ByteArray):m.set k v k=v:=by simp[cC.set]
theorem cC.lL(m:cC){k x:ByteArray}(v:Option ByteArray)(h:x≠k):m.set k v x=m x:=by simp[cC.set,h]
structure mG where
 kind:Nat
 name:ByteArray
 to:ByteArray
 data:ByteArray
def fW(m:cC)(o:mG):cC :=
 if o.kind=1 then m.set o.name (some o.data)
 else if o.kind=2 then m.set o.name (some ((m o.name).getD ByteArray.empty++o.data))
 else if o.kind=3 then m.set o.name none
 else if o.kind=4 then (match m o.name with|none=>m|some s=>(m.set o.to (some s)).set o.name none)
 else m
structure ah where
 aZ:cC
 now:cC
 pending:List mG
 left:Int
 full:Int
 down:Bool
def ah.writes(d:ah):ah × Nat :=
 if d.down=true\/d.left=0 then ({ d with down:=true },10)
 else if d.full=0 then ({ d with left:=wrap64 (d.left-1),full:=-1 },9)
 else ({ d with left:=wrap64 (d.left-1),full:=wrap64 (d.full-1) },0)
def ah.tell(d:ah)(o:mG):ah × Nat :=
 let r:=d.writes
 if r.2=10 then ({ r.1 with pending:=r.1.pending++[o] },10)
 else if r.2=9 then (r.1,9)
 else if r.1.now o.name=none/\2<o.kind then (r.1,8)
 else if o.kind=4/\o.name=o.to then (r.1,0)
 else ({ r.1 with now:=fW r.1.now o,pending:=r.1.pending++[o] },0)
def ah.sync(d:ah):ah × Nat :=
 let r:=d.writes
 if r.2=0 then ({ r.1 with aZ:=r.1.pending.foldl fW r.1.aZ,pending:=[] },0) else r
/-! ### blocks that may be written -/
structure Fr(S:List Nat)(w w':World):Prop where
 os:w'.os=w.os
 tape:w'.tape=w.tape
 output:w'.output=w.output
 size:w.heap.size<=w'.heap.size
 block:∀k,k<w.heap.size->k∉S->w'.heap[k]?=w.heap[k]?
theorem Fr.refl(S:List Nat)(w:World):Fr S w w:=⟨rfl,rfl,rfl,zzc _,λ_ _ _=>rfl⟩
theorem lT(w:World):Fr [] w w:=Fr.refl [] w
theorem Fr.trans{b c:World}(h:Fr S a b)(k:Fr S b c):Fr S a c:=
 ⟨k.os.trans h.os,k.tape.trans h.tape,k.output.trans h.output,zzk h.size k.size,λi d hn=>(k.block i (zzl d h.size) hn).trans<|h.block i d hn⟩
theorem Fr.mono{b:World}(h:Fr S a b)(hs:∀k,k<a.heap.size->k∈S->k∈T):Fr T a b:=
 ⟨h.os,h.tape,h.output,h.size,λk c hn=>h.block k c λm=>hn<|hs k c m⟩
theorem Fr.andThen{b c:World}(h:Fr S a b)(k:Fr T b c)(t:∀j,j∈T->j<a.heap.size->j∈S):Fr S a c:=
 ⟨k.os.trans h.os,k.tape.trans h.tape,k.output.trans h.output,zzk h.size k.size,λi d hn=>(k.block i (zzl d h.size) λm=>hn<|t i m d).trans<|h.block i d hn⟩
theorem Fr.bz{r:Option Nat}(h:w.grownBy w' r):Fr r.toList w w':=
 ⟨h.os,h.tape,h.output,h.size,λk a hn=>h.block k a λe=>hn<|by rw[<-e];simp⟩
theorem Fr.aF(h:w.grownBy w'<|some b):Fr [b] w w':=Fr.bz h
theorem Fr.aX(h:Below w.heap.size w w')(S:List Nat):Fr S w w':=
 ⟨h.os,h.tape,h.output,h.size,λk a _=>h.block k a⟩
theorem Fr.below(h:Fr S w w')(a:B<=w.heap.size)(hs:∀k,k∈S->B<=k):Below B w w':=
 ⟨h.os,h.tape,h.output,h.size,λk b=>h.block k (zzl b a) λm=>by have:=hs k m;omega⟩
theorem Fr.VT(h:Fr [b] w w'):w.grownBy w' (some b):=
 ⟨h.os,h.tape,h.output,h.size,λk a hn=>h.block k a λm=>hn<|by simp at m;rw[m]⟩
theorem Fr.alloc(h:Fr S a w)(o:Obj):Fr S a (w.alloc o):=
 h.trans ⟨rfl,rfl,rfl,bR,λk b _=>zzf _ _ _ b⟩
theorem Fr.drew(h:Fr S a w):Fr S a w.drew:=⟨h.os,h.tape,h.output,h.size,h.block⟩
theorem Fr.setCell(h:Fr S a w){p:Addr}(b:p.block∈S\/a.heap.size<=p.block)(u:Value):Fr S a (w.setCell p u):=
 ⟨h.os,h.tape,h.output,zzk h.size<|by simp[World.setCell],λk c hn=>(Below.heap_setCell _ _ _ _ λe=>by obtain b|b:=b;exact hn<|e▸b;omega).trans<|h.block k c hn⟩
theorem cw(h:Fr S a w):∀k,Fr S a<|w.drewN k
 |0=>h
 |k+1=>(cw h k).drew
/-! ### a map of files -/
def di(v:Value):Option (DataW Unit × List MemPlace) :=
 match v with
 |.pointer (some a)=>if a.off=0/\a.spot=none then some (.lit (.int .i64 (a.block:Int)),[]) else none
 |.pointer none=>some (.lit (.int .i64 (-1)),[])
 |_=>none
theorem Gl(q:Nat):di (.pointer<|some ⟨q,0,none⟩)=some (.lit<|.int .i64 (q:Int),[]):=by simp[di]
theorem vL:di (.pointer none)=some (.lit<|.int .i64<|-1,[]):=rfl
theorem vM(h:di v=some (.lit<|.int .i64 (q:Int),ps)):v=.pointer (some ⟨q,0,none⟩):=by
 unfold di at h;split at h
 .rename_i a;split at h
  .rename_i hc;have⟨b,o,s⟩:=a;simp at h hc;obtain⟨rfl,rfl⟩:=hc;simp
  .cases h
 .simp at h
 .cases h
theorem wz(h:di v=some (.lit<|.int .i64<|-1,ps)):v=.pointer none:=by
 unfold di at h;split at h
 .rename_i a;split at h
  .simp at h
  .cases h
 .rfl
 .cases h
theorem rK{y:DataW Unit×List MemPlace}(h:di v=some y):∃c,v=Value.pointer c:=by
 unfold di at h;split at h
 .exact⟨_,rfl⟩
 .exact⟨_,rfl⟩
 .cases h
abbrev kY(k:ByteArray):Lit:=.string k.data.toList
theorem tv{a b:ByteArray}(h:kY a=kY b):a=b:=by
 simp only[kY,Lit.string.injEq]at h;have⟨a⟩:=a;have⟨b⟩:=b;simp at h;rw[h]
theorem wB:Keyed prog 9:=Go.Maps.string_keyed underlying9
theorem Jj(w:World):(zeroValue 165).run prog w=.ok (.pointer none) w:=dJ
abbrev dV(t:ByteArray):Obj:=.cells #[.string t] 9
def FileMap(w:World)(b n:Nat)(m:cC):Prop :=
 ∃D:DataW Unit,w.ownsMap prog 9 di b n D/\∀k:ByteArray,
  (m k=none->Maps.has D (kY k)=false) /\
  (∀t,m k=some t->Maps.has D (kY k)=true/\k.size<=maxLen/\∃q:Nat,(∀z,D.atKey (kY k) z=.lit (.int .i64 (q:Int)))/\w.heap[q]?=some (dV t))
theorem FileMap.lt{m:cC}(h:FileMap w b n m):b<w.heap.size:=by
 have⟨D,h,_⟩:=h;exact h.lt
theorem FileMap.mono{n':Nat}{m:cC}(h:FileMap w b n m)(hn:n<=n'):FileMap w b n' m:=by
 have⟨D,h,a⟩:=h;exact⟨D,h.mono hn,a⟩
theorem FileMap.isMap{m:cC}(h:FileMap w b n m):∃s c,w.heap[b]?=some (.map s c):=by
 have⟨D,⟨s,c,h,_⟩,_⟩:=h;exact⟨s,c,h⟩
theorem FileMap.fr{m:cC}(h:FileMap w b n m)(hf:Fr S w w')(hb:b∉S)(hs:∀q∈S,∀t,w.heap[q]?≠some (dV t)):FileMap w' b n m:=by
 have U:=h.lt;have⟨D,⟨s,c,i,j,l,o⟩,d⟩:=h;refine⟨D,⟨s,c,(hf.block b U hb).trans i,j,l,o⟩,λk=>⟨(d k).1,λt r=>?_⟩⟩;have⟨e,f,q,g,a⟩:=(d k).2 t r;refine⟨e,f,q,g,?_⟩;rw[hf.block q (zza.1 a).1 λp=>hs q p t a];exact a
theorem FileMap.alloc{m:cC}(h:FileMap w b n m)(o:Obj):FileMap (w.alloc o) b n m:=
 h.fr ((lT w).alloc o) bR bR
theorem FileMap.made(w:World):FileMap (w.alloc<|.map #[] 0) w.heap.size 0 (λ_=>none):=
 ⟨.map [],World.ownsMap_made _ _ _ _,λk=>⟨λ_=>rfl,λt h=>by cases h⟩⟩
theorem FileMap.look{m:cC}(h:FileMap w b n m)(k:ByteArray)(j:k.size<=maxLen):
  (m k=none/\(Instr.lookup 93 (.map<|some b) (.string k) true).run prog w=.ok (.tuple #[.pointer none,.bool false]) w) \/
  (∃t q,m k=some t/\w.heap[q]?=some (dV t)/\(Instr.lookup 93 (.map<|some b) (.string k) true).run prog w=.ok (.tuple #[.pointer<|some ⟨q,0,none⟩,.bool true]) w):=by
 have⟨D,f,d⟩:=h;have⟨v,ps,r,a⟩:=f.look_ok wB underlying93 (Jj w) vL<|Go.WideMaps.keyOf_string_mk underlying9 j
 cases e:m k with
 |none=>
  left;have c:=(d k).1 e;have U:=c;rw[Maps.atKey_of_not_has U]at a;obtain rfl:=wz a;rw[U]at r;exact⟨rfl,r⟩
 |some t=>
  right;have⟨c,_,q,g,i⟩:=(d k).2 t e;rw[g]at a;obtain rfl:=vM a;have U:=c;rw[U]at r;exact⟨t,q,rfl,i,r⟩
theorem FileMap.AD{m:cC}(h:FileMap w b n m)(k t:ByteArray)(g:m k=some t):
  ∃q,w.heap[q]?=some (dV t)/\(Instr.lookup 93 (.map<|some b) (.string k) false).run prog w=.ok (.pointer<|some ⟨q,0,none⟩) w:=by
 have⟨D,c,f⟩:=h;have⟨i,z,q,d,e⟩:=(f k).2 t g;have⟨v,ps,r,a⟩:=c.lookup wB underlying93 (Jj w) vL<|Go.WideMaps.keyOf_string_mk underlying9 z;rw[d]at a;obtain rfl:=vM a;exact⟨q,e,r⟩
theorem FileMap.put{m:cC}{D:DataW Unit}(g:∀k:ByteArray,(m k=none->Maps.has D (kY k)=false)/\(∀t,m k=some t->Maps.has D (kY k)=true/\k.size<=maxLen/\∃q:Nat,(∀z,D.atKey (kY k) z=.lit (.int .i64 (q:Int)))/\w.heap[q]?=some (dV t)))
  (j:w.ownsMap prog 9 di b n D) (k:ByteArray) (v:k.size<=maxLen) (q:Nat) (t:ByteArray) (A:w.heap[q]?=some (dV t))
  (y:w'.ownsMap prog 9 di b (n+1)<|D.put (kY k)<|.lit<|.int .i64 (q:Int)) (u:w.grownBy w'<|some b):FileMap w' b (n+1) (m.set k<|some t):=by
 have i:=j.isMap;have E:WideAt.IsKeyLit (kY k):=trivial;have keep:∀(q:Nat) (t:ByteArray),w.heap[q]?=some (dV t)->w'.heap[q]?=some (dV t):=λq t h=>by
  rw[u.block q (zza.1 h).1 λe=>by cases e;have⟨C,c,s,_⟩:=j;rw[s]at h;cases h];exact h
 refine⟨_,y,λx=>?_⟩;by_cases d:x=k
 .subst d;rw[cC.tu];refine⟨λh=>(by simp at h),λf h=>?_⟩;obtain rfl:t=f:=Option.some.inj h;exact⟨Maps.has_put_same i E _,v,q,λz=>Maps.atKey_put_same i E _ z,keep _ _ A⟩
 .rw[cC.lL _ _ d];have a:kY x≠kY k:=λe=>d<|tv e
  refine⟨λh=>by rw[Maps.has_put_other a];exact(g x).1 h,λf h=>?_⟩;have⟨l,o,B,p,r⟩:=(g x).2 f h;exact⟨by rw[Maps.has_put_other a];exact l,o,B,λz=>by rw[Maps.atKey_put_other a];exact p z,keep _ _ r⟩
theorem FileMap.del{w w':World}{b n:Nat}{m:cC}{D:DataW Unit}(f:∀k:ByteArray,(m k=none->Maps.has D (kY k)=false)/\(∀t,m k=some t->Maps.has D (kY k)=true/\k.size<=maxLen/\∃q:Nat,(∀z,D.atKey (kY k) z=.lit (.int .i64 (q:Int)))/\w.heap[q]?=some (dV t)))
  (s:w.ownsMap prog 9 di b n D) (k:ByteArray)
  (u:w'.ownsMap prog 9 di b n<|D.del<|kY k) (r:w.grownBy w'<|some b):FileMap w' b n (m.set k none):=by
 have keep:∀(q:Nat) (t:ByteArray),w.heap[q]?=some (dV t)->w'.heap[q]?=some (dV t):=λq t h=>by
  rw[r.block q (zza.1 h).1 λe=>by cases e;have⟨y,c,p,_⟩:=s;rw[p]at h;cases h];exact h
 refine⟨_,u,λx=>?_⟩;by_cases d:x=k
 .subst d;rw[cC.tu];exact⟨λ_=>Maps.has_del_same,λg h=>by cases h⟩
 .rw[cC.lL _ _ d];have a:kY x≠kY k:=λe=>d<|tv e
  refine⟨λh=>by rw[Maps.has_del_other a];exact(f x).1 h,λg h=>?_⟩;have⟨i,j,v,l,o⟩:=(f x).2 g h;exact⟨by rw[Maps.has_del_other a];exact i,j,v,λz=>by rw[Maps.atKey_del_other a];exact l z,keep _ _ o⟩
theorem gV{ops:Array Oper}{a:Act}{Q:Exit->Act->World->Prop}(f:o.guard=none)(m x v:Operand)(u:o.op=Op.mapUpdate 93 m x v)
  (b n:Nat) (F:cC) (i:a.eval m=.map (some b)) (e:FileMap w b n F) (hn:n<maxLen) (k:ByteArray) (c:k.size<=maxLen) (r:a.eval x=.string k) (q:Nat) (t:ByteArray) (p:a.eval v=.pointer (some ⟨q,0,none⟩)) (l:w.heap[q]?=some (dV t))
  (K:∀w',FileMap w' b (n+1) (F.set k<|some t)->w.grownBy w' (some b)->wpList prog ops Q rest (a.put o.dst undef) w'):wpList prog ops Q (o::rest) a w:=by
 have⟨D,h,d⟩:=e;apply wpList_mapUpdate_own w f m x v _ u 9 165 wB underlying93 di b n D i h hn _ _ (kY k) r p (Go.WideMaps.keyOf_string_mk underlying9 c) _ [] (Gl q);intro w' j g;exact K w' (FileMap.put d h k c q t l j g) g
theorem o9{ops:Array Oper}{a:Act}{Q:Exit->Act->World->Prop}(g:o.guard=none)(m x:Operand)(u:o.op=Op.call {callee:=Callee.builtin Builtin.delete,args:=#[m,x],argTypes:=#[93,9]})
  (b n:Nat) (F:cC) (f:a.eval m=.map (some b)) (d:FileMap w b n F) (k:ByteArray) (e:k.size<=maxLen) (j:a.eval x=.string k)
  (K:∀w',FileMap w' b n (F.set k none)->w.grownBy w' (some b)->wpList prog ops Q rest (a.put o.dst<|.tuple #[]) w'):wpList prog ops Q (o::rest) a w:=by
 have⟨D,h,c⟩:=d;apply wpList_delete_own w g m x _ _ u 165 wB underlying93 di b n D f h _ (kY k) j (Go.WideMaps.keyOf_string_mk underlying9 e);intro w' i t;exact K w' (FileMap.del c h k i t.grown) t.grown
abbrev Rt(o:mG):Value:=.agg #[.int .i64 (o.kind:Int),.string o.name,.string o.to,.string o.data]
abbrev sZ(o:mG):Obj:=.cells #[.int .i64 (o.kind:Int),.string o.name,.string o.to,.string o.data] 182
theorem fj{ops:Array Oper}{a:Act}{Q:Exit->Act->World->Prop}(j:o.guard=none)(m x:Operand)(u:o.op=Op.lookup 93 m x true)
  (b n:Nat) (F:cC) (e:a.eval m=.map (some b)) (i:FileMap w b n F) (k:ByteArray) (l:k.size<=maxLen) (f:a.eval x=.string k)
  (hN:F k=none->wpList prog ops Q rest (a.put o.dst<|.tuple #[.pointer none,.bool false]) w)
  (S:∀t q,F k=some t->w.heap[q]?=some (dV t)->wpList prog ops Q rest (a.put o.dst<|.tuple #[.pointer<|some ⟨q,0,none⟩,.bool true]) w):wpList prog ops Q (o::rest) a w:=by
 refine wpList_plain j λK d=>?_
 unfold Oper.wp;rcases i.look k l with⟨h,c⟩|⟨t,q,h,c,g⟩
 .simp[execOp,u,e,f,c,Result.andThen];exact d _ _<|hN h
 .simp[execOp,u,e,f,g,Result.andThen];exact d _ _<|S t q h c
theorem tz{ops:Array Oper}{a:Act}{Q:Exit->Act->World->Prop}(g:o.guard=none)(m x:Operand)(u:o.op=Op.lookup 93 m x false)
  (b n:Nat) (F:cC) (i:a.eval m=.map (some b)) (d:FileMap w b n F) (k t:ByteArray) (f:F k=some t) (j:a.eval x=.string k)
  (S:∀q,w.heap[q]?=some (dV t)->wpList prog ops Q rest (a.put o.dst<|.pointer<|some ⟨q,0,none⟩) w):wpList prog ops Q (o::rest) a w:=by
 refine wpList_plain g λK e=>?_
 unfold Oper.wp;have⟨q,h,c⟩:=d.AD k t f;simp[execOp,u,i,j,c,Result.andThen];exact e _ _<|S q h
abbrev doW(w:World)(o:mG):World:=(w.alloc (sZ o)).alloc (dV o.data)
theorem fX(w:World)(o:mG):Fr [] w (doW w o):=((lT w).alloc _).alloc _
theorem xF(w:World)(o:mG):(doW w o).heap[w.heap.size+1]?=some (dV o.data):=by
 have:=heap_alloc_new (w.alloc<|sZ o)<|dV o.data;rw[zzv]at this;exact this
theorem FileMap.new{m:cC}(h:FileMap w b n m)(hf:Fr [] w w'):FileMap w' b n m:=h.fr hf bR bR
theorem gI{c:World}(h:Fr [] w a)(k:a.grownBy c<|some b):w.grownBy c (some b):=
 Fr.VT ((h.mono bR).trans<|Fr.aF k)
theorem AE{t:ByteArray}(h:w.heap[q]?=some (dV t)):w.cell? ⟨q,0,none⟩=some (.string t):=by simp[World.cell?,h]
theorem Nr(b n:Nat)(m:cC)(o:mG)(w:World)(f:FileMap w b n m)(hn:n<maxLen)(k:o.kind=1)(h:o.name.size<=maxLen):
  Calls prog 100 #[.map<|some b,Rt o] w λe w'=>e=.returned (.tuple #[])/\FileMap w' b (n+1) (fW m o)/\w.grownBy w' (some b):=by
 have M:=af f;clear f;have⟨kd,a,c,d⟩:=o;simp only at k h;subst k;go_enter func100,ntmps100;go_wp2_with (first|(at_lookup;refine fj rfl _ _ rfl b n m rfl (M.out.new<|fX w ⟨1,a,c,d⟩) a h rfl ?_ ?_)|fail)
 .intro hN;go_wp2_with (first|(at_mapUpdate;apply gV rfl _ _ _ rfl b n m rfl (M.out.new<|fX w ⟨1,a,c,d⟩) hn a h rfl _ d rfl (xF w ⟨1,a,c,d⟩);intro g s A)|fail);go_end0;exact⟨rfl,s,gI (fX w ⟨1,a,c,d⟩) A⟩
 .intro t q hN hq;go_wp2_with (first|(at_mapUpdate;apply gV rfl _ _ _ rfl b n m rfl (M.out.new<|fX w ⟨1,a,c,d⟩) hn a h rfl _ d rfl (xF w ⟨1,a,c,d⟩);intro g s A)|fail);go_end0;exact⟨rfl,s,gI (fX w ⟨1,a,c,d⟩) A⟩
theorem KD(b n:Nat)(m:cC)(o:mG)(w:World)(f:FileMap w b n m)(k:o.kind=3)(h:o.name.size<=maxLen):
  Calls prog 100 #[.map<|some b,Rt o] w λe w'=>e=.returned (.tuple #[])/\FileMap w' b (n+1) (fW m o)/\w.grownBy w' (some b):=by
 have M:=af f;clear f;have⟨kd,a,c,d⟩:=o;simp only at k h;subst k;go_enter func100,ntmps100;go_wp2_with (first|(at_lookup;refine fj rfl _ _ rfl b n m rfl (M.out.new<|fX w ⟨3,a,c,d⟩) a h rfl ?_ ?_)|fail)
 .intro hN;go_wp2;apply bodyPost_ret (results_none rfl _ _ _) rfl;refine⟨rfl,?_,gI (fX w ⟨3,a,c,d⟩)<|dI _ _⟩
  have e:fW m ⟨3,a,c,d⟩=m:=by
   funext x;show(if x=a then none else m x)=m x;by_cases g:x=a
   .subst g;simp[hN]
   .simp[g]
  rw[e];exact(M.out.new<|fX w ⟨3,a,c,d⟩).mono bL
 .intro t q hN hq;go_wp2_with (first|(at_delete;apply o9 rfl _ _ rfl b n m rfl (M.out.new<|fX w ⟨3,a,c,d⟩) a h rfl;intro i s A)|fail);go_end0;exact⟨rfl,s.mono bL,gI (fX w ⟨3,a,c,d⟩) A⟩
theorem KE(b n:Nat)(m:cC)(o:mG)(w:World)(i:FileMap w b n m)(hn:n<maxLen)(k:o.kind=4)(h:o.name.size<=maxLen)(g:o.to.size<=maxLen):
  Calls prog 100 #[.map<|some b,Rt o] w λe w'=>e=.returned (.tuple #[])/\FileMap w' b (n+1) (fW m o)/\w.grownBy w' (some b):=by
 have M:=af i;clear i;have⟨kd,c,d,f⟩:=o;simp only at k h g;subst k;go_enter func100,ntmps100;go_wp2_with (first|(at_lookup;refine fj rfl _ _ rfl b n m rfl (M.out.new<|fX w ⟨4,c,d,f⟩) c h rfl ?_ ?_)|fail)
 .intro hN;go_wp2;apply bodyPost_ret (results_none rfl _ _ _) rfl;refine⟨rfl,?_,gI (fX w ⟨4,c,d,f⟩)<|dI _ _⟩;have e:fW m ⟨4,c,d,f⟩=m:=by simp[fW,hN]
  rw[e];exact(M.out.new<|fX w ⟨4,c,d,f⟩).mono bL
 .intro t q hN hq;go_wp2_with (first|(at_lookup;apply tz rfl _ _ rfl b n m rfl (M.out.new<|fX w ⟨4,c,d,f⟩) c t hN rfl;intro p V)|(at_mapUpdate;apply gV rfl _ _ _ rfl b n m rfl (M.out.new<|fX w ⟨4,c,d,f⟩) hn d g rfl _ t rfl V;intro l s A;have X:l.cell? ⟨w.heap.size,1,none⟩=some (.string c):=(lW A (a:=⟨w.heap.size,1,none⟩) (by have:=M.out.lt;simp;omega) cE).trans bR)|(at_delete;refine o9 rfl _ _ rfl b (n+1) _ rfl s c h rfl ?_;intro r Q j)|fail)
  go_end0;refine⟨rfl,?_,aR (gI (fX w ⟨4,c,d,f⟩) A) j⟩;have e:fW m ⟨4,c,d,f⟩=(m.set d<|some t).set c none:=by simp[fW,hN]
  rw[e];exact Q
theorem KF(b n:Nat)(m:cC)(o:mG)(w:World)(g:FileMap w b n m)(hn:n<maxLen)(k:o.kind=2)(h:o.name.size<=maxLen)(f:((m o.name).getD ByteArray.empty).size+o.data.size<=1099511627776):
  Calls prog 100 #[.map<|some b,Rt o] w λe w'=>e=.returned (.tuple #[])/\FileMap w' b (n+1) (fW m o)/\w.grownBy w' (some b):=by
 have M:=af g;clear g;have⟨kd,c,d,a⟩:=o;simp only at k h f;subst k;go_enter func100,ntmps100;go_wp2_with (first|(at_lookup;refine fj rfl _ _ rfl b n m rfl (M.out.new<|fX w ⟨2,c,d,a⟩) c h rfl ?_ ?_)|fail)
 .intro hN;have N:=af hN;clear hN;go_wp2_with (first|(at_lookup;refine fj rfl _ _ rfl b n m rfl (M.out.new<|fX w ⟨2,c,d,a⟩) c h rfl ?_ ?_)|fail)
  .intro nB;go_wp2_with (first|(at_mapUpdate;apply gV rfl _ _ _ rfl b n m rfl (M.out.new<|fX w ⟨2,c,d,a⟩) hn c h rfl _ a rfl (xF w ⟨2,c,d,a⟩);intro i s A)|fail);go_end0;refine⟨rfl,?_,gI (fX w ⟨2,c,d,a⟩) A⟩;have e:fW m ⟨2,c,d,a⟩=m.set c (some a):=by simp[fW,N.out]
   rw[e];exact s
  .intro t2 q2 nB;exact absurd (N.out.symm.trans nB) bR
 .intro t q hN hq;have N:=af hN;clear hN hq;go_wp2_with (first|(at_lookup;refine fj rfl _ _ rfl b n m rfl (M.out.new<|fX w ⟨2,c,d,a⟩) c h rfl ?_ ?_)|fail)
  .intro nB;exact absurd (N.out.symm.trans nB) bR
  .intro t2 q2 nB VV;obtain rfl:t=t2:=Option.some.inj<|N.out.symm.trans nB;have j:=AE VV;have U:¬9223372036854775807<t.size+a.size:=by rw[N.out]at f;simp at f;omega
   clear nB VV;go_wp2;go_region
   have gF:Fr [] w ((w.alloc<|sZ ⟨2,c,d,a⟩).alloc<|dV<|t++a).drew:=(((lT w).alloc _).alloc _).drew;go_wp2_with (first|(at_mapUpdate;apply gV rfl _ _ _ rfl b n m rfl (M.out.new gF) hn c h rfl _ (t++a) rfl (by have:=heap_alloc_new (w.alloc<|sZ ⟨2,c,d,a⟩)<|dV<|t++a;rw[zzv]at this;exact this);intro i s A)|fail)
   go_end0;refine⟨rfl,?_,gI gF A⟩;have e:fW m ⟨2,c,d,a⟩=m.set c (some<|t++a):=by simp[fW,N.out]
   rw[e];exact s
structure mG.Ok(o:mG)(c:Nat):Prop where
 kind:o.kind=1\/o.kind=2\/o.kind=3\/o.kind=4
 name:o.name.size<=maxLen
 to:o.to.size<=maxLen
 data:o.data.size<=c
def cC.Le(m:cC)(c:Nat):Prop:=∀k t,m k=some t->t.size<=c
theorem sk(b n c:Nat)(m:cC)(o:mG)(w:World)(d:FileMap w b n m)(hn:n<maxLen)(a:o.Ok c)(f:c<=4096)(l:m.Le 549755813888):
  Calls prog 100 #[.map<|some b,Rt o] w λe w'=>e=.returned (.tuple #[])/\FileMap w' b (n+1) (fW m o)/\w.grownBy w' (some b):=by
 obtain h|h|h|h:=a.kind
 .exact Nr b n m o w d hn h a.name
 .refine KF b n m o w d hn h a.name ?_;have:=a.data;cases x:m o.name with
  |none=>simp;omega
  |some t=>have:=l _ _ x;simp;omega
 .exact KD b n m o w d h a.name
 .exact KE b n m o w d hn h a.name a.to
theorem Jk{m:cC}{c d:Nat}{o:mG}(h:m.Le d)(e:o.Ok c):(fW m o).Le (d+c):=by
 intro k t a;have f:=e.data;obtain b|b|b|b:=e.kind<;>simp only[fW,b]at a
 .by_cases x:k=o.name
  .subst x;simp[cC.set]at a;subst a;omega
  .simp[cC.set,x]at a;have:=h _ _ a;omega
 .by_cases x:k=o.name
  .subst x;simp[cC.set]at a;subst a;cases y:m o.name with
   |none=>simp;omega
   |some s=>have:=h _ _ y;simp;omega
  .simp[cC.set,x]at a;have:=h _ _ a;omega
 .by_cases x:k=o.name
  .subst x;simp[cC.set]at a
  .simp[cC.set,x]at a;have:=h _ _ a;omega
 .cases hs:m o.name with
  |none=>rw[hs]at a;simp at a;have:=h _ _ a;omega
  |some s=>
   rw[hs]at a;simp at a;by_cases x:k=o.name
   .subst x;simp[cC.set]at a
   .by_cases y:k=o.to
    .subst y;simp[cC.set,x]at a;subst a;have:=h _ _ hs;omega
    .simp[cC.set,x,y]at a;have:=h _ _ a;omega
def cf(n:Nat):Value:=if n=0 then .nilIface else .iface 44 (.int .i64 (n:Int))
theorem bK:cf 0=.nilIface:=rfl
theorem aG(h:n≠0):cf n=.iface 44 (.int .i64 (n:Int)):=by unfold cf;rw[if_neg h]
abbrev gv(D N:Nat)(v:Value)(l f:Int)(n:Bool):Obj:=.cells #[.map (some D),.map (some N),v,.int .i64 l,.int .i64 f,.bool n] 96
theorem ae(h:w.heap[p]?=some (.cells c t (0,0)))(i:Nat):w.cell? ⟨p,i,none⟩=c[i]?:=by simp[World.cell?,h]
theorem aj(h:w.heap[p]?=some (.cells c t (0,0)))(i:Nat):w.frozen? ⟨p,i,none⟩=false:=by simp[World.frozen?,h]
theorem ar(h:w.heap[p]?=some (.cells c t (0,0)))(i:Nat)(v:Value):(w.setCell ⟨p,i,none⟩ v).heap[p]?=some (.cells (c.setIfInBounds i v) t (0,0)):=by
 simp[World.setCell,Array.getElem?_modify,h]
theorem Fr.cD(h:p∈S)(i:Nat)(v:Value):Fr S w (w.setCell ⟨p,i,none⟩ v):=(Fr.refl S w).setCell (Or.inl h) v
theorem RQ{d:ah}(h:d.down=true\/d.left=0):d.writes=({ d with down:=true },10):=by unfold ah.writes;rw[if_pos h]
theorem RR{d:ah}(h:¬(d.down=true\/d.left=0))(hf:d.full=0):d.writes=({ d with left:=wrap64 (d.left-1),full:=-1 },9):=by unfold ah.writes;rw[if_neg h,if_pos hf]
theorem Nt{d:ah}(h:¬(d.down=true\/d.left=0))(hf:¬d.full=0):d.writes=({ d with left:=wrap64 (d.left-1),full:=wrap64 (d.full-1) },0):=by unfold ah.writes;rw[if_neg h,if_neg hf]
theorem Gm(p D N:Nat)(v:Value)(d:ah)(w:World)(h:w.heap[p]?=some (gv D N v d.left d.full d.down)):
  Calls prog 390 #[.pointer (some ⟨p,0,none⟩)] w λe w'=>e=.returned (cf d.writes.2)/\w'.heap[p]?=some (gv D N v d.writes.1.left d.writes.1.full d.writes.1.down)/\Fr [p] w w':=by
 have H:=af h;have c3:=ae h 3;have c4:=ae h 4;have c5:=ae h 5;have b:=aj h 3;have c:=aj h 4;have g:=aj h 5;simp at c3 c4 c5;clear h;obtain⟨u,o,i,l,f,n⟩:=d;simp only at c3 c4 c5 H;by_cases a:n=true\/l=0
 .rw[RQ a]
  go_enter func390,ntmps390
  rcases a with rfl|rfl
  .go_wp2;go_ret;exact⟨rfl,by have:=ar H.out 5 (.bool true);simpa using this,Fr.cD (by simp) _ _⟩
  .cases n
   .go_wp2;go_ret;exact⟨rfl,by have:=ar H.out 5 (.bool true);simpa using this,Fr.cD (by simp) _ _⟩
   .go_wp2;go_ret;exact⟨rfl,by have:=ar H.out 5 (.bool true);simpa using this,Fr.cD (by simp) _ _⟩
 .have hl:¬l=0:=λe=>a (Or.inr e)
  have x:n=false:=by cases n with|false=>rfl|true=>exact absurd (Or.inl rfl) a
  by_cases hf:f=0
  .rw[RR a hf];subst hf x
   go_enter func390,ntmps390
   go_wp2;go_ret;exact⟨rfl,by have:=ar (ar H.out 3 (.int .i64 (wrap64 (l-1)))) 4 (.int .i64 (-1));simpa using this,(Fr.cD (by simp) _ _).trans (Fr.cD (by simp) _ _)⟩
  .rw[Nt a hf];subst x
   go_enter func390,ntmps390
   go_wp2;go_ret;exact⟨rfl,by have:=ar (ar H.out 3 (.int .i64 (wrap64 (l-1)))) 4 (.int .i64 (wrap64 (f-1)));simpa using this,(Fr.cD (by simp) _ _).trans (Fr.cD (by simp) _ _)⟩
def gN(o:mG):List Value:=[.int .i64 (o.kind:Int),.string o.name,.string o.to,.string o.data]
def opsV(l:List mG):List Value:=l.flatMap gN
theorem KG(l:List mG)(o:mG):opsV (l++[o])=opsV l++gN o:=by simp[opsV]
theorem VW:(Tryz.prog.info? 182).map (λi=>(i.zero,i.size,i.bytes))=some (some<|.agg #[.int .i64 0,.string ByteArray.empty,.string ByteArray.empty,.string ByteArray.empty],4,56):=dJ
theorem gO{P:Program}{a:Act}{K:Act->World->Prop}{Q:Exit->Act->World->Prop}(s x:Operand)(t:TypeId)
  (C:o.op=.call {callee:=.builtin .append,args:=#[s,x],argTypes:=#[t,t]})
  (base:Nat) (e:TypeId) (i:TypeInfo) (z:Value) (size bytes:Nat) (F:P.underlying t=some (.slice e)) (y:P.info? e=some i) (I:i.zero=some z)
  (N:i.size=size) (l:i.bytes=bytes) (J:z.cells.size=size) (E:0<size)
  (v:Value) (n:Nat) (xs:List Value) (hs:a.eval s=v) (A:w.ownsRow base e size v n xs)
  (d:Addr) (m c:Nat) (news:List Value) (H:a.eval x=.slice (some d) m c) (B:news.length=m*size) (f:∀j u,news[j]?=some u->w.cell? (d.add j)=some u) (g:∀u∈news,u.oneCell'=true)
  (r:n+m<=maxLen) (G:(n+m)*bytes<=140737488355328) (L:base<=w.heap.size)
  (h:∀b w',w'.ownsRow base e size b (n+m) (xs++news)->w.grownBy w' v.ownBlock->(b.ownBlock=v.ownBlock\/b.ownBlock=some w.heap.size)->K (a.put o.dst b) w'):o.wp P a w K Q:=by
 have⟨b,w',D,k,p,_,q⟩:=run_append_own_at w base t o.type e i z size bytes F y I N l J E v n xs A d m c news B f g r G L;unfold Oper.wp execOp;simp only[C,resolve,invoke,builtin,Sem.run_bind,Sem.run_pure,Result.andThen_ok,List.map_toArray,List.map_cons,List.map_nil,hs,H,D];exact h b w' k p q
def bS(s:Nat)(v a:Value):Prop:=∀k,a.ownBlock=some k->v.ownBlock=some k\/s<=k
theorem bS.refl(s:Nat)(v:Value):bS s v v:=λ_ h=>.inl h
theorem bS.nil(s:Nat)(v:Value):bS s v (.slice none 0 0):=λk h=>by cases h
theorem bS.o_{s:Nat}{b:Value}(h:b.ownBlock=v.ownBlock\/b.ownBlock=some q)(c:s<=q):bS s v b:=λk a=>by
 obtain h|h:=h
 .left;rw[<-h];exact a
 .right;rw[h]at a;cases a;exact c
theorem iY{a:Act}{K:Act->World->Prop}{Q:Exit->Act->World->Prop}(s x:Operand)
  (d:o.op=.call {callee:=.builtin .append,args:=#[s,x],argTypes:=#[94,94]})
  (base:Nat) (v:Value) (n:Nat) (l:List mG) (r:mG) (b:Nat) (hs:a.eval s=v) (A:w.ownsRow base 182 4 v n<|opsV l) (e:a.eval x=.slice (some ⟨b,0,none⟩) 1 1)
  (hb:w.heap[b]?=some (sZ r)) (hn:n<=1073741824) (J:base<=w.heap.size)
  (h:∀c w',w'.ownsRow base 182 4 c (n+1) (opsV<|l++[r])->w.grownBy w' v.ownBlock->(c.ownBlock=v.ownBlock\/c.ownBlock=some w.heap.size)->K (a.put o.dst c) w'):o.wp prog a w K Q:=by
 have⟨p,i,g,j,k⟩:=info_parts VW;have M:=ae hb 0;have X:=ae hb 1;have f:=ae hb 2;have m:=ae hb 3;simp at M X f m;refine gO s x 94 d base 182 p _ 4 56 underlying94 i g j k rfl bM v n (opsV l) hs A (gz b) 1 1 (gN r) e rfl ?_ ?_ eA bL J ?_
 .intro jj u gS;match jj,gS with
  |0,gS=>simp[gN]at gS;subst gS;simpa [Addr.add]using M
  |1,gS=>simp[gN]at gS;subst gS;simpa [Addr.add]using X
  |2,gS=>simp[gN]at gS;subst gS;simpa [Addr.add]using f
  |3,gS=>simp[gN]at gS;subst gS;simpa [Addr.add]using m
 .intro u hu;simp[gN]at hu;obtain rfl|rfl|rfl|rfl:=hu<;>rfl
 .intro c w' s8 AF AG;refine h c w' ?_ AF AG;rw[KG];exact s8
structure ax(w:World)(B p bD bN:Nat)(pv:Value)(d:ah)(n nD nN:Nat):Prop where
 blk:w.heap[p]?=some (gv bD bN pv d.left d.full d.down)
 base:B<=p/\B<=bD/\B<=bN/\B<=w.heap.size
 ne:bD≠bN
 rz:FileMap w bD nD d.aZ
 now:FileMap w bN nN d.now
 pen:w.ownsRow B 182 4 pv d.pending.length (opsV d.pending)
 hD:nD+d.pending.length<=n
 hN:nN<=n
 hn:n<=67108864
 MR:d.aZ.Le (nD*4096)
 F6:d.now.Le (nN*4096)
 ops:∀o∈d.pending,o.Ok 4096
theorem FileMap.cH{m:cC}{fr:Nat×Nat}(h:FileMap w b n m)(a:w.heap[q]?=some (.cells c t fr)):b≠q:=by
 have⟨s,c',d⟩:=h.isMap;intro e;subst e;rw[d]at a;cases a
theorem aq{g:Nat}(h:w.ownsRow B e k v n xs)(a:v.ownBlock=some g):∃c,w.heap[g]?=some (.cells c e (0,0)):=by
 rcases h.2 with⟨rfl,_⟩|⟨d,p,r,rfl,_,b,_⟩
 .cases a
 .cases a;exact⟨r,b⟩
theorem bj{a:TypeId}{fr:Nat×Nat}(h:w.ownsRow B e k v n xs)(b:w.heap[q]?=some (.cells c a fr))(f:e≠a):v.ownBlock≠some q:=by
 intro g;have⟨c',d⟩:=aq h g;rw[d]at b;cases b;exact f rfl
abbrev dS(p D N:Nat)(v:Value):List Nat:=p :: D :: N :: v.ownBlock.toList
theorem aD(h:w.ownsRow B e k v n xs)(hf:Fr S w w')(hs:∀g,v.ownBlock=some g->g∉S):w'.ownsRow B e k v n xs:=by
 refine⟨h.1,?_⟩;obtain a|⟨g,cap,cur,rfl,h2,h3,h4⟩:=h.2
 .exact .inl a
 .exact .inr ⟨g,cap,cur,rfl,h2,(hf.block g (zza.1 h3).1<|hs g rfl).trans h3,h4⟩
theorem ax.fr{c:Nat}{d:ah}(h:ax w B p D N v d n b c)(hf:Fr S w w')(j:p∉S)(e:D∉S)(f:N∉S)(i:∀g,v.ownBlock=some g->g∉S)(a:∀q∈S,∀t,w.heap[q]?≠some (dV t)):ax w' B p D N v d n b c where
 blk:=(hf.block p (zza.1 h.blk).1 j).trans h.blk
 base:=⟨h.base.1,h.base.2.1,h.base.2.2.1,zzk h.base.2.2.2 hf.size⟩;ne:=h.ne;rz:=h.rz.fr hf e a;now:=h.now.fr hf f a;pen:=aD h.pen hf i;hD:=h.hD;hN:=h.hN;hn:=h.hn
 MR:=h.MR
 F6:=h.F6
 ops:=h.ops
theorem ax.new{a:Nat}{d:ah}(h:ax w B p D N v d n a b)(hf:Fr [] w w'):ax w' B p D N v d n a b:=
 h.fr hf bR bR bR bR bR
theorem ax.more{a:Nat}{d:ah}(h:ax w B p D N v d n a b)(hn:n<67108864):ax w B p D N v d (n+1) a b:=
 {h with hD:=by have:=h.hD;omega,hN:=by have:=h.hN;omega,hn:=bL}
theorem ax.ic{c i:Nat}{d:ah}(h:ax w B p D N v d n c i)(hf:Fr [p] w w')(l f:Int)(b:Bool)(hb:w'.heap[p]?=some (gv D N v l f b)):
  ax w' B p D N v {d with left:=l,full:=f,down:=b} n c i where
 blk:=hb
 base:=⟨h.base.1,h.base.2.1,h.base.2.2.1,zzk h.base.2.2.2 hf.size⟩;ne:=h.ne;rz:=h.rz.fr hf (by simp;exact h.rz.cH h.blk)<|by intro q a t;simp at a;subst a;rw[h.blk];intro e;cases e
 now:=h.now.fr hf (by simp;exact h.now.cH h.blk)<|by intro q a t;simp at a;subst a;rw[h.blk];intro e;cases e
 pen:=aD h.pen hf λg j=>by simp;intro e;subst e;exact bj h.pen h.blk bM j
 hD:=h.hD;hN:=h.hN;hn:=h.hn
 MR:=h.MR
 F6:=h.F6
 ops:=h.ops
theorem pW(d:ah):d.writes.1={d with left:=d.writes.1.left,full:=d.writes.1.full,down:=d.writes.1.down}:=by
 unfold ah.writes;split
 .rfl
 .split<;>rfl
theorem lM(B p D N n a b:Nat)(v:Value)(d:ah)(w:World)(h:ax w B p D N v d n a b):
  Calls prog 390 #[.pointer<|some ⟨p,0,none⟩] w λe w'=>e=.returned (cf d.writes.2)/\ax w' B p D N v d.writes.1 n a b/\Fr [p] w w':=by
 apply(Gm p D N v d w h.blk).mono;rintro e w' ⟨rfl,h1,h2⟩;refine⟨rfl,?_,h2⟩;rw[pW];exact h.ic h2 _ _ _ h1
end Go.Proofs.YtcalalndmcemiaaGreatDoor
