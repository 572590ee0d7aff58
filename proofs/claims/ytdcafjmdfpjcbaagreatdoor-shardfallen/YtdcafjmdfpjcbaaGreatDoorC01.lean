import Derived.Test.YtdcafjmdfpjcbaaGreatDoorProg
import Derived.WalkSpells
import Derived.WalkLawsBesides
import Derived.Maps.Ext
import Derived.Sort.KeysCollected
import Derived.Deep.RegionHeld3
set_option maxHeartbeats 1000000
set_option maxRecDepth 100000
namespace Go.Proofs.YtdcafjmdfpjcbaaGreatDoor
open Go.RowKit Go.Maps Tryz
variable{p:Prop}
theorem ae(h:p):Hid p:=h
abbrev zza:=@Array.getElem?_eq_some_iff
abbrev zzb:=@And.intro
abbrev zzc:=@Nat.le_refl
abbrev zzd:=@List.getElem?_eq_some_iff
abbrev zze:=@World.cell?_of_block
abbrev zzf:=@Below.heap_alloc
abbrev zzg:=@List.getElem?_eq_getElem
abbrev zzh:=@List.mem_of_getElem?
abbrev zzi:=@List.length_append
abbrev zzj:=@List.mem_cons
abbrev zzk:=@Nat.le_trans
abbrev zzl:=@Nat.lt_of_lt_of_le
abbrev zzm:=@List.length_take
abbrev zzn:=@List.length_map
abbrev zzo:=@List.mem_append
abbrev zzp:=@List.mem_filter
abbrev zzq:=@List.mem_map
abbrev zzr:=@List.length_cons
abbrev zzs:=@Nat.zero_le
abbrev zzt:=@List.take_of_length_le
abbrev zzu:=@World.ownsRow_nil
abbrev zzv:=@World.size_alloc
abbrev zzw:=@World.frozen?_of_block
abbrev zzx:=@List.append_assoc
abbrev zzy:=@List.getElem?_map
abbrev zzz:=@List.length_drop
abbrev zzA:=@List.pairwise_cons
abbrev zzB:=@List.mem_iff_getElem?
abbrev zzC:=@Nat.le_succ
abbrev zzD:=@Below.refl
abbrev zzE:=@List.length_pos_iff
abbrev zzF:=@World.block_lt_of_cell?
theorem oE(h:p:=by omega):p:=h
theorem dN(h:p:=by decide):p:=h
theorem sE(h:p:=by simp):p:=h
theorem sC(h:p:=by simp;omega):p:=h
theorem k6(h:p:=by kernel_rfl):p:=h
theorem iS(h:p:=by rw[IntKind.wrap_i64];omega):p:=h
theorem mE(h:p:=by unfold maxLen;omega):p:=h
theorem pE(h:p:=by assumption):p:=h
theorem nF(h:p:=by go_num):p:=h
theorem iG(h:p:=by simp[intOf];omega):p:=h
theorem gE{α}{a b:α}(h:a=b:=by kernel_rfl):some a=some b:=congrArg some h
theorem xY{α}(a:α):∃x,x=a:=⟨_,rfl⟩
abbrev hC(w:World):=w.heap.size
abbrev rM(k:Nat):Value:=.pointer (some ⟨k,0,none⟩)
abbrev dH(k:Nat):Addr:=⟨k,0,none⟩
abbrev d8(k i:Nat):Addr:=⟨k,i,none⟩
abbrev yA:=ByteArray.empty
abbrev mA:=@List.setIfInBounds_toArray
abbrev mC:=@List.set_cons_zero
abbrev mI:=@List.set_cons_succ
abbrev mJ:=@List.size_toArray
abbrev mV:=@List.length_nil
abbrev m7:=@Array.replicate_succ
abbrev m8:=@Array.replicate_zero
abbrev n8:=@List.push_toArray
abbrev oS:=@List.append_toArray
abbrev p5:=@List.nil_append
abbrev qS:=@List.cons_append
end Go.Proofs.YtdcafjmdfpjcbaaGreatDoor
namespace Go.Proofs.YtdcafjmdfpjcbaaGreatDoor.Sc
def half(c:Nat):Nat:=if c%2=1 then (c/2) ^^^ 3988292384 else c/2
def ee:Nat->Nat->Nat
 |0,c=>c
 |k+1,c=>half (ee k c)
def uM(c:Nat)(l:List Nat):Nat:=l.foldl (λc b=>ee 8 (c ^^^ b)) c
def EX(l:List Nat):Nat:=4294967295 ^^^ uM 4294967295 l
theorem Pt(a b:Nat):(a^^^b)/2=a/2^^^b/2:=by
 have:=Nat.shiftRight_xor_distrib (a:=a) (b:=b) (i:=1);simpa [Nat.shiftRight_eq_div_pow]using this
theorem Pv(a b:Nat):(a^^^b)%2=(a+b)%2:=by
 have h:=Nat.xor_mod_two_pow (a:=a) (b:=b) (n:=1);rw[show(2:Nat)^1=2 from rfl]at h;rw[h];obtain d|d:=Nat.mod_two_eq_zero_or_one a<;>obtain c|c:=Nat.mod_two_eq_zero_or_one b<;>rw[d,c]<;>simp<;>omega
theorem Pw(a b:Nat):half (a^^^b)=half a^^^half b:=by
 unfold half;have h:=Pt a b;have e:=Pv a b;rw[h,e];obtain d|d:=Nat.mod_two_eq_zero_or_one a<;>obtain c|c:=Nat.mod_two_eq_zero_or_one b
 .grind
 .grind
 .grind
 .grind
theorem Im(k a b:Nat):ee k (a^^^b)=ee k a^^^ee k b:=by
 induction k with
 |zero=>rfl
 |succ k ih=>grind[ee,Pw]
theorem DD(k d:Nat):ee k (2^k*d)=d:=by
 induction k generalizing d with
 |zero=>simp[ee]
 |succ k ih=>
  have e:2^(k+1)*d=2^k*(2*d):=by grind
  rw[e];simp only[ee,ih];unfold half;rw[if_neg oE];omega
theorem TM(c:Nat)(h:c<4294967296):half c<4294967296:=by
 unfold half;have a:c/2<2^32:=oE;split
 .exact Nat.xor_lt_two_pow a dN
 .exact a
theorem q_(k c:Nat)(h:c<4294967296):ee k c<4294967296:=by
 induction k with
 |zero=>exact h
 |succ k ih=>exact TM _ ih
theorem E9(a b:Nat)(c:a<4294967296)(h:b<4294967296):a^^^b<4294967296:=Nat.xor_lt_two_pow (n:=32) c h
theorem K_(a b:Nat)(c:a<256)(h:b<256):a^^^b<256:=Nat.xor_lt_two_pow (n:=8) c h
theorem XB(s:Nat):s=(s%256)^^^(256*(s/256)):=by
 refine Nat.eq_of_testBit_eq λi=>?_
 rw[Nat.testBit_xor,show(256:Nat)=2^8 from rfl,Nat.testBit_mod_two_pow,Nat.testBit_two_pow_mul,Nat.testBit_div_two_pow];by_cases h:i<8
 .grind
 .grind
def E_(s b:Nat):Nat:=ee 8 ((s%256) ^^^ b) ^^^ (s/256)
theorem E'(s b:Nat):E_ s b=ee 8 (s^^^b):=by
 have e:s^^^b=((s%256)^^^b)^^^(256*(s/256)):=by grind[XB]
 rw[e,Im,show(256:Nat)=2^8 from rfl,DD];rfl
theorem Cp(c:Nat)(l:List Nat)(b:Nat):uM c (l++[b])=ee 8 (uM c l^^^b):=by simp[uM]
theorem DE(c:Nat)(l:List Nat)(h:c<4294967296)(a:∀b∈l,b<256):uM c l<4294967296:=by
 induction l generalizing c with
 |nil=>exact h
 |cons b l ih=>
  have e:b<256:=a b sE;show uM (ee 8<|c^^^b) l<_;exact ih _ (q_ _ _<|E9 _ _ h oE) λx d=>a x<|by simp[d]
theorem Px(l:List Nat)(h:∀b∈l,b<256):EX l<4294967296:=E9 _ _ dN<|DE _ _ dN h
/-! acd as bytes,the ace first -/
def digit(k n j:Nat):Nat:=n/256 ^ (k-1-j)%256
def be(k n:Nat):List Nat:=(List.range k).map (digit k n)
def val(l:List Nat):Nat:=l.foldl (λn b=>n*256+b) 0
theorem eY(k n:Nat):(be k n).length=k:=by simp[be]
theorem Fa(k n:Nat):∀b∈be k n,b<256:=by grind[be,digit]
theorem qi(l:List Nat)(b:Nat):val (l++[b])=val l*256+b:=by simp[val]
theorem TN(l:List Nat)(n:Nat)(h:∀b∈l,b<256):l.foldl (λn b=>n*256+b) n<(n+1)*256^l.length:=by
 induction l generalizing n with
 |nil=>simp
 |cons b l ih=>
  have d:=h b sE;have a:=ih (n*256+b) (λx c=>h x<|by simp[c]);apply zzl a;rw[zzr,Nat.pow_succ,Nat.mul_comm (256^l.length) 256,<-Nat.mul_assoc];exact Nat.mul_le_mul_right _ oE
theorem oV(l:List Nat)(h:∀b∈l,b<256):val l<256^l.length:=by
 have:=TN l 0 h;simpa [val]using this
theorem Io(k n j:Nat)(h:j<=k):val ((List.range j).map<|digit k n)=n/256^(k-j)%256^j:=by
 induction j with
 |zero=>grind[val]
 |succ j ih=>
  rw[List.range_succ,List.map_append,List.map_singleton,qi,ih oE];unfold digit;have e:k-j=(k-(j+1))+1:=oE
  have a:k-1-j=k-(j+1):=oE;rw[e,a,Nat.pow_succ,<-Nat.div_div_eq_div_mul];generalize n/256^(k-(j+1))=m;rw[Nat.pow_succ,Nat.mul_comm (256^j) 256,Nat.mod_mul];omega
theorem qj(k n:Nat)(h:n<256^k):val (be k n)=n:=by
 have:=Io k n k<|zzc _;rw[Nat.sub_self,Nat.pow_zero,Nat.div_one,Nat.mod_eq_of_lt h]at this;exact this
end Go.Proofs.YtdcafjmdfpjcbaaGreatDoor.Sc
namespace Go.Proofs.YtdcafjmdfpjcbaaGreatDoor
open Go.RowKit Go.Maps Tryz
section
open Sc
variable{l xs:List Nat}{B b base f g n p:Nat}{c w w' w2:World}
def at_(l:List Nat)(i:Nat):Nat:=l.getD i 0
def k9(l:List Nat):Prop:=∀x∈l,x<256
theorem Cq(h:k9 l)(i:Nat):at_ l i<256:=by
 unfold at_;by_cases a:i<l.length
 .have:=h _<|List.getElem_mem a;simpa [a]using this
 .grind
theorem k9.pJ(h:k9 l)(n:Nat):k9 (l.take n):=λx a=>h x<|List.mem_of_mem_take a
theorem rh(l:List Nat)(k:Nat)(h:k<l.length):l.take (k+1)=l.take k++[at_ l k]:=by
 rw[List.take_succ_eq_append_getElem h];simp[at_,h]
def bs(l:List Nat):List Value:=l.map λx:Nat=>.int .u8 (x:Int)
theorem Ip(l:List Nat):(bs l).length=l.length:=by simp[bs]
theorem Iq(a b:List Nat):bs (a++b)=bs a++bs b:=by simp[bs]
theorem We(l:List Nat)(i:Nat)(h:i<l.length):(bs l)[i]?=some (.int .u8 (at_ l i:Nat)):=by simp[bs,at_,h]
def cZ(w:World)(g f:Nat)(l:List Nat):Prop:=∀i,i<l.length->w.cell? (d8 g (f+i))=some (.int .u8 (at_ l i:Nat))
theorem cZ.below(h:cZ w g f l)(c:Below B w w')(b:g<B):cZ w' g f l:=λi a=>by
 rw[c.cell b];exact h i a
theorem qk{o:Obj}(h:b<w.heap.size):cZ (w.alloc o) b f l↔cZ w b f l:=by
 unfold cZ;constructor
 .intro k i hi;have:=k i hi;rwa [World.cell?_alloc_lt _ _ (d8 b (f+i)) h]at this
 .intro k i hi;rw[World.cell?_alloc_lt _ _ (d8 b (f+i)) h];exact k i hi
theorem cZ.lt(h:cZ w b f l)(a:0<l.length):b<w.heap.size:=by
 exact zzF w (d8 b (f+0))<|h 0 a
theorem cZ.sub(h:cZ w b f l)(o m:Nat)(c:o+m<=l.length):cZ w b (f+o) ((l.drop o).take m):=λi a=>by
 simp only[zzm,zzz]at a;have:=h (o+i) oE;rw[show f+o+i=f+(o+i) by omega,this];congr 3;simp[at_,List.getElem?_drop,show i<m by omega]
theorem eh(w:World)(r:Option Nat):w.grownBy w r:=⟨rfl,rfl,rfl,zzc _,λ_ _ _=>rfl⟩
theorem aW{b:World}{r:Option Nat}(h:w.grownBy b r)(k:b.grownBy w2 r):w.grownBy w2 r:=
 ⟨k.os.trans h.os,k.tape.trans h.tape,k.output.trans h.output,zzk h.size k.size,λi a hn=>(k.block i (zzl a h.size) hn).trans<|h.block i a hn⟩
theorem ri(w:World)(b o:Nat)(v:Value):w.grownBy (w.setCell (d8 b o) v) (some b):=
 ⟨rfl,rfl,rfl,by simp[World.setCell],λk _ hn=>Below.heap_setCell _ _ _ _ λe=>hn<|by rw[e]⟩
theorem cw{a:World}{r:Option Nat}(h:w.grownBy a r):w.grownBy a.drew r:=⟨h.os,h.tape,h.output,h.size,h.block⟩
theorem mz(h:w.grownBy c<|some b){a:Addr}(hn:a.block≠b)(l:a.block<w.heap.size):c.cell? a=w.cell? a:=
 zze (h.block a.block l λe=>hn<|Option.some.inj e)
theorem di(w:World)(o:Obj)(r:Option Nat):w.grownBy (w.alloc o) r:=World.grownBy_alloc w o r
theorem TP{v:Value}(h:w.ownsRow base 5 1 v n<|bs xs):xs.length=n:=by
 have:=h.1;rw[Ip]at this;omega
theorem uN(h:w.ownsRow base 5 1 (.slice (some<|dH g) n p) n<|bs xs):cZ w g 0 xs:=λi a=>by
 have:=h.cells rfl i _<|We xs i a
 simpa [Addr.add_lit]using this
theorem ql(h:w.ownsRow base 5 1 (.slice (some<|dH g) n p) n<|bs xs):base<=g/\g<w.heap.size:=h.lt g rfl
theorem MH(h:w.grownBy c<|some b)(k:c.grownBy w2<|some g)(f:B<=b)(e:B<=g)(d:B<=w.heap.size):Below B w w2:=
 ((zzD B w).grown h d λq a=>by cases a;exact f).grown k (zzk d h.size) (λq a=>by cases a;exact e)
theorem Cr(h:cZ w g f l)(j:w.grownBy w'<|some b)(e:g≠b):cZ w' g f l:=λi d=>by
 have c:=h i d;rw[mz j e<|zzF w _ c];exact c
theorem cZ.drewN(h:cZ w b f l)(q:Nat):cZ (w.drewN q) b f l:=λi a=>by
 simpa using h i a
theorem uO:(Tryz.prog.info? 5).map (λi=>(i.zero,i.size,i.bytes))=some (some<|.int .u8 0,1,1):=k6
end
variable{S T:List Nat}{rest:List Oper}{b n q:Nat}{o:Oper}{v:Value}{a c w w':World}
abbrev az:=ByteArray->Option ByteArray
def az.set(m:az)(k:ByteArray)(v:Option ByteArray):az:=λx=>if x=k then v else m x
theorem az.jk(m:az)(k:ByteArray)(v:Option ByteArray):m.set k v k=v:=by simp[az.set]
theorem az.cP(m:az){k x:ByteArray}(v:Option ByteArray)(h:x≠k):m.set k v x=m x:=by simp[az.set,h]
structure iD where
 kind:Nat
 name:ByteArray
 to:ByteArray
 data:ByteArray
def cV(m:az)(o:iD):az :=
 if o.kind=1 then m.set o.name (some o.data)
 else if o.kind=2 then m.set o.name (some ((m o.name).getD yA++o.data))
 else if o.kind=3 then m.set o.name none
 else if o.kind=4 then (match m o.name with|none=>m|some s=>(m.set o.to (some s)).set o.name none)
 else m
structure ah where
 ai:az
 now:az
 pending:List iD
 left:Int
 full:Int
 down:Bool
def ah.writes(d:ah):ah × Nat :=
 if d.down=true\/d.left=0 then ({ d with down:=true },10)
 else if d.full=0 then ({ d with left:=wrap64 (d.left-1),full:=-1 },9)
 else ({ d with left:=wrap64 (d.left-1),full:=wrap64 (d.full-1) },0)
def ah.tell(d:ah)(o:iD):ah × Nat :=
 let r:=d.writes
 if r.2=10 then ({ r.1 with pending:=r.1.pending++[o] },10)
 else if r.2=9 then (r.1,9)
 else if r.1.now o.name=none/\2<o.kind then (r.1,8)
 else if o.kind=4/\o.name=o.to then (r.1,0)
 else ({ r.1 with now:=cV r.1.now o,pending:=r.1.pending++[o] },0)
def ah.sync(d:ah):ah × Nat :=
 let r:=d.writes
 if r.2=0 then ({ r.1 with ai:=r.1.pending.foldl cV r.1.ai,pending:=[] },0) else r
/-! ### blocks that may be written -/
structure Fr(S:List Nat)(w w':World):Prop where
 os:w'.os=w.os
 tape:w'.tape=w.tape
 output:w'.output=w.output
 size:w.heap.size<=w'.heap.size
 block:∀k,k<w.heap.size->k∉S->w'.heap[k]?=w.heap[k]?
theorem Fr.refl(S:List Nat)(w:World):Fr S w w:=⟨rfl,rfl,rfl,zzc _,λ_ _ _=>rfl⟩
theorem lE(w:World):Fr [] w w:=Fr.refl [] w
theorem Fr.trans{b:World}(h:Fr S a b)(k:Fr S b c):Fr S a c:=
 ⟨k.os.trans h.os,k.tape.trans h.tape,k.output.trans h.output,zzk h.size k.size,λi d hn=>(k.block i (zzl d h.size) hn).trans<|h.block i d hn⟩
theorem Fr.mono{b:World}(h:Fr S a b)(s:∀k,k<a.heap.size->k∈S->k∈T):Fr T a b:=
 ⟨h.os,h.tape,h.output,h.size,λk c hn=>h.block k c λm=>hn<|s k c m⟩
theorem Fr.andThen{b:World}(h:Fr S a b)(k:Fr T b c)(t:∀j,j∈T->j<a.heap.size->j∈S):Fr S a c:=
 ⟨k.os.trans h.os,k.tape.trans h.tape,k.output.trans h.output,zzk h.size k.size,λi d hn=>(k.block i (zzl d h.size) λm=>hn<|t i m d).trans<|h.block i d hn⟩
theorem Fr.dc{r:Option Nat}(h:w.grownBy w' r):Fr r.toList w w':=
 ⟨h.os,h.tape,h.output,h.size,λk a hn=>h.block k a λe=>hn<|by rw[<-e];simp⟩
theorem Fr.bK(h:w.grownBy w'<|some b):Fr [b] w w':=Fr.dc h
theorem Fr.bw(h:Below w.heap.size w w')(S:List Nat):Fr S w w':=
 ⟨h.os,h.tape,h.output,h.size,λk a _=>h.block k a⟩
theorem Fr.below{B:Nat}(h:Fr S w w')(b:B<=w.heap.size)(s:∀k,k∈S->B<=k):Below B w w':=
 ⟨h.os,h.tape,h.output,h.size,λk a=>h.block k (zzl a b) λm=>by have:=s k m;omega⟩
theorem Fr.XC(h:Fr [b] w w'):w.grownBy w' (some b):=
 ⟨h.os,h.tape,h.output,h.size,λk a hn=>h.block k a λm=>hn<|by simp at m;rw[m]⟩
theorem Fr.alloc(h:Fr S a w)(o:Obj):Fr S a (w.alloc o):=
 h.trans ⟨rfl,rfl,rfl,sE,λk b _=>zzf _ _ _ b⟩
theorem Fr.drew(h:Fr S a w):Fr S a w.drew:=⟨h.os,h.tape,h.output,h.size,h.block⟩
theorem Fr.setCell(h:Fr S a w){p:Addr}(hp:p.block∈S\/a.heap.size<=p.block)(u:Value):Fr S a (w.setCell p u):=
 ⟨h.os,h.tape,h.output,zzk h.size<|by simp[World.setCell],λk b hn=>(Below.heap_setCell _ _ _ _ λe=>by obtain hp|hp:=hp;exact hn<|e▸hp;omega).trans<|h.block k b hn⟩
theorem fR(h:Fr S a w):∀k,Fr S a<|w.drewN k
 |0=>h
 |k+1=>(fR h k).drew
/-! ### a map of files -/
def cY(v:Value):Option (DataW Unit × List MemPlace) :=
 match v with
 |.pointer (some a)=>if a.off=0/\a.spot=none then some (.lit (.int .i64 (a.block:Int)),[]) else none
 |.pointer none=>some (.lit (.int .i64 (-1)),[])
 |_=>none
theorem Ir(q:Nat):cY (rM q)=some (.lit<|.int .i64 (q:Int),[]):=by simp[cY]
theorem xV:cY (.pointer none)=some (.lit<|.int .i64<|-1,[]):=rfl
theorem xW{p:List MemPlace}(h:cY v=some (.lit<|.int .i64 (q:Int),p)):v=(rM q):=by
 unfold cY at h;split at h
 .rename_i a;split at h
  .rename_i hc;have⟨b,o,s⟩:=a;simp at h hc;obtain⟨rfl,rfl⟩:=hc;simp
  .cases h
 .simp at h
 .cases h
theorem yF{s:List MemPlace}(h:cY v=some (.lit<|.int .i64<|-1,s)):v=.pointer none:=by
 unfold cY at h;split at h
 .grind
 .rfl
 .cases h
theorem sP{y:DataW Unit×List MemPlace}(h:cY v=some y):∃c,v=Value.pointer c:=by
 unfold cY at h;split at h
 .grind
 .grind
 .cases h
abbrev gK(k:ByteArray):Lit:=.string k.data.toList
theorem qm{a b:ByteArray}(h:gK a=gK b):a=b:=by
 simp only[gK,Lit.string.injEq]at h;have⟨a⟩:=a;have⟨b⟩:=b;simp at h;rw[h]
theorem uP:Keyed prog 9:=Go.Maps.string_keyed underlying9
theorem La(w:World):(zeroValue 109).run prog w=.ok (.pointer none) w:=k6
abbrev fS(t:ByteArray):Obj:=.cells #[.string t] 9
def FileMap(w:World)(b n:Nat)(m:az):Prop :=
 ∃D:DataW Unit,w.ownsMap prog 9 cY b n D/\∀k:ByteArray,
  (m k=none->Maps.has D (gK k)=false) /\
  (∀t,m k=some t->Maps.has D (gK k)=true/\k.size<=maxLen/\∃q:Nat,(∀z,D.atKey (gK k) z=.lit (.int .i64 (q:Int)))/\w.heap[q]?=some (fS t))
theorem FileMap.lt{m:az}(h:FileMap w b n m):b<w.heap.size:=by
 have⟨D,h,_⟩:=h;exact h.lt
theorem FileMap.mono{n':Nat}{m:az}(h:FileMap w b n m)(hn:n<=n'):FileMap w b n' m:=by
 have⟨D,h,a⟩:=h;exact⟨D,h.mono hn,a⟩
theorem FileMap.isMap{m:az}(h:FileMap w b n m):∃es c,w.heap[b]?=some (.map es c):=by
 have⟨D,⟨es,c,h,_⟩,_⟩:=h;exact⟨es,c,h⟩
theorem FileMap.fr{m:az}(h:FileMap w b n m)(f:Fr S w w')(p:b∉S)(s:∀q∈S,∀t,w.heap[q]?≠some (fS t)):FileMap w' b n m:=by
 have P:=h.lt;have⟨D,⟨es,c,i,r,o,e⟩,d⟩:=h;refine⟨D,⟨es,c,(f.block b P p).trans i,r,o,e⟩,λk=>⟨(d k).1,λt u=>?_⟩⟩;have⟨g,j,q,v,a⟩:=(d k).2 t u;refine⟨g,j,q,v,?_⟩;rw[f.block q (zza.1 a).1 λl=>s q l t a];exact a
theorem FileMap.alloc{m:az}(h:FileMap w b n m)(o:Obj):FileMap (w.alloc o) b n m:=
 h.fr ((lE w).alloc o) sE sE
theorem FileMap.made(w:World):FileMap (w.alloc<|.map #[] 0) w.heap.size 0 (λ_=>none):=
 ⟨.map [],World.ownsMap_made _ _ _ _,λk=>⟨λ_=>rfl,λt h=>by cases h⟩⟩
theorem FileMap.look{m:az}(h:FileMap w b n m)(k:ByteArray)(g:k.size<=maxLen):
  (m k=none/\(Instr.lookup 55 (.map<|some b) (.string k) true).run prog w=.ok (.tuple #[.pointer none,.bool false]) w) \/
  (∃t q,m k=some t/\w.heap[q]?=some (fS t)/\(Instr.lookup 55 (.map<|some b) (.string k) true).run prog w=.ok (.tuple #[rM q,.bool true]) w):=by
 have⟨D,d,f⟩:=h;have⟨v,s,r,a⟩:=d.look_ok uP underlying55 (La w) xV<|Go.WideMaps.keyOf_string_mk underlying9 g
 cases e:m k with
 |none=>
  left;have c:=(f k).1 e;have Q:=c;rw[Maps.atKey_of_not_has Q]at a;obtain rfl:=yF a;rw[Q]at r;exact⟨rfl,r⟩
 |some t=>grind[xW]
theorem FileMap.aab{m:az}(h:FileMap w b n m)(k t:ByteArray)(f:m k=some t):
  ∃q,w.heap[q]?=some (fS t)/\(Instr.lookup 55 (.map<|some b) (.string k) false).run prog w=.ok (rM q) w:=by
 have⟨D,d,e⟩:=h;have⟨i,z,q,g,c⟩:=(e k).2 t f;have⟨v,s,r,a⟩:=d.lookup uP underlying55 (La w) xV<|Go.WideMaps.keyOf_string_mk underlying9 z;rw[g]at a;obtain rfl:=xW a;exact⟨q,c,r⟩
theorem FileMap.put{m:az}{D:DataW Unit}(j:∀k:ByteArray,(m k=none->Maps.has D (gK k)=false)/\(∀t,m k=some t->Maps.has D (gK k)=true/\k.size<=maxLen/\∃q:Nat,(∀z,D.atKey (gK k) z=.lit (.int .i64 (q:Int)))/\w.heap[q]?=some (fS t)))
  (g:w.ownsMap prog 9 cY b n D) (k:ByteArray) (u:k.size<=maxLen) (q:Nat) (t:ByteArray) (o:w.heap[q]?=some (fS t))
  (y:w'.ownsMap prog 9 cY b (n+1)<|D.put (gK k)<|.lit<|.int .i64 (q:Int)) (s:w.grownBy w'<|some b):FileMap w' b (n+1) (m.set k<|some t):=by
 have i:=g.isMap;have B:WideAt.IsKeyLit (gK k):=trivial;have keep:∀(q:Nat) (t:ByteArray),w.heap[q]?=some (fS t)->w'.heap[q]?=some (fS t):=λq t h=>by
  rw[s.block q (zza.1 h).1 λe=>by cases e;have⟨es,c,v,_⟩:=g;rw[v]at h;cases h];exact h
 refine⟨_,y,λx=>?_⟩;by_cases f:x=k
 .subst f;rw[az.jk];refine⟨λh=>(by simp at h),λd h=>?_⟩;obtain rfl:t=d:=Option.some.inj h;exact⟨Maps.has_put_same i B _,u,q,λz=>Maps.atKey_put_same i B _ z,keep _ _ o⟩
 .rw[az.cP _ _ f];have a:gK x≠gK k:=λe=>f<|qm e
  refine⟨λh=>by rw[Maps.has_put_other a];exact(j x).1 h,λd h=>?_⟩;have⟨p,l,A,C,r⟩:=(j x).2 d h;exact⟨by rw[Maps.has_put_other a];exact p,l,A,λz=>by rw[Maps.atKey_put_other a];exact C z,keep _ _ r⟩
theorem FileMap.del{m:az}{D:DataW Unit}(g:∀k:ByteArray,(m k=none->Maps.has D (gK k)=false)/\(∀t,m k=some t->Maps.has D (gK k)=true/\k.size<=maxLen/\∃q:Nat,(∀z,D.atKey (gK k) z=.lit (.int .i64 (q:Int)))/\w.heap[q]?=some (fS t)))
  (p:w.ownsMap prog 9 cY b n D) (k:ByteArray)
  (s:w'.ownsMap prog 9 cY b n<|D.del<|gK k) (r:w.grownBy w'<|some b):FileMap w' b n (m.set k none):=by
 have keep:∀(q:Nat) (t:ByteArray),w.heap[q]?=some (fS t)->w'.heap[q]?=some (fS t):=λq t h=>by
  rw[r.block q (zza.1 h).1 λe=>by cases e;have⟨es,c,l,_⟩:=p;rw[l]at h;cases h];exact h
 refine⟨_,s,λx=>?_⟩;by_cases d:x=k
 .subst d;rw[az.jk];exact⟨λ_=>Maps.has_del_same,λf h=>by cases h⟩
 .rw[az.cP _ _ d];have a:gK x≠gK k:=λe=>d<|qm e
  refine⟨λh=>by rw[Maps.has_del_other a];exact(g x).1 h,λf h=>?_⟩;have⟨i,o,u,v,j⟩:=(g x).2 f h;exact⟨by rw[Maps.has_del_other a];exact i,o,u,λz=>by rw[Maps.atKey_del_other a];exact v z,keep _ _ j⟩
theorem hZ{ops:Array Oper}{a:Act}{Q:Exit->Act->World->Prop}(g:o.guard=none)(m x v:Operand)(B:o.op=Op.mapUpdate 55 m x v)
  (b n:Nat) (F:az) (f:a.eval m=.map (some b)) (p:FileMap w b n F) (hn:n<maxLen) (k:ByteArray) (c:k.size<=maxLen) (e:a.eval x=.string k) (q:Nat) (t:ByteArray) (d:a.eval v=(rM q)) (i:w.heap[q]?=some (fS t))
  (K:∀w',FileMap w' b (n+1) (F.set k<|some t)->w.grownBy w' (some b)->wpList prog ops Q rest (a.put o.dst undef) w'):wpList prog ops Q (o::rest) a w:=by
 have⟨D,h,l⟩:=p;apply wpList_mapUpdate_own w g m x v _ B 9 109 uP underlying55 cY b n D f h hn _ _ (gK k) e d (Go.WideMaps.keyOf_string_mk underlying9 c) _ [] (Ir q);intro w' r j;exact K w' (FileMap.put l h k c q t i r j) j
theorem pK{ops:Array Oper}{a:Act}{Q:Exit->Act->World->Prop}(g:o.guard=none)(m x:Operand)(B:o.op=Op.call {callee:=Callee.builtin Builtin.delete,args:=#[m,x],argTypes:=#[55,9]})
  (b n:Nat) (F:az) (d:a.eval m=.map (some b)) (f:FileMap w b n F) (k:ByteArray) (j:k.size<=maxLen) (c:a.eval x=.string k)
  (K:∀w',FileMap w' b n (F.set k none)->w.grownBy w' (some b)->wpList prog ops Q rest (a.put o.dst<|.tuple #[]) w'):wpList prog ops Q (o::rest) a w:=by
 have⟨D,h,e⟩:=f;apply wpList_delete_own w g m x _ _ B 109 uP underlying55 cY b n D d h _ (gK k) c (Go.WideMaps.keyOf_string_mk underlying9 j);intro w' i t;exact K w' (FileMap.del e h k i t.grown) t.grown
abbrev Tu(o:iD):Value:=.agg #[.int .i64 (o.kind:Int),.string o.name,.string o.to,.string o.data]
abbrev uQ(o:iD):Obj:=.cells #[.int .i64 (o.kind:Int),.string o.name,.string o.to,.string o.data] 162
theorem fC{ops:Array Oper}{a:Act}{Q:Exit->Act->World->Prop}(g:o.guard=none)(m x:Operand)(B:o.op=Op.lookup 55 m x true)
  (b n:Nat) (F:az) (f:a.eval m=.map (some b)) (i:FileMap w b n F) (k:ByteArray) (j:k.size<=maxLen) (e:a.eval x=.string k)
  (hN:F k=none->wpList prog ops Q rest (a.put o.dst<|.tuple #[.pointer none,.bool false]) w)
  (S:∀t q,F k=some t->w.heap[q]?=some (fS t)->wpList prog ops Q rest (a.put o.dst<|.tuple #[rM q,.bool true]) w):wpList prog ops Q (o::rest) a w:=by
 refine wpList_plain g λK d=>?_
 unfold Oper.wp;rcases i.look k j with⟨h,c⟩|⟨t,q,h,c,l⟩
 .simp[execOp,B,f,e,c,Result.andThen];exact d _ _<|hN h
 .simp[execOp,B,f,e,l,Result.andThen];exact d _ _<|S t q h c
theorem uR{ops:Array Oper}{a:Act}{Q:Exit->Act->World->Prop}(g:o.guard=none)(m x:Operand)(B:o.op=Op.lookup 55 m x false)
  (b n:Nat) (F:az) (d:a.eval m=.map (some b)) (f:FileMap w b n F) (k t:ByteArray) (i:F k=some t) (c:a.eval x=.string k)
  (S:∀q,w.heap[q]?=some (fS t)->wpList prog ops Q rest (a.put o.dst<|rM q) w):wpList prog ops Q (o::rest) a w:=by
 refine wpList_plain g λK h=>?_
 unfold Oper.wp;have⟨q,e,j⟩:=f.aab k t i;simp[execOp,B,d,c,j,Result.andThen];exact h _ _<|S q e
abbrev doW(w:World)(o:iD):World:=(w.alloc (uQ o)).alloc (fS o.data)
theorem gi(w:World)(o:iD):Fr [] w (doW w o):=((lE w).alloc _).alloc _
theorem zu(w:World)(o:iD):(doW w o).heap[w.heap.size+1]?=some (fS o.data):=by
 have:=heap_alloc_new (w.alloc<|uQ o)<|fS o.data;rw[zzv]at this;exact this
theorem FileMap.new{m:az}(h:FileMap w b n m)(f:Fr [] w w'):FileMap w' b n m:=h.fr f sE sE
theorem gL{w2:World}(h:Fr [] w a)(k:a.grownBy w2<|some b):w.grownBy w2 (some b):=
 Fr.XC ((h.mono (T:=[b]) sE).trans<|Fr.bK k)
theorem Cs{t:ByteArray}(h:w.heap[q]?=some (fS t)):w.cell? (dH q)=some (.string t):=by simp[World.cell?,h]
theorem Py(b n:Nat)(m:az)(o:iD)(w:World)(d:FileMap w b n m)(hn:n<maxLen)(k:o.kind=1)(h:o.name.size<=maxLen):
  Calls prog 103 #[.map<|some b,Tu o] w λe w'=>e=.returned (.tuple #[])/\FileMap w' b (n+1) (cV m o)/\w.grownBy w' (some b):=by
 have M:=ae d;clear d;have⟨kd,nm,c,a⟩:=o;simp only at k h;subst k;go_enter func103,ntmps103;go_wp2_with (first|(at_lookup;refine fC rfl _ _ rfl b n m rfl (M.out.new<|gi w ⟨1,nm,c,a⟩) nm h rfl ?_ ?_)|fail)
 .intro hN;go_wp2_with (first|(at_mapUpdate;apply hZ rfl _ _ _ rfl b n m rfl (M.out.new<|gi w ⟨1,nm,c,a⟩) hn nm h rfl _ a rfl (zu w ⟨1,nm,c,a⟩);intro f z N)|fail);go_end0;exact⟨rfl,z,gL (gi w ⟨1,nm,c,a⟩) N⟩
 .intro t q hN hq;go_wp2_with (first|(at_mapUpdate;apply hZ rfl _ _ _ rfl b n m rfl (M.out.new<|gi w ⟨1,nm,c,a⟩) hn nm h rfl _ a rfl (zu w ⟨1,nm,c,a⟩);intro f z N)|fail);go_end0;exact⟨rfl,z,gL (gi w ⟨1,nm,c,a⟩) N⟩
theorem MI(b n:Nat)(m:az)(o:iD)(w:World)(f:FileMap w b n m)(k:o.kind=3)(h:o.name.size<=maxLen):
  Calls prog 103 #[.map<|some b,Tu o] w λe w'=>e=.returned (.tuple #[])/\FileMap w' b (n+1) (cV m o)/\w.grownBy w' (some b):=by
 have M:=ae f;clear f;have⟨kd,nm,c,a⟩:=o;simp only at k h;subst k;go_enter func103,ntmps103;go_wp2_with (first|(at_lookup;refine fC rfl _ _ rfl b n m rfl (M.out.new<|gi w ⟨3,nm,c,a⟩) nm h rfl ?_ ?_)|fail)
 .intro hN;go_wp2;apply bodyPost_ret (results_none rfl _ _ _) rfl;refine⟨rfl,?_,gL (gi w ⟨3,nm,c,a⟩)<|eh _ _⟩
  have e:cV m ⟨3,nm,c,a⟩=m:=by
   funext x;show(if x=nm then none else m x)=m x;by_cases d:x=nm
   .subst d;simp[hN]
   .simp[d]
  rw[e];exact(M.out.new<|gi w ⟨3,nm,c,a⟩).mono oE
 .intro t q hN hq;go_wp2_with (first|(at_delete;apply pK rfl _ _ rfl b n m rfl (M.out.new<|gi w ⟨3,nm,c,a⟩) nm h rfl;intro g z N)|fail);go_end0;exact⟨rfl,z.mono oE,gL (gi w ⟨3,nm,c,a⟩) N⟩
theorem MJ(b n:Nat)(m:az)(o:iD)(w:World)(f:FileMap w b n m)(hn:n<maxLen)(k:o.kind=4)(h:o.name.size<=maxLen)(g:o.to.size<=maxLen):
  Calls prog 103 #[.map<|some b,Tu o] w λe w'=>e=.returned (.tuple #[])/\FileMap w' b (n+1) (cV m o)/\w.grownBy w' (some b):=by
 have M:=ae f;clear f;have⟨kd,nm,c,d⟩:=o;simp only at k h g;subst k;go_enter func103,ntmps103;go_wp2_with (first|(at_lookup;refine fC rfl _ _ rfl b n m rfl (M.out.new<|gi w ⟨4,nm,c,d⟩) nm h rfl ?_ ?_)|fail)
 .intro hN;go_wp2;apply bodyPost_ret (results_none rfl _ _ _) rfl;refine⟨rfl,?_,gL (gi w ⟨4,nm,c,d⟩)<|eh _ _⟩;have e:cV m ⟨4,nm,c,d⟩=m:=by simp[cV,hN]
  rw[e];exact(M.out.new<|gi w ⟨4,nm,c,d⟩).mono oE
 .intro t q hN hq;go_wp2_with (first|(at_lookup;apply uR rfl _ _ rfl b n m rfl (M.out.new<|gi w ⟨4,nm,c,d⟩) nm t hN rfl;intro j X)|(at_mapUpdate;apply hZ rfl _ _ _ rfl b n m rfl (M.out.new<|gi w ⟨4,nm,c,d⟩) hn c g rfl _ t rfl X;intro i z N;have om:i.cell? ⟨w.heap.size,1,none⟩=some (.string nm):=(mz N (a:=⟨w.heap.size,1,none⟩) (by have:=M.out.lt;simp;omega) sC).trans sE)|(at_delete;apply pK rfl _ _ rfl b (n+1) _ rfl z nm h rfl;intro w2 S Y)|fail)
  go_end0;refine⟨rfl,?_,aW (gL (gi w ⟨4,nm,c,d⟩) N) Y⟩;have e:cV m ⟨4,nm,c,d⟩=(m.set c<|some t).set nm none:=by simp[cV,hN]
  rw[e];exact S
theorem MK(b n:Nat)(m:az)(o:iD)(w:World)(f:FileMap w b n m)(hn:n<maxLen)(k:o.kind=2)(h:o.name.size<=maxLen)(d:((m o.name).getD yA).size+o.data.size<=4398046511103):
  Calls prog 103 #[.map<|some b,Tu o] w λe w'=>e=.returned (.tuple #[])/\FileMap w' b (n+1) (cV m o)/\w.grownBy w' (some b):=by
 have M:=ae f;clear f;have⟨kd,nm,c,a⟩:=o;simp only at k h d;subst k;go_enter func103,ntmps103;go_wp2_with (first|(at_lookup;refine fC rfl _ _ rfl b n m rfl (M.out.new<|gi w ⟨2,nm,c,a⟩) nm h rfl ?_ ?_)|fail)
 .intro hN;have N:=ae hN;clear hN;go_wp2_with (first|(at_lookup;refine fC rfl _ _ rfl b n m rfl (M.out.new<|gi w ⟨2,nm,c,a⟩) nm h rfl ?_ ?_)|fail)
  .intro Wf;go_wp2_with (first|(at_mapUpdate;apply hZ rfl _ _ _ rfl b n m rfl (M.out.new<|gi w ⟨2,nm,c,a⟩) hn nm h rfl _ a rfl (zu w ⟨2,nm,c,a⟩);intro g z i)|fail);go_end0;refine⟨rfl,?_,gL (gi w ⟨2,nm,c,a⟩) i⟩;have e:cV m ⟨2,nm,c,a⟩=m.set nm (some a):=by simp[cV,N.out]
   rw[e];exact z
  .intro t2 q2 Wf;exact absurd (N.out.symm.trans Wf) sE
 .intro t q hN hq;have N:=ae hN;clear hN hq;go_wp2_with (first|(at_lookup;refine fC rfl _ _ rfl b n m rfl (M.out.new<|gi w ⟨2,nm,c,a⟩) nm h rfl ?_ ?_)|fail)
  .intro Wf;exact absurd (N.out.symm.trans Wf) sE
  .intro t2 q2 Wf ZX;obtain rfl:t=t2:=Option.some.inj<|N.out.symm.trans Wf;have lI:=Cs ZX;have P:¬9223372036854775807<t.size+a.size:=by rw[N.out]at d;simp at d;omega
   clear Wf ZX;go_wp2;go_region;have ie:Fr [] w ((w.alloc<|uQ ⟨2,nm,c,a⟩).alloc<|fS<|t++a).drew:=(((lE w).alloc _).alloc _).drew;go_wp2_with (first|(at_mapUpdate;apply hZ rfl _ _ _ rfl b n m rfl (M.out.new ie) hn nm h rfl _ (t++a) rfl (by have:=heap_alloc_new (w.alloc<|uQ ⟨2,nm,c,a⟩)<|fS<|t++a;rw[zzv]at this;exact this);intro g z i)|fail)
   go_end0;refine⟨rfl,?_,gL ie i⟩;have e:cV m ⟨2,nm,c,a⟩=m.set nm (some<|t++a):=by simp[cV,N.out]
   rw[e];exact z
structure iD.Ok(o:iD)(c:Nat):Prop where
 kind:o.kind=1\/o.kind=2\/o.kind=3\/o.kind=4
 name:o.name.size<=maxLen
 to:o.to.size<=maxLen
 data:o.data.size<=c
def az.Le(m:az)(c:Nat):Prop:=∀k t,m k=some t->t.size<=c
theorem oW(b n c:Nat)(m:az)(o:iD)(w:World)(d:FileMap w b n m)(hn:n<maxLen)(a:o.Ok c)(f:c<=4096)(l:m.Le 4200000000000):
  Calls prog 103 #[.map<|some b,Tu o] w λe w'=>e=.returned (.tuple #[])/\FileMap w' b (n+1) (cV m o)/\w.grownBy w' (some b):=by
 obtain h|h|h|h:=a.kind
 .exact Py b n m o w d hn h a.name
 .refine MK b n m o w d hn h a.name ?_;have:=a.data;cases x:m o.name with
  |none=>simp;omega
  |some t=>have:=l _ _ x;simp;omega
 .exact MI b n m o w d h a.name
 .exact MJ b n m o w d hn h a.name a.to
theorem yV{m:az}{c d:Nat}{o:iD}(h:m.Le d)(f:o.Ok c):(cV m o).Le (d+c):=by
 intro k t a;have g:=f.data;obtain b|b|b|b:=f.kind<;>simp only[cV,b]at a
 .by_cases x:k=o.name
  .grind [az.set]
  .simp[az.set,x]at a;have:=h _ _ a;omega
 .by_cases x:k=o.name
  .subst x;simp[az.set]at a;subst a;cases y:m o.name with
   |none=>simp;omega
   |some s=>have:=h _ _ y;simp;omega
  .simp[az.set,x]at a;have:=h _ _ a;omega
 .by_cases x:k=o.name
  .grind [az.set]
  .simp[az.set,x]at a;have:=h _ _ a;omega
 .cases e:m o.name with
  |none=>rw[e]at a;simp at a;have:=h _ _ a;omega
  |some s=>
   rw[e]at a;simp at a;by_cases x:k=o.name
   .grind [az.set]
   .by_cases y:k=o.to
    .subst y;simp[az.set,x]at a;subst a;have:=h _ _ e;omega
    .simp[az.set,x,y]at a;have:=h _ _ a;omega
end Go.Proofs.YtdcafjmdfpjcbaaGreatDoor
