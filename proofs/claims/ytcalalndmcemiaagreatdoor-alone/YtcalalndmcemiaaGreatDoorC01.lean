import Derived.Test.YtcalalndmcemiaaGreatDoorProg
import Derived.Deep.RegionHeld3
import Derived.WalkKit
import Derived.WalkSpells
import Derived.WalkLawsBesides
import Derived.Maps.OwnSet
import Derived.Maps.Ext
import Derived.Maps.RangeWalk
import Derived.Sort.KeysCollected
set_option maxRecDepth 100000
set_option maxHeartbeats 16000000
namespace Go.Proofs.YtcalalndmcemiaaGreatDoor
open Go
theorem tP(l:List Value)(i:Nat)(v:Value):l.toArray.setIfInBounds i v=(l.set i v).toArray:=List.setIfInBounds_toArray ..
theorem tQ(x y:Value)(l:List Value):(x::l).set 0 y=y::l:=rfl
theorem tR(x y:Value)(l:List Value)(n:Nat):(x::l).set (n+1) y=x::l.set n y:=rfl
theorem tkH{P:Program}{ops:Array Oper}{Q:Exit→Act→World→Prop}{md:Region.Mode}{S:World→Prop}{i:Nat}{oi:Oper}{v:Value}{fuel:Nat}{listed:Array Bool}{a:Act}{w:World}(hy:∀ w,S w→(execOp a.eval oi).run P w=.ok (.value v) w)(h:wpAnyH P md ops Q S fuel (listed.setIfInBounds i true) (a.put oi.dst v) w)(hi:ops[i]?=some oi:=by rfl)(hs:Region.noSelect ops=true:=by kernel_rfl)(hf:Region.free md ops listed i=true:=by kernel_rfl)(hr:(Region.ready md ops listed).contains i=true:=by kernel_rfl)(hg:Region.wanted oi (yielded ops a.tmps)=true:=by rfl)(hQ:∀ c a w,Q (.panic c) (a.put oi.dst v) w→Q (.panic c) a w:=by exact fun _ _ _ h=>h)(hS:S w:=by assumption):wpAnyH P md ops Q S (fuel+1) listed a w:=wpAnyH_take hi hs hf hr hQ (Or.inl ⟨hg,hy⟩) hS h
theorem oE{p:Prop}(h:p:=by omega):p:=h
theorem sE{p:Prop}(h:p:=by simp):p:=h
theorem dN{p:Prop}(h:p:=by decide):p:=h
end Go.Proofs.YtcalalndmcemiaaGreatDoor
set_option maxRecDepth 100000
set_option maxHeartbeats 16000000
namespace Go.Proofs.YtcalalndmcemiaaGreatDoor.Sc
def half (c:Nat):Nat:=if c % 2=1 then (c / 2) ^^^ 3988292384 else c / 2
def halves:Nat→Nat→Nat
 | 0,c=>c
 | k+1,c=>half (halves k c)
def crcS (c:Nat) (l:List Nat):Nat:=l.foldl (λc b=>halves 8 (c ^^^ b)) c
def crc (l:List Nat):Nat:=4294967295 ^^^ crcS 4294967295 l
theorem jSm (a b:Nat):(a ^^^ b) / 2=a / 2 ^^^ b / 2:=by
 have:=Nat.shiftRight_xor_distrib (a:=a) (b:=b) (i:=1)
 simpa [Nat.shiftRight_eq_div_pow] using this
theorem jTy (a b:Nat):(a ^^^ b) % 2=(a+b) % 2:=by
 have h:=Nat.xor_mod_two_pow (a:=a) (b:=b) (n:=1)
 rw [show (2:Nat) ^ 1=2 from rfl] at h
 rw [h]
 rcases Nat.mod_two_eq_zero_or_one a with ha | ha <;> rcases Nat.mod_two_eq_zero_or_one b with hb | hb <;> rw [ha,hb] <;> simp <;> omega
theorem jTe (a b:Nat):half (a ^^^ b)=half a ^^^ half b:=by
 unfold half
 have h1:=jSm a b
 have h2:=jTy a b
 rw [h1,h2]
 rcases Nat.mod_two_eq_zero_or_one a with ha | ha <;> rcases Nat.mod_two_eq_zero_or_one b with hb | hb
 ·rw [if_neg oE,if_neg oE,if_neg oE]
 ·rw [if_pos oE,if_neg oE,if_pos oE,Nat.xor_assoc]
 ·rw [if_pos oE,if_pos oE,if_neg oE,Nat.xor_assoc,Nat.xor_assoc,Nat.xor_comm (b / 2)]
 ·rw [if_neg oE,if_pos oE,if_pos oE,Nat.xor_assoc,Nat.xor_comm 3988292384,Nat.xor_assoc,Nat.xor_self,Nat.xor_zero]
theorem jO2 (k a b:Nat):halves k (a ^^^ b)=halves k a ^^^ halves k b:=by
 induction k with
 | zero=>rfl
 | succ k ih=>simp only [halves,ih,jTe]
theorem jKe (k d:Nat):halves k (2 ^ k*d)=d:=by
 induction k generalizing d with
 | zero=>simp [halves]
 | succ k ih =>
  have e:2 ^ (k+1)*d=2 ^ k*(2*d):=by rw [Nat.pow_succ,Nat.mul_assoc]
  rw [e]
  simp only [halves,ih]
  unfold half
  rw [if_neg oE]
  omega
theorem jVw (c:Nat) (h:c<4294967296):half c<4294967296:=by
 unfold half
 have h1:c / 2<2 ^ 32:=by omega
 split
 ·exact Nat.xor_lt_two_pow h1 dN
 ·exact h1
theorem jF1 (k c:Nat) (h:c<4294967296):halves k c<4294967296:=by
 induction k with
 | zero=>exact h
 | succ k ih=>exact jVw _ ih
theorem jN9 (a b:Nat) (ha:a<4294967296) (hb:b<4294967296):a ^^^ b<4294967296:=Nat.xor_lt_two_pow (n:=32) ha hb
theorem jS0 (a b:Nat) (ha:a<256) (hb:b<256):a ^^^ b<256:=Nat.xor_lt_two_pow (n:=8) ha hb
theorem jX1 (s:Nat):s=(s % 256) ^^^ (256*(s / 256)):=by
 refine Nat.eq_of_testBit_eq λi=>?_
 rw [Nat.testBit_xor,show (256:Nat)=2 ^ 8 from rfl,Nat.testBit_mod_two_pow,Nat.testBit_two_pow_mul,Nat.testBit_div_two_pow]
 by_cases h:i<8
 ·have:¬ 8≤i:=by omega
  simp [h,this]
 ·have h2:8≤i:=by omega
  simp [h,h2]
def jRs (s b:Nat):Nat:=halves 8 ((s % 256) ^^^ b) ^^^ (s / 256)
theorem jN0 (s b:Nat):jRs s b=halves 8 (s ^^^ b):=by
 have e:s ^^^ b=((s % 256) ^^^ b) ^^^ (256*(s / 256)):=by
  conv=>lhs;rw [jX1 s]
  rw [Nat.xor_assoc,Nat.xor_comm (256*(s / 256)) b,← Nat.xor_assoc]
 rw [e,jO2,show (256:Nat)=2 ^ 8 from rfl,jKe]
 rfl
theorem jK8 (c:Nat) (l:List Nat) (b:Nat):crcS c (l++[b])=halves 8 (crcS c l ^^^ b):=by simp [crcS]
theorem jL6 (c:Nat) (l:List Nat) (hc:c<4294967296) (hl:∀ b∈l,b<256):crcS c l<4294967296:=by
 induction l generalizing c with
 | nil=>exact hc
 | cons b l ih =>
  have hb:b<256:=hl b sE
  show crcS (halves 8 (c ^^^ b)) l<_
  exact ih _ (jF1 _ _ (jN9 _ _ hc oE)) (λx hx=>hl x (by simp [hx]))
theorem jUo (l:List Nat) (hl:∀ b∈l,b<256):crc l<4294967296:=jN9 _ _ dN (jL6 _ _ dN hl)
/-! Numbers as bytes,the highest first -/
def digit (k n j:Nat):Nat:=n / 256 ^ (k - 1 - j) % 256
def be (k n:Nat):List Nat:=(List.range k).map (digit k n)
def val (l:List Nat):Nat:=l.foldl (λn b=>n*256+b) 0
theorem jB3 (k n:Nat):(be k n).length=k:=by simp [be]
theorem jSw (k n:Nat):∀ b∈be k n,b<256:=by
 intro b hb
 simp only [be,List.mem_map,digit] at hb
 obtain ⟨j,_,rfl⟩:=hb
 omega
theorem jF9 (l:List Nat) (b:Nat):val (l++[b])=val l*256+b:=by simp [val]
theorem jW5 (l:List Nat) (n:Nat) (hl:∀ b∈l,b<256):l.foldl (λn b=>n*256+b) n<(n+1)*256 ^ l.length:=by
 induction l generalizing n with
 | nil=>simp
 | cons b l ih =>
  have h2:=hl b sE
  have h1:=ih (n*256+b) (λx hx=>hl x (by simp [hx]))
  refine Nat.lt_of_lt_of_le h1 ?_
  rw [List.length_cons,Nat.pow_succ,Nat.mul_comm (256 ^ l.length) 256,← Nat.mul_assoc]
  exact Nat.mul_le_mul_right _ oE
theorem jFw (l:List Nat) (hl:∀ b∈l,b<256):val l<256 ^ l.length:=by
 have:=jW5 l 0 hl
 simpa [val] using this
theorem jO4 (k n j:Nat) (h:j≤k):val ((List.range j).map (digit k n))=n / 256 ^ (k - j) % 256 ^ j:=by
 induction j with
 | zero=>simp [val,Nat.mod_one]
 | succ j ih =>
  rw [List.range_succ,List.map_append,List.map_singleton,jF9,ih oE]
  unfold digit
  have e:k - j=(k - (j+1))+1:=by omega
  have e2:k - 1 - j=k - (j+1):=by omega
  rw [e,e2,Nat.pow_succ,← Nat.div_div_eq_div_mul]
  generalize n / 256 ^ (k - (j+1))=m
  rw [Nat.pow_succ,Nat.mul_comm (256 ^ j) 256,Nat.mod_mul]
  omega
theorem jH6 (k n:Nat) (h:n<256 ^ k):val (be k n)=n:=by
 have:=jO4 k n k (Nat.le_refl _)
 rw [Nat.sub_self,Nat.pow_zero,Nat.div_one,Nat.mod_eq_of_lt h] at this
 exact this
end Go.Proofs.YtcalalndmcemiaaGreatDoor.Sc
set_option maxRecDepth 100000
set_option maxHeartbeats 16000000
namespace Go.Proofs.YtcalalndmcemiaaGreatDoor
open Go.RowKit
open Sc
def at_ (l:List Nat) (i:Nat):Nat:=l.getD i 0
def Byt (l:List Nat):Prop:=∀ x∈l,x<256
theorem jIs {l:List Nat} (h:Byt l) (i:Nat):at_ l i<256:=by
 unfold at_
 by_cases hi:i<l.length
 ·have:=h _ (List.getElem_mem hi);simpa [hi] using this
 ·simp [Nat.le_of_not_lt hi]
theorem Byt.take_ {l:List Nat} (h:Byt l) (n:Nat):Byt (l.take n):=λx hx=>h x (List.mem_of_mem_take hx)
theorem jFj (l:List Nat) (k:Nat) (h:k<l.length):l.take (k+1)=l.take k++[at_ l k]:=by
 rw [List.take_succ_eq_append_getElem h];simp [at_,h]
def bs (l:List Nat):List Value:=l.map λx:Nat=>.int .u8 (x:Int)
theorem jJo (l:List Nat):(bs l).length=l.length:=by simp [bs]
theorem jQ2 (a b:List Nat):bs (a++b)=bs a++bs b:=by simp [bs]
theorem jSk (l:List Nat) (i:Nat) (h:i<l.length):(bs l)[i]?=some (.int .u8 (at_ l i:Nat)):=by simp [bs,at_,h]
def RowAt (w:World) (g off:Nat) (l:List Nat):Prop:=∀ i,i<l.length→w.cell? ⟨g,off+i,none⟩=some (.int .u8 (at_ l i:Nat))
theorem jS2 {w:World} {base n:Nat} {v:Value} {xs:List Nat} (h:w.ownsRow base 5 1 v n (bs xs)) (hn:0<n) :
  ∃ g cap,v=.slice (some ⟨g,0,none⟩) n cap∧base≤g∧g<w.heap.size∧n≤cap∧cap≤maxLen∧RowAt w g 0 xs:=by
 obtain ⟨h1,h2⟩:=h
 rcases h2 with ⟨_,h3⟩ | ⟨g,cap,cur,rfl,hb,hg,hnc,hcm,hcs,htk⟩
 ·omega
 ·refine ⟨g,cap,rfl,hb,(Array.getElem?_eq_some_iff.1 hg).1,hnc,hcm,λi hi=>?_⟩
  have hown:w.ownsRow base 5 1 (.slice (some ⟨g,0,none⟩) n cap) n (bs xs):=⟨h1,.inr ⟨g,cap,cur,rfl,hb,hg,hnc,hcm,hcs,htk⟩⟩
  have:=hown.cells (g:=g) rfl i _ (jSk xs i hi)
  simpa [Addr.add_lit] using this
theorem jCf {w:World} {o:Obj} {b off:Nat} {l:List Nat} (h:b<w.heap.size):RowAt (w.alloc o) b off l↔RowAt w b off l:=by
 unfold RowAt
 constructor
 ·intro k i hi;have:=k i hi;rwa [World.cell?_alloc_lt _ _ ⟨b,off+i,none⟩ h] at this
 ·intro k i hi;rw [World.cell?_alloc_lt _ _ ⟨b,off+i,none⟩ h];exact k i hi
theorem RowAt.lt {w:World} {b off:Nat} {l:List Nat} (h:RowAt w b off l) (hl:0<l.length):b<w.heap.size:=by
 have:=World.block_lt_of_cell? w ⟨b,off+0,none⟩ (h 0 hl);exact this
theorem RowAt.sub {w:World} {b off:Nat} {l:List Nat} (h:RowAt w b off l) (o m:Nat) (hl:o+m≤l.length):RowAt w b (off+o) ((l.drop o).take m):=λi hi=>by
 simp only [List.length_take,List.length_drop] at hi
 have:=h (o+i) oE
 rw [show off+o+i=off+(o+i) by omega,this]
 congr 3
 simp [at_,List.getElem?_drop,show i<m by omega]
theorem jAx (w:World) (r:Option Nat):w.grownBy w r:=⟨rfl,rfl,rfl,Nat.le_refl _,λ_ _ _=>rfl⟩
theorem jAa {w w1 w2:World} {r:Option Nat} (h:w.grownBy w1 r) (k:w1.grownBy w2 r):w.grownBy w2 r :=
 ⟨k.os.trans h.os,k.tape.trans h.tape,k.output.trans h.output,Nat.le_trans h.size k.size,λi hi hn=>(k.block i (Nat.lt_of_lt_of_le hi h.size) hn).trans (h.block i hi hn)⟩
theorem jEp (w:World) (b o:Nat) (v:Value):w.grownBy (w.setCell ⟨b,o,none⟩ v) (some b) :=
 ⟨rfl,rfl,rfl,by simp [World.setCell],λk _ hn=>Below.heap_setCell _ _ _ _ (λe=>hn (by rw [e]))⟩
theorem jAg {w w1:World} {r:Option Nat} (h:w.grownBy w1 r):w.grownBy w1.drew r:=⟨h.os,h.tape,h.output,h.size,h.block⟩
theorem jDe {w w1:World} {b:Nat} (h:w.grownBy w1 (some b)) {a:Addr} (hn:a.block≠b) (hl:a.block<w.heap.size):w1.cell? a=w.cell? a :=
 World.cell?_of_block (h.block a.block hl (λe=>hn (Option.some.inj e)))
theorem jAo (w:World) (o:Obj) (r:Option Nat):w.grownBy (w.alloc o) r:=World.grownBy_alloc w o r
theorem jQ7 {w:World} {base n:Nat} {v:Value} {xs:List Nat} (h:w.ownsRow base 5 1 v n (bs xs)):xs.length=n:=by
 have:=h.1;rw [jJo] at this;omega
theorem jE1 {w:World} {base n g cap:Nat} {xs:List Nat} (h:w.ownsRow base 5 1 (.slice (some ⟨g,0,none⟩) n cap) n (bs xs)):RowAt w g 0 xs:=λi hi=>by
 have:=h.cells (g:=g) rfl i _ (jSk xs i hi)
 simpa [Addr.add_lit] using this
theorem jDp {w:World} {base n g cap:Nat} {xs:List Nat} (h:w.ownsRow base 5 1 (.slice (some ⟨g,0,none⟩) n cap) n (bs xs)):base≤g∧g<w.heap.size:=h.lt g rfl
theorem jRt {w w1 w2:World} {b g B:Nat} (h:w.grownBy w1 (some b)) (k:w1.grownBy w2 (some g)) (hb:B≤b) (hg:B≤g) (hB:B≤w.heap.size):Below B w w2 :=
 ((Below.refl B w).grown h hB (λq hq=>by cases hq;exact hb)).grown k (Nat.le_trans hB h.size) (λq hq=>by cases hq;exact hg)
theorem jKq {w w':World} {g off b:Nat} {l:List Nat} (h:RowAt w g off l) (hg:w.grownBy w' (some b)) (hne:g≠b):RowAt w' g off l:=λi hi=>by
 have h1:=h i hi
 rw [jDe hg (a:=⟨g,off+i,none⟩) hne (World.block_lt_of_cell? w _ h1)];exact h1
theorem RowAt.drewN {w:World} {b off:Nat} {l:List Nat} (h:RowAt w b off l) (q:Nat):RowAt (w.drewN q) b off l:=λi hi=>by
 have:=h i hi;simpa using this
theorem Tryz.info5:(Tryz.prog.info? 5).map (λi=>(i.zero,i.size,i.bytes))=some (some (.int .u8 0),1,1):=by kernel_rfl
end Go.Proofs.YtcalalndmcemiaaGreatDoor
set_option maxRecDepth 100000
set_option maxHeartbeats 16000000
namespace Go.Proofs.YtcalalndmcemiaaGreatDoor
open Go.RowKit
open Go.Maps (Keyed)
abbrev Files:=ByteArray→Option ByteArray
def Files.set (m:Files) (k:ByteArray) (v:Option ByteArray):Files:=λx=>if x=k then v else m x
theorem Files.set_same (m:Files) (k:ByteArray) (v:Option ByteArray):m.set k v k=v:=by simp [Files.set]
theorem Files.set_other (m:Files) {k x:ByteArray} (v:Option ByteArray) (h:x≠k):m.set k v x=m x:=by simp [Files.set,h]
structure AOp where
 kind:Nat
 name:ByteArray
 to:ByteArray
 data:ByteArray
def doOp (m:Files) (o:AOp):Files :=
 if o.kind=1 then m.set o.name (some o.data)
 else if o.kind=2 then m.set o.name (some ((m o.name).getD ByteArray.empty++o.data))
 else if o.kind=3 then m.set o.name none
 else if o.kind=4 then (match m o.name with | none=>m | some s=>(m.set o.to (some s)).set o.name none)
 else m
structure ADisk where
 durable:Files
 now:Files
 pending:List AOp
 left:Int
 full:Int
 down:Bool
def ADisk.writes (d:ADisk):ADisk × Nat :=
 if d.down=true∨d.left=0 then ({ d with down:=true },10)
 else if d.full=0 then ({ d with left:=wrap64 (d.left - 1),full:=-1 },9)
 else ({ d with left:=wrap64 (d.left - 1),full:=wrap64 (d.full - 1) },0)
def ADisk.tell (d:ADisk) (o:AOp):ADisk × Nat :=
 let r:=d.writes
 if r.2=10 then ({ r.1 with pending:=r.1.pending++[o] },10)
 else if r.2=9 then (r.1,9)
 else if r.1.now o.name=none∧2<o.kind then (r.1,8)
 else if o.kind=4∧o.name=o.to then (r.1,0)
 else ({ r.1 with now:=doOp r.1.now o,pending:=r.1.pending++[o] },0)
def ADisk.sync (d:ADisk):ADisk × Nat :=
 let r:=d.writes
 if r.2=0 then ({ r.1 with durable:=r.1.pending.foldl doOp r.1.durable,pending:=[] },0) else r
/-! ### blocks that may be written -/
structure Fr (S:List Nat) (w w':World):Prop where
 os:w'.os=w.os
 tape:w'.tape=w.tape
 output:w'.output=w.output
 size:w.heap.size≤w'.heap.size
 block:∀ k,k<w.heap.size→k∉S→w'.heap[k]?=w.heap[k]?
theorem Fr.refl (S:List Nat) (w:World):Fr S w w:=⟨rfl,rfl,rfl,Nat.le_refl _,λ_ _ _=>rfl⟩
theorem Fr.trans {S:List Nat} {a b c:World} (h:Fr S a b) (k:Fr S b c):Fr S a c :=
 ⟨k.os.trans h.os,k.tape.trans h.tape,k.output.trans h.output,Nat.le_trans h.size k.size,λi hi hn=>(k.block i (Nat.lt_of_lt_of_le hi h.size) hn).trans (h.block i hi hn)⟩
theorem Fr.mono {S T:List Nat} {a b:World} (h:Fr S a b) (hs:∀ k,k<a.heap.size→k∈S→k∈T):Fr T a b :=
 ⟨h.os,h.tape,h.output,h.size,λk hk hn=>h.block k hk (λhm=>hn (hs k hk hm))⟩
theorem Fr.andThen {S T:List Nat} {a b c:World} (h:Fr S a b) (k:Fr T b c) (ht:∀ j,j∈T→j<a.heap.size→j∈S):Fr S a c :=
 ⟨k.os.trans h.os,k.tape.trans h.tape,k.output.trans h.output,Nat.le_trans h.size k.size,λi hi hn=>(k.block i (Nat.lt_of_lt_of_le hi h.size) (λhm=>hn (ht i hm hi))).trans (h.block i hi hn)⟩
theorem Fr.of_grown {w w':World} {r:Option Nat} (h:w.grownBy w' r):Fr r.toList w w' :=
 ⟨h.os,h.tape,h.output,h.size,λk hk hn=>h.block k hk (λe=>hn (by rw [← e];simp))⟩
theorem Fr.of_grown1 {w w':World} {b:Nat} (h:w.grownBy w' (some b)):Fr [b] w w':=Fr.of_grown h
theorem Fr.of_below {w w':World} (h:Below w.heap.size w w') (S:List Nat):Fr S w w' :=
 ⟨h.os,h.tape,h.output,h.size,λk hk _=>h.block k hk⟩
theorem Fr.below {w w':World} {S:List Nat} {B:Nat} (h:Fr S w w') (hB:B≤w.heap.size) (hs:∀ k,k∈S→B≤k):Below B w w' :=
 ⟨h.os,h.tape,h.output,h.size,λk hk=>h.block k (Nat.lt_of_lt_of_le hk hB) (λhm=>by have:=hs k hm;omega)⟩
theorem Fr.grown1 {w w':World} {b:Nat} (h:Fr [b] w w'):w.grownBy w' (some b) :=
 ⟨h.os,h.tape,h.output,h.size,λk hk hn=>h.block k hk (λhm=>hn (by simp at hm;rw [hm]))⟩
theorem Fr.alloc {S:List Nat} {a w:World} (h:Fr S a w) (o:Obj):Fr S a (w.alloc o) :=
 h.trans ⟨rfl,rfl,rfl,by simp,λk hk _=>Below.heap_alloc _ _ _ hk⟩
theorem Fr.drew {S:List Nat} {a w:World} (h:Fr S a w):Fr S a w.drew:=⟨h.os,h.tape,h.output,h.size,h.block⟩
theorem Fr.setCell {S:List Nat} {a w:World} (h:Fr S a w) {p:Addr} (hp:p.block∈S∨a.heap.size≤p.block) (u:Value):Fr S a (w.setCell p u) :=
 ⟨h.os,h.tape,h.output,Nat.le_trans h.size (by simp [World.setCell]),λk hk hn=>(Below.heap_setCell _ _ _ _ (λe=>by rcases hp with hp | hp;exact hn (e▸hp);omega)).trans (h.block k hk hn)⟩
theorem jAk {S:List Nat} {a w:World} (h:Fr S a w):∀ k,Fr S a (w.drewN k)
 | 0=>h
 | k+1=>(jAk h k).drew
/-! ### a map of files -/
def jAy (v:Value):Option (DataW Unit × List MemPlace) :=
 match v with
 | .pointer (some a)=>if a.off=0∧a.spot=none then some (.lit (.int .i64 (a.block:Int)),[]) else none
 | .pointer none=>some (.lit (.int .i64 (-1)),[])
 | _=>none
theorem jNu (q:Nat):jAy (.pointer (some ⟨q,0,none⟩))=some (.lit (.int .i64 (q:Int)),[]):=by simp [jAy]
theorem jH5:jAy (.pointer none)=some (.lit (.int .i64 (-1)),[]):=rfl
theorem jGm {v:Value} {q:Nat} {ps:List MemPlace} (h:jAy v=some (.lit (.int .i64 (q:Int)),ps)):v=.pointer (some ⟨q,0,none⟩):=by
 unfold jAy at h
 split at h
 ·rename_i a
  split at h
  ·rename_i hc
   obtain ⟨b,o,s⟩:=a
   simp at h hc
   obtain ⟨rfl,rfl⟩:=hc
   simp
  ·cases h
 ·simp at h
 ·cases h
theorem jGo {v:Value} {ps:List MemPlace} (h:jAy v=some (.lit (.int .i64 (-1)),ps)):v=.pointer none:=by
 unfold jAy at h
 split at h
 ·rename_i a
  split at h
  ·simp at h
  ·cases h
 ·rfl
 ·cases h
theorem jEu {v:Value} {y:DataW Unit × List MemPlace} (h:jAy v=some y):∃ c,v=Value.pointer c:=by
 unfold jAy at h
 split at h
 ·exact ⟨_,rfl⟩
 ·exact ⟨_,rfl⟩
 ·cases h
abbrev keyL (k:ByteArray):Lit:=.string k.data.toList
theorem jG6 {a b:ByteArray} (h:keyL a=keyL b):a=b:=by
 simp only [keyL,Lit.string.injEq] at h
 obtain ⟨a⟩:=a
 obtain ⟨b⟩:=b
 simp at h
 rw [h]
theorem Tryz.lawS:Keyed Tryz.prog 9:=Go.Maps.string_keyed Tryz.underlying9
theorem Tryz.zeroPtr (w:World):(zeroValue 165).run Tryz.prog w=.ok (.pointer none) w:=by kernel_rfl
abbrev jBc (t:ByteArray):Obj:=.cells #[.string t] 9
def FileMap (w:World) (b n:Nat) (m:Files):Prop :=
 ∃ D:DataW Unit,w.ownsMap Tryz.prog 9 jAy b n D∧∀ k:ByteArray,
  (m k=none→Maps.has D (keyL k)=false) ∧
  (∀ t,m k=some t→Maps.has D (keyL k)=true∧k.size≤maxLen∧∃ q:Nat,(∀ z,D.atKey (keyL k) z=.lit (.int .i64 (q:Int)))∧w.heap[q]?=some (jBc t))
theorem FileMap.lt {w:World} {b n:Nat} {m:Files} (h:FileMap w b n m):b<w.heap.size:=by
 obtain ⟨D,h,_⟩:=h;exact h.lt
theorem FileMap.mono {w:World} {b n n':Nat} {m:Files} (h:FileMap w b n m) (hn:n≤n'):FileMap w b n' m:=by
 obtain ⟨D,h,h2⟩:=h;exact ⟨D,h.mono hn,h2⟩
theorem FileMap.isMap {w:World} {b n:Nat} {m:Files} (h:FileMap w b n m):∃ es c,w.heap[b]?=some (.map es c):=by
 obtain ⟨D,⟨es,c,h,_⟩,_⟩:=h;exact ⟨es,c,h⟩
theorem FileMap.fr {w w':World} {b n:Nat} {m:Files} {S:List Nat} (h:FileMap w b n m) (hf:Fr S w w') (hb:b∉S) (hs:∀ q∈S,∀ t,w.heap[q]?≠some (jBc t)):FileMap w' b n m:=by
 have hlt:=h.lt
 obtain ⟨D,⟨es,c,h1,h2,h3,h4⟩,h5⟩:=h
 refine ⟨D,⟨es,c,(hf.block b hlt hb).trans h1,h2,h3,h4⟩,λk=>⟨(h5 k).1,λt ht=>?_⟩⟩
 obtain ⟨a1,a2,q,a3,a4⟩:=(h5 k).2 t ht
 refine ⟨a1,a2,q,a3,?_⟩
 rw [hf.block q (Array.getElem?_eq_some_iff.1 a4).1 (λhm=>hs q hm t a4)];exact a4
theorem FileMap.alloc {w:World} {b n:Nat} {m:Files} (h:FileMap w b n m) (o:Obj):FileMap (w.alloc o) b n m :=
 h.fr ((Fr.refl [] w).alloc o) sE sE
theorem FileMap.made (w:World):FileMap (w.alloc (.map #[] 0)) w.heap.size 0 (λ_=>none) :=
 ⟨.map [],World.ownsMap_made _ _ _ _,λk=>⟨λ_=>rfl,λt ht=>by cases ht⟩⟩
theorem FileMap.look {w:World} {b n:Nat} {m:Files} (h:FileMap w b n m) (k:ByteArray) (hk:k.size≤maxLen) :
  (m k=none∧(Instr.lookup 93 (.map (some b)) (.string k) true).run Tryz.prog w=.ok (.tuple #[.pointer none,.bool false]) w) ∨
  (∃ t q,m k=some t∧w.heap[q]?=some (jBc t)∧(Instr.lookup 93 (.map (some b)) (.string k) true).run Tryz.prog w=.ok (.tuple #[.pointer (some ⟨q,0,none⟩),.bool true]) w):=by
 obtain ⟨D,h1,h5⟩:=h
 obtain ⟨v,ps,hr,hv⟩:=h1.look_ok Tryz.lawS Tryz.underlying93 (Tryz.zeroPtr w) jH5 (Go.WideMaps.keyOf_string_mk Tryz.underlying9 hk)
 cases hm:m k with
 | none =>
  left
  have h0:=(h5 k).1 hm
  have h0':Maps.has D (.string k.data.toList)=false:=h0
  rw [Maps.atKey_of_not_has h0'] at hv
  obtain rfl:=jGo hv
  rw [h0'] at hr
  exact ⟨rfl,hr⟩
 | some t =>
  right
  obtain ⟨h0,_,q,h3,h4⟩:=(h5 k).2 t hm
  rw [h3] at hv
  obtain rfl:=jGm hv
  have h0':Maps.has D (.string k.data.toList)=true:=h0
  rw [h0'] at hr
  exact ⟨t,q,rfl,h4,hr⟩
theorem FileMap.look1 {w:World} {b n:Nat} {m:Files} (h:FileMap w b n m) (k t:ByteArray) (hk:m k=some t) :
  ∃ q,w.heap[q]?=some (jBc t)∧(Instr.lookup 93 (.map (some b)) (.string k) false).run Tryz.prog w=.ok (.pointer (some ⟨q,0,none⟩)) w:=by
 obtain ⟨D,h1,h5⟩:=h
 obtain ⟨h0,hsz,q,h3,h4⟩:=(h5 k).2 t hk
 obtain ⟨v,ps,hr,hv⟩:=h1.lookup Tryz.lawS Tryz.underlying93 (Tryz.zeroPtr w) jH5 (Go.WideMaps.keyOf_string_mk Tryz.underlying9 hsz)
 rw [h3] at hv
 obtain rfl:=jGm hv
 exact ⟨q,h4,hr⟩
theorem FileMap.put {w w':World} {b n:Nat} {m:Files} {D:DataW Unit} (h5:∀ k:ByteArray,(m k=none→Maps.has D (keyL k)=false)∧(∀ t,m k=some t→Maps.has D (keyL k)=true∧k.size≤maxLen∧∃ q:Nat,(∀ z,D.atKey (keyL k) z=.lit (.int .i64 (q:Int)))∧w.heap[q]?=some (jBc t)))
  (hm:w.ownsMap Tryz.prog 9 jAy b n D) (k:ByteArray) (hk:k.size≤maxLen) (q:Nat) (t:ByteArray) (hq:w.heap[q]?=some (jBc t))
  (ho:w'.ownsMap Tryz.prog 9 jAy b (n+1) (D.put (keyL k) (.lit (.int .i64 (q:Int))))) (hg:w.grownBy w' (some b)):FileMap w' b (n+1) (m.set k (some t)):=by
 have hi:=hm.isMap
 have hkl:WideAt.IsKeyLit (keyL k):=trivial
 have keep:∀ (q:Nat) (t:ByteArray),w.heap[q]?=some (jBc t)→w'.heap[q]?=some (jBc t):=λq t h=>by
  rw [hg.block q (Array.getElem?_eq_some_iff.1 h).1 (λe=>by cases e;obtain ⟨es,c,h1,_⟩:=hm;rw [h1] at h;cases h)];exact h
 refine ⟨_,ho,λx=>?_⟩
 by_cases hx:x=k
 ·subst hx
  rw [Files.set_same]
  refine ⟨λh=>(by simp at h),λt' h=>?_⟩
  obtain rfl:t=t':=Option.some.inj h
  exact ⟨Maps.has_put_same hi hkl _,hk,q,λz=>Maps.atKey_put_same hi hkl _ z,keep _ _ hq⟩
 ·rw [Files.set_other _ _ hx]
  have hne:keyL x≠keyL k:=λe=>hx (jG6 e)
  refine ⟨λh=>by rw [Maps.has_put_other hne];exact (h5 x).1 h,λt' h=>?_⟩
  obtain ⟨a1,a2,q',a3,a4⟩:=(h5 x).2 t' h
  exact ⟨by rw [Maps.has_put_other hne];exact a1,a2,q',λz=>by rw [Maps.atKey_put_other hne];exact a3 z,keep _ _ a4⟩
theorem FileMap.del {w w':World} {b n:Nat} {m:Files} {D:DataW Unit} (h5:∀ k:ByteArray,(m k=none→Maps.has D (keyL k)=false)∧(∀ t,m k=some t→Maps.has D (keyL k)=true∧k.size≤maxLen∧∃ q:Nat,(∀ z,D.atKey (keyL k) z=.lit (.int .i64 (q:Int)))∧w.heap[q]?=some (jBc t)))
  (hm:w.ownsMap Tryz.prog 9 jAy b n D) (k:ByteArray)
  (ho:w'.ownsMap Tryz.prog 9 jAy b n (D.del (keyL k))) (hg:w.grownBy w' (some b)):FileMap w' b n (m.set k none):=by
 have keep:∀ (q:Nat) (t:ByteArray),w.heap[q]?=some (jBc t)→w'.heap[q]?=some (jBc t):=λq t h=>by
  rw [hg.block q (Array.getElem?_eq_some_iff.1 h).1 (λe=>by cases e;obtain ⟨es,c,h1,_⟩:=hm;rw [h1] at h;cases h)];exact h
 refine ⟨_,ho,λx=>?_⟩
 by_cases hx:x=k
 ·subst hx
  rw [Files.set_same]
  exact ⟨λ_=>Maps.has_del_same,λt' h=>by cases h⟩
 ·rw [Files.set_other _ _ hx]
  have hne:keyL x≠keyL k:=λe=>hx (jG6 e)
  refine ⟨λh=>by rw [Maps.has_del_other hne];exact (h5 x).1 h,λt' h=>?_⟩
  obtain ⟨a1,a2,q',a3,a4⟩:=(h5 x).2 t' h
  exact ⟨by rw [Maps.has_del_other hne];exact a1,a2,q',λz=>by rw [Maps.atKey_del_other hne];exact a3 z,keep _ _ a4⟩
theorem jBm {w:World} {ops:Array Oper} {rest:List Oper} {o:Oper} {a:Act} {Q:Exit→Act→World→Prop} (hg:o.guard=none) (m x v:Operand) (hop:o.op=Op.mapUpdate 93 m x v)
  (b n:Nat) (F:Files) (hm:a.eval m=.map (some b)) (hF:FileMap w b n F) (hn:n<maxLen) (k:ByteArray) (hk:k.size≤maxLen) (hx:a.eval x=.string k) (q:Nat) (t:ByteArray) (hv:a.eval v=.pointer (some ⟨q,0,none⟩)) (hq:w.heap[q]?=some (jBc t))
  (hK:∀ w',FileMap w' b (n+1) (F.set k (some t))→w.grownBy w' (some b)→wpList Tryz.prog ops Q rest (a.put o.dst undef) w'):wpList Tryz.prog ops Q (o :: rest) a w:=by
 obtain ⟨D,h1,h5⟩:=hF
 refine wpList_mapUpdate_own w hg m x v _ hop 9 165 Tryz.lawS Tryz.underlying93 jAy b n D hm h1 hn _ _ (keyL k) hx hv (Go.WideMaps.keyOf_string_mk Tryz.underlying9 hk) _ [] (jNu q) ?_
 intro w' ho hgr
 exact hK w' (FileMap.put h5 h1 k hk q t hq ho hgr) hgr
theorem jDz {w:World} {ops:Array Oper} {rest:List Oper} {o:Oper} {a:Act} {Q:Exit→Act→World→Prop} (hg:o.guard=none) (m x:Operand) (hop:o.op=Op.call { callee:=Callee.builtin Builtin.delete,args:=#[m,x],argTypes:=#[93,9] })
  (b n:Nat) (F:Files) (hm:a.eval m=.map (some b)) (hF:FileMap w b n F) (k:ByteArray) (hk:k.size≤maxLen) (hx:a.eval x=.string k)
  (hK:∀ w',FileMap w' b n (F.set k none)→w.grownBy w' (some b)→wpList Tryz.prog ops Q rest (a.put o.dst (.tuple #[])) w'):wpList Tryz.prog ops Q (o :: rest) a w:=by
 obtain ⟨D,h1,h5⟩:=hF
 refine wpList_delete_own w hg m x _ _ hop 165 Tryz.lawS Tryz.underlying93 jAy b n D hm h1 _ (keyL k) hx (Go.WideMaps.keyOf_string_mk Tryz.underlying9 hk) ?_
 intro w' ho ht
 exact hK w' (FileMap.del h5 h1 k ho ht.grown) ht.grown
end Go.Proofs.YtcalalndmcemiaaGreatDoor
set_option maxRecDepth 100000
set_option maxHeartbeats 16000000
namespace Go.Proofs.YtcalalndmcemiaaGreatDoor
open Go.RowKit Go.Maps
open Sc
section
variable {K V:Type} [DecidableEq K]
def jA3 (l:List (K × V)) (k:K):Option V:=(l.find? λp=>decide (p.1=k)).map (·.2)
def jAi (l:List (K × V)) (k:K):List (K × V):=l.filter λp=>!decide (p.1=k)
def jAb (l:List (K × V)) (k:K) (v:V):List (K × V):=(k,v) :: jAi l k
def Once1 (l:List (K × V)):Prop:=l.Pairwise λp q=>p.1≠q.1
omit [DecidableEq K] in
theorem Once1.same {l:List (K × V)} (h:Once1 l) {p q:K × V} (hp:p∈l) (hq:q∈l) (e:p.1=q.1):p=q:=by
 induction l with
 | nil=>cases hp
 | cons x r ih =>
  obtain ⟨h1,h2⟩:=List.pairwise_cons.1 h
  rcases List.mem_cons.1 hp with hp1 | hp1
  ·rcases List.mem_cons.1 hq with hq1 | hq1
   ·rw [hp1,hq1]
   ·rw [hp1] at e;exact absurd e (h1 q hq1)
  ·rcases List.mem_cons.1 hq with hq1 | hq1
   ·rw [hq1] at e;exact absurd e.symm (h1 p hp1)
   ·exact ih h2 hp1 hq1
theorem jAh {l:List (K × V)} {k:K} {v:V} (h:jA3 l k=some v):(k,v)∈l:=by
 unfold jA3 at h
 cases hf:l.find? (λp=>decide (p.1=k)) with
 | none=>rw [hf] at h;cases h
 | some p =>
  rw [hf] at h
  have h1:=List.mem_of_find?_eq_some hf
  have h2:=List.find?_some hf
  simp at h h2
  obtain ⟨a,b⟩:=p
  simp at h h2
  subst h h2
  exact h1
theorem jCy {l:List (K × V)} {k:K}:jA3 l k=none↔∀ p∈l,p.1≠k:=by
 unfold jA3
 simp [List.find?_eq_none]
theorem jB6 {l:List (K × V)} (h:Once1 l) {k:K} {v:V} (hm:(k,v)∈l):jA3 l k=some v:=by
 cases hl:jA3 l k with
 | none=>exact absurd rfl (jCy.1 hl _ hm)
 | some u=>have:=h.same hm (jAh hl) rfl;simp at this;rw [this]
theorem Once1.del {l:List (K × V)} (h:Once1 l) (k:K):Once1 (jAi l k):=List.Pairwise.filter _ h
theorem Once1.put {l:List (K × V)} (h:Once1 l) (k:K) (v:V):Once1 (jAb l k v) :=
 List.pairwise_cons.2 ⟨λq hq e=>by have:=(List.mem_filter.1 hq).2;simp at this;exact this e.symm,h.del k⟩
end
structure KeyRep (P:Program) (K:Type) (kt:TypeId) where
 kv:K→Value
 kl:K→Lit
 ok:K→Prop
 law:Keyed P kt
 key:∀ k,ok k→keyOf P kt (kv k)=some (kl k)
 inj:∀ a b,kv a=kv b→a=b
structure ElRep (V:Type) where
 R:Value→Option (DataW Unit × List MemPlace)
 ev:V→Value
 el:V→DataW Unit
 ok:V→Prop
 made:∀ v,ok v→R (ev v)=some (el v,[])
 inv:∀ x v ps,ok v→R x=some (el v,ps)→x=ev v
section
variable {P:Program} {K V:Type} [DecidableEq K] {kt:TypeId} (KR:KeyRep P K kt) (ER:ElRep V)
omit [DecidableEq K] in
theorem KeyRep.lit_inj {a b:K} (ha:KR.ok a) (hb:KR.ok b) (h:KR.kl a=KR.kl b):a=b :=
 KR.inj a b (KR.law.inj (KR.key a ha) (by rw [h];exact KR.key b hb))
theorem KeyRep.same {a b:K} (ha:KR.ok a) (hb:KR.ok b):(KR.kl a).sameKey (KR.kl b)=decide (a=b):=by
 by_cases e:a=b
 ·subst e;rw [WideAt.sameKey_self (KR.law.key (KR.key a ha))];simp
 ·rw [Maps.sameKey_ne (λh=>e (KR.lit_inj ha hb h))];simp [e]
def jEi (p:K × V):Lit × DataW Unit:=(KR.kl p.1,ER.el p.2)
def MapAs (w:World) (b n:Nat) (l:List (K × V)):Prop :=
 ∃ es,w.ownsMap P kt ER.R b n (.map es)∧es.Perm (l.map (jEi KR ER))∧Once1 l∧∀ p∈l,KR.ok p.1∧ER.ok p.2
variable {KR ER} {w w':World} {b n:Nat} {l:List (K × V)} {es:List (Lit × DataW Unit)}
theorem jN8 (hp:es.Perm (l.map (jEi KR ER))) (hok:∀ p∈l,KR.ok p.1∧ER.ok p.2) {k:K} (hk:KR.ok k):Maps.has (.map es) (KR.kl k)=(jA3 l k).isSome:=by
 rw [Maps.has_eq,hp.any_eq,List.any_map]
 cases hl:jA3 l k with
 | none =>
  rw [Option.isSome_none,List.any_eq_false]
  intro p hm
  have:=jCy.1 hl p hm
  simp only [Function.comp,jEi]
  rw [KR.same (hok p hm).1 hk]
  simp [this]
 | some v =>
  rw [Option.isSome_some,List.any_eq_true]
  refine ⟨(k,v),jAh hl,?_⟩
  simp only [Function.comp,jEi]
  rw [KR.same hk hk]
  simp
theorem jJ1 (hp:es.Perm (l.map (jEi KR ER))) (h1:Once1 l) (hok:∀ p∈l,KR.ok p.1∧ER.ok p.2) {k:K} (hk:KR.ok k) {v:V} (hl:jA3 l k=some v) (z:DataW Unit):(DataW.map es).atKey (KR.kl k) z=ER.el v:=by
 have hm:jEi KR ER (k,v)∈es:=hp.mem_iff.2 (List.mem_map.2 ⟨(k,v),jAh hl,rfl⟩)
 simp only [DataW.atKey]
 cases hf:es.find? (λp=>p.1.sameKey (KR.kl k)) with
 | none =>
  have:=List.find?_eq_none.1 hf _ hm
  simp only [jEi] at this
  rw [KR.same hk hk] at this
  simp at this
 | some q =>
  have q1:=hp.mem_iff.1 (List.mem_of_find?_eq_some hf)
  have q2:=List.find?_some hf
  obtain ⟨p,hp1,rfl⟩:=List.mem_map.1 q1
  simp only [jEi] at q2 ⊢
  rw [KR.same (hok p hp1).1 hk] at q2
  have q3:p.1=k:=by simpa using q2
  have:=h1.same hp1 (jAh hl) q3
  rw [this]
omit [DecidableEq K] in
theorem MapAs.made (w:World):MapAs KR ER (w.alloc (.map #[] 0)) w.heap.size 0 [] :=
 ⟨[],World.ownsMap_made _ _ _ _,List.Perm.refl _,List.Pairwise.nil,by simp⟩
omit [DecidableEq K] in
theorem MapAs.lt (h:MapAs KR ER w b n l):b<w.heap.size:=by obtain ⟨es,h,_⟩:=h;exact h.lt
omit [DecidableEq K] in
theorem MapAs.isMap (h:MapAs KR ER w b n l):∃ es c,w.heap[b]?=some (.map es c):=by obtain ⟨_,⟨es,c,h,_⟩,_⟩:=h;exact ⟨es,c,h⟩
omit [DecidableEq K] in
theorem MapAs.mono (h:MapAs KR ER w b n l) {n':Nat} (hn:n≤n'):MapAs KR ER w b n' l:=by obtain ⟨es,h,r⟩:=h;exact ⟨es,h.mono hn,r⟩
omit [DecidableEq K] in
theorem MapAs.fr {S:List Nat} (h:MapAs KR ER w b n l) (hf:Fr S w w') (hb:b∉S):MapAs KR ER w' b n l:=by
 have hlt:=h.lt
 obtain ⟨es,⟨es',c,h1,h2⟩,r⟩:=h
 exact ⟨es,⟨es',c,(hf.block b hlt hb).trans h1,h2⟩,r⟩
omit [DecidableEq K] in
theorem MapAs.len (h:MapAs KR ER w b n l):l.length≤n:=by
 obtain ⟨es,h,hp,_⟩:=h
 have:=h.size_le
 rw [Maps.size_eq,hp.length_eq,List.length_map] at this
 exact this
theorem jGu (hp:es.Perm (l.map (jEi KR ER))) (hok:∀ p∈l,KR.ok p.1∧ER.ok p.2) {k:K} (hk:KR.ok k):(es.filter (ChangeMaps.notKey (KR.kl k))).Perm ((jAi l k).map (jEi KR ER)):=by
 refine (hp.filter _).trans ?_
 rw [List.filter_map]
 unfold jAi
 rw [List.filter_congr (q:=λp=>!decide (p.1=k)) λp hm=>?_]
 simp only [Function.comp,jEi,ChangeMaps.notKey]
 rw [KR.same (hok p hm).1 hk]
theorem MapAs.ofPut {k:K} {v:V} (hp:es.Perm (l.map (jEi KR ER))) (h1:Once1 l) (hok:∀ p∈l,KR.ok p.1∧ER.ok p.2) (hk:KR.ok k) (hv:ER.ok v) (ho:w'.ownsMap P kt ER.R b n ((DataW.map es).put (KR.kl k) (ER.el v))):MapAs KR ER w' b n (jAb l k v):=by
 rw [DataW.put_eq] at ho
 refine ⟨_,ho,?_,h1.put k v,λp hm=>?_⟩
 ·unfold ChangeMaps.putKey
  exact (WideShapes.insert_perm _ _).trans ((jGu hp hok hk).cons _)
 ·rcases List.mem_cons.1 hm with rfl | hm
  ·exact ⟨hk,hv⟩
  ·exact hok p (List.mem_filter.1 hm).1
theorem MapAs.ofDel {k:K} (hp:es.Perm (l.map (jEi KR ER))) (h1:Once1 l) (hok:∀ p∈l,KR.ok p.1∧ER.ok p.2) (hk:KR.ok k) (ho:w'.ownsMap P kt ER.R b n ((DataW.map es).del (KR.kl k))):MapAs KR ER w' b n (jAi l k):=by
 rw [DataW.del_eq] at ho
 exact ⟨_,ho,jGu hp hok hk,h1.del k,λp hm=>hok p (List.mem_filter.1 hm).1⟩
theorem MapAs.lookOk {t e:TypeId} (h:MapAs KR ER w b n l) (ht:P.underlying t=some (.map kt e)) {zv:V} (hz:(zeroValue e).run P w=.ok (ER.ev zv) w) (hzk:ER.ok zv) {k:K} (hk:KR.ok k) :
  (Instr.lookup t (.map (some b)) (KR.kv k) true).run P w=.ok (.tuple #[ER.ev ((jA3 l k).getD zv),.bool (jA3 l k).isSome]) w:=by
 obtain ⟨es,ho,hp,h1,hok⟩:=h
 obtain ⟨v,ps,hr,hv⟩:=ho.look_ok KR.law ht hz (ER.made zv hzk) (KR.key k hk)
 rw [jN8 hp hok hk] at hr
 cases hl:jA3 l k with
 | none =>
  rw [hl] at hr
  have hno:Maps.has (.map es) (KR.kl k)=false:=by rw [jN8 hp hok hk,hl];rfl
  rw [Maps.atKey_of_not_has hno] at hv
  rw [ER.inv v zv ps hzk hv] at hr
  exact hr
 | some u =>
  rw [hl] at hr
  rw [jJ1 hp h1 hok hk hl] at hv
  rw [ER.inv v u ps (hok _ (jAh hl)).2 hv] at hr
  exact hr
theorem MapAs.look {t e:TypeId} (h:MapAs KR ER w b n l) (ht:P.underlying t=some (.map kt e)) {zv:V} (hz:(zeroValue e).run P w=.ok (ER.ev zv) w) (hzk:ER.ok zv) {k:K} (hk:KR.ok k) :
  (Instr.lookup t (.map (some b)) (KR.kv k) false).run P w=.ok (ER.ev ((jA3 l k).getD zv)) w:=by
 obtain ⟨es,ho,hp,h1,hok⟩:=h
 obtain ⟨v,ps,hr,hv⟩:=ho.lookup KR.law ht hz (ER.made zv hzk) (KR.key k hk)
 cases hl:jA3 l k with
 | none =>
  have hno:Maps.has (.map es) (KR.kl k)=false:=by rw [jN8 hp hok hk,hl];rfl
  rw [Maps.atKey_of_not_has hno] at hv
  rw [ER.inv v zv ps hzk hv] at hr
  exact hr
 | some u =>
  rw [jJ1 hp h1 hok hk hl] at hv
  rw [ER.inv v u ps (hok _ (jAh hl)).2 hv] at hr
  exact hr
omit [DecidableEq K] in
theorem MapAs.lenRun {t e:TypeId} (h:MapAs KR ER w b n l) (ht:P.underlying t=some (.map kt e)) (ty:TypeId):(Builtin.len_ #[t] ty #[.map (some b)]).run P w=.ok (.int .i64 (l.length:Int)) w:=by
 obtain ⟨es,ho,hp,_⟩:=h
 have:=ho.len ht ty
 rwa [Maps.size_eq,hp.length_eq,List.length_map] at this
end
section
variable {P:Program} {K V:Type} [DecidableEq K] {kt:TypeId} {KR:KeyRep P K kt} {ER:ElRep V} {w:World} {ops:Array Oper} {rest:List Oper} {o:Oper} {a:Act} {Q:Exit→Act→World→Prop}
theorem jHg (hg:o.guard=none) (m x v:Operand) (t e:TypeId) (hop:o.op=Op.mapUpdate t m x v) (ht:P.underlying t=some (.map kt e)) (b n:Nat) (l:List (K × V)) (hm:a.eval m=.map (some b)) (hM:MapAs KR ER w b n l) (hn:n<maxLen)
  (k:K) (hk:KR.ok k) (hx:a.eval x=KR.kv k) (u:V) (hu:ER.ok u) (hv:a.eval v=ER.ev u)
  (hK:∀ w',MapAs KR ER w' b (n+1) (jAb l k u)→w.grownBy w' (some b)→wpList P ops Q rest (a.put o.dst undef) w'):wpList P ops Q (o :: rest) a w:=by
 obtain ⟨es,ho,hp,h1,hok⟩:=hM
 refine wpList_mapUpdate_own w hg m x v t hop kt e KR.law ht ER.R b n _ hm ho hn _ _ (KR.kl k) hx hv (KR.key k hk) _ [] (ER.made u hu) ?_
 intro w' ho' hgr
 exact hK w' (MapAs.ofPut hp h1 hok hk hu ho') hgr
theorem jBx (hg:o.guard=none) (m x:Operand) (t e:TypeId) (hop:o.op=Op.call { callee:=Callee.builtin Builtin.delete,args:=#[m,x],argTypes:=#[t,kt] }) (ht:P.underlying t=some (.map kt e)) (b n:Nat) (l:List (K × V)) (hm:a.eval m=.map (some b)) (hM:MapAs KR ER w b n l)
  (k:K) (hk:KR.ok k) (hx:a.eval x=KR.kv k)
  (hK:∀ w',MapAs KR ER w' b n (jAi l k)→w.grownBy w' (some b)→wpList P ops Q rest (a.put o.dst (.tuple #[])) w'):wpList P ops Q (o :: rest) a w:=by
 obtain ⟨es,ho,hp,h1,hok⟩:=hM
 refine wpList_delete_own w hg m x _ _ hop e KR.law ht ER.R b n _ hm ho _ (KR.kl k) hx (KR.key k hk) ?_
 intro w' ho' htr
 exact hK w' (MapAs.ofDel hp h1 hok hk ho') htr.grown
end
end Go.Proofs.YtcalalndmcemiaaGreatDoor
