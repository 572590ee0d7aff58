import Derived.Test.YtbdhmkfdofkloaaGreatDoorProg
import Derived.WalkKit
import Derived.WalkSpells
import Derived.WalkLawsBesides
import Derived.Maps.OwnSet
import Derived.Maps.Ext
import Derived.Maps.RangeWalk
import Derived.Sort.KeysCollected
/- THE PLAIN MATHEMATICS of records and messages as bytes: the sum (CRC-32) bit by bit and by a table; numbers as bytes. It imports nothing of the dump. -/
namespace Go.Proofs.YtbdhmkfdofkloaaGreatDoor.Sc

/-- one bit of the sum's reckoning -/
def half (c : Nat) : Nat := if c % 2 = 1 then (c / 2) ^^^ 3988292384 else c / 2
def halves : Nat → Nat → Nat
  | 0, c => c
  | k + 1, c => half (halves k c)
def crcS (c : Nat) (l : List Nat) : Nat := l.foldl (fun c b => halves 8 (c ^^^ b)) c
def crc (l : List Nat) : Nat := 4294967295 ^^^ crcS 4294967295 l

theorem xor_div2 (a b : Nat) : (a ^^^ b) / 2 = a / 2 ^^^ b / 2 := by
  have := Nat.shiftRight_xor_distrib (a := a) (b := b) (i := 1)
  simpa [Nat.shiftRight_eq_div_pow] using this
theorem xor_mod2 (a b : Nat) : (a ^^^ b) % 2 = (a + b) % 2 := by
  have h := Nat.xor_mod_two_pow (a := a) (b := b) (n := 1)
  rw [show (2 : Nat) ^ 1 = 2 from rfl] at h
  rw [h]
  rcases Nat.mod_two_eq_zero_or_one a with ha | ha <;> rcases Nat.mod_two_eq_zero_or_one b with hb | hb <;> rw [ha, hb] <;> simp <;> omega
theorem half_xor (a b : Nat) : half (a ^^^ b) = half a ^^^ half b := by
  unfold half
  have h1 := xor_div2 a b
  have h2 := xor_mod2 a b
  rw [h1, h2]
  rcases Nat.mod_two_eq_zero_or_one a with ha | ha <;> rcases Nat.mod_two_eq_zero_or_one b with hb | hb
  · rw [if_neg (by omega), if_neg (by omega), if_neg (by omega)]
  · rw [if_pos (by omega), if_neg (by omega), if_pos (by omega), Nat.xor_assoc]
  · rw [if_pos (by omega), if_pos (by omega), if_neg (by omega), Nat.xor_assoc, Nat.xor_assoc, Nat.xor_comm (b / 2)]
  · rw [if_neg (by omega), if_pos (by omega), if_pos (by omega), Nat.xor_assoc, Nat.xor_comm 3988292384, Nat.xor_assoc, Nat.xor_self, Nat.xor_zero]
theorem halves_xor (k a b : Nat) : halves k (a ^^^ b) = halves k a ^^^ halves k b := by
  induction k with
  | zero => rfl
  | succ k ih => simp only [halves, ih, half_xor]
theorem halves_shift (k d : Nat) : halves k (2 ^ k * d) = d := by
  induction k generalizing d with
  | zero => simp [halves]
  | succ k ih =>
    have e : 2 ^ (k + 1) * d = 2 ^ k * (2 * d) := by rw [Nat.pow_succ, Nat.mul_assoc]
    rw [e]
    simp only [halves, ih]
    unfold half
    rw [if_neg (by omega)]
    omega
theorem half_lt (c : Nat) (h : c < 4294967296) : half c < 4294967296 := by
  unfold half
  have h1 : c / 2 < 2 ^ 32 := by omega
  split
  · exact Nat.xor_lt_two_pow h1 (by decide)
  · exact h1
theorem halves_lt (k c : Nat) (h : c < 4294967296) : halves k c < 4294967296 := by
  induction k with
  | zero => exact h
  | succ k ih => exact half_lt _ ih
theorem xor_lt32 (a b : Nat) (ha : a < 4294967296) (hb : b < 4294967296) : a ^^^ b < 4294967296 := Nat.xor_lt_two_pow (n := 32) ha hb
theorem xor_lt8 (a b : Nat) (ha : a < 256) (hb : b < 256) : a ^^^ b < 256 := Nat.xor_lt_two_pow (n := 8) ha hb
theorem split8 (s : Nat) : s = (s % 256) ^^^ (256 * (s / 256)) := by
  refine Nat.eq_of_testBit_eq fun i => ?_
  rw [Nat.testBit_xor, show (256 : Nat) = 2 ^ 8 from rfl, Nat.testBit_mod_two_pow, Nat.testBit_two_pow_mul, Nat.testBit_div_two_pow]
  by_cases h : i < 8
  · have : ¬ 8 ≤ i := by omega
    simp [h, this]
  · have h2 : 8 ≤ i := by omega
    simp [h, h2]
/-- one byte by the table -/
def tstep (s b : Nat) : Nat := halves 8 ((s % 256) ^^^ b) ^^^ (s / 256)
theorem tstep_eq (s b : Nat) : tstep s b = halves 8 (s ^^^ b) := by
  have e : s ^^^ b = ((s % 256) ^^^ b) ^^^ (256 * (s / 256)) := by
    conv => lhs; rw [split8 s]
    rw [Nat.xor_assoc, Nat.xor_comm (256 * (s / 256)) b, ← Nat.xor_assoc]
  rw [e, halves_xor, show (256 : Nat) = 2 ^ 8 from rfl, halves_shift]
  rfl
theorem crcS_snoc (c : Nat) (l : List Nat) (b : Nat) : crcS c (l ++ [b]) = halves 8 (crcS c l ^^^ b) := by simp [crcS]
theorem crcS_lt (c : Nat) (l : List Nat) (hc : c < 4294967296) (hl : ∀ b ∈ l, b < 256) : crcS c l < 4294967296 := by
  induction l generalizing c with
  | nil => exact hc
  | cons b l ih =>
    have hb : b < 256 := hl b (by simp)
    show crcS (halves 8 (c ^^^ b)) l < _
    exact ih _ (halves_lt _ _ (xor_lt32 _ _ hc (by omega))) (fun x hx => hl x (by simp [hx]))
theorem crc_lt (l : List Nat) (hl : ∀ b ∈ l, b < 256) : crc l < 4294967296 := xor_lt32 _ _ (by decide) (crcS_lt _ _ (by decide) hl)

/-! Numbers as bytes, the highest first -/
def digit (k n j : Nat) : Nat := n / 256 ^ (k - 1 - j) % 256
def be (k n : Nat) : List Nat := (List.range k).map (digit k n)
def val (l : List Nat) : Nat := l.foldl (fun n b => n * 256 + b) 0
theorem be_len (k n : Nat) : (be k n).length = k := by simp [be]
theorem be_lt (k n : Nat) : ∀ b ∈ be k n, b < 256 := by
  intro b hb
  simp only [be, List.mem_map, digit] at hb
  obtain ⟨j, _, rfl⟩ := hb
  omega
theorem val_snoc (l : List Nat) (b : Nat) : val (l ++ [b]) = val l * 256 + b := by simp [val]
theorem val_aux (l : List Nat) (n : Nat) (hl : ∀ b ∈ l, b < 256) : l.foldl (fun n b => n * 256 + b) n < (n + 1) * 256 ^ l.length := by
  induction l generalizing n with
  | nil => simp
  | cons b l ih =>
    have h2 := hl b (by simp)
    have h1 := ih (n * 256 + b) (fun x hx => hl x (by simp [hx]))
    refine Nat.lt_of_lt_of_le h1 ?_
    rw [List.length_cons, Nat.pow_succ, Nat.mul_comm (256 ^ l.length) 256, ← Nat.mul_assoc]
    exact Nat.mul_le_mul_right _ (by omega)
theorem val_lt (l : List Nat) (hl : ∀ b ∈ l, b < 256) : val l < 256 ^ l.length := by
  have := val_aux l 0 hl
  simpa [val] using this
theorem val_be_aux (k n j : Nat) (h : j ≤ k) : val ((List.range j).map (digit k n)) = n / 256 ^ (k - j) % 256 ^ j := by
  induction j with
  | zero => simp [val, Nat.mod_one]
  | succ j ih =>
    rw [List.range_succ, List.map_append, List.map_singleton, val_snoc, ih (by omega)]
    unfold digit
    have e : k - j = (k - (j + 1)) + 1 := by omega
    have e2 : k - 1 - j = k - (j + 1) := by omega
    rw [e, e2, Nat.pow_succ, ← Nat.div_div_eq_div_mul]
    generalize n / 256 ^ (k - (j + 1)) = m
    rw [Nat.pow_succ, Nat.mul_comm (256 ^ j) 256, Nat.mod_mul]
    omega
theorem val_be (k n : Nat) (h : n < 256 ^ k) : val (be k n) = n := by
  have := val_be_aux k n k (Nat.le_refl _)
  rw [Nat.sub_self, Nat.pow_zero, Nat.div_one, Nat.mod_eq_of_lt h] at this
  exact this
end Go.Proofs.YtbdhmkfdofkloaaGreatDoor.Sc
/- HOW BYTES LIE IN MEMORY: the views by which the contracts speak. -/
namespace Go.Proofs.YtbdhmkfdofkloaaGreatDoor
open Go.RowKit
open Sc

/-- the i-th number of a list -/
def at_ (l : List Nat) (i : Nat) : Nat := l.getD i 0
/-- all are bytes -/
def Byt (l : List Nat) : Prop := ∀ x ∈ l, x < 256
theorem at_lt {l : List Nat} (h : Byt l) (i : Nat) : at_ l i < 256 := by
  unfold at_
  by_cases hi : i < l.length
  · have := h _ (List.getElem_mem hi); simpa [hi] using this
  · simp [Nat.le_of_not_lt hi]
theorem Byt.take_ {l : List Nat} (h : Byt l) (n : Nat) : Byt (l.take n) := fun x hx => h x (List.mem_of_mem_take hx)
theorem take_at (l : List Nat) (k : Nat) (h : k < l.length) : l.take (k + 1) = l.take k ++ [at_ l k] := by
  rw [List.take_succ_eq_append_getElem h]; simp [at_, h]
/-- bytes as values -/
def bs (l : List Nat) : List Value := l.map fun x : Nat => .int .u8 (x : Int)
theorem bs_len (l : List Nat) : (bs l).length = l.length := by simp [bs]
theorem bs_app (a b : List Nat) : bs (a ++ b) = bs a ++ bs b := by simp [bs]
theorem bs_at (l : List Nat) (i : Nat) (h : i < l.length) : (bs l)[i]? = some (.int .u8 (at_ l i : Nat)) := by simp [bs, at_, h]
/-- the bytes l lie in block g from off on -/
def RowAt (w : World) (g off : Nat) (l : List Nat) : Prop := ∀ i, i < l.length → w.cell? ⟨g, off + i, none⟩ = some (.int .u8 (at_ l i : Nat))
theorem RowAt.below {w w' : World} {B g off : Nat} {l : List Nat} (h : RowAt w g off l) (hb : Below B w w') (hg : g < B) : RowAt w' g off l := fun i hi => by
  rw [hb.cell (p := ⟨g, off + i, none⟩) hg]; exact h i hi
theorem RowAt_alloc {w : World} {o : Obj} {b off : Nat} {l : List Nat} (h : b < w.heap.size) : RowAt (w.alloc o) b off l ↔ RowAt w b off l := by
  unfold RowAt
  constructor
  · intro k i hi; have := k i hi; rwa [World.cell?_alloc_lt _ _ ⟨b, off + i, none⟩ h] at this
  · intro k i hi; rw [World.cell?_alloc_lt _ _ ⟨b, off + i, none⟩ h]; exact k i hi
theorem RowAt.lt {w : World} {b off : Nat} {l : List Nat} (h : RowAt w b off l) (hl : 0 < l.length) : b < w.heap.size := by
  have := World.block_lt_of_cell? w ⟨b, off + 0, none⟩ (h 0 hl); exact this
theorem RowAt.sub {w : World} {b off : Nat} {l : List Nat} (h : RowAt w b off l) (o m : Nat) (hl : o + m ≤ l.length) : RowAt w b (off + o) ((l.drop o).take m) := fun i hi => by
  simp only [List.length_take, List.length_drop] at hi
  have := h (o + i) (by omega)
  rw [show off + o + i = off + (o + i) by omega, this]
  congr 3
  simp [at_, List.getElem?_drop, show i < m by omega]
theorem grown_refl (w : World) (r : Option Nat) : w.grownBy w r := ⟨rfl, rfl, rfl, Nat.le_refl _, fun _ _ _ => rfl⟩
theorem grown_trans {w w1 w2 : World} {r : Option Nat} (h : w.grownBy w1 r) (k : w1.grownBy w2 r) : w.grownBy w2 r :=
  ⟨k.os.trans h.os, k.tape.trans h.tape, k.output.trans h.output, Nat.le_trans h.size k.size, fun i hi hn => (k.block i (Nat.lt_of_lt_of_le hi h.size) hn).trans (h.block i hi hn)⟩
theorem grown_set (w : World) (b o : Nat) (v : Value) : w.grownBy (w.setCell ⟨b, o, none⟩ v) (some b) :=
  ⟨rfl, rfl, rfl, by simp [World.setCell], fun k _ hn => Below.heap_setCell _ _ _ _ (fun e => hn (by rw [e]))⟩
theorem grown_drew {w w1 : World} {r : Option Nat} (h : w.grownBy w1 r) : w.grownBy w1.drew r := ⟨h.os, h.tape, h.output, h.size, h.block⟩
theorem grown_cell {w w1 : World} {b : Nat} (h : w.grownBy w1 (some b)) {a : Addr} (hn : a.block ≠ b) (hl : a.block < w.heap.size) : w1.cell? a = w.cell? a :=
  World.cell?_of_block (h.block a.block hl (fun e => hn (Option.some.inj e)))
theorem grown_alloc (w : World) (o : Obj) (r : Option Nat) : w.grownBy (w.alloc o) r := World.grownBy_alloc w o r
theorem own_len {w : World} {base n : Nat} {v : Value} {xs : List Nat} (h : w.ownsRow base 5 1 v n (bs xs)) : xs.length = n := by
  have := h.1; rw [bs_len] at this; omega
theorem own_row {w : World} {base n g cap : Nat} {xs : List Nat} (h : w.ownsRow base 5 1 (.slice (some ⟨g, 0, none⟩) n cap) n (bs xs)) : RowAt w g 0 xs := fun i hi => by
  have := h.cells (g := g) rfl i _ (bs_at xs i hi)
  simpa [Addr.add_lit] using this
theorem own_lt {w : World} {base n g cap : Nat} {xs : List Nat} (h : w.ownsRow base 5 1 (.slice (some ⟨g, 0, none⟩) n cap) n (bs xs)) : base ≤ g ∧ g < w.heap.size := h.lt g rfl
/-- two rows were written at the most -/
theorem below_two {w w1 w2 : World} {b g B : Nat} (h : w.grownBy w1 (some b)) (k : w1.grownBy w2 (some g)) (hb : B ≤ b) (hg : B ≤ g) (hB : B ≤ w.heap.size) : Below B w w2 :=
  ((Below.refl B w).grown h hB (fun q hq => by cases hq; exact hb)).grown k (Nat.le_trans hB h.size) (fun q hq => by cases hq; exact hg)
theorem row_grown {w w' : World} {g off b : Nat} {l : List Nat} (h : RowAt w g off l) (hg : w.grownBy w' (some b)) (hne : g ≠ b) : RowAt w' g off l := fun i hi => by
  have h1 := h i hi
  rw [grown_cell hg (a := ⟨g, off + i, none⟩) hne (World.block_lt_of_cell? w _ h1)]; exact h1
theorem RowAt.drewN {w : World} {b off : Nat} {l : List Nat} (h : RowAt w b off l) (q : Nat) : RowAt (w.drewN q) b off l := fun i hi => by
  have := h i hi; simpa using this
theorem Tryz.info5 : (Tryz.prog.info? 5).map (fun i => (i.zero, i.size, i.bytes)) = some (some (.int .u8 0), 1, 1) := by kernel_rfl
end Go.Proofs.YtbdhmkfdofkloaaGreatDoor
/- DISKS, plainly: what files hold; what is told; what becomes of it. And how a map of files lies in memory. -/
namespace Go.Proofs.YtbdhmkfdofkloaaGreatDoor
open Go.RowKit
open Go.Maps (Keyed)

/-- files by their names -/
abbrev Files := ByteArray → Option ByteArray
def Files.set (m : Files) (k : ByteArray) (v : Option ByteArray) : Files := fun x => if x = k then v else m x
theorem Files.set_same (m : Files) (k : ByteArray) (v : Option ByteArray) : m.set k v k = v := by simp [Files.set]
theorem Files.set_other (m : Files) {k x : ByteArray} (v : Option ByteArray) (h : x ≠ k) : m.set k v x = m x := by simp [Files.set, h]
/-- something that a disk was told -/
structure AOp where
  kind : Nat
  name : ByteArray
  to : ByteArray
  data : ByteArray
def doOp (m : Files) (o : AOp) : Files :=
  if o.kind = 1 then m.set o.name (some o.data)
  else if o.kind = 2 then m.set o.name (some ((m o.name).getD ByteArray.empty ++ o.data))
  else if o.kind = 3 then m.set o.name none
  else if o.kind = 4 then (match m o.name with | none => m | some s => (m.set o.to (some s)).set o.name none)
  else m
structure ADisk where
  durable : Files
  now : Files
  pending : List AOp
  left : Int
  full : Int
  down : Bool
/-- writes: the error's number -/
def ADisk.writes (d : ADisk) : ADisk × Nat :=
  if d.down = true ∨ d.left = 0 then ({ d with down := true }, 10)
  else if d.full = 0 then ({ d with left := wrap64 (d.left - 1), full := -1 }, 9)
  else ({ d with left := wrap64 (d.left - 1), full := wrap64 (d.full - 1) }, 0)
def ADisk.tell (d : ADisk) (o : AOp) : ADisk × Nat :=
  let r := d.writes
  if r.2 = 10 then ({ r.1 with pending := r.1.pending ++ [o] }, 10)
  else if r.2 = 9 then (r.1, 9)
  else if r.1.now o.name = none ∧ 2 < o.kind then (r.1, 8)
  else if o.kind = 4 ∧ o.name = o.to then (r.1, 0)
  else ({ r.1 with now := doOp r.1.now o, pending := r.1.pending ++ [o] }, 0)
def ADisk.sync (d : ADisk) : ADisk × Nat :=
  let r := d.writes
  if r.2 = 0 then ({ r.1 with durable := r.1.pending.foldl doOp r.1.durable, pending := [] }, 0) else r

/-! ### blocks that may be written -/
/-- nothing has turned but the blocks of S, and new ones -/
structure Fr (S : List Nat) (w w' : World) : Prop where
  os : w'.os = w.os
  tape : w'.tape = w.tape
  output : w'.output = w.output
  size : w.heap.size ≤ w'.heap.size
  block : ∀ k, k < w.heap.size → k ∉ S → w'.heap[k]? = w.heap[k]?
theorem Fr.refl (S : List Nat) (w : World) : Fr S w w := ⟨rfl, rfl, rfl, Nat.le_refl _, fun _ _ _ => rfl⟩
theorem Fr.trans {S : List Nat} {a b c : World} (h : Fr S a b) (k : Fr S b c) : Fr S a c :=
  ⟨k.os.trans h.os, k.tape.trans h.tape, k.output.trans h.output, Nat.le_trans h.size k.size, fun i hi hn => (k.block i (Nat.lt_of_lt_of_le hi h.size) hn).trans (h.block i hi hn)⟩
theorem Fr.mono {S T : List Nat} {a b : World} (h : Fr S a b) (hs : ∀ k, k < a.heap.size → k ∈ S → k ∈ T) : Fr T a b :=
  ⟨h.os, h.tape, h.output, h.size, fun k hk hn => h.block k hk (fun hm => hn (hs k hk hm))⟩
/-- .. and a block that is new to the first may be written by the second -/
theorem Fr.andThen {S T : List Nat} {a b c : World} (h : Fr S a b) (k : Fr T b c) (ht : ∀ j, j ∈ T → j < a.heap.size → j ∈ S) : Fr S a c :=
  ⟨k.os.trans h.os, k.tape.trans h.tape, k.output.trans h.output, Nat.le_trans h.size k.size, fun i hi hn => (k.block i (Nat.lt_of_lt_of_le hi h.size) (fun hm => hn (ht i hm hi))).trans (h.block i hi hn)⟩
theorem Fr.of_grown {w w' : World} {r : Option Nat} (h : w.grownBy w' r) : Fr r.toList w w' :=
  ⟨h.os, h.tape, h.output, h.size, fun k hk hn => h.block k hk (fun e => hn (by rw [← e]; simp))⟩
theorem Fr.of_grown1 {w w' : World} {b : Nat} (h : w.grownBy w' (some b)) : Fr [b] w w' := Fr.of_grown h
theorem Fr.of_below {w w' : World} (h : Below w.heap.size w w') (S : List Nat) : Fr S w w' :=
  ⟨h.os, h.tape, h.output, h.size, fun k hk _ => h.block k hk⟩
theorem Fr.below {w w' : World} {S : List Nat} {B : Nat} (h : Fr S w w') (hB : B ≤ w.heap.size) (hs : ∀ k, k ∈ S → B ≤ k) : Below B w w' :=
  ⟨h.os, h.tape, h.output, h.size, fun k hk => h.block k (Nat.lt_of_lt_of_le hk hB) (fun hm => by have := hs k hm; omega)⟩
theorem Fr.grown1 {w w' : World} {b : Nat} (h : Fr [b] w w') : w.grownBy w' (some b) :=
  ⟨h.os, h.tape, h.output, h.size, fun k hk hn => h.block k hk (fun hm => hn (by simp at hm; rw [hm]))⟩
theorem Fr.alloc {S : List Nat} {a w : World} (h : Fr S a w) (o : Obj) : Fr S a (w.alloc o) :=
  h.trans ⟨rfl, rfl, rfl, by simp, fun k hk _ => Below.heap_alloc _ _ _ hk⟩
theorem Fr.drew {S : List Nat} {a w : World} (h : Fr S a w) : Fr S a w.drew := ⟨h.os, h.tape, h.output, h.size, h.block⟩
theorem Fr.setCell {S : List Nat} {a w : World} (h : Fr S a w) {p : Addr} (hp : p.block ∈ S ∨ a.heap.size ≤ p.block) (u : Value) : Fr S a (w.setCell p u) :=
  ⟨h.os, h.tape, h.output, Nat.le_trans h.size (by simp [World.setCell]), fun k hk hn => (Below.heap_setCell _ _ _ _ (fun e => by rcases hp with hp | hp; exact hn (e ▸ hp); omega)).trans (h.block k hk hn)⟩

theorem frDrewN {S : List Nat} {a w : World} (h : Fr S a w) : ∀ k, Fr S a (w.drewN k)
  | 0 => h
  | k + 1 => (frDrewN h k).drew

/-! ### a map of files -/
/-- a pointer to a block reads as the block's number -/
def ptrElem (v : Value) : Option (DataW Unit × List MemPlace) :=
  match v with
  | .pointer (some a) => if a.off = 0 ∧ a.spot = none then some (.lit (.int .i64 (a.block : Int)), []) else none
  | .pointer none => some (.lit (.int .i64 (-1)), [])
  | _ => none
theorem ptrElem_mk (q : Nat) : ptrElem (.pointer (some ⟨q, 0, none⟩)) = some (.lit (.int .i64 (q : Int)), []) := by simp [ptrElem]
theorem ptrElem_nil : ptrElem (.pointer none) = some (.lit (.int .i64 (-1)), []) := rfl
theorem ptrElem_inv {v : Value} {q : Nat} {ps : List MemPlace} (h : ptrElem v = some (.lit (.int .i64 (q : Int)), ps)) : v = .pointer (some ⟨q, 0, none⟩) := by
  unfold ptrElem at h
  split at h
  · rename_i a
    split at h
    · rename_i hc
      obtain ⟨b, o, s⟩ := a
      simp at h hc
      obtain ⟨rfl, rfl⟩ := hc
      simp
    · cases h
  · simp at h
  · cases h
theorem ptrElem_inv_nil {v : Value} {ps : List MemPlace} (h : ptrElem v = some (.lit (.int .i64 (-1)), ps)) : v = .pointer none := by
  unfold ptrElem at h
  split at h
  · rename_i a
    split at h
    · simp at h
    · cases h
  · rfl
  · cases h
theorem ptrElem_shape {v : Value} {y : DataW Unit × List MemPlace} (h : ptrElem v = some y) : ∃ c, v = Value.pointer c := by
  unfold ptrElem at h
  split at h
  · exact ⟨_, rfl⟩
  · exact ⟨_, rfl⟩
  · cases h
abbrev keyL (k : ByteArray) : Lit := .string k.data.toList
theorem keyL_inj {a b : ByteArray} (h : keyL a = keyL b) : a = b := by
  simp only [keyL, Lit.string.injEq] at h
  obtain ⟨a⟩ := a
  obtain ⟨b⟩ := b
  simp at h
  rw [h]
theorem Tryz.lawS : Keyed Tryz.prog 9 := Go.Maps.string_keyed Tryz.underlying9
theorem Tryz.zeroPtr (w : World) : (zeroValue 87).run Tryz.prog w = .ok (.pointer none) w := by kernel_rfl
/-- the cell of a file's text -/
abbrev textO (t : ByteArray) : Obj := .cells #[.string t] 9
/-- block b holds the files m, in at most n entries -/
def FileMap (w : World) (b n : Nat) (m : Files) : Prop :=
  ∃ D : DataW Unit, w.ownsMap Tryz.prog 9 ptrElem b n D ∧ ∀ k : ByteArray,
    (m k = none → Maps.has D (keyL k) = false) ∧
    (∀ t, m k = some t → Maps.has D (keyL k) = true ∧ k.size ≤ maxLen ∧ ∃ q : Nat, (∀ z, D.atKey (keyL k) z = .lit (.int .i64 (q : Int))) ∧ w.heap[q]? = some (textO t))
theorem FileMap.lt {w : World} {b n : Nat} {m : Files} (h : FileMap w b n m) : b < w.heap.size := by
  obtain ⟨D, h, _⟩ := h; exact h.lt
theorem FileMap.mono {w : World} {b n n' : Nat} {m : Files} (h : FileMap w b n m) (hn : n ≤ n') : FileMap w b n' m := by
  obtain ⟨D, h, h2⟩ := h; exact ⟨D, h.mono hn, h2⟩
theorem FileMap.isMap {w : World} {b n : Nat} {m : Files} (h : FileMap w b n m) : ∃ es c, w.heap[b]? = some (.map es c) := by
  obtain ⟨D, ⟨es, c, h, _⟩, _⟩ := h; exact ⟨es, c, h⟩
/-- blocks that are rows of cells may be written, but those of texts -/
theorem FileMap.fr {w w' : World} {b n : Nat} {m : Files} {S : List Nat} (h : FileMap w b n m) (hf : Fr S w w') (hb : b ∉ S) (hs : ∀ q ∈ S, ∀ t, w.heap[q]? ≠ some (textO t)) : FileMap w' b n m := by
  have hlt := h.lt
  obtain ⟨D, ⟨es, c, h1, h2, h3, h4⟩, h5⟩ := h
  refine ⟨D, ⟨es, c, (hf.block b hlt hb).trans h1, h2, h3, h4⟩, fun k => ⟨(h5 k).1, fun t ht => ?_⟩⟩
  obtain ⟨a1, a2, q, a3, a4⟩ := (h5 k).2 t ht
  refine ⟨a1, a2, q, a3, ?_⟩
  rw [hf.block q (Array.getElem?_eq_some_iff.1 a4).1 (fun hm => hs q hm t a4)]; exact a4
theorem FileMap.alloc {w : World} {b n : Nat} {m : Files} (h : FileMap w b n m) (o : Obj) : FileMap (w.alloc o) b n m :=
  h.fr ((Fr.refl [] w).alloc o) (by simp) (by simp)
theorem FileMap.made (w : World) : FileMap (w.alloc (.map #[] 0)) w.heap.size 0 (fun _ => none) :=
  ⟨.map [], World.ownsMap_made _ _ _ _, fun k => ⟨fun _ => rfl, fun t ht => by cases ht⟩⟩
/-- v, ok := m[k] -/
theorem FileMap.look {w : World} {b n : Nat} {m : Files} (h : FileMap w b n m) (k : ByteArray) (hk : k.size ≤ maxLen) :
    (m k = none ∧ (Instr.lookup 54 (.map (some b)) (.string k) true).run Tryz.prog w = .ok (.tuple #[.pointer none, .bool false]) w) ∨
    (∃ t q, m k = some t ∧ w.heap[q]? = some (textO t) ∧ (Instr.lookup 54 (.map (some b)) (.string k) true).run Tryz.prog w = .ok (.tuple #[.pointer (some ⟨q, 0, none⟩), .bool true]) w) := by
  obtain ⟨D, h1, h5⟩ := h
  obtain ⟨v, ps, hr, hv⟩ := h1.look_ok Tryz.lawS Tryz.underlying54 (Tryz.zeroPtr w) ptrElem_nil (Go.WideMaps.keyOf_string_mk Tryz.underlying9 hk)
  cases hm : m k with
  | none =>
    left
    have h0 := (h5 k).1 hm
    have h0' : Maps.has D (.string k.data.toList) = false := h0
    rw [Maps.atKey_of_not_has h0'] at hv
    obtain rfl := ptrElem_inv_nil hv
    rw [h0'] at hr
    exact ⟨rfl, hr⟩
  | some t =>
    right
    obtain ⟨h0, _, q, h3, h4⟩ := (h5 k).2 t hm
    rw [h3] at hv
    obtain rfl := ptrElem_inv hv
    have h0' : Maps.has D (.string k.data.toList) = true := h0
    rw [h0'] at hr
    exact ⟨t, q, rfl, h4, hr⟩
/-- v := m[k] -/
theorem FileMap.look1 {w : World} {b n : Nat} {m : Files} (h : FileMap w b n m) (k t : ByteArray) (hk : m k = some t) :
    ∃ q, w.heap[q]? = some (textO t) ∧ (Instr.lookup 54 (.map (some b)) (.string k) false).run Tryz.prog w = .ok (.pointer (some ⟨q, 0, none⟩)) w := by
  obtain ⟨D, h1, h5⟩ := h
  obtain ⟨h0, hsz, q, h3, h4⟩ := (h5 k).2 t hk
  obtain ⟨v, ps, hr, hv⟩ := h1.lookup Tryz.lawS Tryz.underlying54 (Tryz.zeroPtr w) ptrElem_nil (Go.WideMaps.keyOf_string_mk Tryz.underlying9 hsz)
  rw [h3] at hv
  obtain rfl := ptrElem_inv hv
  exact ⟨q, h4, hr⟩
/-- m[k] = &t -/
theorem FileMap.put {w w' : World} {b n : Nat} {m : Files} {D : DataW Unit} (h5 : ∀ k : ByteArray, (m k = none → Maps.has D (keyL k) = false) ∧ (∀ t, m k = some t → Maps.has D (keyL k) = true ∧ k.size ≤ maxLen ∧ ∃ q : Nat, (∀ z, D.atKey (keyL k) z = .lit (.int .i64 (q : Int))) ∧ w.heap[q]? = some (textO t)))
    (hm : w.ownsMap Tryz.prog 9 ptrElem b n D) (k : ByteArray) (hk : k.size ≤ maxLen) (q : Nat) (t : ByteArray) (hq : w.heap[q]? = some (textO t))
    (ho : w'.ownsMap Tryz.prog 9 ptrElem b (n + 1) (D.put (keyL k) (.lit (.int .i64 (q : Int))))) (hg : w.grownBy w' (some b)) : FileMap w' b (n + 1) (m.set k (some t)) := by
  have hi := hm.isMap
  have hkl : WideAt.IsKeyLit (keyL k) := trivial
  have keep : ∀ (q : Nat) (t : ByteArray), w.heap[q]? = some (textO t) → w'.heap[q]? = some (textO t) := fun q t h => by
    rw [hg.block q (Array.getElem?_eq_some_iff.1 h).1 (fun e => by cases e; obtain ⟨es, c, h1, _⟩ := hm; rw [h1] at h; cases h)]; exact h
  refine ⟨_, ho, fun x => ?_⟩
  by_cases hx : x = k
  · subst hx
    rw [Files.set_same]
    refine ⟨fun h => (by simp at h), fun t' h => ?_⟩
    obtain rfl : t = t' := Option.some.inj h
    exact ⟨Maps.has_put_same hi hkl _, hk, q, fun z => Maps.atKey_put_same hi hkl _ z, keep _ _ hq⟩
  · rw [Files.set_other _ _ hx]
    have hne : keyL x ≠ keyL k := fun e => hx (keyL_inj e)
    refine ⟨fun h => by rw [Maps.has_put_other hne]; exact (h5 x).1 h, fun t' h => ?_⟩
    obtain ⟨a1, a2, q', a3, a4⟩ := (h5 x).2 t' h
    exact ⟨by rw [Maps.has_put_other hne]; exact a1, a2, q', fun z => by rw [Maps.atKey_put_other hne]; exact a3 z, keep _ _ a4⟩
theorem FileMap.del {w w' : World} {b n : Nat} {m : Files} {D : DataW Unit} (h5 : ∀ k : ByteArray, (m k = none → Maps.has D (keyL k) = false) ∧ (∀ t, m k = some t → Maps.has D (keyL k) = true ∧ k.size ≤ maxLen ∧ ∃ q : Nat, (∀ z, D.atKey (keyL k) z = .lit (.int .i64 (q : Int))) ∧ w.heap[q]? = some (textO t)))
    (hm : w.ownsMap Tryz.prog 9 ptrElem b n D) (k : ByteArray)
    (ho : w'.ownsMap Tryz.prog 9 ptrElem b n (D.del (keyL k))) (hg : w.grownBy w' (some b)) : FileMap w' b n (m.set k none) := by
  have keep : ∀ (q : Nat) (t : ByteArray), w.heap[q]? = some (textO t) → w'.heap[q]? = some (textO t) := fun q t h => by
    rw [hg.block q (Array.getElem?_eq_some_iff.1 h).1 (fun e => by cases e; obtain ⟨es, c, h1, _⟩ := hm; rw [h1] at h; cases h)]; exact h
  refine ⟨_, ho, fun x => ?_⟩
  by_cases hx : x = k
  · subst hx
    rw [Files.set_same]
    exact ⟨fun _ => Maps.has_del_same, fun t' h => by cases h⟩
  · rw [Files.set_other _ _ hx]
    have hne : keyL x ≠ keyL k := fun e => hx (keyL_inj e)
    refine ⟨fun h => by rw [Maps.has_del_other hne]; exact (h5 x).1 h, fun t' h => ?_⟩
    obtain ⟨a1, a2, q', a3, a4⟩ := (h5 x).2 t' h
    exact ⟨by rw [Maps.has_del_other hne]; exact a1, a2, q', fun z => by rw [Maps.atKey_del_other hne]; exact a3 z, keep _ _ a4⟩

/-- at the operations -/
theorem wpList_file_put {w : World} {ops : Array Oper} {rest : List Oper} {o : Oper} {a : Act} {Q : Exit → Act → World → Prop} (hg : o.guard = none) (m x v : Operand) (hop : o.op = Op.mapUpdate 54 m x v)
    (b n : Nat) (F : Files) (hm : a.eval m = .map (some b)) (hF : FileMap w b n F) (hn : n < maxLen) (k : ByteArray) (hk : k.size ≤ maxLen) (hx : a.eval x = .string k) (q : Nat) (t : ByteArray) (hv : a.eval v = .pointer (some ⟨q, 0, none⟩)) (hq : w.heap[q]? = some (textO t))
    (hK : ∀ w', FileMap w' b (n + 1) (F.set k (some t)) → w.grownBy w' (some b) → wpList Tryz.prog ops Q rest (a.put o.dst undef) w') : wpList Tryz.prog ops Q (o :: rest) a w := by
  obtain ⟨D, h1, h5⟩ := hF
  refine wpList_mapUpdate_own w hg m x v _ hop 9 87 Tryz.lawS Tryz.underlying54 ptrElem b n D hm h1 hn _ _ (keyL k) hx hv (Go.WideMaps.keyOf_string_mk Tryz.underlying9 hk) _ [] (ptrElem_mk q) ?_
  intro w' ho hgr
  exact hK w' (FileMap.put h5 h1 k hk q t hq ho hgr) hgr
theorem wpList_file_del {w : World} {ops : Array Oper} {rest : List Oper} {o : Oper} {a : Act} {Q : Exit → Act → World → Prop} (hg : o.guard = none) (m x : Operand) (hop : o.op = Op.call { callee := Callee.builtin Builtin.delete, args := #[m, x], argTypes := #[54, 9] })
    (b n : Nat) (F : Files) (hm : a.eval m = .map (some b)) (hF : FileMap w b n F) (k : ByteArray) (hk : k.size ≤ maxLen) (hx : a.eval x = .string k)
    (hK : ∀ w', FileMap w' b n (F.set k none) → w.grownBy w' (some b) → wpList Tryz.prog ops Q rest (a.put o.dst (.tuple #[])) w') : wpList Tryz.prog ops Q (o :: rest) a w := by
  obtain ⟨D, h1, h5⟩ := hF
  refine wpList_delete_own w hg m x _ _ hop 87 Tryz.lawS Tryz.underlying54 ptrElem b n D hm h1 _ (keyL k) hx (Go.WideMaps.keyOf_string_mk Tryz.underlying9 hk) ?_
  intro w' ho ht
  exact hK w' (FileMap.del h5 h1 k ho ht.grown) ht.grown
end Go.Proofs.YtbdhmkfdofkloaaGreatDoor
