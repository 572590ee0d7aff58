import Derived.Test.YtkhjhojmhllkaaaGreatDoorProg
import Derived.WalkKit
import Derived.WalkSpells
import Derived.WalkLawsBesides
import Derived.Laws.BitsAll
import Derived.BigQuiet
import Derived.Defers
import Derived.Laws.Pointers
import Derived.Laws.LoneSync
import Derived.Laws.NewBlocks
import Derived.RegionTactic
import Derived.RegionCalls
import Derived.ChangeAlike
import Derived.Deep.RegionHeld3
/- THE PLAIN MATHEMATICS of records and messages as bytes: the sum (CRC-32) bit by bit and by a table; numbers as bytes. It imports nothing of the dump. -/
namespace Go.Proofs.YtkhjhojmhllkaaaGreatDoor.Sc

/-- one bit of the sum's reckoning -/
def half (c : Nat) : Nat := if c % 2 = 1 then (c / 2) ^^^ 3988292384 else c / 2
def halves : Nat → Nat → Nat
  | 0, c => c
  | k + 1, c => half (halves k c)
def crcS (c : Nat) (l : List Nat) : Nat := l.foldl (fun c b => halves 8 (c ^^^ b)) c
def crc (l : List Nat) : Nat := 4294967295 ^^^ crcS 4294967295 l

theorem xor_div2 (a b : Nat) : (a ^^^ b) / 2 = a / 2 ^^^ b / 2 := by
  have := Nat.shiftRight_xor_distrib (a := a) (b := b) (i := 1)
  simpa [Nat.shiftRight_eq_div_pow] using this
theorem xor_mod2 (a b : Nat) : (a ^^^ b) % 2 = (a + b) % 2 := by
  have h := Nat.xor_mod_two_pow (a := a) (b := b) (n := 1)
  rw [show (2 : Nat) ^ 1 = 2 from rfl] at h
  rw [h]
  rcases Nat.mod_two_eq_zero_or_one a with ha | ha <;> rcases Nat.mod_two_eq_zero_or_one b with hb | hb <;> rw [ha, hb] <;> simp <;> omega
theorem half_xor (a b : Nat) : half (a ^^^ b) = half a ^^^ half b := by
  unfold half
  have h1 := xor_div2 a b
  have h2 := xor_mod2 a b
  rw [h1, h2]
  rcases Nat.mod_two_eq_zero_or_one a with ha | ha <;> rcases Nat.mod_two_eq_zero_or_one b with hb | hb
  · rw [if_neg (by omega), if_neg (by omega), if_neg (by omega)]
  · rw [if_pos (by omega), if_neg (by omega), if_pos (by omega), Nat.xor_assoc]
  · rw [if_pos (by omega), if_pos (by omega), if_neg (by omega), Nat.xor_assoc, Nat.xor_assoc, Nat.xor_comm (b / 2)]
  · rw [if_neg (by omega), if_pos (by omega), if_pos (by omega), Nat.xor_assoc, Nat.xor_comm 3988292384, Nat.xor_assoc, Nat.xor_self, Nat.xor_zero]
theorem halves_xor (k a b : Nat) : halves k (a ^^^ b) = halves k a ^^^ halves k b := by
  induction k with
  | zero => rfl
  | succ k ih => simp only [halves, ih, half_xor]
theorem halves_half (k c : Nat) : halves k (half c) = half (halves k c) := by
  induction k with
  | zero => rfl
  | succ k ih => simp only [halves, ih]
theorem halves_shift (k d : Nat) : halves k (2 ^ k * d) = d := by
  induction k generalizing d with
  | zero => simp [halves]
  | succ k ih =>
    have e : 2 ^ (k + 1) * d = 2 ^ k * (2 * d) := by rw [Nat.pow_succ, Nat.mul_assoc]
    rw [e]
    simp only [halves, ih]
    unfold half
    rw [if_neg (by omega)]
    omega
theorem half_lt (c : Nat) (h : c < 4294967296) : half c < 4294967296 := by
  unfold half
  have h1 : c / 2 < 2 ^ 32 := by omega
  split
  · exact Nat.xor_lt_two_pow h1 (by decide)
  · exact h1
theorem halves_lt (k c : Nat) (h : c < 4294967296) : halves k c < 4294967296 := by
  induction k with
  | zero => exact h
  | succ k ih => exact half_lt _ ih
theorem xor_lt32 (a b : Nat) (ha : a < 4294967296) (hb : b < 4294967296) : a ^^^ b < 4294967296 := Nat.xor_lt_two_pow (n := 32) ha hb
theorem xor_lt8 (a b : Nat) (ha : a < 256) (hb : b < 256) : a ^^^ b < 256 := Nat.xor_lt_two_pow (n := 8) ha hb
theorem split8 (s : Nat) : s = (s % 256) ^^^ (256 * (s / 256)) := by
  refine Nat.eq_of_testBit_eq fun i => ?_
  rw [Nat.testBit_xor, show (256 : Nat) = 2 ^ 8 from rfl, Nat.testBit_mod_two_pow, Nat.testBit_two_pow_mul, Nat.testBit_div_two_pow]
  by_cases h : i < 8
  · have : ¬ 8 ≤ i := by omega
    simp [h, this]
  · have h2 : 8 ≤ i := by omega
    simp [h, h2]
/-- one byte by the table -/
def tstep (s b : Nat) : Nat := halves 8 ((s % 256) ^^^ b) ^^^ (s / 256)
theorem tstep_eq (s b : Nat) : tstep s b = halves 8 (s ^^^ b) := by
  have e : s ^^^ b = ((s % 256) ^^^ b) ^^^ (256 * (s / 256)) := by
    conv => lhs; rw [split8 s]
    rw [Nat.xor_assoc, Nat.xor_comm (256 * (s / 256)) b, ← Nat.xor_assoc]
  rw [e, halves_xor, show (256 : Nat) = 2 ^ 8 from rfl, halves_shift]
  rfl
theorem crcS_snoc (c : Nat) (l : List Nat) (b : Nat) : crcS c (l ++ [b]) = halves 8 (crcS c l ^^^ b) := by simp [crcS]
theorem crcS_lt (c : Nat) (l : List Nat) (hc : c < 4294967296) (hl : ∀ b ∈ l, b < 256) : crcS c l < 4294967296 := by
  induction l generalizing c with
  | nil => exact hc
  | cons b l ih =>
    have hb : b < 256 := hl b (by simp)
    show crcS (halves 8 (c ^^^ b)) l < _
    exact ih _ (halves_lt _ _ (xor_lt32 _ _ hc (by omega))) (fun x hx => hl x (by simp [hx]))
theorem crc_lt (l : List Nat) (hl : ∀ b ∈ l, b < 256) : crc l < 4294967296 := xor_lt32 _ _ (by decide) (crcS_lt _ _ (by decide) hl)

/-! Numbers as bytes, the highest first -/
def digit (k n j : Nat) : Nat := n / 256 ^ (k - 1 - j) % 256
def be (k n : Nat) : List Nat := (List.range k).map (digit k n)
def val (l : List Nat) : Nat := l.foldl (fun n b => n * 256 + b) 0
theorem be_len (k n : Nat) : (be k n).length = k := by simp [be]
theorem be_lt (k n : Nat) : ∀ b ∈ be k n, b < 256 := by
  intro b hb
  simp only [be, List.mem_map, digit] at hb
  obtain ⟨j, _, rfl⟩ := hb
  omega
theorem val_snoc (l : List Nat) (b : Nat) : val (l ++ [b]) = val l * 256 + b := by simp [val]
theorem val_aux (l : List Nat) (n : Nat) (hl : ∀ b ∈ l, b < 256) : l.foldl (fun n b => n * 256 + b) n < (n + 1) * 256 ^ l.length := by
  induction l generalizing n with
  | nil => simp
  | cons b l ih =>
    have h2 := hl b (by simp)
    have h1 := ih (n * 256 + b) (fun x hx => hl x (by simp [hx]))
    refine Nat.lt_of_lt_of_le h1 ?_
    rw [List.length_cons, Nat.pow_succ, Nat.mul_comm (256 ^ l.length) 256, ← Nat.mul_assoc]
    exact Nat.mul_le_mul_right _ (by omega)
theorem val_lt (l : List Nat) (hl : ∀ b ∈ l, b < 256) : val l < 256 ^ l.length := by
  have := val_aux l 0 hl
  simpa [val] using this
theorem val_be_aux (k n j : Nat) (h : j ≤ k) : val ((List.range j).map (digit k n)) = n / 256 ^ (k - j) % 256 ^ j := by
  induction j with
  | zero => simp [val, Nat.mod_one]
  | succ j ih =>
    rw [List.range_succ, List.map_append, List.map_singleton, val_snoc, ih (by omega)]
    unfold digit
    have e : k - j = (k - (j + 1)) + 1 := by omega
    have e2 : k - 1 - j = k - (j + 1) := by omega
    rw [e, e2, Nat.pow_succ, ← Nat.div_div_eq_div_mul]
    generalize n / 256 ^ (k - (j + 1)) = m
    rw [Nat.pow_succ, Nat.mul_comm (256 ^ j) 256, Nat.mod_mul]
    omega
theorem val_be (k n : Nat) (h : n < 256 ^ k) : val (be k n) = n := by
  have := val_be_aux k n k (Nat.le_refl _)
  rw [Nat.sub_self, Nat.pow_zero, Nat.div_one, Nat.mod_eq_of_lt h] at this
  exact this
end Go.Proofs.YtkhjhojmhllkaaaGreatDoor.Sc
/- HOW BYTES LIE IN MEMORY: the views by which the contracts speak. -/
namespace Go.Proofs.YtkhjhojmhllkaaaGreatDoor
open Go.RowKit
open Sc

/-- the i-th number of a list -/
def at_ (l : List Nat) (i : Nat) : Nat := l.getD i 0
/-- all are bytes -/
def Byt (l : List Nat) : Prop := ∀ x ∈ l, x < 256
theorem at_lt {l : List Nat} (h : Byt l) (i : Nat) : at_ l i < 256 := by
  unfold at_
  by_cases hi : i < l.length
  · have := h _ (List.getElem_mem hi); simpa [hi] using this
  · simp [Nat.le_of_not_lt hi]
theorem Byt.take_ {l : List Nat} (h : Byt l) (n : Nat) : Byt (l.take n) := fun x hx => h x (List.mem_of_mem_take hx)
theorem take_at (l : List Nat) (k : Nat) (h : k < l.length) : l.take (k + 1) = l.take k ++ [at_ l k] := by
  rw [List.take_succ_eq_append_getElem h]; simp [at_, h]
/-- the bytes l lie from ao on -/
def Lies (w : World) (ao : Option Addr) (l : List Nat) : Prop :=
  l = [] ∨ ∃ b off, ao = some ⟨b, off, none⟩ ∧ ∀ i, i < l.length → w.cell? ⟨b, off + i, none⟩ = some (.int .u8 (at_ l i : Nat))
/-- bytes as values -/
def bs (l : List Nat) : List Value := l.map fun x : Nat => .int .u8 (x : Int)
theorem bs_len (l : List Nat) : (bs l).length = l.length := by simp [bs]
theorem bs_app (a b : List Nat) : bs (a ++ b) = bs a ++ bs b := by simp [bs]
theorem bs_at (l : List Nat) (i : Nat) (h : i < l.length) : (bs l)[i]? = some (.int .u8 (at_ l i : Nat)) := by simp [bs, at_, h]
/-- the bytes l lie in block g from off on -/
def RowAt (w : World) (g off : Nat) (l : List Nat) : Prop := ∀ i, i < l.length → w.cell? ⟨g, off + i, none⟩ = some (.int .u8 (at_ l i : Nat))
theorem own_shape {w : World} {base n : Nat} {v : Value} {xs : List Nat} (h : w.ownsRow base 5 1 v n (bs xs)) (hn : 0 < n) :
    ∃ g cap, v = .slice (some ⟨g, 0, none⟩) n cap ∧ base ≤ g ∧ g < w.heap.size ∧ n ≤ cap ∧ cap ≤ maxLen ∧ RowAt w g 0 xs := by
  obtain ⟨h1, h2⟩ := h
  rcases h2 with ⟨_, h3⟩ | ⟨g, cap, cur, rfl, hb, hg, hnc, hcm, hcs, htk⟩
  · omega
  · refine ⟨g, cap, rfl, hb, (Array.getElem?_eq_some_iff.1 hg).1, hnc, hcm, fun i hi => ?_⟩
    have hown : w.ownsRow base 5 1 (.slice (some ⟨g, 0, none⟩) n cap) n (bs xs) := ⟨h1, .inr ⟨g, cap, cur, rfl, hb, hg, hnc, hcm, hcs, htk⟩⟩
    have := hown.cells (g := g) rfl i _ (bs_at xs i hi)
    simpa [Addr.add_lit] using this
theorem RowAt.below {w w' : World} {B g off : Nat} {l : List Nat} (h : RowAt w g off l) (hb : Below B w w') (hg : g < B) : RowAt w' g off l := fun i hi => by
  rw [hb.cell (p := ⟨g, off + i, none⟩) hg]; exact h i hi
theorem RowAt_alloc {w : World} {o : Obj} {b off : Nat} {l : List Nat} (h : b < w.heap.size) : RowAt (w.alloc o) b off l ↔ RowAt w b off l := by
  unfold RowAt
  constructor
  · intro k i hi; have := k i hi; rwa [World.cell?_alloc_lt _ _ ⟨b, off + i, none⟩ h] at this
  · intro k i hi; rw [World.cell?_alloc_lt _ _ ⟨b, off + i, none⟩ h]; exact k i hi
theorem RowAt_drew {w : World} {b off : Nat} {l : List Nat} : RowAt w.drew b off l ↔ RowAt w b off l := by
  unfold RowAt; simp
theorem RowAt_setCell {w : World} {b off : Nat} {l : List Nat} {a : Addr} {v : Value} (h : ¬ a.block = b) : RowAt (w.setCell a v) b off l ↔ RowAt w b off l := by
  unfold RowAt
  have e : ∀ i, (w.setCell a v).cell? ⟨b, off + i, none⟩ = w.cell? ⟨b, off + i, none⟩ := fun i => World.cell?_setCell_other _ _ _ _ (fun hh => h (by rw [hh]))
  constructor
  · intro k i hi; have := k i hi; rwa [e] at this
  · intro k i hi; rw [e]; exact k i hi
theorem RowAt.lt {w : World} {b off : Nat} {l : List Nat} (h : RowAt w b off l) (hl : 0 < l.length) : b < w.heap.size := by
  have := World.block_lt_of_cell? w ⟨b, off + 0, none⟩ (h 0 hl); exact this
theorem RowAt.sub {w : World} {b off : Nat} {l : List Nat} (h : RowAt w b off l) (o m : Nat) (hl : o + m ≤ l.length) : RowAt w b (off + o) ((l.drop o).take m) := fun i hi => by
  simp only [List.length_take, List.length_drop] at hi
  have := h (o + i) (by omega)
  rw [show off + o + i = off + (o + i) by omega, this]
  congr 3
  simp [at_, List.getElem?_drop, show i < m by omega]
theorem grown_refl (w : World) (r : Option Nat) : w.grownBy w r := ⟨rfl, rfl, rfl, Nat.le_refl _, fun _ _ _ => rfl⟩
theorem grown_trans {w w1 w2 : World} {r : Option Nat} (h : w.grownBy w1 r) (k : w1.grownBy w2 r) : w.grownBy w2 r :=
  ⟨k.os.trans h.os, k.tape.trans h.tape, k.output.trans h.output, Nat.le_trans h.size k.size, fun i hi hn => (k.block i (Nat.lt_of_lt_of_le hi h.size) hn).trans (h.block i hi hn)⟩
theorem grown_set (w : World) (b o : Nat) (v : Value) : w.grownBy (w.setCell ⟨b, o, none⟩ v) (some b) :=
  ⟨rfl, rfl, rfl, by simp [World.setCell], fun k _ hn => Below.heap_setCell _ _ _ _ (fun e => hn (by rw [e]))⟩
theorem grown_drew {w w1 : World} {r : Option Nat} (h : w.grownBy w1 r) : w.grownBy w1.drew r := ⟨h.os, h.tape, h.output, h.size, h.block⟩
theorem grown_cell {w w1 : World} {b : Nat} (h : w.grownBy w1 (some b)) {a : Addr} (hn : a.block ≠ b) (hl : a.block < w.heap.size) : w1.cell? a = w.cell? a :=
  World.cell?_of_block (h.block a.block hl (fun e => hn (Option.some.inj e)))
theorem grown_alloc (w : World) (o : Obj) (r : Option Nat) : w.grownBy (w.alloc o) r := World.grownBy_alloc w o r
theorem own_len {w : World} {base n : Nat} {v : Value} {xs : List Nat} (h : w.ownsRow base 5 1 v n (bs xs)) : xs.length = n := by
  have := h.1; rw [bs_len] at this; omega
theorem own_row {w : World} {base n g cap : Nat} {xs : List Nat} (h : w.ownsRow base 5 1 (.slice (some ⟨g, 0, none⟩) n cap) n (bs xs)) : RowAt w g 0 xs := fun i hi => by
  have := h.cells (g := g) rfl i _ (bs_at xs i hi)
  simpa [Addr.add_lit] using this
theorem own_lt {w : World} {base n g cap : Nat} {xs : List Nat} (h : w.ownsRow base 5 1 (.slice (some ⟨g, 0, none⟩) n cap) n (bs xs)) : base ≤ g ∧ g < w.heap.size := h.lt g rfl
/-- two rows were written at the most -/
theorem below_two {w w1 w2 : World} {b g B : Nat} (h : w.grownBy w1 (some b)) (k : w1.grownBy w2 (some g)) (hb : B ≤ b) (hg : B ≤ g) (hB : B ≤ w.heap.size) : Below B w w2 :=
  ((Below.refl B w).grown h hB (fun q hq => by cases hq; exact hb)).grown k (Nat.le_trans hB h.size) (fun q hq => by cases hq; exact hg)
theorem row_grown {w w' : World} {g off b : Nat} {l : List Nat} (h : RowAt w g off l) (hg : w.grownBy w' (some b)) (hne : g ≠ b) : RowAt w' g off l := fun i hi => by
  have h1 := h i hi
  rw [grown_cell hg (a := ⟨g, off + i, none⟩) hne (World.block_lt_of_cell? w _ h1)]; exact h1
theorem RowAt.drewN {w : World} {b off : Nat} {l : List Nat} (h : RowAt w b off l) (q : Nat) : RowAt (w.drewN q) b off l := fun i hi => by
  have := h i hi; simpa using this
theorem Tryz.info5 : (Tryz.prog.info? 5).map (fun i => (i.zero, i.size, i.bytes)) = some (some (.int .u8 0), 1, 1) := by kernel_rfl
end Go.Proofs.YtkhjhojmhllkaaaGreatDoor
/- CONTRACTS of the document's own answer: the sum, numbers as bytes. -/
namespace Go.Proofs.YtkhjhojmhllkaaaGreatDoor
open Go.RowKit
open Sc

theorem and1 (X : Nat) (h : X < 4294967296) : bits .and .u32 (X : Int) 1 = ((X % 2 : Nat) : Int) := by
  have := u32_and_nat X 1 h (by omega)
  rw [Nat.and_one_is_mod] at this
  exact this
theorem xorP (X : Nat) (h : X < 4294967296) : bits .xor .u32 (X : Int) 3988292384 = ((X ^^^ 3988292384 : Nat) : Int) := u32_xor_nat X 3988292384 h (by omega)
theorem notU (X : Nat) (h : X < 4294967296) : bits .xor .u32 4294967295 (X : Int) = ((4294967295 ^^^ X : Nat) : Int) := u32_xor_nat 4294967295 X (by omega) h
theorem half_odd (X : Nat) (h : X % 2 = 1) : half X = X / 2 ^^^ 3988292384 := by unfold half; rw [if_pos h]
theorem half_even (X : Nat) (h : ¬ X % 2 = 1) : half X = X / 2 := by unfold half; rw [if_neg h]
theorem ret_int {k : IntKind} {a b : Int} (h : a = b) : Ending.returned (.int k a) = .returned (.int k b) := by rw [h]
theorem int_eq {k : IntKind} {a b : Int} (h : a = b) : Value.int k a = .int k b := by rw [h]

theorem val_step (C A : Nat) (hC : C < 72057594037927936) (ha : A < 256) : IntKind.u64.wrap (IntKind.u64.wrap ((C : Int) * 256) + (A : Int)) = ((C * 256 + A : Nat) : Int) := by
  rw [IntKind.wrap_u64, IntKind.wrap_u64]; omega

theorem digit_int (n k j : Nat) : ((n : Int) / 2 ^ (8 * (k - 1 - j)) % 256) = ((digit k n j : Nat) : Int) := by
  unfold digit
  rw [show (256 : Nat) ^ (k - 1 - j) = 2 ^ (8 * (k - 1 - j)) by rw [Nat.pow_mul]]
  simp
end Go.Proofs.YtkhjhojmhllkaaaGreatDoor
/- NUMBERS AS BYTES in package wire: width, AppendNumber, takeNumber (made by mknum.py: one text an instance). -/
namespace Go.Proofs.YtkhjhojmhllkaaaGreatDoor
open Go.RowKit
open Sc

/-- where what lies behind the first k bytes begins -/
def cutA (b off k cap : Nat) : Option Addr := if cap = k then some ⟨b, off, none⟩ else some ⟨b, off + k, none⟩
theorem cutA_far {b off k cap : Nat} (h : k < cap) : cutA b off k cap = some ⟨b, off + k, none⟩ := by unfold cutA; rw [if_neg (by omega)]
theorem cutA_end (b off k : Nat) : cutA b off k k = some ⟨b, off, none⟩ := by unfold cutA; rw [if_pos rfl]
theorem bs_snoc (xs : List Nat) (k n j : Nat) : bs (xs ++ (List.range (j + 1)).map (digit k n)) = bs (xs ++ (List.range j).map (digit k n)) ++ [.int .u8 ((digit k n j : Nat) : Int)] := by
  rw [List.range_succ, List.map_append, ← List.append_assoc, bs_app]; rfl

set_option maxRecDepth 100000 in
set_option maxHeartbeats 400000 in
theorem width_u16 (w : World) : Calls Tryz.prog 235 #[] w fun e w' => e = .returned (.int .i64 2) ∧ w' = w := by
  have hsg : IntKind.u16.signed = false := rfl
  have hb : bits .xor .u16 IntKind.u16.max 0 = 65535 := by decide +kernel
  go_enter Tryz.func235, Tryz.ntmps235
  go_wp2
  go_ret
  refine ⟨?_, rfl⟩
  kernel_rfl

set_option maxRecDepth 100000 in
set_option maxHeartbeats 400000 in
theorem app_u16 (base g k cap : Nat) (xs : List Nat) (n : Nat) (w : World) (hown : w.ownsRow base 5 1 (.slice (some ⟨g, 0, none⟩) k cap) k (bs xs)) (hr : k + 2 ≤ cap) (hn : n < 65536) :
    Calls Tryz.prog 192 #[.slice (some ⟨g, 0, none⟩) k cap, .int .u16 n] w fun e w' => e = .returned (.slice (some ⟨g, 0, none⟩) (k + 2) cap) ∧ w'.ownsRow base 5 1 (.slice (some ⟨g, 0, none⟩) (k + 2) cap) (k + 2) (bs (xs ++ be 2 n)) ∧ w.grownBy w' (some g) := by
  obtain ⟨i0, hi, hz0, hz1, hz2⟩ := info_parts Tryz.info5
  have HNN : Hid (n < 65536) := hn
  skip
  go_enter Tryz.func192, Tryz.ntmps192
  go_wp2_with (go_at_call 235; refine (width_u16 _).mono ?_; rintro e w' ⟨rfl, hw⟩; have hw2 := hw.symm; subst hw2; clear hw)
  go_loopw [0, 5] (fun v i wr => ∃ j : Nat, j ≤ 2 ∧ i = .int .i64 ((2 : Int) - 1 - j) ∧ v = .slice (some ⟨g, 0, none⟩) (k + j) cap ∧ wr.ownsRow base 5 1 (.slice (some ⟨g, 0, none⟩) (k + j) cap) (k + j) (bs (xs ++ (List.range j).map (digit 2 n))) ∧ w.grownBy wr (some g)) (fun _ i _ => (intOf i + 1).toNat)
  case atStart => exact ⟨0, Nat.zero_le _, by go_num, rfl, by simpa using hown, grown_refl _ _⟩
  case round =>
    obtain ⟨j, hj, rfl, rfl, hownr, hgr⟩ := hrel
    by_cases hlt : j < 2
    · have HD : Hid (((n : Int) / 2 ^ (8 * (1 - j)) % 256) = ((digit 2 n j : Nat) : Int)) := digit_int n 2 j
      skip
      skip
      go_wp2_with (at_builtin; refine wpList_append_fits _ rfl _ _ 206 rfl base 5 i0 1 Tryz.underlying206 hi hz1 g (k + j) cap _ rfl (hownr.alloc _) ⟨wr.heap.size, 0, none⟩ 1 1 [.int .u8 ((n : Int) / 2 ^ (8 * (1 - j)) % 256)] rfl rfl ?c1 ?c2 ?c3 ?_)
      case c1 =>
        intro jj u hjj
        match jj, hjj with
        | 0, hjj => simp at hjj; subst hjj; simp [Addr.add]
      case c2 => intro u hu; simp at hu; subst hu; rfl
      case c3 => omega
      · intro w1 hown' hgrow
        have hG1 : w.grownBy w1 (some g) := grown_trans hgr (grown_trans (grown_alloc _ _ _) hgrow)
        have hO1 : w1.ownsRow base 5 1 (.slice (some ⟨g, 0, none⟩) (k + (j + 1)) cap) (k + (j + 1)) (bs (xs ++ (List.range (j + 1)).map (digit 2 n))) := by
          rw [HD.out] at hown'
          rw [bs_snoc, ← Nat.add_assoc]
          exact hown'
        clear hown' hgrow hownr hgr
        go_wp2
        go_roundw
        case rel => exact ⟨j + 1, by omega, int_eq (by omega), rfl, hO1, hG1⟩
        case measure => simp [intOf] <;> omega
    · have ek : j = 2 := by omega
      subst ek
      go_wp2
      go_ret
      exact ⟨rfl, hownr, hgr⟩

theorem shl_u16 (C A : Nat) (hC : C < 72057594037927936) (ha : A < 256) : bits .or .u64 ((C : Int) * 256) (A : Int) = ((C * 256 + A : Nat) : Int) := by
  have h := u64_or_nat (C * 256) A (by omega) (by omega)
  rw [show ((C : Int) * 256) = ((C * 256 : Nat) : Int) by omega, h]
  congr 1
  rw [show C * 256 = C <<< 8 from (Nat.shiftLeft_eq C 8).symm, ← Nat.shiftLeft_add_eq_or_of_lt (show A < 2 ^ 8 from ha)]

set_option maxRecDepth 100000 in
set_option maxHeartbeats 400000 in
theorem take_u16 (b off n cap : Nat) (l : List Nat) (w : World) (hl : Byt l) (hn : l.length = n) (hw : 2 ≤ n) (hcap : n ≤ cap) (hcap2 : cap ≤ maxLen) (hc : RowAt w b off l) :
    Calls Tryz.prog 275 #[.slice (some ⟨b, off, none⟩) n cap] w fun e w' => e = .returned (.tuple #[.int .u16 (val (l.take 2) : Nat), .slice (cutA b off 2 cap) (n - 2) (cap - 2)]) ∧ ∃ q, w' = w.drewN q := by
  have HN : Hid (l.length = n) := hn
  clear hn
  unfold maxLen at hcap2
  have i1 : (2 : Int) ≤ (cap : Int) := by omega
  have i2 : (2 : Int) ≤ (n : Int) := by omega
  go_enter Tryz.func275, Tryz.ntmps275
  go_wp2_with (go_at_call 235; refine (width_u16 _).mono ?_; rintro e w' ⟨rfl, hw⟩; have hw2 := hw.symm; subst hw2; clear hw)
  go_loop [5, 13] (fun c i => ∃ k : Nat, k ≤ 2 ∧ i = .int .i64 k ∧ c = .int .u64 (val (l.take k) : Nat)) (fun _ i => 2 - (intOf i).toNat)
  case atStart => exact ⟨0, Nat.zero_le _, rfl, rfl⟩
  case round =>
    obtain ⟨k, hk, rfl, rfl⟩ := hrel
    by_cases hlt : k < 2
    · have hcx := hc k (by rw [HN.out]; omega)
      have HRow : Hid (RowAt w b off l) := hc
      clear hc
      have ha := at_lt hl k
      have hB : val (l.take k) < 72057594037927936 := by
        have h1 := val_lt (l.take k) (hl.take_ k)
        have h2 : (l.take k).length ≤ 7 := by rw [List.length_take, HN.out]; omega
        have h3 : 256 ^ (l.take k).length ≤ 256 ^ 7 := Nat.pow_le_pow_right (by omega) h2
        omega
      obtain ⟨C, hC⟩ : ∃ C, C = val (l.take k) := ⟨_, rfl⟩
      rw [← hC] at hB ⊢
      have HC : Hid (val (l.take (k + 1)) = C * 256 + at_ l k) := by
        show _ = _
        rw [take_at l k (by rw [HN.out]; omega), val_snoc, hC]
      clear hC
      have ho := shl_u16 C (at_ l k) hB ha
      go_wp2
      go_round
      case rel => exact ⟨k + 1, by omega, by go_num, by rw [HC.out]; exact int_eq (by omega)⟩
      case measure => simp [intOf]; omega
    · have ek : k = 2 := by omega
      subst ek
      have hB : val (l.take 2) < 65536 := by
        have h1 := val_lt (l.take 2) (hl.take_ 2)
        have h2 : (l.take 2).length = 2 := by rw [List.length_take, HN.out]; omega
        rw [h2] at h1
        exact h1
      by_cases hcw : cap = 2
      · subst hcw
        obtain rfl : n = 2 := by omega
        skip
        go_wp2
        go_quiet (fail)
        go_wp2
        go_ret2
        refine ⟨?_, _, rfl⟩
        rw [cutA_end]
        rfl
      · skip
        go_wp2
        go_quiet (fail)
        go_wp2
        go_ret2
        refine ⟨?_, _, rfl⟩
        rw [cutA_far (by omega)]
        rfl

set_option maxRecDepth 100000 in
set_option maxHeartbeats 400000 in
theorem width_u64 (w : World) : Calls Tryz.prog 187 #[] w fun e w' => e = .returned (.int .i64 8) ∧ w' = w := by
  have hsg : IntKind.u64.signed = false := rfl
  have hb : bits .xor .u64 IntKind.u64.max 0 = 18446744073709551615 := by decide +kernel
  go_enter Tryz.func187, Tryz.ntmps187
  go_wp2
  go_ret
  refine ⟨?_, rfl⟩
  kernel_rfl

set_option maxRecDepth 100000 in
set_option maxHeartbeats 400000 in
theorem app_u64 (base g k cap : Nat) (xs : List Nat) (n : Nat) (w : World) (hown : w.ownsRow base 5 1 (.slice (some ⟨g, 0, none⟩) k cap) k (bs xs)) (hr : k + 8 ≤ cap) (hn : n < 18446744073709551616) :
    Calls Tryz.prog 132 #[.slice (some ⟨g, 0, none⟩) k cap, .int .u64 n] w fun e w' => e = .returned (.slice (some ⟨g, 0, none⟩) (k + 8) cap) ∧ w'.ownsRow base 5 1 (.slice (some ⟨g, 0, none⟩) (k + 8) cap) (k + 8) (bs (xs ++ be 8 n)) ∧ w.grownBy w' (some g) := by
  obtain ⟨i0, hi, hz0, hz1, hz2⟩ := info_parts Tryz.info5
  have HNN : Hid (n < 18446744073709551616) := hn
  clear hn
  go_enter Tryz.func132, Tryz.ntmps132
  go_wp2_with (go_at_call 187; refine (width_u64 _).mono ?_; rintro e w' ⟨rfl, hw⟩; have hw2 := hw.symm; subst hw2; clear hw)
  go_loopw [0, 5] (fun v i wr => ∃ j : Nat, j ≤ 8 ∧ i = .int .i64 ((8 : Int) - 1 - j) ∧ v = .slice (some ⟨g, 0, none⟩) (k + j) cap ∧ wr.ownsRow base 5 1 (.slice (some ⟨g, 0, none⟩) (k + j) cap) (k + j) (bs (xs ++ (List.range j).map (digit 8 n))) ∧ w.grownBy wr (some g)) (fun _ i _ => (intOf i + 1).toNat)
  case atStart => exact ⟨0, Nat.zero_le _, by go_num, rfl, by simpa using hown, grown_refl _ _⟩
  case round =>
    obtain ⟨j, hj, rfl, rfl, hownr, hgr⟩ := hrel
    by_cases hlt : j < 8
    · have HD : Hid (((n : Int) / 2 ^ (8 * (7 - j)) % 256) = ((digit 8 n j : Nat) : Int)) := digit_int n 8 j
      skip
      skip
      go_wp2_with (at_builtin; refine wpList_append_fits _ rfl _ _ 206 rfl base 5 i0 1 Tryz.underlying206 hi hz1 g (k + j) cap _ rfl (hownr.alloc _) ⟨wr.heap.size, 0, none⟩ 1 1 [.int .u8 ((n : Int) / 2 ^ (8 * (7 - j)) % 256)] rfl rfl ?c1 ?c2 ?c3 ?_)
      case c1 =>
        intro jj u hjj
        match jj, hjj with
        | 0, hjj => simp at hjj; subst hjj; simp [Addr.add]
      case c2 => intro u hu; simp at hu; subst hu; rfl
      case c3 => omega
      · intro w1 hown' hgrow
        have hG1 : w.grownBy w1 (some g) := grown_trans hgr (grown_trans (grown_alloc _ _ _) hgrow)
        have hO1 : w1.ownsRow base 5 1 (.slice (some ⟨g, 0, none⟩) (k + (j + 1)) cap) (k + (j + 1)) (bs (xs ++ (List.range (j + 1)).map (digit 8 n))) := by
          rw [HD.out] at hown'
          rw [bs_snoc, ← Nat.add_assoc]
          exact hown'
        clear hown' hgrow hownr hgr
        go_wp2
        go_roundw
        case rel => exact ⟨j + 1, by omega, int_eq (by omega), rfl, hO1, hG1⟩
        case measure => simp [intOf] <;> omega
    · have ek : j = 8 := by omega
      subst ek
      go_wp2
      go_ret
      exact ⟨rfl, hownr, hgr⟩

theorem shl_u64 (C A : Nat) (hC : C < 72057594037927936) (ha : A < 256) : bits .or .u64 ((C : Int) * 256) (A : Int) = ((C * 256 + A : Nat) : Int) := by
  have h := u64_or_nat (C * 256) A (by omega) (by omega)
  rw [show ((C : Int) * 256) = ((C * 256 : Nat) : Int) by omega, h]
  congr 1
  rw [show C * 256 = C <<< 8 from (Nat.shiftLeft_eq C 8).symm, ← Nat.shiftLeft_add_eq_or_of_lt (show A < 2 ^ 8 from ha)]

set_option maxRecDepth 100000 in
set_option maxHeartbeats 400000 in
theorem take_u64 (b off n cap : Nat) (l : List Nat) (w : World) (hl : Byt l) (hn : l.length = n) (hw : 8 ≤ n) (hcap : n ≤ cap) (hcap2 : cap ≤ maxLen) (hc : RowAt w b off l) :
    Calls Tryz.prog 253 #[.slice (some ⟨b, off, none⟩) n cap] w fun e w' => e = .returned (.tuple #[.int .u64 (val (l.take 8) : Nat), .slice (cutA b off 8 cap) (n - 8) (cap - 8)]) ∧ ∃ q, w' = w.drewN q := by
  have HN : Hid (l.length = n) := hn
  clear hn
  unfold maxLen at hcap2
  have i1 : (8 : Int) ≤ (cap : Int) := by omega
  have i2 : (8 : Int) ≤ (n : Int) := by omega
  go_enter Tryz.func253, Tryz.ntmps253
  go_wp2_with (go_at_call 187; refine (width_u64 _).mono ?_; rintro e w' ⟨rfl, hw⟩; have hw2 := hw.symm; subst hw2; clear hw)
  go_loop [5, 13] (fun c i => ∃ k : Nat, k ≤ 8 ∧ i = .int .i64 k ∧ c = .int .u64 (val (l.take k) : Nat)) (fun _ i => 8 - (intOf i).toNat)
  case atStart => exact ⟨0, Nat.zero_le _, rfl, rfl⟩
  case round =>
    obtain ⟨k, hk, rfl, rfl⟩ := hrel
    by_cases hlt : k < 8
    · have hcx := hc k (by rw [HN.out]; omega)
      have HRow : Hid (RowAt w b off l) := hc
      clear hc
      have ha := at_lt hl k
      have hB : val (l.take k) < 72057594037927936 := by
        have h1 := val_lt (l.take k) (hl.take_ k)
        have h2 : (l.take k).length ≤ 7 := by rw [List.length_take, HN.out]; omega
        have h3 : 256 ^ (l.take k).length ≤ 256 ^ 7 := Nat.pow_le_pow_right (by omega) h2
        omega
      obtain ⟨C, hC⟩ : ∃ C, C = val (l.take k) := ⟨_, rfl⟩
      rw [← hC] at hB ⊢
      have HC : Hid (val (l.take (k + 1)) = C * 256 + at_ l k) := by
        show _ = _
        rw [take_at l k (by rw [HN.out]; omega), val_snoc, hC]
      clear hC
      have ho := shl_u64 C (at_ l k) hB ha
      go_wp2
      go_round
      case rel => exact ⟨k + 1, by omega, by go_num, by rw [HC.out]; exact int_eq (by omega)⟩
      case measure => simp [intOf]; omega
    · have ek : k = 8 := by omega
      subst ek
      have hB : val (l.take 8) < 18446744073709551616 := by
        have h1 := val_lt (l.take 8) (hl.take_ 8)
        have h2 : (l.take 8).length = 8 := by rw [List.length_take, HN.out]; omega
        rw [h2] at h1
        exact h1
      by_cases hcw : cap = 8
      · subst hcw
        obtain rfl : n = 8 := by omega
        clear hB
        go_wp2
        go_quiet (fail)
        go_wp2
        go_ret2
        refine ⟨?_, _, rfl⟩
        rw [cutA_end]
        rfl
      · clear hB
        go_wp2
        go_quiet (fail)
        go_wp2
        go_ret2
        refine ⟨?_, _, rfl⟩
        rw [cutA_far (by omega)]
        rfl

set_option maxRecDepth 100000 in
set_option maxHeartbeats 400000 in
theorem width_u8 (w : World) : Calls Tryz.prog 215 #[] w fun e w' => e = .returned (.int .i64 1) ∧ w' = w := by
  have hsg : IntKind.u8.signed = false := rfl
  have hb : bits .xor .u8 IntKind.u8.max 0 = 255 := by decide +kernel
  go_enter Tryz.func215, Tryz.ntmps215
  go_wp2
  go_ret
  refine ⟨?_, rfl⟩
  kernel_rfl

set_option maxRecDepth 100000 in
set_option maxHeartbeats 400000 in
theorem app_u8 (base g k cap : Nat) (xs : List Nat) (n : Nat) (w : World) (hown : w.ownsRow base 5 1 (.slice (some ⟨g, 0, none⟩) k cap) k (bs xs)) (hr : k + 1 ≤ cap) (hn : n < 256) :
    Calls Tryz.prog 167 #[.slice (some ⟨g, 0, none⟩) k cap, .int .u8 n] w fun e w' => e = .returned (.slice (some ⟨g, 0, none⟩) (k + 1) cap) ∧ w'.ownsRow base 5 1 (.slice (some ⟨g, 0, none⟩) (k + 1) cap) (k + 1) (bs (xs ++ be 1 n)) ∧ w.grownBy w' (some g) := by
  obtain ⟨i0, hi, hz0, hz1, hz2⟩ := info_parts Tryz.info5
  have HNN : Hid (n < 256) := hn
  skip
  go_enter Tryz.func167, Tryz.ntmps167
  go_wp2_with (go_at_call 215; refine (width_u8 _).mono ?_; rintro e w' ⟨rfl, hw⟩; have hw2 := hw.symm; subst hw2; clear hw)
  go_loopw [0, 5] (fun v i wr => ∃ j : Nat, j ≤ 1 ∧ i = .int .i64 ((1 : Int) - 1 - j) ∧ v = .slice (some ⟨g, 0, none⟩) (k + j) cap ∧ wr.ownsRow base 5 1 (.slice (some ⟨g, 0, none⟩) (k + j) cap) (k + j) (bs (xs ++ (List.range j).map (digit 1 n))) ∧ w.grownBy wr (some g)) (fun _ i _ => (intOf i + 1).toNat)
  case atStart => exact ⟨0, Nat.zero_le _, by go_num, rfl, by simpa using hown, grown_refl _ _⟩
  case round =>
    obtain ⟨j, hj, rfl, rfl, hownr, hgr⟩ := hrel
    by_cases hlt : j < 1
    · have HD : Hid ((n : Int) = ((digit 1 n 0 : Nat) : Int)) := by show _ = _; unfold digit; simp; omega
      obtain rfl : j = 0 := by omega
      rw [Nat.add_zero] at hownr
      go_wp2_with (at_builtin; refine wpList_append_fits _ rfl _ _ 206 rfl base 5 i0 1 Tryz.underlying206 hi hz1 g k cap _ rfl (hownr.alloc _) ⟨wr.heap.size, 0, none⟩ 1 1 [.int .u8 (n : Int)] rfl rfl ?c1 ?c2 ?c3 ?_)
      case c1 =>
        intro jj u hjj
        match jj, hjj with
        | 0, hjj => simp at hjj; subst hjj; simp [Addr.add]
      case c2 => intro u hu; simp at hu; subst hu; rfl
      case c3 => omega
      · intro w1 hown' hgrow
        have hG1 : w.grownBy w1 (some g) := grown_trans hgr (grown_trans (grown_alloc _ _ _) hgrow)
        have hO1 : w1.ownsRow base 5 1 (.slice (some ⟨g, 0, none⟩) (k + (0 + 1)) cap) (k + (0 + 1)) (bs (xs ++ (List.range (0 + 1)).map (digit 1 n))) := by
          have e := HD.out
          rw [bs_snoc, ← e]
          simpa using hown'
        clear hown' hgrow hownr hgr
        go_wp2
        go_roundw
        case rel => exact ⟨0 + 1, by omega, int_eq (by omega), rfl, hO1, hG1⟩
        case measure => simp [intOf] <;> omega
    · have ek : j = 1 := by omega
      subst ek
      go_wp2
      go_ret
      exact ⟨rfl, hownr, hgr⟩

theorem shl_u8 (C A : Nat) (hC : C < 72057594037927936) (ha : A < 256) : bits .or .u64 ((C : Int) * 256) (A : Int) = ((C * 256 + A : Nat) : Int) := by
  have h := u64_or_nat (C * 256) A (by omega) (by omega)
  rw [show ((C : Int) * 256) = ((C * 256 : Nat) : Int) by omega, h]
  congr 1
  rw [show C * 256 = C <<< 8 from (Nat.shiftLeft_eq C 8).symm, ← Nat.shiftLeft_add_eq_or_of_lt (show A < 2 ^ 8 from ha)]

set_option maxRecDepth 100000 in
set_option maxHeartbeats 400000 in
theorem take_u8 (b off n cap : Nat) (l : List Nat) (w : World) (hl : Byt l) (hn : l.length = n) (hw : 1 ≤ n) (hcap : n ≤ cap) (hcap2 : cap ≤ maxLen) (hc : RowAt w b off l) :
    Calls Tryz.prog 255 #[.slice (some ⟨b, off, none⟩) n cap] w fun e w' => e = .returned (.tuple #[.int .u8 (val (l.take 1) : Nat), .slice (cutA b off 1 cap) (n - 1) (cap - 1)]) ∧ ∃ q, w' = w.drewN q := by
  have HN : Hid (l.length = n) := hn
  clear hn
  unfold maxLen at hcap2
  have i1 : (1 : Int) ≤ (cap : Int) := by omega
  have i2 : (1 : Int) ≤ (n : Int) := by omega
  go_enter Tryz.func255, Tryz.ntmps255
  go_wp2_with (go_at_call 215; refine (width_u8 _).mono ?_; rintro e w' ⟨rfl, hw⟩; have hw2 := hw.symm; subst hw2; clear hw)
  go_loop [5, 13] (fun c i => ∃ k : Nat, k ≤ 1 ∧ i = .int .i64 k ∧ c = .int .u64 (val (l.take k) : Nat)) (fun _ i => 1 - (intOf i).toNat)
  case atStart => exact ⟨0, Nat.zero_le _, rfl, rfl⟩
  case round =>
    obtain ⟨k, hk, rfl, rfl⟩ := hrel
    by_cases hlt : k < 1
    · have hcx := hc k (by rw [HN.out]; omega)
      have HRow : Hid (RowAt w b off l) := hc
      clear hc
      have ha := at_lt hl k
      have hB : val (l.take k) < 72057594037927936 := by
        have h1 := val_lt (l.take k) (hl.take_ k)
        have h2 : (l.take k).length ≤ 7 := by rw [List.length_take, HN.out]; omega
        have h3 : 256 ^ (l.take k).length ≤ 256 ^ 7 := Nat.pow_le_pow_right (by omega) h2
        omega
      obtain ⟨C, hC⟩ : ∃ C, C = val (l.take k) := ⟨_, rfl⟩
      rw [← hC] at hB ⊢
      have HC : Hid (val (l.take (k + 1)) = C * 256 + at_ l k) := by
        show _ = _
        rw [take_at l k (by rw [HN.out]; omega), val_snoc, hC]
      clear hC
      have ho := shl_u8 C (at_ l k) hB ha
      go_wp2
      go_round
      case rel => exact ⟨k + 1, by omega, by go_num, by rw [HC.out]; exact int_eq (by omega)⟩
      case measure => simp [intOf]; omega
    · have ek : k = 1 := by omega
      subst ek
      have hB : val (l.take 1) < 256 := by
        have h1 := val_lt (l.take 1) (hl.take_ 1)
        have h2 : (l.take 1).length = 1 := by rw [List.length_take, HN.out]; omega
        rw [h2] at h1
        exact h1
      by_cases hcw : cap = 1
      · subst hcw
        obtain rfl : n = 1 := by omega
        skip
        go_wp2
        go_quiet (fail)
        go_wp2
        go_ret2
        refine ⟨?_, _, rfl⟩
        rw [cutA_end]
        rfl
      · skip
        go_wp2
        go_quiet (fail)
        go_wp2
        go_ret2
        refine ⟨?_, _, rfl⟩
        rw [cutA_far (by omega)]
        rfl

set_option maxRecDepth 100000 in
set_option maxHeartbeats 400000 in
theorem width_u32 (w : World) : Calls Tryz.prog 265 #[] w fun e w' => e = .returned (.int .i64 4) ∧ w' = w := by
  have hsg : IntKind.u32.signed = false := rfl
  have hb : bits .xor .u32 IntKind.u32.max 0 = 4294967295 := by decide +kernel
  go_enter Tryz.func265, Tryz.ntmps265
  go_wp2
  go_ret
  refine ⟨?_, rfl⟩
  kernel_rfl

set_option maxRecDepth 100000 in
set_option maxHeartbeats 400000 in
theorem app_u32 (base g k cap : Nat) (xs : List Nat) (n : Nat) (w : World) (hown : w.ownsRow base 5 1 (.slice (some ⟨g, 0, none⟩) k cap) k (bs xs)) (hr : k + 4 ≤ cap) (hn : n < 4294967296) :
    Calls Tryz.prog 236 #[.slice (some ⟨g, 0, none⟩) k cap, .int .u32 n] w fun e w' => e = .returned (.slice (some ⟨g, 0, none⟩) (k + 4) cap) ∧ w'.ownsRow base 5 1 (.slice (some ⟨g, 0, none⟩) (k + 4) cap) (k + 4) (bs (xs ++ be 4 n)) ∧ w.grownBy w' (some g) := by
  obtain ⟨i0, hi, hz0, hz1, hz2⟩ := info_parts Tryz.info5
  have HNN : Hid (n < 4294967296) := hn
  skip
  go_enter Tryz.func236, Tryz.ntmps236
  go_wp2_with (go_at_call 265; refine (width_u32 _).mono ?_; rintro e w' ⟨rfl, hw⟩; have hw2 := hw.symm; subst hw2; clear hw)
  go_loopw [0, 5] (fun v i wr => ∃ j : Nat, j ≤ 4 ∧ i = .int .i64 ((4 : Int) - 1 - j) ∧ v = .slice (some ⟨g, 0, none⟩) (k + j) cap ∧ wr.ownsRow base 5 1 (.slice (some ⟨g, 0, none⟩) (k + j) cap) (k + j) (bs (xs ++ (List.range j).map (digit 4 n))) ∧ w.grownBy wr (some g)) (fun _ i _ => (intOf i + 1).toNat)
  case atStart => exact ⟨0, Nat.zero_le _, by go_num, rfl, by simpa using hown, grown_refl _ _⟩
  case round =>
    obtain ⟨j, hj, rfl, rfl, hownr, hgr⟩ := hrel
    by_cases hlt : j < 4
    · have HD : Hid (((n : Int) / 2 ^ (8 * (3 - j)) % 256) = ((digit 4 n j : Nat) : Int)) := digit_int n 4 j
      skip
      skip
      go_wp2_with (at_builtin; refine wpList_append_fits _ rfl _ _ 206 rfl base 5 i0 1 Tryz.underlying206 hi hz1 g (k + j) cap _ rfl (hownr.alloc _) ⟨wr.heap.size, 0, none⟩ 1 1 [.int .u8 ((n : Int) / 2 ^ (8 * (3 - j)) % 256)] rfl rfl ?c1 ?c2 ?c3 ?_)
      case c1 =>
        intro jj u hjj
        match jj, hjj with
        | 0, hjj => simp at hjj; subst hjj; simp [Addr.add]
      case c2 => intro u hu; simp at hu; subst hu; rfl
      case c3 => omega
      · intro w1 hown' hgrow
        have hG1 : w.grownBy w1 (some g) := grown_trans hgr (grown_trans (grown_alloc _ _ _) hgrow)
        have hO1 : w1.ownsRow base 5 1 (.slice (some ⟨g, 0, none⟩) (k + (j + 1)) cap) (k + (j + 1)) (bs (xs ++ (List.range (j + 1)).map (digit 4 n))) := by
          rw [HD.out] at hown'
          rw [bs_snoc, ← Nat.add_assoc]
          exact hown'
        clear hown' hgrow hownr hgr
        go_wp2
        go_roundw
        case rel => exact ⟨j + 1, by omega, int_eq (by omega), rfl, hO1, hG1⟩
        case measure => simp [intOf] <;> omega
    · have ek : j = 4 := by omega
      subst ek
      go_wp2
      go_ret
      exact ⟨rfl, hownr, hgr⟩

theorem shl_u32 (C A : Nat) (hC : C < 72057594037927936) (ha : A < 256) : bits .or .u64 ((C : Int) * 256) (A : Int) = ((C * 256 + A : Nat) : Int) := by
  have h := u64_or_nat (C * 256) A (by omega) (by omega)
  rw [show ((C : Int) * 256) = ((C * 256 : Nat) : Int) by omega, h]
  congr 1
  rw [show C * 256 = C <<< 8 from (Nat.shiftLeft_eq C 8).symm, ← Nat.shiftLeft_add_eq_or_of_lt (show A < 2 ^ 8 from ha)]

set_option maxRecDepth 100000 in
set_option maxHeartbeats 400000 in
theorem take_u32 (b off n cap : Nat) (l : List Nat) (w : World) (hl : Byt l) (hn : l.length = n) (hw : 4 ≤ n) (hcap : n ≤ cap) (hcap2 : cap ≤ maxLen) (hc : RowAt w b off l) :
    Calls Tryz.prog 277 #[.slice (some ⟨b, off, none⟩) n cap] w fun e w' => e = .returned (.tuple #[.int .u32 (val (l.take 4) : Nat), .slice (cutA b off 4 cap) (n - 4) (cap - 4)]) ∧ ∃ q, w' = w.drewN q := by
  have HN : Hid (l.length = n) := hn
  clear hn
  unfold maxLen at hcap2
  have i1 : (4 : Int) ≤ (cap : Int) := by omega
  have i2 : (4 : Int) ≤ (n : Int) := by omega
  go_enter Tryz.func277, Tryz.ntmps277
  go_wp2_with (go_at_call 265; refine (width_u32 _).mono ?_; rintro e w' ⟨rfl, hw⟩; have hw2 := hw.symm; subst hw2; clear hw)
  go_loop [5, 13] (fun c i => ∃ k : Nat, k ≤ 4 ∧ i = .int .i64 k ∧ c = .int .u64 (val (l.take k) : Nat)) (fun _ i => 4 - (intOf i).toNat)
  case atStart => exact ⟨0, Nat.zero_le _, rfl, rfl⟩
  case round =>
    obtain ⟨k, hk, rfl, rfl⟩ := hrel
    by_cases hlt : k < 4
    · have hcx := hc k (by rw [HN.out]; omega)
      have HRow : Hid (RowAt w b off l) := hc
      clear hc
      have ha := at_lt hl k
      have hB : val (l.take k) < 72057594037927936 := by
        have h1 := val_lt (l.take k) (hl.take_ k)
        have h2 : (l.take k).length ≤ 7 := by rw [List.length_take, HN.out]; omega
        have h3 : 256 ^ (l.take k).length ≤ 256 ^ 7 := Nat.pow_le_pow_right (by omega) h2
        omega
      obtain ⟨C, hC⟩ : ∃ C, C = val (l.take k) := ⟨_, rfl⟩
      rw [← hC] at hB ⊢
      have HC : Hid (val (l.take (k + 1)) = C * 256 + at_ l k) := by
        show _ = _
        rw [take_at l k (by rw [HN.out]; omega), val_snoc, hC]
      clear hC
      have ho := shl_u32 C (at_ l k) hB ha
      go_wp2
      go_round
      case rel => exact ⟨k + 1, by omega, by go_num, by rw [HC.out]; exact int_eq (by omega)⟩
      case measure => simp [intOf]; omega
    · have ek : k = 4 := by omega
      subst ek
      have hB : val (l.take 4) < 4294967296 := by
        have h1 := val_lt (l.take 4) (hl.take_ 4)
        have h2 : (l.take 4).length = 4 := by rw [List.length_take, HN.out]; omega
        rw [h2] at h1
        exact h1
      by_cases hcw : cap = 4
      · subst hcw
        obtain rfl : n = 4 := by omega
        skip
        go_wp2
        go_quiet (fail)
        go_wp2
        go_ret2
        refine ⟨?_, _, rfl⟩
        rw [cutA_end]
        rfl
      · skip
        go_wp2
        go_quiet (fail)
        go_wp2
        go_ret2
        refine ⟨?_, _, rfl⟩
        rw [cutA_far (by omega)]
        rfl
end Go.Proofs.YtkhjhojmhllkaaaGreatDoor
/- THE TABLE OF THE SUM: sync.Once's parts (after the guide's worked example), the closure that fills the table. -/
namespace Go.Proofs.YtkhjhojmhllkaaaGreatDoor
open Go.RowKit
open Sc

theorem disable (w : World) : (callFunc 325 #[]).run Tryz.prog w = .ok (.value (.tuple #[])) w := run_call_mark0 Tryz.func325 (by kernel_rfl) (by kernel_rfl) (by kernel_rfl) .disable (by kernel_rfl) w
theorem enable (w : World) : (callFunc 327 #[]).run Tryz.prog w = .ok (.value (.tuple #[])) w := run_call_mark0 Tryz.func327 (by kernel_rfl) (by kernel_rfl) (by kernel_rfl) .enable (by kernel_rfl) w
theorem acquire (a : Addr) (w : World) : (callFunc 328 #[.pointer (some a)]).run Tryz.prog w = .ok (.value (.tuple #[])) w := run_call_marked Tryz.func328 (by kernel_rfl) (by kernel_rfl) (by kernel_rfl) .acquire (by kernel_rfl) a w
theorem releaseMerge (a : Addr) (w : World) : (callFunc 330 #[.pointer (some a)]).run Tryz.prog w = .ok (.value (.tuple #[])) w := run_call_marked Tryz.func330 (by kernel_rfl) (by kernel_rfl) (by kernel_rfl) .releaseMerge (by kernel_rfl) a w

theorem store_deferred (a : Addr) (x : Value) (u : FrameMode) (w : World) (hc : w.cell? a = some x) (hz : w.frozen? a = false) :
    CallsD Tryz.prog 311 #[.pointer (some a), .bool true] u w fun e u' w' => u' = u ∧ (e = .returned (.tuple #[]) ∧ w' = w.drew.setCell a (.int .u32 1)) := by
  have hc' : w.drew.cell? a = some x := by go_simp
  have hz' : w.drew.frozen? a = false := by go_simp
  have hst := run_call_store (P := Tryz.prog) Tryz.func321 (by kernel_rfl) (by kernel_rfl) (by kernel_rfl) (by kernel_rfl) (k := .u32) (y := 1) hc' hz'
  go_enter_d Tryz.func311, Tryz.ntmps311
  go_wp2
  go_region_calls
  all_goals (go_end0; exact ⟨rfl, rfl⟩)

set_option maxRecDepth 100000 in
set_option maxHeartbeats 1600000 in
theorem unlock_deferred (a : Addr) (u : FrameMode) (w : World) (hc : w.cell? a = some (.int .i32 1)) (hz : w.frozen? a = false) :
    CallsD Tryz.prog 310 #[.pointer (some a)] u w fun e u' w' => u' = u ∧ (e = .returned (.tuple #[]) ∧ w' = w.setCell a (.int .i32 0)) := by
  have hd := disable
  have he := enable
  have hr := releaseMerge
  have hadd := run_call_add (P := Tryz.prog) Tryz.func331 (by kernel_rfl) (by kernel_rfl) (by kernel_rfl) .i32 (by kernel_rfl) (y := -1) (s := 0) hc hz (by simp [go_sem]; rfl)
  have hcv := run_convert_to_unsafe (P := Tryz.prog) (src := 429) (dst := 171) Tryz.underlying429 Tryz.underlying171 (by kernel_rfl) hc
  go_enter_d Tryz.func310, Tryz.ntmps310
  go_wp2
  go_end0
  go_wp2
  go_end0
  exact ⟨rfl, rfl⟩

set_option maxRecDepth 100000 in
set_option maxHeartbeats 1600000 in
theorem lock_free (a : Addr) (w : World) (hc : w.cell? a = some (.int .i32 0)) (hz : w.frozen? a = false) :
    Calls Tryz.prog 309 #[.pointer (some a)] w fun e w' => e = .returned (.tuple #[]) ∧ w' = w.setCell a (.int .i32 1) := by
  have hd := disable
  have he := enable
  have ha := acquire
  have hcas := run_call_cas_hit (P := Tryz.prog) Tryz.func326 (by kernel_rfl) (by kernel_rfl) (by kernel_rfl) .i32 (by kernel_rfl) (y := 1) hc hz
  have hc' : (w.setCell a (.int .i32 1)).cell? a = some (.int .i32 1) := World.cell?_setCell_same w a _ hc
  have hcv := run_convert_to_unsafe (P := Tryz.prog) (src := 429) (dst := 171) Tryz.underlying429 Tryz.underlying171 (by kernel_rfl) hc'
  go_enter Tryz.func309, Tryz.ntmps309
  go_wp2
  first | go_end0 | (simp only [Exit.inBlock, Exit.then]; refine bodyPost_ret (results_none rfl _ _ _) rfl ?_) | refine bodyPost_ret (results_none rfl _ _ _) rfl ?_
  go_wp2
  go_end0
  exact ⟨rfl, rfl⟩

set_option maxHeartbeats 400000 in
theorem turned_any (C : Nat) (w : World) (hC : C < 4294967296) :
    Calls Tryz.prog 268 #[.int .u32 C] w fun e w' => e = .returned (.int .u32 (halves 8 C : Nat)) ∧ w' = w := by
  go_enter Tryz.func268, Tryz.ntmps268
  go_wp2
  go_loop [0, 4] (fun c j => ∃ q : Nat, q ≤ 8 ∧ j = .int .i64 q ∧ c = .int .u32 (halves q C : Nat)) (fun _ j => 8 - (intOf j).toNat)
  case atStart => exact ⟨0, Nat.zero_le _, rfl, rfl⟩
  case round =>
    obtain ⟨q, hq, rfl, rfl⟩ := hrel
    have hX := halves_lt q C hC
    have HX : Hid (halves (q + 1) C = half (halves q C)) := rfl
    by_cases hq8 : q < 8
    · generalize halves q C = X at hX HX
      have a1 := and1 X hX
      have hx2 : X / 2 < 4294967296 := by omega
      have a2 : bits .xor .u32 ((X : Int) / 2) 3988292384 = ((X / 2 ^^^ 3988292384 : Nat) : Int) := by rw [show ((X : Int) / 2) = ((X / 2 : Nat) : Int) by omega]; exact xorP (X / 2) hx2
      by_cases ho : X % 2 = 1
      · have HO : Hid (half X = X / 2 ^^^ 3988292384) := half_odd X ho
        go_wp2
        go_round
        case rel => exact ⟨q + 1, by omega, by go_num, by rw [HX.out, HO.out]⟩
        case measure => simp [intOf]; omega
      · have HO : Hid (half X = X / 2) := half_even X ho
        go_wp2
        go_round
        case rel => exact ⟨q + 1, by omega, by go_num, by rw [HX.out, HO.out]; exact int_eq (by omega)⟩
        case measure => simp [intOf]; omega
    · have e8 : q = 8 := by omega
      subst e8
      go_wp2
      go_ret
      exact ⟨rfl, rfl⟩
end Go.Proofs.YtkhjhojmhllkaaaGreatDoor
/- THE CLOSURE THAT FILLS THE TABLE; sync.Once.Do with it. -/
namespace Go.Proofs.YtkhjhojmhllkaaaGreatDoor
open Go.RowKit
open Sc

/-- a sum maker in block b: its Once free, done or not; its table filled, if it is done -/
structure Maker (w : World) (b : Nat) (done : Bool) : Prop where
  c0 : w.cell? ⟨b, 0, none⟩ = some (.int .u32 (if done then 1 else 0))
  c1 : w.cell? ⟨b, 1, none⟩ = some (.int .i32 0)
  tab : done = true → ∀ i, i < 256 → w.cell? ⟨b, 3 + i, none⟩ = some (.int .u32 (halves 8 i : Nat))
  any : ∀ i, i < 256 → ∃ v, w.cell? ⟨b, 3 + i, none⟩ = some v
  free : ∀ i, w.frozen? ⟨b, i, none⟩ = false

theorem turned_int (c : Int) (C : Nat) (w : World) (hc : c = C) (hC : C < 4294967296) :
    Calls Tryz.prog 268 #[.int .u32 c] w fun e w' => e = .returned (.int .u32 (halves 8 C : Nat)) ∧ w' = w := by subst hc; exact turned_any C w hC

set_option maxRecDepth 100000 in
set_option maxHeartbeats 1600000 in
theorem fill_any (b : Nat) (pl : Addr) (hpb : ¬ pl.block = b) (w : World) (hp : w.cell? pl = some (.pointer (some ⟨b, 0, none⟩)))
    (hany : ∀ i, i < 256 → ∃ v, w.cell? ⟨b, 3 + i, none⟩ = some v) (hfree : ∀ i, w.frozen? ⟨b, i, none⟩ = false) :
    Calls Tryz.prog 267 #[.pointer (some pl)] w fun e w' => e = .returned (.tuple #[]) ∧ w.grownBy w' (some b) ∧
      (∀ i, i < 3 → w'.cell? ⟨b, i, none⟩ = w.cell? ⟨b, i, none⟩) ∧ (∀ i, w'.frozen? ⟨b, i, none⟩ = false) ∧ (∀ i, i < 256 → w'.cell? ⟨b, 3 + i, none⟩ = some (.int .u32 (halves 8 i : Nat))) := by
  go_enter Tryz.func267, Tryz.ntmps267
  go_wp2
  go_loopw [2] (fun i wr => ∃ k : Nat, k ≤ 256 ∧ i = .int .i64 k ∧ w.grownBy wr (some b) ∧ (∀ i, i < 3 → wr.cell? ⟨b, i, none⟩ = w.cell? ⟨b, i, none⟩) ∧ (∀ i, wr.frozen? ⟨b, i, none⟩ = false) ∧ (∀ i, i < k → wr.cell? ⟨b, 3 + i, none⟩ = some (.int .u32 (halves 8 i : Nat))) ∧ (∀ i, i < 256 → ∃ v, wr.cell? ⟨b, 3 + i, none⟩ = some v))
    (fun i _ => 256 - (intOf i).toNat)
  case atStart => exact ⟨0, Nat.zero_le _, rfl, grown_refl _ _, fun _ _ => rfl, hfree, fun i hi => absurd hi (Nat.not_lt_zero i), hany⟩
  case round =>
    obtain ⟨k, hk, rfl, hgr, hlow, hfr, htab, hall⟩ := hrel
    have hpr : wr.cell? pl = some (.pointer (some ⟨b, 0, none⟩)) := (grown_cell hgr hpb (World.block_lt_of_cell? w pl hp)).trans hp
    by_cases hlt : k < 256
    · obtain ⟨old, hold⟩ := hall k hlt
      have hfk := hfr (3 + k)
      have hpb' : ¬ b = pl.block := fun h => hpb h.symm
      have i1 : (0 : Int) ≤ (k : Int) := by omega
      have i2 : (k : Int) < 256 := by omega
      have HG : Hid (w.grownBy wr (some b)) := hgr
      have HLow : Hid (∀ i, i < 3 → wr.cell? ⟨b, i, none⟩ = w.cell? ⟨b, i, none⟩) := hlow
      have HF : Hid (∀ i, wr.frozen? ⟨b, i, none⟩ = false) := hfr
      have HT : Hid (∀ i, i < k → wr.cell? ⟨b, 3 + i, none⟩ = some (.int .u32 (halves 8 i : Nat))) := htab
      have HA : Hid (∀ i, i < 256 → ∃ v, wr.cell? ⟨b, 3 + i, none⟩ = some v) := hall
      clear hgr hlow hfr htab hall hany hfree hp
      go_wp2
      go_region_held3 (fun w' => w'.cell? pl = some (.pointer (some ⟨b, 0, none⟩)))
        (go_keep)
        (first | (go_at_call 268; refine (turned_int _ k _ ?_ (by omega)).mono ?_; (rw [IntKind.wrap_u32']; omega); rintro e w' ⟨rfl, rfl⟩))
      go_wp2
      go_roundw
      case rel =>
        refine ⟨k + 1, by omega, by go_num, grown_drew (grown_trans HG.out (grown_set _ _ _ _)), fun i hi => ?_, fun i => ?_, fun i hi => ?_, fun i hi => ?_⟩
        · rw [World.cell?_drew, World.cell?_setCell_other _ _ _ _ (by simp <;> omega)]; exact HLow.out i hi
        · rw [World.frozen?_drew, World.frozen?_setCell]; exact HF.out i
        · rw [World.cell?_drew]
          by_cases e : i = k
          · subst e; exact World.cell?_setCell_same _ _ _ hold
          · rw [World.cell?_setCell_other _ _ _ _ (by simp <;> omega)]; exact HT.out i (by omega)
        · rw [World.cell?_drew]
          by_cases e : i = k
          · subst e; exact ⟨_, World.cell?_setCell_same _ _ _ hold⟩
          · rw [World.cell?_setCell_other _ _ _ _ (by simp <;> omega)]; exact HA.out i hi
      case measure => simp [intOf]; omega
    · have ek : k = 256 := by omega
      subst ek
      go_wp2
      go_end0
      exact ⟨rfl, hgr, hlow, hfr, htab⟩

theorem maker_done (w : World) (b : Nat) (k0 : w.cell? ⟨b, 0, none⟩ = some (.int .u32 0)) (k1 : w.cell? ⟨b, 1, none⟩ = some (.int .i32 1)) (hf : ∀ i, w.frozen? ⟨b, i, none⟩ = false)
    (ht : ∀ i, i < 256 → w.cell? ⟨b, 3 + i, none⟩ = some (.int .u32 (halves 8 i : Nat))) : Maker ((w.drew.setCell ⟨b, 0, none⟩ (.int .u32 1)).setCell ⟨b, 1, none⟩ (.int .i32 0)) b true := by
  have tb : ∀ i, i < 256 → ((w.drew.setCell ⟨b, 0, none⟩ (.int .u32 1)).setCell ⟨b, 1, none⟩ (.int .i32 0)).cell? ⟨b, 3 + i, none⟩ = some (.int .u32 (halves 8 i : Nat)) := fun i hi => by
    rw [World.cell?_setCell_other _ _ _ _ (by simp <;> omega), World.cell?_setCell_other _ _ _ _ (by simp <;> omega), World.cell?_drew]; exact ht i hi
  refine ⟨?_, ?_, fun _ => tb, fun i hi => ⟨_, tb i hi⟩, fun i => ?_⟩
  · rw [World.cell?_setCell_other _ _ _ _ (by simp)]
    exact World.cell?_setCell_same _ _ _ ((World.cell?_drew _ _).trans k0)
  · refine World.cell?_setCell_same (u := .int .i32 1) _ _ _ ?_
    rw [World.cell?_setCell_other _ _ _ _ (by simp), World.cell?_drew]; exact k1
  · rw [World.frozen?_setCell, World.frozen?_setCell, World.frozen?_drew]; exact hf i

set_option maxRecDepth 100000 in
set_option maxHeartbeats 1600000 in
theorem slow_any (b : Nat) (pl : Addr) (hpb : ¬ pl.block = b) (w : World) (hp : w.cell? pl = some (.pointer (some ⟨b, 0, none⟩))) (hm : Maker w b false) :
    Calls Tryz.prog 291 #[.pointer (some ⟨b, 0, none⟩), .func (.func 267) #[] #[.pointer (some pl)]] w fun e w' => e = .returned (.tuple #[]) ∧ Maker w' b true ∧ w.grownBy w' (some b) := by
  have h0 : w.cell? ⟨b, 0, none⟩ = some (.int .u32 0) := hm.c0
  have h1 := hm.c1
  have f0 := hm.free 0
  have f1 := hm.free 1
  have HM : Hid (Maker w b false) := hm
  clear hm
  have hl := run_call_load (P := Tryz.prog) Tryz.func308 (by kernel_rfl) (by kernel_rfl) (by kernel_rfl) .u32 (by kernel_rfl) (w := w.setCell ⟨b, 1, none⟩ (.int .i32 1)) (a := ⟨b, 0, none⟩) (x := 0) ((World.cell?_setCell_other _ ⟨b, 1, none⟩ ⟨b, 0, none⟩ _ (by simp)).trans h0)
  have HP1 : Hid ((w.setCell ⟨b, 1, none⟩ (.int .i32 1)).cell? pl = some (.pointer (some ⟨b, 0, none⟩))) := (World.cell?_setCell_other _ ⟨b, 1, none⟩ pl _ (fun h => hpb (by rw [← h]))).trans hp
  have hnot : ∀ (x : Bool) (w : World), (Op.unary .not (.bool x)).run Tryz.prog w = .ok (.bool (!x)) w := fun _ _ => rfl
  go_enter_defers Tryz.func291, Tryz.ntmps291
  go_wp2_with (first | (go_at_call 309; refine (lock_free ⟨b, 1, none⟩ _ (by go_simp) (by go_simp)).mono ?_; rintro e w' ⟨rfl, rfl⟩) | (go_at_call 290; go_in))
  refine (fill_any b pl hpb _ HP1.out (fun i hi => ?_) (fun i => ?_)).mono ?_
  · obtain ⟨v, hv⟩ := HM.out.any i hi
    exact ⟨v, (World.cell?_setCell_other _ ⟨b, 1, none⟩ ⟨b, 3 + i, none⟩ _ (by simp <;> omega)).trans hv⟩
  · rw [World.frozen?_setCell]; exact HM.out.free i
  rintro e w1 ⟨rfl, hgr, hlow, hfr, htab⟩
  have k0 : w1.cell? ⟨b, 0, none⟩ = some (.int .u32 0) := (hlow 0 (by omega)).trans ((World.cell?_setCell_other _ ⟨b, 1, none⟩ ⟨b, 0, none⟩ _ (by simp)).trans h0)
  have k1 : w1.cell? ⟨b, 1, none⟩ = some (.int .i32 1) := (hlow 1 (by omega)).trans (World.cell?_setCell_same _ _ _ h1)
  have g0 := hfr 0
  have g1 := hfr 1
  have HG : Hid ((w.setCell ⟨b, 1, none⟩ (.int .i32 1)).grownBy w1 (some b)) := hgr
  have HF : Hid (∀ i, w1.frozen? ⟨b, i, none⟩ = false) := hfr
  have HT : Hid (∀ i, i < 256 → w1.cell? ⟨b, 3 + i, none⟩ = some (.int .u32 (halves 8 i : Nat))) := htab
  clear hgr hlow hfr htab
  go_wp2
  refine leaves_cons (f := 311) (args := #[.pointer (some ⟨b, 0, none⟩), .bool true]) (by simp) (by simp [go_sem]) ?_
  refine (store_deferred ⟨b, 0, none⟩ (.int .u32 0) .returning _ k0 g0).mono ?_
  rintro e u' w'' ⟨rfl, rfl, rfl⟩
  refine leaves_cons (f := 310) (args := #[.pointer (some ⟨b, 1, none⟩)]) (by simp [settle]) (by simp [go_sem]) ?_
  refine (unlock_deferred ⟨b, 1, none⟩ _ _ ?_ (by simp [g1])).mono ?_
  · refine (World.cell?_setCell_other _ ⟨b, 0, none⟩ ⟨b, 1, none⟩ _ (by simp)).trans ?_
    rw [World.cell?_drew]
    exact k1
  rintro e u' w'' ⟨rfl, rfl, rfl⟩
  simp only [Leaves, settle]
  refine ⟨.tuple #[], by simp [results, Tryz.results291], rfl, ?_, ?_⟩
  · exact maker_done w1 b k0 k1 HF.out HT.out
  · exact grown_trans (grown_set _ _ _ _) (grown_trans (grown_trans (grown_drew HG.out) (grown_set _ _ _ _)) (grown_set _ _ _ _))

set_option maxRecDepth 100000 in
set_option maxHeartbeats 1600000 in
theorem do_first (b : Nat) (pl : Addr) (hpb : ¬ pl.block = b) (w : World) (hp : w.cell? pl = some (.pointer (some ⟨b, 0, none⟩))) (hm : Maker w b false) :
    Calls Tryz.prog 266 #[.pointer (some ⟨b, 0, none⟩), .func (.func 267) #[] #[.pointer (some pl)]] w fun e w' => e = .returned (.tuple #[]) ∧ Maker w' b true ∧ w.grownBy w' (some b) := by
  have h0 : w.cell? ⟨b, 0, none⟩ = some (.int .u32 0) := hm.c0
  have hl := run_call_load (P := Tryz.prog) Tryz.func308 (by kernel_rfl) (by kernel_rfl) (by kernel_rfl) .u32 (by kernel_rfl) h0
  have hnot : ∀ (x : Bool) (w : World), (Op.unary .not (.bool x)).run Tryz.prog w = .ok (.bool (!x)) w := fun _ _ => rfl
  go_enter Tryz.func266, Tryz.ntmps266
  go_wp2_with (first | (go_at_call 291; refine (slow_any b pl hpb _ hp hm).mono ?_; rintro e w' ⟨rfl, hm', hgr⟩) | (go_at_call 290; go_in))
  go_end0
  exact ⟨rfl, by assumption, by assumption⟩

theorem do_done (b : Nat) (fv : Value) (w : World) (hm : Maker w b true) :
    Calls Tryz.prog 266 #[.pointer (some ⟨b, 0, none⟩), fv] w fun e w' => e = .returned (.tuple #[]) ∧ w' = w := by
  have h0 : w.cell? ⟨b, 0, none⟩ = some (.int .u32 1) := hm.c0
  have hl := run_call_load (P := Tryz.prog) Tryz.func308 (by kernel_rfl) (by kernel_rfl) (by kernel_rfl) .u32 (by kernel_rfl) h0
  have hnot : ∀ (x : Bool) (w : World), (Op.unary .not (.bool x)).run Tryz.prog w = .ok (.bool (!x)) w := fun _ _ => rfl
  go_enter Tryz.func266, Tryz.ntmps266
  go_wp2
  go_end0
  exact ⟨rfl, rfl⟩
end Go.Proofs.YtkhjhojmhllkaaaGreatDoor
