import Derived.Test.YtnnhihkeffljbaaGreatDoorProg
import Derived.WalkKit
import Derived.WalkSpells
import Derived.WalkLawsBesides
import Derived.Laws.BitsAll
/- THE PLAIN MATHEMATICS of records and messages as bytes: the sum (CRC-32) bit by bit and by a table; numbers as bytes. It imports nothing of the dump. -/
namespace Go.Proofs.YtnnhihkeffljbaaGreatDoor.Sc

/-- one bit of the sum's reckoning -/
def half (c : Nat) : Nat := if c % 2 = 1 then (c / 2) ^^^ 3988292384 else c / 2
def halves : Nat → Nat → Nat
  | 0, c => c
  | k + 1, c => half (halves k c)
def crcS (c : Nat) (l : List Nat) : Nat := l.foldl (fun c b => halves 8 (c ^^^ b)) c
def crc (l : List Nat) : Nat := 4294967295 ^^^ crcS 4294967295 l

theorem xor_div2 (a b : Nat) : (a ^^^ b) / 2 = a / 2 ^^^ b / 2 := by
  have := Nat.shiftRight_xor_distrib (a := a) (b := b) (i := 1)
  simpa [Nat.shiftRight_eq_div_pow] using this
theorem xor_mod2 (a b : Nat) : (a ^^^ b) % 2 = (a + b) % 2 := by
  have h := Nat.xor_mod_two_pow (a := a) (b := b) (n := 1)
  rw [show (2 : Nat) ^ 1 = 2 from rfl] at h
  rw [h]
  rcases Nat.mod_two_eq_zero_or_one a with ha | ha <;> rcases Nat.mod_two_eq_zero_or_one b with hb | hb <;> rw [ha, hb] <;> simp <;> omega
theorem half_xor (a b : Nat) : half (a ^^^ b) = half a ^^^ half b := by
  unfold half
  have h1 := xor_div2 a b
  have h2 := xor_mod2 a b
  rw [h1, h2]
  rcases Nat.mod_two_eq_zero_or_one a with ha | ha <;> rcases Nat.mod_two_eq_zero_or_one b with hb | hb
  · rw [if_neg (by omega), if_neg (by omega), if_neg (by omega)]
  · rw [if_pos (by omega), if_neg (by omega), if_pos (by omega), Nat.xor_assoc]
  · rw [if_pos (by omega), if_pos (by omega), if_neg (by omega), Nat.xor_assoc, Nat.xor_assoc, Nat.xor_comm (b / 2)]
  · rw [if_neg (by omega), if_pos (by omega), if_pos (by omega), Nat.xor_assoc, Nat.xor_comm 3988292384, Nat.xor_assoc, Nat.xor_self, Nat.xor_zero]
theorem halves_xor (k a b : Nat) : halves k (a ^^^ b) = halves k a ^^^ halves k b := by
  induction k with
  | zero => rfl
  | succ k ih => simp only [halves, ih, half_xor]
theorem halves_half (k c : Nat) : halves k (half c) = half (halves k c) := by
  induction k with
  | zero => rfl
  | succ k ih => simp only [halves, ih]
theorem halves_shift (k d : Nat) : halves k (2 ^ k * d) = d := by
  induction k generalizing d with
  | zero => simp [halves]
  | succ k ih =>
    have e : 2 ^ (k + 1) * d = 2 ^ k * (2 * d) := by rw [Nat.pow_succ, Nat.mul_assoc]
    rw [e]
    simp only [halves, ih]
    unfold half
    rw [if_neg (by omega)]
    omega
theorem half_lt (c : Nat) (h : c < 4294967296) : half c < 4294967296 := by
  unfold half
  have h1 : c / 2 < 2 ^ 32 := by omega
  split
  · exact Nat.xor_lt_two_pow h1 (by decide)
  · exact h1
theorem halves_lt (k c : Nat) (h : c < 4294967296) : halves k c < 4294967296 := by
  induction k with
  | zero => exact h
  | succ k ih => exact half_lt _ ih
theorem xor_lt32 (a b : Nat) (ha : a < 4294967296) (hb : b < 4294967296) : a ^^^ b < 4294967296 := Nat.xor_lt_two_pow (n := 32) ha hb
theorem xor_lt8 (a b : Nat) (ha : a < 256) (hb : b < 256) : a ^^^ b < 256 := Nat.xor_lt_two_pow (n := 8) ha hb
theorem split8 (s : Nat) : s = (s % 256) ^^^ (256 * (s / 256)) := by
  refine Nat.eq_of_testBit_eq fun i => ?_
  rw [Nat.testBit_xor, show (256 : Nat) = 2 ^ 8 from rfl, Nat.testBit_mod_two_pow, Nat.testBit_two_pow_mul, Nat.testBit_div_two_pow]
  by_cases h : i < 8
  · have : ¬ 8 ≤ i := by omega
    simp [h, this]
  · have h2 : 8 ≤ i := by omega
    simp [h, h2]
/-- one byte by the table -/
def tstep (s b : Nat) : Nat := halves 8 ((s % 256) ^^^ b) ^^^ (s / 256)
theorem tstep_eq (s b : Nat) : tstep s b = halves 8 (s ^^^ b) := by
  have e : s ^^^ b = ((s % 256) ^^^ b) ^^^ (256 * (s / 256)) := by
    conv => lhs; rw [split8 s]
    rw [Nat.xor_assoc, Nat.xor_comm (256 * (s / 256)) b, ← Nat.xor_assoc]
  rw [e, halves_xor, show (256 : Nat) = 2 ^ 8 from rfl, halves_shift]
  rfl
theorem crcS_snoc (c : Nat) (l : List Nat) (b : Nat) : crcS c (l ++ [b]) = halves 8 (crcS c l ^^^ b) := by simp [crcS]
theorem crcS_lt (c : Nat) (l : List Nat) (hc : c < 4294967296) (hl : ∀ b ∈ l, b < 256) : crcS c l < 4294967296 := by
  induction l generalizing c with
  | nil => exact hc
  | cons b l ih =>
    have hb : b < 256 := hl b (by simp)
    show crcS (halves 8 (c ^^^ b)) l < _
    exact ih _ (halves_lt _ _ (xor_lt32 _ _ hc (by omega))) (fun x hx => hl x (by simp [hx]))
theorem crc_lt (l : List Nat) (hl : ∀ b ∈ l, b < 256) : crc l < 4294967296 := xor_lt32 _ _ (by decide) (crcS_lt _ _ (by decide) hl)

/-! Numbers as bytes, the highest first -/
def digit (k n j : Nat) : Nat := n / 256 ^ (k - 1 - j) % 256
def be (k n : Nat) : List Nat := (List.range k).map (digit k n)
def val (l : List Nat) : Nat := l.foldl (fun n b => n * 256 + b) 0
theorem be_len (k n : Nat) : (be k n).length = k := by simp [be]
theorem be_lt (k n : Nat) : ∀ b ∈ be k n, b < 256 := by
  intro b hb
  simp only [be, List.mem_map, digit] at hb
  obtain ⟨j, _, rfl⟩ := hb
  omega
theorem val_snoc (l : List Nat) (b : Nat) : val (l ++ [b]) = val l * 256 + b := by simp [val]
theorem val_aux (l : List Nat) (n : Nat) (hl : ∀ b ∈ l, b < 256) : l.foldl (fun n b => n * 256 + b) n < (n + 1) * 256 ^ l.length := by
  induction l generalizing n with
  | nil => simp
  | cons b l ih =>
    have h2 := hl b (by simp)
    have h1 := ih (n * 256 + b) (fun x hx => hl x (by simp [hx]))
    refine Nat.lt_of_lt_of_le h1 ?_
    rw [List.length_cons, Nat.pow_succ, Nat.mul_comm (256 ^ l.length) 256, ← Nat.mul_assoc]
    exact Nat.mul_le_mul_right _ (by omega)
theorem val_lt (l : List Nat) (hl : ∀ b ∈ l, b < 256) : val l < 256 ^ l.length := by
  have := val_aux l 0 hl
  simpa [val] using this
theorem val_be_aux (k n j : Nat) (h : j ≤ k) : val ((List.range j).map (digit k n)) = n / 256 ^ (k - j) % 256 ^ j := by
  induction j with
  | zero => simp [val, Nat.mod_one]
  | succ j ih =>
    rw [List.range_succ, List.map_append, List.map_singleton, val_snoc, ih (by omega)]
    unfold digit
    have e : k - j = (k - (j + 1)) + 1 := by omega
    have e2 : k - 1 - j = k - (j + 1) := by omega
    rw [e, e2, Nat.pow_succ, ← Nat.div_div_eq_div_mul]
    generalize n / 256 ^ (k - (j + 1)) = m
    rw [Nat.pow_succ, Nat.mul_comm (256 ^ j) 256, Nat.mod_mul]
    omega
theorem val_be (k n : Nat) (h : n < 256 ^ k) : val (be k n) = n := by
  have := val_be_aux k n k (Nat.le_refl _)
  rw [Nat.sub_self, Nat.pow_zero, Nat.div_one, Nat.mod_eq_of_lt h] at this
  exact this
end Go.Proofs.YtnnhihkeffljbaaGreatDoor.Sc
/- HOW BYTES LIE IN MEMORY: the views by which the contracts speak. -/
namespace Go.Proofs.YtnnhihkeffljbaaGreatDoor
open Go.RowKit
open Sc

/-- the i-th number of a list -/
def at_ (l : List Nat) (i : Nat) : Nat := l.getD i 0
/-- all are bytes -/
def Byt (l : List Nat) : Prop := ∀ x ∈ l, x < 256
theorem at_lt {l : List Nat} (h : Byt l) (i : Nat) : at_ l i < 256 := by
  unfold at_
  by_cases hi : i < l.length
  · have := h _ (List.getElem_mem hi); simpa [hi] using this
  · simp [Nat.le_of_not_lt hi]
theorem Byt.take_ {l : List Nat} (h : Byt l) (n : Nat) : Byt (l.take n) := fun x hx => h x (List.mem_of_mem_take hx)
theorem take_at (l : List Nat) (k : Nat) (h : k < l.length) : l.take (k + 1) = l.take k ++ [at_ l k] := by
  rw [List.take_succ_eq_append_getElem h]; simp [at_, h]
/-- the bytes l lie from ao on -/
def Lies (w : World) (ao : Option Addr) (l : List Nat) : Prop :=
  l = [] ∨ ∃ b off, ao = some ⟨b, off, none⟩ ∧ ∀ i, i < l.length → w.cell? ⟨b, off + i, none⟩ = some (.int .u8 (at_ l i : Nat))
/-- bytes as values -/
def bs (l : List Nat) : List Value := l.map fun x : Nat => .int .u8 (x : Int)
theorem bs_len (l : List Nat) : (bs l).length = l.length := by simp [bs]
theorem bs_app (a b : List Nat) : bs (a ++ b) = bs a ++ bs b := by simp [bs]
theorem bs_at (l : List Nat) (i : Nat) (h : i < l.length) : (bs l)[i]? = some (.int .u8 (at_ l i : Nat)) := by simp [bs, at_, h]
/-- the bytes l lie in block g from off on -/
def RowAt (w : World) (g off : Nat) (l : List Nat) : Prop := ∀ i, i < l.length → w.cell? ⟨g, off + i, none⟩ = some (.int .u8 (at_ l i : Nat))
theorem own_shape {w : World} {base n : Nat} {v : Value} {xs : List Nat} (h : w.ownsRow base 5 1 v n (bs xs)) (hn : 0 < n) :
    ∃ g cap, v = .slice (some ⟨g, 0, none⟩) n cap ∧ base ≤ g ∧ g < w.heap.size ∧ n ≤ cap ∧ cap ≤ maxLen ∧ RowAt w g 0 xs := by
  obtain ⟨h1, h2⟩ := h
  rcases h2 with ⟨_, h3⟩ | ⟨g, cap, cur, rfl, hb, hg, hnc, hcm, hcs, htk⟩
  · omega
  · refine ⟨g, cap, rfl, hb, (Array.getElem?_eq_some_iff.1 hg).1, hnc, hcm, fun i hi => ?_⟩
    have hown : w.ownsRow base 5 1 (.slice (some ⟨g, 0, none⟩) n cap) n (bs xs) := ⟨h1, .inr ⟨g, cap, cur, rfl, hb, hg, hnc, hcm, hcs, htk⟩⟩
    have := hown.cells (g := g) rfl i _ (bs_at xs i hi)
    simpa [Addr.add_lit] using this
theorem RowAt.below {w w' : World} {B g off : Nat} {l : List Nat} (h : RowAt w g off l) (hb : Below B w w') (hg : g < B) : RowAt w' g off l := fun i hi => by
  rw [hb.cell (p := ⟨g, off + i, none⟩) hg]; exact h i hi
theorem RowAt_alloc {w : World} {o : Obj} {b off : Nat} {l : List Nat} (h : b < w.heap.size) : RowAt (w.alloc o) b off l ↔ RowAt w b off l := by
  unfold RowAt
  constructor
  · intro k i hi; have := k i hi; rwa [World.cell?_alloc_lt _ _ ⟨b, off + i, none⟩ h] at this
  · intro k i hi; rw [World.cell?_alloc_lt _ _ ⟨b, off + i, none⟩ h]; exact k i hi
theorem RowAt_drew {w : World} {b off : Nat} {l : List Nat} : RowAt w.drew b off l ↔ RowAt w b off l := by
  unfold RowAt; simp
theorem RowAt_setCell {w : World} {b off : Nat} {l : List Nat} {a : Addr} {v : Value} (h : ¬ a.block = b) : RowAt (w.setCell a v) b off l ↔ RowAt w b off l := by
  unfold RowAt
  have e : ∀ i, (w.setCell a v).cell? ⟨b, off + i, none⟩ = w.cell? ⟨b, off + i, none⟩ := fun i => World.cell?_setCell_other _ _ _ _ (fun hh => h (by rw [hh]))
  constructor
  · intro k i hi; have := k i hi; rwa [e] at this
  · intro k i hi; rw [e]; exact k i hi
theorem RowAt.lt {w : World} {b off : Nat} {l : List Nat} (h : RowAt w b off l) (hl : 0 < l.length) : b < w.heap.size := by
  have := World.block_lt_of_cell? w ⟨b, off + 0, none⟩ (h 0 hl); exact this
theorem RowAt.sub {w : World} {b off : Nat} {l : List Nat} (h : RowAt w b off l) (o m : Nat) (hl : o + m ≤ l.length) : RowAt w b (off + o) ((l.drop o).take m) := fun i hi => by
  simp only [List.length_take, List.length_drop] at hi
  have := h (o + i) (by omega)
  rw [show off + o + i = off + (o + i) by omega, this]
  congr 3
  simp [at_, List.getElem?_drop, show i < m by omega]
theorem grown_refl (w : World) (r : Option Nat) : w.grownBy w r := ⟨rfl, rfl, rfl, Nat.le_refl _, fun _ _ _ => rfl⟩
theorem grown_trans {w w1 w2 : World} {r : Option Nat} (h : w.grownBy w1 r) (k : w1.grownBy w2 r) : w.grownBy w2 r :=
  ⟨k.os.trans h.os, k.tape.trans h.tape, k.output.trans h.output, Nat.le_trans h.size k.size, fun i hi hn => (k.block i (Nat.lt_of_lt_of_le hi h.size) hn).trans (h.block i hi hn)⟩
theorem grown_set (w : World) (b o : Nat) (v : Value) : w.grownBy (w.setCell ⟨b, o, none⟩ v) (some b) :=
  ⟨rfl, rfl, rfl, by simp [World.setCell], fun k _ hn => Below.heap_setCell _ _ _ _ (fun e => hn (by rw [e]))⟩
theorem grown_drew {w w1 : World} {r : Option Nat} (h : w.grownBy w1 r) : w.grownBy w1.drew r := ⟨h.os, h.tape, h.output, h.size, h.block⟩
theorem grown_cell {w w1 : World} {b : Nat} (h : w.grownBy w1 (some b)) {a : Addr} (hn : a.block ≠ b) (hl : a.block < w.heap.size) : w1.cell? a = w.cell? a :=
  World.cell?_of_block (h.block a.block hl (fun e => hn (Option.some.inj e)))
theorem grown_alloc (w : World) (o : Obj) (r : Option Nat) : w.grownBy (w.alloc o) r := World.grownBy_alloc w o r
theorem own_len {w : World} {base n : Nat} {v : Value} {xs : List Nat} (h : w.ownsRow base 5 1 v n (bs xs)) : xs.length = n := by
  have := h.1; rw [bs_len] at this; omega
theorem own_row {w : World} {base n g cap : Nat} {xs : List Nat} (h : w.ownsRow base 5 1 (.slice (some ⟨g, 0, none⟩) n cap) n (bs xs)) : RowAt w g 0 xs := fun i hi => by
  have := h.cells (g := g) rfl i _ (bs_at xs i hi)
  simpa [Addr.add_lit] using this
theorem own_lt {w : World} {base n g cap : Nat} {xs : List Nat} (h : w.ownsRow base 5 1 (.slice (some ⟨g, 0, none⟩) n cap) n (bs xs)) : base ≤ g ∧ g < w.heap.size := h.lt g rfl
/-- two rows were written at the most -/
theorem below_two {w w1 w2 : World} {b g B : Nat} (h : w.grownBy w1 (some b)) (k : w1.grownBy w2 (some g)) (hb : B ≤ b) (hg : B ≤ g) (hB : B ≤ w.heap.size) : Below B w w2 :=
  ((Below.refl B w).grown h hB (fun q hq => by cases hq; exact hb)).grown k (Nat.le_trans hB h.size) (fun q hq => by cases hq; exact hg)
theorem row_grown {w w' : World} {g off b : Nat} {l : List Nat} (h : RowAt w g off l) (hg : w.grownBy w' (some b)) (hne : g ≠ b) : RowAt w' g off l := fun i hi => by
  have h1 := h i hi
  rw [grown_cell hg (a := ⟨g, off + i, none⟩) hne (World.block_lt_of_cell? w _ h1)]; exact h1
theorem RowAt.drewN {w : World} {b off : Nat} {l : List Nat} (h : RowAt w b off l) (q : Nat) : RowAt (w.drewN q) b off l := fun i hi => by
  have := h i hi; simpa using this
theorem Tryz.info5 : (Tryz.prog.info? 5).map (fun i => (i.zero, i.size, i.bytes)) = some (some (.int .u8 0), 1, 1) := by kernel_rfl
end Go.Proofs.YtnnhihkeffljbaaGreatDoor
/- CONTRACTS of the document's own answer: the sum, numbers as bytes. -/
namespace Go.Proofs.YtnnhihkeffljbaaGreatDoor
open Go.RowKit
open Sc

theorem and1 (X : Nat) (h : X < 4294967296) : bits .and .u32 (X : Int) 1 = ((X % 2 : Nat) : Int) := by
  have := u32_and_nat X 1 h (by omega)
  rw [Nat.and_one_is_mod] at this
  exact this
theorem xorP (X : Nat) (h : X < 4294967296) : bits .xor .u32 (X : Int) 3988292384 = ((X ^^^ 3988292384 : Nat) : Int) := u32_xor_nat X 3988292384 h (by omega)
theorem notU (X : Nat) (h : X < 4294967296) : bits .xor .u32 4294967295 (X : Int) = ((4294967295 ^^^ X : Nat) : Int) := u32_xor_nat 4294967295 X (by omega) h
theorem half_odd (X : Nat) (h : X % 2 = 1) : half X = X / 2 ^^^ 3988292384 := by unfold half; rw [if_pos h]
theorem half_even (X : Nat) (h : ¬ X % 2 = 1) : half X = X / 2 := by unfold half; rw [if_neg h]
theorem ret_int {k : IntKind} {a b : Int} (h : a = b) : Ending.returned (.int k a) = .returned (.int k b) := by rw [h]
theorem int_eq {k : IntKind} {a b : Int} (h : a = b) : Value.int k a = .int k b := by rw [h]

theorem val_step (C A : Nat) (hC : C < 72057594037927936) (ha : A < 256) : IntKind.u64.wrap (IntKind.u64.wrap ((C : Int) * 256) + (A : Int)) = ((C * 256 + A : Nat) : Int) := by
  rw [IntKind.wrap_u64, IntKind.wrap_u64]; omega

theorem digit_int (n k j : Nat) : ((n : Int) / 2 ^ (8 * (k - 1 - j)) % 256) = ((digit k n j : Nat) : Int) := by
  unfold digit
  rw [show (256 : Nat) ^ (k - 1 - j) = 2 ^ (8 * (k - 1 - j)) by rw [Nat.pow_mul]]
  simp
end Go.Proofs.YtnnhihkeffljbaaGreatDoor
