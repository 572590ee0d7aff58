import Derived.Test.YtfkoflldjnlhaaaDoorView
/- SCANNING, the plain mathematics: the records at the beginning of bytes. -/
namespace Go.Proofs.YtfkoflldjnlhaaaDoor
open Go.RowKit
open Sc

/-- how many bytes the payload of a record at the beginning would have -/
def fLen (l : List Nat) : Nat := val (l.take 2)
/-- are its bytes all there, and is it within the bound? -/
def ffOk (l : List Nat) : Bool := decide (15 ≤ l.length) && (decide (fLen l ≤ 255) && decide (15 + fLen l ≤ l.length))
/-- has it its right sum? -/
def fSum (l : List Nat) : Bool := crc (l.take (11 + fLen l)) == val ((l.drop (11 + fLen l)).take 4)
def frameOk (l : List Nat) : Bool := ffOk l && fSum l
structure Rec where
  lsn : Nat
  kind : Nat
  pay : List Nat
def recOf (l : List Nat) : Rec := ⟨val ((l.drop 2).take 8), at_ l 10, (l.drop 11).take (fLen l)⟩
/-- k records read, whatever they are; how many bytes they have -/
def st : Nat → List Nat → List Rec × Nat
  | 0, _ => ([], 0)
  | k + 1, l => ((st k l).1 ++ [recOf (l.drop (st k l).2)], (st k l).2 + 15 + fLen (l.drop (st k l).2))
/-- those k are records -/
def Good (l : List Nat) (k : Nat) : Prop := ∀ j, j < k → frameOk (l.drop (st j l).2) = true
/-- and there is no other behind them -/
def Ended (l : List Nat) (k : Nat) : Prop := Good l k ∧ frameOk (l.drop (st k l).2) = false
theorem ended_unique {l : List Nat} {k m : Nat} (h : Ended l k) (g : Ended l m) : k = m := by
  rcases Nat.lt_trichotomy k m with hlt | heq | hgt
  · have := g.1 k hlt; rw [h.2] at this; cases this
  · exact heq
  · have := h.1 m hgt; rw [g.2] at this; cases this
theorem good_zero (l : List Nat) : Good l 0 := fun j hj => absurd hj (Nat.not_lt_zero j)
theorem good_succ {l : List Nat} {k : Nat} (h : Good l k) (g : frameOk (l.drop (st k l).2) = true) : Good l (k + 1) := fun j hj => by
  rcases Nat.lt_or_ge j k with hlt | hge
  · exact h j hlt
  · obtain rfl : j = k := by omega
    exact g
theorem frameOk_ff {l : List Nat} (h : frameOk l = true) : 15 ≤ l.length ∧ fLen l ≤ 255 ∧ 15 + fLen l ≤ l.length := by
  unfold frameOk ffOk at h
  simp only [Bool.and_eq_true, decide_eq_true_eq] at h
  exact ⟨h.1.1, h.1.2.1, h.1.2.2⟩
theorem st_le {l : List Nat} : ∀ {k : Nat}, Good l k → (st k l).2 ≤ l.length
  | 0, _ => Nat.zero_le _
  | k + 1, h => by
    have h1 := st_le (k := k) (fun j hj => h j (by omega))
    have h2 := (frameOk_ff (h k (by omega))).2.2
    rw [List.length_drop] at h2
    show (st k l).2 + 15 + fLen (l.drop (st k l).2) ≤ _
    omega
theorem st_ge (l : List Nat) : ∀ k : Nat, 15 * k ≤ (st k l).2
  | 0 => Nat.zero_le _
  | k + 1 => by
    have h1 := st_ge l k
    show _ ≤ (st k l).2 + 15 + fLen (l.drop (st k l).2)
    omega
theorem st_len (l : List Nat) : ∀ k : Nat, (st k l).1.length = k
  | 0 => rfl
  | k + 1 => by
    show ((st k l).1 ++ [recOf (l.drop (st k l).2)]).length = _
    rw [List.length_append, st_len l k]; rfl
theorem ffOk_yes {l : List Nat} (h1 : 15 ≤ l.length) (h2 : fLen l ≤ 255) (h3 : 15 + fLen l ≤ l.length) : ffOk l = true := by unfold ffOk; simp [h1, h2, h3]
theorem ffOk_short {l : List Nat} (h1 : ¬ 15 ≤ l.length) : ffOk l = false := by unfold ffOk; simp [h1]
theorem ffOk_big {l : List Nat} (h1 : ¬ fLen l ≤ 255) : ffOk l = false := by unfold ffOk; simp [h1]
theorem ffOk_cut {l : List Nat} (h1 : ¬ 15 + fLen l ≤ l.length) : ffOk l = false := by unfold ffOk; simp [h1]
theorem frameOk_ffno {l : List Nat} (h : ffOk l = false) : frameOk l = false := by unfold frameOk; rw [h]; rfl
theorem frameOk_sumno {l : List Nat} (h : fSum l = false) : frameOk l = false := by unfold frameOk; rw [h]; simp
theorem frameOk_yes {l : List Nat} (h : ffOk l = true) (g : fSum l = true) : frameOk l = true := by unfold frameOk; rw [h, g]; rfl
theorem fLen_lt {l : List Nat} (h : Byt l) : fLen l < 65536 := by
  have h1 := val_lt (l.take 2) (fun x hx => h x (List.mem_of_mem_take hx))
  have h2 : (l.take 2).length ≤ 2 := by rw [List.length_take]; omega
  have h3 : 256 ^ (l.take 2).length ≤ 256 ^ 2 := Nat.pow_le_pow_right (by omega) h2
  unfold fLen
  omega
end Go.Proofs.YtfkoflldjnlhaaaDoor
