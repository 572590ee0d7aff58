import Derived.Test.YtfkoflldjnlhaaaDoorWireMsg
/- MESSAGES in package wire: readMessage. -/
namespace Go.Proofs.YtfkoflldjnlhaaaDoor
open Go.RowKit
open Sc

theorem val_one (l : List Nat) (h : 0 < l.length) : val (l.take 1) = at_ l 0 := by
  cases l with
  | nil => simp at h
  | cons a l => simp [val, at_]
theorem RowAt.drop {w : World} {b off : Nat} {l : List Nat} (h : RowAt w b off l) (o : Nat) (hl : o ≤ l.length) : RowAt w b (off + o) (l.drop o) := fun i hi => by
  rw [List.length_drop] at hi
  have := h (o + i) (by omega)
  rw [show off + o + i = off + (o + i) by omega, this, at_drop]
theorem below_drewN {B : Nat} {a w : World} (h : Below B a w) (q : Nat) : Below B a (w.drewN q) := ⟨h.os, h.tape, h.output, h.size, h.block⟩

set_option maxHeartbeats 1000000 in
theorem readMessage_any (g off : Nat) (l : List Nat) (w : World) (hl : l.length = 11) (hb : Byt l) (hrow : RowAt w g off l) :
    Calls Tryd.prog 45 #[.slice (some ⟨g, off, none⟩) 11 11] w fun e w' => e = .returned (.agg #[.int .i64 (at_ l 0 : Nat), .int .i64 (at_ l 1 : Nat), .int .i64 (at_ l 2 : Nat), .int .u64 (val (l.drop 3) : Nat)]) ∧ Below w.heap.size w w' := by
  have HL : Hid (l.length = 11) := hl
  have hlt := hrow.lt (by omega)
  have a0 := at_lt hb 0
  have a1 := at_lt hb 1
  have a2 := at_lt hb 2
  have HR : Hid (RowAt (w.alloc (msgO 0 0 0 0)) g off l) := (RowAt_alloc hlt).2 hrow
  clear hl hrow
  have k1 : cutA g off 1 11 = some ⟨g, off + 1, none⟩ := cutA_far (by omega)
  have k2 : cutA g (off + 1) 1 10 = some ⟨g, off + 2, none⟩ := cutA_far (by omega)
  have k3 : cutA g (off + 2) 1 9 = some ⟨g, off + 3, none⟩ := cutA_far (by omega)
  go_enter Tryd.func45, Tryd.ntmps45
  go_wp2_with fail
  refine (take_u8 g off 11 11 l _ hb HL.out (by omega) (by omega) (by decide) HR.out).mono ?_
  rintro e w1 ⟨rfl, q1, hw1'⟩
  have HW1 : Hid (w1 = (w.alloc (msgO 0 0 0 0)).drewN q1) := hw1'
  have HR1 : Hid (RowAt w1 g off l) := by rw [hw1']; exact HR.out.drewN q1
  clear hw1'
  rw [val_one l (by rw [HL.out]; omega)]
  go_wp2_with fail
  refine (take_u8 g (off + 1) 10 10 (l.drop 1) _ (hb.drop 1) (by rw [List.length_drop, HL.out]) (by omega) (by omega) (by decide) (HR1.out.drop 1 (by rw [HL.out]; omega))).mono ?_
  rintro e w2 ⟨rfl, q2, hw2'⟩
  have HW2 : Hid (w2 = w1.drewN q2) := hw2'
  have HR2 : Hid (RowAt w2 g off l) := by rw [hw2']; exact HR1.out.drewN q2
  clear hw2'
  rw [val_one (l.drop 1) (by rw [List.length_drop, HL.out]; omega), at_drop]
  go_wp2_with fail
  refine (take_u8 g (off + 2) 9 9 (l.drop 2) _ (hb.drop 2) (by rw [List.length_drop, HL.out]) (by omega) (by omega) (by decide) (HR2.out.drop 2 (by rw [HL.out]; omega))).mono ?_
  rintro e w3 ⟨rfl, q3, hw3'⟩
  have HW3 : Hid (w3 = w2.drewN q3) := hw3'
  have HR3 : Hid (RowAt w3 g off l) := by rw [hw3']; exact HR2.out.drewN q3
  clear hw3'
  rw [val_one (l.drop 2) (by rw [List.length_drop, HL.out]; omega), at_drop]
  go_wp2_with fail
  refine (take_u64 g (off + 3) 8 8 (l.drop 3) _ (hb.drop 3) (by rw [List.length_drop, HL.out]) (by omega) (by omega) (by decide) (HR3.out.drop 3 (by rw [HL.out]; omega))).mono ?_
  rintro e w4 ⟨rfl, q4, hw4'⟩
  have HW4 : Hid (w4 = w3.drewN q4) := hw4'
  clear hw4'
  rw [List.take_of_length_le (l := l.drop 3) (by rw [List.length_drop, HL.out]; omega)]
  have hc4 : ∀ i, w4.cell? ⟨w.heap.size, i, none⟩ = (w.alloc (msgO 0 0 0 0)).cell? ⟨w.heap.size, i, none⟩ := fun i => by rw [HW4.out, HW3.out, HW2.out, HW1.out]; simp
  have hz4 : w4.heap.size = w.heap.size + 1 := by rw [HW4.out, HW3.out, HW2.out, HW1.out]; simp
  have hB4 : Below w.heap.size w w4 := by
    rw [HW4.out, HW3.out, HW2.out, HW1.out]
    exact below_drewN (below_drewN (below_drewN (below_drewN ((Below.refl _ _).alloc (Nat.le_refl _) _) _) _) _) _
  have hf4 : ∀ i, w4.frozen? ⟨w.heap.size, i, none⟩ = false := fun i => by rw [HW4.out, HW3.out, HW2.out, HW1.out]; simp
  have hB5 : Below w.heap.size w ((((w4.setCell ⟨w.heap.size, 0, none⟩ (.int .i64 (at_ l 0 : Nat))).setCell ⟨w.heap.size, 1, none⟩ (.int .i64 (at_ l 1 : Nat))).setCell ⟨w.heap.size, 2, none⟩ (.int .i64 (at_ l 2 : Nat))).setCell ⟨w.heap.size, 3, none⟩ (.int .u64 (val (l.drop 3) : Nat))) :=
    (((hB4.setCell (Nat.le_refl _) _).setCell (Nat.le_refl _) _).setCell (Nat.le_refl _) _).setCell (Nat.le_refl _) _
  clear hB4
  go_wp2
  exact bodyPost_ret (v := .agg #[.int .i64 (at_ l 0 : Nat), .int .i64 (at_ l 1 : Nat), .int .i64 (at_ l 2 : Nat), .int .u64 (val (l.drop 3) : Nat)]) (by simp [results, Tryd.results45, go_sem, hc4]) rfl ⟨rfl, hB5⟩
end Go.Proofs.YtfkoflldjnlhaaaDoor
