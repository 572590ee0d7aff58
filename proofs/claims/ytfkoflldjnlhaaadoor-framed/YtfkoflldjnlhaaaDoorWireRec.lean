import Derived.Test.YtfkoflldjnlhaaaDoorEncRec
import Derived.Test.YtfkoflldjnlhaaaDoorScanM
/- RECORDS in package wire: firstFrame, readRecord. -/
namespace Go.Proofs.YtfkoflldjnlhaaaDoor
open Go.RowKit
open Sc

def ffV (g off : Nat) (l : List Nat) : Value := if ffOk l = true then .slice (some ⟨g, off, none⟩) (15 + fLen l) (15 + fLen l) else .slice none 0 0
theorem ffV_yes {g off : Nat} {l : List Nat} (h : ffOk l = true) : ffV g off l = .slice (some ⟨g, off, none⟩) (15 + fLen l) (15 + fLen l) := by unfold ffV; rw [if_pos h]
theorem ffV_no {g off : Nat} {l : List Nat} (h : ffOk l = false) : ffV g off l = .slice none 0 0 := by unfold ffV; rw [if_neg (by rw [h]; decide)]

set_option maxHeartbeats 400000 in
theorem firstFrame_short (ao : Option Addr) (n cap : Nat) (w : World) (hn : n < 15) :
    Calls Tryd.prog 46 #[.slice ao n cap] w fun e w' => e = .returned (.tuple #[.slice none 0 0, .bool false]) ∧ w' = w := by
  have h1 : (n : Int) < 15 := by omega
  go_enter Tryd.func46, Tryd.ntmps46
  go_wp2
  go_ret2
  exact ⟨rfl, rfl⟩

set_option maxHeartbeats 1000000 in
theorem firstFrame_some (g off n cap : Nat) (l : List Nat) (w : World) (hl : l.length = n) (hb : Byt l) (hn : 15 ≤ n) (hn2 : n ≤ 1099511627776) (hcap : n ≤ cap) (hcap2 : cap ≤ maxLen) (hrow : RowAt w g off l) :
    Calls Tryd.prog 46 #[.slice (some ⟨g, off, none⟩) n cap] w fun e w' => e = .returned (.tuple #[ffV g off l, .bool (ffOk l)]) ∧ ∃ q, w' = w.drewN q := by
  have HL : Hid (l.length = n) := hl
  have HR : Hid (RowAt w g off l) := hrow
  have h1 : ¬ (n : Int) < 15 := by omega
  clear hl hrow
  have hf := fLen_lt hb
  go_enter Tryd.func46, Tryd.ntmps46
  go_wp2_with fail
  refine (take_u16 g off n cap l _ hb HL.out (by omega) hcap hcap2 HR.out).mono ?_
  rintro e w1 ⟨rfl, q1, hw1'⟩
  have HW1 : Hid (w1 = w.drewN q1) := hw1'
  clear hw1'
  rw [show val (l.take 2) = fLen l from rfl]
  by_cases h255 : fLen l ≤ 255
  · by_cases hcut : 15 + fLen l ≤ n
    · have hok : ffOk l = true := ffOk_yes (by rw [HL.out]; omega) h255 (by rw [HL.out]; exact hcut)
      have HO : Hid (ffOk l = true) := hok
      clear hok
      have k1 : ¬ (255 : Int) < (fLen l : Int) := by omega
      have k2 : ¬ (n : Int) < 15 + (fLen l : Int) := by omega
      go_wp2_with fail
      rw [show ((15 : Int) + (fLen l : Int)) = ((15 + fLen l : Nat) : Int) by omega]
      refine (split_any g off n cap (15 + fLen l) _ (by omega) hcap hcap2).mono ?_
      rintro e w2 ⟨rfl, q2, hw2'⟩
      have HW2 : Hid (w2 = w1.drewN q2) := hw2'
      clear hw2'
      go_wp2
      go_ret2
      exact ⟨by rw [ffV_yes HO.out, HO.out]; rfl, q1 + q2, by rw [HW2.out, HW1.out, World.drewN_drewN]⟩
    · have HO : Hid (ffOk l = false) := ffOk_cut (by rw [HL.out]; exact hcut)
      have k1 : ¬ (255 : Int) < (fLen l : Int) := by omega
      have k2 : (n : Int) < 15 + (fLen l : Int) := by omega
      go_wp2
      go_ret2
      exact ⟨by rw [ffV_no HO.out, HO.out]; rfl, q1, HW1.out⟩
  · have HO : Hid (ffOk l = false) := ffOk_big h255
    have k1 : (255 : Int) < (fLen l : Int) := by omega
    go_wp2
    go_ret2
    exact ⟨by rw [ffV_no HO.out, HO.out]; rfl, q1, HW1.out⟩

theorem at_one (l : List Nat) (i : Nat) (h : i < l.length) : val ((l.drop i).take 1) = at_ l i := by
  rw [val_one _ (by rw [List.length_drop]; omega), at_drop]; rfl
theorem below_store3 {w w2 : World} (h : Below w.heap.size w w2) (a b c : Value) :
    Below w.heap.size w (((w2.setCell ⟨w.heap.size, 0, none⟩ a).setCell ⟨w.heap.size, 1, none⟩ b).setCell ⟨w.heap.size, 2, none⟩ c) :=
  ((h.setCell (Nat.le_refl _) _).setCell (Nat.le_refl _) _).setCell (Nat.le_refl _) _

set_option maxHeartbeats 1000000 in
theorem readRecord_any (g off p : Nat) (l : List Nat) (w : World) (hl : l.length = 11 + p) (hp : p ≤ 255) (hb : Byt l) (hrow : RowAt w g off l) :
    Calls Tryd.prog 47 #[.slice (some ⟨g, off, none⟩) (11 + p) (11 + p)] w fun e w' => e = .returned (.agg #[.int .u64 (val ((l.drop 2).take 8) : Nat), .int .u8 (at_ l 10 : Nat), .string (str (l.drop 11))]) ∧ Below w.heap.size w w' := by
  have HL : Hid (l.length = 11 + p) := hl
  have hlt := hrow.lt (by omega)
  have HR : Hid (RowAt (w.alloc (recO 0 0 ByteArray.empty)) g off l) := (RowAt_alloc hlt).2 hrow
  clear hl hrow
  have k1 : cutA g off 2 (11 + p) = some ⟨g, off + 2, none⟩ := cutA_far (by omega)
  have k2 : cutA g (off + 2) 8 (11 + p - 2) = some ⟨g, off + 2 + 8, none⟩ := cutA_far (by omega)
  go_enter Tryd.func47, Tryd.ntmps47
  go_wp2_with fail
  refine (take_u16 g off (11 + p) (11 + p) l _ hb HL.out (by omega) (by omega) (by unfold maxLen; omega) HR.out).mono ?_
  rintro e w1 ⟨rfl, q1, hw1'⟩
  have HW1 : Hid (w1 = (w.alloc (recO 0 0 ByteArray.empty)).drewN q1) := hw1'
  have HR1 : Hid (RowAt w1 g off l) := by rw [hw1']; exact HR.out.drewN q1
  clear hw1' HR
  rw [k1]
  go_wp2_with fail
  refine (take_u64 g (off + 2) (11 + p - 2) (11 + p - 2) (l.drop 2) _ (hb.drop 2) (by rw [List.length_drop, HL.out]) (by omega) (by omega) (by unfold maxLen; omega) (HR1.out.drop 2 (by rw [HL.out]; omega))).mono ?_
  rintro e w2 ⟨rfl, q2, hw2'⟩
  have HW2 : Hid (w2 = (w.alloc (recO 0 0 ByteArray.empty)).drewN (q1 + q2)) := by show w2 = _; rw [hw2', HW1.out, World.drewN_drewN]
  have HR2 : Hid (RowAt w2 g off l) := by rw [hw2']; exact HR1.out.drewN q2
  clear hw2' HR1 HW1
  rw [k2]
  go_wp2_with fail
  refine (take_u8 g (off + 2 + 8) (11 + p - 2 - 8) (11 + p - 2 - 8) (l.drop 10) _ (hb.drop 10) (by rw [List.length_drop, HL.out]; omega) (by omega) (by omega) (by unfold maxLen; omega) (HR2.out.drop 10 (by rw [HL.out]; omega))).mono ?_
  rintro e w3 ⟨rfl, q3, hw3'⟩
  have HW3 : Hid (w3 = (w.alloc (recO 0 0 ByteArray.empty)).drewN (q1 + q2 + q3)) := by show w3 = _; rw [hw3', HW2.out, World.drewN_drewN]
  have HR3 : Hid (RowAt w3 g off l) := by rw [hw3']; exact HR2.out.drewN q3
  clear hw3' HR2 HW2
  rw [at_one l 10 (by rw [HL.out]; omega)]
  have hB3 : Below w.heap.size w w3 := by rw [HW3.out]; exact below_drewN ((Below.refl _ _).alloc (Nat.le_refl _) _) _
  have HB3 : Hid (Below w.heap.size w w3) := hB3
  clear hB3
  have hc3 : ∀ i, w3.cell? ⟨w.heap.size, i, none⟩ = (w.alloc (recO 0 0 ByteArray.empty)).cell? ⟨w.heap.size, i, none⟩ := fun i => by rw [HW3.out]; simp
  have hf3 : ∀ i, w3.frozen? ⟨w.heap.size, i, none⟩ = false := fun i => by rw [HW3.out]; simp
  obtain ⟨ao, hao, hrun⟩ : ∃ ao, cutA g (off + 2 + 8) 1 (11 + p - 2 - 8) = ao ∧ (convert 23 9 (.slice ao (11 + p - 2 - 8 - 1) (11 + p - 2 - 8 - 1))).run Tryd.prog w3 = .ok (.string (str (l.drop 11))) w3 := by
    by_cases hp0 : p = 0
    · subst hp0
      refine ⟨_, cutA_end _ _ _, ?_⟩
      exact run_str w3 g (off + 2 + 8) 0 0 (l.drop 11) (by rw [List.length_drop, HL.out]) (fun i hi => by rw [List.length_drop, HL.out] at hi; omega)
    · refine ⟨_, cutA_far (by omega), ?_⟩
      exact run_str w3 g (off + 2 + 8 + 1) _ _ (l.drop 11) (by rw [List.length_drop, HL.out]; omega) (HR3.out.drop 11 (by rw [HL.out]; omega))
  rw [hao]
  clear hao
  go_wp2
  exact bodyPost_ret (v := .agg #[.int .u64 (val ((l.drop 2).take 8) : Nat), .int .u8 (at_ l 10 : Nat), .string (str (l.drop 11))]) (by simp [results, Tryd.results47, go_sem, hc3]) rfl ⟨rfl, below_store3 HB3.out _ _ _⟩
end Go.Proofs.YtfkoflldjnlhaaaDoor
