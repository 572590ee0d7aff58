import Derived.Test.YtfkoflldjnlhaaaDoorRefMsg
/- CONTRACTS of the document's own answer: a message that can be written. -/
namespace Go.Proofs.YtfkoflldjnlhaaaDoor
open Go.RowKit
open Sc

theorem own_three (w : World) (a b c : Nat) : (w.alloc (.cells #[.int .u8 (a : Int), .int .u8 (b : Int), .int .u8 (c : Int)] 5)).ownsRow w.heap.size 5 1 (.slice (some ⟨w.heap.size, 0, none⟩) 3 3) 3 (bs [a, b, c]) :=
  ⟨rfl, .inr ⟨w.heap.size, 3, _, rfl, Nat.le_refl _, heap_alloc_new w _, Nat.le_refl _, by decide, rfl, rfl⟩⟩

set_option maxHeartbeats 1000000 in
theorem message_yes (k f t x : Nat) (w : World) (hs : soundB k f t x = true) (hk : k ≤ 8) (hf : f ≤ 8) (ht : t ≤ 8) (hx : x < 18446744073709551616) :
    Calls Tryd.prog 10 #[.agg #[.int .i64 k, .int .i64 f, .int .i64 t, .int .u64 x]] w fun e w' => ∃ g cap, e = .returned (.tuple #[.slice (some ⟨g, 0, none⟩) 15 cap, .int .i64 0]) ∧ w.heap.size ≤ g ∧ (15 ≤ cap ∧ cap ≤ maxLen) ∧ RowAt w' g 0 (msgBytes k f t x) ∧ Below w.heap.size w w' := by
  have HX : Hid (x < 18446744073709551616) := hx
  clear hx
  have hnot : ∀ (x : Bool) (w : World), (Op.unary .not (.bool x)).run Tryd.prog w = .ok (.bool (!x)) w := fun _ _ => rfl
  go_enter Tryd.func10, Tryd.ntmps10
  go_wp2_with (go_at_call 22; refine (sound_any _ _ _ _ _).mono ?_; rintro e w' ⟨rfl, rfl⟩)
  refine (number8 (w.heap.size + 1 + 1) _ [k, f, t] x 3 _ rfl (by have := own_three ((w.alloc (msgO k f t x)).alloc (msgO k f t x)) k f t; simpa using this) HX.out (by omega) (by simp)).mono ?_
  rintro e w1 ⟨v1, rfl, ho1, hb1⟩
  have hB1 : Below w.heap.size w w1 := ((((Below.refl _ _).alloc (Nat.le_refl _) _).alloc (by simp) _).alloc (by simp; omega) _).trans (hb1.mono (by omega))
  have hz1 : w.heap.size + 3 ≤ w1.heap.size := by have := hb1.size; simp at this; omega
  obtain ⟨g, cap, rfl, hg1, hg2, hc1, hc2, hrow⟩ := own_shape ho1 (by omega)
  have hrow' : ∀ i, i < 11 → w1.cell? ⟨g, 0 + i, none⟩ = some (.int .u8 (at_ (msgHead k f t x) i : Nat)) := fun i hi => hrow i (by rw [show ([k, f, t] ++ be 8 x) = msgHead k f t x from rfl, msgHead_len]; exact hi)
  have hlt := crc_lt (msgHead k f t x) (msgHead_byt k f t x (by omega) (by omega) (by omega))
  clear hb1
  go_wp2_with (go_at_call 18; refine (sum_some g 0 11 cap (msgHead k f t x) _ (msgHead_len _ _ _ _) (msgHead_byt k f t x (by omega) (by omega) (by omega)) (by omega) hrow').mono ?_; rintro e w' ⟨rfl, rfl⟩)
  refine (number4 (w.heap.size + 1 + 1) _ (msgHead k f t x) (crc (msgHead k f t x)) 11 _ (msgHead_len _ _ _ _) ho1 (by omega) (by omega) (by omega)).mono ?_
  rintro e w2 ⟨v2, rfl, ho2, hb2⟩
  have hB2 : Below w.heap.size w w2 := hB1.trans (hb2.mono (by omega))
  obtain ⟨g2, cap2, rfl, hg3, hg4, hc3, hc4, hrow2⟩ := own_shape ho2 (by omega)
  clear hrow' hrow ho1 hb2
  go_wp2
  go_ret2
  exact ⟨g2, cap2, rfl, by omega, ⟨by omega, hc4⟩, hrow2, hB2⟩
end Go.Proofs.YtfkoflldjnlhaaaDoor
