import Derived.Test.YtfkoflldjnlhaaaDoorDec
/- EncodeMessage in package wire. -/
namespace Go.Proofs.YtfkoflldjnlhaaaDoor
open Go.RowKit
open Sc

set_option maxHeartbeats 400000 in
theorem encode_no (k f t x : Int) (w : World) (hs : soundB k f t x = false) :
    Calls Tryd.prog 30 #[.agg #[.int .i64 k, .int .i64 f, .int .i64 t, .int .u64 x]] w fun e w' => e = .returned (.tuple #[.slice none 0 0, .iface 24 (.int .i64 2)]) ∧ Below w.heap.size w w' := by
  have hnot : ∀ (x : Bool) (w : World), (Op.unary .not (.bool x)).run Tryd.prog w = .ok (.bool (!x)) w := fun _ _ => rfl
  go_enter Tryd.func30, Tryd.ntmps30
  go_wp2_with (go_at_call 43; refine (isMessage_any _ _ _ _ _).mono ?_; rintro e w' ⟨rfl, rfl⟩)
  go_ret2
  exact ⟨rfl, ((Below.refl _ _).alloc (Nat.le_refl _) _).alloc (by simp) _⟩

theorem grown_row {w w1 : World} {r : Option Nat} (h : w.grownBy w1 r) {B : Nat} (hB : B < w.heap.size) (hr : r ≠ some B) (i : Nat) : w1.cell? ⟨B, i, none⟩ = w.cell? ⟨B, i, none⟩ :=
  World.cell?_of_block (a := ⟨B, i, none⟩) (h.block B hB (fun e => hr e.symm))

theorem box_grown {w w1 : World} {o p : Obj} {r : Option Nat} (h : ((w.alloc o).alloc p).grownBy w1 r) (hr : r ≠ some w.heap.size) (i : Nat) : w1.cell? ⟨w.heap.size, i, none⟩ = (w.alloc o).cell? ⟨w.heap.size, i, none⟩ := by
  rw [grown_row h (B := w.heap.size) (by simp; omega) hr i, World.cell?_alloc_lt _ _ ⟨w.heap.size, i, none⟩ (by simp)]
theorem own_at {w w1 : World} {o p : Obj} {base n cap : Nat} {xs : List Value} (h : w1.ownsRow base 5 1 (.slice (some ⟨((w.alloc o).alloc p).heap.size, 0, none⟩) n cap) n xs) : w1.ownsRow base 5 1 (.slice (some ⟨w.heap.size + 1 + 1, 0, none⟩) n cap) n xs := by
  rw [World.size_alloc, World.size_alloc] at h; exact h

set_option maxRecDepth 100000 in
set_option maxHeartbeats 1000000 in
theorem encode_yes (k f t x : Nat) (w : World) (hs : soundB k f t x = true) (hk : k ≤ 8) (hf : f ≤ 8) (ht : t ≤ 8) (hx : x < 18446744073709551616) :
    Calls Tryd.prog 30 #[.agg #[.int .i64 k, .int .i64 f, .int .i64 t, .int .u64 x]] w fun e w' => ∃ g, e = .returned (.tuple #[.slice (some ⟨g, 0, none⟩) 15 15, .nilIface]) ∧ w.heap.size ≤ g ∧ RowAt w' g 0 (msgBytes k f t x) ∧ Below w.heap.size w w' := by
  have HX : Hid (x < 18446744073709551616) := hx
  clear hx
  obtain ⟨i0, hi, hz0, hz1, hz2⟩ := info_parts Tryd.info5
  have hnot : ∀ (x : Bool) (w : World), (Op.unary .not (.bool x)).run Tryd.prog w = .ok (.bool (!x)) w := fun _ _ => rfl
  go_enter Tryd.func30, Tryd.ntmps30
  go_wp2_with (first | (go_at_call 43; refine (isMessage_any _ _ _ _ _).mono ?_; rintro e w' ⟨rfl, rfl⟩) | (at_make; refine wpList_make_own _ rfl _ _ 23 rfl (w.heap.size + 1 + 1) 5 i0 (.int .u8 0) 1 Tryd.underlying23 hi hz0 hz1 .i64 .i64 _ 15 rfl rfl rfl (by rw [hz2]; decide) (by decide) (by simp) ?_; intro w1 ho1 hg1; have hc1 := box_grown hg1 (by simp); have ho1' := own_at ho1; clear ho1))
  have HX2 := HX
  have hg1' : ((w.alloc (msgO k f t x)).alloc (msgO k f t x)).grownBy w1 none := by assumption
  have hz1' : w.heap.size + 1 + 1 < w1.heap.size := (own_lt (xs := []) ho1').2
  have HB1 : Hid (Below w.heap.size w w1) := (((Below.refl _ _).alloc (Nat.le_refl _) _).alloc (by simp) _).grown hg1' (by simp; omega) (fun q hq => by cases hq)
  clear hg1 hg1'
  refine (app_u8 (w.heap.size + 1 + 1) _ 0 15 [] k _ ho1' (by omega) (by omega)).mono ?_
  rintro e w2 ⟨rfl, ho2, hg2⟩
  have hc2 : ∀ i, w2.cell? ⟨w.heap.size, i, none⟩ = (w.alloc (msgO k f t x)).cell? ⟨w.heap.size, i, none⟩ := fun i => (grown_row hg2 (by omega) (by simp; omega) i).trans (hc1 i)
  have HB2 : Hid (Below w.heap.size w w2) := HB1.out.grown hg2 (by omega) (fun q hq => by cases hq; omega)
  have hz2' : w.heap.size + 1 + 1 < w2.heap.size := (own_lt ho2).2
  clear hc1 ho1' hg2
  go_wp2_with fail
  refine (app_u8 (w.heap.size + 1 + 1) _ 1 15 _ f _ ho2 (by omega) (by omega)).mono ?_
  rintro e w3 ⟨rfl, ho3, hg3⟩
  have hc3 : ∀ i, w3.cell? ⟨w.heap.size, i, none⟩ = (w.alloc (msgO k f t x)).cell? ⟨w.heap.size, i, none⟩ := fun i => (grown_row hg3 (by omega) (by simp; omega) i).trans (hc2 i)
  have HB3 : Hid (Below w.heap.size w w3) := HB2.out.grown hg3 (by omega) (fun q hq => by cases hq; omega)
  have hz3' : w.heap.size + 1 + 1 < w3.heap.size := (own_lt ho3).2
  clear hc2 ho2 hg3
  go_wp2_with fail
  refine (app_u8 (w.heap.size + 1 + 1) _ 2 15 _ t _ ho3 (by omega) (by omega)).mono ?_
  rintro e w4 ⟨rfl, ho4, hg4⟩
  have hc4 : ∀ i, w4.cell? ⟨w.heap.size, i, none⟩ = (w.alloc (msgO k f t x)).cell? ⟨w.heap.size, i, none⟩ := fun i => (grown_row hg4 (by omega) (by simp; omega) i).trans (hc3 i)
  have HB4 : Hid (Below w.heap.size w w4) := HB3.out.grown hg4 (by omega) (fun q hq => by cases hq; omega)
  have hz4' : w.heap.size + 1 + 1 < w4.heap.size := (own_lt ho4).2
  clear hc3 ho3 hg4
  go_wp2_with fail
  refine (app_u64 (w.heap.size + 1 + 1) _ 3 15 _ x _ ho4 (by omega) HX.out).mono ?_
  rintro e w5 ⟨rfl, ho5, hg5⟩
  have HB5 : Hid (Below w.heap.size w w5) := HB4.out.grown hg5 (by omega) (fun q hq => by cases hq; omega)
  have hz5' : w.heap.size + 1 + 1 < w5.heap.size := (own_lt ho5).2
  have ho5' : w5.ownsRow (w.heap.size + 1 + 1) 5 1 (.slice (some ⟨w.heap.size + 1 + 1, 0, none⟩) 11 15) 11 (bs (msgHead k f t x)) := by
    have e : ((([] ++ be 1 k) ++ be 1 f) ++ be 1 t) ++ be 8 x = msgHead k f t x := by
      unfold msgHead; simp [be, digit, List.range_succ]; omega
    rw [e] at ho5; exact ho5
  clear hc4 ho4 hg5 ho5
  go_wp2_with fail
  refine (seal_any (w.heap.size + 1 + 1) w5.heap.size (w.heap.size + 1 + 1) 11 15 false (msgHead k f t x) _ (maker_new w5) (by omega) (ho5'.alloc _) (msgHead_byt k f t x (by omega) (by omega) (by omega)) (by omega) (by omega)).mono ?_
  rintro e w6 ⟨rfl, ho6, hb6⟩
  have HB6 : Hid (Below w.heap.size w w6) := (HB5.out.alloc (by omega) _).trans (hb6 w.heap.size (by omega) (by omega))
  have hr6 := own_row ho6
  clear ho6 hb6 ho5'
  go_wp2
  go_ret2
  exact ⟨w.heap.size + 1 + 1, rfl, by omega, hr6, HB6.out⟩
end Go.Proofs.YtfkoflldjnlhaaaDoor
