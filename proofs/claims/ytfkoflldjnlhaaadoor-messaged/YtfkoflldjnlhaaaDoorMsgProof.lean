import Derived.Test.YtfkoflldjnlhaaaDoorMsg
import Derived.Test.YtfkoflldjnlhaaaDoorLaid
import Derived.OpenShut
/- THE LAW ON MESSAGES: the row, proved. -/
namespace Go.Proofs.YtfkoflldjnlhaaaDoor
open Go.ChangeShapes Go.WideShapes Go.RowKit Go.Joins
open Go.ChangeMaps (setBlock shut_map_nil open_string shut_string keptBut_setBlock frozen?_setBlock heap_setBlock_same)
open Sc

theorem Tryd.cellsMsg : Tryd.prog.cellsOf 33 = 4 := by kernel_rfl

/-- the walk at any message and text -/
theorem messaged_any (k f t x : Int) (s : ByteArray) (w : World) (hx0 : 0 ≤ x) (hx1 : x < 18446744073709551616) (hg : Met w) :
    Calls Tryd.prog 4 #[.agg #[.int .i64 k, .int .i64 f, .int .i64 t, .int .u64 x], .string s] w fun e w' => e = .returned (.bool true) ∧ Below w.heap.size w w' := by
  by_cases hl : 16384 < s.size
  · exact messaged_long k f t x s w hl
  · rcases Bool.eq_false_or_eq_true (soundB k f t x) with hs | hs
    · have h : x ≠ 0 ∧ ((k = 1 ∨ k = 5 ∨ k = 6) ∧ f = 0 ∧ 1 ≤ t ∧ t ≤ 8 ∨ (k = 2 ∨ k = 3 ∨ k = 4 ∨ k = 7 ∨ k = 8) ∧ t = 0 ∧ 1 ≤ f ∧ f ≤ 8) := by
        unfold soundB at hs; exact of_decide_eq_true hs
      obtain ⟨K, rfl⟩ := Int.eq_ofNat_of_zero_le (show 0 ≤ k by omega)
      obtain ⟨F, rfl⟩ := Int.eq_ofNat_of_zero_le (show 0 ≤ f by omega)
      obtain ⟨T, rfl⟩ := Int.eq_ofNat_of_zero_le (show 0 ≤ t by omega)
      obtain ⟨X, rfl⟩ := Int.eq_ofNat_of_zero_le hx0
      exact messaged_yes K F T X s w hs (by omega) (by omega) (by omega) (by omega) (by omega) hg
    · exact messaged_no k f t x s w hs (by omega) hg

set_option maxRecDepth 100000 in
theorem messaged_lifted (os : Os) (started : os.Started) (H : Type) (enc : TypeId × Value → H) :
    ReturnsInHanded {} Tryd.checked os 4 .any (fun w args => (Rows.messagedSpec.pre enc Tryd.prog Tryd.f4 [] false w args ∧ laidMetH Tryd.prog laidL w) ∧ sizedMet enc Tryd.prog Tryd.f4 (OpenSpec.ofChange Rows.messagedSpec) false w args)
      (Rows.messagedSpec.post enc Tryd.prog Tryd.f4 false true false false) := by
  refine returnsInHanded_of_change_and (C := Tryd.checked) (X := fun w _ => laidMetH Tryd.prog laidL w) (fun _ _ _ hh h => h.of_heap hh) Tryd.own started (by kernel_rfl) Tryd.func4
    (ChangeSpec.witness_at (enc := enc) (C := Tryd.checked) (os := os) (X := fun w _ => laidMetH Tryd.prog laidL w) false (laidWorld os) #[.agg #[.int .i64 0, .int .i64 0, .int .i64 0, .int .u64 0], .string ByteArray.empty] 8 rfl (by kernel_rfl) (by kernel_rfl) (by kernel_rfl) (by kernel_rfl) (by kernel_rfl) (laidWorld_met os _)) ?_
  intro W base args ds gs before hval0 hW _ _ hL _
  have hval : ∀ (j : Nat) t v, Tryd.f4.params[j]? = some t → args[j]? = some v → Value.okWide Tryd.prog W .any base t v := hval0
  have hW' := hW
  obtain ⟨p, q, hA0, hV0, rfl, hfz, hnd⟩ := hW
  have hA : DataW.TrodAll enc Tryd.prog W 0 (fun _ => true) true Tryd.f4.params.toList args.toList ds p := hA0
  have hV : DataW.TrodVars enc Tryd.prog W (fun _ => true) [] gs q := hV0
  rw [Tryd.params4] at hA hval
  obtain ⟨v0, v1, d0, d1, p0, p1, rfl, rfl, rfl, h0, h1⟩ := trodAll_two hA
  have h0k := h0
  have h1k := h1
  obtain ⟨c0, c1, c2, c3, y0, y1, y2, y3, m, rfl, rfl, rfl, hy0, hy1, hy2, hy3⟩ := open_agg4 Tryd.underlying33 (by kernel_rfl) Tryd.cellsMsg (hval 0 33 v0 rfl rfl) h0
  obtain ⟨s, rfl, rfl, rfl, hs⟩ := open_string Tryd.underlying9 (hval 1 9 v1 rfl rfl) h1
  obtain ⟨k, e0, rfl, wk⟩ := DataW.trod_int Tryd.underlying3 hy0
  obtain ⟨f, e1, rfl, wf⟩ := DataW.trod_int Tryd.underlying3 hy1
  obtain ⟨t, e2, rfl, wt⟩ := DataW.trod_int Tryd.underlying3 hy2
  obtain ⟨x, e3, rfl, wx⟩ := DataW.trod_int Tryd.underlying27 hy3
  simp at e0 e1 e2 e3
  subst e0 e1 e2 e3
  obtain ⟨rfl, rfl⟩ : gs = [] ∧ q = [] := by
    cases gs with
    | nil => exact ⟨rfl, hV⟩
    | cons g r => exact absurd hV (by intro h; cases h)
  have hg := met_of_laid hL
  have bx := bounds_u64 wx
  have e1 : Rows.messagedSpec.fn H ([.agg [.lit (.int .i64 k), .lit (.int .i64 f), .lit (.int .i64 t), .lit (.int .u64 x)], .lit (.string s.data.toList)] ++ []) = { results := [.lit (.bool true)], args := [.agg [.lit (.int .i64 k), .lit (.int .i64 f), .lit (.int .i64 t), .lit (.int .u64 x)], .lit (.string s.data.toList)] } := by simp [Rows.messagedSpec]
  refine (messaged_any k f t x s W bx.1 (by omega) hg).mono fun e W' ⟨he, hb⟩ => ?_
  subst he
  refine ⟨_, rfl, _, _, _, [], [], [], hW', ?_, ?_, ?_, hb.frame _, fun h => by cases h⟩
  · rw [e1]; exact trodAll_mk1 (shut_bool Tryd.underlying4 true)
  · rw [e1]
    exact trodAll_mk2 (Below.trod Tryd.laidOut (by kernel_rfl) (of_decide_eq_true (by kernel_rfl)) h0k hb (by intro x hx; simp at hx)) (Below.trod Tryd.laidOut (by kernel_rfl) (of_decide_eq_true (by kernel_rfl)) h1k hb (by intro x hx; simp at hx))
  · rw [e1]; rfl

theorem messaged_holds : Rows.MessagedSaid :=
  OpenClaim.holds_of_wide 4 Tryd.f4 rfl rfl rfl rfl rfl rfl rfl ⟨rfl, rfl, rfl, rfl, rfl⟩ rfl rfl rfl rfl rfl (by kernel_rfl) Tryd.func4 (by kernel_rfl)
    (of_decide_eq_true (by kernel_rfl)) (by unfold Func.isWrapper; rw [if_neg (of_decide_eq_false (by kernel_rfl))]; exact ⟨rfl, rfl⟩)
    (fun os started H enc _ => messaged_lifted os started H enc)
end Go.Proofs.YtfkoflldjnlhaaaDoor
