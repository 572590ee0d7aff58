import Derived.Test.YtkhjhojmhllkaaaGreatDoorC35
import Derived.Test.YtkhjhojmhllkaaaGreatDoorC36
import Derived.Test.YtkhjhojmhllkaaaGreatDoorC37
import Derived.OpenShut
/- THE LAW Unseen: the row, proved. (Written by mkrow.py.) -/
namespace Go.Proofs.YtkhjhojmhllkaaaGreatDoor
open Go.ChangeShapes Go.WideShapes Go.RowKit Go.Joins
open Sc

set_option maxRecDepth 100000 in
theorem unseen_lifted (os : Os) (started : os.Started) (H : Type) (enc : TypeId × Value → H) :
    ReturnsInHanded {} Tryz.checked os 7 .any (fun w args => (Rows.unseenSpec.pre enc Tryz.prog Tryz.f7 [] false w args ∧ laidMetH Tryz.prog laidL w) ∧ sizedMet enc Tryz.prog Tryz.f7 (OpenSpec.ofChange Rows.unseenSpec) false w args)
      (Rows.unseenSpec.post enc Tryz.prog Tryz.f7 false true false false) := by
  refine returnsInHanded_of_change_and (C := Tryz.checked) (X := fun w _ => laidMetH Tryz.prog laidL w) (fun _ _ _ hh h => h.of_heap hh) Tryz.own started (by as_aux_lemma => kernel_rfl) Tryz.func7
    (ChangeSpec.witness_at (enc := enc) (C := Tryz.checked) (os := os) (X := fun w _ => laidMetH Tryz.prog laidL w) false (laidWorld os) #[.int .i64 0, .bool false, .int .i64 0, .int .i64 0] 8 rfl (by as_aux_lemma => kernel_rfl) (by as_aux_lemma => kernel_rfl) (by as_aux_lemma => kernel_rfl) (by as_aux_lemma => kernel_rfl) (by as_aux_lemma => kernel_rfl) (laidWorld_met os _)) ?_
  intro W base args ds gs before hval0 hW _ _ hL _
  have hval : ∀ (j : Nat) t v, Tryz.f7.params[j]? = some t → args[j]? = some v → Value.okWide Tryz.prog W .any base t v := hval0
  have hW' := hW
  obtain ⟨p, q, hA0, hV0, rfl, hfz, hnd⟩ := hW
  have hA : DataW.TrodAll enc Tryz.prog W 0 (fun _ => true) true Tryz.f7.params.toList args.toList ds p := hA0
  have hV : DataW.TrodVars enc Tryz.prog W (fun _ => true) [] gs q := hV0
  rw [Tryz.params7] at hA hval
  obtain ⟨v0, vs0, d0, ds0, p0, q0, hargs, rfl, rfl, h0, r0⟩ := trodAll_cons hA
  obtain ⟨v1, vs1, d1, ds1, p1, q1, rfl, rfl, rfl, h1, r1⟩ := trodAll_cons r0
  obtain ⟨v2, vs2, d2, ds2, p2, q2, rfl, rfl, rfl, h2, r2⟩ := trodAll_cons r1
  obtain ⟨v3, vs3, d3, ds3, p3, q3, rfl, rfl, rfl, h3, r3⟩ := trodAll_cons r2
  obtain ⟨rfl, rfl, rfl⟩ := trodAll_nil r3
  obtain rfl : args = #[v0, v1, v2, v3] := by apply Array.ext'; simpa using hargs
  obtain ⟨rfl, rfl⟩ : gs = [] ∧ q = [] := by
    cases gs with
    | nil => exact ⟨rfl, hV⟩
    | cons g r => exact absurd hV (by intro h; cases h)
  have h0k := h0
  have h1k := h1
  have h2k := h2
  have h3k := h3
  obtain ⟨x0, rfl, rfl, rfl, wx0⟩ := open_int Tryz.underlying3 (hval 0 3 v0 rfl rfl) h0
  obtain ⟨x1, rfl, rfl, rfl⟩ := open_bool Tryz.underlying4 (hval 1 4 v1 rfl rfl) h1
  obtain ⟨x2, rfl, rfl, rfl, wx2⟩ := open_int Tryz.underlying3 (hval 2 3 v2 rfl rfl) h2
  obtain ⟨x3, rfl, rfl, rfl, wx3⟩ := open_int Tryz.underlying3 (hval 3 3 v3 rfl rfl) h3
  simp only [List.append_nil] at hW'
  have hg := met_of_laid hL
  obtain ⟨hpow, hB⟩ := pows_of_laid hL
  have b0 := bounds_i64 wx0
  have b2 := bounds_i64 wx2
  have b3 := bounds_i64 wx3
  have e1 : Rows.unseenSpec.fn H ([.lit (.int .i64 x0), .lit (.bool x1), .lit (.int .i64 x2), .lit (.int .i64 x3)] ++ []) = { results := [.lit (.bool true)], args := [.lit (.int .i64 x0), .lit (.bool x1), .lit (.int .i64 x2), .lit (.int .i64 x3)] } := by simp [Rows.unseenSpec]
  refine (unseen_any x0 x2 x3 x1 W hg hpow hB ⟨by omega, by omega⟩ ⟨by omega, by omega⟩).mono fun e W' ⟨he, hb⟩ => ?_
  subst he
  refine ⟨_, rfl, _, _, _, [], [], [], (by simpa using hW'), ?_, ?_, ?_, hb.frame _, fun h => by cases h⟩
  · rw [e1]; exact trodAll_mk1 (shut_bool Tryz.underlying4 true)
  · rw [e1]
    exact ⟨[], [], Below.trod Tryz.laidOut (by as_aux_lemma => kernel_rfl) (of_decide_eq_true (by as_aux_lemma => kernel_rfl)) h0k hb (by intro x hx; simp at hx), ⟨[], [], Below.trod Tryz.laidOut (by as_aux_lemma => kernel_rfl) (of_decide_eq_true (by as_aux_lemma => kernel_rfl)) h1k hb (by intro x hx; simp at hx), ⟨[], [], Below.trod Tryz.laidOut (by as_aux_lemma => kernel_rfl) (of_decide_eq_true (by as_aux_lemma => kernel_rfl)) h2k hb (by intro x hx; simp at hx), ⟨[], [], Below.trod Tryz.laidOut (by as_aux_lemma => kernel_rfl) (of_decide_eq_true (by as_aux_lemma => kernel_rfl)) h3k hb (by intro x hx; simp at hx), trodAll_mk0, rfl⟩, rfl⟩, rfl⟩, rfl⟩
  · rw [e1]; rfl

set_option maxRecDepth 100000 in
theorem unseen_closed : joinedFacts Tryz.prog 7 Tryz.f7 Rows.unseenSpec Rows.unseenRow = true := by
  unfold joinedFacts
  exact uband (uband (uband (uband (uband (uband (uband (uband (uband (uband (uband (uband (uband (uband (uband (uband (uband (uband (uband (uband (uband (uband (uband (uband (uband (uband (uband (uband (uband (uband (uband uf01 uf02) uf03) uf04) uf05) uf06) uf07) uf08) uf09) uf10) uf11) uf12) uf13) uf14) uf15) uf16) uf17) uf18) uf19) uf20) uf21) uf22) uf23) uf24) uf25) uf26) uf27) uf28) uf29) uf30) uf31) uf32
set_option maxRecDepth 100000 in
theorem unseen_named : Tryz.pinned.checked.prog.funcNamed Rows.unseenRow.func = some 7 := by kernel_rfl
set_option maxRecDepth 100000 in
theorem unseen_inst : Tryz.f7.isInstance Tryz.pinned.checked.prog Rows.unseenRow.origin Rows.unseenRow.targs := of_decide_eq_true (by kernel_rfl)
set_option maxRecDepth 100000 in
theorem unseen_wrap : Tryz.f7.isWrapper Tryz.pinned.checked.prog Rows.unseenRow.wrapper Rows.unseenRow.mainSum := by
  unfold Func.isWrapper; rw [if_neg (of_decide_eq_false (by kernel_rfl))]; exact ⟨rfl, rfl⟩
set_option maxRecDepth 100000 in
theorem unseen_holds : Rows.UnseenSaid :=
  OpenClaim.holds_of_wide 7 Tryz.f7 rfl rfl rfl rfl rfl rfl rfl ⟨rfl, rfl, rfl, rfl, rfl⟩ rfl rfl rfl rfl rfl unseen_named Tryz.func7 unseen_closed unseen_inst unseen_wrap
    (fun os started H enc _ => unseen_lifted os started H enc)
end Go.Proofs.YtkhjhojmhllkaaaGreatDoor
