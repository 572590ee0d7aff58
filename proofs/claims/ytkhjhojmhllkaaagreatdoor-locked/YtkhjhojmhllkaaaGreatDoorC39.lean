import Derived.Test.YtkhjhojmhllkaaaGreatDoorC36
import Derived.Test.YtkhjhojmhllkaaaGreatDoorC37
import Derived.Test.YtkhjhojmhllkaaaGreatDoorC38
import Derived.OpenShut
/- THE LAW Locked: the row, proved. (Written by mkrow.py.) -/
namespace Go.Proofs.YtkhjhojmhllkaaaGreatDoor
open Go.ChangeShapes Go.WideShapes Go.RowKit Go.Joins
open Sc

set_option maxRecDepth 100000 in
theorem locked_lifted (os : Os) (started : os.Started) (H : Type) (enc : TypeId × Value → H) :
    ReturnsInHanded {} Tryz.checked os 6 .any (fun w args => (Rows.lockedSpec.pre enc Tryz.prog Tryz.f6 [] false w args ∧ laidMetH Tryz.prog laidL w) ∧ sizedMet enc Tryz.prog Tryz.f6 (OpenSpec.ofChange Rows.lockedSpec) false w args)
      (Rows.lockedSpec.post enc Tryz.prog Tryz.f6 false true false false) := by
  refine returnsInHanded_of_change_and (C := Tryz.checked) (X := fun w _ => laidMetH Tryz.prog laidL w) (fun _ _ _ hh h => h.of_heap hh) Tryz.own started (by as_aux_lemma => kernel_rfl) Tryz.func6
    (ChangeSpec.witness_at (enc := enc) (C := Tryz.checked) (os := os) (X := fun w _ => laidMetH Tryz.prog laidL w) false (laidWorld os) #[.int .i64 0, .int .i64 0, .int .i64 0, .bool false, .int .i64 0] 8 rfl (by as_aux_lemma => kernel_rfl) (by as_aux_lemma => kernel_rfl) (by as_aux_lemma => kernel_rfl) (by as_aux_lemma => kernel_rfl) (by as_aux_lemma => kernel_rfl) (laidWorld_met os _)) ?_
  intro W base args ds gs before hval0 hW _ _ hL _
  have hval : ∀ (j : Nat) t v, Tryz.f6.params[j]? = some t → args[j]? = some v → Value.okWide Tryz.prog W .any base t v := hval0
  have hW' := hW
  obtain ⟨p, q, hA0, hV0, rfl, hfz, hnd⟩ := hW
  have hA : DataW.TrodAll enc Tryz.prog W 0 (fun _ => true) true Tryz.f6.params.toList args.toList ds p := hA0
  have hV : DataW.TrodVars enc Tryz.prog W (fun _ => true) [] gs q := hV0
  rw [Tryz.params6] at hA hval
  obtain ⟨v0, vs0, d0, ds0, p0, q0, hargs, rfl, rfl, h0, r0⟩ := trodAll_cons hA
  obtain ⟨v1, vs1, d1, ds1, p1, q1, rfl, rfl, rfl, h1, r1⟩ := trodAll_cons r0
  obtain ⟨v2, vs2, d2, ds2, p2, q2, rfl, rfl, rfl, h2, r2⟩ := trodAll_cons r1
  obtain ⟨v3, vs3, d3, ds3, p3, q3, rfl, rfl, rfl, h3, r3⟩ := trodAll_cons r2
  obtain ⟨v4, vs4, d4, ds4, p4, q4, rfl, rfl, rfl, h4, r4⟩ := trodAll_cons r3
  obtain ⟨rfl, rfl, rfl⟩ := trodAll_nil r4
  obtain rfl : args = #[v0, v1, v2, v3, v4] := by apply Array.ext'; simpa using hargs
  obtain ⟨rfl, rfl⟩ : gs = [] ∧ q = [] := by
    cases gs with
    | nil => exact ⟨rfl, hV⟩
    | cons g r => exact absurd hV (by intro h; cases h)
  have h0k := h0
  have h1k := h1
  have h2k := h2
  have h3k := h3
  have h4k := h4
  obtain ⟨x0, rfl, rfl, rfl, wx0⟩ := open_int Tryz.underlying3 (hval 0 3 v0 rfl rfl) h0
  obtain ⟨x1, rfl, rfl, rfl, wx1⟩ := open_int Tryz.underlying3 (hval 1 3 v1 rfl rfl) h1
  obtain ⟨x2, rfl, rfl, rfl, wx2⟩ := open_int Tryz.underlying3 (hval 2 3 v2 rfl rfl) h2
  obtain ⟨x3, rfl, rfl, rfl⟩ := open_bool Tryz.underlying4 (hval 3 4 v3 rfl rfl) h3
  obtain ⟨x4, rfl, rfl, rfl, wx4⟩ := open_int Tryz.underlying3 (hval 4 3 v4 rfl rfl) h4
  simp only [List.append_nil] at hW'
  have hg := met_of_laid hL
  obtain ⟨hpow, hB⟩ := pows_of_laid hL
  have b0 := bounds_i64 wx0
  have b1 := bounds_i64 wx1
  have b2 := bounds_i64 wx2
  have b4 := bounds_i64 wx4
  have e1 : Rows.lockedSpec.fn H ([.lit (.int .i64 x0), .lit (.int .i64 x1), .lit (.int .i64 x2), .lit (.bool x3), .lit (.int .i64 x4)] ++ []) = { results := [.lit (.bool true)], args := [.lit (.int .i64 x0), .lit (.int .i64 x1), .lit (.int .i64 x2), .lit (.bool x3), .lit (.int .i64 x4)] } := by simp [Rows.lockedSpec]
  refine (locked_any x0 x1 x2 x4 x3 W hg hpow hB ⟨by omega, by omega⟩ ⟨by omega, by omega⟩ ⟨by omega, by omega⟩).mono fun e W' ⟨he, hb⟩ => ?_
  subst he
  refine ⟨_, rfl, _, _, _, [], [], [], (by simpa using hW'), ?_, ?_, ?_, hb.frame _, fun h => by cases h⟩
  · rw [e1]; exact trodAll_mk1 (shut_bool Tryz.underlying4 true)
  · rw [e1]
    exact ⟨[], [], Below.trod Tryz.laidOut (by as_aux_lemma => kernel_rfl) (of_decide_eq_true (by as_aux_lemma => kernel_rfl)) h0k hb (by intro x hx; simp at hx), ⟨[], [], Below.trod Tryz.laidOut (by as_aux_lemma => kernel_rfl) (of_decide_eq_true (by as_aux_lemma => kernel_rfl)) h1k hb (by intro x hx; simp at hx), ⟨[], [], Below.trod Tryz.laidOut (by as_aux_lemma => kernel_rfl) (of_decide_eq_true (by as_aux_lemma => kernel_rfl)) h2k hb (by intro x hx; simp at hx), ⟨[], [], Below.trod Tryz.laidOut (by as_aux_lemma => kernel_rfl) (of_decide_eq_true (by as_aux_lemma => kernel_rfl)) h3k hb (by intro x hx; simp at hx), ⟨[], [], Below.trod Tryz.laidOut (by as_aux_lemma => kernel_rfl) (of_decide_eq_true (by as_aux_lemma => kernel_rfl)) h4k hb (by intro x hx; simp at hx), trodAll_mk0, rfl⟩, rfl⟩, rfl⟩, rfl⟩, rfl⟩
  · rw [e1]; rfl

set_option maxRecDepth 100000 in
theorem locked_closed : joinedFacts Tryz.prog 6 Tryz.f6 Rows.lockedSpec Rows.lockedRow = true := by
  unfold joinedFacts
  exact kband (kband (kband (kband (kband (kband (kband (kband (kband (kband (kband (kband (kband (kband (kband (kband (kband (kband (kband (kband (kband (kband (kband (kband (kband (kband (kband (kband (kband (kband (kband kf01 kf02) kf03) kf04) kf05) kf06) kf07) kf08) kf09) kf10) kf11) kf12) kf13) kf14) kf15) kf16) kf17) kf18) kf19) kf20) kf21) kf22) kf23) kf24) kf25) kf26) kf27) kf28) kf29) kf30) kf31) kf32
set_option maxRecDepth 100000 in
theorem locked_named : Tryz.pinned.checked.prog.funcNamed Rows.lockedRow.func = some 6 := by kernel_rfl
set_option maxRecDepth 100000 in
theorem locked_inst : Tryz.f6.isInstance Tryz.pinned.checked.prog Rows.lockedRow.origin Rows.lockedRow.targs := of_decide_eq_true (by kernel_rfl)
set_option maxRecDepth 100000 in
theorem locked_wrap : Tryz.f6.isWrapper Tryz.pinned.checked.prog Rows.lockedRow.wrapper Rows.lockedRow.mainSum := by
  unfold Func.isWrapper; rw [if_neg (of_decide_eq_false (by kernel_rfl))]; exact ⟨rfl, rfl⟩
set_option maxRecDepth 100000 in
theorem locked_holds : Rows.LockedSaid :=
  OpenClaim.holds_of_wide 6 Tryz.f6 rfl rfl rfl rfl rfl rfl rfl ⟨rfl, rfl, rfl, rfl, rfl⟩ rfl rfl rfl rfl rfl locked_named Tryz.func6 locked_closed locked_inst locked_wrap
    (fun os started H enc _ => locked_lifted os started H enc)
end Go.Proofs.YtkhjhojmhllkaaaGreatDoor
