import Derived.Test.YtejiankgafjppaaGreatDoorC40
import Derived.Test.YtejiankgafjppaaGreatDoorC48
import Derived.Test.YtejiankgafjppaaGreatDoorC49
import Derived.Test.YtejiankgafjppaaGreatDoorC50
/- THE LAW Sharded: the row, proved. -/
namespace Go.Proofs.YtejiankgafjppaaGreatDoor
open Go.ChangeShapes Go.WideShapes Go.RowKit Go.Joins
open Go.ChangeMaps (setBlock shut_map_nil open_string shut_string keptBut_setBlock frozen?_setBlock heap_setBlock_same)
open Sc

set_option maxRecDepth 100000 in
theorem sharded_lifted (os : Os) (started : os.Started) (H : Type) (enc : TypeId × Value → H) :
    ReturnsInHanded {} Tryz.checked os 5 .any (fun w args => (Rows.shardedSpec.pre enc Tryz.prog Tryz.f5 [] false w args ∧ laidMetH Tryz.prog laidL w) ∧ sizedMet enc Tryz.prog Tryz.f5 (OpenSpec.ofChange Rows.shardedSpec) false w args)
      (Rows.shardedSpec.post enc Tryz.prog Tryz.f5 false true false false) := by
  refine returnsInHanded_of_change_and (C := Tryz.checked) (X := fun w _ => laidMetH Tryz.prog laidL w) (fun _ _ _ hh h => h.of_heap hh) Tryz.own started (by as_aux_lemma => kernel_rfl) Tryz.func5
    (ChangeSpec.witness_at (enc := enc) (C := Tryz.checked) (os := os) (X := fun w _ => laidMetH Tryz.prog laidL w) false (laidWorld os) #[.slice none 0 0] 8 rfl (by as_aux_lemma => kernel_rfl) (by as_aux_lemma => kernel_rfl) (by as_aux_lemma => kernel_rfl) (by as_aux_lemma => kernel_rfl) (by as_aux_lemma => kernel_rfl) (laidWorld_met os _)) ?_
  intro W base args ds gs before hval0 hW _ hz hL _
  have hval : ∀ (j : Nat) t v, Tryz.f5.params[j]? = some t → args[j]? = some v → Value.okWide Tryz.prog W .any base t v := hval0
  have hW' := hW
  obtain ⟨p, q, hA0, hV0, rfl, hfz, hnd⟩ := hW
  have hA : DataW.TrodAll enc Tryz.prog W 0 (fun _ => true) true Tryz.f5.params.toList args.toList ds p := hA0
  have hV : DataW.TrodVars enc Tryz.prog W (fun _ => true) [] gs q := hV0
  rw [Tryz.params5] at hA hval
  obtain ⟨v0, d0, rfl, rfl, h0⟩ := trodAll_one hA
  have h0k := h0
  obtain ⟨rfl, rfl⟩ : gs = [] ∧ q = [] := by
    cases gs with
    | nil => exact ⟨rfl, hV⟩
    | cons g r => exact absurd hV (by intro h; cases h)
  have hv := okWide_slice Tryz.underlying22 (hval 0 22 v0 rfl rfl)
  have hz' : (DataW.weightsEach Tryz.prog [22] [d0]).all (· ≤ reachBytes) = true := hz
  obtain ⟨L, hst, hbnd⟩ := steps_ofB h0 hv hz'
  simp only [List.append_nil] at hW'
  have hlt0 : ∀ x ∈ p, x.block < W.heap.size := fun x hx => hW'.lt x hx
  have hg := met_of_laid hL
  obtain ⟨hpow, hB⟩ := pows_of_laid hL
  have e1 : Rows.shardedSpec.fn H ([d0] ++ []) = { results := [.lit (.bool true)], args := [d0] } := by simp [Rows.shardedSpec]
  refine (sharded_any v0 L W hst hbnd hg hpow hB).mono fun e W' ⟨he, hb⟩ => ?_
  subst he
  refine ⟨_, rfl, _, _, _, [], p, [], (by simpa using hW'), ?_, ?_, ?_, hb.frame _, fun h => by cases h⟩
  · rw [e1]; exact trodAll_mk1 (shut_bool Tryz.underlying4 true)
  · rw [e1]
    exact trodAll_mk1 (Below.trod Tryz.laidOut (by as_aux_lemma => kernel_rfl) (of_decide_eq_true (by as_aux_lemma => kernel_rfl)) h0k hb hlt0)
  · rw [e1]; rfl

set_option maxRecDepth 100000 in
theorem sharded_closed : joinedFacts Tryz.prog 5 Tryz.f5 Rows.shardedSpec Rows.shardedRow = true := by
  unfold joinedFacts
  exact qband (qband (qband (qband (qband (qband (qband (qband (qband (qband (qband (qband (qband (qband (qband (qband (qband (qband (qband (qband (qband (qband (qband (qband (qband (qband (qband (qband (qband (qband (qband qf01 qf02) qf03) qf04) qf05) qf06) qf07) qf08) qf09) qf10) qf11) qf12) qf13) qf14) qf15) qf16) qf17) qf18) qf19) qf20) qf21) qf22) qf23) qf24) qf25) qf26) qf27) qf28) qf29) qf30) qf31) qf32
set_option maxRecDepth 100000 in
theorem sharded_named : Tryz.pinned.checked.prog.funcNamed Rows.shardedRow.func = some 5 := by kernel_rfl
set_option maxRecDepth 100000 in
theorem sharded_inst : Tryz.f5.isInstance Tryz.pinned.checked.prog Rows.shardedRow.origin Rows.shardedRow.targs := of_decide_eq_true (by kernel_rfl)
set_option maxRecDepth 100000 in
theorem sharded_wrap : Tryz.f5.isWrapper Tryz.pinned.checked.prog Rows.shardedRow.wrapper Rows.shardedRow.mainSum := by
  unfold Func.isWrapper; rw [if_neg (of_decide_eq_false (by kernel_rfl))]; exact ⟨rfl, rfl⟩
set_option maxRecDepth 100000 in
theorem sharded_holds : Rows.ShardedSaid :=
  OpenClaim.holds_of_wide 5 Tryz.f5 rfl rfl rfl rfl rfl rfl rfl ⟨rfl, rfl, rfl, rfl, rfl⟩ rfl rfl rfl rfl rfl sharded_named Tryz.func5 sharded_closed sharded_inst sharded_wrap
    (fun os started H enc _ => sharded_lifted os started H enc)
end Go.Proofs.YtejiankgafjppaaGreatDoor
