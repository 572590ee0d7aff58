import Derived.Test.YtbdhmkfdofkloaaGreatDoorC42
import Derived.Test.YtbdhmkfdofkloaaGreatDoorTie
import Derived.Test.YtbdhmkfdofkloaaGreatDoorCards
import Derived.SevenTiedAt
/- THE LAW Kept: the tied card. -/
namespace Go.Proofs.YtbdhmkfdofkloaaGreatDoor
open Go

set_option maxRecDepth 100000
theorem kc1 : Rows.keptRow.wfByText (OpenSpec.ofChange Rows.keptSpec) = true := by kernel_rfl
theorem kc2 : Tryz.pinned.checked.prog.mainIs = some (true, "d755f3e34c93a92172081e4184fe0af71f51a2a06601b601d0e8c6efd0dd96b6".toList) := by kernel_rfl
theorem kc3 : Tryz.prog.funcNamed "shardcommit/shardcommitkeep.Kept" = some 4 := by kernel_rfl
theorem kc4 : true = Tryz.pinned.checked.prog.looks [] := by kernel_rfl
theorem kc5 : Tryz.prog.wantsStandIn 3 = false := by kernel_rfl
theorem kc7 : Tryz.prog.wantsStandIn 26 = false := by kernel_rfl
theorem kc9 : Tryz.prog.wantsStandIn 25 = false := by kernel_rfl
theorem kc6 : false = Rows.keptRow.goesBy Tryz.pinned.checked.prog := by kernel_rfl
theorem kc8 (f : FuncId) (fn : Func) (hf : Tryz.pinned.checked.prog.funcNamed Rows.keptRow.func = some f) (hfn : Tryz.pinned.checked.prog.funcs[f]? = some fn) : true = Tryz.pinned.checked.prog.looks [] ∧ ∀ (j : Nat) t, fn.params[j]? = some t → Tryz.pinned.checked.prog.wantsStandIn t = false := by
  obtain rfl : f = 4 := Option.some.inj (kc3.symm.trans hf) |>.symm
  obtain rfl : fn = Tryz.f4 := (Option.some.inj (Tryz.func4.symm.trans hfn)).symm
  refine ⟨kc4, fun j t ht => ?_⟩
  rw [Tryz.params4] at ht
  rcases j with _ | (_ | (_ | (_ | j)))
  · obtain rfl : t = 25 := by simpa using ht.symm
    exact kc9
  · obtain rfl : t = 26 := by simpa using ht.symm
    exact kc7
  · obtain rfl : t = 3 := by simpa using ht.symm
    exact kc5
  · obtain rfl : t = 3 := by simpa using ht.symm
    exact kc5
  · simp at ht
theorem kept_card_holds : Rows.KeptCardSaid :=
  ⟨Claim7.tied_new_at .later [.data, .data, .data, .handle, .sentinel, .sentinel] true (Claim7.new_of_sixth kept_holds (true, "d755f3e34c93a92172081e4184fe0af71f51a2a06601b601d0e8c6efd0dd96b6") true rfl ⟨rfl, rfl⟩ kc2 (by simp [Claim7.isSixth]) kc8) kc1, (fun _ h => by cases h), kept_row_tie, (fun h => by cases h), kc6⟩
#print axioms kept_card_holds
end Go.Proofs.YtbdhmkfdofkloaaGreatDoor
