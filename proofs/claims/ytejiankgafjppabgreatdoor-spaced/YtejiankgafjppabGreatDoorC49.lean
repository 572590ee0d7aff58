import Derived.Test.YtejiankgafjppabGreatDoorC48
import Derived.Test.YtejiankgafjppabGreatDoorTie
import Derived.Test.YtejiankgafjppabGreatDoorCards
import Derived.SevenTiedAt
/- THE LAW Spaced: the tied card. -/
namespace Go.Proofs.YtejiankgafjppabGreatDoor
open Go

set_option maxRecDepth 100000
theorem sc1 : Rows.spacedRow.wfByText (OpenSpec.ofChange Rows.spacedSpec) = true := by kernel_rfl
theorem sc2 : Tryz.pinned.checked.prog.mainIs = some (true, "67483e4f08d67a49f1c08f9348a1e35df82bff6c835a66dc95f7dd9e35e95739".toList) := by kernel_rfl
theorem sc3 : Tryz.prog.funcNamed "shardcommit/shardcommitkeep.Spaced" = some 3 := by kernel_rfl
theorem sc4 : true = Tryz.pinned.checked.prog.looks [] := by kernel_rfl
theorem sc5 : Tryz.prog.wantsStandIn 3 = false := by kernel_rfl
theorem sc6 : true = Rows.spacedRow.goesBy Tryz.pinned.checked.prog := by kernel_rfl
theorem sc8 (f : FuncId) (fn : Func) (hf : Tryz.pinned.checked.prog.funcNamed Rows.spacedRow.func = some f) (hfn : Tryz.pinned.checked.prog.funcs[f]? = some fn) : true = Tryz.pinned.checked.prog.looks [] ∧ ∀ (j : Nat) t, fn.params[j]? = some t → Tryz.pinned.checked.prog.wantsStandIn t = false := by
  obtain rfl : f = 3 := Option.some.inj (sc3.symm.trans hf) |>.symm
  obtain rfl : fn = Tryz.f3 := (Option.some.inj (Tryz.func3.symm.trans hfn)).symm
  refine ⟨sc4, fun j t ht => ?_⟩
  rw [Tryz.params3] at ht
  rcases j with _ | (_ | (_ | j))
  · obtain rfl : t = 3 := by simpa using ht.symm
    exact sc5
  · obtain rfl : t = 3 := by simpa using ht.symm
    exact sc5
  · obtain rfl : t = 3 := by simpa using ht.symm
    exact sc5
  · simp at ht
theorem spaced_card_holds : Rows.SpacedCardSaid :=
  ⟨Claim7.tied_new_at .later [.data, .data, .data, .handle, .sentinel, .sentinel] true (Claim7.new_of_sixth spaced_holds (true, "67483e4f08d67a49f1c08f9348a1e35df82bff6c835a66dc95f7dd9e35e95739") true rfl ⟨rfl, rfl⟩ sc2 (by simp [Claim7.isSixth]) sc8) sc1, (fun _ h => by cases h), spaced_row_tie, (fun h => by cases h), sc6⟩
#print axioms spaced_card_holds
end Go.Proofs.YtejiankgafjppabGreatDoor
