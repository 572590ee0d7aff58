import Derived.Test.YtejiankgafjppabGreatDoorC49
import Derived.Test.YtejiankgafjppabGreatDoorTie
import Derived.Test.YtejiankgafjppabGreatDoorCards
import Derived.SevenTiedAt
/- THE LAW Presumed: the tied card. -/
namespace Go.Proofs.YtejiankgafjppabGreatDoor
open Go

set_option maxRecDepth 100000
theorem pc1 : Rows.presumedRow.wfByText (OpenSpec.ofChange Rows.presumedSpec) = true := by kernel_rfl
theorem pc2 : Tryz.pinned.checked.prog.mainIs = some (true, "67483e4f08d67a49f1c08f9348a1e35df82bff6c835a66dc95f7dd9e35e95739".toList) := by kernel_rfl
theorem pc3 : Tryz.prog.funcNamed "shardcommit/shardcommitkeep.Presumed" = some 4 := by kernel_rfl
theorem pc4 : true = Tryz.pinned.checked.prog.looks [] := by kernel_rfl
theorem pc5 : Tryz.prog.wantsStandIn 3 = false := by kernel_rfl
theorem pc7 : Tryz.prog.wantsStandIn 44 = false := by kernel_rfl
theorem pc6 : true = Rows.presumedRow.goesBy Tryz.pinned.checked.prog := by kernel_rfl
theorem pc8 (f : FuncId) (fn : Func) (hf : Tryz.pinned.checked.prog.funcNamed Rows.presumedRow.func = some f) (hfn : Tryz.pinned.checked.prog.funcs[f]? = some fn) : true = Tryz.pinned.checked.prog.looks [] ∧ ∀ (j : Nat) t, fn.params[j]? = some t → Tryz.pinned.checked.prog.wantsStandIn t = false := by
  obtain rfl : f = 4 := Option.some.inj (pc3.symm.trans hf) |>.symm
  obtain rfl : fn = Tryz.f4 := (Option.some.inj (Tryz.func4.symm.trans hfn)).symm
  refine ⟨pc4, fun j t ht => ?_⟩
  rw [Tryz.params4] at ht
  rcases j with _ | (_ | (_ | (_ | j)))
  · obtain rfl : t = 44 := by simpa using ht.symm
    exact pc7
  · obtain rfl : t = 44 := by simpa using ht.symm
    exact pc7
  · obtain rfl : t = 3 := by simpa using ht.symm
    exact pc5
  · obtain rfl : t = 3 := by simpa using ht.symm
    exact pc5
  · simp at ht
theorem presumed_card_holds : Rows.PresumedCardSaid :=
  ⟨Claim7.tied_new_at .later [.data, .data, .data, .handle, .sentinel, .sentinel] true (Claim7.new_of_sixth presumed_holds (true, "67483e4f08d67a49f1c08f9348a1e35df82bff6c835a66dc95f7dd9e35e95739") true rfl ⟨rfl, rfl⟩ pc2 (by simp [Claim7.isSixth]) pc8) pc1, (fun _ h => by cases h), presumed_row_tie, (fun h => by cases h), pc6⟩
#print axioms presumed_card_holds
end Go.Proofs.YtejiankgafjppabGreatDoor
