import Derived.Test.YtbdhmkfdofkloaaGreatDoorC48
import Derived.Test.YtbdhmkfdofkloaaGreatDoorTie
import Derived.Test.YtbdhmkfdofkloaaGreatDoorCards
import Derived.SevenTiedAt
/- THE LAW LogFallen: the tied card. -/
namespace Go.Proofs.YtbdhmkfdofkloaaGreatDoor
open Go

set_option maxRecDepth 100000
theorem fc1 : Rows.logFallenRow.wfByText (OpenSpec.ofChange Rows.logFallenSpec) = true := by kernel_rfl
theorem fc2 : Tryz.pinned.checked.prog.mainIs = some (true, "d755f3e34c93a92172081e4184fe0af71f51a2a06601b601d0e8c6efd0dd96b6".toList) := by kernel_rfl
theorem fc3 : Tryz.prog.funcNamed "shardcommit/shardcommitlaw.LogFallen" = some 3 := by kernel_rfl
theorem fc4 : true = Tryz.pinned.checked.prog.looks [] := by kernel_rfl
theorem fc5 : Tryz.prog.wantsStandIn 22 = false := by kernel_rfl
theorem fc6 : false = Rows.logFallenRow.goesBy Tryz.pinned.checked.prog := by kernel_rfl
theorem logFallen_card_holds : Rows.LogFallenCardSaid :=
  Claim7.holds_tied_plain_at .later [] [.data, .data, .data, .handle, .sentinel, .sentinel] true (true, "d755f3e34c93a92172081e4184fe0af71f51a2a06601b601d0e8c6efd0dd96b6") true
    logFallen_holds (fun _ h => by cases h) fc1 (fun _ h => by cases h) logFallen_row_tie rfl ⟨rfl, rfl⟩ fc2 rfl
    (fun f fn hf hfn => by
      obtain rfl : f = 3 := Option.some.inj (fc3.symm.trans hf) |>.symm
      obtain rfl : fn = Tryz.f3 := (Option.some.inj (Tryz.func3.symm.trans hfn)).symm
      exact ⟨fc4, fun j t ht => by
        rw [Tryz.params3] at ht
        rcases j with _ | j
        · obtain rfl : t = 22 := by simpa using ht.symm
          exact fc5
        · simp at ht⟩)
    fc6
#print axioms logFallen_card_holds
end Go.Proofs.YtbdhmkfdofkloaaGreatDoor
