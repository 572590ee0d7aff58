import Derived.Test.YtkhjhojmhllkaaaGreatDoorC38
import Derived.Test.YtkhjhojmhllkaaaGreatDoorTie
import Derived.Test.YtkhjhojmhllkaaaGreatDoorCards
import Derived.SevenTiedAt
/- THE LAW ON A LOG OVER A DISK THAT IS WELL: the tied card. -/
namespace Go.Proofs.YtkhjhojmhllkaaaGreatDoor
open Go

set_option maxRecDepth 100000
theorem uc1 : Rows.unseenRow.wfByText (OpenSpec.ofChange Rows.unseenSpec) = true := by kernel_rfl
theorem uc2 : Tryz.pinned.checked.prog.mainIs = some (true, "cf1e26aa8b59cd2cddb56d3ee477ef01ddcd980066bc16c37255d9a0cad2653c".toList) := by kernel_rfl
theorem uc3 : Tryz.prog.funcNamed "shardcommit/shardcommitkeep.Unseen" = some 7 := by kernel_rfl
theorem uc4 : true = Tryz.pinned.checked.prog.looks [] := by kernel_rfl
theorem uc5 : Tryz.prog.wantsStandIn 3 = false := by kernel_rfl
theorem uc7 : Tryz.prog.wantsStandIn 4 = false := by kernel_rfl
theorem uc6 : false = Rows.unseenRow.goesBy Tryz.pinned.checked.prog := by kernel_rfl
theorem unseen_card_holds : Rows.UnseenCardSaid :=
  Claim7.holds_tied_plain_at .later [] [.data, .data, .data, .handle, .sentinel, .sentinel] true (true, "cf1e26aa8b59cd2cddb56d3ee477ef01ddcd980066bc16c37255d9a0cad2653c") true
    unseen_holds (fun _ h => by cases h) uc1 (fun _ h => by cases h) unseen_row_tie rfl ⟨rfl, rfl⟩ uc2 rfl
    (fun f fn hf hfn => by
      obtain rfl : f = 7 := Option.some.inj (uc3.symm.trans hf) |>.symm
      obtain rfl : fn = Tryz.f7 := (Option.some.inj (Tryz.func7.symm.trans hfn)).symm
      exact ⟨uc4, fun j t ht => by
        rw [Tryz.params7] at ht
        rcases j with _ | (_ | (_ | (_ | j)))
        · obtain rfl : t = 3 := by simpa using ht.symm
          exact uc5
        · obtain rfl : t = 4 := by simpa using ht.symm
          exact uc7
        · obtain rfl : t = 3 := by simpa using ht.symm
          exact uc5
        · obtain rfl : t = 3 := by simpa using ht.symm
          exact uc5
        · simp at ht⟩)
    uc6
#print axioms unseen_card_holds
end Go.Proofs.YtkhjhojmhllkaaaGreatDoor
