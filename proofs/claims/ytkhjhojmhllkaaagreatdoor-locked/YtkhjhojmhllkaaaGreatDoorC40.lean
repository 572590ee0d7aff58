import Derived.Test.YtkhjhojmhllkaaaGreatDoorC39
import Derived.Test.YtkhjhojmhllkaaaGreatDoorTie
import Derived.Test.YtkhjhojmhllkaaaGreatDoorCards
import Derived.SevenTiedAt
/- THE LAW ON A LOG OVER A DISK THAT IS WELL: the tied card. -/
namespace Go.Proofs.YtkhjhojmhllkaaaGreatDoor
open Go

set_option maxRecDepth 100000
theorem kc1 : Rows.lockedRow.wfByText (OpenSpec.ofChange Rows.lockedSpec) = true := by kernel_rfl
theorem kc2 : Tryz.pinned.checked.prog.mainIs = some (true, "cf1e26aa8b59cd2cddb56d3ee477ef01ddcd980066bc16c37255d9a0cad2653c".toList) := by kernel_rfl
theorem kc3 : Tryz.prog.funcNamed "shardcommit/shardcommitkeep.Locked" = some 6 := by kernel_rfl
theorem kc4 : true = Tryz.pinned.checked.prog.looks [] := by kernel_rfl
theorem kc5 : Tryz.prog.wantsStandIn 3 = false := by kernel_rfl
theorem kc7 : Tryz.prog.wantsStandIn 4 = false := by kernel_rfl
theorem kc6 : false = Rows.lockedRow.goesBy Tryz.pinned.checked.prog := by kernel_rfl
theorem locked_card_holds : Rows.LockedCardSaid :=
  Claim7.holds_tied_plain_at .later [] [.data, .data, .data, .handle, .sentinel, .sentinel] true (true, "cf1e26aa8b59cd2cddb56d3ee477ef01ddcd980066bc16c37255d9a0cad2653c") true
    locked_holds (fun _ h => by cases h) kc1 (fun _ h => by cases h) locked_row_tie rfl ⟨rfl, rfl⟩ kc2 rfl
    (fun f fn hf hfn => by
      obtain rfl : f = 6 := Option.some.inj (kc3.symm.trans hf) |>.symm
      obtain rfl : fn = Tryz.f6 := (Option.some.inj (Tryz.func6.symm.trans hfn)).symm
      exact ⟨kc4, fun j t ht => by
        rw [Tryz.params6] at ht
        rcases j with _ | (_ | (_ | (_ | (_ | j))))
        · obtain rfl : t = 3 := by simpa using ht.symm
          exact kc5
        · obtain rfl : t = 3 := by simpa using ht.symm
          exact kc5
        · obtain rfl : t = 3 := by simpa using ht.symm
          exact kc5
        · obtain rfl : t = 4 := by simpa using ht.symm
          exact kc7
        · obtain rfl : t = 3 := by simpa using ht.symm
          exact kc5
        · simp at ht⟩)
    kc6
#print axioms locked_card_holds
end Go.Proofs.YtkhjhojmhllkaaaGreatDoor
