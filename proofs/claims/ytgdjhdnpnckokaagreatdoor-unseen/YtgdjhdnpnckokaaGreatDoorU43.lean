import Derived.Test.YtgdjhdnpnckokaaGreatDoorU42
import Derived.Test.YtgdjhdnpnckokaaGreatDoorTie
import Derived.Test.YtgdjhdnpnckokaaGreatDoorCards
import Derived.SevenTiedAt
/- THE LAW ON A LOG OVER A DISK THAT IS WELL: the tied card. -/
namespace Go.Proofs.YtgdjhdnpnckokaaGreatDoor
open Go

set_option maxRecDepth 100000
theorem uc1 : Rows.unseenRow.wfByText (OpenSpec.ofChange Rows.unseenSpec) = true := by kernel_rfl
theorem uc2 : Tryz.pinned.checked.prog.mainIs = some (true, "569f1a9cd4c7b0cf666ce3123db0df3f26f2ecb9a167df5038c0b54a0d356eb6".toList) := by kernel_rfl
theorem uc3 : Tryz.prog.funcNamed "shardcommit/shardcommitkeep.Unseen" = some 11 := by kernel_rfl
theorem uc4 : true = Tryz.pinned.checked.prog.looks [] := by kernel_rfl
theorem uc5 : Tryz.prog.wantsStandIn 3 = false := by kernel_rfl
theorem uc7 : Tryz.prog.wantsStandIn 4 = false := by kernel_rfl
theorem uc6 : false = Rows.unseenRow.goesBy Tryz.pinned.checked.prog := by kernel_rfl
theorem unseen_card_holds : Rows.UnseenCardSaid :=
  Claim7.holds_tied_plain_at .later [] [.data, .data, .data, .handle, .sentinel, .sentinel] true (true, "569f1a9cd4c7b0cf666ce3123db0df3f26f2ecb9a167df5038c0b54a0d356eb6") true
    unseen_holds (fun _ h => by cases h) uc1 (fun _ h => by cases h) unseen_row_tie rfl ⟨rfl, rfl⟩ uc2 rfl
    (fun f fn hf hfn => by
      obtain rfl : f = 11 := Option.some.inj (uc3.symm.trans hf) |>.symm
      obtain rfl : fn = Tryz.f11 := (Option.some.inj (Tryz.func11.symm.trans hfn)).symm
      exact ⟨uc4, fun j t ht => by
        rw [Tryz.params11] at ht
        rcases j with _ | (_ | (_ | (_ | j)))
        · obtain rfl : t = 3 := by simpa using ht.symm
          exact uc5
        · obtain rfl : t = 4 := by simpa using ht.symm
          exact uc7
        · obtain rfl : t = 3 := by simpa using ht.symm
          exact uc5
        · obtain rfl : t = 3 := by simpa using ht.symm
          exact uc5
        · simp at ht⟩)
    uc6
#print axioms unseen_card_holds
end Go.Proofs.YtgdjhdnpnckokaaGreatDoor
