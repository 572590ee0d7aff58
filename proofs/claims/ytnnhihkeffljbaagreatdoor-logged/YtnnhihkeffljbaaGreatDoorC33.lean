import Derived.Test.YtnnhihkeffljbaaGreatDoorC32
import Derived.Test.YtnnhihkeffljbaaGreatDoorTie
import Derived.Test.YtnnhihkeffljbaaGreatDoorCards
import Derived.SevenTiedAt
/- THE LAW ON A LOG OVER A DISK THAT IS WELL: the tied card. -/
namespace Go.Proofs.YtnnhihkeffljbaaGreatDoor
open Go

set_option maxRecDepth 100000
theorem lc1 : Rows.loggedRow.wfByText (OpenSpec.ofChange Rows.loggedSpec) = true := by kernel_rfl
theorem lc2 : Tryz.pinned.checked.prog.mainIs = some (true, "41f31bf5380e2f63671c61f239f9b094d40b45fbdcc10459116abdfd263f24f8".toList) := by kernel_rfl
theorem lc3 : Tryz.prog.funcNamed "shardcommit/shardcommitlaw.Logged" = some 3 := by kernel_rfl
theorem lc4 : true = Tryz.pinned.checked.prog.looks [] := by kernel_rfl
theorem lc5 : Tryz.prog.wantsStandIn 22 = false := by kernel_rfl
theorem lc6 : false = Rows.loggedRow.goesBy Tryz.pinned.checked.prog := by kernel_rfl
theorem logged_card_holds : Rows.LoggedCardSaid :=
  Claim7.holds_tied_plain_at .later [] [.data, .data, .data, .handle, .sentinel, .sentinel] true (true, "41f31bf5380e2f63671c61f239f9b094d40b45fbdcc10459116abdfd263f24f8") true
    logged_holds (fun _ h => by cases h) lc1 (fun _ h => by cases h) logged_row_tie rfl ⟨rfl, rfl⟩ lc2 rfl
    (fun f fn hf hfn => by
      obtain rfl : f = 3 := Option.some.inj (lc3.symm.trans hf) |>.symm
      obtain rfl : fn = Tryz.f3 := (Option.some.inj (Tryz.func3.symm.trans hfn)).symm
      exact ⟨lc4, fun j t ht => by
        rw [Tryz.params3] at ht
        rcases j with _ | j
        · obtain rfl : t = 22 := by simpa using ht.symm
          exact lc5
        · simp at ht⟩)
    lc6
#print axioms logged_card_holds
end Go.Proofs.YtnnhihkeffljbaaGreatDoor
