import Derived.Test.YtkcehofpdmegoaaGreatDoorC27
import Derived.Test.YtkcehofpdmegoaaGreatDoorTie
import Derived.Test.YtkcehofpdmegoaaGreatDoorCards
import Derived.SevenTiedAt
/- THE LAW ON A LOG OVER A DISK THAT IS WELL: the tied card. -/
namespace Go.Proofs.YtkcehofpdmegoaaGreatDoor
open Go

theorem logged_card_holds : Rows.LoggedCardSaid :=
  Claim7.holds_tied_plain_at .later [] [.data, .data, .data, .handle, .sentinel, .sentinel] true (true, "81b18404efb21baccd7ded1d71a9ca46d3f32fb84d9c1191e599c714c673f23d") true
    logged_holds (fun _ h => by cases h) (by kernel_rfl) (fun _ h => by cases h) logged_row_tie rfl ⟨rfl, rfl⟩ (by kernel_rfl) rfl
    (fun f fn hf hfn => by
      obtain rfl : f = 3 := Option.some.inj ((show Tryz.prog.funcNamed "shardcommit/shardcommitlaw.Logged" = some 3 by kernel_rfl).symm.trans hf) |>.symm
      obtain rfl : fn = Tryz.f3 := (Option.some.inj (Tryz.func3.symm.trans hfn)).symm
      exact ⟨by kernel_rfl, fun j t ht => by
        rw [Tryz.params3] at ht
        rcases j with _ | j
        · obtain rfl : t = 22 := by simpa using ht.symm
          exact (show Tryz.prog.wantsStandIn 22 = false by kernel_rfl)
        · simp at ht⟩)
    (by kernel_rfl)
#print axioms logged_card_holds
end Go.Proofs.YtkcehofpdmegoaaGreatDoor
