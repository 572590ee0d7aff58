import Derived.Test.YtfkoflldjnlhaaaDoorMsgProof
import Derived.Test.YtfkoflldjnlhaaaDoorTie
import Derived.Test.YtfkoflldjnlhaaaDoorCards
import Derived.SevenTiedAt
/- THE LAW ON MESSAGES: the tied card. -/
namespace Go.Proofs.YtfkoflldjnlhaaaDoor
open Go

theorem messaged_card_holds : Rows.MessagedCardSaid :=
  Claim7.holds_tied_plain_at .later [] [.handle] true (true, "39e297d120bc7425042bb138c2099098e220e826301e1f0dfd790e83958332ee") true
    messaged_holds (fun _ h => by cases h) (by kernel_rfl) (fun _ h => by cases h) messaged_row_tie rfl ⟨rfl, rfl⟩ (by kernel_rfl) rfl
    (fun f fn hf hfn => by
      obtain rfl : f = 4 := Option.some.inj ((show Tryd.prog.funcNamed "shardcommit/shardcommitlaw.Messaged" = some 4 by kernel_rfl).symm.trans hf) |>.symm
      obtain rfl : fn = Tryd.f4 := (Option.some.inj (Tryd.func4.symm.trans hfn)).symm
      exact ⟨by kernel_rfl, fun j t ht => by
        rw [Tryd.params4] at ht
        rcases j with _ | j
        · obtain rfl : t = 33 := by simpa using ht.symm
          exact (show Tryd.prog.wantsStandIn 33 = false by kernel_rfl)
        · rcases j with _ | j
          · obtain rfl : t = 9 := by simpa using ht.symm
            exact (show Tryd.prog.wantsStandIn 9 = false by kernel_rfl)
          · simp at ht⟩)
    (by kernel_rfl)
#print axioms messaged_card_holds
end Go.Proofs.YtfkoflldjnlhaaaDoor
