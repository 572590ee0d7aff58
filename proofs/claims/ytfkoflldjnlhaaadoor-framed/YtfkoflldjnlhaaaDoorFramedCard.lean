import Derived.Test.YtfkoflldjnlhaaaDoorFramedProof
import Derived.Test.YtfkoflldjnlhaaaDoorTie
import Derived.Test.YtfkoflldjnlhaaaDoorCards
import Derived.SevenTiedAt
/- THE LAW ON RECORDS: the tied card. -/
namespace Go.Proofs.YtfkoflldjnlhaaaDoor
open Go

theorem framed_card_holds : Rows.FramedCardSaid :=
  Claim7.holds_tied_plain_at .later [] [.handle] true (true, "39e297d120bc7425042bb138c2099098e220e826301e1f0dfd790e83958332ee") true
    framed_holds (fun _ h => by cases h) (by kernel_rfl) (fun _ h => by cases h) framed_row_tie rfl ⟨rfl, rfl⟩ (by kernel_rfl) rfl
    (fun f fn hf hfn => by
      obtain rfl : f = 3 := Option.some.inj ((show Tryd.prog.funcNamed "shardcommit/shardcommitlaw.Framed" = some 3 by kernel_rfl).symm.trans hf) |>.symm
      obtain rfl : fn = Tryd.f3 := (Option.some.inj (Tryd.func3.symm.trans hfn)).symm
      exact ⟨by kernel_rfl, fun j t ht => by
        rw [Tryd.params3] at ht
        rcases j with _ | j
        · obtain rfl : t = 22 := by simpa using ht.symm
          exact (show Tryd.prog.wantsStandIn 22 = false by kernel_rfl)
        · rcases j with _ | j
          · obtain rfl : t = 9 := by simpa using ht.symm
            exact (show Tryd.prog.wantsStandIn 9 = false by kernel_rfl)
          · simp at ht⟩)
    (by kernel_rfl)
#print axioms framed_card_holds
end Go.Proofs.YtfkoflldjnlhaaaDoor
