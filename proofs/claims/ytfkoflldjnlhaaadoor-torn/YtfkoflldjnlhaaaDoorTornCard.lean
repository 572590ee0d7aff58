import Derived.Test.YtfkoflldjnlhaaaDoorTornProof
import Derived.Test.YtfkoflldjnlhaaaDoorTie
import Derived.Test.YtfkoflldjnlhaaaDoorCards
import Derived.SevenTiedAt
/- THE LAW ON TORN RECORDS: the tied card. -/
namespace Go.Proofs.YtfkoflldjnlhaaaDoor
open Go

theorem torn_card_holds : Rows.TornCardSaid :=
  Claim7.holds_tied_plain_at .later [] [.handle] true (true, "39e297d120bc7425042bb138c2099098e220e826301e1f0dfd790e83958332ee") true
    torn_holds (fun _ h => by cases h) (by kernel_rfl) (fun _ h => by cases h) torn_row_tie rfl ⟨rfl, rfl⟩ (by kernel_rfl) rfl
    (fun f fn hf hfn => by
      obtain rfl : f = 5 := Option.some.inj ((show Tryd.prog.funcNamed "shardcommit/shardcommitkeep.Torn" = some 5 by kernel_rfl).symm.trans hf) |>.symm
      obtain rfl : fn = Tryd.f5 := (Option.some.inj (Tryd.func5.symm.trans hfn)).symm
      exact ⟨by kernel_rfl, fun j t ht => by
        rw [Tryd.params5] at ht
        rcases j with _ | j
        · obtain rfl : t = 38 := by simpa using ht.symm
          exact (show Tryd.prog.wantsStandIn 38 = false by kernel_rfl)
        · rcases j with _ | j
          · obtain rfl : t = 3 := by simpa using ht.symm
            exact (show Tryd.prog.wantsStandIn 3 = false by kernel_rfl)
          · rcases j with _ | j
            · obtain rfl : t = 3 := by simpa using ht.symm
              exact (show Tryd.prog.wantsStandIn 3 = false by kernel_rfl)
            · rcases j with _ | j
              · obtain rfl : t = 4 := by simpa using ht.symm
                exact (show Tryd.prog.wantsStandIn 4 = false by kernel_rfl)
              · simp at ht⟩)
    (by kernel_rfl)
#print axioms torn_card_holds
end Go.Proofs.YtfkoflldjnlhaaaDoor
