import Derived.Test.YtejiankgafjppaaGreatDoorC51
import Derived.Test.YtejiankgafjppaaGreatDoorTie
import Derived.Test.YtejiankgafjppaaGreatDoorCards
import Derived.SevenTiedAt
/- THE LAW Sharded: the tied card. -/
namespace Go.Proofs.YtejiankgafjppaaGreatDoor
open Go

set_option maxRecDepth 100000
theorem qc1 : Rows.shardedRow.wfByText (OpenSpec.ofChange Rows.shardedSpec) = true := by kernel_rfl
theorem qc2 : Tryz.pinned.checked.prog.mainIs = some (true, "569f1a9cd4c7b0cf666ce3123db0df3f26f2ecb9a167df5038c0b54a0d356eb6".toList) := by kernel_rfl
theorem qc3 : Tryz.prog.funcNamed "shardcommit/shardcommitlaw.Sharded" = some 5 := by kernel_rfl
theorem qc4 : true = Tryz.pinned.checked.prog.looks [] := by kernel_rfl
theorem qc5 : Tryz.prog.wantsStandIn 22 = false := by kernel_rfl
theorem qc6 : false = Rows.shardedRow.goesBy Tryz.pinned.checked.prog := by kernel_rfl
theorem sharded_card_holds : Rows.ShardedCardSaid :=
  Claim7.holds_tied_plain_at .later [] [.data, .data, .data, .handle, .sentinel, .sentinel] true (true, "569f1a9cd4c7b0cf666ce3123db0df3f26f2ecb9a167df5038c0b54a0d356eb6") true
    sharded_holds (fun _ h => by cases h) qc1 (fun _ h => by cases h) sharded_row_tie rfl ⟨rfl, rfl⟩ qc2 rfl
    (fun f fn hf hfn => by
      obtain rfl : f = 5 := Option.some.inj (qc3.symm.trans hf) |>.symm
      obtain rfl : fn = Tryz.f5 := (Option.some.inj (Tryz.func5.symm.trans hfn)).symm
      exact ⟨qc4, fun j t ht => by
        rw [Tryz.params5] at ht
        rcases j with _ | j
        · obtain rfl : t = 22 := by simpa using ht.symm
          exact qc5
        · simp at ht⟩)
    qc6
#print axioms sharded_card_holds
end Go.Proofs.YtejiankgafjppaaGreatDoor
