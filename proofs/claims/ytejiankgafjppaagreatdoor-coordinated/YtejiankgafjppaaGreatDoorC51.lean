import Derived.Test.YtejiankgafjppaaGreatDoorC50
import Derived.Test.YtejiankgafjppaaGreatDoorTie
import Derived.Test.YtejiankgafjppaaGreatDoorCards
import Derived.SevenTiedAt
namespace Go.Proofs.YtejiankgafjppaaGreatDoor
open Go
set_option maxRecDepth 100000
theorem wc1:Rows.coordinatedRow.wfByText (OpenSpec.ofChange Rows.coordinatedSpec)=true:=by kernel_rfl
theorem wc2:Tryz.pinned.checked.prog.mainIs=some (true, "569f1a9cd4c7b0cf666ce3123db0df3f26f2ecb9a167df5038c0b54a0d356eb6".toList):=by kernel_rfl
theorem wc3:Tryz.prog.funcNamed "shardcommit/shardcommitlaw.Coordinated"=some 7:=by kernel_rfl
theorem wc4:true=Tryz.pinned.checked.prog.looks []:=by kernel_rfl
theorem wc5:Tryz.prog.wantsStandIn 22=false:=by kernel_rfl
theorem wc6:false=Rows.coordinatedRow.goesBy Tryz.pinned.checked.prog:=by kernel_rfl
theorem coordinated_card_holds:Rows.CoordinatedCardSaid :=
 Claim7.holds_tied_plain_at .later [] [.data,.data,.data,.handle,.sentinel,.sentinel] true (true, "569f1a9cd4c7b0cf666ce3123db0df3f26f2ecb9a167df5038c0b54a0d356eb6") true
  coordinated_holds (fun _ h=>by cases h) wc1 (fun _ h=>by cases h) coordinated_row_tie rfl ⟨rfl,rfl⟩ wc2 rfl
  (fun f fn hf hfn=>by
   obtain rfl:f=7:=Option.some.inj (wc3.symm.trans hf) |>.symm
   obtain rfl:fn=Tryz.f7:=(Option.some.inj (Tryz.func7.symm.trans hfn)).symm
   exact ⟨wc4,fun j t ht=>by
    rw [Tryz.params7] at ht
    rcases j with _ | j
    ·obtain rfl:t=22:=by simpa using ht.symm
     exact wc5
    ·simp at ht⟩)
  wc6
#print axioms coordinated_card_holds
end Go.Proofs.YtejiankgafjppaaGreatDoor
