import Derived.Test.YtcalalndmcemiaaGreatDoorC48
import Derived.Test.YtcalalndmcemiaaGreatDoorTie
import Derived.Test.YtcalalndmcemiaaGreatDoorCards
set_option maxRecDepth 100000
set_option maxHeartbeats 16000000
namespace Go.Proofs.YtcalalndmcemiaaGreatDoor
open Go
theorem ac1:Rows.aloneRow.wfByText (OpenSpec.ofChange Rows.aloneSpec)=true:=by kernel_rfl
theorem ac2:Tryz.pinned.checked.prog.mainIs=some (true, "10e9fa5a88baf02d0e0e54d6964b9f795c2415ebd95be496be09a29fe4af7e36".toList):=by kernel_rfl
theorem ac3:Tryz.prog.funcNamed "shardcommit/shardcommitkeep.Alone"=some 5:=by kernel_rfl
theorem ac4:true=Tryz.pinned.checked.prog.looks []:=by kernel_rfl
theorem ac5:Tryz.prog.wantsStandIn 3=false:=by kernel_rfl
theorem ac7:Tryz.prog.wantsStandIn 25=false:=by kernel_rfl
theorem ac6:false=Rows.aloneRow.goesBy Tryz.pinned.checked.prog:=by kernel_rfl
theorem ac8 (f:FuncId) (fn:Func) (hf:Tryz.pinned.checked.prog.funcNamed Rows.aloneRow.func=some f) (hfn:Tryz.pinned.checked.prog.funcs[f]?=some fn):true=Tryz.pinned.checked.prog.looks []∧∀ (j:Nat) t,fn.params[j]?=some t→Tryz.pinned.checked.prog.wantsStandIn t=false:=by
 obtain rfl:f=5:=Option.some.inj (ac3.symm.trans hf) |>.symm
 obtain rfl:fn=Tryz.f5:=(Option.some.inj (Tryz.func5.symm.trans hfn)).symm
 refine ⟨ac4,fun j t ht=>?_⟩
 rw [Tryz.params5] at ht
 rcases j with _ | (_ | j)
 ·obtain rfl:t=25:=by simpa using ht.symm
  exact ac7
 ·obtain rfl:t=3:=by simpa using ht.symm
  exact ac5
 ·simp at ht
theorem alone_card_holds:Rows.AloneCardSaid :=
 ⟨Claim7.tied_new_at .later [.data,.data,.data,.handle,.sentinel,.sentinel] true (Claim7.new_of_sixth jMa (true, "10e9fa5a88baf02d0e0e54d6964b9f795c2415ebd95be496be09a29fe4af7e36") true rfl ⟨rfl,rfl⟩ ac2 (by simp [Claim7.isSixth]) ac8) ac1,(fun _ h=>by cases h),alone_row_tie,(fun h=>by cases h),ac6⟩
#print axioms alone_card_holds
end Go.Proofs.YtcalalndmcemiaaGreatDoor
