import Derived.Test.YtcalalndmcemiaaGreatDoorC46
import Derived.Test.YtcalalndmcemiaaGreatDoorC47
set_option maxRecDepth 100000
set_option maxHeartbeats 16000000
namespace Go.Proofs.YtcalalndmcemiaaGreatDoor
open Go.ChangeShapes Go.WideShapes Go.RowKit Go.Joins
open Sc
theorem jJy:joinedFacts Tryz.prog 5 Tryz.f5 Rows.aloneSpec Rows.aloneRow=true:=by
 unfold joinedFacts
 exact jBz (jBz (jBz (jBz (jBz (jBz (jBz (jBz (jBz (jBz (jBz (jBz (jBz (jBz (jBz (jBz (jBz (jBz (jBz (jBz (jBz (jBz (jBz (jBz (jBz (jBz (jBz (jBz (jBz (jBz (jBz af01 af02) af03) af04) af05) af06) af07) af08) af09) af10) af11) af12) af13) af14) af15) af16) af17) af18) af19) af20) af21) af22) af23) af24) af25) af26) af27) af28) af29) af30) af31) af32
theorem jLe:Tryz.pinned.checked.prog.funcNamed Rows.aloneRow.func=some 5:=by kernel_rfl
theorem jNz:Tryz.f5.isInstance Tryz.pinned.checked.prog Rows.aloneRow.origin Rows.aloneRow.targs:=of_decide_eq_true (by kernel_rfl)
theorem jOm:Tryz.f5.isWrapper Tryz.pinned.checked.prog Rows.aloneRow.wrapper Rows.aloneRow.mainSum:=by
 unfold Func.isWrapper;rw [if_neg (of_decide_eq_false (by kernel_rfl))];exact ⟨rfl,rfl⟩
theorem jMa:Rows.AloneSaid :=
 OpenClaim.holds_of_wide 5 Tryz.f5 rfl rfl rfl rfl rfl rfl rfl ⟨rfl,rfl,rfl,rfl,rfl⟩ rfl rfl rfl rfl rfl jLe Tryz.func5 jJy jNz jOm
  (fun os started H enc _=>jKg os started H enc)
end Go.Proofs.YtcalalndmcemiaaGreatDoor
