import Derived.Test.YtbdhmkfdofkloaaGreatDoorC40
import Derived.Test.YtbdhmkfdofkloaaGreatDoorC41
/- THE LAW Kept: the row, proved. -/
namespace Go.Proofs.YtbdhmkfdofkloaaGreatDoor
open Go.ChangeShapes Go.WideShapes Go.RowKit Go.Joins
open Sc

set_option maxRecDepth 100000 in
theorem kept_closed : joinedFacts Tryz.prog 4 Tryz.f4 Rows.keptSpec Rows.keptRow = true := by
  unfold joinedFacts
  exact kband (kband (kband (kband (kband (kband (kband (kband (kband (kband (kband (kband (kband (kband (kband (kband (kband (kband (kband (kband (kband (kband (kband (kband (kband (kband (kband (kband (kband (kband (kband kf01 kf02) kf03) kf04) kf05) kf06) kf07) kf08) kf09) kf10) kf11) kf12) kf13) kf14) kf15) kf16) kf17) kf18) kf19) kf20) kf21) kf22) kf23) kf24) kf25) kf26) kf27) kf28) kf29) kf30) kf31) kf32
set_option maxRecDepth 100000 in
theorem kept_named : Tryz.pinned.checked.prog.funcNamed Rows.keptRow.func = some 4 := by kernel_rfl
set_option maxRecDepth 100000 in
theorem kept_inst : Tryz.f4.isInstance Tryz.pinned.checked.prog Rows.keptRow.origin Rows.keptRow.targs := of_decide_eq_true (by kernel_rfl)
set_option maxRecDepth 100000 in
theorem kept_wrap : Tryz.f4.isWrapper Tryz.pinned.checked.prog Rows.keptRow.wrapper Rows.keptRow.mainSum := by
  unfold Func.isWrapper; rw [if_neg (of_decide_eq_false (by kernel_rfl))]; exact ⟨rfl, rfl⟩
set_option maxRecDepth 100000 in
theorem kept_holds : Rows.KeptSaid :=
  OpenClaim.holds_of_wide 4 Tryz.f4 rfl rfl rfl rfl rfl rfl rfl ⟨rfl, rfl, rfl, rfl, rfl⟩ rfl rfl rfl rfl rfl kept_named Tryz.func4 kept_closed kept_inst kept_wrap
    (fun os started H enc _ => kept_lifted os started H enc)
end Go.Proofs.YtbdhmkfdofkloaaGreatDoor
