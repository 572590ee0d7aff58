import Derived.Test.YtejiankgafjppabGreatDoorC47
import Derived.Test.YtejiankgafjppabGreatDoorC48
/- THE LAW Presumed: the row, proved. -/
namespace Go.Proofs.YtejiankgafjppabGreatDoor
open Go.ChangeShapes Go.WideShapes Go.RowKit Go.Joins
open Sc

set_option maxRecDepth 100000 in
theorem presumed_closed : joinedFacts Tryz.prog 4 Tryz.f4 Rows.presumedSpec Rows.presumedRow = true := by
  unfold joinedFacts
  exact pband (pband (pband (pband (pband (pband (pband (pband (pband (pband (pband (pband (pband (pband (pband (pband (pband (pband (pband (pband (pband (pband (pband (pband (pband (pband (pband (pband (pband (pband (pband pf01 pf02) pf03) pf04) pf05) pf06) pf07) pf08) pf09) pf10) pf11) pf12) pf13) pf14) pf15) pf16) pf17) pf18) pf19) pf20) pf21) pf22) pf23) pf24) pf25) pf26) pf27) pf28) pf29) pf30) pf31) pf32
set_option maxRecDepth 100000 in
theorem presumed_named : Tryz.pinned.checked.prog.funcNamed Rows.presumedRow.func = some 4 := by kernel_rfl
set_option maxRecDepth 100000 in
theorem presumed_inst : Tryz.f4.isInstance Tryz.pinned.checked.prog Rows.presumedRow.origin Rows.presumedRow.targs := of_decide_eq_true (by kernel_rfl)
set_option maxRecDepth 100000 in
theorem presumed_wrap : Tryz.f4.isWrapper Tryz.pinned.checked.prog Rows.presumedRow.wrapper Rows.presumedRow.mainSum := by
  unfold Func.isWrapper; rw [if_neg (of_decide_eq_false (by kernel_rfl))]; exact ⟨rfl, rfl⟩
set_option maxRecDepth 100000 in
theorem presumed_holds : Rows.PresumedSaid :=
  OpenClaim.holds_of_wide 4 Tryz.f4 rfl rfl rfl rfl rfl rfl rfl ⟨rfl, rfl, rfl, rfl, rfl⟩ rfl rfl rfl rfl rfl presumed_named Tryz.func4 presumed_closed presumed_inst presumed_wrap
    (fun os started H enc _ => presumed_lifted os started H enc)
end Go.Proofs.YtejiankgafjppabGreatDoor
