import Derived.Test.YtejiankgafjppabGreatDoorC46
import Derived.Test.YtejiankgafjppabGreatDoorC47
/- THE LAW Spaced: the row, proved. -/
namespace Go.Proofs.YtejiankgafjppabGreatDoor
open Go.ChangeShapes Go.WideShapes Go.RowKit Go.Joins
open Sc

set_option maxRecDepth 100000 in
theorem spaced_closed : joinedFacts Tryz.prog 3 Tryz.f3 Rows.spacedSpec Rows.spacedRow = true := by
  unfold joinedFacts
  exact sband (sband (sband (sband (sband (sband (sband (sband (sband (sband (sband (sband (sband (sband (sband (sband (sband (sband (sband (sband (sband (sband (sband (sband (sband (sband (sband (sband (sband (sband (sband sf01 sf02) sf03) sf04) sf05) sf06) sf07) sf08) sf09) sf10) sf11) sf12) sf13) sf14) sf15) sf16) sf17) sf18) sf19) sf20) sf21) sf22) sf23) sf24) sf25) sf26) sf27) sf28) sf29) sf30) sf31) sf32
set_option maxRecDepth 100000 in
theorem spaced_named : Tryz.pinned.checked.prog.funcNamed Rows.spacedRow.func = some 3 := by kernel_rfl
set_option maxRecDepth 100000 in
theorem spaced_inst : Tryz.f3.isInstance Tryz.pinned.checked.prog Rows.spacedRow.origin Rows.spacedRow.targs := of_decide_eq_true (by kernel_rfl)
set_option maxRecDepth 100000 in
theorem spaced_wrap : Tryz.f3.isWrapper Tryz.pinned.checked.prog Rows.spacedRow.wrapper Rows.spacedRow.mainSum := by
  unfold Func.isWrapper; rw [if_neg (of_decide_eq_false (by kernel_rfl))]; exact ⟨rfl, rfl⟩
set_option maxRecDepth 100000 in
theorem spaced_holds : Rows.SpacedSaid :=
  OpenClaim.holds_of_wide 3 Tryz.f3 rfl rfl rfl rfl rfl rfl rfl ⟨rfl, rfl, rfl, rfl, rfl⟩ rfl rfl rfl rfl rfl spaced_named Tryz.func3 spaced_closed spaced_inst spaced_wrap
    (fun os started H enc _ => spaced_lifted os started H enc)
end Go.Proofs.YtejiankgafjppabGreatDoor
