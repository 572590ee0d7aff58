import Derived.Test.YtejiankgafjppabGreatDoorRows
import Derived.ProofKit
import Derived.JoinedOf
/- THE CLOSED FACTS OF THE ROW, one by one. -/
namespace Go.Proofs.YtejiankgafjppabGreatDoor
open Go

theorem sband {a b : Bool} (ha : a = true) (hb : b = true) : (a && b) = true := by rw [ha, hb]; rfl
set_option maxRecDepth 100000
theorem sf01 : Rows.spacedRow.wf (OpenSpec.ofChange Rows.spacedSpec) = true := by kernel_rfl
theorem sf02 : laidOutB Tryz.prog = true := by kernel_rfl
theorem sf03 : mapsRowed Tryz.prog = true := by kernel_rfl
theorem sf04 : Tryz.f3.params.all (Tryz.prog.readableRec ·) = true := by kernel_rfl
theorem sf05 : namedTie Tryz.prog Rows.spacedRow.named Rows.spacedSpec.vars = true := by kernel_rfl
theorem sf06 : (Rows.spacedRow.stops == []) = true := by kernel_rfl
theorem sf07 : (Tryz.prog.stops == []) = true := by kernel_rfl
theorem sf08 : (Rows.spacedRow.knobs == []) = true := by kernel_rfl
theorem sf09 : (Tryz.prog.stopKnobs == []) = true := by kernel_rfl
theorem sf14 : (Rows.spacedRow.maps == (Tryz.f3.params.toList ++ Rows.spacedSpec.plain.varTypes Tryz.prog).any (Tryz.prog.mapsRec ·)) = true := by kernel_rfl
theorem sf15 : (Rows.spacedRow.ifaces == (Tryz.f3.params.toList ++ Rows.spacedSpec.plain.varTypes Tryz.prog).any (Tryz.prog.ifacesRec ·)) = true := by kernel_rfl
theorem sf16 : (Rows.spacedRow.mapsOut == Tryz.prog.mapsAmong Tryz.f3.resultTypes.toList) = true := by kernel_rfl
theorem sf17 : (Rows.spacedRow.loops == (Tryz.f3.params.toList ++ Rows.spacedSpec.plain.varTypes Tryz.prog).any (Tryz.prog.loopsFrom ·)) = true := by kernel_rfl
theorem sf18 : (Rows.spacedRow.wideKeys == (Tryz.f3.params.toList ++ Rows.spacedSpec.plain.varTypes Tryz.prog ++ Tryz.f3.resultTypes.toList).any (Tryz.prog.wideKeysFrom ·)) = true := by kernel_rfl
theorem sf19 : Rows.spacedSpec.vars.all (Tryz.prog.varReadable ·) = true := by kernel_rfl
theorem sf20 : Tryz.f3.resultTypes.all (fun t => Tryz.prog.readableRec t && decide (t < Tryz.prog.types.size)) = true := by kernel_rfl
theorem sf21 : (Rows.spacedRow.ifacesOut == Tryz.f3.resultTypes.toList.any (Tryz.prog.ifacesRec ·)) = true := by kernel_rfl
theorem sf22 : (Rows.spacedRow.loopsOut == Tryz.f3.resultTypes.toList.any (Tryz.prog.loopsFrom ·)) = true := by kernel_rfl
theorem sf23 : (Rows.spacedRow.plainKeys == Tryz.prog.plainKeys) = true := by kernel_rfl
theorem sf24 : Rows.spacedRow.shortTexts.isNone = true := by kernel_rfl
theorem sf25 : Tryz.prog.stopsHeard = true := by kernel_rfl
theorem sf26 : Tryz.prog.mayEnter = true := by kernel_rfl
theorem sf27 : (Rows.spacedRow.lifted == Tryz.prog.liftsFinal) = true := by kernel_rfl
theorem sf28 : (Tryz.prog.make == some Rows.spacedRow.make) = true := by kernel_rfl
theorem sf29 : (Rows.spacedRow.kinds == (if Rows.spacedRow.domain.isEmpty then [] else Tryz.f3.params.toList.map fun t => match Tryz.prog.underlying t with | some (.int k) => some k | _ => none)) = true := by kernel_rfl
theorem sf30 : (Rows.spacedRow.pinned == Rows.spacedRow.pinnedBy) = true := by kernel_rfl
theorem sf31 : (Rows.spacedRow.veiled == (Tryz.f3.params.toList ++ Rows.spacedSpec.plain.varTypes Tryz.prog ++ Tryz.f3.resultTypes.toList).any (Tryz.prog.veiledRec ·)) = true := by kernel_rfl
theorem sf32 : Rows.spacedRow.veiledFits Tryz.prog Tryz.f3.params.toList (Tryz.f3.params.toList ++ Rows.spacedSpec.plain.varTypes Tryz.prog ++ Tryz.f3.resultTypes.toList) = true := by kernel_rfl
theorem sf10 : (Rows.spacedRow.inPlace == Tryz.prog.inPlace 3) = true := by kernel_rfl
theorem sf11 : (Rows.spacedRow.unfollowed == Tryz.prog.unfollowed 3) = true := by kernel_rfl
theorem sf12 : (Rows.spacedRow.recurses == Tryz.prog.recurses 3) = true := by kernel_rfl
theorem sf13 : (Rows.spacedRow.named == Tryz.prog.varsNamed 3) = true := by kernel_rfl
end Go.Proofs.YtejiankgafjppabGreatDoor
