import Derived.Test.YtejiankgafjppabGreatDoorRows
import Derived.ProofKit
import Derived.JoinedOf
/- THE CLOSED FACTS OF THE ROW, one by one. -/
namespace Go.Proofs.YtejiankgafjppabGreatDoor
open Go

theorem pband {a b : Bool} (ha : a = true) (hb : b = true) : (a && b) = true := by rw [ha, hb]; rfl
set_option maxRecDepth 100000
theorem pf01 : Rows.presumedRow.wf (OpenSpec.ofChange Rows.presumedSpec) = true := by kernel_rfl
theorem pf02 : laidOutB Tryz.prog = true := by kernel_rfl
theorem pf03 : mapsRowed Tryz.prog = true := by kernel_rfl
theorem pf04 : Tryz.f4.params.all (Tryz.prog.readableRec ·) = true := by kernel_rfl
theorem pf05 : namedTie Tryz.prog Rows.presumedRow.named Rows.presumedSpec.vars = true := by kernel_rfl
theorem pf06 : (Rows.presumedRow.stops == []) = true := by kernel_rfl
theorem pf07 : (Tryz.prog.stops == []) = true := by kernel_rfl
theorem pf08 : (Rows.presumedRow.knobs == []) = true := by kernel_rfl
theorem pf09 : (Tryz.prog.stopKnobs == []) = true := by kernel_rfl
theorem pf14 : (Rows.presumedRow.maps == (Tryz.f4.params.toList ++ Rows.presumedSpec.plain.varTypes Tryz.prog).any (Tryz.prog.mapsRec ·)) = true := by kernel_rfl
theorem pf15 : (Rows.presumedRow.ifaces == (Tryz.f4.params.toList ++ Rows.presumedSpec.plain.varTypes Tryz.prog).any (Tryz.prog.ifacesRec ·)) = true := by kernel_rfl
theorem pf16 : (Rows.presumedRow.mapsOut == Tryz.prog.mapsAmong Tryz.f4.resultTypes.toList) = true := by kernel_rfl
theorem pf17 : (Rows.presumedRow.loops == (Tryz.f4.params.toList ++ Rows.presumedSpec.plain.varTypes Tryz.prog).any (Tryz.prog.loopsFrom ·)) = true := by kernel_rfl
theorem pf18 : (Rows.presumedRow.wideKeys == (Tryz.f4.params.toList ++ Rows.presumedSpec.plain.varTypes Tryz.prog ++ Tryz.f4.resultTypes.toList).any (Tryz.prog.wideKeysFrom ·)) = true := by kernel_rfl
theorem pf19 : Rows.presumedSpec.vars.all (Tryz.prog.varReadable ·) = true := by kernel_rfl
theorem pf20 : Tryz.f4.resultTypes.all (fun t => Tryz.prog.readableRec t && decide (t < Tryz.prog.types.size)) = true := by kernel_rfl
theorem pf21 : (Rows.presumedRow.ifacesOut == Tryz.f4.resultTypes.toList.any (Tryz.prog.ifacesRec ·)) = true := by kernel_rfl
theorem pf22 : (Rows.presumedRow.loopsOut == Tryz.f4.resultTypes.toList.any (Tryz.prog.loopsFrom ·)) = true := by kernel_rfl
theorem pf23 : (Rows.presumedRow.plainKeys == Tryz.prog.plainKeys) = true := by kernel_rfl
theorem pf24 : Rows.presumedRow.shortTexts.isNone = true := by kernel_rfl
theorem pf25 : Tryz.prog.stopsHeard = true := by kernel_rfl
theorem pf26 : Tryz.prog.mayEnter = true := by kernel_rfl
theorem pf27 : (Rows.presumedRow.lifted == Tryz.prog.liftsFinal) = true := by kernel_rfl
theorem pf28 : (Tryz.prog.make == some Rows.presumedRow.make) = true := by kernel_rfl
theorem pf29 : (Rows.presumedRow.kinds == (if Rows.presumedRow.domain.isEmpty then [] else Tryz.f4.params.toList.map fun t => match Tryz.prog.underlying t with | some (.int k) => some k | _ => none)) = true := by kernel_rfl
theorem pf30 : (Rows.presumedRow.pinned == Rows.presumedRow.pinnedBy) = true := by kernel_rfl
theorem pf31 : (Rows.presumedRow.veiled == (Tryz.f4.params.toList ++ Rows.presumedSpec.plain.varTypes Tryz.prog ++ Tryz.f4.resultTypes.toList).any (Tryz.prog.veiledRec ·)) = true := by kernel_rfl
theorem pf32 : Rows.presumedRow.veiledFits Tryz.prog Tryz.f4.params.toList (Tryz.f4.params.toList ++ Rows.presumedSpec.plain.varTypes Tryz.prog ++ Tryz.f4.resultTypes.toList) = true := by kernel_rfl
theorem pf10 : (Rows.presumedRow.inPlace == Tryz.prog.inPlace 4) = true := by kernel_rfl
theorem pf11 : (Rows.presumedRow.unfollowed == Tryz.prog.unfollowed 4) = true := by kernel_rfl
theorem pf12 : (Rows.presumedRow.recurses == Tryz.prog.recurses 4) = true := by kernel_rfl
theorem pf13 : (Rows.presumedRow.named == Tryz.prog.varsNamed 4) = true := by kernel_rfl
end Go.Proofs.YtejiankgafjppabGreatDoor
