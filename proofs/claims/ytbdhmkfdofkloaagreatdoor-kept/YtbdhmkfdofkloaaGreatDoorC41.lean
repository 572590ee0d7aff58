import Derived.Test.YtbdhmkfdofkloaaGreatDoorRows
import Derived.ProofKit
import Derived.JoinedOf
/- THE CLOSED FACTS OF THE ROW, one by one. -/
namespace Go.Proofs.YtbdhmkfdofkloaaGreatDoor
open Go

theorem kband {a b : Bool} (ha : a = true) (hb : b = true) : (a && b) = true := by rw [ha, hb]; rfl
set_option maxRecDepth 100000
theorem kf01 : Rows.keptRow.wf (OpenSpec.ofChange Rows.keptSpec) = true := by kernel_rfl
theorem kf02 : laidOutB Tryz.prog = true := by kernel_rfl
theorem kf03 : mapsRowed Tryz.prog = true := by kernel_rfl
theorem kf04 : Tryz.f4.params.all (Tryz.prog.readableRec ·) = true := by kernel_rfl
theorem kf05 : namedTie Tryz.prog Rows.keptRow.named Rows.keptSpec.vars = true := by kernel_rfl
theorem kf06 : (Rows.keptRow.stops == []) = true := by kernel_rfl
theorem kf07 : (Tryz.prog.stops == []) = true := by kernel_rfl
theorem kf08 : (Rows.keptRow.knobs == []) = true := by kernel_rfl
theorem kf09 : (Tryz.prog.stopKnobs == []) = true := by kernel_rfl
theorem kf14 : (Rows.keptRow.maps == (Tryz.f4.params.toList ++ Rows.keptSpec.plain.varTypes Tryz.prog).any (Tryz.prog.mapsRec ·)) = true := by kernel_rfl
theorem kf15 : (Rows.keptRow.ifaces == (Tryz.f4.params.toList ++ Rows.keptSpec.plain.varTypes Tryz.prog).any (Tryz.prog.ifacesRec ·)) = true := by kernel_rfl
theorem kf16 : (Rows.keptRow.mapsOut == Tryz.prog.mapsAmong Tryz.f4.resultTypes.toList) = true := by kernel_rfl
theorem kf17 : (Rows.keptRow.loops == (Tryz.f4.params.toList ++ Rows.keptSpec.plain.varTypes Tryz.prog).any (Tryz.prog.loopsFrom ·)) = true := by kernel_rfl
theorem kf18 : (Rows.keptRow.wideKeys == (Tryz.f4.params.toList ++ Rows.keptSpec.plain.varTypes Tryz.prog ++ Tryz.f4.resultTypes.toList).any (Tryz.prog.wideKeysFrom ·)) = true := by kernel_rfl
theorem kf19 : Rows.keptSpec.vars.all (Tryz.prog.varReadable ·) = true := by kernel_rfl
theorem kf20 : Tryz.f4.resultTypes.all (fun t => Tryz.prog.readableRec t && decide (t < Tryz.prog.types.size)) = true := by kernel_rfl
theorem kf21 : (Rows.keptRow.ifacesOut == Tryz.f4.resultTypes.toList.any (Tryz.prog.ifacesRec ·)) = true := by kernel_rfl
theorem kf22 : (Rows.keptRow.loopsOut == Tryz.f4.resultTypes.toList.any (Tryz.prog.loopsFrom ·)) = true := by kernel_rfl
theorem kf23 : (Rows.keptRow.plainKeys == Tryz.prog.plainKeys) = true := by kernel_rfl
theorem kf24 : Rows.keptRow.shortTexts.isNone = true := by kernel_rfl
theorem kf25 : Tryz.prog.stopsHeard = true := by kernel_rfl
theorem kf26 : Tryz.prog.mayEnter = true := by kernel_rfl
theorem kf27 : (Rows.keptRow.lifted == Tryz.prog.liftsFinal) = true := by kernel_rfl
theorem kf28 : (Tryz.prog.make == some Rows.keptRow.make) = true := by kernel_rfl
theorem kf29 : (Rows.keptRow.kinds == (if Rows.keptRow.domain.isEmpty then [] else Tryz.f4.params.toList.map fun t => match Tryz.prog.underlying t with | some (.int k) => some k | _ => none)) = true := by kernel_rfl
theorem kf30 : (Rows.keptRow.pinned == Rows.keptRow.pinnedBy) = true := by kernel_rfl
theorem kf31 : (Rows.keptRow.veiled == (Tryz.f4.params.toList ++ Rows.keptSpec.plain.varTypes Tryz.prog ++ Tryz.f4.resultTypes.toList).any (Tryz.prog.veiledRec ·)) = true := by kernel_rfl
theorem kf32 : Rows.keptRow.veiledFits Tryz.prog Tryz.f4.params.toList (Tryz.f4.params.toList ++ Rows.keptSpec.plain.varTypes Tryz.prog ++ Tryz.f4.resultTypes.toList) = true := by kernel_rfl
theorem kf10 : (Rows.keptRow.inPlace == Tryz.prog.inPlace 4) = true := by kernel_rfl
theorem kf11 : (Rows.keptRow.unfollowed == Tryz.prog.unfollowed 4) = true := by kernel_rfl
theorem kf12 : (Rows.keptRow.recurses == Tryz.prog.recurses 4) = true := by kernel_rfl
theorem kf13 : (Rows.keptRow.named == Tryz.prog.varsNamed 4) = true := by kernel_rfl
end Go.Proofs.YtbdhmkfdofkloaaGreatDoor
