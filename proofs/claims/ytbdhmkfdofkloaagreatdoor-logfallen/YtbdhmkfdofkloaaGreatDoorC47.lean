import Derived.Test.YtbdhmkfdofkloaaGreatDoorRows
import Derived.ProofKit
import Derived.JoinedOf
/- THE CLOSED FACTS OF THE ROW, one by one. -/
namespace Go.Proofs.YtbdhmkfdofkloaaGreatDoor
open Go

theorem fband {a b : Bool} (ha : a = true) (hb : b = true) : (a && b) = true := by rw [ha, hb]; rfl
set_option maxRecDepth 100000
theorem ff01 : Rows.logFallenRow.wf (OpenSpec.ofChange Rows.logFallenSpec) = true := by kernel_rfl
theorem ff02 : laidOutB Tryz.prog = true := by kernel_rfl
theorem ff03 : mapsRowed Tryz.prog = true := by kernel_rfl
theorem ff04 : Tryz.f3.params.all (Tryz.prog.readableRec ·) = true := by kernel_rfl
theorem ff05 : namedTie Tryz.prog Rows.logFallenRow.named Rows.logFallenSpec.vars = true := by kernel_rfl
theorem ff06 : (Rows.logFallenRow.stops == []) = true := by kernel_rfl
theorem ff07 : (Tryz.prog.stops == []) = true := by kernel_rfl
theorem ff08 : (Rows.logFallenRow.knobs == []) = true := by kernel_rfl
theorem ff09 : (Tryz.prog.stopKnobs == []) = true := by kernel_rfl
theorem ff14 : (Rows.logFallenRow.maps == (Tryz.f3.params.toList ++ Rows.logFallenSpec.plain.varTypes Tryz.prog).any (Tryz.prog.mapsRec ·)) = true := by kernel_rfl
theorem ff15 : (Rows.logFallenRow.ifaces == (Tryz.f3.params.toList ++ Rows.logFallenSpec.plain.varTypes Tryz.prog).any (Tryz.prog.ifacesRec ·)) = true := by kernel_rfl
theorem ff16 : (Rows.logFallenRow.mapsOut == Tryz.prog.mapsAmong Tryz.f3.resultTypes.toList) = true := by kernel_rfl
theorem ff17 : (Rows.logFallenRow.loops == (Tryz.f3.params.toList ++ Rows.logFallenSpec.plain.varTypes Tryz.prog).any (Tryz.prog.loopsFrom ·)) = true := by kernel_rfl
theorem ff18 : (Rows.logFallenRow.wideKeys == (Tryz.f3.params.toList ++ Rows.logFallenSpec.plain.varTypes Tryz.prog ++ Tryz.f3.resultTypes.toList).any (Tryz.prog.wideKeysFrom ·)) = true := by kernel_rfl
theorem ff19 : Rows.logFallenSpec.vars.all (Tryz.prog.varReadable ·) = true := by kernel_rfl
theorem ff20 : Tryz.f3.resultTypes.all (fun t => Tryz.prog.readableRec t && decide (t < Tryz.prog.types.size)) = true := by kernel_rfl
theorem ff21 : (Rows.logFallenRow.ifacesOut == Tryz.f3.resultTypes.toList.any (Tryz.prog.ifacesRec ·)) = true := by kernel_rfl
theorem ff22 : (Rows.logFallenRow.loopsOut == Tryz.f3.resultTypes.toList.any (Tryz.prog.loopsFrom ·)) = true := by kernel_rfl
theorem ff23 : (Rows.logFallenRow.plainKeys == Tryz.prog.plainKeys) = true := by kernel_rfl
theorem ff24 : Rows.logFallenRow.shortTexts.isNone = true := by kernel_rfl
theorem ff25 : Tryz.prog.stopsHeard = true := by kernel_rfl
theorem ff26 : Tryz.prog.mayEnter = true := by kernel_rfl
theorem ff27 : (Rows.logFallenRow.lifted == Tryz.prog.liftsFinal) = true := by kernel_rfl
theorem ff28 : (Tryz.prog.make == some Rows.logFallenRow.make) = true := by kernel_rfl
theorem ff29 : (Rows.logFallenRow.kinds == (if Rows.logFallenRow.domain.isEmpty then [] else Tryz.f3.params.toList.map fun t => match Tryz.prog.underlying t with | some (.int k) => some k | _ => none)) = true := by kernel_rfl
theorem ff30 : (Rows.logFallenRow.pinned == Rows.logFallenRow.pinnedBy) = true := by kernel_rfl
theorem ff31 : (Rows.logFallenRow.veiled == (Tryz.f3.params.toList ++ Rows.logFallenSpec.plain.varTypes Tryz.prog ++ Tryz.f3.resultTypes.toList).any (Tryz.prog.veiledRec ·)) = true := by kernel_rfl
theorem ff32 : Rows.logFallenRow.veiledFits Tryz.prog Tryz.f3.params.toList (Tryz.f3.params.toList ++ Rows.logFallenSpec.plain.varTypes Tryz.prog ++ Tryz.f3.resultTypes.toList) = true := by kernel_rfl
theorem ff10 : (Rows.logFallenRow.inPlace == Tryz.prog.inPlace 3) = true := by kernel_rfl
theorem ff11 : (Rows.logFallenRow.unfollowed == Tryz.prog.unfollowed 3) = true := by kernel_rfl
theorem ff12 : (Rows.logFallenRow.recurses == Tryz.prog.recurses 3) = true := by kernel_rfl
theorem ff13 : (Rows.logFallenRow.named == Tryz.prog.varsNamed 3) = true := by kernel_rfl
end Go.Proofs.YtbdhmkfdofkloaaGreatDoor
