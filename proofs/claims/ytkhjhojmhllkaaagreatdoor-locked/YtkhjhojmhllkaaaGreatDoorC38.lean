import Derived.Test.YtkhjhojmhllkaaaGreatDoorRows
import Derived.ProofKit
import Derived.JoinedOf
/- THE CLOSED FACTS OF THE ROW, one by one. -/
namespace Go.Proofs.YtkhjhojmhllkaaaGreatDoor
open Go

theorem kband {a b : Bool} (ha : a = true) (hb : b = true) : (a && b) = true := by rw [ha, hb]; rfl
set_option maxRecDepth 100000
theorem kf01 : Rows.lockedRow.wf (OpenSpec.ofChange Rows.lockedSpec) = true := by kernel_rfl
theorem kf02 : laidOutB Tryz.prog = true := by kernel_rfl
theorem kf03 : mapsRowed Tryz.prog = true := by kernel_rfl
theorem kf04 : Tryz.f6.params.all (Tryz.prog.readableRec ·) = true := by kernel_rfl
theorem kf05 : namedTie Tryz.prog Rows.lockedRow.named Rows.lockedSpec.vars = true := by kernel_rfl
theorem kf06 : (Rows.lockedRow.stops == []) = true := by kernel_rfl
theorem kf07 : (Tryz.prog.stops == []) = true := by kernel_rfl
theorem kf08 : (Rows.lockedRow.knobs == []) = true := by kernel_rfl
theorem kf09 : (Tryz.prog.stopKnobs == []) = true := by kernel_rfl
theorem kf14 : (Rows.lockedRow.maps == (Tryz.f6.params.toList ++ Rows.lockedSpec.plain.varTypes Tryz.prog).any (Tryz.prog.mapsRec ·)) = true := by kernel_rfl
theorem kf15 : (Rows.lockedRow.ifaces == (Tryz.f6.params.toList ++ Rows.lockedSpec.plain.varTypes Tryz.prog).any (Tryz.prog.ifacesRec ·)) = true := by kernel_rfl
theorem kf16 : (Rows.lockedRow.mapsOut == Tryz.prog.mapsAmong Tryz.f6.resultTypes.toList) = true := by kernel_rfl
theorem kf17 : (Rows.lockedRow.loops == (Tryz.f6.params.toList ++ Rows.lockedSpec.plain.varTypes Tryz.prog).any (Tryz.prog.loopsFrom ·)) = true := by kernel_rfl
theorem kf18 : (Rows.lockedRow.wideKeys == (Tryz.f6.params.toList ++ Rows.lockedSpec.plain.varTypes Tryz.prog ++ Tryz.f6.resultTypes.toList).any (Tryz.prog.wideKeysFrom ·)) = true := by kernel_rfl
theorem kf19 : Rows.lockedSpec.vars.all (Tryz.prog.varReadable ·) = true := by kernel_rfl
theorem kf20 : Tryz.f6.resultTypes.all (fun t => Tryz.prog.readableRec t && decide (t < Tryz.prog.types.size)) = true := by kernel_rfl
theorem kf21 : (Rows.lockedRow.ifacesOut == Tryz.f6.resultTypes.toList.any (Tryz.prog.ifacesRec ·)) = true := by kernel_rfl
theorem kf22 : (Rows.lockedRow.loopsOut == Tryz.f6.resultTypes.toList.any (Tryz.prog.loopsFrom ·)) = true := by kernel_rfl
theorem kf23 : (Rows.lockedRow.plainKeys == Tryz.prog.plainKeys) = true := by kernel_rfl
theorem kf24 : Rows.lockedRow.shortTexts.isNone = true := by kernel_rfl
theorem kf25 : Tryz.prog.stopsHeard = true := by kernel_rfl
theorem kf26 : Tryz.prog.mayEnter = true := by kernel_rfl
theorem kf27 : (Rows.lockedRow.lifted == Tryz.prog.liftsFinal) = true := by kernel_rfl
theorem kf28 : (Tryz.prog.make == some Rows.lockedRow.make) = true := by kernel_rfl
theorem kf29 : (Rows.lockedRow.kinds == (if Rows.lockedRow.domain.isEmpty then [] else Tryz.f6.params.toList.map fun t => match Tryz.prog.underlying t with | some (.int k) => some k | _ => none)) = true := by kernel_rfl
theorem kf30 : (Rows.lockedRow.pinned == Rows.lockedRow.pinnedBy) = true := by kernel_rfl
theorem kf31 : (Rows.lockedRow.veiled == (Tryz.f6.params.toList ++ Rows.lockedSpec.plain.varTypes Tryz.prog ++ Tryz.f6.resultTypes.toList).any (Tryz.prog.veiledRec ·)) = true := by kernel_rfl
theorem kf32 : Rows.lockedRow.veiledFits Tryz.prog Tryz.f6.params.toList (Tryz.f6.params.toList ++ Rows.lockedSpec.plain.varTypes Tryz.prog ++ Tryz.f6.resultTypes.toList) = true := by kernel_rfl
theorem kf10 : (Rows.lockedRow.inPlace == Tryz.prog.inPlace 6) = true := by kernel_rfl
theorem kf11 : (Rows.lockedRow.unfollowed == Tryz.prog.unfollowed 6) = true := by kernel_rfl
theorem kf12 : (Rows.lockedRow.recurses == Tryz.prog.recurses 6) = true := by kernel_rfl
theorem kf13 : (Rows.lockedRow.named == Tryz.prog.varsNamed 6) = true := by kernel_rfl
end Go.Proofs.YtkhjhojmhllkaaaGreatDoor
