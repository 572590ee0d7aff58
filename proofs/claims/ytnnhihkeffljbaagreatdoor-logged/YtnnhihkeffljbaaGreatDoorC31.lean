import Derived.Test.YtnnhihkeffljbaaGreatDoorRows
import Derived.ProofKit
import Derived.JoinedOf
/- THE CLOSED FACTS OF THE ROW, one by one. -/
namespace Go.Proofs.YtnnhihkeffljbaaGreatDoor
open Go

theorem band {a b : Bool} (ha : a = true) (hb : b = true) : (a && b) = true := by rw [ha, hb]; rfl
set_option maxRecDepth 100000
theorem jf01 : Rows.loggedRow.wf (OpenSpec.ofChange Rows.loggedSpec) = true := by kernel_rfl
theorem jf02 : laidOutB Tryz.prog = true := by kernel_rfl
theorem jf03 : mapsRowed Tryz.prog = true := by kernel_rfl
theorem jf04 : Tryz.f3.params.all (Tryz.prog.readableRec ·) = true := by kernel_rfl
theorem jf05 : namedTie Tryz.prog Rows.loggedRow.named Rows.loggedSpec.vars = true := by kernel_rfl
theorem jf06 : (Rows.loggedRow.stops == []) = true := by kernel_rfl
theorem jf07 : (Tryz.prog.stops == []) = true := by kernel_rfl
theorem jf08 : (Rows.loggedRow.knobs == []) = true := by kernel_rfl
theorem jf09 : (Tryz.prog.stopKnobs == []) = true := by kernel_rfl
theorem jf14 : (Rows.loggedRow.maps == (Tryz.f3.params.toList ++ Rows.loggedSpec.plain.varTypes Tryz.prog).any (Tryz.prog.mapsRec ·)) = true := by kernel_rfl
theorem jf15 : (Rows.loggedRow.ifaces == (Tryz.f3.params.toList ++ Rows.loggedSpec.plain.varTypes Tryz.prog).any (Tryz.prog.ifacesRec ·)) = true := by kernel_rfl
theorem jf16 : (Rows.loggedRow.mapsOut == Tryz.prog.mapsAmong Tryz.f3.resultTypes.toList) = true := by kernel_rfl
theorem jf17 : (Rows.loggedRow.loops == (Tryz.f3.params.toList ++ Rows.loggedSpec.plain.varTypes Tryz.prog).any (Tryz.prog.loopsFrom ·)) = true := by kernel_rfl
theorem jf18 : (Rows.loggedRow.wideKeys == (Tryz.f3.params.toList ++ Rows.loggedSpec.plain.varTypes Tryz.prog ++ Tryz.f3.resultTypes.toList).any (Tryz.prog.wideKeysFrom ·)) = true := by kernel_rfl
theorem jf19 : Rows.loggedSpec.vars.all (Tryz.prog.varReadable ·) = true := by kernel_rfl
theorem jf20 : Tryz.f3.resultTypes.all (fun t => Tryz.prog.readableRec t && decide (t < Tryz.prog.types.size)) = true := by kernel_rfl
theorem jf21 : (Rows.loggedRow.ifacesOut == Tryz.f3.resultTypes.toList.any (Tryz.prog.ifacesRec ·)) = true := by kernel_rfl
theorem jf22 : (Rows.loggedRow.loopsOut == Tryz.f3.resultTypes.toList.any (Tryz.prog.loopsFrom ·)) = true := by kernel_rfl
theorem jf23 : (Rows.loggedRow.plainKeys == Tryz.prog.plainKeys) = true := by kernel_rfl
theorem jf24 : Rows.loggedRow.shortTexts.isNone = true := by kernel_rfl
theorem jf25 : Tryz.prog.stopsHeard = true := by kernel_rfl
theorem jf26 : Tryz.prog.mayEnter = true := by kernel_rfl
theorem jf27 : (Rows.loggedRow.lifted == Tryz.prog.liftsFinal) = true := by kernel_rfl
theorem jf28 : (Tryz.prog.make == some Rows.loggedRow.make) = true := by kernel_rfl
theorem jf29 : (Rows.loggedRow.kinds == (if Rows.loggedRow.domain.isEmpty then [] else Tryz.f3.params.toList.map fun t => match Tryz.prog.underlying t with | some (.int k) => some k | _ => none)) = true := by kernel_rfl
theorem jf30 : (Rows.loggedRow.pinned == Rows.loggedRow.pinnedBy) = true := by kernel_rfl
theorem jf31 : (Rows.loggedRow.veiled == (Tryz.f3.params.toList ++ Rows.loggedSpec.plain.varTypes Tryz.prog ++ Tryz.f3.resultTypes.toList).any (Tryz.prog.veiledRec ·)) = true := by kernel_rfl
theorem jf32 : Rows.loggedRow.veiledFits Tryz.prog Tryz.f3.params.toList (Tryz.f3.params.toList ++ Rows.loggedSpec.plain.varTypes Tryz.prog ++ Tryz.f3.resultTypes.toList) = true := by kernel_rfl
theorem jf10 : (Rows.loggedRow.inPlace == Tryz.prog.inPlace 3) = true := by kernel_rfl
theorem jf11 : (Rows.loggedRow.unfollowed == Tryz.prog.unfollowed 3) = true := by kernel_rfl
theorem jf12 : (Rows.loggedRow.recurses == Tryz.prog.recurses 3) = true := by kernel_rfl
theorem jf13 : (Rows.loggedRow.named == Tryz.prog.varsNamed 3) = true := by kernel_rfl
end Go.Proofs.YtnnhihkeffljbaaGreatDoor
