import Derived.Test.YtkhjhojmhllkaaaGreatDoorRows
import Derived.ProofKit
import Derived.JoinedOf
/- THE CLOSED FACTS OF THE ROW, one by one. -/
namespace Go.Proofs.YtkhjhojmhllkaaaGreatDoor
open Go

theorem uband {a b : Bool} (ha : a = true) (hb : b = true) : (a && b) = true := by rw [ha, hb]; rfl
set_option maxRecDepth 100000
theorem uf01 : Rows.unseenRow.wf (OpenSpec.ofChange Rows.unseenSpec) = true := by kernel_rfl
theorem uf02 : laidOutB Tryz.prog = true := by kernel_rfl
theorem uf03 : mapsRowed Tryz.prog = true := by kernel_rfl
theorem uf04 : Tryz.f7.params.all (Tryz.prog.readableRec ·) = true := by kernel_rfl
theorem uf05 : namedTie Tryz.prog Rows.unseenRow.named Rows.unseenSpec.vars = true := by kernel_rfl
theorem uf06 : (Rows.unseenRow.stops == []) = true := by kernel_rfl
theorem uf07 : (Tryz.prog.stops == []) = true := by kernel_rfl
theorem uf08 : (Rows.unseenRow.knobs == []) = true := by kernel_rfl
theorem uf09 : (Tryz.prog.stopKnobs == []) = true := by kernel_rfl
theorem uf14 : (Rows.unseenRow.maps == (Tryz.f7.params.toList ++ Rows.unseenSpec.plain.varTypes Tryz.prog).any (Tryz.prog.mapsRec ·)) = true := by kernel_rfl
theorem uf15 : (Rows.unseenRow.ifaces == (Tryz.f7.params.toList ++ Rows.unseenSpec.plain.varTypes Tryz.prog).any (Tryz.prog.ifacesRec ·)) = true := by kernel_rfl
theorem uf16 : (Rows.unseenRow.mapsOut == Tryz.prog.mapsAmong Tryz.f7.resultTypes.toList) = true := by kernel_rfl
theorem uf17 : (Rows.unseenRow.loops == (Tryz.f7.params.toList ++ Rows.unseenSpec.plain.varTypes Tryz.prog).any (Tryz.prog.loopsFrom ·)) = true := by kernel_rfl
theorem uf18 : (Rows.unseenRow.wideKeys == (Tryz.f7.params.toList ++ Rows.unseenSpec.plain.varTypes Tryz.prog ++ Tryz.f7.resultTypes.toList).any (Tryz.prog.wideKeysFrom ·)) = true := by kernel_rfl
theorem uf19 : Rows.unseenSpec.vars.all (Tryz.prog.varReadable ·) = true := by kernel_rfl
theorem uf20 : Tryz.f7.resultTypes.all (fun t => Tryz.prog.readableRec t && decide (t < Tryz.prog.types.size)) = true := by kernel_rfl
theorem uf21 : (Rows.unseenRow.ifacesOut == Tryz.f7.resultTypes.toList.any (Tryz.prog.ifacesRec ·)) = true := by kernel_rfl
theorem uf22 : (Rows.unseenRow.loopsOut == Tryz.f7.resultTypes.toList.any (Tryz.prog.loopsFrom ·)) = true := by kernel_rfl
theorem uf23 : (Rows.unseenRow.plainKeys == Tryz.prog.plainKeys) = true := by kernel_rfl
theorem uf24 : Rows.unseenRow.shortTexts.isNone = true := by kernel_rfl
theorem uf25 : Tryz.prog.stopsHeard = true := by kernel_rfl
theorem uf26 : Tryz.prog.mayEnter = true := by kernel_rfl
theorem uf27 : (Rows.unseenRow.lifted == Tryz.prog.liftsFinal) = true := by kernel_rfl
theorem uf28 : (Tryz.prog.make == some Rows.unseenRow.make) = true := by kernel_rfl
theorem uf29 : (Rows.unseenRow.kinds == (if Rows.unseenRow.domain.isEmpty then [] else Tryz.f7.params.toList.map fun t => match Tryz.prog.underlying t with | some (.int k) => some k | _ => none)) = true := by kernel_rfl
theorem uf30 : (Rows.unseenRow.pinned == Rows.unseenRow.pinnedBy) = true := by kernel_rfl
theorem uf31 : (Rows.unseenRow.veiled == (Tryz.f7.params.toList ++ Rows.unseenSpec.plain.varTypes Tryz.prog ++ Tryz.f7.resultTypes.toList).any (Tryz.prog.veiledRec ·)) = true := by kernel_rfl
theorem uf32 : Rows.unseenRow.veiledFits Tryz.prog Tryz.f7.params.toList (Tryz.f7.params.toList ++ Rows.unseenSpec.plain.varTypes Tryz.prog ++ Tryz.f7.resultTypes.toList) = true := by kernel_rfl
theorem uf10 : (Rows.unseenRow.inPlace == Tryz.prog.inPlace 7) = true := by kernel_rfl
theorem uf11 : (Rows.unseenRow.unfollowed == Tryz.prog.unfollowed 7) = true := by kernel_rfl
theorem uf12 : (Rows.unseenRow.recurses == Tryz.prog.recurses 7) = true := by kernel_rfl
theorem uf13 : (Rows.unseenRow.named == Tryz.prog.varsNamed 7) = true := by kernel_rfl
end Go.Proofs.YtkhjhojmhllkaaaGreatDoor
