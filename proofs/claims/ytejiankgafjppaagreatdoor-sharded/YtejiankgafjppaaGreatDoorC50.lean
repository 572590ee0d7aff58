import Derived.Test.YtejiankgafjppaaGreatDoorRows
import Derived.ProofKit
import Derived.JoinedOf
/- THE CLOSED FACTS OF THE ROW, one by one. -/
namespace Go.Proofs.YtejiankgafjppaaGreatDoor
open Go

theorem qband {a b : Bool} (ha : a = true) (hb : b = true) : (a && b) = true := by rw [ha, hb]; rfl
set_option maxRecDepth 100000
theorem qf01 : Rows.shardedRow.wf (OpenSpec.ofChange Rows.shardedSpec) = true := by kernel_rfl
theorem qf02 : laidOutB Tryz.prog = true := by kernel_rfl
theorem qf03 : mapsRowed Tryz.prog = true := by kernel_rfl
theorem qf04 : Tryz.f5.params.all (Tryz.prog.readableRec ·) = true := by kernel_rfl
theorem qf05 : namedTie Tryz.prog Rows.shardedRow.named Rows.shardedSpec.vars = true := by kernel_rfl
theorem qf06 : (Rows.shardedRow.stops == []) = true := by kernel_rfl
theorem qf07 : (Tryz.prog.stops == []) = true := by kernel_rfl
theorem qf08 : (Rows.shardedRow.knobs == []) = true := by kernel_rfl
theorem qf09 : (Tryz.prog.stopKnobs == []) = true := by kernel_rfl
theorem qf14 : (Rows.shardedRow.maps == (Tryz.f5.params.toList ++ Rows.shardedSpec.plain.varTypes Tryz.prog).any (Tryz.prog.mapsRec ·)) = true := by kernel_rfl
theorem qf15 : (Rows.shardedRow.ifaces == (Tryz.f5.params.toList ++ Rows.shardedSpec.plain.varTypes Tryz.prog).any (Tryz.prog.ifacesRec ·)) = true := by kernel_rfl
theorem qf16 : (Rows.shardedRow.mapsOut == Tryz.prog.mapsAmong Tryz.f5.resultTypes.toList) = true := by kernel_rfl
theorem qf17 : (Rows.shardedRow.loops == (Tryz.f5.params.toList ++ Rows.shardedSpec.plain.varTypes Tryz.prog).any (Tryz.prog.loopsFrom ·)) = true := by kernel_rfl
theorem qf18 : (Rows.shardedRow.wideKeys == (Tryz.f5.params.toList ++ Rows.shardedSpec.plain.varTypes Tryz.prog ++ Tryz.f5.resultTypes.toList).any (Tryz.prog.wideKeysFrom ·)) = true := by kernel_rfl
theorem qf19 : Rows.shardedSpec.vars.all (Tryz.prog.varReadable ·) = true := by kernel_rfl
theorem qf20 : Tryz.f5.resultTypes.all (fun t => Tryz.prog.readableRec t && decide (t < Tryz.prog.types.size)) = true := by kernel_rfl
theorem qf21 : (Rows.shardedRow.ifacesOut == Tryz.f5.resultTypes.toList.any (Tryz.prog.ifacesRec ·)) = true := by kernel_rfl
theorem qf22 : (Rows.shardedRow.loopsOut == Tryz.f5.resultTypes.toList.any (Tryz.prog.loopsFrom ·)) = true := by kernel_rfl
theorem qf23 : (Rows.shardedRow.plainKeys == Tryz.prog.plainKeys) = true := by kernel_rfl
theorem qf24 : Rows.shardedRow.shortTexts.isNone = true := by kernel_rfl
theorem qf25 : Tryz.prog.stopsHeard = true := by kernel_rfl
theorem qf26 : Tryz.prog.mayEnter = true := by kernel_rfl
theorem qf27 : (Rows.shardedRow.lifted == Tryz.prog.liftsFinal) = true := by kernel_rfl
theorem qf28 : (Tryz.prog.make == some Rows.shardedRow.make) = true := by kernel_rfl
theorem qf29 : (Rows.shardedRow.kinds == (if Rows.shardedRow.domain.isEmpty then [] else Tryz.f5.params.toList.map fun t => match Tryz.prog.underlying t with | some (.int k) => some k | _ => none)) = true := by kernel_rfl
theorem qf30 : (Rows.shardedRow.pinned == Rows.shardedRow.pinnedBy) = true := by kernel_rfl
theorem qf31 : (Rows.shardedRow.veiled == (Tryz.f5.params.toList ++ Rows.shardedSpec.plain.varTypes Tryz.prog ++ Tryz.f5.resultTypes.toList).any (Tryz.prog.veiledRec ·)) = true := by kernel_rfl
theorem qf32 : Rows.shardedRow.veiledFits Tryz.prog Tryz.f5.params.toList (Tryz.f5.params.toList ++ Rows.shardedSpec.plain.varTypes Tryz.prog ++ Tryz.f5.resultTypes.toList) = true := by kernel_rfl
theorem qf10 : (Rows.shardedRow.inPlace == Tryz.prog.inPlace 5) = true := by kernel_rfl
theorem qf11 : (Rows.shardedRow.unfollowed == Tryz.prog.unfollowed 5) = true := by kernel_rfl
theorem qf12 : (Rows.shardedRow.recurses == Tryz.prog.recurses 5) = true := by kernel_rfl
theorem qf13 : (Rows.shardedRow.named == Tryz.prog.varsNamed 5) = true := by kernel_rfl
end Go.Proofs.YtejiankgafjppaaGreatDoor
