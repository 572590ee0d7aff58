import Derived.Test.YtejiankgafjppaaGreatDoorRows
import Derived.ProofKit
import Derived.JoinedOf
namespace Go.Proofs.YtejiankgafjppaaGreatDoor
open Go
theorem wband {a b:Bool} (ha:a=true) (hb:b=true):(a && b)=true:=by rw [ha,hb];rfl
set_option maxRecDepth 100000
theorem wf01:Rows.coordinatedRow.wf (OpenSpec.ofChange Rows.coordinatedSpec)=true:=by kernel_rfl
theorem wf02:laidOutB Tryz.prog=true:=by kernel_rfl
theorem wf03:mapsRowed Tryz.prog=true:=by kernel_rfl
theorem wf04:Tryz.f7.params.all (Tryz.prog.readableRec ·)=true:=by kernel_rfl
theorem wf05:namedTie Tryz.prog Rows.coordinatedRow.named Rows.coordinatedSpec.vars=true:=by kernel_rfl
theorem wf06:(Rows.coordinatedRow.stops == [])=true:=by kernel_rfl
theorem wf07:(Tryz.prog.stops == [])=true:=by kernel_rfl
theorem wf08:(Rows.coordinatedRow.knobs == [])=true:=by kernel_rfl
theorem wf09:(Tryz.prog.stopKnobs == [])=true:=by kernel_rfl
theorem wf14:(Rows.coordinatedRow.maps == (Tryz.f7.params.toList++Rows.coordinatedSpec.plain.varTypes Tryz.prog).any (Tryz.prog.mapsRec ·))=true:=by kernel_rfl
theorem wf15:(Rows.coordinatedRow.ifaces == (Tryz.f7.params.toList++Rows.coordinatedSpec.plain.varTypes Tryz.prog).any (Tryz.prog.ifacesRec ·))=true:=by kernel_rfl
theorem wf16:(Rows.coordinatedRow.mapsOut == Tryz.prog.mapsAmong Tryz.f7.resultTypes.toList)=true:=by kernel_rfl
theorem wf17:(Rows.coordinatedRow.loops == (Tryz.f7.params.toList++Rows.coordinatedSpec.plain.varTypes Tryz.prog).any (Tryz.prog.loopsFrom ·))=true:=by kernel_rfl
theorem wf18:(Rows.coordinatedRow.wideKeys == (Tryz.f7.params.toList++Rows.coordinatedSpec.plain.varTypes Tryz.prog++Tryz.f7.resultTypes.toList).any (Tryz.prog.wideKeysFrom ·))=true:=by kernel_rfl
theorem wf19:Rows.coordinatedSpec.vars.all (Tryz.prog.varReadable ·)=true:=by kernel_rfl
theorem wf20:Tryz.f7.resultTypes.all (fun t=>Tryz.prog.readableRec t && decide (t<Tryz.prog.types.size))=true:=by kernel_rfl
theorem wf21:(Rows.coordinatedRow.ifacesOut == Tryz.f7.resultTypes.toList.any (Tryz.prog.ifacesRec ·))=true:=by kernel_rfl
theorem wf22:(Rows.coordinatedRow.loopsOut == Tryz.f7.resultTypes.toList.any (Tryz.prog.loopsFrom ·))=true:=by kernel_rfl
theorem wf23:(Rows.coordinatedRow.plainKeys == Tryz.prog.plainKeys)=true:=by kernel_rfl
theorem wf24:Rows.coordinatedRow.shortTexts.isNone=true:=by kernel_rfl
theorem wf25:Tryz.prog.stopsHeard=true:=by kernel_rfl
theorem wf26:Tryz.prog.mayEnter=true:=by kernel_rfl
theorem wf27:(Rows.coordinatedRow.lifted == Tryz.prog.liftsFinal)=true:=by kernel_rfl
theorem wf28:(Tryz.prog.make == some Rows.coordinatedRow.make)=true:=by kernel_rfl
theorem wf29:(Rows.coordinatedRow.kinds == (if Rows.coordinatedRow.domain.isEmpty then [] else Tryz.f7.params.toList.map fun t=>match Tryz.prog.underlying t with | some (.int k)=>some k | _=>none))=true:=by kernel_rfl
theorem wf30:(Rows.coordinatedRow.pinned == Rows.coordinatedRow.pinnedBy)=true:=by kernel_rfl
theorem wf31:(Rows.coordinatedRow.veiled == (Tryz.f7.params.toList++Rows.coordinatedSpec.plain.varTypes Tryz.prog++Tryz.f7.resultTypes.toList).any (Tryz.prog.veiledRec ·))=true:=by kernel_rfl
theorem wf32:Rows.coordinatedRow.veiledFits Tryz.prog Tryz.f7.params.toList (Tryz.f7.params.toList++Rows.coordinatedSpec.plain.varTypes Tryz.prog++Tryz.f7.resultTypes.toList)=true:=by kernel_rfl
theorem wf10:(Rows.coordinatedRow.inPlace == Tryz.prog.inPlace 7)=true:=by kernel_rfl
theorem wf11:(Rows.coordinatedRow.unfollowed == Tryz.prog.unfollowed 7)=true:=by kernel_rfl
theorem wf12:(Rows.coordinatedRow.recurses == Tryz.prog.recurses 7)=true:=by kernel_rfl
theorem wf13:(Rows.coordinatedRow.named == Tryz.prog.varsNamed 7)=true:=by kernel_rfl
end Go.Proofs.YtejiankgafjppaaGreatDoor
