import Derived.Test.YtcalalndmcemiaaGreatDoorC01
import Derived.Test.YtcalalndmcemiaaGreatDoorRows
import Derived.ProofKit
namespace Go.Proofs.YtcalalndmcemiaaGreatDoor
open Go
theorem fF{a b:Bool}(h:a=true)(hb:b=true):(a&&b)=true:=by rw[h,hb];rfl
set_option maxRecDepth 100000
theorem adK:Rows.lossyRow.wf (OpenSpec.ofChange Rows.lossySpec)=true:=by kernel_rfl
theorem adL:laidOutB Tryz.prog=true:=by kernel_rfl
theorem adM:mapsRowed Tryz.prog=true:=by kernel_rfl
theorem adN:Tryz.f4.params.all (Tryz.prog.readableRec ·)=true:=by kernel_rfl
theorem adO:namedTie Tryz.prog Rows.lossyRow.named Rows.lossySpec.vars=true:=by kernel_rfl
theorem adP:(Rows.lossyRow.stops == [])=true:=by kernel_rfl
theorem adQ:(Tryz.prog.stops == [])=true:=by kernel_rfl
theorem adR:(Rows.lossyRow.knobs == [])=true:=by kernel_rfl
theorem adS:(Tryz.prog.stopKnobs == [])=true:=by kernel_rfl
theorem lf14:(Rows.lossyRow.maps==(Tryz.f4.params.toList++Rows.lossySpec.plain.varTypes Tryz.prog).any (Tryz.prog.mapsRec ·))=true:=by kernel_rfl
theorem lf15:(Rows.lossyRow.ifaces==(Tryz.f4.params.toList++Rows.lossySpec.plain.varTypes Tryz.prog).any (Tryz.prog.ifacesRec ·))=true:=by kernel_rfl
theorem lf16:(Rows.lossyRow.mapsOut==Tryz.prog.mapsAmong Tryz.f4.resultTypes.toList)=true:=by kernel_rfl
theorem lf17:(Rows.lossyRow.loops==(Tryz.f4.params.toList++Rows.lossySpec.plain.varTypes Tryz.prog).any (Tryz.prog.loopsFrom ·))=true:=by kernel_rfl
theorem lf18:(Rows.lossyRow.wideKeys==(Tryz.f4.params.toList++Rows.lossySpec.plain.varTypes Tryz.prog++Tryz.f4.resultTypes.toList).any (Tryz.prog.wideKeysFrom ·))=true:=by kernel_rfl
theorem lf19:Rows.lossySpec.vars.all (Tryz.prog.varReadable ·)=true:=by kernel_rfl
theorem lf20:Tryz.f4.resultTypes.all (λt=>Tryz.prog.readableRec t&&decide (t<Tryz.prog.types.size))=true:=by kernel_rfl
theorem lf21:(Rows.lossyRow.ifacesOut==Tryz.f4.resultTypes.toList.any (Tryz.prog.ifacesRec ·))=true:=by kernel_rfl
theorem lf22:(Rows.lossyRow.loopsOut==Tryz.f4.resultTypes.toList.any (Tryz.prog.loopsFrom ·))=true:=by kernel_rfl
theorem lf23:(Rows.lossyRow.plainKeys==Tryz.prog.plainKeys)=true:=by kernel_rfl
theorem lf24:Rows.lossyRow.shortTexts.isNone=true:=by kernel_rfl
theorem lf25:Tryz.prog.stopsHeard=true:=by kernel_rfl
theorem lf26:Tryz.prog.mayEnter=true:=by kernel_rfl
theorem lf27:(Rows.lossyRow.lifted==Tryz.prog.liftsFinal)=true:=by kernel_rfl
theorem lf28:(Tryz.prog.make==some Rows.lossyRow.make)=true:=by kernel_rfl
theorem lf29:(Rows.lossyRow.kinds==(if Rows.lossyRow.domain.isEmpty then [] else Tryz.f4.params.toList.map λt=>match Tryz.prog.underlying t with|some (.int k)=>some k|_=>none))=true:=by kernel_rfl
theorem lf30:(Rows.lossyRow.pinned==Rows.lossyRow.pinnedBy)=true:=by kernel_rfl
theorem lf31:(Rows.lossyRow.veiled==(Tryz.f4.params.toList++Rows.lossySpec.plain.varTypes Tryz.prog++Tryz.f4.resultTypes.toList).any (Tryz.prog.veiledRec ·))=true:=by kernel_rfl
theorem lf32:Rows.lossyRow.veiledFits Tryz.prog Tryz.f4.params.toList (Tryz.f4.params.toList++Rows.lossySpec.plain.varTypes Tryz.prog++Tryz.f4.resultTypes.toList)=true:=by kernel_rfl
theorem lf10:(Rows.lossyRow.inPlace==Tryz.prog.inPlace 4)=true:=by kernel_rfl
theorem lf11:(Rows.lossyRow.unfollowed==Tryz.prog.unfollowed 4)=true:=by kernel_rfl
theorem lf12:(Rows.lossyRow.recurses==Tryz.prog.recurses 4)=true:=by kernel_rfl
theorem lf13:(Rows.lossyRow.named==Tryz.prog.varsNamed 4)=true:=by kernel_rfl
end Go.Proofs.YtcalalndmcemiaaGreatDoor
