import Derived.Test.YtlgeloebpdmnnaaGreatDoorC01
import Derived.Test.YtlgeloebpdmnnaaGreatDoorRows
import Derived.ProofKit
namespace Go.Proofs.YtlgeloebpdmnnaaGreatDoor
open Go
theorem gJ{a b:Bool}(h:a=true)(hb:b=true):(a&&b)=true:=by rw[h,hb];rfl
set_option maxRecDepth 100000
theorem agx:Rows.coordFallenRow.wf (OpenSpec.ofChange Rows.coordFallenSpec)=true:=by kernel_rfl
theorem agy:laidOutB Tryz.prog=true:=by kernel_rfl
theorem agz:mapsRowed Tryz.prog=true:=by kernel_rfl
theorem agA:Tryz.f5.params.all (Tryz.prog.readableRec ·)=true:=by kernel_rfl
theorem agB:namedTie Tryz.prog Rows.coordFallenRow.named Rows.coordFallenSpec.vars=true:=by kernel_rfl
theorem agC:(Rows.coordFallenRow.stops == [])=true:=by kernel_rfl
theorem agD:(Tryz.prog.stops == [])=true:=by kernel_rfl
theorem agE:(Rows.coordFallenRow.knobs == [])=true:=by kernel_rfl
theorem agF:(Tryz.prog.stopKnobs == [])=true:=by kernel_rfl
theorem agG:(Rows.coordFallenRow.maps==(Tryz.f5.params.toList++Rows.coordFallenSpec.plain.varTypes Tryz.prog).any (Tryz.prog.mapsRec ·))=true:=by kernel_rfl
theorem agH:(Rows.coordFallenRow.ifaces==(Tryz.f5.params.toList++Rows.coordFallenSpec.plain.varTypes Tryz.prog).any (Tryz.prog.ifacesRec ·))=true:=by kernel_rfl
theorem agI:(Rows.coordFallenRow.mapsOut==Tryz.prog.mapsAmong Tryz.f5.resultTypes.toList)=true:=by kernel_rfl
theorem agJ:(Rows.coordFallenRow.loops==(Tryz.f5.params.toList++Rows.coordFallenSpec.plain.varTypes Tryz.prog).any (Tryz.prog.loopsFrom ·))=true:=by kernel_rfl
theorem agK:(Rows.coordFallenRow.wideKeys==(Tryz.f5.params.toList++Rows.coordFallenSpec.plain.varTypes Tryz.prog++Tryz.f5.resultTypes.toList).any (Tryz.prog.wideKeysFrom ·))=true:=by kernel_rfl
theorem agL:Rows.coordFallenSpec.vars.all (Tryz.prog.varReadable ·)=true:=by kernel_rfl
theorem agM:Tryz.f5.resultTypes.all (λt=>Tryz.prog.readableRec t&&decide (t<Tryz.prog.types.size))=true:=by kernel_rfl
theorem agN:(Rows.coordFallenRow.ifacesOut==Tryz.f5.resultTypes.toList.any (Tryz.prog.ifacesRec ·))=true:=by kernel_rfl
theorem agO:(Rows.coordFallenRow.loopsOut==Tryz.f5.resultTypes.toList.any (Tryz.prog.loopsFrom ·))=true:=by kernel_rfl
theorem agP:(Rows.coordFallenRow.plainKeys==Tryz.prog.plainKeys)=true:=by kernel_rfl
theorem agQ:Rows.coordFallenRow.shortTexts.isNone=true:=by kernel_rfl
theorem agR:Tryz.prog.stopsHeard=true:=by kernel_rfl
theorem agS:Tryz.prog.mayEnter=true:=by kernel_rfl
theorem agT:(Rows.coordFallenRow.lifted==Tryz.prog.liftsFinal)=true:=by kernel_rfl
theorem agU:(Tryz.prog.make==some Rows.coordFallenRow.make)=true:=by kernel_rfl
theorem agV:(Rows.coordFallenRow.kinds==(if Rows.coordFallenRow.domain.isEmpty then [] else Tryz.f5.params.toList.map λt=>match Tryz.prog.underlying t with|some (.int k)=>some k|_=>none))=true:=by kernel_rfl
theorem agW:(Rows.coordFallenRow.pinned==Rows.coordFallenRow.pinnedBy)=true:=by kernel_rfl
theorem agX:(Rows.coordFallenRow.veiled==(Tryz.f5.params.toList++Rows.coordFallenSpec.plain.varTypes Tryz.prog++Tryz.f5.resultTypes.toList).any (Tryz.prog.veiledRec ·))=true:=by kernel_rfl
theorem agY:Rows.coordFallenRow.veiledFits Tryz.prog Tryz.f5.params.toList (Tryz.f5.params.toList++Rows.coordFallenSpec.plain.varTypes Tryz.prog++Tryz.f5.resultTypes.toList)=true:=by kernel_rfl
theorem agZ:(Rows.coordFallenRow.inPlace==Tryz.prog.inPlace 5)=true:=by kernel_rfl
theorem ag0:(Rows.coordFallenRow.unfollowed==Tryz.prog.unfollowed 5)=true:=by kernel_rfl
theorem ag1:(Rows.coordFallenRow.recurses==Tryz.prog.recurses 5)=true:=by kernel_rfl
theorem ag2:(Rows.coordFallenRow.named==Tryz.prog.varsNamed 5)=true:=by kernel_rfl
end Go.Proofs.YtlgeloebpdmnnaaGreatDoor
