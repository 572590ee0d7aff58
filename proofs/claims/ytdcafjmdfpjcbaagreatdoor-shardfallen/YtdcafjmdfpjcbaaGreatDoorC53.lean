import Derived.Test.YtdcafjmdfpjcbaaGreatDoorC01
import Derived.Test.YtdcafjmdfpjcbaaGreatDoorRows
import Derived.ProofKit
import Derived.JoinedOf
namespace Go.Proofs.YtdcafjmdfpjcbaaGreatDoor
open Go
theorem fM{a b:Bool}(c:a=true)(h:b=true):(a&&b)=true:=by rw[c,h];rfl
set_option maxRecDepth 100000
theorem aeu:Rows.shardFallenRow.wf (OpenSpec.ofChange Rows.shardFallenSpec)=true:=by kernel_rfl
theorem aev:laidOutB Tryz.prog=true:=by kernel_rfl
theorem aew:mapsRowed Tryz.prog=true:=by kernel_rfl
theorem aex:Tryz.f4.params.all (Tryz.prog.readableRec ·)=true:=by kernel_rfl
theorem aey:namedTie Tryz.prog Rows.shardFallenRow.named Rows.shardFallenSpec.vars=true:=by kernel_rfl
theorem aez:(Rows.shardFallenRow.stops == [])=true:=by kernel_rfl
theorem aeA:(Tryz.prog.stops == [])=true:=by kernel_rfl
theorem aeB:(Rows.shardFallenRow.knobs == [])=true:=by kernel_rfl
theorem aeC:(Tryz.prog.stopKnobs == [])=true:=by kernel_rfl
theorem aeD:(Rows.shardFallenRow.maps==(Tryz.f4.params.toList++Rows.shardFallenSpec.plain.varTypes Tryz.prog).any (Tryz.prog.mapsRec ·))=true:=by kernel_rfl
theorem aeE:(Rows.shardFallenRow.ifaces==(Tryz.f4.params.toList++Rows.shardFallenSpec.plain.varTypes Tryz.prog).any (Tryz.prog.ifacesRec ·))=true:=by kernel_rfl
theorem aeF:(Rows.shardFallenRow.mapsOut==Tryz.prog.mapsAmong Tryz.f4.resultTypes.toList)=true:=by kernel_rfl
theorem aeG:(Rows.shardFallenRow.loops==(Tryz.f4.params.toList++Rows.shardFallenSpec.plain.varTypes Tryz.prog).any (Tryz.prog.loopsFrom ·))=true:=by kernel_rfl
theorem aeH:(Rows.shardFallenRow.wideKeys==(Tryz.f4.params.toList++Rows.shardFallenSpec.plain.varTypes Tryz.prog++Tryz.f4.resultTypes.toList).any (Tryz.prog.wideKeysFrom ·))=true:=by kernel_rfl
theorem aeI:Rows.shardFallenSpec.vars.all (Tryz.prog.varReadable ·)=true:=by kernel_rfl
theorem aeJ:Tryz.f4.resultTypes.all (λt=>Tryz.prog.readableRec t&&decide (t<Tryz.prog.types.size))=true:=by kernel_rfl
theorem aeK:(Rows.shardFallenRow.ifacesOut==Tryz.f4.resultTypes.toList.any (Tryz.prog.ifacesRec ·))=true:=by kernel_rfl
theorem aeL:(Rows.shardFallenRow.loopsOut==Tryz.f4.resultTypes.toList.any (Tryz.prog.loopsFrom ·))=true:=by kernel_rfl
theorem aeM:(Rows.shardFallenRow.plainKeys==Tryz.prog.plainKeys)=true:=by kernel_rfl
theorem aeN:Rows.shardFallenRow.shortTexts.isNone=true:=by kernel_rfl
theorem aeO:Tryz.prog.stopsHeard=true:=by kernel_rfl
theorem aeP:Tryz.prog.mayEnter=true:=by kernel_rfl
theorem aeQ:(Rows.shardFallenRow.lifted==Tryz.prog.liftsFinal)=true:=by kernel_rfl
theorem aeR:(Tryz.prog.make==some Rows.shardFallenRow.make)=true:=by kernel_rfl
theorem aeS:(Rows.shardFallenRow.kinds==(if Rows.shardFallenRow.domain.isEmpty then [] else Tryz.f4.params.toList.map λt=>match Tryz.prog.underlying t with|some (.int k)=>some k|_=>none))=true:=by kernel_rfl
theorem aeT:(Rows.shardFallenRow.pinned==Rows.shardFallenRow.pinnedBy)=true:=by kernel_rfl
theorem aeU:(Rows.shardFallenRow.veiled==(Tryz.f4.params.toList++Rows.shardFallenSpec.plain.varTypes Tryz.prog++Tryz.f4.resultTypes.toList).any (Tryz.prog.veiledRec ·))=true:=by kernel_rfl
theorem aeV:Rows.shardFallenRow.veiledFits Tryz.prog Tryz.f4.params.toList (Tryz.f4.params.toList++Rows.shardFallenSpec.plain.varTypes Tryz.prog++Tryz.f4.resultTypes.toList)=true:=by kernel_rfl
theorem ND:(Rows.shardFallenRow.inPlace==Tryz.prog.inPlace 4)=true:=by kernel_rfl
theorem aeW:(Rows.shardFallenRow.unfollowed==Tryz.prog.unfollowed 4)=true:=by kernel_rfl
theorem aeX:(Rows.shardFallenRow.recurses==Tryz.prog.recurses 4)=true:=by kernel_rfl
theorem aeY:(Rows.shardFallenRow.named==Tryz.prog.varsNamed 4)=true:=by kernel_rfl
end Go.Proofs.YtdcafjmdfpjcbaaGreatDoor
