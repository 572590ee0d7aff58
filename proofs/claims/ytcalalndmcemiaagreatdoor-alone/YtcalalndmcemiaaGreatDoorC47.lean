import Derived.Test.YtcalalndmcemiaaGreatDoorRows
import Derived.ProofKit
import Derived.JoinedOf
set_option maxRecDepth 100000
set_option maxHeartbeats 16000000
namespace Go.Proofs.YtcalalndmcemiaaGreatDoor
open Go
theorem jBz {a b:Bool} (ha:a=true) (hb:b=true):(a && b)=true:=by rw [ha,hb];rfl
theorem af01:Rows.aloneRow.wf (OpenSpec.ofChange Rows.aloneSpec)=true:=by kernel_rfl
theorem af02:laidOutB Tryz.prog=true:=by kernel_rfl
theorem af03:mapsRowed Tryz.prog=true:=by kernel_rfl
theorem af04:Tryz.f5.params.all (Tryz.prog.readableRec ·)=true:=by kernel_rfl
theorem af05:namedTie Tryz.prog Rows.aloneRow.named Rows.aloneSpec.vars=true:=by kernel_rfl
theorem af06:(Rows.aloneRow.stops == [])=true:=by kernel_rfl
theorem af07:(Tryz.prog.stops == [])=true:=by kernel_rfl
theorem af08:(Rows.aloneRow.knobs == [])=true:=by kernel_rfl
theorem af09:(Tryz.prog.stopKnobs == [])=true:=by kernel_rfl
theorem af14:(Rows.aloneRow.maps == (Tryz.f5.params.toList++Rows.aloneSpec.plain.varTypes Tryz.prog).any (Tryz.prog.mapsRec ·))=true:=by kernel_rfl
theorem af15:(Rows.aloneRow.ifaces == (Tryz.f5.params.toList++Rows.aloneSpec.plain.varTypes Tryz.prog).any (Tryz.prog.ifacesRec ·))=true:=by kernel_rfl
theorem af16:(Rows.aloneRow.mapsOut == Tryz.prog.mapsAmong Tryz.f5.resultTypes.toList)=true:=by kernel_rfl
theorem af17:(Rows.aloneRow.loops == (Tryz.f5.params.toList++Rows.aloneSpec.plain.varTypes Tryz.prog).any (Tryz.prog.loopsFrom ·))=true:=by kernel_rfl
theorem af18:(Rows.aloneRow.wideKeys == (Tryz.f5.params.toList++Rows.aloneSpec.plain.varTypes Tryz.prog++Tryz.f5.resultTypes.toList).any (Tryz.prog.wideKeysFrom ·))=true:=by kernel_rfl
theorem af19:Rows.aloneSpec.vars.all (Tryz.prog.varReadable ·)=true:=by kernel_rfl
theorem af20:Tryz.f5.resultTypes.all (fun t=>Tryz.prog.readableRec t && decide (t<Tryz.prog.types.size))=true:=by kernel_rfl
theorem af21:(Rows.aloneRow.ifacesOut == Tryz.f5.resultTypes.toList.any (Tryz.prog.ifacesRec ·))=true:=by kernel_rfl
theorem af22:(Rows.aloneRow.loopsOut == Tryz.f5.resultTypes.toList.any (Tryz.prog.loopsFrom ·))=true:=by kernel_rfl
theorem af23:(Rows.aloneRow.plainKeys == Tryz.prog.plainKeys)=true:=by kernel_rfl
theorem af24:Rows.aloneRow.shortTexts.isNone=true:=by kernel_rfl
theorem af25:Tryz.prog.stopsHeard=true:=by kernel_rfl
theorem af26:Tryz.prog.mayEnter=true:=by kernel_rfl
theorem af27:(Rows.aloneRow.lifted == Tryz.prog.liftsFinal)=true:=by kernel_rfl
theorem af28:(Tryz.prog.make == some Rows.aloneRow.make)=true:=by kernel_rfl
theorem af29:(Rows.aloneRow.kinds == (if Rows.aloneRow.domain.isEmpty then [] else Tryz.f5.params.toList.map fun t=>match Tryz.prog.underlying t with | some (.int k)=>some k | _=>none))=true:=by kernel_rfl
theorem af30:(Rows.aloneRow.pinned == Rows.aloneRow.pinnedBy)=true:=by kernel_rfl
theorem af31:(Rows.aloneRow.veiled == (Tryz.f5.params.toList++Rows.aloneSpec.plain.varTypes Tryz.prog++Tryz.f5.resultTypes.toList).any (Tryz.prog.veiledRec ·))=true:=by kernel_rfl
theorem af32:Rows.aloneRow.veiledFits Tryz.prog Tryz.f5.params.toList (Tryz.f5.params.toList++Rows.aloneSpec.plain.varTypes Tryz.prog++Tryz.f5.resultTypes.toList)=true:=by kernel_rfl
theorem af10:(Rows.aloneRow.inPlace == Tryz.prog.inPlace 5)=true:=by kernel_rfl
theorem af11:(Rows.aloneRow.unfollowed == Tryz.prog.unfollowed 5)=true:=by kernel_rfl
theorem af12:(Rows.aloneRow.recurses == Tryz.prog.recurses 5)=true:=by kernel_rfl
theorem af13:(Rows.aloneRow.named == Tryz.prog.varsNamed 5)=true:=by kernel_rfl
end Go.Proofs.YtcalalndmcemiaaGreatDoor
