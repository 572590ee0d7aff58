import Derived.Test.YtlgeloebpdmnnaaGreatDoorC46
namespace Go.Proofs.YtlgeloebpdmnnaaGreatDoor
open Go Go.Proofs.Tryz
set_option maxRecDepth 100000
theorem kn:Rows.coordFallenRow.wfByText (OpenSpec.ofChange Rows.coordFallenSpec)=true:=eu
theorem iy:Tryz.pinned.checked.prog.mainIs=some (true, "7587cbe09e22706a3067d4dad2bfac6ddd5c7b75560d7d364977a0f471d24b12".toList):=eu
theorem mH:Tryz.prog.funcNamed "shardcommit/shardcommitlaw.CoordFallen"=some 5:=eu
theorem CA:true=Tryz.pinned.checked.prog.looks []:=eu
theorem Pm:Tryz.prog.wantsStandIn 22=false:=eu
theorem yo:false=Rows.coordFallenRow.goesBy Tryz.pinned.checked.prog:=eu
theorem coordFallen_card_holds:Rows.CoordFallenCardSaid:=
 Claim7.holds_tied_plain_at .later [] [.data,.data,.data,.handle,.sentinel,.sentinel] true (true, "7587cbe09e22706a3067d4dad2bfac6ddd5c7b75560d7d364977a0f471d24b12") true
  xP (λ_ h=>by cases h) kn (λ_ h=>by cases h) coordFallen_row_tie rfl ⟨rfl,rfl⟩ iy rfl
  (λf n hf o=>by
   obtain rfl:f=5:=Option.some.inj (mH.symm.trans hf) |>.symm;obtain rfl:n=f5:=(Option.some.inj<|Tryz.func5.symm.trans o).symm
   exact⟨CA,λj t a=>by
    rw[params5]at a;obtain _|j:=j
    .obtain rfl:t=22:=by simpa using a.symm
     exact Pm
    .simp at a⟩)
  yo
#print axioms coordFallen_card_holds
end Go.Proofs.YtlgeloebpdmnnaaGreatDoor
