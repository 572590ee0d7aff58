/-
  DERIVED. GIVEN WITH THE SEED: THE CARDS: each row of YtlgeloebpdmnnaaGreatDoorRows.lean that lists a variable, with what it lists TIED to the program's text (the seventh form; the later family's looks); each row that meets fmt, with fmt's text TOLD by the authors' own Lean function (tested against real Go, not proved from fmt's source: count such statements apart). THE CARD IS WHAT COUNTS. Prove the row's statement (the work); the ties are given (YtlgeloebpdmnnaaGreatDoorTie.lean); close each card by the builder's one call (the guide's Derived/Test/ToyasCard.lean, 'card_holds'). Laid BY PROGRAM, IN A SANDBOX (cutbox-door.mjs). By AI agents, Wed Nov 11 2026. No macro, syntax, notation, axiom, sorry.
-/
import Derived.Test.YtlgeloebpdmnnaaGreatDoorRows
import GoSem.ClaimSeven
namespace Go.Proofs.YtlgeloebpdmnnaaGreatDoor
namespace Rows

/-- THE TIED CARD OF 'shardcommitlaw.LogFallen'. -/
def logFallenCard : Claim7 := { stood := { row := logFallenRow, standIns := [], harness := (true, "7587cbe09e22706a3067d4dad2bfac6ddd5c7b75560d7d364977a0f471d24b12"), looks := true }, kinds := [], alts := [], laidByText := true, laidKinds := [.data, .data, .data, .handle, .sentinel, .sentinel], laidTests := true, laidLooks := .later }
def LogFallenCardSaid : Prop := Claim7.holds Tryz.pinned (.plain (OpenSpec.ofChange logFallenSpec)) logFallenCard

/-- THE TIED CARD OF 'shardcommitlaw.ShardFallen'. -/
def shardFallenCard : Claim7 := { stood := { row := shardFallenRow, standIns := [], harness := (true, "7587cbe09e22706a3067d4dad2bfac6ddd5c7b75560d7d364977a0f471d24b12"), looks := true }, kinds := [], alts := [], laidByText := true, laidKinds := [.data, .data, .data, .handle, .sentinel, .sentinel], laidTests := true, laidLooks := .later }
def ShardFallenCardSaid : Prop := Claim7.holds Tryz.pinned (.plain (OpenSpec.ofChange shardFallenSpec)) shardFallenCard

/-- THE TIED CARD OF 'shardcommitlaw.CoordFallen'. -/
def coordFallenCard : Claim7 := { stood := { row := coordFallenRow, standIns := [], harness := (true, "7587cbe09e22706a3067d4dad2bfac6ddd5c7b75560d7d364977a0f471d24b12"), looks := true }, kinds := [], alts := [], laidByText := true, laidKinds := [.data, .data, .data, .handle, .sentinel, .sentinel], laidTests := true, laidLooks := .later }
def CoordFallenCardSaid : Prop := Claim7.holds Tryz.pinned (.plain (OpenSpec.ofChange coordFallenSpec)) coordFallenCard

/-- THE SECOND FORM's CARD OF 'shardcommitlaw.LogFallen'. -/
def logFallenUptoCard : Claim7 := { stood := { row := logFallenUptoRow, standIns := [], harness := (true, "7587cbe09e22706a3067d4dad2bfac6ddd5c7b75560d7d364977a0f471d24b12"), looks := true }, kinds := [], alts := [], laidByText := true, laidKinds := [.data, .data, .data, .handle, .sentinel, .sentinel], laidTests := true, laidLooks := .later }
def LogFallenUptoCardSaid : Prop := Claim7.holds Tryz.pinned (.plain (OpenSpec.upto logFallenSpec)) logFallenUptoCard

/-- THE SECOND FORM's CARD OF 'shardcommitlaw.ShardFallen'. -/
def shardFallenUptoCard : Claim7 := { stood := { row := shardFallenUptoRow, standIns := [], harness := (true, "7587cbe09e22706a3067d4dad2bfac6ddd5c7b75560d7d364977a0f471d24b12"), looks := true }, kinds := [], alts := [], laidByText := true, laidKinds := [.data, .data, .data, .handle, .sentinel, .sentinel], laidTests := true, laidLooks := .later }
def ShardFallenUptoCardSaid : Prop := Claim7.holds Tryz.pinned (.plain (OpenSpec.upto shardFallenSpec)) shardFallenUptoCard

/-- THE SECOND FORM's CARD OF 'shardcommitlaw.CoordFallen'. -/
def coordFallenUptoCard : Claim7 := { stood := { row := coordFallenUptoRow, standIns := [], harness := (true, "7587cbe09e22706a3067d4dad2bfac6ddd5c7b75560d7d364977a0f471d24b12"), looks := true }, kinds := [], alts := [], laidByText := true, laidKinds := [.data, .data, .data, .handle, .sentinel, .sentinel], laidTests := true, laidLooks := .later }
def CoordFallenUptoCardSaid : Prop := Claim7.holds Tryz.pinned (.plain (OpenSpec.upto coordFallenSpec)) coordFallenUptoCard
end Rows
end Go.Proofs.YtlgeloebpdmnnaaGreatDoor
