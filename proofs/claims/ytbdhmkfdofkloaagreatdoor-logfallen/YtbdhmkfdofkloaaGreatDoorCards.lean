/-
  DERIVED. GIVEN WITH THE SEED: THE CARDS: each row of YtbdhmkfdofkloaaGreatDoorRows.lean that lists a variable, with what it lists TIED to the program's text (the seventh form; the later family's looks); each row that meets fmt, with fmt's text TOLD by the authors' own Lean function (tested against real Go, not proved from fmt's source: count such statements apart). THE CARD IS WHAT COUNTS. Prove the row's statement (the work); the ties are given (YtbdhmkfdofkloaaGreatDoorTie.lean); close each card by the builder's one call (the guide's Derived/Test/ToyasCard.lean, 'card_holds'). Laid BY PROGRAM, IN A SANDBOX (cutbox-door.mjs). By AI agents, Wed Nov 11 2026. No macro, syntax, notation, axiom, sorry.
-/
import Derived.Test.YtbdhmkfdofkloaaGreatDoorRows
import GoSem.ClaimSeven
namespace Go.Proofs.YtbdhmkfdofkloaaGreatDoor
namespace Rows

/-- THE TIED CARD OF 'shardcommitlaw.LogFallen'. -/
def logFallenCard : Claim7 := { stood := { row := logFallenRow, standIns := [], harness := (true, "d755f3e34c93a92172081e4184fe0af71f51a2a06601b601d0e8c6efd0dd96b6"), looks := true }, kinds := [], alts := [], laidByText := true, laidKinds := [.data, .data, .data, .handle, .sentinel, .sentinel], laidTests := true, laidLooks := .later }
def LogFallenCardSaid : Prop := Claim7.holds Tryz.pinned (.plain (OpenSpec.ofChange logFallenSpec)) logFallenCard

/-- THE TIED CARD OF 'shardcommitkeep.Kept'. -/
def keptCard : Claim7 := { stood := { row := keptRow, standIns := [], harness := (true, "d755f3e34c93a92172081e4184fe0af71f51a2a06601b601d0e8c6efd0dd96b6"), looks := true }, kinds := [], alts := [], laidByText := true, laidKinds := [.data, .data, .data, .handle, .sentinel, .sentinel], laidTests := true, laidLooks := .later }
def KeptCardSaid : Prop := Claim7.holds Tryz.pinned (.plain (OpenSpec.ofChange keptSpec)) keptCard

/-- THE SECOND FORM's CARD OF 'shardcommitlaw.LogFallen'. -/
def logFallenUptoCard : Claim7 := { stood := { row := logFallenUptoRow, standIns := [], harness := (true, "d755f3e34c93a92172081e4184fe0af71f51a2a06601b601d0e8c6efd0dd96b6"), looks := true }, kinds := [], alts := [], laidByText := true, laidKinds := [.data, .data, .data, .handle, .sentinel, .sentinel], laidTests := true, laidLooks := .later }
def LogFallenUptoCardSaid : Prop := Claim7.holds Tryz.pinned (.plain (OpenSpec.upto logFallenSpec)) logFallenUptoCard

/-- THE SECOND FORM's CARD OF 'shardcommitkeep.Kept'. -/
def keptUptoCard : Claim7 := { stood := { row := keptUptoRow, standIns := [], harness := (true, "d755f3e34c93a92172081e4184fe0af71f51a2a06601b601d0e8c6efd0dd96b6"), looks := true }, kinds := [], alts := [], laidByText := true, laidKinds := [.data, .data, .data, .handle, .sentinel, .sentinel], laidTests := true, laidLooks := .later }
def KeptUptoCardSaid : Prop := Claim7.holds Tryz.pinned (.plain (OpenSpec.upto keptSpec)) keptUptoCard
end Rows
end Go.Proofs.YtbdhmkfdofkloaaGreatDoor
