/-
  DERIVED. GIVEN WITH THE SEED: THE CARDS: each row of YtkhjhojmhllkaaaGreatDoorRows.lean that lists a variable, with what it lists TIED to the program's text (the seventh form; the later family's looks); each row that meets fmt, with fmt's text TOLD by the authors' own Lean function (tested against real Go, not proved from fmt's source: count such statements apart). THE CARD IS WHAT COUNTS. Prove the row's statement (the work); the ties are given (YtkhjhojmhllkaaaGreatDoorTie.lean); close each card by the builder's one call (the guide's Derived/Test/ToyasCard.lean, 'card_holds'). Laid BY PROGRAM, IN A SANDBOX (cutbox-door.mjs). By AI agents, Wed Nov 11 2026. No macro, syntax, notation, axiom, sorry.
-/
import Derived.Test.YtkhjhojmhllkaaaGreatDoorRows
import GoSem.ClaimSeven
namespace Go.Proofs.YtkhjhojmhllkaaaGreatDoor
namespace Rows

/-- THE TIED CARD OF 'shardcommitlaw.Logged'. -/
def loggedCard : Claim7 := { stood := { row := loggedRow, standIns := [], harness := (true, "cf1e26aa8b59cd2cddb56d3ee477ef01ddcd980066bc16c37255d9a0cad2653c"), looks := true }, kinds := [], alts := [], laidByText := true, laidKinds := [.data, .data, .data, .handle, .sentinel, .sentinel], laidTests := true, laidLooks := .later }
def LoggedCardSaid : Prop := Claim7.holds Tryz.pinned (.plain (OpenSpec.ofChange loggedSpec)) loggedCard

/-- THE TIED CARD OF 'shardcommitlaw.LogFallen'. -/
def logFallenCard : Claim7 := { stood := { row := logFallenRow, standIns := [], harness := (true, "cf1e26aa8b59cd2cddb56d3ee477ef01ddcd980066bc16c37255d9a0cad2653c"), looks := true }, kinds := [], alts := [], laidByText := true, laidKinds := [.data, .data, .data, .handle, .sentinel, .sentinel], laidTests := true, laidLooks := .later }
def LogFallenCardSaid : Prop := Claim7.holds Tryz.pinned (.plain (OpenSpec.ofChange logFallenSpec)) logFallenCard

/-- THE TIED CARD OF 'shardcommitlaw.Sharded'. -/
def shardedCard : Claim7 := { stood := { row := shardedRow, standIns := [], harness := (true, "cf1e26aa8b59cd2cddb56d3ee477ef01ddcd980066bc16c37255d9a0cad2653c"), looks := true }, kinds := [], alts := [], laidByText := true, laidKinds := [.data, .data, .data, .handle, .sentinel, .sentinel], laidTests := true, laidLooks := .later }
def ShardedCardSaid : Prop := Claim7.holds Tryz.pinned (.plain (OpenSpec.ofChange shardedSpec)) shardedCard

/-- THE TIED CARD OF 'shardcommitkeep.Locked'. -/
def lockedCard : Claim7 := { stood := { row := lockedRow, standIns := [], harness := (true, "cf1e26aa8b59cd2cddb56d3ee477ef01ddcd980066bc16c37255d9a0cad2653c"), looks := true }, kinds := [], alts := [], laidByText := true, laidKinds := [.data, .data, .data, .handle, .sentinel, .sentinel], laidTests := true, laidLooks := .later }
def LockedCardSaid : Prop := Claim7.holds Tryz.pinned (.plain (OpenSpec.ofChange lockedSpec)) lockedCard

/-- THE TIED CARD OF 'shardcommitkeep.Unseen'. -/
def unseenCard : Claim7 := { stood := { row := unseenRow, standIns := [], harness := (true, "cf1e26aa8b59cd2cddb56d3ee477ef01ddcd980066bc16c37255d9a0cad2653c"), looks := true }, kinds := [], alts := [], laidByText := true, laidKinds := [.data, .data, .data, .handle, .sentinel, .sentinel], laidTests := true, laidLooks := .later }
def UnseenCardSaid : Prop := Claim7.holds Tryz.pinned (.plain (OpenSpec.ofChange unseenSpec)) unseenCard

/-- THE SECOND FORM's CARD OF 'shardcommitlaw.Logged'. -/
def loggedUptoCard : Claim7 := { stood := { row := loggedUptoRow, standIns := [], harness := (true, "cf1e26aa8b59cd2cddb56d3ee477ef01ddcd980066bc16c37255d9a0cad2653c"), looks := true }, kinds := [], alts := [], laidByText := true, laidKinds := [.data, .data, .data, .handle, .sentinel, .sentinel], laidTests := true, laidLooks := .later }
def LoggedUptoCardSaid : Prop := Claim7.holds Tryz.pinned (.plain (OpenSpec.upto loggedSpec)) loggedUptoCard

/-- THE SECOND FORM's CARD OF 'shardcommitlaw.LogFallen'. -/
def logFallenUptoCard : Claim7 := { stood := { row := logFallenUptoRow, standIns := [], harness := (true, "cf1e26aa8b59cd2cddb56d3ee477ef01ddcd980066bc16c37255d9a0cad2653c"), looks := true }, kinds := [], alts := [], laidByText := true, laidKinds := [.data, .data, .data, .handle, .sentinel, .sentinel], laidTests := true, laidLooks := .later }
def LogFallenUptoCardSaid : Prop := Claim7.holds Tryz.pinned (.plain (OpenSpec.upto logFallenSpec)) logFallenUptoCard

/-- THE SECOND FORM's CARD OF 'shardcommitlaw.Sharded'. -/
def shardedUptoCard : Claim7 := { stood := { row := shardedUptoRow, standIns := [], harness := (true, "cf1e26aa8b59cd2cddb56d3ee477ef01ddcd980066bc16c37255d9a0cad2653c"), looks := true }, kinds := [], alts := [], laidByText := true, laidKinds := [.data, .data, .data, .handle, .sentinel, .sentinel], laidTests := true, laidLooks := .later }
def ShardedUptoCardSaid : Prop := Claim7.holds Tryz.pinned (.plain (OpenSpec.upto shardedSpec)) shardedUptoCard

/-- THE SECOND FORM's CARD OF 'shardcommitkeep.Locked'. -/
def lockedUptoCard : Claim7 := { stood := { row := lockedUptoRow, standIns := [], harness := (true, "cf1e26aa8b59cd2cddb56d3ee477ef01ddcd980066bc16c37255d9a0cad2653c"), looks := true }, kinds := [], alts := [], laidByText := true, laidKinds := [.data, .data, .data, .handle, .sentinel, .sentinel], laidTests := true, laidLooks := .later }
def LockedUptoCardSaid : Prop := Claim7.holds Tryz.pinned (.plain (OpenSpec.upto lockedSpec)) lockedUptoCard

/-- THE SECOND FORM's CARD OF 'shardcommitkeep.Unseen'. -/
def unseenUptoCard : Claim7 := { stood := { row := unseenUptoRow, standIns := [], harness := (true, "cf1e26aa8b59cd2cddb56d3ee477ef01ddcd980066bc16c37255d9a0cad2653c"), looks := true }, kinds := [], alts := [], laidByText := true, laidKinds := [.data, .data, .data, .handle, .sentinel, .sentinel], laidTests := true, laidLooks := .later }
def UnseenUptoCardSaid : Prop := Claim7.holds Tryz.pinned (.plain (OpenSpec.upto unseenSpec)) unseenUptoCard
end Rows
end Go.Proofs.YtkhjhojmhllkaaaGreatDoor
