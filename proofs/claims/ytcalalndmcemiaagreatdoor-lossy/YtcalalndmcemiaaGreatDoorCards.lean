/-
  DERIVED. GIVEN WITH THE SEED: THE CARDS: each row of YtcalalndmcemiaaGreatDoorRows.lean that lists a variable, with what it lists TIED to the program's text (the seventh form; the later family's looks); each row that meets fmt, with fmt's text TOLD by the authors' own Lean function (tested against real Go, not proved from fmt's source: count such statements apart). THE CARD IS WHAT COUNTS. Prove the row's statement (the work); the ties are given (YtcalalndmcemiaaGreatDoorTie.lean); close each card by the builder's one call (the guide's Derived/Test/ToyasCard.lean, 'card_holds'). Laid BY PROGRAM, IN A SANDBOX (cutbox-door.mjs). By AI agents, Wed Nov 11 2026. No macro, syntax, notation, axiom, sorry.
-/
import Derived.Test.YtcalalndmcemiaaGreatDoorRows
import GoSem.ClaimSeven
namespace Go.Proofs.YtcalalndmcemiaaGreatDoor
namespace Rows

/-- THE TIED CARD OF 'shardcommitlaw.LogFallen'. -/
def logFallenCard : Claim7 := { stood := { row := logFallenRow, standIns := [], harness := (true, "10e9fa5a88baf02d0e0e54d6964b9f795c2415ebd95be496be09a29fe4af7e36"), looks := true }, kinds := [], alts := [], laidByText := true, laidKinds := [.data, .data, .data, .handle, .sentinel, .sentinel], laidTests := true, laidLooks := .later }
def LogFallenCardSaid : Prop := Claim7.holds Tryz.pinned (.plain (OpenSpec.ofChange logFallenSpec)) logFallenCard

/-- THE TIED CARD OF 'shardcommitkeep.Lossy'. -/
def lossyCard : Claim7 := { stood := { row := lossyRow, standIns := [], harness := (true, "10e9fa5a88baf02d0e0e54d6964b9f795c2415ebd95be496be09a29fe4af7e36"), looks := true }, kinds := [], alts := [], laidByText := true, laidKinds := [.data, .data, .data, .handle, .sentinel, .sentinel], laidTests := true, laidLooks := .later }
def LossyCardSaid : Prop := Claim7.holds Tryz.pinned (.plain (OpenSpec.ofChange lossySpec)) lossyCard

/-- THE TIED CARD OF 'shardcommitkeep.Alone'. -/
def aloneCard : Claim7 := { stood := { row := aloneRow, standIns := [], harness := (true, "10e9fa5a88baf02d0e0e54d6964b9f795c2415ebd95be496be09a29fe4af7e36"), looks := true }, kinds := [], alts := [], laidByText := true, laidKinds := [.data, .data, .data, .handle, .sentinel, .sentinel], laidTests := true, laidLooks := .later }
def AloneCardSaid : Prop := Claim7.holds Tryz.pinned (.plain (OpenSpec.ofChange aloneSpec)) aloneCard

/-- THE SECOND FORM's CARD OF 'shardcommitlaw.LogFallen'. -/
def logFallenUptoCard : Claim7 := { stood := { row := logFallenUptoRow, standIns := [], harness := (true, "10e9fa5a88baf02d0e0e54d6964b9f795c2415ebd95be496be09a29fe4af7e36"), looks := true }, kinds := [], alts := [], laidByText := true, laidKinds := [.data, .data, .data, .handle, .sentinel, .sentinel], laidTests := true, laidLooks := .later }
def LogFallenUptoCardSaid : Prop := Claim7.holds Tryz.pinned (.plain (OpenSpec.upto logFallenSpec)) logFallenUptoCard

/-- THE SECOND FORM's CARD OF 'shardcommitkeep.Lossy'. -/
def lossyUptoCard : Claim7 := { stood := { row := lossyUptoRow, standIns := [], harness := (true, "10e9fa5a88baf02d0e0e54d6964b9f795c2415ebd95be496be09a29fe4af7e36"), looks := true }, kinds := [], alts := [], laidByText := true, laidKinds := [.data, .data, .data, .handle, .sentinel, .sentinel], laidTests := true, laidLooks := .later }
def LossyUptoCardSaid : Prop := Claim7.holds Tryz.pinned (.plain (OpenSpec.upto lossySpec)) lossyUptoCard

/-- THE SECOND FORM's CARD OF 'shardcommitkeep.Alone'. -/
def aloneUptoCard : Claim7 := { stood := { row := aloneUptoRow, standIns := [], harness := (true, "10e9fa5a88baf02d0e0e54d6964b9f795c2415ebd95be496be09a29fe4af7e36"), looks := true }, kinds := [], alts := [], laidByText := true, laidKinds := [.data, .data, .data, .handle, .sentinel, .sentinel], laidTests := true, laidLooks := .later }
def AloneUptoCardSaid : Prop := Claim7.holds Tryz.pinned (.plain (OpenSpec.upto aloneSpec)) aloneUptoCard
end Rows
end Go.Proofs.YtcalalndmcemiaaGreatDoor
