/-
  DERIVED. GIVEN WITH THE SEED: THE CARDS: each row of YtejiankgafjppabGreatDoorRows.lean that lists a variable, with what it lists TIED to the program's text (the seventh form; the later family's looks); each row that meets fmt, with fmt's text TOLD by the authors' own Lean function (tested against real Go, not proved from fmt's source: count such statements apart). THE CARD IS WHAT COUNTS. Prove the row's statement (the work); the ties are given (YtejiankgafjppabGreatDoorTie.lean); close each card by the builder's one call (the guide's Derived/Test/ToyasCard.lean, 'card_holds'). Laid BY PROGRAM, IN A SANDBOX (cutbox-door.mjs). By AI agents, Wed Nov 11 2026. No macro, syntax, notation, axiom, sorry.
-/
import Derived.Test.YtejiankgafjppabGreatDoorRows
import GoSem.ClaimSeven
namespace Go.Proofs.YtejiankgafjppabGreatDoor
namespace Rows

/-- THE TIED CARD OF 'shardcommitkeep.Spaced'. -/
def spacedCard : Claim7 := { stood := { row := spacedRow, standIns := [], harness := (true, "67483e4f08d67a49f1c08f9348a1e35df82bff6c835a66dc95f7dd9e35e95739"), looks := true }, kinds := [], alts := [], goes := true, laidByText := true, laidKinds := [.data, .data, .data, .handle, .sentinel, .sentinel], laidTests := true, laidLooks := .later }
def SpacedCardSaid : Prop := Claim7.holds Tryz.pinned (.plain (OpenSpec.ofChange spacedSpec)) spacedCard

/-- THE TIED CARD OF 'shardcommitkeep.Presumed'. -/
def presumedCard : Claim7 := { stood := { row := presumedRow, standIns := [], harness := (true, "67483e4f08d67a49f1c08f9348a1e35df82bff6c835a66dc95f7dd9e35e95739"), looks := true }, kinds := [], alts := [], goes := true, laidByText := true, laidKinds := [.data, .data, .data, .handle, .sentinel, .sentinel], laidTests := true, laidLooks := .later }
def PresumedCardSaid : Prop := Claim7.holds Tryz.pinned (.plain (OpenSpec.ofChange presumedSpec)) presumedCard

/-- THE TIED CARD OF 'shardcommitkeep.Lossy'. -/
def lossyCard : Claim7 := { stood := { row := lossyRow, standIns := [], harness := (true, "67483e4f08d67a49f1c08f9348a1e35df82bff6c835a66dc95f7dd9e35e95739"), looks := true }, kinds := [], alts := [], goes := true, laidByText := true, laidKinds := [.data, .data, .data, .handle, .sentinel, .sentinel], laidTests := true, laidLooks := .later }
def LossyCardSaid : Prop := Claim7.holds Tryz.pinned (.plain (OpenSpec.ofChange lossySpec)) lossyCard

/-- THE TIED CARD OF 'shardcommitkeep.Atomic'. -/
def atomicCard : Claim7 := { stood := { row := atomicRow, standIns := [], harness := (true, "67483e4f08d67a49f1c08f9348a1e35df82bff6c835a66dc95f7dd9e35e95739"), looks := true }, kinds := [], alts := [], goes := true, laidByText := true, laidKinds := [.data, .data, .data, .handle, .sentinel, .sentinel], laidTests := true, laidLooks := .later }
def AtomicCardSaid : Prop := Claim7.holds Tryz.pinned (.plain (OpenSpec.ofChange atomicSpec)) atomicCard

/-- THE TIED CARD OF 'shardcommitkeep.Settles'. -/
def settlesCard : Claim7 := { stood := { row := settlesRow, standIns := [], harness := (true, "67483e4f08d67a49f1c08f9348a1e35df82bff6c835a66dc95f7dd9e35e95739"), looks := true }, kinds := [], alts := [], goes := true, laidByText := true, laidKinds := [.data, .data, .data, .handle, .sentinel, .sentinel], laidTests := true, laidLooks := .later }
def SettlesCardSaid : Prop := Claim7.holds Tryz.pinned (.plain (OpenSpec.ofChange settlesSpec)) settlesCard

/-- THE TIED CARD OF 'shardcommitkeep.Alone'. -/
def aloneCard : Claim7 := { stood := { row := aloneRow, standIns := [], harness := (true, "67483e4f08d67a49f1c08f9348a1e35df82bff6c835a66dc95f7dd9e35e95739"), looks := true }, kinds := [], alts := [], goes := true, laidByText := true, laidKinds := [.data, .data, .data, .handle, .sentinel, .sentinel], laidTests := true, laidLooks := .later }
def AloneCardSaid : Prop := Claim7.holds Tryz.pinned (.plain (OpenSpec.ofChange aloneSpec)) aloneCard

/-- THE SECOND FORM's CARD OF 'shardcommitkeep.Spaced'. -/
def spacedUptoCard : Claim7 := { stood := { row := spacedUptoRow, standIns := [], harness := (true, "67483e4f08d67a49f1c08f9348a1e35df82bff6c835a66dc95f7dd9e35e95739"), looks := true }, kinds := [], alts := [], goes := true, laidByText := true, laidKinds := [.data, .data, .data, .handle, .sentinel, .sentinel], laidTests := true, laidLooks := .later }
def SpacedUptoCardSaid : Prop := Claim7.holds Tryz.pinned (.plain (OpenSpec.upto spacedSpec)) spacedUptoCard

/-- THE SECOND FORM's CARD OF 'shardcommitkeep.Presumed'. -/
def presumedUptoCard : Claim7 := { stood := { row := presumedUptoRow, standIns := [], harness := (true, "67483e4f08d67a49f1c08f9348a1e35df82bff6c835a66dc95f7dd9e35e95739"), looks := true }, kinds := [], alts := [], goes := true, laidByText := true, laidKinds := [.data, .data, .data, .handle, .sentinel, .sentinel], laidTests := true, laidLooks := .later }
def PresumedUptoCardSaid : Prop := Claim7.holds Tryz.pinned (.plain (OpenSpec.upto presumedSpec)) presumedUptoCard

/-- THE SECOND FORM's CARD OF 'shardcommitkeep.Lossy'. -/
def lossyUptoCard : Claim7 := { stood := { row := lossyUptoRow, standIns := [], harness := (true, "67483e4f08d67a49f1c08f9348a1e35df82bff6c835a66dc95f7dd9e35e95739"), looks := true }, kinds := [], alts := [], goes := true, laidByText := true, laidKinds := [.data, .data, .data, .handle, .sentinel, .sentinel], laidTests := true, laidLooks := .later }
def LossyUptoCardSaid : Prop := Claim7.holds Tryz.pinned (.plain (OpenSpec.upto lossySpec)) lossyUptoCard

/-- THE SECOND FORM's CARD OF 'shardcommitkeep.Atomic'. -/
def atomicUptoCard : Claim7 := { stood := { row := atomicUptoRow, standIns := [], harness := (true, "67483e4f08d67a49f1c08f9348a1e35df82bff6c835a66dc95f7dd9e35e95739"), looks := true }, kinds := [], alts := [], goes := true, laidByText := true, laidKinds := [.data, .data, .data, .handle, .sentinel, .sentinel], laidTests := true, laidLooks := .later }
def AtomicUptoCardSaid : Prop := Claim7.holds Tryz.pinned (.plain (OpenSpec.upto atomicSpec)) atomicUptoCard

/-- THE SECOND FORM's CARD OF 'shardcommitkeep.Settles'. -/
def settlesUptoCard : Claim7 := { stood := { row := settlesUptoRow, standIns := [], harness := (true, "67483e4f08d67a49f1c08f9348a1e35df82bff6c835a66dc95f7dd9e35e95739"), looks := true }, kinds := [], alts := [], goes := true, laidByText := true, laidKinds := [.data, .data, .data, .handle, .sentinel, .sentinel], laidTests := true, laidLooks := .later }
def SettlesUptoCardSaid : Prop := Claim7.holds Tryz.pinned (.plain (OpenSpec.upto settlesSpec)) settlesUptoCard

/-- THE SECOND FORM's CARD OF 'shardcommitkeep.Alone'. -/
def aloneUptoCard : Claim7 := { stood := { row := aloneUptoRow, standIns := [], harness := (true, "67483e4f08d67a49f1c08f9348a1e35df82bff6c835a66dc95f7dd9e35e95739"), looks := true }, kinds := [], alts := [], goes := true, laidByText := true, laidKinds := [.data, .data, .data, .handle, .sentinel, .sentinel], laidTests := true, laidLooks := .later }
def AloneUptoCardSaid : Prop := Claim7.holds Tryz.pinned (.plain (OpenSpec.upto aloneSpec)) aloneUptoCard
end Rows
end Go.Proofs.YtejiankgafjppabGreatDoor
