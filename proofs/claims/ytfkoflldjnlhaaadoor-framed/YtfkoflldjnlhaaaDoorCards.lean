/-
  DERIVED. GIVEN WITH THE SEED: THE CARDS: each row of YtfkoflldjnlhaaaDoorRows.lean that lists a variable, with what it lists TIED to the program's text (the seventh form; the later family's looks); each row that meets fmt, with fmt's text TOLD by the authors' own Lean function (tested against real Go, not proved from fmt's source: count such statements apart). THE CARD IS WHAT COUNTS. Prove the row's statement (the work); the ties are given (YtfkoflldjnlhaaaDoorTie.lean); close each card by the builder's one call (the guide's Derived/Test/ToyasCard.lean, 'card_holds'). Laid BY PROGRAM, IN A SANDBOX (cutbox-door.mjs). By AI agents, Wed Nov 11 2026. No macro, syntax, notation, axiom, sorry.
-/
import Derived.Test.YtfkoflldjnlhaaaDoorRows
import GoSem.ClaimSeven
namespace Go.Proofs.YtfkoflldjnlhaaaDoor
namespace Rows

/-- THE TIED CARD OF 'shardcommitlaw.Framed'. -/
def framedCard : Claim7 := { stood := { row := framedRow, standIns := [], harness := (true, "39e297d120bc7425042bb138c2099098e220e826301e1f0dfd790e83958332ee"), looks := true }, kinds := [], alts := [], laidByText := true, laidKinds := [.handle], laidTests := true, laidLooks := .later }
def FramedCardSaid : Prop := Claim7.holds Tryd.pinned (.plain (OpenSpec.ofChange framedSpec)) framedCard

/-- THE TIED CARD OF 'shardcommitlaw.Messaged'. -/
def messagedCard : Claim7 := { stood := { row := messagedRow, standIns := [], harness := (true, "39e297d120bc7425042bb138c2099098e220e826301e1f0dfd790e83958332ee"), looks := true }, kinds := [], alts := [], laidByText := true, laidKinds := [.handle], laidTests := true, laidLooks := .later }
def MessagedCardSaid : Prop := Claim7.holds Tryd.pinned (.plain (OpenSpec.ofChange messagedSpec)) messagedCard

/-- THE TIED CARD OF 'shardcommitkeep.Torn'. -/
def tornCard : Claim7 := { stood := { row := tornRow, standIns := [], harness := (true, "39e297d120bc7425042bb138c2099098e220e826301e1f0dfd790e83958332ee"), looks := true }, kinds := [], alts := [], laidByText := true, laidKinds := [.handle], laidTests := true, laidLooks := .later }
def TornCardSaid : Prop := Claim7.holds Tryd.pinned (.plain (OpenSpec.ofChange tornSpec)) tornCard

/-- THE SECOND FORM's CARD OF 'shardcommitlaw.Framed'. -/
def framedUptoCard : Claim7 := { stood := { row := framedUptoRow, standIns := [], harness := (true, "39e297d120bc7425042bb138c2099098e220e826301e1f0dfd790e83958332ee"), looks := true }, kinds := [], alts := [], laidByText := true, laidKinds := [.handle], laidTests := true, laidLooks := .later }
def FramedUptoCardSaid : Prop := Claim7.holds Tryd.pinned (.plain (OpenSpec.upto framedSpec)) framedUptoCard

/-- THE SECOND FORM's CARD OF 'shardcommitlaw.Messaged'. -/
def messagedUptoCard : Claim7 := { stood := { row := messagedUptoRow, standIns := [], harness := (true, "39e297d120bc7425042bb138c2099098e220e826301e1f0dfd790e83958332ee"), looks := true }, kinds := [], alts := [], laidByText := true, laidKinds := [.handle], laidTests := true, laidLooks := .later }
def MessagedUptoCardSaid : Prop := Claim7.holds Tryd.pinned (.plain (OpenSpec.upto messagedSpec)) messagedUptoCard

/-- THE SECOND FORM's CARD OF 'shardcommitkeep.Torn'. -/
def tornUptoCard : Claim7 := { stood := { row := tornUptoRow, standIns := [], harness := (true, "39e297d120bc7425042bb138c2099098e220e826301e1f0dfd790e83958332ee"), looks := true }, kinds := [], alts := [], laidByText := true, laidKinds := [.handle], laidTests := true, laidLooks := .later }
def TornUptoCardSaid : Prop := Claim7.holds Tryd.pinned (.plain (OpenSpec.upto tornSpec)) tornUptoCard
end Rows
end Go.Proofs.YtfkoflldjnlhaaaDoor
