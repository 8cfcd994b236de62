/-
  DERIVED. GIVEN WITH THE SEED: THE CARDS: each row of YtbipdofobgabhaaGreatDoorRows.lean that lists a variable, with what it lists TIED to the program's text (the seventh form; the later family's looks); each row that meets fmt, with fmt's text TOLD by the authors' own Lean function (tested against real Go, not proved from fmt's source: count such statements apart). THE CARD IS WHAT COUNTS. Prove the row's statement (the work); the ties are given (YtbipdofobgabhaaGreatDoorTie.lean); close each card by the builder's one call (the guide's Derived/Test/ToyasCard.lean, 'card_holds'). Laid BY PROGRAM, IN A SANDBOX (cutbox-door.mjs). By AI agents, Wed Nov 11 2026. No macro, syntax, notation, axiom, sorry.
-/
import Derived.Test.YtbipdofobgabhaaGreatDoorRows
import GoSem.ClaimSeven
namespace Go.Proofs.YtbipdofobgabhaaGreatDoor
namespace Rows

/-- THE TIED CARD OF 'ratchetlaw.LawTalk'. -/
def lawTalkCard : Claim7 := { stood := { row := lawTalkRow, standIns := [], harness := (true, "cde4ec1785fe8ed515115c0b4355f0f42055ad01390b5733263737a4cdc84ad2"), looks := true }, kinds := [], alts := [], laidByText := true, laidKinds := [.data, .sentinel, .sentinel, .sentinel, .sentinel, .sentinel, .sentinel, .sentinel, .sentinel, .sentinel], laidTests := true, laidLooks := .later }
def LawTalkCardSaid : Prop := Claim7.holds Tryz.pinned (.plain (OpenSpec.ofChange lawTalkSpec)) lawTalkCard

/-- THE SECOND FORM's CARD OF 'ratchetlaw.LawTalk'. -/
def lawTalkUptoCard : Claim7 := { stood := { row := lawTalkUptoRow, standIns := [], harness := (true, "cde4ec1785fe8ed515115c0b4355f0f42055ad01390b5733263737a4cdc84ad2"), looks := true }, kinds := [], alts := [], laidByText := true, laidKinds := [.data, .sentinel, .sentinel, .sentinel, .sentinel, .sentinel, .sentinel, .sentinel, .sentinel, .sentinel], laidTests := true, laidLooks := .later }
def LawTalkUptoCardSaid : Prop := Claim7.holds Tryz.pinned (.plain (OpenSpec.upto lawTalkSpec)) lawTalkUptoCard
end Rows
end Go.Proofs.YtbipdofobgabhaaGreatDoor
