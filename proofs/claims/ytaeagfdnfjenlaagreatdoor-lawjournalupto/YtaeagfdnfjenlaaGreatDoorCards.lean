/-
  DERIVED. GIVEN WITH THE SEED: THE CARDS: each row of YtaeagfdnfjenlaaGreatDoorRows.lean that lists a variable, with what it lists TIED to the program's text (the seventh form; the later family's looks); each row that meets fmt, with fmt's text TOLD by the authors' own Lean function (tested against real Go, not proved from fmt's source: count such statements apart). THE CARD IS WHAT COUNTS. Prove the row's statement (the work); the ties are given (YtaeagfdnfjenlaaGreatDoorTie.lean); close each card by the builder's one call (the guide's Derived/Test/ToyasCard.lean, 'card_holds'). Laid BY PROGRAM, IN A SANDBOX (cutbox-door.mjs). By AI agents, Wed Nov 11 2026. No macro, syntax, notation, axiom, sorry.
-/
import Derived.Test.YtaeagfdnfjenlaaGreatDoorRows
import GoSem.ClaimSeven
namespace Go.Proofs.YtaeagfdnfjenlaaGreatDoor
namespace Rows

/-- THE TIED CARD OF 'ratchetlaw.LawJournal'. -/
def lawJournalCard : Claim7 := { stood := { row := lawJournalRow, standIns := [], harness := (true, "0bea2b1fb7bda3c61af310d905922fc6465ffe6a56f33a944317e5e7f46ab430"), looks := true }, kinds := [], alts := [], laidByText := true, laidKinds := [.data, .data, .data, .sentinel, .sentinel, .sentinel, .sentinel, .sentinel], laidTests := true, laidLooks := .later }
def LawJournalCardSaid : Prop := Claim7.holds Tryz.pinned (.plain (OpenSpec.ofChange lawJournalSpec)) lawJournalCard

/-- THE SECOND FORM's CARD OF 'ratchetlaw.LawJournal'. -/
def lawJournalUptoCard : Claim7 := { stood := { row := lawJournalUptoRow, standIns := [], harness := (true, "0bea2b1fb7bda3c61af310d905922fc6465ffe6a56f33a944317e5e7f46ab430"), looks := true }, kinds := [], alts := [], laidByText := true, laidKinds := [.data, .data, .data, .sentinel, .sentinel, .sentinel, .sentinel, .sentinel], laidTests := true, laidLooks := .later }
def LawJournalUptoCardSaid : Prop := Claim7.holds Tryz.pinned (.plain (OpenSpec.upto lawJournalSpec)) lawJournalUptoCard
end Rows
end Go.Proofs.YtaeagfdnfjenlaaGreatDoor
