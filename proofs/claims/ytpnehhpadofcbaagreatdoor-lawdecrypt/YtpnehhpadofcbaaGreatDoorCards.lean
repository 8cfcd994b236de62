/-
  DERIVED. GIVEN WITH THE SEED: THE CARDS: each row of YtpnehhpadofcbaaGreatDoorRows.lean that lists a variable, with what it lists TIED to the program's text (the seventh form; the later family's looks); each row that meets fmt, with fmt's text TOLD by the authors' own Lean function (tested against real Go, not proved from fmt's source: count such statements apart). THE CARD IS WHAT COUNTS. Prove the row's statement (the work); the ties are given (YtpnehhpadofcbaaGreatDoorTie.lean); close each card by the builder's one call (the guide's Derived/Test/ToyasCard.lean, 'card_holds'). Laid BY PROGRAM, IN A SANDBOX (cutbox-door.mjs). By AI agents, Wed Nov 11 2026. No macro, syntax, notation, axiom, sorry.
-/
import Derived.Test.YtpnehhpadofcbaaGreatDoorRows
import GoSem.ClaimSeven
namespace Go.Proofs.YtpnehhpadofcbaaGreatDoor
namespace Rows

/-- THE TIED CARD OF 'ratchetlaw.LawDecrypt'. -/
def lawDecryptCard : Claim7 := { stood := { row := lawDecryptRow, standIns := [], harness := (true, "64d7fd25c30226adfc9dc70e7bf2a1e6ff01604678c65a1463427656c2e5fb82"), looks := true }, kinds := [], alts := [], laidByText := true, laidKinds := [.data, .data, .data, .sentinel, .sentinel, .sentinel, .sentinel, .sentinel, .sentinel, .sentinel, .sentinel, .sentinel], laidTests := true, laidLooks := .later }
def LawDecryptCardSaid : Prop := Claim7.holds Tryz.pinned (.plain (OpenSpec.ofChange lawDecryptSpec)) lawDecryptCard

/-- THE SECOND FORM's CARD OF 'ratchetlaw.LawDecrypt'. -/
def lawDecryptUptoCard : Claim7 := { stood := { row := lawDecryptUptoRow, standIns := [], harness := (true, "64d7fd25c30226adfc9dc70e7bf2a1e6ff01604678c65a1463427656c2e5fb82"), looks := true }, kinds := [], alts := [], laidByText := true, laidKinds := [.data, .data, .data, .sentinel, .sentinel, .sentinel, .sentinel, .sentinel, .sentinel, .sentinel, .sentinel, .sentinel], laidTests := true, laidLooks := .later }
def LawDecryptUptoCardSaid : Prop := Claim7.holds Tryz.pinned (.plain (OpenSpec.upto lawDecryptSpec)) lawDecryptUptoCard
end Rows
end Go.Proofs.YtpnehhpadofcbaaGreatDoor
