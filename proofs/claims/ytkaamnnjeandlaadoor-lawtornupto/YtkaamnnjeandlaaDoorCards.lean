/-
  DERIVED. GIVEN WITH THE SEED: THE CARDS: each row of YtkaamnnjeandlaaDoorRows.lean that lists a variable, with what it lists TIED to the program's text (the seventh form; the later family's looks); each row that meets fmt, with fmt's text TOLD by the authors' own Lean function (tested against real Go, not proved from fmt's source: count such statements apart). THE CARD IS WHAT COUNTS. Prove the row's statement (the work); the ties are given (YtkaamnnjeandlaaDoorTie.lean); close each card by the builder's one call (the guide's Derived/Test/ToyasCard.lean, 'card_holds'). Laid BY PROGRAM, IN A SANDBOX (cutbox-door.mjs). By AI agents, Wed Nov 11 2026. No macro, syntax, notation, axiom, sorry.
-/
import Derived.Test.YtkaamnnjeandlaaDoorRows
import GoSem.ClaimSeven
namespace Go.Proofs.YtkaamnnjeandlaaDoor
namespace Rows

/-- THE TIED CARD OF 'ratchetlaw.LawTorn'. -/
def lawTornCard : Claim7 := { stood := { row := lawTornRow, standIns := [], harness := (true, "112919479d8c38ec5bf431425648f3a8ed91652709d669e6bcbd768fbfb0b350"), looks := true }, kinds := [], alts := [], laidByText := true, laidKinds := [.data, .sentinel, .sentinel, .sentinel, .sentinel, .sentinel], laidTests := true, laidLooks := .later }
def LawTornCardSaid : Prop := Claim7.holds Tryd.pinned (.plain (OpenSpec.ofChange lawTornSpec)) lawTornCard

/-- THE SECOND FORM's CARD OF 'ratchetlaw.LawTorn'. -/
def lawTornUptoCard : Claim7 := { stood := { row := lawTornUptoRow, standIns := [], harness := (true, "112919479d8c38ec5bf431425648f3a8ed91652709d669e6bcbd768fbfb0b350"), looks := true }, kinds := [], alts := [], laidByText := true, laidKinds := [.data, .sentinel, .sentinel, .sentinel, .sentinel, .sentinel], laidTests := true, laidLooks := .later }
def LawTornUptoCardSaid : Prop := Claim7.holds Tryd.pinned (.plain (OpenSpec.upto lawTornSpec)) lawTornUptoCard
end Rows
end Go.Proofs.YtkaamnnjeandlaaDoor
