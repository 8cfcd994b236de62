/-
  DERIVED. GIVEN WITH THE SEED: THE CARDS: each row of YtljncmifbncdbaaDoorRows.lean that lists a variable, with what it lists TIED to the program's text (the seventh form; the later family's looks); each row that meets fmt, with fmt's text TOLD by the authors' own Lean function (tested against real Go, not proved from fmt's source: count such statements apart). THE CARD IS WHAT COUNTS. Prove the row's statement (the work); the ties are given (YtljncmifbncdbaaDoorTie.lean); close each card by the builder's one call (the guide's Derived/Test/ToyasCard.lean, 'card_holds'). Laid BY PROGRAM, IN A SANDBOX (cutbox-door.mjs). By AI agents, Wed Nov 11 2026. No macro, syntax, notation, axiom, sorry.
-/
import Derived.Test.YtljncmifbncdbaaDoorRows
import GoSem.ClaimSeven
namespace Go.Proofs.YtljncmifbncdbaaDoor
namespace Rows

/-- THE TIED CARD OF 'ratchetlaw.LawSeal'. -/
def lawSealCard : Claim7 := { stood := { row := lawSealRow, standIns := [], harness := (true, "1e752fcb9436a4d040facef42a97e208ba43046b297011ff72596e48d3705b5a"), looks := false }, kinds := [], alts := [], laidByText := true, laidKinds := [.data, .data, .data], laidTests := true, laidLooks := .later }
def LawSealCardSaid : Prop := Claim7.holds Tryd.pinned (.plain (OpenSpec.ofChange lawSealSpec)) lawSealCard

/-- THE SECOND FORM's CARD OF 'ratchetlaw.LawSeal'. -/
def lawSealUptoCard : Claim7 := { stood := { row := lawSealUptoRow, standIns := [], harness := (true, "1e752fcb9436a4d040facef42a97e208ba43046b297011ff72596e48d3705b5a"), looks := false }, kinds := [], alts := [], laidByText := true, laidKinds := [.data, .data, .data], laidTests := true, laidLooks := .later }
def LawSealUptoCardSaid : Prop := Claim7.holds Tryd.pinned (.plain (OpenSpec.upto lawSealSpec)) lawSealUptoCard
end Rows
end Go.Proofs.YtljncmifbncdbaaDoor
