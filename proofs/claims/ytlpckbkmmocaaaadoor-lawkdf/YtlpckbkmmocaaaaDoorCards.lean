/-
  DERIVED. GIVEN WITH THE SEED: THE CARDS: each row of YtlpckbkmmocaaaaDoorRows.lean that lists a variable, with what it lists TIED to the program's text (the seventh form; the later family's looks); each row that meets fmt, with fmt's text TOLD by the authors' own Lean function (tested against real Go, not proved from fmt's source: count such statements apart). THE CARD IS WHAT COUNTS. Prove the row's statement (the work); the ties are given (YtlpckbkmmocaaaaDoorTie.lean); close each card by the builder's one call (the guide's Derived/Test/ToyasCard.lean, 'card_holds'). Laid BY PROGRAM, IN A SANDBOX (cutbox-door.mjs). By AI agents, Wed Nov 11 2026. No macro, syntax, notation, axiom, sorry.
-/
import Derived.Test.YtlpckbkmmocaaaaDoorRows
import GoSem.ClaimSeven
namespace Go.Proofs.YtlpckbkmmocaaaaDoor
namespace Rows

/-- THE TIED CARD OF 'ratchetlaw.LawKdf'. -/
def lawKdfCard : Claim7 := { stood := { row := lawKdfRow, standIns := [], harness := (true, "270e083c778c883a8c41901b4587328125a747e321850352c4bbc443de45f92c"), looks := false }, kinds := [], alts := [], laidByText := true, laidKinds := [.data, .data, .data], laidTests := true, laidLooks := .later }
def LawKdfCardSaid : Prop := Claim7.holds Tryd.pinned (.plain (OpenSpec.ofChange lawKdfSpec)) lawKdfCard

/-- THE SECOND FORM's CARD OF 'ratchetlaw.LawKdf'. -/
def lawKdfUptoCard : Claim7 := { stood := { row := lawKdfUptoRow, standIns := [], harness := (true, "270e083c778c883a8c41901b4587328125a747e321850352c4bbc443de45f92c"), looks := false }, kinds := [], alts := [], laidByText := true, laidKinds := [.data, .data, .data], laidTests := true, laidLooks := .later }
def LawKdfUptoCardSaid : Prop := Claim7.holds Tryd.pinned (.plain (OpenSpec.upto lawKdfSpec)) lawKdfUptoCard
end Rows
end Go.Proofs.YtlpckbkmmocaaaaDoor
