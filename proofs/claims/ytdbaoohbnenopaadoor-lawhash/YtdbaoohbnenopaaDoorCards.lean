/-
  DERIVED. GIVEN WITH THE SEED: THE CARDS: each row of YtdbaoohbnenopaaDoorRows.lean that lists a variable, with what it lists TIED to the program's text (the seventh form; the later family's looks); each row that meets fmt, with fmt's text TOLD by the authors' own Lean function (tested against real Go, not proved from fmt's source: count such statements apart). THE CARD IS WHAT COUNTS. Prove the row's statement (the work); the ties are given (YtdbaoohbnenopaaDoorTie.lean); close each card by the builder's one call (the guide's Derived/Test/ToyasCard.lean, 'card_holds'). Laid BY PROGRAM, IN A SANDBOX (cutbox-door.mjs). By AI agents, Wed Nov 11 2026. No macro, syntax, notation, axiom, sorry.
-/
import Derived.Test.YtdbaoohbnenopaaDoorRows
import GoSem.ClaimSeven
namespace Go.Proofs.YtdbaoohbnenopaaDoor
namespace Rows

/-- THE TIED CARD OF 'ratchetlaw.LawHash'. -/
def lawHashCard : Claim7 := { stood := { row := lawHashRow, standIns := [], harness := (true, "b7c857e59cd404c236b0b816ee84b545e6ba47c85d62f029dc55d496a9c32d71"), looks := false }, kinds := [], alts := [], laidByText := true, laidKinds := [.data, .data, .data], laidTests := true, laidLooks := .later }
def LawHashCardSaid : Prop := Claim7.holds Tryd.pinned (.plain (OpenSpec.ofChange lawHashSpec)) lawHashCard

/-- THE SECOND FORM's CARD OF 'ratchetlaw.LawHash'. -/
def lawHashUptoCard : Claim7 := { stood := { row := lawHashUptoRow, standIns := [], harness := (true, "b7c857e59cd404c236b0b816ee84b545e6ba47c85d62f029dc55d496a9c32d71"), looks := false }, kinds := [], alts := [], laidByText := true, laidKinds := [.data, .data, .data], laidTests := true, laidLooks := .later }
def LawHashUptoCardSaid : Prop := Claim7.holds Tryd.pinned (.plain (OpenSpec.upto lawHashSpec)) lawHashUptoCard
end Rows
end Go.Proofs.YtdbaoohbnenopaaDoor
