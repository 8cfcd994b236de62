/-
  DERIVED. GIVEN WITH THE SEED: THE CARDS: each row of YtoakenpcooglpaaGreatDoorRows.lean that lists a variable, with what it lists TIED to the program's text (the seventh form; the later family's looks); each row that meets fmt, with fmt's text TOLD by the authors' own Lean function (tested against real Go, not proved from fmt's source: count such statements apart). THE CARD IS WHAT COUNTS. Prove the row's statement (the work); the ties are given (YtoakenpcooglpaaGreatDoorTie.lean); close each card by the builder's one call (the guide's Derived/Test/ToyasCard.lean, 'card_holds'). Laid BY PROGRAM, IN A SANDBOX (cutbox-door.mjs). By AI agents, Wed Nov 11 2026. No macro, syntax, notation, axiom, sorry.
-/
import Derived.Test.YtoakenpcooglpaaGreatDoorRows
import GoSem.ClaimSeven
namespace Go.Proofs.YtoakenpcooglpaaGreatDoor
namespace Rows

/-- THE TIED CARD OF 'ratchetlaw.LawEncrypt'. -/
def lawEncryptCard : Claim7 := { stood := { row := lawEncryptRow, standIns := [], harness := (true, "acf20825b91dec2fffa432590d1aad25a010ce2b78a5eafa27dec22f43c59d98"), looks := true }, kinds := [], alts := [], laidByText := true, laidKinds := [.data, .data, .data, .sentinel, .sentinel, .sentinel, .sentinel, .sentinel, .sentinel, .sentinel, .sentinel, .sentinel], laidTests := true, laidLooks := .later }
def LawEncryptCardSaid : Prop := Claim7.holds Tryz.pinned (.plain (OpenSpec.ofChange lawEncryptSpec)) lawEncryptCard

/-- THE SECOND FORM's CARD OF 'ratchetlaw.LawEncrypt'. -/
def lawEncryptUptoCard : Claim7 := { stood := { row := lawEncryptUptoRow, standIns := [], harness := (true, "acf20825b91dec2fffa432590d1aad25a010ce2b78a5eafa27dec22f43c59d98"), looks := true }, kinds := [], alts := [], laidByText := true, laidKinds := [.data, .data, .data, .sentinel, .sentinel, .sentinel, .sentinel, .sentinel, .sentinel, .sentinel, .sentinel, .sentinel], laidTests := true, laidLooks := .later }
def LawEncryptUptoCardSaid : Prop := Claim7.holds Tryz.pinned (.plain (OpenSpec.upto lawEncryptSpec)) lawEncryptUptoCard
end Rows
end Go.Proofs.YtoakenpcooglpaaGreatDoor
