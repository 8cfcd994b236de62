/-
  DERIVED. GIVEN WITH THE SEED: THE PROGRAM's TIES (one call each: nine closed facts by the kernel) AND EACH ROW's TIE, after the 31st guide's Derived/Test/Toyas{Tie, Card}.lean. No idea stands in it: it is a product of the set-up. Laid BY PROGRAM, IN A SANDBOX (cutbox-door.mjs). By AI agents, Wed Nov 11 2026. No macro, syntax, notation, axiom, sorry.
-/
import Derived.Test.YtkaamnnjeandlaaDoorRows
import Derived.LaidByTextLater
import Derived.SevenTiedAt
import Derived.LaidSub
import Derived.LaidOnce
namespace Go.Proofs.YtkaamnnjeandlaaDoor
open Go
set_option maxRecDepth 100000
theorem seatTie1 : Tryd.prog.laidByTextLater [("ratchet/prim.roundConstants", Rows.laid_ratchet_prim_roundConstants), ("ratchet/journal.errBad", Rows.laid_ratchet_journal_errBad), ("ratchet/journal.errDirty", Rows.laid_ratchet_journal_errDirty), ("ratchet/journal.errCounter", Rows.laid_ratchet_journal_errCounter), ("ratchet/journal.errDiskFull", Rows.laid_ratchet_journal_errDiskFull), ("ratchet/journal.errPowerCut", Rows.laid_ratchet_journal_errPowerCut)] [.data, .sentinel, .sentinel, .sentinel, .sentinel, .sentinel] true :=
  Program.laidByTextLater_by_one 109 8 65 (by kernel_rfl) (by kernel_rfl) (by kernel_rfl) (by kernel_rfl) (by kernel_rfl) (by kernel_rfl) (fun _ _ => by kernel_rfl)
theorem noOwnUnsafe : Tryd.pinned.checked.prog.headLifts.contains "ownunsafe" = false := by kernel_rfl
theorem tie : Tryd.prog.laidByTextLater [("ratchet/prim.roundConstants", Rows.laid_ratchet_prim_roundConstants), ("ratchet/journal.errBad", Rows.laid_ratchet_journal_errBad), ("ratchet/journal.errDirty", Rows.laid_ratchet_journal_errDirty), ("ratchet/journal.errCounter", Rows.laid_ratchet_journal_errCounter), ("ratchet/journal.errDiskFull", Rows.laid_ratchet_journal_errDiskFull), ("ratchet/journal.errPowerCut", Rows.laid_ratchet_journal_errPowerCut)] [.data, .sentinel, .sentinel, .sentinel, .sentinel, .sentinel] true :=
  Program.laidByTextLater.sub seatTie1 ["ratchet/prim.roundConstants", "ratchet/journal.errBad", "ratchet/journal.errDirty", "ratchet/journal.errCounter", "ratchet/journal.errDiskFull", "ratchet/journal.errPowerCut"] (by kernel_rfl) (by kernel_rfl)
theorem lawTorn_row_tie : Rows.lawTornRow.laidByTextAt .later Tryd.pinned [.data, .sentinel, .sentinel, .sentinel, .sentinel, .sentinel] true :=
  OpenClaim.laidByTextAt_later rfl rfl tie noOwnUnsafe
theorem lawTornUpto_row_tie : Rows.lawTornUptoRow.laidByTextAt .later Tryd.pinned [.data, .sentinel, .sentinel, .sentinel, .sentinel, .sentinel] true :=
  OpenClaim.laidByTextAt_later rfl rfl tie noOwnUnsafe
end Go.Proofs.YtkaamnnjeandlaaDoor
