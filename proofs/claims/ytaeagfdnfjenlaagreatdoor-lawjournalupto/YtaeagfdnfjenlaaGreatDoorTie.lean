/-
  DERIVED. GIVEN WITH THE SEED: THE PROGRAM's TIES (one call each: nine closed facts by the kernel) AND EACH ROW's TIE, after the 31st guide's Derived/Test/Toyas{Tie, Card}.lean. No idea stands in it: it is a product of the set-up. Laid BY PROGRAM, IN A SANDBOX (cutbox-door.mjs). By AI agents, Wed Nov 11 2026. No macro, syntax, notation, axiom, sorry.
-/
import Derived.Test.YtaeagfdnfjenlaaGreatDoorRows
import Derived.LaidByTextLater
import Derived.SevenTiedAt
import Derived.LaidSub
import Derived.LaidOnce
namespace Go.Proofs.YtaeagfdnfjenlaaGreatDoor
open Go
set_option maxRecDepth 100000
theorem seatTie1 : Tryz.prog.laidByTextLater [("ratchet/ratchetref.firstValue", Rows.laid_ratchet_ratchetref_firstValue), ("ratchet/ratchetref.rootsOfPrimes", Rows.laid_ratchet_ratchetref_rootsOfPrimes), ("ratchet/prim.roundConstants", Rows.laid_ratchet_prim_roundConstants), ("ratchet/journal.errBad", Rows.laid_ratchet_journal_errBad), ("ratchet/journal.errDirty", Rows.laid_ratchet_journal_errDirty), ("ratchet/journal.errCounter", Rows.laid_ratchet_journal_errCounter), ("ratchet/journal.errDiskFull", Rows.laid_ratchet_journal_errDiskFull), ("ratchet/journal.errPowerCut", Rows.laid_ratchet_journal_errPowerCut)] [.data, .data, .data, .sentinel, .sentinel, .sentinel, .sentinel, .sentinel] true :=
  Program.laidByTextLater_by_one 119 8 65 (by kernel_rfl) (by kernel_rfl) (by kernel_rfl) (by kernel_rfl) (by kernel_rfl) (by kernel_rfl) (fun _ _ => by kernel_rfl)
theorem noOwnUnsafe : Tryz.pinned.checked.prog.headLifts.contains "ownunsafe" = false := by kernel_rfl
theorem tie : Tryz.prog.laidByTextLater [("ratchet/ratchetref.firstValue", Rows.laid_ratchet_ratchetref_firstValue), ("ratchet/ratchetref.rootsOfPrimes", Rows.laid_ratchet_ratchetref_rootsOfPrimes), ("ratchet/prim.roundConstants", Rows.laid_ratchet_prim_roundConstants), ("ratchet/journal.errBad", Rows.laid_ratchet_journal_errBad), ("ratchet/journal.errDirty", Rows.laid_ratchet_journal_errDirty), ("ratchet/journal.errCounter", Rows.laid_ratchet_journal_errCounter), ("ratchet/journal.errDiskFull", Rows.laid_ratchet_journal_errDiskFull), ("ratchet/journal.errPowerCut", Rows.laid_ratchet_journal_errPowerCut)] [.data, .data, .data, .sentinel, .sentinel, .sentinel, .sentinel, .sentinel] true :=
  Program.laidByTextLater.sub seatTie1 ["ratchet/ratchetref.firstValue", "ratchet/ratchetref.rootsOfPrimes", "ratchet/prim.roundConstants", "ratchet/journal.errBad", "ratchet/journal.errDirty", "ratchet/journal.errCounter", "ratchet/journal.errDiskFull", "ratchet/journal.errPowerCut"] (by kernel_rfl) (by kernel_rfl)
theorem lawJournal_row_tie : Rows.lawJournalRow.laidByTextAt .later Tryz.pinned [.data, .data, .data, .sentinel, .sentinel, .sentinel, .sentinel, .sentinel] true :=
  OpenClaim.laidByTextAt_later rfl rfl tie noOwnUnsafe
theorem lawJournalUpto_row_tie : Rows.lawJournalUptoRow.laidByTextAt .later Tryz.pinned [.data, .data, .data, .sentinel, .sentinel, .sentinel, .sentinel, .sentinel] true :=
  OpenClaim.laidByTextAt_later rfl rfl tie noOwnUnsafe
end Go.Proofs.YtaeagfdnfjenlaaGreatDoor
