/-
  DERIVED. GIVEN WITH THE SEED: THE PROGRAM's TIES (one call each: nine closed facts by the kernel) AND EACH ROW's TIE, after the 31st guide's Derived/Test/Toyas{Tie, Card}.lean. No idea stands in it: it is a product of the set-up. Laid BY PROGRAM, IN A SANDBOX (cutbox-door.mjs). By AI agents, Wed Nov 11 2026. No macro, syntax, notation, axiom, sorry.
-/
import Derived.Test.YtbipdofobgabhaaGreatDoorRows
import Derived.LaidByTextLater
import Derived.SevenTiedAt
import Derived.LaidSub
import Derived.LaidOnce
namespace Go.Proofs.YtbipdofobgabhaaGreatDoor
open Go
set_option maxRecDepth 100000
theorem seatTie1 : Tryz.prog.laidByTextLater [("ratchet/prim.roundConstants", Rows.laid_ratchet_prim_roundConstants), ("ratchet/machine.errBad", Rows.laid_ratchet_machine_errBad), ("ratchet/machine.errMalformed", Rows.laid_ratchet_machine_errMalformed), ("ratchet/machine.errBadTag", Rows.laid_ratchet_machine_errBadTag), ("ratchet/machine.errSkipLimit", Rows.laid_ratchet_machine_errSkipLimit), ("ratchet/machine.errStoreFull", Rows.laid_ratchet_machine_errStoreFull), ("ratchet/machine.errCounter", Rows.laid_ratchet_machine_errCounter), ("ratchet/machine.errOld", Rows.laid_ratchet_machine_errOld), ("ratchet/machine.errNotReady", Rows.laid_ratchet_machine_errNotReady), ("ratchet/machine.errTooLong", Rows.laid_ratchet_machine_errTooLong)] [.data, .sentinel, .sentinel, .sentinel, .sentinel, .sentinel, .sentinel, .sentinel, .sentinel, .sentinel] true :=
  Program.laidByTextLater_by_one 185 8 65 (by kernel_rfl) (by kernel_rfl) (by kernel_rfl) (by kernel_rfl) (by kernel_rfl) (by kernel_rfl) (fun _ _ => by kernel_rfl)
theorem noOwnUnsafe : Tryz.pinned.checked.prog.headLifts.contains "ownunsafe" = false := by kernel_rfl
theorem tie : Tryz.prog.laidByTextLater [("ratchet/prim.roundConstants", Rows.laid_ratchet_prim_roundConstants), ("ratchet/machine.errBad", Rows.laid_ratchet_machine_errBad), ("ratchet/machine.errMalformed", Rows.laid_ratchet_machine_errMalformed), ("ratchet/machine.errBadTag", Rows.laid_ratchet_machine_errBadTag), ("ratchet/machine.errSkipLimit", Rows.laid_ratchet_machine_errSkipLimit), ("ratchet/machine.errStoreFull", Rows.laid_ratchet_machine_errStoreFull), ("ratchet/machine.errCounter", Rows.laid_ratchet_machine_errCounter), ("ratchet/machine.errOld", Rows.laid_ratchet_machine_errOld), ("ratchet/machine.errNotReady", Rows.laid_ratchet_machine_errNotReady), ("ratchet/machine.errTooLong", Rows.laid_ratchet_machine_errTooLong)] [.data, .sentinel, .sentinel, .sentinel, .sentinel, .sentinel, .sentinel, .sentinel, .sentinel, .sentinel] true :=
  Program.laidByTextLater.sub seatTie1 ["ratchet/prim.roundConstants", "ratchet/machine.errBad", "ratchet/machine.errMalformed", "ratchet/machine.errBadTag", "ratchet/machine.errSkipLimit", "ratchet/machine.errStoreFull", "ratchet/machine.errCounter", "ratchet/machine.errOld", "ratchet/machine.errNotReady", "ratchet/machine.errTooLong"] (by kernel_rfl) (by kernel_rfl)
theorem lawTalk_row_tie : Rows.lawTalkRow.laidByTextAt .later Tryz.pinned [.data, .sentinel, .sentinel, .sentinel, .sentinel, .sentinel, .sentinel, .sentinel, .sentinel, .sentinel] true :=
  OpenClaim.laidByTextAt_later rfl rfl tie noOwnUnsafe
theorem lawTalkUpto_row_tie : Rows.lawTalkUptoRow.laidByTextAt .later Tryz.pinned [.data, .sentinel, .sentinel, .sentinel, .sentinel, .sentinel, .sentinel, .sentinel, .sentinel, .sentinel] true :=
  OpenClaim.laidByTextAt_later rfl rfl tie noOwnUnsafe
end Go.Proofs.YtbipdofobgabhaaGreatDoor
