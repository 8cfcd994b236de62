/-
  DERIVED. GIVEN WITH THE SEED: THE PROGRAM's TIES (one call each: nine closed facts by the kernel) AND EACH ROW's TIE, after the 31st guide's Derived/Test/Toyas{Tie, Card}.lean. No idea stands in it: it is a product of the set-up. Laid BY PROGRAM, IN A SANDBOX (cutbox-door.mjs). By AI agents, Wed Nov 11 2026. No macro, syntax, notation, axiom, sorry.
-/
import Derived.Test.YtlpckbkmmocaaaaDoorRows
import Derived.LaidByTextLater
import Derived.SevenTiedAt
import Derived.LaidSub
import Derived.LaidOnce
namespace Go.Proofs.YtlpckbkmmocaaaaDoor
open Go
set_option maxRecDepth 100000
theorem seatTie1 : Tryd.prog.laidByTextLater [("ratchet/ratchetref.firstValue", Rows.laid_ratchet_ratchetref_firstValue), ("ratchet/ratchetref.rootsOfPrimes", Rows.laid_ratchet_ratchetref_rootsOfPrimes), ("ratchet/prim.roundConstants", Rows.laid_ratchet_prim_roundConstants)] [.data, .data, .data] true :=
  Program.laidByTextLater_by_one 24 8 65 (by kernel_rfl) (by kernel_rfl) (by kernel_rfl) (by kernel_rfl) (by kernel_rfl) (by kernel_rfl) (fun _ _ => by kernel_rfl)
theorem noOwnUnsafe : Tryd.pinned.checked.prog.headLifts.contains "ownunsafe" = false := by kernel_rfl
theorem tie : Tryd.prog.laidByTextLater [("ratchet/ratchetref.firstValue", Rows.laid_ratchet_ratchetref_firstValue), ("ratchet/ratchetref.rootsOfPrimes", Rows.laid_ratchet_ratchetref_rootsOfPrimes), ("ratchet/prim.roundConstants", Rows.laid_ratchet_prim_roundConstants)] [.data, .data, .data] true :=
  Program.laidByTextLater.sub seatTie1 ["ratchet/ratchetref.firstValue", "ratchet/ratchetref.rootsOfPrimes", "ratchet/prim.roundConstants"] (by kernel_rfl) (by kernel_rfl)
theorem lawKdf_row_tie : Rows.lawKdfRow.laidByTextAt .later Tryd.pinned [.data, .data, .data] true :=
  OpenClaim.laidByTextAt_later rfl rfl tie noOwnUnsafe
theorem lawKdfUpto_row_tie : Rows.lawKdfUptoRow.laidByTextAt .later Tryd.pinned [.data, .data, .data] true :=
  OpenClaim.laidByTextAt_later rfl rfl tie noOwnUnsafe
end Go.Proofs.YtlpckbkmmocaaaaDoor
