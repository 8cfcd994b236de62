/-
  The card on key derivations: the row's statement, with the three listed tables tied to the program's text.
-/
import Derived.Test.YtlpckbkmmocaaaaDoorVcgP8
import Derived.Test.YtlpckbkmmocaaaaDoorCards
import Derived.Test.YtlpckbkmmocaaaaDoorTie
import Derived.SevenTiedAt
set_option linter.unusedVariables false
set_option linter.unusedSimpArgs false
namespace Go.Proofs.YtlpckbkmmocaaaaDoor.lawKdfDone
open Go
/-- The statement: for every role, all keys and all limits LawKdf returns true and leaves its arguments as they were; its conditions: the listed tables start as the program's text lays them (tied), arguments of plain data. -/
theorem proved : Rows.LawKdfCardSaid :=
  Claim7.holds_tied_plain_at .later [] [.data, .data, .data] true (true, "270e083c778c883a8c41901b4587328125a747e321850352c4bbc443de45f92c") false
    over (fun _ h => by cases h) (by kernel_rfl) (fun _ h => by cases h) lawKdf_row_tie rfl ⟨rfl, rfl⟩ (by kernel_rfl) rfl
    (fun f fn hf hfn => by
      obtain rfl : f = 3 := Option.some.inj ((show Tryd.prog.funcNamed "ratchet/ratchetlaw.LawKdf" = some 3 by kernel_rfl).symm.trans hf) |>.symm
      obtain rfl : fn = Tryd.f3 := (Option.some.inj (Tryd.func3.symm.trans hfn)).symm
      exact ⟨by kernel_rfl, fun j t ht => by
        rw [Tryd.params3] at ht
        have hm : t ∈ [3, 23, 23, 3, 3] := by simpa using Array.mem_of_getElem? ht
        have hall : ([3, 23, 23, 3, 3].all fun u => !Tryd.prog.wantsStandIn u) = true := by kernel_rfl
        exact (show Tryd.prog.wantsStandIn t = false by simpa using List.all_eq_true.1 hall t hm)⟩)
    (by kernel_rfl)
#print axioms proved
end Go.Proofs.YtlpckbkmmocaaaaDoor.lawKdfDone
