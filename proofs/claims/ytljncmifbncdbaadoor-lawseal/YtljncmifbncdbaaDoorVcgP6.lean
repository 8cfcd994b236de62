/-
  The card on sealing: the row's statement, with the three listed tables tied to the program's text.
-/
import Derived.Test.YtljncmifbncdbaaDoorVcgP5
import Derived.Test.YtljncmifbncdbaaDoorCards
import Derived.Test.YtljncmifbncdbaaDoorTie
import Derived.SevenTiedAt
set_option linter.unusedVariables false
set_option linter.unusedSimpArgs false
namespace Go.Proofs.YtljncmifbncdbaaDoor.lawSealDone
open Go
/-- The statement: for every key, every two lists and every tag LawSeal returns true and leaves its arguments as they were; its conditions: the listed tables start as the program's text lays them (tied), arguments of plain data. -/
theorem proved : Rows.LawSealCardSaid :=
  Claim7.holds_tied_plain_at .later [] [.data, .data, .data] true (true, "1e752fcb9436a4d040facef42a97e208ba43046b297011ff72596e48d3705b5a") false
    over (fun _ h => by cases h) (by kernel_rfl) (fun _ h => by cases h) lawSeal_row_tie rfl ⟨rfl, rfl⟩ (by kernel_rfl) rfl
    (fun f fn hf hfn => by
      obtain rfl : f = 3 := Option.some.inj ((show Tryd.prog.funcNamed "ratchet/ratchetlaw.LawSeal" = some 3 by kernel_rfl).symm.trans hf) |>.symm
      obtain rfl : fn = Tryd.f3 := (Option.some.inj (Tryd.func3.symm.trans hfn)).symm
      exact ⟨by kernel_rfl, fun j t ht => by
        rw [Tryd.params3] at ht
        have hm : t ∈ [23, 24, 24, 23] := by simpa using Array.mem_of_getElem? ht
        have hall : ([23, 24, 24, 23].all fun u => !Tryd.prog.wantsStandIn u) = true := by kernel_rfl
        exact (show Tryd.prog.wantsStandIn t = false by simpa using List.all_eq_true.1 hall t hm)⟩)
    (by kernel_rfl)
#print axioms proved
end Go.Proofs.YtljncmifbncdbaaDoor.lawSealDone
