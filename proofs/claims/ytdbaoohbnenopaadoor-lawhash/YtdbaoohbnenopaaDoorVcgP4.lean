/-
  The card on hashing: the row's statement, with the three listed tables tied to the program's text.
-/
import Derived.Test.YtdbaoohbnenopaaDoorVcgP3
import Derived.Test.YtdbaoohbnenopaaDoorCards
import Derived.Test.YtdbaoohbnenopaaDoorTie
import Derived.SevenTiedAt
set_option linter.unusedVariables false
set_option linter.unusedSimpArgs false
namespace Go.Proofs.YtdbaoohbnenopaaDoor.lawHashDone
open Go
/-- The statement: for every key, message, info and length LawHash returns true and leaves its arguments as they were; its conditions: the listed tables start as the program's text lays them (tied), arguments of plain data. -/
theorem proved : Rows.LawHashCardSaid :=
  Claim7.holds_tied_plain_at .later [] [.data, .data, .data] true (true, "b7c857e59cd404c236b0b816ee84b545e6ba47c85d62f029dc55d496a9c32d71") false
    over (fun _ h => by cases h) (by kernel_rfl) (fun _ h => by cases h) lawHash_row_tie rfl ⟨rfl, rfl⟩ (by kernel_rfl) rfl
    (fun f fn hf hfn => by
      obtain rfl : f = 3 := Option.some.inj ((show Tryd.prog.funcNamed "ratchet/ratchetlaw.LawHash" = some 3 by kernel_rfl).symm.trans hf) |>.symm
      obtain rfl : fn = Tryd.f3 := (Option.some.inj (Tryd.func3.symm.trans hfn)).symm
      exact ⟨by kernel_rfl, fun j t ht => by
        rw [Tryd.params3] at ht
        have hm : t ∈ [22, 22, 22, 3] := by simpa using Array.mem_of_getElem? ht
        have hall : ([22, 22, 22, 3].all fun u => !Tryd.prog.wantsStandIn u) = true := by kernel_rfl
        exact (show Tryd.prog.wantsStandIn t = false by simpa using List.all_eq_true.1 hall t hm)⟩)
    (by kernel_rfl)
#print axioms proved
end Go.Proofs.YtdbaoohbnenopaaDoor.lawHashDone
