/-
  Format, Mount, Append, Compact and Recover of the journal answer chapter 6 at every region, image, payload and crash plan, and leave these as they were; conditions: what is handed in holds together at most 1048576 values, and the listed tables and sentinel errors start as the program's text lays them (tied).
-/
import Derived.Test.YtaeagfdnfjenlaaGreatDoorVcgPB
import Derived.Test.YtaeagfdnfjenlaaGreatDoorCards
import Derived.Test.YtaeagfdnfjenlaaGreatDoorTie
import Derived.SevenTiedAt
set_option linter.unusedVariables false
set_option linter.unusedSimpArgs false
namespace Go.Proofs.YtaeagfdnfjenlaaGreatDoor.lawJournalDone
open Go
theorem proved:Rows.LawJournalUptoCardSaid:=
 Claim7.holds_tied_plain_at .later [] _ _ _ _
  over (fun _ h=>by cases h) (by kernel_rfl) (fun _ h=>by cases h) lawJournalUpto_row_tie rfl ⟨rfl,rfl⟩ (by kernel_rfl) rfl
  (fun f fn hf hfn=>by
   obtain rfl:f=3:=Option.some.inj ((show Tryz.prog.funcNamed "ratchet/ratchetlaw.LawJournal" =some 3 by kernel_rfl).symm.trans hf) |>.symm
   obtain rfl:fn=Tryz.f3:=(Option.some.inj (Tryz.func3.symm.trans hfn)).symm
   exact ⟨by kernel_rfl,fun j t ht=>by
    rw[Tryz.params3]at ht
    have hm:t ∈ [3,22,22,25]:=by simpa using Array.mem_of_getElem? ht
    have hall:([3,22,22,25].all fun u=> !Tryz.prog.wantsStandIn u)=true:=by kernel_rfl
    exact (show Tryz.prog.wantsStandIn t=false by simpa using List.all_eq_true.1 hall t hm)⟩)
  (by kernel_rfl)
#print axioms proved
end Go.Proofs.YtaeagfdnfjenlaaGreatDoor.lawJournalDone
