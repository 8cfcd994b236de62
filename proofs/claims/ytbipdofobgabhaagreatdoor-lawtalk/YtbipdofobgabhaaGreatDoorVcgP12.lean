/-
  The card on a talk: messages of one chain are opened in whatever order they come, each once, and the answer in a new chain is opened too; the row's statement, with the listed tables and sentinels tied to the program's text.
-/
import Derived.Test.YtbipdofobgabhaaGreatDoorVcgPB
import Derived.Test.YtbipdofobgabhaaGreatDoorCards
import Derived.Test.YtbipdofobgabhaaGreatDoorTie
import Derived.SevenTiedAt
set_option linter.unusedVariables false
set_option linter.unusedSimpArgs false
namespace Go.Proofs.YtbipdofobgabhaaGreatDoor.lawTalkDone
open Go
theorem proved:Rows.LawTalkCardSaid:=
 Claim7.holds_tied_plain_at .later [] [.data, .sentinel, .sentinel, .sentinel, .sentinel, .sentinel, .sentinel, .sentinel, .sentinel, .sentinel] true (true,"cde4ec1785fe8ed515115c0b4355f0f42055ad01390b5733263737a4cdc84ad2") true
  over (fun _ h=>by cases h) (by kernel_rfl) (fun _ h=>by cases h) lawTalk_row_tie rfl ⟨rfl,rfl⟩ (by kernel_rfl) rfl
  (fun f fn hf hfn=>by
   obtain rfl:f=3:=Option.some.inj ((show Tryz.prog.funcNamed "ratchet/ratchetlaw.LawTalk" =some 3 by kernel_rfl).symm.trans hf) |>.symm
   obtain rfl:fn=Tryz.f3:=(Option.some.inj (Tryz.func3.symm.trans hfn)).symm
   exact ⟨by kernel_rfl,fun j t ht=>by
    rw[Tryz.params3]at ht
    have hm:t ∈ [23,23,23,23,24,25]:=by simpa using Array.mem_of_getElem? ht
    have hall:([23,23,23,23,24,25].all fun u=> !Tryz.prog.wantsStandIn u)=true:=by kernel_rfl
    exact (show Tryz.prog.wantsStandIn t=false by simpa using List.all_eq_true.1 hall t hm)⟩)
  (by kernel_rfl)
#print axioms proved
end Go.Proofs.YtbipdofobgabhaaGreatDoor.lawTalkDone
