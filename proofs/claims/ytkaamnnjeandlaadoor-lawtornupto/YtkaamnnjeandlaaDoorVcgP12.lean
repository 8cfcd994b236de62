/-
  Payloads appended one behind the other, each with a power cut, recovered with a power cut, compacted with a power cut, recovered: Mount tells the last payload whose commit sector was written whole, and how many there were; conditions: what is handed in holds together at most 1048576 values, and the listed table and sentinel errors start as the program's text lays them (tied).
-/
import Derived.Test.YtkaamnnjeandlaaDoorVcgPB
import Derived.Test.YtkaamnnjeandlaaDoorCards
import Derived.Test.YtkaamnnjeandlaaDoorTie
import Derived.SevenTiedAt
set_option linter.unusedVariables false
set_option linter.unusedSimpArgs false
namespace Go.Proofs.YtkaamnnjeandlaaDoor.lawTornDone
open Go
theorem proved:Rows.LawTornUptoCardSaid:=
 Claim7.holds_tied_plain_at .later [] _ _ _ _
  over (fun _ h=>by cases h) (by kernel_rfl) (fun _ h=>by cases h) lawTornUpto_row_tie rfl ⟨rfl,rfl⟩ (by kernel_rfl) rfl
  (fun f fn hf hfn=>by
   obtain rfl:f=3:=Option.some.inj ((show Tryd.prog.funcNamed "ratchet/ratchetlaw.LawTorn" =some 3 by kernel_rfl).symm.trans hf) |>.symm
   obtain rfl:fn=Tryd.f3:=(Option.some.inj (Tryd.func3.symm.trans hfn)).symm
   exact ⟨by kernel_rfl,fun j t ht=>by
    rw[Tryd.params3]at ht
    have hm:t ∈ [3,22,23,24,24]:=by simpa using Array.mem_of_getElem? ht
    have hall:([3,22,23,24,24].all fun u=> !Tryd.prog.wantsStandIn u)=true:=by kernel_rfl
    exact (show Tryd.prog.wantsStandIn t=false by simpa using List.all_eq_true.1 hall t hm)⟩)
  (by kernel_rfl)
#print axioms proved
end Go.Proofs.YtkaamnnjeandlaaDoor.lawTornDone
