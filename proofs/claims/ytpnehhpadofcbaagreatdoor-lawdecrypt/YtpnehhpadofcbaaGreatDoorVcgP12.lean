/-
  The card on Decrypt: the row's statement, with the listed tables and sentinels tied to the program's text.
-/
import Derived.Test.YtpnehhpadofcbaaGreatDoorVcgP11
import Derived.Test.YtpnehhpadofcbaaGreatDoorCards
import Derived.Test.YtpnehhpadofcbaaGreatDoorTie
import Derived.SevenTiedAt
set_option linter.unusedVariables false
set_option linter.unusedSimpArgs false
namespace Go.Proofs.YtpnehhpadofcbaaGreatDoor.lawDecryptDone
open Go
theorem proved:Rows.LawDecryptCardSaid:=
 Claim7.holds_tied_plain_at .later [] [.data, .data, .data, .sentinel, .sentinel, .sentinel, .sentinel, .sentinel, .sentinel, .sentinel, .sentinel, .sentinel] true (true,"64d7fd25c30226adfc9dc70e7bf2a1e6ff01604678c65a1463427656c2e5fb82") true
  over (fun _ h=>by cases h) (by kernel_rfl) (fun _ h=>by cases h) lawDecrypt_row_tie rfl ⟨rfl,rfl⟩ (by kernel_rfl) rfl
  (fun f fn hf hfn=>by
   obtain rfl:f=3:=Option.some.inj ((show Tryz.prog.funcNamed "ratchet/ratchetlaw.LawDecrypt" =some 3 by kernel_rfl).symm.trans hf) |>.symm
   obtain rfl:fn=Tryz.f3:=(Option.some.inj (Tryz.func3.symm.trans hfn)).symm
   exact ⟨by kernel_rfl,fun j t ht=>by
    rw[Tryz.params3]at ht
    have hm:t ∈ [27,28]:=by simpa using Array.mem_of_getElem? ht
    have hall:([27,28].all fun u=> !Tryz.prog.wantsStandIn u)=true:=by kernel_rfl
    exact (show Tryz.prog.wantsStandIn t=false by simpa using List.all_eq_true.1 hall t hm)⟩)
  (by kernel_rfl)
#print axioms proved
end Go.Proofs.YtpnehhpadofcbaaGreatDoor.lawDecryptDone
