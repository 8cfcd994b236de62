/-
  The reader: bytes taken off the front of a list.
-/
import Derived.Test.YtikibkboebbdjaaVcgFacts
import Derived.Test.YtikibkboebbdjaaVcgI
set_option linter.unusedSimpArgs false
set_option linter.unusedVariables false
namespace Go.Proofs.Ytikibkboebbdjaa
open Go.Vcg
set_option maxHeartbeats 4000000 in
set_option maxRecDepth 20000 in
theorem take_m {o n c m : Nat} {cs : List SV} (hp : cs.all SV.plain = true) (hm : m ≤ n) (hc : n ≤ c) :
    MFun Try.prog 42 [Ptr 0 0, I .i64 m] 2 (rdIns o n c cs) (RdVal (Sl 1 o m c) (slO o m c) (n - m) (c - m)) := by
  refine mfun_of_vc Try.func42 rfl (by kernel_rfl) (by simp [Try.ntmps42]) Try.callable42 (by simp [AV.ok, CV.ok, SV.names]) all_rd (inn_rd hp) ?_
  have b0 : rdIns o n c cs 0 = some ⟨true, [rd 1 o n c]⟩ := rfl
  have l1 : (((m : Nat) : Int) ≤ (n : Int)) = True := eq_true (by omega)
  have l2 : (((m : Nat) : Int) ≤ (c : Int)) = True := eq_true (by omega)
  have l3 : (((n : Nat) : Int) ≤ (c : Int)) = True := eq_true (by omega)
  simp only [Try.results42, b0, l1, l2, l3, nat_nn, sn_upto, sn_from, slN_def, run_cap, rules, rules2, loopRules, Try.facts, base0, Int.toNat_zero, Nat.reduceAdd, Nat.reduceMul, Nat.reduceSub, Nat.reduceLT, Nat.reduceLeDiff, Nat.reduceEqDiff, Int.reduceLE, Int.reduceLT, Int.reduceToNat, Int.reduceNe, Int.reduceEq, not_false_eq_true, Nat.reduceBEq, Nat.reduceDiv, Int.natCast_zero, Int.natCast_one, Int.reduceAdd, Int.reduceSub, reduceIte, ↓reduceIte, Value.oneCell', rowI_length, rowI_take, rowI_splice, rep_all, row_zero, le_nat, Int.toNat_natCast, Nat.zero_add, sok_row, reduceCtorEq]
  exact ret_rd rfl (show (1 : Nat) < 2 by omega)
set_option maxHeartbeats 4000000 in
set_option maxRecDepth 20000 in
theorem u32_m {o n c : Nat} {f : Nat → Int} {cs : List SV} (hf : Byt f) (hs : Shows cs o n f) (hp : cs.all SV.plain = true) (hm : 4 ≤ n) (hc : n ≤ c) :
    MFun Try.prog 41 [Ptr 0 0] 2 (rdIns o n c cs) (RdVal (I .u32 (be4 f 0)) (slO o 4 c) (n - 4) (c - 4)) := by
  refine mfun_of_vc Try.func41 rfl (by kernel_rfl) (by simp [Try.ntmps41]) Try.callable41 (by simp [AV.ok, CV.ok, SV.names]) all_rd (inn_rd hp) ?_
  have b0 : rdIns o n c cs 0 = some ⟨true, [rd 1 o n c]⟩ := rfl
  have b1 : rdIns o n c cs 1 = some ⟨false, cs⟩ := rfl
  have a0 := hs 0 (by omega)
  have a1 := hs 1 (by omega)
  have a2 := hs 2 (by omega)
  have a3 := hs 3 (by omega)
  rw [Nat.add_zero] at a0
  have e := or_four (f 0) (f 1) (f 2) (f 3) (hf 0) (hf 1) (hf 2) (hf 3)
  simp only [Try.results41, sn_upto, sn_from, slN_def, run_cap, rules, rules2, loopRules, Try.facts, base0, Int.toNat_zero, Nat.reduceAdd, Nat.reduceMul, Nat.reduceSub, Nat.reduceLT, Nat.reduceLeDiff, Nat.reduceEqDiff, Int.reduceLE, Int.reduceLT, Int.reduceToNat, Int.reduceNe, Int.reduceEq, not_false_eq_true, Nat.reduceBEq, Nat.reduceDiv, Int.natCast_zero, Int.natCast_one, Int.reduceAdd, Int.reduceSub, reduceIte, ↓reduceIte, Value.oneCell', rowI_length, rowI_take, rowI_splice, rep_all, row_zero, le_nat, Int.toNat_natCast, Nat.zero_add, sok_row, reduceCtorEq]
  refine rd_call (take_m (o := o) (m := 4) hp hm hc) (t := 0) (u := 1) (rw := false) (by simp only [upd_apply, b0, sn_upto, sn_from, slN_def, run_cap, rules, rules2, loopRules, Try.facts, base0, Int.toNat_zero, Nat.reduceAdd, Nat.reduceMul, Nat.reduceSub, Nat.reduceLT, Nat.reduceLeDiff, Nat.reduceEqDiff, Int.reduceLE, Int.reduceLT, Int.reduceToNat, Int.reduceNe, Int.reduceEq, not_false_eq_true, Nat.reduceBEq, Nat.reduceDiv, Int.natCast_zero, Int.natCast_one, Int.reduceAdd, Int.reduceSub, reduceIte, ↓reduceIte, Value.oneCell', rowI_length, rowI_take, rowI_splice, rep_all, row_zero, le_nat, Int.toNat_natCast, Nat.zero_add, sok_row, reduceCtorEq]) (by simp only [upd_apply, b1, sn_upto, sn_from, slN_def, run_cap, rules, rules2, loopRules, Try.facts, base0, Int.toNat_zero, Nat.reduceAdd, Nat.reduceMul, Nat.reduceSub, Nat.reduceLT, Nat.reduceLeDiff, Nat.reduceEqDiff, Int.reduceLE, Int.reduceLT, Int.reduceToNat, Int.reduceNe, Int.reduceEq, not_false_eq_true, Nat.reduceBEq, Nat.reduceDiv, Int.natCast_zero, Int.natCast_one, Int.reduceAdd, Int.reduceSub, reduceIte, ↓reduceIte, Value.oneCell', rowI_length, rowI_take, rowI_splice, rep_all, row_zero, le_nat, Int.toNat_natCast, Nat.zero_add, sok_row, reduceCtorEq]) hp (by decide) rfl (y := Sl 1 o 4 c) rfl ?_
  simp only [b1, a0, a1, a2, a3, Nat.add_zero, e, sn_upto, sn_from, slN_def, run_cap, rules, rules2, loopRules, Try.facts, base0, Int.toNat_zero, Nat.reduceAdd, Nat.reduceMul, Nat.reduceSub, Nat.reduceLT, Nat.reduceLeDiff, Nat.reduceEqDiff, Int.reduceLE, Int.reduceLT, Int.reduceToNat, Int.reduceNe, Int.reduceEq, not_false_eq_true, Nat.reduceBEq, Nat.reduceDiv, Int.natCast_zero, Int.natCast_one, Int.reduceAdd, Int.reduceSub, reduceIte, ↓reduceIte, Value.oneCell', rowI_length, rowI_take, rowI_splice, rep_all, row_zero, le_nat, Int.toNat_natCast, Nat.zero_add, sok_row, reduceCtorEq]
  exact ⟨by kernel_rfl, ret_rd rfl trivial⟩
set_option maxHeartbeats 4000000 in
set_option maxRecDepth 20000 in
theorem key_m {o n c : Nat} {f : Nat → Int} {cs : List SV} (hs : Shows cs o n f) (hp : cs.all SV.plain = true) (hm : 32 ≤ n) (hc : n ≤ c) :
    MFun Try.prog 43 [Ptr 0 0] 2 (rdIns o n c cs) (RdVal (Ag (rowI .u8 32 f)) (slO o 32 c) (n - 32) (c - 32)) := by
  refine mfun_of_vc Try.func43 rfl (by kernel_rfl) (by simp [Try.ntmps43]) Try.callable43 (by simp [AV.ok, CV.ok, SV.names]) all_rd (inn_rd hp) ?_
  have b0 : rdIns o n c cs 0 = some ⟨true, [rd 1 o n c]⟩ := rfl
  have b1 : rdIns o n c cs 1 = some ⟨false, cs⟩ := rfl
  have hl : o + 31 < cs.length := (List.getElem?_eq_some_iff.1 (hs 31 (by omega))).1
  have ek : List.take 32 (List.drop o cs) = rowI .u8 32 f := take_shows hs hm
  simp only [Try.results43, sn_upto, sn_from, slN_def, run_cap, rules, rules2, loopRules, Try.facts, base0, Int.toNat_zero, Nat.reduceAdd, Nat.reduceMul, Nat.reduceSub, Nat.reduceLT, Nat.reduceLeDiff, Nat.reduceEqDiff, Int.reduceLE, Int.reduceLT, Int.reduceToNat, Int.reduceNe, Int.reduceEq, not_false_eq_true, Nat.reduceBEq, Nat.reduceDiv, Int.natCast_zero, Int.natCast_one, Int.reduceAdd, Int.reduceSub, reduceIte, ↓reduceIte, Value.oneCell', rowI_length, rowI_take, rowI_splice, rep_all, row_zero, le_nat, Int.toNat_natCast, Nat.zero_add, sok_row, reduceCtorEq]
  refine rd_call (take_m (o := o) (m := 32) hp hm hc) (t := 0) (u := 1) (rw := false) (by simp only [upd_apply, b0, sn_upto, sn_from, slN_def, run_cap, rules, rules2, loopRules, Try.facts, base0, Int.toNat_zero, Nat.reduceAdd, Nat.reduceMul, Nat.reduceSub, Nat.reduceLT, Nat.reduceLeDiff, Nat.reduceEqDiff, Int.reduceLE, Int.reduceLT, Int.reduceToNat, Int.reduceNe, Int.reduceEq, not_false_eq_true, Nat.reduceBEq, Nat.reduceDiv, Int.natCast_zero, Int.natCast_one, Int.reduceAdd, Int.reduceSub, reduceIte, ↓reduceIte, Value.oneCell', rowI_length, rowI_take, rowI_splice, rep_all, row_zero, le_nat, Int.toNat_natCast, Nat.zero_add, sok_row, reduceCtorEq]) (by simp only [upd_apply, b1, sn_upto, sn_from, slN_def, run_cap, rules, rules2, loopRules, Try.facts, base0, Int.toNat_zero, Nat.reduceAdd, Nat.reduceMul, Nat.reduceSub, Nat.reduceLT, Nat.reduceLeDiff, Nat.reduceEqDiff, Int.reduceLE, Int.reduceLT, Int.reduceToNat, Int.reduceNe, Int.reduceEq, not_false_eq_true, Nat.reduceBEq, Nat.reduceDiv, Int.natCast_zero, Int.natCast_one, Int.reduceAdd, Int.reduceSub, reduceIte, ↓reduceIte, Value.oneCell', rowI_length, rowI_take, rowI_splice, rep_all, row_zero, le_nat, Int.toNat_natCast, Nat.zero_add, sok_row, reduceCtorEq]) hp (by decide) rfl (y := Sl 1 o 32 c) rfl ?_
  simp only [b1, Nat.add_zero, ek, sn_upto, sn_from, slN_def, run_cap, rules, rules2, loopRules, Try.facts, base0, Int.toNat_zero, Nat.reduceAdd, Nat.reduceMul, Nat.reduceSub, Nat.reduceLT, Nat.reduceLeDiff, Nat.reduceEqDiff, Int.reduceLE, Int.reduceLT, Int.reduceToNat, Int.reduceNe, Int.reduceEq, not_false_eq_true, Nat.reduceBEq, Nat.reduceDiv, Int.natCast_zero, Int.natCast_one, Int.reduceAdd, Int.reduceSub, reduceIte, ↓reduceIte, Value.oneCell', rowI_length, rowI_take, rowI_splice, rep_all, row_zero, le_nat, Int.toNat_natCast, Nat.zero_add, sok_row, reduceCtorEq]
  exact ⟨by omega, ret_rd rfl (of_eq_true ok_row)⟩
end Go.Proofs.Ytikibkboebbdjaa
