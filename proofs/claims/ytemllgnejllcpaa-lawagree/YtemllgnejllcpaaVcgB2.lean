/-
  The statement's function on two parties.
-/
import Derived.Test.YtemllgnejllcpaaVcgB1
set_option linter.unusedSimpArgs false
set_option linter.unusedVariables false
namespace Go.Proofs.Ytemllgnejllcpaa
open Go.Vcg
theorem ints_row (k : IntKind) (n : Nat) (f : Nat → Int) : intsOf k (rowI k n f) = some ((List.range n).map f) := by
  rw [rowI]
  generalize List.range n = l
  induction l with
  | nil => rfl
  | cons a l ih => simp only [List.map_cons, intsOf, ih, if_true]
theorem nine_row : splice (List.replicate 32 (Sum.inl (Value.int .u8 0))) 0 [Sum.inl (Value.int .u8 9)] = rowI .u8 32 nineB := rfl
theorem eqs (x : List Int) (h : x.length = 32) : eqL .eql 32 (some x) (some x) = some (some (B true), none) := by rw [eqL_eql, if_pos ⟨h, h⟩, decide_eq_true rfl]
theorem eqr (f : Nat → Int) : eqL .eql 32 (intsOf .u8 (rowI .u8 32 f)) (intsOf .u8 (rowI .u8 32 f)) = some (some (B true), none) := by
  rw [ints_row]; exact eqs _ (by simp)
theorem neqr {f : Nat → Int} (h : ¬ (List.range 32).map f = (List.range 32).map (fun _ => (0 : Int))) : eqL .neq 32 (intsOf .u8 (rowI .u8 32 f)) (intsOf .u8 (List.replicate 32 (Sum.inl (Value.int .u8 0)))) = some (some (Vcg.B true), none) := by
  rw [show (List.replicate 32 (Sum.inl (Value.int .u8 0)) : List SV) = rowI .u8 32 (fun _ => 0) from rfl, ints_row, ints_row, eqL_neq, if_pos ⟨by simp, by simp⟩, decide_eq_false h]; rfl
set_option maxHeartbeats 4000000 in
set_option maxRecDepth 20000 in
theorem law_fun (A B : Nat → Int) (hA : By A) (hB : By B) : Fun Try.prog 3 [Ag (rowI .u8 32 A), Ag (rowI .u8 32 B)] (Vcg.B true) := by
  have r1 := curve_fun B nineB hB nine_by
  have r2 := curve_fun A nineB hA nine_by
  have r3 := curve_fun A (progB B nineB) hA (progB_by _ _)
  have r4 := curve_fun B (progB A nineB) hB (progB_by _ _)
  rw [← (both A B hA hB).1] at r4
  have nz := not_zero A B hA hB
  refine fun_of_vc Try.func3 rfl (by kernel_rfl) (by simp [Try.ntmps3]) rfl rfl ?_
  simp only [Try.results3, nine_row, sn_upto, sn_from, slN_def, run_cap, rules, rules2, loopRules, Try.facts, base0, Int.toNat_zero, Nat.reduceAdd, Nat.reduceMul, Nat.reduceSub, Nat.reduceLT, Nat.reduceLeDiff, Nat.reduceEqDiff, Int.reduceLE, Int.reduceLT, Int.reduceToNat, Int.reduceNe, Int.reduceEq, not_false_eq_true, Nat.reduceBEq, Nat.reduceDiv, Int.natCast_zero, Int.natCast_one, Int.reduceAdd, Int.reduceSub, reduceIte, ↓reduceIte, Value.oneCell', rowI_length, rowI_take, rowI_splice, rep_all, row_zero, le_nat, Int.toNat_natCast, Nat.zero_add, sok_row, reduceCtorEq]
  refine ⟨by decide, by kernel_rfl, ?_⟩
  refine Fun.draw r1 Try.callable4 ?_
  simp only [sn_upto, sn_from, slN_def, run_cap, rules, rules2, loopRules, Try.facts, base0, Int.toNat_zero, Nat.reduceAdd, Nat.reduceMul, Nat.reduceSub, Nat.reduceLT, Nat.reduceLeDiff, Nat.reduceEqDiff, Int.reduceLE, Int.reduceLT, Int.reduceToNat, Int.reduceNe, Int.reduceEq, not_false_eq_true, Nat.reduceBEq, Nat.reduceDiv, Int.natCast_zero, Int.natCast_one, Int.reduceAdd, Int.reduceSub, reduceIte, ↓reduceIte, Value.oneCell', rowI_length, rowI_take, rowI_splice, rep_all, row_zero, le_nat, Int.toNat_natCast, Nat.zero_add, sok_row, reduceCtorEq]
  refine Fun.draw r3 Try.callable4 ?_
  simp only [sn_upto, sn_from, slN_def, run_cap, rules, rules2, loopRules, Try.facts, base0, Int.toNat_zero, Nat.reduceAdd, Nat.reduceMul, Nat.reduceSub, Nat.reduceLT, Nat.reduceLeDiff, Nat.reduceEqDiff, Int.reduceLE, Int.reduceLT, Int.reduceToNat, Int.reduceNe, Int.reduceEq, not_false_eq_true, Nat.reduceBEq, Nat.reduceDiv, Int.natCast_zero, Int.natCast_one, Int.reduceAdd, Int.reduceSub, reduceIte, ↓reduceIte, Value.oneCell', rowI_length, rowI_take, rowI_splice, rep_all, row_zero, le_nat, Int.toNat_natCast, Nat.zero_add, sok_row, reduceCtorEq]
  refine ⟨by kernel_rfl, ?_⟩
  refine Fun.draw r2 Try.callable4 ?_
  simp only [sn_upto, sn_from, slN_def, run_cap, rules, rules2, loopRules, Try.facts, base0, Int.toNat_zero, Nat.reduceAdd, Nat.reduceMul, Nat.reduceSub, Nat.reduceLT, Nat.reduceLeDiff, Nat.reduceEqDiff, Int.reduceLE, Int.reduceLT, Int.reduceToNat, Int.reduceNe, Int.reduceEq, not_false_eq_true, Nat.reduceBEq, Nat.reduceDiv, Int.natCast_zero, Int.natCast_one, Int.reduceAdd, Int.reduceSub, reduceIte, ↓reduceIte, Value.oneCell', rowI_length, rowI_take, rowI_splice, rep_all, row_zero, le_nat, Int.toNat_natCast, Nat.zero_add, sok_row, reduceCtorEq]
  refine Fun.draw r4 Try.callable4 ?_
  simp only [eqr, neqr nz, sn_upto, sn_from, slN_def, run_cap, rules, rules2, loopRules, Try.facts, base0, Int.toNat_zero, Nat.reduceAdd, Nat.reduceMul, Nat.reduceSub, Nat.reduceLT, Nat.reduceLeDiff, Nat.reduceEqDiff, Int.reduceLE, Int.reduceLT, Int.reduceToNat, Int.reduceNe, Int.reduceEq, not_false_eq_true, Nat.reduceBEq, Nat.reduceDiv, Int.natCast_zero, Int.natCast_one, Int.reduceAdd, Int.reduceSub, reduceIte, ↓reduceIte, Value.oneCell', rowI_length, rowI_take, rowI_splice, rep_all, row_zero, le_nat, Int.toNat_natCast, Nat.zero_add, sok_row, reduceCtorEq]
end Go.Proofs.Ytemllgnejllcpaa
