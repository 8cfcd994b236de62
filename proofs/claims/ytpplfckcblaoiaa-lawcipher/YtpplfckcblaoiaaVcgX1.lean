/-
  Functions of the cipher, of the program and of the document.
-/
import Derived.Test.YtpplfckcblaoiaaVcgW2
import Derived.Test.YtpplfckcblaoiaaVcgT
set_option linter.unusedVariables false
set_option linter.unusedSimpArgs false
namespace Go.Proofs.Ytpplfckcblaoiaa
open Go.Vcg
/-! ### The cipher's steps through its S-box -/
def Byt (f : Nat → Int) : Prop := ∀ i, 0 ≤ f i ∧ f i < 256
/-- What is looked up lies in the S-box. -/
def shfB (C S : Nat → Int) (i : Nat) : Int := C (S ((i + i % 4 * 4) % 16)).toNat
def subB (C S : Nat → Int) (i : Nat) : Int := C (S i).toNat
theorem plainI {k : IntKind} {n : Nat} {f : Nat → Int} : (rowI k n f).all SV.plain = true := rowI_plain k n f
set_option maxHeartbeats 2000000 in
set_option maxRecDepth 20000 in
theorem shifted_m (C S : Nat → Int) (hS : Byt S) : MFun Try.prog 49 [Ptr 0 0, Ag (rowI .u8 16 S)] 1 (lk [(0, ⟨false, rowI .u8 496 C⟩)])
    (fun v out => v = Ag (rowI .u8 16 (shfB C S)) ∧ out = fun _ => none) := by
  refine mfun_of_vc Try.func49 rfl (by kernel_rfl) (by simp [Try.ntmps49]) Try.callable49 (by simp [AV.ok, CV.ok, SV.names]; exact ok_all plainI) all1 (inn1 plainI) ?_
  simp only [Try.results49, sn_upto, sn_from, slN_def, run_cap, rules, rules2, loopRules, Try.facts, base0, Int.toNat_zero, Nat.reduceAdd, Nat.reduceMul, Nat.reduceSub, Nat.reduceLT, Nat.reduceLeDiff, Nat.reduceEqDiff, Int.reduceLE, Int.reduceLT, Int.reduceToNat, Int.reduceNe, Int.reduceEq, not_false_eq_true, Nat.reduceBEq, Nat.reduceDiv, Int.natCast_zero, Int.natCast_one, Int.reduceAdd, Int.reduceSub, reduceIte, ↓reduceIte, Value.oneCell', rowI_length, rowI_take, rowI_splice, rep_all, row_zero, le_nat, Int.toNat_natCast, Nat.zero_add, sok_row, reduceCtorEq]
  refine loop_count 16 (fun k => [(0, Ptr 0 0), (3, Ptr 1 0), (4, Ptr 2 0), (5, Ptr 3 0), (7, I .i64 k)])
    (fun k => [(0, ⟨false, rowI .u8 496 C⟩), (1, ⟨true, rowI .u8 16 S⟩), (2, ⟨true, rowI .u8 16 (fun _ => 0)⟩), (3, ⟨true, rowI .u8 16 (fun i => if i < k then shfB C S i else 0)⟩)]) _ ?_ ?_ ?_
  · simp only [sok_row, Nat.not_lt_zero, sn_upto, sn_from, slN_def, run_cap, rules, rules2, loopRules, Try.facts, base0, Int.toNat_zero, Nat.reduceAdd, Nat.reduceMul, Nat.reduceSub, Nat.reduceLT, Nat.reduceLeDiff, Nat.reduceEqDiff, Int.reduceLE, Int.reduceLT, Int.reduceToNat, Int.reduceNe, Int.reduceEq, not_false_eq_true, Nat.reduceBEq, Nat.reduceDiv, Int.natCast_zero, Int.natCast_one, Int.reduceAdd, Int.reduceSub, reduceIte, ↓reduceIte, Value.oneCell', rowI_length, rowI_take, rowI_splice, rep_all, row_zero, le_nat, Int.toNat_natCast, Nat.zero_add, sok_row, reduceCtorEq]
  · intro j hj
    have e : (IntKind.i64.wrap ((j : Int) + IntKind.i64.wrap (((j : Int).tmod 4) * 4))).tmod 16 = (((j + j % 4 * 4) % 16 : Nat) : Int) := by
      have h1 : ((j : Int).tmod 4) = ((j % 4 : Nat) : Int) := by rw [Int.tmod_eq_emod_of_nonneg (by omega)]; omega
      rw [h1, wrap_i64 (((j % 4 : Nat) : Int) * 4) (by omega) (by omega), wrap_i64 _ (by omega) (by omega), Int.tmod_eq_emod_of_nonneg (by omega)]
      omega
    have hm : (j + j % 4 * 4) % 16 < 16 := Nat.mod_lt _ (by decide)
    have hb := hS ((j + j % 4 * 4) % 16)
    have hl := lt_nat (m := 16) hm
    have hj' := lt_nat (m := 16) hj
    have h1 : (0 ≤ S ((j + j % 4 * 4) % 16)) = True := by simp; exact hb.1
    have h2 : (S ((j + j % 4 * 4) % 16) < 256) = True := by simp; exact hb.2
    have h3 : (S ((j + j % 4 * 4) % 16)).toNat < 496 := by omega
    have fin : rowI .u8 16 (upd (fun i => if i < j then shfB C S i else 0) j (shfB C S j)) = rowI .u8 16 (fun i => if i < j + 1 then shfB C S i else 0) := row_upto
    simp only [sn_upto, sn_from, slN_def, run_cap, rules, rules2, loopRules, Try.facts, base0, Int.toNat_zero, Nat.reduceAdd, Nat.reduceMul, Nat.reduceSub, Nat.reduceLT, Nat.reduceLeDiff, Nat.reduceEqDiff, Int.reduceLE, Int.reduceLT, Int.reduceToNat, Int.reduceNe, Int.reduceEq, not_false_eq_true, Nat.reduceBEq, Nat.reduceDiv, Int.natCast_zero, Int.natCast_one, Int.reduceAdd, Int.reduceSub, reduceIte, ↓reduceIte, Value.oneCell', rowI_length, rowI_take, rowI_splice, rep_all, row_zero, le_nat, Int.toNat_natCast, Nat.zero_add, sok_row, reduceCtorEq]
    refine vcIf_yes (by simp; omega) ?_
    simp only [e, hl, hj', h1, h2, wrapS j (by omega), rowI_get .u8 16 _ _ hm, rowI_get .u8 496 _ _ h3, rowI_splice1 .u8 16 _ j hj, sn_upto, sn_from, slN_def, run_cap, rules, rules2, loopRules, Try.facts, base0, Int.toNat_zero, Nat.reduceAdd, Nat.reduceMul, Nat.reduceSub, Nat.reduceLT, Nat.reduceLeDiff, Nat.reduceEqDiff, Int.reduceLE, Int.reduceLT, Int.reduceToNat, Int.reduceNe, Int.reduceEq, not_false_eq_true, Nat.reduceBEq, Nat.reduceDiv, Int.natCast_zero, Int.natCast_one, Int.reduceAdd, Int.reduceSub, reduceIte, ↓reduceIte, Value.oneCell', rowI_length, rowI_take, rowI_splice, rep_all, row_zero, le_nat, Int.toNat_natCast, Nat.zero_add, sok_row, reduceCtorEq]
    exact ⟨by kernel_rfl, by omega, by omega, by omega, congrArg (fun c => some (Box.mk true c)) fin⟩
  · simp only [sn_upto, sn_from, slN_def, run_cap, rules, rules2, loopRules, Try.facts, base0, Int.toNat_zero, Nat.reduceAdd, Nat.reduceMul, Nat.reduceSub, Nat.reduceLT, Nat.reduceLeDiff, Nat.reduceEqDiff, Int.reduceLE, Int.reduceLT, Int.reduceToNat, Int.reduceNe, Int.reduceEq, not_false_eq_true, Nat.reduceBEq, Nat.reduceDiv, Int.natCast_zero, Int.natCast_one, Int.reduceAdd, Int.reduceSub, reduceIte, ↓reduceIte, Value.oneCell', rowI_length, rowI_take, rowI_splice, rep_all, row_zero, le_nat, Int.toNat_natCast, Nat.zero_add, sok_row, reduceCtorEq]
    refine vcIf_no (by decide) ?_
    simp only [row_all, sn_upto, sn_from, slN_def, run_cap, rules, rules2, loopRules, Try.facts, base0, Int.toNat_zero, Nat.reduceAdd, Nat.reduceMul, Nat.reduceSub, Nat.reduceLT, Nat.reduceLeDiff, Nat.reduceEqDiff, Int.reduceLE, Int.reduceLT, Int.reduceToNat, Int.reduceNe, Int.reduceEq, not_false_eq_true, Nat.reduceBEq, Nat.reduceDiv, Int.natCast_zero, Int.natCast_one, Int.reduceAdd, Int.reduceSub, reduceIte, ↓reduceIte, Value.oneCell', rowI_length, rowI_take, rowI_splice, rep_all, row_zero, le_nat, Int.toNat_natCast, Nat.zero_add, sok_row, reduceCtorEq]
    exact ret_plain plainI ⟨rfl, rfl⟩
set_option maxHeartbeats 2000000 in
set_option maxRecDepth 20000 in
theorem substituted_m (C S : Nat → Int) (hS : Byt S) : MFun Try.prog 61 [Ptr 0 0, Ag (rowI .u8 4 S)] 1 (lk [(0, ⟨false, rowI .u8 496 C⟩)])
    (fun v out => v = Ag (rowI .u8 4 (subB C S)) ∧ out = fun _ => none) := by
  refine mfun_of_vc Try.func61 rfl (by kernel_rfl) (by simp [Try.ntmps61]) Try.callable61 (by simp [AV.ok, CV.ok, SV.names]; exact ok_all plainI) all1 (inn1 plainI) ?_
  simp only [Try.results61, sn_upto, sn_from, slN_def, run_cap, rules, rules2, loopRules, Try.facts, base0, Int.toNat_zero, Nat.reduceAdd, Nat.reduceMul, Nat.reduceSub, Nat.reduceLT, Nat.reduceLeDiff, Nat.reduceEqDiff, Int.reduceLE, Int.reduceLT, Int.reduceToNat, Int.reduceNe, Int.reduceEq, not_false_eq_true, Nat.reduceBEq, Nat.reduceDiv, Int.natCast_zero, Int.natCast_one, Int.reduceAdd, Int.reduceSub, reduceIte, ↓reduceIte, Value.oneCell', rowI_length, rowI_take, rowI_splice, rep_all, row_zero, le_nat, Int.toNat_natCast, Nat.zero_add, sok_row, reduceCtorEq]
  refine loop_count 4 (fun k => [(0, Ptr 0 0), (3, Ptr 1 0), (4, Ptr 2 0), (7, Ag (rowI .u8 4 S)), (8, I .i64 k)])
    (fun k => [(0, ⟨false, rowI .u8 496 C⟩), (1, ⟨true, rowI .u8 4 (fun i => if i < k then subB C S i else S i)⟩), (2, ⟨true, rowI .u8 4 (fun _ => 0)⟩)]) _ ?_ ?_ ?_
  · simp only [sok_row, Nat.not_lt_zero, if_false, sn_upto, sn_from, slN_def, run_cap, rules, rules2, loopRules, Try.facts, base0, Int.toNat_zero, Nat.reduceAdd, Nat.reduceMul, Nat.reduceSub, Nat.reduceLT, Nat.reduceLeDiff, Nat.reduceEqDiff, Int.reduceLE, Int.reduceLT, Int.reduceToNat, Int.reduceNe, Int.reduceEq, not_false_eq_true, Nat.reduceBEq, Nat.reduceDiv, Int.natCast_zero, Int.natCast_one, Int.reduceAdd, Int.reduceSub, reduceIte, ↓reduceIte, Value.oneCell', rowI_length, rowI_take, rowI_splice, rep_all, row_zero, le_nat, Int.toNat_natCast, Nat.zero_add, sok_row, reduceCtorEq]
    rfl
  · intro j hj
    have hb := hS j
    have hj' := lt_nat (m := 4) hj
    have h1 : (0 ≤ S j) = True := by simp; exact hb.1
    have h2 : (S j < 256) = True := by simp; exact hb.2
    have h3 : (S j).toNat < 496 := by omega
    simp only [sn_upto, sn_from, slN_def, run_cap, rules, rules2, loopRules, Try.facts, base0, Int.toNat_zero, Nat.reduceAdd, Nat.reduceMul, Nat.reduceSub, Nat.reduceLT, Nat.reduceLeDiff, Nat.reduceEqDiff, Int.reduceLE, Int.reduceLT, Int.reduceToNat, Int.reduceNe, Int.reduceEq, not_false_eq_true, Nat.reduceBEq, Nat.reduceDiv, Int.natCast_zero, Int.natCast_one, Int.reduceAdd, Int.reduceSub, reduceIte, ↓reduceIte, Value.oneCell', rowI_length, rowI_take, rowI_splice, rep_all, row_zero, le_nat, Int.toNat_natCast, Nat.zero_add, sok_row, reduceCtorEq]
    refine vcIf_yes (by simp; omega) ?_
    simp only [hj', h1, h2, wrapS j (by omega), rowI_get .u8 4 _ _ hj, rowI_get .u8 496 _ _ h3, rowI_splice1 .u8 4 _ j hj, sn_upto, sn_from, slN_def, run_cap, rules, rules2, loopRules, Try.facts, base0, Int.toNat_zero, Nat.reduceAdd, Nat.reduceMul, Nat.reduceSub, Nat.reduceLT, Nat.reduceLeDiff, Nat.reduceEqDiff, Int.reduceLE, Int.reduceLT, Int.reduceToNat, Int.reduceNe, Int.reduceEq, not_false_eq_true, Nat.reduceBEq, Nat.reduceDiv, Int.natCast_zero, Int.natCast_one, Int.reduceAdd, Int.reduceSub, reduceIte, ↓reduceIte, Value.oneCell', rowI_length, rowI_take, rowI_splice, rep_all, row_zero, le_nat, Int.toNat_natCast, Nat.zero_add, sok_row, reduceCtorEq]
    exact ⟨by omega, by omega, by omega, congrArg (fun c => some (Box.mk true c)) (row_upto2 (f := subB C S) (g := S))⟩
  · simp only [sn_upto, sn_from, slN_def, run_cap, rules, rules2, loopRules, Try.facts, base0, Int.toNat_zero, Nat.reduceAdd, Nat.reduceMul, Nat.reduceSub, Nat.reduceLT, Nat.reduceLeDiff, Nat.reduceEqDiff, Int.reduceLE, Int.reduceLT, Int.reduceToNat, Int.reduceNe, Int.reduceEq, not_false_eq_true, Nat.reduceBEq, Nat.reduceDiv, Int.natCast_zero, Int.natCast_one, Int.reduceAdd, Int.reduceSub, reduceIte, ↓reduceIte, Value.oneCell', rowI_length, rowI_take, rowI_splice, rep_all, row_zero, le_nat, Int.toNat_natCast, Nat.zero_add, sok_row, reduceCtorEq]
    refine vcIf_no (by decide) ?_
    simp only [row_all, sn_upto, sn_from, slN_def, run_cap, rules, rules2, loopRules, Try.facts, base0, Int.toNat_zero, Nat.reduceAdd, Nat.reduceMul, Nat.reduceSub, Nat.reduceLT, Nat.reduceLeDiff, Nat.reduceEqDiff, Int.reduceLE, Int.reduceLT, Int.reduceToNat, Int.reduceNe, Int.reduceEq, not_false_eq_true, Nat.reduceBEq, Nat.reduceDiv, Int.natCast_zero, Int.natCast_one, Int.reduceAdd, Int.reduceSub, reduceIte, ↓reduceIte, Value.oneCell', rowI_length, rowI_take, rowI_splice, rep_all, row_zero, le_nat, Int.toNat_natCast, Nat.zero_add, sok_row, reduceCtorEq]
    exact ret_plain plainI ⟨rfl, rfl⟩
end Go.Proofs.Ytpplfckcblaoiaa
