/-
  Functions of the cipher, of the program and of the document.
-/
import Derived.Test.YtpplfckcblaoiaaVcgX2
set_option linter.unusedVariables false
set_option linter.unusedSimpArgs false
namespace Go.Proofs.Ytpplfckcblaoiaa
open Go.Vcg
/-! ### The counter -/
/-- What is carried over into the place 15 - k. -/
def cryB (S : Nat → Int) (n : Int) : Nat → Int
  | 0 => n
  | k + 1 => (cryB S n k + S (15 - k)) / 256
/-- The counter and n more. -/
def addC (S : Nat → Int) (n : Int) (i : Nat) : Int := (cryB S n (15 - i) + S i) % 256
theorem addC_byt (S : Nat → Int) (n : Int) : Byt (addC S n) := fun i => by simp only [addC]; omega
theorem cry_add (S : Nat → Int) (n : Int) : ∀ k, k ≤ 15 → cryB S n k + cryB (addC S n) 1 k = cryB S (n + 1) k
  | 0, _ => rfl
  | k + 1, h => by
    have ih := cry_add S n k (by omega)
    simp only [cryB, ← ih, addC, show 15 - (15 - k) = k by omega]
    omega
theorem addC_succ (S : Nat → Int) (n : Int) (i : Nat) (h : i < 16) : addC (addC S n) 1 i = addC S (n + 1) i := by
  have := cry_add S n (15 - i) (by omega)
  have e : addC S (n + 1) i = (cryB S (n + 1) (15 - i) + S i) % 256 := rfl
  rw [e, ← this]
  simp only [addC]
  omega
theorem addC_zero (S : Nat → Int) (h : Byt S) (i : Nat) : addC S 0 i = S i := by
  have : ∀ k, cryB S 0 k = 0 := fun k => by
    induction k with
    | zero => rfl
    | succ k ih => simp only [cryB, ih]; have := h (15 - k); omega
  simp only [addC, this]; have := h i; omega
theorem cry_one (S : Nat → Int) : ∀ k, (∀ j, j < k → S (15 - j) = 255) → cryB S 1 k = 1
  | 0, _ => rfl
  | k + 1, h => by
    simp only [cryB, cry_one S k (fun j hj => h j (by omega)), h k (by omega)]; rfl
theorem cry_nil (S : Nat → Int) (hS : Byt S) (k : Nat) (h : cryB S 1 k = 0) : ∀ m, k ≤ m → cryB S 1 m = 0 := fun m hm => by
  induction m with
  | zero => rw [show k = 0 by omega] at h; exact h
  | succ m ih =>
    by_cases e : k = m + 1
    · rw [← e]; exact h
    · simp only [cryB, ih (by omega)]; have := hS (15 - m); omega
set_option maxHeartbeats 4000000 in
set_option maxRecDepth 20000 in
theorem following_fun (S : Nat → Int) (hS : Byt S) : Fun Try.prog 44 [Ag (rowI .u8 16 S)] (Ag (rowI .u8 16 (addC S 1))) := by
  refine fun_of_vc Try.func44 rfl (by kernel_rfl) (by simp [Try.ntmps44]) rfl rfl ?_
  simp only [Try.results44, sn_upto, sn_from, slN_def, run_cap, rules, rules2, loopRules, Try.facts, base0, Int.toNat_zero, Nat.reduceAdd, Nat.reduceMul, Nat.reduceSub, Nat.reduceLT, Nat.reduceLeDiff, Nat.reduceEqDiff, Int.reduceLE, Int.reduceLT, Int.reduceToNat, Int.reduceNe, Int.reduceEq, not_false_eq_true, Nat.reduceBEq, Nat.reduceDiv, Int.natCast_zero, Int.natCast_one, Int.reduceAdd, Int.reduceSub, reduceIte, ↓reduceIte, Value.oneCell', rowI_length, rowI_take, rowI_splice, rep_all, row_zero, le_nat, Int.toNat_natCast, Nat.zero_add, sok_row, reduceCtorEq]
  refine loop_inv 16 (fun k => ∀ j, j < k → S (15 - j) = 255) (fun k => [(1, Ptr 0 0), (2, Ptr 1 0), (3, I .i64 (15 - (k : Int)))])
    (fun k => [(0, ⟨true, rowI .u8 16 (fun i => if 16 ≤ i + k then 0 else S i)⟩), (1, ⟨true, rowI .u8 16 (fun _ => 0)⟩)]) _ ?_ ?_ ?_
  · refine ⟨fun j hj => absurd hj (Nat.not_lt_zero j), ?_⟩
    simp only [sok_row, sn_upto, sn_from, slN_def, run_cap, rules, rules2, loopRules, Try.facts, base0, Int.toNat_zero, Nat.reduceAdd, Nat.reduceMul, Nat.reduceSub, Nat.reduceLT, Nat.reduceLeDiff, Nat.reduceEqDiff, Int.reduceLE, Int.reduceLT, Int.reduceToNat, Int.reduceNe, Int.reduceEq, not_false_eq_true, Nat.reduceBEq, Nat.reduceDiv, Int.natCast_zero, Int.natCast_one, Int.reduceAdd, Int.reduceSub, reduceIte, ↓reduceIte, Value.oneCell', rowI_length, rowI_take, rowI_splice, rep_all, row_zero, le_nat, Int.toNat_natCast, Nat.zero_add, sok_row, reduceCtorEq]
    exact congrArg (fun c => some (Box.mk true c)) (rowI_congr fun i hi => by rw [if_neg (by omega)])
  · intro k hk hinv
    have p : ((15 : Int) - (k : Int)).toNat = 15 - k := by omega
    have hl : 15 - k < 16 := by omega
    have hc1 : (0 ≤ (15 : Int) - (k : Int)) = True := by simp; omega
    have hc2 : ((15 : Int) - (k : Int) < 16) = True := by simp; omega
    have hb := hS (15 - k)
    have hf : (if 16 ≤ 15 - k + k then 0 else S (15 - k)) = S (15 - k) := if_neg (by omega)
    have hw : IntKind.i64.wrap ((15 : Int) - (k : Int) - 1) = 15 - ((k + 1 : Nat) : Int) := by rw [wrap_i64 _ (by omega) (by omega)]; omega
    have c1 := cry_one S k hinv
    simp only [sn_upto, sn_from, slN_def, run_cap, rules, rules2, loopRules, Try.facts, base0, Int.toNat_zero, Nat.reduceAdd, Nat.reduceMul, Nat.reduceSub, Nat.reduceLT, Nat.reduceLeDiff, Nat.reduceEqDiff, Int.reduceLE, Int.reduceLT, Int.reduceToNat, Int.reduceNe, Int.reduceEq, not_false_eq_true, Nat.reduceBEq, Nat.reduceDiv, Int.natCast_zero, Int.natCast_one, Int.reduceAdd, Int.reduceSub, reduceIte, ↓reduceIte, Value.oneCell', rowI_length, rowI_take, rowI_splice, rep_all, row_zero, le_nat, Int.toNat_natCast, Nat.zero_add, sok_row, reduceCtorEq]
    refine vcIf_yes (by simp; omega) ?_
    simp only [p, hc1, hc2, rowI_get .u8 16 _ _ hl, hf, rowI_splice1 .u8 16 _ _ hl, upd_same, sn_upto, sn_from, slN_def, run_cap, rules, rules2, loopRules, Try.facts, base0, Int.toNat_zero, Nat.reduceAdd, Nat.reduceMul, Nat.reduceSub, Nat.reduceLT, Nat.reduceLeDiff, Nat.reduceEqDiff, Int.reduceLE, Int.reduceLT, Int.reduceToNat, Int.reduceNe, Int.reduceEq, not_false_eq_true, Nat.reduceBEq, Nat.reduceDiv, Int.natCast_zero, Int.natCast_one, Int.reduceAdd, Int.reduceSub, reduceIte, ↓reduceIte, Value.oneCell', rowI_length, rowI_take, rowI_splice, rep_all, row_zero, le_nat, Int.toNat_natCast, Nat.zero_add, sok_row, reduceCtorEq]
    refine ⟨by omega, ?_⟩
    by_cases h255 : S (15 - k) = 255
    · have hz : IntKind.u8.wrap (S (15 - k) + 1) = 0 := by rw [h255]; rfl
      simp only [hz, sn_upto, sn_from, slN_def, run_cap, rules, rules2, loopRules, Try.facts, base0, Int.toNat_zero, Nat.reduceAdd, Nat.reduceMul, Nat.reduceSub, Nat.reduceLT, Nat.reduceLeDiff, Nat.reduceEqDiff, Int.reduceLE, Int.reduceLT, Int.reduceToNat, Int.reduceNe, Int.reduceEq, not_false_eq_true, Nat.reduceBEq, Nat.reduceDiv, Int.natCast_zero, Int.natCast_one, Int.reduceAdd, Int.reduceSub, reduceIte, ↓reduceIte, Value.oneCell', rowI_length, rowI_take, rowI_splice, rep_all, row_zero, le_nat, Int.toNat_natCast, Nat.zero_add, sok_row, reduceCtorEq]
      refine vcIf_no (by decide) ?_
      simp only [hw, sn_upto, sn_from, slN_def, run_cap, rules, rules2, loopRules, Try.facts, base0, Int.toNat_zero, Nat.reduceAdd, Nat.reduceMul, Nat.reduceSub, Nat.reduceLT, Nat.reduceLeDiff, Nat.reduceEqDiff, Int.reduceLE, Int.reduceLT, Int.reduceToNat, Int.reduceNe, Int.reduceEq, not_false_eq_true, Nat.reduceBEq, Nat.reduceDiv, Int.natCast_zero, Int.natCast_one, Int.reduceAdd, Int.reduceSub, reduceIte, ↓reduceIte, Value.oneCell', rowI_length, rowI_take, rowI_splice, rep_all, row_zero, le_nat, Int.toNat_natCast, Nat.zero_add, sok_row, reduceCtorEq]
      refine ⟨fun j hj => ?_, congrArg (fun c => some (Box.mk true c)) (rowI_congr fun i hi => ?_)⟩
      · rcases Nat.lt_or_ge j k with h | h
        · exact hinv j h
        · rw [show j = k by omega]; exact h255
      · simp only [upd]
        split
        · rw [if_pos (by omega)]
        · split
          · rw [if_pos (by omega)]
          · rw [if_neg (by omega)]
    · have hz : IntKind.u8.wrap (S (15 - k) + 1) = S (15 - k) + 1 := wrap_u8_in _ (by omega) (by omega)
      have c2 : cryB S 1 (k + 1) = 0 := by simp only [cryB, c1]; omega
      simp only [hz, sn_upto, sn_from, slN_def, run_cap, rules, rules2, loopRules, Try.facts, base0, Int.toNat_zero, Nat.reduceAdd, Nat.reduceMul, Nat.reduceSub, Nat.reduceLT, Nat.reduceLeDiff, Nat.reduceEqDiff, Int.reduceLE, Int.reduceLT, Int.reduceToNat, Int.reduceNe, Int.reduceEq, not_false_eq_true, Nat.reduceBEq, Nat.reduceDiv, Int.natCast_zero, Int.natCast_one, Int.reduceAdd, Int.reduceSub, reduceIte, ↓reduceIte, Value.oneCell', rowI_length, rowI_take, rowI_splice, rep_all, row_zero, le_nat, Int.toNat_natCast, Nat.zero_add, sok_row, reduceCtorEq]
      refine vcIf_yes (by simp; omega) ?_
      simp only [sn_upto, sn_from, slN_def, run_cap, rules, rules2, loopRules, Try.facts, base0, Int.toNat_zero, Nat.reduceAdd, Nat.reduceMul, Nat.reduceSub, Nat.reduceLT, Nat.reduceLeDiff, Nat.reduceEqDiff, Int.reduceLE, Int.reduceLT, Int.reduceToNat, Int.reduceNe, Int.reduceEq, not_false_eq_true, Nat.reduceBEq, Nat.reduceDiv, Int.natCast_zero, Int.natCast_one, Int.reduceAdd, Int.reduceSub, reduceIte, ↓reduceIte, Value.oneCell', rowI_length, rowI_take, rowI_splice, rep_all, row_zero, le_nat, Int.toNat_natCast, Nat.zero_add, sok_row, reduceCtorEq]
      refine congrArg Ag (rowI_congr fun i hi => ?_)
      simp only [upd, addC]
      split
      · rename_i e
        rw [e, show 15 - (15 - k) = k by omega, c1]; omega
      · split
        · have e := hinv (15 - i) (by omega)
          rw [show 15 - (15 - i) = i by omega] at e
          rw [cry_one S (15 - i) (fun j hj => hinv j (by omega)), e]; rfl
        · rw [cry_nil S hS (k + 1) c2 (15 - i) (by omega)]
          have := hS i; omega
  · intro hinv
    simp only [sn_upto, sn_from, slN_def, run_cap, rules, rules2, loopRules, Try.facts, base0, Int.toNat_zero, Nat.reduceAdd, Nat.reduceMul, Nat.reduceSub, Nat.reduceLT, Nat.reduceLeDiff, Nat.reduceEqDiff, Int.reduceLE, Int.reduceLT, Int.reduceToNat, Int.reduceNe, Int.reduceEq, not_false_eq_true, Nat.reduceBEq, Nat.reduceDiv, Int.natCast_zero, Int.natCast_one, Int.reduceAdd, Int.reduceSub, reduceIte, ↓reduceIte, Value.oneCell', rowI_length, rowI_take, rowI_splice, rep_all, row_zero, le_nat, Int.toNat_natCast, Nat.zero_add, sok_row, reduceCtorEq]
    refine vcIf_no (by decide) ?_
    simp only [sn_upto, sn_from, slN_def, run_cap, rules, rules2, loopRules, Try.facts, base0, Int.toNat_zero, Nat.reduceAdd, Nat.reduceMul, Nat.reduceSub, Nat.reduceLT, Nat.reduceLeDiff, Nat.reduceEqDiff, Int.reduceLE, Int.reduceLT, Int.reduceToNat, Int.reduceNe, Int.reduceEq, not_false_eq_true, Nat.reduceBEq, Nat.reduceDiv, Int.natCast_zero, Int.natCast_one, Int.reduceAdd, Int.reduceSub, reduceIte, ↓reduceIte, Value.oneCell', rowI_length, rowI_take, rowI_splice, rep_all, row_zero, le_nat, Int.toNat_natCast, Nat.zero_add, sok_row, reduceCtorEq]
    refine congrArg Ag (rowI_congr fun i hi => ?_)
    have e := hinv (15 - i) (by omega)
    rw [show 15 - (15 - i) = i by omega] at e
    simp only [addC]
    rw [cry_one S (15 - i) (fun j hj => hinv j (by omega)), e]; rfl
set_option maxHeartbeats 4000000 in
set_option maxRecDepth 20000 in
theorem ahead_fun (S : Nat → Int) (hS : Byt S) (n : Int) (h0 : 0 ≤ n) (h1 : n < 18446744073709551616) : Fun Try.prog 34 [Ag (rowI .u8 16 S), I .u64 n] (Ag (rowI .u8 16 (addC S n))) := by
  have hcb : ∀ k, 0 ≤ cryB S n k ∧ cryB S n k < 18446744073709551616 := fun k => by
    induction k with
    | zero => exact ⟨h0, h1⟩
    | succ k ih => have := hS (15 - k); simp only [cryB]; omega
  refine fun_of_vc Try.func34 rfl (by kernel_rfl) (by simp [Try.ntmps34]) rfl rfl ?_
  simp only [Try.results34, sn_upto, sn_from, slN_def, run_cap, rules, rules2, loopRules, Try.facts, base0, Int.toNat_zero, Nat.reduceAdd, Nat.reduceMul, Nat.reduceSub, Nat.reduceLT, Nat.reduceLeDiff, Nat.reduceEqDiff, Int.reduceLE, Int.reduceLT, Int.reduceToNat, Int.reduceNe, Int.reduceEq, not_false_eq_true, Nat.reduceBEq, Nat.reduceDiv, Int.natCast_zero, Int.natCast_one, Int.reduceAdd, Int.reduceSub, reduceIte, ↓reduceIte, Value.oneCell', rowI_length, rowI_take, rowI_splice, rep_all, row_zero, le_nat, Int.toNat_natCast, Nat.zero_add, sok_row, reduceCtorEq]
  refine loop_count 16 (fun k => [(2, Ptr 0 0), (4, Ptr 1 0), (5, I .u64 (cryB S n k)), (6, I .i64 (15 - (k : Int)))])
    (fun k => [(0, ⟨true, rowI .u8 16 (fun i => if 16 ≤ i + k then addC S n i else S i)⟩), (1, ⟨true, rowI .u8 16 (fun _ => 0)⟩)]) _ ?_ ?_ ?_
  · simp only [sok_row, cryB, sn_upto, sn_from, slN_def, run_cap, rules, rules2, loopRules, Try.facts, base0, Int.toNat_zero, Nat.reduceAdd, Nat.reduceMul, Nat.reduceSub, Nat.reduceLT, Nat.reduceLeDiff, Nat.reduceEqDiff, Int.reduceLE, Int.reduceLT, Int.reduceToNat, Int.reduceNe, Int.reduceEq, not_false_eq_true, Nat.reduceBEq, Nat.reduceDiv, Int.natCast_zero, Int.natCast_one, Int.reduceAdd, Int.reduceSub, reduceIte, ↓reduceIte, Value.oneCell', rowI_length, rowI_take, rowI_splice, rep_all, row_zero, le_nat, Int.toNat_natCast, Nat.zero_add, sok_row, reduceCtorEq]
    exact congrArg (fun c => some (Box.mk true c)) (rowI_congr fun i hi => by rw [if_neg (by omega)])
  · intro k hk
    have p : ((15 : Int) - (k : Int)).toNat = 15 - k := by omega
    have hl : 15 - k < 16 := by omega
    have hc1 : (0 ≤ (15 : Int) - (k : Int)) = True := by simp; omega
    have hc2 : ((15 : Int) - (k : Int) < 16) = True := by simp; omega
    have hb := hS (15 - k)
    have hcb' := hcb k
    have hf : (if 16 ≤ 15 - k + k then addC S n (15 - k) else S (15 - k)) = S (15 - k) := if_neg (by omega)
    have hw : IntKind.i64.wrap ((15 : Int) - (k : Int) - 1) = 15 - ((k + 1 : Nat) : Int) := by rw [wrap_i64 _ (by omega) (by omega)]; omega
    have r1 : (cryB S n k).tmod 256 = cryB S n k % 256 := Int.tmod_eq_emod_of_nonneg hcb'.1
    have r2 : (cryB S n k).tdiv 256 = cryB S n k / 256 := Int.tdiv_eq_ediv_of_nonneg hcb'.1
    have w0 : IntKind.u64.wrap (S (15 - k)) = S (15 - k) := wrap_u64_in _ (by omega) (by omega)
    have w1 : IntKind.u64.wrap (cryB S n k % 256 + S (15 - k)) = cryB S n k % 256 + S (15 - k) := wrap_u64_in _ (by omega) (by omega)
    have w2 : IntKind.u8.wrap (cryB S n k % 256 + S (15 - k)) = addC S n (15 - k) := by rw [wrap_u8, addC, show 15 - (15 - k) = k by omega]; omega
    have r3 : (cryB S n k % 256 + S (15 - k)).tdiv 256 = (cryB S n k % 256 + S (15 - k)) / 256 := Int.tdiv_eq_ediv_of_nonneg (by omega)
    have w3 : IntKind.u64.wrap (cryB S n k / 256) = cryB S n k / 256 := wrap_u64_in _ (by omega) (by omega)
    have w4 : IntKind.u64.wrap ((cryB S n k % 256 + S (15 - k)) / 256) = (cryB S n k % 256 + S (15 - k)) / 256 := wrap_u64_in _ (by omega) (by omega)
    have w5 : IntKind.u64.wrap (cryB S n k / 256 + (cryB S n k % 256 + S (15 - k)) / 256) = cryB S n (k + 1) := by rw [wrap_u64_in _ (by omega) (by omega), cryB]; omega
    simp only [sn_upto, sn_from, slN_def, run_cap, rules, rules2, loopRules, Try.facts, base0, Int.toNat_zero, Nat.reduceAdd, Nat.reduceMul, Nat.reduceSub, Nat.reduceLT, Nat.reduceLeDiff, Nat.reduceEqDiff, Int.reduceLE, Int.reduceLT, Int.reduceToNat, Int.reduceNe, Int.reduceEq, not_false_eq_true, Nat.reduceBEq, Nat.reduceDiv, Int.natCast_zero, Int.natCast_one, Int.reduceAdd, Int.reduceSub, reduceIte, ↓reduceIte, Value.oneCell', rowI_length, rowI_take, rowI_splice, rep_all, row_zero, le_nat, Int.toNat_natCast, Nat.zero_add, sok_row, reduceCtorEq]
    refine vcIf_yes (by simp; omega) ?_
    simp only [p, hc1, hc2, rowI_get .u8 16 _ _ hl, hf, r1, r2, r3, w0, w1, w2, w3, w4, w5, hw, rowI_splice1 .u8 16 _ _ hl, sn_upto, sn_from, slN_def, run_cap, rules, rules2, loopRules, Try.facts, base0, Int.toNat_zero, Nat.reduceAdd, Nat.reduceMul, Nat.reduceSub, Nat.reduceLT, Nat.reduceLeDiff, Nat.reduceEqDiff, Int.reduceLE, Int.reduceLT, Int.reduceToNat, Int.reduceNe, Int.reduceEq, not_false_eq_true, Nat.reduceBEq, Nat.reduceDiv, Int.natCast_zero, Int.natCast_one, Int.reduceAdd, Int.reduceSub, reduceIte, ↓reduceIte, Value.oneCell', rowI_length, rowI_take, rowI_splice, rep_all, row_zero, le_nat, Int.toNat_natCast, Nat.zero_add, sok_row, reduceCtorEq]
    refine ⟨by omega, congrArg (fun c => some (Box.mk true c)) (rowI_congr fun i hi => ?_)⟩
    simp only [upd]
    split
    · rename_i e; subst e; rw [if_pos (by omega)]
    · split
      · rw [if_pos (by omega)]
      · rw [if_neg (by omega)]
  · simp only [sn_upto, sn_from, slN_def, run_cap, rules, rules2, loopRules, Try.facts, base0, Int.toNat_zero, Nat.reduceAdd, Nat.reduceMul, Nat.reduceSub, Nat.reduceLT, Nat.reduceLeDiff, Nat.reduceEqDiff, Int.reduceLE, Int.reduceLT, Int.reduceToNat, Int.reduceNe, Int.reduceEq, not_false_eq_true, Nat.reduceBEq, Nat.reduceDiv, Int.natCast_zero, Int.natCast_one, Int.reduceAdd, Int.reduceSub, reduceIte, ↓reduceIte, Value.oneCell', rowI_length, rowI_take, rowI_splice, rep_all, row_zero, le_nat, Int.toNat_natCast, Nat.zero_add, sok_row, reduceCtorEq]
    refine vcIf_no (by decide) ?_
    simp only [sn_upto, sn_from, slN_def, run_cap, rules, rules2, loopRules, Try.facts, base0, Int.toNat_zero, Nat.reduceAdd, Nat.reduceMul, Nat.reduceSub, Nat.reduceLT, Nat.reduceLeDiff, Nat.reduceEqDiff, Int.reduceLE, Int.reduceLT, Int.reduceToNat, Int.reduceNe, Int.reduceEq, not_false_eq_true, Nat.reduceBEq, Nat.reduceDiv, Int.natCast_zero, Int.natCast_one, Int.reduceAdd, Int.reduceSub, reduceIte, ↓reduceIte, Value.oneCell', rowI_length, rowI_take, rowI_splice, rep_all, row_zero, le_nat, Int.toNat_natCast, Nat.zero_add, sok_row, reduceCtorEq]
end Go.Proofs.Ytpplfckcblaoiaa
