/-
  Functions of the cipher, of the program and of the document.
-/
import Derived.Test.YtpplfckcblaoiaaVcgU10
set_option linter.unusedVariables false
set_option linter.unusedSimpArgs false
namespace Go.Proofs.Ytpplfckcblaoiaa
open Go.Vcg
/-! ### Sixteen digits -/
def val (N : Nat → Int) : Nat → Int
  | 0 => 0
  | n + 1 => val N n + N n * 65536 ^ n
def car (N : Nat → Int) : Nat → Int
  | 0 => 0
  | i + 1 => (N i + car N i) / 65536
def digN (N : Nat → Int) (i : Nat) : Int := (N i + car N i) % 65536
def passN (N : Nat → Int) : Nat → Int := upd (digN N) 0 (digN N 0 + 38 * car N 16)
def tidN (N : Nat → Int) : Nat → Nat → Int
  | 0 => N
  | k + 1 => passN (tidN N k)
def tidyN (N : Nat → Int) : Nat → Int := tidN N 3
def Bd (N : Nat → Int) : Prop := ∀ i, 0 ≤ N i ∧ N i < 4611686018427387904
def Dig (N : Nat → Int) : Prop := ∀ i, 0 ≤ N i ∧ N i < 65536
theorem car_bd (N : Nat → Int) (h : Bd N) : ∀ i, 0 ≤ car N i ∧ car N i < 140737488355328
  | 0 => by simp [car]
  | i + 1 => by
    have := car_bd N h i
    have := h i
    simp only [car]; omega
theorem digN_bd (N : Nat → Int) : Dig (digN N) := by
  intro i; simp only [digN]; omega
theorem passN_bd (N : Nat → Int) (h : Bd N) : Bd (passN N) := by
  intro i
  have h1 := digN_bd N i
  have h2 := digN_bd N 0
  have h3 := car_bd N h 16
  simp only [passN, upd]; split <;> omega
theorem tidN_bd (N : Nat → Int) (h : Bd N) : ∀ k, Bd (tidN N k)
  | 0 => h
  | k + 1 => passN_bd _ (tidN_bd N h k)
theorem pow_pos' (n : Nat) : (0 : Int) < 65536 ^ n := Int.pow_pos (by decide)
theorem val_dig (N : Nat → Int) (h : Dig N) : ∀ n, 0 ≤ val N n ∧ val N n < 65536 ^ n
  | 0 => by simp [val]
  | n + 1 => by
    have ih := val_dig N h n
    have hn := h n
    have hp := pow_pos' n
    have h1 : 0 ≤ N n * 65536 ^ n := Int.mul_nonneg hn.1 (Int.le_of_lt hp)
    have h2 : N n * 65536 ^ n ≤ 65535 * 65536 ^ n := Int.mul_le_mul_of_nonneg_right (by omega) (Int.le_of_lt hp)
    rw [val, Int.pow_succ]; omega
theorem val_car (N : Nat → Int) : ∀ n, val N n = val (digN N) n + car N n * 65536 ^ n
  | 0 => by simp [val, car]
  | n + 1 => by
    have ih := val_car N n
    have e : N n + car N n = digN N n + 65536 * car N (n + 1) := by simp only [digN, car]; omega
    rw [val, val, ih, Int.pow_succ]
    have : car N (n + 1) * (65536 ^ n * 65536) = (65536 * car N (n + 1)) * 65536 ^ n := by grind
    rw [this]
    have e2 : N n = digN N n + 65536 * car N (n + 1) - car N n := by omega
    rw [e2]; grind
theorem val_upd (N : Nat → Int) (i : Nat) (v : Int) : ∀ n, i < n → val (upd N i v) n = val N n + (v - N i) * 65536 ^ i := by
  have hlow : ∀ n, n ≤ i → val (upd N i v) n = val N n := by
    intro n
    induction n with
    | zero => intro _; rfl
    | succ n ih =>
      intro h
      rw [val, val, ih (by omega)]
      simp only [upd, if_neg (show ¬ n = i by omega)]
  intro n
  induction n with
  | zero => intro h; omega
  | succ n ih =>
    intro h
    rw [val, val]
    by_cases hn : n = i
    · subst hn
      rw [hlow n (Nat.le_refl n)]
      simp only [upd, if_true]; grind
    · rw [ih (by omega)]
      simp only [upd, if_neg hn]; grind
theorem passN_val (N : Nat → Int) : val (passN N) 16 = val N 16 - car N 16 * 115792089237316195423570985008687907853269984665640564039457584007913129639898 := by
  rw [passN, val_upd _ 0 _ 16 (by decide)]
  have := val_car N 16
  rw [show (65536 : Int) ^ 16 = 115792089237316195423570985008687907853269984665640564039457584007913129639936 from by decide] at this
  rw [this]; simp only [Int.pow_zero, Int.mul_one]; omega
theorem tidyN_spec (N : Nat → Int) (h : Bd N) : Dig (tidyN N) ∧ val (tidyN N) 16 % PP = val N 16 % PP := by
  have hp : (65536 : Int) ^ 16 = 115792089237316195423570985008687907853269984665640564039457584007913129639936 := by decide
  have c0 := car_bd N h 16
  have v0 := val_car N 16
  have d0 := val_dig _ (digN_bd N) 16
  have e0 := passN_val N
  have v1 := val_car (passN N) 16
  have d1 := val_dig _ (digN_bd (passN N)) 16
  have e1 := passN_val (passN N)
  have v2 := val_car (passN (passN N)) 16
  have d2 := val_dig _ (digN_bd (passN (passN N))) 16
  have e2 := passN_val (passN (passN N))
  have c1 := car_bd _ (passN_bd N h) 16
  have c2 := car_bd _ (passN_bd _ (passN_bd N h)) 16
  rw [hp] at v0 d0 v1 d1 v2 d2
  have k1 : car (passN N) 16 = 0 ∨ car (passN N) 16 = 1 := by omega
  have k2 : car (passN (passN N)) 16 = 0 := by omega
  refine ⟨?_, ?_⟩
  · intro i
    show 0 ≤ passN (passN (passN N)) i ∧ passN (passN (passN N)) i < 65536
    have hd := digN_bd (passN (passN N)) i
    have hd0 := digN_bd (passN (passN N)) 0
    rw [passN, k2]
    simp only [upd]; split <;> omega
  · show val (passN (passN (passN N))) 16 % PP = _
    rw [e2, e1, e0, k2]
    refine cg (q := -2 * (car N 16 + car (passN N) 16)) ?_
    simp only [PP]; omega
theorem row_upto2 {k : IntKind} {n m : Nat} {f g : Nat → Int} : rowI k n (upd (fun i => if i < m then f i else g i) m (f m)) = rowI k n (fun i => if i < m + 1 then f i else g i) := by
  refine rowI_congr fun i _ => ?_
  simp only [upd]
  by_cases h : i = m
  · subst h; simp
  · rw [if_neg h]
    by_cases h2 : i < m
    · rw [if_pos h2, if_pos (by omega)]
    · rw [if_neg h2, if_neg (by omega)]
set_option maxHeartbeats 2000000 in
set_option maxRecDepth 20000 in
theorem tidy_fun (N : Nat → Int) (h : Bd N) : Fun Try.prog 43 [Ag (rowI .u64 16 N)] (Ag (rowI .u64 16 (tidyN N))) := by
  refine fun_of_vc Try.func43 rfl (by kernel_rfl) (by simp [Try.ntmps43]) rfl rfl ?_
  simp only [Try.results43, sn_upto, sn_from, slN_def, run_cap, rules, rules2, loopRules, Try.facts, base0, Int.toNat_zero, Nat.reduceAdd, Nat.reduceMul, Nat.reduceSub, Nat.reduceLT, Nat.reduceLeDiff, Nat.reduceEqDiff, Int.reduceLE, Int.reduceLT, Int.reduceToNat, Int.reduceNe, Int.reduceEq, not_false_eq_true, Nat.reduceBEq, Nat.reduceDiv, Int.natCast_zero, Int.natCast_one, Int.reduceAdd, Int.reduceSub, reduceIte, ↓reduceIte, Value.oneCell', rowI_length, rowI_take, rowI_splice, rep_all, row_zero, le_nat, Int.toNat_natCast, Nat.zero_add, sok_row, reduceCtorEq]
  refine loop_count 3 (fun k => [(1, Ptr 0 0), (2, Ptr 1 0), (3, I .i64 k)])
    (fun k => [(0, ⟨true, rowI .u64 16 (tidN N k)⟩), (1, ⟨true, rowI .u64 16 (fun _ => 0)⟩)]) _ ?_ ?_ ?_
  · simp only [sok_row, tidN, sn_upto, sn_from, slN_def, run_cap, rules, rules2, loopRules, Try.facts, base0, Int.toNat_zero, Nat.reduceAdd, Nat.reduceMul, Nat.reduceSub, Nat.reduceLT, Nat.reduceLeDiff, Nat.reduceEqDiff, Int.reduceLE, Int.reduceLT, Int.reduceToNat, Int.reduceNe, Int.reduceEq, not_false_eq_true, Nat.reduceBEq, Nat.reduceDiv, Int.natCast_zero, Int.natCast_one, Int.reduceAdd, Int.reduceSub, reduceIte, ↓reduceIte, Value.oneCell', rowI_length, rowI_take, rowI_splice, rep_all, row_zero, le_nat, Int.toNat_natCast, Nat.zero_add, sok_row, reduceCtorEq]
  · intro k hk
    have hb := tidN_bd N h k
    have hs : tidN N (k + 1) = passN (tidN N k) := rfl
    rw [hs]
    have hwk := wrapS k (by omega)
    generalize tidN N k = M at *
    have hl3 : ((k : Int) < 3) = True := lt_nat (m := 3) hk
    simp only [sn_upto, sn_from, slN_def, run_cap, rules, rules2, loopRules, Try.facts, base0, Int.toNat_zero, Nat.reduceAdd, Nat.reduceMul, Nat.reduceSub, Nat.reduceLT, Nat.reduceLeDiff, Nat.reduceEqDiff, Int.reduceLE, Int.reduceLT, Int.reduceToNat, Int.reduceNe, Int.reduceEq, not_false_eq_true, Nat.reduceBEq, Nat.reduceDiv, Int.natCast_zero, Int.natCast_one, Int.reduceAdd, Int.reduceSub, reduceIte, ↓reduceIte, Value.oneCell', rowI_length, rowI_take, rowI_splice, rep_all, row_zero, le_nat, Int.toNat_natCast, Nat.zero_add, sok_row, reduceCtorEq]
    refine vcIf_yes (by simp; omega) ?_
    simp only [sn_upto, sn_from, slN_def, run_cap, rules, rules2, loopRules, Try.facts, base0, Int.toNat_zero, Nat.reduceAdd, Nat.reduceMul, Nat.reduceSub, Nat.reduceLT, Nat.reduceLeDiff, Nat.reduceEqDiff, Int.reduceLE, Int.reduceLT, Int.reduceToNat, Int.reduceNe, Int.reduceEq, not_false_eq_true, Nat.reduceBEq, Nat.reduceDiv, Int.natCast_zero, Int.natCast_one, Int.reduceAdd, Int.reduceSub, reduceIte, ↓reduceIte, Value.oneCell', rowI_length, rowI_take, rowI_splice, rep_all, row_zero, le_nat, Int.toNat_natCast, Nat.zero_add, sok_row, reduceCtorEq]
    refine loop_count 16 (fun j => [(1, Ptr 0 0), (2, Ptr 1 0), (3, I .i64 k), (4, I .u64 (car M j)), (5, I .i64 j)])
      (fun j => [(0, ⟨true, rowI .u64 16 (fun i => if i < j then digN M i else M i)⟩), (1, ⟨true, rowI .u64 16 (fun _ => 0)⟩)]) _ ?_ ?_ ?_
    · simp only [sok_row, car, Nat.not_lt_zero, sn_upto, sn_from, slN_def, run_cap, rules, rules2, loopRules, Try.facts, base0, Int.toNat_zero, Nat.reduceAdd, Nat.reduceMul, Nat.reduceSub, Nat.reduceLT, Nat.reduceLeDiff, Nat.reduceEqDiff, Int.reduceLE, Int.reduceLT, Int.reduceToNat, Int.reduceNe, Int.reduceEq, not_false_eq_true, Nat.reduceBEq, Nat.reduceDiv, Int.natCast_zero, Int.natCast_one, Int.reduceAdd, Int.reduceSub, reduceIte, ↓reduceIte, Value.oneCell', rowI_length, rowI_take, rowI_splice, rep_all, row_zero, le_nat, Int.toNat_natCast, Nat.zero_add, sok_row, reduceCtorEq]
    · intro j hj
      have hM := hb j
      have hc := car_bd M hb j
      have hl16 : ((j : Int) < 16) = True := lt_nat (m := 16) hj
      have hw : IntKind.u64.wrap (M j + car M j) = M j + car M j := wrap_u64_in _ (by omega) (by omega)
      simp only [sn_upto, sn_from, slN_def, run_cap, rules, rules2, loopRules, Try.facts, base0, Int.toNat_zero, Nat.reduceAdd, Nat.reduceMul, Nat.reduceSub, Nat.reduceLT, Nat.reduceLeDiff, Nat.reduceEqDiff, Int.reduceLE, Int.reduceLT, Int.reduceToNat, Int.reduceNe, Int.reduceEq, not_false_eq_true, Nat.reduceBEq, Nat.reduceDiv, Int.natCast_zero, Int.natCast_one, Int.reduceAdd, Int.reduceSub, reduceIte, ↓reduceIte, Value.oneCell', rowI_length, rowI_take, rowI_splice, rep_all, row_zero, le_nat, Int.toNat_natCast, Nat.zero_add, sok_row, reduceCtorEq]
      refine vcIf_yes (by simp; omega) ?_
      simp only [hl16, rowI_get .u64 16 _ j hj, rowI_splice1 .u64 16 _ j hj, Nat.lt_irrefl, hw, wrapS j (by omega), sn_upto, sn_from, slN_def, run_cap, rules, rules2, loopRules, Try.facts, base0, Int.toNat_zero, Nat.reduceAdd, Nat.reduceMul, Nat.reduceSub, Nat.reduceLT, Nat.reduceLeDiff, Nat.reduceEqDiff, Int.reduceLE, Int.reduceLT, Int.reduceToNat, Int.reduceNe, Int.reduceEq, not_false_eq_true, Nat.reduceBEq, Nat.reduceDiv, Int.natCast_zero, Int.natCast_one, Int.reduceAdd, Int.reduceSub, reduceIte, ↓reduceIte, Value.oneCell', rowI_length, rowI_take, rowI_splice, rep_all, row_zero, le_nat, Int.toNat_natCast, Nat.zero_add, sok_row, reduceCtorEq]
      rw [Int.tdiv_eq_ediv_of_nonneg (show 0 ≤ M j + car M j by omega), Int.tmod_eq_emod_of_nonneg (show 0 ≤ M j + car M j by omega), wrap_u64_in _ (by omega) (by omega)]
      exact ⟨by omega, rfl, by rw [show (M j + car M j) % 65536 = digN M j from rfl, row_upto2]⟩
    · simp only [sn_upto, sn_from, slN_def, run_cap, rules, rules2, loopRules, Try.facts, base0, Int.toNat_zero, Nat.reduceAdd, Nat.reduceMul, Nat.reduceSub, Nat.reduceLT, Nat.reduceLeDiff, Nat.reduceEqDiff, Int.reduceLE, Int.reduceLT, Int.reduceToNat, Int.reduceNe, Int.reduceEq, not_false_eq_true, Nat.reduceBEq, Nat.reduceDiv, Int.natCast_zero, Int.natCast_one, Int.reduceAdd, Int.reduceSub, reduceIte, ↓reduceIte, Value.oneCell', rowI_length, rowI_take, rowI_splice, rep_all, row_zero, le_nat, Int.toNat_natCast, Nat.zero_add, sok_row, reduceCtorEq]
      refine vcIf_no (by decide) ?_
      simp only [rowI_get .u64 16 _ 0 (by omega), rowI_splice1 .u64 16 _ 0 (by omega), hwk, sn_upto, sn_from, slN_def, run_cap, rules, rules2, loopRules, Try.facts, base0, Int.toNat_zero, Nat.reduceAdd, Nat.reduceMul, Nat.reduceSub, Nat.reduceLT, Nat.reduceLeDiff, Nat.reduceEqDiff, Int.reduceLE, Int.reduceLT, Int.reduceToNat, Int.reduceNe, Int.reduceEq, not_false_eq_true, Nat.reduceBEq, Nat.reduceDiv, Int.natCast_zero, Int.natCast_one, Int.reduceAdd, Int.reduceSub, reduceIte, ↓reduceIte, Value.oneCell', rowI_length, rowI_take, rowI_splice, rep_all, row_zero, le_nat, Int.toNat_natCast, Nat.zero_add, sok_row, reduceCtorEq]
      have hc := car_bd M hb 16
      have hd := digN_bd M 0
      rw [wrap_u64_in (38 * _) (by omega) (by omega), wrap_u64_in _ (by omega) (by omega)]
      rw [rowI_congr (g := passN M) fun i hi => ?_]
      simp only [passN, upd, hi, if_true]
  · simp only [sn_upto, sn_from, slN_def, run_cap, rules, rules2, loopRules, Try.facts, base0, Int.toNat_zero, Nat.reduceAdd, Nat.reduceMul, Nat.reduceSub, Nat.reduceLT, Nat.reduceLeDiff, Nat.reduceEqDiff, Int.reduceLE, Int.reduceLT, Int.reduceToNat, Int.reduceNe, Int.reduceEq, not_false_eq_true, Nat.reduceBEq, Nat.reduceDiv, Int.natCast_zero, Int.natCast_one, Int.reduceAdd, Int.reduceSub, reduceIte, ↓reduceIte, Value.oneCell', rowI_length, rowI_take, rowI_splice, rep_all, row_zero, le_nat, Int.toNat_natCast, Nat.zero_add, sok_row, reduceCtorEq]
    refine vcIf_no (by decide) ?_
    simp only [sn_upto, sn_from, slN_def, run_cap, rules, rules2, loopRules, Try.facts, base0, Int.toNat_zero, Nat.reduceAdd, Nat.reduceMul, Nat.reduceSub, Nat.reduceLT, Nat.reduceLeDiff, Nat.reduceEqDiff, Int.reduceLE, Int.reduceLT, Int.reduceToNat, Int.reduceNe, Int.reduceEq, not_false_eq_true, Nat.reduceBEq, Nat.reduceDiv, Int.natCast_zero, Int.natCast_one, Int.reduceAdd, Int.reduceSub, reduceIte, ↓reduceIte, Value.oneCell', rowI_length, rowI_take, rowI_splice, rep_all, row_zero, le_nat, Int.toNat_natCast, Nat.zero_add, sok_row, reduceCtorEq]
    rfl
theorem row_all {k : IntKind} {n : Nat} {f g : Nat → Int} : rowI k n (fun i => if i < n then f i else g i) = rowI k n f :=
  rowI_congr fun i hi => by simp only [hi, if_true]
/-! ### Sum and difference -/
def plusN (a b : Nat → Int) : Nat → Int := tidyN fun i => a i + b i
def offN (i : Nat) : Int := if i = 0 then 130996 else 131070
def minusN (a b : Nat → Int) : Nat → Int := tidyN fun i => a i + (offN i - b i)
theorem plus_bd (a b : Nat → Int) (ha : Dig a) (hb : Dig b) : Bd fun i => a i + b i := by
  intro i; have := ha i; have := hb i; simp only []; omega
theorem minus_bd (a b : Nat → Int) (ha : Dig a) (hb : Dig b) : Bd fun i => a i + (offN i - b i) := by
  intro i; have := ha i; have := hb i; simp only [offN]; split <;> omega
theorem refPlus_fun (a b : Nat → Int) (ha : Dig a) (hb : Dig b) : Fun Try.prog 57 [Ag (rowI .u64 16 a), Ag (rowI .u64 16 b)] (Ag (rowI .u64 16 (plusN a b))) := by
  refine fun_of_vc Try.func57 rfl (by kernel_rfl) (by simp [Try.ntmps57]) rfl rfl ?_
  simp only [Try.results57, sn_upto, sn_from, slN_def, run_cap, rules, rules2, loopRules, Try.facts, base0, Int.toNat_zero, Nat.reduceAdd, Nat.reduceMul, Nat.reduceSub, Nat.reduceLT, Nat.reduceLeDiff, Nat.reduceEqDiff, Int.reduceLE, Int.reduceLT, Int.reduceToNat, Int.reduceNe, Int.reduceEq, not_false_eq_true, Nat.reduceBEq, Nat.reduceDiv, Int.natCast_zero, Int.natCast_one, Int.reduceAdd, Int.reduceSub, reduceIte, ↓reduceIte, Value.oneCell', rowI_length, rowI_take, rowI_splice, rep_all, row_zero, le_nat, Int.toNat_natCast, Nat.zero_add, sok_row, reduceCtorEq]
  refine loop_count 16 (fun k => [(2, Ptr 0 0), (3, Ptr 1 0), (4, Ptr 2 0), (5, I .i64 k)])
    (fun k => [(0, ⟨true, rowI .u64 16 (fun i => if i < k then a i + b i else a i)⟩), (1, ⟨true, rowI .u64 16 b⟩), (2, ⟨true, rowI .u64 16 (fun _ => 0)⟩)]) _ ?_ ?_ ?_
  · simp only [sok_row, Nat.not_lt_zero, sn_upto, sn_from, slN_def, run_cap, rules, rules2, loopRules, Try.facts, base0, Int.toNat_zero, Nat.reduceAdd, Nat.reduceMul, Nat.reduceSub, Nat.reduceLT, Nat.reduceLeDiff, Nat.reduceEqDiff, Int.reduceLE, Int.reduceLT, Int.reduceToNat, Int.reduceNe, Int.reduceEq, not_false_eq_true, Nat.reduceBEq, Nat.reduceDiv, Int.natCast_zero, Int.natCast_one, Int.reduceAdd, Int.reduceSub, reduceIte, ↓reduceIte, Value.oneCell', rowI_length, rowI_take, rowI_splice, rep_all, row_zero, le_nat, Int.toNat_natCast, Nat.zero_add, sok_row, reduceCtorEq]
  · intro j hj
    have h1 := ha j
    have h2 := hb j
    have hl16 : ((j : Int) < 16) = True := lt_nat (m := 16) hj
    have hw : IntKind.u64.wrap (a j + b j) = a j + b j := wrap_u64_in _ (by omega) (by omega)
    simp only [sn_upto, sn_from, slN_def, run_cap, rules, rules2, loopRules, Try.facts, base0, Int.toNat_zero, Nat.reduceAdd, Nat.reduceMul, Nat.reduceSub, Nat.reduceLT, Nat.reduceLeDiff, Nat.reduceEqDiff, Int.reduceLE, Int.reduceLT, Int.reduceToNat, Int.reduceNe, Int.reduceEq, not_false_eq_true, Nat.reduceBEq, Nat.reduceDiv, Int.natCast_zero, Int.natCast_one, Int.reduceAdd, Int.reduceSub, reduceIte, ↓reduceIte, Value.oneCell', rowI_length, rowI_take, rowI_splice, rep_all, row_zero, le_nat, Int.toNat_natCast, Nat.zero_add, sok_row, reduceCtorEq]
    refine vcIf_yes (by simp; omega) ?_
    simp only [hl16, rowI_get .u64 16 _ j hj, rowI_splice1 .u64 16 _ j hj, Nat.lt_irrefl, hw, wrapS j (by omega), sn_upto, sn_from, slN_def, run_cap, rules, rules2, loopRules, Try.facts, base0, Int.toNat_zero, Nat.reduceAdd, Nat.reduceMul, Nat.reduceSub, Nat.reduceLT, Nat.reduceLeDiff, Nat.reduceEqDiff, Int.reduceLE, Int.reduceLT, Int.reduceToNat, Int.reduceNe, Int.reduceEq, not_false_eq_true, Nat.reduceBEq, Nat.reduceDiv, Int.natCast_zero, Int.natCast_one, Int.reduceAdd, Int.reduceSub, reduceIte, ↓reduceIte, Value.oneCell', rowI_length, rowI_take, rowI_splice, rep_all, row_zero, le_nat, Int.toNat_natCast, Nat.zero_add, sok_row, reduceCtorEq]
    exact ⟨by kernel_rfl, by omega, congrArg (fun c => some (Box.mk true c)) (row_upto2 (f := fun i => a i + b i) (g := a))⟩
  · simp only [sn_upto, sn_from, slN_def, run_cap, rules, rules2, loopRules, Try.facts, base0, Int.toNat_zero, Nat.reduceAdd, Nat.reduceMul, Nat.reduceSub, Nat.reduceLT, Nat.reduceLeDiff, Nat.reduceEqDiff, Int.reduceLE, Int.reduceLT, Int.reduceToNat, Int.reduceNe, Int.reduceEq, not_false_eq_true, Nat.reduceBEq, Nat.reduceDiv, Int.natCast_zero, Int.natCast_one, Int.reduceAdd, Int.reduceSub, reduceIte, ↓reduceIte, Value.oneCell', rowI_length, rowI_take, rowI_splice, rep_all, row_zero, le_nat, Int.toNat_natCast, Nat.zero_add, sok_row, reduceCtorEq]
    refine vcIf_no (by decide) ?_
    have e : rowI .u64 16 (fun i => if i < 16 then a i + b i else a i) = rowI .u64 16 (fun i => a i + b i) := row_all
    simp only [e, sn_upto, sn_from, slN_def, run_cap, rules, rules2, loopRules, Try.facts, base0, Int.toNat_zero, Nat.reduceAdd, Nat.reduceMul, Nat.reduceSub, Nat.reduceLT, Nat.reduceLeDiff, Nat.reduceEqDiff, Int.reduceLE, Int.reduceLT, Int.reduceToNat, Int.reduceNe, Int.reduceEq, not_false_eq_true, Nat.reduceBEq, Nat.reduceDiv, Int.natCast_zero, Int.natCast_one, Int.reduceAdd, Int.reduceSub, reduceIte, ↓reduceIte, Value.oneCell', rowI_length, rowI_take, rowI_splice, rep_all, row_zero, le_nat, Int.toNat_natCast, Nat.zero_add, sok_row, reduceCtorEq]
    refine (tidy_fun _ (plus_bd a b ha hb)).vcCall ?_
    simp only [sn_upto, sn_from, slN_def, run_cap, rules, rules2, loopRules, Try.facts, base0, Int.toNat_zero, Nat.reduceAdd, Nat.reduceMul, Nat.reduceSub, Nat.reduceLT, Nat.reduceLeDiff, Nat.reduceEqDiff, Int.reduceLE, Int.reduceLT, Int.reduceToNat, Int.reduceNe, Int.reduceEq, not_false_eq_true, Nat.reduceBEq, Nat.reduceDiv, Int.natCast_zero, Int.natCast_one, Int.reduceAdd, Int.reduceSub, reduceIte, ↓reduceIte, Value.oneCell', rowI_length, rowI_take, rowI_splice, rep_all, row_zero, le_nat, Int.toNat_natCast, Nat.zero_add, sok_row, reduceCtorEq]
    rfl
theorem refMinus_fun (a b : Nat → Int) (ha : Dig a) (hb : Dig b) : Fun Try.prog 58 [Ag (rowI .u64 16 a), Ag (rowI .u64 16 b)] (Ag (rowI .u64 16 (minusN a b))) := by
  refine fun_of_vc Try.func58 rfl (by kernel_rfl) (by simp [Try.ntmps58]) rfl rfl ?_
  have hw : ∀ j, IntKind.u64.wrap (a j + IntKind.u64.wrap (offN j - b j)) = a j + (offN j - b j) := fun j => by
    have h1 := ha j
    have h2 := hb j
    have ho : 130996 ≤ offN j ∧ offN j ≤ 131070 := by simp only [offN]; split <;> omega
    rw [wrap_u64_in (offN j - b j) (by omega) (by omega), wrap_u64_in _ (by omega) (by omega)]
  have h0 := hw 0
  rw [show offN 0 = 130996 from rfl] at h0
  simp only [Try.results58, rowI_get .u64 16 _ 0 (by omega), rowI_splice1 .u64 16 _ 0 (by omega), h0, sn_upto, sn_from, slN_def, run_cap, rules, rules2, loopRules, Try.facts, base0, Int.toNat_zero, Nat.reduceAdd, Nat.reduceMul, Nat.reduceSub, Nat.reduceLT, Nat.reduceLeDiff, Nat.reduceEqDiff, Int.reduceLE, Int.reduceLT, Int.reduceToNat, Int.reduceNe, Int.reduceEq, not_false_eq_true, Nat.reduceBEq, Nat.reduceDiv, Int.natCast_zero, Int.natCast_one, Int.reduceAdd, Int.reduceSub, reduceIte, ↓reduceIte, Value.oneCell', rowI_length, rowI_take, rowI_splice, rep_all, row_zero, le_nat, Int.toNat_natCast, Nat.zero_add, sok_row, reduceCtorEq]
  refine loop_count 15 (fun k => [(2, Ptr 0 0), (3, Ptr 1 0), (4, Ptr 2 0), (5, I .i64 ((k + 1 : Nat) : Int))])
    (fun k => [(0, ⟨true, rowI .u64 16 (fun i => if i < k + 1 then a i + (offN i - b i) else a i)⟩), (1, ⟨true, rowI .u64 16 b⟩), (2, ⟨true, rowI .u64 16 (fun _ => 0)⟩)]) _ ?_ ?_ ?_
  · have e : rowI .u64 16 (upd a 0 (a 0 + (130996 - b 0))) = rowI .u64 16 (fun i => if i < 0 + 1 then a i + (offN i - b i) else a i) := rowI_congr fun i _ => by
      by_cases hi : i = 0
      · subst hi; rfl
      · simp only [upd, if_neg hi, if_neg (show ¬ i < 0 + 1 by omega)]
    simp only [sok_row, e, sn_upto, sn_from, slN_def, run_cap, rules, rules2, loopRules, Try.facts, base0, Int.toNat_zero, Nat.reduceAdd, Nat.reduceMul, Nat.reduceSub, Nat.reduceLT, Nat.reduceLeDiff, Nat.reduceEqDiff, Int.reduceLE, Int.reduceLT, Int.reduceToNat, Int.reduceNe, Int.reduceEq, not_false_eq_true, Nat.reduceBEq, Nat.reduceDiv, Int.natCast_zero, Int.natCast_one, Int.reduceAdd, Int.reduceSub, reduceIte, ↓reduceIte, Value.oneCell', rowI_length, rowI_take, rowI_splice, rep_all, row_zero, le_nat, Int.toNat_natCast, Nat.zero_add, sok_row, reduceCtorEq]
  · intro j hj
    have hj1 : j + 1 < 16 := by omega
    have hl16 : (((j + 1 : Nat) : Int) < 16) = True := lt_nat (m := 16) hj1
    have ho : offN (j + 1) = (131070 : Int) := by simp [offN]
    have hwj := hw (j + 1)
    have he : rowI .u64 16 (upd (fun i => if i < j + 1 then a i + (offN i - b i) else a i) (j + 1) (a (j + 1) + (131070 - b (j + 1)))) = rowI .u64 16 (fun i => if i < j + 1 + 1 then a i + (offN i - b i) else a i) := by
      rw [← ho]; exact row_upto2 (f := fun i => a i + (offN i - b i)) (g := a)
    rw [ho] at hwj
    simp only [sn_upto, sn_from, slN_def, run_cap, rules, rules2, loopRules, Try.facts, base0, Int.toNat_zero, Nat.reduceAdd, Nat.reduceMul, Nat.reduceSub, Nat.reduceLT, Nat.reduceLeDiff, Nat.reduceEqDiff, Int.reduceLE, Int.reduceLT, Int.reduceToNat, Int.reduceNe, Int.reduceEq, not_false_eq_true, Nat.reduceBEq, Nat.reduceDiv, Int.natCast_zero, Int.natCast_one, Int.reduceAdd, Int.reduceSub, reduceIte, ↓reduceIte, Value.oneCell', rowI_length, rowI_take, rowI_splice, rep_all, row_zero, le_nat, Int.toNat_natCast, Nat.zero_add, sok_row, reduceCtorEq]
    refine vcIf_yes (by simp; omega) ?_
    simp only [hl16, rowI_get .u64 16 _ (j + 1) hj1, rowI_splice1 .u64 16 _ (j + 1) hj1, Nat.lt_irrefl, hwj, wrapS (j + 1) (by omega), sn_upto, sn_from, slN_def, run_cap, rules, rules2, loopRules, Try.facts, base0, Int.toNat_zero, Nat.reduceAdd, Nat.reduceMul, Nat.reduceSub, Nat.reduceLT, Nat.reduceLeDiff, Nat.reduceEqDiff, Int.reduceLE, Int.reduceLT, Int.reduceToNat, Int.reduceNe, Int.reduceEq, not_false_eq_true, Nat.reduceBEq, Nat.reduceDiv, Int.natCast_zero, Int.natCast_one, Int.reduceAdd, Int.reduceSub, reduceIte, ↓reduceIte, Value.oneCell', rowI_length, rowI_take, rowI_splice, rep_all, row_zero, le_nat, Int.toNat_natCast, Nat.zero_add, sok_row, reduceCtorEq]
    exact ⟨by kernel_rfl, by omega, by rw [he]⟩
  · simp only [sn_upto, sn_from, slN_def, run_cap, rules, rules2, loopRules, Try.facts, base0, Int.toNat_zero, Nat.reduceAdd, Nat.reduceMul, Nat.reduceSub, Nat.reduceLT, Nat.reduceLeDiff, Nat.reduceEqDiff, Int.reduceLE, Int.reduceLT, Int.reduceToNat, Int.reduceNe, Int.reduceEq, not_false_eq_true, Nat.reduceBEq, Nat.reduceDiv, Int.natCast_zero, Int.natCast_one, Int.reduceAdd, Int.reduceSub, reduceIte, ↓reduceIte, Value.oneCell', rowI_length, rowI_take, rowI_splice, rep_all, row_zero, le_nat, Int.toNat_natCast, Nat.zero_add, sok_row, reduceCtorEq]
    refine vcIf_no (by decide) ?_
    have e : rowI .u64 16 (fun i => if i < 15 + 1 then a i + (offN i - b i) else a i) = rowI .u64 16 (fun i => a i + (offN i - b i)) := row_all
    have e' : rowI .u64 16 (fun i => if i < 16 then a i + (offN i - b i) else a i) = rowI .u64 16 (fun i => a i + (offN i - b i)) := row_all
    simp only [e, e', sn_upto, sn_from, slN_def, run_cap, rules, rules2, loopRules, Try.facts, base0, Int.toNat_zero, Nat.reduceAdd, Nat.reduceMul, Nat.reduceSub, Nat.reduceLT, Nat.reduceLeDiff, Nat.reduceEqDiff, Int.reduceLE, Int.reduceLT, Int.reduceToNat, Int.reduceNe, Int.reduceEq, not_false_eq_true, Nat.reduceBEq, Nat.reduceDiv, Int.natCast_zero, Int.natCast_one, Int.reduceAdd, Int.reduceSub, reduceIte, ↓reduceIte, Value.oneCell', rowI_length, rowI_take, rowI_splice, rep_all, row_zero, le_nat, Int.toNat_natCast, Nat.zero_add, sok_row, reduceCtorEq]
    refine (tidy_fun _ (minus_bd a b ha hb)).vcCall ?_
    simp only [sn_upto, sn_from, slN_def, run_cap, rules, rules2, loopRules, Try.facts, base0, Int.toNat_zero, Nat.reduceAdd, Nat.reduceMul, Nat.reduceSub, Nat.reduceLT, Nat.reduceLeDiff, Nat.reduceEqDiff, Int.reduceLE, Int.reduceLT, Int.reduceToNat, Int.reduceNe, Int.reduceEq, not_false_eq_true, Nat.reduceBEq, Nat.reduceDiv, Int.natCast_zero, Int.natCast_one, Int.reduceAdd, Int.reduceSub, reduceIte, ↓reduceIte, Value.oneCell', rowI_length, rowI_take, rowI_splice, rep_all, row_zero, le_nat, Int.toNat_natCast, Nat.zero_add, sok_row, reduceCtorEq]
    rfl
end Go.Proofs.Ytpplfckcblaoiaa
