/-
  Functions of the cipher, of the program and of the document.
-/
import Derived.Test.YtlpckbkmmocaaaaDoorVcgU7
set_option linter.unusedVariables false
set_option linter.unusedSimpArgs false
namespace Go.Proofs.YtlpckbkmmocaaaaDoor
open Go.Vcg
/-! ### Sixteen digits -/
def val (N : Nat → Int) : Nat → Int
  | 0 => 0
  | n + 1 => val N n + N n * 65536 ^ n
def car (N : Nat → Int) : Nat → Int
  | 0 => 0
  | i + 1 => (N i + car N i) / 65536
def digN (N : Nat → Int) (i : Nat) : Int := (N i + car N i) % 65536
def passN (N : Nat → Int) : Nat → Int := upd (digN N) 0 (digN N 0 + 38 * car N 16)
def tidN (N : Nat → Int) : Nat → Nat → Int
  | 0 => N
  | k + 1 => passN (tidN N k)
def tidyN (N : Nat → Int) : Nat → Int := tidN N 3
def Bd (N : Nat → Int) : Prop := ∀ i, 0 ≤ N i ∧ N i < 4611686018427387904
def Dig (N : Nat → Int) : Prop := ∀ i, 0 ≤ N i ∧ N i < 65536
theorem car_bd (N : Nat → Int) (h : Bd N) : ∀ i, 0 ≤ car N i ∧ car N i < 140737488355328
  | 0 => by simp [car]
  | i + 1 => by
    have := car_bd N h i
    have := h i
    simp only [car]; omega
theorem digN_bd (N : Nat → Int) : Dig (digN N) := by
  intro i; simp only [digN]; omega
theorem passN_bd (N : Nat → Int) (h : Bd N) : Bd (passN N) := by
  intro i
  have h1 := digN_bd N i
  have h2 := digN_bd N 0
  have h3 := car_bd N h 16
  simp only [passN, upd]; split <;> omega
theorem tidN_bd (N : Nat → Int) (h : Bd N) : ∀ k, Bd (tidN N k)
  | 0 => h
  | k + 1 => passN_bd _ (tidN_bd N h k)
theorem pow_pos' (n : Nat) : (0 : Int) < 65536 ^ n := Int.pow_pos (by decide)
theorem val_dig (N : Nat → Int) (h : Dig N) : ∀ n, 0 ≤ val N n ∧ val N n < 65536 ^ n
  | 0 => by simp [val]
  | n + 1 => by
    have ih := val_dig N h n
    have hn := h n
    have hp := pow_pos' n
    have h1 : 0 ≤ N n * 65536 ^ n := Int.mul_nonneg hn.1 (Int.le_of_lt hp)
    have h2 : N n * 65536 ^ n ≤ 65535 * 65536 ^ n := Int.mul_le_mul_of_nonneg_right (by omega) (Int.le_of_lt hp)
    rw [val, Int.pow_succ]; omega
theorem val_car (N : Nat → Int) : ∀ n, val N n = val (digN N) n + car N n * 65536 ^ n
  | 0 => by simp [val, car]
  | n + 1 => by
    have ih := val_car N n
    have e : N n + car N n = digN N n + 65536 * car N (n + 1) := by simp only [digN, car]; omega
    rw [val, val, ih, Int.pow_succ]
    have : car N (n + 1) * (65536 ^ n * 65536) = (65536 * car N (n + 1)) * 65536 ^ n := by grind
    rw [this]
    have e2 : N n = digN N n + 65536 * car N (n + 1) - car N n := by omega
    rw [e2]; grind
theorem val_upd (N : Nat → Int) (i : Nat) (v : Int) : ∀ n, i < n → val (upd N i v) n = val N n + (v - N i) * 65536 ^ i := by
  have hlow : ∀ n, n ≤ i → val (upd N i v) n = val N n := by
    intro n
    induction n with
    | zero => intro _; rfl
    | succ n ih =>
      intro h
      rw [val, val, ih (by omega)]
      simp only [upd, if_neg (show ¬ n = i by omega)]
  intro n
  induction n with
  | zero => intro h; omega
  | succ n ih =>
    intro h
    rw [val, val]
    by_cases hn : n = i
    · subst hn
      rw [hlow n (Nat.le_refl n)]
      simp only [upd, if_true]; grind
    · rw [ih (by omega)]
      simp only [upd, if_neg hn]; grind
theorem passN_val (N : Nat → Int) : val (passN N) 16 = val N 16 - car N 16 * 115792089237316195423570985008687907853269984665640564039457584007913129639898 := by
  rw [passN, val_upd _ 0 _ 16 (by decide)]
  have := val_car N 16
  rw [show (65536 : Int) ^ 16 = 115792089237316195423570985008687907853269984665640564039457584007913129639936 from by decide] at this
  rw [this]; simp only [Int.pow_zero, Int.mul_one]; omega
theorem tidyN_spec (N : Nat → Int) (h : Bd N) : Dig (tidyN N) ∧ val (tidyN N) 16 % PP = val N 16 % PP := by
  have hp : (65536 : Int) ^ 16 = 115792089237316195423570985008687907853269984665640564039457584007913129639936 := by decide
  have c0 := car_bd N h 16
  have v0 := val_car N 16
  have d0 := val_dig _ (digN_bd N) 16
  have e0 := passN_val N
  have v1 := val_car (passN N) 16
  have d1 := val_dig _ (digN_bd (passN N)) 16
  have e1 := passN_val (passN N)
  have v2 := val_car (passN (passN N)) 16
  have d2 := val_dig _ (digN_bd (passN (passN N))) 16
  have e2 := passN_val (passN (passN N))
  have c1 := car_bd _ (passN_bd N h) 16
  have c2 := car_bd _ (passN_bd _ (passN_bd N h)) 16
  rw [hp] at v0 d0 v1 d1 v2 d2
  have k1 : car (passN N) 16 = 0 ∨ car (passN N) 16 = 1 := by omega
  have k2 : car (passN (passN N)) 16 = 0 := by omega
  refine ⟨?_, ?_⟩
  · intro i
    show 0 ≤ passN (passN (passN N)) i ∧ passN (passN (passN N)) i < 65536
    have hd := digN_bd (passN (passN N)) i
    have hd0 := digN_bd (passN (passN N)) 0
    rw [passN, k2]
    simp only [upd]; split <;> omega
  · show val (passN (passN (passN N))) 16 % PP = _
    rw [e2, e1, e0, k2]
    refine cg (q := -2 * (car N 16 + car (passN N) 16)) ?_
    simp only [PP]; omega
theorem row_upto2 {k : IntKind} {n m : Nat} {f g : Nat → Int} : rowI k n (upd (fun i => if i < m then f i else g i) m (f m)) = rowI k n (fun i => if i < m + 1 then f i else g i) := by
  refine rowI_congr fun i _ => ?_
  simp only [upd]
  by_cases h : i = m
  · subst h; simp
  · rw [if_neg h]
    by_cases h2 : i < m
    · rw [if_pos h2, if_pos (by omega)]
    · rw [if_neg h2, if_neg (by omega)]
set_option maxHeartbeats 2000000 in
set_option maxRecDepth 20000 in
theorem tidy_fun (N : Nat → Int) (h : Bd N) : Fun Tryd.prog 55 [Ag (rowI .u64 16 N)] (Ag (rowI .u64 16 (tidyN N))) := by
  refine fun_of_vc Tryd.func55 rfl (by kernel_rfl) (by simp [Tryd.ntmps55]) rfl rfl ?_
  simp only [Tryd.results55, sn_upto, sn_from, slN_def, run_cap, rules, rules2, loopRules, Tryd.facts, base0, Int.toNat_zero, Nat.reduceAdd, Nat.reduceMul, Nat.reduceSub, Nat.reduceLT, Nat.reduceLeDiff, Nat.reduceEqDiff, Int.reduceLE, Int.reduceLT, Int.reduceToNat, Int.reduceNe, Int.reduceEq, not_false_eq_true, Nat.reduceBEq, Nat.reduceDiv, Int.natCast_zero, Int.natCast_one, Int.reduceAdd, Int.reduceSub, reduceIte, ↓reduceIte, Value.oneCell', rowI_length, rowI_take, rowI_splice, rep_all, row_zero, le_nat, Int.toNat_natCast, Nat.zero_add, sok_row, reduceCtorEq]
  refine loop_count 3 (fun k => [(1, Ptr 0 0), (2, Ptr 1 0), (3, I .i64 k)])
    (fun k => [(0, ⟨true, rowI .u64 16 (tidN N k)⟩), (1, ⟨true, rowI .u64 16 (fun _ => 0)⟩)]) _ ?_ ?_ ?_
  · simp only [sok_row, tidN, sn_upto, sn_from, slN_def, run_cap, rules, rules2, loopRules, Tryd.facts, base0, Int.toNat_zero, Nat.reduceAdd, Nat.reduceMul, Nat.reduceSub, Nat.reduceLT, Nat.reduceLeDiff, Nat.reduceEqDiff, Int.reduceLE, Int.reduceLT, Int.reduceToNat, Int.reduceNe, Int.reduceEq, not_false_eq_true, Nat.reduceBEq, Nat.reduceDiv, Int.natCast_zero, Int.natCast_one, Int.reduceAdd, Int.reduceSub, reduceIte, ↓reduceIte, Value.oneCell', rowI_length, rowI_take, rowI_splice, rep_all, row_zero, le_nat, Int.toNat_natCast, Nat.zero_add, sok_row, reduceCtorEq]
  · intro k hk
    have hb := tidN_bd N h k
    have hs : tidN N (k + 1) = passN (tidN N k) := rfl
    rw [hs]
    have hwk := wrapS k (by omega)
    generalize tidN N k = M at *
    have hl3 : ((k : Int) < 3) = True := lt_nat (m := 3) hk
    simp only [sn_upto, sn_from, slN_def, run_cap, rules, rules2, loopRules, Tryd.facts, base0, Int.toNat_zero, Nat.reduceAdd, Nat.reduceMul, Nat.reduceSub, Nat.reduceLT, Nat.reduceLeDiff, Nat.reduceEqDiff, Int.reduceLE, Int.reduceLT, Int.reduceToNat, Int.reduceNe, Int.reduceEq, not_false_eq_true, Nat.reduceBEq, Nat.reduceDiv, Int.natCast_zero, Int.natCast_one, Int.reduceAdd, Int.reduceSub, reduceIte, ↓reduceIte, Value.oneCell', rowI_length, rowI_take, rowI_splice, rep_all, row_zero, le_nat, Int.toNat_natCast, Nat.zero_add, sok_row, reduceCtorEq]
    refine vcIf_yes (by simp; omega) ?_
    simp only [sn_upto, sn_from, slN_def, run_cap, rules, rules2, loopRules, Tryd.facts, base0, Int.toNat_zero, Nat.reduceAdd, Nat.reduceMul, Nat.reduceSub, Nat.reduceLT, Nat.reduceLeDiff, Nat.reduceEqDiff, Int.reduceLE, Int.reduceLT, Int.reduceToNat, Int.reduceNe, Int.reduceEq, not_false_eq_true, Nat.reduceBEq, Nat.reduceDiv, Int.natCast_zero, Int.natCast_one, Int.reduceAdd, Int.reduceSub, reduceIte, ↓reduceIte, Value.oneCell', rowI_length, rowI_take, rowI_splice, rep_all, row_zero, le_nat, Int.toNat_natCast, Nat.zero_add, sok_row, reduceCtorEq]
    refine loop_count 16 (fun j => [(1, Ptr 0 0), (2, Ptr 1 0), (3, I .i64 k), (4, I .u64 (car M j)), (5, I .i64 j)])
      (fun j => [(0, ⟨true, rowI .u64 16 (fun i => if i < j then digN M i else M i)⟩), (1, ⟨true, rowI .u64 16 (fun _ => 0)⟩)]) _ ?_ ?_ ?_
    · simp only [sok_row, car, Nat.not_lt_zero, sn_upto, sn_from, slN_def, run_cap, rules, rules2, loopRules, Tryd.facts, base0, Int.toNat_zero, Nat.reduceAdd, Nat.reduceMul, Nat.reduceSub, Nat.reduceLT, Nat.reduceLeDiff, Nat.reduceEqDiff, Int.reduceLE, Int.reduceLT, Int.reduceToNat, Int.reduceNe, Int.reduceEq, not_false_eq_true, Nat.reduceBEq, Nat.reduceDiv, Int.natCast_zero, Int.natCast_one, Int.reduceAdd, Int.reduceSub, reduceIte, ↓reduceIte, Value.oneCell', rowI_length, rowI_take, rowI_splice, rep_all, row_zero, le_nat, Int.toNat_natCast, Nat.zero_add, sok_row, reduceCtorEq]
    · intro j hj
      have hM := hb j
      have hc := car_bd M hb j
      have hl16 : ((j : Int) < 16) = True := lt_nat (m := 16) hj
      have hw : IntKind.u64.wrap (M j + car M j) = M j + car M j := wrap_u64_in _ (by omega) (by omega)
      simp only [sn_upto, sn_from, slN_def, run_cap, rules, rules2, loopRules, Tryd.facts, base0, Int.toNat_zero, Nat.reduceAdd, Nat.reduceMul, Nat.reduceSub, Nat.reduceLT, Nat.reduceLeDiff, Nat.reduceEqDiff, Int.reduceLE, Int.reduceLT, Int.reduceToNat, Int.reduceNe, Int.reduceEq, not_false_eq_true, Nat.reduceBEq, Nat.reduceDiv, Int.natCast_zero, Int.natCast_one, Int.reduceAdd, Int.reduceSub, reduceIte, ↓reduceIte, Value.oneCell', rowI_length, rowI_take, rowI_splice, rep_all, row_zero, le_nat, Int.toNat_natCast, Nat.zero_add, sok_row, reduceCtorEq]
      refine vcIf_yes (by simp; omega) ?_
      simp only [hl16, rowI_get .u64 16 _ j hj, rowI_splice1 .u64 16 _ j hj, Nat.lt_irrefl, hw, wrapS j (by omega), sn_upto, sn_from, slN_def, run_cap, rules, rules2, loopRules, Tryd.facts, base0, Int.toNat_zero, Nat.reduceAdd, Nat.reduceMul, Nat.reduceSub, Nat.reduceLT, Nat.reduceLeDiff, Nat.reduceEqDiff, Int.reduceLE, Int.reduceLT, Int.reduceToNat, Int.reduceNe, Int.reduceEq, not_false_eq_true, Nat.reduceBEq, Nat.reduceDiv, Int.natCast_zero, Int.natCast_one, Int.reduceAdd, Int.reduceSub, reduceIte, ↓reduceIte, Value.oneCell', rowI_length, rowI_take, rowI_splice, rep_all, row_zero, le_nat, Int.toNat_natCast, Nat.zero_add, sok_row, reduceCtorEq]
      rw [Int.tdiv_eq_ediv_of_nonneg (show 0 ≤ M j + car M j by omega), Int.tmod_eq_emod_of_nonneg (show 0 ≤ M j + car M j by omega), wrap_u64_in _ (by omega) (by omega)]
      exact ⟨by omega, rfl, by rw [show (M j + car M j) % 65536 = digN M j from rfl, row_upto2]⟩
    · simp only [sn_upto, sn_from, slN_def, run_cap, rules, rules2, loopRules, Tryd.facts, base0, Int.toNat_zero, Nat.reduceAdd, Nat.reduceMul, Nat.reduceSub, Nat.reduceLT, Nat.reduceLeDiff, Nat.reduceEqDiff, Int.reduceLE, Int.reduceLT, Int.reduceToNat, Int.reduceNe, Int.reduceEq, not_false_eq_true, Nat.reduceBEq, Nat.reduceDiv, Int.natCast_zero, Int.natCast_one, Int.reduceAdd, Int.reduceSub, reduceIte, ↓reduceIte, Value.oneCell', rowI_length, rowI_take, rowI_splice, rep_all, row_zero, le_nat, Int.toNat_natCast, Nat.zero_add, sok_row, reduceCtorEq]
      refine vcIf_no (by decide) ?_
      simp only [rowI_get .u64 16 _ 0 (by omega), rowI_splice1 .u64 16 _ 0 (by omega), hwk, sn_upto, sn_from, slN_def, run_cap, rules, rules2, loopRules, Tryd.facts, base0, Int.toNat_zero, Nat.reduceAdd, Nat.reduceMul, Nat.reduceSub, Nat.reduceLT, Nat.reduceLeDiff, Nat.reduceEqDiff, Int.reduceLE, Int.reduceLT, Int.reduceToNat, Int.reduceNe, Int.reduceEq, not_false_eq_true, Nat.reduceBEq, Nat.reduceDiv, Int.natCast_zero, Int.natCast_one, Int.reduceAdd, Int.reduceSub, reduceIte, ↓reduceIte, Value.oneCell', rowI_length, rowI_take, rowI_splice, rep_all, row_zero, le_nat, Int.toNat_natCast, Nat.zero_add, sok_row, reduceCtorEq]
      have hc := car_bd M hb 16
      have hd := digN_bd M 0
      rw [wrap_u64_in (38 * _) (by omega) (by omega), wrap_u64_in _ (by omega) (by omega)]
      rw [rowI_congr (g := passN M) fun i hi => ?_]
      simp only [passN, upd, hi, if_true]
  · simp only [sn_upto, sn_from, slN_def, run_cap, rules, rules2, loopRules, Tryd.facts, base0, Int.toNat_zero, Nat.reduceAdd, Nat.reduceMul, Nat.reduceSub, Nat.reduceLT, Nat.reduceLeDiff, Nat.reduceEqDiff, Int.reduceLE, Int.reduceLT, Int.reduceToNat, Int.reduceNe, Int.reduceEq, not_false_eq_true, Nat.reduceBEq, Nat.reduceDiv, Int.natCast_zero, Int.natCast_one, Int.reduceAdd, Int.reduceSub, reduceIte, ↓reduceIte, Value.oneCell', rowI_length, rowI_take, rowI_splice, rep_all, row_zero, le_nat, Int.toNat_natCast, Nat.zero_add, sok_row, reduceCtorEq]
    refine vcIf_no (by decide) ?_
    simp only [sn_upto, sn_from, slN_def, run_cap, rules, rules2, loopRules, Tryd.facts, base0, Int.toNat_zero, Nat.reduceAdd, Nat.reduceMul, Nat.reduceSub, Nat.reduceLT, Nat.reduceLeDiff, Nat.reduceEqDiff, Int.reduceLE, Int.reduceLT, Int.reduceToNat, Int.reduceNe, Int.reduceEq, not_false_eq_true, Nat.reduceBEq, Nat.reduceDiv, Int.natCast_zero, Int.natCast_one, Int.reduceAdd, Int.reduceSub, reduceIte, ↓reduceIte, Value.oneCell', rowI_length, rowI_take, rowI_splice, rep_all, row_zero, le_nat, Int.toNat_natCast, Nat.zero_add, sok_row, reduceCtorEq]
    rfl
theorem row_all {k : IntKind} {n : Nat} {f g : Nat → Int} : rowI k n (fun i => if i < n then f i else g i) = rowI k n f :=
  rowI_congr fun i hi => by simp only [hi, if_true]
/-! ### Sum and difference -/
def plusN (a b : Nat → Int) : Nat → Int := tidyN fun i => a i + b i
def offN (i : Nat) : Int := if i = 0 then 130996 else 131070
def minusN (a b : Nat → Int) : Nat → Int := tidyN fun i => a i + (offN i - b i)
theorem plus_bd (a b : Nat → Int) (ha : Dig a) (hb : Dig b) : Bd fun i => a i + b i := by
  intro i; have := ha i; have := hb i; simp only []; omega
theorem minus_bd (a b : Nat → Int) (ha : Dig a) (hb : Dig b) : Bd fun i => a i + (offN i - b i) := by
  intro i; have := ha i; have := hb i; simp only [offN]; split <;> omega
theorem refPlus_fun (a b : Nat → Int) (ha : Dig a) (hb : Dig b) : Fun Tryd.prog 65 [Ag (rowI .u64 16 a), Ag (rowI .u64 16 b)] (Ag (rowI .u64 16 (plusN a b))) := by
  refine fun_of_vc Tryd.func65 rfl (by kernel_rfl) (by simp [Tryd.ntmps65]) rfl rfl ?_
  simp only [Tryd.results65, sn_upto, sn_from, slN_def, run_cap, rules, rules2, loopRules, Tryd.facts, base0, Int.toNat_zero, Nat.reduceAdd, Nat.reduceMul, Nat.reduceSub, Nat.reduceLT, Nat.reduceLeDiff, Nat.reduceEqDiff, Int.reduceLE, Int.reduceLT, Int.reduceToNat, Int.reduceNe, Int.reduceEq, not_false_eq_true, Nat.reduceBEq, Nat.reduceDiv, Int.natCast_zero, Int.natCast_one, Int.reduceAdd, Int.reduceSub, reduceIte, ↓reduceIte, Value.oneCell', rowI_length, rowI_take, rowI_splice, rep_all, row_zero, le_nat, Int.toNat_natCast, Nat.zero_add, sok_row, reduceCtorEq]
  refine loop_count 16 (fun k => [(2, Ptr 0 0), (3, Ptr 1 0), (4, Ptr 2 0), (5, I .i64 k)])
    (fun k => [(0, ⟨true, rowI .u64 16 (fun i => if i < k then a i + b i else a i)⟩), (1, ⟨true, rowI .u64 16 b⟩), (2, ⟨true, rowI .u64 16 (fun _ => 0)⟩)]) _ ?_ ?_ ?_
  · simp only [sok_row, Nat.not_lt_zero, sn_upto, sn_from, slN_def, run_cap, rules, rules2, loopRules, Tryd.facts, base0, Int.toNat_zero, Nat.reduceAdd, Nat.reduceMul, Nat.reduceSub, Nat.reduceLT, Nat.reduceLeDiff, Nat.reduceEqDiff, Int.reduceLE, Int.reduceLT, Int.reduceToNat, Int.reduceNe, Int.reduceEq, not_false_eq_true, Nat.reduceBEq, Nat.reduceDiv, Int.natCast_zero, Int.natCast_one, Int.reduceAdd, Int.reduceSub, reduceIte, ↓reduceIte, Value.oneCell', rowI_length, rowI_take, rowI_splice, rep_all, row_zero, le_nat, Int.toNat_natCast, Nat.zero_add, sok_row, reduceCtorEq]
  · intro j hj
    have h1 := ha j
    have h2 := hb j
    have hl16 : ((j : Int) < 16) = True := lt_nat (m := 16) hj
    have hw : IntKind.u64.wrap (a j + b j) = a j + b j := wrap_u64_in _ (by omega) (by omega)
    simp only [sn_upto, sn_from, slN_def, run_cap, rules, rules2, loopRules, Tryd.facts, base0, Int.toNat_zero, Nat.reduceAdd, Nat.reduceMul, Nat.reduceSub, Nat.reduceLT, Nat.reduceLeDiff, Nat.reduceEqDiff, Int.reduceLE, Int.reduceLT, Int.reduceToNat, Int.reduceNe, Int.reduceEq, not_false_eq_true, Nat.reduceBEq, Nat.reduceDiv, Int.natCast_zero, Int.natCast_one, Int.reduceAdd, Int.reduceSub, reduceIte, ↓reduceIte, Value.oneCell', rowI_length, rowI_take, rowI_splice, rep_all, row_zero, le_nat, Int.toNat_natCast, Nat.zero_add, sok_row, reduceCtorEq]
    refine vcIf_yes (by simp; omega) ?_
    simp only [hl16, rowI_get .u64 16 _ j hj, rowI_splice1 .u64 16 _ j hj, Nat.lt_irrefl, hw, wrapS j (by omega), sn_upto, sn_from, slN_def, run_cap, rules, rules2, loopRules, Tryd.facts, base0, Int.toNat_zero, Nat.reduceAdd, Nat.reduceMul, Nat.reduceSub, Nat.reduceLT, Nat.reduceLeDiff, Nat.reduceEqDiff, Int.reduceLE, Int.reduceLT, Int.reduceToNat, Int.reduceNe, Int.reduceEq, not_false_eq_true, Nat.reduceBEq, Nat.reduceDiv, Int.natCast_zero, Int.natCast_one, Int.reduceAdd, Int.reduceSub, reduceIte, ↓reduceIte, Value.oneCell', rowI_length, rowI_take, rowI_splice, rep_all, row_zero, le_nat, Int.toNat_natCast, Nat.zero_add, sok_row, reduceCtorEq]
    exact ⟨by kernel_rfl, by omega, congrArg (fun c => some (Box.mk true c)) (row_upto2 (f := fun i => a i + b i) (g := a))⟩
  · simp only [sn_upto, sn_from, slN_def, run_cap, rules, rules2, loopRules, Tryd.facts, base0, Int.toNat_zero, Nat.reduceAdd, Nat.reduceMul, Nat.reduceSub, Nat.reduceLT, Nat.reduceLeDiff, Nat.reduceEqDiff, Int.reduceLE, Int.reduceLT, Int.reduceToNat, Int.reduceNe, Int.reduceEq, not_false_eq_true, Nat.reduceBEq, Nat.reduceDiv, Int.natCast_zero, Int.natCast_one, Int.reduceAdd, Int.reduceSub, reduceIte, ↓reduceIte, Value.oneCell', rowI_length, rowI_take, rowI_splice, rep_all, row_zero, le_nat, Int.toNat_natCast, Nat.zero_add, sok_row, reduceCtorEq]
    refine vcIf_no (by decide) ?_
    have e : rowI .u64 16 (fun i => if i < 16 then a i + b i else a i) = rowI .u64 16 (fun i => a i + b i) := row_all
    simp only [e, sn_upto, sn_from, slN_def, run_cap, rules, rules2, loopRules, Tryd.facts, base0, Int.toNat_zero, Nat.reduceAdd, Nat.reduceMul, Nat.reduceSub, Nat.reduceLT, Nat.reduceLeDiff, Nat.reduceEqDiff, Int.reduceLE, Int.reduceLT, Int.reduceToNat, Int.reduceNe, Int.reduceEq, not_false_eq_true, Nat.reduceBEq, Nat.reduceDiv, Int.natCast_zero, Int.natCast_one, Int.reduceAdd, Int.reduceSub, reduceIte, ↓reduceIte, Value.oneCell', rowI_length, rowI_take, rowI_splice, rep_all, row_zero, le_nat, Int.toNat_natCast, Nat.zero_add, sok_row, reduceCtorEq]
    refine (tidy_fun _ (plus_bd a b ha hb)).vcCall ?_
    simp only [sn_upto, sn_from, slN_def, run_cap, rules, rules2, loopRules, Tryd.facts, base0, Int.toNat_zero, Nat.reduceAdd, Nat.reduceMul, Nat.reduceSub, Nat.reduceLT, Nat.reduceLeDiff, Nat.reduceEqDiff, Int.reduceLE, Int.reduceLT, Int.reduceToNat, Int.reduceNe, Int.reduceEq, not_false_eq_true, Nat.reduceBEq, Nat.reduceDiv, Int.natCast_zero, Int.natCast_one, Int.reduceAdd, Int.reduceSub, reduceIte, ↓reduceIte, Value.oneCell', rowI_length, rowI_take, rowI_splice, rep_all, row_zero, le_nat, Int.toNat_natCast, Nat.zero_add, sok_row, reduceCtorEq]
    rfl
theorem refMinus_fun (a b : Nat → Int) (ha : Dig a) (hb : Dig b) : Fun Tryd.prog 66 [Ag (rowI .u64 16 a), Ag (rowI .u64 16 b)] (Ag (rowI .u64 16 (minusN a b))) := by
  refine fun_of_vc Tryd.func66 rfl (by kernel_rfl) (by simp [Tryd.ntmps66]) rfl rfl ?_
  have hw : ∀ j, IntKind.u64.wrap (a j + IntKind.u64.wrap (offN j - b j)) = a j + (offN j - b j) := fun j => by
    have h1 := ha j
    have h2 := hb j
    have ho : 130996 ≤ offN j ∧ offN j ≤ 131070 := by simp only [offN]; split <;> omega
    rw [wrap_u64_in (offN j - b j) (by omega) (by omega), wrap_u64_in _ (by omega) (by omega)]
  have h0 := hw 0
  rw [show offN 0 = 130996 from rfl] at h0
  simp only [Tryd.results66, rowI_get .u64 16 _ 0 (by omega), rowI_splice1 .u64 16 _ 0 (by omega), h0, sn_upto, sn_from, slN_def, run_cap, rules, rules2, loopRules, Tryd.facts, base0, Int.toNat_zero, Nat.reduceAdd, Nat.reduceMul, Nat.reduceSub, Nat.reduceLT, Nat.reduceLeDiff, Nat.reduceEqDiff, Int.reduceLE, Int.reduceLT, Int.reduceToNat, Int.reduceNe, Int.reduceEq, not_false_eq_true, Nat.reduceBEq, Nat.reduceDiv, Int.natCast_zero, Int.natCast_one, Int.reduceAdd, Int.reduceSub, reduceIte, ↓reduceIte, Value.oneCell', rowI_length, rowI_take, rowI_splice, rep_all, row_zero, le_nat, Int.toNat_natCast, Nat.zero_add, sok_row, reduceCtorEq]
  refine loop_count 15 (fun k => [(2, Ptr 0 0), (3, Ptr 1 0), (4, Ptr 2 0), (5, I .i64 ((k + 1 : Nat) : Int))])
    (fun k => [(0, ⟨true, rowI .u64 16 (fun i => if i < k + 1 then a i + (offN i - b i) else a i)⟩), (1, ⟨true, rowI .u64 16 b⟩), (2, ⟨true, rowI .u64 16 (fun _ => 0)⟩)]) _ ?_ ?_ ?_
  · have e : rowI .u64 16 (upd a 0 (a 0 + (130996 - b 0))) = rowI .u64 16 (fun i => if i < 0 + 1 then a i + (offN i - b i) else a i) := rowI_congr fun i _ => by
      by_cases hi : i = 0
      · subst hi; rfl
      · simp only [upd, if_neg hi, if_neg (show ¬ i < 0 + 1 by omega)]
    simp only [sok_row, e, sn_upto, sn_from, slN_def, run_cap, rules, rules2, loopRules, Tryd.facts, base0, Int.toNat_zero, Nat.reduceAdd, Nat.reduceMul, Nat.reduceSub, Nat.reduceLT, Nat.reduceLeDiff, Nat.reduceEqDiff, Int.reduceLE, Int.reduceLT, Int.reduceToNat, Int.reduceNe, Int.reduceEq, not_false_eq_true, Nat.reduceBEq, Nat.reduceDiv, Int.natCast_zero, Int.natCast_one, Int.reduceAdd, Int.reduceSub, reduceIte, ↓reduceIte, Value.oneCell', rowI_length, rowI_take, rowI_splice, rep_all, row_zero, le_nat, Int.toNat_natCast, Nat.zero_add, sok_row, reduceCtorEq]
  · intro j hj
    have hj1 : j + 1 < 16 := by omega
    have hl16 : (((j + 1 : Nat) : Int) < 16) = True := lt_nat (m := 16) hj1
    have ho : offN (j + 1) = (131070 : Int) := by simp [offN]
    have hwj := hw (j + 1)
    have he : rowI .u64 16 (upd (fun i => if i < j + 1 then a i + (offN i - b i) else a i) (j + 1) (a (j + 1) + (131070 - b (j + 1)))) = rowI .u64 16 (fun i => if i < j + 1 + 1 then a i + (offN i - b i) else a i) := by
      rw [← ho]; exact row_upto2 (f := fun i => a i + (offN i - b i)) (g := a)
    rw [ho] at hwj
    simp only [sn_upto, sn_from, slN_def, run_cap, rules, rules2, loopRules, Tryd.facts, base0, Int.toNat_zero, Nat.reduceAdd, Nat.reduceMul, Nat.reduceSub, Nat.reduceLT, Nat.reduceLeDiff, Nat.reduceEqDiff, Int.reduceLE, Int.reduceLT, Int.reduceToNat, Int.reduceNe, Int.reduceEq, not_false_eq_true, Nat.reduceBEq, Nat.reduceDiv, Int.natCast_zero, Int.natCast_one, Int.reduceAdd, Int.reduceSub, reduceIte, ↓reduceIte, Value.oneCell', rowI_length, rowI_take, rowI_splice, rep_all, row_zero, le_nat, Int.toNat_natCast, Nat.zero_add, sok_row, reduceCtorEq]
    refine vcIf_yes (by simp; omega) ?_
    simp only [hl16, rowI_get .u64 16 _ (j + 1) hj1, rowI_splice1 .u64 16 _ (j + 1) hj1, Nat.lt_irrefl, hwj, wrapS (j + 1) (by omega), sn_upto, sn_from, slN_def, run_cap, rules, rules2, loopRules, Tryd.facts, base0, Int.toNat_zero, Nat.reduceAdd, Nat.reduceMul, Nat.reduceSub, Nat.reduceLT, Nat.reduceLeDiff, Nat.reduceEqDiff, Int.reduceLE, Int.reduceLT, Int.reduceToNat, Int.reduceNe, Int.reduceEq, not_false_eq_true, Nat.reduceBEq, Nat.reduceDiv, Int.natCast_zero, Int.natCast_one, Int.reduceAdd, Int.reduceSub, reduceIte, ↓reduceIte, Value.oneCell', rowI_length, rowI_take, rowI_splice, rep_all, row_zero, le_nat, Int.toNat_natCast, Nat.zero_add, sok_row, reduceCtorEq]
    exact ⟨by kernel_rfl, by omega, by rw [he]⟩
  · simp only [sn_upto, sn_from, slN_def, run_cap, rules, rules2, loopRules, Tryd.facts, base0, Int.toNat_zero, Nat.reduceAdd, Nat.reduceMul, Nat.reduceSub, Nat.reduceLT, Nat.reduceLeDiff, Nat.reduceEqDiff, Int.reduceLE, Int.reduceLT, Int.reduceToNat, Int.reduceNe, Int.reduceEq, not_false_eq_true, Nat.reduceBEq, Nat.reduceDiv, Int.natCast_zero, Int.natCast_one, Int.reduceAdd, Int.reduceSub, reduceIte, ↓reduceIte, Value.oneCell', rowI_length, rowI_take, rowI_splice, rep_all, row_zero, le_nat, Int.toNat_natCast, Nat.zero_add, sok_row, reduceCtorEq]
    refine vcIf_no (by decide) ?_
    have e : rowI .u64 16 (fun i => if i < 15 + 1 then a i + (offN i - b i) else a i) = rowI .u64 16 (fun i => a i + (offN i - b i)) := row_all
    have e' : rowI .u64 16 (fun i => if i < 16 then a i + (offN i - b i) else a i) = rowI .u64 16 (fun i => a i + (offN i - b i)) := row_all
    simp only [e, e', sn_upto, sn_from, slN_def, run_cap, rules, rules2, loopRules, Tryd.facts, base0, Int.toNat_zero, Nat.reduceAdd, Nat.reduceMul, Nat.reduceSub, Nat.reduceLT, Nat.reduceLeDiff, Nat.reduceEqDiff, Int.reduceLE, Int.reduceLT, Int.reduceToNat, Int.reduceNe, Int.reduceEq, not_false_eq_true, Nat.reduceBEq, Nat.reduceDiv, Int.natCast_zero, Int.natCast_one, Int.reduceAdd, Int.reduceSub, reduceIte, ↓reduceIte, Value.oneCell', rowI_length, rowI_take, rowI_splice, rep_all, row_zero, le_nat, Int.toNat_natCast, Nat.zero_add, sok_row, reduceCtorEq]
    refine (tidy_fun _ (minus_bd a b ha hb)).vcCall ?_
    simp only [sn_upto, sn_from, slN_def, run_cap, rules, rules2, loopRules, Tryd.facts, base0, Int.toNat_zero, Nat.reduceAdd, Nat.reduceMul, Nat.reduceSub, Nat.reduceLT, Nat.reduceLeDiff, Nat.reduceEqDiff, Int.reduceLE, Int.reduceLT, Int.reduceToNat, Int.reduceNe, Int.reduceEq, not_false_eq_true, Nat.reduceBEq, Nat.reduceDiv, Int.natCast_zero, Int.natCast_one, Int.reduceAdd, Int.reduceSub, reduceIte, ↓reduceIte, Value.oneCell', rowI_length, rowI_take, rowI_splice, rep_all, row_zero, le_nat, Int.toNat_natCast, Nat.zero_add, sok_row, reduceCtorEq]
    rfl
/-! ### Products of digits -/
def inL (f : Nat → Int) (x : Int) (b : Nat → Int) (i : Nat) : Nat → Nat → Int
  | 0 => f
  | j + 1 => upd (inL f x b i j) (i + j) (inL f x b i j (i + j) + x * b j)
def inH (f : Nat → Int) (x : Int) (b : Nat → Int) (i : Nat) : Nat → Nat → Int
  | 0 => f
  | m + 1 => upd (inH f x b i m) m (inH f x b i m m + x * b (16 - i + m))
def lowO (a b : Nat → Int) : Nat → Nat → Int
  | 0 => fun _ => 0
  | i + 1 => inL (lowO a b i) (a i) b i (16 - i)
def highO (a b : Nat → Int) : Nat → Nat → Int
  | 0 => fun _ => 0
  | i + 1 => inH (highO a b i) (a i) b i i
theorem inL_eq (f : Nat → Int) (x : Int) (b : Nat → Int) (i : Nat) : ∀ j k, inL f x b i j k = f k + if i ≤ k ∧ k < i + j then x * b (k - i) else 0
  | 0, k => by simp only [inL]; rw [if_neg (by omega)]; omega
  | j + 1, k => by
    simp only [inL, upd]
    by_cases h : k = i + j
    · subst h
      rw [if_pos rfl, inL_eq f x b i j, if_neg (by omega), if_pos (by omega), show i + j - i = j from by omega]; omega
    · rw [if_neg h, inL_eq f x b i j]
      by_cases h2 : i ≤ k ∧ k < i + j
      · rw [if_pos h2, if_pos (by omega)]
      · rw [if_neg h2, if_neg (by omega)]
theorem inH_eq (f : Nat → Int) (x : Int) (b : Nat → Int) (i : Nat) : ∀ m k, inH f x b i m k = f k + if k < m then x * b (16 - i + k) else 0
  | 0, k => by simp only [inH]; rw [if_neg (by omega)]; omega
  | m + 1, k => by
    simp only [inH, upd]
    by_cases h : k = m
    · subst h
      rw [if_pos rfl, inH_eq f x b i k, if_neg (by omega), if_pos (by omega)]; omega
    · rw [if_neg h, inH_eq f x b i m]
      by_cases h2 : k < m
      · rw [if_pos h2, if_pos (by omega)]
      · rw [if_neg h2, if_neg (by omega)]
theorem dd_bd {x y : Int} (hx : 0 ≤ x ∧ x < 65536) (hy : 0 ≤ y ∧ y < 65536) : 0 ≤ x * y ∧ x * y ≤ 4294836225 :=
  mul_bd hx.1 (show x ≤ 65535 by omega) hy.1 (show y ≤ 65535 by omega)
theorem inL_bd {f : Nat → Int} {x : Int} {b : Nat → Int} {B : Int} (hx : 0 ≤ x ∧ x < 65536) (hb : Dig b) (hf : ∀ k, 0 ≤ f k ∧ f k ≤ B) (i j k : Nat) : 0 ≤ inL f x b i j k ∧ inL f x b i j k ≤ B + 4294836225 := by
  rw [inL_eq]
  have := hf k
  have := dd_bd hx (hb (k - i))
  split <;> omega
theorem inH_bd {f : Nat → Int} {x : Int} {b : Nat → Int} {B : Int} (hx : 0 ≤ x ∧ x < 65536) (hb : Dig b) (hf : ∀ k, 0 ≤ f k ∧ f k ≤ B) (i j k : Nat) : 0 ≤ inH f x b i j k ∧ inH f x b i j k ≤ B + 4294836225 := by
  rw [inH_eq]
  have := hf k
  have := dd_bd hx (hb (16 - i + k))
  split <;> omega
theorem lowO_bd (a b : Nat → Int) (ha : Dig a) (hb : Dig b) : ∀ i k, 0 ≤ lowO a b i k ∧ lowO a b i k ≤ i * 4294836225
  | 0, k => by simp [lowO]
  | i + 1, k => by
    have := inL_bd (ha i) hb (lowO_bd a b ha hb i) i (16 - i) k
    simp only [lowO]; omega
theorem highO_bd (a b : Nat → Int) (ha : Dig a) (hb : Dig b) : ∀ i k, 0 ≤ highO a b i k ∧ highO a b i k ≤ i * 4294836225
  | 0, k => by simp [highO]
  | i + 1, k => by
    have := inH_bd (ha i) hb (highO_bd a b ha hb i) i i k
    simp only [highO]; omega
def timesW (a b : Nat → Int) (k : Nat) : Int := lowO a b 16 k + 38 * highO a b 16 k
theorem timesW_bd (a b : Nat → Int) (ha : Dig a) (hb : Dig b) : Bd (timesW a b) := by
  intro i
  have := lowO_bd a b ha hb 16 i
  have := highO_bd a b ha hb 16 i
  simp only [timesW]; omega
def timesN (a b : Nat → Int) : Nat → Int := tidyN (timesW a b)
theorem val_s (N : Nat → Int) (n : Nat) : val N (n + 1) = val N n + N n * 65536 ^ n := rfl
theorem inL_val (f : Nat → Int) (x : Int) (b : Nat → Int) (i : Nat) (hi : i < 16) : ∀ j, i + j ≤ 16 → val (inL f x b i j) 16 = val f 16 + x * 65536 ^ i * val b j
  | 0, _ => by simp only [inL, val]; omega
  | j + 1, h => by
    rw [inL, val_upd _ _ _ 16 (by omega), inL_val f x b i hi j (by omega), val_s b j, Int.pow_add]; grind
theorem inH_val (f : Nat → Int) (x : Int) (b : Nat → Int) (i : Nat) (hi : i < 16) : ∀ m, m ≤ i → 65536 ^ 16 * val (inH f x b i m) 16 + x * 65536 ^ i * val b (16 - i) = 65536 ^ 16 * val f 16 + x * 65536 ^ i * val b (16 - i + m)
  | 0, _ => by simp only [inH, Nat.add_zero]
  | m + 1, h => by
    have ih := inH_val f x b i hi m (by omega)
    have hp : (65536 : Int) ^ 16 = 65536 ^ i * 65536 ^ (16 - i) := by rw [← Int.pow_add, show i + (16 - i) = 16 from by omega]
    rw [inH, val_upd _ _ _ 16 (by omega), show 16 - i + (m + 1) = (16 - i + m) + 1 from by omega, val_s b (16 - i + m), Int.pow_add]
    generalize val (inH f x b i m) 16 = v at *
    rw [hp] at ih ⊢
    grind
theorem prod_val (a b : Nat → Int) : ∀ i, i ≤ 16 → val (lowO a b i) 16 + 65536 ^ 16 * val (highO a b i) 16 = val a i * val b 16
  | 0, _ => by
    have h : ∀ n, val (fun _ => 0) n = 0 := by
      intro n; induction n with
      | zero => rfl
      | succ n ih => rw [val, ih]; omega
    simp only [lowO, highO, h, val]; omega
  | i + 1, h => by
    have ih := prod_val a b i (by omega)
    have h1 := inL_val (lowO a b i) (a i) b i (by omega) (16 - i) (by omega)
    have h2 := inH_val (highO a b i) (a i) b i (by omega) i (Nat.le_refl i)
    rw [show 16 - i + i = 16 from by omega] at h2
    rw [lowO, highO, val_s a i, h1]
    grind
theorem val_add (a b : Nat → Int) : ∀ n, val (fun i => a i + b i) n = val a n + val b n
  | 0 => by simp [val]
  | n + 1 => by rw [val, val, val, val_add a b n]; grind
theorem val_smul (c : Int) (a : Nat → Int) : ∀ n, val (fun i => c * a i) n = c * val a n
  | 0 => by simp [val]
  | n + 1 => by rw [val, val, val_smul c a n]; grind
theorem val_sub (a b : Nat → Int) : ∀ n, val (fun i => a i - b i) n = val a n - val b n
  | 0 => by simp [val]
  | n + 1 => by rw [val, val, val, val_sub a b n]; grind
theorem timesN_spec (a b : Nat → Int) (ha : Dig a) (hb : Dig b) : Dig (timesN a b) ∧ val (timesN a b) 16 % PP = val a 16 * val b 16 % PP := by
  obtain ⟨h1, h2⟩ := tidyN_spec _ (timesW_bd a b ha hb)
  refine ⟨h1, ?_⟩
  rw [timesN, h2]
  have hp := prod_val a b 16 (Nat.le_refl 16)
  have e : val (timesW a b) 16 = val (lowO a b 16) 16 + 38 * val (highO a b 16) 16 := by
    rw [show timesW a b = fun k => lowO a b 16 k + (fun k => 38 * highO a b 16 k) k from rfl, val_add, val_smul]
  rw [e, ← hp]
  refine cg (q := -2 * val (highO a b 16) 16) ?_
  rw [show (65536 : Int) ^ 16 = 115792089237316195423570985008687907853269984665640564039457584007913129639936 from by decide]
  simp only [PP]; omega
theorem plusN_spec (a b : Nat → Int) (ha : Dig a) (hb : Dig b) : Dig (plusN a b) ∧ val (plusN a b) 16 % PP = (val a 16 + val b 16) % PP := by
  obtain ⟨h1, h2⟩ := tidyN_spec _ (plus_bd a b ha hb)
  exact ⟨h1, by rw [plusN, h2, val_add]⟩
theorem minusN_spec (a b : Nat → Int) (ha : Dig a) (hb : Dig b) : Dig (minusN a b) ∧ val (minusN a b) 16 % PP = (val a 16 - val b 16) % PP := by
  obtain ⟨h1, h2⟩ := tidyN_spec _ (minus_bd a b ha hb)
  refine ⟨h1, ?_⟩
  rw [minusN, h2, show (fun i => a i + (offN i - b i)) = fun i => a i + (fun i => offN i - b i) i from rfl, val_add, val_sub]
  refine cg (q := 4) ?_
  have : val offN 16 = 4 * PP := by simp [val, offN, PP]
  omega
theorem wrapA (n m : Nat) (h : n + m < 9223372036854775807) : IntKind.i64.wrap ((n : Int) + (m : Int)) = ((n + m : Nat) : Int) := wrap_i64 _ (by omega) (by omega)
set_option maxHeartbeats 4000000 in
set_option maxRecDepth 20000 in
theorem times_fun (a b : Nat → Int) (ha : Dig a) (hb : Dig b) : Fun Tryd.prog 39 [Ag (rowI .u64 16 a), Ag (rowI .u64 16 b)] (Ag (rowI .u64 16 (timesN a b))) := by
  refine fun_of_vc Tryd.func39 rfl (by kernel_rfl) (by simp [Tryd.ntmps39]) rfl rfl ?_
  simp only [Tryd.results39, sn_upto, sn_from, slN_def, run_cap, rules, rules2, loopRules, Tryd.facts, base0, Int.toNat_zero, Nat.reduceAdd, Nat.reduceMul, Nat.reduceSub, Nat.reduceLT, Nat.reduceLeDiff, Nat.reduceEqDiff, Int.reduceLE, Int.reduceLT, Int.reduceToNat, Int.reduceNe, Int.reduceEq, not_false_eq_true, Nat.reduceBEq, Nat.reduceDiv, Int.natCast_zero, Int.natCast_one, Int.reduceAdd, Int.reduceSub, reduceIte, ↓reduceIte, Value.oneCell', rowI_length, rowI_take, rowI_splice, rep_all, row_zero, le_nat, Int.toNat_natCast, Nat.zero_add, sok_row, reduceCtorEq]
  refine loop_count 16 (fun i => [(2, Ptr 0 0), (3, Ptr 1 0), (4, Ptr 2 0), (5, Ptr 3 0), (6, Ptr 4 0), (7, I .i64 i)])
    (fun i => [(0, ⟨true, rowI .u64 16 a⟩), (1, ⟨true, rowI .u64 16 b⟩), (2, ⟨true, rowI .u64 16 (fun _ => 0)⟩), (3, ⟨true, rowI .u64 16 (lowO a b i)⟩), (4, ⟨true, rowI .u64 16 (highO a b i)⟩)]) _ ?_ ?_ ?_
  · simp only [sok_row, lowO, highO, sn_upto, sn_from, slN_def, run_cap, rules, rules2, loopRules, Tryd.facts, base0, Int.toNat_zero, Nat.reduceAdd, Nat.reduceMul, Nat.reduceSub, Nat.reduceLT, Nat.reduceLeDiff, Nat.reduceEqDiff, Int.reduceLE, Int.reduceLT, Int.reduceToNat, Int.reduceNe, Int.reduceEq, not_false_eq_true, Nat.reduceBEq, Nat.reduceDiv, Int.natCast_zero, Int.natCast_one, Int.reduceAdd, Int.reduceSub, reduceIte, ↓reduceIte, Value.oneCell', rowI_length, rowI_take, rowI_splice, rep_all, row_zero, le_nat, Int.toNat_natCast, Nat.zero_add, sok_row, reduceCtorEq]
  · intro i hi
    have hl16 : ((i : Int) < 16) = True := lt_nat (m := 16) hi
    have hf := lowO_bd a b ha hb i
    have hg := highO_bd a b ha hb i
    have hai := ha i
    have hsl : lowO a b (i + 1) = inL (lowO a b i) (a i) b i (16 - i) := rfl
    have hsh : highO a b (i + 1) = inH (highO a b i) (a i) b i i := rfl
    have h16 : IntKind.i64.wrap ((16 : Int) - i) = ((16 - i : Nat) : Int) := by rw [wrap_i64 _ (by omega) (by omega)]; omega
    have hwi := wrapS i (by omega)
    rw [hsl, hsh]
    generalize lowO a b i = f at *
    generalize highO a b i = g at *
    simp only [sn_upto, sn_from, slN_def, run_cap, rules, rules2, loopRules, Tryd.facts, base0, Int.toNat_zero, Nat.reduceAdd, Nat.reduceMul, Nat.reduceSub, Nat.reduceLT, Nat.reduceLeDiff, Nat.reduceEqDiff, Int.reduceLE, Int.reduceLT, Int.reduceToNat, Int.reduceNe, Int.reduceEq, not_false_eq_true, Nat.reduceBEq, Nat.reduceDiv, Int.natCast_zero, Int.natCast_one, Int.reduceAdd, Int.reduceSub, reduceIte, ↓reduceIte, Value.oneCell', rowI_length, rowI_take, rowI_splice, rep_all, row_zero, le_nat, Int.toNat_natCast, Nat.zero_add, sok_row, reduceCtorEq]
    refine vcIf_yes (by simp; omega) ?_
    simp only [hl16, rowI_get .u64 16 _ i hi, sn_upto, sn_from, slN_def, run_cap, rules, rules2, loopRules, Tryd.facts, base0, Int.toNat_zero, Nat.reduceAdd, Nat.reduceMul, Nat.reduceSub, Nat.reduceLT, Nat.reduceLeDiff, Nat.reduceEqDiff, Int.reduceLE, Int.reduceLT, Int.reduceToNat, Int.reduceNe, Int.reduceEq, not_false_eq_true, Nat.reduceBEq, Nat.reduceDiv, Int.natCast_zero, Int.natCast_one, Int.reduceAdd, Int.reduceSub, reduceIte, ↓reduceIte, Value.oneCell', rowI_length, rowI_take, rowI_splice, rep_all, row_zero, le_nat, Int.toNat_natCast, Nat.zero_add, sok_row, reduceCtorEq]
    refine loop_count (16 - i) (fun j => [(2, Ptr 0 0), (3, Ptr 1 0), (4, Ptr 2 0), (5, Ptr 3 0), (6, Ptr 4 0), (7, I .i64 i), (8, I .u64 (a i)), (9, I .i64 j)])
      (fun j => [(0, ⟨true, rowI .u64 16 a⟩), (1, ⟨true, rowI .u64 16 b⟩), (2, ⟨true, rowI .u64 16 (fun _ => 0)⟩), (3, ⟨true, rowI .u64 16 (inL f (a i) b i j)⟩), (4, ⟨true, rowI .u64 16 g⟩)]) _ ?_ ?_ ?_
    · simp only [sok_row, inL, sn_upto, sn_from, slN_def, run_cap, rules, rules2, loopRules, Tryd.facts, base0, Int.toNat_zero, Nat.reduceAdd, Nat.reduceMul, Nat.reduceSub, Nat.reduceLT, Nat.reduceLeDiff, Nat.reduceEqDiff, Int.reduceLE, Int.reduceLT, Int.reduceToNat, Int.reduceNe, Int.reduceEq, not_false_eq_true, Nat.reduceBEq, Nat.reduceDiv, Int.natCast_zero, Int.natCast_one, Int.reduceAdd, Int.reduceSub, reduceIte, ↓reduceIte, Value.oneCell', rowI_length, rowI_take, rowI_splice, rep_all, row_zero, le_nat, Int.toNat_natCast, Nat.zero_add, sok_row, reduceCtorEq]
    · intro j hj
      have hj16 : j < 16 := by omega
      have hij : i + j < 16 := by omega
      have hlj : ((j : Int) < 16) = True := lt_nat (m := 16) hj16
      have hlij : (((i + j : Nat) : Int) < 16) = True := lt_nat (m := 16) hij
      have hx := inL_bd (x := a i) hai hb hf i j (i + j)
      have hd := dd_bd hai (hb j)
      have hm : IntKind.u64.wrap (a i * b j) = a i * b j := wrap_u64_in _ (by omega) (by omega)
      have hw : IntKind.u64.wrap (inL f (a i) b i j (i + j) + a i * b j) = inL f (a i) b i j (i + j) + a i * b j := wrap_u64_in _ (by omega) (by omega)
      simp only [h16, sn_upto, sn_from, slN_def, run_cap, rules, rules2, loopRules, Tryd.facts, base0, Int.toNat_zero, Nat.reduceAdd, Nat.reduceMul, Nat.reduceSub, Nat.reduceLT, Nat.reduceLeDiff, Nat.reduceEqDiff, Int.reduceLE, Int.reduceLT, Int.reduceToNat, Int.reduceNe, Int.reduceEq, not_false_eq_true, Nat.reduceBEq, Nat.reduceDiv, Int.natCast_zero, Int.natCast_one, Int.reduceAdd, Int.reduceSub, reduceIte, ↓reduceIte, Value.oneCell', rowI_length, rowI_take, rowI_splice, rep_all, row_zero, le_nat, Int.toNat_natCast, Nat.zero_add, sok_row, reduceCtorEq]
      refine vcIf_yes (by simp; omega) ?_
      simp only [hlj, hlij, wrapA i j (by omega), rowI_get .u64 16 _ j hj16, rowI_get .u64 16 _ (i + j) hij, rowI_splice1 .u64 16 _ (i + j) hij, hm, hw, wrapS j (by omega), sn_upto, sn_from, slN_def, run_cap, rules, rules2, loopRules, Tryd.facts, base0, Int.toNat_zero, Nat.reduceAdd, Nat.reduceMul, Nat.reduceSub, Nat.reduceLT, Nat.reduceLeDiff, Nat.reduceEqDiff, Int.reduceLE, Int.reduceLT, Int.reduceToNat, Int.reduceNe, Int.reduceEq, not_false_eq_true, Nat.reduceBEq, Nat.reduceDiv, Int.natCast_zero, Int.natCast_one, Int.reduceAdd, Int.reduceSub, reduceIte, ↓reduceIte, Value.oneCell', rowI_length, rowI_take, rowI_splice, rep_all, row_zero, le_nat, Int.toNat_natCast, Nat.zero_add, sok_row, reduceCtorEq]
      exact ⟨by kernel_rfl, by omega, rfl⟩
    · simp only [h16, sn_upto, sn_from, slN_def, run_cap, rules, rules2, loopRules, Tryd.facts, base0, Int.toNat_zero, Nat.reduceAdd, Nat.reduceMul, Nat.reduceSub, Nat.reduceLT, Nat.reduceLeDiff, Nat.reduceEqDiff, Int.reduceLE, Int.reduceLT, Int.reduceToNat, Int.reduceNe, Int.reduceEq, not_false_eq_true, Nat.reduceBEq, Nat.reduceDiv, Int.natCast_zero, Int.natCast_one, Int.reduceAdd, Int.reduceSub, reduceIte, ↓reduceIte, Value.oneCell', rowI_length, rowI_take, rowI_splice, rep_all, row_zero, le_nat, Int.toNat_natCast, Nat.zero_add, sok_row, reduceCtorEq]
      refine vcIf_no (by simp) ?_
      simp only [h16, sn_upto, sn_from, slN_def, run_cap, rules, rules2, loopRules, Tryd.facts, base0, Int.toNat_zero, Nat.reduceAdd, Nat.reduceMul, Nat.reduceSub, Nat.reduceLT, Nat.reduceLeDiff, Nat.reduceEqDiff, Int.reduceLE, Int.reduceLT, Int.reduceToNat, Int.reduceNe, Int.reduceEq, not_false_eq_true, Nat.reduceBEq, Nat.reduceDiv, Int.natCast_zero, Int.natCast_one, Int.reduceAdd, Int.reduceSub, reduceIte, ↓reduceIte, Value.oneCell', rowI_length, rowI_take, rowI_splice, rep_all, row_zero, le_nat, Int.toNat_natCast, Nat.zero_add, sok_row, reduceCtorEq]
      refine loop_count i (fun m => [(2, Ptr 0 0), (3, Ptr 1 0), (4, Ptr 2 0), (5, Ptr 3 0), (6, Ptr 4 0), (7, I .i64 i), (8, I .u64 (a i)), (10, I .i64 ((16 - i + m : Nat) : Int))])
        (fun m => [(0, ⟨true, rowI .u64 16 a⟩), (1, ⟨true, rowI .u64 16 b⟩), (2, ⟨true, rowI .u64 16 (fun _ => 0)⟩), (3, ⟨true, rowI .u64 16 (inL f (a i) b i (16 - i))⟩), (4, ⟨true, rowI .u64 16 (inH g (a i) b i m)⟩)]) _ ?_ ?_ ?_
      · simp only [sok_row, inH, sn_upto, sn_from, slN_def, run_cap, rules, rules2, loopRules, Tryd.facts, base0, Int.toNat_zero, Nat.reduceAdd, Nat.reduceMul, Nat.reduceSub, Nat.reduceLT, Nat.reduceLeDiff, Nat.reduceEqDiff, Int.reduceLE, Int.reduceLT, Int.reduceToNat, Int.reduceNe, Int.reduceEq, not_false_eq_true, Nat.reduceBEq, Nat.reduceDiv, Int.natCast_zero, Int.natCast_one, Int.reduceAdd, Int.reduceSub, reduceIte, ↓reduceIte, Value.oneCell', rowI_length, rowI_take, rowI_splice, rep_all, row_zero, le_nat, Int.toNat_natCast, Nat.zero_add, sok_row, reduceCtorEq]
      · intro m hm
        have hm16 : m < 16 := by omega
        have hj16 : 16 - i + m < 16 := by omega
        have hlj : (((16 - i + m : Nat) : Int) < 16) = True := lt_nat (m := 16) hj16
        have hlm : ((m : Int) < 16) = True := lt_nat (m := 16) hm16
        have hx := inH_bd (x := a i) hai hb hg i m m
        have hd := dd_bd hai (hb (16 - i + m))
        have hmu : IntKind.u64.wrap (a i * b (16 - i + m)) = a i * b (16 - i + m) := wrap_u64_in _ (by omega) (by omega)
        have hw : IntKind.u64.wrap (inH g (a i) b i m m + a i * b (16 - i + m)) = inH g (a i) b i m m + a i * b (16 - i + m) := wrap_u64_in _ (by omega) (by omega)
        have hs : IntKind.i64.wrap (((i + (16 - i + m) : Nat) : Int) - 16) = (m : Int) := by rw [wrap_i64 _ (by omega) (by omega)]; omega
        simp only [sn_upto, sn_from, slN_def, run_cap, rules, rules2, loopRules, Tryd.facts, base0, Int.toNat_zero, Nat.reduceAdd, Nat.reduceMul, Nat.reduceSub, Nat.reduceLT, Nat.reduceLeDiff, Nat.reduceEqDiff, Int.reduceLE, Int.reduceLT, Int.reduceToNat, Int.reduceNe, Int.reduceEq, not_false_eq_true, Nat.reduceBEq, Nat.reduceDiv, Int.natCast_zero, Int.natCast_one, Int.reduceAdd, Int.reduceSub, reduceIte, ↓reduceIte, Value.oneCell', rowI_length, rowI_take, rowI_splice, rep_all, row_zero, le_nat, Int.toNat_natCast, Nat.zero_add, sok_row, reduceCtorEq]
        refine vcIf_yes (by simp; omega) ?_
        simp only [hlj, hlm, wrapA i (16 - i + m) (by omega), hs, rowI_get .u64 16 _ m hm16, rowI_get .u64 16 _ (16 - i + m) hj16, rowI_splice1 .u64 16 _ m hm16, hmu, hw, wrapS (16 - i + m) (by omega), sn_upto, sn_from, slN_def, run_cap, rules, rules2, loopRules, Tryd.facts, base0, Int.toNat_zero, Nat.reduceAdd, Nat.reduceMul, Nat.reduceSub, Nat.reduceLT, Nat.reduceLeDiff, Nat.reduceEqDiff, Int.reduceLE, Int.reduceLT, Int.reduceToNat, Int.reduceNe, Int.reduceEq, not_false_eq_true, Nat.reduceBEq, Nat.reduceDiv, Int.natCast_zero, Int.natCast_one, Int.reduceAdd, Int.reduceSub, reduceIte, ↓reduceIte, Value.oneCell', rowI_length, rowI_take, rowI_splice, rep_all, row_zero, le_nat, Int.toNat_natCast, Nat.zero_add, sok_row, reduceCtorEq]
        exact ⟨by kernel_rfl, by omega, rfl, rfl⟩
      · simp only [sn_upto, sn_from, slN_def, run_cap, rules, rules2, loopRules, Tryd.facts, base0, Int.toNat_zero, Nat.reduceAdd, Nat.reduceMul, Nat.reduceSub, Nat.reduceLT, Nat.reduceLeDiff, Nat.reduceEqDiff, Int.reduceLE, Int.reduceLT, Int.reduceToNat, Int.reduceNe, Int.reduceEq, not_false_eq_true, Nat.reduceBEq, Nat.reduceDiv, Int.natCast_zero, Int.natCast_one, Int.reduceAdd, Int.reduceSub, reduceIte, ↓reduceIte, Value.oneCell', rowI_length, rowI_take, rowI_splice, rep_all, row_zero, le_nat, Int.toNat_natCast, Nat.zero_add, sok_row, reduceCtorEq]
        refine vcIf_no (by simp; omega) ?_
        simp only [hwi, sn_upto, sn_from, slN_def, run_cap, rules, rules2, loopRules, Tryd.facts, base0, Int.toNat_zero, Nat.reduceAdd, Nat.reduceMul, Nat.reduceSub, Nat.reduceLT, Nat.reduceLeDiff, Nat.reduceEqDiff, Int.reduceLE, Int.reduceLT, Int.reduceToNat, Int.reduceNe, Int.reduceEq, not_false_eq_true, Nat.reduceBEq, Nat.reduceDiv, Int.natCast_zero, Int.natCast_one, Int.reduceAdd, Int.reduceSub, reduceIte, ↓reduceIte, Value.oneCell', rowI_length, rowI_take, rowI_splice, rep_all, row_zero, le_nat, Int.toNat_natCast, Nat.zero_add, sok_row, reduceCtorEq]
  · simp only [sn_upto, sn_from, slN_def, run_cap, rules, rules2, loopRules, Tryd.facts, base0, Int.toNat_zero, Nat.reduceAdd, Nat.reduceMul, Nat.reduceSub, Nat.reduceLT, Nat.reduceLeDiff, Nat.reduceEqDiff, Int.reduceLE, Int.reduceLT, Int.reduceToNat, Int.reduceNe, Int.reduceEq, not_false_eq_true, Nat.reduceBEq, Nat.reduceDiv, Int.natCast_zero, Int.natCast_one, Int.reduceAdd, Int.reduceSub, reduceIte, ↓reduceIte, Value.oneCell', rowI_length, rowI_take, rowI_splice, rep_all, row_zero, le_nat, Int.toNat_natCast, Nat.zero_add, sok_row, reduceCtorEq]
    refine vcIf_no (by decide) ?_
    simp only [sn_upto, sn_from, slN_def, run_cap, rules, rules2, loopRules, Tryd.facts, base0, Int.toNat_zero, Nat.reduceAdd, Nat.reduceMul, Nat.reduceSub, Nat.reduceLT, Nat.reduceLeDiff, Nat.reduceEqDiff, Int.reduceLE, Int.reduceLT, Int.reduceToNat, Int.reduceNe, Int.reduceEq, not_false_eq_true, Nat.reduceBEq, Nat.reduceDiv, Int.natCast_zero, Int.natCast_one, Int.reduceAdd, Int.reduceSub, reduceIte, ↓reduceIte, Value.oneCell', rowI_length, rowI_take, rowI_splice, rep_all, row_zero, le_nat, Int.toNat_natCast, Nat.zero_add, sok_row, reduceCtorEq]
    have hf := lowO_bd a b ha hb 16
    have hg := highO_bd a b ha hb 16
    refine loop_count 16 (fun k => [(4, Ptr 2 0), (5, Ptr 3 0), (6, Ptr 4 0), (11, I .i64 k)])
      (fun k => [(2, ⟨true, rowI .u64 16 (fun _ => 0)⟩), (3, ⟨true, rowI .u64 16 (fun i => if i < k then timesW a b i else lowO a b 16 i)⟩), (4, ⟨true, rowI .u64 16 (highO a b 16)⟩)]) _ ?_ ?_ ?_
    · simp only [sok_row, Nat.not_lt_zero, sn_upto, sn_from, slN_def, run_cap, rules, rules2, loopRules, Tryd.facts, base0, Int.toNat_zero, Nat.reduceAdd, Nat.reduceMul, Nat.reduceSub, Nat.reduceLT, Nat.reduceLeDiff, Nat.reduceEqDiff, Int.reduceLE, Int.reduceLT, Int.reduceToNat, Int.reduceNe, Int.reduceEq, not_false_eq_true, Nat.reduceBEq, Nat.reduceDiv, Int.natCast_zero, Int.natCast_one, Int.reduceAdd, Int.reduceSub, reduceIte, ↓reduceIte, Value.oneCell', rowI_length, rowI_take, rowI_splice, rep_all, row_zero, le_nat, Int.toNat_natCast, Nat.zero_add, sok_row, reduceCtorEq]
    · intro k hk
      have h1 := hf k
      have h2 := hg k
      have hl16 : ((k : Int) < 16) = True := lt_nat (m := 16) hk
      have hw1 : IntKind.u64.wrap (38 * highO a b 16 k) = 38 * highO a b 16 k := wrap_u64_in _ (by omega) (by omega)
      have hw : IntKind.u64.wrap (lowO a b 16 k + 38 * highO a b 16 k) = timesW a b k := wrap_u64_in _ (by omega) (by omega)
      simp only [sn_upto, sn_from, slN_def, run_cap, rules, rules2, loopRules, Tryd.facts, base0, Int.toNat_zero, Nat.reduceAdd, Nat.reduceMul, Nat.reduceSub, Nat.reduceLT, Nat.reduceLeDiff, Nat.reduceEqDiff, Int.reduceLE, Int.reduceLT, Int.reduceToNat, Int.reduceNe, Int.reduceEq, not_false_eq_true, Nat.reduceBEq, Nat.reduceDiv, Int.natCast_zero, Int.natCast_one, Int.reduceAdd, Int.reduceSub, reduceIte, ↓reduceIte, Value.oneCell', rowI_length, rowI_take, rowI_splice, rep_all, row_zero, le_nat, Int.toNat_natCast, Nat.zero_add, sok_row, reduceCtorEq]
      refine vcIf_yes (by simp; omega) ?_
      simp only [hl16, rowI_get .u64 16 _ k hk, rowI_splice1 .u64 16 _ k hk, Nat.lt_irrefl, hw1, hw, wrapS k (by omega), sn_upto, sn_from, slN_def, run_cap, rules, rules2, loopRules, Tryd.facts, base0, Int.toNat_zero, Nat.reduceAdd, Nat.reduceMul, Nat.reduceSub, Nat.reduceLT, Nat.reduceLeDiff, Nat.reduceEqDiff, Int.reduceLE, Int.reduceLT, Int.reduceToNat, Int.reduceNe, Int.reduceEq, not_false_eq_true, Nat.reduceBEq, Nat.reduceDiv, Int.natCast_zero, Int.natCast_one, Int.reduceAdd, Int.reduceSub, reduceIte, ↓reduceIte, Value.oneCell', rowI_length, rowI_take, rowI_splice, rep_all, row_zero, le_nat, Int.toNat_natCast, Nat.zero_add, sok_row, reduceCtorEq]
      exact ⟨by kernel_rfl, by omega, by rw [row_upto2]⟩
    · simp only [sn_upto, sn_from, slN_def, run_cap, rules, rules2, loopRules, Tryd.facts, base0, Int.toNat_zero, Nat.reduceAdd, Nat.reduceMul, Nat.reduceSub, Nat.reduceLT, Nat.reduceLeDiff, Nat.reduceEqDiff, Int.reduceLE, Int.reduceLT, Int.reduceToNat, Int.reduceNe, Int.reduceEq, not_false_eq_true, Nat.reduceBEq, Nat.reduceDiv, Int.natCast_zero, Int.natCast_one, Int.reduceAdd, Int.reduceSub, reduceIte, ↓reduceIte, Value.oneCell', rowI_length, rowI_take, rowI_splice, rep_all, row_zero, le_nat, Int.toNat_natCast, Nat.zero_add, sok_row, reduceCtorEq]
      refine vcIf_no (by decide) ?_
      have e : rowI .u64 16 (fun i => if i < 16 then timesW a b i else lowO a b 16 i) = rowI .u64 16 (timesW a b) := row_all
      simp only [e, sn_upto, sn_from, slN_def, run_cap, rules, rules2, loopRules, Tryd.facts, base0, Int.toNat_zero, Nat.reduceAdd, Nat.reduceMul, Nat.reduceSub, Nat.reduceLT, Nat.reduceLeDiff, Nat.reduceEqDiff, Int.reduceLE, Int.reduceLT, Int.reduceToNat, Int.reduceNe, Int.reduceEq, not_false_eq_true, Nat.reduceBEq, Nat.reduceDiv, Int.natCast_zero, Int.natCast_one, Int.reduceAdd, Int.reduceSub, reduceIte, ↓reduceIte, Value.oneCell', rowI_length, rowI_take, rowI_splice, rep_all, row_zero, le_nat, Int.toNat_natCast, Nat.zero_add, sok_row, reduceCtorEq]
      refine (tidy_fun _ (timesW_bd a b ha hb)).vcCall ?_
      simp only [sn_upto, sn_from, slN_def, run_cap, rules, rules2, loopRules, Tryd.facts, base0, Int.toNat_zero, Nat.reduceAdd, Nat.reduceMul, Nat.reduceSub, Nat.reduceLT, Nat.reduceLeDiff, Nat.reduceEqDiff, Int.reduceLE, Int.reduceLT, Int.reduceToNat, Int.reduceNe, Int.reduceEq, not_false_eq_true, Nat.reduceBEq, Nat.reduceDiv, Int.natCast_zero, Int.natCast_one, Int.reduceAdd, Int.reduceSub, reduceIte, ↓reduceIte, Value.oneCell', rowI_length, rowI_take, rowI_splice, rep_all, row_zero, le_nat, Int.toNat_natCast, Nat.zero_add, sok_row, reduceCtorEq]
      rfl
end Go.Proofs.YtlpckbkmmocaaaaDoor
