/-
  Words of the hash in the program: turning, the schedule of a block.
-/
import Derived.Test.YtlpckbkmmocaaaaDoorVcgFacts
import Derived.Test.YtlpckbkmmocaaaaDoorVcgZ1
set_option linter.unusedSimpArgs false
set_option linter.unusedVariables false
namespace Go.Proofs.YtlpckbkmmocaaaaDoor
open Go.Vcg
theorem turn_fun (x n : Int) (h0 : 0 ≤ n) (h1 : n ≤ 32) : Fun Tryd.prog 46 [I .u32 x, I .u64 n] (I .u32 (rotW x n)) := by
  have w : IntKind.u64.wrap (32 - n) = 32 - n := wrap_u64_in _ (by omega) (by omega)
  have c1 : (0 ≤ 32 - n) = True := eq_true (by omega)
  have c0 : (0 ≤ n) = True := eq_true h0
  refine fun_of_vc Tryd.func46 rfl (by kernel_rfl) (by simp [Tryd.ntmps46]) rfl rfl ?_
  simp only [Tryd.results46, sn_upto, sn_from, slN_def, run_cap, rules, rules2, loopRules, Tryd.facts, base0, Int.toNat_zero, Nat.reduceAdd, Nat.reduceMul, Nat.reduceSub, Nat.reduceLT, Nat.reduceLeDiff, Nat.reduceEqDiff, Int.reduceLE, Int.reduceLT, Int.reduceToNat, Int.reduceNe, Int.reduceEq, not_false_eq_true, Nat.reduceBEq, Nat.reduceDiv, Int.natCast_zero, Int.natCast_one, Int.reduceAdd, Int.reduceSub, reduceIte, ↓reduceIte, Value.oneCell', splice, reduceCtorEq]
  simp only [w, c0, c1, sn_upto, sn_from, slN_def, run_cap, rules, rules2, loopRules, Tryd.facts, base0, Int.toNat_zero, Nat.reduceAdd, Nat.reduceMul, Nat.reduceSub, Nat.reduceLT, Nat.reduceLeDiff, Nat.reduceEqDiff, Int.reduceLE, Int.reduceLT, Int.reduceToNat, Int.reduceNe, Int.reduceEq, not_false_eq_true, Nat.reduceBEq, Nat.reduceDiv, Int.natCast_zero, Int.natCast_one, Int.reduceAdd, Int.reduceSub, reduceIte, ↓reduceIte, Value.oneCell', splice, reduceCtorEq]
  exact rfl
theorem rotl_fun (x : Int) (n : Int) (h0 : 1 ≤ n) (h1 : n ≤ 31) : Fun Tryd.prog 70 [I .u32 x, I .i64 (-n)] (I .u32 (rotW x n)) := by
  have e : bitI .and .u64 (IntKind.u64.wrap (-n)) 31 = 32 - n := by
    rw [wrap_u64, show (31 : Int) = 2 ^ 5 - 1 from rfl, and_mask _ 5 (by omega) (by omega) (by decide)]; omega
  have w : IntKind.u64.wrap (32 - (32 - n)) = n := by rw [wrap_u64]; omega
  have c1 : (0 ≤ 32 - n) = True := eq_true (by omega)
  have c0 : (0 ≤ n) = True := eq_true (by omega)
  refine fun_of_vc Tryd.func70 rfl (by kernel_rfl) (by simp [Tryd.ntmps70]) rfl rfl ?_
  simp only [Tryd.results70, sn_upto, sn_from, slN_def, run_cap, rules, rules2, loopRules, Tryd.facts, base0, Int.toNat_zero, Nat.reduceAdd, Nat.reduceMul, Nat.reduceSub, Nat.reduceLT, Nat.reduceLeDiff, Nat.reduceEqDiff, Int.reduceLE, Int.reduceLT, Int.reduceToNat, Int.reduceNe, Int.reduceEq, not_false_eq_true, Nat.reduceBEq, Nat.reduceDiv, Int.natCast_zero, Int.natCast_one, Int.reduceAdd, Int.reduceSub, reduceIte, ↓reduceIte, Value.oneCell', splice, reduceCtorEq]
  simp only [e, w, c0, c1, sn_upto, sn_from, slN_def, run_cap, rules, rules2, loopRules, Tryd.facts, base0, Int.toNat_zero, Nat.reduceAdd, Nat.reduceMul, Nat.reduceSub, Nat.reduceLT, Nat.reduceLeDiff, Nat.reduceEqDiff, Int.reduceLE, Int.reduceLT, Int.reduceToNat, Int.reduceNe, Int.reduceEq, not_false_eq_true, Nat.reduceBEq, Nat.reduceDiv, Int.natCast_zero, Int.natCast_one, Int.reduceAdd, Int.reduceSub, reduceIte, ↓reduceIte, Value.oneCell', splice, reduceCtorEq]
  exact congrArg (I .u32) (or_comm' _ _ _)
theorem rotr_fun (x n : Int) (h0 : 1 ≤ n) (h1 : n ≤ 31) : Fun Tryd.prog 67 [I .u32 x, I .i64 n] (I .u32 (rotW x n)) := by
  have w : IntKind.i64.wrap (0 - n) = -n := by rw [wrap_i64 _ (by omega) (by omega)]; omega
  refine fun_of_vc Tryd.func67 rfl (by kernel_rfl) (by simp [Tryd.ntmps67]) rfl rfl ?_
  simp only [Tryd.results67, sn_upto, sn_from, slN_def, run_cap, rules, rules2, loopRules, Tryd.facts, base0, Int.toNat_zero, Nat.reduceAdd, Nat.reduceMul, Nat.reduceSub, Nat.reduceLT, Nat.reduceLeDiff, Nat.reduceEqDiff, Int.reduceLE, Int.reduceLT, Int.reduceToNat, Int.reduceNe, Int.reduceEq, not_false_eq_true, Nat.reduceBEq, Nat.reduceDiv, Int.natCast_zero, Int.natCast_one, Int.reduceAdd, Int.reduceSub, reduceIte, ↓reduceIte, Value.oneCell', splice, reduceCtorEq]
  simp only [w, sn_upto, sn_from, slN_def, run_cap, rules, rules2, loopRules, Tryd.facts, base0, Int.toNat_zero, Nat.reduceAdd, Nat.reduceMul, Nat.reduceSub, Nat.reduceLT, Nat.reduceLeDiff, Nat.reduceEqDiff, Int.reduceLE, Int.reduceLT, Int.reduceToNat, Int.reduceNe, Int.reduceEq, not_false_eq_true, Nat.reduceBEq, Nat.reduceDiv, Int.natCast_zero, Int.natCast_one, Int.reduceAdd, Int.reduceSub, reduceIte, ↓reduceIte, Value.oneCell', splice, reduceCtorEq]
  refine (rotl_fun x n h0 h1).vcCall ?_
  simp only [sn_upto, sn_from, slN_def, run_cap, rules, rules2, loopRules, Tryd.facts, base0, Int.toNat_zero, Nat.reduceAdd, Nat.reduceMul, Nat.reduceSub, Nat.reduceLT, Nat.reduceLeDiff, Nat.reduceEqDiff, Int.reduceLE, Int.reduceLT, Int.reduceToNat, Int.reduceNe, Int.reduceEq, not_false_eq_true, Nat.reduceBEq, Nat.reduceDiv, Int.natCast_zero, Int.natCast_one, Int.reduceAdd, Int.reduceSub, reduceIte, ↓reduceIte, Value.oneCell', splice, reduceCtorEq]
set_option maxHeartbeats 4000000 in
set_option maxRecDepth 20000 in
theorem wordsKey_fun (v : Nat → Int) : Fun Tryd.prog 42 [Ag (rowI .u32 8 v)] (Ag (rowI .u8 32 (outW v))) := by
  refine fun_of_vc Tryd.func42 rfl (by kernel_rfl) (by simp [Tryd.ntmps42]) rfl rfl ?_
  simp only [Tryd.results42, sn_upto, sn_from, slN_def, run_cap, rules, rules2, loopRules, Tryd.facts, base0, Int.toNat_zero, Nat.reduceAdd, Nat.reduceMul, Nat.reduceSub, Nat.reduceLT, Nat.reduceLeDiff, Nat.reduceEqDiff, Int.reduceLE, Int.reduceLT, Int.reduceToNat, Int.reduceNe, Int.reduceEq, not_false_eq_true, Nat.reduceBEq, Nat.reduceDiv, Int.natCast_zero, Int.natCast_one, Int.reduceAdd, Int.reduceSub, reduceIte, ↓reduceIte, Value.oneCell', rowI_length, rowI_take, rowI_splice, rep_all, row_zero, le_nat, Int.toNat_natCast, Nat.zero_add, sok_row, reduceCtorEq]
  refine loop_count 32 (fun k => [(2, Ptr 1 0), (1, Ptr 0 0), (3, Ptr 2 0), (5, I .i64 k)])
    (fun k => [(0, ⟨true, rowI .u32 8 v⟩), (1, ⟨true, rowI .u8 32 (fun _ => 0)⟩), (2, ⟨true, rowI .u8 32 (fun i => if i < k then outW v i else 0)⟩)]) _ ?_ ?_ ?_
  · simp only [Nat.not_lt_zero, if_false, sn_upto, sn_from, slN_def, run_cap, rules, rules2, loopRules, Tryd.facts, base0, Int.toNat_zero, Nat.reduceAdd, Nat.reduceMul, Nat.reduceSub, Nat.reduceLT, Nat.reduceLeDiff, Nat.reduceEqDiff, Int.reduceLE, Int.reduceLT, Int.reduceToNat, Int.reduceNe, Int.reduceEq, not_false_eq_true, Nat.reduceBEq, Nat.reduceDiv, Int.natCast_zero, Int.natCast_one, Int.reduceAdd, Int.reduceSub, reduceIte, ↓reduceIte, Value.oneCell', rowI_length, rowI_take, rowI_splice, rep_all, row_zero, le_nat, Int.toNat_natCast, Nat.zero_add, sok_row, reduceCtorEq]
  · intro j hj
    have a1 : (((j / 4 : Nat) : Int) < 8) = True := by simp; omega
    have a3 : ((j : Int) < 32) = True := lt_nat (m := 32) hj
    have q := quoN j 4 (by omega)
    have r := remN j 4
    rw [show ((4 : Nat) : Int) = 4 from rfl] at q r
    have w1 : IntKind.i64.wrap (((j % 4 : Nat) : Int) * 8) = 8 * ((j % 4 : Nat) : Int) := by rw [wrap_i64 _ (by omega) (by omega)]; omega
    have w2 : IntKind.i64.wrap (24 - 8 * ((j % 4 : Nat) : Int)) = 24 - 8 * ((j % 4 : Nat) : Int) := wrap_i64 _ (by omega) (by omega)
    have a2 : (0 ≤ 24 - 8 * ((j % 4 : Nat) : Int)) = True := eq_true (by omega)
    have fin : rowI .u8 32 (upd (fun i => if i < j then outW v i else 0) j (outW v j)) = rowI .u8 32 (fun i => if i < j + 1 then outW v i else 0) := row_upto
    have eo : IntKind.u8.wrap (shrI .u32 (v (j / 4)) (24 - 8 * ((j % 4 : Nat) : Int))) = outW v j := rfl
    simp only [sn_upto, sn_from, slN_def, run_cap, rules, rules2, loopRules, Tryd.facts, base0, Int.toNat_zero, Nat.reduceAdd, Nat.reduceMul, Nat.reduceSub, Nat.reduceLT, Nat.reduceLeDiff, Nat.reduceEqDiff, Int.reduceLE, Int.reduceLT, Int.reduceToNat, Int.reduceNe, Int.reduceEq, not_false_eq_true, Nat.reduceBEq, Nat.reduceDiv, Int.natCast_zero, Int.natCast_one, Int.reduceAdd, Int.reduceSub, reduceIte, ↓reduceIte, Value.oneCell', rowI_length, rowI_take, rowI_splice, rep_all, row_zero, le_nat, Int.toNat_natCast, Nat.zero_add, sok_row, reduceCtorEq]
    refine vcIf_yes (by simp; omega) ?_
    simp only [q, r, w1, w2, a1, a2, a3, nat_nn, rowI_get .u32 8 v (j / 4) (by omega), Nat.mul_one, eo, rowI_splice1 .u8 32 _ j hj, fin, wrapS j (by omega), sn_upto, sn_from, slN_def, run_cap, rules, rules2, loopRules, Tryd.facts, base0, Int.toNat_zero, Nat.reduceAdd, Nat.reduceMul, Nat.reduceSub, Nat.reduceLT, Nat.reduceLeDiff, Nat.reduceEqDiff, Int.reduceLE, Int.reduceLT, Int.reduceToNat, Int.reduceNe, Int.reduceEq, not_false_eq_true, Nat.reduceBEq, Nat.reduceDiv, Int.natCast_zero, Int.natCast_one, Int.reduceAdd, Int.reduceSub, reduceIte, ↓reduceIte, Value.oneCell', rowI_length, rowI_take, rowI_splice, rep_all, row_zero, le_nat, Int.toNat_natCast, Nat.zero_add, sok_row, reduceCtorEq]
    omega
  · simp only [sn_upto, sn_from, slN_def, run_cap, rules, rules2, loopRules, Tryd.facts, base0, Int.toNat_zero, Nat.reduceAdd, Nat.reduceMul, Nat.reduceSub, Nat.reduceLT, Nat.reduceLeDiff, Nat.reduceEqDiff, Int.reduceLE, Int.reduceLT, Int.reduceToNat, Int.reduceNe, Int.reduceEq, not_false_eq_true, Nat.reduceBEq, Nat.reduceDiv, Int.natCast_zero, Int.natCast_one, Int.reduceAdd, Int.reduceSub, reduceIte, ↓reduceIte, Value.oneCell', rowI_length, rowI_take, rowI_splice, rep_all, row_zero, le_nat, Int.toNat_natCast, Nat.zero_add, sok_row, reduceCtorEq]
    refine vcIf_no (by simp) ?_
    simp only [row_all, sn_upto, sn_from, slN_def, run_cap, rules, rules2, loopRules, Tryd.facts, base0, Int.toNat_zero, Nat.reduceAdd, Nat.reduceMul, Nat.reduceSub, Nat.reduceLT, Nat.reduceLeDiff, Nat.reduceEqDiff, Int.reduceLE, Int.reduceLT, Int.reduceToNat, Int.reduceNe, Int.reduceEq, not_false_eq_true, Nat.reduceBEq, Nat.reduceDiv, Int.natCast_zero, Int.natCast_one, Int.reduceAdd, Int.reduceSub, reduceIte, ↓reduceIte, Value.oneCell', rowI_length, rowI_take, rowI_splice, rep_all, row_zero, le_nat, Int.toNat_natCast, Nat.zero_add, sok_row, reduceCtorEq]
theorem word_m {n : Nat} {f : Nat → Int} {o c : Nat} {cs : List SV} (hf : Byt f) (hc : Shows cs o n f) (hp : cs.all SV.plain = true) (t : Nat) (ht : 4 * t + 4 ≤ n) (ht' : t < 16) :
    MFun Tryd.prog 45 [Sl 0 o n c, I .i64 ((4 * t : Nat) : Int)] 1 (lk [(0, ⟨false, cs⟩)]) (fun v out => v = I .u32 (wordW f t) ∧ out = fun _ => none) := by
  refine mfun_of_vc Tryd.func45 rfl (by kernel_rfl) (by simp [Tryd.ntmps45]) Tryd.callable45 (by simp [AV.ok, CV.ok, SV.names]) all1 (inn1 hp) ?_
  have a0 := hc (4 * t) (by omega)
  have a1 := hc (4 * t + 1) (by omega)
  have a2 := hc (4 * t + 2) (by omega)
  have a3 := hc (4 * t + 3) (by omega)
  have w1 : IntKind.i64.wrap (((4 * t : Nat) : Int) + 1) = ((4 * t + 1 : Nat) : Int) := wrap_i64 _ (by omega) (by omega)
  have w2 : IntKind.i64.wrap (((4 * t : Nat) : Int) + 2) = ((4 * t + 2 : Nat) : Int) := wrap_i64 _ (by omega) (by omega)
  have w3 : IntKind.i64.wrap (((4 * t : Nat) : Int) + 3) = ((4 * t + 3 : Nat) : Int) := wrap_i64 _ (by omega) (by omega)
  have w4 : IntKind.i64.wrap (((4 * t : Nat) : Int) + 4) = ((4 * t + 4 : Nat) : Int) := wrap_i64 _ (by omega) (by omega)
  have d1 : decide (((4 * t : Nat) : Int) < 0) = false := decide_eq_false (by omega)
  have d2 : decide ((n : Int) < ((4 * t + 4 : Nat) : Int)) = false := decide_eq_false (by omega)
  have l0 : (((4 * t : Nat) : Int) < (n : Int)) = True := eq_true (by omega)
  have l1 : (((4 * t + 1 : Nat) : Int) < (n : Int)) = True := eq_true (by omega)
  have l2 : (((4 * t + 2 : Nat) : Int) < (n : Int)) = True := eq_true (by omega)
  have l3 : (((4 * t + 3 : Nat) : Int) < (n : Int)) = True := eq_true (by omega)
  simp only [Tryd.results45, w1, w2, w3, w4, d1, d2, l0, l1, l2, l3, nat_nn, a0, a1, a2, a3, Nat.mul_one, sn_upto, sn_from, slN_def, run_cap, rules, rules2, loopRules, Tryd.facts, base0, Int.toNat_zero, Nat.reduceAdd, Nat.reduceMul, Nat.reduceSub, Nat.reduceLT, Nat.reduceLeDiff, Nat.reduceEqDiff, Int.reduceLE, Int.reduceLT, Int.reduceToNat, Int.reduceNe, Int.reduceEq, not_false_eq_true, Nat.reduceBEq, Nat.reduceDiv, Int.natCast_zero, Int.natCast_one, Int.reduceAdd, Int.reduceSub, reduceIte, ↓reduceIte, Value.oneCell', rowI_length, rowI_take, rowI_splice, rep_all, row_zero, le_nat, Int.toNat_natCast, Nat.zero_add, sok_row, reduceCtorEq]
  have e := wordW_sum hf t
  simp only [e, sn_upto, sn_from, slN_def, run_cap, rules, rules2, loopRules, Tryd.facts, base0, Int.toNat_zero, Nat.reduceAdd, Nat.reduceMul, Nat.reduceSub, Nat.reduceLT, Nat.reduceLeDiff, Nat.reduceEqDiff, Int.reduceLE, Int.reduceLT, Int.reduceToNat, Int.reduceNe, Int.reduceEq, not_false_eq_true, Nat.reduceBEq, Nat.reduceDiv, Int.natCast_zero, Int.natCast_one, Int.reduceAdd, Int.reduceSub, reduceIte, ↓reduceIte, Value.oneCell', rowI_length, rowI_take, rowI_splice, rep_all, row_zero, le_nat, Int.toNat_natCast, Nat.zero_add, sok_row, reduceCtorEq]
  exact ⟨by kernel_rfl, ret_plain rfl ⟨rfl, rfl⟩⟩
/-- The words of a block in the program: the first i bytes have been read in. -/
def inW (f : Nat → Int) (i t : Nat) : Int := if 4 * t + 4 ≤ i then wordW f t else if 4 * t ≤ i then preW f t (i - 4 * t) else 0
theorem inW_zero (f : Nat → Int) : ∀ t, inW f 0 t = 0 := fun t => by
  simp only [inW]; rw [if_neg (by omega)]
  split
  · rw [show 0 - 4 * t = 0 by omega]; rfl
  · rfl
theorem inW_at (f : Nat → Int) (i : Nat) : inW f i (i / 4) = preW f (i / 4) (i % 4) := by
  simp only [inW]; rw [if_neg (by omega), if_pos (by omega), show i - 4 * (i / 4) = i % 4 by omega]
theorem inW_step (f : Nat → Int) (i : Nat) : upd (inW f i) (i / 4) (preW f (i / 4) (i % 4 + 1)) = inW f (i + 1) := by
  funext t
  simp only [upd]
  split
  · rename_i e; subst e
    simp only [inW]
    by_cases h : 4 * (i / 4) + 4 ≤ i + 1
    · rw [if_pos h, show i % 4 + 1 = 4 by omega]; rfl
    · rw [if_neg h, if_pos (by omega), show i + 1 - 4 * (i / 4) = i % 4 + 1 by omega]
  · rename_i e
    simp only [inW]
    by_cases h : 4 * t + 4 ≤ i
    · rw [if_pos h, if_pos (by omega)]
    · rw [if_neg h, if_neg (show ¬ 4 * t ≤ i by omega), if_neg (show ¬ 4 * t + 4 ≤ i + 1 by omega)]
      by_cases h3 : 4 * t ≤ i + 1
      · rw [if_pos h3, show i + 1 - 4 * t = 0 by omega]; rfl
      · rw [if_neg h3]
theorem inW_all (f : Nat → Int) : rowI .u32 64 (inW f 64) = rowI .u32 64 (schF f 16) := rowI_congr fun t ht => by
  have : ∀ k, k ≤ 16 → schF f k t = if t < k then wordW f t else 0 := fun k => by
    induction k with
    | zero => intro _; rfl
    | succ k ih =>
      intro hk
      simp only [schF, upd]
      split
      · rename_i e; subst e; rw [if_pos (by omega), if_pos (by omega)]
      · rw [ih (by omega)]
        by_cases h : t < k
        · rw [if_pos h, if_pos (by omega)]
        · rw [if_neg h, if_neg (by omega)]
  rw [this 16 (Nat.le_refl _)]
  simp only [inW]
  by_cases h : t < 16
  · rw [if_pos (by omega), if_pos h]
  · rw [if_neg (by omega), if_neg h]
    split
    · rw [show 64 - 4 * t = 0 by omega]; rfl
    · rfl
set_option maxHeartbeats 8000000 in
set_option maxRecDepth 20000 in
theorem schedule_m {f : Nat → Int} {o c : Nat} {cs : List SV} (hf : Byt f) (hc : Shows cs o 64 f) (hp : cs.all SV.plain = true) :
    MFun Tryd.prog 57 [Sl 0 o 64 c] 1 (lk [(0, ⟨false, cs⟩)]) (fun v out => v = Ag (rowI .u32 64 (schA f)) ∧ out = fun _ => none) := by
  refine mfun_of_vc Tryd.func57 rfl (by kernel_rfl) (by simp [Tryd.ntmps57]) Tryd.callable57 (by simp [AV.ok, CV.ok, SV.names]) all1 (inn1 hp) ?_
  have ok1 : ∀ {M : Nat → Prop}, (∀ x ∈ cs, SV.ok M x) = True := eq_true (ok_all hp)
  simp only [Tryd.results57, sn_upto, sn_from, slN_def, run_cap, rules, rules2, loopRules, Tryd.facts, base0, Int.toNat_zero, Nat.reduceAdd, Nat.reduceMul, Nat.reduceSub, Nat.reduceLT, Nat.reduceLeDiff, Nat.reduceEqDiff, Int.reduceLE, Int.reduceLT, Int.reduceToNat, Int.reduceNe, Int.reduceEq, not_false_eq_true, Nat.reduceBEq, Nat.reduceDiv, Int.natCast_zero, Int.natCast_one, Int.reduceAdd, Int.reduceSub, reduceIte, ↓reduceIte, Value.oneCell', rowI_length, rowI_take, rowI_splice, rep_all, row_zero, le_nat, Int.toNat_natCast, Nat.zero_add, sok_row, reduceCtorEq]
  refine loop_count 64 (fun k => [(2, Ptr 1 0), (3, Ptr 2 0), (9, Sl 0 o 64 c), (10, I .i64 64), (11, I .i64 k)])
    (fun k => [(0, ⟨false, cs⟩), (1, ⟨true, rowI .u32 64 (fun _ => 0)⟩), (2, ⟨true, rowI .u32 64 (inW f k)⟩)]) _ ?_ ?_ ?_
  · simp only [ok1, sn_upto, sn_from, slN_def, run_cap, rules, rules2, loopRules, Tryd.facts, base0, Int.toNat_zero, Nat.reduceAdd, Nat.reduceMul, Nat.reduceSub, Nat.reduceLT, Nat.reduceLeDiff, Nat.reduceEqDiff, Int.reduceLE, Int.reduceLT, Int.reduceToNat, Int.reduceNe, Int.reduceEq, not_false_eq_true, Nat.reduceBEq, Nat.reduceDiv, Int.natCast_zero, Int.natCast_one, Int.reduceAdd, Int.reduceSub, reduceIte, ↓reduceIte, Value.oneCell', rowI_length, rowI_take, rowI_splice, rep_all, row_zero, le_nat, Int.toNat_natCast, Nat.zero_add, sok_row, reduceCtorEq]
    exact congrArg (fun c => some (Box.mk true c)) (rowI_congr fun i _ => (inW_zero f i).symm)
  · intro j hj
    have a1 : (((j / 4 : Nat) : Int) < 64) = True := by simp; omega
    have a3 : ((j : Int) < 64) = True := lt_nat (m := 64) hj
    have q := quoN j 4 (by omega)
    rw [show ((4 : Nat) : Int) = 4 from rfl] at q
    have st := preW_step hf (j / 4) (j % 4) (by omega)
    rw [show 4 * (j / 4) + j % 4 = j by omega] at st
    simp only [sn_upto, sn_from, slN_def, run_cap, rules, rules2, loopRules, Tryd.facts, base0, Int.toNat_zero, Nat.reduceAdd, Nat.reduceMul, Nat.reduceSub, Nat.reduceLT, Nat.reduceLeDiff, Nat.reduceEqDiff, Int.reduceLE, Int.reduceLT, Int.reduceToNat, Int.reduceNe, Int.reduceEq, not_false_eq_true, Nat.reduceBEq, Nat.reduceDiv, Int.natCast_zero, Int.natCast_one, Int.reduceAdd, Int.reduceSub, reduceIte, ↓reduceIte, Value.oneCell', rowI_length, rowI_take, rowI_splice, rep_all, row_zero, le_nat, Int.toNat_natCast, Nat.zero_add, sok_row, reduceCtorEq]
    refine vcIf_yes (by simp; omega) ?_
    simp only [q, a1, a3, nat_nn, hc j hj, rowI_get .u32 64 _ (j / 4) (show j / 4 < 64 by omega), inW_at, st, Nat.mul_one, rowI_splice1 .u32 64 _ (j / 4) (show j / 4 < 64 by omega), inW_step, wrapS j (by omega), sn_upto, sn_from, slN_def, run_cap, rules, rules2, loopRules, Tryd.facts, base0, Int.toNat_zero, Nat.reduceAdd, Nat.reduceMul, Nat.reduceSub, Nat.reduceLT, Nat.reduceLeDiff, Nat.reduceEqDiff, Int.reduceLE, Int.reduceLT, Int.reduceToNat, Int.reduceNe, Int.reduceEq, not_false_eq_true, Nat.reduceBEq, Nat.reduceDiv, Int.natCast_zero, Int.natCast_one, Int.reduceAdd, Int.reduceSub, reduceIte, ↓reduceIte, Value.oneCell', rowI_length, rowI_take, rowI_splice, rep_all, row_zero, le_nat, Int.toNat_natCast, Nat.zero_add, sok_row, reduceCtorEq]
    exact ⟨by omega, ok_all hp⟩
  · simp only [sn_upto, sn_from, slN_def, run_cap, rules, rules2, loopRules, Tryd.facts, base0, Int.toNat_zero, Nat.reduceAdd, Nat.reduceMul, Nat.reduceSub, Nat.reduceLT, Nat.reduceLeDiff, Nat.reduceEqDiff, Int.reduceLE, Int.reduceLT, Int.reduceToNat, Int.reduceNe, Int.reduceEq, not_false_eq_true, Nat.reduceBEq, Nat.reduceDiv, Int.natCast_zero, Int.natCast_one, Int.reduceAdd, Int.reduceSub, reduceIte, ↓reduceIte, Value.oneCell', rowI_length, rowI_take, rowI_splice, rep_all, row_zero, le_nat, Int.toNat_natCast, Nat.zero_add, sok_row, reduceCtorEq]
    refine vcIf_no (by simp) ?_
    simp only [inW_all, sn_upto, sn_from, slN_def, run_cap, rules, rules2, loopRules, Tryd.facts, base0, Int.toNat_zero, Nat.reduceAdd, Nat.reduceMul, Nat.reduceSub, Nat.reduceLT, Nat.reduceLeDiff, Nat.reduceEqDiff, Int.reduceLE, Int.reduceLT, Int.reduceToNat, Int.reduceNe, Int.reduceEq, not_false_eq_true, Nat.reduceBEq, Nat.reduceDiv, Int.natCast_zero, Int.natCast_one, Int.reduceAdd, Int.reduceSub, reduceIte, ↓reduceIte, Value.oneCell', rowI_length, rowI_take, rowI_splice, rep_all, row_zero, le_nat, Int.toNat_natCast, Nat.zero_add, sok_row, reduceCtorEq]
    refine loop_count 48 (fun k => [(2, Ptr 1 0), (3, Ptr 2 0), (6, I .i64 ((16 + k : Nat) : Int))])
      (fun k => [(1, ⟨true, rowI .u32 64 (fun _ => 0)⟩), (2, ⟨true, rowI .u32 64 (schF f (16 + k))⟩)]) _ ?_ ?_ ?_
    · simp only [sn_upto, sn_from, slN_def, run_cap, rules, rules2, loopRules, Tryd.facts, base0, Int.toNat_zero, Nat.reduceAdd, Nat.reduceMul, Nat.reduceSub, Nat.reduceLT, Nat.reduceLeDiff, Nat.reduceEqDiff, Int.reduceLE, Int.reduceLT, Int.reduceToNat, Int.reduceNe, Int.reduceEq, not_false_eq_true, Nat.reduceBEq, Nat.reduceDiv, Int.natCast_zero, Int.natCast_one, Int.reduceAdd, Int.reduceSub, reduceIte, ↓reduceIte, Value.oneCell', rowI_length, rowI_take, rowI_splice, rep_all, row_zero, le_nat, Int.toNat_natCast, Nat.zero_add, sok_row, reduceCtorEq]
    · intro k hk
      have w15 : IntKind.i64.wrap (((16 + k : Nat) : Int) - 15) = ((16 + k - 15 : Nat) : Int) := by rw [wrap_i64 _ (by omega) (by omega)]; omega
      have w2 : IntKind.i64.wrap (((16 + k : Nat) : Int) - 2) = ((16 + k - 2 : Nat) : Int) := by rw [wrap_i64 _ (by omega) (by omega)]; omega
      have w7 : IntKind.i64.wrap (((16 + k : Nat) : Int) - 7) = ((16 + k - 7 : Nat) : Int) := by rw [wrap_i64 _ (by omega) (by omega)]; omega
      have w16 : IntKind.i64.wrap (((16 + k : Nat) : Int) - 16) = ((16 + k - 16 : Nat) : Int) := by rw [wrap_i64 _ (by omega) (by omega)]; omega
      have l15 : (((16 + k - 15 : Nat) : Int) < 64) = True := eq_true (by omega)
      have l2 : (((16 + k - 2 : Nat) : Int) < 64) = True := eq_true (by omega)
      have l7 : (((16 + k - 7 : Nat) : Int) < 64) = True := eq_true (by omega)
      have l16 : (((16 + k - 16 : Nat) : Int) < 64) = True := eq_true (by omega)
      have l0 : (((16 + k : Nat) : Int) < 64) = True := eq_true (by omega)
      have g : ∀ i, i < 64 → (rowI .u32 64 (schF f (16 + k)))[i]? = some (Sum.inl (.int .u32 (schF f (16 + k) i))) := fun i hi => rowI_get .u32 64 _ i hi
      simp only [sn_upto, sn_from, slN_def, run_cap, rules, rules2, loopRules, Tryd.facts, base0, Int.toNat_zero, Nat.reduceAdd, Nat.reduceMul, Nat.reduceSub, Nat.reduceLT, Nat.reduceLeDiff, Nat.reduceEqDiff, Int.reduceLE, Int.reduceLT, Int.reduceToNat, Int.reduceNe, Int.reduceEq, not_false_eq_true, Nat.reduceBEq, Nat.reduceDiv, Int.natCast_zero, Int.natCast_one, Int.reduceAdd, Int.reduceSub, reduceIte, ↓reduceIte, Value.oneCell', rowI_length, rowI_take, rowI_splice, rep_all, row_zero, le_nat, Int.toNat_natCast, Nat.zero_add, sok_row, reduceCtorEq]
      refine vcIf_yes (by simp; omega) ?_
      simp only [w15, w2, w7, w16, l15, l2, l7, l16, l0, nat_nn, g _ (show 16 + k - 15 < 64 by omega), g _ (show 16 + k - 2 < 64 by omega), g _ (show 16 + k - 7 < 64 by omega), g _ (show 16 + k - 16 < 64 by omega), Nat.mul_one, sn_upto, sn_from, slN_def, run_cap, rules, rules2, loopRules, Tryd.facts, base0, Int.toNat_zero, Nat.reduceAdd, Nat.reduceMul, Nat.reduceSub, Nat.reduceLT, Nat.reduceLeDiff, Nat.reduceEqDiff, Int.reduceLE, Int.reduceLT, Int.reduceToNat, Int.reduceNe, Int.reduceEq, not_false_eq_true, Nat.reduceBEq, Nat.reduceDiv, Int.natCast_zero, Int.natCast_one, Int.reduceAdd, Int.reduceSub, reduceIte, ↓reduceIte, Value.oneCell', rowI_length, rowI_take, rowI_splice, rep_all, row_zero, le_nat, Int.toNat_natCast, Nat.zero_add, sok_row, reduceCtorEq]
      refine ⟨by kernel_rfl, Fun.draw (rotr_fun _ 7 (by decide) (by decide)) Tryd.callable67 ?_⟩
      simp only [w15, w2, w7, w16, l15, l2, l7, l16, l0, nat_nn, g _ (show 16 + k - 15 < 64 by omega), g _ (show 16 + k - 2 < 64 by omega), g _ (show 16 + k - 7 < 64 by omega), g _ (show 16 + k - 16 < 64 by omega), Nat.mul_one, sn_upto, sn_from, slN_def, run_cap, rules, rules2, loopRules, Tryd.facts, base0, Int.toNat_zero, Nat.reduceAdd, Nat.reduceMul, Nat.reduceSub, Nat.reduceLT, Nat.reduceLeDiff, Nat.reduceEqDiff, Int.reduceLE, Int.reduceLT, Int.reduceToNat, Int.reduceNe, Int.reduceEq, not_false_eq_true, Nat.reduceBEq, Nat.reduceDiv, Int.natCast_zero, Int.natCast_one, Int.reduceAdd, Int.reduceSub, reduceIte, ↓reduceIte, Value.oneCell', rowI_length, rowI_take, rowI_splice, rep_all, row_zero, le_nat, Int.toNat_natCast, Nat.zero_add, sok_row, reduceCtorEq]
      refine Fun.draw (rotr_fun _ 18 (by decide) (by decide)) Tryd.callable67 ?_
      simp only [w15, w2, w7, w16, l15, l2, l7, l16, l0, nat_nn, g _ (show 16 + k - 15 < 64 by omega), g _ (show 16 + k - 2 < 64 by omega), g _ (show 16 + k - 7 < 64 by omega), g _ (show 16 + k - 16 < 64 by omega), Nat.mul_one, sn_upto, sn_from, slN_def, run_cap, rules, rules2, loopRules, Tryd.facts, base0, Int.toNat_zero, Nat.reduceAdd, Nat.reduceMul, Nat.reduceSub, Nat.reduceLT, Nat.reduceLeDiff, Nat.reduceEqDiff, Int.reduceLE, Int.reduceLT, Int.reduceToNat, Int.reduceNe, Int.reduceEq, not_false_eq_true, Nat.reduceBEq, Nat.reduceDiv, Int.natCast_zero, Int.natCast_one, Int.reduceAdd, Int.reduceSub, reduceIte, ↓reduceIte, Value.oneCell', rowI_length, rowI_take, rowI_splice, rep_all, row_zero, le_nat, Int.toNat_natCast, Nat.zero_add, sok_row, reduceCtorEq]
      refine ⟨by kernel_rfl, Fun.draw (rotr_fun _ 17 (by decide) (by decide)) Tryd.callable67 ?_⟩
      simp only [w15, w2, w7, w16, l15, l2, l7, l16, l0, nat_nn, g _ (show 16 + k - 15 < 64 by omega), g _ (show 16 + k - 2 < 64 by omega), g _ (show 16 + k - 7 < 64 by omega), g _ (show 16 + k - 16 < 64 by omega), Nat.mul_one, sn_upto, sn_from, slN_def, run_cap, rules, rules2, loopRules, Tryd.facts, base0, Int.toNat_zero, Nat.reduceAdd, Nat.reduceMul, Nat.reduceSub, Nat.reduceLT, Nat.reduceLeDiff, Nat.reduceEqDiff, Int.reduceLE, Int.reduceLT, Int.reduceToNat, Int.reduceNe, Int.reduceEq, not_false_eq_true, Nat.reduceBEq, Nat.reduceDiv, Int.natCast_zero, Int.natCast_one, Int.reduceAdd, Int.reduceSub, reduceIte, ↓reduceIte, Value.oneCell', rowI_length, rowI_take, rowI_splice, rep_all, row_zero, le_nat, Int.toNat_natCast, Nat.zero_add, sok_row, reduceCtorEq]
      refine Fun.draw (rotr_fun _ 19 (by decide) (by decide)) Tryd.callable67 ?_
      simp only [w15, w2, w7, w16, l15, l2, l7, l16, l0, nat_nn, g _ (show 16 + k - 15 < 64 by omega), g _ (show 16 + k - 2 < 64 by omega), g _ (show 16 + k - 7 < 64 by omega), g _ (show 16 + k - 16 < 64 by omega), Nat.mul_one, sn_upto, sn_from, slN_def, run_cap, rules, rules2, loopRules, Tryd.facts, base0, Int.toNat_zero, Nat.reduceAdd, Nat.reduceMul, Nat.reduceSub, Nat.reduceLT, Nat.reduceLeDiff, Nat.reduceEqDiff, Int.reduceLE, Int.reduceLT, Int.reduceToNat, Int.reduceNe, Int.reduceEq, not_false_eq_true, Nat.reduceBEq, Nat.reduceDiv, Int.natCast_zero, Int.natCast_one, Int.reduceAdd, Int.reduceSub, reduceIte, ↓reduceIte, Value.oneCell', rowI_length, rowI_take, rowI_splice, rep_all, row_zero, le_nat, Int.toNat_natCast, Nat.zero_add, sok_row, reduceCtorEq]
      refine ⟨by kernel_rfl, by omega, congrArg (fun z => some (I .i64 z)) (wrapS (16 + k) (by omega)), ?_⟩
      have e : schF f (16 + (k + 1)) = upd (schF f (16 + k)) (16 + k) (nextW (schF f (16 + k)) (16 + k)) := by
        show upd (schF f (16 + k)) (16 + k) (if 16 + k < 16 then _ else _) = _
        rw [if_neg (by omega)]; rfl
      rw [e, ← rowI_splice1 .u32 64 _ _ (by omega)]
      rfl
    · simp only [sn_upto, sn_from, slN_def, run_cap, rules, rules2, loopRules, Tryd.facts, base0, Int.toNat_zero, Nat.reduceAdd, Nat.reduceMul, Nat.reduceSub, Nat.reduceLT, Nat.reduceLeDiff, Nat.reduceEqDiff, Int.reduceLE, Int.reduceLT, Int.reduceToNat, Int.reduceNe, Int.reduceEq, not_false_eq_true, Nat.reduceBEq, Nat.reduceDiv, Int.natCast_zero, Int.natCast_one, Int.reduceAdd, Int.reduceSub, reduceIte, ↓reduceIte, Value.oneCell', rowI_length, rowI_take, rowI_splice, rep_all, row_zero, le_nat, Int.toNat_natCast, Nat.zero_add, sok_row, reduceCtorEq]
      refine vcIf_no (by simp) ?_
      simp only [sn_upto, sn_from, slN_def, run_cap, rules, rules2, loopRules, Tryd.facts, base0, Int.toNat_zero, Nat.reduceAdd, Nat.reduceMul, Nat.reduceSub, Nat.reduceLT, Nat.reduceLeDiff, Nat.reduceEqDiff, Int.reduceLE, Int.reduceLT, Int.reduceToNat, Int.reduceNe, Int.reduceEq, not_false_eq_true, Nat.reduceBEq, Nat.reduceDiv, Int.natCast_zero, Int.natCast_one, Int.reduceAdd, Int.reduceSub, reduceIte, ↓reduceIte, Value.oneCell', rowI_length, rowI_take, rowI_splice, rep_all, row_zero, le_nat, Int.toNat_natCast, Nat.zero_add, sok_row, reduceCtorEq]
      exact ret_plain plainI ⟨rfl, rfl⟩
theorem zero8 : [Sum.inl (Value.int IntKind.u32 0), Sum.inl (Value.int IntKind.u32 0), Sum.inl (Value.int IntKind.u32 0), Sum.inl (Value.int IntKind.u32 0), Sum.inl (Value.int IntKind.u32 0), Sum.inl (Value.int IntKind.u32 0), Sum.inl (Value.int IntKind.u32 0), Sum.inl (Value.int IntKind.u32 0)] = rowI .u32 8 (fun _ => 0) := rfl
set_option maxHeartbeats 8000000 in
set_option maxRecDepth 20000 in
theorem compressed_fun (v w : Nat → Int) (hv : U32 v) : Fun Tryd.prog 56 [Ag (rowI .u32 8 v), Ag (rowI .u32 64 w)] (Ag (rowI .u32 8 (fun i => IntKind.u32.wrap (v i + rounds kW v w 64 i)))) := by
  refine fun_of_vc Tryd.func56 rfl (by kernel_rfl) (by simp [Tryd.ntmps56]) rfl rfl ?_
  have g : ∀ i, i < 8 → (rowI .u32 8 v)[i]? = some (Sum.inl (.int .u32 (v i))) := fun i hi => rowI_get .u32 8 _ i hi
  simp only [Tryd.results56, g 0 (by decide), g 1 (by decide), g 2 (by decide), g 3 (by decide), g 4 (by decide), g 5 (by decide), g 6 (by decide), g 7 (by decide), sn_upto, sn_from, slN_def, run_cap, rules, rules2, loopRules, Tryd.facts, base0, Int.toNat_zero, Nat.reduceAdd, Nat.reduceMul, Nat.reduceSub, Nat.reduceLT, Nat.reduceLeDiff, Nat.reduceEqDiff, Int.reduceLE, Int.reduceLT, Int.reduceToNat, Int.reduceNe, Int.reduceEq, not_false_eq_true, Nat.reduceBEq, Nat.reduceDiv, Int.natCast_zero, Int.natCast_one, Int.reduceAdd, Int.reduceSub, reduceIte, ↓reduceIte, Value.oneCell', rowI_length, rowI_take, rowI_splice, rep_all, row_zero, le_nat, Int.toNat_natCast, Nat.zero_add, sok_row, reduceCtorEq]
  refine ⟨by kernel_rfl, by kernel_rfl, ?_⟩
  refine loop_count 64 (fun k => [(2, Ptr 0 0), (3, Ptr 1 0), (4, Ptr 2 0), (5, I .u32 (rounds kW v w k 0)), (6, I .u32 (rounds kW v w k 1)), (7, I .u32 (rounds kW v w k 2)), (8, I .u32 (rounds kW v w k 3)), (9, I .u32 (rounds kW v w k 4)), (10, I .u32 (rounds kW v w k 5)), (11, I .u32 (rounds kW v w k 6)), (12, I .u32 (rounds kW v w k 7)), (36, I .i64 k)])
    (fun k => [(0, ⟨true, rowI .u32 8 v⟩), (1, ⟨true, rowI .u32 64 w⟩), (2, ⟨true, rowI .u32 8 (fun _ => 0)⟩)]) _ ?_ ?_ ?_
  · simp only [rounds, zero8, sn_upto, sn_from, slN_def, run_cap, rules, rules2, loopRules, Tryd.facts, base0, Int.toNat_zero, Nat.reduceAdd, Nat.reduceMul, Nat.reduceSub, Nat.reduceLT, Nat.reduceLeDiff, Nat.reduceEqDiff, Int.reduceLE, Int.reduceLT, Int.reduceToNat, Int.reduceNe, Int.reduceEq, not_false_eq_true, Nat.reduceBEq, Nat.reduceDiv, Int.natCast_zero, Int.natCast_one, Int.reduceAdd, Int.reduceSub, reduceIte, ↓reduceIte, Value.oneCell', rowI_length, rowI_take, rowI_splice, rep_all, row_zero, le_nat, Int.toNat_natCast, Nat.zero_add, sok_row, reduceCtorEq]
  · intro k hk
    have hr := rounds_bd (K := kW) (w := w) hv k
    have a3 : ((k : Int) < 64) = True := lt_nat (m := 64) hk
    have e : ∀ i, rounds kW v w (k + 1) i = rndW (rounds kW v w k) (kW k) (w k) i := fun i => rfl
    have n4 := not_u32 _ (hr 4).1 (hr 4).2
    generalize rounds kW v w k = r at *
    simp only [sn_upto, sn_from, slN_def, run_cap, rules, rules2, loopRules, Tryd.facts, base0, Int.toNat_zero, Nat.reduceAdd, Nat.reduceMul, Nat.reduceSub, Nat.reduceLT, Nat.reduceLeDiff, Nat.reduceEqDiff, Int.reduceLE, Int.reduceLT, Int.reduceToNat, Int.reduceNe, Int.reduceEq, not_false_eq_true, Nat.reduceBEq, Nat.reduceDiv, Int.natCast_zero, Int.natCast_one, Int.reduceAdd, Int.reduceSub, reduceIte, ↓reduceIte, Value.oneCell', rowI_length, rowI_take, rowI_splice, rep_all, row_zero, le_nat, Int.toNat_natCast, Nat.zero_add, sok_row, reduceCtorEq]
    refine vcIf_yes (by simp; omega) ?_
    simp only [a3, nat_nn, rowI_get .u32 64 w k hk, Nat.mul_one, sn_upto, sn_from, slN_def, run_cap, rules, rules2, loopRules, Tryd.facts, base0, Int.toNat_zero, Nat.reduceAdd, Nat.reduceMul, Nat.reduceSub, Nat.reduceLT, Nat.reduceLeDiff, Nat.reduceEqDiff, Int.reduceLE, Int.reduceLT, Int.reduceToNat, Int.reduceNe, Int.reduceEq, not_false_eq_true, Nat.reduceBEq, Nat.reduceDiv, Int.natCast_zero, Int.natCast_one, Int.reduceAdd, Int.reduceSub, reduceIte, ↓reduceIte, Value.oneCell', rowI_length, rowI_take, rowI_splice, rep_all, row_zero, le_nat, Int.toNat_natCast, Nat.zero_add, sok_row, reduceCtorEq]
    refine (rotr_fun _ 6 (by decide) (by decide)).vcCall ?_
    simp only [sn_upto, sn_from, slN_def, run_cap, rules, rules2, loopRules, Tryd.facts, base0, Int.toNat_zero, Nat.reduceAdd, Nat.reduceMul, Nat.reduceSub, Nat.reduceLT, Nat.reduceLeDiff, Nat.reduceEqDiff, Int.reduceLE, Int.reduceLT, Int.reduceToNat, Int.reduceNe, Int.reduceEq, not_false_eq_true, Nat.reduceBEq, Nat.reduceDiv, Int.natCast_zero, Int.natCast_one, Int.reduceAdd, Int.reduceSub, reduceIte, ↓reduceIte, Value.oneCell', rowI_length, rowI_take, rowI_splice, rep_all, row_zero, le_nat, Int.toNat_natCast, Nat.zero_add, sok_row, reduceCtorEq]
    refine (rotr_fun _ 11 (by decide) (by decide)).vcCall ?_
    simp only [sn_upto, sn_from, slN_def, run_cap, rules, rules2, loopRules, Tryd.facts, base0, Int.toNat_zero, Nat.reduceAdd, Nat.reduceMul, Nat.reduceSub, Nat.reduceLT, Nat.reduceLeDiff, Nat.reduceEqDiff, Int.reduceLE, Int.reduceLT, Int.reduceToNat, Int.reduceNe, Int.reduceEq, not_false_eq_true, Nat.reduceBEq, Nat.reduceDiv, Int.natCast_zero, Int.natCast_one, Int.reduceAdd, Int.reduceSub, reduceIte, ↓reduceIte, Value.oneCell', rowI_length, rowI_take, rowI_splice, rep_all, row_zero, le_nat, Int.toNat_natCast, Nat.zero_add, sok_row, reduceCtorEq]
    refine (rotr_fun _ 25 (by decide) (by decide)).vcCall ?_
    simp only [a3, nat_nn, rowI_get .u32 64 w k hk, rowI_get .u32 64 kW k hk, Nat.mul_one, sn_upto, sn_from, slN_def, run_cap, rules, rules2, loopRules, Tryd.facts, base0, Int.toNat_zero, Nat.reduceAdd, Nat.reduceMul, Nat.reduceSub, Nat.reduceLT, Nat.reduceLeDiff, Nat.reduceEqDiff, Int.reduceLE, Int.reduceLT, Int.reduceToNat, Int.reduceNe, Int.reduceEq, not_false_eq_true, Nat.reduceBEq, Nat.reduceDiv, Int.natCast_zero, Int.natCast_one, Int.reduceAdd, Int.reduceSub, reduceIte, ↓reduceIte, Value.oneCell', rowI_length, rowI_take, rowI_splice, rep_all, row_zero, le_nat, Int.toNat_natCast, Nat.zero_add, sok_row, reduceCtorEq]
    refine ⟨by kernel_rfl, ?_⟩
    refine (rotr_fun _ 2 (by decide) (by decide)).vcCall ?_
    simp only [sn_upto, sn_from, slN_def, run_cap, rules, rules2, loopRules, Tryd.facts, base0, Int.toNat_zero, Nat.reduceAdd, Nat.reduceMul, Nat.reduceSub, Nat.reduceLT, Nat.reduceLeDiff, Nat.reduceEqDiff, Int.reduceLE, Int.reduceLT, Int.reduceToNat, Int.reduceNe, Int.reduceEq, not_false_eq_true, Nat.reduceBEq, Nat.reduceDiv, Int.natCast_zero, Int.natCast_one, Int.reduceAdd, Int.reduceSub, reduceIte, ↓reduceIte, Value.oneCell', rowI_length, rowI_take, rowI_splice, rep_all, row_zero, le_nat, Int.toNat_natCast, Nat.zero_add, sok_row, reduceCtorEq]
    refine (rotr_fun _ 13 (by decide) (by decide)).vcCall ?_
    simp only [sn_upto, sn_from, slN_def, run_cap, rules, rules2, loopRules, Tryd.facts, base0, Int.toNat_zero, Nat.reduceAdd, Nat.reduceMul, Nat.reduceSub, Nat.reduceLT, Nat.reduceLeDiff, Nat.reduceEqDiff, Int.reduceLE, Int.reduceLT, Int.reduceToNat, Int.reduceNe, Int.reduceEq, not_false_eq_true, Nat.reduceBEq, Nat.reduceDiv, Int.natCast_zero, Int.natCast_one, Int.reduceAdd, Int.reduceSub, reduceIte, ↓reduceIte, Value.oneCell', rowI_length, rowI_take, rowI_splice, rep_all, row_zero, le_nat, Int.toNat_natCast, Nat.zero_add, sok_row, reduceCtorEq]
    refine (rotr_fun _ 22 (by decide) (by decide)).vcCall ?_
    simp only [sn_upto, sn_from, slN_def, run_cap, rules, rules2, loopRules, Tryd.facts, base0, Int.toNat_zero, Nat.reduceAdd, Nat.reduceMul, Nat.reduceSub, Nat.reduceLT, Nat.reduceLeDiff, Nat.reduceEqDiff, Int.reduceLE, Int.reduceLT, Int.reduceToNat, Int.reduceNe, Int.reduceEq, not_false_eq_true, Nat.reduceBEq, Nat.reduceDiv, Int.natCast_zero, Int.natCast_one, Int.reduceAdd, Int.reduceSub, reduceIte, ↓reduceIte, Value.oneCell', rowI_length, rowI_take, rowI_splice, rep_all, row_zero, le_nat, Int.toNat_natCast, Nat.zero_add, sok_row, reduceCtorEq]
    have emax : (if IntKind.u32.signed = true then -1 else IntKind.u32.max) = 4294967295 := rfl
    simp only [e, wrapS k (by omega), emax, n4, and_true]
    exact ⟨rfl, rfl, rfl, rfl, rfl, rfl, rfl, rfl⟩
  · simp only [sn_upto, sn_from, slN_def, run_cap, rules, rules2, loopRules, Tryd.facts, base0, Int.toNat_zero, Nat.reduceAdd, Nat.reduceMul, Nat.reduceSub, Nat.reduceLT, Nat.reduceLeDiff, Nat.reduceEqDiff, Int.reduceLE, Int.reduceLT, Int.reduceToNat, Int.reduceNe, Int.reduceEq, not_false_eq_true, Nat.reduceBEq, Nat.reduceDiv, Int.natCast_zero, Int.natCast_one, Int.reduceAdd, Int.reduceSub, reduceIte, ↓reduceIte, Value.oneCell', rowI_length, rowI_take, rowI_splice, rep_all, row_zero, le_nat, Int.toNat_natCast, Nat.zero_add, sok_row, reduceCtorEq]
    refine vcIf_no (by simp) ?_
    simp only [sn_upto, sn_from, slN_def, run_cap, rules, rules2, loopRules, Tryd.facts, base0, Int.toNat_zero, Nat.reduceAdd, Nat.reduceMul, Nat.reduceSub, Nat.reduceLT, Nat.reduceLeDiff, Nat.reduceEqDiff, Int.reduceLE, Int.reduceLT, Int.reduceToNat, Int.reduceNe, Int.reduceEq, not_false_eq_true, Nat.reduceBEq, Nat.reduceDiv, Int.natCast_zero, Int.natCast_one, Int.reduceAdd, Int.reduceSub, reduceIte, ↓reduceIte, Value.oneCell', splice, reduceCtorEq]
    generalize rounds kW v w 64 = r at *
    refine loop_count 8 (fun k => [(2, Ptr 0 0), (4, Ptr 2 0), (109, Ag (rowI .u32 8 r)), (110, I .i64 k)])
      (fun k => [(0, ⟨true, rowI .u32 8 (fun i => if i < k then IntKind.u32.wrap (v i + r i) else v i)⟩), (2, ⟨true, rowI .u32 8 (fun _ => 0)⟩)]) _ ?_ ?_ ?_
    · simp only [row_none, sn_upto, sn_from, slN_def, run_cap, rules, rules2, loopRules, Tryd.facts, base0, Int.toNat_zero, Nat.reduceAdd, Nat.reduceMul, Nat.reduceSub, Nat.reduceLT, Nat.reduceLeDiff, Nat.reduceEqDiff, Int.reduceLE, Int.reduceLT, Int.reduceToNat, Int.reduceNe, Int.reduceEq, not_false_eq_true, Nat.reduceBEq, Nat.reduceDiv, Int.natCast_zero, Int.natCast_one, Int.reduceAdd, Int.reduceSub, reduceIte, ↓reduceIte, Value.oneCell', rowI_length, rowI_take, rowI_splice, rep_all, row_zero, le_nat, Int.toNat_natCast, Nat.zero_add, sok_row, reduceCtorEq]
      rfl
    · intro k hk
      have a3 : ((k : Int) < 8) = True := lt_nat (m := 8) hk
      have hf : (if k < k then IntKind.u32.wrap (v k + r k) else v k) = v k := if_neg (Nat.lt_irrefl k)
      have fin : rowI .u32 8 (upd (fun i => if i < k then IntKind.u32.wrap (v i + r i) else v i) k (IntKind.u32.wrap (v k + r k))) = rowI .u32 8 (fun i => if i < k + 1 then IntKind.u32.wrap (v i + r i) else v i) := row_upto2 (f := fun i => IntKind.u32.wrap (v i + r i))
      simp only [sn_upto, sn_from, slN_def, run_cap, rules, rules2, loopRules, Tryd.facts, base0, Int.toNat_zero, Nat.reduceAdd, Nat.reduceMul, Nat.reduceSub, Nat.reduceLT, Nat.reduceLeDiff, Nat.reduceEqDiff, Int.reduceLE, Int.reduceLT, Int.reduceToNat, Int.reduceNe, Int.reduceEq, not_false_eq_true, Nat.reduceBEq, Nat.reduceDiv, Int.natCast_zero, Int.natCast_one, Int.reduceAdd, Int.reduceSub, reduceIte, ↓reduceIte, Value.oneCell', rowI_length, rowI_take, rowI_splice, rep_all, row_zero, le_nat, Int.toNat_natCast, Nat.zero_add, sok_row, reduceCtorEq]
      refine vcIf_yes (by simp; omega) ?_
      simp only [a3, nat_nn, rowI_get .u32 8 _ k hk, hf, Nat.mul_one, rowI_splice1 .u32 8 _ k hk, fin, wrapS k (by omega), sn_upto, sn_from, slN_def, run_cap, rules, rules2, loopRules, Tryd.facts, base0, Int.toNat_zero, Nat.reduceAdd, Nat.reduceMul, Nat.reduceSub, Nat.reduceLT, Nat.reduceLeDiff, Nat.reduceEqDiff, Int.reduceLE, Int.reduceLT, Int.reduceToNat, Int.reduceNe, Int.reduceEq, not_false_eq_true, Nat.reduceBEq, Nat.reduceDiv, Int.natCast_zero, Int.natCast_one, Int.reduceAdd, Int.reduceSub, reduceIte, ↓reduceIte, Value.oneCell', rowI_length, rowI_take, rowI_splice, rep_all, row_zero, le_nat, Int.toNat_natCast, Nat.zero_add, sok_row, reduceCtorEq]
      omega
    · simp only [sn_upto, sn_from, slN_def, run_cap, rules, rules2, loopRules, Tryd.facts, base0, Int.toNat_zero, Nat.reduceAdd, Nat.reduceMul, Nat.reduceSub, Nat.reduceLT, Nat.reduceLeDiff, Nat.reduceEqDiff, Int.reduceLE, Int.reduceLT, Int.reduceToNat, Int.reduceNe, Int.reduceEq, not_false_eq_true, Nat.reduceBEq, Nat.reduceDiv, Int.natCast_zero, Int.natCast_one, Int.reduceAdd, Int.reduceSub, reduceIte, ↓reduceIte, Value.oneCell', rowI_length, rowI_take, rowI_splice, rep_all, row_zero, le_nat, Int.toNat_natCast, Nat.zero_add, sok_row, reduceCtorEq]
      refine vcIf_no (by simp) ?_
      simp only [row_all, sn_upto, sn_from, slN_def, run_cap, rules, rules2, loopRules, Tryd.facts, base0, Int.toNat_zero, Nat.reduceAdd, Nat.reduceMul, Nat.reduceSub, Nat.reduceLT, Nat.reduceLeDiff, Nat.reduceEqDiff, Int.reduceLE, Int.reduceLT, Int.reduceToNat, Int.reduceNe, Int.reduceEq, not_false_eq_true, Nat.reduceBEq, Nat.reduceDiv, Int.natCast_zero, Int.natCast_one, Int.reduceAdd, Int.reduceSub, reduceIte, ↓reduceIte, Value.oneCell', rowI_length, rowI_take, rowI_splice, rep_all, row_zero, le_nat, Int.toNat_natCast, Nat.zero_add, sok_row, reduceCtorEq]
theorem eight (r : Nat → Int) : [Sum.inl (Value.int IntKind.u32 (r 0)), Sum.inl (Value.int IntKind.u32 (r 1)), Sum.inl (Value.int IntKind.u32 (r 2)), Sum.inl (Value.int IntKind.u32 (r 3)), Sum.inl (Value.int IntKind.u32 (r 4)), Sum.inl (Value.int IntKind.u32 (r 5)), Sum.inl (Value.int IntKind.u32 (r 6)), Sum.inl (Value.int IntKind.u32 (r 7))] = rowI .u32 8 r := rfl
set_option maxHeartbeats 8000000 in
set_option maxRecDepth 20000 in
theorem compress_m {f v : Nat → Int} {o c : Nat} {cs : List SV} (hv : U32 v) (hf : Byt f) (hc : Shows cs o 64 f) (hp : cs.all SV.plain = true) :
    MFun Tryd.prog 30 [Ag (rowI .u32 8 v), Sl 0 o 64 c] 1 (lk [(0, ⟨false, cs⟩)]) (fun u out => u = Ag (rowI .u32 8 (compW kW v f)) ∧ out = fun _ => none) := by
  refine mfun_of_vc Tryd.func30 rfl (by kernel_rfl) (by simp [Tryd.ntmps30]) Tryd.callable30 (fun u hu => by
    simp only [List.mem_cons, List.not_mem_nil, or_false] at hu
    rcases hu with rfl | rfl
    · exact ok_all plainI
    · exact (by decide : 0 < 1)) all1 (inn1 hp) ?_
  have ok1 : ∀ {M : Nat → Prop}, (∀ x ∈ cs, SV.ok M x) = True := eq_true (ok_all hp)
  simp only [Tryd.results30, sn_upto, sn_from, slN_def, run_cap, rules, rules2, loopRules, Tryd.facts, base0, Int.toNat_zero, Nat.reduceAdd, Nat.reduceMul, Nat.reduceSub, Nat.reduceLT, Nat.reduceLeDiff, Nat.reduceEqDiff, Int.reduceLE, Int.reduceLT, Int.reduceToNat, Int.reduceNe, Int.reduceEq, not_false_eq_true, Nat.reduceBEq, Nat.reduceDiv, Int.natCast_zero, Int.natCast_one, Int.reduceAdd, Int.reduceSub, reduceIte, ↓reduceIte, Value.oneCell', rowI_length, rowI_take, rowI_splice, rep_all, row_zero, le_nat, Int.toNat_natCast, Nat.zero_add, sok_row, reduceCtorEq]
  refine loop_count 64 (fun k => [(1, Sl 0 o 64 c), (2, Ptr 1 0), (4, Ptr 2 0), (5, Ptr 3 0), (6, I .i64 k)])
    (fun k => [(0, ⟨false, cs⟩), (1, ⟨true, rowI .u32 8 v⟩), (2, ⟨true, rowI .u32 8 (fun _ => 0)⟩), (3, ⟨true, rowI .u32 64 (schF f k)⟩)]) _ ?_ ?_ ?_
  · simp only [ok1, zero8, schF, sn_upto, sn_from, slN_def, run_cap, rules, rules2, loopRules, Tryd.facts, base0, Int.toNat_zero, Nat.reduceAdd, Nat.reduceMul, Nat.reduceSub, Nat.reduceLT, Nat.reduceLeDiff, Nat.reduceEqDiff, Int.reduceLE, Int.reduceLT, Int.reduceToNat, Int.reduceNe, Int.reduceEq, not_false_eq_true, Nat.reduceBEq, Nat.reduceDiv, Int.natCast_zero, Int.natCast_one, Int.reduceAdd, Int.reduceSub, reduceIte, ↓reduceIte, Value.oneCell', rowI_length, rowI_take, rowI_splice, rep_all, row_zero, le_nat, Int.toNat_natCast, Nat.zero_add, sok_row, reduceCtorEq]
  · intro k hk
    have l0 : ((k : Int) < 64) = True := lt_nat (m := 64) hk
    have ws := wrapS k (by omega)
    simp only [sn_upto, sn_from, slN_def, run_cap, rules, rules2, loopRules, Tryd.facts, base0, Int.toNat_zero, Nat.reduceAdd, Nat.reduceMul, Nat.reduceSub, Nat.reduceLT, Nat.reduceLeDiff, Nat.reduceEqDiff, Int.reduceLE, Int.reduceLT, Int.reduceToNat, Int.reduceNe, Int.reduceEq, not_false_eq_true, Nat.reduceBEq, Nat.reduceDiv, Int.natCast_zero, Int.natCast_one, Int.reduceAdd, Int.reduceSub, reduceIte, ↓reduceIte, Value.oneCell', rowI_length, rowI_take, rowI_splice, rep_all, row_zero, le_nat, Int.toNat_natCast, Nat.zero_add, sok_row, reduceCtorEq]
    refine vcIf_yes (by simp; omega) ?_
    by_cases h16 : k < 16
    · have e : schF f (k + 1) = upd (schF f k) k (wordW f k) := by
        show upd (schF f k) k (if k < 16 then _ else _) = _
        rw [if_pos h16]
      have w4 : IntKind.i64.wrap (4 * (k : Int)) = ((4 * k : Nat) : Int) := by rw [wrap_i64 _ (by omega) (by omega)]; omega
      simp only [sn_upto, sn_from, slN_def, run_cap, rules, rules2, loopRules, Tryd.facts, base0, Int.toNat_zero, Nat.reduceAdd, Nat.reduceMul, Nat.reduceSub, Nat.reduceLT, Nat.reduceLeDiff, Nat.reduceEqDiff, Int.reduceLE, Int.reduceLT, Int.reduceToNat, Int.reduceNe, Int.reduceEq, not_false_eq_true, Nat.reduceBEq, Nat.reduceDiv, Int.natCast_zero, Int.natCast_one, Int.reduceAdd, Int.reduceSub, reduceIte, ↓reduceIte, Value.oneCell', rowI_length, rowI_take, rowI_splice, rep_all, row_zero, le_nat, Int.toNat_natCast, Nat.zero_add, sok_row, reduceCtorEq]
      refine vcIf_yes (by simp; omega) ?_
      simp only [w4, sn_upto, sn_from, slN_def, run_cap, rules, rules2, loopRules, Tryd.facts, base0, Int.toNat_zero, Nat.reduceAdd, Nat.reduceMul, Nat.reduceSub, Nat.reduceLT, Nat.reduceLeDiff, Nat.reduceEqDiff, Int.reduceLE, Int.reduceLT, Int.reduceToNat, Int.reduceNe, Int.reduceEq, not_false_eq_true, Nat.reduceBEq, Nat.reduceDiv, Int.natCast_zero, Int.natCast_one, Int.reduceAdd, Int.reduceSub, reduceIte, ↓reduceIte, Value.oneCell', rowI_length, rowI_take, rowI_splice, rep_all, row_zero, le_nat, Int.toNat_natCast, Nat.zero_add, sok_row, reduceCtorEq]
      refine (word_m hf hc hp k (by omega) h16).vcRead (fun _ => 0) (fits1 (rw := false) (by simp only [upd_apply, sn_upto, sn_from, slN_def, run_cap, rules, rules2, loopRules, Tryd.facts, base0, Int.toNat_zero, Nat.reduceAdd, Nat.reduceMul, Nat.reduceSub, Nat.reduceLT, Nat.reduceLeDiff, Nat.reduceEqDiff, Int.reduceLE, Int.reduceLT, Int.reduceToNat, Int.reduceNe, Int.reduceEq, not_false_eq_true, Nat.reduceBEq, Nat.reduceDiv, Int.natCast_zero, Int.natCast_one, Int.reduceAdd, Int.reduceSub, reduceIte, ↓reduceIte, Value.oneCell', rowI_length, rowI_take, rowI_splice, rep_all, row_zero, le_nat, Int.toNat_natCast, Nat.zero_add, sok_row, reduceCtorEq]) hp) rfl rfl ?_
      simp only [ok1, l0, nat_nn, Nat.mul_one, ws, e, rowI_splice1 .u32 64 _ k hk, sn_upto, sn_from, slN_def, run_cap, rules, rules2, loopRules, Tryd.facts, base0, Int.toNat_zero, Nat.reduceAdd, Nat.reduceMul, Nat.reduceSub, Nat.reduceLT, Nat.reduceLeDiff, Nat.reduceEqDiff, Int.reduceLE, Int.reduceLT, Int.reduceToNat, Int.reduceNe, Int.reduceEq, not_false_eq_true, Nat.reduceBEq, Nat.reduceDiv, Int.natCast_zero, Int.natCast_one, Int.reduceAdd, Int.reduceSub, reduceIte, ↓reduceIte, Value.oneCell', rowI_length, rowI_take, rowI_splice, rep_all, row_zero, le_nat, Int.toNat_natCast, Nat.zero_add, sok_row, reduceCtorEq]
      omega
    · have w15 : IntKind.i64.wrap ((k : Int) - 15) = ((k - 15 : Nat) : Int) := by rw [wrap_i64 _ (by omega) (by omega)]; omega
      have w2 : IntKind.i64.wrap ((k : Int) - 2) = ((k - 2 : Nat) : Int) := by rw [wrap_i64 _ (by omega) (by omega)]; omega
      have w7 : IntKind.i64.wrap ((k : Int) - 7) = ((k - 7 : Nat) : Int) := by rw [wrap_i64 _ (by omega) (by omega)]; omega
      have w16 : IntKind.i64.wrap ((k : Int) - 16) = ((k - 16 : Nat) : Int) := by rw [wrap_i64 _ (by omega) (by omega)]; omega
      have l15 : (((k - 15 : Nat) : Int) < 64) = True := eq_true (by omega)
      have l2 : (((k - 2 : Nat) : Int) < 64) = True := eq_true (by omega)
      have l7 : (((k - 7 : Nat) : Int) < 64) = True := eq_true (by omega)
      have l16 : (((k - 16 : Nat) : Int) < 64) = True := eq_true (by omega)
      have g : ∀ i, i < 64 → (rowI .u32 64 (schF f k))[i]? = some (Sum.inl (.int .u32 (schF f k i))) := fun i hi => rowI_get .u32 64 _ i hi
      have e : schF f (k + 1) = upd (schF f k) k (nextW (schF f k) k) := by
        show upd (schF f k) k (if k < 16 then _ else _) = _
        rw [if_neg h16]
      simp only [sn_upto, sn_from, slN_def, run_cap, rules, rules2, loopRules, Tryd.facts, base0, Int.toNat_zero, Nat.reduceAdd, Nat.reduceMul, Nat.reduceSub, Nat.reduceLT, Nat.reduceLeDiff, Nat.reduceEqDiff, Int.reduceLE, Int.reduceLT, Int.reduceToNat, Int.reduceNe, Int.reduceEq, not_false_eq_true, Nat.reduceBEq, Nat.reduceDiv, Int.natCast_zero, Int.natCast_one, Int.reduceAdd, Int.reduceSub, reduceIte, ↓reduceIte, Value.oneCell', rowI_length, rowI_take, rowI_splice, rep_all, row_zero, le_nat, Int.toNat_natCast, Nat.zero_add, sok_row, reduceCtorEq]
      refine vcIf_no (by simp; omega) ?_
      simp only [w15, w2, w7, w16, l15, l2, l7, l16, l0, nat_nn, g _ (show k - 15 < 64 by omega), g _ (show k - 2 < 64 by omega), g _ (show k - 7 < 64 by omega), g _ (show k - 16 < 64 by omega), Nat.mul_one, sn_upto, sn_from, slN_def, run_cap, rules, rules2, loopRules, Tryd.facts, base0, Int.toNat_zero, Nat.reduceAdd, Nat.reduceMul, Nat.reduceSub, Nat.reduceLT, Nat.reduceLeDiff, Nat.reduceEqDiff, Int.reduceLE, Int.reduceLT, Int.reduceToNat, Int.reduceNe, Int.reduceEq, not_false_eq_true, Nat.reduceBEq, Nat.reduceDiv, Int.natCast_zero, Int.natCast_one, Int.reduceAdd, Int.reduceSub, reduceIte, ↓reduceIte, Value.oneCell', rowI_length, rowI_take, rowI_splice, rep_all, row_zero, le_nat, Int.toNat_natCast, Nat.zero_add, sok_row, reduceCtorEq]
      refine ⟨by kernel_rfl, Fun.draw (turn_fun _ 17 (by decide) (by decide)) Tryd.callable46 ?_⟩
      simp only [sn_upto, sn_from, slN_def, run_cap, rules, rules2, loopRules, Tryd.facts, base0, Int.toNat_zero, Nat.reduceAdd, Nat.reduceMul, Nat.reduceSub, Nat.reduceLT, Nat.reduceLeDiff, Nat.reduceEqDiff, Int.reduceLE, Int.reduceLT, Int.reduceToNat, Int.reduceNe, Int.reduceEq, not_false_eq_true, Nat.reduceBEq, Nat.reduceDiv, Int.natCast_zero, Int.natCast_one, Int.reduceAdd, Int.reduceSub, reduceIte, ↓reduceIte, Value.oneCell', rowI_length, rowI_take, rowI_splice, rep_all, row_zero, le_nat, Int.toNat_natCast, Nat.zero_add, sok_row, reduceCtorEq]
      refine Fun.draw (turn_fun _ 19 (by decide) (by decide)) Tryd.callable46 ?_
      simp only [w15, w2, w7, w16, l15, l2, l7, l16, l0, nat_nn, g _ (show k - 15 < 64 by omega), g _ (show k - 2 < 64 by omega), g _ (show k - 7 < 64 by omega), g _ (show k - 16 < 64 by omega), Nat.mul_one, sn_upto, sn_from, slN_def, run_cap, rules, rules2, loopRules, Tryd.facts, base0, Int.toNat_zero, Nat.reduceAdd, Nat.reduceMul, Nat.reduceSub, Nat.reduceLT, Nat.reduceLeDiff, Nat.reduceEqDiff, Int.reduceLE, Int.reduceLT, Int.reduceToNat, Int.reduceNe, Int.reduceEq, not_false_eq_true, Nat.reduceBEq, Nat.reduceDiv, Int.natCast_zero, Int.natCast_one, Int.reduceAdd, Int.reduceSub, reduceIte, ↓reduceIte, Value.oneCell', rowI_length, rowI_take, rowI_splice, rep_all, row_zero, le_nat, Int.toNat_natCast, Nat.zero_add, sok_row, reduceCtorEq]
      refine Fun.draw (turn_fun _ 7 (by decide) (by decide)) Tryd.callable46 ?_
      simp only [sn_upto, sn_from, slN_def, run_cap, rules, rules2, loopRules, Tryd.facts, base0, Int.toNat_zero, Nat.reduceAdd, Nat.reduceMul, Nat.reduceSub, Nat.reduceLT, Nat.reduceLeDiff, Nat.reduceEqDiff, Int.reduceLE, Int.reduceLT, Int.reduceToNat, Int.reduceNe, Int.reduceEq, not_false_eq_true, Nat.reduceBEq, Nat.reduceDiv, Int.natCast_zero, Int.natCast_one, Int.reduceAdd, Int.reduceSub, reduceIte, ↓reduceIte, Value.oneCell', rowI_length, rowI_take, rowI_splice, rep_all, row_zero, le_nat, Int.toNat_natCast, Nat.zero_add, sok_row, reduceCtorEq]
      refine Fun.draw (turn_fun _ 18 (by decide) (by decide)) Tryd.callable46 ?_
      simp only [w15, w2, w7, w16, l15, l2, l7, l16, l0, nat_nn, g _ (show k - 15 < 64 by omega), g _ (show k - 2 < 64 by omega), g _ (show k - 7 < 64 by omega), g _ (show k - 16 < 64 by omega), Nat.mul_one, sn_upto, sn_from, slN_def, run_cap, rules, rules2, loopRules, Tryd.facts, base0, Int.toNat_zero, Nat.reduceAdd, Nat.reduceMul, Nat.reduceSub, Nat.reduceLT, Nat.reduceLeDiff, Nat.reduceEqDiff, Int.reduceLE, Int.reduceLT, Int.reduceToNat, Int.reduceNe, Int.reduceEq, not_false_eq_true, Nat.reduceBEq, Nat.reduceDiv, Int.natCast_zero, Int.natCast_one, Int.reduceAdd, Int.reduceSub, reduceIte, ↓reduceIte, Value.oneCell', rowI_length, rowI_take, rowI_splice, rep_all, row_zero, le_nat, Int.toNat_natCast, Nat.zero_add, sok_row, reduceCtorEq]
      simp only [ok1, e, ws, true_and, and_true]
      refine ⟨by omega, ?_⟩
      rw [← rowI_splice1 .u32 64 _ k hk]
      rfl
  · simp only [sn_upto, sn_from, slN_def, run_cap, rules, rules2, loopRules, Tryd.facts, base0, Int.toNat_zero, Nat.reduceAdd, Nat.reduceMul, Nat.reduceSub, Nat.reduceLT, Nat.reduceLeDiff, Nat.reduceEqDiff, Int.reduceLE, Int.reduceLT, Int.reduceToNat, Int.reduceNe, Int.reduceEq, not_false_eq_true, Nat.reduceBEq, Nat.reduceDiv, Int.natCast_zero, Int.natCast_one, Int.reduceAdd, Int.reduceSub, reduceIte, ↓reduceIte, Value.oneCell', rowI_length, rowI_take, rowI_splice, rep_all, row_zero, le_nat, Int.toNat_natCast, Nat.zero_add, sok_row, reduceCtorEq]
    refine vcIf_no (by simp) ?_
    simp only [rowI_splice1 .u32 8 _ _ (show 0 < 8 by decide), sn_upto, sn_from, slN_def, run_cap, rules, rules2, loopRules, Tryd.facts, base0, Int.toNat_zero, Nat.reduceAdd, Nat.reduceMul, Nat.reduceSub, Nat.reduceLT, Nat.reduceLeDiff, Nat.reduceEqDiff, Int.reduceLE, Int.reduceLT, Int.reduceToNat, Int.reduceNe, Int.reduceEq, not_false_eq_true, Nat.reduceBEq, Nat.reduceDiv, Int.natCast_zero, Int.natCast_one, Int.reduceAdd, Int.reduceSub, reduceIte, ↓reduceIte, Value.oneCell', rowI_length, rowI_take, rowI_splice, rep_all, row_zero, le_nat, Int.toNat_natCast, Nat.zero_add, sok_row, reduceCtorEq]
    have z8 : ∀ r : Nat → Int, splice (rowI .u32 8 (fun _ => 0)) 0 (rowI .u32 8 r) = rowI .u32 8 r := fun r => rowI_splice .u32 8 _ _
    simp only [zero8, z8, sn_upto, sn_from, slN_def, run_cap, rules, rules2, loopRules, Tryd.facts, base0, Int.toNat_zero, Nat.reduceAdd, Nat.reduceMul, Nat.reduceSub, Nat.reduceLT, Nat.reduceLeDiff, Nat.reduceEqDiff, Int.reduceLE, Int.reduceLT, Int.reduceToNat, Int.reduceNe, Int.reduceEq, not_false_eq_true, Nat.reduceBEq, Nat.reduceDiv, Int.natCast_zero, Int.natCast_one, Int.reduceAdd, Int.reduceSub, reduceIte, ↓reduceIte, Value.oneCell', rowI_length, rowI_take, rowI_splice, rep_all, row_zero, le_nat, Int.toNat_natCast, Nat.zero_add, sok_row, reduceCtorEq]
    refine loop_count 64 (fun k => [(2, Ptr 1 0), (4, Ptr 2 0), (5, Ptr 3 0), (9, Ptr 8 0), (10, I .i64 k)])
      (fun k => [(1, ⟨true, rowI .u32 8 v⟩), (2, ⟨true, rowI .u32 8 (fun _ => 0)⟩), (3, ⟨true, rowI .u32 64 (schF f 64)⟩), (8, ⟨true, rowI .u32 8 (rounds kW v (schA f) k)⟩)]) _ ?_ ?_ ?_
    · simp only [rounds, sn_upto, sn_from, slN_def, run_cap, rules, rules2, loopRules, Tryd.facts, base0, Int.toNat_zero, Nat.reduceAdd, Nat.reduceMul, Nat.reduceSub, Nat.reduceLT, Nat.reduceLeDiff, Nat.reduceEqDiff, Int.reduceLE, Int.reduceLT, Int.reduceToNat, Int.reduceNe, Int.reduceEq, not_false_eq_true, Nat.reduceBEq, Nat.reduceDiv, Int.natCast_zero, Int.natCast_one, Int.reduceAdd, Int.reduceSub, reduceIte, ↓reduceIte, Value.oneCell', rowI_length, rowI_take, rowI_splice, rep_all, row_zero, le_nat, Int.toNat_natCast, Nat.zero_add, sok_row, reduceCtorEq]
    · intro k hk
      have hr := rounds_bd (K := kW) (w := schA f) hv k
      have l0 : ((k : Int) < 64) = True := lt_nat (m := 64) hk
      have ws := wrapS k (by omega)
      have e : ∀ i, rounds kW v (schA f) (k + 1) i = rndW (rounds kW v (schA f) k) (kW k) (schF f 64 k) i := fun i => rfl
      have ee : rowI .u32 8 (rounds kW v (schA f) (k + 1)) = rowI .u32 8 (rndW (rounds kW v (schA f) k) (kW k) (schF f 64 k)) := rfl
      have wx : ∀ r4 : Int, 0 ≤ r4 ∧ r4 < 4294967296 → IntKind.u32.wrap (4294967295 - r4) = 4294967295 - r4 := fun r4 h => wrap_u32_in _ (by omega) (by omega)
      have w4 := wx _ (hr 4)
      rw [ee]
      generalize rounds kW v (schA f) k = r at *
      have g : ∀ i, i < 8 → (rowI .u32 8 r)[i]? = some (Sum.inl (.int .u32 (r i))) := fun i hi => rowI_get .u32 8 _ i hi
      simp only [sn_upto, sn_from, slN_def, run_cap, rules, rules2, loopRules, Tryd.facts, base0, Int.toNat_zero, Nat.reduceAdd, Nat.reduceMul, Nat.reduceSub, Nat.reduceLT, Nat.reduceLeDiff, Nat.reduceEqDiff, Int.reduceLE, Int.reduceLT, Int.reduceToNat, Int.reduceNe, Int.reduceEq, not_false_eq_true, Nat.reduceBEq, Nat.reduceDiv, Int.natCast_zero, Int.natCast_one, Int.reduceAdd, Int.reduceSub, reduceIte, ↓reduceIte, Value.oneCell', rowI_length, rowI_take, rowI_splice, rep_all, row_zero, le_nat, Int.toNat_natCast, Nat.zero_add, sok_row, reduceCtorEq]
      refine vcIf_yes (by simp; omega) ?_
      simp only [g 0 (by decide), g 1 (by decide), g 2 (by decide), g 3 (by decide), g 4 (by decide), g 5 (by decide), g 6 (by decide), g 7 (by decide), w4, sn_upto, sn_from, slN_def, run_cap, rules, rules2, loopRules, Tryd.facts, base0, Int.toNat_zero, Nat.reduceAdd, Nat.reduceMul, Nat.reduceSub, Nat.reduceLT, Nat.reduceLeDiff, Nat.reduceEqDiff, Int.reduceLE, Int.reduceLT, Int.reduceToNat, Int.reduceNe, Int.reduceEq, not_false_eq_true, Nat.reduceBEq, Nat.reduceDiv, Int.natCast_zero, Int.natCast_one, Int.reduceAdd, Int.reduceSub, reduceIte, ↓reduceIte, Value.oneCell', rowI_length, rowI_take, rowI_splice, rep_all, row_zero, le_nat, Int.toNat_natCast, Nat.zero_add, sok_row, reduceCtorEq]
      refine ⟨by kernel_rfl, Fun.draw (turn_fun _ 6 (by decide) (by decide)) Tryd.callable46 ?_⟩
      simp only [sn_upto, sn_from, slN_def, run_cap, rules, rules2, loopRules, Tryd.facts, base0, Int.toNat_zero, Nat.reduceAdd, Nat.reduceMul, Nat.reduceSub, Nat.reduceLT, Nat.reduceLeDiff, Nat.reduceEqDiff, Int.reduceLE, Int.reduceLT, Int.reduceToNat, Int.reduceNe, Int.reduceEq, not_false_eq_true, Nat.reduceBEq, Nat.reduceDiv, Int.natCast_zero, Int.natCast_one, Int.reduceAdd, Int.reduceSub, reduceIte, ↓reduceIte, Value.oneCell', rowI_length, rowI_take, rowI_splice, rep_all, row_zero, le_nat, Int.toNat_natCast, Nat.zero_add, sok_row, reduceCtorEq]
      refine Fun.draw (turn_fun _ 11 (by decide) (by decide)) Tryd.callable46 ?_
      simp only [sn_upto, sn_from, slN_def, run_cap, rules, rules2, loopRules, Tryd.facts, base0, Int.toNat_zero, Nat.reduceAdd, Nat.reduceMul, Nat.reduceSub, Nat.reduceLT, Nat.reduceLeDiff, Nat.reduceEqDiff, Int.reduceLE, Int.reduceLT, Int.reduceToNat, Int.reduceNe, Int.reduceEq, not_false_eq_true, Nat.reduceBEq, Nat.reduceDiv, Int.natCast_zero, Int.natCast_one, Int.reduceAdd, Int.reduceSub, reduceIte, ↓reduceIte, Value.oneCell', rowI_length, rowI_take, rowI_splice, rep_all, row_zero, le_nat, Int.toNat_natCast, Nat.zero_add, sok_row, reduceCtorEq]
      refine Fun.draw (turn_fun _ 25 (by decide) (by decide)) Tryd.callable46 ?_
      simp only [g 0 (by decide), g 1 (by decide), g 2 (by decide), g 3 (by decide), g 4 (by decide), g 5 (by decide), g 6 (by decide), g 7 (by decide), l0, nat_nn, rowI_get .u32 64 _ k hk, Nat.mul_one, w4, sn_upto, sn_from, slN_def, run_cap, rules, rules2, loopRules, Tryd.facts, base0, Int.toNat_zero, Nat.reduceAdd, Nat.reduceMul, Nat.reduceSub, Nat.reduceLT, Nat.reduceLeDiff, Nat.reduceEqDiff, Int.reduceLE, Int.reduceLT, Int.reduceToNat, Int.reduceNe, Int.reduceEq, not_false_eq_true, Nat.reduceBEq, Nat.reduceDiv, Int.natCast_zero, Int.natCast_one, Int.reduceAdd, Int.reduceSub, reduceIte, ↓reduceIte, Value.oneCell', rowI_length, rowI_take, rowI_splice, rep_all, row_zero, le_nat, Int.toNat_natCast, Nat.zero_add, sok_row, reduceCtorEq]
      refine (turn_fun _ 2 (by decide) (by decide)).vcCall ?_
      simp only [sn_upto, sn_from, slN_def, run_cap, rules, rules2, loopRules, Tryd.facts, base0, Int.toNat_zero, Nat.reduceAdd, Nat.reduceMul, Nat.reduceSub, Nat.reduceLT, Nat.reduceLeDiff, Nat.reduceEqDiff, Int.reduceLE, Int.reduceLT, Int.reduceToNat, Int.reduceNe, Int.reduceEq, not_false_eq_true, Nat.reduceBEq, Nat.reduceDiv, Int.natCast_zero, Int.natCast_one, Int.reduceAdd, Int.reduceSub, reduceIte, ↓reduceIte, Value.oneCell', rowI_length, rowI_take, rowI_splice, rep_all, row_zero, le_nat, Int.toNat_natCast, Nat.zero_add, sok_row, reduceCtorEq]
      refine (turn_fun _ 13 (by decide) (by decide)).vcCall ?_
      simp only [sn_upto, sn_from, slN_def, run_cap, rules, rules2, loopRules, Tryd.facts, base0, Int.toNat_zero, Nat.reduceAdd, Nat.reduceMul, Nat.reduceSub, Nat.reduceLT, Nat.reduceLeDiff, Nat.reduceEqDiff, Int.reduceLE, Int.reduceLT, Int.reduceToNat, Int.reduceNe, Int.reduceEq, not_false_eq_true, Nat.reduceBEq, Nat.reduceDiv, Int.natCast_zero, Int.natCast_one, Int.reduceAdd, Int.reduceSub, reduceIte, ↓reduceIte, Value.oneCell', rowI_length, rowI_take, rowI_splice, rep_all, row_zero, le_nat, Int.toNat_natCast, Nat.zero_add, sok_row, reduceCtorEq]
      refine (turn_fun _ 22 (by decide) (by decide)).vcCall ?_
      simp only [g 0 (by decide), g 1 (by decide), g 2 (by decide), g 3 (by decide), g 4 (by decide), g 5 (by decide), g 6 (by decide), g 7 (by decide), w4, sn_upto, sn_from, slN_def, run_cap, rules, rules2, loopRules, Tryd.facts, base0, Int.toNat_zero, Nat.reduceAdd, Nat.reduceMul, Nat.reduceSub, Nat.reduceLT, Nat.reduceLeDiff, Nat.reduceEqDiff, Int.reduceLE, Int.reduceLT, Int.reduceToNat, Int.reduceNe, Int.reduceEq, not_false_eq_true, Nat.reduceBEq, Nat.reduceDiv, Int.natCast_zero, Int.natCast_one, Int.reduceAdd, Int.reduceSub, reduceIte, ↓reduceIte, Value.oneCell', splice, reduceCtorEq]
      refine ⟨by rw [rowI_length]; decide, congrArg (fun z => some (I .i64 z)) ws, ?_⟩
      rw [List.drop_of_length_le (by rw [rowI_length]; decide)]
      rfl
    · simp only [sn_upto, sn_from, slN_def, run_cap, rules, rules2, loopRules, Tryd.facts, base0, Int.toNat_zero, Nat.reduceAdd, Nat.reduceMul, Nat.reduceSub, Nat.reduceLT, Nat.reduceLeDiff, Nat.reduceEqDiff, Int.reduceLE, Int.reduceLT, Int.reduceToNat, Int.reduceNe, Int.reduceEq, not_false_eq_true, Nat.reduceBEq, Nat.reduceDiv, Int.natCast_zero, Int.natCast_one, Int.reduceAdd, Int.reduceSub, reduceIte, ↓reduceIte, Value.oneCell', rowI_length, rowI_take, rowI_splice, rep_all, row_zero, le_nat, Int.toNat_natCast, Nat.zero_add, sok_row, reduceCtorEq]
      refine vcIf_no (by simp) ?_
      simp only [sn_upto, sn_from, slN_def, run_cap, rules, rules2, loopRules, Tryd.facts, base0, Int.toNat_zero, Nat.reduceAdd, Nat.reduceMul, Nat.reduceSub, Nat.reduceLT, Nat.reduceLeDiff, Nat.reduceEqDiff, Int.reduceLE, Int.reduceLT, Int.reduceToNat, Int.reduceNe, Int.reduceEq, not_false_eq_true, Nat.reduceBEq, Nat.reduceDiv, Int.natCast_zero, Int.natCast_one, Int.reduceAdd, Int.reduceSub, reduceIte, ↓reduceIte, Value.oneCell', rowI_length, rowI_take, rowI_splice, rep_all, row_zero, le_nat, Int.toNat_natCast, Nat.zero_add, sok_row, reduceCtorEq]
      generalize hR : rounds kW v (schA f) 64 = r at *
      refine loop_count 8 (fun k => [(2, Ptr 1 0), (4, Ptr 2 0), (9, Ptr 8 0), (17, I .i64 k)])
        (fun k => [(1, ⟨true, rowI .u32 8 v⟩), (2, ⟨true, rowI .u32 8 (fun _ => 0)⟩), (8, ⟨true, rowI .u32 8 (fun i => if i < k then IntKind.u32.wrap (v i + r i) else r i)⟩)]) _ ?_ ?_ ?_
      · simp only [row_none, sn_upto, sn_from, slN_def, run_cap, rules, rules2, loopRules, Tryd.facts, base0, Int.toNat_zero, Nat.reduceAdd, Nat.reduceMul, Nat.reduceSub, Nat.reduceLT, Nat.reduceLeDiff, Nat.reduceEqDiff, Int.reduceLE, Int.reduceLT, Int.reduceToNat, Int.reduceNe, Int.reduceEq, not_false_eq_true, Nat.reduceBEq, Nat.reduceDiv, Int.natCast_zero, Int.natCast_one, Int.reduceAdd, Int.reduceSub, reduceIte, ↓reduceIte, Value.oneCell', rowI_length, rowI_take, rowI_splice, rep_all, row_zero, le_nat, Int.toNat_natCast, Nat.zero_add, sok_row, reduceCtorEq]
      · intro k hk
        have a3 : ((k : Int) < 8) = True := lt_nat (m := 8) hk
        have hf : (if k < k then IntKind.u32.wrap (v k + r k) else r k) = r k := if_neg (Nat.lt_irrefl k)
        have fin : rowI .u32 8 (upd (fun i => if i < k then IntKind.u32.wrap (v i + r i) else r i) k (IntKind.u32.wrap (r k + v k))) = rowI .u32 8 (fun i => if i < k + 1 then IntKind.u32.wrap (v i + r i) else r i) := by
          rw [Int.add_comm (r k)]; exact row_upto2 (f := fun i => IntKind.u32.wrap (v i + r i))
        simp only [sn_upto, sn_from, slN_def, run_cap, rules, rules2, loopRules, Tryd.facts, base0, Int.toNat_zero, Nat.reduceAdd, Nat.reduceMul, Nat.reduceSub, Nat.reduceLT, Nat.reduceLeDiff, Nat.reduceEqDiff, Int.reduceLE, Int.reduceLT, Int.reduceToNat, Int.reduceNe, Int.reduceEq, not_false_eq_true, Nat.reduceBEq, Nat.reduceDiv, Int.natCast_zero, Int.natCast_one, Int.reduceAdd, Int.reduceSub, reduceIte, ↓reduceIte, Value.oneCell', rowI_length, rowI_take, rowI_splice, rep_all, row_zero, le_nat, Int.toNat_natCast, Nat.zero_add, sok_row, reduceCtorEq]
        refine vcIf_yes (by simp; omega) ?_
        simp only [a3, nat_nn, rowI_get .u32 8 _ k hk, hf, Nat.mul_one, rowI_splice1 .u32 8 _ k hk, fin, wrapS k (by omega), sn_upto, sn_from, slN_def, run_cap, rules, rules2, loopRules, Tryd.facts, base0, Int.toNat_zero, Nat.reduceAdd, Nat.reduceMul, Nat.reduceSub, Nat.reduceLT, Nat.reduceLeDiff, Nat.reduceEqDiff, Int.reduceLE, Int.reduceLT, Int.reduceToNat, Int.reduceNe, Int.reduceEq, not_false_eq_true, Nat.reduceBEq, Nat.reduceDiv, Int.natCast_zero, Int.natCast_one, Int.reduceAdd, Int.reduceSub, reduceIte, ↓reduceIte, Value.oneCell', rowI_length, rowI_take, rowI_splice, rep_all, row_zero, le_nat, Int.toNat_natCast, Nat.zero_add, sok_row, reduceCtorEq]
        exact ⟨by kernel_rfl, by omega⟩
      · simp only [sn_upto, sn_from, slN_def, run_cap, rules, rules2, loopRules, Tryd.facts, base0, Int.toNat_zero, Nat.reduceAdd, Nat.reduceMul, Nat.reduceSub, Nat.reduceLT, Nat.reduceLeDiff, Nat.reduceEqDiff, Int.reduceLE, Int.reduceLT, Int.reduceToNat, Int.reduceNe, Int.reduceEq, not_false_eq_true, Nat.reduceBEq, Nat.reduceDiv, Int.natCast_zero, Int.natCast_one, Int.reduceAdd, Int.reduceSub, reduceIte, ↓reduceIte, Value.oneCell', rowI_length, rowI_take, rowI_splice, rep_all, row_zero, le_nat, Int.toNat_natCast, Nat.zero_add, sok_row, reduceCtorEq]
        refine vcIf_no (by simp) ?_
        simp only [row_all, sn_upto, sn_from, slN_def, run_cap, rules, rules2, loopRules, Tryd.facts, base0, Int.toNat_zero, Nat.reduceAdd, Nat.reduceMul, Nat.reduceSub, Nat.reduceLT, Nat.reduceLeDiff, Nat.reduceEqDiff, Int.reduceLE, Int.reduceLT, Int.reduceToNat, Int.reduceNe, Int.reduceEq, not_false_eq_true, Nat.reduceBEq, Nat.reduceDiv, Int.natCast_zero, Int.natCast_one, Int.reduceAdd, Int.reduceSub, reduceIte, ↓reduceIte, Value.oneCell', rowI_length, rowI_take, rowI_splice, rep_all, row_zero, le_nat, Int.toNat_natCast, Nat.zero_add, sok_row, reduceCtorEq]
        refine ret_plain plainI ⟨?_, rfl⟩
        refine congrArg Ag (rowI_congr fun i _ => ?_)
        simp only [compW, hR]
/-- Byte j of a number of 64 bits. -/
def u64B (x : Int) (j : Nat) : Int := IntKind.u8.wrap (shrI .u64 x (56 - 8 * (j : Int)))
set_option maxHeartbeats 8000000 in
set_option maxRecDepth 20000 in
theorem appendU64_m {n o c : Nat} {f : Nat → Int} {cs : List SV} {x : Int} (hg : Grows cs o n c f) (hn : n + 8 ≤ 140737488355328) :
    MFun Tryd.prog 58 [Sl 0 o n c, I .u64 x] 1 (lk [(0, ⟨true, cs⟩)]) (Made 1 (n + 8) (joinB n f (u64B x))) := by
  refine mfun_of_vc Tryd.func58 rfl (by kernel_rfl) (by simp [Tryd.ntmps58]) Tryd.callable58 (by simp [AV.ok, CV.ok, SV.names]) all1 (inn1 hg.plain) ?_
  simp only [Tryd.results58, sn_upto, sn_from, slN_def, run_cap, rules, rules2, loopRules, Tryd.facts, base0, Int.toNat_zero, Nat.reduceAdd, Nat.reduceMul, Nat.reduceSub, Nat.reduceLT, Nat.reduceLeDiff, Nat.reduceEqDiff, Int.reduceLE, Int.reduceLT, Int.reduceToNat, Int.reduceNe, Int.reduceEq, not_false_eq_true, Nat.reduceBEq, Nat.reduceDiv, Int.natCast_zero, Int.natCast_one, Int.reduceAdd, Int.reduceSub, reduceIte, ↓reduceIte, Value.oneCell', rowI_length, rowI_take, rowI_splice, rep_all, row_zero, le_nat, Int.toNat_natCast, Nat.zero_add, sok_row, reduceCtorEq]
  refine loop_anew (β := Nat × Nat × List SV) 8 (fun k y => Grows y.2.2 y.1 (n + k) y.2.1 (joinB n f (u64B x)) ∧ (k = 0 ∨ y.1 = 0))
    (fun k y => [(0, Sl 30 y.1 (n + k) y.2.1), (1, I .u64 x), (5, I .i64 (56 - 8 * (k : Int)))]) (fun k y => [(30, ⟨true, y.2.2⟩)]) 31 (o, c, cs) ?_ ?_ ?_ (by show 3 ≤ 31; decide)
  · refine ⟨⟨⟨hg.len, hg.room, hg.plain, shows_congr hg.shows fun i hi => ?_⟩, .inl rfl⟩, 30, 0, ?_⟩
    · simp only [joinB, if_pos (show i < n from hi)]
    · simp only [BringsTo, ren_i, ren_s, ren_p, ren_v, hg.plain, true_or, sn_upto, sn_from, slN_def, run_cap, rules, rules2, loopRules, Tryd.facts, base0, Int.toNat_zero, Nat.reduceAdd, Nat.reduceMul, Nat.reduceSub, Nat.reduceLT, Nat.reduceLeDiff, Nat.reduceEqDiff, Int.reduceLE, Int.reduceLT, Int.reduceToNat, Int.reduceNe, Int.reduceEq, not_false_eq_true, Nat.reduceBEq, Nat.reduceDiv, Int.natCast_zero, Int.natCast_one, Int.reduceAdd, Int.reduceSub, reduceIte, ↓reduceIte, Value.oneCell', rowI_length, rowI_take, rowI_splice, rep_all, row_zero, le_nat, Int.toNat_natCast, Nat.zero_add, sok_row, reduceCtorEq]
      simp
  · rintro k ⟨o', c', cs'⟩ hk ⟨h1, h2⟩
    simp only at h1 h2
    have a2 : (0 ≤ 56 - 8 * (k : Int)) = True := eq_true (by omega)
    have ws : IntKind.i64.wrap (56 - 8 * (k : Int) - 8) = 56 - 8 * ((k + 1 : Nat) : Int) := by rw [wrap_i64 _ (by omega) (by omega)]; omega
    have eb : IntKind.u8.wrap (shrI .u64 x (56 - 8 * (k : Int))) = u64B x k := rfl
    simp only [sn_upto, sn_from, slN_def, run_cap, rules, rules2, loopRules, Tryd.facts, base0, Int.toNat_zero, Nat.reduceAdd, Nat.reduceMul, Nat.reduceSub, Nat.reduceLT, Nat.reduceLeDiff, Nat.reduceEqDiff, Int.reduceLE, Int.reduceLT, Int.reduceToNat, Int.reduceNe, Int.reduceEq, not_false_eq_true, Nat.reduceBEq, Nat.reduceDiv, Int.natCast_zero, Int.natCast_one, Int.reduceAdd, Int.reduceSub, reduceIte, ↓reduceIte, Value.oneCell', rowI_length, rowI_take, rowI_splice, rep_all, row_zero, le_nat, Int.toNat_natCast, Nat.zero_add, sok_row, reduceCtorEq]
    refine vcIf_yes (by simp; omega) ?_
    simp only [a2, eb, sn_upto, sn_from, slN_def, run_cap, rules, rules2, loopRules, Tryd.facts, base0, Int.toNat_zero, Nat.reduceAdd, Nat.reduceMul, Nat.reduceSub, Nat.reduceLT, Nat.reduceLeDiff, Nat.reduceEqDiff, Int.reduceLE, Int.reduceLT, Int.reduceToNat, Int.reduceNe, Int.reduceEq, not_false_eq_true, Nat.reduceBEq, Nat.reduceDiv, Int.natCast_zero, Int.natCast_one, Int.reduceAdd, Int.reduceSub, reduceIte, ↓reduceIte, Value.oneCell', rowI_length, rowI_take, rowI_splice, rep_all, row_zero, le_nat, Int.toNat_natCast, Nat.zero_add, sok_row, reduceCtorEq]
    refine append_b (g := fun _ => u64B x k) Tryd.mkK34 Tryd.slK34 (by simp only [upd_apply, sn_upto, sn_from, slN_def, run_cap, rules, rules2, loopRules, Tryd.facts, base0, Int.toNat_zero, Nat.reduceAdd, Nat.reduceMul, Nat.reduceSub, Nat.reduceLT, Nat.reduceLeDiff, Nat.reduceEqDiff, Int.reduceLE, Int.reduceLT, Int.reduceToNat, Int.reduceNe, Int.reduceEq, not_false_eq_true, Nat.reduceBEq, Nat.reduceDiv, Int.natCast_zero, Int.natCast_one, Int.reduceAdd, Int.reduceSub, reduceIte, ↓reduceIte, Value.oneCell', rowI_length, rowI_take, rowI_splice, rep_all, row_zero, le_nat, Int.toNat_natCast, Nat.zero_add, sok_row, reduceCtorEq]) h1 (.inr ⟨38, 0, 1, true, [Sum.inl (.int .u8 (u64B x k))], rfl, by simp only [upd_apply, splice_one, sn_upto, sn_from, slN_def, run_cap, rules, rules2, loopRules, Tryd.facts, base0, Int.toNat_zero, Nat.reduceAdd, Nat.reduceMul, Nat.reduceSub, Nat.reduceLT, Nat.reduceLeDiff, Nat.reduceEqDiff, Int.reduceLE, Int.reduceLT, Int.reduceToNat, Int.reduceNe, Int.reduceEq, not_false_eq_true, Nat.reduceBEq, Nat.reduceDiv, Int.natCast_zero, Int.natCast_one, Int.reduceAdd, Int.reduceSub, reduceIte, ↓reduceIte, Value.oneCell', rowI_length, rowI_take, rowI_splice, rep_all, row_zero, le_nat, Int.toNat_natCast, Nat.zero_add, sok_row, reduceCtorEq], shows_one, by decide⟩) (by omega) ?_
    intro c2 cs2 hg2
    simp only [ws, sn_upto, sn_from, slN_def, run_cap, rules, rules2, loopRules, Tryd.facts, base0, Int.toNat_zero, Nat.reduceAdd, Nat.reduceMul, Nat.reduceSub, Nat.reduceLT, Nat.reduceLeDiff, Nat.reduceEqDiff, Int.reduceLE, Int.reduceLT, Int.reduceToNat, Int.reduceNe, Int.reduceEq, not_false_eq_true, Nat.reduceBEq, Nat.reduceDiv, Int.natCast_zero, Int.natCast_one, Int.reduceAdd, Int.reduceSub, reduceIte, ↓reduceIte, Value.oneCell', rowI_length, rowI_take, rowI_splice, rep_all, row_zero, le_nat, Int.toNat_natCast, Nat.zero_add, sok_row, reduceCtorEq]
    refine ⟨(0, c2, cs2), ⟨hg2.congr (by omega) fun i hi => joinB_snoc i (by omega), .inr rfl⟩, 30, 39, ?_⟩
    simp only [BringsTo, ren_i, ren_s, ren_p, ren_v, hg2.plain, true_or, sn_upto, sn_from, slN_def, run_cap, rules, rules2, loopRules, Tryd.facts, base0, Int.toNat_zero, Nat.reduceAdd, Nat.reduceMul, Nat.reduceSub, Nat.reduceLT, Nat.reduceLeDiff, Nat.reduceEqDiff, Int.reduceLE, Int.reduceLT, Int.reduceToNat, Int.reduceNe, Int.reduceEq, not_false_eq_true, Nat.reduceBEq, Nat.reduceDiv, Int.natCast_zero, Int.natCast_one, Int.reduceAdd, Int.reduceSub, reduceIte, ↓reduceIte, Value.oneCell', rowI_length, rowI_take, rowI_splice, rep_all, row_zero, le_nat, Int.toNat_natCast, Nat.zero_add, sok_row, reduceCtorEq]
    simp [Nat.add_assoc]
  · rintro ⟨o', c', cs'⟩ ⟨h1, h2⟩
    simp only at h1 h2
    have : o' = 0 := by omega
    subst this
    simp only [sn_upto, sn_from, slN_def, run_cap, rules, rules2, loopRules, Tryd.facts, base0, Int.toNat_zero, Nat.reduceAdd, Nat.reduceMul, Nat.reduceSub, Nat.reduceLT, Nat.reduceLeDiff, Nat.reduceEqDiff, Int.reduceLE, Int.reduceLT, Int.reduceToNat, Int.reduceNe, Int.reduceEq, not_false_eq_true, Nat.reduceBEq, Nat.reduceDiv, Int.natCast_zero, Int.natCast_one, Int.reduceAdd, Int.reduceSub, reduceIte, ↓reduceIte, Value.oneCell', rowI_length, rowI_take, rowI_splice, rep_all, row_zero, le_nat, Int.toNat_natCast, Nat.zero_add, sok_row, reduceCtorEq]
    refine vcIf_no (by decide) ?_
    simp only [sn_upto, sn_from, slN_def, run_cap, rules, rules2, loopRules, Tryd.facts, base0, Int.toNat_zero, Nat.reduceAdd, Nat.reduceMul, Nat.reduceSub, Nat.reduceLT, Nat.reduceLeDiff, Nat.reduceEqDiff, Int.reduceLE, Int.reduceLT, Int.reduceToNat, Int.reduceNe, Int.reduceEq, not_false_eq_true, Nat.reduceBEq, Nat.reduceDiv, Int.natCast_zero, Int.natCast_one, Int.reduceAdd, Int.reduceSub, reduceIte, ↓reduceIte, Value.oneCell', rowI_length, rowI_take, rowI_splice, rep_all, row_zero, le_nat, Int.toNat_natCast, Nat.zero_add, sok_row, reduceCtorEq]
    refine ret_new (k := 1) (q := 30) (cs := cs') (by decide) ?_ h1.plain h1.made
    simp only [sn_upto, sn_from, slN_def, run_cap, rules, rules2, loopRules, Tryd.facts, base0, Int.toNat_zero, Nat.reduceAdd, Nat.reduceMul, Nat.reduceSub, Nat.reduceLT, Nat.reduceLeDiff, Nat.reduceEqDiff, Int.reduceLE, Int.reduceLT, Int.reduceToNat, Int.reduceNe, Int.reduceEq, not_false_eq_true, Nat.reduceBEq, Nat.reduceDiv, Int.natCast_zero, Int.natCast_one, Int.reduceAdd, Int.reduceSub, reduceIte, ↓reduceIte, Value.oneCell', rowI_length, rowI_take, rowI_splice, rep_all, row_zero, le_nat, Int.toNat_natCast, Nat.zero_add, sok_row, reduceCtorEq]
set_option maxHeartbeats 8000000 in
set_option maxRecDepth 20000 in
theorem absorbed_m {f v : Nat → Int} {o c m : Nat} {cs : List SV} (hv : U32 v) (hf : Byt f) (hc : Shows cs o (64 * m) f) (hcap : 64 * m ≤ c) (hm : 64 * m < 4611686018427387904) (hp : cs.all SV.plain = true) :
    MFun Tryd.prog 40 [Ag (rowI .u32 8 v), Sl 0 o (64 * m) c] 1 (lk [(0, ⟨false, cs⟩)]) (fun u out => u = Ag (rowI .u32 8 (absW kW v f m)) ∧ out = fun _ => none) := by
  refine mfun_of_vc Tryd.func40 rfl (by kernel_rfl) (by simp [Tryd.ntmps40]) Tryd.callable40 (fun u hu => by
    simp only [List.mem_cons, List.not_mem_nil, or_false] at hu
    rcases hu with rfl | rfl
    · exact ok_all plainI
    · exact (by decide : 0 < 1)) all1 (inn1 hp) ?_
  have ok1 : ∀ {M : Nat → Prop}, (∀ x ∈ cs, SV.ok M x) = True := eq_true (ok_all hp)
  simp only [Tryd.results40, sn_upto, sn_from, slN_def, run_cap, rules, rules2, loopRules, Tryd.facts, base0, Int.toNat_zero, Nat.reduceAdd, Nat.reduceMul, Nat.reduceSub, Nat.reduceLT, Nat.reduceLeDiff, Nat.reduceEqDiff, Int.reduceLE, Int.reduceLT, Int.reduceToNat, Int.reduceNe, Int.reduceEq, not_false_eq_true, Nat.reduceBEq, Nat.reduceDiv, Int.natCast_zero, Int.natCast_one, Int.reduceAdd, Int.reduceSub, reduceIte, ↓reduceIte, Value.oneCell', rowI_length, rowI_take, rowI_splice, rep_all, row_zero, le_nat, Int.toNat_natCast, Nat.zero_add, sok_row, reduceCtorEq]
  refine loop_count m (fun k => [(1, Sl 0 o (64 * m) c), (2, Ptr 1 0), (4, Ptr 2 0), (5, I .i64 ((64 * k : Nat) : Int))])
    (fun k => [(0, ⟨false, cs⟩), (1, ⟨true, rowI .u32 8 (absW kW v f k)⟩), (2, ⟨true, rowI .u32 8 (fun _ => 0)⟩)]) _ ?_ ?_ ?_
  · simp only [ok1, zero8, absW, Nat.mul_zero, sn_upto, sn_from, slN_def, run_cap, rules, rules2, loopRules, Tryd.facts, base0, Int.toNat_zero, Nat.reduceAdd, Nat.reduceMul, Nat.reduceSub, Nat.reduceLT, Nat.reduceLeDiff, Nat.reduceEqDiff, Int.reduceLE, Int.reduceLT, Int.reduceToNat, Int.reduceNe, Int.reduceEq, not_false_eq_true, Nat.reduceBEq, Nat.reduceDiv, Int.natCast_zero, Int.natCast_one, Int.reduceAdd, Int.reduceSub, reduceIte, ↓reduceIte, Value.oneCell', rowI_length, rowI_take, rowI_splice, rep_all, row_zero, le_nat, Int.toNat_natCast, Nat.zero_add, sok_row, reduceCtorEq]
  · intro k hk
    have l1 : (((64 * k : Nat) : Int) ≤ ((64 * k + 64 : Nat) : Int)) = True := eq_true (by omega)
    have l2 : (((64 * k + 64 : Nat) : Int) ≤ (c : Int)) = True := eq_true (by omega)
    have w1 : IntKind.i64.wrap (((64 * k : Nat) : Int) + 64) = ((64 * k + 64 : Nat) : Int) := by rw [wrap_i64 _ (by omega) (by omega)]; omega
    have h4 : (if c = 64 * k then o else o + 64 * k) = o + 64 * k := if_neg (by omega)
    have h5 : 64 * k + 64 - 64 * k = 64 := by omega
    have z8 : ∀ r r' : Nat → Int, splice (rowI .u32 8 r') 0 (rowI .u32 8 r) = rowI .u32 8 r := fun r r' => rowI_splice .u32 8 _ _
    have ee : (fun i => IntKind.u32.wrap (absW kW v f k i + rounds kW (absW kW v f k) (schA (fun i => f (64 * k + i))) 64 i)) = absW kW v f (k + 1) := rfl
    simp only [sn_upto, sn_from, slN_def, run_cap, rules, rules2, loopRules, Tryd.facts, base0, Int.toNat_zero, Nat.reduceAdd, Nat.reduceMul, Nat.reduceSub, Nat.reduceLT, Nat.reduceLeDiff, Nat.reduceEqDiff, Int.reduceLE, Int.reduceLT, Int.reduceToNat, Int.reduceNe, Int.reduceEq, not_false_eq_true, Nat.reduceBEq, Nat.reduceDiv, Int.natCast_zero, Int.natCast_one, Int.reduceAdd, Int.reduceSub, reduceIte, ↓reduceIte, Value.oneCell', rowI_length, rowI_take, rowI_splice, rep_all, row_zero, le_nat, Int.toNat_natCast, Nat.zero_add, sok_row, reduceCtorEq]
    refine vcIf_yes (by simp; omega) ?_
    simp only [w1, l1, l2, h4, h5, nat_nn, Nat.mul_one, sn_upto, sn_from, slN_def, run_cap, rules, rules2, loopRules, Tryd.facts, base0, Int.toNat_zero, Nat.reduceAdd, Nat.reduceMul, Nat.reduceSub, Nat.reduceLT, Nat.reduceLeDiff, Nat.reduceEqDiff, Int.reduceLE, Int.reduceLT, Int.reduceToNat, Int.reduceNe, Int.reduceEq, not_false_eq_true, Nat.reduceBEq, Nat.reduceDiv, Int.natCast_zero, Int.natCast_one, Int.reduceAdd, Int.reduceSub, reduceIte, ↓reduceIte, Value.oneCell', rowI_length, rowI_take, rowI_splice, rep_all, row_zero, le_nat, Int.toNat_natCast, Nat.zero_add, sok_row, reduceCtorEq]
    refine ⟨by kernel_rfl, ?_⟩
    refine (schedule_m (f := fun i => f (64 * k + i)) (fun i => hf _) (shows_sub hc (64 * k) 64 (by omega)) hp).drawRead (fun _ => 0) (fits1 (rw := false) (by simp only [upd_apply, sn_upto, sn_from, slN_def, run_cap, rules, rules2, loopRules, Tryd.facts, base0, Int.toNat_zero, Nat.reduceAdd, Nat.reduceMul, Nat.reduceSub, Nat.reduceLT, Nat.reduceLeDiff, Nat.reduceEqDiff, Int.reduceLE, Int.reduceLT, Int.reduceToNat, Int.reduceNe, Int.reduceEq, not_false_eq_true, Nat.reduceBEq, Nat.reduceDiv, Int.natCast_zero, Int.natCast_one, Int.reduceAdd, Int.reduceSub, reduceIte, ↓reduceIte, Value.oneCell', rowI_length, rowI_take, rowI_splice, rep_all, row_zero, le_nat, Int.toNat_natCast, Nat.zero_add, sok_row, reduceCtorEq]) hp) plainI (by rfl) (fun M h n _ => h (Sl 0 (o + 64 * k) 64 (c - 64 * k)) (List.Mem.head _)) ?_
    simp only [sn_upto, sn_from, slN_def, run_cap, rules, rules2, loopRules, Tryd.facts, base0, Int.toNat_zero, Nat.reduceAdd, Nat.reduceMul, Nat.reduceSub, Nat.reduceLT, Nat.reduceLeDiff, Nat.reduceEqDiff, Int.reduceLE, Int.reduceLT, Int.reduceToNat, Int.reduceNe, Int.reduceEq, not_false_eq_true, Nat.reduceBEq, Nat.reduceDiv, Int.natCast_zero, Int.natCast_one, Int.reduceAdd, Int.reduceSub, reduceIte, ↓reduceIte, Value.oneCell', rowI_length, rowI_take, rowI_splice, rep_all, row_zero, le_nat, Int.toNat_natCast, Nat.zero_add, sok_row, reduceCtorEq]
    refine Fun.draw (compressed_fun _ _ (absW_bd hv k)) Tryd.callable56 ?_
    rw [ee]
    simp only [z8, w1, ok1, sn_upto, sn_from, slN_def, run_cap, rules, rules2, loopRules, Tryd.facts, base0, Int.toNat_zero, Nat.reduceAdd, Nat.reduceMul, Nat.reduceSub, Nat.reduceLT, Nat.reduceLeDiff, Nat.reduceEqDiff, Int.reduceLE, Int.reduceLT, Int.reduceToNat, Int.reduceNe, Int.reduceEq, not_false_eq_true, Nat.reduceBEq, Nat.reduceDiv, Int.natCast_zero, Int.natCast_one, Int.reduceAdd, Int.reduceSub, reduceIte, ↓reduceIte, Value.oneCell', rowI_length, rowI_take, rowI_splice, rep_all, row_zero, le_nat, Int.toNat_natCast, Nat.zero_add, sok_row, reduceCtorEq]
    exact congrArg (fun z : Nat => some (I .i64 (z : Int))) (by omega)
  · simp only [sn_upto, sn_from, slN_def, run_cap, rules, rules2, loopRules, Tryd.facts, base0, Int.toNat_zero, Nat.reduceAdd, Nat.reduceMul, Nat.reduceSub, Nat.reduceLT, Nat.reduceLeDiff, Nat.reduceEqDiff, Int.reduceLE, Int.reduceLT, Int.reduceToNat, Int.reduceNe, Int.reduceEq, not_false_eq_true, Nat.reduceBEq, Nat.reduceDiv, Int.natCast_zero, Int.natCast_one, Int.reduceAdd, Int.reduceSub, reduceIte, ↓reduceIte, Value.oneCell', rowI_length, rowI_take, rowI_splice, rep_all, row_zero, le_nat, Int.toNat_natCast, Nat.zero_add, sok_row, reduceCtorEq]
    refine vcIf_no (by simp) ?_
    simp only [sn_upto, sn_from, slN_def, run_cap, rules, rules2, loopRules, Tryd.facts, base0, Int.toNat_zero, Nat.reduceAdd, Nat.reduceMul, Nat.reduceSub, Nat.reduceLT, Nat.reduceLeDiff, Nat.reduceEqDiff, Int.reduceLE, Int.reduceLT, Int.reduceToNat, Int.reduceNe, Int.reduceEq, not_false_eq_true, Nat.reduceBEq, Nat.reduceDiv, Int.natCast_zero, Int.natCast_one, Int.reduceAdd, Int.reduceSub, reduceIte, ↓reduceIte, Value.oneCell', rowI_length, rowI_take, rowI_splice, rep_all, row_zero, le_nat, Int.toNat_natCast, Nat.zero_add, sok_row, reduceCtorEq]
    exact ret_plain plainI ⟨rfl, rfl⟩
theorem u64B_len {l j : Nat} (hl : l < 140737488355328) (hj : j < 8) : u64B (IntKind.u64.wrap (IntKind.u64.wrap (l : Int) * 8)) j = lenB l j := by
  rw [wrap_u64_in (l : Int) (by omega) (by omega), wrap_u64_in _ (by omega) (by omega)]
  have e : (56 - 8 * (j : Int)) = ((56 - 8 * j : Nat) : Int) := by omega
  simp only [u64B, lenB]
  rw [e, shrI_eq .u64 _ _ (show 56 - 8 * j ≤ IntKind.u64.bits by simp only [IntKind.bits]; omega), wrap_u8]
  simp
set_option maxHeartbeats 8000000 in
set_option maxRecDepth 20000 in
theorem padded_m {n o c l : Nat} {f : Nat → Int} {cs : List SV} (hc : Shows cs o n f) (hp : cs.all SV.plain = true) (hn : n < 64) (hl : l < 140737488355328) (hln : l % 64 = n) :
    MFun Tryd.prog 41 [Sl 0 o n c, I .i64 l] 1 (lk [(0, ⟨false, cs⟩)]) (Made 1 (64 * (blocks l - l / 64)) (fun i => padW (fun j => f (j - l / 64 * 64)) l (l / 64 * 64 + i))) := by
  refine mfun_of_vc Tryd.func41 rfl (by kernel_rfl) (by simp [Tryd.ntmps41]) Tryd.callable41 (by simp [AV.ok, CV.ok, SV.names]) all1 (inn1 hp) ?_
  have ok1 : ∀ {M : Nat → Prop}, (∀ x ∈ cs, SV.ok M x) = True := eq_true (ok_all hp)
  simp only [Tryd.results41, sn_upto, sn_from, slN_def, run_cap, rules, rules2, loopRules, Tryd.facts, base0, Int.toNat_zero, Nat.reduceAdd, Nat.reduceMul, Nat.reduceSub, Nat.reduceLT, Nat.reduceLeDiff, Nat.reduceEqDiff, Int.reduceLE, Int.reduceLT, Int.reduceToNat, Int.reduceNe, Int.reduceEq, not_false_eq_true, Nat.reduceBEq, Nat.reduceDiv, Int.natCast_zero, Int.natCast_one, Int.reduceAdd, Int.reduceSub, reduceIte, ↓reduceIte, Value.oneCell', rowI_length, rowI_take, rowI_splice, rep_all, row_zero, le_nat, Int.toNat_natCast, Nat.zero_add, sok_row, reduceCtorEq]
  refine ⟨by decide, ?_⟩
  have hz : Grows (rowI .u8 128 (fun _ => 0)) 0 0 128 (fun _ => 0) := ⟨by rw [rowI_length], by decide, plainI, fun i hi => by omega⟩
  refine append_b (f := fun _ => 0) (g := f) Tryd.mkK34 Tryd.slK34 (by simp only [upd_apply, sn_upto, sn_from, slN_def, run_cap, rules, rules2, loopRules, Tryd.facts, base0, Int.toNat_zero, Nat.reduceAdd, Nat.reduceMul, Nat.reduceSub, Nat.reduceLT, Nat.reduceLeDiff, Nat.reduceEqDiff, Int.reduceLE, Int.reduceLT, Int.reduceToNat, Int.reduceNe, Int.reduceEq, not_false_eq_true, Nat.reduceBEq, Nat.reduceDiv, Int.natCast_zero, Int.natCast_one, Int.reduceAdd, Int.reduceSub, reduceIte, ↓reduceIte, Value.oneCell', rowI_length, rowI_take, rowI_splice, rep_all, row_zero, le_nat, Int.toNat_natCast, Nat.zero_add, sok_row, reduceCtorEq]) hz (.inr ⟨0, o, c, false, cs, rfl, by simp only [upd_apply, sn_upto, sn_from, slN_def, run_cap, rules, rules2, loopRules, Tryd.facts, base0, Int.toNat_zero, Nat.reduceAdd, Nat.reduceMul, Nat.reduceSub, Nat.reduceLT, Nat.reduceLeDiff, Nat.reduceEqDiff, Int.reduceLE, Int.reduceLT, Int.reduceToNat, Int.reduceNe, Int.reduceEq, not_false_eq_true, Nat.reduceBEq, Nat.reduceDiv, Int.natCast_zero, Int.natCast_one, Int.reduceAdd, Int.reduceSub, reduceIte, ↓reduceIte, Value.oneCell', rowI_length, rowI_take, rowI_splice, rep_all, row_zero, le_nat, Int.toNat_natCast, Nat.zero_add, sok_row, reduceCtorEq], hc, by decide⟩) (by omega) ?_
  intro c1 cs1 hg1
  simp only [Nat.zero_add, sn_upto, sn_from, slN_def, run_cap, rules, rules2, loopRules, Tryd.facts, base0, Int.toNat_zero, Nat.reduceAdd, Nat.reduceMul, Nat.reduceSub, Nat.reduceLT, Nat.reduceLeDiff, Nat.reduceEqDiff, Int.reduceLE, Int.reduceLT, Int.reduceToNat, Int.reduceNe, Int.reduceEq, not_false_eq_true, Nat.reduceBEq, Nat.reduceDiv, Int.natCast_zero, Int.natCast_one, Int.reduceAdd, Int.reduceSub, reduceIte, ↓reduceIte, Value.oneCell', rowI_length, rowI_take, rowI_splice, rep_all, row_zero, le_nat, Int.toNat_natCast, Nat.zero_add, sok_row, reduceCtorEq]
  refine append_b (g := fun _ => 128) Tryd.mkK34 Tryd.slK34 (by simp only [upd_apply, Nat.zero_add, sn_upto, sn_from, slN_def, run_cap, rules, rules2, loopRules, Tryd.facts, base0, Int.toNat_zero, Nat.reduceAdd, Nat.reduceMul, Nat.reduceSub, Nat.reduceLT, Nat.reduceLeDiff, Nat.reduceEqDiff, Int.reduceLE, Int.reduceLT, Int.reduceToNat, Int.reduceNe, Int.reduceEq, not_false_eq_true, Nat.reduceBEq, Nat.reduceDiv, Int.natCast_zero, Int.natCast_one, Int.reduceAdd, Int.reduceSub, reduceIte, ↓reduceIte, Value.oneCell', rowI_length, rowI_take, rowI_splice, rep_all, row_zero, le_nat, Int.toNat_natCast, Nat.zero_add, sok_row, reduceCtorEq]) (hg1.congr (m := n) (g := f) (by omega) (fun i hi => by simp only [joinB]; rw [if_neg (by omega), Nat.sub_zero])) (.inr ⟨9, 0, 1, true, [Sum.inl (.int .u8 128)], rfl, by simp only [upd_apply, splice_one, sn_upto, sn_from, slN_def, run_cap, rules, rules2, loopRules, Tryd.facts, base0, Int.toNat_zero, Nat.reduceAdd, Nat.reduceMul, Nat.reduceSub, Nat.reduceLT, Nat.reduceLeDiff, Nat.reduceEqDiff, Int.reduceLE, Int.reduceLT, Int.reduceToNat, Int.reduceNe, Int.reduceEq, not_false_eq_true, Nat.reduceBEq, Nat.reduceDiv, Int.natCast_zero, Int.natCast_one, Int.reduceAdd, Int.reduceSub, reduceIte, ↓reduceIte, Value.oneCell', rowI_length, rowI_take, rowI_splice, rep_all, row_zero, le_nat, Int.toNat_natCast, Nat.zero_add, sok_row, reduceCtorEq], shows_one, by decide⟩) (by omega) ?_
  intro c2 cs2 hg2
  simp only [sn_upto, sn_from, slN_def, run_cap, rules, rules2, loopRules, Tryd.facts, base0, Int.toNat_zero, Nat.reduceAdd, Nat.reduceMul, Nat.reduceSub, Nat.reduceLT, Nat.reduceLeDiff, Nat.reduceEqDiff, Int.reduceLE, Int.reduceLT, Int.reduceToNat, Int.reduceNe, Int.reduceEq, not_false_eq_true, Nat.reduceBEq, Nat.reduceDiv, Int.natCast_zero, Int.natCast_one, Int.reduceAdd, Int.reduceSub, reduceIte, ↓reduceIte, Value.oneCell', rowI_length, rowI_take, rowI_splice, rep_all, row_zero, le_nat, Int.toNat_natCast, Nat.zero_add, sok_row, reduceCtorEq]
  have hE : 64 * (blocks l - l / 64) = if n < 56 then 64 else 128 := by
    simp only [blocks]; split <;> omega
  generalize 64 * (blocks l - l / 64) = E at *
  have hE1 : n + 9 ≤ E ∧ E ≤ 128 := by split at hE <;> omega
  have hF : ∀ i, i < E → padW (fun j => f (j - l / 64 * 64)) l (l / 64 * 64 + i) = joinB (E - 8) (joinB n f (joinB 1 (fun _ => 128) (fun _ => 0))) (fun j => lenB l j) i := fun i hi => by
    have hb : 64 * blocks l - 8 = l / 64 * 64 + (E - 8) := by simp only [blocks]; split at hE <;> omega
    simp only [padW, joinB, hb]
    by_cases h1 : i < n
    · rw [if_pos (by omega), if_pos (by omega), if_pos h1, show l / 64 * 64 + i - l / 64 * 64 = i by omega]
    · rw [if_neg (by omega)]
      by_cases h2 : i = n
      · rw [if_pos (by omega), if_pos (by omega), if_neg h1, if_pos (by omega)]
      · rw [if_neg (by omega)]
        by_cases h3 : i < E - 8
        · rw [if_pos (by omega), if_pos h3, if_neg h1, if_neg (by omega)]
        · rw [if_neg (by omega), if_neg h3, show l / 64 * 64 + i - (l / 64 * 64 + (E - 8)) = i - (E - 8) by omega]
  refine loop_anew (β := Nat × List SV) (E - 8 - (n + 1)) (fun k y => Grows y.2 0 (n + 1 + k) y.1 (joinB n f (joinB 1 (fun _ => 128) (fun _ => 0))))
    (fun k y => [(1, I .i64 l), (5, Sl 30 0 (n + 1 + k) y.1)]) (fun k y => [(30, ⟨true, y.2⟩)]) 31 (c2, cs2) ?_ ?_ ?_ (by show 12 ≤ 31; decide)
  · refine ⟨hg2.congr rfl fun i hi => ?_, 30, 10, ?_⟩
    · simp only [joinB]; split
      · rfl
      · rw [if_pos (by omega)]
    · simp only [BringsTo, ren_i, ren_s, ren_p, ren_v, hg2.plain, true_or, sn_upto, sn_from, slN_def, run_cap, rules, rules2, loopRules, Tryd.facts, base0, Int.toNat_zero, Nat.reduceAdd, Nat.reduceMul, Nat.reduceSub, Nat.reduceLT, Nat.reduceLeDiff, Nat.reduceEqDiff, Int.reduceLE, Int.reduceLT, Int.reduceToNat, Int.reduceNe, Int.reduceEq, not_false_eq_true, Nat.reduceBEq, Nat.reduceDiv, Int.natCast_zero, Int.natCast_one, Int.reduceAdd, Int.reduceSub, reduceIte, ↓reduceIte, Value.oneCell', rowI_length, rowI_take, rowI_splice, rep_all, row_zero, le_nat, Int.toNat_natCast, Nat.zero_add, sok_row, reduceCtorEq]
      simp
  · rintro k ⟨c', cs'⟩ hk h1
    simp only at h1
    have hr := remN (n + 1 + k) 64
    rw [show ((64 : Nat) : Int) = 64 from rfl] at hr
    have hne : (n + 1 + k) % 64 ≠ 56 := by split at hE <;> omega
    simp only [hr, sn_upto, sn_from, slN_def, run_cap, rules, rules2, loopRules, Tryd.facts, base0, Int.toNat_zero, Nat.reduceAdd, Nat.reduceMul, Nat.reduceSub, Nat.reduceLT, Nat.reduceLeDiff, Nat.reduceEqDiff, Int.reduceLE, Int.reduceLT, Int.reduceToNat, Int.reduceNe, Int.reduceEq, not_false_eq_true, Nat.reduceBEq, Nat.reduceDiv, Int.natCast_zero, Int.natCast_one, Int.reduceAdd, Int.reduceSub, reduceIte, ↓reduceIte, Value.oneCell', rowI_length, rowI_take, rowI_splice, rep_all, row_zero, le_nat, Int.toNat_natCast, Nat.zero_add, sok_row, reduceCtorEq]
    refine vcIf_yes (by simp; omega) ?_
    simp only [sn_upto, sn_from, slN_def, run_cap, rules, rules2, loopRules, Tryd.facts, base0, Int.toNat_zero, Nat.reduceAdd, Nat.reduceMul, Nat.reduceSub, Nat.reduceLT, Nat.reduceLeDiff, Nat.reduceEqDiff, Int.reduceLE, Int.reduceLT, Int.reduceToNat, Int.reduceNe, Int.reduceEq, not_false_eq_true, Nat.reduceBEq, Nat.reduceDiv, Int.natCast_zero, Int.natCast_one, Int.reduceAdd, Int.reduceSub, reduceIte, ↓reduceIte, Value.oneCell', rowI_length, rowI_take, rowI_splice, rep_all, row_zero, le_nat, Int.toNat_natCast, Nat.zero_add, sok_row, reduceCtorEq]
    refine append_b (g := fun _ => 0) Tryd.mkK34 Tryd.slK34 (by simp only [upd_apply, sn_upto, sn_from, slN_def, run_cap, rules, rules2, loopRules, Tryd.facts, base0, Int.toNat_zero, Nat.reduceAdd, Nat.reduceMul, Nat.reduceSub, Nat.reduceLT, Nat.reduceLeDiff, Nat.reduceEqDiff, Int.reduceLE, Int.reduceLT, Int.reduceToNat, Int.reduceNe, Int.reduceEq, not_false_eq_true, Nat.reduceBEq, Nat.reduceDiv, Int.natCast_zero, Int.natCast_one, Int.reduceAdd, Int.reduceSub, reduceIte, ↓reduceIte, Value.oneCell', rowI_length, rowI_take, rowI_splice, rep_all, row_zero, le_nat, Int.toNat_natCast, Nat.zero_add, sok_row, reduceCtorEq]) h1 (.inr ⟨_, _, _, true, [Sum.inl (.int .u8 0)], rfl, by simp only [upd_apply, splice_one, sn_upto, sn_from, slN_def, run_cap, rules, rules2, loopRules, Tryd.facts, base0, Int.toNat_zero, Nat.reduceAdd, Nat.reduceMul, Nat.reduceSub, Nat.reduceLT, Nat.reduceLeDiff, Nat.reduceEqDiff, Int.reduceLE, Int.reduceLT, Int.reduceToNat, Int.reduceNe, Int.reduceEq, not_false_eq_true, Nat.reduceBEq, Nat.reduceDiv, Int.natCast_zero, Int.natCast_one, Int.reduceAdd, Int.reduceSub, reduceIte, ↓reduceIte, Value.oneCell', rowI_length, rowI_take, rowI_splice, rep_all, row_zero, le_nat, Int.toNat_natCast, Nat.zero_add, sok_row, reduceCtorEq], shows_one, by decide⟩) (by omega) ?_
    intro c3 cs3 hg3
    simp only [sn_upto, sn_from, slN_def, run_cap, rules, rules2, loopRules, Tryd.facts, base0, Int.toNat_zero, Nat.reduceAdd, Nat.reduceMul, Nat.reduceSub, Nat.reduceLT, Nat.reduceLeDiff, Nat.reduceEqDiff, Int.reduceLE, Int.reduceLT, Int.reduceToNat, Int.reduceNe, Int.reduceEq, not_false_eq_true, Nat.reduceBEq, Nat.reduceDiv, Int.natCast_zero, Int.natCast_one, Int.reduceAdd, Int.reduceSub, reduceIte, ↓reduceIte, Value.oneCell', rowI_length, rowI_take, rowI_splice, rep_all, row_zero, le_nat, Int.toNat_natCast, Nat.zero_add, sok_row, reduceCtorEq]
    refine ⟨(c3, cs3), hg3.congr (by omega) fun i hi => ?_, 30, 37, ?_⟩
    · by_cases h : i < n + 1 + k
      · simp only [joinB, if_pos h]
      · simp only [joinB]; rw [if_neg h, if_neg (by omega), if_neg (by omega)]
    · simp only [BringsTo, ren_i, ren_s, ren_p, ren_v, hg3.plain, true_or, sn_upto, sn_from, slN_def, run_cap, rules, rules2, loopRules, Tryd.facts, base0, Int.toNat_zero, Nat.reduceAdd, Nat.reduceMul, Nat.reduceSub, Nat.reduceLT, Nat.reduceLeDiff, Nat.reduceEqDiff, Int.reduceLE, Int.reduceLT, Int.reduceToNat, Int.reduceNe, Int.reduceEq, not_false_eq_true, Nat.reduceBEq, Nat.reduceDiv, Int.natCast_zero, Int.natCast_one, Int.reduceAdd, Int.reduceSub, reduceIte, ↓reduceIte, Value.oneCell', rowI_length, rowI_take, rowI_splice, rep_all, row_zero, le_nat, Int.toNat_natCast, Nat.zero_add, sok_row, reduceCtorEq]
      simp [Nat.add_assoc]
  · rintro ⟨c', cs'⟩ h1
    simp only at h1
    have hr := remN (n + 1 + (E - 8 - (n + 1))) 64
    rw [show ((64 : Nat) : Int) = 64 from rfl] at hr
    have hne : (n + 1 + (E - 8 - (n + 1))) % 64 = 56 := by split at hE <;> omega
    simp only [hr, sn_upto, sn_from, slN_def, run_cap, rules, rules2, loopRules, Tryd.facts, base0, Int.toNat_zero, Nat.reduceAdd, Nat.reduceMul, Nat.reduceSub, Nat.reduceLT, Nat.reduceLeDiff, Nat.reduceEqDiff, Int.reduceLE, Int.reduceLT, Int.reduceToNat, Int.reduceNe, Int.reduceEq, not_false_eq_true, Nat.reduceBEq, Nat.reduceDiv, Int.natCast_zero, Int.natCast_one, Int.reduceAdd, Int.reduceSub, reduceIte, ↓reduceIte, Value.oneCell', rowI_length, rowI_take, rowI_splice, rep_all, row_zero, le_nat, Int.toNat_natCast, Nat.zero_add, sok_row, reduceCtorEq]
    refine vcIf_no (by rw [hne]; rfl) ?_
    simp only [sn_upto, sn_from, slN_def, run_cap, rules, rules2, loopRules, Tryd.facts, base0, Int.toNat_zero, Nat.reduceAdd, Nat.reduceMul, Nat.reduceSub, Nat.reduceLT, Nat.reduceLeDiff, Nat.reduceEqDiff, Int.reduceLE, Int.reduceLT, Int.reduceToNat, Int.reduceNe, Int.reduceEq, not_false_eq_true, Nat.reduceBEq, Nat.reduceDiv, Int.natCast_zero, Int.natCast_one, Int.reduceAdd, Int.reduceSub, reduceIte, ↓reduceIte, Value.oneCell', rowI_length, rowI_take, rowI_splice, rep_all, row_zero, le_nat, Int.toNat_natCast, Nat.zero_add, sok_row, reduceCtorEq]
    refine made_eat (appendU64_m h1 (by omega)) (t := 30) (by simp only [upd_apply, sn_upto, sn_from, slN_def, run_cap, rules, rules2, loopRules, Tryd.facts, base0, Int.toNat_zero, Nat.reduceAdd, Nat.reduceMul, Nat.reduceSub, Nat.reduceLT, Nat.reduceLeDiff, Nat.reduceEqDiff, Int.reduceLE, Int.reduceLT, Int.reduceToNat, Int.reduceNe, Int.reduceEq, not_false_eq_true, Nat.reduceBEq, Nat.reduceDiv, Int.natCast_zero, Int.natCast_one, Int.reduceAdd, Int.reduceSub, reduceIte, ↓reduceIte, Value.oneCell', rowI_length, rowI_take, rowI_splice, rep_all, row_zero, le_nat, Int.toNat_natCast, Nat.zero_add, sok_row, reduceCtorEq]) h1.plain rfl ?_
    intro c3 cs3 hg3
    simp only [sn_upto, sn_from, slN_def, run_cap, rules, rules2, loopRules, Tryd.facts, base0, Int.toNat_zero, Nat.reduceAdd, Nat.reduceMul, Nat.reduceSub, Nat.reduceLT, Nat.reduceLeDiff, Nat.reduceEqDiff, Int.reduceLE, Int.reduceLT, Int.reduceToNat, Int.reduceNe, Int.reduceEq, not_false_eq_true, Nat.reduceBEq, Nat.reduceDiv, Int.natCast_zero, Int.natCast_one, Int.reduceAdd, Int.reduceSub, reduceIte, ↓reduceIte, Value.oneCell', rowI_length, rowI_take, rowI_splice, rep_all, row_zero, le_nat, Int.toNat_natCast, Nat.zero_add, sok_row, reduceCtorEq]
    have hfin : ∀ i, i < E → joinB (n + 1 + (E - 8 - (n + 1))) (joinB n f (joinB 1 (fun _ => 128) (fun _ => 0))) (u64B (IntKind.u64.wrap (IntKind.u64.wrap (l : Int) * 8))) i = padW (fun j => f (j - l / 64 * 64)) l (l / 64 * 64 + i) := fun i hi => by
      rw [hF i hi]
      simp only [joinB]
      by_cases h : i < E - 8
      · rw [if_pos (by omega), if_pos h]
      · rw [if_neg (by omega), if_neg h, show n + 1 + (E - 8 - (n + 1)) = E - 8 by omega, u64B_len hl (by omega)]
    exact ret_grows (k := 1) (by decide) (hg3.congr rfl fun i hi => hfin i (by omega)) (by simp only [upd_apply, sn_upto, sn_from, slN_def, run_cap, rules, rules2, loopRules, Tryd.facts, base0, Int.toNat_zero, Nat.reduceAdd, Nat.reduceMul, Nat.reduceSub, Nat.reduceLT, Nat.reduceLeDiff, Nat.reduceEqDiff, Int.reduceLE, Int.reduceLT, Int.reduceToNat, Int.reduceNe, Int.reduceEq, not_false_eq_true, Nat.reduceBEq, Nat.reduceDiv, Int.natCast_zero, Int.natCast_one, Int.reduceAdd, Int.reduceSub, reduceIte, ↓reduceIte, Value.oneCell', rowI_length, rowI_take, rowI_splice, rep_all, row_zero, le_nat, Int.toNat_natCast, Nat.zero_add, sok_row, reduceCtorEq]) (by omega)
set_option maxHeartbeats 8000000 in
set_option maxRecDepth 20000 in
theorem digest_m {n o c : Nat} {f : Nat → Int} {cs : List SV} (hf : Byt f) (hc : Shows cs o n f) (hp : cs.all SV.plain = true) (hn : n < 140737488355328) (hcap : n ≤ c) :
    MFun Tryd.prog 26 [Sl 0 o n c] 1 (lk [(0, ⟨false, cs⟩)]) (fun u out => u = Ag (rowI .u8 32 (shaW kW ivW f n)) ∧ out = fun _ => none) := by
  refine mfun_of_vc Tryd.func26 rfl (by kernel_rfl) (by simp [Tryd.ntmps26]) Tryd.callable26 (by simp [AV.ok, CV.ok, SV.names]) all1 (inn1 hp) ?_
  have ok1 : ∀ {M : Nat → Prop}, (∀ x ∈ cs, SV.ok M x) = True := eq_true (ok_all hp)
  have hr := remN n 64
  rw [show ((64 : Nat) : Int) = 64 from rfl] at hr
  have w1 : IntKind.i64.wrap ((n : Int) - ((n % 64 : Nat) : Int)) = ((64 * (n / 64) : Nat) : Int) := by rw [wrap_i64 _ (by omega) (by omega)]; omega
  have l1 : (((64 * (n / 64) : Nat) : Int) ≤ (c : Int)) = True := eq_true (by omega)
  have l2 : (((64 * (n / 64) : Nat) : Int) ≤ (n : Int)) = True := eq_true (by omega)
  have l3 : ((n : Int) ≤ (c : Int)) = True := eq_true (by omega)
  simp only [Tryd.results26, hr, w1, l1, l2, l3, nat_nn, sn_upto, sn_from, slN_def, run_cap, rules, rules2, loopRules, Tryd.facts, base0, Int.toNat_zero, Nat.reduceAdd, Nat.reduceMul, Nat.reduceSub, Nat.reduceLT, Nat.reduceLeDiff, Nat.reduceEqDiff, Int.reduceLE, Int.reduceLT, Int.reduceToNat, Int.reduceNe, Int.reduceEq, not_false_eq_true, Nat.reduceBEq, Nat.reduceDiv, Int.natCast_zero, Int.natCast_one, Int.reduceAdd, Int.reduceSub, reduceIte, ↓reduceIte, Value.oneCell', splice, reduceCtorEq]
  have ivE : [Sum.inl (Value.int IntKind.u32 1779033703), Sum.inl (Value.int IntKind.u32 3144134277), Sum.inl (Value.int IntKind.u32 1013904242), Sum.inl (Value.int IntKind.u32 2773480762), Sum.inl (Value.int IntKind.u32 1359893119), Sum.inl (Value.int IntKind.u32 2600822924), Sum.inl (Value.int IntKind.u32 528734635), Sum.inl (Value.int IntKind.u32 1541459225)] = rowI .u32 8 ivW := rfl
  have z8 : ∀ r r' : Nat → Int, splice (rowI .u32 8 r') 0 (rowI .u32 8 r) = rowI .u32 8 r := fun r r' => rowI_splice .u32 8 _ _
  refine ⟨rep_all _ _ _, by kernel_rfl, ?_⟩
  simp only [ivE, Int.toNat_natCast]
  refine (absorbed_m (c := c) (m := n / 64) ivW_bd hf (shows_mono hc (by omega)) (by omega) (by omega) hp).drawRead (fun _ => 0) (fits1 (rw := false) (by simp only [upd_apply, sn_upto, sn_from, slN_def, run_cap, rules, rules2, loopRules, Tryd.facts, base0, Int.toNat_zero, Nat.reduceAdd, Nat.reduceMul, Nat.reduceSub, Nat.reduceLT, Nat.reduceLeDiff, Nat.reduceEqDiff, Int.reduceLE, Int.reduceLT, Int.reduceToNat, Int.reduceNe, Int.reduceEq, not_false_eq_true, Nat.reduceBEq, Nat.reduceDiv, Int.natCast_zero, Int.natCast_one, Int.reduceAdd, Int.reduceSub, reduceIte, ↓reduceIte, Value.oneCell', rowI_length, rowI_take, rowI_splice, rep_all, row_zero, le_nat, Int.toNat_natCast, Nat.zero_add, sok_row, reduceCtorEq]) hp) plainI (by rfl) (fun M h _ _ => h (Sl 0 o (64 * (n / 64)) c) (List.Mem.tail _ (List.Mem.head _))) ?_
  have hsh : ∀ o', (o' = o + 64 * (n / 64) ∨ c = 64 * (n / 64)) → Shows cs o' (n - 64 * (n / 64)) (fun i => f (64 * (n / 64) + i)) := fun o' h => by
    rcases h with rfl | h
    · exact shows_sub hc _ _ (by omega)
    · intro i hi; omega
  have ho : (if c = 64 * (n / 64) then o else o + 64 * (n / 64)) = o + 64 * (n / 64) ∨ c = 64 * (n / 64) := by
    split
    · exact .inr ‹_›
    · exact .inl rfl
  have hs := hsh _ ho
  simp only [z8, l1, l2, l3, nat_nn, Nat.mul_one, sn_upto, sn_from, slN_def, run_cap, rules, rules2, loopRules, Tryd.facts, base0, Int.toNat_zero, Nat.reduceAdd, Nat.reduceMul, Nat.reduceSub, Nat.reduceLT, Nat.reduceLeDiff, Nat.reduceEqDiff, Int.reduceLE, Int.reduceLT, Int.reduceToNat, Int.reduceNe, Int.reduceEq, not_false_eq_true, Nat.reduceBEq, Nat.reduceDiv, Int.natCast_zero, Int.natCast_one, Int.reduceAdd, Int.reduceSub, reduceIte, ↓reduceIte, Value.oneCell', rowI_length, rowI_take, rowI_splice, rep_all, row_zero, le_nat, Int.toNat_natCast, Nat.zero_add, sok_row, reduceCtorEq]
  generalize (if c = 64 * (n / 64) then o else o + 64 * (n / 64)) = o' at hs ⊢
  have w2 : IntKind.i64.wrap ((n : Nat) : Int) = (n : Int) := wrapN n (by omega)
  refine ⟨by kernel_rfl, ?_⟩
  refine made_late (padded_m (c := c - 64 * (n / 64)) (l := n) hs hp (by omega) (by omega) (by omega)) (fun _ => 0) (fits1 (rw := false) (by simp only [upd_apply, sn_upto, sn_from, slN_def, run_cap, rules, rules2, loopRules, Tryd.facts, base0, Int.toNat_zero, Nat.reduceAdd, Nat.reduceMul, Nat.reduceSub, Nat.reduceLT, Nat.reduceLeDiff, Nat.reduceEqDiff, Int.reduceLE, Int.reduceLT, Int.reduceToNat, Int.reduceNe, Int.reduceEq, not_false_eq_true, Nat.reduceBEq, Nat.reduceDiv, Int.natCast_zero, Int.natCast_one, Int.reduceAdd, Int.reduceSub, reduceIte, ↓reduceIte, Value.oneCell', rowI_length, rowI_take, rowI_splice, rep_all, row_zero, le_nat, Int.toNat_natCast, Nat.zero_add, sok_row, reduceCtorEq]) hp) rfl (fun M h _ _ => h (Sl 0 o' _ _) (List.Mem.head _)) (by kernel_rfl) ?_
  intro c1 tail1 h1 h2 h3
  simp only [sn_upto, sn_from, slN_def, run_cap, rules, rules2, loopRules, Tryd.facts, base0, Int.toNat_zero, Nat.reduceAdd, Nat.reduceMul, Nat.reduceSub, Nat.reduceLT, Nat.reduceLeDiff, Nat.reduceEqDiff, Int.reduceLE, Int.reduceLT, Int.reduceToNat, Int.reduceNe, Int.reduceEq, not_false_eq_true, Nat.reduceBEq, Nat.reduceDiv, Int.natCast_zero, Int.natCast_one, Int.reduceAdd, Int.reduceSub, reduceIte, ↓reduceIte, Value.oneCell', rowI_length, rowI_take, rowI_splice, rep_all, row_zero, le_nat, Int.toNat_natCast, Nat.zero_add, sok_row, reduceCtorEq]
  have hB : blocks n - n / 64 + n / 64 = blocks n := by simp only [blocks]; omega
  have hb2 : 64 * (blocks n - n / 64) ≤ 128 := by simp only [blocks]; omega
  have hpb : Byt (fun i => padW (fun j => f (64 * (n / 64) + (j - n / 64 * 64))) n (n / 64 * 64 + i)) := fun i => padW_byt (fun j => hf _) n _
  refine (absorbed_m (o := 0) (c := c1) (m := blocks n - n / 64) (absW_bd ivW_bd _) hpb shows_row h1 (by omega) (plainT h3)).drawRead (fun _ => 24) (fits1 (rw := true) (by simp only [upd_apply, sn_upto, sn_from, slN_def, run_cap, rules, rules2, loopRules, Tryd.facts, base0, Int.toNat_zero, Nat.reduceAdd, Nat.reduceMul, Nat.reduceSub, Nat.reduceLT, Nat.reduceLeDiff, Nat.reduceEqDiff, Int.reduceLE, Int.reduceLT, Int.reduceToNat, Int.reduceNe, Int.reduceEq, not_false_eq_true, Nat.reduceBEq, Nat.reduceDiv, Int.natCast_zero, Int.natCast_one, Int.reduceAdd, Int.reduceSub, reduceIte, ↓reduceIte, Value.oneCell', rowI_length, rowI_take, rowI_splice, rep_all, row_zero, le_nat, Int.toNat_natCast, Nat.zero_add, sok_row, reduceCtorEq]) (plainT h3)) plainI (by rfl) (fun M h _ _ => h (Sl 24 0 (64 * (blocks n - n / 64)) c1) (List.Mem.tail _ (List.Mem.head _))) ?_
  have eA : absW kW (absW kW ivW f (n / 64)) (fun i => padW (fun j => f (64 * (n / 64) + (j - n / 64 * 64))) n (n / 64 * 64 + i)) (blocks n - n / 64) = absW kW ivW (padW f n) (blocks n) := by
    have h1 : absW kW ivW f (n / 64) = absW kW ivW (padW f n) (n / 64) := absW_cong _ fun i hi => by simp only [padW]; rw [if_pos (by omega)]
    have h2 := absW_add kW ivW (padW f n) (n / 64) (blocks n - n / 64)
    rw [show n / 64 + (blocks n - n / 64) = blocks n by omega] at h2
    rw [h2, h1]
    refine absW_cong _ fun i hi => ?_
    simp only [padW]
    rw [show n / 64 * 64 + i = 64 * (n / 64) + i by omega, show 64 * (n / 64) + (64 * (n / 64) + i - n / 64 * 64) = 64 * (n / 64) + i by omega]
  rw [eA]
  simp only [z8, sn_upto, sn_from, slN_def, run_cap, rules, rules2, loopRules, Tryd.facts, base0, Int.toNat_zero, Nat.reduceAdd, Nat.reduceMul, Nat.reduceSub, Nat.reduceLT, Nat.reduceLeDiff, Nat.reduceEqDiff, Int.reduceLE, Int.reduceLT, Int.reduceToNat, Int.reduceNe, Int.reduceEq, not_false_eq_true, Nat.reduceBEq, Nat.reduceDiv, Int.natCast_zero, Int.natCast_one, Int.reduceAdd, Int.reduceSub, reduceIte, ↓reduceIte, Value.oneCell', rowI_length, rowI_take, rowI_splice, rep_all, row_zero, le_nat, Int.toNat_natCast, Nat.zero_add, sok_row, reduceCtorEq]
  refine (wordsKey_fun _).vcCall ?_
  simp only [sn_upto, sn_from, slN_def, run_cap, rules, rules2, loopRules, Tryd.facts, base0, Int.toNat_zero, Nat.reduceAdd, Nat.reduceMul, Nat.reduceSub, Nat.reduceLT, Nat.reduceLeDiff, Nat.reduceEqDiff, Int.reduceLE, Int.reduceLT, Int.reduceToNat, Int.reduceNe, Int.reduceEq, not_false_eq_true, Nat.reduceBEq, Nat.reduceDiv, Int.natCast_zero, Int.natCast_one, Int.reduceAdd, Int.reduceSub, reduceIte, ↓reduceIte, Value.oneCell', rowI_length, rowI_take, rowI_splice, rep_all, row_zero, le_nat, Int.toNat_natCast, Nat.zero_add, sok_row, reduceCtorEq]
  exact ret_plain plainI ⟨rfl, rfl⟩
theorem digest_call {s : AS} {nm t o n c : Nat} {rw : Bool} {f : Nat → Int} {cs : List SV} (hf : Byt f) (hb : s.box t = some ⟨rw, cs⟩) (hc : Shows cs o n f) (hp : cs.all SV.plain = true) (hn : n < 140737488355328) (hcap : n ≤ c) {dst : Option Nat} {K : AS → Prop}
    (hk : K (s.put dst (some (Ag (rowI .u8 32 (shaW kW ivW f n)))))) : vcCall Tryd.prog nm 26 (some [Sl t o n c]) dst K s :=
  (digest_m hf hc hp hn hcap).vcRead (fun _ => t) (fits1 hb hp) plainI rfl hk
theorem digest_draw {s : AS} {nm t o n c : Nat} {rw : Bool} {f : Nat → Int} {cs : List SV} (hf : Byt f) (hb : s.box t = some ⟨rw, cs⟩) (hc : Shows cs o n f) (hp : cs.all SV.plain = true) (hn : n < 140737488355328) (hcap : n ≤ c) {ops : Array Oper} {i : Nat} {dst : Option Nat} {K : AS → Prop}
    (hk : K (s.put dst (some (Ag (rowI .u8 32 (shaW kW ivW f n)))))) : vcFun Tryd.prog ops i nm 26 (some [Sl t o n c]) dst K s :=
  (digest_m hf hc hp hn hcap).drawRead (fun _ => t) (fits1 hb hp) plainI rfl (fun M h _ _ => h (Sl t o n c) (List.Mem.head _)) hk
/-- Room for n bytes. -/
def Roomy (n : Nat) (v : AV) (out : Nat → Option Box) : Prop := (n = 0 ∧ v = V (.slice none 0 0) ∧ out = fun _ => none) ∨ (0 < n ∧ ∃ c cs, v = Sl 0 0 0 c ∧ out = lk [(0, ⟨true, cs⟩)] ∧ Grows cs 0 0 c (fun _ => 0))
set_option maxHeartbeats 8000000 in
set_option maxRecDepth 20000 in
theorem grow_m {n : Nat} (hn : n ≤ 140737488355328) : MFun Tryd.prog 43 [V (.slice none 0 0), I .i64 n] 0 (fun _ => none) (Roomy n) := by
  refine mfun_of_vc Tryd.func43 rfl (by kernel_rfl) (by simp [Tryd.ntmps43]) Tryd.callable43 (by simp [AV.ok, CV.ok, SV.names]) all0 inn0 ?_
  have w0 : IntKind.i64.wrap 0 = 0 := rfl
  have w1 : IntKind.i64.wrap ((n : Int) - 0) = (n : Int) := by rw [wrap_i64 _ (by omega) (by omega)]; omega
  simp only [Tryd.results43, sn_upto, sn_from, slN_def, run_cap, rules, rules2, loopRules, Tryd.facts, base0, Int.toNat_zero, Nat.reduceAdd, Nat.reduceMul, Nat.reduceSub, Nat.reduceLT, Nat.reduceLeDiff, Nat.reduceEqDiff, Int.reduceLE, Int.reduceLT, Int.reduceToNat, Int.reduceNe, Int.reduceEq, not_false_eq_true, Nat.reduceBEq, Nat.reduceDiv, Int.natCast_zero, Int.natCast_one, Int.reduceAdd, Int.reduceSub, reduceIte, ↓reduceIte, Value.oneCell', rowI_length, rowI_take, rowI_splice, rep_all, row_zero, le_nat, Int.toNat_natCast, Nat.zero_add, sok_row, reduceCtorEq]
  refine vcIf_no (by simp) ?_
  simp only [sn_upto, sn_from, slN_def, run_cap, rules, rules2, loopRules, Tryd.facts, base0, Int.toNat_zero, Nat.reduceAdd, Nat.reduceMul, Nat.reduceSub, Nat.reduceLT, Nat.reduceLeDiff, Nat.reduceEqDiff, Int.reduceLE, Int.reduceLT, Int.reduceToNat, Int.reduceNe, Int.reduceEq, not_false_eq_true, Nat.reduceBEq, Nat.reduceDiv, Int.natCast_zero, Int.natCast_one, Int.reduceAdd, Int.reduceSub, reduceIte, ↓reduceIte, Value.oneCell', rowI_length, rowI_take, rowI_splice, rep_all, row_zero, le_nat, Int.toNat_natCast, Nat.zero_add, sok_row, reduceCtorEq]
  refine vc_cap_nil Tryd.slK34 ?_
  simp only [w0, w1, Int.sub_self, sn_upto, sn_from, slN_def, run_cap, rules, rules2, loopRules, Tryd.facts, base0, Int.toNat_zero, Nat.reduceAdd, Nat.reduceMul, Nat.reduceSub, Nat.reduceLT, Nat.reduceLeDiff, Nat.reduceEqDiff, Int.reduceLE, Int.reduceLT, Int.reduceToNat, Int.reduceNe, Int.reduceEq, not_false_eq_true, Nat.reduceBEq, Nat.reduceDiv, Int.natCast_zero, Int.natCast_one, Int.reduceAdd, Int.reduceSub, reduceIte, ↓reduceIte, Value.oneCell', rowI_length, rowI_take, rowI_splice, rep_all, row_zero, le_nat, Int.toNat_natCast, Nat.zero_add, sok_row, reduceCtorEq]
  rcases Nat.eq_zero_or_pos n with rfl | hpos
  · refine vcIf_no (by simp) ?_
    simp only [sn_upto, sn_from, slN_def, run_cap, rules, rules2, loopRules, Tryd.facts, base0, Int.toNat_zero, Nat.reduceAdd, Nat.reduceMul, Nat.reduceSub, Nat.reduceLT, Nat.reduceLeDiff, Nat.reduceEqDiff, Int.reduceLE, Int.reduceLT, Int.reduceToNat, Int.reduceNe, Int.reduceEq, not_false_eq_true, Nat.reduceBEq, Nat.reduceDiv, Int.natCast_zero, Int.natCast_one, Int.reduceAdd, Int.reduceSub, reduceIte, ↓reduceIte, Value.oneCell', rowI_length, rowI_take, rowI_splice, rep_all, row_zero, le_nat, Int.toNat_natCast, Nat.zero_add, sok_row, reduceCtorEq]
    exact ⟨0, V (.slice none 0 0), fun _ => none, Nat.le_refl _, rfl, trivial, fun n b hb => (by cases hb), .inl ⟨rfl, rfl, rfl⟩⟩
  · refine vcIf_yes (by simp; omega) ?_
    simp only [sn_upto, sn_from, slN_def, run_cap, rules, rules2, loopRules, Tryd.facts, base0, Int.toNat_zero, Nat.reduceAdd, Nat.reduceMul, Nat.reduceSub, Nat.reduceLT, Nat.reduceLeDiff, Nat.reduceEqDiff, Int.reduceLE, Int.reduceLT, Int.reduceToNat, Int.reduceNe, Int.reduceEq, not_false_eq_true, Nat.reduceBEq, Nat.reduceDiv, Int.natCast_zero, Int.natCast_one, Int.reduceAdd, Int.reduceSub, reduceIte, ↓reduceIte, Value.oneCell', rowI_length, rowI_take, rowI_splice, rep_all, row_zero, le_nat, Int.toNat_natCast, Nat.zero_add, sok_row, reduceCtorEq]
    refine vc_cap_nil Tryd.slK34 ?_
    simp only [Int.toNat_zero, Nat.sub_self, sn_upto, sn_from, slN_def, run_cap, rules, rules2, loopRules, Tryd.facts, base0, Int.toNat_zero, Nat.reduceAdd, Nat.reduceMul, Nat.reduceSub, Nat.reduceLT, Nat.reduceLeDiff, Nat.reduceEqDiff, Int.reduceLE, Int.reduceLT, Int.reduceToNat, Int.reduceNe, Int.reduceEq, not_false_eq_true, Nat.reduceBEq, Nat.reduceDiv, Int.natCast_zero, Int.natCast_one, Int.reduceAdd, Int.reduceSub, reduceIte, ↓reduceIte, Value.oneCell', rowI_length, rowI_take, rowI_splice, rep_all, row_zero, le_nat, Int.toNat_natCast, Nat.zero_add, sok_row, reduceCtorEq]
    refine vc_nil_zeros (kn := .i64) Tryd.mkK34 Tryd.kind3 hpos hn ?_
    intro c cs hg
    simp only [nat_nn, nat_le_eq hg.room, sn_upto, sn_from, slN_def, run_cap, rules, rules2, loopRules, Tryd.facts, base0, Int.toNat_zero, Nat.reduceAdd, Nat.reduceMul, Nat.reduceSub, Nat.reduceLT, Nat.reduceLeDiff, Nat.reduceEqDiff, Int.reduceLE, Int.reduceLT, Int.reduceToNat, Int.reduceNe, Int.reduceEq, not_false_eq_true, Nat.reduceBEq, Nat.reduceDiv, Int.natCast_zero, Int.natCast_one, Int.reduceAdd, Int.reduceSub, reduceIte, ↓reduceIte, Value.oneCell', rowI_length, rowI_take, rowI_splice, rep_all, row_zero, le_nat, Int.toNat_natCast, Nat.zero_add, sok_row, reduceCtorEq]
    refine ret_new (k := 0) (q := 18) (cs := cs) (by decide) (by simp only [upd_apply, sn_upto, sn_from, slN_def, run_cap, rules, rules2, loopRules, Tryd.facts, base0, Int.toNat_zero, Nat.reduceAdd, Nat.reduceMul, Nat.reduceSub, Nat.reduceLT, Nat.reduceLeDiff, Nat.reduceEqDiff, Int.reduceLE, Int.reduceLT, Int.reduceToNat, Int.reduceNe, Int.reduceEq, not_false_eq_true, Nat.reduceBEq, Nat.reduceDiv, Int.natCast_zero, Int.natCast_one, Int.reduceAdd, Int.reduceSub, reduceIte, ↓reduceIte, Value.oneCell', rowI_length, rowI_take, rowI_splice, rep_all, row_zero, le_nat, Int.toNat_natCast, Nat.zero_add, sok_row, reduceCtorEq]) hg.plain (.inr ⟨hpos, c, cs, rfl, rfl, ?_⟩)
    exact ⟨hg.len, Nat.zero_le _, hg.plain, fun i hi => by omega⟩
/-- The lengths of the first j parts, and their bytes one behind the other. -/
def totN (n : Nat → Nat) : Nat → Nat
  | 0 => 0
  | j + 1 => totN n j + n j
def catN (n : Nat → Nat) (f : Nat → Nat → Int) : Nat → Nat → Int
  | 0 => fun _ => 0
  | j + 1 => joinB (totN n j) (catN n f j) (f j)
theorem totN_mono (n : Nat → Nat) {j m : Nat} (h : j ≤ m) : totN n j ≤ totN n m := by
  induction m with
  | zero => rw [show j = 0 by omega]; exact Nat.le_refl _
  | succ m ih =>
    by_cases e : j = m + 1
    · rw [e]; exact Nat.le_refl _
    · have := ih (by omega); simp only [totN]; omega
/-- Boxes 0 .. k-1: box 0 holds m slices from o on, each nil or of one of the others. -/
structure Parts (l : List (Nat × Box)) (cs0 : List SV) (k o m : Nat) (n : Nat → Nat) (f : Nat → Nat → Int) : Prop where
  ro : ∀ x ∈ l, x.2.rw = false
  all : ∀ i, i < k → ∃ b, lk l i = some b
  inn : ∀ x ∈ l, x.1 < k ∧ lk l x.1 = some x.2 ∧ ∀ y ∈ x.2.cells, SV.ok (fun n => n < k) y
  zero : lk l 0 = some ⟨false, cs0⟩
  part : ∀ j, j < m → ∃ sv, cs0[o + j]? = some sv ∧ BytesAt (lk l) (.inl (.inl sv)) (n j) (f j)
theorem bytes_len {box : Nat → Option Box} {v : AV} {n : Nat} {f : Nat → Int} (h : BytesAt box v n f) : effLen 1 (some [v]) = some (some (I .i64 n), none) := by
  rcases h with ⟨⟨a, rfl⟩, rfl⟩ | ⟨t, o, c, rw, cs, rfl, _⟩ <;> rfl
set_option maxHeartbeats 8000000 in
set_option maxRecDepth 20000 in
theorem concat_m {l : List (Nat × Box)} {cs0 : List SV} {k o m c : Nat} {n : Nat → Nat} {f : Nat → Nat → Int} (hl : Parts l cs0 k o m n f) (hk : 0 < k) (hk2 : k ≤ 20) (hm : m < 4611686018427387904) (hN : totN n m ≤ 140737488355328) :
    MFun Tryd.prog 28 [Sl 0 o m c] k (lk l) (Bytes k (totN n m) (catN n f m)) := by
  refine mfun_of_vc Tryd.func28 rfl (by kernel_rfl) (by simp [Tryd.ntmps28]) Tryd.callable28 (by simp [AV.ok, CV.ok, SV.names]; exact hk) hl.all (fun i b hb => ⟨(hl.inn _ (lk_mem _ _ _ hb)).1, (hl.inn _ (lk_mem _ _ _ hb)).2.2⟩) ?_
  have hz := hl.zero
  have hin : ∀ (next : Nat), k ≤ next → ∀ p ∈ l, lk l p.1 = some p.2 ∧ p.1 < next ∧ ∀ x ∈ p.2.cells, SV.ok (fun n => n < next) x := fun next hn p hp => ⟨(hl.inn p hp).2.1, by have := (hl.inn p hp).1; omega, fun y hy => SV.ok_mono (fun n h => by omega) ((hl.inn p hp).2.2 y hy)⟩
  simp only [Tryd.results28, sn_upto, sn_from, slN_def, run_cap, rules, rules2, loopRules, Tryd.facts, base0, Int.toNat_zero, Nat.reduceAdd, Nat.reduceMul, Nat.reduceSub, Nat.reduceLT, Nat.reduceLeDiff, Nat.reduceEqDiff, Int.reduceLE, Int.reduceLT, Int.reduceToNat, Int.reduceNe, Int.reduceEq, not_false_eq_true, Nat.reduceBEq, Nat.reduceDiv, Int.natCast_zero, Int.natCast_one, Int.reduceAdd, Int.reduceSub, reduceIte, ↓reduceIte, Value.oneCell', rowI_length, rowI_take, rowI_splice, rep_all, row_zero, le_nat, Int.toNat_natCast, Nat.zero_add, sok_row, reduceCtorEq]
  refine loop_count m (fun j => [(0, Sl 0 o m c), (3, I .i64 (totN n j)), (9, Sl 0 o m c), (10, I .i64 m), (11, I .i64 j)]) (fun j => l) _ ?_ ?_ ?_
  · simp only [totN, sn_upto, sn_from, slN_def, run_cap, rules, rules2, loopRules, Tryd.facts, base0, Int.toNat_zero, Nat.reduceAdd, Nat.reduceMul, Nat.reduceSub, Nat.reduceLT, Nat.reduceLeDiff, Nat.reduceEqDiff, Int.reduceLE, Int.reduceLT, Int.reduceToNat, Int.reduceNe, Int.reduceEq, not_false_eq_true, Nat.reduceBEq, Nat.reduceDiv, Int.natCast_zero, Int.natCast_one, Int.reduceAdd, Int.reduceSub, reduceIte, ↓reduceIte, Value.oneCell', rowI_length, rowI_take, rowI_splice, rep_all, row_zero, le_nat, Int.toNat_natCast, Nat.zero_add, sok_row, reduceCtorEq]
    exact ⟨by omega, hin _ (by omega)⟩
  · intro j hj
    obtain ⟨sv, h1, h2⟩ := hl.part j hj
    have hlen := bytes_len h2
    have hmono := totN_mono n (show j + 1 ≤ m by omega)
    simp only [totN] at hmono
    have wa := wrapA (totN n j) (n j) (by omega)
    simp only [sn_upto, sn_from, slN_def, run_cap, rules, rules2, loopRules, Tryd.facts, base0, Int.toNat_zero, Nat.reduceAdd, Nat.reduceMul, Nat.reduceSub, Nat.reduceLT, Nat.reduceLeDiff, Nat.reduceEqDiff, Int.reduceLE, Int.reduceLT, Int.reduceToNat, Int.reduceNe, Int.reduceEq, not_false_eq_true, Nat.reduceBEq, Nat.reduceDiv, Int.natCast_zero, Int.natCast_one, Int.reduceAdd, Int.reduceSub, reduceIte, ↓reduceIte, Value.oneCell', rowI_length, rowI_take, rowI_splice, rep_all, row_zero, le_nat, Int.toNat_natCast, Nat.zero_add, sok_row, reduceCtorEq]
    refine vcIf_yes (by simp; omega) ?_
    simp only [nat_nn, nat_lt_eq hj, hz, Nat.mul_one, h1, hlen, wa, wrapS j (by omega), sn_upto, sn_from, slN_def, run_cap, rules, rules2, loopRules, Tryd.facts, base0, Int.toNat_zero, Nat.reduceAdd, Nat.reduceMul, Nat.reduceSub, Nat.reduceLT, Nat.reduceLeDiff, Nat.reduceEqDiff, Int.reduceLE, Int.reduceLT, Int.reduceToNat, Int.reduceNe, Int.reduceEq, not_false_eq_true, Nat.reduceBEq, Nat.reduceDiv, Int.natCast_zero, Int.natCast_one, Int.reduceAdd, Int.reduceSub, reduceIte, ↓reduceIte, Value.oneCell', rowI_length, rowI_take, rowI_splice, rep_all, row_zero, le_nat, Int.toNat_natCast, Nat.zero_add, sok_row, reduceCtorEq]
    refine vcIf_no (by simp; omega) ?_
    simp only [totN, wrapS j (by omega), sn_upto, sn_from, slN_def, run_cap, rules, rules2, loopRules, Tryd.facts, base0, Int.toNat_zero, Nat.reduceAdd, Nat.reduceMul, Nat.reduceSub, Nat.reduceLT, Nat.reduceLeDiff, Nat.reduceEqDiff, Int.reduceLE, Int.reduceLT, Int.reduceToNat, Int.reduceNe, Int.reduceEq, not_false_eq_true, Nat.reduceBEq, Nat.reduceDiv, Int.natCast_zero, Int.natCast_one, Int.reduceAdd, Int.reduceSub, reduceIte, ↓reduceIte, Value.oneCell', rowI_length, rowI_take, rowI_splice, rep_all, row_zero, le_nat, Int.toNat_natCast, Nat.zero_add, sok_row, reduceCtorEq]
    exact ⟨by omega, hin _ (by omega)⟩
  · simp only [sn_upto, sn_from, slN_def, run_cap, rules, rules2, loopRules, Tryd.facts, base0, Int.toNat_zero, Nat.reduceAdd, Nat.reduceMul, Nat.reduceSub, Nat.reduceLT, Nat.reduceLeDiff, Nat.reduceEqDiff, Int.reduceLE, Int.reduceLT, Int.reduceToNat, Int.reduceNe, Int.reduceEq, not_false_eq_true, Nat.reduceBEq, Nat.reduceDiv, Int.natCast_zero, Int.natCast_one, Int.reduceAdd, Int.reduceSub, reduceIte, ↓reduceIte, Value.oneCell', rowI_length, rowI_take, rowI_splice, rep_all, row_zero, le_nat, Int.toNat_natCast, Nat.zero_add, sok_row, reduceCtorEq]
    refine vcIf_no (by simp) ?_
    simp only [sn_upto, sn_from, slN_def, run_cap, rules, rules2, loopRules, Tryd.facts, base0, Int.toNat_zero, Nat.reduceAdd, Nat.reduceMul, Nat.reduceSub, Nat.reduceLT, Nat.reduceLeDiff, Nat.reduceEqDiff, Int.reduceLE, Int.reduceLT, Int.reduceToNat, Int.reduceNe, Int.reduceEq, not_false_eq_true, Nat.reduceBEq, Nat.reduceDiv, Int.natCast_zero, Int.natCast_one, Int.reduceAdd, Int.reduceSub, reduceIte, ↓reduceIte, Value.oneCell', rowI_length, rowI_take, rowI_splice, rep_all, row_zero, le_nat, Int.toNat_natCast, Nat.zero_add, sok_row, reduceCtorEq]
    refine (grow_m hN).vcCall (fun n => n) none fits0 rfl ?_
    rintro v out (⟨h0, rfl, rfl⟩ | ⟨hpos, c0, cs1, rfl, rfl, hg⟩) _
    · have hn0 : ∀ j, j < m → n j = 0 := fun j hj => by
        have := totN_mono n (show j + 1 ≤ m by omega); simp only [totN] at this; omega
      simp only [after, ren_v, sn_upto, sn_from, slN_def, run_cap, rules, rules2, loopRules, Tryd.facts, base0, Int.toNat_zero, Nat.reduceAdd, Nat.reduceMul, Nat.reduceSub, Nat.reduceLT, Nat.reduceLeDiff, Nat.reduceEqDiff, Int.reduceLE, Int.reduceLT, Int.reduceToNat, Int.reduceNe, Int.reduceEq, not_false_eq_true, Nat.reduceBEq, Nat.reduceDiv, Int.natCast_zero, Int.natCast_one, Int.reduceAdd, Int.reduceSub, reduceIte, ↓reduceIte, Value.oneCell', rowI_length, rowI_take, rowI_splice, rep_all, row_zero, le_nat, Int.toNat_natCast, Nat.zero_add, sok_row, reduceCtorEq]
      refine loop_count m (fun j => [(6, V (.slice none 0 0)), (25, Sl 0 o m c), (26, I .i64 m), (27, I .i64 j)]) (fun j => l) _ ?_ ?_ ?_
      · simp only [sn_upto, sn_from, slN_def, run_cap, rules, rules2, loopRules, Tryd.facts, base0, Int.toNat_zero, Nat.reduceAdd, Nat.reduceMul, Nat.reduceSub, Nat.reduceLT, Nat.reduceLeDiff, Nat.reduceEqDiff, Int.reduceLE, Int.reduceLT, Int.reduceToNat, Int.reduceNe, Int.reduceEq, not_false_eq_true, Nat.reduceBEq, Nat.reduceDiv, Int.natCast_zero, Int.natCast_one, Int.reduceAdd, Int.reduceSub, reduceIte, ↓reduceIte, Value.oneCell', rowI_length, rowI_take, rowI_splice, rep_all, row_zero, le_nat, Int.toNat_natCast, Nat.zero_add, sok_row, reduceCtorEq]
        exact ⟨⟨trivial, by omega⟩, hin _ (by omega)⟩
      · intro j hj
        obtain ⟨sv, h1, h2⟩ := hl.part j hj
        simp only [sn_upto, sn_from, slN_def, run_cap, rules, rules2, loopRules, Tryd.facts, base0, Int.toNat_zero, Nat.reduceAdd, Nat.reduceMul, Nat.reduceSub, Nat.reduceLT, Nat.reduceLeDiff, Nat.reduceEqDiff, Int.reduceLE, Int.reduceLT, Int.reduceToNat, Int.reduceNe, Int.reduceEq, not_false_eq_true, Nat.reduceBEq, Nat.reduceDiv, Int.natCast_zero, Int.natCast_one, Int.reduceAdd, Int.reduceSub, reduceIte, ↓reduceIte, Value.oneCell', rowI_length, rowI_take, rowI_splice, rep_all, row_zero, le_nat, Int.toNat_natCast, Nat.zero_add, sok_row, reduceCtorEq]
        refine vcIf_yes (by simp; omega) ?_
        simp only [nat_nn, nat_lt_eq hj, hz, Nat.mul_one, h1, wrapS j (by omega), sn_upto, sn_from, slN_def, run_cap, rules, rules2, loopRules, Tryd.facts, base0, Int.toNat_zero, Nat.reduceAdd, Nat.reduceMul, Nat.reduceSub, Nat.reduceLT, Nat.reduceLeDiff, Nat.reduceEqDiff, Int.reduceLE, Int.reduceLT, Int.reduceToNat, Int.reduceNe, Int.reduceEq, not_false_eq_true, Nat.reduceBEq, Nat.reduceDiv, Int.natCast_zero, Int.natCast_one, Int.reduceAdd, Int.reduceSub, reduceIte, ↓reduceIte, Value.oneCell', rowI_length, rowI_take, rowI_splice, rep_all, row_zero, le_nat, Int.toNat_natCast, Nat.zero_add, sok_row, reduceCtorEq]
        refine append_nb (m := n j) (g := f j) Tryd.mkK34 Tryd.slK34 h2 (by rw [hn0 j hj]; decide) (fun _ => ?_) (fun h => by rw [hn0 j hj] at h; exact absurd h (by decide))
        simp only [wrapS j (by omega), sn_upto, sn_from, slN_def, run_cap, rules, rules2, loopRules, Tryd.facts, base0, Int.toNat_zero, Nat.reduceAdd, Nat.reduceMul, Nat.reduceSub, Nat.reduceLT, Nat.reduceLeDiff, Nat.reduceEqDiff, Int.reduceLE, Int.reduceLT, Int.reduceToNat, Int.reduceNe, Int.reduceEq, not_false_eq_true, Nat.reduceBEq, Nat.reduceDiv, Int.natCast_zero, Int.natCast_one, Int.reduceAdd, Int.reduceSub, reduceIte, ↓reduceIte, Value.oneCell', rowI_length, rowI_take, rowI_splice, rep_all, row_zero, le_nat, Int.toNat_natCast, Nat.zero_add, sok_row, reduceCtorEq]
        exact ⟨⟨trivial, by omega⟩, hin _ (by omega)⟩
      · simp only [sn_upto, sn_from, slN_def, run_cap, rules, rules2, loopRules, Tryd.facts, base0, Int.toNat_zero, Nat.reduceAdd, Nat.reduceMul, Nat.reduceSub, Nat.reduceLT, Nat.reduceLeDiff, Nat.reduceEqDiff, Int.reduceLE, Int.reduceLT, Int.reduceToNat, Int.reduceNe, Int.reduceEq, not_false_eq_true, Nat.reduceBEq, Nat.reduceDiv, Int.natCast_zero, Int.natCast_one, Int.reduceAdd, Int.reduceSub, reduceIte, ↓reduceIte, Value.oneCell', rowI_length, rowI_take, rowI_splice, rep_all, row_zero, le_nat, Int.toNat_natCast, Nat.zero_add, sok_row, reduceCtorEq]
        refine vcIf_no (by simp) ?_
        simp only [sn_upto, sn_from, slN_def, run_cap, rules, rules2, loopRules, Tryd.facts, base0, Int.toNat_zero, Nat.reduceAdd, Nat.reduceMul, Nat.reduceSub, Nat.reduceLT, Nat.reduceLeDiff, Nat.reduceEqDiff, Int.reduceLE, Int.reduceLT, Int.reduceToNat, Int.reduceNe, Int.reduceEq, not_false_eq_true, Nat.reduceBEq, Nat.reduceDiv, Int.natCast_zero, Int.natCast_one, Int.reduceAdd, Int.reduceSub, reduceIte, ↓reduceIte, Value.oneCell', rowI_length, rowI_take, rowI_splice, rep_all, row_zero, le_nat, Int.toNat_natCast, Nat.zero_add, sok_row, reduceCtorEq]
        exact ⟨k, V (.slice none 0 0), fun _ => none, Nat.le_refl _, rfl, trivial, fun n b hb => (by cases hb), .inl ⟨h0, rfl, rfl⟩⟩
    · rw [after_lk hg.plain]
      simp only [ren_s, rnew_k, sn_upto, sn_from, slN_def, run_cap, rules, rules2, loopRules, Tryd.facts, base0, Int.toNat_zero, Nat.reduceAdd, Nat.reduceMul, Nat.reduceSub, Nat.reduceLT, Nat.reduceLeDiff, Nat.reduceEqDiff, Int.reduceLE, Int.reduceLT, Int.reduceToNat, Int.reduceNe, Int.reduceEq, not_false_eq_true, Nat.reduceBEq, Nat.reduceDiv, Int.natCast_zero, Int.natCast_one, Int.reduceAdd, Int.reduceSub, reduceIte, ↓reduceIte, Value.oneCell', rowI_length, rowI_take, rowI_splice, rep_all, row_zero, le_nat, Int.toNat_natCast, Nat.zero_add, sok_row, reduceCtorEq]
      refine loop_anew (β := Nat × List SV) m (fun j y => Grows y.2 0 (totN n j) y.1 (catN n f j))
        (fun j y => [(6, Sl 60 0 (totN n j) y.1), (25, Sl 0 o m c), (26, I .i64 m), (27, I .i64 j)]) (fun j y => (60, ⟨true, y.2⟩) :: l) 61 (c0, cs1) ?_ ?_ ?_ ?_
      · refine ⟨hg, 60, k + 1 + 1 + 3 + 1 + 1, bringsTo_in (k := k) (by show _ ≤ 60; simp only; omega) (by decide) (by simp only; omega) (by omega) ?_ ?_ hg.plain hl.inn (fun t ht => ?_)⟩
        · simp only [ren_i, ren_s, totN, sn_upto, sn_from, slN_def, run_cap, rules, rules2, loopRules, Tryd.facts, base0, Int.toNat_zero, Nat.reduceAdd, Nat.reduceMul, Nat.reduceSub, Nat.reduceLT, Nat.reduceLeDiff, Nat.reduceEqDiff, Int.reduceLE, Int.reduceLT, Int.reduceToNat, Int.reduceNe, Int.reduceEq, not_false_eq_true, Nat.reduceBEq, Nat.reduceDiv, Int.natCast_zero, Int.natCast_one, Int.reduceAdd, Int.reduceSub, reduceIte, ↓reduceIte, Value.oneCell', rowI_length, rowI_take, rowI_splice, rep_all, row_zero, le_nat, Int.toNat_natCast, Nat.zero_add, sok_row, reduceCtorEq]
        · simp only [upd_same]
        · exact upd_ne _ _ _ _ (by omega)
      · rintro j ⟨c', cs'⟩ hj h1'
        obtain ⟨sv, h1, h2⟩ := hl.part j hj
        have hmono := totN_mono n (show j + 1 ≤ m by omega)
        simp only [totN] at hmono
        have hoff : BytesOff (mkS [(6, Sl 60 0 (totN n j) c'), (25, Sl 0 o m c), (26, I .i64 m), (27, I .i64 j)] ((60, ⟨true, cs'⟩) :: l) 61).box 60 (.inl (.inl sv)) (n j) (f j) := by
          rcases h2 with h | ⟨t, o1, c1, rw1, ds, e1, e2, _, e4⟩
          · exact .inl h
          · have ht : t < k := (hl.inn _ (lk_mem _ _ _ e2)).1
            refine .inr ⟨t, o1, c1, rw1, ds, e1, ?_, e4, by omega⟩
            show (if t = 60 then _ else lk l t) = _
            rw [if_neg (by omega)]; exact e2
        simp only at h1'
        simp only [sn_upto, sn_from, slN_def, run_cap, rules, rules2, loopRules, Tryd.facts, base0, Int.toNat_zero, Nat.reduceAdd, Nat.reduceMul, Nat.reduceSub, Nat.reduceLT, Nat.reduceLeDiff, Nat.reduceEqDiff, Int.reduceLE, Int.reduceLT, Int.reduceToNat, Int.reduceNe, Int.reduceEq, not_false_eq_true, Nat.reduceBEq, Nat.reduceDiv, Int.natCast_zero, Int.natCast_one, Int.reduceAdd, Int.reduceSub, reduceIte, ↓reduceIte, Value.oneCell', rowI_length, rowI_take, rowI_splice, rep_all, row_zero, le_nat, Int.toNat_natCast, Nat.zero_add, sok_row, reduceCtorEq]
        refine vcIf_yes (by simp; omega) ?_
        simp only [nat_nn, nat_lt_eq hj, hz, Nat.mul_one, h1, wrapS j (by omega), sn_upto, sn_from, slN_def, run_cap, rules, rules2, loopRules, Tryd.facts, base0, Int.toNat_zero, Nat.reduceAdd, Nat.reduceMul, Nat.reduceSub, Nat.reduceLT, Nat.reduceLeDiff, Nat.reduceEqDiff, Int.reduceLE, Int.reduceLT, Int.reduceToNat, Int.reduceNe, Int.reduceEq, not_false_eq_true, Nat.reduceBEq, Nat.reduceDiv, Int.natCast_zero, Int.natCast_one, Int.reduceAdd, Int.reduceSub, reduceIte, ↓reduceIte, Value.oneCell', rowI_length, rowI_take, rowI_splice, rep_all, row_zero, le_nat, Int.toNat_natCast, Nat.zero_add, sok_row, reduceCtorEq]
        refine append_b (b := 60) (g := f j) Tryd.mkK34 Tryd.slK34 (by simp only [upd_apply, sn_upto, sn_from, slN_def, run_cap, rules, rules2, loopRules, Tryd.facts, base0, Int.toNat_zero, Nat.reduceAdd, Nat.reduceMul, Nat.reduceSub, Nat.reduceLT, Nat.reduceLeDiff, Nat.reduceEqDiff, Int.reduceLE, Int.reduceLT, Int.reduceToNat, Int.reduceNe, Int.reduceEq, not_false_eq_true, Nat.reduceBEq, Nat.reduceDiv, Int.natCast_zero, Int.natCast_one, Int.reduceAdd, Int.reduceSub, reduceIte, ↓reduceIte, Value.oneCell', rowI_length, rowI_take, rowI_splice, rep_all, row_zero, le_nat, Int.toNat_natCast, Nat.zero_add, sok_row, reduceCtorEq]) h1' (by exact hoff) (by omega) ?_
        intro c2 cs2 hg2
        simp only [wrapS j (by omega), sn_upto, sn_from, slN_def, run_cap, rules, rules2, loopRules, Tryd.facts, base0, Int.toNat_zero, Nat.reduceAdd, Nat.reduceMul, Nat.reduceSub, Nat.reduceLT, Nat.reduceLeDiff, Nat.reduceEqDiff, Int.reduceLE, Int.reduceLT, Int.reduceToNat, Int.reduceNe, Int.reduceEq, not_false_eq_true, Nat.reduceBEq, Nat.reduceDiv, Int.natCast_zero, Int.natCast_one, Int.reduceAdd, Int.reduceSub, reduceIte, ↓reduceIte, Value.oneCell', rowI_length, rowI_take, rowI_splice, rep_all, row_zero, le_nat, Int.toNat_natCast, Nat.zero_add, sok_row, reduceCtorEq]
        refine ⟨(c2, cs2), hg2, 60, 67, bringsTo_in (k := k) (by omega) (by decide) (by omega) (by omega) ?_ ?_ hg2.plain hl.inn (fun t ht => ?_)⟩
        · simp only [ren_i, ren_s, totN, sn_upto, sn_from, slN_def, run_cap, rules, rules2, loopRules, Tryd.facts, base0, Int.toNat_zero, Nat.reduceAdd, Nat.reduceMul, Nat.reduceSub, Nat.reduceLT, Nat.reduceLeDiff, Nat.reduceEqDiff, Int.reduceLE, Int.reduceLT, Int.reduceToNat, Int.reduceNe, Int.reduceEq, not_false_eq_true, Nat.reduceBEq, Nat.reduceDiv, Int.natCast_zero, Int.natCast_one, Int.reduceAdd, Int.reduceSub, reduceIte, ↓reduceIte, Value.oneCell', rowI_length, rowI_take, rowI_splice, rep_all, row_zero, le_nat, Int.toNat_natCast, Nat.zero_add, sok_row, reduceCtorEq]
        · simp only [upd_same]
        · simp only [upd, sn_upto, sn_from, slN_def, run_cap, rules, rules2, loopRules, Tryd.facts, base0, Int.toNat_zero, Nat.reduceAdd, Nat.reduceMul, Nat.reduceSub, Nat.reduceLT, Nat.reduceLeDiff, Nat.reduceEqDiff, Int.reduceLE, Int.reduceLT, Int.reduceToNat, Int.reduceNe, Int.reduceEq, not_false_eq_true, Nat.reduceBEq, Nat.reduceDiv, Int.natCast_zero, Int.natCast_one, Int.reduceAdd, Int.reduceSub, reduceIte, ↓reduceIte, Value.oneCell', rowI_length, rowI_take, rowI_splice, rep_all, row_zero, le_nat, Int.toNat_natCast, Nat.zero_add, sok_row, reduceCtorEq]
          rw [if_neg (by omega), if_neg (by omega), if_neg (by omega)]
      · rintro ⟨c', cs'⟩ h1'
        simp only at h1'
        simp only [sn_upto, sn_from, slN_def, run_cap, rules, rules2, loopRules, Tryd.facts, base0, Int.toNat_zero, Nat.reduceAdd, Nat.reduceMul, Nat.reduceSub, Nat.reduceLT, Nat.reduceLeDiff, Nat.reduceEqDiff, Int.reduceLE, Int.reduceLT, Int.reduceToNat, Int.reduceNe, Int.reduceEq, not_false_eq_true, Nat.reduceBEq, Nat.reduceDiv, Int.natCast_zero, Int.natCast_one, Int.reduceAdd, Int.reduceSub, reduceIte, ↓reduceIte, Value.oneCell', rowI_length, rowI_take, rowI_splice, rep_all, row_zero, le_nat, Int.toNat_natCast, Nat.zero_add, sok_row, reduceCtorEq]
        refine vcIf_no (by simp) ?_
        simp only [sn_upto, sn_from, slN_def, run_cap, rules, rules2, loopRules, Tryd.facts, base0, Int.toNat_zero, Nat.reduceAdd, Nat.reduceMul, Nat.reduceSub, Nat.reduceLT, Nat.reduceLeDiff, Nat.reduceEqDiff, Int.reduceLE, Int.reduceLT, Int.reduceToNat, Int.reduceNe, Int.reduceEq, not_false_eq_true, Nat.reduceBEq, Nat.reduceDiv, Int.natCast_zero, Int.natCast_one, Int.reduceAdd, Int.reduceSub, reduceIte, ↓reduceIte, Value.oneCell', rowI_length, rowI_take, rowI_splice, rep_all, row_zero, le_nat, Int.toNat_natCast, Nat.zero_add, sok_row, reduceCtorEq]
        refine ret_new (k := k) (q := 60) (by omega) (by simp only [sn_upto, sn_from, slN_def, run_cap, rules, rules2, loopRules, Tryd.facts, base0, Int.toNat_zero, Nat.reduceAdd, Nat.reduceMul, Nat.reduceSub, Nat.reduceLT, Nat.reduceLeDiff, Nat.reduceEqDiff, Int.reduceLE, Int.reduceLT, Int.reduceToNat, Int.reduceNe, Int.reduceEq, not_false_eq_true, Nat.reduceBEq, Nat.reduceDiv, Int.natCast_zero, Int.natCast_one, Int.reduceAdd, Int.reduceSub, reduceIte, ↓reduceIte, Value.oneCell', rowI_length, rowI_take, rowI_splice, rep_all, row_zero, le_nat, Int.toNat_natCast, Nat.zero_add, sok_row, reduceCtorEq]) h1'.plain (.inr h1'.made)
      · simp only; omega
set_option maxHeartbeats 8000000 in
set_option maxRecDepth 20000 in
theorem keyPad_m {n o c : Nat} {f : Nat → Int} {cs : List SV} {x : Int} (hf : Byt f) (hc : Shows cs o n f) (hp : cs.all SV.plain = true) (hn : n < 140737488355328) (hcap : n ≤ c) :
    MFun Tryd.prog 27 [Sl 0 o n c, I .u8 x] 1 (lk [(0, ⟨false, cs⟩)]) (MadeX 1 64 (padK kW ivW f n x)) := by
  refine mfun_of_vc Tryd.func27 rfl (by kernel_rfl) (by simp [Tryd.ntmps27]) Tryd.callable27 (by simp [AV.ok, CV.ok, SV.names]) all1 (inn1 hp) ?_
  have ok1 : ∀ {M : Nat → Prop}, (∀ x ∈ cs, SV.ok M x) = True := eq_true (ok_all hp)
  simp only [Tryd.results27, sn_upto, sn_from, slN_def, run_cap, rules, rules2, loopRules, Tryd.facts, base0, Int.toNat_zero, Nat.reduceAdd, Nat.reduceMul, Nat.reduceSub, Nat.reduceLT, Nat.reduceLeDiff, Nat.reduceEqDiff, Int.reduceLE, Int.reduceLT, Int.reduceToNat, Int.reduceNe, Int.reduceEq, not_false_eq_true, Nat.reduceBEq, Nat.reduceDiv, Int.natCast_zero, Int.natCast_one, Int.reduceAdd, Int.reduceSub, reduceIte, ↓reduceIte, Value.oneCell', rowI_length, rowI_take, rowI_splice, rep_all, row_zero, le_nat, Int.toNat_natCast, Nat.zero_add, sok_row, reduceCtorEq]
  refine ⟨by decide, ?_⟩
  by_cases h : 64 < n
  have hk : ∀ i, keyW kW ivW f n i = if i < 32 then shaW kW ivW f n i else 0 := fun i => by simp only [keyW, gt_iff_lt, if_pos h]
  refine vcIf_yes (by simp; omega) ?_
  simp only [sn_upto, sn_from, slN_def, run_cap, rules, rules2, loopRules, Tryd.facts, base0, Int.toNat_zero, Nat.reduceAdd, Nat.reduceMul, Nat.reduceSub, Nat.reduceLT, Nat.reduceLeDiff, Nat.reduceEqDiff, Int.reduceLE, Int.reduceLT, Int.reduceToNat, Int.reduceNe, Int.reduceEq, not_false_eq_true, Nat.reduceBEq, Nat.reduceDiv, Int.natCast_zero, Int.natCast_one, Int.reduceAdd, Int.reduceSub, reduceIte, ↓reduceIte, Value.oneCell', rowI_length, rowI_take, rowI_splice, rep_all, row_zero, le_nat, Int.toNat_natCast, Nat.zero_add, sok_row, reduceCtorEq]
  refine digest_call (rw := false) hf (by simp only [upd_apply, sn_upto, sn_from, slN_def, run_cap, rules, rules2, loopRules, Tryd.facts, base0, Int.toNat_zero, Nat.reduceAdd, Nat.reduceMul, Nat.reduceSub, Nat.reduceLT, Nat.reduceLeDiff, Nat.reduceEqDiff, Int.reduceLE, Int.reduceLT, Int.reduceToNat, Int.reduceNe, Int.reduceEq, not_false_eq_true, Nat.reduceBEq, Nat.reduceDiv, Int.natCast_zero, Int.natCast_one, Int.reduceAdd, Int.reduceSub, reduceIte, ↓reduceIte, Value.oneCell', rowI_length, rowI_take, rowI_splice, rep_all, row_zero, le_nat, Int.toNat_natCast, Nat.zero_add, sok_row, reduceCtorEq]) hc hp hn hcap ?_
  simp only [sn_upto, sn_from, slN_def, run_cap, rules, rules2, loopRules, Tryd.facts, base0, Int.toNat_zero, Nat.reduceAdd, Nat.reduceMul, Nat.reduceSub, Nat.reduceLT, Nat.reduceLeDiff, Nat.reduceEqDiff, Int.reduceLE, Int.reduceLT, Int.reduceToNat, Int.reduceNe, Int.reduceEq, not_false_eq_true, Nat.reduceBEq, Nat.reduceDiv, Int.natCast_zero, Int.natCast_one, Int.reduceAdd, Int.reduceSub, reduceIte, ↓reduceIte, Value.oneCell', rowI_length, rowI_take, rowI_splice, rep_all, row_zero, le_nat, Int.toNat_natCast, Nat.zero_add, sok_row, reduceCtorEq]
  refine vc_copy Tryd.mkK34 Tryd.slK34 (cs := rowI .u8 64 (fun _ => 0)) (bx := ⟨true, rowI .u8 32 (shaW kW ivW f n)⟩) (news := rowI .u8 32 (shaW kW ivW f n)) (by simp only [upd_apply, sn_upto, sn_from, slN_def, run_cap, rules, rules2, loopRules, Tryd.facts, base0, Int.toNat_zero, Nat.reduceAdd, Nat.reduceMul, Nat.reduceSub, Nat.reduceLT, Nat.reduceLeDiff, Nat.reduceEqDiff, Int.reduceLE, Int.reduceLT, Int.reduceToNat, Int.reduceNe, Int.reduceEq, not_false_eq_true, Nat.reduceBEq, Nat.reduceDiv, Int.natCast_zero, Int.natCast_one, Int.reduceAdd, Int.reduceSub, reduceIte, ↓reduceIte, Value.oneCell', rowI_length, rowI_take, rowI_splice, rep_all, row_zero, le_nat, Int.toNat_natCast, Nat.zero_add, sok_row, reduceCtorEq]) (by simp only [upd_apply, sn_upto, sn_from, slN_def, run_cap, rules, rules2, loopRules, Tryd.facts, base0, Int.toNat_zero, Nat.reduceAdd, Nat.reduceMul, Nat.reduceSub, Nat.reduceLT, Nat.reduceLeDiff, Nat.reduceEqDiff, Int.reduceLE, Int.reduceLT, Int.reduceToNat, Int.reduceNe, Int.reduceEq, not_false_eq_true, Nat.reduceBEq, Nat.reduceDiv, Int.natCast_zero, Int.natCast_one, Int.reduceAdd, Int.reduceSub, reduceIte, ↓reduceIte, Value.oneCell', rowI_length, rowI_take, rowI_splice, rep_all, row_zero, le_nat, Int.toNat_natCast, Nat.zero_add, sok_row, reduceCtorEq]) (by rw [rowI_length]; rfl) (fun j u h => by simpa using h) (by rw [rowI_length]; decide) ?_
  rw [rowI_spl .u8 64 32 0 _ _ (by decide)]
  simp only [sn_upto, sn_from, slN_def, run_cap, rules, rules2, loopRules, Tryd.facts, base0, Int.toNat_zero, Nat.reduceAdd, Nat.reduceMul, Nat.reduceSub, Nat.reduceLT, Nat.reduceLeDiff, Nat.reduceEqDiff, Int.reduceLE, Int.reduceLT, Int.reduceToNat, Int.reduceNe, Int.reduceEq, not_false_eq_true, Nat.reduceBEq, Nat.reduceDiv, Int.natCast_zero, Int.natCast_one, Int.reduceAdd, Int.reduceSub, reduceIte, ↓reduceIte, Value.oneCell', rowI_length, rowI_take, rowI_splice, rep_all, row_zero, le_nat, Int.toNat_natCast, Nat.zero_add, sok_row, reduceCtorEq]
  rotate_left 1
  have hk : ∀ i, i < 64 → keyW kW ivW f n i = if i < n then f i else 0 := fun i hi => by simp only [keyW, gt_iff_lt, if_neg h]
  have hn64 : Nat.min n 64 = n := Nat.min_eq_left (by omega)
  refine vcIf_no (by simp; omega) ?_
  simp only [sn_upto, sn_from, slN_def, run_cap, rules, rules2, loopRules, Tryd.facts, base0, Int.toNat_zero, Nat.reduceAdd, Nat.reduceMul, Nat.reduceSub, Nat.reduceLT, Nat.reduceLeDiff, Nat.reduceEqDiff, Int.reduceLE, Int.reduceLT, Int.reduceToNat, Int.reduceNe, Int.reduceEq, not_false_eq_true, Nat.reduceBEq, Nat.reduceDiv, Int.natCast_zero, Int.natCast_one, Int.reduceAdd, Int.reduceSub, reduceIte, ↓reduceIte, Value.oneCell', rowI_length, rowI_take, rowI_splice, rep_all, row_zero, le_nat, Int.toNat_natCast, Nat.zero_add, sok_row, reduceCtorEq]
  refine vc_copy Tryd.mkK34 Tryd.slK34 (cs := rowI .u8 64 (fun _ => 0)) (bx := ⟨false, cs⟩) (news := rowI .u8 n f) (by simp only [upd_apply, sn_upto, sn_from, slN_def, run_cap, rules, rules2, loopRules, Tryd.facts, base0, Int.toNat_zero, Nat.reduceAdd, Nat.reduceMul, Nat.reduceSub, Nat.reduceLT, Nat.reduceLeDiff, Nat.reduceEqDiff, Int.reduceLE, Int.reduceLT, Int.reduceToNat, Int.reduceNe, Int.reduceEq, not_false_eq_true, Nat.reduceBEq, Nat.reduceDiv, Int.natCast_zero, Int.natCast_one, Int.reduceAdd, Int.reduceSub, reduceIte, ↓reduceIte, Value.oneCell', rowI_length, rowI_take, rowI_splice, rep_all, row_zero, le_nat, Int.toNat_natCast, Nat.zero_add, sok_row, reduceCtorEq]) (by simp only [upd_apply, sn_upto, sn_from, slN_def, run_cap, rules, rules2, loopRules, Tryd.facts, base0, Int.toNat_zero, Nat.reduceAdd, Nat.reduceMul, Nat.reduceSub, Nat.reduceLT, Nat.reduceLeDiff, Nat.reduceEqDiff, Int.reduceLE, Int.reduceLT, Int.reduceToNat, Int.reduceNe, Int.reduceEq, not_false_eq_true, Nat.reduceBEq, Nat.reduceDiv, Int.natCast_zero, Int.natCast_one, Int.reduceAdd, Int.reduceSub, reduceIte, ↓reduceIte, Value.oneCell', rowI_length, rowI_take, rowI_splice, rep_all, row_zero, le_nat, Int.toNat_natCast, Nat.zero_add, sok_row, reduceCtorEq]) (by rw [rowI_length]; exact hn64.symm) (shows_src hc) (by rw [hn64, rowI_length]; omega) ?_
  rw [rowI_spl .u8 64 n 0 _ _ (by omega)]
  simp only [sn_upto, sn_from, slN_def, run_cap, rules, rules2, loopRules, Tryd.facts, base0, Int.toNat_zero, Nat.reduceAdd, Nat.reduceMul, Nat.reduceSub, Nat.reduceLT, Nat.reduceLeDiff, Nat.reduceEqDiff, Int.reduceLE, Int.reduceLT, Int.reduceToNat, Int.reduceNe, Int.reduceEq, not_false_eq_true, Nat.reduceBEq, Nat.reduceDiv, Int.natCast_zero, Int.natCast_one, Int.reduceAdd, Int.reduceSub, reduceIte, ↓reduceIte, Value.oneCell', rowI_length, rowI_take, rowI_splice, rep_all, row_zero, le_nat, Int.toNat_natCast, Nat.zero_add, sok_row, reduceCtorEq]
  all_goals
    refine loop_count 64 (fun k => [(1, I .u8 x), (5, Sl 2 0 64 64), (21, I .i64 64), (22, I .i64 k)])
      (fun k => [(2, ⟨true, rowI .u8 64 (fun i => if i < k then padK kW ivW f n x i else keyW kW ivW f n i)⟩)]) _ ?_ ?_ ?_
  all_goals first
    | (simp only [row_none, sn_upto, sn_from, slN_def, run_cap, rules, rules2, loopRules, Tryd.facts, base0, Int.toNat_zero, Nat.reduceAdd, Nat.reduceMul, Nat.reduceSub, Nat.reduceLT, Nat.reduceLeDiff, Nat.reduceEqDiff, Int.reduceLE, Int.reduceLT, Int.reduceToNat, Int.reduceNe, Int.reduceEq, not_false_eq_true, Nat.reduceBEq, Nat.reduceDiv, Int.natCast_zero, Int.natCast_one, Int.reduceAdd, Int.reduceSub, reduceIte, ↓reduceIte, Value.oneCell', rowI_length, rowI_take, rowI_splice, rep_all, row_zero, le_nat, Int.toNat_natCast, Nat.zero_add, sok_row, reduceCtorEq]
       refine congrArg (fun c => some (Box.mk true c)) (rowI_congr fun i hi => ?_)
       rw [hk i hi]
       simp)
    | (simp only [row_none, sn_upto, sn_from, slN_def, run_cap, rules, rules2, loopRules, Tryd.facts, base0, Int.toNat_zero, Nat.reduceAdd, Nat.reduceMul, Nat.reduceSub, Nat.reduceLT, Nat.reduceLeDiff, Nat.reduceEqDiff, Int.reduceLE, Int.reduceLT, Int.reduceToNat, Int.reduceNe, Int.reduceEq, not_false_eq_true, Nat.reduceBEq, Nat.reduceDiv, Int.natCast_zero, Int.natCast_one, Int.reduceAdd, Int.reduceSub, reduceIte, ↓reduceIte, Value.oneCell', rowI_length, rowI_take, rowI_splice, rep_all, row_zero, le_nat, Int.toNat_natCast, Nat.zero_add, sok_row, reduceCtorEq]
       refine congrArg (fun c => some (Box.mk true c)) (rowI_congr fun i hi => ?_)
       rw [hk i]
       simp)
    | (intro k hk'
       have a3 : ((k : Int) < 64) = True := lt_nat (m := 64) hk'
       have hfk : (if k < k then padK kW ivW f n x k else keyW kW ivW f n k) = keyW kW ivW f n k := if_neg (Nat.lt_irrefl k)
       have hpk : bitI .xor .u8 (keyW kW ivW f n k) x = padK kW ivW f n x k := rfl
       simp only [sn_upto, sn_from, slN_def, run_cap, rules, rules2, loopRules, Tryd.facts, base0, Int.toNat_zero, Nat.reduceAdd, Nat.reduceMul, Nat.reduceSub, Nat.reduceLT, Nat.reduceLeDiff, Nat.reduceEqDiff, Int.reduceLE, Int.reduceLT, Int.reduceToNat, Int.reduceNe, Int.reduceEq, not_false_eq_true, Nat.reduceBEq, Nat.reduceDiv, Int.natCast_zero, Int.natCast_one, Int.reduceAdd, Int.reduceSub, reduceIte, ↓reduceIte, Value.oneCell', rowI_length, rowI_take, rowI_splice, rep_all, row_zero, le_nat, Int.toNat_natCast, Nat.zero_add, sok_row, reduceCtorEq]
       refine vcIf_yes (by simp; omega) ?_
       simp only [a3, nat_nn, rowI_get .u8 64 _ k hk', hfk, hpk, Nat.mul_one, rowI_splice1 .u8 64 _ k hk', row_upto2, wrapS k (by omega), sn_upto, sn_from, slN_def, run_cap, rules, rules2, loopRules, Tryd.facts, base0, Int.toNat_zero, Nat.reduceAdd, Nat.reduceMul, Nat.reduceSub, Nat.reduceLT, Nat.reduceLeDiff, Nat.reduceEqDiff, Int.reduceLE, Int.reduceLT, Int.reduceToNat, Int.reduceNe, Int.reduceEq, not_false_eq_true, Nat.reduceBEq, Nat.reduceDiv, Int.natCast_zero, Int.natCast_one, Int.reduceAdd, Int.reduceSub, reduceIte, ↓reduceIte, Value.oneCell', rowI_length, rowI_take, rowI_splice, rep_all, row_zero, le_nat, Int.toNat_natCast, Nat.zero_add, sok_row, reduceCtorEq]
       omega)
    | (simp only [sn_upto, sn_from, slN_def, run_cap, rules, rules2, loopRules, Tryd.facts, base0, Int.toNat_zero, Nat.reduceAdd, Nat.reduceMul, Nat.reduceSub, Nat.reduceLT, Nat.reduceLeDiff, Nat.reduceEqDiff, Int.reduceLE, Int.reduceLT, Int.reduceToNat, Int.reduceNe, Int.reduceEq, not_false_eq_true, Nat.reduceBEq, Nat.reduceDiv, Int.natCast_zero, Int.natCast_one, Int.reduceAdd, Int.reduceSub, reduceIte, ↓reduceIte, Value.oneCell', rowI_length, rowI_take, rowI_splice, rep_all, row_zero, le_nat, Int.toNat_natCast, Nat.zero_add, sok_row, reduceCtorEq]
       refine vcIf_no (by simp) ?_
       simp only [row_all, sn_upto, sn_from, slN_def, run_cap, rules, rules2, loopRules, Tryd.facts, base0, Int.toNat_zero, Nat.reduceAdd, Nat.reduceMul, Nat.reduceSub, Nat.reduceLT, Nat.reduceLeDiff, Nat.reduceEqDiff, Int.reduceLE, Int.reduceLT, Int.reduceToNat, Int.reduceNe, Int.reduceEq, not_false_eq_true, Nat.reduceBEq, Nat.reduceDiv, Int.natCast_zero, Int.natCast_one, Int.reduceAdd, Int.reduceSub, reduceIte, ↓reduceIte, Value.oneCell', rowI_length, rowI_take, rowI_splice, rep_all, row_zero, le_nat, Int.toNat_natCast, Nat.zero_add, sok_row, reduceCtorEq]
       exact ret_new (k := 1) (cs := rowI .u8 64 (padK kW ivW f n x)) (by decide) (by simp only [upd_apply, row_all, sn_upto, sn_from, slN_def, run_cap, rules, rules2, loopRules, Tryd.facts, base0, Int.toNat_zero, Nat.reduceAdd, Nat.reduceMul, Nat.reduceSub, Nat.reduceLT, Nat.reduceLeDiff, Nat.reduceEqDiff, Int.reduceLE, Int.reduceLT, Int.reduceToNat, Int.reduceNe, Int.reduceEq, not_false_eq_true, Nat.reduceBEq, Nat.reduceDiv, Int.natCast_zero, Int.natCast_one, Int.reduceAdd, Int.reduceSub, reduceIte, ↓reduceIte, Value.oneCell', rowI_length, rowI_take, rowI_splice, rep_all, row_zero, le_nat, Int.toNat_natCast, Nat.zero_add, sok_row, reduceCtorEq]) plainI ⟨rfl, rfl⟩)
theorem ren_same (x : SV) : SV.ren (fun n => n) x = x := by rcases x with v | ⟨t, o⟩ | ⟨t, o, n, c⟩ <;> rfl
theorem fits_in {s : AS} {l : List (Nat × Box)} {k : Nat} (hro : ∀ x ∈ l, x.2.rw = false) (hin : ∀ x ∈ l, x.1 < k) (hs : ∀ t, t < k → s.box t = lk l t) : Fits s (fun n => n) (lk l) none := by
  refine ⟨fun n b hb => ⟨b, ?_, fun h => h, ?_⟩, fun n n' b b' _ _ _ e => e, fun n b hb hrw => ?_, fun n hn => (by cases hn)⟩
  · rw [hs n (hin _ (lk_mem _ _ _ hb))]; exact hb
  · have h1 : (fun x : SV => SV.ren (fun n => n) x) = id := funext ren_same
    show b.cells = b.cells.map (fun x : SV => SV.ren (fun n => n) x)
    rw [h1, List.map_id]
  · have := hro _ (lk_mem _ _ _ hb)
    simp only at this
    rw [this] at hrw; cases hrw
theorem catN_byt {n : Nat → Nat} {f : Nat → Nat → Int} {m : Nat} (h : ∀ j, j < m → Byt (f j)) : ∀ j, j ≤ m → Byt (catN n f j)
  | 0, _ => fun i => ⟨Int.le_refl 0, by show (0 : Int) < 256; decide⟩
  | j + 1, hj => joinB_byt (catN_byt h j (by omega)) (h j (by omega))
set_option maxHeartbeats 8000000 in
set_option maxRecDepth 20000 in
theorem mac_m {l : List (Nat × Box)} {cs0 csk : List SV} {k o m c tk ok nk ck : Nat} {n : Nat → Nat} {f : Nat → Nat → Int} {key : Nat → Int} (hl : Parts l cs0 k o m n f) (hk : 0 < k) (hk2 : k ≤ 20) (hm : m < 4611686018427387904) (hN : totN n m < 100000000)
    (hf : ∀ j, j < m → Byt (f j)) (htk : lk l tk = some ⟨false, csk⟩) (hp : csk.all SV.plain = true) (hkey : Shows csk ok nk key) (hkb : Byt key) (hnk : nk < 100000000) (hck : nk ≤ ck) :
    MFun Tryd.prog 21 [Sl tk ok nk ck, Sl 0 o m c] k (lk l) (fun v out => v = Ag (rowI .u8 32 (macW kW ivW key nk (catN n f m) (totN n m))) ∧ out = fun _ => none) := by
  have htkk : tk < k := (hl.inn _ (lk_mem _ _ _ htk)).1
  refine mfun_of_vc Tryd.func21 rfl (by kernel_rfl) (by simp [Tryd.ntmps21]) Tryd.callable21 (fun u hu => by
    simp only [List.mem_cons, List.not_mem_nil, or_false] at hu
    rcases hu with rfl | rfl
    · exact htkk
    · exact hk) hl.all (fun i b hb => ⟨(hl.inn _ (lk_mem _ _ _ hb)).1, (hl.inn _ (lk_mem _ _ _ hb)).2.2⟩) ?_
  have hin : ∀ x ∈ l, x.1 < k := fun x hx => (hl.inn x hx).1
  simp only [Tryd.results21, sn_upto, sn_from, slN_def, run_cap, rules, rules2, loopRules, Tryd.facts, base0, Int.toNat_zero, Nat.reduceAdd, Nat.reduceMul, Nat.reduceSub, Nat.reduceLT, Nat.reduceLeDiff, Nat.reduceEqDiff, Int.reduceLE, Int.reduceLT, Int.reduceToNat, Int.reduceNe, Int.reduceEq, not_false_eq_true, Nat.reduceBEq, Nat.reduceDiv, Int.natCast_zero, Int.natCast_one, Int.reduceAdd, Int.reduceSub, reduceIte, ↓reduceIte, Value.oneCell', rowI_length, rowI_take, rowI_splice, rep_all, row_zero, le_nat, Int.toNat_natCast, Nat.zero_add, sok_row, reduceCtorEq]
  refine madeX_call (keyPad_m (x := 54) hkb hkey hp (by omega) hck) (fun _ => tk) (fits1 (rw := false) (by simp only [upd]; rw [if_neg (by omega)]; exact htk) hp) rfl ?_
  simp only [sn_upto, sn_from, slN_def, run_cap, rules, rules2, loopRules, Tryd.facts, base0, Int.toNat_zero, Nat.reduceAdd, Nat.reduceMul, Nat.reduceSub, Nat.reduceLT, Nat.reduceLeDiff, Nat.reduceEqDiff, Int.reduceLE, Int.reduceLT, Int.reduceToNat, Int.reduceNe, Int.reduceEq, not_false_eq_true, Nat.reduceBEq, Nat.reduceDiv, Int.natCast_zero, Int.natCast_one, Int.reduceAdd, Int.reduceSub, reduceIte, ↓reduceIte, Value.oneCell', rowI_length, rowI_take, rowI_splice, rep_all, row_zero, le_nat, Int.toNat_natCast, Nat.zero_add, sok_row, reduceCtorEq]
  have hG1 : Grows (rowI .u8 64 (padK kW ivW key nk 54)) 0 64 64 (padK kW ivW key nk 54) := ⟨by rw [rowI_length], by decide, plainI, shows_row0⟩
  refine bytes_call (concat_m hl hk hk2 hm (by omega)) (fun n => n) (fits_in hl.ro hin (fun t ht => by simp only [upd]; rw [if_neg (by omega), if_neg (by omega)])) rfl ?_
  intro x box' hx hoff _
  have hb1 : box' (k + 1 + 1) = some ⟨true, rowI .u8 64 (padK kW ivW key nk 54)⟩ := by rw [hx _ (by omega)]; simp only [upd_same]
  have hbt : ∀ t, t < k → box' t = lk l t := fun t ht => by
    rw [hx _ (by omega)]; simp only [upd]; rw [if_neg (by omega), if_neg (by omega)]
  simp only [sn_upto, sn_from, slN_def, run_cap, rules, rules2, loopRules, Tryd.facts, base0, Int.toNat_zero, Nat.reduceAdd, Nat.reduceMul, Nat.reduceSub, Nat.reduceLT, Nat.reduceLeDiff, Nat.reduceEqDiff, Int.reduceLE, Int.reduceLT, Int.reduceToNat, Int.reduceNe, Int.reduceEq, not_false_eq_true, Nat.reduceBEq, Nat.reduceDiv, Int.natCast_zero, Int.natCast_one, Int.reduceAdd, Int.reduceSub, reduceIte, ↓reduceIte, Value.oneCell', rowI_length, rowI_take, rowI_splice, rep_all, row_zero, le_nat, Int.toNat_natCast, Nat.zero_add, sok_row, reduceCtorEq]
  refine append_b (g := catN n f m) Tryd.mkK34 Tryd.slK34 hb1 hG1 (hoff _ (by omega)) (by omega) ?_
  intro c2 cs2 hg2
  simp only [sn_upto, sn_from, slN_def, run_cap, rules, rules2, loopRules, Tryd.facts, base0, Int.toNat_zero, Nat.reduceAdd, Nat.reduceMul, Nat.reduceSub, Nat.reduceLT, Nat.reduceLeDiff, Nat.reduceEqDiff, Int.reduceLE, Int.reduceLT, Int.reduceToNat, Int.reduceNe, Int.reduceEq, not_false_eq_true, Nat.reduceBEq, Nat.reduceDiv, Int.natCast_zero, Int.natCast_one, Int.reduceAdd, Int.reduceSub, reduceIte, ↓reduceIte, Value.oneCell', rowI_length, rowI_take, rowI_splice, rep_all, row_zero, le_nat, Int.toNat_natCast, Nat.zero_add, sok_row, reduceCtorEq]
  refine digest_call (rw := true) (joinB_byt (padK_byt _ _ _ _ _) (catN_byt hf m (Nat.le_refl _))) (by simp only [upd_same]) hg2.shows hg2.plain (by omega) hg2.room ?_
  simp only [sn_upto, sn_from, slN_def, run_cap, rules, rules2, loopRules, Tryd.facts, base0, Int.toNat_zero, Nat.reduceAdd, Nat.reduceMul, Nat.reduceSub, Nat.reduceLT, Nat.reduceLeDiff, Nat.reduceEqDiff, Int.reduceLE, Int.reduceLT, Int.reduceToNat, Int.reduceNe, Int.reduceEq, not_false_eq_true, Nat.reduceBEq, Nat.reduceDiv, Int.natCast_zero, Int.natCast_one, Int.reduceAdd, Int.reduceSub, reduceIte, ↓reduceIte, Value.oneCell', rowI_length, rowI_take, rowI_splice, rep_all, row_zero, le_nat, Int.toNat_natCast, Nat.zero_add, sok_row, reduceCtorEq]
  refine ⟨by kernel_rfl, ?_⟩
  refine madeX_draw (keyPad_m (x := 92) hkb hkey hp (by omega) hck) (fun _ => tk) (fits1 (rw := false) (by simp only [upd]; rw [if_neg (by omega), if_neg (by omega), if_neg (by omega), if_neg (by omega), hbt tk htkk]; exact htk) hp) rfl (fun M h _ _ => h (Sl tk ok nk ck) (List.Mem.head _)) ?_
  have hG3 : Grows (rowI .u8 64 (padK kW ivW key nk 92)) 0 64 64 (padK kW ivW key nk 92) := ⟨by rw [rowI_length], by decide, plainI, shows_row0⟩
  simp only [sn_upto, sn_from, slN_def, run_cap, rules, rules2, loopRules, Tryd.facts, base0, Int.toNat_zero, Nat.reduceAdd, Nat.reduceMul, Nat.reduceSub, Nat.reduceLT, Nat.reduceLeDiff, Nat.reduceEqDiff, Int.reduceLE, Int.reduceLT, Int.reduceToNat, Int.reduceNe, Int.reduceEq, not_false_eq_true, Nat.reduceBEq, Nat.reduceDiv, Int.natCast_zero, Int.natCast_one, Int.reduceAdd, Int.reduceSub, reduceIte, ↓reduceIte, Value.oneCell', rowI_length, rowI_take, rowI_splice, rep_all, row_zero, le_nat, Int.toNat_natCast, Nat.zero_add, sok_row, reduceCtorEq]
  refine ⟨by kernel_rfl, ?_⟩
  refine append_b (g := shaW kW ivW (joinB 64 (padK kW ivW key nk 54) (catN n f m)) (64 + totN n m)) Tryd.mkK34 Tryd.slK34 (by simp only [upd_same]) hG3
    (.inr ⟨_, _, _, true, rowI .u8 32 (shaW kW ivW (joinB 64 (padK kW ivW key nk 54) (catN n f m)) (64 + totN n m)), rfl, (by simp only [upd]; rw [if_neg (by omega)]; exact if_pos trivial), shows_row0, by omega⟩) (by decide) ?_
  intro c4 cs4 hg4
  simp only [sn_upto, sn_from, slN_def, run_cap, rules, rules2, loopRules, Tryd.facts, base0, Int.toNat_zero, Nat.reduceAdd, Nat.reduceMul, Nat.reduceSub, Nat.reduceLT, Nat.reduceLeDiff, Nat.reduceEqDiff, Int.reduceLE, Int.reduceLT, Int.reduceToNat, Int.reduceNe, Int.reduceEq, not_false_eq_true, Nat.reduceBEq, Nat.reduceDiv, Int.natCast_zero, Int.natCast_one, Int.reduceAdd, Int.reduceSub, reduceIte, ↓reduceIte, Value.oneCell', rowI_length, rowI_take, rowI_splice, rep_all, row_zero, le_nat, Int.toNat_natCast, Nat.zero_add, sok_row, reduceCtorEq]
  refine digest_draw (rw := true) (joinB_byt (padK_byt _ _ _ _ _) (shaW_byt _ _ _ _)) (by simp only [upd_same]) hg4.shows hg4.plain (by decide) hg4.room ?_
  simp only [sn_upto, sn_from, slN_def, run_cap, rules, rules2, loopRules, Tryd.facts, base0, Int.toNat_zero, Nat.reduceAdd, Nat.reduceMul, Nat.reduceSub, Nat.reduceLT, Nat.reduceLeDiff, Nat.reduceEqDiff, Int.reduceLE, Int.reduceLT, Int.reduceToNat, Int.reduceNe, Int.reduceEq, not_false_eq_true, Nat.reduceBEq, Nat.reduceDiv, Int.natCast_zero, Int.natCast_one, Int.reduceAdd, Int.reduceSub, reduceIte, ↓reduceIte, Value.oneCell', rowI_length, rowI_take, rowI_splice, rep_all, row_zero, le_nat, Int.toNat_natCast, Nat.zero_add, sok_row, reduceCtorEq]
  have hbk : box' k = some ⟨true, rowI .u8 32 (fun _ => 0)⟩ := by rw [hx _ (by omega)]; simp only [upd]; rw [if_neg (by omega)]; exact if_pos trivial
  rw [if_neg (by omega), if_neg (by omega), if_neg (by omega), if_neg (by omega), if_neg (by omega), if_neg (by omega), if_neg (by omega), hbk]
  simp only [sn_upto, sn_from, slN_def, run_cap, rules, rules2, loopRules, Tryd.facts, base0, Int.toNat_zero, Nat.reduceAdd, Nat.reduceMul, Nat.reduceSub, Nat.reduceLT, Nat.reduceLeDiff, Nat.reduceEqDiff, Int.reduceLE, Int.reduceLT, Int.reduceToNat, Int.reduceNe, Int.reduceEq, not_false_eq_true, Nat.reduceBEq, Nat.reduceDiv, Int.natCast_zero, Int.natCast_one, Int.reduceAdd, Int.reduceSub, reduceIte, ↓reduceIte, Value.oneCell', rowI_length, rowI_take, rowI_splice, rep_all, row_zero, le_nat, Int.toNat_natCast, Nat.zero_add, sok_row, reduceCtorEq]
  exact ret_plain plainI ⟨rfl, rfl⟩
end Go.Proofs.YtlpckbkmmocaaaaDoor
