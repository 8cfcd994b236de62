/-
  Words of the hash in the program: turning, the schedule of a block.
-/
import Derived.Test.YtljncmifbncdbaaDoorVcgFacts
import Derived.Test.YtljncmifbncdbaaDoorVcgZ1
set_option linter.unusedSimpArgs false
set_option linter.unusedVariables false
namespace Go.Proofs.YtljncmifbncdbaaDoor
open Go.Vcg
theorem turn_fun (x n : Int) (h0 : 0 ≤ n) (h1 : n ≤ 32) : Fun Tryd.prog 60 [I .u32 x, I .u64 n] (I .u32 (rotW x n)) := by
  have w : IntKind.u64.wrap (32 - n) = 32 - n := wrap_u64_in _ (by omega) (by omega)
  have c1 : (0 ≤ 32 - n) = True := eq_true (by omega)
  have c0 : (0 ≤ n) = True := eq_true h0
  refine fun_of_vc Tryd.func60 rfl (by kernel_rfl) (by simp [Tryd.ntmps60]) rfl rfl ?_
  simp only [Tryd.results60, sn_upto, sn_from, slN_def, run_cap, rules, rules2, loopRules, Tryd.facts, base0, Int.toNat_zero, Nat.reduceAdd, Nat.reduceMul, Nat.reduceSub, Nat.reduceLT, Nat.reduceLeDiff, Nat.reduceEqDiff, Int.reduceLE, Int.reduceLT, Int.reduceToNat, Int.reduceNe, Int.reduceEq, not_false_eq_true, Nat.reduceBEq, Nat.reduceDiv, Int.natCast_zero, Int.natCast_one, Int.reduceAdd, Int.reduceSub, reduceIte, ↓reduceIte, Value.oneCell', splice, reduceCtorEq]
  simp only [w, c0, c1, sn_upto, sn_from, slN_def, run_cap, rules, rules2, loopRules, Tryd.facts, base0, Int.toNat_zero, Nat.reduceAdd, Nat.reduceMul, Nat.reduceSub, Nat.reduceLT, Nat.reduceLeDiff, Nat.reduceEqDiff, Int.reduceLE, Int.reduceLT, Int.reduceToNat, Int.reduceNe, Int.reduceEq, not_false_eq_true, Nat.reduceBEq, Nat.reduceDiv, Int.natCast_zero, Int.natCast_one, Int.reduceAdd, Int.reduceSub, reduceIte, ↓reduceIte, Value.oneCell', splice, reduceCtorEq]
  exact rfl
theorem rotl_fun (x : Int) (n : Int) (h0 : 1 ≤ n) (h1 : n ≤ 31) : Fun Tryd.prog 62 [I .u32 x, I .i64 (-n)] (I .u32 (rotW x n)) := by
  have e : bitI .and .u64 (IntKind.u64.wrap (-n)) 31 = 32 - n := by
    rw [wrap_u64, show (31 : Int) = 2 ^ 5 - 1 from rfl, and_mask _ 5 (by omega) (by omega) (by decide)]; omega
  have w : IntKind.u64.wrap (32 - (32 - n)) = n := by rw [wrap_u64]; omega
  have c1 : (0 ≤ 32 - n) = True := eq_true (by omega)
  have c0 : (0 ≤ n) = True := eq_true (by omega)
  refine fun_of_vc Tryd.func62 rfl (by kernel_rfl) (by simp [Tryd.ntmps62]) rfl rfl ?_
  simp only [Tryd.results62, sn_upto, sn_from, slN_def, run_cap, rules, rules2, loopRules, Tryd.facts, base0, Int.toNat_zero, Nat.reduceAdd, Nat.reduceMul, Nat.reduceSub, Nat.reduceLT, Nat.reduceLeDiff, Nat.reduceEqDiff, Int.reduceLE, Int.reduceLT, Int.reduceToNat, Int.reduceNe, Int.reduceEq, not_false_eq_true, Nat.reduceBEq, Nat.reduceDiv, Int.natCast_zero, Int.natCast_one, Int.reduceAdd, Int.reduceSub, reduceIte, ↓reduceIte, Value.oneCell', splice, reduceCtorEq]
  simp only [e, w, c0, c1, sn_upto, sn_from, slN_def, run_cap, rules, rules2, loopRules, Tryd.facts, base0, Int.toNat_zero, Nat.reduceAdd, Nat.reduceMul, Nat.reduceSub, Nat.reduceLT, Nat.reduceLeDiff, Nat.reduceEqDiff, Int.reduceLE, Int.reduceLT, Int.reduceToNat, Int.reduceNe, Int.reduceEq, not_false_eq_true, Nat.reduceBEq, Nat.reduceDiv, Int.natCast_zero, Int.natCast_one, Int.reduceAdd, Int.reduceSub, reduceIte, ↓reduceIte, Value.oneCell', splice, reduceCtorEq]
  exact congrArg (I .u32) (or_comm' _ _ _)
theorem rotr_fun (x n : Int) (h0 : 1 ≤ n) (h1 : n ≤ 31) : Fun Tryd.prog 61 [I .u32 x, I .i64 n] (I .u32 (rotW x n)) := by
  have w : IntKind.i64.wrap (0 - n) = -n := by rw [wrap_i64 _ (by omega) (by omega)]; omega
  refine fun_of_vc Tryd.func61 rfl (by kernel_rfl) (by simp [Tryd.ntmps61]) rfl rfl ?_
  simp only [Tryd.results61, sn_upto, sn_from, slN_def, run_cap, rules, rules2, loopRules, Tryd.facts, base0, Int.toNat_zero, Nat.reduceAdd, Nat.reduceMul, Nat.reduceSub, Nat.reduceLT, Nat.reduceLeDiff, Nat.reduceEqDiff, Int.reduceLE, Int.reduceLT, Int.reduceToNat, Int.reduceNe, Int.reduceEq, not_false_eq_true, Nat.reduceBEq, Nat.reduceDiv, Int.natCast_zero, Int.natCast_one, Int.reduceAdd, Int.reduceSub, reduceIte, ↓reduceIte, Value.oneCell', splice, reduceCtorEq]
  simp only [w, sn_upto, sn_from, slN_def, run_cap, rules, rules2, loopRules, Tryd.facts, base0, Int.toNat_zero, Nat.reduceAdd, Nat.reduceMul, Nat.reduceSub, Nat.reduceLT, Nat.reduceLeDiff, Nat.reduceEqDiff, Int.reduceLE, Int.reduceLT, Int.reduceToNat, Int.reduceNe, Int.reduceEq, not_false_eq_true, Nat.reduceBEq, Nat.reduceDiv, Int.natCast_zero, Int.natCast_one, Int.reduceAdd, Int.reduceSub, reduceIte, ↓reduceIte, Value.oneCell', splice, reduceCtorEq]
  refine (rotl_fun x n h0 h1).vcCall ?_
  simp only [sn_upto, sn_from, slN_def, run_cap, rules, rules2, loopRules, Tryd.facts, base0, Int.toNat_zero, Nat.reduceAdd, Nat.reduceMul, Nat.reduceSub, Nat.reduceLT, Nat.reduceLeDiff, Nat.reduceEqDiff, Int.reduceLE, Int.reduceLT, Int.reduceToNat, Int.reduceNe, Int.reduceEq, not_false_eq_true, Nat.reduceBEq, Nat.reduceDiv, Int.natCast_zero, Int.natCast_one, Int.reduceAdd, Int.reduceSub, reduceIte, ↓reduceIte, Value.oneCell', splice, reduceCtorEq]
set_option maxHeartbeats 4000000 in
set_option maxRecDepth 20000 in
theorem wordsKey_fun (v : Nat → Int) : Fun Tryd.prog 49 [Ag (rowI .u32 8 v)] (Ag (rowI .u8 32 (outW v))) := by
  refine fun_of_vc Tryd.func49 rfl (by kernel_rfl) (by simp [Tryd.ntmps49]) rfl rfl ?_
  simp only [Tryd.results49, sn_upto, sn_from, slN_def, run_cap, rules, rules2, loopRules, Tryd.facts, base0, Int.toNat_zero, Nat.reduceAdd, Nat.reduceMul, Nat.reduceSub, Nat.reduceLT, Nat.reduceLeDiff, Nat.reduceEqDiff, Int.reduceLE, Int.reduceLT, Int.reduceToNat, Int.reduceNe, Int.reduceEq, not_false_eq_true, Nat.reduceBEq, Nat.reduceDiv, Int.natCast_zero, Int.natCast_one, Int.reduceAdd, Int.reduceSub, reduceIte, ↓reduceIte, Value.oneCell', rowI_length, rowI_take, rowI_splice, rep_all, row_zero, le_nat, Int.toNat_natCast, Nat.zero_add, sok_row, reduceCtorEq]
  refine loop_count 32 (fun k => [(2, Ptr 1 0), (1, Ptr 0 0), (3, Ptr 2 0), (5, I .i64 k)])
    (fun k => [(0, ⟨true, rowI .u32 8 v⟩), (1, ⟨true, rowI .u8 32 (fun _ => 0)⟩), (2, ⟨true, rowI .u8 32 (fun i => if i < k then outW v i else 0)⟩)]) _ ?_ ?_ ?_
  · simp only [Nat.not_lt_zero, if_false, sn_upto, sn_from, slN_def, run_cap, rules, rules2, loopRules, Tryd.facts, base0, Int.toNat_zero, Nat.reduceAdd, Nat.reduceMul, Nat.reduceSub, Nat.reduceLT, Nat.reduceLeDiff, Nat.reduceEqDiff, Int.reduceLE, Int.reduceLT, Int.reduceToNat, Int.reduceNe, Int.reduceEq, not_false_eq_true, Nat.reduceBEq, Nat.reduceDiv, Int.natCast_zero, Int.natCast_one, Int.reduceAdd, Int.reduceSub, reduceIte, ↓reduceIte, Value.oneCell', rowI_length, rowI_take, rowI_splice, rep_all, row_zero, le_nat, Int.toNat_natCast, Nat.zero_add, sok_row, reduceCtorEq]
  · intro j hj
    have a1 : (((j / 4 : Nat) : Int) < 8) = True := by simp; omega
    have a3 : ((j : Int) < 32) = True := lt_nat (m := 32) hj
    have q := quoN j 4 (by omega)
    have r := remN j 4
    rw [show ((4 : Nat) : Int) = 4 from rfl] at q r
    have w1 : IntKind.i64.wrap (((j % 4 : Nat) : Int) * 8) = 8 * ((j % 4 : Nat) : Int) := by rw [wrap_i64 _ (by omega) (by omega)]; omega
    have w2 : IntKind.i64.wrap (24 - 8 * ((j % 4 : Nat) : Int)) = 24 - 8 * ((j % 4 : Nat) : Int) := wrap_i64 _ (by omega) (by omega)
    have a2 : (0 ≤ 24 - 8 * ((j % 4 : Nat) : Int)) = True := eq_true (by omega)
    have fin : rowI .u8 32 (upd (fun i => if i < j then outW v i else 0) j (outW v j)) = rowI .u8 32 (fun i => if i < j + 1 then outW v i else 0) := row_upto
    have eo : IntKind.u8.wrap (shrI .u32 (v (j / 4)) (24 - 8 * ((j % 4 : Nat) : Int))) = outW v j := rfl
    simp only [sn_upto, sn_from, slN_def, run_cap, rules, rules2, loopRules, Tryd.facts, base0, Int.toNat_zero, Nat.reduceAdd, Nat.reduceMul, Nat.reduceSub, Nat.reduceLT, Nat.reduceLeDiff, Nat.reduceEqDiff, Int.reduceLE, Int.reduceLT, Int.reduceToNat, Int.reduceNe, Int.reduceEq, not_false_eq_true, Nat.reduceBEq, Nat.reduceDiv, Int.natCast_zero, Int.natCast_one, Int.reduceAdd, Int.reduceSub, reduceIte, ↓reduceIte, Value.oneCell', rowI_length, rowI_take, rowI_splice, rep_all, row_zero, le_nat, Int.toNat_natCast, Nat.zero_add, sok_row, reduceCtorEq]
    refine vcIf_yes (by simp; omega) ?_
    simp only [q, r, w1, w2, a1, a2, a3, nat_nn, rowI_get .u32 8 v (j / 4) (by omega), Nat.mul_one, eo, rowI_splice1 .u8 32 _ j hj, fin, wrapS j (by omega), sn_upto, sn_from, slN_def, run_cap, rules, rules2, loopRules, Tryd.facts, base0, Int.toNat_zero, Nat.reduceAdd, Nat.reduceMul, Nat.reduceSub, Nat.reduceLT, Nat.reduceLeDiff, Nat.reduceEqDiff, Int.reduceLE, Int.reduceLT, Int.reduceToNat, Int.reduceNe, Int.reduceEq, not_false_eq_true, Nat.reduceBEq, Nat.reduceDiv, Int.natCast_zero, Int.natCast_one, Int.reduceAdd, Int.reduceSub, reduceIte, ↓reduceIte, Value.oneCell', rowI_length, rowI_take, rowI_splice, rep_all, row_zero, le_nat, Int.toNat_natCast, Nat.zero_add, sok_row, reduceCtorEq]
    omega
  · simp only [sn_upto, sn_from, slN_def, run_cap, rules, rules2, loopRules, Tryd.facts, base0, Int.toNat_zero, Nat.reduceAdd, Nat.reduceMul, Nat.reduceSub, Nat.reduceLT, Nat.reduceLeDiff, Nat.reduceEqDiff, Int.reduceLE, Int.reduceLT, Int.reduceToNat, Int.reduceNe, Int.reduceEq, not_false_eq_true, Nat.reduceBEq, Nat.reduceDiv, Int.natCast_zero, Int.natCast_one, Int.reduceAdd, Int.reduceSub, reduceIte, ↓reduceIte, Value.oneCell', rowI_length, rowI_take, rowI_splice, rep_all, row_zero, le_nat, Int.toNat_natCast, Nat.zero_add, sok_row, reduceCtorEq]
    refine vcIf_no (by simp) ?_
    simp only [row_all, sn_upto, sn_from, slN_def, run_cap, rules, rules2, loopRules, Tryd.facts, base0, Int.toNat_zero, Nat.reduceAdd, Nat.reduceMul, Nat.reduceSub, Nat.reduceLT, Nat.reduceLeDiff, Nat.reduceEqDiff, Int.reduceLE, Int.reduceLT, Int.reduceToNat, Int.reduceNe, Int.reduceEq, not_false_eq_true, Nat.reduceBEq, Nat.reduceDiv, Int.natCast_zero, Int.natCast_one, Int.reduceAdd, Int.reduceSub, reduceIte, ↓reduceIte, Value.oneCell', rowI_length, rowI_take, rowI_splice, rep_all, row_zero, le_nat, Int.toNat_natCast, Nat.zero_add, sok_row, reduceCtorEq]
theorem word_m {n : Nat} {f : Nat → Int} {o c : Nat} {cs : List SV} (hf : Byt f) (hc : Shows cs o n f) (hp : cs.all SV.plain = true) (t : Nat) (ht : 4 * t + 4 ≤ n) (ht' : t < 16) :
    MFun Tryd.prog 59 [Sl 0 o n c, I .i64 ((4 * t : Nat) : Int)] 1 (lk [(0, ⟨false, cs⟩)]) (fun v out => v = I .u32 (wordW f t) ∧ out = fun _ => none) := by
  refine mfun_of_vc Tryd.func59 rfl (by kernel_rfl) (by simp [Tryd.ntmps59]) Tryd.callable59 (by simp [AV.ok, CV.ok, SV.names]) all1 (inn1 hp) ?_
  have a0 := hc (4 * t) (by omega)
  have a1 := hc (4 * t + 1) (by omega)
  have a2 := hc (4 * t + 2) (by omega)
  have a3 := hc (4 * t + 3) (by omega)
  have w1 : IntKind.i64.wrap (((4 * t : Nat) : Int) + 1) = ((4 * t + 1 : Nat) : Int) := wrap_i64 _ (by omega) (by omega)
  have w2 : IntKind.i64.wrap (((4 * t : Nat) : Int) + 2) = ((4 * t + 2 : Nat) : Int) := wrap_i64 _ (by omega) (by omega)
  have w3 : IntKind.i64.wrap (((4 * t : Nat) : Int) + 3) = ((4 * t + 3 : Nat) : Int) := wrap_i64 _ (by omega) (by omega)
  have w4 : IntKind.i64.wrap (((4 * t : Nat) : Int) + 4) = ((4 * t + 4 : Nat) : Int) := wrap_i64 _ (by omega) (by omega)
  have d1 : decide (((4 * t : Nat) : Int) < 0) = false := decide_eq_false (by omega)
  have d2 : decide ((n : Int) < ((4 * t + 4 : Nat) : Int)) = false := decide_eq_false (by omega)
  have l0 : (((4 * t : Nat) : Int) < (n : Int)) = True := eq_true (by omega)
  have l1 : (((4 * t + 1 : Nat) : Int) < (n : Int)) = True := eq_true (by omega)
  have l2 : (((4 * t + 2 : Nat) : Int) < (n : Int)) = True := eq_true (by omega)
  have l3 : (((4 * t + 3 : Nat) : Int) < (n : Int)) = True := eq_true (by omega)
  simp only [Tryd.results59, w1, w2, w3, w4, d1, d2, l0, l1, l2, l3, nat_nn, a0, a1, a2, a3, Nat.mul_one, sn_upto, sn_from, slN_def, run_cap, rules, rules2, loopRules, Tryd.facts, base0, Int.toNat_zero, Nat.reduceAdd, Nat.reduceMul, Nat.reduceSub, Nat.reduceLT, Nat.reduceLeDiff, Nat.reduceEqDiff, Int.reduceLE, Int.reduceLT, Int.reduceToNat, Int.reduceNe, Int.reduceEq, not_false_eq_true, Nat.reduceBEq, Nat.reduceDiv, Int.natCast_zero, Int.natCast_one, Int.reduceAdd, Int.reduceSub, reduceIte, ↓reduceIte, Value.oneCell', rowI_length, rowI_take, rowI_splice, rep_all, row_zero, le_nat, Int.toNat_natCast, Nat.zero_add, sok_row, reduceCtorEq]
  have e := wordW_sum hf t
  simp only [e, sn_upto, sn_from, slN_def, run_cap, rules, rules2, loopRules, Tryd.facts, base0, Int.toNat_zero, Nat.reduceAdd, Nat.reduceMul, Nat.reduceSub, Nat.reduceLT, Nat.reduceLeDiff, Nat.reduceEqDiff, Int.reduceLE, Int.reduceLT, Int.reduceToNat, Int.reduceNe, Int.reduceEq, not_false_eq_true, Nat.reduceBEq, Nat.reduceDiv, Int.natCast_zero, Int.natCast_one, Int.reduceAdd, Int.reduceSub, reduceIte, ↓reduceIte, Value.oneCell', rowI_length, rowI_take, rowI_splice, rep_all, row_zero, le_nat, Int.toNat_natCast, Nat.zero_add, sok_row, reduceCtorEq]
  exact ⟨by kernel_rfl, ret_plain rfl ⟨rfl, rfl⟩⟩
/-- The words of a block in the program: the first i bytes have been read in. -/
def inW (f : Nat → Int) (i t : Nat) : Int := if 4 * t + 4 ≤ i then wordW f t else if 4 * t ≤ i then preW f t (i - 4 * t) else 0
theorem inW_zero (f : Nat → Int) : ∀ t, inW f 0 t = 0 := fun t => by
  simp only [inW]; rw [if_neg (by omega)]
  split
  · rw [show 0 - 4 * t = 0 by omega]; rfl
  · rfl
theorem inW_at (f : Nat → Int) (i : Nat) : inW f i (i / 4) = preW f (i / 4) (i % 4) := by
  simp only [inW]; rw [if_neg (by omega), if_pos (by omega), show i - 4 * (i / 4) = i % 4 by omega]
theorem inW_step (f : Nat → Int) (i : Nat) : upd (inW f i) (i / 4) (preW f (i / 4) (i % 4 + 1)) = inW f (i + 1) := by
  funext t
  simp only [upd]
  split
  · rename_i e; subst e
    simp only [inW]
    by_cases h : 4 * (i / 4) + 4 ≤ i + 1
    · rw [if_pos h, show i % 4 + 1 = 4 by omega]; rfl
    · rw [if_neg h, if_pos (by omega), show i + 1 - 4 * (i / 4) = i % 4 + 1 by omega]
  · rename_i e
    simp only [inW]
    by_cases h : 4 * t + 4 ≤ i
    · rw [if_pos h, if_pos (by omega)]
    · rw [if_neg h, if_neg (show ¬ 4 * t ≤ i by omega), if_neg (show ¬ 4 * t + 4 ≤ i + 1 by omega)]
      by_cases h3 : 4 * t ≤ i + 1
      · rw [if_pos h3, show i + 1 - 4 * t = 0 by omega]; rfl
      · rw [if_neg h3]
theorem inW_all (f : Nat → Int) : rowI .u32 64 (inW f 64) = rowI .u32 64 (schF f 16) := rowI_congr fun t ht => by
  have : ∀ k, k ≤ 16 → schF f k t = if t < k then wordW f t else 0 := fun k => by
    induction k with
    | zero => intro _; rfl
    | succ k ih =>
      intro hk
      simp only [schF, upd]
      split
      · rename_i e; subst e; rw [if_pos (by omega), if_pos (by omega)]
      · rw [ih (by omega)]
        by_cases h : t < k
        · rw [if_pos h, if_pos (by omega)]
        · rw [if_neg h, if_neg (by omega)]
  rw [this 16 (Nat.le_refl _)]
  simp only [inW]
  by_cases h : t < 16
  · rw [if_pos (by omega), if_pos h]
  · rw [if_neg (by omega), if_neg h]
    split
    · rw [show 64 - 4 * t = 0 by omega]; rfl
    · rfl
set_option maxHeartbeats 8000000 in
set_option maxRecDepth 20000 in
theorem schedule_m {f : Nat → Int} {o c : Nat} {cs : List SV} (hf : Byt f) (hc : Shows cs o 64 f) (hp : cs.all SV.plain = true) :
    MFun Tryd.prog 57 [Sl 0 o 64 c] 1 (lk [(0, ⟨false, cs⟩)]) (fun v out => v = Ag (rowI .u32 64 (schA f)) ∧ out = fun _ => none) := by
  refine mfun_of_vc Tryd.func57 rfl (by kernel_rfl) (by simp [Tryd.ntmps57]) Tryd.callable57 (by simp [AV.ok, CV.ok, SV.names]) all1 (inn1 hp) ?_
  have ok1 : ∀ {M : Nat → Prop}, (∀ x ∈ cs, SV.ok M x) = True := eq_true (ok_all hp)
  simp only [Tryd.results57, sn_upto, sn_from, slN_def, run_cap, rules, rules2, loopRules, Tryd.facts, base0, Int.toNat_zero, Nat.reduceAdd, Nat.reduceMul, Nat.reduceSub, Nat.reduceLT, Nat.reduceLeDiff, Nat.reduceEqDiff, Int.reduceLE, Int.reduceLT, Int.reduceToNat, Int.reduceNe, Int.reduceEq, not_false_eq_true, Nat.reduceBEq, Nat.reduceDiv, Int.natCast_zero, Int.natCast_one, Int.reduceAdd, Int.reduceSub, reduceIte, ↓reduceIte, Value.oneCell', rowI_length, rowI_take, rowI_splice, rep_all, row_zero, le_nat, Int.toNat_natCast, Nat.zero_add, sok_row, reduceCtorEq]
  refine loop_count 64 (fun k => [(2, Ptr 1 0), (3, Ptr 2 0), (9, Sl 0 o 64 c), (10, I .i64 64), (11, I .i64 k)])
    (fun k => [(0, ⟨false, cs⟩), (1, ⟨true, rowI .u32 64 (fun _ => 0)⟩), (2, ⟨true, rowI .u32 64 (inW f k)⟩)]) _ ?_ ?_ ?_
  · simp only [ok1, sn_upto, sn_from, slN_def, run_cap, rules, rules2, loopRules, Tryd.facts, base0, Int.toNat_zero, Nat.reduceAdd, Nat.reduceMul, Nat.reduceSub, Nat.reduceLT, Nat.reduceLeDiff, Nat.reduceEqDiff, Int.reduceLE, Int.reduceLT, Int.reduceToNat, Int.reduceNe, Int.reduceEq, not_false_eq_true, Nat.reduceBEq, Nat.reduceDiv, Int.natCast_zero, Int.natCast_one, Int.reduceAdd, Int.reduceSub, reduceIte, ↓reduceIte, Value.oneCell', rowI_length, rowI_take, rowI_splice, rep_all, row_zero, le_nat, Int.toNat_natCast, Nat.zero_add, sok_row, reduceCtorEq]
    exact congrArg (fun c => some (Box.mk true c)) (rowI_congr fun i _ => (inW_zero f i).symm)
  · intro j hj
    have a1 : (((j / 4 : Nat) : Int) < 64) = True := by simp; omega
    have a3 : ((j : Int) < 64) = True := lt_nat (m := 64) hj
    have q := quoN j 4 (by omega)
    rw [show ((4 : Nat) : Int) = 4 from rfl] at q
    have st := preW_step hf (j / 4) (j % 4) (by omega)
    rw [show 4 * (j / 4) + j % 4 = j by omega] at st
    simp only [sn_upto, sn_from, slN_def, run_cap, rules, rules2, loopRules, Tryd.facts, base0, Int.toNat_zero, Nat.reduceAdd, Nat.reduceMul, Nat.reduceSub, Nat.reduceLT, Nat.reduceLeDiff, Nat.reduceEqDiff, Int.reduceLE, Int.reduceLT, Int.reduceToNat, Int.reduceNe, Int.reduceEq, not_false_eq_true, Nat.reduceBEq, Nat.reduceDiv, Int.natCast_zero, Int.natCast_one, Int.reduceAdd, Int.reduceSub, reduceIte, ↓reduceIte, Value.oneCell', rowI_length, rowI_take, rowI_splice, rep_all, row_zero, le_nat, Int.toNat_natCast, Nat.zero_add, sok_row, reduceCtorEq]
    refine vcIf_yes (by simp; omega) ?_
    simp only [q, a1, a3, nat_nn, hc j hj, rowI_get .u32 64 _ (j / 4) (show j / 4 < 64 by omega), inW_at, st, Nat.mul_one, rowI_splice1 .u32 64 _ (j / 4) (show j / 4 < 64 by omega), inW_step, wrapS j (by omega), sn_upto, sn_from, slN_def, run_cap, rules, rules2, loopRules, Tryd.facts, base0, Int.toNat_zero, Nat.reduceAdd, Nat.reduceMul, Nat.reduceSub, Nat.reduceLT, Nat.reduceLeDiff, Nat.reduceEqDiff, Int.reduceLE, Int.reduceLT, Int.reduceToNat, Int.reduceNe, Int.reduceEq, not_false_eq_true, Nat.reduceBEq, Nat.reduceDiv, Int.natCast_zero, Int.natCast_one, Int.reduceAdd, Int.reduceSub, reduceIte, ↓reduceIte, Value.oneCell', rowI_length, rowI_take, rowI_splice, rep_all, row_zero, le_nat, Int.toNat_natCast, Nat.zero_add, sok_row, reduceCtorEq]
    exact ⟨by omega, ok_all hp⟩
  · simp only [sn_upto, sn_from, slN_def, run_cap, rules, rules2, loopRules, Tryd.facts, base0, Int.toNat_zero, Nat.reduceAdd, Nat.reduceMul, Nat.reduceSub, Nat.reduceLT, Nat.reduceLeDiff, Nat.reduceEqDiff, Int.reduceLE, Int.reduceLT, Int.reduceToNat, Int.reduceNe, Int.reduceEq, not_false_eq_true, Nat.reduceBEq, Nat.reduceDiv, Int.natCast_zero, Int.natCast_one, Int.reduceAdd, Int.reduceSub, reduceIte, ↓reduceIte, Value.oneCell', rowI_length, rowI_take, rowI_splice, rep_all, row_zero, le_nat, Int.toNat_natCast, Nat.zero_add, sok_row, reduceCtorEq]
    refine vcIf_no (by simp) ?_
    simp only [inW_all, sn_upto, sn_from, slN_def, run_cap, rules, rules2, loopRules, Tryd.facts, base0, Int.toNat_zero, Nat.reduceAdd, Nat.reduceMul, Nat.reduceSub, Nat.reduceLT, Nat.reduceLeDiff, Nat.reduceEqDiff, Int.reduceLE, Int.reduceLT, Int.reduceToNat, Int.reduceNe, Int.reduceEq, not_false_eq_true, Nat.reduceBEq, Nat.reduceDiv, Int.natCast_zero, Int.natCast_one, Int.reduceAdd, Int.reduceSub, reduceIte, ↓reduceIte, Value.oneCell', rowI_length, rowI_take, rowI_splice, rep_all, row_zero, le_nat, Int.toNat_natCast, Nat.zero_add, sok_row, reduceCtorEq]
    refine loop_count 48 (fun k => [(2, Ptr 1 0), (3, Ptr 2 0), (6, I .i64 ((16 + k : Nat) : Int))])
      (fun k => [(1, ⟨true, rowI .u32 64 (fun _ => 0)⟩), (2, ⟨true, rowI .u32 64 (schF f (16 + k))⟩)]) _ ?_ ?_ ?_
    · simp only [sn_upto, sn_from, slN_def, run_cap, rules, rules2, loopRules, Tryd.facts, base0, Int.toNat_zero, Nat.reduceAdd, Nat.reduceMul, Nat.reduceSub, Nat.reduceLT, Nat.reduceLeDiff, Nat.reduceEqDiff, Int.reduceLE, Int.reduceLT, Int.reduceToNat, Int.reduceNe, Int.reduceEq, not_false_eq_true, Nat.reduceBEq, Nat.reduceDiv, Int.natCast_zero, Int.natCast_one, Int.reduceAdd, Int.reduceSub, reduceIte, ↓reduceIte, Value.oneCell', rowI_length, rowI_take, rowI_splice, rep_all, row_zero, le_nat, Int.toNat_natCast, Nat.zero_add, sok_row, reduceCtorEq]
    · intro k hk
      have w15 : IntKind.i64.wrap (((16 + k : Nat) : Int) - 15) = ((16 + k - 15 : Nat) : Int) := by rw [wrap_i64 _ (by omega) (by omega)]; omega
      have w2 : IntKind.i64.wrap (((16 + k : Nat) : Int) - 2) = ((16 + k - 2 : Nat) : Int) := by rw [wrap_i64 _ (by omega) (by omega)]; omega
      have w7 : IntKind.i64.wrap (((16 + k : Nat) : Int) - 7) = ((16 + k - 7 : Nat) : Int) := by rw [wrap_i64 _ (by omega) (by omega)]; omega
      have w16 : IntKind.i64.wrap (((16 + k : Nat) : Int) - 16) = ((16 + k - 16 : Nat) : Int) := by rw [wrap_i64 _ (by omega) (by omega)]; omega
      have l15 : (((16 + k - 15 : Nat) : Int) < 64) = True := eq_true (by omega)
      have l2 : (((16 + k - 2 : Nat) : Int) < 64) = True := eq_true (by omega)
      have l7 : (((16 + k - 7 : Nat) : Int) < 64) = True := eq_true (by omega)
      have l16 : (((16 + k - 16 : Nat) : Int) < 64) = True := eq_true (by omega)
      have l0 : (((16 + k : Nat) : Int) < 64) = True := eq_true (by omega)
      have g : ∀ i, i < 64 → (rowI .u32 64 (schF f (16 + k)))[i]? = some (Sum.inl (.int .u32 (schF f (16 + k) i))) := fun i hi => rowI_get .u32 64 _ i hi
      simp only [sn_upto, sn_from, slN_def, run_cap, rules, rules2, loopRules, Tryd.facts, base0, Int.toNat_zero, Nat.reduceAdd, Nat.reduceMul, Nat.reduceSub, Nat.reduceLT, Nat.reduceLeDiff, Nat.reduceEqDiff, Int.reduceLE, Int.reduceLT, Int.reduceToNat, Int.reduceNe, Int.reduceEq, not_false_eq_true, Nat.reduceBEq, Nat.reduceDiv, Int.natCast_zero, Int.natCast_one, Int.reduceAdd, Int.reduceSub, reduceIte, ↓reduceIte, Value.oneCell', rowI_length, rowI_take, rowI_splice, rep_all, row_zero, le_nat, Int.toNat_natCast, Nat.zero_add, sok_row, reduceCtorEq]
      refine vcIf_yes (by simp; omega) ?_
      simp only [w15, w2, w7, w16, l15, l2, l7, l16, l0, nat_nn, g _ (show 16 + k - 15 < 64 by omega), g _ (show 16 + k - 2 < 64 by omega), g _ (show 16 + k - 7 < 64 by omega), g _ (show 16 + k - 16 < 64 by omega), Nat.mul_one, sn_upto, sn_from, slN_def, run_cap, rules, rules2, loopRules, Tryd.facts, base0, Int.toNat_zero, Nat.reduceAdd, Nat.reduceMul, Nat.reduceSub, Nat.reduceLT, Nat.reduceLeDiff, Nat.reduceEqDiff, Int.reduceLE, Int.reduceLT, Int.reduceToNat, Int.reduceNe, Int.reduceEq, not_false_eq_true, Nat.reduceBEq, Nat.reduceDiv, Int.natCast_zero, Int.natCast_one, Int.reduceAdd, Int.reduceSub, reduceIte, ↓reduceIte, Value.oneCell', rowI_length, rowI_take, rowI_splice, rep_all, row_zero, le_nat, Int.toNat_natCast, Nat.zero_add, sok_row, reduceCtorEq]
      refine ⟨by kernel_rfl, Fun.draw (rotr_fun _ 7 (by decide) (by decide)) Tryd.callable61 ?_⟩
      simp only [w15, w2, w7, w16, l15, l2, l7, l16, l0, nat_nn, g _ (show 16 + k - 15 < 64 by omega), g _ (show 16 + k - 2 < 64 by omega), g _ (show 16 + k - 7 < 64 by omega), g _ (show 16 + k - 16 < 64 by omega), Nat.mul_one, sn_upto, sn_from, slN_def, run_cap, rules, rules2, loopRules, Tryd.facts, base0, Int.toNat_zero, Nat.reduceAdd, Nat.reduceMul, Nat.reduceSub, Nat.reduceLT, Nat.reduceLeDiff, Nat.reduceEqDiff, Int.reduceLE, Int.reduceLT, Int.reduceToNat, Int.reduceNe, Int.reduceEq, not_false_eq_true, Nat.reduceBEq, Nat.reduceDiv, Int.natCast_zero, Int.natCast_one, Int.reduceAdd, Int.reduceSub, reduceIte, ↓reduceIte, Value.oneCell', rowI_length, rowI_take, rowI_splice, rep_all, row_zero, le_nat, Int.toNat_natCast, Nat.zero_add, sok_row, reduceCtorEq]
      refine Fun.draw (rotr_fun _ 18 (by decide) (by decide)) Tryd.callable61 ?_
      simp only [w15, w2, w7, w16, l15, l2, l7, l16, l0, nat_nn, g _ (show 16 + k - 15 < 64 by omega), g _ (show 16 + k - 2 < 64 by omega), g _ (show 16 + k - 7 < 64 by omega), g _ (show 16 + k - 16 < 64 by omega), Nat.mul_one, sn_upto, sn_from, slN_def, run_cap, rules, rules2, loopRules, Tryd.facts, base0, Int.toNat_zero, Nat.reduceAdd, Nat.reduceMul, Nat.reduceSub, Nat.reduceLT, Nat.reduceLeDiff, Nat.reduceEqDiff, Int.reduceLE, Int.reduceLT, Int.reduceToNat, Int.reduceNe, Int.reduceEq, not_false_eq_true, Nat.reduceBEq, Nat.reduceDiv, Int.natCast_zero, Int.natCast_one, Int.reduceAdd, Int.reduceSub, reduceIte, ↓reduceIte, Value.oneCell', rowI_length, rowI_take, rowI_splice, rep_all, row_zero, le_nat, Int.toNat_natCast, Nat.zero_add, sok_row, reduceCtorEq]
      refine ⟨by kernel_rfl, Fun.draw (rotr_fun _ 17 (by decide) (by decide)) Tryd.callable61 ?_⟩
      simp only [w15, w2, w7, w16, l15, l2, l7, l16, l0, nat_nn, g _ (show 16 + k - 15 < 64 by omega), g _ (show 16 + k - 2 < 64 by omega), g _ (show 16 + k - 7 < 64 by omega), g _ (show 16 + k - 16 < 64 by omega), Nat.mul_one, sn_upto, sn_from, slN_def, run_cap, rules, rules2, loopRules, Tryd.facts, base0, Int.toNat_zero, Nat.reduceAdd, Nat.reduceMul, Nat.reduceSub, Nat.reduceLT, Nat.reduceLeDiff, Nat.reduceEqDiff, Int.reduceLE, Int.reduceLT, Int.reduceToNat, Int.reduceNe, Int.reduceEq, not_false_eq_true, Nat.reduceBEq, Nat.reduceDiv, Int.natCast_zero, Int.natCast_one, Int.reduceAdd, Int.reduceSub, reduceIte, ↓reduceIte, Value.oneCell', rowI_length, rowI_take, rowI_splice, rep_all, row_zero, le_nat, Int.toNat_natCast, Nat.zero_add, sok_row, reduceCtorEq]
      refine Fun.draw (rotr_fun _ 19 (by decide) (by decide)) Tryd.callable61 ?_
      simp only [w15, w2, w7, w16, l15, l2, l7, l16, l0, nat_nn, g _ (show 16 + k - 15 < 64 by omega), g _ (show 16 + k - 2 < 64 by omega), g _ (show 16 + k - 7 < 64 by omega), g _ (show 16 + k - 16 < 64 by omega), Nat.mul_one, sn_upto, sn_from, slN_def, run_cap, rules, rules2, loopRules, Tryd.facts, base0, Int.toNat_zero, Nat.reduceAdd, Nat.reduceMul, Nat.reduceSub, Nat.reduceLT, Nat.reduceLeDiff, Nat.reduceEqDiff, Int.reduceLE, Int.reduceLT, Int.reduceToNat, Int.reduceNe, Int.reduceEq, not_false_eq_true, Nat.reduceBEq, Nat.reduceDiv, Int.natCast_zero, Int.natCast_one, Int.reduceAdd, Int.reduceSub, reduceIte, ↓reduceIte, Value.oneCell', rowI_length, rowI_take, rowI_splice, rep_all, row_zero, le_nat, Int.toNat_natCast, Nat.zero_add, sok_row, reduceCtorEq]
      refine ⟨by kernel_rfl, by omega, congrArg (fun z => some (I .i64 z)) (wrapS (16 + k) (by omega)), ?_⟩
      have e : schF f (16 + (k + 1)) = upd (schF f (16 + k)) (16 + k) (nextW (schF f (16 + k)) (16 + k)) := by
        show upd (schF f (16 + k)) (16 + k) (if 16 + k < 16 then _ else _) = _
        rw [if_neg (by omega)]; rfl
      rw [e, ← rowI_splice1 .u32 64 _ _ (by omega)]
      rfl
    · simp only [sn_upto, sn_from, slN_def, run_cap, rules, rules2, loopRules, Tryd.facts, base0, Int.toNat_zero, Nat.reduceAdd, Nat.reduceMul, Nat.reduceSub, Nat.reduceLT, Nat.reduceLeDiff, Nat.reduceEqDiff, Int.reduceLE, Int.reduceLT, Int.reduceToNat, Int.reduceNe, Int.reduceEq, not_false_eq_true, Nat.reduceBEq, Nat.reduceDiv, Int.natCast_zero, Int.natCast_one, Int.reduceAdd, Int.reduceSub, reduceIte, ↓reduceIte, Value.oneCell', rowI_length, rowI_take, rowI_splice, rep_all, row_zero, le_nat, Int.toNat_natCast, Nat.zero_add, sok_row, reduceCtorEq]
      refine vcIf_no (by simp) ?_
      simp only [sn_upto, sn_from, slN_def, run_cap, rules, rules2, loopRules, Tryd.facts, base0, Int.toNat_zero, Nat.reduceAdd, Nat.reduceMul, Nat.reduceSub, Nat.reduceLT, Nat.reduceLeDiff, Nat.reduceEqDiff, Int.reduceLE, Int.reduceLT, Int.reduceToNat, Int.reduceNe, Int.reduceEq, not_false_eq_true, Nat.reduceBEq, Nat.reduceDiv, Int.natCast_zero, Int.natCast_one, Int.reduceAdd, Int.reduceSub, reduceIte, ↓reduceIte, Value.oneCell', rowI_length, rowI_take, rowI_splice, rep_all, row_zero, le_nat, Int.toNat_natCast, Nat.zero_add, sok_row, reduceCtorEq]
      exact ret_plain plainI ⟨rfl, rfl⟩
end Go.Proofs.YtljncmifbncdbaaDoor
