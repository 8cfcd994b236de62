/-
  Functions of the cipher, of the program and of the document.
-/
import Derived.Test.YtlpckbkmmocaaaaDoorVcgR1
set_option linter.unusedVariables false
set_option linter.unusedSimpArgs false
namespace Go.Proofs.YtlpckbkmmocaaaaDoor
open Go.Vcg
/-! ### Four rows of sixteen -/
def R64 (a b c d : Nat → Int) : List SV := rowI .u64 16 a ++ (rowI .u64 16 b ++ (rowI .u64 16 c ++ rowI .u64 16 d))
theorem R64_length (a b c d : Nat → Int) : (R64 a b c d).length = 64 := by simp [R64, rowI_length]
theorem R64_take (a b c d : Nat → Int) : List.take 64 (R64 a b c d) = R64 a b c d := List.take_of_length_le (by rw [R64_length]; exact Nat.le_refl _)
theorem R64_0 (a b c d : Nat → Int) : List.take 16 (R64 a b c d) = rowI .u64 16 a := by
  rw [R64, List.take_append_of_le_length (by rw [rowI_length]; exact Nat.le_refl _), rowI_take]
theorem drop16 (a : Nat → Int) (l : List SV) (n : Nat) : List.drop (16 + n) (rowI .u64 16 a ++ l) = List.drop n l := by
  rw [List.drop_append, rowI_length, List.drop_of_length_le (by rw [rowI_length]; omega), List.nil_append]; congr 1; omega
theorem take16 (a : Nat → Int) (l : List SV) : List.take 16 (rowI .u64 16 a ++ l) = rowI .u64 16 a := by
  rw [List.take_append_of_le_length (by rw [rowI_length]; exact Nat.le_refl _), rowI_take]
theorem R64_1 (a b c d : Nat → Int) : List.take 16 (List.drop 16 (R64 a b c d)) = rowI .u64 16 b := by
  rw [R64, drop16 a _ 0, List.drop_zero, take16]
theorem R64_2 (a b c d : Nat → Int) : List.take 16 (List.drop 32 (R64 a b c d)) = rowI .u64 16 c := by
  rw [R64, drop16 a _ 16, drop16 b _ 0, List.drop_zero, take16]
theorem R64_3 (a b c d : Nat → Int) : List.take 16 (List.drop 48 (R64 a b c d)) = rowI .u64 16 d := by
  rw [R64, drop16 a _ 32, drop16 b _ 16, drop16 c _ 0, List.drop_zero, rowI_take]
theorem R64_s (a b c d a' b' c' d' : Nat → Int) : splice (R64 a b c d) 0 (R64 a' b' c' d') = R64 a' b' c' d' := by
  rw [splice, List.take_zero, List.nil_append, List.drop_of_length_le (by simp [R64_length]), List.append_nil]
theorem R64_s0 (a b c d e : Nat → Int) : splice (R64 a b c d) 0 (rowI .u64 16 e) = R64 e b c d := by
  rw [splice, rowI_length, List.take_zero, List.nil_append, R64, drop16 a _ 0, List.drop_zero]; rfl
theorem R64_s1 (a b c d e : Nat → Int) : splice (R64 a b c d) 16 (rowI .u64 16 e) = R64 a e c d := by
  rw [splice, rowI_length, R64_0, R64, drop16 a _ 16, drop16 b _ 0, List.drop_zero, R64, List.append_assoc]
theorem R64_s2 (a b c d e : Nat → Int) : splice (R64 a b c d) 32 (rowI .u64 16 e) = R64 a b e d := by
  have h : List.take 32 (R64 a b c d) = rowI .u64 16 a ++ rowI .u64 16 b := by
    rw [R64, List.take_append, rowI_length, List.take_of_length_le (by rw [rowI_length]; omega), take16]
  rw [splice, rowI_length, h, R64, drop16 a _ 32, drop16 b _ 16, drop16 c _ 0, List.drop_zero, R64, List.append_assoc, List.append_assoc]
theorem R64_s3 (a b c d e : Nat → Int) : splice (R64 a b c d) 48 (rowI .u64 16 e) = R64 a b c e := by
  have h : List.take 48 (R64 a b c d) = rowI .u64 16 a ++ (rowI .u64 16 b ++ rowI .u64 16 c) := by
    rw [R64, List.take_append, rowI_length, List.take_of_length_le (by rw [rowI_length]; omega), List.take_append, rowI_length, List.take_of_length_le (by rw [rowI_length]; omega), take16]
  rw [splice, rowI_length, h, List.drop_of_length_le (by rw [R64_length]; omega), R64, List.append_nil, List.append_assoc, List.append_assoc]
theorem row_zero2 (n : Nat) (k : IntKind) (c : Int) : List.replicate n (Sum.inl (Value.int k c) : SV) = rowI k n (fun _ => c) := by
  rw [← row_zero, List.map_replicate]
def zN : Nat → Int := fun _ => 0
theorem R64_z : rowI .u64 64 (fun _ => 0) = R64 zN zN zN zN := by kernel_rfl
theorem R64_sok {M : Nat → Prop} (a b c d : Nat → Int) : (∀ x ∈ R64 a b c d, SV.ok M x) = True := by
  have h : ∀ f : Nat → Int, ∀ x ∈ rowI .u64 16 f, SV.ok M x := fun f => of_eq_true sok_row
  refine eq_true fun x hx => ?_
  simp only [R64, List.mem_append] at hx
  rcases hx with hx | hx | hx | hx <;> exact h _ _ hx
/-! ### The document's two points -/
theorem plusN_dig {a b : Nat → Int} (ha : Dig a) (hb : Dig b) : Dig (plusN a b) := (plusN_spec a b ha hb).1
theorem minusN_dig {a b : Nat → Int} (ha : Dig a) (hb : Dig b) : Dig (minusN a b) := (minusN_spec a b ha hb).1
theorem timesN_dig {a b : Nat → Int} (ha : Dig a) (hb : Dig b) : Dig (timesN a b) := (timesN_spec a b ha hb).1
def sumX (a b c d : Nat → Int) : Nat → Int := plusN (timesN (minusN c d) (plusN a b)) (timesN (plusN c d) (minusN a b))
def sumZ (a b c d : Nat → Int) : Nat → Int := minusN (timesN (minusN c d) (plusN a b)) (timesN (plusN c d) (minusN a b))
set_option maxHeartbeats 2000000 in
set_option maxRecDepth 20000 in
theorem sumPoint_fun (a b c d u : Nat → Int) (ha : Dig a) (hb : Dig b) (hc : Dig c) (hd : Dig d) (hu : Dig u) :
    Fun Tryd.prog 52 [Ag (R64 a b c d), Ag (rowI .u64 16 u)] (Ag (R64 (timesN (sumX a b c d) (sumX a b c d)) (timesN u (timesN (sumZ a b c d) (sumZ a b c d))) zN zN)) := by
  simp only [sumX, sumZ]
  refine fun_of_vc Tryd.func52 rfl (by kernel_rfl) (by simp [Tryd.ntmps52]) rfl rfl ?_
  simp only [Tryd.results52, R64_length, R64_take, R64_0, R64_1, R64_2, R64_3, R64_z, R64_s, R64_s0, R64_s1, R64_s2, R64_s3, row_zero2, R64_sok, sn_upto, sn_from, slN_def, run_cap, rules, rules2, loopRules, Tryd.facts, base0, Int.toNat_zero, Nat.reduceAdd, Nat.reduceMul, Nat.reduceSub, Nat.reduceLT, Nat.reduceLeDiff, Nat.reduceEqDiff, Int.reduceLE, Int.reduceLT, Int.reduceToNat, Int.reduceNe, Int.reduceEq, not_false_eq_true, Nat.reduceBEq, Nat.reduceDiv, Int.natCast_zero, Int.natCast_one, Int.reduceAdd, Int.reduceSub, reduceIte, ↓reduceIte, Value.oneCell', rowI_length, rowI_take, rowI_splice, rep_all, row_zero, le_nat, Int.toNat_natCast, Nat.zero_add, sok_row, reduceCtorEq]
  refine (refPlus_fun a b ha hb).vcCall ?_
  simp only [R64_length, R64_take, R64_0, R64_1, R64_2, R64_3, R64_z, R64_s, R64_s0, R64_s1, R64_s2, R64_s3, row_zero2, R64_sok, sn_upto, sn_from, slN_def, run_cap, rules, rules2, loopRules, Tryd.facts, base0, Int.toNat_zero, Nat.reduceAdd, Nat.reduceMul, Nat.reduceSub, Nat.reduceLT, Nat.reduceLeDiff, Nat.reduceEqDiff, Int.reduceLE, Int.reduceLT, Int.reduceToNat, Int.reduceNe, Int.reduceEq, not_false_eq_true, Nat.reduceBEq, Nat.reduceDiv, Int.natCast_zero, Int.natCast_one, Int.reduceAdd, Int.reduceSub, reduceIte, ↓reduceIte, Value.oneCell', rowI_length, rowI_take, rowI_splice, rep_all, row_zero, le_nat, Int.toNat_natCast, Nat.zero_add, sok_row, reduceCtorEq]
  refine (refMinus_fun a b ha hb).vcCall ?_
  simp only [R64_length, R64_take, R64_0, R64_1, R64_2, R64_3, R64_z, R64_s, R64_s0, R64_s1, R64_s2, R64_s3, row_zero2, R64_sok, sn_upto, sn_from, slN_def, run_cap, rules, rules2, loopRules, Tryd.facts, base0, Int.toNat_zero, Nat.reduceAdd, Nat.reduceMul, Nat.reduceSub, Nat.reduceLT, Nat.reduceLeDiff, Nat.reduceEqDiff, Int.reduceLE, Int.reduceLT, Int.reduceToNat, Int.reduceNe, Int.reduceEq, not_false_eq_true, Nat.reduceBEq, Nat.reduceDiv, Int.natCast_zero, Int.natCast_one, Int.reduceAdd, Int.reduceSub, reduceIte, ↓reduceIte, Value.oneCell', rowI_length, rowI_take, rowI_splice, rep_all, row_zero, le_nat, Int.toNat_natCast, Nat.zero_add, sok_row, reduceCtorEq]
  refine (refPlus_fun c d hc hd).vcCall ?_
  simp only [R64_length, R64_take, R64_0, R64_1, R64_2, R64_3, R64_z, R64_s, R64_s0, R64_s1, R64_s2, R64_s3, row_zero2, R64_sok, sn_upto, sn_from, slN_def, run_cap, rules, rules2, loopRules, Tryd.facts, base0, Int.toNat_zero, Nat.reduceAdd, Nat.reduceMul, Nat.reduceSub, Nat.reduceLT, Nat.reduceLeDiff, Nat.reduceEqDiff, Int.reduceLE, Int.reduceLT, Int.reduceToNat, Int.reduceNe, Int.reduceEq, not_false_eq_true, Nat.reduceBEq, Nat.reduceDiv, Int.natCast_zero, Int.natCast_one, Int.reduceAdd, Int.reduceSub, reduceIte, ↓reduceIte, Value.oneCell', rowI_length, rowI_take, rowI_splice, rep_all, row_zero, le_nat, Int.toNat_natCast, Nat.zero_add, sok_row, reduceCtorEq]
  refine (refMinus_fun c d hc hd).vcCall ?_
  have h1 := plusN_dig ha hb
  have h2 := minusN_dig ha hb
  have h3 := plusN_dig hc hd
  have h4 := minusN_dig hc hd
  simp only [R64_length, R64_take, R64_0, R64_1, R64_2, R64_3, R64_z, R64_s, R64_s0, R64_s1, R64_s2, R64_s3, row_zero2, R64_sok, sn_upto, sn_from, slN_def, run_cap, rules, rules2, loopRules, Tryd.facts, base0, Int.toNat_zero, Nat.reduceAdd, Nat.reduceMul, Nat.reduceSub, Nat.reduceLT, Nat.reduceLeDiff, Nat.reduceEqDiff, Int.reduceLE, Int.reduceLT, Int.reduceToNat, Int.reduceNe, Int.reduceEq, not_false_eq_true, Nat.reduceBEq, Nat.reduceDiv, Int.natCast_zero, Int.natCast_one, Int.reduceAdd, Int.reduceSub, reduceIte, ↓reduceIte, Value.oneCell', rowI_length, rowI_take, rowI_splice, rep_all, row_zero, le_nat, Int.toNat_natCast, Nat.zero_add, sok_row, reduceCtorEq]
  refine (times_fun _ _ h4 h1).vcCall ?_
  simp only [R64_length, R64_take, R64_0, R64_1, R64_2, R64_3, R64_z, R64_s, R64_s0, R64_s1, R64_s2, R64_s3, row_zero2, R64_sok, sn_upto, sn_from, slN_def, run_cap, rules, rules2, loopRules, Tryd.facts, base0, Int.toNat_zero, Nat.reduceAdd, Nat.reduceMul, Nat.reduceSub, Nat.reduceLT, Nat.reduceLeDiff, Nat.reduceEqDiff, Int.reduceLE, Int.reduceLT, Int.reduceToNat, Int.reduceNe, Int.reduceEq, not_false_eq_true, Nat.reduceBEq, Nat.reduceDiv, Int.natCast_zero, Int.natCast_one, Int.reduceAdd, Int.reduceSub, reduceIte, ↓reduceIte, Value.oneCell', rowI_length, rowI_take, rowI_splice, rep_all, row_zero, le_nat, Int.toNat_natCast, Nat.zero_add, sok_row, reduceCtorEq]
  refine (times_fun _ _ h3 h2).vcCall ?_
  have h5 := timesN_dig h4 h1
  have h6 := timesN_dig h3 h2
  simp only [R64_length, R64_take, R64_0, R64_1, R64_2, R64_3, R64_z, R64_s, R64_s0, R64_s1, R64_s2, R64_s3, row_zero2, R64_sok, sn_upto, sn_from, slN_def, run_cap, rules, rules2, loopRules, Tryd.facts, base0, Int.toNat_zero, Nat.reduceAdd, Nat.reduceMul, Nat.reduceSub, Nat.reduceLT, Nat.reduceLeDiff, Nat.reduceEqDiff, Int.reduceLE, Int.reduceLT, Int.reduceToNat, Int.reduceNe, Int.reduceEq, not_false_eq_true, Nat.reduceBEq, Nat.reduceDiv, Int.natCast_zero, Int.natCast_one, Int.reduceAdd, Int.reduceSub, reduceIte, ↓reduceIte, Value.oneCell', rowI_length, rowI_take, rowI_splice, rep_all, row_zero, le_nat, Int.toNat_natCast, Nat.zero_add, sok_row, reduceCtorEq]
  refine (refPlus_fun _ _ h5 h6).vcCall ?_
  simp only [R64_length, R64_take, R64_0, R64_1, R64_2, R64_3, R64_z, R64_s, R64_s0, R64_s1, R64_s2, R64_s3, row_zero2, R64_sok, sn_upto, sn_from, slN_def, run_cap, rules, rules2, loopRules, Tryd.facts, base0, Int.toNat_zero, Nat.reduceAdd, Nat.reduceMul, Nat.reduceSub, Nat.reduceLT, Nat.reduceLeDiff, Nat.reduceEqDiff, Int.reduceLE, Int.reduceLT, Int.reduceToNat, Int.reduceNe, Int.reduceEq, not_false_eq_true, Nat.reduceBEq, Nat.reduceDiv, Int.natCast_zero, Int.natCast_one, Int.reduceAdd, Int.reduceSub, reduceIte, ↓reduceIte, Value.oneCell', rowI_length, rowI_take, rowI_splice, rep_all, row_zero, le_nat, Int.toNat_natCast, Nat.zero_add, sok_row, reduceCtorEq]
  refine (refMinus_fun _ _ h5 h6).vcCall ?_
  have h7 := plusN_dig h5 h6
  have h8 := minusN_dig h5 h6
  simp only [R64_length, R64_take, R64_0, R64_1, R64_2, R64_3, R64_z, R64_s, R64_s0, R64_s1, R64_s2, R64_s3, row_zero2, R64_sok, sn_upto, sn_from, slN_def, run_cap, rules, rules2, loopRules, Tryd.facts, base0, Int.toNat_zero, Nat.reduceAdd, Nat.reduceMul, Nat.reduceSub, Nat.reduceLT, Nat.reduceLeDiff, Nat.reduceEqDiff, Int.reduceLE, Int.reduceLT, Int.reduceToNat, Int.reduceNe, Int.reduceEq, not_false_eq_true, Nat.reduceBEq, Nat.reduceDiv, Int.natCast_zero, Int.natCast_one, Int.reduceAdd, Int.reduceSub, reduceIte, ↓reduceIte, Value.oneCell', rowI_length, rowI_take, rowI_splice, rep_all, row_zero, le_nat, Int.toNat_natCast, Nat.zero_add, sok_row, reduceCtorEq]
  refine ⟨by kernel_rfl, ?_⟩
  refine Fun.draw (times_fun _ _ h7 h7) Tryd.callable39 ?_
  simp only [R64_length, R64_take, R64_0, R64_1, R64_2, R64_3, R64_z, R64_s, R64_s0, R64_s1, R64_s2, R64_s3, row_zero2, R64_sok, sn_upto, sn_from, slN_def, run_cap, rules, rules2, loopRules, Tryd.facts, base0, Int.toNat_zero, Nat.reduceAdd, Nat.reduceMul, Nat.reduceSub, Nat.reduceLT, Nat.reduceLeDiff, Nat.reduceEqDiff, Int.reduceLE, Int.reduceLT, Int.reduceToNat, Int.reduceNe, Int.reduceEq, not_false_eq_true, Nat.reduceBEq, Nat.reduceDiv, Int.natCast_zero, Int.natCast_one, Int.reduceAdd, Int.reduceSub, reduceIte, ↓reduceIte, Value.oneCell', rowI_length, rowI_take, rowI_splice, rep_all, row_zero, le_nat, Int.toNat_natCast, Nat.zero_add, sok_row, reduceCtorEq]
  refine Fun.draw (times_fun _ _ h8 h8) Tryd.callable39 ?_
  simp only [R64_length, R64_take, R64_0, R64_1, R64_2, R64_3, R64_z, R64_s, R64_s0, R64_s1, R64_s2, R64_s3, row_zero2, R64_sok, sn_upto, sn_from, slN_def, run_cap, rules, rules2, loopRules, Tryd.facts, base0, Int.toNat_zero, Nat.reduceAdd, Nat.reduceMul, Nat.reduceSub, Nat.reduceLT, Nat.reduceLeDiff, Nat.reduceEqDiff, Int.reduceLE, Int.reduceLT, Int.reduceToNat, Int.reduceNe, Int.reduceEq, not_false_eq_true, Nat.reduceBEq, Nat.reduceDiv, Int.natCast_zero, Int.natCast_one, Int.reduceAdd, Int.reduceSub, reduceIte, ↓reduceIte, Value.oneCell', rowI_length, rowI_take, rowI_splice, rep_all, row_zero, le_nat, Int.toNat_natCast, Nat.zero_add, sok_row, reduceCtorEq]
  refine Fun.draw (times_fun _ _ hu (timesN_dig h8 h8)) Tryd.callable39 ?_
  simp only [R64_length, R64_take, R64_0, R64_1, R64_2, R64_3, R64_z, R64_s, R64_s0, R64_s1, R64_s2, R64_s3, row_zero2, R64_sok, sn_upto, sn_from, slN_def, run_cap, rules, rules2, loopRules, Tryd.facts, base0, Int.toNat_zero, Nat.reduceAdd, Nat.reduceMul, Nat.reduceSub, Nat.reduceLT, Nat.reduceLeDiff, Nat.reduceEqDiff, Int.reduceLE, Int.reduceLT, Int.reduceToNat, Int.reduceNe, Int.reduceEq, not_false_eq_true, Nat.reduceBEq, Nat.reduceDiv, Int.natCast_zero, Int.natCast_one, Int.reduceAdd, Int.reduceSub, reduceIte, ↓reduceIte, Value.oneCell', rowI_length, rowI_take, rowI_splice, rep_all, row_zero, le_nat, Int.toNat_natCast, Nat.zero_add, sok_row, reduceCtorEq]
def dblE (x z : Nat → Int) : Nat → Int := minusN (timesN (plusN x z) (plusN x z)) (timesN (minusN x z) (minusN x z))
def cN : Nat → Int := upd (upd (fun _ => 0) 0 56129) 1 1
def oneN : Nat → Int := upd (fun _ => 0) 0 1
theorem cN_dig : Dig cN := by intro i; simp only [cN, upd]; split <;> (try split) <;> omega
theorem oneN_dig : Dig oneN := by intro i; simp only [oneN, upd]; split <;> omega
theorem zN_dig : Dig zN := by intro i; simp only [zN]; omega
def dblX (x z : Nat → Int) : Nat → Int := timesN (timesN (plusN x z) (plusN x z)) (timesN (minusN x z) (minusN x z))
def dblZ (x z : Nat → Int) : Nat → Int := timesN (dblE x z) (plusN (timesN (plusN x z) (plusN x z)) (timesN cN (dblE x z)))
set_option maxHeartbeats 2000000 in
set_option maxRecDepth 20000 in
theorem double_fun (x z : Nat → Int) (hx : Dig x) (hz : Dig z) :
    Fun Tryd.prog 53 [Ag (rowI .u64 16 x), Ag (rowI .u64 16 z)] (Ag (R64 (dblX x z) (dblZ x z) zN zN)) := by
  simp only [dblX, dblZ, dblE]
  have h1 := plusN_dig hx hz
  have h2 := minusN_dig hx hz
  have h3 := timesN_dig h1 h1
  have h4 := timesN_dig h2 h2
  have h5 := minusN_dig h3 h4
  have hc := cN_dig
  refine fun_of_vc Tryd.func53 rfl (by kernel_rfl) (by simp [Tryd.ntmps53]) rfl rfl ?_
  simp only [Tryd.results53, R64_length, R64_take, R64_0, R64_1, R64_2, R64_3, R64_z, R64_s, R64_s0, R64_s1, R64_s2, R64_s3, row_zero2, R64_sok, sn_upto, sn_from, slN_def, run_cap, rules, rules2, loopRules, Tryd.facts, base0, Int.toNat_zero, Nat.reduceAdd, Nat.reduceMul, Nat.reduceSub, Nat.reduceLT, Nat.reduceLeDiff, Nat.reduceEqDiff, Int.reduceLE, Int.reduceLT, Int.reduceToNat, Int.reduceNe, Int.reduceEq, not_false_eq_true, Nat.reduceBEq, Nat.reduceDiv, Int.natCast_zero, Int.natCast_one, Int.reduceAdd, Int.reduceSub, reduceIte, ↓reduceIte, Value.oneCell', rowI_length, rowI_take, rowI_splice, rep_all, row_zero, le_nat, Int.toNat_natCast, Nat.zero_add, sok_row, reduceCtorEq]
  refine (refPlus_fun x z hx hz).vcCall ?_
  simp only [R64_length, R64_take, R64_0, R64_1, R64_2, R64_3, R64_z, R64_s, R64_s0, R64_s1, R64_s2, R64_s3, row_zero2, R64_sok, sn_upto, sn_from, slN_def, run_cap, rules, rules2, loopRules, Tryd.facts, base0, Int.toNat_zero, Nat.reduceAdd, Nat.reduceMul, Nat.reduceSub, Nat.reduceLT, Nat.reduceLeDiff, Nat.reduceEqDiff, Int.reduceLE, Int.reduceLT, Int.reduceToNat, Int.reduceNe, Int.reduceEq, not_false_eq_true, Nat.reduceBEq, Nat.reduceDiv, Int.natCast_zero, Int.natCast_one, Int.reduceAdd, Int.reduceSub, reduceIte, ↓reduceIte, Value.oneCell', rowI_length, rowI_take, rowI_splice, rep_all, row_zero, le_nat, Int.toNat_natCast, Nat.zero_add, sok_row, reduceCtorEq]
  refine (refMinus_fun x z hx hz).vcCall ?_
  simp only [R64_length, R64_take, R64_0, R64_1, R64_2, R64_3, R64_z, R64_s, R64_s0, R64_s1, R64_s2, R64_s3, row_zero2, R64_sok, sn_upto, sn_from, slN_def, run_cap, rules, rules2, loopRules, Tryd.facts, base0, Int.toNat_zero, Nat.reduceAdd, Nat.reduceMul, Nat.reduceSub, Nat.reduceLT, Nat.reduceLeDiff, Nat.reduceEqDiff, Int.reduceLE, Int.reduceLT, Int.reduceToNat, Int.reduceNe, Int.reduceEq, not_false_eq_true, Nat.reduceBEq, Nat.reduceDiv, Int.natCast_zero, Int.natCast_one, Int.reduceAdd, Int.reduceSub, reduceIte, ↓reduceIte, Value.oneCell', rowI_length, rowI_take, rowI_splice, rep_all, row_zero, le_nat, Int.toNat_natCast, Nat.zero_add, sok_row, reduceCtorEq]
  refine (times_fun _ _ h1 h1).vcCall ?_
  simp only [R64_length, R64_take, R64_0, R64_1, R64_2, R64_3, R64_z, R64_s, R64_s0, R64_s1, R64_s2, R64_s3, row_zero2, R64_sok, sn_upto, sn_from, slN_def, run_cap, rules, rules2, loopRules, Tryd.facts, base0, Int.toNat_zero, Nat.reduceAdd, Nat.reduceMul, Nat.reduceSub, Nat.reduceLT, Nat.reduceLeDiff, Nat.reduceEqDiff, Int.reduceLE, Int.reduceLT, Int.reduceToNat, Int.reduceNe, Int.reduceEq, not_false_eq_true, Nat.reduceBEq, Nat.reduceDiv, Int.natCast_zero, Int.natCast_one, Int.reduceAdd, Int.reduceSub, reduceIte, ↓reduceIte, Value.oneCell', rowI_length, rowI_take, rowI_splice, rep_all, row_zero, le_nat, Int.toNat_natCast, Nat.zero_add, sok_row, reduceCtorEq]
  refine (times_fun _ _ h2 h2).vcCall ?_
  simp only [R64_length, R64_take, R64_0, R64_1, R64_2, R64_3, R64_z, R64_s, R64_s0, R64_s1, R64_s2, R64_s3, row_zero2, R64_sok, sn_upto, sn_from, slN_def, run_cap, rules, rules2, loopRules, Tryd.facts, base0, Int.toNat_zero, Nat.reduceAdd, Nat.reduceMul, Nat.reduceSub, Nat.reduceLT, Nat.reduceLeDiff, Nat.reduceEqDiff, Int.reduceLE, Int.reduceLT, Int.reduceToNat, Int.reduceNe, Int.reduceEq, not_false_eq_true, Nat.reduceBEq, Nat.reduceDiv, Int.natCast_zero, Int.natCast_one, Int.reduceAdd, Int.reduceSub, reduceIte, ↓reduceIte, Value.oneCell', rowI_length, rowI_take, rowI_splice, rep_all, row_zero, le_nat, Int.toNat_natCast, Nat.zero_add, sok_row, reduceCtorEq]
  refine (refMinus_fun _ _ h3 h4).vcCall ?_
  simp only [rowI_splice1 .u64 16 _ 0 (by omega), rowI_splice1 .u64 16 _ 1 (by omega), R64_length, R64_take, R64_0, R64_1, R64_2, R64_3, R64_z, R64_s, R64_s0, R64_s1, R64_s2, R64_s3, row_zero2, R64_sok, sn_upto, sn_from, slN_def, run_cap, rules, rules2, loopRules, Tryd.facts, base0, Int.toNat_zero, Nat.reduceAdd, Nat.reduceMul, Nat.reduceSub, Nat.reduceLT, Nat.reduceLeDiff, Nat.reduceEqDiff, Int.reduceLE, Int.reduceLT, Int.reduceToNat, Int.reduceNe, Int.reduceEq, not_false_eq_true, Nat.reduceBEq, Nat.reduceDiv, Int.natCast_zero, Int.natCast_one, Int.reduceAdd, Int.reduceSub, reduceIte, ↓reduceIte, Value.oneCell', rowI_length, rowI_take, rowI_splice, rep_all, row_zero, le_nat, Int.toNat_natCast, Nat.zero_add, sok_row, reduceCtorEq]
  refine ⟨by kernel_rfl, ?_⟩
  refine Fun.draw (times_fun cN _ hc h5) Tryd.callable39 ?_
  simp only [R64_length, R64_take, R64_0, R64_1, R64_2, R64_3, R64_z, R64_s, R64_s0, R64_s1, R64_s2, R64_s3, row_zero2, R64_sok, sn_upto, sn_from, slN_def, run_cap, rules, rules2, loopRules, Tryd.facts, base0, Int.toNat_zero, Nat.reduceAdd, Nat.reduceMul, Nat.reduceSub, Nat.reduceLT, Nat.reduceLeDiff, Nat.reduceEqDiff, Int.reduceLE, Int.reduceLT, Int.reduceToNat, Int.reduceNe, Int.reduceEq, not_false_eq_true, Nat.reduceBEq, Nat.reduceDiv, Int.natCast_zero, Int.natCast_one, Int.reduceAdd, Int.reduceSub, reduceIte, ↓reduceIte, Value.oneCell', rowI_length, rowI_take, rowI_splice, rep_all, row_zero, le_nat, Int.toNat_natCast, Nat.zero_add, sok_row, reduceCtorEq]
  refine Fun.draw (refPlus_fun _ _ h3 (timesN_dig hc h5)) Tryd.callable65 ?_
  have h6 := plusN_dig h3 (timesN_dig hc h5)
  simp only [R64_length, R64_take, R64_0, R64_1, R64_2, R64_3, R64_z, R64_s, R64_s0, R64_s1, R64_s2, R64_s3, row_zero2, R64_sok, sn_upto, sn_from, slN_def, run_cap, rules, rules2, loopRules, Tryd.facts, base0, Int.toNat_zero, Nat.reduceAdd, Nat.reduceMul, Nat.reduceSub, Nat.reduceLT, Nat.reduceLeDiff, Nat.reduceEqDiff, Int.reduceLE, Int.reduceLT, Int.reduceToNat, Int.reduceNe, Int.reduceEq, not_false_eq_true, Nat.reduceBEq, Nat.reduceDiv, Int.natCast_zero, Int.natCast_one, Int.reduceAdd, Int.reduceSub, reduceIte, ↓reduceIte, Value.oneCell', rowI_length, rowI_take, rowI_splice, rep_all, row_zero, le_nat, Int.toNat_natCast, Nat.zero_add, sok_row, reduceCtorEq]
  refine ⟨by kernel_rfl, ?_⟩
  refine Fun.draw (times_fun _ _ h3 h4) Tryd.callable39 ?_
  simp only [R64_length, R64_take, R64_0, R64_1, R64_2, R64_3, R64_z, R64_s, R64_s0, R64_s1, R64_s2, R64_s3, row_zero2, R64_sok, sn_upto, sn_from, slN_def, run_cap, rules, rules2, loopRules, Tryd.facts, base0, Int.toNat_zero, Nat.reduceAdd, Nat.reduceMul, Nat.reduceSub, Nat.reduceLT, Nat.reduceLeDiff, Nat.reduceEqDiff, Int.reduceLE, Int.reduceLT, Int.reduceToNat, Int.reduceNe, Int.reduceEq, not_false_eq_true, Nat.reduceBEq, Nat.reduceDiv, Int.natCast_zero, Int.natCast_one, Int.reduceAdd, Int.reduceSub, reduceIte, ↓reduceIte, Value.oneCell', rowI_length, rowI_take, rowI_splice, rep_all, row_zero, le_nat, Int.toNat_natCast, Nat.zero_add, sok_row, reduceCtorEq]
  refine Fun.draw (times_fun _ _ h5 h6) Tryd.callable39 ?_
  simp only [R64_length, R64_take, R64_0, R64_1, R64_2, R64_3, R64_z, R64_s, R64_s0, R64_s1, R64_s2, R64_s3, row_zero2, R64_sok, sn_upto, sn_from, slN_def, run_cap, rules, rules2, loopRules, Tryd.facts, base0, Int.toNat_zero, Nat.reduceAdd, Nat.reduceMul, Nat.reduceSub, Nat.reduceLT, Nat.reduceLeDiff, Nat.reduceEqDiff, Int.reduceLE, Int.reduceLT, Int.reduceToNat, Int.reduceNe, Int.reduceEq, not_false_eq_true, Nat.reduceBEq, Nat.reduceDiv, Int.natCast_zero, Int.natCast_one, Int.reduceAdd, Int.reduceSub, reduceIte, ↓reduceIte, Value.oneCell', rowI_length, rowI_take, rowI_splice, rep_all, row_zero, le_nat, Int.toNat_natCast, Nat.zero_add, sok_row, reduceCtorEq]
/-! ### Fermat's power and the document's ladder -/
def fermN (z : Nat → Int) : Nat → Nat → Int
  | 0 => oneN
  | n + 1 => if n = 252 ∨ n = 250 then timesN (fermN z n) (fermN z n) else timesN (timesN (fermN z n) (fermN z n)) z
theorem fermN_dig (z : Nat → Int) (hz : Dig z) : ∀ n, Dig (fermN z n)
  | 0 => oneN_dig
  | n + 1 => by
    have ih := fermN_dig z hz n
    rw [fermN]; split
    · exact timesN_dig ih ih
    · exact timesN_dig (timesN_dig ih ih) hz
set_option maxHeartbeats 2000000 in
set_option maxRecDepth 20000 in
theorem fermat_fun (z : Nat → Int) (hz : Dig z) : ∀ n : Nat, n ≤ 255 → Fun Tryd.prog 37 [Ag (rowI .u64 16 z), I .i64 ((n : Int) - 1)] (Ag (rowI .u64 16 (fermN z n)))
  | 0, _ => by
    refine fun_of_vc Tryd.func37 rfl (by kernel_rfl) (by simp [Tryd.ntmps37]) rfl rfl ?_
    simp only [Tryd.results37, R64_length, R64_take, R64_0, R64_1, R64_2, R64_3, R64_z, R64_s, R64_s0, R64_s1, R64_s2, R64_s3, row_zero2, R64_sok, sn_upto, sn_from, slN_def, run_cap, rules, rules2, loopRules, Tryd.facts, base0, Int.toNat_zero, Nat.reduceAdd, Nat.reduceMul, Nat.reduceSub, Nat.reduceLT, Nat.reduceLeDiff, Nat.reduceEqDiff, Int.reduceLE, Int.reduceLT, Int.reduceToNat, Int.reduceNe, Int.reduceEq, not_false_eq_true, Nat.reduceBEq, Nat.reduceDiv, Int.natCast_zero, Int.natCast_one, Int.reduceAdd, Int.reduceSub, reduceIte, ↓reduceIte, Value.oneCell', rowI_length, rowI_take, rowI_splice, rep_all, row_zero, le_nat, Int.toNat_natCast, Nat.zero_add, sok_row, reduceCtorEq]
    refine vcIf_yes (by decide) ?_
    simp only [rowI_splice1 .u64 16 _ 0 (by omega), R64_length, R64_take, R64_0, R64_1, R64_2, R64_3, R64_z, R64_s, R64_s0, R64_s1, R64_s2, R64_s3, row_zero2, R64_sok, sn_upto, sn_from, slN_def, run_cap, rules, rules2, loopRules, Tryd.facts, base0, Int.toNat_zero, Nat.reduceAdd, Nat.reduceMul, Nat.reduceSub, Nat.reduceLT, Nat.reduceLeDiff, Nat.reduceEqDiff, Int.reduceLE, Int.reduceLT, Int.reduceToNat, Int.reduceNe, Int.reduceEq, not_false_eq_true, Nat.reduceBEq, Nat.reduceDiv, Int.natCast_zero, Int.natCast_one, Int.reduceAdd, Int.reduceSub, reduceIte, ↓reduceIte, Value.oneCell', rowI_length, rowI_take, rowI_splice, rep_all, row_zero, le_nat, Int.toNat_natCast, Nat.zero_add, sok_row, reduceCtorEq]
    rfl
  | n + 1, hn => by
    have ih := fermat_fun z hz n (by omega)
    have hd := fermN_dig z hz n
    have hq := timesN_dig hd hd
    have e1 : (((n + 1 : Nat) : Int) - 1) = (n : Int) := by omega
    have e2 : IntKind.i64.wrap ((n : Int) - 1) = (n : Int) - 1 := wrap_i64 _ (by omega) (by omega)
    have e3 : IntKind.i64.wrap ((254 : Int) - n) = (254 : Int) - n := wrap_i64 _ (by omega) (by omega)
    rw [e1]
    refine fun_of_vc Tryd.func37 rfl (by kernel_rfl) (by simp [Tryd.ntmps37]) rfl rfl ?_
    simp only [Tryd.results37, R64_length, R64_take, R64_0, R64_1, R64_2, R64_3, R64_z, R64_s, R64_s0, R64_s1, R64_s2, R64_s3, row_zero2, R64_sok, sn_upto, sn_from, slN_def, run_cap, rules, rules2, loopRules, Tryd.facts, base0, Int.toNat_zero, Nat.reduceAdd, Nat.reduceMul, Nat.reduceSub, Nat.reduceLT, Nat.reduceLeDiff, Nat.reduceEqDiff, Int.reduceLE, Int.reduceLT, Int.reduceToNat, Int.reduceNe, Int.reduceEq, not_false_eq_true, Nat.reduceBEq, Nat.reduceDiv, Int.natCast_zero, Int.natCast_one, Int.reduceAdd, Int.reduceSub, reduceIte, ↓reduceIte, Value.oneCell', rowI_length, rowI_take, rowI_splice, rep_all, row_zero, le_nat, Int.toNat_natCast, Nat.zero_add, sok_row, reduceCtorEq]
    refine vcIf_no (by simp) ?_
    simp only [e2, R64_length, R64_take, R64_0, R64_1, R64_2, R64_3, R64_z, R64_s, R64_s0, R64_s1, R64_s2, R64_s3, row_zero2, R64_sok, sn_upto, sn_from, slN_def, run_cap, rules, rules2, loopRules, Tryd.facts, base0, Int.toNat_zero, Nat.reduceAdd, Nat.reduceMul, Nat.reduceSub, Nat.reduceLT, Nat.reduceLeDiff, Nat.reduceEqDiff, Int.reduceLE, Int.reduceLT, Int.reduceToNat, Int.reduceNe, Int.reduceEq, not_false_eq_true, Nat.reduceBEq, Nat.reduceDiv, Int.natCast_zero, Int.natCast_one, Int.reduceAdd, Int.reduceSub, reduceIte, ↓reduceIte, Value.oneCell', rowI_length, rowI_take, rowI_splice, rep_all, row_zero, le_nat, Int.toNat_natCast, Nat.zero_add, sok_row, reduceCtorEq]
    refine ih.vcCall ?_
    simp only [R64_length, R64_take, R64_0, R64_1, R64_2, R64_3, R64_z, R64_s, R64_s0, R64_s1, R64_s2, R64_s3, row_zero2, R64_sok, sn_upto, sn_from, slN_def, run_cap, rules, rules2, loopRules, Tryd.facts, base0, Int.toNat_zero, Nat.reduceAdd, Nat.reduceMul, Nat.reduceSub, Nat.reduceLT, Nat.reduceLeDiff, Nat.reduceEqDiff, Int.reduceLE, Int.reduceLT, Int.reduceToNat, Int.reduceNe, Int.reduceEq, not_false_eq_true, Nat.reduceBEq, Nat.reduceDiv, Int.natCast_zero, Int.natCast_one, Int.reduceAdd, Int.reduceSub, reduceIte, ↓reduceIte, Value.oneCell', rowI_length, rowI_take, rowI_splice, rep_all, row_zero, le_nat, Int.toNat_natCast, Nat.zero_add, sok_row, reduceCtorEq]
    refine (times_fun _ _ hd hd).vcCall ?_
    by_cases h2 : n = 252
    · have t2 : ((254 : Int) - n == 2) = true := by simp; omega
      simp only [e3, t2, R64_length, R64_take, R64_0, R64_1, R64_2, R64_3, R64_z, R64_s, R64_s0, R64_s1, R64_s2, R64_s3, row_zero2, R64_sok, sn_upto, sn_from, slN_def, run_cap, rules, rules2, loopRules, Tryd.facts, base0, Int.toNat_zero, Nat.reduceAdd, Nat.reduceMul, Nat.reduceSub, Nat.reduceLT, Nat.reduceLeDiff, Nat.reduceEqDiff, Int.reduceLE, Int.reduceLT, Int.reduceToNat, Int.reduceNe, Int.reduceEq, not_false_eq_true, Nat.reduceBEq, Nat.reduceDiv, Int.natCast_zero, Int.natCast_one, Int.reduceAdd, Int.reduceSub, reduceIte, ↓reduceIte, Value.oneCell', rowI_length, rowI_take, rowI_splice, rep_all, row_zero, le_nat, Int.toNat_natCast, Nat.zero_add, sok_row, reduceCtorEq]
      rw [fermN, if_pos (Or.inl h2)]
    · have t2 : ((254 : Int) - n == 2) = false := by simp; omega
      by_cases h4 : n = 250
      · have t4 : ((254 : Int) - n == 4) = true := by simp; omega
        simp only [e3, t2, t4, R64_length, R64_take, R64_0, R64_1, R64_2, R64_3, R64_z, R64_s, R64_s0, R64_s1, R64_s2, R64_s3, row_zero2, R64_sok, sn_upto, sn_from, slN_def, run_cap, rules, rules2, loopRules, Tryd.facts, base0, Int.toNat_zero, Nat.reduceAdd, Nat.reduceMul, Nat.reduceSub, Nat.reduceLT, Nat.reduceLeDiff, Nat.reduceEqDiff, Int.reduceLE, Int.reduceLT, Int.reduceToNat, Int.reduceNe, Int.reduceEq, not_false_eq_true, Nat.reduceBEq, Nat.reduceDiv, Int.natCast_zero, Int.natCast_one, Int.reduceAdd, Int.reduceSub, reduceIte, ↓reduceIte, Value.oneCell', rowI_length, rowI_take, rowI_splice, rep_all, row_zero, le_nat, Int.toNat_natCast, Nat.zero_add, sok_row, reduceCtorEq]
        rw [fermN, if_pos (Or.inr h4)]
      · have t4 : ((254 : Int) - n == 4) = false := by simp; omega
        simp only [e3, t2, t4, R64_length, R64_take, R64_0, R64_1, R64_2, R64_3, R64_z, R64_s, R64_s0, R64_s1, R64_s2, R64_s3, row_zero2, R64_sok, sn_upto, sn_from, slN_def, run_cap, rules, rules2, loopRules, Tryd.facts, base0, Int.toNat_zero, Nat.reduceAdd, Nat.reduceMul, Nat.reduceSub, Nat.reduceLT, Nat.reduceLeDiff, Nat.reduceEqDiff, Int.reduceLE, Int.reduceLT, Int.reduceToNat, Int.reduceNe, Int.reduceEq, not_false_eq_true, Nat.reduceBEq, Nat.reduceDiv, Int.natCast_zero, Int.natCast_one, Int.reduceAdd, Int.reduceSub, reduceIte, ↓reduceIte, Value.oneCell', rowI_length, rowI_take, rowI_splice, rep_all, row_zero, le_nat, Int.toNat_natCast, Nat.zero_add, sok_row, reduceCtorEq]
        refine (times_fun _ _ hq hz).vcCall ?_
        simp only [R64_length, R64_take, R64_0, R64_1, R64_2, R64_3, R64_z, R64_s, R64_s0, R64_s1, R64_s2, R64_s3, row_zero2, R64_sok, sn_upto, sn_from, slN_def, run_cap, rules, rules2, loopRules, Tryd.facts, base0, Int.toNat_zero, Nat.reduceAdd, Nat.reduceMul, Nat.reduceSub, Nat.reduceLT, Nat.reduceLeDiff, Nat.reduceEqDiff, Int.reduceLE, Int.reduceLT, Int.reduceToNat, Int.reduceNe, Int.reduceEq, not_false_eq_true, Nat.reduceBEq, Nat.reduceDiv, Int.natCast_zero, Int.natCast_one, Int.reduceAdd, Int.reduceSub, reduceIte, ↓reduceIte, Value.oneCell', rowI_length, rowI_take, rowI_splice, rep_all, row_zero, le_nat, Int.toNat_natCast, Nat.zero_add, sok_row, reduceCtorEq]
        rw [fermN, if_neg (by omega)]
theorem bit_ref (K : Nat → Int) (hK : By K) (t : Nat) : ((shrI .u8 (K (t / 8)) ((t % 8 : Nat) : Int)).tmod 2 == 0) = !bitOf K t := by
  have h := hK (t / 8)
  rw [shrI_eq .u8 _ _ (by simp [IntKind.bits]; omega)]
  have hd := div_two_pow h.1 (t % 8)
  rw [Int.tmod_eq_emod_of_nonneg hd.1]
  simp only [bitOf]
  by_cases he : K (t / 8) / 2 ^ (t % 8) % 2 = 1
  · simp [he]
  · have : K (t / 8) / 2 ^ (t % 8) % 2 = 0 := by omega
    simp [this]
structure N4 where
  a : Nat → Int
  b : Nat → Int
  c : Nat → Int
  d : Nat → Int
def N4.l (r : N4) : List SV := R64 r.a r.b r.c r.d
structure N4.Dig (r : N4) : Prop where
  a : Proofs.YtlpckbkmmocaaaaDoor.Dig r.a
  b : Proofs.YtlpckbkmmocaaaaDoor.Dig r.b
  c : Proofs.YtlpckbkmmocaaaaDoor.Dig r.c
  d : Proofs.YtlpckbkmmocaaaaDoor.Dig r.d
def rungS (s : Bool) (u : Nat → Int) (r : N4) : N4 :=
  if s then ⟨timesN (sumX r.a r.b r.c r.d) (sumX r.a r.b r.c r.d), timesN u (timesN (sumZ r.a r.b r.c r.d) (sumZ r.a r.b r.c r.d)), dblX r.c r.d, dblZ r.c r.d⟩
  else ⟨dblX r.a r.b, dblZ r.a r.b, timesN (sumX r.a r.b r.c r.d) (sumX r.a r.b r.c r.d), timesN u (timesN (sumZ r.a r.b r.c r.d) (sumZ r.a r.b r.c r.d))⟩
theorem sumX_dig {a b c d : Nat → Int} (ha : Dig a) (hb : Dig b) (hc : Dig c) (hd : Dig d) : Dig (sumX a b c d) :=
  plusN_dig (timesN_dig (minusN_dig hc hd) (plusN_dig ha hb)) (timesN_dig (plusN_dig hc hd) (minusN_dig ha hb))
theorem sumZ_dig {a b c d : Nat → Int} (ha : Dig a) (hb : Dig b) (hc : Dig c) (hd : Dig d) : Dig (sumZ a b c d) :=
  minusN_dig (timesN_dig (minusN_dig hc hd) (plusN_dig ha hb)) (timesN_dig (plusN_dig hc hd) (minusN_dig ha hb))
theorem dblE_dig {x z : Nat → Int} (hx : Dig x) (hz : Dig z) : Dig (dblE x z) :=
  minusN_dig (timesN_dig (plusN_dig hx hz) (plusN_dig hx hz)) (timesN_dig (minusN_dig hx hz) (minusN_dig hx hz))
theorem dblX_dig {x z : Nat → Int} (hx : Dig x) (hz : Dig z) : Dig (dblX x z) :=
  timesN_dig (timesN_dig (plusN_dig hx hz) (plusN_dig hx hz)) (timesN_dig (minusN_dig hx hz) (minusN_dig hx hz))
theorem dblZ_dig {x z : Nat → Int} (hx : Dig x) (hz : Dig z) : Dig (dblZ x z) :=
  timesN_dig (dblE_dig hx hz) (plusN_dig (timesN_dig (plusN_dig hx hz) (plusN_dig hx hz)) (timesN_dig cN_dig (dblE_dig hx hz)))
theorem rungS_dig (s : Bool) (u : Nat → Int) (r : N4) (hu : Dig u) (h : r.Dig) : (rungS s u r).Dig := by
  obtain ⟨ha, hb, hc, hd⟩ := h
  have hx := sumX_dig ha hb hc hd
  have hz := sumZ_dig ha hb hc hd
  cases s
  · exact ⟨dblX_dig ha hb, dblZ_dig ha hb, timesN_dig hx hx, timesN_dig hu (timesN_dig hz hz)⟩
  · exact ⟨timesN_dig hx hx, timesN_dig hu (timesN_dig hz hz), dblX_dig hc hd, dblZ_dig hc hd⟩
def rungN (K u : Nat → Int) : Nat → N4
  | 0 => ⟨oneN, zN, u, oneN⟩
  | n + 1 => rungS (bitOf K (254 - n)) u (rungN K u n)
theorem rungN_dig (K u : Nat → Int) (hu : Dig u) : ∀ n, (rungN K u n).Dig
  | 0 => ⟨oneN_dig, zN_dig, hu, oneN_dig⟩
  | n + 1 => rungS_dig _ _ _ hu (rungN_dig K u hu n)
set_option maxHeartbeats 2000000 in
set_option maxRecDepth 20000 in
theorem rungs_fun (K u : Nat → Int) (hK : By K) (hu : Dig u) : ∀ n : Nat, n ≤ 255 → Fun Tryd.prog 36 [Ag (rowI .u64 16 u), Ag (rowI .u8 32 K), I .i64 (255 - (n : Int))] (Ag (rungN K u n).l)
  | 0, _ => by
    simp only [N4.l, rungN]
    refine fun_of_vc Tryd.func36 rfl (by kernel_rfl) (by simp [Tryd.ntmps36]) rfl rfl ?_
    simp only [Tryd.results36, R64_length, R64_take, R64_0, R64_1, R64_2, R64_3, R64_z, R64_s, R64_s0, R64_s1, R64_s2, R64_s3, row_zero2, R64_sok, sn_upto, sn_from, slN_def, run_cap, rules, rules2, loopRules, Tryd.facts, base0, Int.toNat_zero, Nat.reduceAdd, Nat.reduceMul, Nat.reduceSub, Nat.reduceLT, Nat.reduceLeDiff, Nat.reduceEqDiff, Int.reduceLE, Int.reduceLT, Int.reduceToNat, Int.reduceNe, Int.reduceEq, not_false_eq_true, Nat.reduceBEq, Nat.reduceDiv, Int.natCast_zero, Int.natCast_one, Int.reduceAdd, Int.reduceSub, reduceIte, ↓reduceIte, Value.oneCell', rowI_length, rowI_take, rowI_splice, rep_all, row_zero, le_nat, Int.toNat_natCast, Nat.zero_add, sok_row, reduceCtorEq]
    refine vcIf_yes (by decide) ?_
    simp only [rowI_splice1 .u64 16 _ 0 (by omega), R64_length, R64_take, R64_0, R64_1, R64_2, R64_3, R64_z, R64_s, R64_s0, R64_s1, R64_s2, R64_s3, row_zero2, R64_sok, sn_upto, sn_from, slN_def, run_cap, rules, rules2, loopRules, Tryd.facts, base0, Int.toNat_zero, Nat.reduceAdd, Nat.reduceMul, Nat.reduceSub, Nat.reduceLT, Nat.reduceLeDiff, Nat.reduceEqDiff, Int.reduceLE, Int.reduceLT, Int.reduceToNat, Int.reduceNe, Int.reduceEq, not_false_eq_true, Nat.reduceBEq, Nat.reduceDiv, Int.natCast_zero, Int.natCast_one, Int.reduceAdd, Int.reduceSub, reduceIte, ↓reduceIte, Value.oneCell', rowI_length, rowI_take, rowI_splice, rep_all, row_zero, le_nat, Int.toNat_natCast, Nat.zero_add, sok_row, reduceCtorEq]
    rfl
  | n + 1, hn => by
    have ih := rungs_fun K u hK hu n (by omega)
    obtain ⟨ha, hb, hc, hd⟩ := rungN_dig K u hu n
    have hsp := sumPoint_fun _ _ _ _ u ha hb hc hd hu
    obtain ⟨t, ht⟩ : ∃ t : Nat, (255 : Int) - ((n + 1 : Nat) : Int) = t := ⟨254 - n, by omega⟩
    have e1 : IntKind.i64.wrap ((t : Int) + 1) = 255 - (n : Int) := by rw [wrap_i64 _ (by omega) (by omega)]; omega
    have hg := rowI_get .u8 32 K (t / 8) (by omega)
    have hq := quo8 t (by omega)
    have hlt : (((t / 8 : Nat) : Int) < 32) = True := lt_nat (m := 32) (by omega)
    have hu8 : IntKind.u64.wrap ((t % 8 : Nat) : Int) = ((t % 8 : Nat) : Int) := wrap_u64_in _ (by omega) (by omega)
    have hs : rungN K u (n + 1) = rungS (bitOf K t) u (rungN K u n) := by rw [rungN, show 254 - n = t from by omega]
    rw [ht, hs]
    simp only [N4.l] at ih ⊢
    refine fun_of_vc Tryd.func36 rfl (by kernel_rfl) (by simp [Tryd.ntmps36]) rfl rfl ?_
    simp only [Tryd.results36, R64_length, R64_take, R64_0, R64_1, R64_2, R64_3, R64_z, R64_s, R64_s0, R64_s1, R64_s2, R64_s3, row_zero2, R64_sok, sn_upto, sn_from, slN_def, run_cap, rules, rules2, loopRules, Tryd.facts, base0, Int.toNat_zero, Nat.reduceAdd, Nat.reduceMul, Nat.reduceSub, Nat.reduceLT, Nat.reduceLeDiff, Nat.reduceEqDiff, Int.reduceLE, Int.reduceLT, Int.reduceToNat, Int.reduceNe, Int.reduceEq, not_false_eq_true, Nat.reduceBEq, Nat.reduceDiv, Int.natCast_zero, Int.natCast_one, Int.reduceAdd, Int.reduceSub, reduceIte, ↓reduceIte, Value.oneCell', rowI_length, rowI_take, rowI_splice, rep_all, row_zero, le_nat, Int.toNat_natCast, Nat.zero_add, sok_row, reduceCtorEq]
    refine vcIf_no (by simp; omega) ?_
    simp only [e1, R64_length, R64_take, R64_0, R64_1, R64_2, R64_3, R64_z, R64_s, R64_s0, R64_s1, R64_s2, R64_s3, row_zero2, R64_sok, sn_upto, sn_from, slN_def, run_cap, rules, rules2, loopRules, Tryd.facts, base0, Int.toNat_zero, Nat.reduceAdd, Nat.reduceMul, Nat.reduceSub, Nat.reduceLT, Nat.reduceLeDiff, Nat.reduceEqDiff, Int.reduceLE, Int.reduceLT, Int.reduceToNat, Int.reduceNe, Int.reduceEq, not_false_eq_true, Nat.reduceBEq, Nat.reduceDiv, Int.natCast_zero, Int.natCast_one, Int.reduceAdd, Int.reduceSub, reduceIte, ↓reduceIte, Value.oneCell', rowI_length, rowI_take, rowI_splice, rep_all, row_zero, le_nat, Int.toNat_natCast, Nat.zero_add, sok_row, reduceCtorEq]
    refine ih.vcCall ?_
    simp only [hq, rem8, hg, hlt, hu8, R64_length, R64_take, R64_0, R64_1, R64_2, R64_3, R64_z, R64_s, R64_s0, R64_s1, R64_s2, R64_s3, row_zero2, R64_sok, sn_upto, sn_from, slN_def, run_cap, rules, rules2, loopRules, Tryd.facts, base0, Int.toNat_zero, Nat.reduceAdd, Nat.reduceMul, Nat.reduceSub, Nat.reduceLT, Nat.reduceLeDiff, Nat.reduceEqDiff, Int.reduceLE, Int.reduceLT, Int.reduceToNat, Int.reduceNe, Int.reduceEq, not_false_eq_true, Nat.reduceBEq, Nat.reduceDiv, Int.natCast_zero, Int.natCast_one, Int.reduceAdd, Int.reduceSub, reduceIte, ↓reduceIte, Value.oneCell', rowI_length, rowI_take, rowI_splice, rep_all, row_zero, le_nat, Int.toNat_natCast, Nat.zero_add, sok_row, reduceCtorEq]
    refine hsp.vcCall ?_
    simp only [R64_length, R64_take, R64_0, R64_1, R64_2, R64_3, R64_z, R64_s, R64_s0, R64_s1, R64_s2, R64_s3, row_zero2, R64_sok, sn_upto, sn_from, slN_def, run_cap, rules, rules2, loopRules, Tryd.facts, base0, Int.toNat_zero, Nat.reduceAdd, Nat.reduceMul, Nat.reduceSub, Nat.reduceLT, Nat.reduceLeDiff, Nat.reduceEqDiff, Int.reduceLE, Int.reduceLT, Int.reduceToNat, Int.reduceNe, Int.reduceEq, not_false_eq_true, Nat.reduceBEq, Nat.reduceDiv, Int.natCast_zero, Int.natCast_one, Int.reduceAdd, Int.reduceSub, reduceIte, ↓reduceIte, Value.oneCell', rowI_length, rowI_take, rowI_splice, rep_all, row_zero, le_nat, Int.toNat_natCast, Nat.zero_add, sok_row, reduceCtorEq]
    rw [bit_ref K hK t]
    cases bitOf K t
    · refine vcIf_yes rfl ?_
      simp only [R64_length, R64_take, R64_0, R64_1, R64_2, R64_3, R64_z, R64_s, R64_s0, R64_s1, R64_s2, R64_s3, row_zero2, R64_sok, sn_upto, sn_from, slN_def, run_cap, rules, rules2, loopRules, Tryd.facts, base0, Int.toNat_zero, Nat.reduceAdd, Nat.reduceMul, Nat.reduceSub, Nat.reduceLT, Nat.reduceLeDiff, Nat.reduceEqDiff, Int.reduceLE, Int.reduceLT, Int.reduceToNat, Int.reduceNe, Int.reduceEq, not_false_eq_true, Nat.reduceBEq, Nat.reduceDiv, Int.natCast_zero, Int.natCast_one, Int.reduceAdd, Int.reduceSub, reduceIte, ↓reduceIte, Value.oneCell', rowI_length, rowI_take, rowI_splice, rep_all, row_zero, le_nat, Int.toNat_natCast, Nat.zero_add, sok_row, reduceCtorEq]
      refine (double_fun _ _ ha hb).vcCall ?_
      simp only [R64_length, R64_take, R64_0, R64_1, R64_2, R64_3, R64_z, R64_s, R64_s0, R64_s1, R64_s2, R64_s3, row_zero2, R64_sok, sn_upto, sn_from, slN_def, run_cap, rules, rules2, loopRules, Tryd.facts, base0, Int.toNat_zero, Nat.reduceAdd, Nat.reduceMul, Nat.reduceSub, Nat.reduceLT, Nat.reduceLeDiff, Nat.reduceEqDiff, Int.reduceLE, Int.reduceLT, Int.reduceToNat, Int.reduceNe, Int.reduceEq, not_false_eq_true, Nat.reduceBEq, Nat.reduceDiv, Int.natCast_zero, Int.natCast_one, Int.reduceAdd, Int.reduceSub, reduceIte, ↓reduceIte, Value.oneCell', rowI_length, rowI_take, rowI_splice, rep_all, row_zero, le_nat, Int.toNat_natCast, Nat.zero_add, sok_row, reduceCtorEq]
      rfl
    · refine vcIf_no rfl ?_
      simp only [R64_length, R64_take, R64_0, R64_1, R64_2, R64_3, R64_z, R64_s, R64_s0, R64_s1, R64_s2, R64_s3, row_zero2, R64_sok, sn_upto, sn_from, slN_def, run_cap, rules, rules2, loopRules, Tryd.facts, base0, Int.toNat_zero, Nat.reduceAdd, Nat.reduceMul, Nat.reduceSub, Nat.reduceLT, Nat.reduceLeDiff, Nat.reduceEqDiff, Int.reduceLE, Int.reduceLT, Int.reduceToNat, Int.reduceNe, Int.reduceEq, not_false_eq_true, Nat.reduceBEq, Nat.reduceDiv, Int.natCast_zero, Int.natCast_one, Int.reduceAdd, Int.reduceSub, reduceIte, ↓reduceIte, Value.oneCell', rowI_length, rowI_take, rowI_splice, rep_all, row_zero, le_nat, Int.toNat_natCast, Nat.zero_add, sok_row, reduceCtorEq]
      refine (double_fun _ _ hc hd).vcCall ?_
      simp only [R64_length, R64_take, R64_0, R64_1, R64_2, R64_3, R64_z, R64_s, R64_s0, R64_s1, R64_s2, R64_s3, row_zero2, R64_sok, sn_upto, sn_from, slN_def, run_cap, rules, rules2, loopRules, Tryd.facts, base0, Int.toNat_zero, Nat.reduceAdd, Nat.reduceMul, Nat.reduceSub, Nat.reduceLT, Nat.reduceLeDiff, Nat.reduceEqDiff, Int.reduceLE, Int.reduceLT, Int.reduceToNat, Int.reduceNe, Int.reduceEq, not_false_eq_true, Nat.reduceBEq, Nat.reduceDiv, Int.natCast_zero, Int.natCast_one, Int.reduceAdd, Int.reduceSub, reduceIte, ↓reduceIte, Value.oneCell', rowI_length, rowI_take, rowI_splice, rep_all, row_zero, le_nat, Int.toNat_natCast, Nat.zero_add, sok_row, reduceCtorEq]
      rfl
/-! ### Less p -/
def primD (i : Nat) : Int := if i = 0 then 65517 else if i = 15 then 32767 else 65535
def bor (n : Nat → Int) : Nat → Int
  | 0 => 0
  | i + 1 => 1 - (n i + 65536 - primD i - bor n i) / 65536
def lesD (n : Nat → Int) (i : Nat) : Int := (n i + 65536 - primD i - bor n i) % 65536
def lessN (n : Nat → Int) : Nat → Int := if bor n 16 = 1 then n else lesD n
theorem primD_bd (i : Nat) : 32767 ≤ primD i ∧ primD i ≤ 65535 := by simp only [primD]; split <;> (try split) <;> omega
theorem bor_bd (n : Nat → Int) (h : Dig n) : ∀ i, 0 ≤ bor n i ∧ bor n i ≤ 1
  | 0 => by simp [bor]
  | i + 1 => by
    have := bor_bd n h i
    have := h i
    have := primD_bd i
    simp only [bor]; omega
theorem les_val (n : Nat → Int) : ∀ k, val (lesD n) k = val n k - val primD k + bor n k * 65536 ^ k
  | 0 => by simp [val, bor]
  | k + 1 => by
    have ih := les_val n k
    have e : lesD n k = n k - primD k - bor n k + 65536 * bor n (k + 1) := by simp only [lesD, bor]; omega
    rw [val_s, val_s, val_s, ih, Int.pow_succ, e]
    grind
theorem lessN_spec (n : Nat → Int) (h : Dig n) : Dig (lessN n) ∧ val (lessN n) 16 = if val n 16 < PP then val n 16 else val n 16 - PP := by
  have hb := bor_bd n h 16
  have hv := les_val n 16
  have hp : val primD 16 = PP := by simp [val, primD, PP]
  have hd : Dig (lesD n) := by intro i; simp only [lesD]; omega
  have hm := val_dig _ hd 16
  have hn := val_dig _ h 16
  have h16 : (65536 : Int) ^ 16 = 115792089237316195423570985008687907853269984665640564039457584007913129639936 := by decide
  rw [hp, h16] at hv
  rw [h16] at hm hn
  have hPP : PP = 57896044618658097711785492504343953926634992332820282019728792003956564819949 := rfl
  simp only [lessN]
  by_cases hc : bor n 16 = 1
  · rw [if_pos hc]; rw [hc] at hv
    exact ⟨h, by rw [if_pos (by omega)]⟩
  · have hc0 : bor n 16 = 0 := by omega
    rw [if_neg hc]; rw [hc0] at hv
    exact ⟨hd, by rw [if_neg (by omega)]; omega⟩
set_option maxHeartbeats 2000000 in
set_option maxRecDepth 20000 in
theorem lessPrime_fun (n : Nat → Int) (h : Dig n) : Fun Tryd.prog 54 [Ag (rowI .u64 16 n)] (Ag (rowI .u64 16 (lessN n))) := by
  refine fun_of_vc Tryd.func54 rfl (by kernel_rfl) (by simp [Tryd.ntmps54]) rfl rfl ?_
  simp only [Tryd.results54, sn_upto, sn_from, slN_def, run_cap, rules, rules2, loopRules, Tryd.facts, base0, Int.toNat_zero, Nat.reduceAdd, Nat.reduceMul, Nat.reduceSub, Nat.reduceLT, Nat.reduceLeDiff, Nat.reduceEqDiff, Int.reduceLE, Int.reduceLT, Int.reduceToNat, Int.reduceNe, Int.reduceEq, not_false_eq_true, Nat.reduceBEq, Nat.reduceDiv, Int.natCast_zero, Int.natCast_one, Int.reduceAdd, Int.reduceSub, reduceIte, ↓reduceIte, Value.oneCell', rowI_length, rowI_take, rowI_splice, rep_all, row_zero, le_nat, Int.toNat_natCast, Nat.zero_add, sok_row, reduceCtorEq]
  refine loop_count 16 (fun k => [(1, Ptr 0 0), (2, Ptr 1 0), (3, Ptr 2 0), (4, I .u64 (bor n k)), (5, I .i64 k)])
    (fun k => [(0, ⟨true, rowI .u64 16 n⟩), (1, ⟨true, rowI .u64 16 (fun _ => 0)⟩), (2, ⟨true, rowI .u64 16 (fun i => if i < k then lesD n i else 0)⟩)]) _ ?_ ?_ ?_
  · simp only [sok_row, bor, Nat.not_lt_zero, sn_upto, sn_from, slN_def, run_cap, rules, rules2, loopRules, Tryd.facts, base0, Int.toNat_zero, Nat.reduceAdd, Nat.reduceMul, Nat.reduceSub, Nat.reduceLT, Nat.reduceLeDiff, Nat.reduceEqDiff, Int.reduceLE, Int.reduceLT, Int.reduceToNat, Int.reduceNe, Int.reduceEq, not_false_eq_true, Nat.reduceBEq, Nat.reduceDiv, Int.natCast_zero, Int.natCast_one, Int.reduceAdd, Int.reduceSub, reduceIte, ↓reduceIte, Value.oneCell', rowI_length, rowI_take, rowI_splice, rep_all, row_zero, le_nat, Int.toNat_natCast, Nat.zero_add, sok_row, reduceCtorEq]
  · intro k hk
    have hl16 : ((k : Int) < 16) = True := lt_nat (m := 16) hk
    have hn := h k
    have hb := bor_bd n h k
    have hpd := primD_bd k
    have w1 : IntKind.u64.wrap (n k + 65536) = n k + 65536 := wrap_u64_in _ (by omega) (by omega)
    have w2 : IntKind.u64.wrap (n k + 65536 - primD k) = n k + 65536 - primD k := wrap_u64_in _ (by omega) (by omega)
    have w3 : IntKind.u64.wrap (n k + 65536 - primD k - bor n k) = n k + 65536 - primD k - bor n k := wrap_u64_in _ (by omega) (by omega)
    have t1 : (n k + 65536 - primD k - bor n k).tmod 65536 = lesD n k := Int.tmod_eq_emod_of_nonneg (by omega)
    have t2 : IntKind.u64.wrap ((n k + 65536 - primD k - bor n k).tdiv 65536) = 1 - bor n (k + 1) := by
      rw [Int.tdiv_eq_ediv_of_nonneg (by omega), wrap_u64_in _ (by omega) (by omega), bor]; omega
    have hb1 := bor_bd n h (k + 1)
    have t3 : IntKind.u64.wrap (1 - (1 - bor n (k + 1))) = bor n (k + 1) := by rw [wrap_u64_in _ (by omega) (by omega)]; omega
    have fin : rowI .u64 16 (upd (fun i => if i < k then lesD n i else 0) k (lesD n k)) = rowI .u64 16 (fun i => if i < k + 1 then lesD n i else 0) := row_upto
    simp only [sn_upto, sn_from, slN_def, run_cap, rules, rules2, loopRules, Tryd.facts, base0, Int.toNat_zero, Nat.reduceAdd, Nat.reduceMul, Nat.reduceSub, Nat.reduceLT, Nat.reduceLeDiff, Nat.reduceEqDiff, Int.reduceLE, Int.reduceLT, Int.reduceToNat, Int.reduceNe, Int.reduceEq, not_false_eq_true, Nat.reduceBEq, Nat.reduceDiv, Int.natCast_zero, Int.natCast_one, Int.reduceAdd, Int.reduceSub, reduceIte, ↓reduceIte, Value.oneCell', rowI_length, rowI_take, rowI_splice, rep_all, row_zero, le_nat, Int.toNat_natCast, Nat.zero_add, sok_row, reduceCtorEq]
    refine vcIf_yes (by simp; omega) ?_
    by_cases h0 : k = 0
    · have p : primD k = 65517 := by rw [h0]; rfl
      have c0 : ((k : Int) == 0) = true := by simp; omega
      have c15 : ((k : Int) == 15) = false := by simp; omega
      rw [p] at w2 w3 t1 t2
      simp only [c0, c15, hl16, rowI_get .u64 16 _ k hk, rowI_splice1 .u64 16 _ k hk, w1, w2, w3, t1, t2, t3, wrapS k (by omega), fin, sn_upto, sn_from, slN_def, run_cap, rules, rules2, loopRules, Tryd.facts, base0, Int.toNat_zero, Nat.reduceAdd, Nat.reduceMul, Nat.reduceSub, Nat.reduceLT, Nat.reduceLeDiff, Nat.reduceEqDiff, Int.reduceLE, Int.reduceLT, Int.reduceToNat, Int.reduceNe, Int.reduceEq, not_false_eq_true, Nat.reduceBEq, Nat.reduceDiv, Int.natCast_zero, Int.natCast_one, Int.reduceAdd, Int.reduceSub, reduceIte, ↓reduceIte, Value.oneCell', rowI_length, rowI_take, rowI_splice, rep_all, row_zero, le_nat, Int.toNat_natCast, Nat.zero_add, sok_row, reduceCtorEq]
      omega
    · have c0 : ((k : Int) == 0) = false := by simp; omega
      by_cases h15 : k = 15
      · have p : primD k = 32767 := by rw [h15]; rfl
        have c15 : ((k : Int) == 15) = true := by simp; omega
        rw [p] at w2 w3 t1 t2
        simp only [c0, c15, hl16, rowI_get .u64 16 _ k hk, rowI_splice1 .u64 16 _ k hk, w1, w2, w3, t1, t2, t3, wrapS k (by omega), fin, sn_upto, sn_from, slN_def, run_cap, rules, rules2, loopRules, Tryd.facts, base0, Int.toNat_zero, Nat.reduceAdd, Nat.reduceMul, Nat.reduceSub, Nat.reduceLT, Nat.reduceLeDiff, Nat.reduceEqDiff, Int.reduceLE, Int.reduceLT, Int.reduceToNat, Int.reduceNe, Int.reduceEq, not_false_eq_true, Nat.reduceBEq, Nat.reduceDiv, Int.natCast_zero, Int.natCast_one, Int.reduceAdd, Int.reduceSub, reduceIte, ↓reduceIte, Value.oneCell', rowI_length, rowI_take, rowI_splice, rep_all, row_zero, le_nat, Int.toNat_natCast, Nat.zero_add, sok_row, reduceCtorEq]
        omega
      · have p : primD k = 65535 := by rw [primD, if_neg h0, if_neg h15]
        have c15 : ((k : Int) == 15) = false := by simp; omega
        rw [p] at w2 w3 t1 t2
        simp only [c0, c15, hl16, rowI_get .u64 16 _ k hk, rowI_splice1 .u64 16 _ k hk, w1, w2, w3, t1, t2, t3, wrapS k (by omega), fin, sn_upto, sn_from, slN_def, run_cap, rules, rules2, loopRules, Tryd.facts, base0, Int.toNat_zero, Nat.reduceAdd, Nat.reduceMul, Nat.reduceSub, Nat.reduceLT, Nat.reduceLeDiff, Nat.reduceEqDiff, Int.reduceLE, Int.reduceLT, Int.reduceToNat, Int.reduceNe, Int.reduceEq, not_false_eq_true, Nat.reduceBEq, Nat.reduceDiv, Int.natCast_zero, Int.natCast_one, Int.reduceAdd, Int.reduceSub, reduceIte, ↓reduceIte, Value.oneCell', rowI_length, rowI_take, rowI_splice, rep_all, row_zero, le_nat, Int.toNat_natCast, Nat.zero_add, sok_row, reduceCtorEq]
        omega
  · simp only [sn_upto, sn_from, slN_def, run_cap, rules, rules2, loopRules, Tryd.facts, base0, Int.toNat_zero, Nat.reduceAdd, Nat.reduceMul, Nat.reduceSub, Nat.reduceLT, Nat.reduceLeDiff, Nat.reduceEqDiff, Int.reduceLE, Int.reduceLT, Int.reduceToNat, Int.reduceNe, Int.reduceEq, not_false_eq_true, Nat.reduceBEq, Nat.reduceDiv, Int.natCast_zero, Int.natCast_one, Int.reduceAdd, Int.reduceSub, reduceIte, ↓reduceIte, Value.oneCell', rowI_length, rowI_take, rowI_splice, rep_all, row_zero, le_nat, Int.toNat_natCast, Nat.zero_add, sok_row, reduceCtorEq]
    refine vcIf_no (by decide) ?_
    simp only [sn_upto, sn_from, slN_def, run_cap, rules, rules2, loopRules, Tryd.facts, base0, Int.toNat_zero, Nat.reduceAdd, Nat.reduceMul, Nat.reduceSub, Nat.reduceLT, Nat.reduceLeDiff, Nat.reduceEqDiff, Int.reduceLE, Int.reduceLT, Int.reduceToNat, Int.reduceNe, Int.reduceEq, not_false_eq_true, Nat.reduceBEq, Nat.reduceDiv, Int.natCast_zero, Int.natCast_one, Int.reduceAdd, Int.reduceSub, reduceIte, ↓reduceIte, Value.oneCell', rowI_length, rowI_take, rowI_splice, rep_all, row_zero, le_nat, Int.toNat_natCast, Nat.zero_add, sok_row, reduceCtorEq]
    by_cases hc : bor n 16 = 1
    · refine vcIf_yes (by simp [hc]) ?_
      simp only [sn_upto, sn_from, slN_def, run_cap, rules, rules2, loopRules, Tryd.facts, base0, Int.toNat_zero, Nat.reduceAdd, Nat.reduceMul, Nat.reduceSub, Nat.reduceLT, Nat.reduceLeDiff, Nat.reduceEqDiff, Int.reduceLE, Int.reduceLT, Int.reduceToNat, Int.reduceNe, Int.reduceEq, not_false_eq_true, Nat.reduceBEq, Nat.reduceDiv, Int.natCast_zero, Int.natCast_one, Int.reduceAdd, Int.reduceSub, reduceIte, ↓reduceIte, Value.oneCell', rowI_length, rowI_take, rowI_splice, rep_all, row_zero, le_nat, Int.toNat_natCast, Nat.zero_add, sok_row, reduceCtorEq]
      rw [lessN, if_pos hc]
    · refine vcIf_no (by simp [hc]) ?_
      simp only [sn_upto, sn_from, slN_def, run_cap, rules, rules2, loopRules, Tryd.facts, base0, Int.toNat_zero, Nat.reduceAdd, Nat.reduceMul, Nat.reduceSub, Nat.reduceLT, Nat.reduceLeDiff, Nat.reduceEqDiff, Int.reduceLE, Int.reduceLT, Int.reduceToNat, Int.reduceNe, Int.reduceEq, not_false_eq_true, Nat.reduceBEq, Nat.reduceDiv, Int.natCast_zero, Int.natCast_one, Int.reduceAdd, Int.reduceSub, reduceIte, ↓reduceIte, Value.oneCell', rowI_length, rowI_take, rowI_splice, rep_all, row_zero, le_nat, Int.toNat_natCast, Nat.zero_add, sok_row, reduceCtorEq]
      rw [lessN, if_neg hc, row_all]
/-! ### Bytes into digits -/
def dgt (K : Nat → Int) : Nat → Nat → Int
  | 0 => fun _ => 0
  | n + 1 => upd (dgt K n) (n / 2) (dgt K n (n / 2) + (if n % 2 = 0 then K n else 256 * K n))
theorem dgt_eq (K : Nat → Int) : ∀ n j, dgt K n j = (if 2 * j < n then K (2 * j) else 0) + (if 2 * j + 1 < n then 256 * K (2 * j + 1) else 0)
  | 0, j => by simp [dgt]
  | n + 1, j => by
    simp only [dgt, upd]
    by_cases hj : j = n / 2
    · subst hj
      rw [if_pos rfl, dgt_eq K n]
      by_cases hp : n % 2 = 0
      · have e : 2 * (n / 2) = n := by omega
        rw [if_pos hp, e, if_neg (by omega), if_neg (by omega), if_pos (by omega), if_neg (by omega)]; omega
      · have e : 2 * (n / 2) + 1 = n := by omega
        rw [if_neg hp, e, if_pos (by omega), if_neg (by omega), if_pos (by omega), if_pos (by omega)]; omega
    · rw [if_neg hj, dgt_eq K n]
      have a1 : (2 * j < n) = (2 * j < n + 1) := by apply propext; omega
      have a2 : (2 * j + 1 < n) = (2 * j + 1 < n + 1) := by apply propext; omega
      simp only [a1, a2]
theorem dgt_dig (K : Nat → Int) (hK : By K) (n : Nat) : Dig (dgt K n) := by
  intro j
  have h1 := hK (2 * j)
  have h2 := hK (2 * j + 1)
  rw [dgt_eq]; split <;> split <;> omega
theorem rem2 (t : Nat) : (t : Int).tmod 2 = ((t % 2 : Nat) : Int) := (Int.ofNat_tmod t 2).symm
theorem quo2 (t : Nat) (h : t < 9223372036854775808) : IntKind.i64.wrap ((t : Int).tdiv 2) = ((t / 2 : Nat) : Int) := quoN t 2 h
set_option maxHeartbeats 2000000 in
set_option maxRecDepth 20000 in
theorem digits_fun (K : Nat → Int) (hK : By K) : Fun Tryd.prog 35 [Ag (rowI .u8 32 K)] (Ag (rowI .u64 16 (dgt K 32))) := by
  refine fun_of_vc Tryd.func35 rfl (by kernel_rfl) (by simp [Tryd.ntmps35]) rfl rfl ?_
  simp only [Tryd.results35, sn_upto, sn_from, slN_def, run_cap, rules, rules2, loopRules, Tryd.facts, base0, Int.toNat_zero, Nat.reduceAdd, Nat.reduceMul, Nat.reduceSub, Nat.reduceLT, Nat.reduceLeDiff, Nat.reduceEqDiff, Int.reduceLE, Int.reduceLT, Int.reduceToNat, Int.reduceNe, Int.reduceEq, not_false_eq_true, Nat.reduceBEq, Nat.reduceDiv, Int.natCast_zero, Int.natCast_one, Int.reduceAdd, Int.reduceSub, reduceIte, ↓reduceIte, Value.oneCell', rowI_length, rowI_take, rowI_splice, rep_all, row_zero, le_nat, Int.toNat_natCast, Nat.zero_add, sok_row, reduceCtorEq]
  refine loop_count 32 (fun k => [(1, Ptr 0 0), (2, Ptr 1 0), (3, Ptr 2 0), (4, I .i64 k)])
    (fun k => [(0, ⟨true, rowI .u8 32 K⟩), (1, ⟨true, rowI .u64 16 (fun _ => 0)⟩), (2, ⟨true, rowI .u64 16 (dgt K k)⟩)]) _ ?_ ?_ ?_
  · simp only [sok_row, dgt, sn_upto, sn_from, slN_def, run_cap, rules, rules2, loopRules, Tryd.facts, base0, Int.toNat_zero, Nat.reduceAdd, Nat.reduceMul, Nat.reduceSub, Nat.reduceLT, Nat.reduceLeDiff, Nat.reduceEqDiff, Int.reduceLE, Int.reduceLT, Int.reduceToNat, Int.reduceNe, Int.reduceEq, not_false_eq_true, Nat.reduceBEq, Nat.reduceDiv, Int.natCast_zero, Int.natCast_one, Int.reduceAdd, Int.reduceSub, reduceIte, ↓reduceIte, Value.oneCell', rowI_length, rowI_take, rowI_splice, rep_all, row_zero, le_nat, Int.toNat_natCast, Nat.zero_add, sok_row, reduceCtorEq]
  · intro k hk
    have hl32 : ((k : Int) < 32) = True := lt_nat (m := 32) hk
    have hl16 : (((k / 2 : Nat) : Int) < 16) = True := lt_nat (m := 16) (by omega)
    have hb := hK k
    have hd := dgt_dig K hK k (k / 2)
    have w1 : IntKind.u64.wrap (K k) = K k := wrap_u64_in _ (by omega) (by omega)
    have w2 : IntKind.u64.wrap (256 * K k) = 256 * K k := wrap_u64_in _ (by omega) (by omega)
    have w3 : IntKind.u64.wrap (dgt K k (k / 2) + K k) = dgt K k (k / 2) + K k := wrap_u64_in _ (by omega) (by omega)
    have w4 : IntKind.u64.wrap (dgt K k (k / 2) + 256 * K k) = dgt K k (k / 2) + 256 * K k := wrap_u64_in _ (by omega) (by omega)
    simp only [sn_upto, sn_from, slN_def, run_cap, rules, rules2, loopRules, Tryd.facts, base0, Int.toNat_zero, Nat.reduceAdd, Nat.reduceMul, Nat.reduceSub, Nat.reduceLT, Nat.reduceLeDiff, Nat.reduceEqDiff, Int.reduceLE, Int.reduceLT, Int.reduceToNat, Int.reduceNe, Int.reduceEq, not_false_eq_true, Nat.reduceBEq, Nat.reduceDiv, Int.natCast_zero, Int.natCast_one, Int.reduceAdd, Int.reduceSub, reduceIte, ↓reduceIte, Value.oneCell', rowI_length, rowI_take, rowI_splice, rep_all, row_zero, le_nat, Int.toNat_natCast, Nat.zero_add, sok_row, reduceCtorEq]
    refine vcIf_yes (by simp; omega) ?_
    by_cases h2 : k % 2 = 0
    · have c2 : (((k % 2 : Nat) : Int) == 0) = true := by rw [h2]; rfl
      have e : dgt K (k + 1) = upd (dgt K k) (k / 2) (dgt K k (k / 2) + K k) := by rw [dgt, if_pos h2]
      simp only [rem2, c2, quo2 k (by omega), hl16, hl32, rowI_get .u8 32 K k hk, rowI_get .u64 16 _ (k / 2) (show k / 2 < 16 by omega), rowI_splice1 .u64 16 _ (k / 2) (show k / 2 < 16 by omega), w1, w3, wrapS k (by omega), e, sn_upto, sn_from, slN_def, run_cap, rules, rules2, loopRules, Tryd.facts, base0, Int.toNat_zero, Nat.reduceAdd, Nat.reduceMul, Nat.reduceSub, Nat.reduceLT, Nat.reduceLeDiff, Nat.reduceEqDiff, Int.reduceLE, Int.reduceLT, Int.reduceToNat, Int.reduceNe, Int.reduceEq, not_false_eq_true, Nat.reduceBEq, Nat.reduceDiv, Int.natCast_zero, Int.natCast_one, Int.reduceAdd, Int.reduceSub, reduceIte, ↓reduceIte, Value.oneCell', rowI_length, rowI_take, rowI_splice, rep_all, row_zero, le_nat, Int.toNat_natCast, Nat.zero_add, sok_row, reduceCtorEq]
      exact ⟨by kernel_rfl, by omega⟩
    · have c2 : (((k % 2 : Nat) : Int) == 0) = false := by rw [show k % 2 = 1 from by omega]; rfl
      have e : dgt K (k + 1) = upd (dgt K k) (k / 2) (dgt K k (k / 2) + 256 * K k) := by rw [dgt, if_neg h2]
      simp only [rem2, c2, quo2 k (by omega), hl16, hl32, rowI_get .u8 32 K k hk, rowI_get .u64 16 _ (k / 2) (show k / 2 < 16 by omega), rowI_splice1 .u64 16 _ (k / 2) (show k / 2 < 16 by omega), w1, w2, w4, wrapS k (by omega), e, sn_upto, sn_from, slN_def, run_cap, rules, rules2, loopRules, Tryd.facts, base0, Int.toNat_zero, Nat.reduceAdd, Nat.reduceMul, Nat.reduceSub, Nat.reduceLT, Nat.reduceLeDiff, Nat.reduceEqDiff, Int.reduceLE, Int.reduceLT, Int.reduceToNat, Int.reduceNe, Int.reduceEq, not_false_eq_true, Nat.reduceBEq, Nat.reduceDiv, Int.natCast_zero, Int.natCast_one, Int.reduceAdd, Int.reduceSub, reduceIte, ↓reduceIte, Value.oneCell', rowI_length, rowI_take, rowI_splice, rep_all, row_zero, le_nat, Int.toNat_natCast, Nat.zero_add, sok_row, reduceCtorEq]
      exact ⟨by kernel_rfl, by omega⟩
  · simp only [sn_upto, sn_from, slN_def, run_cap, rules, rules2, loopRules, Tryd.facts, base0, Int.toNat_zero, Nat.reduceAdd, Nat.reduceMul, Nat.reduceSub, Nat.reduceLT, Nat.reduceLeDiff, Nat.reduceEqDiff, Int.reduceLE, Int.reduceLT, Int.reduceToNat, Int.reduceNe, Int.reduceEq, not_false_eq_true, Nat.reduceBEq, Nat.reduceDiv, Int.natCast_zero, Int.natCast_one, Int.reduceAdd, Int.reduceSub, reduceIte, ↓reduceIte, Value.oneCell', rowI_length, rowI_take, rowI_splice, rep_all, row_zero, le_nat, Int.toNat_natCast, Nat.zero_add, sok_row, reduceCtorEq]
    refine vcIf_no (by decide) ?_
    simp only [sn_upto, sn_from, slN_def, run_cap, rules, rules2, loopRules, Tryd.facts, base0, Int.toNat_zero, Nat.reduceAdd, Nat.reduceMul, Nat.reduceSub, Nat.reduceLT, Nat.reduceLeDiff, Nat.reduceEqDiff, Int.reduceLE, Int.reduceLT, Int.reduceToNat, Int.reduceNe, Int.reduceEq, not_false_eq_true, Nat.reduceBEq, Nat.reduceDiv, Int.natCast_zero, Int.natCast_one, Int.reduceAdd, Int.reduceSub, reduceIte, ↓reduceIte, Value.oneCell', rowI_length, rowI_take, rowI_splice, rep_all, row_zero, le_nat, Int.toNat_natCast, Nat.zero_add, sok_row, reduceCtorEq]
/-! ### Digits into bytes -/
def lessK (n : Nat → Int) : Nat → Nat → Int
  | 0 => n
  | k + 1 => lessN (lessK n k)
theorem lessK_dig (n : Nat → Int) (h : Dig n) : ∀ k, Dig (lessK n k)
  | 0 => h
  | k + 1 => (lessN_spec _ (lessK_dig n h k)).1
def undB (m : Nat → Int) (i : Nat) : Int := (if i % 2 = 1 then m (i / 2) / 256 else m (i / 2)) % 256
set_option maxHeartbeats 2000000 in
set_option maxRecDepth 20000 in
theorem undigits_fun (n : Nat → Int) (h : Dig n) : Fun Tryd.prog 38 [Ag (rowI .u64 16 n)] (Ag (rowI .u8 32 (undB (lessK n 3)))) := by
  refine fun_of_vc Tryd.func38 rfl (by kernel_rfl) (by simp [Tryd.ntmps38]) rfl rfl ?_
  simp only [Tryd.results38, sn_upto, sn_from, slN_def, run_cap, rules, rules2, loopRules, Tryd.facts, base0, Int.toNat_zero, Nat.reduceAdd, Nat.reduceMul, Nat.reduceSub, Nat.reduceLT, Nat.reduceLeDiff, Nat.reduceEqDiff, Int.reduceLE, Int.reduceLT, Int.reduceToNat, Int.reduceNe, Int.reduceEq, not_false_eq_true, Nat.reduceBEq, Nat.reduceDiv, Int.natCast_zero, Int.natCast_one, Int.reduceAdd, Int.reduceSub, reduceIte, ↓reduceIte, Value.oneCell', rowI_length, rowI_take, rowI_splice, rep_all, row_zero, le_nat, Int.toNat_natCast, Nat.zero_add, sok_row, reduceCtorEq]
  refine loop_count 3 (fun k => [(1, Ptr 0 0), (2, Ptr 1 0), (3, I .i64 k)])
    (fun k => [(0, ⟨true, rowI .u64 16 (lessK n k)⟩), (1, ⟨true, rowI .u8 32 (fun _ => 0)⟩)]) _ ?_ ?_ ?_
  · simp only [sok_row, lessK, sn_upto, sn_from, slN_def, run_cap, rules, rules2, loopRules, Tryd.facts, base0, Int.toNat_zero, Nat.reduceAdd, Nat.reduceMul, Nat.reduceSub, Nat.reduceLT, Nat.reduceLeDiff, Nat.reduceEqDiff, Int.reduceLE, Int.reduceLT, Int.reduceToNat, Int.reduceNe, Int.reduceEq, not_false_eq_true, Nat.reduceBEq, Nat.reduceDiv, Int.natCast_zero, Int.natCast_one, Int.reduceAdd, Int.reduceSub, reduceIte, ↓reduceIte, Value.oneCell', rowI_length, rowI_take, rowI_splice, rep_all, row_zero, le_nat, Int.toNat_natCast, Nat.zero_add, sok_row, reduceCtorEq]
  · intro k hk
    simp only [sn_upto, sn_from, slN_def, run_cap, rules, rules2, loopRules, Tryd.facts, base0, Int.toNat_zero, Nat.reduceAdd, Nat.reduceMul, Nat.reduceSub, Nat.reduceLT, Nat.reduceLeDiff, Nat.reduceEqDiff, Int.reduceLE, Int.reduceLT, Int.reduceToNat, Int.reduceNe, Int.reduceEq, not_false_eq_true, Nat.reduceBEq, Nat.reduceDiv, Int.natCast_zero, Int.natCast_one, Int.reduceAdd, Int.reduceSub, reduceIte, ↓reduceIte, Value.oneCell', rowI_length, rowI_take, rowI_splice, rep_all, row_zero, le_nat, Int.toNat_natCast, Nat.zero_add, sok_row, reduceCtorEq]
    refine vcIf_yes (by simp; omega) ?_
    simp only [sn_upto, sn_from, slN_def, run_cap, rules, rules2, loopRules, Tryd.facts, base0, Int.toNat_zero, Nat.reduceAdd, Nat.reduceMul, Nat.reduceSub, Nat.reduceLT, Nat.reduceLeDiff, Nat.reduceEqDiff, Int.reduceLE, Int.reduceLT, Int.reduceToNat, Int.reduceNe, Int.reduceEq, not_false_eq_true, Nat.reduceBEq, Nat.reduceDiv, Int.natCast_zero, Int.natCast_one, Int.reduceAdd, Int.reduceSub, reduceIte, ↓reduceIte, Value.oneCell', rowI_length, rowI_take, rowI_splice, rep_all, row_zero, le_nat, Int.toNat_natCast, Nat.zero_add, sok_row, reduceCtorEq]
    refine (lessPrime_fun _ (lessK_dig n h k)).vcCall ?_
    simp only [wrapS k (by omega), sn_upto, sn_from, slN_def, run_cap, rules, rules2, loopRules, Tryd.facts, base0, Int.toNat_zero, Nat.reduceAdd, Nat.reduceMul, Nat.reduceSub, Nat.reduceLT, Nat.reduceLeDiff, Nat.reduceEqDiff, Int.reduceLE, Int.reduceLT, Int.reduceToNat, Int.reduceNe, Int.reduceEq, not_false_eq_true, Nat.reduceBEq, Nat.reduceDiv, Int.natCast_zero, Int.natCast_one, Int.reduceAdd, Int.reduceSub, reduceIte, ↓reduceIte, Value.oneCell', rowI_length, rowI_take, rowI_splice, rep_all, row_zero, le_nat, Int.toNat_natCast, Nat.zero_add, sok_row, reduceCtorEq]
    rfl
  · simp only [sn_upto, sn_from, slN_def, run_cap, rules, rules2, loopRules, Tryd.facts, base0, Int.toNat_zero, Nat.reduceAdd, Nat.reduceMul, Nat.reduceSub, Nat.reduceLT, Nat.reduceLeDiff, Nat.reduceEqDiff, Int.reduceLE, Int.reduceLT, Int.reduceToNat, Int.reduceNe, Int.reduceEq, not_false_eq_true, Nat.reduceBEq, Nat.reduceDiv, Int.natCast_zero, Int.natCast_one, Int.reduceAdd, Int.reduceSub, reduceIte, ↓reduceIte, Value.oneCell', rowI_length, rowI_take, rowI_splice, rep_all, row_zero, le_nat, Int.toNat_natCast, Nat.zero_add, sok_row, reduceCtorEq]
    refine vcIf_no (by decide) ?_
    have hd := lessK_dig n h 3
    generalize lessK n 3 = m at *
    simp only [sn_upto, sn_from, slN_def, run_cap, rules, rules2, loopRules, Tryd.facts, base0, Int.toNat_zero, Nat.reduceAdd, Nat.reduceMul, Nat.reduceSub, Nat.reduceLT, Nat.reduceLeDiff, Nat.reduceEqDiff, Int.reduceLE, Int.reduceLT, Int.reduceToNat, Int.reduceNe, Int.reduceEq, not_false_eq_true, Nat.reduceBEq, Nat.reduceDiv, Int.natCast_zero, Int.natCast_one, Int.reduceAdd, Int.reduceSub, reduceIte, ↓reduceIte, Value.oneCell', rowI_length, rowI_take, rowI_splice, rep_all, row_zero, le_nat, Int.toNat_natCast, Nat.zero_add, sok_row, reduceCtorEq]
    refine loop_count 32 (fun k => [(1, Ptr 0 0), (2, Ptr 1 0), (4, Ptr 5 0), (5, I .i64 k)])
      (fun k => [(0, ⟨true, rowI .u64 16 m⟩), (1, ⟨true, rowI .u8 32 (fun _ => 0)⟩), (5, ⟨true, rowI .u8 32 (fun i => if i < k then undB m i else 0)⟩)]) _ ?_ ?_ ?_
    · simp only [sok_row, Nat.not_lt_zero, if_false, sn_upto, sn_from, slN_def, run_cap, rules, rules2, loopRules, Tryd.facts, base0, Int.toNat_zero, Nat.reduceAdd, Nat.reduceMul, Nat.reduceSub, Nat.reduceLT, Nat.reduceLeDiff, Nat.reduceEqDiff, Int.reduceLE, Int.reduceLT, Int.reduceToNat, Int.reduceNe, Int.reduceEq, not_false_eq_true, Nat.reduceBEq, Nat.reduceDiv, Int.natCast_zero, Int.natCast_one, Int.reduceAdd, Int.reduceSub, reduceIte, ↓reduceIte, Value.oneCell', rowI_length, rowI_take, rowI_splice, rep_all, row_zero, le_nat, Int.toNat_natCast, Nat.zero_add, sok_row, reduceCtorEq]
    · intro k hk
      have hl32 : ((k : Int) < 32) = True := lt_nat (m := 32) hk
      have hl16 : (((k / 2 : Nat) : Int) < 16) = True := lt_nat (m := 16) (by omega)
      have hb := hd (k / 2)
      have fin : rowI .u8 32 (upd (fun i => if i < k then undB m i else 0) k (undB m k)) = rowI .u8 32 (fun i => if i < k + 1 then undB m i else 0) := row_upto
      have w1 : IntKind.u64.wrap ((m (k / 2)).tdiv 256) = m (k / 2) / 256 := by
        rw [Int.tdiv_eq_ediv_of_nonneg hb.1, wrap_u64_in _ (by omega) (by omega)]
      simp only [sn_upto, sn_from, slN_def, run_cap, rules, rules2, loopRules, Tryd.facts, base0, Int.toNat_zero, Nat.reduceAdd, Nat.reduceMul, Nat.reduceSub, Nat.reduceLT, Nat.reduceLeDiff, Nat.reduceEqDiff, Int.reduceLE, Int.reduceLT, Int.reduceToNat, Int.reduceNe, Int.reduceEq, not_false_eq_true, Nat.reduceBEq, Nat.reduceDiv, Int.natCast_zero, Int.natCast_one, Int.reduceAdd, Int.reduceSub, reduceIte, ↓reduceIte, Value.oneCell', rowI_length, rowI_take, rowI_splice, rep_all, row_zero, le_nat, Int.toNat_natCast, Nat.zero_add, sok_row, reduceCtorEq]
      refine vcIf_yes (by simp; omega) ?_
      by_cases h2 : k % 2 = 1
      · have c2 : (((k % 2 : Nat) : Int) == 1) = true := by rw [h2]; rfl
        have w2 : IntKind.u8.wrap ((m (k / 2) / 256).tmod 256) = undB m k := by
          rw [Int.tmod_eq_emod_of_nonneg (by omega), wrap_u8, undB, if_pos h2]; omega
        simp only [rem2, c2, quo2 k (by omega), hl16, hl32, rowI_get .u64 16 _ (k / 2) (show k / 2 < 16 by omega), rowI_splice1 .u8 32 _ k hk, w1, w2, wrapS k (by omega), fin, sn_upto, sn_from, slN_def, run_cap, rules, rules2, loopRules, Tryd.facts, base0, Int.toNat_zero, Nat.reduceAdd, Nat.reduceMul, Nat.reduceSub, Nat.reduceLT, Nat.reduceLeDiff, Nat.reduceEqDiff, Int.reduceLE, Int.reduceLT, Int.reduceToNat, Int.reduceNe, Int.reduceEq, not_false_eq_true, Nat.reduceBEq, Nat.reduceDiv, Int.natCast_zero, Int.natCast_one, Int.reduceAdd, Int.reduceSub, reduceIte, ↓reduceIte, Value.oneCell', rowI_length, rowI_take, rowI_splice, rep_all, row_zero, le_nat, Int.toNat_natCast, Nat.zero_add, sok_row, reduceCtorEq]
        omega
      · have c2 : (((k % 2 : Nat) : Int) == 1) = false := by rw [show k % 2 = 0 from by omega]; rfl
        have w2 : IntKind.u8.wrap ((m (k / 2)).tmod 256) = undB m k := by
          rw [Int.tmod_eq_emod_of_nonneg hb.1, wrap_u8, undB, if_neg h2]; omega
        simp only [rem2, c2, quo2 k (by omega), hl16, hl32, rowI_get .u64 16 _ (k / 2) (show k / 2 < 16 by omega), rowI_splice1 .u8 32 _ k hk, w2, wrapS k (by omega), fin, sn_upto, sn_from, slN_def, run_cap, rules, rules2, loopRules, Tryd.facts, base0, Int.toNat_zero, Nat.reduceAdd, Nat.reduceMul, Nat.reduceSub, Nat.reduceLT, Nat.reduceLeDiff, Nat.reduceEqDiff, Int.reduceLE, Int.reduceLT, Int.reduceToNat, Int.reduceNe, Int.reduceEq, not_false_eq_true, Nat.reduceBEq, Nat.reduceDiv, Int.natCast_zero, Int.natCast_one, Int.reduceAdd, Int.reduceSub, reduceIte, ↓reduceIte, Value.oneCell', rowI_length, rowI_take, rowI_splice, rep_all, row_zero, le_nat, Int.toNat_natCast, Nat.zero_add, sok_row, reduceCtorEq]
        omega
    · simp only [sn_upto, sn_from, slN_def, run_cap, rules, rules2, loopRules, Tryd.facts, base0, Int.toNat_zero, Nat.reduceAdd, Nat.reduceMul, Nat.reduceSub, Nat.reduceLT, Nat.reduceLeDiff, Nat.reduceEqDiff, Int.reduceLE, Int.reduceLT, Int.reduceToNat, Int.reduceNe, Int.reduceEq, not_false_eq_true, Nat.reduceBEq, Nat.reduceDiv, Int.natCast_zero, Int.natCast_one, Int.reduceAdd, Int.reduceSub, reduceIte, ↓reduceIte, Value.oneCell', rowI_length, rowI_take, rowI_splice, rep_all, row_zero, le_nat, Int.toNat_natCast, Nat.zero_add, sok_row, reduceCtorEq]
      refine vcIf_no (by decide) ?_
      simp only [row_all, sn_upto, sn_from, slN_def, run_cap, rules, rules2, loopRules, Tryd.facts, base0, Int.toNat_zero, Nat.reduceAdd, Nat.reduceMul, Nat.reduceSub, Nat.reduceLT, Nat.reduceLeDiff, Nat.reduceEqDiff, Int.reduceLE, Int.reduceLT, Int.reduceToNat, Int.reduceNe, Int.reduceEq, not_false_eq_true, Nat.reduceBEq, Nat.reduceDiv, Int.natCast_zero, Int.natCast_one, Int.reduceAdd, Int.reduceSub, reduceIte, ↓reduceIte, Value.oneCell', rowI_length, rowI_take, rowI_splice, rep_all, row_zero, le_nat, Int.toNat_natCast, Nat.zero_add, sok_row, reduceCtorEq]
/-! ### The document's X25519 -/
def topU (U : Nat → Int) : Nat → Int := upd U 31 (U 31 % 128)
theorem topU_by (U : Nat → Int) (h : By U) : By (topU U) := by
  intro i
  have := h i
  have := h 31
  simp only [topU, upd]; split <;> omega
def refB (K U : Nat → Int) : Nat → Int :=
  undB (lessK (timesN (rungN (clampK K) (dgt (topU U) 32) 255).a (fermN (rungN (clampK K) (dgt (topU U) 32) 255).b 255)) 3)
set_option maxHeartbeats 2000000 in
set_option maxRecDepth 20000 in
theorem refCurve_fun (K U : Nat → Int) (hK : By K) (hU : By U) : Fun Tryd.prog 25 [Ag (rowI .u8 32 K), Ag (rowI .u8 32 U)] (Ag (rowI .u8 32 (refB K U))) := by
  have k0 := hK 0
  have k31 := hK 31
  have u31 := hU 31
  have hC : rowI .u8 32 (upd (upd K 0 (K 0 - K 0 % 8)) 31 (K 31 % 64 + 64)) = rowI .u8 32 (clampK K) := rowI_congr fun i _ => by
    simp only [clampK, upd]
    by_cases h0 : i = 0
    · subst h0; simp
    · by_cases h1 : i = 31
      · subst h1; simp
      · simp [h0, h1]
  have w1 : IntKind.u8.wrap (K 0 - K 0 % 8) = K 0 - K 0 % 8 := wrap_u8_in _ (by omega) (by omega)
  have w2 : IntKind.u8.wrap (K 31 % 64 + 64) = K 31 % 64 + 64 := wrap_u8_in _ (by omega) (by omega)
  have t1 : (K 0).tmod 8 = K 0 % 8 := Int.tmod_eq_emod_of_nonneg k0.1
  have t2 : (K 31).tmod 64 = K 31 % 64 := Int.tmod_eq_emod_of_nonneg k31.1
  have t3 : (U 31).tmod 128 = U 31 % 128 := Int.tmod_eq_emod_of_nonneg u31.1
  have u1 : upd K 0 (K 0 - K 0 % 8) 31 = K 31 := by simp [upd]
  have hu := dgt_dig _ (topU_by U hU) 32
  have hr := rungN_dig (clampK K) _ hu 255
  have hf := fermN_dig _ hr.b 255
  have hrf := rungs_fun (clampK K) _ (clampK_by K hK) hu 255 (by decide)
  have hff := fermat_fun _ hr.b 255 (by decide)
  simp only [N4.l] at hrf
  refine fun_of_vc Tryd.func25 rfl (by kernel_rfl) (by simp [Tryd.ntmps25]) rfl rfl ?_
  simp only [Tryd.results25, rowI_get .u8 32 _ 0 (show 0 < 32 by omega), rowI_get .u8 32 _ 31 (show 31 < 32 by omega), rowI_splice1 .u8 32 _ 0 (show 0 < 32 by omega), rowI_splice1 .u8 32 _ 31 (show 31 < 32 by omega), t1, t2, t3, w1, w2, u1, hC, R64_length, R64_take, R64_0, R64_1, R64_2, R64_3, R64_z, R64_s, R64_s0, R64_s1, R64_s2, R64_s3, row_zero2, R64_sok, sn_upto, sn_from, slN_def, run_cap, rules, rules2, loopRules, Tryd.facts, base0, Int.toNat_zero, Nat.reduceAdd, Nat.reduceMul, Nat.reduceSub, Nat.reduceLT, Nat.reduceLeDiff, Nat.reduceEqDiff, Int.reduceLE, Int.reduceLT, Int.reduceToNat, Int.reduceNe, Int.reduceEq, not_false_eq_true, Nat.reduceBEq, Nat.reduceDiv, Int.natCast_zero, Int.natCast_one, Int.reduceAdd, Int.reduceSub, reduceIte, ↓reduceIte, Value.oneCell', rowI_length, rowI_take, rowI_splice, rep_all, row_zero, le_nat, Int.toNat_natCast, Nat.zero_add, sok_row, reduceCtorEq]
  refine (digits_fun _ (topU_by U hU)).vcCall ?_
  simp only [R64_length, R64_take, R64_0, R64_1, R64_2, R64_3, R64_z, R64_s, R64_s0, R64_s1, R64_s2, R64_s3, row_zero2, R64_sok, sn_upto, sn_from, slN_def, run_cap, rules, rules2, loopRules, Tryd.facts, base0, Int.toNat_zero, Nat.reduceAdd, Nat.reduceMul, Nat.reduceSub, Nat.reduceLT, Nat.reduceLeDiff, Nat.reduceEqDiff, Int.reduceLE, Int.reduceLT, Int.reduceToNat, Int.reduceNe, Int.reduceEq, not_false_eq_true, Nat.reduceBEq, Nat.reduceDiv, Int.natCast_zero, Int.natCast_one, Int.reduceAdd, Int.reduceSub, reduceIte, ↓reduceIte, Value.oneCell', rowI_length, rowI_take, rowI_splice, rep_all, row_zero, le_nat, Int.toNat_natCast, Nat.zero_add, sok_row, reduceCtorEq]
  refine hrf.vcCall ?_
  simp only [R64_length, R64_take, R64_0, R64_1, R64_2, R64_3, R64_z, R64_s, R64_s0, R64_s1, R64_s2, R64_s3, row_zero2, R64_sok, sn_upto, sn_from, slN_def, run_cap, rules, rules2, loopRules, Tryd.facts, base0, Int.toNat_zero, Nat.reduceAdd, Nat.reduceMul, Nat.reduceSub, Nat.reduceLT, Nat.reduceLeDiff, Nat.reduceEqDiff, Int.reduceLE, Int.reduceLT, Int.reduceToNat, Int.reduceNe, Int.reduceEq, not_false_eq_true, Nat.reduceBEq, Nat.reduceDiv, Int.natCast_zero, Int.natCast_one, Int.reduceAdd, Int.reduceSub, reduceIte, ↓reduceIte, Value.oneCell', rowI_length, rowI_take, rowI_splice, rep_all, row_zero, le_nat, Int.toNat_natCast, Nat.zero_add, sok_row, reduceCtorEq]
  refine hff.vcCall ?_
  simp only [R64_length, R64_take, R64_0, R64_1, R64_2, R64_3, R64_z, R64_s, R64_s0, R64_s1, R64_s2, R64_s3, row_zero2, R64_sok, sn_upto, sn_from, slN_def, run_cap, rules, rules2, loopRules, Tryd.facts, base0, Int.toNat_zero, Nat.reduceAdd, Nat.reduceMul, Nat.reduceSub, Nat.reduceLT, Nat.reduceLeDiff, Nat.reduceEqDiff, Int.reduceLE, Int.reduceLT, Int.reduceToNat, Int.reduceNe, Int.reduceEq, not_false_eq_true, Nat.reduceBEq, Nat.reduceDiv, Int.natCast_zero, Int.natCast_one, Int.reduceAdd, Int.reduceSub, reduceIte, ↓reduceIte, Value.oneCell', rowI_length, rowI_take, rowI_splice, rep_all, row_zero, le_nat, Int.toNat_natCast, Nat.zero_add, sok_row, reduceCtorEq]
  refine (times_fun _ _ hr.a hf).vcCall ?_
  simp only [R64_length, R64_take, R64_0, R64_1, R64_2, R64_3, R64_z, R64_s, R64_s0, R64_s1, R64_s2, R64_s3, row_zero2, R64_sok, sn_upto, sn_from, slN_def, run_cap, rules, rules2, loopRules, Tryd.facts, base0, Int.toNat_zero, Nat.reduceAdd, Nat.reduceMul, Nat.reduceSub, Nat.reduceLT, Nat.reduceLeDiff, Nat.reduceEqDiff, Int.reduceLE, Int.reduceLT, Int.reduceToNat, Int.reduceNe, Int.reduceEq, not_false_eq_true, Nat.reduceBEq, Nat.reduceDiv, Int.natCast_zero, Int.natCast_one, Int.reduceAdd, Int.reduceSub, reduceIte, ↓reduceIte, Value.oneCell', rowI_length, rowI_take, rowI_splice, rep_all, row_zero, le_nat, Int.toNat_natCast, Nat.zero_add, sok_row, reduceCtorEq]
  refine (undigits_fun _ (timesN_dig hr.a hf)).vcCall ?_
  simp only [R64_length, R64_take, R64_0, R64_1, R64_2, R64_3, R64_z, R64_s, R64_s0, R64_s1, R64_s2, R64_s3, row_zero2, R64_sok, sn_upto, sn_from, slN_def, run_cap, rules, rules2, loopRules, Tryd.facts, base0, Int.toNat_zero, Nat.reduceAdd, Nat.reduceMul, Nat.reduceSub, Nat.reduceLT, Nat.reduceLeDiff, Nat.reduceEqDiff, Int.reduceLE, Int.reduceLT, Int.reduceToNat, Int.reduceNe, Int.reduceEq, not_false_eq_true, Nat.reduceBEq, Nat.reduceDiv, Int.natCast_zero, Int.natCast_one, Int.reduceAdd, Int.reduceSub, reduceIte, ↓reduceIte, Value.oneCell', rowI_length, rowI_take, rowI_splice, rep_all, row_zero, le_nat, Int.toNat_natCast, Nat.zero_add, sok_row, reduceCtorEq]
  rfl
end Go.Proofs.YtlpckbkmmocaaaaDoor
