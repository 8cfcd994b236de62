/-
  Functions of the cipher, of the program and of the document.
-/
import Derived.Test.YtpplfckcblaoiaaVcgR3
set_option linter.unusedVariables false
set_option linter.unusedSimpArgs false
namespace Go.Proofs.Ytpplfckcblaoiaa
open Go.Vcg
/-! ### Four rows of sixteen -/
def R64 (a b c d : Nat → Int) : List SV := rowI .u64 16 a ++ (rowI .u64 16 b ++ (rowI .u64 16 c ++ rowI .u64 16 d))
theorem R64_length (a b c d : Nat → Int) : (R64 a b c d).length = 64 := by simp [R64, rowI_length]
theorem R64_take (a b c d : Nat → Int) : List.take 64 (R64 a b c d) = R64 a b c d := List.take_of_length_le (by rw [R64_length]; exact Nat.le_refl _)
theorem R64_0 (a b c d : Nat → Int) : List.take 16 (R64 a b c d) = rowI .u64 16 a := by
  rw [R64, List.take_append_of_le_length (by rw [rowI_length]; exact Nat.le_refl _), rowI_take]
theorem drop16 (a : Nat → Int) (l : List SV) (n : Nat) : List.drop (16 + n) (rowI .u64 16 a ++ l) = List.drop n l := by
  rw [List.drop_append, rowI_length, List.drop_of_length_le (by rw [rowI_length]; omega), List.nil_append]; congr 1; omega
theorem take16 (a : Nat → Int) (l : List SV) : List.take 16 (rowI .u64 16 a ++ l) = rowI .u64 16 a := by
  rw [List.take_append_of_le_length (by rw [rowI_length]; exact Nat.le_refl _), rowI_take]
theorem R64_1 (a b c d : Nat → Int) : List.take 16 (List.drop 16 (R64 a b c d)) = rowI .u64 16 b := by
  rw [R64, drop16 a _ 0, List.drop_zero, take16]
theorem R64_2 (a b c d : Nat → Int) : List.take 16 (List.drop 32 (R64 a b c d)) = rowI .u64 16 c := by
  rw [R64, drop16 a _ 16, drop16 b _ 0, List.drop_zero, take16]
theorem R64_3 (a b c d : Nat → Int) : List.take 16 (List.drop 48 (R64 a b c d)) = rowI .u64 16 d := by
  rw [R64, drop16 a _ 32, drop16 b _ 16, drop16 c _ 0, List.drop_zero, rowI_take]
theorem R64_s (a b c d a' b' c' d' : Nat → Int) : splice (R64 a b c d) 0 (R64 a' b' c' d') = R64 a' b' c' d' := by
  rw [splice, List.take_zero, List.nil_append, List.drop_of_length_le (by simp [R64_length]), List.append_nil]
theorem R64_s0 (a b c d e : Nat → Int) : splice (R64 a b c d) 0 (rowI .u64 16 e) = R64 e b c d := by
  rw [splice, rowI_length, List.take_zero, List.nil_append, R64, drop16 a _ 0, List.drop_zero]; rfl
theorem R64_s1 (a b c d e : Nat → Int) : splice (R64 a b c d) 16 (rowI .u64 16 e) = R64 a e c d := by
  rw [splice, rowI_length, R64_0, R64, drop16 a _ 16, drop16 b _ 0, List.drop_zero, R64, List.append_assoc]
theorem R64_s2 (a b c d e : Nat → Int) : splice (R64 a b c d) 32 (rowI .u64 16 e) = R64 a b e d := by
  have h : List.take 32 (R64 a b c d) = rowI .u64 16 a ++ rowI .u64 16 b := by
    rw [R64, List.take_append, rowI_length, List.take_of_length_le (by rw [rowI_length]; omega), take16]
  rw [splice, rowI_length, h, R64, drop16 a _ 32, drop16 b _ 16, drop16 c _ 0, List.drop_zero, R64, List.append_assoc, List.append_assoc]
theorem R64_s3 (a b c d e : Nat → Int) : splice (R64 a b c d) 48 (rowI .u64 16 e) = R64 a b c e := by
  have h : List.take 48 (R64 a b c d) = rowI .u64 16 a ++ (rowI .u64 16 b ++ rowI .u64 16 c) := by
    rw [R64, List.take_append, rowI_length, List.take_of_length_le (by rw [rowI_length]; omega), List.take_append, rowI_length, List.take_of_length_le (by rw [rowI_length]; omega), take16]
  rw [splice, rowI_length, h, List.drop_of_length_le (by rw [R64_length]; omega), R64, List.append_nil, List.append_assoc, List.append_assoc]
theorem row_zero2 (n : Nat) (k : IntKind) (c : Int) : List.replicate n (Sum.inl (Value.int k c) : SV) = rowI k n (fun _ => c) := by
  rw [← row_zero, List.map_replicate]
def zN : Nat → Int := fun _ => 0
theorem R64_z : rowI .u64 64 (fun _ => 0) = R64 zN zN zN zN := by kernel_rfl
theorem R64_sok {M : Nat → Prop} (a b c d : Nat → Int) : (∀ x ∈ R64 a b c d, SV.ok M x) = True := by
  have h : ∀ f : Nat → Int, ∀ x ∈ rowI .u64 16 f, SV.ok M x := fun f => of_eq_true sok_row
  refine eq_true fun x hx => ?_
  simp only [R64, List.mem_append] at hx
  rcases hx with hx | hx | hx | hx <;> exact h _ _ hx
/-! ### The document's two points -/
theorem plusN_dig {a b : Nat → Int} (ha : Dig a) (hb : Dig b) : Dig (plusN a b) := (plusN_spec a b ha hb).1
theorem minusN_dig {a b : Nat → Int} (ha : Dig a) (hb : Dig b) : Dig (minusN a b) := (minusN_spec a b ha hb).1
theorem timesN_dig {a b : Nat → Int} (ha : Dig a) (hb : Dig b) : Dig (timesN a b) := (timesN_spec a b ha hb).1
def sumX (a b c d : Nat → Int) : Nat → Int := plusN (timesN (minusN c d) (plusN a b)) (timesN (plusN c d) (minusN a b))
def sumZ (a b c d : Nat → Int) : Nat → Int := minusN (timesN (minusN c d) (plusN a b)) (timesN (plusN c d) (minusN a b))
set_option maxHeartbeats 2000000 in
set_option maxRecDepth 20000 in
theorem sumPoint_fun (a b c d u : Nat → Int) (ha : Dig a) (hb : Dig b) (hc : Dig c) (hd : Dig d) (hu : Dig u) :
    Fun Try.prog 40 [Ag (R64 a b c d), Ag (rowI .u64 16 u)] (Ag (R64 (timesN (sumX a b c d) (sumX a b c d)) (timesN u (timesN (sumZ a b c d) (sumZ a b c d))) zN zN)) := by
  simp only [sumX, sumZ]
  refine fun_of_vc Try.func40 rfl (by kernel_rfl) (by simp [Try.ntmps40]) rfl rfl ?_
  simp only [Try.results40, R64_length, R64_take, R64_0, R64_1, R64_2, R64_3, R64_z, R64_s, R64_s0, R64_s1, R64_s2, R64_s3, row_zero2, R64_sok, sn_upto, sn_from, slN_def, run_cap, rules, rules2, loopRules, Try.facts, base0, Int.toNat_zero, Nat.reduceAdd, Nat.reduceMul, Nat.reduceSub, Nat.reduceLT, Nat.reduceLeDiff, Nat.reduceEqDiff, Int.reduceLE, Int.reduceLT, Int.reduceToNat, Int.reduceNe, Int.reduceEq, not_false_eq_true, Nat.reduceBEq, Nat.reduceDiv, Int.natCast_zero, Int.natCast_one, Int.reduceAdd, Int.reduceSub, reduceIte, ↓reduceIte, Value.oneCell', rowI_length, rowI_take, rowI_splice, rep_all, row_zero, le_nat, Int.toNat_natCast, Nat.zero_add, sok_row, reduceCtorEq]
  refine (refPlus_fun a b ha hb).vcCall ?_
  simp only [R64_length, R64_take, R64_0, R64_1, R64_2, R64_3, R64_z, R64_s, R64_s0, R64_s1, R64_s2, R64_s3, row_zero2, R64_sok, sn_upto, sn_from, slN_def, run_cap, rules, rules2, loopRules, Try.facts, base0, Int.toNat_zero, Nat.reduceAdd, Nat.reduceMul, Nat.reduceSub, Nat.reduceLT, Nat.reduceLeDiff, Nat.reduceEqDiff, Int.reduceLE, Int.reduceLT, Int.reduceToNat, Int.reduceNe, Int.reduceEq, not_false_eq_true, Nat.reduceBEq, Nat.reduceDiv, Int.natCast_zero, Int.natCast_one, Int.reduceAdd, Int.reduceSub, reduceIte, ↓reduceIte, Value.oneCell', rowI_length, rowI_take, rowI_splice, rep_all, row_zero, le_nat, Int.toNat_natCast, Nat.zero_add, sok_row, reduceCtorEq]
  refine (refMinus_fun a b ha hb).vcCall ?_
  simp only [R64_length, R64_take, R64_0, R64_1, R64_2, R64_3, R64_z, R64_s, R64_s0, R64_s1, R64_s2, R64_s3, row_zero2, R64_sok, sn_upto, sn_from, slN_def, run_cap, rules, rules2, loopRules, Try.facts, base0, Int.toNat_zero, Nat.reduceAdd, Nat.reduceMul, Nat.reduceSub, Nat.reduceLT, Nat.reduceLeDiff, Nat.reduceEqDiff, Int.reduceLE, Int.reduceLT, Int.reduceToNat, Int.reduceNe, Int.reduceEq, not_false_eq_true, Nat.reduceBEq, Nat.reduceDiv, Int.natCast_zero, Int.natCast_one, Int.reduceAdd, Int.reduceSub, reduceIte, ↓reduceIte, Value.oneCell', rowI_length, rowI_take, rowI_splice, rep_all, row_zero, le_nat, Int.toNat_natCast, Nat.zero_add, sok_row, reduceCtorEq]
  refine (refPlus_fun c d hc hd).vcCall ?_
  simp only [R64_length, R64_take, R64_0, R64_1, R64_2, R64_3, R64_z, R64_s, R64_s0, R64_s1, R64_s2, R64_s3, row_zero2, R64_sok, sn_upto, sn_from, slN_def, run_cap, rules, rules2, loopRules, Try.facts, base0, Int.toNat_zero, Nat.reduceAdd, Nat.reduceMul, Nat.reduceSub, Nat.reduceLT, Nat.reduceLeDiff, Nat.reduceEqDiff, Int.reduceLE, Int.reduceLT, Int.reduceToNat, Int.reduceNe, Int.reduceEq, not_false_eq_true, Nat.reduceBEq, Nat.reduceDiv, Int.natCast_zero, Int.natCast_one, Int.reduceAdd, Int.reduceSub, reduceIte, ↓reduceIte, Value.oneCell', rowI_length, rowI_take, rowI_splice, rep_all, row_zero, le_nat, Int.toNat_natCast, Nat.zero_add, sok_row, reduceCtorEq]
  refine (refMinus_fun c d hc hd).vcCall ?_
  have h1 := plusN_dig ha hb
  have h2 := minusN_dig ha hb
  have h3 := plusN_dig hc hd
  have h4 := minusN_dig hc hd
  simp only [R64_length, R64_take, R64_0, R64_1, R64_2, R64_3, R64_z, R64_s, R64_s0, R64_s1, R64_s2, R64_s3, row_zero2, R64_sok, sn_upto, sn_from, slN_def, run_cap, rules, rules2, loopRules, Try.facts, base0, Int.toNat_zero, Nat.reduceAdd, Nat.reduceMul, Nat.reduceSub, Nat.reduceLT, Nat.reduceLeDiff, Nat.reduceEqDiff, Int.reduceLE, Int.reduceLT, Int.reduceToNat, Int.reduceNe, Int.reduceEq, not_false_eq_true, Nat.reduceBEq, Nat.reduceDiv, Int.natCast_zero, Int.natCast_one, Int.reduceAdd, Int.reduceSub, reduceIte, ↓reduceIte, Value.oneCell', rowI_length, rowI_take, rowI_splice, rep_all, row_zero, le_nat, Int.toNat_natCast, Nat.zero_add, sok_row, reduceCtorEq]
  refine (times_fun _ _ h4 h1).vcCall ?_
  simp only [R64_length, R64_take, R64_0, R64_1, R64_2, R64_3, R64_z, R64_s, R64_s0, R64_s1, R64_s2, R64_s3, row_zero2, R64_sok, sn_upto, sn_from, slN_def, run_cap, rules, rules2, loopRules, Try.facts, base0, Int.toNat_zero, Nat.reduceAdd, Nat.reduceMul, Nat.reduceSub, Nat.reduceLT, Nat.reduceLeDiff, Nat.reduceEqDiff, Int.reduceLE, Int.reduceLT, Int.reduceToNat, Int.reduceNe, Int.reduceEq, not_false_eq_true, Nat.reduceBEq, Nat.reduceDiv, Int.natCast_zero, Int.natCast_one, Int.reduceAdd, Int.reduceSub, reduceIte, ↓reduceIte, Value.oneCell', rowI_length, rowI_take, rowI_splice, rep_all, row_zero, le_nat, Int.toNat_natCast, Nat.zero_add, sok_row, reduceCtorEq]
  refine (times_fun _ _ h3 h2).vcCall ?_
  have h5 := timesN_dig h4 h1
  have h6 := timesN_dig h3 h2
  simp only [R64_length, R64_take, R64_0, R64_1, R64_2, R64_3, R64_z, R64_s, R64_s0, R64_s1, R64_s2, R64_s3, row_zero2, R64_sok, sn_upto, sn_from, slN_def, run_cap, rules, rules2, loopRules, Try.facts, base0, Int.toNat_zero, Nat.reduceAdd, Nat.reduceMul, Nat.reduceSub, Nat.reduceLT, Nat.reduceLeDiff, Nat.reduceEqDiff, Int.reduceLE, Int.reduceLT, Int.reduceToNat, Int.reduceNe, Int.reduceEq, not_false_eq_true, Nat.reduceBEq, Nat.reduceDiv, Int.natCast_zero, Int.natCast_one, Int.reduceAdd, Int.reduceSub, reduceIte, ↓reduceIte, Value.oneCell', rowI_length, rowI_take, rowI_splice, rep_all, row_zero, le_nat, Int.toNat_natCast, Nat.zero_add, sok_row, reduceCtorEq]
  refine (refPlus_fun _ _ h5 h6).vcCall ?_
  simp only [R64_length, R64_take, R64_0, R64_1, R64_2, R64_3, R64_z, R64_s, R64_s0, R64_s1, R64_s2, R64_s3, row_zero2, R64_sok, sn_upto, sn_from, slN_def, run_cap, rules, rules2, loopRules, Try.facts, base0, Int.toNat_zero, Nat.reduceAdd, Nat.reduceMul, Nat.reduceSub, Nat.reduceLT, Nat.reduceLeDiff, Nat.reduceEqDiff, Int.reduceLE, Int.reduceLT, Int.reduceToNat, Int.reduceNe, Int.reduceEq, not_false_eq_true, Nat.reduceBEq, Nat.reduceDiv, Int.natCast_zero, Int.natCast_one, Int.reduceAdd, Int.reduceSub, reduceIte, ↓reduceIte, Value.oneCell', rowI_length, rowI_take, rowI_splice, rep_all, row_zero, le_nat, Int.toNat_natCast, Nat.zero_add, sok_row, reduceCtorEq]
  refine (refMinus_fun _ _ h5 h6).vcCall ?_
  have h7 := plusN_dig h5 h6
  have h8 := minusN_dig h5 h6
  simp only [R64_length, R64_take, R64_0, R64_1, R64_2, R64_3, R64_z, R64_s, R64_s0, R64_s1, R64_s2, R64_s3, row_zero2, R64_sok, sn_upto, sn_from, slN_def, run_cap, rules, rules2, loopRules, Try.facts, base0, Int.toNat_zero, Nat.reduceAdd, Nat.reduceMul, Nat.reduceSub, Nat.reduceLT, Nat.reduceLeDiff, Nat.reduceEqDiff, Int.reduceLE, Int.reduceLT, Int.reduceToNat, Int.reduceNe, Int.reduceEq, not_false_eq_true, Nat.reduceBEq, Nat.reduceDiv, Int.natCast_zero, Int.natCast_one, Int.reduceAdd, Int.reduceSub, reduceIte, ↓reduceIte, Value.oneCell', rowI_length, rowI_take, rowI_splice, rep_all, row_zero, le_nat, Int.toNat_natCast, Nat.zero_add, sok_row, reduceCtorEq]
  refine ⟨by kernel_rfl, ?_⟩
  refine Fun.draw (times_fun _ _ h7 h7) Try.callable25 ?_
  simp only [R64_length, R64_take, R64_0, R64_1, R64_2, R64_3, R64_z, R64_s, R64_s0, R64_s1, R64_s2, R64_s3, row_zero2, R64_sok, sn_upto, sn_from, slN_def, run_cap, rules, rules2, loopRules, Try.facts, base0, Int.toNat_zero, Nat.reduceAdd, Nat.reduceMul, Nat.reduceSub, Nat.reduceLT, Nat.reduceLeDiff, Nat.reduceEqDiff, Int.reduceLE, Int.reduceLT, Int.reduceToNat, Int.reduceNe, Int.reduceEq, not_false_eq_true, Nat.reduceBEq, Nat.reduceDiv, Int.natCast_zero, Int.natCast_one, Int.reduceAdd, Int.reduceSub, reduceIte, ↓reduceIte, Value.oneCell', rowI_length, rowI_take, rowI_splice, rep_all, row_zero, le_nat, Int.toNat_natCast, Nat.zero_add, sok_row, reduceCtorEq]
  refine Fun.draw (times_fun _ _ h8 h8) Try.callable25 ?_
  simp only [R64_length, R64_take, R64_0, R64_1, R64_2, R64_3, R64_z, R64_s, R64_s0, R64_s1, R64_s2, R64_s3, row_zero2, R64_sok, sn_upto, sn_from, slN_def, run_cap, rules, rules2, loopRules, Try.facts, base0, Int.toNat_zero, Nat.reduceAdd, Nat.reduceMul, Nat.reduceSub, Nat.reduceLT, Nat.reduceLeDiff, Nat.reduceEqDiff, Int.reduceLE, Int.reduceLT, Int.reduceToNat, Int.reduceNe, Int.reduceEq, not_false_eq_true, Nat.reduceBEq, Nat.reduceDiv, Int.natCast_zero, Int.natCast_one, Int.reduceAdd, Int.reduceSub, reduceIte, ↓reduceIte, Value.oneCell', rowI_length, rowI_take, rowI_splice, rep_all, row_zero, le_nat, Int.toNat_natCast, Nat.zero_add, sok_row, reduceCtorEq]
  refine Fun.draw (times_fun _ _ hu (timesN_dig h8 h8)) Try.callable25 ?_
  simp only [R64_length, R64_take, R64_0, R64_1, R64_2, R64_3, R64_z, R64_s, R64_s0, R64_s1, R64_s2, R64_s3, row_zero2, R64_sok, sn_upto, sn_from, slN_def, run_cap, rules, rules2, loopRules, Try.facts, base0, Int.toNat_zero, Nat.reduceAdd, Nat.reduceMul, Nat.reduceSub, Nat.reduceLT, Nat.reduceLeDiff, Nat.reduceEqDiff, Int.reduceLE, Int.reduceLT, Int.reduceToNat, Int.reduceNe, Int.reduceEq, not_false_eq_true, Nat.reduceBEq, Nat.reduceDiv, Int.natCast_zero, Int.natCast_one, Int.reduceAdd, Int.reduceSub, reduceIte, ↓reduceIte, Value.oneCell', rowI_length, rowI_take, rowI_splice, rep_all, row_zero, le_nat, Int.toNat_natCast, Nat.zero_add, sok_row, reduceCtorEq]
def dblE (x z : Nat → Int) : Nat → Int := minusN (timesN (plusN x z) (plusN x z)) (timesN (minusN x z) (minusN x z))
def cN : Nat → Int := upd (upd (fun _ => 0) 0 56129) 1 1
def oneN : Nat → Int := upd (fun _ => 0) 0 1
theorem cN_dig : Dig cN := by intro i; simp only [cN, upd]; split <;> (try split) <;> omega
theorem oneN_dig : Dig oneN := by intro i; simp only [oneN, upd]; split <;> omega
theorem zN_dig : Dig zN := by intro i; simp only [zN]; omega
def dblX (x z : Nat → Int) : Nat → Int := timesN (timesN (plusN x z) (plusN x z)) (timesN (minusN x z) (minusN x z))
def dblZ (x z : Nat → Int) : Nat → Int := timesN (dblE x z) (plusN (timesN (plusN x z) (plusN x z)) (timesN cN (dblE x z)))
set_option maxHeartbeats 2000000 in
set_option maxRecDepth 20000 in
theorem double_fun (x z : Nat → Int) (hx : Dig x) (hz : Dig z) :
    Fun Try.prog 41 [Ag (rowI .u64 16 x), Ag (rowI .u64 16 z)] (Ag (R64 (dblX x z) (dblZ x z) zN zN)) := by
  simp only [dblX, dblZ, dblE]
  have h1 := plusN_dig hx hz
  have h2 := minusN_dig hx hz
  have h3 := timesN_dig h1 h1
  have h4 := timesN_dig h2 h2
  have h5 := minusN_dig h3 h4
  have hc := cN_dig
  refine fun_of_vc Try.func41 rfl (by kernel_rfl) (by simp [Try.ntmps41]) rfl rfl ?_
  simp only [Try.results41, R64_length, R64_take, R64_0, R64_1, R64_2, R64_3, R64_z, R64_s, R64_s0, R64_s1, R64_s2, R64_s3, row_zero2, R64_sok, sn_upto, sn_from, slN_def, run_cap, rules, rules2, loopRules, Try.facts, base0, Int.toNat_zero, Nat.reduceAdd, Nat.reduceMul, Nat.reduceSub, Nat.reduceLT, Nat.reduceLeDiff, Nat.reduceEqDiff, Int.reduceLE, Int.reduceLT, Int.reduceToNat, Int.reduceNe, Int.reduceEq, not_false_eq_true, Nat.reduceBEq, Nat.reduceDiv, Int.natCast_zero, Int.natCast_one, Int.reduceAdd, Int.reduceSub, reduceIte, ↓reduceIte, Value.oneCell', rowI_length, rowI_take, rowI_splice, rep_all, row_zero, le_nat, Int.toNat_natCast, Nat.zero_add, sok_row, reduceCtorEq]
  refine (refPlus_fun x z hx hz).vcCall ?_
  simp only [R64_length, R64_take, R64_0, R64_1, R64_2, R64_3, R64_z, R64_s, R64_s0, R64_s1, R64_s2, R64_s3, row_zero2, R64_sok, sn_upto, sn_from, slN_def, run_cap, rules, rules2, loopRules, Try.facts, base0, Int.toNat_zero, Nat.reduceAdd, Nat.reduceMul, Nat.reduceSub, Nat.reduceLT, Nat.reduceLeDiff, Nat.reduceEqDiff, Int.reduceLE, Int.reduceLT, Int.reduceToNat, Int.reduceNe, Int.reduceEq, not_false_eq_true, Nat.reduceBEq, Nat.reduceDiv, Int.natCast_zero, Int.natCast_one, Int.reduceAdd, Int.reduceSub, reduceIte, ↓reduceIte, Value.oneCell', rowI_length, rowI_take, rowI_splice, rep_all, row_zero, le_nat, Int.toNat_natCast, Nat.zero_add, sok_row, reduceCtorEq]
  refine (refMinus_fun x z hx hz).vcCall ?_
  simp only [R64_length, R64_take, R64_0, R64_1, R64_2, R64_3, R64_z, R64_s, R64_s0, R64_s1, R64_s2, R64_s3, row_zero2, R64_sok, sn_upto, sn_from, slN_def, run_cap, rules, rules2, loopRules, Try.facts, base0, Int.toNat_zero, Nat.reduceAdd, Nat.reduceMul, Nat.reduceSub, Nat.reduceLT, Nat.reduceLeDiff, Nat.reduceEqDiff, Int.reduceLE, Int.reduceLT, Int.reduceToNat, Int.reduceNe, Int.reduceEq, not_false_eq_true, Nat.reduceBEq, Nat.reduceDiv, Int.natCast_zero, Int.natCast_one, Int.reduceAdd, Int.reduceSub, reduceIte, ↓reduceIte, Value.oneCell', rowI_length, rowI_take, rowI_splice, rep_all, row_zero, le_nat, Int.toNat_natCast, Nat.zero_add, sok_row, reduceCtorEq]
  refine (times_fun _ _ h1 h1).vcCall ?_
  simp only [R64_length, R64_take, R64_0, R64_1, R64_2, R64_3, R64_z, R64_s, R64_s0, R64_s1, R64_s2, R64_s3, row_zero2, R64_sok, sn_upto, sn_from, slN_def, run_cap, rules, rules2, loopRules, Try.facts, base0, Int.toNat_zero, Nat.reduceAdd, Nat.reduceMul, Nat.reduceSub, Nat.reduceLT, Nat.reduceLeDiff, Nat.reduceEqDiff, Int.reduceLE, Int.reduceLT, Int.reduceToNat, Int.reduceNe, Int.reduceEq, not_false_eq_true, Nat.reduceBEq, Nat.reduceDiv, Int.natCast_zero, Int.natCast_one, Int.reduceAdd, Int.reduceSub, reduceIte, ↓reduceIte, Value.oneCell', rowI_length, rowI_take, rowI_splice, rep_all, row_zero, le_nat, Int.toNat_natCast, Nat.zero_add, sok_row, reduceCtorEq]
  refine (times_fun _ _ h2 h2).vcCall ?_
  simp only [R64_length, R64_take, R64_0, R64_1, R64_2, R64_3, R64_z, R64_s, R64_s0, R64_s1, R64_s2, R64_s3, row_zero2, R64_sok, sn_upto, sn_from, slN_def, run_cap, rules, rules2, loopRules, Try.facts, base0, Int.toNat_zero, Nat.reduceAdd, Nat.reduceMul, Nat.reduceSub, Nat.reduceLT, Nat.reduceLeDiff, Nat.reduceEqDiff, Int.reduceLE, Int.reduceLT, Int.reduceToNat, Int.reduceNe, Int.reduceEq, not_false_eq_true, Nat.reduceBEq, Nat.reduceDiv, Int.natCast_zero, Int.natCast_one, Int.reduceAdd, Int.reduceSub, reduceIte, ↓reduceIte, Value.oneCell', rowI_length, rowI_take, rowI_splice, rep_all, row_zero, le_nat, Int.toNat_natCast, Nat.zero_add, sok_row, reduceCtorEq]
  refine (refMinus_fun _ _ h3 h4).vcCall ?_
  simp only [rowI_splice1 .u64 16 _ 0 (by omega), rowI_splice1 .u64 16 _ 1 (by omega), R64_length, R64_take, R64_0, R64_1, R64_2, R64_3, R64_z, R64_s, R64_s0, R64_s1, R64_s2, R64_s3, row_zero2, R64_sok, sn_upto, sn_from, slN_def, run_cap, rules, rules2, loopRules, Try.facts, base0, Int.toNat_zero, Nat.reduceAdd, Nat.reduceMul, Nat.reduceSub, Nat.reduceLT, Nat.reduceLeDiff, Nat.reduceEqDiff, Int.reduceLE, Int.reduceLT, Int.reduceToNat, Int.reduceNe, Int.reduceEq, not_false_eq_true, Nat.reduceBEq, Nat.reduceDiv, Int.natCast_zero, Int.natCast_one, Int.reduceAdd, Int.reduceSub, reduceIte, ↓reduceIte, Value.oneCell', rowI_length, rowI_take, rowI_splice, rep_all, row_zero, le_nat, Int.toNat_natCast, Nat.zero_add, sok_row, reduceCtorEq]
  refine ⟨by kernel_rfl, ?_⟩
  refine Fun.draw (times_fun cN _ hc h5) Try.callable25 ?_
  simp only [R64_length, R64_take, R64_0, R64_1, R64_2, R64_3, R64_z, R64_s, R64_s0, R64_s1, R64_s2, R64_s3, row_zero2, R64_sok, sn_upto, sn_from, slN_def, run_cap, rules, rules2, loopRules, Try.facts, base0, Int.toNat_zero, Nat.reduceAdd, Nat.reduceMul, Nat.reduceSub, Nat.reduceLT, Nat.reduceLeDiff, Nat.reduceEqDiff, Int.reduceLE, Int.reduceLT, Int.reduceToNat, Int.reduceNe, Int.reduceEq, not_false_eq_true, Nat.reduceBEq, Nat.reduceDiv, Int.natCast_zero, Int.natCast_one, Int.reduceAdd, Int.reduceSub, reduceIte, ↓reduceIte, Value.oneCell', rowI_length, rowI_take, rowI_splice, rep_all, row_zero, le_nat, Int.toNat_natCast, Nat.zero_add, sok_row, reduceCtorEq]
  refine Fun.draw (refPlus_fun _ _ h3 (timesN_dig hc h5)) Try.callable57 ?_
  have h6 := plusN_dig h3 (timesN_dig hc h5)
  simp only [R64_length, R64_take, R64_0, R64_1, R64_2, R64_3, R64_z, R64_s, R64_s0, R64_s1, R64_s2, R64_s3, row_zero2, R64_sok, sn_upto, sn_from, slN_def, run_cap, rules, rules2, loopRules, Try.facts, base0, Int.toNat_zero, Nat.reduceAdd, Nat.reduceMul, Nat.reduceSub, Nat.reduceLT, Nat.reduceLeDiff, Nat.reduceEqDiff, Int.reduceLE, Int.reduceLT, Int.reduceToNat, Int.reduceNe, Int.reduceEq, not_false_eq_true, Nat.reduceBEq, Nat.reduceDiv, Int.natCast_zero, Int.natCast_one, Int.reduceAdd, Int.reduceSub, reduceIte, ↓reduceIte, Value.oneCell', rowI_length, rowI_take, rowI_splice, rep_all, row_zero, le_nat, Int.toNat_natCast, Nat.zero_add, sok_row, reduceCtorEq]
  refine ⟨by kernel_rfl, ?_⟩
  refine Fun.draw (times_fun _ _ h3 h4) Try.callable25 ?_
  simp only [R64_length, R64_take, R64_0, R64_1, R64_2, R64_3, R64_z, R64_s, R64_s0, R64_s1, R64_s2, R64_s3, row_zero2, R64_sok, sn_upto, sn_from, slN_def, run_cap, rules, rules2, loopRules, Try.facts, base0, Int.toNat_zero, Nat.reduceAdd, Nat.reduceMul, Nat.reduceSub, Nat.reduceLT, Nat.reduceLeDiff, Nat.reduceEqDiff, Int.reduceLE, Int.reduceLT, Int.reduceToNat, Int.reduceNe, Int.reduceEq, not_false_eq_true, Nat.reduceBEq, Nat.reduceDiv, Int.natCast_zero, Int.natCast_one, Int.reduceAdd, Int.reduceSub, reduceIte, ↓reduceIte, Value.oneCell', rowI_length, rowI_take, rowI_splice, rep_all, row_zero, le_nat, Int.toNat_natCast, Nat.zero_add, sok_row, reduceCtorEq]
  refine Fun.draw (times_fun _ _ h5 h6) Try.callable25 ?_
  simp only [R64_length, R64_take, R64_0, R64_1, R64_2, R64_3, R64_z, R64_s, R64_s0, R64_s1, R64_s2, R64_s3, row_zero2, R64_sok, sn_upto, sn_from, slN_def, run_cap, rules, rules2, loopRules, Try.facts, base0, Int.toNat_zero, Nat.reduceAdd, Nat.reduceMul, Nat.reduceSub, Nat.reduceLT, Nat.reduceLeDiff, Nat.reduceEqDiff, Int.reduceLE, Int.reduceLT, Int.reduceToNat, Int.reduceNe, Int.reduceEq, not_false_eq_true, Nat.reduceBEq, Nat.reduceDiv, Int.natCast_zero, Int.natCast_one, Int.reduceAdd, Int.reduceSub, reduceIte, ↓reduceIte, Value.oneCell', rowI_length, rowI_take, rowI_splice, rep_all, row_zero, le_nat, Int.toNat_natCast, Nat.zero_add, sok_row, reduceCtorEq]
end Go.Proofs.Ytpplfckcblaoiaa
