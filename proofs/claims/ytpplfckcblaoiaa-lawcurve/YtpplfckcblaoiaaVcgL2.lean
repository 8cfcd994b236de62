/-
  Functions of the cipher, of the program and of the document.
-/
import Derived.Test.YtpplfckcblaoiaaVcgL1
set_option linter.unusedVariables false
set_option linter.unusedSimpArgs false
namespace Go.Proofs.Ytpplfckcblaoiaa
open Go.Vcg
/-! ### Equal numbers have equal bytes -/
theorem words_eq (W m : Nat → Int) (hW : ∀ j, 0 ≤ W j ∧ W j < 18446744073709551616) (hm : Dig m)
    (h : W 0 + 18446744073709551616 * W 1 + 340282366920938463463374607431768211456 * W 2 + 6277101735386680763835789423207666416102355444464034512896 * W 3 = val m 16) :
    (W 0 = m 0 + 65536 * m 1 + 4294967296 * m 2 + 281474976710656 * m 3) ∧ (W 1 = m 4 + 65536 * m 5 + 4294967296 * m 6 + 281474976710656 * m 7) ∧
    (W 2 = m 8 + 65536 * m 9 + 4294967296 * m 10 + 281474976710656 * m 11) ∧ (W 3 = m 12 + 65536 * m 13 + 4294967296 * m 14 + 281474976710656 * m 15) := by
  have e : val m 16 = (m 0 + 65536 * m 1 + 4294967296 * m 2 + 281474976710656 * m 3) + 18446744073709551616 * (m 4 + 65536 * m 5 + 4294967296 * m 6 + 281474976710656 * m 7) + 340282366920938463463374607431768211456 * (m 8 + 65536 * m 9 + 4294967296 * m 10 + 281474976710656 * m 11) + 6277101735386680763835789423207666416102355444464034512896 * (m 12 + 65536 * m 13 + 4294967296 * m 14 + 281474976710656 * m 15) := by
    simp [val]; omega
  rw [e] at h
  have w0 := hW 0
  have w1 := hW 1
  have w2 := hW 2
  have w3 := hW 3
  have q : ∀ a b c d : Nat, 0 ≤ m a + 65536 * m b + 4294967296 * m c + 281474976710656 * m d ∧ m a + 65536 * m b + 4294967296 * m c + 281474976710656 * m d < 18446744073709551616 := by
    intro a b c d
    have := hm a
    have := hm b
    have := hm c
    have := hm d
    omega
  have q0 := q 0 1 2 3
  have q1 := q 4 5 6 7
  have q2 := q 8 9 10 11
  have q3 := q 12 13 14 15
  generalize m 0 + 65536 * m 1 + 4294967296 * m 2 + 281474976710656 * m 3 = d0 at *
  generalize m 4 + 65536 * m 5 + 4294967296 * m 6 + 281474976710656 * m 7 = d1 at *
  generalize m 8 + 65536 * m 9 + 4294967296 * m 10 + 281474976710656 * m 11 = d2 at *
  generalize m 12 + 65536 * m 13 + 4294967296 * m 14 + 281474976710656 * m 15 = d3 at *
  clear e hm hW
  omega
theorem byte_of (w a b c d : Int) (ha : 0 ≤ a ∧ a < 65536) (hb : 0 ≤ b ∧ b < 65536) (hc : 0 ≤ c ∧ c < 65536) (hd : 0 ≤ d ∧ d < 65536) (h : w = a + 65536 * b + 4294967296 * c + 281474976710656 * d) :
    w / 2 ^ 0 % 256 = a % 256 ∧ w / 2 ^ 8 % 256 = a / 256 % 256 ∧ w / 2 ^ 16 % 256 = b % 256 ∧ w / 2 ^ 24 % 256 = b / 256 % 256 ∧
    w / 2 ^ 32 % 256 = c % 256 ∧ w / 2 ^ 40 % 256 = c / 256 % 256 ∧ w / 2 ^ 48 % 256 = d % 256 ∧ w / 2 ^ 56 % 256 = d / 256 % 256 := by
  simp only [Int.reducePow]
  subst h
  refine ⟨?_, ?_, ?_, ?_, ?_, ?_, ?_, ?_⟩ <;> omega
theorem bytes_eq (W m : Nat → Int) (hW : ∀ j, 0 ≤ W j ∧ W j < 18446744073709551616) (hm : Dig m)
    (h : W 0 + 18446744073709551616 * W 1 + 340282366920938463463374607431768211456 * W 2 + 6277101735386680763835789423207666416102355444464034512896 * W 3 = val m 16) :
    ∀ i, i < 32 → byteW W i = undB m i := by
  obtain ⟨e0, e1, e2, e3⟩ := words_eq W m hW hm h
  have b0 := byte_of _ _ _ _ _ (hm 0) (hm 1) (hm 2) (hm 3) e0
  have b1 := byte_of _ _ _ _ _ (hm 4) (hm 5) (hm 6) (hm 7) e1
  have b2 := byte_of _ _ _ _ _ (hm 8) (hm 9) (hm 10) (hm 11) e2
  have b3 := byte_of _ _ _ _ _ (hm 12) (hm 13) (hm 14) (hm 15) e3
  intro i hi
  match i, hi with
  | 0, _ => exact b0.1
  | 1, _ => exact b0.2.1
  | 2, _ => exact b0.2.2.1
  | 3, _ => exact b0.2.2.2.1
  | 4, _ => exact b0.2.2.2.2.1
  | 5, _ => exact b0.2.2.2.2.2.1
  | 6, _ => exact b0.2.2.2.2.2.2.1
  | 7, _ => exact b0.2.2.2.2.2.2.2
  | 8, _ => exact b1.1
  | 9, _ => exact b1.2.1
  | 10, _ => exact b1.2.2.1
  | 11, _ => exact b1.2.2.2.1
  | 12, _ => exact b1.2.2.2.2.1
  | 13, _ => exact b1.2.2.2.2.2.1
  | 14, _ => exact b1.2.2.2.2.2.2.1
  | 15, _ => exact b1.2.2.2.2.2.2.2
  | 16, _ => exact b2.1
  | 17, _ => exact b2.2.1
  | 18, _ => exact b2.2.2.1
  | 19, _ => exact b2.2.2.2.1
  | 20, _ => exact b2.2.2.2.2.1
  | 21, _ => exact b2.2.2.2.2.2.1
  | 22, _ => exact b2.2.2.2.2.2.2.1
  | 23, _ => exact b2.2.2.2.2.2.2.2
  | 24, _ => exact b3.1
  | 25, _ => exact b3.2.1
  | 26, _ => exact b3.2.2.1
  | 27, _ => exact b3.2.2.2.1
  | 28, _ => exact b3.2.2.2.2.1
  | 29, _ => exact b3.2.2.2.2.2.1
  | 30, _ => exact b3.2.2.2.2.2.2.1
  | 31, _ => exact b3.2.2.2.2.2.2.2
  | n + 32, h => omega
theorem same (K U : Nat → Int) (hU : By U) : rowI .u8 32 (progB K U) = rowI .u8 32 (refB K U) := by
  refine rowI_congr fun i hi => ?_
  have hu : (fieldW (wrd U 32)).Ok := fieldW_ok _ fun j => ⟨((wrd_bd U hU 32).1 j).1, ((wrd_bd U hU 32).1 j).2.2⟩
  have hn := dgt_dig _ (topU_by U hU) 32
  have hs := start_eq' U hU
  have hr := ladR_ok (clampK K) _ hu 255
  have hq := rungN_dig (clampK K) _ hn 255
  have hl := lad_eq (clampK K) hs hn 255
  have hi5 := inv_eq hl.b hq.b 255
  have hf := fermN_dig _ hq.b 255
  have hx := hl.a.mul hi5 hq.a hf
  have ok := mulF_ok _ _ hr.x2 (invP_ok _ hr.z2 255)
  obtain ⟨hv, g0, g1, g2, g3, g4⟩ := redF_val _ ok
  have hd := timesN_dig hq.a hf
  have hw := keyW_val _ g0 g1 g2 g3 g4
  exact bytes_eq _ _ (keyW_bd _ g0 g1 g2 g3 g4) (lessK_dig _ hd 3) (by rw [← hw, hv, lessK_val _ hd]; exact hx) i hi
theorem progB_by (K U : Nat → Int) : By (progB K U) := by
  intro i; simp only [progB, byteW]; omega
theorem intsOf_row (k : IntKind) (n : Nat) (f : Nat → Int) : intsOf k (rowI k n f) = some ((List.range n).map f) := by
  rw [rowI]
  generalize List.range n = l
  induction l with
  | nil => rfl
  | cons a l ih => simp only [List.map_cons, intsOf, ih, if_true]
theorem eqL_same {m : Nat} {p : List Int} (h : p.length = m) : eqL .eql m (some p) (some p) = some (some (B true), none) := by
  rw [eqL_eql, if_pos ⟨h, h⟩, decide_eq_true rfl]
theorem eq_row (k : IntKind) (n : Nat) (f : Nat → Int) : eqL .eql n (intsOf k (rowI k n f)) (intsOf k (rowI k n f)) = some (some (B true), none) := by
  rw [intsOf_row]; exact eqL_same (by simp)
set_option maxHeartbeats 2000000 in
set_option maxRecDepth 20000 in
theorem law_fun (K U : Nat → Int) (hK : By K) (hU : By U) : Fun Try.prog 3 [Ag (rowI .u8 32 K), Ag (rowI .u8 32 U)] (B true) := by
  have s1 := same K U hU
  have s2 := same U (progB K U) (progB_by K U)
  have r1 := refCurve_fun K U hK hU
  have r2 := refCurve_fun U (progB K U) hU (progB_by K U)
  rw [← s1] at r1
  rw [← s2] at r2
  refine fun_of_vc Try.func3 rfl (by kernel_rfl) (by simp [Try.ntmps3]) rfl rfl ?_
  simp only [Try.results3, sn_upto, sn_from, slN_def, run_cap, rules, rules2, loopRules, Try.facts, base0, Int.toNat_zero, Nat.reduceAdd, Nat.reduceMul, Nat.reduceSub, Nat.reduceLT, Nat.reduceLeDiff, Nat.reduceEqDiff, Int.reduceLE, Int.reduceLT, Int.reduceToNat, Int.reduceNe, Int.reduceEq, not_false_eq_true, Nat.reduceBEq, Nat.reduceDiv, Int.natCast_zero, Int.natCast_one, Int.reduceAdd, Int.reduceSub, reduceIte, ↓reduceIte, Value.oneCell', rowI_length, rowI_take, rowI_splice, rep_all, row_zero, le_nat, Int.toNat_natCast, Nat.zero_add, sok_row, reduceCtorEq]
  refine (curve_fun K U hK hU).vcCall ?_
  simp only [sn_upto, sn_from, slN_def, run_cap, rules, rules2, loopRules, Try.facts, base0, Int.toNat_zero, Nat.reduceAdd, Nat.reduceMul, Nat.reduceSub, Nat.reduceLT, Nat.reduceLeDiff, Nat.reduceEqDiff, Int.reduceLE, Int.reduceLT, Int.reduceToNat, Int.reduceNe, Int.reduceEq, not_false_eq_true, Nat.reduceBEq, Nat.reduceDiv, Int.natCast_zero, Int.natCast_one, Int.reduceAdd, Int.reduceSub, reduceIte, ↓reduceIte, Value.oneCell', rowI_length, rowI_take, rowI_splice, rep_all, row_zero, le_nat, Int.toNat_natCast, Nat.zero_add, sok_row, reduceCtorEq]
  refine ⟨by kernel_rfl, ?_⟩
  refine Fun.draw r1 Try.callable7 ?_
  simp only [eq_row, sn_upto, sn_from, slN_def, run_cap, rules, rules2, loopRules, Try.facts, base0, Int.toNat_zero, Nat.reduceAdd, Nat.reduceMul, Nat.reduceSub, Nat.reduceLT, Nat.reduceLeDiff, Nat.reduceEqDiff, Int.reduceLE, Int.reduceLT, Int.reduceToNat, Int.reduceNe, Int.reduceEq, not_false_eq_true, Nat.reduceBEq, Nat.reduceDiv, Int.natCast_zero, Int.natCast_one, Int.reduceAdd, Int.reduceSub, reduceIte, ↓reduceIte, Value.oneCell', rowI_length, rowI_take, rowI_splice, rep_all, row_zero, le_nat, Int.toNat_natCast, Nat.zero_add, sok_row, reduceCtorEq]
  refine Fun.draw (curve_fun U (progB K U) hU (progB_by K U)) Try.callable6 ?_
  simp only [sn_upto, sn_from, slN_def, run_cap, rules, rules2, loopRules, Try.facts, base0, Int.toNat_zero, Nat.reduceAdd, Nat.reduceMul, Nat.reduceSub, Nat.reduceLT, Nat.reduceLeDiff, Nat.reduceEqDiff, Int.reduceLE, Int.reduceLT, Int.reduceToNat, Int.reduceNe, Int.reduceEq, not_false_eq_true, Nat.reduceBEq, Nat.reduceDiv, Int.natCast_zero, Int.natCast_one, Int.reduceAdd, Int.reduceSub, reduceIte, ↓reduceIte, Value.oneCell', rowI_length, rowI_take, rowI_splice, rep_all, row_zero, le_nat, Int.toNat_natCast, Nat.zero_add, sok_row, reduceCtorEq]
  refine Fun.draw r2 Try.callable7 ?_
  simp only [eq_row, sn_upto, sn_from, slN_def, run_cap, rules, rules2, loopRules, Try.facts, base0, Int.toNat_zero, Nat.reduceAdd, Nat.reduceMul, Nat.reduceSub, Nat.reduceLT, Nat.reduceLeDiff, Nat.reduceEqDiff, Int.reduceLE, Int.reduceLT, Int.reduceToNat, Int.reduceNe, Int.reduceEq, not_false_eq_true, Nat.reduceBEq, Nat.reduceDiv, Int.natCast_zero, Int.natCast_one, Int.reduceAdd, Int.reduceSub, reduceIte, ↓reduceIte, Value.oneCell', rowI_length, rowI_take, rowI_splice, rep_all, row_zero, le_nat, Int.toNat_natCast, Nat.zero_add, sok_row, reduceCtorEq]
end Go.Proofs.Ytpplfckcblaoiaa
