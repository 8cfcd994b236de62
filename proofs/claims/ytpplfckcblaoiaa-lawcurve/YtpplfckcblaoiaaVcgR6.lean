/-
  Functions of the cipher, of the program and of the document.
-/
import Derived.Test.YtpplfckcblaoiaaVcgR5
set_option linter.unusedVariables false
set_option linter.unusedSimpArgs false
namespace Go.Proofs.Ytpplfckcblaoiaa
open Go.Vcg
/-! ### Less p -/
def primD (i : Nat) : Int := if i = 0 then 65517 else if i = 15 then 32767 else 65535
def bor (n : Nat → Int) : Nat → Int
  | 0 => 0
  | i + 1 => 1 - (n i + 65536 - primD i - bor n i) / 65536
def lesD (n : Nat → Int) (i : Nat) : Int := (n i + 65536 - primD i - bor n i) % 65536
def lessN (n : Nat → Int) : Nat → Int := if bor n 16 = 1 then n else lesD n
theorem primD_bd (i : Nat) : 32767 ≤ primD i ∧ primD i ≤ 65535 := by simp only [primD]; split <;> (try split) <;> omega
theorem bor_bd (n : Nat → Int) (h : Dig n) : ∀ i, 0 ≤ bor n i ∧ bor n i ≤ 1
  | 0 => by simp [bor]
  | i + 1 => by
    have := bor_bd n h i
    have := h i
    have := primD_bd i
    simp only [bor]; omega
theorem les_val (n : Nat → Int) : ∀ k, val (lesD n) k = val n k - val primD k + bor n k * 65536 ^ k
  | 0 => by simp [val, bor]
  | k + 1 => by
    have ih := les_val n k
    have e : lesD n k = n k - primD k - bor n k + 65536 * bor n (k + 1) := by simp only [lesD, bor]; omega
    rw [val_s, val_s, val_s, ih, Int.pow_succ, e]
    grind
theorem lessN_spec (n : Nat → Int) (h : Dig n) : Dig (lessN n) ∧ val (lessN n) 16 = if val n 16 < PP then val n 16 else val n 16 - PP := by
  have hb := bor_bd n h 16
  have hv := les_val n 16
  have hp : val primD 16 = PP := by simp [val, primD, PP]
  have hd : Dig (lesD n) := by intro i; simp only [lesD]; omega
  have hm := val_dig _ hd 16
  have hn := val_dig _ h 16
  have h16 : (65536 : Int) ^ 16 = 115792089237316195423570985008687907853269984665640564039457584007913129639936 := by decide
  rw [hp, h16] at hv
  rw [h16] at hm hn
  have hPP : PP = 57896044618658097711785492504343953926634992332820282019728792003956564819949 := rfl
  simp only [lessN]
  by_cases hc : bor n 16 = 1
  · rw [if_pos hc]; rw [hc] at hv
    exact ⟨h, by rw [if_pos (by omega)]⟩
  · have hc0 : bor n 16 = 0 := by omega
    rw [if_neg hc]; rw [hc0] at hv
    exact ⟨hd, by rw [if_neg (by omega)]; omega⟩
set_option maxHeartbeats 2000000 in
set_option maxRecDepth 20000 in
theorem lessPrime_fun (n : Nat → Int) (h : Dig n) : Fun Try.prog 42 [Ag (rowI .u64 16 n)] (Ag (rowI .u64 16 (lessN n))) := by
  refine fun_of_vc Try.func42 rfl (by kernel_rfl) (by simp [Try.ntmps42]) rfl rfl ?_
  simp only [Try.results42, sn_upto, sn_from, slN_def, run_cap, rules, rules2, loopRules, Try.facts, base0, Int.toNat_zero, Nat.reduceAdd, Nat.reduceMul, Nat.reduceSub, Nat.reduceLT, Nat.reduceLeDiff, Nat.reduceEqDiff, Int.reduceLE, Int.reduceLT, Int.reduceToNat, Int.reduceNe, Int.reduceEq, not_false_eq_true, Nat.reduceBEq, Nat.reduceDiv, Int.natCast_zero, Int.natCast_one, Int.reduceAdd, Int.reduceSub, reduceIte, ↓reduceIte, Value.oneCell', rowI_length, rowI_take, rowI_splice, rep_all, row_zero, le_nat, Int.toNat_natCast, Nat.zero_add, sok_row, reduceCtorEq]
  refine loop_count 16 (fun k => [(1, Ptr 0 0), (2, Ptr 1 0), (3, Ptr 2 0), (4, I .u64 (bor n k)), (5, I .i64 k)])
    (fun k => [(0, ⟨true, rowI .u64 16 n⟩), (1, ⟨true, rowI .u64 16 (fun _ => 0)⟩), (2, ⟨true, rowI .u64 16 (fun i => if i < k then lesD n i else 0)⟩)]) _ ?_ ?_ ?_
  · simp only [sok_row, bor, Nat.not_lt_zero, sn_upto, sn_from, slN_def, run_cap, rules, rules2, loopRules, Try.facts, base0, Int.toNat_zero, Nat.reduceAdd, Nat.reduceMul, Nat.reduceSub, Nat.reduceLT, Nat.reduceLeDiff, Nat.reduceEqDiff, Int.reduceLE, Int.reduceLT, Int.reduceToNat, Int.reduceNe, Int.reduceEq, not_false_eq_true, Nat.reduceBEq, Nat.reduceDiv, Int.natCast_zero, Int.natCast_one, Int.reduceAdd, Int.reduceSub, reduceIte, ↓reduceIte, Value.oneCell', rowI_length, rowI_take, rowI_splice, rep_all, row_zero, le_nat, Int.toNat_natCast, Nat.zero_add, sok_row, reduceCtorEq]
  · intro k hk
    have hl16 : ((k : Int) < 16) = True := lt_nat (m := 16) hk
    have hn := h k
    have hb := bor_bd n h k
    have hpd := primD_bd k
    have w1 : IntKind.u64.wrap (n k + 65536) = n k + 65536 := wrap_u64_in _ (by omega) (by omega)
    have w2 : IntKind.u64.wrap (n k + 65536 - primD k) = n k + 65536 - primD k := wrap_u64_in _ (by omega) (by omega)
    have w3 : IntKind.u64.wrap (n k + 65536 - primD k - bor n k) = n k + 65536 - primD k - bor n k := wrap_u64_in _ (by omega) (by omega)
    have t1 : (n k + 65536 - primD k - bor n k).tmod 65536 = lesD n k := Int.tmod_eq_emod_of_nonneg (by omega)
    have t2 : IntKind.u64.wrap ((n k + 65536 - primD k - bor n k).tdiv 65536) = 1 - bor n (k + 1) := by
      rw [Int.tdiv_eq_ediv_of_nonneg (by omega), wrap_u64_in _ (by omega) (by omega), bor]; omega
    have hb1 := bor_bd n h (k + 1)
    have t3 : IntKind.u64.wrap (1 - (1 - bor n (k + 1))) = bor n (k + 1) := by rw [wrap_u64_in _ (by omega) (by omega)]; omega
    have fin : rowI .u64 16 (upd (fun i => if i < k then lesD n i else 0) k (lesD n k)) = rowI .u64 16 (fun i => if i < k + 1 then lesD n i else 0) := row_upto
    simp only [sn_upto, sn_from, slN_def, run_cap, rules, rules2, loopRules, Try.facts, base0, Int.toNat_zero, Nat.reduceAdd, Nat.reduceMul, Nat.reduceSub, Nat.reduceLT, Nat.reduceLeDiff, Nat.reduceEqDiff, Int.reduceLE, Int.reduceLT, Int.reduceToNat, Int.reduceNe, Int.reduceEq, not_false_eq_true, Nat.reduceBEq, Nat.reduceDiv, Int.natCast_zero, Int.natCast_one, Int.reduceAdd, Int.reduceSub, reduceIte, ↓reduceIte, Value.oneCell', rowI_length, rowI_take, rowI_splice, rep_all, row_zero, le_nat, Int.toNat_natCast, Nat.zero_add, sok_row, reduceCtorEq]
    refine vcIf_yes (by simp; omega) ?_
    by_cases h0 : k = 0
    · have p : primD k = 65517 := by rw [h0]; rfl
      have c0 : ((k : Int) == 0) = true := by simp; omega
      have c15 : ((k : Int) == 15) = false := by simp; omega
      rw [p] at w2 w3 t1 t2
      simp only [c0, c15, hl16, rowI_get .u64 16 _ k hk, rowI_splice1 .u64 16 _ k hk, w1, w2, w3, t1, t2, t3, wrapS k (by omega), fin, sn_upto, sn_from, slN_def, run_cap, rules, rules2, loopRules, Try.facts, base0, Int.toNat_zero, Nat.reduceAdd, Nat.reduceMul, Nat.reduceSub, Nat.reduceLT, Nat.reduceLeDiff, Nat.reduceEqDiff, Int.reduceLE, Int.reduceLT, Int.reduceToNat, Int.reduceNe, Int.reduceEq, not_false_eq_true, Nat.reduceBEq, Nat.reduceDiv, Int.natCast_zero, Int.natCast_one, Int.reduceAdd, Int.reduceSub, reduceIte, ↓reduceIte, Value.oneCell', rowI_length, rowI_take, rowI_splice, rep_all, row_zero, le_nat, Int.toNat_natCast, Nat.zero_add, sok_row, reduceCtorEq]
      omega
    · have c0 : ((k : Int) == 0) = false := by simp; omega
      by_cases h15 : k = 15
      · have p : primD k = 32767 := by rw [h15]; rfl
        have c15 : ((k : Int) == 15) = true := by simp; omega
        rw [p] at w2 w3 t1 t2
        simp only [c0, c15, hl16, rowI_get .u64 16 _ k hk, rowI_splice1 .u64 16 _ k hk, w1, w2, w3, t1, t2, t3, wrapS k (by omega), fin, sn_upto, sn_from, slN_def, run_cap, rules, rules2, loopRules, Try.facts, base0, Int.toNat_zero, Nat.reduceAdd, Nat.reduceMul, Nat.reduceSub, Nat.reduceLT, Nat.reduceLeDiff, Nat.reduceEqDiff, Int.reduceLE, Int.reduceLT, Int.reduceToNat, Int.reduceNe, Int.reduceEq, not_false_eq_true, Nat.reduceBEq, Nat.reduceDiv, Int.natCast_zero, Int.natCast_one, Int.reduceAdd, Int.reduceSub, reduceIte, ↓reduceIte, Value.oneCell', rowI_length, rowI_take, rowI_splice, rep_all, row_zero, le_nat, Int.toNat_natCast, Nat.zero_add, sok_row, reduceCtorEq]
        omega
      · have p : primD k = 65535 := by rw [primD, if_neg h0, if_neg h15]
        have c15 : ((k : Int) == 15) = false := by simp; omega
        rw [p] at w2 w3 t1 t2
        simp only [c0, c15, hl16, rowI_get .u64 16 _ k hk, rowI_splice1 .u64 16 _ k hk, w1, w2, w3, t1, t2, t3, wrapS k (by omega), fin, sn_upto, sn_from, slN_def, run_cap, rules, rules2, loopRules, Try.facts, base0, Int.toNat_zero, Nat.reduceAdd, Nat.reduceMul, Nat.reduceSub, Nat.reduceLT, Nat.reduceLeDiff, Nat.reduceEqDiff, Int.reduceLE, Int.reduceLT, Int.reduceToNat, Int.reduceNe, Int.reduceEq, not_false_eq_true, Nat.reduceBEq, Nat.reduceDiv, Int.natCast_zero, Int.natCast_one, Int.reduceAdd, Int.reduceSub, reduceIte, ↓reduceIte, Value.oneCell', rowI_length, rowI_take, rowI_splice, rep_all, row_zero, le_nat, Int.toNat_natCast, Nat.zero_add, sok_row, reduceCtorEq]
        omega
  · simp only [sn_upto, sn_from, slN_def, run_cap, rules, rules2, loopRules, Try.facts, base0, Int.toNat_zero, Nat.reduceAdd, Nat.reduceMul, Nat.reduceSub, Nat.reduceLT, Nat.reduceLeDiff, Nat.reduceEqDiff, Int.reduceLE, Int.reduceLT, Int.reduceToNat, Int.reduceNe, Int.reduceEq, not_false_eq_true, Nat.reduceBEq, Nat.reduceDiv, Int.natCast_zero, Int.natCast_one, Int.reduceAdd, Int.reduceSub, reduceIte, ↓reduceIte, Value.oneCell', rowI_length, rowI_take, rowI_splice, rep_all, row_zero, le_nat, Int.toNat_natCast, Nat.zero_add, sok_row, reduceCtorEq]
    refine vcIf_no (by decide) ?_
    simp only [sn_upto, sn_from, slN_def, run_cap, rules, rules2, loopRules, Try.facts, base0, Int.toNat_zero, Nat.reduceAdd, Nat.reduceMul, Nat.reduceSub, Nat.reduceLT, Nat.reduceLeDiff, Nat.reduceEqDiff, Int.reduceLE, Int.reduceLT, Int.reduceToNat, Int.reduceNe, Int.reduceEq, not_false_eq_true, Nat.reduceBEq, Nat.reduceDiv, Int.natCast_zero, Int.natCast_one, Int.reduceAdd, Int.reduceSub, reduceIte, ↓reduceIte, Value.oneCell', rowI_length, rowI_take, rowI_splice, rep_all, row_zero, le_nat, Int.toNat_natCast, Nat.zero_add, sok_row, reduceCtorEq]
    by_cases hc : bor n 16 = 1
    · refine vcIf_yes (by simp [hc]) ?_
      simp only [sn_upto, sn_from, slN_def, run_cap, rules, rules2, loopRules, Try.facts, base0, Int.toNat_zero, Nat.reduceAdd, Nat.reduceMul, Nat.reduceSub, Nat.reduceLT, Nat.reduceLeDiff, Nat.reduceEqDiff, Int.reduceLE, Int.reduceLT, Int.reduceToNat, Int.reduceNe, Int.reduceEq, not_false_eq_true, Nat.reduceBEq, Nat.reduceDiv, Int.natCast_zero, Int.natCast_one, Int.reduceAdd, Int.reduceSub, reduceIte, ↓reduceIte, Value.oneCell', rowI_length, rowI_take, rowI_splice, rep_all, row_zero, le_nat, Int.toNat_natCast, Nat.zero_add, sok_row, reduceCtorEq]
      rw [lessN, if_pos hc]
    · refine vcIf_no (by simp [hc]) ?_
      simp only [sn_upto, sn_from, slN_def, run_cap, rules, rules2, loopRules, Try.facts, base0, Int.toNat_zero, Nat.reduceAdd, Nat.reduceMul, Nat.reduceSub, Nat.reduceLT, Nat.reduceLeDiff, Nat.reduceEqDiff, Int.reduceLE, Int.reduceLT, Int.reduceToNat, Int.reduceNe, Int.reduceEq, not_false_eq_true, Nat.reduceBEq, Nat.reduceDiv, Int.natCast_zero, Int.natCast_one, Int.reduceAdd, Int.reduceSub, reduceIte, ↓reduceIte, Value.oneCell', rowI_length, rowI_take, rowI_splice, rep_all, row_zero, le_nat, Int.toNat_natCast, Nat.zero_add, sok_row, reduceCtorEq]
      rw [lessN, if_neg hc, row_all]
/-! ### Bytes into digits -/
def dgt (K : Nat → Int) : Nat → Nat → Int
  | 0 => fun _ => 0
  | n + 1 => upd (dgt K n) (n / 2) (dgt K n (n / 2) + (if n % 2 = 0 then K n else 256 * K n))
theorem dgt_eq (K : Nat → Int) : ∀ n j, dgt K n j = (if 2 * j < n then K (2 * j) else 0) + (if 2 * j + 1 < n then 256 * K (2 * j + 1) else 0)
  | 0, j => by simp [dgt]
  | n + 1, j => by
    simp only [dgt, upd]
    by_cases hj : j = n / 2
    · subst hj
      rw [if_pos rfl, dgt_eq K n]
      by_cases hp : n % 2 = 0
      · have e : 2 * (n / 2) = n := by omega
        rw [if_pos hp, e, if_neg (by omega), if_neg (by omega), if_pos (by omega), if_neg (by omega)]; omega
      · have e : 2 * (n / 2) + 1 = n := by omega
        rw [if_neg hp, e, if_pos (by omega), if_neg (by omega), if_pos (by omega), if_pos (by omega)]; omega
    · rw [if_neg hj, dgt_eq K n]
      have a1 : (2 * j < n) = (2 * j < n + 1) := by apply propext; omega
      have a2 : (2 * j + 1 < n) = (2 * j + 1 < n + 1) := by apply propext; omega
      simp only [a1, a2]
theorem dgt_dig (K : Nat → Int) (hK : By K) (n : Nat) : Dig (dgt K n) := by
  intro j
  have h1 := hK (2 * j)
  have h2 := hK (2 * j + 1)
  rw [dgt_eq]; split <;> split <;> omega
theorem rem2 (t : Nat) : (t : Int).tmod 2 = ((t % 2 : Nat) : Int) := (Int.ofNat_tmod t 2).symm
theorem quo2 (t : Nat) (h : t < 9223372036854775808) : IntKind.i64.wrap ((t : Int).tdiv 2) = ((t / 2 : Nat) : Int) := quoN t 2 h
set_option maxHeartbeats 2000000 in
set_option maxRecDepth 20000 in
theorem digits_fun (K : Nat → Int) (hK : By K) : Fun Try.prog 21 [Ag (rowI .u8 32 K)] (Ag (rowI .u64 16 (dgt K 32))) := by
  refine fun_of_vc Try.func21 rfl (by kernel_rfl) (by simp [Try.ntmps21]) rfl rfl ?_
  simp only [Try.results21, sn_upto, sn_from, slN_def, run_cap, rules, rules2, loopRules, Try.facts, base0, Int.toNat_zero, Nat.reduceAdd, Nat.reduceMul, Nat.reduceSub, Nat.reduceLT, Nat.reduceLeDiff, Nat.reduceEqDiff, Int.reduceLE, Int.reduceLT, Int.reduceToNat, Int.reduceNe, Int.reduceEq, not_false_eq_true, Nat.reduceBEq, Nat.reduceDiv, Int.natCast_zero, Int.natCast_one, Int.reduceAdd, Int.reduceSub, reduceIte, ↓reduceIte, Value.oneCell', rowI_length, rowI_take, rowI_splice, rep_all, row_zero, le_nat, Int.toNat_natCast, Nat.zero_add, sok_row, reduceCtorEq]
  refine loop_count 32 (fun k => [(1, Ptr 0 0), (2, Ptr 1 0), (3, Ptr 2 0), (4, I .i64 k)])
    (fun k => [(0, ⟨true, rowI .u8 32 K⟩), (1, ⟨true, rowI .u64 16 (fun _ => 0)⟩), (2, ⟨true, rowI .u64 16 (dgt K k)⟩)]) _ ?_ ?_ ?_
  · simp only [sok_row, dgt, sn_upto, sn_from, slN_def, run_cap, rules, rules2, loopRules, Try.facts, base0, Int.toNat_zero, Nat.reduceAdd, Nat.reduceMul, Nat.reduceSub, Nat.reduceLT, Nat.reduceLeDiff, Nat.reduceEqDiff, Int.reduceLE, Int.reduceLT, Int.reduceToNat, Int.reduceNe, Int.reduceEq, not_false_eq_true, Nat.reduceBEq, Nat.reduceDiv, Int.natCast_zero, Int.natCast_one, Int.reduceAdd, Int.reduceSub, reduceIte, ↓reduceIte, Value.oneCell', rowI_length, rowI_take, rowI_splice, rep_all, row_zero, le_nat, Int.toNat_natCast, Nat.zero_add, sok_row, reduceCtorEq]
  · intro k hk
    have hl32 : ((k : Int) < 32) = True := lt_nat (m := 32) hk
    have hl16 : (((k / 2 : Nat) : Int) < 16) = True := lt_nat (m := 16) (by omega)
    have hb := hK k
    have hd := dgt_dig K hK k (k / 2)
    have w1 : IntKind.u64.wrap (K k) = K k := wrap_u64_in _ (by omega) (by omega)
    have w2 : IntKind.u64.wrap (256 * K k) = 256 * K k := wrap_u64_in _ (by omega) (by omega)
    have w3 : IntKind.u64.wrap (dgt K k (k / 2) + K k) = dgt K k (k / 2) + K k := wrap_u64_in _ (by omega) (by omega)
    have w4 : IntKind.u64.wrap (dgt K k (k / 2) + 256 * K k) = dgt K k (k / 2) + 256 * K k := wrap_u64_in _ (by omega) (by omega)
    simp only [sn_upto, sn_from, slN_def, run_cap, rules, rules2, loopRules, Try.facts, base0, Int.toNat_zero, Nat.reduceAdd, Nat.reduceMul, Nat.reduceSub, Nat.reduceLT, Nat.reduceLeDiff, Nat.reduceEqDiff, Int.reduceLE, Int.reduceLT, Int.reduceToNat, Int.reduceNe, Int.reduceEq, not_false_eq_true, Nat.reduceBEq, Nat.reduceDiv, Int.natCast_zero, Int.natCast_one, Int.reduceAdd, Int.reduceSub, reduceIte, ↓reduceIte, Value.oneCell', rowI_length, rowI_take, rowI_splice, rep_all, row_zero, le_nat, Int.toNat_natCast, Nat.zero_add, sok_row, reduceCtorEq]
    refine vcIf_yes (by simp; omega) ?_
    by_cases h2 : k % 2 = 0
    · have c2 : (((k % 2 : Nat) : Int) == 0) = true := by rw [h2]; rfl
      have e : dgt K (k + 1) = upd (dgt K k) (k / 2) (dgt K k (k / 2) + K k) := by rw [dgt, if_pos h2]
      simp only [rem2, c2, quo2 k (by omega), hl16, hl32, rowI_get .u8 32 K k hk, rowI_get .u64 16 _ (k / 2) (show k / 2 < 16 by omega), rowI_splice1 .u64 16 _ (k / 2) (show k / 2 < 16 by omega), w1, w3, wrapS k (by omega), e, sn_upto, sn_from, slN_def, run_cap, rules, rules2, loopRules, Try.facts, base0, Int.toNat_zero, Nat.reduceAdd, Nat.reduceMul, Nat.reduceSub, Nat.reduceLT, Nat.reduceLeDiff, Nat.reduceEqDiff, Int.reduceLE, Int.reduceLT, Int.reduceToNat, Int.reduceNe, Int.reduceEq, not_false_eq_true, Nat.reduceBEq, Nat.reduceDiv, Int.natCast_zero, Int.natCast_one, Int.reduceAdd, Int.reduceSub, reduceIte, ↓reduceIte, Value.oneCell', rowI_length, rowI_take, rowI_splice, rep_all, row_zero, le_nat, Int.toNat_natCast, Nat.zero_add, sok_row, reduceCtorEq]
      exact ⟨by kernel_rfl, by omega⟩
    · have c2 : (((k % 2 : Nat) : Int) == 0) = false := by rw [show k % 2 = 1 from by omega]; rfl
      have e : dgt K (k + 1) = upd (dgt K k) (k / 2) (dgt K k (k / 2) + 256 * K k) := by rw [dgt, if_neg h2]
      simp only [rem2, c2, quo2 k (by omega), hl16, hl32, rowI_get .u8 32 K k hk, rowI_get .u64 16 _ (k / 2) (show k / 2 < 16 by omega), rowI_splice1 .u64 16 _ (k / 2) (show k / 2 < 16 by omega), w1, w2, w4, wrapS k (by omega), e, sn_upto, sn_from, slN_def, run_cap, rules, rules2, loopRules, Try.facts, base0, Int.toNat_zero, Nat.reduceAdd, Nat.reduceMul, Nat.reduceSub, Nat.reduceLT, Nat.reduceLeDiff, Nat.reduceEqDiff, Int.reduceLE, Int.reduceLT, Int.reduceToNat, Int.reduceNe, Int.reduceEq, not_false_eq_true, Nat.reduceBEq, Nat.reduceDiv, Int.natCast_zero, Int.natCast_one, Int.reduceAdd, Int.reduceSub, reduceIte, ↓reduceIte, Value.oneCell', rowI_length, rowI_take, rowI_splice, rep_all, row_zero, le_nat, Int.toNat_natCast, Nat.zero_add, sok_row, reduceCtorEq]
      exact ⟨by kernel_rfl, by omega⟩
  · simp only [sn_upto, sn_from, slN_def, run_cap, rules, rules2, loopRules, Try.facts, base0, Int.toNat_zero, Nat.reduceAdd, Nat.reduceMul, Nat.reduceSub, Nat.reduceLT, Nat.reduceLeDiff, Nat.reduceEqDiff, Int.reduceLE, Int.reduceLT, Int.reduceToNat, Int.reduceNe, Int.reduceEq, not_false_eq_true, Nat.reduceBEq, Nat.reduceDiv, Int.natCast_zero, Int.natCast_one, Int.reduceAdd, Int.reduceSub, reduceIte, ↓reduceIte, Value.oneCell', rowI_length, rowI_take, rowI_splice, rep_all, row_zero, le_nat, Int.toNat_natCast, Nat.zero_add, sok_row, reduceCtorEq]
    refine vcIf_no (by decide) ?_
    simp only [sn_upto, sn_from, slN_def, run_cap, rules, rules2, loopRules, Try.facts, base0, Int.toNat_zero, Nat.reduceAdd, Nat.reduceMul, Nat.reduceSub, Nat.reduceLT, Nat.reduceLeDiff, Nat.reduceEqDiff, Int.reduceLE, Int.reduceLT, Int.reduceToNat, Int.reduceNe, Int.reduceEq, not_false_eq_true, Nat.reduceBEq, Nat.reduceDiv, Int.natCast_zero, Int.natCast_one, Int.reduceAdd, Int.reduceSub, reduceIte, ↓reduceIte, Value.oneCell', rowI_length, rowI_take, rowI_splice, rep_all, row_zero, le_nat, Int.toNat_natCast, Nat.zero_add, sok_row, reduceCtorEq]
/-! ### Digits into bytes -/
def lessK (n : Nat → Int) : Nat → Nat → Int
  | 0 => n
  | k + 1 => lessN (lessK n k)
theorem lessK_dig (n : Nat → Int) (h : Dig n) : ∀ k, Dig (lessK n k)
  | 0 => h
  | k + 1 => (lessN_spec _ (lessK_dig n h k)).1
def undB (m : Nat → Int) (i : Nat) : Int := (if i % 2 = 1 then m (i / 2) / 256 else m (i / 2)) % 256
set_option maxHeartbeats 2000000 in
set_option maxRecDepth 20000 in
theorem undigits_fun (n : Nat → Int) (h : Dig n) : Fun Try.prog 24 [Ag (rowI .u64 16 n)] (Ag (rowI .u8 32 (undB (lessK n 3)))) := by
  refine fun_of_vc Try.func24 rfl (by kernel_rfl) (by simp [Try.ntmps24]) rfl rfl ?_
  simp only [Try.results24, sn_upto, sn_from, slN_def, run_cap, rules, rules2, loopRules, Try.facts, base0, Int.toNat_zero, Nat.reduceAdd, Nat.reduceMul, Nat.reduceSub, Nat.reduceLT, Nat.reduceLeDiff, Nat.reduceEqDiff, Int.reduceLE, Int.reduceLT, Int.reduceToNat, Int.reduceNe, Int.reduceEq, not_false_eq_true, Nat.reduceBEq, Nat.reduceDiv, Int.natCast_zero, Int.natCast_one, Int.reduceAdd, Int.reduceSub, reduceIte, ↓reduceIte, Value.oneCell', rowI_length, rowI_take, rowI_splice, rep_all, row_zero, le_nat, Int.toNat_natCast, Nat.zero_add, sok_row, reduceCtorEq]
  refine loop_count 3 (fun k => [(1, Ptr 0 0), (2, Ptr 1 0), (3, I .i64 k)])
    (fun k => [(0, ⟨true, rowI .u64 16 (lessK n k)⟩), (1, ⟨true, rowI .u8 32 (fun _ => 0)⟩)]) _ ?_ ?_ ?_
  · simp only [sok_row, lessK, sn_upto, sn_from, slN_def, run_cap, rules, rules2, loopRules, Try.facts, base0, Int.toNat_zero, Nat.reduceAdd, Nat.reduceMul, Nat.reduceSub, Nat.reduceLT, Nat.reduceLeDiff, Nat.reduceEqDiff, Int.reduceLE, Int.reduceLT, Int.reduceToNat, Int.reduceNe, Int.reduceEq, not_false_eq_true, Nat.reduceBEq, Nat.reduceDiv, Int.natCast_zero, Int.natCast_one, Int.reduceAdd, Int.reduceSub, reduceIte, ↓reduceIte, Value.oneCell', rowI_length, rowI_take, rowI_splice, rep_all, row_zero, le_nat, Int.toNat_natCast, Nat.zero_add, sok_row, reduceCtorEq]
  · intro k hk
    simp only [sn_upto, sn_from, slN_def, run_cap, rules, rules2, loopRules, Try.facts, base0, Int.toNat_zero, Nat.reduceAdd, Nat.reduceMul, Nat.reduceSub, Nat.reduceLT, Nat.reduceLeDiff, Nat.reduceEqDiff, Int.reduceLE, Int.reduceLT, Int.reduceToNat, Int.reduceNe, Int.reduceEq, not_false_eq_true, Nat.reduceBEq, Nat.reduceDiv, Int.natCast_zero, Int.natCast_one, Int.reduceAdd, Int.reduceSub, reduceIte, ↓reduceIte, Value.oneCell', rowI_length, rowI_take, rowI_splice, rep_all, row_zero, le_nat, Int.toNat_natCast, Nat.zero_add, sok_row, reduceCtorEq]
    refine vcIf_yes (by simp; omega) ?_
    simp only [sn_upto, sn_from, slN_def, run_cap, rules, rules2, loopRules, Try.facts, base0, Int.toNat_zero, Nat.reduceAdd, Nat.reduceMul, Nat.reduceSub, Nat.reduceLT, Nat.reduceLeDiff, Nat.reduceEqDiff, Int.reduceLE, Int.reduceLT, Int.reduceToNat, Int.reduceNe, Int.reduceEq, not_false_eq_true, Nat.reduceBEq, Nat.reduceDiv, Int.natCast_zero, Int.natCast_one, Int.reduceAdd, Int.reduceSub, reduceIte, ↓reduceIte, Value.oneCell', rowI_length, rowI_take, rowI_splice, rep_all, row_zero, le_nat, Int.toNat_natCast, Nat.zero_add, sok_row, reduceCtorEq]
    refine (lessPrime_fun _ (lessK_dig n h k)).vcCall ?_
    simp only [wrapS k (by omega), sn_upto, sn_from, slN_def, run_cap, rules, rules2, loopRules, Try.facts, base0, Int.toNat_zero, Nat.reduceAdd, Nat.reduceMul, Nat.reduceSub, Nat.reduceLT, Nat.reduceLeDiff, Nat.reduceEqDiff, Int.reduceLE, Int.reduceLT, Int.reduceToNat, Int.reduceNe, Int.reduceEq, not_false_eq_true, Nat.reduceBEq, Nat.reduceDiv, Int.natCast_zero, Int.natCast_one, Int.reduceAdd, Int.reduceSub, reduceIte, ↓reduceIte, Value.oneCell', rowI_length, rowI_take, rowI_splice, rep_all, row_zero, le_nat, Int.toNat_natCast, Nat.zero_add, sok_row, reduceCtorEq]
    rfl
  · simp only [sn_upto, sn_from, slN_def, run_cap, rules, rules2, loopRules, Try.facts, base0, Int.toNat_zero, Nat.reduceAdd, Nat.reduceMul, Nat.reduceSub, Nat.reduceLT, Nat.reduceLeDiff, Nat.reduceEqDiff, Int.reduceLE, Int.reduceLT, Int.reduceToNat, Int.reduceNe, Int.reduceEq, not_false_eq_true, Nat.reduceBEq, Nat.reduceDiv, Int.natCast_zero, Int.natCast_one, Int.reduceAdd, Int.reduceSub, reduceIte, ↓reduceIte, Value.oneCell', rowI_length, rowI_take, rowI_splice, rep_all, row_zero, le_nat, Int.toNat_natCast, Nat.zero_add, sok_row, reduceCtorEq]
    refine vcIf_no (by decide) ?_
    have hd := lessK_dig n h 3
    generalize lessK n 3 = m at *
    simp only [sn_upto, sn_from, slN_def, run_cap, rules, rules2, loopRules, Try.facts, base0, Int.toNat_zero, Nat.reduceAdd, Nat.reduceMul, Nat.reduceSub, Nat.reduceLT, Nat.reduceLeDiff, Nat.reduceEqDiff, Int.reduceLE, Int.reduceLT, Int.reduceToNat, Int.reduceNe, Int.reduceEq, not_false_eq_true, Nat.reduceBEq, Nat.reduceDiv, Int.natCast_zero, Int.natCast_one, Int.reduceAdd, Int.reduceSub, reduceIte, ↓reduceIte, Value.oneCell', rowI_length, rowI_take, rowI_splice, rep_all, row_zero, le_nat, Int.toNat_natCast, Nat.zero_add, sok_row, reduceCtorEq]
    refine loop_count 32 (fun k => [(1, Ptr 0 0), (2, Ptr 1 0), (4, Ptr 5 0), (5, I .i64 k)])
      (fun k => [(0, ⟨true, rowI .u64 16 m⟩), (1, ⟨true, rowI .u8 32 (fun _ => 0)⟩), (5, ⟨true, rowI .u8 32 (fun i => if i < k then undB m i else 0)⟩)]) _ ?_ ?_ ?_
    · simp only [sok_row, Nat.not_lt_zero, if_false, sn_upto, sn_from, slN_def, run_cap, rules, rules2, loopRules, Try.facts, base0, Int.toNat_zero, Nat.reduceAdd, Nat.reduceMul, Nat.reduceSub, Nat.reduceLT, Nat.reduceLeDiff, Nat.reduceEqDiff, Int.reduceLE, Int.reduceLT, Int.reduceToNat, Int.reduceNe, Int.reduceEq, not_false_eq_true, Nat.reduceBEq, Nat.reduceDiv, Int.natCast_zero, Int.natCast_one, Int.reduceAdd, Int.reduceSub, reduceIte, ↓reduceIte, Value.oneCell', rowI_length, rowI_take, rowI_splice, rep_all, row_zero, le_nat, Int.toNat_natCast, Nat.zero_add, sok_row, reduceCtorEq]
    · intro k hk
      have hl32 : ((k : Int) < 32) = True := lt_nat (m := 32) hk
      have hl16 : (((k / 2 : Nat) : Int) < 16) = True := lt_nat (m := 16) (by omega)
      have hb := hd (k / 2)
      have fin : rowI .u8 32 (upd (fun i => if i < k then undB m i else 0) k (undB m k)) = rowI .u8 32 (fun i => if i < k + 1 then undB m i else 0) := row_upto
      have w1 : IntKind.u64.wrap ((m (k / 2)).tdiv 256) = m (k / 2) / 256 := by
        rw [Int.tdiv_eq_ediv_of_nonneg hb.1, wrap_u64_in _ (by omega) (by omega)]
      simp only [sn_upto, sn_from, slN_def, run_cap, rules, rules2, loopRules, Try.facts, base0, Int.toNat_zero, Nat.reduceAdd, Nat.reduceMul, Nat.reduceSub, Nat.reduceLT, Nat.reduceLeDiff, Nat.reduceEqDiff, Int.reduceLE, Int.reduceLT, Int.reduceToNat, Int.reduceNe, Int.reduceEq, not_false_eq_true, Nat.reduceBEq, Nat.reduceDiv, Int.natCast_zero, Int.natCast_one, Int.reduceAdd, Int.reduceSub, reduceIte, ↓reduceIte, Value.oneCell', rowI_length, rowI_take, rowI_splice, rep_all, row_zero, le_nat, Int.toNat_natCast, Nat.zero_add, sok_row, reduceCtorEq]
      refine vcIf_yes (by simp; omega) ?_
      by_cases h2 : k % 2 = 1
      · have c2 : (((k % 2 : Nat) : Int) == 1) = true := by rw [h2]; rfl
        have w2 : IntKind.u8.wrap ((m (k / 2) / 256).tmod 256) = undB m k := by
          rw [Int.tmod_eq_emod_of_nonneg (by omega), wrap_u8, undB, if_pos h2]; omega
        simp only [rem2, c2, quo2 k (by omega), hl16, hl32, rowI_get .u64 16 _ (k / 2) (show k / 2 < 16 by omega), rowI_splice1 .u8 32 _ k hk, w1, w2, wrapS k (by omega), fin, sn_upto, sn_from, slN_def, run_cap, rules, rules2, loopRules, Try.facts, base0, Int.toNat_zero, Nat.reduceAdd, Nat.reduceMul, Nat.reduceSub, Nat.reduceLT, Nat.reduceLeDiff, Nat.reduceEqDiff, Int.reduceLE, Int.reduceLT, Int.reduceToNat, Int.reduceNe, Int.reduceEq, not_false_eq_true, Nat.reduceBEq, Nat.reduceDiv, Int.natCast_zero, Int.natCast_one, Int.reduceAdd, Int.reduceSub, reduceIte, ↓reduceIte, Value.oneCell', rowI_length, rowI_take, rowI_splice, rep_all, row_zero, le_nat, Int.toNat_natCast, Nat.zero_add, sok_row, reduceCtorEq]
        omega
      · have c2 : (((k % 2 : Nat) : Int) == 1) = false := by rw [show k % 2 = 0 from by omega]; rfl
        have w2 : IntKind.u8.wrap ((m (k / 2)).tmod 256) = undB m k := by
          rw [Int.tmod_eq_emod_of_nonneg hb.1, wrap_u8, undB, if_neg h2]; omega
        simp only [rem2, c2, quo2 k (by omega), hl16, hl32, rowI_get .u64 16 _ (k / 2) (show k / 2 < 16 by omega), rowI_splice1 .u8 32 _ k hk, w2, wrapS k (by omega), fin, sn_upto, sn_from, slN_def, run_cap, rules, rules2, loopRules, Try.facts, base0, Int.toNat_zero, Nat.reduceAdd, Nat.reduceMul, Nat.reduceSub, Nat.reduceLT, Nat.reduceLeDiff, Nat.reduceEqDiff, Int.reduceLE, Int.reduceLT, Int.reduceToNat, Int.reduceNe, Int.reduceEq, not_false_eq_true, Nat.reduceBEq, Nat.reduceDiv, Int.natCast_zero, Int.natCast_one, Int.reduceAdd, Int.reduceSub, reduceIte, ↓reduceIte, Value.oneCell', rowI_length, rowI_take, rowI_splice, rep_all, row_zero, le_nat, Int.toNat_natCast, Nat.zero_add, sok_row, reduceCtorEq]
        omega
    · simp only [sn_upto, sn_from, slN_def, run_cap, rules, rules2, loopRules, Try.facts, base0, Int.toNat_zero, Nat.reduceAdd, Nat.reduceMul, Nat.reduceSub, Nat.reduceLT, Nat.reduceLeDiff, Nat.reduceEqDiff, Int.reduceLE, Int.reduceLT, Int.reduceToNat, Int.reduceNe, Int.reduceEq, not_false_eq_true, Nat.reduceBEq, Nat.reduceDiv, Int.natCast_zero, Int.natCast_one, Int.reduceAdd, Int.reduceSub, reduceIte, ↓reduceIte, Value.oneCell', rowI_length, rowI_take, rowI_splice, rep_all, row_zero, le_nat, Int.toNat_natCast, Nat.zero_add, sok_row, reduceCtorEq]
      refine vcIf_no (by decide) ?_
      simp only [row_all, sn_upto, sn_from, slN_def, run_cap, rules, rules2, loopRules, Try.facts, base0, Int.toNat_zero, Nat.reduceAdd, Nat.reduceMul, Nat.reduceSub, Nat.reduceLT, Nat.reduceLeDiff, Nat.reduceEqDiff, Int.reduceLE, Int.reduceLT, Int.reduceToNat, Int.reduceNe, Int.reduceEq, not_false_eq_true, Nat.reduceBEq, Nat.reduceDiv, Int.natCast_zero, Int.natCast_one, Int.reduceAdd, Int.reduceSub, reduceIte, ↓reduceIte, Value.oneCell', rowI_length, rowI_take, rowI_splice, rep_all, row_zero, le_nat, Int.toNat_natCast, Nat.zero_add, sok_row, reduceCtorEq]
/-! ### The document's X25519 -/
def topU (U : Nat → Int) : Nat → Int := upd U 31 (U 31 % 128)
theorem topU_by (U : Nat → Int) (h : By U) : By (topU U) := by
  intro i
  have := h i
  have := h 31
  simp only [topU, upd]; split <;> omega
def refB (K U : Nat → Int) : Nat → Int :=
  undB (lessK (timesN (rungN (clampK K) (dgt (topU U) 32) 255).a (fermN (rungN (clampK K) (dgt (topU U) 32) 255).b 255)) 3)
set_option maxHeartbeats 2000000 in
set_option maxRecDepth 20000 in
theorem refCurve_fun (K U : Nat → Int) (hK : By K) (hU : By U) : Fun Try.prog 7 [Ag (rowI .u8 32 K), Ag (rowI .u8 32 U)] (Ag (rowI .u8 32 (refB K U))) := by
  have k0 := hK 0
  have k31 := hK 31
  have u31 := hU 31
  have hC : rowI .u8 32 (upd (upd K 0 (K 0 - K 0 % 8)) 31 (K 31 % 64 + 64)) = rowI .u8 32 (clampK K) := rowI_congr fun i _ => by
    simp only [clampK, upd]
    by_cases h0 : i = 0
    · subst h0; simp
    · by_cases h1 : i = 31
      · subst h1; simp
      · simp [h0, h1]
  have w1 : IntKind.u8.wrap (K 0 - K 0 % 8) = K 0 - K 0 % 8 := wrap_u8_in _ (by omega) (by omega)
  have w2 : IntKind.u8.wrap (K 31 % 64 + 64) = K 31 % 64 + 64 := wrap_u8_in _ (by omega) (by omega)
  have t1 : (K 0).tmod 8 = K 0 % 8 := Int.tmod_eq_emod_of_nonneg k0.1
  have t2 : (K 31).tmod 64 = K 31 % 64 := Int.tmod_eq_emod_of_nonneg k31.1
  have t3 : (U 31).tmod 128 = U 31 % 128 := Int.tmod_eq_emod_of_nonneg u31.1
  have u1 : upd K 0 (K 0 - K 0 % 8) 31 = K 31 := by simp [upd]
  have hu := dgt_dig _ (topU_by U hU) 32
  have hr := rungN_dig (clampK K) _ hu 255
  have hf := fermN_dig _ hr.b 255
  have hrf := rungs_fun (clampK K) _ (clampK_by K hK) hu 255 (by decide)
  have hff := fermat_fun _ hr.b 255 (by decide)
  simp only [N4.l] at hrf
  refine fun_of_vc Try.func7 rfl (by kernel_rfl) (by simp [Try.ntmps7]) rfl rfl ?_
  simp only [Try.results7, rowI_get .u8 32 _ 0 (show 0 < 32 by omega), rowI_get .u8 32 _ 31 (show 31 < 32 by omega), rowI_splice1 .u8 32 _ 0 (show 0 < 32 by omega), rowI_splice1 .u8 32 _ 31 (show 31 < 32 by omega), t1, t2, t3, w1, w2, u1, hC, R64_length, R64_take, R64_0, R64_1, R64_2, R64_3, R64_z, R64_s, R64_s0, R64_s1, R64_s2, R64_s3, row_zero2, R64_sok, sn_upto, sn_from, slN_def, run_cap, rules, rules2, loopRules, Try.facts, base0, Int.toNat_zero, Nat.reduceAdd, Nat.reduceMul, Nat.reduceSub, Nat.reduceLT, Nat.reduceLeDiff, Nat.reduceEqDiff, Int.reduceLE, Int.reduceLT, Int.reduceToNat, Int.reduceNe, Int.reduceEq, not_false_eq_true, Nat.reduceBEq, Nat.reduceDiv, Int.natCast_zero, Int.natCast_one, Int.reduceAdd, Int.reduceSub, reduceIte, ↓reduceIte, Value.oneCell', rowI_length, rowI_take, rowI_splice, rep_all, row_zero, le_nat, Int.toNat_natCast, Nat.zero_add, sok_row, reduceCtorEq]
  refine (digits_fun _ (topU_by U hU)).vcCall ?_
  simp only [R64_length, R64_take, R64_0, R64_1, R64_2, R64_3, R64_z, R64_s, R64_s0, R64_s1, R64_s2, R64_s3, row_zero2, R64_sok, sn_upto, sn_from, slN_def, run_cap, rules, rules2, loopRules, Try.facts, base0, Int.toNat_zero, Nat.reduceAdd, Nat.reduceMul, Nat.reduceSub, Nat.reduceLT, Nat.reduceLeDiff, Nat.reduceEqDiff, Int.reduceLE, Int.reduceLT, Int.reduceToNat, Int.reduceNe, Int.reduceEq, not_false_eq_true, Nat.reduceBEq, Nat.reduceDiv, Int.natCast_zero, Int.natCast_one, Int.reduceAdd, Int.reduceSub, reduceIte, ↓reduceIte, Value.oneCell', rowI_length, rowI_take, rowI_splice, rep_all, row_zero, le_nat, Int.toNat_natCast, Nat.zero_add, sok_row, reduceCtorEq]
  refine hrf.vcCall ?_
  simp only [R64_length, R64_take, R64_0, R64_1, R64_2, R64_3, R64_z, R64_s, R64_s0, R64_s1, R64_s2, R64_s3, row_zero2, R64_sok, sn_upto, sn_from, slN_def, run_cap, rules, rules2, loopRules, Try.facts, base0, Int.toNat_zero, Nat.reduceAdd, Nat.reduceMul, Nat.reduceSub, Nat.reduceLT, Nat.reduceLeDiff, Nat.reduceEqDiff, Int.reduceLE, Int.reduceLT, Int.reduceToNat, Int.reduceNe, Int.reduceEq, not_false_eq_true, Nat.reduceBEq, Nat.reduceDiv, Int.natCast_zero, Int.natCast_one, Int.reduceAdd, Int.reduceSub, reduceIte, ↓reduceIte, Value.oneCell', rowI_length, rowI_take, rowI_splice, rep_all, row_zero, le_nat, Int.toNat_natCast, Nat.zero_add, sok_row, reduceCtorEq]
  refine hff.vcCall ?_
  simp only [R64_length, R64_take, R64_0, R64_1, R64_2, R64_3, R64_z, R64_s, R64_s0, R64_s1, R64_s2, R64_s3, row_zero2, R64_sok, sn_upto, sn_from, slN_def, run_cap, rules, rules2, loopRules, Try.facts, base0, Int.toNat_zero, Nat.reduceAdd, Nat.reduceMul, Nat.reduceSub, Nat.reduceLT, Nat.reduceLeDiff, Nat.reduceEqDiff, Int.reduceLE, Int.reduceLT, Int.reduceToNat, Int.reduceNe, Int.reduceEq, not_false_eq_true, Nat.reduceBEq, Nat.reduceDiv, Int.natCast_zero, Int.natCast_one, Int.reduceAdd, Int.reduceSub, reduceIte, ↓reduceIte, Value.oneCell', rowI_length, rowI_take, rowI_splice, rep_all, row_zero, le_nat, Int.toNat_natCast, Nat.zero_add, sok_row, reduceCtorEq]
  refine (times_fun _ _ hr.a hf).vcCall ?_
  simp only [R64_length, R64_take, R64_0, R64_1, R64_2, R64_3, R64_z, R64_s, R64_s0, R64_s1, R64_s2, R64_s3, row_zero2, R64_sok, sn_upto, sn_from, slN_def, run_cap, rules, rules2, loopRules, Try.facts, base0, Int.toNat_zero, Nat.reduceAdd, Nat.reduceMul, Nat.reduceSub, Nat.reduceLT, Nat.reduceLeDiff, Nat.reduceEqDiff, Int.reduceLE, Int.reduceLT, Int.reduceToNat, Int.reduceNe, Int.reduceEq, not_false_eq_true, Nat.reduceBEq, Nat.reduceDiv, Int.natCast_zero, Int.natCast_one, Int.reduceAdd, Int.reduceSub, reduceIte, ↓reduceIte, Value.oneCell', rowI_length, rowI_take, rowI_splice, rep_all, row_zero, le_nat, Int.toNat_natCast, Nat.zero_add, sok_row, reduceCtorEq]
  refine (undigits_fun _ (timesN_dig hr.a hf)).vcCall ?_
  simp only [R64_length, R64_take, R64_0, R64_1, R64_2, R64_3, R64_z, R64_s, R64_s0, R64_s1, R64_s2, R64_s3, row_zero2, R64_sok, sn_upto, sn_from, slN_def, run_cap, rules, rules2, loopRules, Try.facts, base0, Int.toNat_zero, Nat.reduceAdd, Nat.reduceMul, Nat.reduceSub, Nat.reduceLT, Nat.reduceLeDiff, Nat.reduceEqDiff, Int.reduceLE, Int.reduceLT, Int.reduceToNat, Int.reduceNe, Int.reduceEq, not_false_eq_true, Nat.reduceBEq, Nat.reduceDiv, Int.natCast_zero, Int.natCast_one, Int.reduceAdd, Int.reduceSub, reduceIte, ↓reduceIte, Value.oneCell', rowI_length, rowI_take, rowI_splice, rep_all, row_zero, le_nat, Int.toNat_natCast, Nat.zero_add, sok_row, reduceCtorEq]
  rfl
end Go.Proofs.Ytpplfckcblaoiaa
