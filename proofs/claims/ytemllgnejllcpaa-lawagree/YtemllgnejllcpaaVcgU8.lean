/-
  Functions of the program and numbers that they reckon.
-/
import Derived.Test.YtemllgnejllcpaaVcgU7
set_option linter.unusedVariables false
set_option linter.unusedSimpArgs false
namespace Go.Proofs.Ytemllgnejllcpaa
open Go.Vcg
def fieldW (W : Nat → Int) : F5 := ⟨W 0 % 2251799813685248, W 1 % 274877906944 * 8192 + W 0 / 2251799813685248, W 2 % 33554432 * 67108864 + W 1 / 274877906944, W 3 % 4096 * 549755813888 + W 2 / 33554432, W 3 / 4096 % 2251799813685248⟩
theorem fieldW_ok (W : Nat → Int) (h : ∀ j, 0 ≤ W j ∧ W j < 18446744073709551616) : (fieldW W).Ok := by
  have h0 := h 0
  have h1 := h 1
  have h2 := h 2
  have h3 := h 3
  constructor <;> simp only [fieldW] <;> constructor <;> omega
theorem or_comm64 (x y : Int) (hx : 0 ≤ x) (hx' : x < 18446744073709551616) (hy : 0 ≤ y) (hy' : y < 18446744073709551616) : bitI .or .u64 x y = bitI .or .u64 y x := by
  obtain ⟨a, rfl⟩ := Int.eq_ofNat_of_zero_le hx
  obtain ⟨b, rfl⟩ := Int.eq_ofNat_of_zero_le hy
  rw [(bitI_u64 a b (by omega) (by omega)).2.1, (bitI_u64 b a (by omega) (by omega)).2.1, Nat.or_comm]
theorem or_step (a b : Int) (n : Nat) (hn : n < 64) (ha : 0 ≤ a) (ha' : a < 2 ^ n) (hb : 0 ≤ b) (hb' : b * 2 ^ n < 18446744073709551616) : bitI .or .u64 a (b * 2 ^ n) = a + b * 2 ^ n := by
  have hp : (0 : Int) < 2 ^ n := Int.pow_pos (by decide)
  have hm : (2 : Int) ^ n ≤ 18446744073709551616 := by
    have : 2 ^ n ≤ 2 ^ 64 := Nat.pow_le_pow_right (by decide) (Nat.le_of_lt hn)
    have e : (2 : Int) ^ n = ((2 ^ n : Nat) : Int) := by simp
    omega
  have h0 : 0 ≤ b * 2 ^ n := Int.mul_nonneg hb (Int.le_of_lt hp)
  rw [or_comm64 _ _ ha (by omega) h0 hb', or_add b a n hn hb hb' ha ha', Int.add_comm]
/-- Joining the top of a word with the foot of the next. -/
theorem join (a b : Int) (n m : Nat) (h : n + m = 64) (hn : n < 64) (N M : Int) (hN : (2 : Int) ^ n = N) (hM : (2 : Int) ^ m = M) (ha : 0 ≤ a) (ha' : a < 18446744073709551616) (hb : 0 ≤ b) (hb' : b < 18446744073709551616) :
    bitI .or .u64 (a / M) (b * N % 18446744073709551616) = b % M * N + a / M := by
  have hNM : N * M = 18446744073709551616 := by rw [← hN, ← hM, ← Int.pow_add, h]; rfl
  have hM0 : 0 < M := by rw [← hM]; exact Int.pow_pos (by decide)
  have hN0 : 0 < N := by rw [← hN]; exact Int.pow_pos (by decide)
  have e : b * N % 18446744073709551616 = b % M * N := by rw [← hNM, Int.mul_comm b N, Int.mul_emod_mul_of_pos _ _ hN0, Int.mul_comm]
  have hbm := Int.emod_nonneg b (Int.ne_of_gt hM0)
  have hbl := Int.emod_lt_of_pos b hM0
  have hle : b % M * N < 18446744073709551616 := by rw [← hNM, Int.mul_comm N M]; exact Int.mul_lt_mul_of_pos_right hbl hN0
  have hd : a / M < N := Int.ediv_lt_of_lt_mul hM0 (by rw [hNM]; exact ha')
  rw [e, ← hN, or_step (a / M) (b % M) n hn (Int.ediv_nonneg ha (Int.le_of_lt hM0)) (by rw [hN]; exact hd) hbm (by rw [hN]; exact hle), Int.add_comm]
theorem shr64 (x : Int) (n : Nat) (h : n ≤ 64) : shrI .u64 x (n : Int) = x / 2 ^ n := shrI_eq .u64 x n h
theorem shl64 (x : Int) (n : Nat) (h : n ≤ 64) : shlI .u64 x (n : Int) = x * 2 ^ n % 18446744073709551616 := (shlI_eq .u64 x n h).trans (wrap_u64 _)
theorem wrapN (n : Nat) (h : n < 9223372036854775808) : IntKind.i64.wrap ((n : Int)) = (n : Int) := wrap_i64 _ (by omega) (by omega)
theorem wrapS (n : Nat) (h : n < 9223372036854775807) : IntKind.i64.wrap ((n : Int) + 1) = ((n + 1 : Nat) : Int) := wrap_i64 _ (by omega) (by omega)
set_option maxHeartbeats 2000000 in
set_option maxRecDepth 20000 in
theorem fieldOf_fun (K : Nat → Int) (hK : By K) : Fun Try.prog 8 [Ag (rowI .u8 32 K)] (Ag (fieldW (wrd K 32)).l) := by
  refine fun_of_vc Try.func8 rfl (by kernel_rfl) (by simp [Try.ntmps8]) rfl rfl ?_
  simp only [Try.results8, sn_upto, sn_from, slN_def, run_cap, rules, rules2, loopRules, Try.facts, base0, Int.toNat_zero, Nat.reduceAdd, Nat.reduceMul, Nat.reduceSub, Nat.reduceLT, Nat.reduceLeDiff, Nat.reduceEqDiff, Int.reduceLE, Int.reduceLT, Int.reduceToNat, Int.reduceNe, Int.reduceEq, not_false_eq_true, Nat.reduceBEq, Nat.reduceDiv, Int.natCast_zero, Int.natCast_one, Int.reduceAdd, Int.reduceSub, reduceIte, ↓reduceIte, Value.oneCell', rowI_length, rowI_take, rowI_splice, rep_all, row_zero, le_nat, Int.toNat_natCast, Nat.zero_add, sok_row, reduceCtorEq]
  refine loop_count 32 (fun k => [(2, Ptr 1 0), (3, Ptr 2 0), (6, Ag (rowI .u8 32 K)), (7, I .i64 k)])
    (fun k => [(1, ⟨true, [Sum.inl (Value.int IntKind.u64 0), Sum.inl (Value.int IntKind.u64 0), Sum.inl (Value.int IntKind.u64 0), Sum.inl (Value.int IntKind.u64 0), Sum.inl (Value.int IntKind.u64 0)]⟩), (2, ⟨true, rowI .u64 4 (wrd K k)⟩)]) _ ?_ ?_ ?_
  · simp only [sok_row, wrd, sn_upto, sn_from, slN_def, run_cap, rules, rules2, loopRules, Try.facts, base0, Int.toNat_zero, Nat.reduceAdd, Nat.reduceMul, Nat.reduceSub, Nat.reduceLT, Nat.reduceLeDiff, Nat.reduceEqDiff, Int.reduceLE, Int.reduceLT, Int.reduceToNat, Int.reduceNe, Int.reduceEq, not_false_eq_true, Nat.reduceBEq, Nat.reduceDiv, Int.natCast_zero, Int.natCast_one, Int.reduceAdd, Int.reduceSub, reduceIte, ↓reduceIte, Value.oneCell', rowI_length, rowI_take, rowI_splice, rep_all, row_zero, le_nat, Int.toNat_natCast, Nat.zero_add, sok_row, reduceCtorEq]
    rfl
  · intro k hk
    have hkk := hK k
    have hb := wrd_bd K hK k
    have hb1 := wrd_bd K hK (k + 1)
    have hm : k % 8 < 8 := Nat.mod_lt _ (by decide)
    have hq := quo8 k (by omega)
    have hmul : IntKind.i64.wrap (((k % 8 : Nat) : Int) * 8) = ((k % 8 * 8 : Nat) : Int) := by rw [wrap_i64 _ (by omega) (by omega)]; omega
    have hu : IntKind.u64.wrap (K k) = K k := wrap_u64_in _ (by omega) (by omega)
    have hv : K k * 2 ^ (k % 8 * 8) < 18446744073709551616 ∧ 0 ≤ K k * 2 ^ (k % 8 * 8) := by
      have h := (hb1.1 (k / 8)).2.2
      have h' := (hb.1 (k / 8)).1
      have hb0 : 0 ≤ K k * 2 ^ (k % 8 * 8) := Int.mul_nonneg hkk.1 (Int.le_of_lt (Int.pow_pos (by decide)))
      simp only [wrd, upd, if_true] at h
      omega
    have hsh : shlI .u64 (K k) ((k % 8 * 8 : Nat) : Int) = K k * 2 ^ (k % 8 * 8) := by
      rw [shl64 _ _ (by omega)]; omega
    have hor := or_step (wrd K k (k / 8)) (K k) (k % 8 * 8) (by omega) (hb.1 (k / 8)).1 hb.2 hkk.1 hv.1
    have hl4 : (((k / 8 : Nat) : Int) < 4) = True := lt_nat (m := 4) (by omega)
    have hl32 : ((k : Int) < 32) = True := lt_nat (m := 32) hk
    simp only [sn_upto, sn_from, slN_def, run_cap, rules, rules2, loopRules, Try.facts, base0, Int.toNat_zero, Nat.reduceAdd, Nat.reduceMul, Nat.reduceSub, Nat.reduceLT, Nat.reduceLeDiff, Nat.reduceEqDiff, Int.reduceLE, Int.reduceLT, Int.reduceToNat, Int.reduceNe, Int.reduceEq, not_false_eq_true, Nat.reduceBEq, Nat.reduceDiv, Int.natCast_zero, Int.natCast_one, Int.reduceAdd, Int.reduceSub, reduceIte, ↓reduceIte, Value.oneCell', rowI_length, rowI_take, rowI_splice, rep_all, row_zero, le_nat, Int.toNat_natCast, Nat.zero_add, sok_row, reduceCtorEq]
    refine vcIf_yes (by simp; omega) ?_
    simp only [hl32, rowI_get .u8 32 K k hk, hq, rem8, hmul, hu, hsh, hl4, rowI_get .u64 4 _ (k / 8) (by omega), rowI_splice1 .u64 4 _ (k / 8) (by omega), hor, wrapS k (by omega), sn_upto, sn_from, slN_def, run_cap, rules, rules2, loopRules, Try.facts, base0, Int.toNat_zero, Nat.reduceAdd, Nat.reduceMul, Nat.reduceSub, Nat.reduceLT, Nat.reduceLeDiff, Nat.reduceEqDiff, Int.reduceLE, Int.reduceLT, Int.reduceToNat, Int.reduceNe, Int.reduceEq, not_false_eq_true, Nat.reduceBEq, Nat.reduceDiv, Int.natCast_zero, Int.natCast_one, Int.reduceAdd, Int.reduceSub, reduceIte, ↓reduceIte, Value.oneCell', rowI_length, rowI_take, rowI_splice, rep_all, row_zero, le_nat, Int.toNat_natCast, Nat.zero_add, sok_row, reduceCtorEq]
    exact ⟨by kernel_rfl, by omega, rfl⟩
  · simp only [sn_upto, sn_from, slN_def, run_cap, rules, rules2, loopRules, Try.facts, base0, Int.toNat_zero, Nat.reduceAdd, Nat.reduceMul, Nat.reduceSub, Nat.reduceLT, Nat.reduceLeDiff, Nat.reduceEqDiff, Int.reduceLE, Int.reduceLT, Int.reduceToNat, Int.reduceNe, Int.reduceEq, not_false_eq_true, Nat.reduceBEq, Nat.reduceDiv, Int.natCast_zero, Int.natCast_one, Int.reduceAdd, Int.reduceSub, reduceIte, ↓reduceIte, Value.oneCell', rowI_length, rowI_take, rowI_splice, rep_all, row_zero, le_nat, Int.toNat_natCast, Nat.zero_add, sok_row, reduceCtorEq]
    refine vcIf_no (by decide) ?_
    have hb := (wrd_bd K hK 32).1
    generalize wrd K 32 = W at *
    have h0 := hb 0
    have h1 := hb 1
    have h2 := hb 2
    have h3 := hb 3
    have j1 := join (W 0) (W 1) 13 51 rfl (by decide) 8192 2251799813685248 rfl rfl h0.1 h0.2.2 h1.1 h1.2.2
    have j2 := join (W 1) (W 2) 26 38 rfl (by decide) 67108864 274877906944 rfl rfl h1.1 h1.2.2 h2.1 h2.2.2
    have j3 := join (W 2) (W 3) 39 25 rfl (by decide) 549755813888 33554432 rfl rfl h2.1 h2.2.2 h3.1 h3.2.2
    simp only [rowI_get .u64 4 _ 0 (by omega), rowI_get .u64 4 _ 1 (by omega), rowI_get .u64 4 _ 2 (by omega), rowI_get .u64 4 _ 3 (by omega), rowI_length, sn_upto, sn_from, slN_def, run_cap, rules, rules2, loopRules, Try.facts, base0, Int.toNat_zero, Nat.reduceAdd, Nat.reduceMul, Nat.reduceSub, Nat.reduceLT, Nat.reduceLeDiff, Nat.reduceEqDiff, Int.reduceLE, Int.reduceLT, Int.reduceToNat, Int.reduceNe, Int.reduceEq, not_false_eq_true, Nat.reduceBEq, Nat.reduceDiv, Int.natCast_zero, Int.natCast_one, Int.reduceAdd, Int.reduceSub, reduceIte, ↓reduceIte, Value.oneCell', splice, reduceCtorEq]
    rw [show shlI .u64 (W 1) 13 = W 1 * 8192 % 18446744073709551616 from shl64 _ 13 (by decide), show shlI .u64 (W 2) 26 = W 2 * 67108864 % 18446744073709551616 from shl64 _ 26 (by decide), show shlI .u64 (W 3) 39 = W 3 * 549755813888 % 18446744073709551616 from shl64 _ 39 (by decide),
      show shrI .u64 (W 0) 51 = W 0 / 2251799813685248 from shr64 _ 51 (by decide), show shrI .u64 (W 1) 38 = W 1 / 274877906944 from shr64 _ 38 (by decide), show shrI .u64 (W 2) 25 = W 2 / 33554432 from shr64 _ 25 (by decide), show shrI .u64 (W 3) 12 = W 3 / 4096 from shr64 _ 12 (by decide), j1, j2, j3,
      and51 _ h0.1 h0.2.2, and51 _ (by omega) (by omega), and51 _ (by omega) (by omega), and51 _ (by omega) (by omega), and51 _ (by omega) (by omega)]
    rw [show (W 1 % 2251799813685248 * 8192 + W 0 / 2251799813685248) % 2251799813685248 = W 1 % 274877906944 * 8192 + W 0 / 2251799813685248 from by omega,
      show (W 2 % 274877906944 * 67108864 + W 1 / 274877906944) % 2251799813685248 = W 2 % 33554432 * 67108864 + W 1 / 274877906944 from by omega,
      show (W 3 % 33554432 * 549755813888 + W 2 / 33554432) % 2251799813685248 = W 3 % 4096 * 549755813888 + W 2 / 33554432 from by omega]
    rfl
end Go.Proofs.Ytemllgnejllcpaa
