/-
  Functions of the program and numbers that they reckon.
-/
import Derived.Test.YtemllgnejllcpaaVcgU9
set_option linter.unusedVariables false
set_option linter.unusedSimpArgs false
namespace Go.Proofs.Ytemllgnejllcpaa
open Go.Vcg
/-! ### Limbs into bytes -/
def keyW (g : F5) : Nat → Int
  | 0 => g.a0 + g.a1 * 2251799813685248 % 18446744073709551616
  | 1 => g.a1 / 8192 + g.a2 * 274877906944 % 18446744073709551616
  | 2 => g.a2 / 67108864 + g.a3 * 33554432 % 18446744073709551616
  | _ => g.a3 / 549755813888 + g.a4 * 4096 % 18446744073709551616
def byteW (W : Nat → Int) (i : Nat) : Int := W (i / 8) / 2 ^ (i % 8 * 8) % 256
theorem join2 (x b : Int) (n m : Nat) (h : n + m = 64) (hn : n < 64) (N M : Int) (hN : (2 : Int) ^ n = N) (hM : (2 : Int) ^ m = M) (hx : 0 ≤ x) (hx' : x < N) :
    bitI .or .u64 x (b * N % 18446744073709551616) = x + b * N % 18446744073709551616 := by
  have hNM : N * M = 18446744073709551616 := by rw [← hN, ← hM, ← Int.pow_add, h]; rfl
  have hM0 : 0 < M := by rw [← hM]; exact Int.pow_pos (by decide)
  have hN0 : 0 < N := by rw [← hN]; exact Int.pow_pos (by decide)
  have e : b * N % 18446744073709551616 = b % M * N := by rw [← hNM, Int.mul_comm b N, Int.mul_emod_mul_of_pos _ _ hN0, Int.mul_comm]
  have hbm := Int.emod_nonneg b (Int.ne_of_gt hM0)
  have hbl := Int.emod_lt_of_pos b hM0
  have hle : b % M * N < 18446744073709551616 := by rw [← hNM, Int.mul_comm N M]; exact Int.mul_lt_mul_of_pos_right hbl hN0
  rw [e, ← hN, or_step x (b % M) n hn hx (by rw [hN]; exact hx') hbm (by rw [hN]; exact hle)]
theorem keyW_bd (g : F5) (h0 : 0 ≤ g.a0 ∧ g.a0 < 2251799813685248) (h1 : 0 ≤ g.a1 ∧ g.a1 < 2251799813685248) (h2 : 0 ≤ g.a2 ∧ g.a2 < 2251799813685248) (h3 : 0 ≤ g.a3 ∧ g.a3 < 2251799813685248) (h4 : 0 ≤ g.a4 ∧ g.a4 < 2251799813685248) :
    ∀ j, 0 ≤ keyW g j ∧ keyW g j < 18446744073709551616
  | 0 => by simp only [keyW]; omega
  | 1 => by simp only [keyW]; omega
  | 2 => by simp only [keyW]; omega
  | _ + 3 => by simp only [keyW]; omega
theorem keyW_val (g : F5) (h0 : 0 ≤ g.a0 ∧ g.a0 < 2251799813685248) (h1 : 0 ≤ g.a1 ∧ g.a1 < 2251799813685248) (h2 : 0 ≤ g.a2 ∧ g.a2 < 2251799813685248) (h3 : 0 ≤ g.a3 ∧ g.a3 < 2251799813685248) (h4 : 0 ≤ g.a4 ∧ g.a4 < 2251799813685248) :
    g.v = keyW g 0 + 18446744073709551616 * keyW g 1 + 340282366920938463463374607431768211456 * keyW g 2 + 6277101735386680763835789423207666416102355444464034512896 * keyW g 3 := by
  simp only [keyW, F5.v]; omega
theorem row_upto {k : IntKind} {n m : Nat} {f : Nat → Int} : rowI k n (upd (fun i => if i < m then f i else 0) m (f m)) = rowI k n (fun i => if i < m + 1 then f i else 0) := by
  refine rowI_congr fun i _ => ?_
  simp only [upd]
  by_cases h : i = m
  · subst h; simp
  · rw [if_neg h]
    by_cases h2 : i < m
    · rw [if_pos h2, if_pos (by omega)]
    · rw [if_neg h2, if_neg (by omega)]
set_option maxHeartbeats 2000000 in
set_option maxRecDepth 20000 in
theorem keyOf_fun (f : F5) (hf : f.Ok) : Fun Try.prog 5 [Ag f.l] (Ag (rowI .u8 32 (byteW (keyW (redF f))))) := by
  refine fun_of_vc Try.func5 rfl (by kernel_rfl) (by simp [Try.ntmps5]) rfl rfl ?_
  simp only [F5.l, Try.results5, rowI_length, rep_all, row_zero, sn_upto, sn_from, slN_def, run_cap, rules, rules2, loopRules, Try.facts, base0, Int.toNat_zero, Nat.reduceAdd, Nat.reduceMul, Nat.reduceSub, Nat.reduceLT, Nat.reduceLeDiff, Nat.reduceEqDiff, Int.reduceLE, Int.reduceLT, Int.reduceToNat, Int.reduceNe, Int.reduceEq, not_false_eq_true, Nat.reduceBEq, Nat.reduceDiv, Int.natCast_zero, Int.natCast_one, Int.reduceAdd, Int.reduceSub, reduceIte, ↓reduceIte, Value.oneCell', splice, reduceCtorEq]
  refine (reduced_fun f hf).vcCall ?_
  obtain ⟨_, h0, h1, h2, h3, h4⟩ := redF_val f hf
  generalize redF f = g at *
  have j0 := join2 g.a0 g.a1 51 13 rfl (by decide) 2251799813685248 8192 rfl rfl h0.1 h0.2
  have j1 := join2 (g.a1 / 8192) g.a2 38 26 rfl (by decide) 274877906944 67108864 rfl rfl (by omega) (by omega)
  have j2 := join2 (g.a2 / 67108864) g.a3 25 39 rfl (by decide) 33554432 549755813888 rfl rfl (by omega) (by omega)
  have j3 := join2 (g.a3 / 549755813888) g.a4 12 52 rfl (by decide) 4096 4503599627370496 rfl rfl (by omega) (by omega)
  simp only [F5.l, rowI_length, rep_all, row_zero, show shlI .u64 g.a1 51 = g.a1 * 2251799813685248 % 18446744073709551616 from shl64 _ 51 (by decide), show shlI .u64 g.a2 38 = g.a2 * 274877906944 % 18446744073709551616 from shl64 _ 38 (by decide), show shlI .u64 g.a3 25 = g.a3 * 33554432 % 18446744073709551616 from shl64 _ 25 (by decide), show shlI .u64 g.a4 12 = g.a4 * 4096 % 18446744073709551616 from shl64 _ 12 (by decide),
    show shrI .u64 g.a1 13 = g.a1 / 8192 from shr64 _ 13 (by decide), show shrI .u64 g.a2 26 = g.a2 / 67108864 from shr64 _ 26 (by decide), show shrI .u64 g.a3 39 = g.a3 / 549755813888 from shr64 _ 39 (by decide), j0, j1, j2, j3, sn_upto, sn_from, slN_def, run_cap, rules, rules2, loopRules, Try.facts, base0, Int.toNat_zero, Nat.reduceAdd, Nat.reduceMul, Nat.reduceSub, Nat.reduceLT, Nat.reduceLeDiff, Nat.reduceEqDiff, Int.reduceLE, Int.reduceLT, Int.reduceToNat, Int.reduceNe, Int.reduceEq, not_false_eq_true, Nat.reduceBEq, Nat.reduceDiv, Int.natCast_zero, Int.natCast_one, Int.reduceAdd, Int.reduceSub, reduceIte, ↓reduceIte, Value.oneCell', splice, reduceCtorEq]
  refine loop_count 32 (fun k => [(2, Ptr 1 0), (3, Ptr 33 0), (4, Ptr 35 0), (36, I .i64 k)])
    (fun k => [(1, ⟨true, rowI .u8 32 (fun _ => 0)⟩), (33, ⟨true, rowI .u64 4 (keyW g)⟩), (35, ⟨true, rowI .u8 32 (fun i => if i < k then byteW (keyW g) i else 0)⟩)]) _ ?_ ?_ ?_
  · simp only [sok_row, sn_upto, sn_from, slN_def, run_cap, rules, rules2, loopRules, Try.facts, base0, Int.toNat_zero, Nat.reduceAdd, Nat.reduceMul, Nat.reduceSub, Nat.reduceLT, Nat.reduceLeDiff, Nat.reduceEqDiff, Int.reduceLE, Int.reduceLT, Int.reduceToNat, Int.reduceNe, Int.reduceEq, not_false_eq_true, Nat.reduceBEq, Nat.reduceDiv, Int.natCast_zero, Int.natCast_one, Int.reduceAdd, Int.reduceSub, reduceIte, ↓reduceIte, Value.oneCell', rowI_length, rowI_take, rowI_splice, rep_all, row_zero, le_nat, Int.toNat_natCast, Nat.zero_add, sok_row, reduceCtorEq]
    exact ⟨rfl, by simp only [Nat.not_lt_zero, if_false]⟩
  · intro k hk
    have hw := keyW_bd g h0 h1 h2 h3 h4 (k / 8)
    have hm : k % 8 < 8 := Nat.mod_lt _ (by decide)
    have hq := quo8 k (by omega)
    have hmul : IntKind.i64.wrap (((k % 8 : Nat) : Int) * 8) = ((k % 8 * 8 : Nat) : Int) := by rw [wrap_i64 _ (by omega) (by omega)]; omega
    have hsh : IntKind.u8.wrap (shrI .u64 (keyW g (k / 8)) ((k % 8 * 8 : Nat) : Int)) = byteW (keyW g) k := by
      rw [shr64 _ _ (by omega), wrap_u8]; rfl
    have hl4 : (((k / 8 : Nat) : Int) < 4) = True := lt_nat (m := 4) (by omega)
    have hl32 : ((k : Int) < 32) = True := lt_nat (m := 32) hk
    simp only [sn_upto, sn_from, slN_def, run_cap, rules, rules2, loopRules, Try.facts, base0, Int.toNat_zero, Nat.reduceAdd, Nat.reduceMul, Nat.reduceSub, Nat.reduceLT, Nat.reduceLeDiff, Nat.reduceEqDiff, Int.reduceLE, Int.reduceLT, Int.reduceToNat, Int.reduceNe, Int.reduceEq, not_false_eq_true, Nat.reduceBEq, Nat.reduceDiv, Int.natCast_zero, Int.natCast_one, Int.reduceAdd, Int.reduceSub, reduceIte, ↓reduceIte, Value.oneCell', rowI_length, rowI_take, rowI_splice, rep_all, row_zero, le_nat, Int.toNat_natCast, Nat.zero_add, sok_row, reduceCtorEq]
    refine vcIf_yes (by simp; omega) ?_
    simp only [hl32, rowI_get .u64 4 _ (k / 8) (by omega), hq, rem8, hmul, hsh, hl4, rowI_splice1 .u8 32 _ k hk, wrapS k (by omega), sn_upto, sn_from, slN_def, run_cap, rules, rules2, loopRules, Try.facts, base0, Int.toNat_zero, Nat.reduceAdd, Nat.reduceMul, Nat.reduceSub, Nat.reduceLT, Nat.reduceLeDiff, Nat.reduceEqDiff, Int.reduceLE, Int.reduceLT, Int.reduceToNat, Int.reduceNe, Int.reduceEq, not_false_eq_true, Nat.reduceBEq, Nat.reduceDiv, Int.natCast_zero, Int.natCast_one, Int.reduceAdd, Int.reduceSub, reduceIte, ↓reduceIte, Value.oneCell', rowI_length, rowI_take, rowI_splice, rep_all, row_zero, le_nat, Int.toNat_natCast, Nat.zero_add, sok_row, reduceCtorEq]
    exact ⟨by omega, by rw [row_upto]⟩
  · simp only [sn_upto, sn_from, slN_def, run_cap, rules, rules2, loopRules, Try.facts, base0, Int.toNat_zero, Nat.reduceAdd, Nat.reduceMul, Nat.reduceSub, Nat.reduceLT, Nat.reduceLeDiff, Nat.reduceEqDiff, Int.reduceLE, Int.reduceLT, Int.reduceToNat, Int.reduceNe, Int.reduceEq, not_false_eq_true, Nat.reduceBEq, Nat.reduceDiv, Int.natCast_zero, Int.natCast_one, Int.reduceAdd, Int.reduceSub, reduceIte, ↓reduceIte, Value.oneCell', rowI_length, rowI_take, rowI_splice, rep_all, row_zero, le_nat, Int.toNat_natCast, Nat.zero_add, sok_row, reduceCtorEq]
    refine vcIf_no (by decide) ?_
    simp only [sn_upto, sn_from, slN_def, run_cap, rules, rules2, loopRules, Try.facts, base0, Int.toNat_zero, Nat.reduceAdd, Nat.reduceMul, Nat.reduceSub, Nat.reduceLT, Nat.reduceLeDiff, Nat.reduceEqDiff, Int.reduceLE, Int.reduceLT, Int.reduceToNat, Int.reduceNe, Int.reduceEq, not_false_eq_true, Nat.reduceBEq, Nat.reduceDiv, Int.natCast_zero, Int.natCast_one, Int.reduceAdd, Int.reduceSub, reduceIte, ↓reduceIte, Value.oneCell', rowI_length, rowI_take, rowI_splice, rep_all, row_zero, le_nat, Int.toNat_natCast, Nat.zero_add, sok_row, reduceCtorEq]
    refine ag_congr fun i hi => ?_
    simp only [hi, if_true]
/-- What the program answers. -/
def progB (K U : Nat → Int) : Nat → Int :=
  byteW (keyW (redF (mulF (ladR (clampK K) (fieldW (wrd U 32)) 255).x2 (invP (ladR (clampK K) (fieldW (wrd U 32)) 255).z2 255))))
theorem curve_fun (K U : Nat → Int) (hK : By K) (hU : By U) : Fun Try.prog 4 [Ag (rowI .u8 32 K), Ag (rowI .u8 32 U)] (Ag (rowI .u8 32 (progB K U))) := by
  have hu : (fieldW (wrd U 32)).Ok := fieldW_ok _ fun j => ⟨((wrd_bd U hU 32).1 j).1, ((wrd_bd U hU 32).1 j).2.2⟩
  have hr := ladR_ok (clampK K) _ hu 255
  refine fun_of_vc Try.func4 rfl (by kernel_rfl) (by simp [Try.ntmps4]) rfl rfl ?_
  simp only [Try.results4, sn_upto, sn_from, slN_def, run_cap, rules, rules2, loopRules, Try.facts, base0, Int.toNat_zero, Nat.reduceAdd, Nat.reduceMul, Nat.reduceSub, Nat.reduceLT, Nat.reduceLeDiff, Nat.reduceEqDiff, Int.reduceLE, Int.reduceLT, Int.reduceToNat, Int.reduceNe, Int.reduceEq, not_false_eq_true, Nat.reduceBEq, Nat.reduceDiv, Int.natCast_zero, Int.natCast_one, Int.reduceAdd, Int.reduceSub, reduceIte, ↓reduceIte, Value.oneCell', rowI_length, rowI_take, rowI_splice, rep_all, row_zero, le_nat, Int.toNat_natCast, Nat.zero_add, sok_row, reduceCtorEq]
  refine ⟨by kernel_rfl, ?_⟩
  refine Fun.draw (clamped_fun K hK) Try.callable7 ?_
  simp only [sn_upto, sn_from, slN_def, run_cap, rules, rules2, loopRules, Try.facts, base0, Int.toNat_zero, Nat.reduceAdd, Nat.reduceMul, Nat.reduceSub, Nat.reduceLT, Nat.reduceLeDiff, Nat.reduceEqDiff, Int.reduceLE, Int.reduceLT, Int.reduceToNat, Int.reduceNe, Int.reduceEq, not_false_eq_true, Nat.reduceBEq, Nat.reduceDiv, Int.natCast_zero, Int.natCast_one, Int.reduceAdd, Int.reduceSub, reduceIte, ↓reduceIte, Value.oneCell', rowI_length, rowI_take, rowI_splice, rep_all, row_zero, le_nat, Int.toNat_natCast, Nat.zero_add, sok_row, reduceCtorEq]
  refine Fun.draw (fieldOf_fun U hU) Try.callable8 ?_
  simp only [sn_upto, sn_from, slN_def, run_cap, rules, rules2, loopRules, Try.facts, base0, Int.toNat_zero, Nat.reduceAdd, Nat.reduceMul, Nat.reduceSub, Nat.reduceLT, Nat.reduceLeDiff, Nat.reduceEqDiff, Int.reduceLE, Int.reduceLT, Int.reduceToNat, Int.reduceNe, Int.reduceEq, not_false_eq_true, Nat.reduceBEq, Nat.reduceDiv, Int.natCast_zero, Int.natCast_one, Int.reduceAdd, Int.reduceSub, reduceIte, ↓reduceIte, Value.oneCell', rowI_length, rowI_take, rowI_splice, rep_all, row_zero, le_nat, Int.toNat_natCast, Nat.zero_add, sok_row, reduceCtorEq]
  refine Fun.draw (ladder_fun _ _ (clampK_by K hK) hu) Try.callable6 ?_
  simp only [sn_upto, sn_from, slN_def, run_cap, rules, rules2, loopRules, Try.facts, base0, Int.toNat_zero, Nat.reduceAdd, Nat.reduceMul, Nat.reduceSub, Nat.reduceLT, Nat.reduceLeDiff, Nat.reduceEqDiff, Int.reduceLE, Int.reduceLT, Int.reduceToNat, Int.reduceNe, Int.reduceEq, not_false_eq_true, Nat.reduceBEq, Nat.reduceDiv, Int.natCast_zero, Int.natCast_one, Int.reduceAdd, Int.reduceSub, reduceIte, ↓reduceIte, Value.oneCell', rowI_length, rowI_take, rowI_splice, rep_all, row_zero, le_nat, Int.toNat_natCast, Nat.zero_add, sok_row, reduceCtorEq]
  refine Fun.draw (keyOf_fun _ (mulF_ok _ _ hr.x2 (invP_ok _ hr.z2 255))) Try.callable5 ?_
  simp only [sn_upto, sn_from, slN_def, run_cap, rules, rules2, loopRules, Try.facts, base0, Int.toNat_zero, Nat.reduceAdd, Nat.reduceMul, Nat.reduceSub, Nat.reduceLT, Nat.reduceLeDiff, Nat.reduceEqDiff, Int.reduceLE, Int.reduceLT, Int.reduceToNat, Int.reduceNe, Int.reduceEq, not_false_eq_true, Nat.reduceBEq, Nat.reduceDiv, Int.natCast_zero, Int.natCast_one, Int.reduceAdd, Int.reduceSub, reduceIte, ↓reduceIte, Value.oneCell', rowI_length, rowI_take, rowI_splice, rep_all, row_zero, le_nat, Int.toNat_natCast, Nat.zero_add, sok_row, reduceCtorEq]
  rfl
end Go.Proofs.Ytemllgnejllcpaa
