/-
  Functions of the cipher, of the program and of the document.
-/
import Derived.Test.YtpplfckcblaoiaaVcgX1
set_option linter.unusedVariables false
set_option linter.unusedSimpArgs false
namespace Go.Proofs.Ytpplfckcblaoiaa
open Go.Vcg
/-! ### The blocks of the cipher: its S-box, its mixing of columns, the counter -/
def dblB (x : Int) : Int := bitI .xor .u8 (shlI .u8 x 1) (IntKind.u8.wrap (shrI .u8 x 7 * 27))
theorem double_fun (x : Int) : Fun Try.prog 59 [I .u8 x] (I .u8 (dblB x)) := double_ext x
/-- The powers of 3. -/
def powC : Nat → Int
  | 0 => 1
  | k + 1 => bitI .xor .u8 (powC k) (dblB (powC k))
def cbx : Nat → Nat → Int
  | 0 => upd (fun _ => 0) 0 (sprB 0)
  | k + 1 => upd (cbx k) (powC k).toNat (sprB (powC ((255 - k) % 255)))
/-- The S-box as the program reckons it. -/
def cboxB (i : Nat) : Int := cbx 255 i
theorem wrap_u8_bd (x : Int) : 0 ≤ IntKind.u8.wrap x ∧ IntKind.u8.wrap x < 256 := by rw [wrap_u8]; omega
theorem bit_u8_bd (op : BinOp) (x y : Int) : 0 ≤ bitI op .u8 x y ∧ bitI op .u8 x y < 256 := by
  unfold bitI; split <;> exact wrap_u8_bd _
theorem powC_bd : ∀ k, 0 ≤ powC k ∧ powC k < 256
  | 0 => by simp [powC]
  | k + 1 => bit_u8_bd _ _ _
set_option maxHeartbeats 2000000 in
set_option maxRecDepth 20000 in
theorem computed_fun : Fun Try.prog 45 [] (Ag (rowI .u8 256 cboxB)) := by
  refine fun_of_vc Try.func45 rfl (by kernel_rfl) (by simp [Try.ntmps45]) rfl rfl ?_
  simp only [Try.results45, sn_upto, sn_from, slN_def, run_cap, rules, rules2, loopRules, Try.facts, base0, Int.toNat_zero, Nat.reduceAdd, Nat.reduceMul, Nat.reduceSub, Nat.reduceLT, Nat.reduceLeDiff, Nat.reduceEqDiff, Int.reduceLE, Int.reduceLT, Int.reduceToNat, Int.reduceNe, Int.reduceEq, not_false_eq_true, Nat.reduceBEq, Nat.reduceDiv, Int.natCast_zero, Int.natCast_one, Int.reduceAdd, Int.reduceSub, reduceIte, ↓reduceIte, Value.oneCell', rowI_length, rowI_take, rowI_splice, rep_all, row_zero, le_nat, Int.toNat_natCast, Nat.zero_add, sok_row, reduceCtorEq]
  refine loop_count 255 (fun k => [(0, Ptr 0 0), (1, Ptr 1 0), (2, I .u8 (powC k)), (7, I .i64 k)])
    (fun k => [(0, ⟨true, rowI .u8 256 (fun _ => 0)⟩), (1, ⟨true, rowI .u8 255 (fun i => if i < k then powC i else 0)⟩)]) _ ?_ ?_ ?_
  · simp only [sok_row, powC, Nat.not_lt_zero, if_false, sn_upto, sn_from, slN_def, run_cap, rules, rules2, loopRules, Try.facts, base0, Int.toNat_zero, Nat.reduceAdd, Nat.reduceMul, Nat.reduceSub, Nat.reduceLT, Nat.reduceLeDiff, Nat.reduceEqDiff, Int.reduceLE, Int.reduceLT, Int.reduceToNat, Int.reduceNe, Int.reduceEq, not_false_eq_true, Nat.reduceBEq, Nat.reduceDiv, Int.natCast_zero, Int.natCast_one, Int.reduceAdd, Int.reduceSub, reduceIte, ↓reduceIte, Value.oneCell', rowI_length, rowI_take, rowI_splice, rep_all, row_zero, le_nat, Int.toNat_natCast, Nat.zero_add, sok_row, reduceCtorEq]
  · intro j hj
    have hj' : ((j : Int) < 255) = True := lt_nat (m := 255) hj
    have fin : rowI .u8 255 (upd (fun i => if i < j then powC i else 0) j (powC j)) = rowI .u8 255 (fun i => if i < j + 1 then powC i else 0) := row_upto
    simp only [sn_upto, sn_from, slN_def, run_cap, rules, rules2, loopRules, Try.facts, base0, Int.toNat_zero, Nat.reduceAdd, Nat.reduceMul, Nat.reduceSub, Nat.reduceLT, Nat.reduceLeDiff, Nat.reduceEqDiff, Int.reduceLE, Int.reduceLT, Int.reduceToNat, Int.reduceNe, Int.reduceEq, not_false_eq_true, Nat.reduceBEq, Nat.reduceDiv, Int.natCast_zero, Int.natCast_one, Int.reduceAdd, Int.reduceSub, reduceIte, ↓reduceIte, Value.oneCell', rowI_length, rowI_take, rowI_splice, rep_all, row_zero, le_nat, Int.toNat_natCast, Nat.zero_add, sok_row, reduceCtorEq]
    refine vcIf_yes (by simp; omega) ?_
    simp only [hj', rowI_splice1 .u8 255 _ j hj, sn_upto, sn_from, slN_def, run_cap, rules, rules2, loopRules, Try.facts, base0, Int.toNat_zero, Nat.reduceAdd, Nat.reduceMul, Nat.reduceSub, Nat.reduceLT, Nat.reduceLeDiff, Nat.reduceEqDiff, Int.reduceLE, Int.reduceLT, Int.reduceToNat, Int.reduceNe, Int.reduceEq, not_false_eq_true, Nat.reduceBEq, Nat.reduceDiv, Int.natCast_zero, Int.natCast_one, Int.reduceAdd, Int.reduceSub, reduceIte, ↓reduceIte, Value.oneCell', rowI_length, rowI_take, rowI_splice, rep_all, row_zero, le_nat, Int.toNat_natCast, Nat.zero_add, sok_row, reduceCtorEq]
    refine ⟨by omega, ?_⟩
    refine (double_fun (powC j)).vcCall ?_
    simp only [wrapS j (by omega), sn_upto, sn_from, slN_def, run_cap, rules, rules2, loopRules, Try.facts, base0, Int.toNat_zero, Nat.reduceAdd, Nat.reduceMul, Nat.reduceSub, Nat.reduceLT, Nat.reduceLeDiff, Nat.reduceEqDiff, Int.reduceLE, Int.reduceLT, Int.reduceToNat, Int.reduceNe, Int.reduceEq, not_false_eq_true, Nat.reduceBEq, Nat.reduceDiv, Int.natCast_zero, Int.natCast_one, Int.reduceAdd, Int.reduceSub, reduceIte, ↓reduceIte, Value.oneCell', rowI_length, rowI_take, rowI_splice, rep_all, row_zero, le_nat, Int.toNat_natCast, Nat.zero_add, sok_row, reduceCtorEq]
    exact ⟨rfl, congrArg (fun c => some (Box.mk true c)) fin⟩
  · simp only [sn_upto, sn_from, slN_def, run_cap, rules, rules2, loopRules, Try.facts, base0, Int.toNat_zero, Nat.reduceAdd, Nat.reduceMul, Nat.reduceSub, Nat.reduceLT, Nat.reduceLeDiff, Nat.reduceEqDiff, Int.reduceLE, Int.reduceLT, Int.reduceToNat, Int.reduceNe, Int.reduceEq, not_false_eq_true, Nat.reduceBEq, Nat.reduceDiv, Int.natCast_zero, Int.natCast_one, Int.reduceAdd, Int.reduceSub, reduceIte, ↓reduceIte, Value.oneCell', rowI_length, rowI_take, rowI_splice, rep_all, row_zero, le_nat, Int.toNat_natCast, Nat.zero_add, sok_row, reduceCtorEq]
    refine vcIf_no (by decide) ?_
    simp only [row_all, sn_upto, sn_from, slN_def, run_cap, rules, rules2, loopRules, Try.facts, base0, Int.toNat_zero, Nat.reduceAdd, Nat.reduceMul, Nat.reduceSub, Nat.reduceLT, Nat.reduceLeDiff, Nat.reduceEqDiff, Int.reduceLE, Int.reduceLT, Int.reduceToNat, Int.reduceNe, Int.reduceEq, not_false_eq_true, Nat.reduceBEq, Nat.reduceDiv, Int.natCast_zero, Int.natCast_one, Int.reduceAdd, Int.reduceSub, reduceIte, ↓reduceIte, Value.oneCell', rowI_length, rowI_take, rowI_splice, rep_all, row_zero, le_nat, Int.toNat_natCast, Nat.zero_add, sok_row, reduceCtorEq]
    refine (spread_fun 0).vcCall ?_
    simp only [rowI_splice1 .u8 256 _ 0 (by decide), sn_upto, sn_from, slN_def, run_cap, rules, rules2, loopRules, Try.facts, base0, Int.toNat_zero, Nat.reduceAdd, Nat.reduceMul, Nat.reduceSub, Nat.reduceLT, Nat.reduceLeDiff, Nat.reduceEqDiff, Int.reduceLE, Int.reduceLT, Int.reduceToNat, Int.reduceNe, Int.reduceEq, not_false_eq_true, Nat.reduceBEq, Nat.reduceDiv, Int.natCast_zero, Int.natCast_one, Int.reduceAdd, Int.reduceSub, reduceIte, ↓reduceIte, Value.oneCell', rowI_length, rowI_take, rowI_splice, rep_all, row_zero, le_nat, Int.toNat_natCast, Nat.zero_add, sok_row, reduceCtorEq]
    refine loop_count 255 (fun k => [(0, Ptr 0 0), (1, Ptr 1 0), (4, Ptr 5 0), (20, Ag (rowI .u8 255 powC)), (21, I .i64 k)])
      (fun k => [(0, ⟨true, rowI .u8 256 (fun _ => 0)⟩), (1, ⟨true, rowI .u8 255 powC⟩), (5, ⟨true, rowI .u8 256 (cbx k)⟩)]) _ ?_ ?_ ?_
    · simp only [sok_row, cbx, sn_upto, sn_from, slN_def, run_cap, rules, rules2, loopRules, Try.facts, base0, Int.toNat_zero, Nat.reduceAdd, Nat.reduceMul, Nat.reduceSub, Nat.reduceLT, Nat.reduceLeDiff, Nat.reduceEqDiff, Int.reduceLE, Int.reduceLT, Int.reduceToNat, Int.reduceNe, Int.reduceEq, not_false_eq_true, Nat.reduceBEq, Nat.reduceDiv, Int.natCast_zero, Int.natCast_one, Int.reduceAdd, Int.reduceSub, reduceIte, ↓reduceIte, Value.oneCell', rowI_length, rowI_take, rowI_splice, rep_all, row_zero, le_nat, Int.toNat_natCast, Nat.zero_add, sok_row, reduceCtorEq]
    · intro j hj
      have hj' : ((j : Int) < 255) = True := lt_nat (m := 255) hj
      have hb := powC_bd j
      have h1 : (0 ≤ powC j) = True := by simp; exact hb.1
      have h2 : (powC j < 256) = True := by simp; exact hb.2
      have h3 : (powC j).toNat < 256 := by omega
      have hq : (255 - j) % 255 < 255 := Nat.mod_lt _ (by decide)
      have e : (IntKind.i64.wrap ((255 : Int) - j)).tmod 255 = (((255 - j) % 255 : Nat) : Int) := by
        rw [wrap_i64 _ (by omega) (by omega), Int.tmod_eq_emod_of_nonneg (by omega)]; omega
      simp only [sn_upto, sn_from, slN_def, run_cap, rules, rules2, loopRules, Try.facts, base0, Int.toNat_zero, Nat.reduceAdd, Nat.reduceMul, Nat.reduceSub, Nat.reduceLT, Nat.reduceLeDiff, Nat.reduceEqDiff, Int.reduceLE, Int.reduceLT, Int.reduceToNat, Int.reduceNe, Int.reduceEq, not_false_eq_true, Nat.reduceBEq, Nat.reduceDiv, Int.natCast_zero, Int.natCast_one, Int.reduceAdd, Int.reduceSub, reduceIte, ↓reduceIte, Value.oneCell', rowI_length, rowI_take, rowI_splice, rep_all, row_zero, le_nat, Int.toNat_natCast, Nat.zero_add, sok_row, reduceCtorEq]
      refine vcIf_yes (by simp; omega) ?_
      simp only [hj', e, rowI_get .u8 255 _ j hj, rowI_get .u8 255 _ _ hq, sn_upto, sn_from, slN_def, run_cap, rules, rules2, loopRules, Try.facts, base0, Int.toNat_zero, Nat.reduceAdd, Nat.reduceMul, Nat.reduceSub, Nat.reduceLT, Nat.reduceLeDiff, Nat.reduceEqDiff, Int.reduceLE, Int.reduceLT, Int.reduceToNat, Int.reduceNe, Int.reduceEq, not_false_eq_true, Nat.reduceBEq, Nat.reduceDiv, Int.natCast_zero, Int.natCast_one, Int.reduceAdd, Int.reduceSub, reduceIte, ↓reduceIte, Value.oneCell', rowI_length, rowI_take, rowI_splice, rep_all, row_zero, le_nat, Int.toNat_natCast, Nat.zero_add, sok_row, reduceCtorEq]
      refine ⟨by omega, ?_⟩
      refine (spread_fun (powC ((255 - j) % 255))).vcCall ?_
      simp only [h1, h2, wrapS j (by omega), rowI_splice1 .u8 256 _ _ h3, sn_upto, sn_from, slN_def, run_cap, rules, rules2, loopRules, Try.facts, base0, Int.toNat_zero, Nat.reduceAdd, Nat.reduceMul, Nat.reduceSub, Nat.reduceLT, Nat.reduceLeDiff, Nat.reduceEqDiff, Int.reduceLE, Int.reduceLT, Int.reduceToNat, Int.reduceNe, Int.reduceEq, not_false_eq_true, Nat.reduceBEq, Nat.reduceDiv, Int.natCast_zero, Int.natCast_one, Int.reduceAdd, Int.reduceSub, reduceIte, ↓reduceIte, Value.oneCell', rowI_length, rowI_take, rowI_splice, rep_all, row_zero, le_nat, Int.toNat_natCast, Nat.zero_add, sok_row, reduceCtorEq]
      exact ⟨by omega, rfl⟩
    · simp only [sn_upto, sn_from, slN_def, run_cap, rules, rules2, loopRules, Try.facts, base0, Int.toNat_zero, Nat.reduceAdd, Nat.reduceMul, Nat.reduceSub, Nat.reduceLT, Nat.reduceLeDiff, Nat.reduceEqDiff, Int.reduceLE, Int.reduceLT, Int.reduceToNat, Int.reduceNe, Int.reduceEq, not_false_eq_true, Nat.reduceBEq, Nat.reduceDiv, Int.natCast_zero, Int.natCast_one, Int.reduceAdd, Int.reduceSub, reduceIte, ↓reduceIte, Value.oneCell', rowI_length, rowI_take, rowI_splice, rep_all, row_zero, le_nat, Int.toNat_natCast, Nat.zero_add, sok_row, reduceCtorEq]
      refine vcIf_no (by decide) ?_
      simp only [sn_upto, sn_from, slN_def, run_cap, rules, rules2, loopRules, Try.facts, base0, Int.toNat_zero, Nat.reduceAdd, Nat.reduceMul, Nat.reduceSub, Nat.reduceLT, Nat.reduceLeDiff, Nat.reduceEqDiff, Int.reduceLE, Int.reduceLT, Int.reduceToNat, Int.reduceNe, Int.reduceEq, not_false_eq_true, Nat.reduceBEq, Nat.reduceDiv, Int.natCast_zero, Int.natCast_one, Int.reduceAdd, Int.reduceSub, reduceIte, ↓reduceIte, Value.oneCell', rowI_length, rowI_take, rowI_splice, rep_all, row_zero, le_nat, Int.toNat_natCast, Nat.zero_add, sok_row, reduceCtorEq]
      rfl
def mixB (S : Nat → Int) (i : Nat) : Int :=
  let q := i - i % 4
  bitI .xor .u8 (bitI .xor .u8 (S i) (dblB (bitI .xor .u8 (S i) (S (q + (i + 1) % 4))))) (bitI .xor .u8 (bitI .xor .u8 (bitI .xor .u8 (S q) (S (q + 1))) (S (q + 2))) (S (q + 3)))
set_option maxHeartbeats 4000000 in
set_option maxRecDepth 20000 in
theorem mixed_fun (S : Nat → Int) : Fun Try.prog 48 [Ag (rowI .u8 16 S)] (Ag (rowI .u8 16 (mixB S))) := by
  refine fun_of_vc Try.func48 rfl (by kernel_rfl) (by simp [Try.ntmps48]) rfl rfl ?_
  simp only [Try.results48, sn_upto, sn_from, slN_def, run_cap, rules, rules2, loopRules, Try.facts, base0, Int.toNat_zero, Nat.reduceAdd, Nat.reduceMul, Nat.reduceSub, Nat.reduceLT, Nat.reduceLeDiff, Nat.reduceEqDiff, Int.reduceLE, Int.reduceLT, Int.reduceToNat, Int.reduceNe, Int.reduceEq, not_false_eq_true, Nat.reduceBEq, Nat.reduceDiv, Int.natCast_zero, Int.natCast_one, Int.reduceAdd, Int.reduceSub, reduceIte, ↓reduceIte, Value.oneCell', rowI_length, rowI_take, rowI_splice, rep_all, row_zero, le_nat, Int.toNat_natCast, Nat.zero_add, sok_row, reduceCtorEq]
  refine loop_count 4 (fun k => [(1, Ptr 0 0), (2, Ptr 1 0), (3, Ptr 2 0), (4, I .i64 ((4 * k : Nat) : Int))])
    (fun k => [(0, ⟨true, rowI .u8 16 S⟩), (1, ⟨true, rowI .u8 16 (fun _ => 0)⟩), (2, ⟨true, rowI .u8 16 (fun i => if i < 4 * k then mixB S i else 0)⟩)]) _ ?_ ?_ ?_
  · simp only [sok_row, Nat.not_lt_zero, Nat.mul_zero, if_false, sn_upto, sn_from, slN_def, run_cap, rules, rules2, loopRules, Try.facts, base0, Int.toNat_zero, Nat.reduceAdd, Nat.reduceMul, Nat.reduceSub, Nat.reduceLT, Nat.reduceLeDiff, Nat.reduceEqDiff, Int.reduceLE, Int.reduceLT, Int.reduceToNat, Int.reduceNe, Int.reduceEq, not_false_eq_true, Nat.reduceBEq, Nat.reduceDiv, Int.natCast_zero, Int.natCast_one, Int.reduceAdd, Int.reduceSub, reduceIte, ↓reduceIte, Value.oneCell', rowI_length, rowI_take, rowI_splice, rep_all, row_zero, le_nat, Int.toNat_natCast, Nat.zero_add, sok_row, reduceCtorEq]
  · intro j hj
    have l0 : 4 * j < 16 := by omega
    have l1 : 4 * j + 1 < 16 := by omega
    have l2 : 4 * j + 2 < 16 := by omega
    have l3 : 4 * j + 3 < 16 := by omega
    have g0 : (((4 * j : Nat) : Int) < 16) = True := by simp; omega
    have g1 : (((4 * j + 1 : Nat) : Int) < 16) = True := by simp; omega
    have g2 : (((4 * j + 2 : Nat) : Int) < 16) = True := by simp; omega
    have g3 : (((4 * j + 3 : Nat) : Int) < 16) = True := by simp; omega
    have w1 : IntKind.i64.wrap (((4 * j : Nat) : Int) + 1) = ((4 * j + 1 : Nat) : Int) := by rw [wrap_i64 _ (by omega) (by omega)]; omega
    have w2 : IntKind.i64.wrap (((4 * j : Nat) : Int) + 2) = ((4 * j + 2 : Nat) : Int) := by rw [wrap_i64 _ (by omega) (by omega)]; omega
    have w3 : IntKind.i64.wrap (((4 * j : Nat) : Int) + 3) = ((4 * j + 3 : Nat) : Int) := by rw [wrap_i64 _ (by omega) (by omega)]; omega
    have w4 : IntKind.i64.wrap (((4 * j : Nat) : Int) + 4) = ((4 * (j + 1) : Nat) : Int) := by rw [wrap_i64 _ (by omega) (by omega)]; omega
    simp only [sn_upto, sn_from, slN_def, run_cap, rules, rules2, loopRules, Try.facts, base0, Int.toNat_zero, Nat.reduceAdd, Nat.reduceMul, Nat.reduceSub, Nat.reduceLT, Nat.reduceLeDiff, Nat.reduceEqDiff, Int.reduceLE, Int.reduceLT, Int.reduceToNat, Int.reduceNe, Int.reduceEq, not_false_eq_true, Nat.reduceBEq, Nat.reduceDiv, Int.natCast_zero, Int.natCast_one, Int.reduceAdd, Int.reduceSub, reduceIte, ↓reduceIte, Value.oneCell', rowI_length, rowI_take, rowI_splice, rep_all, row_zero, le_nat, Int.toNat_natCast, Nat.zero_add, sok_row, reduceCtorEq]
    refine vcIf_yes (by simp; omega) ?_
    simp only [g0, g1, g2, g3, w1, w2, w3, rowI_get .u8 16 _ _ l0, rowI_get .u8 16 _ _ l1, rowI_get .u8 16 _ _ l2, rowI_get .u8 16 _ _ l3, sn_upto, sn_from, slN_def, run_cap, rules, rules2, loopRules, Try.facts, base0, Int.toNat_zero, Nat.reduceAdd, Nat.reduceMul, Nat.reduceSub, Nat.reduceLT, Nat.reduceLeDiff, Nat.reduceEqDiff, Int.reduceLE, Int.reduceLT, Int.reduceToNat, Int.reduceNe, Int.reduceEq, not_false_eq_true, Nat.reduceBEq, Nat.reduceDiv, Int.natCast_zero, Int.natCast_one, Int.reduceAdd, Int.reduceSub, reduceIte, ↓reduceIte, Value.oneCell', rowI_length, rowI_take, rowI_splice, rep_all, row_zero, le_nat, Int.toNat_natCast, Nat.zero_add, sok_row, reduceCtorEq]
    have gg : rowI .u8 16 (upd (upd (upd (upd (fun i => if i < 4 * j then mixB S i else 0) (4 * j) (mixB S (4 * j))) (4 * j + 1) (mixB S (4 * j + 1))) (4 * j + 2) (mixB S (4 * j + 2))) (4 * j + 3) (mixB S (4 * j + 3))) =
        rowI .u8 16 (fun i => if i < 4 * (j + 1) then mixB S i else 0) := rowI_congr fun i hi => by
      simp only [upd]
      repeat' split
      all_goals first
        | rfl
        | (subst_vars; rfl)
        | omega
    have m0 : mixB S (4 * j) = bitI .xor .u8 (bitI .xor .u8 (S (4 * j)) (dblB (bitI .xor .u8 (S (4 * j)) (S (4 * j + 1))))) (bitI .xor .u8 (bitI .xor .u8 (bitI .xor .u8 (S (4 * j)) (S (4 * j + 1))) (S (4 * j + 2))) (S (4 * j + 3))) := by
      simp only [mixB, show 4 * j - 4 * j % 4 = 4 * j by omega, show (4 * j + 1) % 4 = 1 by omega]
    have m1 : mixB S (4 * j + 1) = bitI .xor .u8 (bitI .xor .u8 (S (4 * j + 1)) (dblB (bitI .xor .u8 (S (4 * j + 1)) (S (4 * j + 2))))) (bitI .xor .u8 (bitI .xor .u8 (bitI .xor .u8 (S (4 * j)) (S (4 * j + 1))) (S (4 * j + 2))) (S (4 * j + 3))) := by
      simp only [mixB, show 4 * j + 1 - (4 * j + 1) % 4 = 4 * j by omega, show (4 * j + 1 + 1) % 4 = 2 by omega]
    have m2 : mixB S (4 * j + 2) = bitI .xor .u8 (bitI .xor .u8 (S (4 * j + 2)) (dblB (bitI .xor .u8 (S (4 * j + 2)) (S (4 * j + 3))))) (bitI .xor .u8 (bitI .xor .u8 (bitI .xor .u8 (S (4 * j)) (S (4 * j + 1))) (S (4 * j + 2))) (S (4 * j + 3))) := by
      simp only [mixB, show 4 * j + 2 - (4 * j + 2) % 4 = 4 * j by omega, show (4 * j + 2 + 1) % 4 = 3 by omega]
    have m3 : mixB S (4 * j + 3) = bitI .xor .u8 (bitI .xor .u8 (S (4 * j + 3)) (dblB (bitI .xor .u8 (S (4 * j + 3)) (S (4 * j))))) (bitI .xor .u8 (bitI .xor .u8 (bitI .xor .u8 (S (4 * j)) (S (4 * j + 1))) (S (4 * j + 2))) (S (4 * j + 3))) := by
      simp only [mixB, show 4 * j + 3 - (4 * j + 3) % 4 = 4 * j by omega, show (4 * j + 3 + 1) % 4 = 0 by omega, Nat.add_zero]
    refine ⟨by kernel_rfl, ?_⟩
    refine (double_fun _).vcCall ?_
    simp only [g0, ← m0, rowI_splice1 .u8 16 _ _ l0, sn_upto, sn_from, slN_def, run_cap, rules, rules2, loopRules, Try.facts, base0, Int.toNat_zero, Nat.reduceAdd, Nat.reduceMul, Nat.reduceSub, Nat.reduceLT, Nat.reduceLeDiff, Nat.reduceEqDiff, Int.reduceLE, Int.reduceLT, Int.reduceToNat, Int.reduceNe, Int.reduceEq, not_false_eq_true, Nat.reduceBEq, Nat.reduceDiv, Int.natCast_zero, Int.natCast_one, Int.reduceAdd, Int.reduceSub, reduceIte, ↓reduceIte, Value.oneCell', rowI_length, rowI_take, rowI_splice, rep_all, row_zero, le_nat, Int.toNat_natCast, Nat.zero_add, sok_row, reduceCtorEq]
    refine ⟨by omega, ?_⟩
    refine (double_fun _).vcCall ?_
    simp only [g1, w1, ← m1, rowI_splice1 .u8 16 _ _ l1, sn_upto, sn_from, slN_def, run_cap, rules, rules2, loopRules, Try.facts, base0, Int.toNat_zero, Nat.reduceAdd, Nat.reduceMul, Nat.reduceSub, Nat.reduceLT, Nat.reduceLeDiff, Nat.reduceEqDiff, Int.reduceLE, Int.reduceLT, Int.reduceToNat, Int.reduceNe, Int.reduceEq, not_false_eq_true, Nat.reduceBEq, Nat.reduceDiv, Int.natCast_zero, Int.natCast_one, Int.reduceAdd, Int.reduceSub, reduceIte, ↓reduceIte, Value.oneCell', rowI_length, rowI_take, rowI_splice, rep_all, row_zero, le_nat, Int.toNat_natCast, Nat.zero_add, sok_row, reduceCtorEq]
    refine ⟨by omega, ?_⟩
    refine (double_fun _).vcCall ?_
    simp only [g2, w2, ← m2, rowI_splice1 .u8 16 _ _ l2, sn_upto, sn_from, slN_def, run_cap, rules, rules2, loopRules, Try.facts, base0, Int.toNat_zero, Nat.reduceAdd, Nat.reduceMul, Nat.reduceSub, Nat.reduceLT, Nat.reduceLeDiff, Nat.reduceEqDiff, Int.reduceLE, Int.reduceLT, Int.reduceToNat, Int.reduceNe, Int.reduceEq, not_false_eq_true, Nat.reduceBEq, Nat.reduceDiv, Int.natCast_zero, Int.natCast_one, Int.reduceAdd, Int.reduceSub, reduceIte, ↓reduceIte, Value.oneCell', rowI_length, rowI_take, rowI_splice, rep_all, row_zero, le_nat, Int.toNat_natCast, Nat.zero_add, sok_row, reduceCtorEq]
    refine ⟨by omega, ?_⟩
    refine (double_fun _).vcCall ?_
    simp only [g3, w3, w4, ← m3, rowI_splice1 .u8 16 _ _ l3, sn_upto, sn_from, slN_def, run_cap, rules, rules2, loopRules, Try.facts, base0, Int.toNat_zero, Nat.reduceAdd, Nat.reduceMul, Nat.reduceSub, Nat.reduceLT, Nat.reduceLeDiff, Nat.reduceEqDiff, Int.reduceLE, Int.reduceLT, Int.reduceToNat, Int.reduceNe, Int.reduceEq, not_false_eq_true, Nat.reduceBEq, Nat.reduceDiv, Int.natCast_zero, Int.natCast_one, Int.reduceAdd, Int.reduceSub, reduceIte, ↓reduceIte, Value.oneCell', rowI_length, rowI_take, rowI_splice, rep_all, row_zero, le_nat, Int.toNat_natCast, Nat.zero_add, sok_row, reduceCtorEq]
    exact ⟨by omega, congrArg (fun c => some (Box.mk true c)) gg⟩
  · simp only [sn_upto, sn_from, slN_def, run_cap, rules, rules2, loopRules, Try.facts, base0, Int.toNat_zero, Nat.reduceAdd, Nat.reduceMul, Nat.reduceSub, Nat.reduceLT, Nat.reduceLeDiff, Nat.reduceEqDiff, Int.reduceLE, Int.reduceLT, Int.reduceToNat, Int.reduceNe, Int.reduceEq, not_false_eq_true, Nat.reduceBEq, Nat.reduceDiv, Int.natCast_zero, Int.natCast_one, Int.reduceAdd, Int.reduceSub, reduceIte, ↓reduceIte, Value.oneCell', rowI_length, rowI_take, rowI_splice, rep_all, row_zero, le_nat, Int.toNat_natCast, Nat.zero_add, sok_row, reduceCtorEq]
    refine vcIf_no (by decide) ?_
    simp only [row_all, sn_upto, sn_from, slN_def, run_cap, rules, rules2, loopRules, Try.facts, base0, Int.toNat_zero, Nat.reduceAdd, Nat.reduceMul, Nat.reduceSub, Nat.reduceLT, Nat.reduceLeDiff, Nat.reduceEqDiff, Int.reduceLE, Int.reduceLT, Int.reduceToNat, Int.reduceNe, Int.reduceEq, not_false_eq_true, Nat.reduceBEq, Nat.reduceDiv, Int.natCast_zero, Int.natCast_one, Int.reduceAdd, Int.reduceSub, reduceIte, ↓reduceIte, Value.oneCell', rowI_length, rowI_take, rowI_splice, rep_all, row_zero, le_nat, Int.toNat_natCast, Nat.zero_add, sok_row, reduceCtorEq]
end Go.Proofs.Ytpplfckcblaoiaa
