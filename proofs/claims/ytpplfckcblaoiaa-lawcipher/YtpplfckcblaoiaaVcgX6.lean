/-
  Functions of the cipher, of the program and of the document.
-/
import Derived.Test.YtpplfckcblaoiaaVcgX5
set_option linter.unusedVariables false
set_option linter.unusedSimpArgs false
namespace Go.Proofs.Ytpplfckcblaoiaa
open Go.Vcg
/-! ### The document's key schedule -/
theorem rem32 (t : Nat) : (t : Int).tmod 32 = ((t % 32 : Nat) : Int) := (Int.ofNat_tmod t 32).symm
def frmB (n : Nat) : Nat := if n % 32 < 4 then (if n % 4 = 3 then n - 7 else n - 3) else n - 4
def rpB : Nat → Int
  | 0 => 1
  | n + 1 => if 32 ≤ n ∧ n % 32 = 0 then mulB (rpB n) 2 else rpB n
def rvB (S W : Nat → Int) (p : Int) (n : Nat) : Int :=
  let b := W (frmB n)
  let c := if n % 32 < 4 ∨ 16 ≤ n % 32 ∧ n % 32 < 20 then S b.toNat else b
  bitI .xor .u8 (W (n - 32)) (if n % 32 = 0 then bitI .xor .u8 c (IntKind.u8.wrap p) else c)
def refW (S K : Nat → Int) : Nat → Nat → Int
  | 0 => fun _ => 0
  | n + 1 => upd (refW S K n) n (if n < 32 then K n else rvB S (refW S K n) (rpB n) n)
theorem rpB_bd : ∀ n, 0 ≤ rpB n ∧ rpB n < 256
  | 0 => by simp [rpB]
  | n + 1 => by
    simp only [rpB]; split
    · exact mulB_bd (rpB_bd n) (by decide)
    · exact rpB_bd n
theorem refW_byt {S K : Nat → Int} (hK : Byt K) : ∀ n, Byt (refW S K n)
  | 0 => fun _ => by simp [refW]
  | n + 1 => fun i => by
    simp only [refW, upd]; split
    · split
      · exact hK n
      · simp only [rvB]; exact bit_u8_bd .xor (refW S K n (n - 32)) _
    · exact refW_byt hK n i
set_option maxHeartbeats 8000000 in
set_option maxRecDepth 20000 in
theorem refSchedule_fun (K S : Nat → Int) (hK : Byt K) : Fun Try.prog 32 [Ag (rowI .u8 32 K), Ag (rowI .u8 256 S)] (Ag (rowI .u8 240 (refW S K 240))) := by
  refine fun_of_vc Try.func32 rfl (by kernel_rfl) (by simp [Try.ntmps32]) rfl rfl ?_
  simp only [Try.results32, sn_upto, sn_from, slN_def, run_cap, rules, rules2, loopRules, Try.facts, base0, Int.toNat_zero, Nat.reduceAdd, Nat.reduceMul, Nat.reduceSub, Nat.reduceLT, Nat.reduceLeDiff, Nat.reduceEqDiff, Int.reduceLE, Int.reduceLT, Int.reduceToNat, Int.reduceNe, Int.reduceEq, not_false_eq_true, Nat.reduceBEq, Nat.reduceDiv, Int.natCast_zero, Int.natCast_one, Int.reduceAdd, Int.reduceSub, reduceIte, ↓reduceIte, Value.oneCell', rowI_length, rowI_take, rowI_splice, rep_all, row_zero, le_nat, Int.toNat_natCast, Nat.zero_add, sok_row, reduceCtorEq]
  refine loop_count 240 (fun k => [(2, Ptr 0 0), (3, Ptr 1 0), (4, Ptr 2 0), (5, Ptr 3 0), (6, I .i64 (rpB k)), (7, I .i64 k)])
    (fun k => [(0, ⟨true, rowI .u8 32 K⟩), (1, ⟨true, rowI .u8 256 S⟩), (2, ⟨true, rowI .u8 240 (fun _ => 0)⟩), (3, ⟨true, rowI .u8 240 (refW S K k)⟩)]) _ ?_ ?_ ?_
  · simp only [sok_row, rpB, refW, sn_upto, sn_from, slN_def, run_cap, rules, rules2, loopRules, Try.facts, base0, Int.toNat_zero, Nat.reduceAdd, Nat.reduceMul, Nat.reduceSub, Nat.reduceLT, Nat.reduceLeDiff, Nat.reduceEqDiff, Int.reduceLE, Int.reduceLT, Int.reduceToNat, Int.reduceNe, Int.reduceEq, not_false_eq_true, Nat.reduceBEq, Nat.reduceDiv, Int.natCast_zero, Int.natCast_one, Int.reduceAdd, Int.reduceSub, reduceIte, ↓reduceIte, Value.oneCell', rowI_length, rowI_take, rowI_splice, rep_all, row_zero, le_nat, Int.toNat_natCast, Nat.zero_add, sok_row, reduceCtorEq]
  · intro n hn
    have hW := refW_byt (S := S) hK n
    have hp := rpB_bd n
    have l1 : ((n : Int) < 240) = True := lt_nat (m := 240) hn
    have ew : ∀ v, refW S K (n + 1) = upd (refW S K n) n v → rowI .u8 240 (upd (refW S K n) n v) = rowI .u8 240 (refW S K (n + 1)) := fun v h => by rw [h]
    simp only [sn_upto, sn_from, slN_def, run_cap, rules, rules2, loopRules, Try.facts, base0, Int.toNat_zero, Nat.reduceAdd, Nat.reduceMul, Nat.reduceSub, Nat.reduceLT, Nat.reduceLeDiff, Nat.reduceEqDiff, Int.reduceLE, Int.reduceLT, Int.reduceToNat, Int.reduceNe, Int.reduceEq, not_false_eq_true, Nat.reduceBEq, Nat.reduceDiv, Int.natCast_zero, Int.natCast_one, Int.reduceAdd, Int.reduceSub, reduceIte, ↓reduceIte, Value.oneCell', rowI_length, rowI_take, rowI_splice, rep_all, row_zero, le_nat, Int.toNat_natCast, Nat.zero_add, sok_row, reduceCtorEq]
    refine vcIf_yes (by simp; omega) ?_
    by_cases h32 : n < 32
    · have l2 : ((n : Int) < 32) = True := lt_nat (m := 32) h32
      have d1 : rpB (n + 1) = rpB n := by simp only [rpB]; rw [if_neg (by omega)]
      have d2 : refW S K (n + 1) = upd (refW S K n) n (K n) := by simp only [refW, if_pos h32]
      simp only [sn_upto, sn_from, slN_def, run_cap, rules, rules2, loopRules, Try.facts, base0, Int.toNat_zero, Nat.reduceAdd, Nat.reduceMul, Nat.reduceSub, Nat.reduceLT, Nat.reduceLeDiff, Nat.reduceEqDiff, Int.reduceLE, Int.reduceLT, Int.reduceToNat, Int.reduceNe, Int.reduceEq, not_false_eq_true, Nat.reduceBEq, Nat.reduceDiv, Int.natCast_zero, Int.natCast_one, Int.reduceAdd, Int.reduceSub, reduceIte, ↓reduceIte, Value.oneCell', rowI_length, rowI_take, rowI_splice, rep_all, row_zero, le_nat, Int.toNat_natCast, Nat.zero_add, sok_row, reduceCtorEq]
      refine vcIf_yes (by simp; omega) ?_
      simp only [l1, l2, nat_nn, rowI_get .u8 32 _ n h32, rowI_splice1 .u8 240 _ n hn, wrapS n (by omega), d1, d2, sn_upto, sn_from, slN_def, run_cap, rules, rules2, loopRules, Try.facts, base0, Int.toNat_zero, Nat.reduceAdd, Nat.reduceMul, Nat.reduceSub, Nat.reduceLT, Nat.reduceLeDiff, Nat.reduceEqDiff, Int.reduceLE, Int.reduceLT, Int.reduceToNat, Int.reduceNe, Int.reduceEq, not_false_eq_true, Nat.reduceBEq, Nat.reduceDiv, Int.natCast_zero, Int.natCast_one, Int.reduceAdd, Int.reduceSub, reduceIte, ↓reduceIte, Value.oneCell', rowI_length, rowI_take, rowI_splice, rep_all, row_zero, le_nat, Int.toNat_natCast, Nat.zero_add, sok_row, reduceCtorEq]
      omega
    · have w4 : IntKind.i64.wrap ((n : Int) - 4) = ((n - 4 : Nat) : Int) := by rw [wrap_i64 _ (by omega) (by omega)]; omega
      have w3 : IntKind.i64.wrap (((n - 4 : Nat) : Int) + 1) = ((n - 3 : Nat) : Int) := by rw [wrap_i64 _ (by omega) (by omega)]; omega
      have w7 : IntKind.i64.wrap ((n : Int) - 7) = ((n - 7 : Nat) : Int) := by rw [wrap_i64 _ (by omega) (by omega)]; omega
      have w32 : IntKind.i64.wrap ((n : Int) - 32) = ((n - 32 : Nat) : Int) := by rw [wrap_i64 _ (by omega) (by omega)]; omega
      have l3 : (((n - 3 : Nat) : Int) < 240) = True := by simp; omega
      have l4 : (((n - 4 : Nat) : Int) < 240) = True := by simp; omega
      have l7 : (((n - 7 : Nat) : Int) < 240) = True := by simp; omega
      have l32 : (((n - 32 : Nat) : Int) < 240) = True := by simp; omega
      have g3 := rowI_get .u8 240 (refW S K n) (n - 3) (by omega)
      have g4 := rowI_get .u8 240 (refW S K n) (n - 4) (by omega)
      have g7 := rowI_get .u8 240 (refW S K n) (n - 7) (by omega)
      have g32 := rowI_get .u8 240 (refW S K n) (n - 32) (by omega)
      simp only [sn_upto, sn_from, slN_def, run_cap, rules, rules2, loopRules, Try.facts, base0, Int.toNat_zero, Nat.reduceAdd, Nat.reduceMul, Nat.reduceSub, Nat.reduceLT, Nat.reduceLeDiff, Nat.reduceEqDiff, Int.reduceLE, Int.reduceLT, Int.reduceToNat, Int.reduceNe, Int.reduceEq, not_false_eq_true, Nat.reduceBEq, Nat.reduceDiv, Int.natCast_zero, Int.natCast_one, Int.reduceAdd, Int.reduceSub, reduceIte, ↓reduceIte, Value.oneCell', rowI_length, rowI_take, rowI_splice, rep_all, row_zero, le_nat, Int.toNat_natCast, Nat.zero_add, sok_row, reduceCtorEq]
      refine vcIf_no (by simp; omega) ?_
      simp only [sn_upto, sn_from, slN_def, run_cap, rules, rules2, loopRules, Try.facts, base0, Int.toNat_zero, Nat.reduceAdd, Nat.reduceMul, Nat.reduceSub, Nat.reduceLT, Nat.reduceLeDiff, Nat.reduceEqDiff, Int.reduceLE, Int.reduceLT, Int.reduceToNat, Int.reduceNe, Int.reduceEq, not_false_eq_true, Nat.reduceBEq, Nat.reduceDiv, Int.natCast_zero, Int.natCast_one, Int.reduceAdd, Int.reduceSub, reduceIte, ↓reduceIte, Value.oneCell', rowI_length, rowI_take, rowI_splice, rep_all, row_zero, le_nat, Int.toNat_natCast, Nat.zero_add, sok_row, reduceCtorEq]
      have hb : ∀ m, (0 ≤ refW S K n m) = True ∧ (refW S K n m < 256) = True ∧ (rowI .u8 256 S)[(refW S K n m).toNat]? = some (Sum.inl (Value.int .u8 (S (refW S K n m).toNat))) := fun m => by
        have := hW m
        exact ⟨by simp; exact this.1, by simp; exact this.2, rowI_get .u8 256 S _ (by omega)⟩
      obtain ⟨x1, x2, x3⟩ := hb (n - 3)
      obtain ⟨y1, y2, y3⟩ := hb (n - 4)
      obtain ⟨z1, z2, z3⟩ := hb (n - 7)
      by_cases c4 : n % 32 < 4
      · have e4 : decide (((n % 32 : Nat) : Int) < 4) = true := by simp; omega
        by_cases c3 : n % 4 = 3
        · have e3 : ((((n % 4 : Nat) : Int)) == 3) = true := by rw [c3]; rfl
          have e0 : ((((n % 32 : Nat) : Int)) == 0) = false := by simp; omega
          have d1 : rpB (n + 1) = rpB n := by simp only [rpB]; rw [if_neg (by omega)]
          have d2 : refW S K (n + 1) = upd (refW S K n) n (bitI .xor .u8 (refW S K n (n - 32)) (S (refW S K n (n - 7)).toNat)) := by
            simp only [refW, if_neg h32, rvB, frmB, if_pos c4, if_pos c3, if_pos (Or.inl c4 : n % 32 < 4 ∨ 16 ≤ n % 32 ∧ n % 32 < 20), if_neg (show ¬ n % 32 = 0 by omega)]
          simp only [rem32, rem4, w4, w3, w7, w32, e4, e3, e0, l1, l3, l4, l7, l32, nat_nn, g3, g4, g7, g32, z1, z2, z3, wrapS n (by omega), rowI_splice1 .u8 240 _ n hn, d1, d2, sn_upto, sn_from, slN_def, run_cap, rules, rules2, loopRules, Try.facts, base0, Int.toNat_zero, Nat.reduceAdd, Nat.reduceMul, Nat.reduceSub, Nat.reduceLT, Nat.reduceLeDiff, Nat.reduceEqDiff, Int.reduceLE, Int.reduceLT, Int.reduceToNat, Int.reduceNe, Int.reduceEq, not_false_eq_true, Nat.reduceBEq, Nat.reduceDiv, Int.natCast_zero, Int.natCast_one, Int.reduceAdd, Int.reduceSub, reduceIte, ↓reduceIte, Value.oneCell', rowI_length, rowI_take, rowI_splice, rep_all, row_zero, le_nat, Int.toNat_natCast, Nat.zero_add, sok_row, reduceCtorEq]
          omega
        · have e3 : ((((n % 4 : Nat) : Int)) == 3) = false := by simp; omega
          by_cases c0 : n % 32 = 0
          · have e0 : ((((n % 32 : Nat) : Int)) == 0) = true := by rw [c0]; rfl
            have d1 : rpB (n + 1) = mulB (rpB n) 2 := by simp only [rpB]; rw [if_pos (by omega)]
            have d2 : refW S K (n + 1) = upd (refW S K n) n (bitI .xor .u8 (refW S K n (n - 32)) (bitI .xor .u8 (S (refW S K n (n - 3)).toNat) (IntKind.u8.wrap (rpB n)))) := by
              simp only [refW, if_neg h32, rvB, frmB, if_pos c4, if_neg c3, if_pos (Or.inl c4 : n % 32 < 4 ∨ 16 ≤ n % 32 ∧ n % 32 < 20), if_pos c0]
            simp only [rem32, rem4, w4, w3, w7, w32, e4, e3, e0, l1, l3, l4, l7, l32, nat_nn, g3, g4, g7, g32, x1, x2, x3, wrapS n (by omega), rowI_splice1 .u8 240 _ n hn, d1, d2, sn_upto, sn_from, slN_def, run_cap, rules, rules2, loopRules, Try.facts, base0, Int.toNat_zero, Nat.reduceAdd, Nat.reduceMul, Nat.reduceSub, Nat.reduceLT, Nat.reduceLeDiff, Nat.reduceEqDiff, Int.reduceLE, Int.reduceLT, Int.reduceToNat, Int.reduceNe, Int.reduceEq, not_false_eq_true, Nat.reduceBEq, Nat.reduceDiv, Int.natCast_zero, Int.natCast_one, Int.reduceAdd, Int.reduceSub, reduceIte, ↓reduceIte, Value.oneCell', rowI_length, rowI_take, rowI_splice, rep_all, row_zero, le_nat, Int.toNat_natCast, Nat.zero_add, sok_row, reduceCtorEq]
            refine (product_fun (rpB n) 2 hp (by decide)).vcCall ?_
            simp only [rem32, rem4, w4, w3, w7, w32, e4, e3, e0, l1, l3, l4, l7, l32, nat_nn, g3, g4, g7, g32, x1, x2, x3, wrapS n (by omega), rowI_splice1 .u8 240 _ n hn, d1, d2, sn_upto, sn_from, slN_def, run_cap, rules, rules2, loopRules, Try.facts, base0, Int.toNat_zero, Nat.reduceAdd, Nat.reduceMul, Nat.reduceSub, Nat.reduceLT, Nat.reduceLeDiff, Nat.reduceEqDiff, Int.reduceLE, Int.reduceLT, Int.reduceToNat, Int.reduceNe, Int.reduceEq, not_false_eq_true, Nat.reduceBEq, Nat.reduceDiv, Int.natCast_zero, Int.natCast_one, Int.reduceAdd, Int.reduceSub, reduceIte, ↓reduceIte, Value.oneCell', rowI_length, rowI_take, rowI_splice, rep_all, row_zero, le_nat, Int.toNat_natCast, Nat.zero_add, sok_row, reduceCtorEq]
            exact ⟨by omega, rfl⟩
          · have e0 : ((((n % 32 : Nat) : Int)) == 0) = false := by simp; omega
            have d1 : rpB (n + 1) = rpB n := by simp only [rpB]; rw [if_neg (by omega)]
            have d2 : refW S K (n + 1) = upd (refW S K n) n (bitI .xor .u8 (refW S K n (n - 32)) (S (refW S K n (n - 3)).toNat)) := by
              simp only [refW, if_neg h32, rvB, frmB, if_pos c4, if_neg c3, if_pos (Or.inl c4 : n % 32 < 4 ∨ 16 ≤ n % 32 ∧ n % 32 < 20), if_neg c0]
            simp only [rem32, rem4, w4, w3, w7, w32, e4, e3, e0, l1, l3, l4, l7, l32, nat_nn, g3, g4, g7, g32, x1, x2, x3, wrapS n (by omega), rowI_splice1 .u8 240 _ n hn, d1, d2, sn_upto, sn_from, slN_def, run_cap, rules, rules2, loopRules, Try.facts, base0, Int.toNat_zero, Nat.reduceAdd, Nat.reduceMul, Nat.reduceSub, Nat.reduceLT, Nat.reduceLeDiff, Nat.reduceEqDiff, Int.reduceLE, Int.reduceLT, Int.reduceToNat, Int.reduceNe, Int.reduceEq, not_false_eq_true, Nat.reduceBEq, Nat.reduceDiv, Int.natCast_zero, Int.natCast_one, Int.reduceAdd, Int.reduceSub, reduceIte, ↓reduceIte, Value.oneCell', rowI_length, rowI_take, rowI_splice, rep_all, row_zero, le_nat, Int.toNat_natCast, Nat.zero_add, sok_row, reduceCtorEq]
            omega
      · have e4 : decide (((n % 32 : Nat) : Int) < 4) = false := by simp; omega
        have e0 : ((((n % 32 : Nat) : Int)) == 0) = false := by simp; omega
        have d1 : rpB (n + 1) = rpB n := by simp only [rpB]; rw [if_neg (by omega)]
        by_cases c16 : 16 ≤ n % 32
        · have e16 : decide (16 ≤ ((n % 32 : Nat) : Int)) = true := by simp; omega
          by_cases c20 : n % 32 < 20
          · have e20 : decide (((n % 32 : Nat) : Int) < 20) = true := by simp; omega
            have d2 : refW S K (n + 1) = upd (refW S K n) n (bitI .xor .u8 (refW S K n (n - 32)) (S (refW S K n (n - 4)).toNat)) := by
              simp only [refW, if_neg h32, rvB, frmB, if_neg c4, if_pos (Or.inr ⟨c16, c20⟩ : n % 32 < 4 ∨ 16 ≤ n % 32 ∧ n % 32 < 20), if_neg (show ¬ n % 32 = 0 by omega)]
            simp only [rem32, rem4, w4, w3, w7, w32, e4, e16, e20, e0, l1, l3, l4, l7, l32, nat_nn, g3, g4, g7, g32, y1, y2, y3, wrapS n (by omega), rowI_splice1 .u8 240 _ n hn, d1, d2, sn_upto, sn_from, slN_def, run_cap, rules, rules2, loopRules, Try.facts, base0, Int.toNat_zero, Nat.reduceAdd, Nat.reduceMul, Nat.reduceSub, Nat.reduceLT, Nat.reduceLeDiff, Nat.reduceEqDiff, Int.reduceLE, Int.reduceLT, Int.reduceToNat, Int.reduceNe, Int.reduceEq, not_false_eq_true, Nat.reduceBEq, Nat.reduceDiv, Int.natCast_zero, Int.natCast_one, Int.reduceAdd, Int.reduceSub, reduceIte, ↓reduceIte, Value.oneCell', rowI_length, rowI_take, rowI_splice, rep_all, row_zero, le_nat, Int.toNat_natCast, Nat.zero_add, sok_row, reduceCtorEq]
            omega
          · have e20 : decide (((n % 32 : Nat) : Int) < 20) = false := by simp; omega
            have d2 : refW S K (n + 1) = upd (refW S K n) n (bitI .xor .u8 (refW S K n (n - 32)) (refW S K n (n - 4))) := by
              simp only [refW, if_neg h32, rvB, frmB, if_neg c4, if_neg (show ¬ (n % 32 < 4 ∨ 16 ≤ n % 32 ∧ n % 32 < 20) by omega), if_neg (show ¬ n % 32 = 0 by omega)]
            simp only [rem32, rem4, w4, w3, w7, w32, e4, e16, e20, e0, l1, l3, l4, l7, l32, nat_nn, g3, g4, g7, g32, y1, y2, y3, wrapS n (by omega), rowI_splice1 .u8 240 _ n hn, d1, d2, sn_upto, sn_from, slN_def, run_cap, rules, rules2, loopRules, Try.facts, base0, Int.toNat_zero, Nat.reduceAdd, Nat.reduceMul, Nat.reduceSub, Nat.reduceLT, Nat.reduceLeDiff, Nat.reduceEqDiff, Int.reduceLE, Int.reduceLT, Int.reduceToNat, Int.reduceNe, Int.reduceEq, not_false_eq_true, Nat.reduceBEq, Nat.reduceDiv, Int.natCast_zero, Int.natCast_one, Int.reduceAdd, Int.reduceSub, reduceIte, ↓reduceIte, Value.oneCell', rowI_length, rowI_take, rowI_splice, rep_all, row_zero, le_nat, Int.toNat_natCast, Nat.zero_add, sok_row, reduceCtorEq]
            omega
        · have e16 : decide (16 ≤ ((n % 32 : Nat) : Int)) = false := by simp; omega
          have d2 : refW S K (n + 1) = upd (refW S K n) n (bitI .xor .u8 (refW S K n (n - 32)) (refW S K n (n - 4))) := by
            simp only [refW, if_neg h32, rvB, frmB, if_neg c4, if_neg (show ¬ (n % 32 < 4 ∨ 16 ≤ n % 32 ∧ n % 32 < 20) by omega), if_neg (show ¬ n % 32 = 0 by omega)]
          simp only [rem32, rem4, w4, w3, w7, w32, e4, e16, e0, l1, l3, l4, l7, l32, nat_nn, g3, g4, g7, g32, y1, y2, y3, wrapS n (by omega), rowI_splice1 .u8 240 _ n hn, d1, d2, sn_upto, sn_from, slN_def, run_cap, rules, rules2, loopRules, Try.facts, base0, Int.toNat_zero, Nat.reduceAdd, Nat.reduceMul, Nat.reduceSub, Nat.reduceLT, Nat.reduceLeDiff, Nat.reduceEqDiff, Int.reduceLE, Int.reduceLT, Int.reduceToNat, Int.reduceNe, Int.reduceEq, not_false_eq_true, Nat.reduceBEq, Nat.reduceDiv, Int.natCast_zero, Int.natCast_one, Int.reduceAdd, Int.reduceSub, reduceIte, ↓reduceIte, Value.oneCell', rowI_length, rowI_take, rowI_splice, rep_all, row_zero, le_nat, Int.toNat_natCast, Nat.zero_add, sok_row, reduceCtorEq]
          omega
  · simp only [sn_upto, sn_from, slN_def, run_cap, rules, rules2, loopRules, Try.facts, base0, Int.toNat_zero, Nat.reduceAdd, Nat.reduceMul, Nat.reduceSub, Nat.reduceLT, Nat.reduceLeDiff, Nat.reduceEqDiff, Int.reduceLE, Int.reduceLT, Int.reduceToNat, Int.reduceNe, Int.reduceEq, not_false_eq_true, Nat.reduceBEq, Nat.reduceDiv, Int.natCast_zero, Int.natCast_one, Int.reduceAdd, Int.reduceSub, reduceIte, ↓reduceIte, Value.oneCell', rowI_length, rowI_take, rowI_splice, rep_all, row_zero, le_nat, Int.toNat_natCast, Nat.zero_add, sok_row, reduceCtorEq]
    refine vcIf_no (by decide) ?_
    simp only [sn_upto, sn_from, slN_def, run_cap, rules, rules2, loopRules, Try.facts, base0, Int.toNat_zero, Nat.reduceAdd, Nat.reduceMul, Nat.reduceSub, Nat.reduceLT, Nat.reduceLeDiff, Nat.reduceEqDiff, Int.reduceLE, Int.reduceLT, Int.reduceToNat, Int.reduceNe, Int.reduceEq, not_false_eq_true, Nat.reduceBEq, Nat.reduceDiv, Int.natCast_zero, Int.natCast_one, Int.reduceAdd, Int.reduceSub, reduceIte, ↓reduceIte, Value.oneCell', rowI_length, rowI_take, rowI_splice, rep_all, row_zero, le_nat, Int.toNat_natCast, Nat.zero_add, sok_row, reduceCtorEq]
end Go.Proofs.Ytpplfckcblaoiaa
