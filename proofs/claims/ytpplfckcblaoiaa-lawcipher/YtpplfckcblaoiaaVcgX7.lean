/-
  Functions of the cipher, of the program and of the document.
-/
import Derived.Test.YtpplfckcblaoiaaVcgX6
set_option linter.unusedVariables false
set_option linter.unusedSimpArgs false
namespace Go.Proofs.Ytpplfckcblaoiaa
open Go.Vcg
/-! ### The document's rounds -/
def mvdB (S O : Nat → Int) (i : Nat) : Int := S (O ((i + 4 * (i % 4)) % 16)).toNat
def mxdB (M : Nat → Int) (i : Nat) : Int :=
  bitI .xor .u8 (bitI .xor .u8 (IntKind.u8.wrap (mulB (M i) 2)) (IntKind.u8.wrap (mulB (M (i - i % 4 + (i + 1) % 4)) 3))) (bitI .xor .u8 (M (i - i % 4 + (i + 2) % 4)) (M (i - i % 4 + (i + 3) % 4)))
def refR (B W S : Nat → Int) : Nat → Nat → Int
  | 0 => xorB B W
  | r + 1 => fun i => bitI .xor .u8 (if r + 1 = 14 then mvdB S (refR B W S r) i else mxdB (mvdB S (refR B W S r)) i) (W (16 * (r + 1) + i))
theorem refR_byt (B W S : Nat → Int) : ∀ r, Byt (refR B W S r)
  | 0 => xorB_byt _ _
  | r + 1 => fun i => by simp only [refR]; exact bit_u8_bd .xor _ (W (16 * (r + 1) + i))
set_option maxHeartbeats 16000000 in
set_option maxRecDepth 20000 in
theorem rounds_fun (B W S : Nat → Int) (hS : Byt S) : ∀ r : Nat, r ≤ 14 → Fun Try.prog 33 [Ag (rowI .u8 16 B), Ag (rowI .u8 240 W), Ag (rowI .u8 256 S), I .i64 r] (Ag (rowI .u8 16 (refR B W S r)))
  | 0, _ => by
    refine fun_of_vc Try.func33 rfl (by kernel_rfl) (by simp [Try.ntmps33]) rfl rfl ?_
    simp only [Try.results33, sn_upto, sn_from, slN_def, run_cap, rules, rules2, loopRules, Try.facts, base0, Int.toNat_zero, Nat.reduceAdd, Nat.reduceMul, Nat.reduceSub, Nat.reduceLT, Nat.reduceLeDiff, Nat.reduceEqDiff, Int.reduceLE, Int.reduceLT, Int.reduceToNat, Int.reduceNe, Int.reduceEq, not_false_eq_true, Nat.reduceBEq, Nat.reduceDiv, Int.natCast_zero, Int.natCast_one, Int.reduceAdd, Int.reduceSub, reduceIte, ↓reduceIte, Value.oneCell', rowI_length, rowI_take, rowI_splice, rep_all, row_zero, le_nat, Int.toNat_natCast, Nat.zero_add, sok_row, reduceCtorEq]
    refine vcIf_yes (by simp) ?_
    simp only [sn_upto, sn_from, slN_def, run_cap, rules, rules2, loopRules, Try.facts, base0, Int.toNat_zero, Nat.reduceAdd, Nat.reduceMul, Nat.reduceSub, Nat.reduceLT, Nat.reduceLeDiff, Nat.reduceEqDiff, Int.reduceLE, Int.reduceLT, Int.reduceToNat, Int.reduceNe, Int.reduceEq, not_false_eq_true, Nat.reduceBEq, Nat.reduceDiv, Int.natCast_zero, Int.natCast_one, Int.reduceAdd, Int.reduceSub, reduceIte, ↓reduceIte, Value.oneCell', rowI_length, rowI_take, rowI_splice, rep_all, row_zero, le_nat, Int.toNat_natCast, Nat.zero_add, sok_row, reduceCtorEq]
    refine loop_count 16 (fun k => [(4, Ptr 0 0), (5, Ptr 1 0), (8, Ptr 3 0), (9, I .i64 k)])
      (fun k => [(0, ⟨true, rowI .u8 16 (fun i => if i < k then xorB B W i else B i)⟩), (1, ⟨true, rowI .u8 240 W⟩), (3, ⟨true, rowI .u8 16 (fun _ => 0)⟩)]) _ ?_ ?_ ?_
    · simp only [sok_row, Nat.not_lt_zero, if_false, sn_upto, sn_from, slN_def, run_cap, rules, rules2, loopRules, Try.facts, base0, Int.toNat_zero, Nat.reduceAdd, Nat.reduceMul, Nat.reduceSub, Nat.reduceLT, Nat.reduceLeDiff, Nat.reduceEqDiff, Int.reduceLE, Int.reduceLT, Int.reduceToNat, Int.reduceNe, Int.reduceEq, not_false_eq_true, Nat.reduceBEq, Nat.reduceDiv, Int.natCast_zero, Int.natCast_one, Int.reduceAdd, Int.reduceSub, reduceIte, ↓reduceIte, Value.oneCell', rowI_length, rowI_take, rowI_splice, rep_all, row_zero, le_nat, Int.toNat_natCast, Nat.zero_add, sok_row, reduceCtorEq]
    · intro k hk
      have l1 : ((k : Int) < 16) = True := lt_nat (m := 16) hk
      have l2 : ((k : Int) < 240) = True := eq_true (by omega)
      simp only [sn_upto, sn_from, slN_def, run_cap, rules, rules2, loopRules, Try.facts, base0, Int.toNat_zero, Nat.reduceAdd, Nat.reduceMul, Nat.reduceSub, Nat.reduceLT, Nat.reduceLeDiff, Nat.reduceEqDiff, Int.reduceLE, Int.reduceLT, Int.reduceToNat, Int.reduceNe, Int.reduceEq, not_false_eq_true, Nat.reduceBEq, Nat.reduceDiv, Int.natCast_zero, Int.natCast_one, Int.reduceAdd, Int.reduceSub, reduceIte, ↓reduceIte, Value.oneCell', rowI_length, rowI_take, rowI_splice, rep_all, row_zero, le_nat, Int.toNat_natCast, Nat.zero_add, sok_row, reduceCtorEq]
      refine vcIf_yes (by simp; omega) ?_
      simp only [l1, l2, nat_nn, rowI_get .u8 16 _ k hk, rowI_get .u8 240 _ k (by omega), Nat.lt_irrefl, if_false, rowI_splice1 .u8 16 _ k hk, wrapS k (by omega), sn_upto, sn_from, slN_def, run_cap, rules, rules2, loopRules, Try.facts, base0, Int.toNat_zero, Nat.reduceAdd, Nat.reduceMul, Nat.reduceSub, Nat.reduceLT, Nat.reduceLeDiff, Nat.reduceEqDiff, Int.reduceLE, Int.reduceLT, Int.reduceToNat, Int.reduceNe, Int.reduceEq, not_false_eq_true, Nat.reduceBEq, Nat.reduceDiv, Int.natCast_zero, Int.natCast_one, Int.reduceAdd, Int.reduceSub, reduceIte, ↓reduceIte, Value.oneCell', rowI_length, rowI_take, rowI_splice, rep_all, row_zero, le_nat, Int.toNat_natCast, Nat.zero_add, sok_row, reduceCtorEq]
      exact ⟨by kernel_rfl, by omega, congrArg (fun c => some (Box.mk true c)) (row_upto2 (f := xorB B W) (g := B))⟩
    · simp only [sn_upto, sn_from, slN_def, run_cap, rules, rules2, loopRules, Try.facts, base0, Int.toNat_zero, Nat.reduceAdd, Nat.reduceMul, Nat.reduceSub, Nat.reduceLT, Nat.reduceLeDiff, Nat.reduceEqDiff, Int.reduceLE, Int.reduceLT, Int.reduceToNat, Int.reduceNe, Int.reduceEq, not_false_eq_true, Nat.reduceBEq, Nat.reduceDiv, Int.natCast_zero, Int.natCast_one, Int.reduceAdd, Int.reduceSub, reduceIte, ↓reduceIte, Value.oneCell', rowI_length, rowI_take, rowI_splice, rep_all, row_zero, le_nat, Int.toNat_natCast, Nat.zero_add, sok_row, reduceCtorEq]
      refine vcIf_no (by decide) ?_
      simp only [row_all, sn_upto, sn_from, slN_def, run_cap, rules, rules2, loopRules, Try.facts, base0, Int.toNat_zero, Nat.reduceAdd, Nat.reduceMul, Nat.reduceSub, Nat.reduceLT, Nat.reduceLeDiff, Nat.reduceEqDiff, Int.reduceLE, Int.reduceLT, Int.reduceToNat, Int.reduceNe, Int.reduceEq, not_false_eq_true, Nat.reduceBEq, Nat.reduceDiv, Int.natCast_zero, Int.natCast_one, Int.reduceAdd, Int.reduceSub, reduceIte, ↓reduceIte, Value.oneCell', rowI_length, rowI_take, rowI_splice, rep_all, row_zero, le_nat, Int.toNat_natCast, Nat.zero_add, sok_row, reduceCtorEq]
      rfl
  | r + 1, hr => by
    have ih := rounds_fun B W S hS r (by omega)
    have hO := refR_byt B W S r
    have wr : IntKind.i64.wrap (((r + 1 : Nat) : Int) - 1) = (r : Int) := by rw [wrap_i64 _ (by omega) (by omega)]; omega
    refine fun_of_vc Try.func33 rfl (by kernel_rfl) (by simp [Try.ntmps33]) rfl rfl ?_
    simp only [Try.results33, sn_upto, sn_from, slN_def, run_cap, rules, rules2, loopRules, Try.facts, base0, Int.toNat_zero, Nat.reduceAdd, Nat.reduceMul, Nat.reduceSub, Nat.reduceLT, Nat.reduceLeDiff, Nat.reduceEqDiff, Int.reduceLE, Int.reduceLT, Int.reduceToNat, Int.reduceNe, Int.reduceEq, not_false_eq_true, Nat.reduceBEq, Nat.reduceDiv, Int.natCast_zero, Int.natCast_one, Int.reduceAdd, Int.reduceSub, reduceIte, ↓reduceIte, Value.oneCell', rowI_length, rowI_take, rowI_splice, rep_all, row_zero, le_nat, Int.toNat_natCast, Nat.zero_add, sok_row, reduceCtorEq]
    refine vcIf_no (by simp) ?_
    simp only [wr, sn_upto, sn_from, slN_def, run_cap, rules, rules2, loopRules, Try.facts, base0, Int.toNat_zero, Nat.reduceAdd, Nat.reduceMul, Nat.reduceSub, Nat.reduceLT, Nat.reduceLeDiff, Nat.reduceEqDiff, Int.reduceLE, Int.reduceLT, Int.reduceToNat, Int.reduceNe, Int.reduceEq, not_false_eq_true, Nat.reduceBEq, Nat.reduceDiv, Int.natCast_zero, Int.natCast_one, Int.reduceAdd, Int.reduceSub, reduceIte, ↓reduceIte, Value.oneCell', rowI_length, rowI_take, rowI_splice, rep_all, row_zero, le_nat, Int.toNat_natCast, Nat.zero_add, sok_row, reduceCtorEq]
    refine ih.vcCall ?_
    generalize hOe : refR B W S r = O at *
    simp only [sn_upto, sn_from, slN_def, run_cap, rules, rules2, loopRules, Try.facts, base0, Int.toNat_zero, Nat.reduceAdd, Nat.reduceMul, Nat.reduceSub, Nat.reduceLT, Nat.reduceLeDiff, Nat.reduceEqDiff, Int.reduceLE, Int.reduceLT, Int.reduceToNat, Int.reduceNe, Int.reduceEq, not_false_eq_true, Nat.reduceBEq, Nat.reduceDiv, Int.natCast_zero, Int.natCast_one, Int.reduceAdd, Int.reduceSub, reduceIte, ↓reduceIte, Value.oneCell', rowI_length, rowI_take, rowI_splice, rep_all, row_zero, le_nat, Int.toNat_natCast, Nat.zero_add, sok_row, reduceCtorEq]
    refine loop_count 16 (fun k => [(3, I .i64 ((r + 1 : Nat) : Int)), (5, Ptr 1 0), (6, Ptr 2 0), (8, Ptr 3 0), (10, Ptr 12 0), (11, Ptr 14 0), (12, Ptr 15 0), (13, I .i64 k)])
      (fun k => [(1, ⟨true, rowI .u8 240 W⟩), (2, ⟨true, rowI .u8 256 S⟩), (3, ⟨true, rowI .u8 16 (fun _ => 0)⟩), (12, ⟨true, rowI .u8 16 O⟩), (14, ⟨true, rowI .u8 16 (fun i => if i < k then mvdB S O i else 0)⟩), (15, ⟨true, rowI .u8 16 (fun _ => 0)⟩)]) _ ?_ ?_ ?_
    · simp only [sok_row, Nat.not_lt_zero, if_false, sn_upto, sn_from, slN_def, run_cap, rules, rules2, loopRules, Try.facts, base0, Int.toNat_zero, Nat.reduceAdd, Nat.reduceMul, Nat.reduceSub, Nat.reduceLT, Nat.reduceLeDiff, Nat.reduceEqDiff, Int.reduceLE, Int.reduceLT, Int.reduceToNat, Int.reduceNe, Int.reduceEq, not_false_eq_true, Nat.reduceBEq, Nat.reduceDiv, Int.natCast_zero, Int.natCast_one, Int.reduceAdd, Int.reduceSub, reduceIte, ↓reduceIte, Value.oneCell', rowI_length, rowI_take, rowI_splice, rep_all, row_zero, le_nat, Int.toNat_natCast, Nat.zero_add, sok_row, reduceCtorEq]
    · intro k hk
      have e : (IntKind.i64.wrap ((k : Int) + IntKind.i64.wrap (4 * ((k : Int).tmod 4)))).tmod 16 = (((k + 4 * (k % 4)) % 16 : Nat) : Int) := by
        have h1 : ((k : Int).tmod 4) = ((k % 4 : Nat) : Int) := rem4 k
        rw [h1, wrap_i64 (4 * ((k % 4 : Nat) : Int)) (by omega) (by omega), wrap_i64 _ (by omega) (by omega), Int.tmod_eq_emod_of_nonneg (by omega)]
        omega
      have hm : (k + 4 * (k % 4)) % 16 < 16 := Nat.mod_lt _ (by decide)
      have lm : ((((k + 4 * (k % 4)) % 16 : Nat) : Int) < 16) = True := by simp; omega
      have l1 : ((k : Int) < 16) = True := lt_nat (m := 16) hk
      have hb := hO ((k + 4 * (k % 4)) % 16)
      have h1 : (0 ≤ O ((k + 4 * (k % 4)) % 16)) = True := by simp; exact hb.1
      have h2 : (O ((k + 4 * (k % 4)) % 16) < 256) = True := by simp; exact hb.2
      have h3 : (O ((k + 4 * (k % 4)) % 16)).toNat < 256 := by omega
      have fin : rowI .u8 16 (upd (fun i => if i < k then mvdB S O i else 0) k (mvdB S O k)) = rowI .u8 16 (fun i => if i < k + 1 then mvdB S O i else 0) := row_upto
      simp only [sn_upto, sn_from, slN_def, run_cap, rules, rules2, loopRules, Try.facts, base0, Int.toNat_zero, Nat.reduceAdd, Nat.reduceMul, Nat.reduceSub, Nat.reduceLT, Nat.reduceLeDiff, Nat.reduceEqDiff, Int.reduceLE, Int.reduceLT, Int.reduceToNat, Int.reduceNe, Int.reduceEq, not_false_eq_true, Nat.reduceBEq, Nat.reduceDiv, Int.natCast_zero, Int.natCast_one, Int.reduceAdd, Int.reduceSub, reduceIte, ↓reduceIte, Value.oneCell', rowI_length, rowI_take, rowI_splice, rep_all, row_zero, le_nat, Int.toNat_natCast, Nat.zero_add, sok_row, reduceCtorEq]
      refine vcIf_yes (by simp; omega) ?_
      simp only [e, l1, lm, h1, h2, nat_nn, rowI_get .u8 16 _ _ hm, rowI_get .u8 256 _ _ h3, rowI_splice1 .u8 16 _ k hk, wrapS k (by omega), sn_upto, sn_from, slN_def, run_cap, rules, rules2, loopRules, Try.facts, base0, Int.toNat_zero, Nat.reduceAdd, Nat.reduceMul, Nat.reduceSub, Nat.reduceLT, Nat.reduceLeDiff, Nat.reduceEqDiff, Int.reduceLE, Int.reduceLT, Int.reduceToNat, Int.reduceNe, Int.reduceEq, not_false_eq_true, Nat.reduceBEq, Nat.reduceDiv, Int.natCast_zero, Int.natCast_one, Int.reduceAdd, Int.reduceSub, reduceIte, ↓reduceIte, Value.oneCell', rowI_length, rowI_take, rowI_splice, rep_all, row_zero, le_nat, Int.toNat_natCast, Nat.zero_add, sok_row, reduceCtorEq]
      exact ⟨by omega, congrArg (fun c => some (Box.mk true c)) fin⟩
    · simp only [sn_upto, sn_from, slN_def, run_cap, rules, rules2, loopRules, Try.facts, base0, Int.toNat_zero, Nat.reduceAdd, Nat.reduceMul, Nat.reduceSub, Nat.reduceLT, Nat.reduceLeDiff, Nat.reduceEqDiff, Int.reduceLE, Int.reduceLT, Int.reduceToNat, Int.reduceNe, Int.reduceEq, not_false_eq_true, Nat.reduceBEq, Nat.reduceDiv, Int.natCast_zero, Int.natCast_one, Int.reduceAdd, Int.reduceSub, reduceIte, ↓reduceIte, Value.oneCell', rowI_length, rowI_take, rowI_splice, rep_all, row_zero, le_nat, Int.toNat_natCast, Nat.zero_add, sok_row, reduceCtorEq]
      refine vcIf_no (by decide) ?_
      simp only [row_all, sn_upto, sn_from, slN_def, run_cap, rules, rules2, loopRules, Try.facts, base0, Int.toNat_zero, Nat.reduceAdd, Nat.reduceMul, Nat.reduceSub, Nat.reduceLT, Nat.reduceLeDiff, Nat.reduceEqDiff, Int.reduceLE, Int.reduceLT, Int.reduceToNat, Int.reduceNe, Int.reduceEq, not_false_eq_true, Nat.reduceBEq, Nat.reduceDiv, Int.natCast_zero, Int.natCast_one, Int.reduceAdd, Int.reduceSub, reduceIte, ↓reduceIte, Value.oneCell', rowI_length, rowI_take, rowI_splice, rep_all, row_zero, le_nat, Int.toNat_natCast, Nat.zero_add, sok_row, reduceCtorEq]
      have hM : Byt (mvdB S O) := fun i => hS _
      generalize hMe : mvdB S O = M at *
      refine loop_count 16 (fun k => [(3, I .i64 ((r + 1 : Nat) : Int)), (5, Ptr 1 0), (8, Ptr 3 0), (11, Ptr 14 0), (12, Ptr 15 0), (14, I .i64 k)])
        (fun k => [(1, ⟨true, rowI .u8 240 W⟩), (3, ⟨true, rowI .u8 16 (fun _ => 0)⟩), (14, ⟨true, rowI .u8 16 M⟩), (15, ⟨true, rowI .u8 16 (fun i => if i < k then refR B W S (r + 1) i else 0)⟩)]) _ ?_ ?_ ?_
      · simp only [sok_row, Nat.not_lt_zero, if_false, sn_upto, sn_from, slN_def, run_cap, rules, rules2, loopRules, Try.facts, base0, Int.toNat_zero, Nat.reduceAdd, Nat.reduceMul, Nat.reduceSub, Nat.reduceLT, Nat.reduceLeDiff, Nat.reduceEqDiff, Int.reduceLE, Int.reduceLT, Int.reduceToNat, Int.reduceNe, Int.reduceEq, not_false_eq_true, Nat.reduceBEq, Nat.reduceDiv, Int.natCast_zero, Int.natCast_one, Int.reduceAdd, Int.reduceSub, reduceIte, ↓reduceIte, Value.oneCell', rowI_length, rowI_take, rowI_splice, rep_all, row_zero, le_nat, Int.toNat_natCast, Nat.zero_add, sok_row, reduceCtorEq]
      · intro k hk
        have l1 : ((k : Int) < 16) = True := lt_nat (m := 16) hk
        have wc : IntKind.i64.wrap ((k : Int) - ((k % 4 : Nat) : Int)) = ((k - k % 4 : Nat) : Int) := by rw [wrap_i64 _ (by omega) (by omega)]; omega
        have p1 : IntKind.i64.wrap ((k : Int) + 1) = ((k + 1 : Nat) : Int) := wrapS k (by omega)
        have p2 : IntKind.i64.wrap ((k : Int) + 2) = ((k + 2 : Nat) : Int) := by rw [wrap_i64 _ (by omega) (by omega)]; omega
        have p3 : IntKind.i64.wrap ((k : Int) + 3) = ((k + 3 : Nat) : Int) := by rw [wrap_i64 _ (by omega) (by omega)]; omega
        have pd : ∀ d, IntKind.i64.wrap (((k - k % 4 : Nat) : Int) + (((k + d) % 4 : Nat) : Int)) = ((k - k % 4 + (k + d) % 4 : Nat) : Int) := fun d => by rw [wrap_i64 _ (by omega) (by omega)]; omega
        have ld : ∀ d, (((k - k % 4 + (k + d) % 4 : Nat) : Int) < 16) = True := fun d => eq_true (by omega)
        have gd : ∀ d, (rowI .u8 16 M)[k - k % 4 + (k + d) % 4]? = some (Sum.inl (Value.int .u8 (M (k - k % 4 + (k + d) % 4)))) := fun d => rowI_get .u8 16 M _ (by omega)
        have wM : ∀ m, IntKind.i64.wrap (M m) = M m := fun m => by have := hM m; rw [wrap_i64 _ (by omega) (by omega)]
        have w16 : IntKind.i64.wrap (16 * ((r + 1 : Nat) : Int)) = ((16 * (r + 1) : Nat) : Int) := by rw [wrap_i64 _ (by omega) (by omega)]; omega
        have wrk : IntKind.i64.wrap (((16 * (r + 1) : Nat) : Int) + (k : Int)) = ((16 * (r + 1) + k : Nat) : Int) := by rw [wrap_i64 _ (by omega) (by omega)]; omega
        have lrk : (((16 * (r + 1) + k : Nat) : Int) < 240) = True := eq_true (by omega)
        have grk : (rowI .u8 240 W)[16 * (r + 1) + k]? = some (Sum.inl (Value.int .u8 (W (16 * (r + 1) + k)))) := rowI_get .u8 240 W _ (by omega)
        have em : bitI .xor .u8 (bitI .xor .u8 (IntKind.u8.wrap (prodS (M k) 2 8).2.2) (IntKind.u8.wrap (prodS (M (k - k % 4 + (k + 1) % 4)) 3 8).2.2)) (bitI .xor .u8 (M (k - k % 4 + (k + 2) % 4)) (M (k - k % 4 + (k + 3) % 4))) = mxdB M k := rfl
        have uu : ∀ (f : Nat → Int) (x y : Int), upd (upd f k x) k y = upd f k y := fun f x y => by funext m; simp only [upd]; split <;> rfl
        simp only [sn_upto, sn_from, slN_def, run_cap, rules, rules2, loopRules, Try.facts, base0, Int.toNat_zero, Nat.reduceAdd, Nat.reduceMul, Nat.reduceSub, Nat.reduceLT, Nat.reduceLeDiff, Nat.reduceEqDiff, Int.reduceLE, Int.reduceLT, Int.reduceToNat, Int.reduceNe, Int.reduceEq, not_false_eq_true, Nat.reduceBEq, Nat.reduceDiv, Int.natCast_zero, Int.natCast_one, Int.reduceAdd, Int.reduceSub, reduceIte, ↓reduceIte, Value.oneCell', rowI_length, rowI_take, rowI_splice, rep_all, row_zero, le_nat, Int.toNat_natCast, Nat.zero_add, sok_row, reduceCtorEq]
        refine vcIf_yes (by simp; omega) ?_
        simp only [rem4, l1, nat_nn, rowI_get .u8 16 _ k hk, wc, p1, p2, p3, pd, ld, gd, wM, sn_upto, sn_from, slN_def, run_cap, rules, rules2, loopRules, Try.facts, base0, Int.toNat_zero, Nat.reduceAdd, Nat.reduceMul, Nat.reduceSub, Nat.reduceLT, Nat.reduceLeDiff, Nat.reduceEqDiff, Int.reduceLE, Int.reduceLT, Int.reduceToNat, Int.reduceNe, Int.reduceEq, not_false_eq_true, Nat.reduceBEq, Nat.reduceDiv, Int.natCast_zero, Int.natCast_one, Int.reduceAdd, Int.reduceSub, reduceIte, ↓reduceIte, Value.oneCell', rowI_length, rowI_take, rowI_splice, rep_all, row_zero, le_nat, Int.toNat_natCast, Nat.zero_add, sok_row, reduceCtorEq]
        refine ⟨by kernel_rfl, ?_⟩
        refine (product_fun (M k) 2 (hM k) (by decide)).vcCall ?_
        simp only [wM, sn_upto, sn_from, slN_def, run_cap, rules, rules2, loopRules, Try.facts, base0, Int.toNat_zero, Nat.reduceAdd, Nat.reduceMul, Nat.reduceSub, Nat.reduceLT, Nat.reduceLeDiff, Nat.reduceEqDiff, Int.reduceLE, Int.reduceLT, Int.reduceToNat, Int.reduceNe, Int.reduceEq, not_false_eq_true, Nat.reduceBEq, Nat.reduceDiv, Int.natCast_zero, Int.natCast_one, Int.reduceAdd, Int.reduceSub, reduceIte, ↓reduceIte, Value.oneCell', rowI_length, rowI_take, rowI_splice, rep_all, row_zero, le_nat, Int.toNat_natCast, Nat.zero_add, sok_row, reduceCtorEq]
        refine (product_fun (M (k - k % 4 + (k + 1) % 4)) 3 (hM _) (by decide)).vcCall ?_
        simp only [em, l1, nat_nn, rowI_splice1 .u8 16 _ k hk, sn_upto, sn_from, slN_def, run_cap, rules, rules2, loopRules, Try.facts, base0, Int.toNat_zero, Nat.reduceAdd, Nat.reduceMul, Nat.reduceSub, Nat.reduceLT, Nat.reduceLeDiff, Nat.reduceEqDiff, Int.reduceLE, Int.reduceLT, Int.reduceToNat, Int.reduceNe, Int.reduceEq, not_false_eq_true, Nat.reduceBEq, Nat.reduceDiv, Int.natCast_zero, Int.natCast_one, Int.reduceAdd, Int.reduceSub, reduceIte, ↓reduceIte, Value.oneCell', rowI_length, rowI_take, rowI_splice, rep_all, row_zero, le_nat, Int.toNat_natCast, Nat.zero_add, sok_row, reduceCtorEq]
        refine ⟨by omega, ?_⟩
        by_cases h14 : r + 1 = 14
        · have e14 : (((r + 1 : Nat) : Int) == 14) = true := by rw [h14]; rfl
          have ev : refR B W S (r + 1) k = bitI .xor .u8 (M k) (W (16 * (r + 1) + k)) := by simp only [refR, if_pos h14, hOe, hMe]
          have fin : rowI .u8 16 (upd (fun i => if i < k then refR B W S (r + 1) i else 0) k (refR B W S (r + 1) k)) = rowI .u8 16 (fun i => if i < k + 1 then refR B W S (r + 1) i else 0) := row_upto
          rw [ev] at fin
          simp only [e14, l1, nat_nn, rowI_get .u8 16 _ k hk, rowI_splice1 .u8 16 _ k hk, upd_same, uu, w16, wrk, lrk, grk, p1, fin, sn_upto, sn_from, slN_def, run_cap, rules, rules2, loopRules, Try.facts, base0, Int.toNat_zero, Nat.reduceAdd, Nat.reduceMul, Nat.reduceSub, Nat.reduceLT, Nat.reduceLeDiff, Nat.reduceEqDiff, Int.reduceLE, Int.reduceLT, Int.reduceToNat, Int.reduceNe, Int.reduceEq, not_false_eq_true, Nat.reduceBEq, Nat.reduceDiv, Int.natCast_zero, Int.natCast_one, Int.reduceAdd, Int.reduceSub, reduceIte, ↓reduceIte, Value.oneCell', rowI_length, rowI_take, rowI_splice, rep_all, row_zero, le_nat, Int.toNat_natCast, Nat.zero_add, sok_row, reduceCtorEq]
          exact ⟨by omega, by kernel_rfl, by omega⟩
        · have e14 : (((r + 1 : Nat) : Int) == 14) = false := by simp; omega
          have ev : refR B W S (r + 1) k = bitI .xor .u8 (mxdB M k) (W (16 * (r + 1) + k)) := by simp only [refR, if_neg h14, hOe, hMe]
          have fin : rowI .u8 16 (upd (fun i => if i < k then refR B W S (r + 1) i else 0) k (refR B W S (r + 1) k)) = rowI .u8 16 (fun i => if i < k + 1 then refR B W S (r + 1) i else 0) := row_upto
          rw [ev] at fin
          simp only [e14, l1, nat_nn, rowI_get .u8 16 _ k hk, rowI_splice1 .u8 16 _ k hk, upd_same, uu, w16, wrk, lrk, grk, p1, fin, sn_upto, sn_from, slN_def, run_cap, rules, rules2, loopRules, Try.facts, base0, Int.toNat_zero, Nat.reduceAdd, Nat.reduceMul, Nat.reduceSub, Nat.reduceLT, Nat.reduceLeDiff, Nat.reduceEqDiff, Int.reduceLE, Int.reduceLT, Int.reduceToNat, Int.reduceNe, Int.reduceEq, not_false_eq_true, Nat.reduceBEq, Nat.reduceDiv, Int.natCast_zero, Int.natCast_one, Int.reduceAdd, Int.reduceSub, reduceIte, ↓reduceIte, Value.oneCell', rowI_length, rowI_take, rowI_splice, rep_all, row_zero, le_nat, Int.toNat_natCast, Nat.zero_add, sok_row, reduceCtorEq]
          exact ⟨by kernel_rfl, by omega⟩
      · simp only [sn_upto, sn_from, slN_def, run_cap, rules, rules2, loopRules, Try.facts, base0, Int.toNat_zero, Nat.reduceAdd, Nat.reduceMul, Nat.reduceSub, Nat.reduceLT, Nat.reduceLeDiff, Nat.reduceEqDiff, Int.reduceLE, Int.reduceLT, Int.reduceToNat, Int.reduceNe, Int.reduceEq, not_false_eq_true, Nat.reduceBEq, Nat.reduceDiv, Int.natCast_zero, Int.natCast_one, Int.reduceAdd, Int.reduceSub, reduceIte, ↓reduceIte, Value.oneCell', rowI_length, rowI_take, rowI_splice, rep_all, row_zero, le_nat, Int.toNat_natCast, Nat.zero_add, sok_row, reduceCtorEq]
        refine vcIf_no (by decide) ?_
        simp only [row_all, sn_upto, sn_from, slN_def, run_cap, rules, rules2, loopRules, Try.facts, base0, Int.toNat_zero, Nat.reduceAdd, Nat.reduceMul, Nat.reduceSub, Nat.reduceLT, Nat.reduceLeDiff, Nat.reduceEqDiff, Int.reduceLE, Int.reduceLT, Int.reduceToNat, Int.reduceNe, Int.reduceEq, not_false_eq_true, Nat.reduceBEq, Nat.reduceDiv, Int.natCast_zero, Int.natCast_one, Int.reduceAdd, Int.reduceSub, reduceIte, ↓reduceIte, Value.oneCell', rowI_length, rowI_take, rowI_splice, rep_all, row_zero, le_nat, Int.toNat_natCast, Nat.zero_add, sok_row, reduceCtorEq]
set_option maxHeartbeats 4000000 in
set_option maxRecDepth 20000 in
theorem refAes_fun (K B : Nat → Int) (hK : Byt K) (hS : Byt boxB) : Fun Try.prog 12 [Ag (rowI .u8 32 K), Ag (rowI .u8 16 B)] (Ag (rowI .u8 16 (refR B (refW boxB K 240) boxB 14))) := by
  refine fun_of_vc Try.func12 rfl (by kernel_rfl) (by simp [Try.ntmps12]) rfl rfl ?_
  simp only [Try.results12, sn_upto, sn_from, slN_def, run_cap, rules, rules2, loopRules, Try.facts, base0, Int.toNat_zero, Nat.reduceAdd, Nat.reduceMul, Nat.reduceSub, Nat.reduceLT, Nat.reduceLeDiff, Nat.reduceEqDiff, Int.reduceLE, Int.reduceLT, Int.reduceToNat, Int.reduceNe, Int.reduceEq, not_false_eq_true, Nat.reduceBEq, Nat.reduceDiv, Int.natCast_zero, Int.natCast_one, Int.reduceAdd, Int.reduceSub, reduceIte, ↓reduceIte, Value.oneCell', rowI_length, rowI_take, rowI_splice, rep_all, row_zero, le_nat, Int.toNat_natCast, Nat.zero_add, sok_row, reduceCtorEq]
  refine box_fun.vcCall ?_
  simp only [sn_upto, sn_from, slN_def, run_cap, rules, rules2, loopRules, Try.facts, base0, Int.toNat_zero, Nat.reduceAdd, Nat.reduceMul, Nat.reduceSub, Nat.reduceLT, Nat.reduceLeDiff, Nat.reduceEqDiff, Int.reduceLE, Int.reduceLT, Int.reduceToNat, Int.reduceNe, Int.reduceEq, not_false_eq_true, Nat.reduceBEq, Nat.reduceDiv, Int.natCast_zero, Int.natCast_one, Int.reduceAdd, Int.reduceSub, reduceIte, ↓reduceIte, Value.oneCell', rowI_length, rowI_take, rowI_splice, rep_all, row_zero, le_nat, Int.toNat_natCast, Nat.zero_add, sok_row, reduceCtorEq]
  refine (refSchedule_fun K boxB hK).vcCall ?_
  simp only [sn_upto, sn_from, slN_def, run_cap, rules, rules2, loopRules, Try.facts, base0, Int.toNat_zero, Nat.reduceAdd, Nat.reduceMul, Nat.reduceSub, Nat.reduceLT, Nat.reduceLeDiff, Nat.reduceEqDiff, Int.reduceLE, Int.reduceLT, Int.reduceToNat, Int.reduceNe, Int.reduceEq, not_false_eq_true, Nat.reduceBEq, Nat.reduceDiv, Int.natCast_zero, Int.natCast_one, Int.reduceAdd, Int.reduceSub, reduceIte, ↓reduceIte, Value.oneCell', rowI_length, rowI_take, rowI_splice, rep_all, row_zero, le_nat, Int.toNat_natCast, Nat.zero_add, sok_row, reduceCtorEq]
  refine (rounds_fun B (refW boxB K 240) boxB hS 14 (by decide)).vcCall ?_
  simp only [sn_upto, sn_from, slN_def, run_cap, rules, rules2, loopRules, Try.facts, base0, Int.toNat_zero, Nat.reduceAdd, Nat.reduceMul, Nat.reduceSub, Nat.reduceLT, Nat.reduceLeDiff, Nat.reduceEqDiff, Int.reduceLE, Int.reduceLT, Int.reduceToNat, Int.reduceNe, Int.reduceEq, not_false_eq_true, Nat.reduceBEq, Nat.reduceDiv, Int.natCast_zero, Int.natCast_one, Int.reduceAdd, Int.reduceSub, reduceIte, ↓reduceIte, Value.oneCell', rowI_length, rowI_take, rowI_splice, rep_all, row_zero, le_nat, Int.toNat_natCast, Nat.zero_add, sok_row, reduceCtorEq]
end Go.Proofs.Ytpplfckcblaoiaa
