/-
  Functions of the cipher, of the program and of the document.
-/
import Derived.Test.YtpplfckcblaoiaaVcgX3
set_option linter.unusedVariables false
set_option linter.unusedSimpArgs false
namespace Go.Proofs.Ytpplfckcblaoiaa
open Go.Vcg
/-! ### The program's key schedule -/
theorem rem4 (t : Nat) : (t : Int).tmod 4 = ((t % 4 : Nat) : Int) := (Int.ofNat_tmod t 4).symm
theorem quo4 (t : Nat) (h : t < 9223372036854775808) : IntKind.i64.wrap ((t : Int).tdiv 4) = ((t / 4 : Nat) : Int) := quoN t 4 h
theorem nat_nn (t : Nat) : (0 ≤ (t : Int)) = True := by simp
theorem zero4 (f : Nat → Int) : splice [Sum.inl (Value.int IntKind.u8 0), Sum.inl (Value.int IntKind.u8 0), Sum.inl (Value.int IntKind.u8 0), Sum.inl (Value.int IntKind.u8 0)] 0 (rowI .u8 4 f) = rowI .u8 4 f := rfl
theorem four_row (f : Nat → Int) : [Sum.inl (Value.int IntKind.u8 (f 0)), Sum.inl (Value.int IntKind.u8 (f 1)), Sum.inl (Value.int IntKind.u8 (f 2)), Sum.inl (Value.int IntKind.u8 (f 3))] = rowI .u8 4 f := rfl
theorem build4 (f : Nat → Int) : splice (splice (splice (splice [Sum.inl (Value.int IntKind.u8 0), Sum.inl (Value.int IntKind.u8 0), Sum.inl (Value.int IntKind.u8 0), Sum.inl (Value.int IntKind.u8 0)] 0 [Sum.inl (Value.int .u8 (f 0))])
    1 [Sum.inl (Value.int .u8 (f 1))]) 2 [Sum.inl (Value.int .u8 (f 2))]) 3 [Sum.inl (Value.int .u8 (f 3))] = rowI .u8 4 f := rfl
def lokB (C : Nat → Int) (x : Int) : Int := C x.toNat
/-- The word that is joined at word i. -/
def tmpB (C W : Nat → Int) (p : Int) (i j : Nat) : Int :=
  if i % 8 = 0 then (if j = 0 then bitI .xor .u8 (lokB C (W (4 * (i - 1) + 1))) p else lokB C (W (4 * (i - 1) + (j + 1) % 4)))
  else if i % 8 = 4 then lokB C (W (4 * (i - 1) + j)) else W (4 * (i - 1) + j)
def pwB : Nat → Int
  | 0 => 1
  | k + 1 => if (8 + k) % 8 = 0 then dblB (pwB k) else pwB k
/-- The words behind k rounds. -/
def schW (C K : Nat → Int) : Nat → Nat → Int
  | 0 => fun i => if i < 32 then K i else 0
  | k + 1 => fun i => if 4 * (8 + k) ≤ i ∧ i < 4 * (8 + k) + 4 then bitI .xor .u8 (schW C K k (i - 32)) (tmpB C (schW C K k) (pwB k) (8 + k) (i - 4 * (8 + k))) else schW C K k i
theorem schW_byt {C K : Nat → Int} (hK : Byt K) : ∀ k, Byt (schW C K k)
  | 0 => fun i => by
    simp only [schW]; split
    · exact hK i
    · omega
  | k + 1 => fun i => by
    simp only [schW]; split
    · exact bit_u8_bd _ _ _
    · exact schW_byt hK k i
def keyedB (C W : Nat → Int) (m : Nat) : Int := if 256 ≤ m then W (m - 256) else C m
set_option maxHeartbeats 8000000 in
set_option maxRecDepth 20000 in
theorem schedule_m (C K : Nat → Int) (hC : Byt C) (hK : Byt K) : MFun Try.prog 46 [Ptr 0 0, Ag (rowI .u8 32 K)] 1 (lk [(0, ⟨true, rowI .u8 496 C⟩)])
    (fun v out => v = .inr [] ∧ out = lk [(0, ⟨true, rowI .u8 496 (keyedB C (schW C K 52))⟩)]) := by
  refine mfun_of_vc Try.func46 rfl (by kernel_rfl) (by simp [Try.ntmps46]) Try.callable46 (by simp [AV.ok, CV.ok, SV.names]; exact ok_all plainI) all1 (inn1 plainI) ?_
  simp only [Try.results46, sn_upto, sn_from, slN_def, run_cap, rules, rules2, loopRules, Try.facts, base0, Int.toNat_zero, Nat.reduceAdd, Nat.reduceMul, Nat.reduceSub, Nat.reduceLT, Nat.reduceLeDiff, Nat.reduceEqDiff, Int.reduceLE, Int.reduceLT, Int.reduceToNat, Int.reduceNe, Int.reduceEq, not_false_eq_true, Nat.reduceBEq, Nat.reduceDiv, Int.natCast_zero, Int.natCast_one, Int.reduceAdd, Int.reduceSub, reduceIte, ↓reduceIte, Value.oneCell', rowI_length, rowI_take, rowI_splice, rep_all, row_zero, le_nat, Int.toNat_natCast, Nat.zero_add, sok_row, reduceCtorEq]
  refine loop_count 32 (fun k => [(0, Ptr 0 0), (3, Ptr 1 0), (4, Ptr 2 0), (13, Ag (rowI .u8 32 K)), (14, I .i64 k)])
    (fun k => [(0, ⟨true, rowI .u8 496 C⟩), (1, ⟨true, rowI .u8 32 K⟩), (2, ⟨true, rowI .u8 240 (fun i => if i < k then K i else 0)⟩)]) _ ?_ ?_ ?_
  · simp only [sok_row, Nat.not_lt_zero, if_false, sn_upto, sn_from, slN_def, run_cap, rules, rules2, loopRules, Try.facts, base0, Int.toNat_zero, Nat.reduceAdd, Nat.reduceMul, Nat.reduceSub, Nat.reduceLT, Nat.reduceLeDiff, Nat.reduceEqDiff, Int.reduceLE, Int.reduceLT, Int.reduceToNat, Int.reduceNe, Int.reduceEq, not_false_eq_true, Nat.reduceBEq, Nat.reduceDiv, Int.natCast_zero, Int.natCast_one, Int.reduceAdd, Int.reduceSub, reduceIte, ↓reduceIte, Value.oneCell', rowI_length, rowI_take, rowI_splice, rep_all, row_zero, le_nat, Int.toNat_natCast, Nat.zero_add, sok_row, reduceCtorEq]
  · intro j hj
    have hj' : ((j : Int) < 32) = True := lt_nat (m := 32) hj
    have q1 : (((j / 4 : Nat) : Int) < 60) = True := by simp; omega
    have q2 : (((j % 4 : Nat) : Int) < 4) = True := by simp; omega
    have hl : j / 4 * 4 + j % 4 < 240 := by omega
    simp only [sn_upto, sn_from, slN_def, run_cap, rules, rules2, loopRules, Try.facts, base0, Int.toNat_zero, Nat.reduceAdd, Nat.reduceMul, Nat.reduceSub, Nat.reduceLT, Nat.reduceLeDiff, Nat.reduceEqDiff, Int.reduceLE, Int.reduceLT, Int.reduceToNat, Int.reduceNe, Int.reduceEq, not_false_eq_true, Nat.reduceBEq, Nat.reduceDiv, Int.natCast_zero, Int.natCast_one, Int.reduceAdd, Int.reduceSub, reduceIte, ↓reduceIte, Value.oneCell', rowI_length, rowI_take, rowI_splice, rep_all, row_zero, le_nat, Int.toNat_natCast, Nat.zero_add, sok_row, reduceCtorEq]
    refine vcIf_yes (by simp; omega) ?_
    have q0 : j / 4 * 4 + j % 4 = j := by omega
    have fin : rowI .u8 240 (upd (fun i => if i < j then K i else 0) j (K j)) = rowI .u8 240 (fun i => if i < j + 1 then K i else 0) := row_upto
    simp only [hj', quo4 j (by omega), rem4, q0, q1, q2, nat_nn, rowI_get .u8 32 _ j hj, rowI_splice1 .u8 240 _ j (by omega), wrapS j (by omega), fin, sn_upto, sn_from, slN_def, run_cap, rules, rules2, loopRules, Try.facts, base0, Int.toNat_zero, Nat.reduceAdd, Nat.reduceMul, Nat.reduceSub, Nat.reduceLT, Nat.reduceLeDiff, Nat.reduceEqDiff, Int.reduceLE, Int.reduceLT, Int.reduceToNat, Int.reduceNe, Int.reduceEq, not_false_eq_true, Nat.reduceBEq, Nat.reduceDiv, Int.natCast_zero, Int.natCast_one, Int.reduceAdd, Int.reduceSub, reduceIte, ↓reduceIte, Value.oneCell', rowI_length, rowI_take, rowI_splice, rep_all, row_zero, le_nat, Int.toNat_natCast, Nat.zero_add, sok_row, reduceCtorEq]
    omega
  · simp only [sn_upto, sn_from, slN_def, run_cap, rules, rules2, loopRules, Try.facts, base0, Int.toNat_zero, Nat.reduceAdd, Nat.reduceMul, Nat.reduceSub, Nat.reduceLT, Nat.reduceLeDiff, Nat.reduceEqDiff, Int.reduceLE, Int.reduceLT, Int.reduceToNat, Int.reduceNe, Int.reduceEq, not_false_eq_true, Nat.reduceBEq, Nat.reduceDiv, Int.natCast_zero, Int.natCast_one, Int.reduceAdd, Int.reduceSub, reduceIte, ↓reduceIte, Value.oneCell', rowI_length, rowI_take, rowI_splice, rep_all, row_zero, le_nat, Int.toNat_natCast, Nat.zero_add, sok_row, reduceCtorEq]
    refine vcIf_no (by decide) ?_
    simp only [sn_upto, sn_from, slN_def, run_cap, rules, rules2, loopRules, Try.facts, base0, Int.toNat_zero, Nat.reduceAdd, Nat.reduceMul, Nat.reduceSub, Nat.reduceLT, Nat.reduceLeDiff, Nat.reduceEqDiff, Int.reduceLE, Int.reduceLT, Int.reduceToNat, Int.reduceNe, Int.reduceEq, not_false_eq_true, Nat.reduceBEq, Nat.reduceDiv, Int.natCast_zero, Int.natCast_one, Int.reduceAdd, Int.reduceSub, reduceIte, ↓reduceIte, Value.oneCell', rowI_length, rowI_take, rowI_splice, rep_all, row_zero, le_nat, Int.toNat_natCast, Nat.zero_add, sok_row, reduceCtorEq]
    refine loop_count 52 (fun k => [(0, Ptr 0 0), (3, Ptr 1 0), (4, Ptr 2 0), (7, I .u8 (pwB k)), (8, I .i64 ((8 + k : Nat) : Int))])
      (fun k => [(0, ⟨true, rowI .u8 496 C⟩), (1, ⟨true, rowI .u8 32 K⟩), (2, ⟨true, rowI .u8 240 (schW C K k)⟩)]) _ ?_ ?_ ?_
    · simp only [sok_row, pwB, schW, sn_upto, sn_from, slN_def, run_cap, rules, rules2, loopRules, Try.facts, base0, Int.toNat_zero, Nat.reduceAdd, Nat.reduceMul, Nat.reduceSub, Nat.reduceLT, Nat.reduceLeDiff, Nat.reduceEqDiff, Int.reduceLE, Int.reduceLT, Int.reduceToNat, Int.reduceNe, Int.reduceEq, not_false_eq_true, Nat.reduceBEq, Nat.reduceDiv, Int.natCast_zero, Int.natCast_one, Int.reduceAdd, Int.reduceSub, reduceIte, ↓reduceIte, Value.oneCell', rowI_length, rowI_take, rowI_splice, rep_all, row_zero, le_nat, Int.toNat_natCast, Nat.zero_add, sok_row, reduceCtorEq]
    · intro k hk
      have w1 : IntKind.i64.wrap (((8 + k : Nat) : Int) - 1) = ((7 + k : Nat) : Int) := by rw [wrap_i64 _ (by omega) (by omega)]; omega
      have q1 : (((7 + k : Nat) : Int) < 60) = True := by simp; omega
      have sl := rowI_slice .u8 240 (schW C K k) ((7 + k) * 4) 4 (by omega)
      have hW := schW_byt (C := C) hK k
      simp only [sn_upto, sn_from, slN_def, run_cap, rules, rules2, loopRules, Try.facts, base0, Int.toNat_zero, Nat.reduceAdd, Nat.reduceMul, Nat.reduceSub, Nat.reduceLT, Nat.reduceLeDiff, Nat.reduceEqDiff, Int.reduceLE, Int.reduceLT, Int.reduceToNat, Int.reduceNe, Int.reduceEq, not_false_eq_true, Nat.reduceBEq, Nat.reduceDiv, Int.natCast_zero, Int.natCast_one, Int.reduceAdd, Int.reduceSub, reduceIte, ↓reduceIte, Value.oneCell', rowI_length, rowI_take, rowI_splice, rep_all, row_zero, le_nat, Int.toNat_natCast, Nat.zero_add, sok_row, reduceCtorEq]
      refine vcIf_yes (by simp; omega) ?_
      simp only [w1, q1, nat_nn, sl, rowI_length, sn_upto, sn_from, slN_def, run_cap, rules, rules2, loopRules, Try.facts, base0, Int.toNat_zero, Nat.reduceAdd, Nat.reduceMul, Nat.reduceSub, Nat.reduceLT, Nat.reduceLeDiff, Nat.reduceEqDiff, Int.reduceLE, Int.reduceLT, Int.reduceToNat, Int.reduceNe, Int.reduceEq, not_false_eq_true, Nat.reduceBEq, Nat.reduceDiv, Int.natCast_zero, Int.natCast_one, Int.reduceAdd, Int.reduceSub, reduceIte, ↓reduceIte, Value.oneCell', rowI_length, rowI_take, rowI_splice, rep_all, row_zero, le_nat, Int.toNat_natCast, Nat.zero_add, sok_row, reduceCtorEq]
      refine ⟨by omega, ?_⟩
      by_cases h0 : (8 + k) % 8 = 0
      have c0 : ((((8 + k) % 8 : Nat) : Int) == 0) = true := by rw [h0]; rfl
      simp only [rem8, c0, zero4, rowI_get .u8 4 _ 0 (by decide), rowI_get .u8 4 _ 1 (by decide), rowI_get .u8 4 _ 2 (by decide), rowI_get .u8 4 _ 3 (by decide), sn_upto, sn_from, slN_def, run_cap, rules, rules2, loopRules, Try.facts, base0, Int.toNat_zero, Nat.reduceAdd, Nat.reduceMul, Nat.reduceSub, Nat.reduceLT, Nat.reduceLeDiff, Nat.reduceEqDiff, Int.reduceLE, Int.reduceLT, Int.reduceToNat, Int.reduceNe, Int.reduceEq, not_false_eq_true, Nat.reduceBEq, Nat.reduceDiv, Int.natCast_zero, Int.natCast_one, Int.reduceAdd, Int.reduceSub, reduceIte, ↓reduceIte, Value.oneCell', rowI_length, rowI_take, rowI_splice, rep_all, row_zero, le_nat, Int.toNat_natCast, Nat.zero_add, sok_row, reduceCtorEq]
      refine ⟨by simp [splice], by simp [splice], by simp [splice], ?_⟩
      have hb := build4 (fun i => schW C K k ((7 + k) * 4 + (i + 1) % 4))
      simp only [show (0 + 1) % 4 = 1 from rfl, show (1 + 1) % 4 = 2 from rfl, show (2 + 1) % 4 = 3 from rfl, show (3 + 1) % 4 = 0 from rfl, Nat.add_zero] at hb
      rw [hb]
      have et : rowI .u8 4 (upd (subB C (fun i => schW C K k ((7 + k) * 4 + (i + 1) % 4))) 0 (bitI .xor .u8 (subB C (fun i => schW C K k ((7 + k) * 4 + (i + 1) % 4)) 0) (pwB k))) = rowI .u8 4 (tmpB C (schW C K k) (pwB k) (8 + k)) := rowI_congr fun i hi => by
        have e : 4 * (8 + k - 1) = (7 + k) * 4 := by omega
        simp only [upd, tmpB, if_pos h0, subB, lokB, e, show (0 + 1) % 4 = 1 from rfl]
      have ep : pwB (k + 1) = dblB (pwB k) := by simp only [pwB, if_pos h0]
      refine (substituted_m C (fun i => schW C K k ((7 + k) * 4 + (i + 1) % 4)) (fun i => hW _)).vcRead (fun _ => 0) (fits1 (rw := true) (by simp only [upd_apply, sn_upto, sn_from, slN_def, run_cap, rules, rules2, loopRules, Try.facts, base0, Int.toNat_zero, Nat.reduceAdd, Nat.reduceMul, Nat.reduceSub, Nat.reduceLT, Nat.reduceLeDiff, Nat.reduceEqDiff, Int.reduceLE, Int.reduceLT, Int.reduceToNat, Int.reduceNe, Int.reduceEq, not_false_eq_true, Nat.reduceBEq, Nat.reduceDiv, Int.natCast_zero, Int.natCast_one, Int.reduceAdd, Int.reduceSub, reduceIte, ↓reduceIte, Value.oneCell', rowI_length, rowI_take, rowI_splice, rep_all, row_zero, le_nat, Int.toNat_natCast, Nat.zero_add, sok_row, reduceCtorEq]) plainI) plainI (by rfl) ?_
      simp only [zero4, rowI_get .u8 4 _ 0 (by decide), rowI_splice1 .u8 4 _ 0 (by decide), sn_upto, sn_from, slN_def, run_cap, rules, rules2, loopRules, Try.facts, base0, Int.toNat_zero, Nat.reduceAdd, Nat.reduceMul, Nat.reduceSub, Nat.reduceLT, Nat.reduceLeDiff, Nat.reduceEqDiff, Int.reduceLE, Int.reduceLT, Int.reduceToNat, Int.reduceNe, Int.reduceEq, not_false_eq_true, Nat.reduceBEq, Nat.reduceDiv, Int.natCast_zero, Int.natCast_one, Int.reduceAdd, Int.reduceSub, reduceIte, ↓reduceIte, Value.oneCell', rowI_length, rowI_take, rowI_splice, rep_all, row_zero, le_nat, Int.toNat_natCast, Nat.zero_add, sok_row, reduceCtorEq]
      refine (double_fun (pwB k)).vcCall ?_
      simp only [et, ← ep, sn_upto, sn_from, slN_def, run_cap, rules, rules2, loopRules, Try.facts, base0, Int.toNat_zero, Nat.reduceAdd, Nat.reduceMul, Nat.reduceSub, Nat.reduceLT, Nat.reduceLeDiff, Nat.reduceEqDiff, Int.reduceLE, Int.reduceLT, Int.reduceToNat, Int.reduceNe, Int.reduceEq, not_false_eq_true, Nat.reduceBEq, Nat.reduceDiv, Int.natCast_zero, Int.natCast_one, Int.reduceAdd, Int.reduceSub, reduceIte, ↓reduceIte, Value.oneCell', rowI_length, rowI_take, rowI_splice, rep_all, row_zero, le_nat, Int.toNat_natCast, Nat.zero_add, sok_row, reduceCtorEq]
      rotate_left 1
      have c0 : ((((8 + k) % 8 : Nat) : Int) == 0) = false := by simp; omega
      by_cases h4 : (8 + k) % 8 = 4
      have c4 : ((((8 + k) % 8 : Nat) : Int) == 4) = true := by rw [h4]; rfl
      have et : rowI .u8 4 (subB C (fun i => schW C K k ((7 + k) * 4 + i))) = rowI .u8 4 (tmpB C (schW C K k) (pwB k) (8 + k)) := rowI_congr fun i hi => by
        have e : 4 * (8 + k - 1) = (7 + k) * 4 := by omega
        simp only [tmpB, if_neg h0, if_pos h4, subB, lokB, e]
      have ep : pwB (k + 1) = pwB k := by simp only [pwB, if_neg h0]
      simp only [rem8, c0, c4, zero4, sn_upto, sn_from, slN_def, run_cap, rules, rules2, loopRules, Try.facts, base0, Int.toNat_zero, Nat.reduceAdd, Nat.reduceMul, Nat.reduceSub, Nat.reduceLT, Nat.reduceLeDiff, Nat.reduceEqDiff, Int.reduceLE, Int.reduceLT, Int.reduceToNat, Int.reduceNe, Int.reduceEq, not_false_eq_true, Nat.reduceBEq, Nat.reduceDiv, Int.natCast_zero, Int.natCast_one, Int.reduceAdd, Int.reduceSub, reduceIte, ↓reduceIte, Value.oneCell', rowI_length, rowI_take, rowI_splice, rep_all, row_zero, le_nat, Int.toNat_natCast, Nat.zero_add, sok_row, reduceCtorEq]
      refine (substituted_m C (fun i => schW C K k ((7 + k) * 4 + i)) (fun i => hW _)).vcRead (fun _ => 0) (fits1 (rw := true) (by simp only [upd_apply, sn_upto, sn_from, slN_def, run_cap, rules, rules2, loopRules, Try.facts, base0, Int.toNat_zero, Nat.reduceAdd, Nat.reduceMul, Nat.reduceSub, Nat.reduceLT, Nat.reduceLeDiff, Nat.reduceEqDiff, Int.reduceLE, Int.reduceLT, Int.reduceToNat, Int.reduceNe, Int.reduceEq, not_false_eq_true, Nat.reduceBEq, Nat.reduceDiv, Int.natCast_zero, Int.natCast_one, Int.reduceAdd, Int.reduceSub, reduceIte, ↓reduceIte, Value.oneCell', rowI_length, rowI_take, rowI_splice, rep_all, row_zero, le_nat, Int.toNat_natCast, Nat.zero_add, sok_row, reduceCtorEq]) plainI) plainI (by rfl) ?_
      simp only [et, sn_upto, sn_from, slN_def, run_cap, rules, rules2, loopRules, Try.facts, base0, Int.toNat_zero, Nat.reduceAdd, Nat.reduceMul, Nat.reduceSub, Nat.reduceLT, Nat.reduceLeDiff, Nat.reduceEqDiff, Int.reduceLE, Int.reduceLT, Int.reduceToNat, Int.reduceNe, Int.reduceEq, not_false_eq_true, Nat.reduceBEq, Nat.reduceDiv, Int.natCast_zero, Int.natCast_one, Int.reduceAdd, Int.reduceSub, reduceIte, ↓reduceIte, Value.oneCell', rowI_length, rowI_take, rowI_splice, rep_all, row_zero, le_nat, Int.toNat_natCast, Nat.zero_add, sok_row, reduceCtorEq]
      rotate_left 1
      have c4 : ((((8 + k) % 8 : Nat) : Int) == 4) = false := by simp; omega
      have et : rowI .u8 4 (fun i => schW C K k ((7 + k) * 4 + i)) = rowI .u8 4 (tmpB C (schW C K k) (pwB k) (8 + k)) := rowI_congr fun i hi => by
        have e : 4 * (8 + k - 1) = (7 + k) * 4 := by omega
        simp only [tmpB, if_neg h0, if_neg h4, e]
      have ep : pwB (k + 1) = pwB k := by simp only [pwB, if_neg h0]
      simp only [rem8, c0, c4, zero4, sn_upto, sn_from, slN_def, run_cap, rules, rules2, loopRules, Try.facts, base0, Int.toNat_zero, Nat.reduceAdd, Nat.reduceMul, Nat.reduceSub, Nat.reduceLT, Nat.reduceLeDiff, Nat.reduceEqDiff, Int.reduceLE, Int.reduceLT, Int.reduceToNat, Int.reduceNe, Int.reduceEq, not_false_eq_true, Nat.reduceBEq, Nat.reduceDiv, Int.natCast_zero, Int.natCast_one, Int.reduceAdd, Int.reduceSub, reduceIte, ↓reduceIte, Value.oneCell', rowI_length, rowI_take, rowI_splice, rep_all, row_zero, le_nat, Int.toNat_natCast, Nat.zero_add, sok_row, reduceCtorEq]
      all_goals
        refine loop_count 4 (fun j => [(0, Ptr 0 0), (3, Ptr 1 0), (4, Ptr 2 0), (7, I .u8 (pwB (k + 1))), (8, I .i64 ((8 + k : Nat) : Int)), (9, Ptr 14 0), (61, I .i64 j)])
          (fun j => [(0, ⟨true, rowI .u8 496 C⟩), (1, ⟨true, rowI .u8 32 K⟩), (2, ⟨true, rowI .u8 240 (fun m => if 4 * (8 + k) ≤ m ∧ m < 4 * (8 + k) + j then schW C K (k + 1) m else schW C K k m)⟩),
            (14, ⟨true, rowI .u8 4 (tmpB C (schW C K k) (pwB k) (8 + k))⟩)]) _ ?_ ?_ ?_
      all_goals first
        | (simp only [sok_row, et, ep, sn_upto, sn_from, slN_def, run_cap, rules, rules2, loopRules, Try.facts, base0, Int.toNat_zero, Nat.reduceAdd, Nat.reduceMul, Nat.reduceSub, Nat.reduceLT, Nat.reduceLeDiff, Nat.reduceEqDiff, Int.reduceLE, Int.reduceLT, Int.reduceToNat, Int.reduceNe, Int.reduceEq, not_false_eq_true, Nat.reduceBEq, Nat.reduceDiv, Int.natCast_zero, Int.natCast_one, Int.reduceAdd, Int.reduceSub, reduceIte, ↓reduceIte, Value.oneCell', rowI_length, rowI_take, rowI_splice, rep_all, row_zero, le_nat, Int.toNat_natCast, Nat.zero_add, sok_row, reduceCtorEq]
           exact congrArg (fun c => some (Box.mk true c)) (rowI_congr fun i hi => (if_neg (by omega)).symm))
        | (intro j hj
           have w8 : IntKind.i64.wrap (((8 + k : Nat) : Int) - 8) = (k : Int) := by rw [wrap_i64 _ (by omega) (by omega)]; omega
           have a1 : ((k : Int) < 60) = True := by simp; omega
           have a2 : (((8 + k : Nat) : Int) < 60) = True := by simp; omega
           have a3 : ((j : Int) < 4) = True := lt_nat (m := 4) hj
           have l1 : k * 4 + j < 240 := by omega
           have l2 : (8 + k) * 4 + j < 240 := by omega
           have f1 : (if 4 * (8 + k) ≤ k * 4 + j ∧ k * 4 + j < 4 * (8 + k) + j then schW C K (k + 1) (k * 4 + j) else schW C K k (k * 4 + j)) = schW C K k (k * 4 + j) := if_neg (by omega)
           have f2 : bitI .xor .u8 (schW C K k (k * 4 + j)) (tmpB C (schW C K k) (pwB k) (8 + k) j) = schW C K (k + 1) ((8 + k) * 4 + j) := by
             show _ = (if 4 * (8 + k) ≤ (8 + k) * 4 + j ∧ (8 + k) * 4 + j < 4 * (8 + k) + 4 then bitI .xor .u8 (schW C K k ((8 + k) * 4 + j - 32)) (tmpB C (schW C K k) (pwB k) (8 + k) ((8 + k) * 4 + j - 4 * (8 + k))) else schW C K k ((8 + k) * 4 + j))
             rw [if_pos (by omega), show (8 + k) * 4 + j - 32 = k * 4 + j by omega, show (8 + k) * 4 + j - 4 * (8 + k) = j by omega]
           simp only [sn_upto, sn_from, slN_def, run_cap, rules, rules2, loopRules, Try.facts, base0, Int.toNat_zero, Nat.reduceAdd, Nat.reduceMul, Nat.reduceSub, Nat.reduceLT, Nat.reduceLeDiff, Nat.reduceEqDiff, Int.reduceLE, Int.reduceLT, Int.reduceToNat, Int.reduceNe, Int.reduceEq, not_false_eq_true, Nat.reduceBEq, Nat.reduceDiv, Int.natCast_zero, Int.natCast_one, Int.reduceAdd, Int.reduceSub, reduceIte, ↓reduceIte, Value.oneCell', rowI_length, rowI_take, rowI_splice, rep_all, row_zero, le_nat, Int.toNat_natCast, Nat.zero_add, sok_row, reduceCtorEq]
           refine vcIf_yes (by simp; omega) ?_
           simp only [w8, a1, a2, a3, nat_nn, rowI_get .u8 240 _ _ l1, f1, rowI_get .u8 4 _ j hj, f2, rowI_splice1 .u8 240 _ _ l2, wrapS j (by omega), sn_upto, sn_from, slN_def, run_cap, rules, rules2, loopRules, Try.facts, base0, Int.toNat_zero, Nat.reduceAdd, Nat.reduceMul, Nat.reduceSub, Nat.reduceLT, Nat.reduceLeDiff, Nat.reduceEqDiff, Int.reduceLE, Int.reduceLT, Int.reduceToNat, Int.reduceNe, Int.reduceEq, not_false_eq_true, Nat.reduceBEq, Nat.reduceDiv, Int.natCast_zero, Int.natCast_one, Int.reduceAdd, Int.reduceSub, reduceIte, ↓reduceIte, Value.oneCell', rowI_length, rowI_take, rowI_splice, rep_all, row_zero, le_nat, Int.toNat_natCast, Nat.zero_add, sok_row, reduceCtorEq]
           refine ⟨by kernel_rfl, by omega, congrArg (fun c => some (Box.mk true c)) (rowI_congr fun i hi => ?_)⟩
           simp only [upd]
           split
           · rename_i e; subst e; rw [if_pos (by omega)]
           · split
             · rw [if_pos (by omega)]
             · rw [if_neg (by omega)])
        | (simp only [sn_upto, sn_from, slN_def, run_cap, rules, rules2, loopRules, Try.facts, base0, Int.toNat_zero, Nat.reduceAdd, Nat.reduceMul, Nat.reduceSub, Nat.reduceLT, Nat.reduceLeDiff, Nat.reduceEqDiff, Int.reduceLE, Int.reduceLT, Int.reduceToNat, Int.reduceNe, Int.reduceEq, not_false_eq_true, Nat.reduceBEq, Nat.reduceDiv, Int.natCast_zero, Int.natCast_one, Int.reduceAdd, Int.reduceSub, reduceIte, ↓reduceIte, Value.oneCell', rowI_length, rowI_take, rowI_splice, rep_all, row_zero, le_nat, Int.toNat_natCast, Nat.zero_add, sok_row, reduceCtorEq]
           refine vcIf_no (by decide) ?_
           simp only [sn_upto, sn_from, slN_def, run_cap, rules, rules2, loopRules, Try.facts, base0, Int.toNat_zero, Nat.reduceAdd, Nat.reduceMul, Nat.reduceSub, Nat.reduceLT, Nat.reduceLeDiff, Nat.reduceEqDiff, Int.reduceLE, Int.reduceLT, Int.reduceToNat, Int.reduceNe, Int.reduceEq, not_false_eq_true, Nat.reduceBEq, Nat.reduceDiv, Int.natCast_zero, Int.natCast_one, Int.reduceAdd, Int.reduceSub, reduceIte, ↓reduceIte, Value.oneCell', rowI_length, rowI_take, rowI_splice, rep_all, row_zero, le_nat, Int.toNat_natCast, Nat.zero_add, sok_row, reduceCtorEq]
           refine ⟨by rw [wrap_i64 _ (by omega) (by omega)]; exact congrArg (fun x => some (I .i64 x)) (by omega), congrArg (fun c => some (Box.mk true c)) (rowI_congr fun i hi => ?_)⟩
           show _ = (if 4 * (8 + k) ≤ i ∧ i < 4 * (8 + k) + 4 then bitI .xor .u8 (schW C K k (i - 32)) (tmpB C (schW C K k) (pwB k) (8 + k) (i - 4 * (8 + k))) else schW C K k i)
           by_cases hc : 4 * (8 + k) ≤ i ∧ i < 4 * (8 + k) + 4
           · rw [if_pos hc, if_pos hc]; exact if_pos hc
           · rw [if_neg hc, if_neg hc])
    · simp only [sn_upto, sn_from, slN_def, run_cap, rules, rules2, loopRules, Try.facts, base0, Int.toNat_zero, Nat.reduceAdd, Nat.reduceMul, Nat.reduceSub, Nat.reduceLT, Nat.reduceLeDiff, Nat.reduceEqDiff, Int.reduceLE, Int.reduceLT, Int.reduceToNat, Int.reduceNe, Int.reduceEq, not_false_eq_true, Nat.reduceBEq, Nat.reduceDiv, Int.natCast_zero, Int.natCast_one, Int.reduceAdd, Int.reduceSub, reduceIte, ↓reduceIte, Value.oneCell', rowI_length, rowI_take, rowI_splice, rep_all, row_zero, le_nat, Int.toNat_natCast, Nat.zero_add, sok_row, reduceCtorEq]
      refine vcIf_no (by decide) ?_
      simp only [sn_upto, sn_from, slN_def, run_cap, rules, rules2, loopRules, Try.facts, base0, Int.toNat_zero, Nat.reduceAdd, Nat.reduceMul, Nat.reduceSub, Nat.reduceLT, Nat.reduceLeDiff, Nat.reduceEqDiff, Int.reduceLE, Int.reduceLT, Int.reduceToNat, Int.reduceNe, Int.reduceEq, not_false_eq_true, Nat.reduceBEq, Nat.reduceDiv, Int.natCast_zero, Int.natCast_one, Int.reduceAdd, Int.reduceSub, reduceIte, ↓reduceIte, Value.oneCell', rowI_length, rowI_take, rowI_splice, rep_all, row_zero, le_nat, Int.toNat_natCast, Nat.zero_add, sok_row, reduceCtorEq]
      generalize schW C K 52 = W
      refine loop_count 60 (fun k => [(0, Ptr 0 0), (79, Ag (rowI .u8 240 W)), (80, I .i64 k)])
        (fun k => [(0, ⟨true, rowI .u8 496 (fun m => if 256 ≤ m ∧ m < 256 + 4 * k then W (m - 256) else C m)⟩)]) _ ?_ ?_ ?_
      · simp only [sok_row, sn_upto, sn_from, slN_def, run_cap, rules, rules2, loopRules, Try.facts, base0, Int.toNat_zero, Nat.reduceAdd, Nat.reduceMul, Nat.reduceSub, Nat.reduceLT, Nat.reduceLeDiff, Nat.reduceEqDiff, Int.reduceLE, Int.reduceLT, Int.reduceToNat, Int.reduceNe, Int.reduceEq, not_false_eq_true, Nat.reduceBEq, Nat.reduceDiv, Int.natCast_zero, Int.natCast_one, Int.reduceAdd, Int.reduceSub, reduceIte, ↓reduceIte, Value.oneCell', rowI_length, rowI_take, rowI_splice, rep_all, row_zero, le_nat, Int.toNat_natCast, Nat.zero_add, sok_row, reduceCtorEq]
        exact congrArg (fun c => some (Box.mk true c)) (rowI_congr fun i hi => (if_neg (by omega)).symm)
      · intro k hk
        have sl := rowI_slice .u8 240 W (k * 4) 4 (by omega)
        have a1 : ((k : Int) < 60) = True := lt_nat (m := 60) hk
        have a2 : (((k / 4 : Nat) : Int) < 15) = True := by simp; omega
        have w2 : IntKind.i64.wrap (((k % 4 : Nat) : Int) * 4) = ((k % 4 * 4 : Nat) : Int) := by rw [wrap_i64 _ (by omega) (by omega)]; omega
        have a3 : (((k % 4 * 4 : Nat) : Int) ≤ 16) = True := by simp; omega
        simp only [sn_upto, sn_from, slN_def, run_cap, rules, rules2, loopRules, Try.facts, base0, Int.toNat_zero, Nat.reduceAdd, Nat.reduceMul, Nat.reduceSub, Nat.reduceLT, Nat.reduceLeDiff, Nat.reduceEqDiff, Int.reduceLE, Int.reduceLT, Int.reduceToNat, Int.reduceNe, Int.reduceEq, not_false_eq_true, Nat.reduceBEq, Nat.reduceDiv, Int.natCast_zero, Int.natCast_one, Int.reduceAdd, Int.reduceSub, reduceIte, ↓reduceIte, Value.oneCell', rowI_length, rowI_take, rowI_splice, rep_all, row_zero, le_nat, Int.toNat_natCast, Nat.zero_add, sok_row, reduceCtorEq]
        refine vcIf_yes (by simp; omega) ?_
        have hif : (if 16 = k % 4 * 4 then 256 + k / 4 * 16 else 256 + k / 4 * 16 + k % 4 * 4) = 256 + 4 * k := by rw [if_neg (by omega)]; omega
        have hmin : Nat.min 4 (16 - k % 4 * 4) = 4 := Nat.min_eq_left (by omega)
        simp only [a1, nat_nn, sl, rowI_length, rem4, quo4 k (by omega), a2, w2, a3, zero4, hif, sn_upto, sn_from, slN_def, run_cap, rules, rules2, loopRules, Try.facts, base0, Int.toNat_zero, Nat.reduceAdd, Nat.reduceMul, Nat.reduceSub, Nat.reduceLT, Nat.reduceLeDiff, Nat.reduceEqDiff, Int.reduceLE, Int.reduceLT, Int.reduceToNat, Int.reduceNe, Int.reduceEq, not_false_eq_true, Nat.reduceBEq, Nat.reduceDiv, Int.natCast_zero, Int.natCast_one, Int.reduceAdd, Int.reduceSub, reduceIte, ↓reduceIte, Value.oneCell', rowI_length, rowI_take, rowI_splice, rep_all, row_zero, le_nat, Int.toNat_natCast, Nat.zero_add, sok_row, reduceCtorEq]
        refine ⟨by kernel_rfl, by kernel_rfl, ?_⟩
        refine vc_copy Try.mkK28 Try.slK28 (cs := rowI .u8 496 (fun m => if 256 ≤ m ∧ m < 256 + 4 * k then W (m - 256) else C m)) (bx := ⟨true, rowI .u8 4 (fun i => W (k * 4 + i))⟩) (news := rowI .u8 4 (fun i => W (k * 4 + i)))
          (by simp only [upd_apply, sn_upto, sn_from, slN_def, run_cap, rules, rules2, loopRules, Try.facts, base0, Int.toNat_zero, Nat.reduceAdd, Nat.reduceMul, Nat.reduceSub, Nat.reduceLT, Nat.reduceLeDiff, Nat.reduceEqDiff, Int.reduceLE, Int.reduceLT, Int.reduceToNat, Int.reduceNe, Int.reduceEq, not_false_eq_true, Nat.reduceBEq, Nat.reduceDiv, Int.natCast_zero, Int.natCast_one, Int.reduceAdd, Int.reduceSub, reduceIte, ↓reduceIte, Value.oneCell', rowI_length, rowI_take, rowI_splice, rep_all, row_zero, le_nat, Int.toNat_natCast, Nat.zero_add, sok_row, reduceCtorEq]) (by simp only [upd_apply, sn_upto, sn_from, slN_def, run_cap, rules, rules2, loopRules, Try.facts, base0, Int.toNat_zero, Nat.reduceAdd, Nat.reduceMul, Nat.reduceSub, Nat.reduceLT, Nat.reduceLeDiff, Nat.reduceEqDiff, Int.reduceLE, Int.reduceLT, Int.reduceToNat, Int.reduceNe, Int.reduceEq, not_false_eq_true, Nat.reduceBEq, Nat.reduceDiv, Int.natCast_zero, Int.natCast_one, Int.reduceAdd, Int.reduceSub, reduceIte, ↓reduceIte, Value.oneCell', rowI_length, rowI_take, rowI_splice, rep_all, row_zero, le_nat, Int.toNat_natCast, Nat.zero_add, sok_row, reduceCtorEq]) (by rw [rowI_length, hmin]) (fun j u h => by simpa using h) (by rw [rowI_length, hmin]; omega) ?_
        rw [rowI_spl .u8 496 4 (256 + 4 * k) _ _ (by omega)]
        simp only [wrapS k (by omega), sn_upto, sn_from, slN_def, run_cap, rules, rules2, loopRules, Try.facts, base0, Int.toNat_zero, Nat.reduceAdd, Nat.reduceMul, Nat.reduceSub, Nat.reduceLT, Nat.reduceLeDiff, Nat.reduceEqDiff, Int.reduceLE, Int.reduceLT, Int.reduceToNat, Int.reduceNe, Int.reduceEq, not_false_eq_true, Nat.reduceBEq, Nat.reduceDiv, Int.natCast_zero, Int.natCast_one, Int.reduceAdd, Int.reduceSub, reduceIte, ↓reduceIte, Value.oneCell', rowI_length, rowI_take, rowI_splice, rep_all, row_zero, le_nat, Int.toNat_natCast, Nat.zero_add, sok_row, reduceCtorEq]
        refine congrArg (fun c => some (Box.mk true c)) (rowI_congr fun i hi => ?_)
        by_cases h1 : 256 + 4 * k ≤ i ∧ i < 256 + 4 * k + 4
        · rw [if_pos h1, if_pos (by omega), show k * 4 + (i - (256 + 4 * k)) = i - 256 by omega]
        · rw [if_neg h1]
          by_cases h2 : 256 ≤ i ∧ i < 256 + 4 * k
          · rw [if_pos h2, if_pos (by omega)]
          · rw [if_neg h2, if_neg (by omega)]
      · simp only [sn_upto, sn_from, slN_def, run_cap, rules, rules2, loopRules, Try.facts, base0, Int.toNat_zero, Nat.reduceAdd, Nat.reduceMul, Nat.reduceSub, Nat.reduceLT, Nat.reduceLeDiff, Nat.reduceEqDiff, Int.reduceLE, Int.reduceLT, Int.reduceToNat, Int.reduceNe, Int.reduceEq, not_false_eq_true, Nat.reduceBEq, Nat.reduceDiv, Int.natCast_zero, Int.natCast_one, Int.reduceAdd, Int.reduceSub, reduceIte, ↓reduceIte, Value.oneCell', rowI_length, rowI_take, rowI_splice, rep_all, row_zero, le_nat, Int.toNat_natCast, Nat.zero_add, sok_row, reduceCtorEq]
        refine vcIf_no (by decide) ?_
        simp only [sn_upto, sn_from, slN_def, run_cap, rules, rules2, loopRules, Try.facts, base0, Int.toNat_zero, Nat.reduceAdd, Nat.reduceMul, Nat.reduceSub, Nat.reduceLT, Nat.reduceLeDiff, Nat.reduceEqDiff, Int.reduceLE, Int.reduceLT, Int.reduceToNat, Int.reduceNe, Int.reduceEq, not_false_eq_true, Nat.reduceBEq, Nat.reduceDiv, Int.natCast_zero, Int.natCast_one, Int.reduceAdd, Int.reduceSub, reduceIte, ↓reduceIte, Value.oneCell', rowI_length, rowI_take, rowI_splice, rep_all, row_zero, le_nat, Int.toNat_natCast, Nat.zero_add, sok_row, reduceCtorEq]
        refine ret_wrote (cs := rowI .u8 496 (keyedB C W)) (by decide) rfl ?_ plainI ⟨rfl, rfl⟩
        simp only [sn_upto, sn_from, slN_def, run_cap, rules, rules2, loopRules, Try.facts, base0, Int.toNat_zero, Nat.reduceAdd, Nat.reduceMul, Nat.reduceSub, Nat.reduceLT, Nat.reduceLeDiff, Nat.reduceEqDiff, Int.reduceLE, Int.reduceLT, Int.reduceToNat, Int.reduceNe, Int.reduceEq, not_false_eq_true, Nat.reduceBEq, Nat.reduceDiv, Int.natCast_zero, Int.natCast_one, Int.reduceAdd, Int.reduceSub, reduceIte, ↓reduceIte, Value.oneCell', rowI_length, rowI_take, rowI_splice, rep_all, row_zero, le_nat, Int.toNat_natCast, Nat.zero_add, sok_row, reduceCtorEq]
        refine congrArg (fun c => some (Box.mk true c)) (rowI_congr fun i hi => ?_)
        simp only [keyedB]
        by_cases h : 256 ≤ i
        · rw [if_pos h, if_pos (by omega)]
        · rw [if_neg h, if_neg (by omega)]
end Go.Proofs.Ytpplfckcblaoiaa
