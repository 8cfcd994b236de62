/-
  Functions of the program and numbers that they reckon.
-/
import Derived.Test.YtemllgnejllcpaaVcgU8
set_option linter.unusedVariables false
set_option linter.unusedSimpArgs false
namespace Go.Proofs.Ytemllgnejllcpaa
open Go.Vcg
/-! ### The number below p -/
def F5.at (f : F5) : Nat → Int
  | 0 => f.a0
  | 1 => f.a1
  | 2 => f.a2
  | 3 => f.a3
  | _ => f.a4
def ovr (f : F5) : Nat → Int
  | 0 => 19
  | k + 1 => (f.at k + ovr f k) / 2251799813685248
def cry (f : F5) : Nat → Int
  | 0 => 19 * ovr f 5
  | k + 1 => (f.at k + cry f k) / 2251799813685248
theorem ovr1 (f : F5) : ovr f 1 = (f.a0 + 19) / 2251799813685248 := rfl
theorem ovr2 (f : F5) : ovr f 2 = (f.a1 + ovr f 1) / 2251799813685248 := rfl
theorem ovr3 (f : F5) : ovr f 3 = (f.a2 + ovr f 2) / 2251799813685248 := rfl
theorem ovr4 (f : F5) : ovr f 4 = (f.a3 + ovr f 3) / 2251799813685248 := rfl
theorem ovr5 (f : F5) : ovr f 5 = (f.a4 + ovr f 4) / 2251799813685248 := rfl
theorem cry0 (f : F5) : cry f 0 = 19 * ovr f 5 := rfl
theorem cry1 (f : F5) : cry f 1 = (f.a0 + cry f 0) / 2251799813685248 := rfl
theorem cry2 (f : F5) : cry f 2 = (f.a1 + cry f 1) / 2251799813685248 := rfl
theorem cry3 (f : F5) : cry f 3 = (f.a2 + cry f 2) / 2251799813685248 := rfl
theorem cry4 (f : F5) : cry f 4 = (f.a3 + cry f 3) / 2251799813685248 := rfl
theorem cry5 (f : F5) : cry f 5 = (f.a4 + cry f 4) / 2251799813685248 := rfl
def redF (f : F5) : F5 := ⟨(f.a0 + cry f 0) % 2251799813685248, (f.a1 + cry f 1) % 2251799813685248, (f.a2 + cry f 2) % 2251799813685248, (f.a3 + cry f 3) % 2251799813685248, (f.a4 + cry f 4) % 2251799813685248⟩
def redL (f : F5) (k : Nat) : List SV := [Sum.inl (.int .u64 (selI 0 k (redF f).a0 f.a0)), Sum.inl (.int .u64 (selI 1 k (redF f).a1 f.a1)), Sum.inl (.int .u64 (selI 2 k (redF f).a2 f.a2)), Sum.inl (.int .u64 (selI 3 k (redF f).a3 f.a3)), Sum.inl (.int .u64 (selI 4 k (redF f).a4 f.a4))]
theorem ovr_val (f : F5) (h : f.Ok) : (ovr f 5 = 0 ∧ f.v < PP) ∨ (ovr f 5 = 1 ∧ PP ≤ f.v) := by
  obtain ⟨⟨h0, h0'⟩, ⟨h1, h1'⟩, ⟨h2, h2'⟩, ⟨h3, h3'⟩, ⟨h4, h4'⟩⟩ := h
  have e1 := ovr1 f
  have e2 := ovr2 f
  have e3 := ovr3 f
  have e4 := ovr4 f
  have e5 := ovr5 f
  generalize ovr f 1 = o1 at *
  generalize ovr f 2 = o2 at *
  generalize ovr f 3 = o3 at *
  generalize ovr f 4 = o4 at *
  generalize ovr f 5 = o5 at *
  simp only [F5.v, PP]
  have : o5 = 0 ∨ o5 = 1 := by omega
  rcases this with rfl | rfl
  · left; refine ⟨rfl, ?_⟩; omega
  · right; refine ⟨rfl, ?_⟩; omega
theorem redF_val (f : F5) (h : f.Ok) : (redF f).v = f.v % PP ∧ (0 ≤ (redF f).a0 ∧ (redF f).a0 < 2251799813685248) ∧ (0 ≤ (redF f).a1 ∧ (redF f).a1 < 2251799813685248) ∧ (0 ≤ (redF f).a2 ∧ (redF f).a2 < 2251799813685248) ∧ (0 ≤ (redF f).a3 ∧ (redF f).a3 < 2251799813685248) ∧ (0 ≤ (redF f).a4 ∧ (redF f).a4 < 2251799813685248) := by
  obtain ⟨⟨h0, h0'⟩, ⟨h1, h1'⟩, ⟨h2, h2'⟩, ⟨h3, h3'⟩, ⟨h4, h4'⟩⟩ := h
  refine ⟨?_, ?_⟩
  · have ho := ovr_val f ⟨⟨h0, h0'⟩, ⟨h1, h1'⟩, ⟨h2, h2'⟩, ⟨h3, h3'⟩, ⟨h4, h4'⟩⟩
    have e0 := cry0 f
    have e1 := cry1 f
    have e2 := cry2 f
    have e3 := cry3 f
    have e4 := cry4 f
    have e5 := cry5 f
    simp only [redF]
    generalize cry f 0 = c0 at *
    generalize cry f 1 = c1 at *
    generalize cry f 2 = c2 at *
    generalize cry f 3 = c3 at *
    generalize cry f 4 = c4 at *
    generalize cry f 5 = c5 at *
    generalize ovr f 5 = o at *
    simp only [F5.v, PP] at *
    rcases ho with ⟨rfl, hv⟩ | ⟨rfl, hv⟩
    · have : c5 = 0 := by omega
      omega
    · have : c5 = 1 := by omega
      omega
  · simp only [redF]
    omega
set_option maxHeartbeats 2000000 in
set_option maxRecDepth 20000 in
theorem reduced_fun (f : F5) (h : f.Ok) : Fun Try.prog 9 [Ag f.l] (Ag (redF f).l) := by
  obtain ⟨⟨h0, h0'⟩, ⟨h1, h1'⟩, ⟨h2, h2'⟩, ⟨h3, h3'⟩, ⟨h4, h4'⟩⟩ := h
  have o1 : 0 ≤ ovr f 1 ∧ ovr f 1 ≤ 1 := by rw [ovr1]; omega
  have o2 : 0 ≤ ovr f 2 ∧ ovr f 2 ≤ 1 := by rw [ovr2]; omega
  have o3 : 0 ≤ ovr f 3 ∧ ovr f 3 ≤ 1 := by rw [ovr3]; omega
  have o4 : 0 ≤ ovr f 4 ∧ ovr f 4 ≤ 1 := by rw [ovr4]; omega
  have o0 : ovr f 0 = 19 := rfl
  refine fun_of_vc Try.func9 rfl (by kernel_rfl) (by simp [Try.ntmps9]) rfl rfl ?_
  simp only [F5.l, Try.results9, sn_upto, sn_from, slN_def, run_cap, rules, rules2, loopRules, Try.facts, base0, Int.toNat_zero, Nat.reduceAdd, Nat.reduceMul, Nat.reduceSub, Nat.reduceLT, Nat.reduceLeDiff, Nat.reduceEqDiff, Int.reduceLE, Int.reduceLT, Int.reduceToNat, Int.reduceNe, Int.reduceEq, not_false_eq_true, Nat.reduceBEq, Nat.reduceDiv, Int.natCast_zero, Int.natCast_one, Int.reduceAdd, Int.reduceSub, reduceIte, ↓reduceIte, Value.oneCell', splice, reduceCtorEq]
  refine loop_count 5 (fun k => [(1, Ptr 0 0), (2, Ptr 1 0), (3, I .u64 (ovr f k)), (8, Ag f.l), (9, I .i64 k)])
    (fun _ => [(0, ⟨true, f.l⟩), (1, ⟨true, [Sum.inl (Value.int IntKind.u64 0), Sum.inl (Value.int IntKind.u64 0), Sum.inl (Value.int IntKind.u64 0), Sum.inl (Value.int IntKind.u64 0), Sum.inl (Value.int IntKind.u64 0)]⟩)]) _ ?_ ?_ ?_
  · simp only [F5.l, sn_upto, sn_from, slN_def, run_cap, rules, rules2, loopRules, Try.facts, base0, Int.toNat_zero, Nat.reduceAdd, Nat.reduceMul, Nat.reduceSub, Nat.reduceLT, Nat.reduceLeDiff, Nat.reduceEqDiff, Int.reduceLE, Int.reduceLT, Int.reduceToNat, Int.reduceNe, Int.reduceEq, not_false_eq_true, Nat.reduceBEq, Nat.reduceDiv, Int.natCast_zero, Int.natCast_one, Int.reduceAdd, Int.reduceSub, reduceIte, ↓reduceIte, Value.oneCell', splice, reduceCtorEq]
    rfl
  · intro k hk
    match k, hk with
    | 0, _ =>
      simp only [F5.l, sn_upto, sn_from, slN_def, run_cap, rules, rules2, loopRules, Try.facts, base0, Int.toNat_zero, Nat.reduceAdd, Nat.reduceMul, Nat.reduceSub, Nat.reduceLT, Nat.reduceLeDiff, Nat.reduceEqDiff, Int.reduceLE, Int.reduceLT, Int.reduceToNat, Int.reduceNe, Int.reduceEq, not_false_eq_true, Nat.reduceBEq, Nat.reduceDiv, Int.natCast_zero, Int.natCast_one, Int.reduceAdd, Int.reduceSub, reduceIte, ↓reduceIte, Value.oneCell', splice, reduceCtorEq]
      refine vcIf_yes (by decide) ?_
      simp only [shr51, sn_upto, sn_from, slN_def, run_cap, rules, rules2, loopRules, Try.facts, base0, Int.toNat_zero, Nat.reduceAdd, Nat.reduceMul, Nat.reduceSub, Nat.reduceLT, Nat.reduceLeDiff, Nat.reduceEqDiff, Int.reduceLE, Int.reduceLT, Int.reduceToNat, Int.reduceNe, Int.reduceEq, not_false_eq_true, Nat.reduceBEq, Nat.reduceDiv, Int.natCast_zero, Int.natCast_one, Int.reduceAdd, Int.reduceSub, reduceIte, ↓reduceIte, Value.oneCell', splice, reduceCtorEq]
      rw [wrap_u64_in _ (by omega) (by omega)]
      exact ⟨rfl, rfl⟩
    | 1, _ =>
      simp only [F5.l, sn_upto, sn_from, slN_def, run_cap, rules, rules2, loopRules, Try.facts, base0, Int.toNat_zero, Nat.reduceAdd, Nat.reduceMul, Nat.reduceSub, Nat.reduceLT, Nat.reduceLeDiff, Nat.reduceEqDiff, Int.reduceLE, Int.reduceLT, Int.reduceToNat, Int.reduceNe, Int.reduceEq, not_false_eq_true, Nat.reduceBEq, Nat.reduceDiv, Int.natCast_zero, Int.natCast_one, Int.reduceAdd, Int.reduceSub, reduceIte, ↓reduceIte, Value.oneCell', splice, reduceCtorEq]
      refine vcIf_yes (by decide) ?_
      simp only [shr51, sn_upto, sn_from, slN_def, run_cap, rules, rules2, loopRules, Try.facts, base0, Int.toNat_zero, Nat.reduceAdd, Nat.reduceMul, Nat.reduceSub, Nat.reduceLT, Nat.reduceLeDiff, Nat.reduceEqDiff, Int.reduceLE, Int.reduceLT, Int.reduceToNat, Int.reduceNe, Int.reduceEq, not_false_eq_true, Nat.reduceBEq, Nat.reduceDiv, Int.natCast_zero, Int.natCast_one, Int.reduceAdd, Int.reduceSub, reduceIte, ↓reduceIte, Value.oneCell', splice, reduceCtorEq]
      rw [wrap_u64_in _ (by omega) (by omega)]
      exact ⟨rfl, rfl⟩
    | 2, _ =>
      simp only [F5.l, sn_upto, sn_from, slN_def, run_cap, rules, rules2, loopRules, Try.facts, base0, Int.toNat_zero, Nat.reduceAdd, Nat.reduceMul, Nat.reduceSub, Nat.reduceLT, Nat.reduceLeDiff, Nat.reduceEqDiff, Int.reduceLE, Int.reduceLT, Int.reduceToNat, Int.reduceNe, Int.reduceEq, not_false_eq_true, Nat.reduceBEq, Nat.reduceDiv, Int.natCast_zero, Int.natCast_one, Int.reduceAdd, Int.reduceSub, reduceIte, ↓reduceIte, Value.oneCell', splice, reduceCtorEq]
      refine vcIf_yes (by decide) ?_
      simp only [shr51, sn_upto, sn_from, slN_def, run_cap, rules, rules2, loopRules, Try.facts, base0, Int.toNat_zero, Nat.reduceAdd, Nat.reduceMul, Nat.reduceSub, Nat.reduceLT, Nat.reduceLeDiff, Nat.reduceEqDiff, Int.reduceLE, Int.reduceLT, Int.reduceToNat, Int.reduceNe, Int.reduceEq, not_false_eq_true, Nat.reduceBEq, Nat.reduceDiv, Int.natCast_zero, Int.natCast_one, Int.reduceAdd, Int.reduceSub, reduceIte, ↓reduceIte, Value.oneCell', splice, reduceCtorEq]
      rw [wrap_u64_in _ (by omega) (by omega)]
      exact ⟨rfl, rfl⟩
    | 3, _ =>
      simp only [F5.l, sn_upto, sn_from, slN_def, run_cap, rules, rules2, loopRules, Try.facts, base0, Int.toNat_zero, Nat.reduceAdd, Nat.reduceMul, Nat.reduceSub, Nat.reduceLT, Nat.reduceLeDiff, Nat.reduceEqDiff, Int.reduceLE, Int.reduceLT, Int.reduceToNat, Int.reduceNe, Int.reduceEq, not_false_eq_true, Nat.reduceBEq, Nat.reduceDiv, Int.natCast_zero, Int.natCast_one, Int.reduceAdd, Int.reduceSub, reduceIte, ↓reduceIte, Value.oneCell', splice, reduceCtorEq]
      refine vcIf_yes (by decide) ?_
      simp only [shr51, sn_upto, sn_from, slN_def, run_cap, rules, rules2, loopRules, Try.facts, base0, Int.toNat_zero, Nat.reduceAdd, Nat.reduceMul, Nat.reduceSub, Nat.reduceLT, Nat.reduceLeDiff, Nat.reduceEqDiff, Int.reduceLE, Int.reduceLT, Int.reduceToNat, Int.reduceNe, Int.reduceEq, not_false_eq_true, Nat.reduceBEq, Nat.reduceDiv, Int.natCast_zero, Int.natCast_one, Int.reduceAdd, Int.reduceSub, reduceIte, ↓reduceIte, Value.oneCell', splice, reduceCtorEq]
      rw [wrap_u64_in _ (by omega) (by omega)]
      exact ⟨rfl, rfl⟩
    | 4, _ =>
      simp only [F5.l, sn_upto, sn_from, slN_def, run_cap, rules, rules2, loopRules, Try.facts, base0, Int.toNat_zero, Nat.reduceAdd, Nat.reduceMul, Nat.reduceSub, Nat.reduceLT, Nat.reduceLeDiff, Nat.reduceEqDiff, Int.reduceLE, Int.reduceLT, Int.reduceToNat, Int.reduceNe, Int.reduceEq, not_false_eq_true, Nat.reduceBEq, Nat.reduceDiv, Int.natCast_zero, Int.natCast_one, Int.reduceAdd, Int.reduceSub, reduceIte, ↓reduceIte, Value.oneCell', splice, reduceCtorEq]
      refine vcIf_yes (by decide) ?_
      simp only [shr51, sn_upto, sn_from, slN_def, run_cap, rules, rules2, loopRules, Try.facts, base0, Int.toNat_zero, Nat.reduceAdd, Nat.reduceMul, Nat.reduceSub, Nat.reduceLT, Nat.reduceLeDiff, Nat.reduceEqDiff, Int.reduceLE, Int.reduceLT, Int.reduceToNat, Int.reduceNe, Int.reduceEq, not_false_eq_true, Nat.reduceBEq, Nat.reduceDiv, Int.natCast_zero, Int.natCast_one, Int.reduceAdd, Int.reduceSub, reduceIte, ↓reduceIte, Value.oneCell', splice, reduceCtorEq]
      rw [wrap_u64_in _ (by omega) (by omega)]
      exact ⟨rfl, rfl⟩
  · simp only [F5.l, sn_upto, sn_from, slN_def, run_cap, rules, rules2, loopRules, Try.facts, base0, Int.toNat_zero, Nat.reduceAdd, Nat.reduceMul, Nat.reduceSub, Nat.reduceLT, Nat.reduceLeDiff, Nat.reduceEqDiff, Int.reduceLE, Int.reduceLT, Int.reduceToNat, Int.reduceNe, Int.reduceEq, not_false_eq_true, Nat.reduceBEq, Nat.reduceDiv, Int.natCast_zero, Int.natCast_one, Int.reduceAdd, Int.reduceSub, reduceIte, ↓reduceIte, Value.oneCell', splice, reduceCtorEq]
    refine vcIf_no (by decide) ?_
    have ho : 0 ≤ ovr f 5 ∧ ovr f 5 ≤ 1 := by rw [ovr5]; omega
    have hc : IntKind.u64.wrap (19 * ovr f 5) = cry f 0 := by rw [wrap_u64_in _ (by omega) (by omega)]; rfl
    simp only [hc, sn_upto, sn_from, slN_def, run_cap, rules, rules2, loopRules, Try.facts, base0, Int.toNat_zero, Nat.reduceAdd, Nat.reduceMul, Nat.reduceSub, Nat.reduceLT, Nat.reduceLeDiff, Nat.reduceEqDiff, Int.reduceLE, Int.reduceLT, Int.reduceToNat, Int.reduceNe, Int.reduceEq, not_false_eq_true, Nat.reduceBEq, Nat.reduceDiv, Int.natCast_zero, Int.natCast_one, Int.reduceAdd, Int.reduceSub, reduceIte, ↓reduceIte, Value.oneCell', splice, reduceCtorEq]
    have c0 : 0 ≤ cry f 0 ∧ cry f 0 ≤ 19 := by rw [cry0]; omega
    have c1 : 0 ≤ cry f 1 ∧ cry f 1 ≤ 1 := by rw [cry1]; omega
    have c2 : 0 ≤ cry f 2 ∧ cry f 2 ≤ 1 := by rw [cry2]; omega
    have c3 : 0 ≤ cry f 3 ∧ cry f 3 ≤ 1 := by rw [cry3]; omega
    have c4 : 0 ≤ cry f 4 ∧ cry f 4 ≤ 1 := by rw [cry4]; omega
    refine loop_count 5 (fun k => [(1, Ptr 0 0), (2, Ptr 1 0), (6, I .u64 (cry f k)), (19, I .i64 k)])
      (fun k => [(0, ⟨true, redL f k⟩), (1, ⟨true, [Sum.inl (Value.int IntKind.u64 0), Sum.inl (Value.int IntKind.u64 0), Sum.inl (Value.int IntKind.u64 0), Sum.inl (Value.int IntKind.u64 0), Sum.inl (Value.int IntKind.u64 0)]⟩)]) _ ?_ ?_ ?_
    · simp only [redL, selI, sn_upto, sn_from, slN_def, run_cap, rules, rules2, loopRules, Try.facts, base0, Int.toNat_zero, Nat.reduceAdd, Nat.reduceMul, Nat.reduceSub, Nat.reduceLT, Nat.reduceLeDiff, Nat.reduceEqDiff, Int.reduceLE, Int.reduceLT, Int.reduceToNat, Int.reduceNe, Int.reduceEq, not_false_eq_true, Nat.reduceBEq, Nat.reduceDiv, Int.natCast_zero, Int.natCast_one, Int.reduceAdd, Int.reduceSub, reduceIte, ↓reduceIte, Value.oneCell', splice, reduceCtorEq]
    · intro k hk
      match k, hk with
      | 0, _ =>
        simp only [redL, selI, sn_upto, sn_from, slN_def, run_cap, rules, rules2, loopRules, Try.facts, base0, Int.toNat_zero, Nat.reduceAdd, Nat.reduceMul, Nat.reduceSub, Nat.reduceLT, Nat.reduceLeDiff, Nat.reduceEqDiff, Int.reduceLE, Int.reduceLT, Int.reduceToNat, Int.reduceNe, Int.reduceEq, not_false_eq_true, Nat.reduceBEq, Nat.reduceDiv, Int.natCast_zero, Int.natCast_one, Int.reduceAdd, Int.reduceSub, reduceIte, ↓reduceIte, Value.oneCell', splice, reduceCtorEq]
        refine vcIf_yes (by decide) ?_
        simp only [shr51, sn_upto, sn_from, slN_def, run_cap, rules, rules2, loopRules, Try.facts, base0, Int.toNat_zero, Nat.reduceAdd, Nat.reduceMul, Nat.reduceSub, Nat.reduceLT, Nat.reduceLeDiff, Nat.reduceEqDiff, Int.reduceLE, Int.reduceLT, Int.reduceToNat, Int.reduceNe, Int.reduceEq, not_false_eq_true, Nat.reduceBEq, Nat.reduceDiv, Int.natCast_zero, Int.natCast_one, Int.reduceAdd, Int.reduceSub, reduceIte, ↓reduceIte, Value.oneCell', splice, reduceCtorEq]
        rw [wrap_u64_in (f.a0 + _) (by omega) (by omega), and51 _ (by omega) (by omega)]
        exact ⟨⟨rfl, rfl⟩, rfl⟩
      | 1, _ =>
        simp only [redL, selI, sn_upto, sn_from, slN_def, run_cap, rules, rules2, loopRules, Try.facts, base0, Int.toNat_zero, Nat.reduceAdd, Nat.reduceMul, Nat.reduceSub, Nat.reduceLT, Nat.reduceLeDiff, Nat.reduceEqDiff, Int.reduceLE, Int.reduceLT, Int.reduceToNat, Int.reduceNe, Int.reduceEq, not_false_eq_true, Nat.reduceBEq, Nat.reduceDiv, Int.natCast_zero, Int.natCast_one, Int.reduceAdd, Int.reduceSub, reduceIte, ↓reduceIte, Value.oneCell', splice, reduceCtorEq]
        refine vcIf_yes (by decide) ?_
        simp only [shr51, sn_upto, sn_from, slN_def, run_cap, rules, rules2, loopRules, Try.facts, base0, Int.toNat_zero, Nat.reduceAdd, Nat.reduceMul, Nat.reduceSub, Nat.reduceLT, Nat.reduceLeDiff, Nat.reduceEqDiff, Int.reduceLE, Int.reduceLT, Int.reduceToNat, Int.reduceNe, Int.reduceEq, not_false_eq_true, Nat.reduceBEq, Nat.reduceDiv, Int.natCast_zero, Int.natCast_one, Int.reduceAdd, Int.reduceSub, reduceIte, ↓reduceIte, Value.oneCell', splice, reduceCtorEq]
        rw [wrap_u64_in (f.a1 + _) (by omega) (by omega), and51 _ (by omega) (by omega)]
        exact ⟨⟨rfl, rfl⟩, rfl⟩
      | 2, _ =>
        simp only [redL, selI, sn_upto, sn_from, slN_def, run_cap, rules, rules2, loopRules, Try.facts, base0, Int.toNat_zero, Nat.reduceAdd, Nat.reduceMul, Nat.reduceSub, Nat.reduceLT, Nat.reduceLeDiff, Nat.reduceEqDiff, Int.reduceLE, Int.reduceLT, Int.reduceToNat, Int.reduceNe, Int.reduceEq, not_false_eq_true, Nat.reduceBEq, Nat.reduceDiv, Int.natCast_zero, Int.natCast_one, Int.reduceAdd, Int.reduceSub, reduceIte, ↓reduceIte, Value.oneCell', splice, reduceCtorEq]
        refine vcIf_yes (by decide) ?_
        simp only [shr51, sn_upto, sn_from, slN_def, run_cap, rules, rules2, loopRules, Try.facts, base0, Int.toNat_zero, Nat.reduceAdd, Nat.reduceMul, Nat.reduceSub, Nat.reduceLT, Nat.reduceLeDiff, Nat.reduceEqDiff, Int.reduceLE, Int.reduceLT, Int.reduceToNat, Int.reduceNe, Int.reduceEq, not_false_eq_true, Nat.reduceBEq, Nat.reduceDiv, Int.natCast_zero, Int.natCast_one, Int.reduceAdd, Int.reduceSub, reduceIte, ↓reduceIte, Value.oneCell', splice, reduceCtorEq]
        rw [wrap_u64_in (f.a2 + _) (by omega) (by omega), and51 _ (by omega) (by omega)]
        exact ⟨⟨rfl, rfl⟩, rfl⟩
      | 3, _ =>
        simp only [redL, selI, sn_upto, sn_from, slN_def, run_cap, rules, rules2, loopRules, Try.facts, base0, Int.toNat_zero, Nat.reduceAdd, Nat.reduceMul, Nat.reduceSub, Nat.reduceLT, Nat.reduceLeDiff, Nat.reduceEqDiff, Int.reduceLE, Int.reduceLT, Int.reduceToNat, Int.reduceNe, Int.reduceEq, not_false_eq_true, Nat.reduceBEq, Nat.reduceDiv, Int.natCast_zero, Int.natCast_one, Int.reduceAdd, Int.reduceSub, reduceIte, ↓reduceIte, Value.oneCell', splice, reduceCtorEq]
        refine vcIf_yes (by decide) ?_
        simp only [shr51, sn_upto, sn_from, slN_def, run_cap, rules, rules2, loopRules, Try.facts, base0, Int.toNat_zero, Nat.reduceAdd, Nat.reduceMul, Nat.reduceSub, Nat.reduceLT, Nat.reduceLeDiff, Nat.reduceEqDiff, Int.reduceLE, Int.reduceLT, Int.reduceToNat, Int.reduceNe, Int.reduceEq, not_false_eq_true, Nat.reduceBEq, Nat.reduceDiv, Int.natCast_zero, Int.natCast_one, Int.reduceAdd, Int.reduceSub, reduceIte, ↓reduceIte, Value.oneCell', splice, reduceCtorEq]
        rw [wrap_u64_in (f.a3 + _) (by omega) (by omega), and51 _ (by omega) (by omega)]
        exact ⟨⟨rfl, rfl⟩, rfl⟩
      | 4, _ =>
        simp only [redL, selI, sn_upto, sn_from, slN_def, run_cap, rules, rules2, loopRules, Try.facts, base0, Int.toNat_zero, Nat.reduceAdd, Nat.reduceMul, Nat.reduceSub, Nat.reduceLT, Nat.reduceLeDiff, Nat.reduceEqDiff, Int.reduceLE, Int.reduceLT, Int.reduceToNat, Int.reduceNe, Int.reduceEq, not_false_eq_true, Nat.reduceBEq, Nat.reduceDiv, Int.natCast_zero, Int.natCast_one, Int.reduceAdd, Int.reduceSub, reduceIte, ↓reduceIte, Value.oneCell', splice, reduceCtorEq]
        refine vcIf_yes (by decide) ?_
        simp only [shr51, sn_upto, sn_from, slN_def, run_cap, rules, rules2, loopRules, Try.facts, base0, Int.toNat_zero, Nat.reduceAdd, Nat.reduceMul, Nat.reduceSub, Nat.reduceLT, Nat.reduceLeDiff, Nat.reduceEqDiff, Int.reduceLE, Int.reduceLT, Int.reduceToNat, Int.reduceNe, Int.reduceEq, not_false_eq_true, Nat.reduceBEq, Nat.reduceDiv, Int.natCast_zero, Int.natCast_one, Int.reduceAdd, Int.reduceSub, reduceIte, ↓reduceIte, Value.oneCell', splice, reduceCtorEq]
        rw [wrap_u64_in (f.a4 + _) (by omega) (by omega), and51 _ (by omega) (by omega)]
        exact ⟨⟨rfl, rfl⟩, rfl⟩
    · simp only [redL, selI, sn_upto, sn_from, slN_def, run_cap, rules, rules2, loopRules, Try.facts, base0, Int.toNat_zero, Nat.reduceAdd, Nat.reduceMul, Nat.reduceSub, Nat.reduceLT, Nat.reduceLeDiff, Nat.reduceEqDiff, Int.reduceLE, Int.reduceLT, Int.reduceToNat, Int.reduceNe, Int.reduceEq, not_false_eq_true, Nat.reduceBEq, Nat.reduceDiv, Int.natCast_zero, Int.natCast_one, Int.reduceAdd, Int.reduceSub, reduceIte, ↓reduceIte, Value.oneCell', splice, reduceCtorEq]
      refine vcIf_no (by decide) ?_
      simp only [F5.l, sn_upto, sn_from, slN_def, run_cap, rules, rules2, loopRules, Try.facts, base0, Int.toNat_zero, Nat.reduceAdd, Nat.reduceMul, Nat.reduceSub, Nat.reduceLT, Nat.reduceLeDiff, Nat.reduceEqDiff, Int.reduceLE, Int.reduceLT, Int.reduceToNat, Int.reduceNe, Int.reduceEq, not_false_eq_true, Nat.reduceBEq, Nat.reduceDiv, Int.natCast_zero, Int.natCast_one, Int.reduceAdd, Int.reduceSub, reduceIte, ↓reduceIte, Value.oneCell', splice, reduceCtorEq]
end Go.Proofs.Ytemllgnejllcpaa
