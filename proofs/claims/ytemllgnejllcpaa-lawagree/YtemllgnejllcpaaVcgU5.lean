/-
  Functions of the program and numbers that they reckon.
-/
import Derived.Test.YtemllgnejllcpaaVcgU4
set_option linter.unusedVariables false
set_option linter.unusedSimpArgs false
namespace Go.Proofs.Ytemllgnejllcpaa
open Go.Vcg
/-! ### The exchange -/
def exI (s : Bool) (x y : Int) : Int := if s then y else x
def exM (s : Bool) : Int := if s then 18446744073709551615 else 0
theorem exI_low (s : Bool) {x y : Int} (hx : 0 ≤ x ∧ x < 18446744073709551616) (hy : 0 ≤ y ∧ y < 18446744073709551616) :
    bitI .xor .u64 x (bitI .and .u64 (exM s) (bitI .xor .u64 x y)) = exI s x y ∧ bitI .xor .u64 y (bitI .and .u64 (exM s) (bitI .xor .u64 x y)) = exI s y x := by
  obtain ⟨a, rfl⟩ := Int.eq_ofNat_of_zero_le hx.1
  obtain ⟨b, rfl⟩ := Int.eq_ofNat_of_zero_le hy.1
  have ha : a < 18446744073709551616 := by omega
  have hb : b < 18446744073709551616 := by omega
  have hab : a ^^^ b < 18446744073709551616 := Nat.xor_lt_two_pow (n := 64) ha hb
  rw [(bitI_u64 a b ha hb).2.2]
  cases s
  · have e : exM false = ((0 : Nat) : Int) := rfl
    rw [e, (bitI_u64 0 (a ^^^ b) (by decide) hab).1]
    simp only [Nat.zero_and]
    rw [(bitI_u64 a 0 ha (by decide)).2.2, (bitI_u64 b 0 hb (by decide)).2.2]
    simp [exI]
  · have e : exM true = ((18446744073709551615 : Nat) : Int) := rfl
    rw [e, (bitI_u64 18446744073709551615 (a ^^^ b) (by decide) hab).1]
    have h1 : 18446744073709551615 &&& (a ^^^ b) = a ^^^ b := by
      have := Nat.and_two_pow_sub_one_eq_mod (a ^^^ b) 64
      rw [Nat.and_comm]
      rw [show (2 : Nat) ^ 64 - 1 = 18446744073709551615 from rfl] at this
      rw [this]; exact Nat.mod_eq_of_lt hab
    rw [h1, (bitI_u64 a (a ^^^ b) ha hab).2.2, (bitI_u64 b (a ^^^ b) hb hab).2.2]
    simp only [exI, if_true]
    constructor
    · rw [← Nat.xor_assoc, Nat.xor_self, Nat.zero_xor]
    · rw [Nat.xor_comm a b, ← Nat.xor_assoc, Nat.xor_self, Nat.zero_xor]
def selI (i k : Nat) (n o : Int) : Int := if i < k then n else o
def exL (s : Bool) (r : R4) (k : Nat) : List SV := [
  Sum.inl (.int .u64 (selI 0 k (exI s r.x2.a0 r.x3.a0) r.x2.a0)), Sum.inl (.int .u64 (selI 1 k (exI s r.x2.a1 r.x3.a1) r.x2.a1)), Sum.inl (.int .u64 (selI 2 k (exI s r.x2.a2 r.x3.a2) r.x2.a2)), Sum.inl (.int .u64 (selI 3 k (exI s r.x2.a3 r.x3.a3) r.x2.a3)), Sum.inl (.int .u64 (selI 4 k (exI s r.x2.a4 r.x3.a4) r.x2.a4)),
  Sum.inl (.int .u64 (selI 0 k (exI s r.z2.a0 r.z3.a0) r.z2.a0)), Sum.inl (.int .u64 (selI 1 k (exI s r.z2.a1 r.z3.a1) r.z2.a1)), Sum.inl (.int .u64 (selI 2 k (exI s r.z2.a2 r.z3.a2) r.z2.a2)), Sum.inl (.int .u64 (selI 3 k (exI s r.z2.a3 r.z3.a3) r.z2.a3)), Sum.inl (.int .u64 (selI 4 k (exI s r.z2.a4 r.z3.a4) r.z2.a4)),
  Sum.inl (.int .u64 (selI 0 k (exI s r.x3.a0 r.x2.a0) r.x3.a0)), Sum.inl (.int .u64 (selI 1 k (exI s r.x3.a1 r.x2.a1) r.x3.a1)), Sum.inl (.int .u64 (selI 2 k (exI s r.x3.a2 r.x2.a2) r.x3.a2)), Sum.inl (.int .u64 (selI 3 k (exI s r.x3.a3 r.x2.a3) r.x3.a3)), Sum.inl (.int .u64 (selI 4 k (exI s r.x3.a4 r.x2.a4) r.x3.a4)),
  Sum.inl (.int .u64 (selI 0 k (exI s r.z3.a0 r.z2.a0) r.z3.a0)), Sum.inl (.int .u64 (selI 1 k (exI s r.z3.a1 r.z2.a1) r.z3.a1)), Sum.inl (.int .u64 (selI 2 k (exI s r.z3.a2 r.z2.a2) r.z3.a2)), Sum.inl (.int .u64 (selI 3 k (exI s r.z3.a3 r.z2.a3) r.z3.a3)), Sum.inl (.int .u64 (selI 4 k (exI s r.z3.a4 r.z2.a4) r.z3.a4))]
def exF (s : Bool) (r : R4) : R4 := if s then ⟨r.x3, r.z3, r.x2, r.z2⟩ else r
theorem exL_zero (s : Bool) (r : R4) : exL s r 0 = r.l := rfl
theorem exL_end (s : Bool) (r : R4) : exL s r 5 = (exF s r).l := by cases s <;> rfl
theorem exF_ok (s : Bool) (r : R4) (h : r.Ok) : (exF s r).Ok := by
  cases s
  · exact h
  · exact ⟨h.x3, h.z3, h.x2, h.z2⟩
theorem F5.Ok.u {f : F5} (h : f.Ok) : f.U := by
  obtain ⟨⟨h0, h0'⟩, ⟨h1, h1'⟩, ⟨h2, h2'⟩, ⟨h3, h3'⟩, ⟨h4, h4'⟩⟩ := h
  constructor <;> omega
set_option maxHeartbeats 2000000 in
set_option maxRecDepth 20000 in
theorem exchanged_fun (s : Bool) (r : R4) (hr : r.Ok) : Fun Try.prog 10 [I .u64 (exI s 0 1), Ag r.l] (Ag (exF s r).l) := by
  have hn : IntKind.u64.wrap (0 - (exI s 0 1)) = exM s := by cases s <;> decide
  have e0 := exI_low s hr.x2.u.h0 hr.x3.u.h0
  have e1 := exI_low s hr.x2.u.h1 hr.x3.u.h1
  have e2 := exI_low s hr.x2.u.h2 hr.x3.u.h2
  have e3 := exI_low s hr.x2.u.h3 hr.x3.u.h3
  have e4 := exI_low s hr.x2.u.h4 hr.x3.u.h4
  have f0 := exI_low s hr.z2.u.h0 hr.z3.u.h0
  have f1 := exI_low s hr.z2.u.h1 hr.z3.u.h1
  have f2 := exI_low s hr.z2.u.h2 hr.z3.u.h2
  have f3 := exI_low s hr.z2.u.h3 hr.z3.u.h3
  have f4 := exI_low s hr.z2.u.h4 hr.z3.u.h4
  refine fun_of_vc Try.func10 rfl (by kernel_rfl) (by simp [Try.ntmps10]) rfl rfl ?_
  simp only [R4.l, Try.results10, rep20, hn, sn_upto, sn_from, slN_def, run_cap, rules, rules2, loopRules, Try.facts, base0, Int.toNat_zero, Nat.reduceAdd, Nat.reduceMul, Nat.reduceSub, Nat.reduceLT, Nat.reduceLeDiff, Nat.reduceEqDiff, Int.reduceLE, Int.reduceLT, Int.reduceToNat, Int.reduceNe, Int.reduceEq, not_false_eq_true, Nat.reduceBEq, Nat.reduceDiv, Int.natCast_zero, Int.natCast_one, Int.reduceAdd, Int.reduceSub, reduceIte, ↓reduceIte, Value.oneCell', splice, reduceCtorEq]
  refine loop_count 5 (fun k => [(3, Ptr 0 0), (4, Ptr 1 0), (5, I .u64 (exM s)), (11, I .i64 k)])
    (fun k => [(0, ⟨true, exL s r k⟩), (1, ⟨true, [Sum.inl (Value.int IntKind.u64 0), Sum.inl (Value.int IntKind.u64 0), Sum.inl (Value.int IntKind.u64 0), Sum.inl (Value.int IntKind.u64 0), Sum.inl (Value.int IntKind.u64 0), Sum.inl (Value.int IntKind.u64 0), Sum.inl (Value.int IntKind.u64 0), Sum.inl (Value.int IntKind.u64 0), Sum.inl (Value.int IntKind.u64 0), Sum.inl (Value.int IntKind.u64 0), Sum.inl (Value.int IntKind.u64 0), Sum.inl (Value.int IntKind.u64 0), Sum.inl (Value.int IntKind.u64 0), Sum.inl (Value.int IntKind.u64 0), Sum.inl (Value.int IntKind.u64 0), Sum.inl (Value.int IntKind.u64 0), Sum.inl (Value.int IntKind.u64 0), Sum.inl (Value.int IntKind.u64 0), Sum.inl (Value.int IntKind.u64 0), Sum.inl (Value.int IntKind.u64 0)]⟩)]) _ ?_ ?_ ?_
  · simp only [exL_zero, R4.l, hn, sn_upto, sn_from, slN_def, run_cap, rules, rules2, loopRules, Try.facts, base0, Int.toNat_zero, Nat.reduceAdd, Nat.reduceMul, Nat.reduceSub, Nat.reduceLT, Nat.reduceLeDiff, Nat.reduceEqDiff, Int.reduceLE, Int.reduceLT, Int.reduceToNat, Int.reduceNe, Int.reduceEq, not_false_eq_true, Nat.reduceBEq, Nat.reduceDiv, Int.natCast_zero, Int.natCast_one, Int.reduceAdd, Int.reduceSub, reduceIte, ↓reduceIte, Value.oneCell', splice, reduceCtorEq]
  · intro k hk
    match k, hk with
    | 0, _ =>
      simp only [exL, selI, sn_upto, sn_from, slN_def, run_cap, rules, rules2, loopRules, Try.facts, base0, Int.toNat_zero, Nat.reduceAdd, Nat.reduceMul, Nat.reduceSub, Nat.reduceLT, Nat.reduceLeDiff, Nat.reduceEqDiff, Int.reduceLE, Int.reduceLT, Int.reduceToNat, Int.reduceNe, Int.reduceEq, not_false_eq_true, Nat.reduceBEq, Nat.reduceDiv, Int.natCast_zero, Int.natCast_one, Int.reduceAdd, Int.reduceSub, reduceIte, ↓reduceIte, Value.oneCell', splice, reduceCtorEq]
      refine vcIf_yes (by decide) ?_
      simp only [sn_upto, sn_from, slN_def, run_cap, rules, rules2, loopRules, Try.facts, base0, Int.toNat_zero, Nat.reduceAdd, Nat.reduceMul, Nat.reduceSub, Nat.reduceLT, Nat.reduceLeDiff, Nat.reduceEqDiff, Int.reduceLE, Int.reduceLT, Int.reduceToNat, Int.reduceNe, Int.reduceEq, not_false_eq_true, Nat.reduceBEq, Nat.reduceDiv, Int.natCast_zero, Int.natCast_one, Int.reduceAdd, Int.reduceSub, reduceIte, ↓reduceIte, Value.oneCell', splice, reduceCtorEq]
      refine ⟨by kernel_rfl, ?_⟩
      refine ⟨by kernel_rfl, ?_⟩
      simp only [e0.1, e0.2, f0.1, f0.2, sn_upto, sn_from, slN_def, run_cap, rules, rules2, loopRules, Try.facts, base0, Int.toNat_zero, Nat.reduceAdd, Nat.reduceMul, Nat.reduceSub, Nat.reduceLT, Nat.reduceLeDiff, Nat.reduceEqDiff, Int.reduceLE, Int.reduceLT, Int.reduceToNat, Int.reduceNe, Int.reduceEq, not_false_eq_true, Nat.reduceBEq, Nat.reduceDiv, Int.natCast_zero, Int.natCast_one, Int.reduceAdd, Int.reduceSub, reduceIte, ↓reduceIte, Value.oneCell', splice, reduceCtorEq]
      rfl
    | 1, _ =>
      simp only [exL, selI, sn_upto, sn_from, slN_def, run_cap, rules, rules2, loopRules, Try.facts, base0, Int.toNat_zero, Nat.reduceAdd, Nat.reduceMul, Nat.reduceSub, Nat.reduceLT, Nat.reduceLeDiff, Nat.reduceEqDiff, Int.reduceLE, Int.reduceLT, Int.reduceToNat, Int.reduceNe, Int.reduceEq, not_false_eq_true, Nat.reduceBEq, Nat.reduceDiv, Int.natCast_zero, Int.natCast_one, Int.reduceAdd, Int.reduceSub, reduceIte, ↓reduceIte, Value.oneCell', splice, reduceCtorEq]
      refine vcIf_yes (by decide) ?_
      simp only [sn_upto, sn_from, slN_def, run_cap, rules, rules2, loopRules, Try.facts, base0, Int.toNat_zero, Nat.reduceAdd, Nat.reduceMul, Nat.reduceSub, Nat.reduceLT, Nat.reduceLeDiff, Nat.reduceEqDiff, Int.reduceLE, Int.reduceLT, Int.reduceToNat, Int.reduceNe, Int.reduceEq, not_false_eq_true, Nat.reduceBEq, Nat.reduceDiv, Int.natCast_zero, Int.natCast_one, Int.reduceAdd, Int.reduceSub, reduceIte, ↓reduceIte, Value.oneCell', splice, reduceCtorEq]
      refine ⟨by kernel_rfl, ?_⟩
      refine ⟨by kernel_rfl, ?_⟩
      simp only [e1.1, e1.2, f1.1, f1.2, sn_upto, sn_from, slN_def, run_cap, rules, rules2, loopRules, Try.facts, base0, Int.toNat_zero, Nat.reduceAdd, Nat.reduceMul, Nat.reduceSub, Nat.reduceLT, Nat.reduceLeDiff, Nat.reduceEqDiff, Int.reduceLE, Int.reduceLT, Int.reduceToNat, Int.reduceNe, Int.reduceEq, not_false_eq_true, Nat.reduceBEq, Nat.reduceDiv, Int.natCast_zero, Int.natCast_one, Int.reduceAdd, Int.reduceSub, reduceIte, ↓reduceIte, Value.oneCell', splice, reduceCtorEq]
      rfl
    | 2, _ =>
      simp only [exL, selI, sn_upto, sn_from, slN_def, run_cap, rules, rules2, loopRules, Try.facts, base0, Int.toNat_zero, Nat.reduceAdd, Nat.reduceMul, Nat.reduceSub, Nat.reduceLT, Nat.reduceLeDiff, Nat.reduceEqDiff, Int.reduceLE, Int.reduceLT, Int.reduceToNat, Int.reduceNe, Int.reduceEq, not_false_eq_true, Nat.reduceBEq, Nat.reduceDiv, Int.natCast_zero, Int.natCast_one, Int.reduceAdd, Int.reduceSub, reduceIte, ↓reduceIte, Value.oneCell', splice, reduceCtorEq]
      refine vcIf_yes (by decide) ?_
      simp only [sn_upto, sn_from, slN_def, run_cap, rules, rules2, loopRules, Try.facts, base0, Int.toNat_zero, Nat.reduceAdd, Nat.reduceMul, Nat.reduceSub, Nat.reduceLT, Nat.reduceLeDiff, Nat.reduceEqDiff, Int.reduceLE, Int.reduceLT, Int.reduceToNat, Int.reduceNe, Int.reduceEq, not_false_eq_true, Nat.reduceBEq, Nat.reduceDiv, Int.natCast_zero, Int.natCast_one, Int.reduceAdd, Int.reduceSub, reduceIte, ↓reduceIte, Value.oneCell', splice, reduceCtorEq]
      refine ⟨by kernel_rfl, ?_⟩
      refine ⟨by kernel_rfl, ?_⟩
      simp only [e2.1, e2.2, f2.1, f2.2, sn_upto, sn_from, slN_def, run_cap, rules, rules2, loopRules, Try.facts, base0, Int.toNat_zero, Nat.reduceAdd, Nat.reduceMul, Nat.reduceSub, Nat.reduceLT, Nat.reduceLeDiff, Nat.reduceEqDiff, Int.reduceLE, Int.reduceLT, Int.reduceToNat, Int.reduceNe, Int.reduceEq, not_false_eq_true, Nat.reduceBEq, Nat.reduceDiv, Int.natCast_zero, Int.natCast_one, Int.reduceAdd, Int.reduceSub, reduceIte, ↓reduceIte, Value.oneCell', splice, reduceCtorEq]
      rfl
    | 3, _ =>
      simp only [exL, selI, sn_upto, sn_from, slN_def, run_cap, rules, rules2, loopRules, Try.facts, base0, Int.toNat_zero, Nat.reduceAdd, Nat.reduceMul, Nat.reduceSub, Nat.reduceLT, Nat.reduceLeDiff, Nat.reduceEqDiff, Int.reduceLE, Int.reduceLT, Int.reduceToNat, Int.reduceNe, Int.reduceEq, not_false_eq_true, Nat.reduceBEq, Nat.reduceDiv, Int.natCast_zero, Int.natCast_one, Int.reduceAdd, Int.reduceSub, reduceIte, ↓reduceIte, Value.oneCell', splice, reduceCtorEq]
      refine vcIf_yes (by decide) ?_
      simp only [sn_upto, sn_from, slN_def, run_cap, rules, rules2, loopRules, Try.facts, base0, Int.toNat_zero, Nat.reduceAdd, Nat.reduceMul, Nat.reduceSub, Nat.reduceLT, Nat.reduceLeDiff, Nat.reduceEqDiff, Int.reduceLE, Int.reduceLT, Int.reduceToNat, Int.reduceNe, Int.reduceEq, not_false_eq_true, Nat.reduceBEq, Nat.reduceDiv, Int.natCast_zero, Int.natCast_one, Int.reduceAdd, Int.reduceSub, reduceIte, ↓reduceIte, Value.oneCell', splice, reduceCtorEq]
      refine ⟨by kernel_rfl, ?_⟩
      refine ⟨by kernel_rfl, ?_⟩
      simp only [e3.1, e3.2, f3.1, f3.2, sn_upto, sn_from, slN_def, run_cap, rules, rules2, loopRules, Try.facts, base0, Int.toNat_zero, Nat.reduceAdd, Nat.reduceMul, Nat.reduceSub, Nat.reduceLT, Nat.reduceLeDiff, Nat.reduceEqDiff, Int.reduceLE, Int.reduceLT, Int.reduceToNat, Int.reduceNe, Int.reduceEq, not_false_eq_true, Nat.reduceBEq, Nat.reduceDiv, Int.natCast_zero, Int.natCast_one, Int.reduceAdd, Int.reduceSub, reduceIte, ↓reduceIte, Value.oneCell', splice, reduceCtorEq]
      rfl
    | 4, _ =>
      simp only [exL, selI, sn_upto, sn_from, slN_def, run_cap, rules, rules2, loopRules, Try.facts, base0, Int.toNat_zero, Nat.reduceAdd, Nat.reduceMul, Nat.reduceSub, Nat.reduceLT, Nat.reduceLeDiff, Nat.reduceEqDiff, Int.reduceLE, Int.reduceLT, Int.reduceToNat, Int.reduceNe, Int.reduceEq, not_false_eq_true, Nat.reduceBEq, Nat.reduceDiv, Int.natCast_zero, Int.natCast_one, Int.reduceAdd, Int.reduceSub, reduceIte, ↓reduceIte, Value.oneCell', splice, reduceCtorEq]
      refine vcIf_yes (by decide) ?_
      simp only [sn_upto, sn_from, slN_def, run_cap, rules, rules2, loopRules, Try.facts, base0, Int.toNat_zero, Nat.reduceAdd, Nat.reduceMul, Nat.reduceSub, Nat.reduceLT, Nat.reduceLeDiff, Nat.reduceEqDiff, Int.reduceLE, Int.reduceLT, Int.reduceToNat, Int.reduceNe, Int.reduceEq, not_false_eq_true, Nat.reduceBEq, Nat.reduceDiv, Int.natCast_zero, Int.natCast_one, Int.reduceAdd, Int.reduceSub, reduceIte, ↓reduceIte, Value.oneCell', splice, reduceCtorEq]
      refine ⟨by kernel_rfl, ?_⟩
      refine ⟨by kernel_rfl, ?_⟩
      simp only [e4.1, e4.2, f4.1, f4.2, sn_upto, sn_from, slN_def, run_cap, rules, rules2, loopRules, Try.facts, base0, Int.toNat_zero, Nat.reduceAdd, Nat.reduceMul, Nat.reduceSub, Nat.reduceLT, Nat.reduceLeDiff, Nat.reduceEqDiff, Int.reduceLE, Int.reduceLT, Int.reduceToNat, Int.reduceNe, Int.reduceEq, not_false_eq_true, Nat.reduceBEq, Nat.reduceDiv, Int.natCast_zero, Int.natCast_one, Int.reduceAdd, Int.reduceSub, reduceIte, ↓reduceIte, Value.oneCell', splice, reduceCtorEq]
      rfl
  · simp only [exL_end, R4.l, sn_upto, sn_from, slN_def, run_cap, rules, rules2, loopRules, Try.facts, base0, Int.toNat_zero, Nat.reduceAdd, Nat.reduceMul, Nat.reduceSub, Nat.reduceLT, Nat.reduceLeDiff, Nat.reduceEqDiff, Int.reduceLE, Int.reduceLT, Int.reduceToNat, Int.reduceNe, Int.reduceEq, not_false_eq_true, Nat.reduceBEq, Nat.reduceDiv, Int.natCast_zero, Int.natCast_one, Int.reduceAdd, Int.reduceSub, reduceIte, ↓reduceIte, Value.oneCell', splice, reduceCtorEq]
    refine vcIf_no (by decide) ?_
    simp only [sn_upto, sn_from, slN_def, run_cap, rules, rules2, loopRules, Try.facts, base0, Int.toNat_zero, Nat.reduceAdd, Nat.reduceMul, Nat.reduceSub, Nat.reduceLT, Nat.reduceLeDiff, Nat.reduceEqDiff, Int.reduceLE, Int.reduceLT, Int.reduceToNat, Int.reduceNe, Int.reduceEq, not_false_eq_true, Nat.reduceBEq, Nat.reduceDiv, Int.natCast_zero, Int.natCast_one, Int.reduceAdd, Int.reduceSub, reduceIte, ↓reduceIte, Value.oneCell', splice, reduceCtorEq]
end Go.Proofs.Ytemllgnejllcpaa
