/-
  Functions of the cipher, of the program and of the document.
-/
import Derived.Test.YtlpckbkmmocaaaaDoorVcgM1
set_option linter.unusedVariables false
set_option linter.unusedSimpArgs false
namespace Go.Proofs.YtlpckbkmmocaaaaDoor
open Go.Vcg
theorem square_fun (a : F5) (ha : a.Ok) : Fun Tryd.prog 61 [Ag a.l] (Ag (mulF a a).l) := by
  refine fun_of_vc Tryd.func61 rfl (by kernel_rfl) (by simp [Tryd.ntmps61]) rfl rfl ?_
  simp only [F5.l, Tryd.results61, sn_upto, sn_from, slN_def, run_cap, rules, rules2, loopRules, Tryd.facts, base0, Int.toNat_zero, Nat.reduceAdd, Nat.reduceMul, Nat.reduceSub, Nat.reduceLT, Nat.reduceLeDiff, Nat.reduceEqDiff, Int.reduceLE, Int.reduceLT, Int.reduceToNat, Int.reduceNe, Int.reduceEq, not_false_eq_true, Nat.reduceBEq, Nat.reduceDiv, Int.natCast_zero, Int.natCast_one, Int.reduceAdd, Int.reduceSub, reduceIte, ↓reduceIte, Value.oneCell', splice, reduceCtorEq]
  refine (mul_fun a a ha ha).vcCall ?_
  simp only [F5.l, sn_upto, sn_from, slN_def, run_cap, rules, rules2, loopRules, Tryd.facts, base0, Int.toNat_zero, Nat.reduceAdd, Nat.reduceMul, Nat.reduceSub, Nat.reduceLT, Nat.reduceLeDiff, Nat.reduceEqDiff, Int.reduceLE, Int.reduceLT, Int.reduceToNat, Int.reduceNe, Int.reduceEq, not_false_eq_true, Nat.reduceBEq, Nat.reduceDiv, Int.natCast_zero, Int.natCast_one, Int.reduceAdd, Int.reduceSub, reduceIte, ↓reduceIte, Value.oneCell', splice, reduceCtorEq]

def F5.one : F5 := ⟨1, 0, 0, 0, 0⟩
theorem F5.one_ok : F5.one.Ok := by
  constructor <;> simp [F5.one]
/-- The power that a^(p-2) has come to behind k rounds. -/
def invP (a : F5) : Nat → F5
  | 0 => F5.one
  | k + 1 => if k = 252 ∨ k = 250 then mulF (invP a k) (invP a k) else mulF (mulF (invP a k) (invP a k)) a
theorem invP_ok (a : F5) (ha : a.Ok) : ∀ k, (invP a k).Ok
  | 0 => F5.one_ok
  | k + 1 => by
    simp only [invP]
    split
    · exact mulF_ok _ _ (invP_ok a ha k) (invP_ok a ha k)
    · exact mulF_ok _ _ (mulF_ok _ _ (invP_ok a ha k) (invP_ok a ha k)) ha
set_option maxRecDepth 20000 in
theorem inverse_fun (a : F5) (ha : a.Ok) : Fun Tryd.prog 51 [Ag a.l] (Ag (invP a 255).l) := by
  refine fun_of_vc Tryd.func51 rfl (by kernel_rfl) (by simp [Tryd.ntmps51]) rfl rfl ?_
  simp only [F5.l, Tryd.results51, sn_upto, sn_from, slN_def, run_cap, rules, rules2, loopRules, Tryd.facts, base0, Int.toNat_zero, Nat.reduceAdd, Nat.reduceMul, Nat.reduceSub, Nat.reduceLT, Nat.reduceLeDiff, Nat.reduceEqDiff, Int.reduceLE, Int.reduceLT, Int.reduceToNat, Int.reduceNe, Int.reduceEq, not_false_eq_true, Nat.reduceBEq, Nat.reduceDiv, Int.natCast_zero, Int.natCast_one, Int.reduceAdd, Int.reduceSub, reduceIte, ↓reduceIte, Value.oneCell', splice, reduceCtorEq]
  refine loop_count 255 (fun k => [(1, Ptr 0 0), (2, Ptr 1 0), (3, Ptr 3 0), (4, I .i64 (254 - k))])
    (fun k => [(0, ⟨true, a.l⟩), (1, ⟨true, [Sum.inl (Value.int IntKind.u64 0), Sum.inl (Value.int IntKind.u64 0), Sum.inl (Value.int IntKind.u64 0), Sum.inl (Value.int IntKind.u64 0), Sum.inl (Value.int IntKind.u64 0)]⟩), (3, ⟨true, (invP a k).l⟩)]) _ ?_ ?_ ?_
  · simp only [F5.l, invP, F5.one, sn_upto, sn_from, slN_def, run_cap, rules, rules2, loopRules, Tryd.facts, base0, Int.toNat_zero, Nat.reduceAdd, Nat.reduceMul, Nat.reduceSub, Nat.reduceLT, Nat.reduceLeDiff, Nat.reduceEqDiff, Int.reduceLE, Int.reduceLT, Int.reduceToNat, Int.reduceNe, Int.reduceEq, not_false_eq_true, Nat.reduceBEq, Nat.reduceDiv, Int.natCast_zero, Int.natCast_one, Int.reduceAdd, Int.reduceSub, reduceIte, ↓reduceIte, Value.oneCell', splice, reduceCtorEq]
  · intro k hk
    have ht : ((254 : Int) - k) - 1 = 254 - ((k + 1 : Nat) : Int) := by omega
    have hw : IntKind.i64.wrap ((254 : Int) - k - 1) = 254 - ((k + 1 : Nat) : Int) := by rw [wrap_i64 _ (by omega) (by omega)]; omega
    simp only [F5.l, sn_upto, sn_from, slN_def, run_cap, rules, rules2, loopRules, Tryd.facts, base0, Int.toNat_zero, Nat.reduceAdd, Nat.reduceMul, Nat.reduceSub, Nat.reduceLT, Nat.reduceLeDiff, Nat.reduceEqDiff, Int.reduceLE, Int.reduceLT, Int.reduceToNat, Int.reduceNe, Int.reduceEq, not_false_eq_true, Nat.reduceBEq, Nat.reduceDiv, Int.natCast_zero, Int.natCast_one, Int.reduceAdd, Int.reduceSub, reduceIte, ↓reduceIte, Value.oneCell', splice, reduceCtorEq]
    refine vcIf_yes (by simp; omega) ?_
    simp only [sn_upto, sn_from, slN_def, run_cap, rules, rules2, loopRules, Tryd.facts, base0, Int.toNat_zero, Nat.reduceAdd, Nat.reduceMul, Nat.reduceSub, Nat.reduceLT, Nat.reduceLeDiff, Nat.reduceEqDiff, Int.reduceLE, Int.reduceLT, Int.reduceToNat, Int.reduceNe, Int.reduceEq, not_false_eq_true, Nat.reduceBEq, Nat.reduceDiv, Int.natCast_zero, Int.natCast_one, Int.reduceAdd, Int.reduceSub, reduceIte, ↓reduceIte, Value.oneCell', splice, reduceCtorEq]
    refine (square_fun (invP a k) (invP_ok a ha k)).vcCall ?_
    by_cases h2 : k = 252
    · have e2 : ((254 : Int) - k != 2) = false := by subst h2; rfl
      have hs : invP a (k + 1) = mulF (invP a k) (invP a k) := by rw [invP, if_pos (Or.inl h2)]
      simp only [F5.l, e2, hw, hs, sn_upto, sn_from, slN_def, run_cap, rules, rules2, loopRules, Tryd.facts, base0, Int.toNat_zero, Nat.reduceAdd, Nat.reduceMul, Nat.reduceSub, Nat.reduceLT, Nat.reduceLeDiff, Nat.reduceEqDiff, Int.reduceLE, Int.reduceLT, Int.reduceToNat, Int.reduceNe, Int.reduceEq, not_false_eq_true, Nat.reduceBEq, Nat.reduceDiv, Int.natCast_zero, Int.natCast_one, Int.reduceAdd, Int.reduceSub, reduceIte, ↓reduceIte, Value.oneCell', splice, reduceCtorEq]
    · have e2 : ((254 : Int) - k != 2) = true := by simp; omega
      by_cases h4 : k = 250
      · have e4 : ((254 : Int) - k != 4) = false := by subst h4; rfl
        have hs : invP a (k + 1) = mulF (invP a k) (invP a k) := by rw [invP, if_pos (Or.inr h4)]
        simp only [F5.l, e2, e4, hw, hs, sn_upto, sn_from, slN_def, run_cap, rules, rules2, loopRules, Tryd.facts, base0, Int.toNat_zero, Nat.reduceAdd, Nat.reduceMul, Nat.reduceSub, Nat.reduceLT, Nat.reduceLeDiff, Nat.reduceEqDiff, Int.reduceLE, Int.reduceLT, Int.reduceToNat, Int.reduceNe, Int.reduceEq, not_false_eq_true, Nat.reduceBEq, Nat.reduceDiv, Int.natCast_zero, Int.natCast_one, Int.reduceAdd, Int.reduceSub, reduceIte, ↓reduceIte, Value.oneCell', splice, reduceCtorEq]
      · have e4 : ((254 : Int) - k != 4) = true := by simp; omega
        simp only [F5.l, e2, e4, sn_upto, sn_from, slN_def, run_cap, rules, rules2, loopRules, Tryd.facts, base0, Int.toNat_zero, Nat.reduceAdd, Nat.reduceMul, Nat.reduceSub, Nat.reduceLT, Nat.reduceLeDiff, Nat.reduceEqDiff, Int.reduceLE, Int.reduceLT, Int.reduceToNat, Int.reduceNe, Int.reduceEq, not_false_eq_true, Nat.reduceBEq, Nat.reduceDiv, Int.natCast_zero, Int.natCast_one, Int.reduceAdd, Int.reduceSub, reduceIte, ↓reduceIte, Value.oneCell', splice, reduceCtorEq]
        refine (mul_fun _ a (mulF_ok _ _ (invP_ok a ha k) (invP_ok a ha k)) ha).vcCall ?_
        have hs : invP a (k + 1) = mulF (mulF (invP a k) (invP a k)) a := by rw [invP, if_neg (by omega)]
        simp only [F5.l, hw, hs, sn_upto, sn_from, slN_def, run_cap, rules, rules2, loopRules, Tryd.facts, base0, Int.toNat_zero, Nat.reduceAdd, Nat.reduceMul, Nat.reduceSub, Nat.reduceLT, Nat.reduceLeDiff, Nat.reduceEqDiff, Int.reduceLE, Int.reduceLT, Int.reduceToNat, Int.reduceNe, Int.reduceEq, not_false_eq_true, Nat.reduceBEq, Nat.reduceDiv, Int.natCast_zero, Int.natCast_one, Int.reduceAdd, Int.reduceSub, reduceIte, ↓reduceIte, Value.oneCell', splice, reduceCtorEq]
  · simp only [F5.l, sn_upto, sn_from, slN_def, run_cap, rules, rules2, loopRules, Tryd.facts, base0, Int.toNat_zero, Nat.reduceAdd, Nat.reduceMul, Nat.reduceSub, Nat.reduceLT, Nat.reduceLeDiff, Nat.reduceEqDiff, Int.reduceLE, Int.reduceLT, Int.reduceToNat, Int.reduceNe, Int.reduceEq, not_false_eq_true, Nat.reduceBEq, Nat.reduceDiv, Int.natCast_zero, Int.natCast_one, Int.reduceAdd, Int.reduceSub, reduceIte, ↓reduceIte, Value.oneCell', splice, reduceCtorEq]
    refine vcIf_no (by simp) ?_
    simp only [sn_upto, sn_from, slN_def, run_cap, rules, rules2, loopRules, Tryd.facts, base0, Int.toNat_zero, Nat.reduceAdd, Nat.reduceMul, Nat.reduceSub, Nat.reduceLT, Nat.reduceLeDiff, Nat.reduceEqDiff, Int.reduceLE, Int.reduceLT, Int.reduceToNat, Int.reduceNe, Int.reduceEq, not_false_eq_true, Nat.reduceBEq, Nat.reduceDiv, Int.natCast_zero, Int.natCast_one, Int.reduceAdd, Int.reduceSub, reduceIte, ↓reduceIte, Value.oneCell', splice, reduceCtorEq]
/-! ### The ladder's step -/
theorem rep20 {α : Type} (x : α) : List.replicate 20 x = [x, x, x, x, x, x, x, x, x, x, x, x, x, x, x, x, x, x, x, x] := rfl
structure R4 where
  x2 : F5
  z2 : F5
  x3 : F5
  z3 : F5
def R4.l (r : R4) : List SV := [Sum.inl (.int .u64 r.x2.a0), Sum.inl (.int .u64 r.x2.a1), Sum.inl (.int .u64 r.x2.a2), Sum.inl (.int .u64 r.x2.a3), Sum.inl (.int .u64 r.x2.a4),
  Sum.inl (.int .u64 r.z2.a0), Sum.inl (.int .u64 r.z2.a1), Sum.inl (.int .u64 r.z2.a2), Sum.inl (.int .u64 r.z2.a3), Sum.inl (.int .u64 r.z2.a4),
  Sum.inl (.int .u64 r.x3.a0), Sum.inl (.int .u64 r.x3.a1), Sum.inl (.int .u64 r.x3.a2), Sum.inl (.int .u64 r.x3.a3), Sum.inl (.int .u64 r.x3.a4),
  Sum.inl (.int .u64 r.z3.a0), Sum.inl (.int .u64 r.z3.a1), Sum.inl (.int .u64 r.z3.a2), Sum.inl (.int .u64 r.z3.a3), Sum.inl (.int .u64 r.z3.a4)]
structure R4.Ok (r : R4) : Prop where
  x2 : r.x2.Ok
  z2 : r.z2.Ok
  x3 : r.x3.Ok
  z3 : r.z3.Ok
def adF (a b : F5) : F5 := carriedF (addP a b)
def sbF (a b : F5) : F5 := carriedF (subP a b)
theorem adF_fun (a b : F5) (ha : a.Ok) (hb : b.Ok) : Fun Tryd.prog 59 [Ag a.l, Ag b.l] (Ag (adF a b).l) := add_fun a b ha hb
theorem sbF_fun (a b : F5) (ha : a.Ok) (hb : b.Ok) : Fun Tryd.prog 60 [Ag a.l, Ag b.l] (Ag (sbF a b).l) := sub_fun a b ha hb
theorem adF_ok (a b : F5) (ha : a.Ok) (hb : b.Ok) : (adF a b).Ok := addF_ok a b ha hb
theorem sbF_ok (a b : F5) (ha : a.Ok) (hb : b.Ok) : (sbF a b).Ok := subF_ok a b ha hb
def F5.c : F5 := ⟨121665, 0, 0, 0, 0⟩
theorem F5.c_ok : F5.c.Ok := by
  constructor <;> simp [F5.c]
def climbF (r : R4) (u : F5) : R4 :=
  ⟨mulF (mulF (adF r.x2 r.z2) (adF r.x2 r.z2)) (mulF (sbF r.x2 r.z2) (sbF r.x2 r.z2)),
   mulF (sbF (mulF (adF r.x2 r.z2) (adF r.x2 r.z2)) (mulF (sbF r.x2 r.z2) (sbF r.x2 r.z2)))
    (adF (mulF (adF r.x2 r.z2) (adF r.x2 r.z2)) (mulF F5.c (sbF (mulF (adF r.x2 r.z2) (adF r.x2 r.z2)) (mulF (sbF r.x2 r.z2) (sbF r.x2 r.z2))))),
   mulF (adF (mulF (sbF r.x3 r.z3) (adF r.x2 r.z2)) (mulF (adF r.x3 r.z3) (sbF r.x2 r.z2))) (adF (mulF (sbF r.x3 r.z3) (adF r.x2 r.z2)) (mulF (adF r.x3 r.z3) (sbF r.x2 r.z2))),
   mulF u (mulF (sbF (mulF (sbF r.x3 r.z3) (adF r.x2 r.z2)) (mulF (adF r.x3 r.z3) (sbF r.x2 r.z2))) (sbF (mulF (sbF r.x3 r.z3) (adF r.x2 r.z2)) (mulF (adF r.x3 r.z3) (sbF r.x2 r.z2))))⟩
theorem climbF_ok (r : R4) (u : F5) (hr : r.Ok) (hu : u.Ok) : (climbF r u).Ok := by
  obtain ⟨h1, h2, h3, h4⟩ := hr
  constructor <;> simp only [climbF] <;> repeat (first | assumption | exact F5.c_ok | apply mulF_ok | apply adF_ok | apply sbF_ok)
set_option maxHeartbeats 2000000 in
set_option maxRecDepth 20000 in
theorem climbed_fun (r : R4) (u : F5) (hr : r.Ok) (hu : u.Ok) : Fun Tryd.prog 49 [Ag r.l, Ag u.l] (Ag (climbF r u).l) := by
  obtain ⟨h1, h2, h3, h4⟩ := hr
  have hA := adF_ok _ _ h1 h2
  have hB := sbF_ok _ _ h1 h2
  have hC := adF_ok _ _ h3 h4
  have hD := sbF_ok _ _ h3 h4
  have hAA := mulF_ok _ _ hA hA
  have hBB := mulF_ok _ _ hB hB
  have hE := sbF_ok _ _ hAA hBB
  have hDA := mulF_ok _ _ hD hA
  have hCB := mulF_ok _ _ hC hB
  have hcE := mulF_ok _ _ F5.c_ok hE
  have hs := adF_ok _ _ hAA hcE
  have hp := adF_ok _ _ hDA hCB
  have hm := sbF_ok _ _ hDA hCB
  have hmm := mulF_ok _ _ hm hm
  simp only [climbF]
  refine fun_of_vc Tryd.func49 rfl (by kernel_rfl) (by simp [Tryd.ntmps49]) rfl rfl ?_
  simp only [F5.l, R4.l, Tryd.results49, rep20, sn_upto, sn_from, slN_def, run_cap, rules, rules2, loopRules, Tryd.facts, base0, Int.toNat_zero, Nat.reduceAdd, Nat.reduceMul, Nat.reduceSub, Nat.reduceLT, Nat.reduceLeDiff, Nat.reduceEqDiff, Int.reduceLE, Int.reduceLT, Int.reduceToNat, Int.reduceNe, Int.reduceEq, not_false_eq_true, Nat.reduceBEq, Nat.reduceDiv, Int.natCast_zero, Int.natCast_one, Int.reduceAdd, Int.reduceSub, reduceIte, ↓reduceIte, Value.oneCell', splice, reduceCtorEq]
  refine ⟨by kernel_rfl, ?_⟩
  refine Fun.draw (adF_fun r.x2 r.z2 h1 h2) Tryd.callable59 ?_
  generalize adF r.x2 r.z2 = A at *
  simp only [F5.l, rep20, sn_upto, sn_from, slN_def, run_cap, rules, rules2, loopRules, Tryd.facts, base0, Int.toNat_zero, Nat.reduceAdd, Nat.reduceMul, Nat.reduceSub, Nat.reduceLT, Nat.reduceLeDiff, Nat.reduceEqDiff, Int.reduceLE, Int.reduceLT, Int.reduceToNat, Int.reduceNe, Int.reduceEq, not_false_eq_true, Nat.reduceBEq, Nat.reduceDiv, Int.natCast_zero, Int.natCast_one, Int.reduceAdd, Int.reduceSub, reduceIte, ↓reduceIte, Value.oneCell', splice, reduceCtorEq]
  refine Fun.draw (sbF_fun r.x2 r.z2 h1 h2) Tryd.callable60 ?_
  generalize sbF r.x2 r.z2 = B at *
  simp only [F5.l, rep20, sn_upto, sn_from, slN_def, run_cap, rules, rules2, loopRules, Tryd.facts, base0, Int.toNat_zero, Nat.reduceAdd, Nat.reduceMul, Nat.reduceSub, Nat.reduceLT, Nat.reduceLeDiff, Nat.reduceEqDiff, Int.reduceLE, Int.reduceLT, Int.reduceToNat, Int.reduceNe, Int.reduceEq, not_false_eq_true, Nat.reduceBEq, Nat.reduceDiv, Int.natCast_zero, Int.natCast_one, Int.reduceAdd, Int.reduceSub, reduceIte, ↓reduceIte, Value.oneCell', splice, reduceCtorEq]
  refine ⟨by kernel_rfl, ?_⟩
  refine Fun.draw (adF_fun r.x3 r.z3 h3 h4) Tryd.callable59 ?_
  generalize adF r.x3 r.z3 = C at *
  simp only [F5.l, rep20, sn_upto, sn_from, slN_def, run_cap, rules, rules2, loopRules, Tryd.facts, base0, Int.toNat_zero, Nat.reduceAdd, Nat.reduceMul, Nat.reduceSub, Nat.reduceLT, Nat.reduceLeDiff, Nat.reduceEqDiff, Int.reduceLE, Int.reduceLT, Int.reduceToNat, Int.reduceNe, Int.reduceEq, not_false_eq_true, Nat.reduceBEq, Nat.reduceDiv, Int.natCast_zero, Int.natCast_one, Int.reduceAdd, Int.reduceSub, reduceIte, ↓reduceIte, Value.oneCell', splice, reduceCtorEq]
  refine Fun.draw (sbF_fun r.x3 r.z3 h3 h4) Tryd.callable60 ?_
  generalize sbF r.x3 r.z3 = D at *
  simp only [F5.l, rep20, sn_upto, sn_from, slN_def, run_cap, rules, rules2, loopRules, Tryd.facts, base0, Int.toNat_zero, Nat.reduceAdd, Nat.reduceMul, Nat.reduceSub, Nat.reduceLT, Nat.reduceLeDiff, Nat.reduceEqDiff, Int.reduceLE, Int.reduceLT, Int.reduceToNat, Int.reduceNe, Int.reduceEq, not_false_eq_true, Nat.reduceBEq, Nat.reduceDiv, Int.natCast_zero, Int.natCast_one, Int.reduceAdd, Int.reduceSub, reduceIte, ↓reduceIte, Value.oneCell', splice, reduceCtorEq]
  refine ⟨by kernel_rfl, ?_⟩
  refine Fun.draw (square_fun A hA) Tryd.callable61 ?_
  generalize mulF A A = AA at *
  simp only [F5.l, rep20, sn_upto, sn_from, slN_def, run_cap, rules, rules2, loopRules, Tryd.facts, base0, Int.toNat_zero, Nat.reduceAdd, Nat.reduceMul, Nat.reduceSub, Nat.reduceLT, Nat.reduceLeDiff, Nat.reduceEqDiff, Int.reduceLE, Int.reduceLT, Int.reduceToNat, Int.reduceNe, Int.reduceEq, not_false_eq_true, Nat.reduceBEq, Nat.reduceDiv, Int.natCast_zero, Int.natCast_one, Int.reduceAdd, Int.reduceSub, reduceIte, ↓reduceIte, Value.oneCell', splice, reduceCtorEq]
  refine Fun.draw (square_fun B hB) Tryd.callable61 ?_
  generalize mulF B B = BB at *
  simp only [F5.l, rep20, sn_upto, sn_from, slN_def, run_cap, rules, rules2, loopRules, Tryd.facts, base0, Int.toNat_zero, Nat.reduceAdd, Nat.reduceMul, Nat.reduceSub, Nat.reduceLT, Nat.reduceLeDiff, Nat.reduceEqDiff, Int.reduceLE, Int.reduceLT, Int.reduceToNat, Int.reduceNe, Int.reduceEq, not_false_eq_true, Nat.reduceBEq, Nat.reduceDiv, Int.natCast_zero, Int.natCast_one, Int.reduceAdd, Int.reduceSub, reduceIte, ↓reduceIte, Value.oneCell', splice, reduceCtorEq]
  refine (sbF_fun AA BB hAA hBB).vcCall ?_
  generalize sbF AA BB = E at *
  simp only [F5.l, rep20, sn_upto, sn_from, slN_def, run_cap, rules, rules2, loopRules, Tryd.facts, base0, Int.toNat_zero, Nat.reduceAdd, Nat.reduceMul, Nat.reduceSub, Nat.reduceLT, Nat.reduceLeDiff, Nat.reduceEqDiff, Int.reduceLE, Int.reduceLT, Int.reduceToNat, Int.reduceNe, Int.reduceEq, not_false_eq_true, Nat.reduceBEq, Nat.reduceDiv, Int.natCast_zero, Int.natCast_one, Int.reduceAdd, Int.reduceSub, reduceIte, ↓reduceIte, Value.oneCell', splice, reduceCtorEq]
  refine ⟨by kernel_rfl, ?_⟩
  refine Fun.draw (mul_fun D A hD hA) Tryd.callable50 ?_
  generalize mulF D A = DA at *
  simp only [F5.l, rep20, sn_upto, sn_from, slN_def, run_cap, rules, rules2, loopRules, Tryd.facts, base0, Int.toNat_zero, Nat.reduceAdd, Nat.reduceMul, Nat.reduceSub, Nat.reduceLT, Nat.reduceLeDiff, Nat.reduceEqDiff, Int.reduceLE, Int.reduceLT, Int.reduceToNat, Int.reduceNe, Int.reduceEq, not_false_eq_true, Nat.reduceBEq, Nat.reduceDiv, Int.natCast_zero, Int.natCast_one, Int.reduceAdd, Int.reduceSub, reduceIte, ↓reduceIte, Value.oneCell', splice, reduceCtorEq]
  refine Fun.draw (mul_fun C B hC hB) Tryd.callable50 ?_
  generalize mulF C B = CB at *
  simp only [F5.l, rep20, sn_upto, sn_from, slN_def, run_cap, rules, rules2, loopRules, Tryd.facts, base0, Int.toNat_zero, Nat.reduceAdd, Nat.reduceMul, Nat.reduceSub, Nat.reduceLT, Nat.reduceLeDiff, Nat.reduceEqDiff, Int.reduceLE, Int.reduceLT, Int.reduceToNat, Int.reduceNe, Int.reduceEq, not_false_eq_true, Nat.reduceBEq, Nat.reduceDiv, Int.natCast_zero, Int.natCast_one, Int.reduceAdd, Int.reduceSub, reduceIte, ↓reduceIte, Value.oneCell', splice, reduceCtorEq]
  refine ⟨by kernel_rfl, ?_⟩
  refine Fun.draw (mul_fun AA BB hAA hBB) Tryd.callable50 ?_
  simp only [F5.l, rep20, sn_upto, sn_from, slN_def, run_cap, rules, rules2, loopRules, Tryd.facts, base0, Int.toNat_zero, Nat.reduceAdd, Nat.reduceMul, Nat.reduceSub, Nat.reduceLT, Nat.reduceLeDiff, Nat.reduceEqDiff, Int.reduceLE, Int.reduceLT, Int.reduceToNat, Int.reduceNe, Int.reduceEq, not_false_eq_true, Nat.reduceBEq, Nat.reduceDiv, Int.natCast_zero, Int.natCast_one, Int.reduceAdd, Int.reduceSub, reduceIte, ↓reduceIte, Value.oneCell', splice, reduceCtorEq]
  refine Fun.draw (mul_fun F5.c E F5.c_ok hE) Tryd.callable50 ?_
  simp only [F5.l, rep20, sn_upto, sn_from, slN_def, run_cap, rules, rules2, loopRules, Tryd.facts, base0, Int.toNat_zero, Nat.reduceAdd, Nat.reduceMul, Nat.reduceSub, Nat.reduceLT, Nat.reduceLeDiff, Nat.reduceEqDiff, Int.reduceLE, Int.reduceLT, Int.reduceToNat, Int.reduceNe, Int.reduceEq, not_false_eq_true, Nat.reduceBEq, Nat.reduceDiv, Int.natCast_zero, Int.natCast_one, Int.reduceAdd, Int.reduceSub, reduceIte, ↓reduceIte, Value.oneCell', splice, reduceCtorEq]
  refine Fun.draw (adF_fun AA _ hAA hcE) Tryd.callable59 ?_
  generalize adF AA (mulF F5.c E) = S at *
  simp only [F5.l, rep20, sn_upto, sn_from, slN_def, run_cap, rules, rules2, loopRules, Tryd.facts, base0, Int.toNat_zero, Nat.reduceAdd, Nat.reduceMul, Nat.reduceSub, Nat.reduceLT, Nat.reduceLeDiff, Nat.reduceEqDiff, Int.reduceLE, Int.reduceLT, Int.reduceToNat, Int.reduceNe, Int.reduceEq, not_false_eq_true, Nat.reduceBEq, Nat.reduceDiv, Int.natCast_zero, Int.natCast_one, Int.reduceAdd, Int.reduceSub, reduceIte, ↓reduceIte, Value.oneCell', splice, reduceCtorEq]
  refine Fun.draw (mul_fun E S hE hs) Tryd.callable50 ?_
  simp only [F5.l, rep20, sn_upto, sn_from, slN_def, run_cap, rules, rules2, loopRules, Tryd.facts, base0, Int.toNat_zero, Nat.reduceAdd, Nat.reduceMul, Nat.reduceSub, Nat.reduceLT, Nat.reduceLeDiff, Nat.reduceEqDiff, Int.reduceLE, Int.reduceLT, Int.reduceToNat, Int.reduceNe, Int.reduceEq, not_false_eq_true, Nat.reduceBEq, Nat.reduceDiv, Int.natCast_zero, Int.natCast_one, Int.reduceAdd, Int.reduceSub, reduceIte, ↓reduceIte, Value.oneCell', splice, reduceCtorEq]
  refine Fun.draw (adF_fun DA CB hDA hCB) Tryd.callable59 ?_
  generalize adF DA CB = Q at *
  simp only [F5.l, rep20, sn_upto, sn_from, slN_def, run_cap, rules, rules2, loopRules, Tryd.facts, base0, Int.toNat_zero, Nat.reduceAdd, Nat.reduceMul, Nat.reduceSub, Nat.reduceLT, Nat.reduceLeDiff, Nat.reduceEqDiff, Int.reduceLE, Int.reduceLT, Int.reduceToNat, Int.reduceNe, Int.reduceEq, not_false_eq_true, Nat.reduceBEq, Nat.reduceDiv, Int.natCast_zero, Int.natCast_one, Int.reduceAdd, Int.reduceSub, reduceIte, ↓reduceIte, Value.oneCell', splice, reduceCtorEq]
  refine Fun.draw (square_fun Q hp) Tryd.callable61 ?_
  simp only [F5.l, rep20, sn_upto, sn_from, slN_def, run_cap, rules, rules2, loopRules, Tryd.facts, base0, Int.toNat_zero, Nat.reduceAdd, Nat.reduceMul, Nat.reduceSub, Nat.reduceLT, Nat.reduceLeDiff, Nat.reduceEqDiff, Int.reduceLE, Int.reduceLT, Int.reduceToNat, Int.reduceNe, Int.reduceEq, not_false_eq_true, Nat.reduceBEq, Nat.reduceDiv, Int.natCast_zero, Int.natCast_one, Int.reduceAdd, Int.reduceSub, reduceIte, ↓reduceIte, Value.oneCell', splice, reduceCtorEq]
  refine Fun.draw (sbF_fun DA CB hDA hCB) Tryd.callable60 ?_
  generalize sbF DA CB = M at *
  simp only [F5.l, rep20, sn_upto, sn_from, slN_def, run_cap, rules, rules2, loopRules, Tryd.facts, base0, Int.toNat_zero, Nat.reduceAdd, Nat.reduceMul, Nat.reduceSub, Nat.reduceLT, Nat.reduceLeDiff, Nat.reduceEqDiff, Int.reduceLE, Int.reduceLT, Int.reduceToNat, Int.reduceNe, Int.reduceEq, not_false_eq_true, Nat.reduceBEq, Nat.reduceDiv, Int.natCast_zero, Int.natCast_one, Int.reduceAdd, Int.reduceSub, reduceIte, ↓reduceIte, Value.oneCell', splice, reduceCtorEq]
  refine Fun.draw (square_fun M hm) Tryd.callable61 ?_
  generalize mulF M M = MM at *
  simp only [F5.l, rep20, sn_upto, sn_from, slN_def, run_cap, rules, rules2, loopRules, Tryd.facts, base0, Int.toNat_zero, Nat.reduceAdd, Nat.reduceMul, Nat.reduceSub, Nat.reduceLT, Nat.reduceLeDiff, Nat.reduceEqDiff, Int.reduceLE, Int.reduceLT, Int.reduceToNat, Int.reduceNe, Int.reduceEq, not_false_eq_true, Nat.reduceBEq, Nat.reduceDiv, Int.natCast_zero, Int.natCast_one, Int.reduceAdd, Int.reduceSub, reduceIte, ↓reduceIte, Value.oneCell', splice, reduceCtorEq]
  refine Fun.draw (mul_fun u MM hu hmm) Tryd.callable50 ?_
  simp only [F5.l, R4.l, rep20, sn_upto, sn_from, slN_def, run_cap, rules, rules2, loopRules, Tryd.facts, base0, Int.toNat_zero, Nat.reduceAdd, Nat.reduceMul, Nat.reduceSub, Nat.reduceLT, Nat.reduceLeDiff, Nat.reduceEqDiff, Int.reduceLE, Int.reduceLT, Int.reduceToNat, Int.reduceNe, Int.reduceEq, not_false_eq_true, Nat.reduceBEq, Nat.reduceDiv, Int.natCast_zero, Int.natCast_one, Int.reduceAdd, Int.reduceSub, reduceIte, ↓reduceIte, Value.oneCell', splice, reduceCtorEq]
/-! ### The exchange -/
def exI (s : Bool) (x y : Int) : Int := if s then y else x
def exM (s : Bool) : Int := if s then 18446744073709551615 else 0
theorem exI_low (s : Bool) {x y : Int} (hx : 0 ≤ x ∧ x < 18446744073709551616) (hy : 0 ≤ y ∧ y < 18446744073709551616) :
    bitI .xor .u64 x (bitI .and .u64 (exM s) (bitI .xor .u64 x y)) = exI s x y ∧ bitI .xor .u64 y (bitI .and .u64 (exM s) (bitI .xor .u64 x y)) = exI s y x := by
  obtain ⟨a, rfl⟩ := Int.eq_ofNat_of_zero_le hx.1
  obtain ⟨b, rfl⟩ := Int.eq_ofNat_of_zero_le hy.1
  have ha : a < 18446744073709551616 := by omega
  have hb : b < 18446744073709551616 := by omega
  have hab : a ^^^ b < 18446744073709551616 := Nat.xor_lt_two_pow (n := 64) ha hb
  rw [(bitI_u64 a b ha hb).2.2]
  cases s
  · have e : exM false = ((0 : Nat) : Int) := rfl
    rw [e, (bitI_u64 0 (a ^^^ b) (by decide) hab).1]
    simp only [Nat.zero_and]
    rw [(bitI_u64 a 0 ha (by decide)).2.2, (bitI_u64 b 0 hb (by decide)).2.2]
    simp [exI]
  · have e : exM true = ((18446744073709551615 : Nat) : Int) := rfl
    rw [e, (bitI_u64 18446744073709551615 (a ^^^ b) (by decide) hab).1]
    have h1 : 18446744073709551615 &&& (a ^^^ b) = a ^^^ b := by
      have := Nat.and_two_pow_sub_one_eq_mod (a ^^^ b) 64
      rw [Nat.and_comm]
      rw [show (2 : Nat) ^ 64 - 1 = 18446744073709551615 from rfl] at this
      rw [this]; exact Nat.mod_eq_of_lt hab
    rw [h1, (bitI_u64 a (a ^^^ b) ha hab).2.2, (bitI_u64 b (a ^^^ b) hb hab).2.2]
    simp only [exI, if_true]
    constructor
    · rw [← Nat.xor_assoc, Nat.xor_self, Nat.zero_xor]
    · rw [Nat.xor_comm a b, ← Nat.xor_assoc, Nat.xor_self, Nat.zero_xor]
def selI (i k : Nat) (n o : Int) : Int := if i < k then n else o
def exL (s : Bool) (r : R4) (k : Nat) : List SV := [
  Sum.inl (.int .u64 (selI 0 k (exI s r.x2.a0 r.x3.a0) r.x2.a0)), Sum.inl (.int .u64 (selI 1 k (exI s r.x2.a1 r.x3.a1) r.x2.a1)), Sum.inl (.int .u64 (selI 2 k (exI s r.x2.a2 r.x3.a2) r.x2.a2)), Sum.inl (.int .u64 (selI 3 k (exI s r.x2.a3 r.x3.a3) r.x2.a3)), Sum.inl (.int .u64 (selI 4 k (exI s r.x2.a4 r.x3.a4) r.x2.a4)),
  Sum.inl (.int .u64 (selI 0 k (exI s r.z2.a0 r.z3.a0) r.z2.a0)), Sum.inl (.int .u64 (selI 1 k (exI s r.z2.a1 r.z3.a1) r.z2.a1)), Sum.inl (.int .u64 (selI 2 k (exI s r.z2.a2 r.z3.a2) r.z2.a2)), Sum.inl (.int .u64 (selI 3 k (exI s r.z2.a3 r.z3.a3) r.z2.a3)), Sum.inl (.int .u64 (selI 4 k (exI s r.z2.a4 r.z3.a4) r.z2.a4)),
  Sum.inl (.int .u64 (selI 0 k (exI s r.x3.a0 r.x2.a0) r.x3.a0)), Sum.inl (.int .u64 (selI 1 k (exI s r.x3.a1 r.x2.a1) r.x3.a1)), Sum.inl (.int .u64 (selI 2 k (exI s r.x3.a2 r.x2.a2) r.x3.a2)), Sum.inl (.int .u64 (selI 3 k (exI s r.x3.a3 r.x2.a3) r.x3.a3)), Sum.inl (.int .u64 (selI 4 k (exI s r.x3.a4 r.x2.a4) r.x3.a4)),
  Sum.inl (.int .u64 (selI 0 k (exI s r.z3.a0 r.z2.a0) r.z3.a0)), Sum.inl (.int .u64 (selI 1 k (exI s r.z3.a1 r.z2.a1) r.z3.a1)), Sum.inl (.int .u64 (selI 2 k (exI s r.z3.a2 r.z2.a2) r.z3.a2)), Sum.inl (.int .u64 (selI 3 k (exI s r.z3.a3 r.z2.a3) r.z3.a3)), Sum.inl (.int .u64 (selI 4 k (exI s r.z3.a4 r.z2.a4) r.z3.a4))]
def exF (s : Bool) (r : R4) : R4 := if s then ⟨r.x3, r.z3, r.x2, r.z2⟩ else r
theorem exL_zero (s : Bool) (r : R4) : exL s r 0 = r.l := rfl
theorem exL_end (s : Bool) (r : R4) : exL s r 5 = (exF s r).l := by cases s <;> rfl
theorem exF_ok (s : Bool) (r : R4) (h : r.Ok) : (exF s r).Ok := by
  cases s
  · exact h
  · exact ⟨h.x3, h.z3, h.x2, h.z2⟩
theorem F5.Ok.u {f : F5} (h : f.Ok) : f.U := by
  obtain ⟨⟨h0, h0'⟩, ⟨h1, h1'⟩, ⟨h2, h2'⟩, ⟨h3, h3'⟩, ⟨h4, h4'⟩⟩ := h
  constructor <;> omega
set_option maxHeartbeats 2000000 in
set_option maxRecDepth 20000 in
theorem exchanged_fun (s : Bool) (r : R4) (hr : r.Ok) : Fun Tryd.prog 48 [I .u64 (exI s 0 1), Ag r.l] (Ag (exF s r).l) := by
  have hn : IntKind.u64.wrap (0 - (exI s 0 1)) = exM s := by cases s <;> decide
  have e0 := exI_low s hr.x2.u.h0 hr.x3.u.h0
  have e1 := exI_low s hr.x2.u.h1 hr.x3.u.h1
  have e2 := exI_low s hr.x2.u.h2 hr.x3.u.h2
  have e3 := exI_low s hr.x2.u.h3 hr.x3.u.h3
  have e4 := exI_low s hr.x2.u.h4 hr.x3.u.h4
  have f0 := exI_low s hr.z2.u.h0 hr.z3.u.h0
  have f1 := exI_low s hr.z2.u.h1 hr.z3.u.h1
  have f2 := exI_low s hr.z2.u.h2 hr.z3.u.h2
  have f3 := exI_low s hr.z2.u.h3 hr.z3.u.h3
  have f4 := exI_low s hr.z2.u.h4 hr.z3.u.h4
  refine fun_of_vc Tryd.func48 rfl (by kernel_rfl) (by simp [Tryd.ntmps48]) rfl rfl ?_
  simp only [R4.l, Tryd.results48, rep20, hn, sn_upto, sn_from, slN_def, run_cap, rules, rules2, loopRules, Tryd.facts, base0, Int.toNat_zero, Nat.reduceAdd, Nat.reduceMul, Nat.reduceSub, Nat.reduceLT, Nat.reduceLeDiff, Nat.reduceEqDiff, Int.reduceLE, Int.reduceLT, Int.reduceToNat, Int.reduceNe, Int.reduceEq, not_false_eq_true, Nat.reduceBEq, Nat.reduceDiv, Int.natCast_zero, Int.natCast_one, Int.reduceAdd, Int.reduceSub, reduceIte, ↓reduceIte, Value.oneCell', splice, reduceCtorEq]
  refine loop_count 5 (fun k => [(3, Ptr 0 0), (4, Ptr 1 0), (5, I .u64 (exM s)), (11, I .i64 k)])
    (fun k => [(0, ⟨true, exL s r k⟩), (1, ⟨true, [Sum.inl (Value.int IntKind.u64 0), Sum.inl (Value.int IntKind.u64 0), Sum.inl (Value.int IntKind.u64 0), Sum.inl (Value.int IntKind.u64 0), Sum.inl (Value.int IntKind.u64 0), Sum.inl (Value.int IntKind.u64 0), Sum.inl (Value.int IntKind.u64 0), Sum.inl (Value.int IntKind.u64 0), Sum.inl (Value.int IntKind.u64 0), Sum.inl (Value.int IntKind.u64 0), Sum.inl (Value.int IntKind.u64 0), Sum.inl (Value.int IntKind.u64 0), Sum.inl (Value.int IntKind.u64 0), Sum.inl (Value.int IntKind.u64 0), Sum.inl (Value.int IntKind.u64 0), Sum.inl (Value.int IntKind.u64 0), Sum.inl (Value.int IntKind.u64 0), Sum.inl (Value.int IntKind.u64 0), Sum.inl (Value.int IntKind.u64 0), Sum.inl (Value.int IntKind.u64 0)]⟩)]) _ ?_ ?_ ?_
  · simp only [exL_zero, R4.l, hn, sn_upto, sn_from, slN_def, run_cap, rules, rules2, loopRules, Tryd.facts, base0, Int.toNat_zero, Nat.reduceAdd, Nat.reduceMul, Nat.reduceSub, Nat.reduceLT, Nat.reduceLeDiff, Nat.reduceEqDiff, Int.reduceLE, Int.reduceLT, Int.reduceToNat, Int.reduceNe, Int.reduceEq, not_false_eq_true, Nat.reduceBEq, Nat.reduceDiv, Int.natCast_zero, Int.natCast_one, Int.reduceAdd, Int.reduceSub, reduceIte, ↓reduceIte, Value.oneCell', splice, reduceCtorEq]
  · intro k hk
    match k, hk with
    | 0, _ =>
      simp only [exL, selI, sn_upto, sn_from, slN_def, run_cap, rules, rules2, loopRules, Tryd.facts, base0, Int.toNat_zero, Nat.reduceAdd, Nat.reduceMul, Nat.reduceSub, Nat.reduceLT, Nat.reduceLeDiff, Nat.reduceEqDiff, Int.reduceLE, Int.reduceLT, Int.reduceToNat, Int.reduceNe, Int.reduceEq, not_false_eq_true, Nat.reduceBEq, Nat.reduceDiv, Int.natCast_zero, Int.natCast_one, Int.reduceAdd, Int.reduceSub, reduceIte, ↓reduceIte, Value.oneCell', splice, reduceCtorEq]
      refine vcIf_yes (by decide) ?_
      simp only [sn_upto, sn_from, slN_def, run_cap, rules, rules2, loopRules, Tryd.facts, base0, Int.toNat_zero, Nat.reduceAdd, Nat.reduceMul, Nat.reduceSub, Nat.reduceLT, Nat.reduceLeDiff, Nat.reduceEqDiff, Int.reduceLE, Int.reduceLT, Int.reduceToNat, Int.reduceNe, Int.reduceEq, not_false_eq_true, Nat.reduceBEq, Nat.reduceDiv, Int.natCast_zero, Int.natCast_one, Int.reduceAdd, Int.reduceSub, reduceIte, ↓reduceIte, Value.oneCell', splice, reduceCtorEq]
      refine ⟨by kernel_rfl, ?_⟩
      refine ⟨by kernel_rfl, ?_⟩
      simp only [e0.1, e0.2, f0.1, f0.2, sn_upto, sn_from, slN_def, run_cap, rules, rules2, loopRules, Tryd.facts, base0, Int.toNat_zero, Nat.reduceAdd, Nat.reduceMul, Nat.reduceSub, Nat.reduceLT, Nat.reduceLeDiff, Nat.reduceEqDiff, Int.reduceLE, Int.reduceLT, Int.reduceToNat, Int.reduceNe, Int.reduceEq, not_false_eq_true, Nat.reduceBEq, Nat.reduceDiv, Int.natCast_zero, Int.natCast_one, Int.reduceAdd, Int.reduceSub, reduceIte, ↓reduceIte, Value.oneCell', splice, reduceCtorEq]
      rfl
    | 1, _ =>
      simp only [exL, selI, sn_upto, sn_from, slN_def, run_cap, rules, rules2, loopRules, Tryd.facts, base0, Int.toNat_zero, Nat.reduceAdd, Nat.reduceMul, Nat.reduceSub, Nat.reduceLT, Nat.reduceLeDiff, Nat.reduceEqDiff, Int.reduceLE, Int.reduceLT, Int.reduceToNat, Int.reduceNe, Int.reduceEq, not_false_eq_true, Nat.reduceBEq, Nat.reduceDiv, Int.natCast_zero, Int.natCast_one, Int.reduceAdd, Int.reduceSub, reduceIte, ↓reduceIte, Value.oneCell', splice, reduceCtorEq]
      refine vcIf_yes (by decide) ?_
      simp only [sn_upto, sn_from, slN_def, run_cap, rules, rules2, loopRules, Tryd.facts, base0, Int.toNat_zero, Nat.reduceAdd, Nat.reduceMul, Nat.reduceSub, Nat.reduceLT, Nat.reduceLeDiff, Nat.reduceEqDiff, Int.reduceLE, Int.reduceLT, Int.reduceToNat, Int.reduceNe, Int.reduceEq, not_false_eq_true, Nat.reduceBEq, Nat.reduceDiv, Int.natCast_zero, Int.natCast_one, Int.reduceAdd, Int.reduceSub, reduceIte, ↓reduceIte, Value.oneCell', splice, reduceCtorEq]
      refine ⟨by kernel_rfl, ?_⟩
      refine ⟨by kernel_rfl, ?_⟩
      simp only [e1.1, e1.2, f1.1, f1.2, sn_upto, sn_from, slN_def, run_cap, rules, rules2, loopRules, Tryd.facts, base0, Int.toNat_zero, Nat.reduceAdd, Nat.reduceMul, Nat.reduceSub, Nat.reduceLT, Nat.reduceLeDiff, Nat.reduceEqDiff, Int.reduceLE, Int.reduceLT, Int.reduceToNat, Int.reduceNe, Int.reduceEq, not_false_eq_true, Nat.reduceBEq, Nat.reduceDiv, Int.natCast_zero, Int.natCast_one, Int.reduceAdd, Int.reduceSub, reduceIte, ↓reduceIte, Value.oneCell', splice, reduceCtorEq]
      rfl
    | 2, _ =>
      simp only [exL, selI, sn_upto, sn_from, slN_def, run_cap, rules, rules2, loopRules, Tryd.facts, base0, Int.toNat_zero, Nat.reduceAdd, Nat.reduceMul, Nat.reduceSub, Nat.reduceLT, Nat.reduceLeDiff, Nat.reduceEqDiff, Int.reduceLE, Int.reduceLT, Int.reduceToNat, Int.reduceNe, Int.reduceEq, not_false_eq_true, Nat.reduceBEq, Nat.reduceDiv, Int.natCast_zero, Int.natCast_one, Int.reduceAdd, Int.reduceSub, reduceIte, ↓reduceIte, Value.oneCell', splice, reduceCtorEq]
      refine vcIf_yes (by decide) ?_
      simp only [sn_upto, sn_from, slN_def, run_cap, rules, rules2, loopRules, Tryd.facts, base0, Int.toNat_zero, Nat.reduceAdd, Nat.reduceMul, Nat.reduceSub, Nat.reduceLT, Nat.reduceLeDiff, Nat.reduceEqDiff, Int.reduceLE, Int.reduceLT, Int.reduceToNat, Int.reduceNe, Int.reduceEq, not_false_eq_true, Nat.reduceBEq, Nat.reduceDiv, Int.natCast_zero, Int.natCast_one, Int.reduceAdd, Int.reduceSub, reduceIte, ↓reduceIte, Value.oneCell', splice, reduceCtorEq]
      refine ⟨by kernel_rfl, ?_⟩
      refine ⟨by kernel_rfl, ?_⟩
      simp only [e2.1, e2.2, f2.1, f2.2, sn_upto, sn_from, slN_def, run_cap, rules, rules2, loopRules, Tryd.facts, base0, Int.toNat_zero, Nat.reduceAdd, Nat.reduceMul, Nat.reduceSub, Nat.reduceLT, Nat.reduceLeDiff, Nat.reduceEqDiff, Int.reduceLE, Int.reduceLT, Int.reduceToNat, Int.reduceNe, Int.reduceEq, not_false_eq_true, Nat.reduceBEq, Nat.reduceDiv, Int.natCast_zero, Int.natCast_one, Int.reduceAdd, Int.reduceSub, reduceIte, ↓reduceIte, Value.oneCell', splice, reduceCtorEq]
      rfl
    | 3, _ =>
      simp only [exL, selI, sn_upto, sn_from, slN_def, run_cap, rules, rules2, loopRules, Tryd.facts, base0, Int.toNat_zero, Nat.reduceAdd, Nat.reduceMul, Nat.reduceSub, Nat.reduceLT, Nat.reduceLeDiff, Nat.reduceEqDiff, Int.reduceLE, Int.reduceLT, Int.reduceToNat, Int.reduceNe, Int.reduceEq, not_false_eq_true, Nat.reduceBEq, Nat.reduceDiv, Int.natCast_zero, Int.natCast_one, Int.reduceAdd, Int.reduceSub, reduceIte, ↓reduceIte, Value.oneCell', splice, reduceCtorEq]
      refine vcIf_yes (by decide) ?_
      simp only [sn_upto, sn_from, slN_def, run_cap, rules, rules2, loopRules, Tryd.facts, base0, Int.toNat_zero, Nat.reduceAdd, Nat.reduceMul, Nat.reduceSub, Nat.reduceLT, Nat.reduceLeDiff, Nat.reduceEqDiff, Int.reduceLE, Int.reduceLT, Int.reduceToNat, Int.reduceNe, Int.reduceEq, not_false_eq_true, Nat.reduceBEq, Nat.reduceDiv, Int.natCast_zero, Int.natCast_one, Int.reduceAdd, Int.reduceSub, reduceIte, ↓reduceIte, Value.oneCell', splice, reduceCtorEq]
      refine ⟨by kernel_rfl, ?_⟩
      refine ⟨by kernel_rfl, ?_⟩
      simp only [e3.1, e3.2, f3.1, f3.2, sn_upto, sn_from, slN_def, run_cap, rules, rules2, loopRules, Tryd.facts, base0, Int.toNat_zero, Nat.reduceAdd, Nat.reduceMul, Nat.reduceSub, Nat.reduceLT, Nat.reduceLeDiff, Nat.reduceEqDiff, Int.reduceLE, Int.reduceLT, Int.reduceToNat, Int.reduceNe, Int.reduceEq, not_false_eq_true, Nat.reduceBEq, Nat.reduceDiv, Int.natCast_zero, Int.natCast_one, Int.reduceAdd, Int.reduceSub, reduceIte, ↓reduceIte, Value.oneCell', splice, reduceCtorEq]
      rfl
    | 4, _ =>
      simp only [exL, selI, sn_upto, sn_from, slN_def, run_cap, rules, rules2, loopRules, Tryd.facts, base0, Int.toNat_zero, Nat.reduceAdd, Nat.reduceMul, Nat.reduceSub, Nat.reduceLT, Nat.reduceLeDiff, Nat.reduceEqDiff, Int.reduceLE, Int.reduceLT, Int.reduceToNat, Int.reduceNe, Int.reduceEq, not_false_eq_true, Nat.reduceBEq, Nat.reduceDiv, Int.natCast_zero, Int.natCast_one, Int.reduceAdd, Int.reduceSub, reduceIte, ↓reduceIte, Value.oneCell', splice, reduceCtorEq]
      refine vcIf_yes (by decide) ?_
      simp only [sn_upto, sn_from, slN_def, run_cap, rules, rules2, loopRules, Tryd.facts, base0, Int.toNat_zero, Nat.reduceAdd, Nat.reduceMul, Nat.reduceSub, Nat.reduceLT, Nat.reduceLeDiff, Nat.reduceEqDiff, Int.reduceLE, Int.reduceLT, Int.reduceToNat, Int.reduceNe, Int.reduceEq, not_false_eq_true, Nat.reduceBEq, Nat.reduceDiv, Int.natCast_zero, Int.natCast_one, Int.reduceAdd, Int.reduceSub, reduceIte, ↓reduceIte, Value.oneCell', splice, reduceCtorEq]
      refine ⟨by kernel_rfl, ?_⟩
      refine ⟨by kernel_rfl, ?_⟩
      simp only [e4.1, e4.2, f4.1, f4.2, sn_upto, sn_from, slN_def, run_cap, rules, rules2, loopRules, Tryd.facts, base0, Int.toNat_zero, Nat.reduceAdd, Nat.reduceMul, Nat.reduceSub, Nat.reduceLT, Nat.reduceLeDiff, Nat.reduceEqDiff, Int.reduceLE, Int.reduceLT, Int.reduceToNat, Int.reduceNe, Int.reduceEq, not_false_eq_true, Nat.reduceBEq, Nat.reduceDiv, Int.natCast_zero, Int.natCast_one, Int.reduceAdd, Int.reduceSub, reduceIte, ↓reduceIte, Value.oneCell', splice, reduceCtorEq]
      rfl
  · simp only [exL_end, R4.l, sn_upto, sn_from, slN_def, run_cap, rules, rules2, loopRules, Tryd.facts, base0, Int.toNat_zero, Nat.reduceAdd, Nat.reduceMul, Nat.reduceSub, Nat.reduceLT, Nat.reduceLeDiff, Nat.reduceEqDiff, Int.reduceLE, Int.reduceLT, Int.reduceToNat, Int.reduceNe, Int.reduceEq, not_false_eq_true, Nat.reduceBEq, Nat.reduceDiv, Int.natCast_zero, Int.natCast_one, Int.reduceAdd, Int.reduceSub, reduceIte, ↓reduceIte, Value.oneCell', splice, reduceCtorEq]
    refine vcIf_no (by decide) ?_
    simp only [sn_upto, sn_from, slN_def, run_cap, rules, rules2, loopRules, Tryd.facts, base0, Int.toNat_zero, Nat.reduceAdd, Nat.reduceMul, Nat.reduceSub, Nat.reduceLT, Nat.reduceLeDiff, Nat.reduceEqDiff, Int.reduceLE, Int.reduceLT, Int.reduceToNat, Int.reduceNe, Int.reduceEq, not_false_eq_true, Nat.reduceBEq, Nat.reduceDiv, Int.natCast_zero, Int.natCast_one, Int.reduceAdd, Int.reduceSub, reduceIte, ↓reduceIte, Value.oneCell', splice, reduceCtorEq]
/-! ### The ladder -/
def bitOf (K : Nat → Int) (t : Nat) : Bool := (K (t / 8) / 2 ^ (t % 8)) % 2 == 1
def F5.zero : F5 := ⟨0, 0, 0, 0, 0⟩
theorem F5.zero_ok : F5.zero.Ok := by
  constructor <;> simp [F5.zero]
def ladR (K : Nat → Int) (u : F5) : Nat → R4
  | 0 => ⟨F5.one, F5.zero, u, F5.one⟩
  | k + 1 => exF (bitOf K (254 - k)) (climbF (exF (bitOf K (254 - k)) (ladR K u k)) u)
theorem ladR_ok (K : Nat → Int) (u : F5) (hu : u.Ok) : ∀ k, (ladR K u k).Ok
  | 0 => ⟨F5.one_ok, F5.zero_ok, hu, F5.one_ok⟩
  | k + 1 => exF_ok _ _ (climbF_ok _ _ (exF_ok _ _ (ladR_ok K u hu k)) hu)
/-- Bytes. -/
def By (K : Nat → Int) : Prop := ∀ i, 0 ≤ K i ∧ K i < 256
theorem quoN (t d : Nat) (h : t < 9223372036854775808) : IntKind.i64.wrap ((t : Int).tdiv (d : Int)) = ((t / d : Nat) : Int) := by
  have : t / d ≤ t := Nat.div_le_self t d
  rw [← Int.ofNat_tdiv]
  generalize t / d = q at *
  rw [wrap_i64 _ (by omega) (by omega)]
theorem quo8 (t : Nat) (h : t < 9223372036854775808) : IntKind.i64.wrap ((t : Int).tdiv 8) = ((t / 8 : Nat) : Int) := quoN t 8 h
theorem rem8 (t : Nat) : (t : Int).tmod 8 = ((t % 8 : Nat) : Int) := (Int.ofNat_tmod t 8).symm
theorem le_nat (n : Nat) : (0 ≤ (n : Int)) = True := by simp
theorem lt_nat {n m : Nat} (h : n < m) : ((n : Int) < (m : Int)) = True := by simp [h]
theorem and1 (x : Int) (h0 : 0 ≤ x) (h1 : x < 18446744073709551616) : bitI .and .u64 x 1 = x % 2 := and_mask x 1 h0 h1 (by decide)
theorem div_two_pow {x : Int} (h : 0 ≤ x) (n : Nat) : 0 ≤ x / 2 ^ n ∧ x / 2 ^ n ≤ x := by
  have hp : (0 : Int) < 2 ^ n := Int.pow_pos (by decide)
  exact ⟨Int.ediv_nonneg h (Int.le_of_lt hp), Int.ediv_le_self _ h⟩
theorem bit_of (K : Nat → Int) (hK : By K) (t : Nat) : bitI .and .u64 (IntKind.u64.wrap (shrI .u8 (K (t / 8)) ((t % 8 : Nat) : Int))) 1 = exI (bitOf K t) 0 1 := by
  have h := hK (t / 8)
  rw [shrI_eq .u8 _ _ (by simp [IntKind.bits]; omega)]
  have hd := div_two_pow h.1 (t % 8)
  simp only [exI, bitOf]
  rw [wrap_u64_in _ (by omega) (by omega), and1 _ (by omega) (by omega)]
  by_cases he : K (t / 8) / 2 ^ (t % 8) % 2 = 1
  · simp [he]
  · have : K (t / 8) / 2 ^ (t % 8) % 2 = 0 := by omega
    simp [this]
set_option maxHeartbeats 2000000 in
set_option maxRecDepth 20000 in
theorem ladder_fun (K : Nat → Int) (u : F5) (hK : By K) (hu : u.Ok) : Fun Tryd.prog 32 [Ag (rowI .u8 32 K), Ag u.l] (Ag (mulF (ladR K u 255).x2 (invP (ladR K u 255).z2 255)).l) := by
  refine fun_of_vc Tryd.func32 rfl (by kernel_rfl) (by simp [Tryd.ntmps32]) rfl rfl ?_
  simp only [F5.l, Tryd.results32, rep20, sn_upto, sn_from, slN_def, run_cap, rules, rules2, loopRules, Tryd.facts, base0, Int.toNat_zero, Nat.reduceAdd, Nat.reduceMul, Nat.reduceSub, Nat.reduceLT, Nat.reduceLeDiff, Nat.reduceEqDiff, Int.reduceLE, Int.reduceLT, Int.reduceToNat, Int.reduceNe, Int.reduceEq, not_false_eq_true, Nat.reduceBEq, Nat.reduceDiv, Int.natCast_zero, Int.natCast_one, Int.reduceAdd, Int.reduceSub, reduceIte, ↓reduceIte, Value.oneCell', splice, reduceCtorEq]
  refine loop_count 255 (fun k => [(2, Ptr 0 0), (3, Ptr 1 0), (4, Ptr 2 0), (5, Ptr 7 0), (6, I .i64 (254 - k))])
    (fun k => [(0, ⟨true, rowI .u8 32 K⟩), (1, ⟨true, u.l⟩), (2, ⟨true, [Sum.inl (Value.int IntKind.u64 0), Sum.inl (Value.int IntKind.u64 0), Sum.inl (Value.int IntKind.u64 0), Sum.inl (Value.int IntKind.u64 0), Sum.inl (Value.int IntKind.u64 0)]⟩), (7, ⟨true, (ladR K u k).l⟩)]) _ ?_ ?_ ?_
  · simp only [F5.l, R4.l, ladR, F5.one, F5.zero, sok_row, sn_upto, sn_from, slN_def, run_cap, rules, rules2, loopRules, Tryd.facts, base0, Int.toNat_zero, Nat.reduceAdd, Nat.reduceMul, Nat.reduceSub, Nat.reduceLT, Nat.reduceLeDiff, Nat.reduceEqDiff, Int.reduceLE, Int.reduceLT, Int.reduceToNat, Int.reduceNe, Int.reduceEq, not_false_eq_true, Nat.reduceBEq, Nat.reduceDiv, Int.natCast_zero, Int.natCast_one, Int.reduceAdd, Int.reduceSub, reduceIte, ↓reduceIte, Value.oneCell', splice, reduceCtorEq]
  · intro k hk
    obtain ⟨t, ht⟩ : ∃ t : Nat, (254 : Int) - k = t := ⟨254 - k, by omega⟩
    have ht' : t < 255 := by omega
    have hw : IntKind.i64.wrap ((t : Int) - 1) = 254 - ((k + 1 : Nat) : Int) := by rw [wrap_i64 _ (by omega) (by omega)]; omega
    simp only [F5.l, ht, sn_upto, sn_from, slN_def, run_cap, rules, rules2, loopRules, Tryd.facts, base0, Int.toNat_zero, Nat.reduceAdd, Nat.reduceMul, Nat.reduceSub, Nat.reduceLT, Nat.reduceLeDiff, Nat.reduceEqDiff, Int.reduceLE, Int.reduceLT, Int.reduceToNat, Int.reduceNe, Int.reduceEq, not_false_eq_true, Nat.reduceBEq, Nat.reduceDiv, Int.natCast_zero, Int.natCast_one, Int.reduceAdd, Int.reduceSub, reduceIte, ↓reduceIte, Value.oneCell', splice, reduceCtorEq]
    refine vcIf_yes (by simp) ?_
    have hg := rowI_get .u8 32 K (t / 8) (by omega)
    have hb := bit_of K hK t
    have hq := quo8 t (by omega)
    have hlt : (((t / 8 : Nat) : Int) < 32) = True := lt_nat (m := 32) (by omega)
    simp only [hq, rem8, hg, hb, hlt, le_nat, Int.toNat_natCast, R4.l, F5.l, sn_upto, sn_from, slN_def, run_cap, rules, rules2, loopRules, Tryd.facts, base0, Int.toNat_zero, Nat.reduceAdd, Nat.reduceMul, Nat.reduceSub, Nat.reduceLT, Nat.reduceLeDiff, Nat.reduceEqDiff, Int.reduceLE, Int.reduceLT, Int.reduceToNat, Int.reduceNe, Int.reduceEq, not_false_eq_true, Nat.reduceBEq, Nat.reduceDiv, Int.natCast_zero, Int.natCast_one, Int.reduceAdd, Int.reduceSub, reduceIte, ↓reduceIte, Value.oneCell', splice, reduceCtorEq]
    refine ⟨by kernel_rfl, ?_⟩
    refine Fun.draw (exchanged_fun (bitOf K t) (ladR K u k) (ladR_ok K u hu k)) Tryd.callable48 ?_
    simp only [R4.l, F5.l, sn_upto, sn_from, slN_def, run_cap, rules, rules2, loopRules, Tryd.facts, base0, Int.toNat_zero, Nat.reduceAdd, Nat.reduceMul, Nat.reduceSub, Nat.reduceLT, Nat.reduceLeDiff, Nat.reduceEqDiff, Int.reduceLE, Int.reduceLT, Int.reduceToNat, Int.reduceNe, Int.reduceEq, not_false_eq_true, Nat.reduceBEq, Nat.reduceDiv, Int.natCast_zero, Int.natCast_one, Int.reduceAdd, Int.reduceSub, reduceIte, ↓reduceIte, Value.oneCell', splice, reduceCtorEq]
    refine Fun.draw (climbed_fun _ u (exF_ok _ _ (ladR_ok K u hu k)) hu) Tryd.callable49 ?_
    simp only [R4.l, F5.l, sn_upto, sn_from, slN_def, run_cap, rules, rules2, loopRules, Tryd.facts, base0, Int.toNat_zero, Nat.reduceAdd, Nat.reduceMul, Nat.reduceSub, Nat.reduceLT, Nat.reduceLeDiff, Nat.reduceEqDiff, Int.reduceLE, Int.reduceLT, Int.reduceToNat, Int.reduceNe, Int.reduceEq, not_false_eq_true, Nat.reduceBEq, Nat.reduceDiv, Int.natCast_zero, Int.natCast_one, Int.reduceAdd, Int.reduceSub, reduceIte, ↓reduceIte, Value.oneCell', splice, reduceCtorEq]
    refine Fun.draw (exchanged_fun (bitOf K t) _ (climbF_ok _ _ (exF_ok _ _ (ladR_ok K u hu k)) hu)) Tryd.callable48 ?_
    have hs : ladR K u (k + 1) = exF (bitOf K t) (climbF (exF (bitOf K t) (ladR K u k)) u) := by rw [ladR, show 254 - k = t from by omega]
    simp only [R4.l, F5.l, hs, hw, sn_upto, sn_from, slN_def, run_cap, rules, rules2, loopRules, Tryd.facts, base0, Int.toNat_zero, Nat.reduceAdd, Nat.reduceMul, Nat.reduceSub, Nat.reduceLT, Nat.reduceLeDiff, Nat.reduceEqDiff, Int.reduceLE, Int.reduceLT, Int.reduceToNat, Int.reduceNe, Int.reduceEq, not_false_eq_true, Nat.reduceBEq, Nat.reduceDiv, Int.natCast_zero, Int.natCast_one, Int.reduceAdd, Int.reduceSub, reduceIte, ↓reduceIte, Value.oneCell', splice, reduceCtorEq]
  · simp only [F5.l, sn_upto, sn_from, slN_def, run_cap, rules, rules2, loopRules, Tryd.facts, base0, Int.toNat_zero, Nat.reduceAdd, Nat.reduceMul, Nat.reduceSub, Nat.reduceLT, Nat.reduceLeDiff, Nat.reduceEqDiff, Int.reduceLE, Int.reduceLT, Int.reduceToNat, Int.reduceNe, Int.reduceEq, not_false_eq_true, Nat.reduceBEq, Nat.reduceDiv, Int.natCast_zero, Int.natCast_one, Int.reduceAdd, Int.reduceSub, reduceIte, ↓reduceIte, Value.oneCell', splice, reduceCtorEq]
    refine vcIf_no (by simp) ?_
    simp only [F5.l, R4.l, sn_upto, sn_from, slN_def, run_cap, rules, rules2, loopRules, Tryd.facts, base0, Int.toNat_zero, Nat.reduceAdd, Nat.reduceMul, Nat.reduceSub, Nat.reduceLT, Nat.reduceLeDiff, Nat.reduceEqDiff, Int.reduceLE, Int.reduceLT, Int.reduceToNat, Int.reduceNe, Int.reduceEq, not_false_eq_true, Nat.reduceBEq, Nat.reduceDiv, Int.natCast_zero, Int.natCast_one, Int.reduceAdd, Int.reduceSub, reduceIte, ↓reduceIte, Value.oneCell', splice, reduceCtorEq]
    refine ⟨by kernel_rfl, ?_⟩
    refine Fun.draw (inverse_fun (ladR K u 255).z2 (ladR_ok K u hu 255).z2) Tryd.callable51 ?_
    simp only [F5.l, sn_upto, sn_from, slN_def, run_cap, rules, rules2, loopRules, Tryd.facts, base0, Int.toNat_zero, Nat.reduceAdd, Nat.reduceMul, Nat.reduceSub, Nat.reduceLT, Nat.reduceLeDiff, Nat.reduceEqDiff, Int.reduceLE, Int.reduceLT, Int.reduceToNat, Int.reduceNe, Int.reduceEq, not_false_eq_true, Nat.reduceBEq, Nat.reduceDiv, Int.natCast_zero, Int.natCast_one, Int.reduceAdd, Int.reduceSub, reduceIte, ↓reduceIte, Value.oneCell', splice, reduceCtorEq]
    refine Fun.draw (mul_fun (ladR K u 255).x2 (invP (ladR K u 255).z2 255) (ladR_ok K u hu 255).x2 (invP_ok _ (ladR_ok K u hu 255).z2 255)) Tryd.callable50 ?_
    simp only [F5.l, sn_upto, sn_from, slN_def, run_cap, rules, rules2, loopRules, Tryd.facts, base0, Int.toNat_zero, Nat.reduceAdd, Nat.reduceMul, Nat.reduceSub, Nat.reduceLT, Nat.reduceLeDiff, Nat.reduceEqDiff, Int.reduceLE, Int.reduceLT, Int.reduceToNat, Int.reduceNe, Int.reduceEq, not_false_eq_true, Nat.reduceBEq, Nat.reduceDiv, Int.natCast_zero, Int.natCast_one, Int.reduceAdd, Int.reduceSub, reduceIte, ↓reduceIte, Value.oneCell', splice, reduceCtorEq]
end Go.Proofs.YtlpckbkmmocaaaaDoor
