/-
  Functions of the program and numbers that they reckon.
-/
import Derived.Test.YtemllgnejllcpaaVcgU3
set_option linter.unusedVariables false
set_option linter.unusedSimpArgs false
namespace Go.Proofs.Ytemllgnejllcpaa
open Go.Vcg
/-! ### The ladder's step -/
theorem rep20 {α : Type} (x : α) : List.replicate 20 x = [x, x, x, x, x, x, x, x, x, x, x, x, x, x, x, x, x, x, x, x] := rfl
structure R4 where
  x2 : F5
  z2 : F5
  x3 : F5
  z3 : F5
def R4.l (r : R4) : List SV := [Sum.inl (.int .u64 r.x2.a0), Sum.inl (.int .u64 r.x2.a1), Sum.inl (.int .u64 r.x2.a2), Sum.inl (.int .u64 r.x2.a3), Sum.inl (.int .u64 r.x2.a4),
  Sum.inl (.int .u64 r.z2.a0), Sum.inl (.int .u64 r.z2.a1), Sum.inl (.int .u64 r.z2.a2), Sum.inl (.int .u64 r.z2.a3), Sum.inl (.int .u64 r.z2.a4),
  Sum.inl (.int .u64 r.x3.a0), Sum.inl (.int .u64 r.x3.a1), Sum.inl (.int .u64 r.x3.a2), Sum.inl (.int .u64 r.x3.a3), Sum.inl (.int .u64 r.x3.a4),
  Sum.inl (.int .u64 r.z3.a0), Sum.inl (.int .u64 r.z3.a1), Sum.inl (.int .u64 r.z3.a2), Sum.inl (.int .u64 r.z3.a3), Sum.inl (.int .u64 r.z3.a4)]
structure R4.Ok (r : R4) : Prop where
  x2 : r.x2.Ok
  z2 : r.z2.Ok
  x3 : r.x3.Ok
  z3 : r.z3.Ok
def adF (a b : F5) : F5 := carriedF (addP a b)
def sbF (a b : F5) : F5 := carriedF (subP a b)
theorem adF_fun (a b : F5) (ha : a.Ok) (hb : b.Ok) : Fun Try.prog 14 [Ag a.l, Ag b.l] (Ag (adF a b).l) := add_fun a b ha hb
theorem sbF_fun (a b : F5) (ha : a.Ok) (hb : b.Ok) : Fun Try.prog 15 [Ag a.l, Ag b.l] (Ag (sbF a b).l) := sub_fun a b ha hb
theorem adF_ok (a b : F5) (ha : a.Ok) (hb : b.Ok) : (adF a b).Ok := addF_ok a b ha hb
theorem sbF_ok (a b : F5) (ha : a.Ok) (hb : b.Ok) : (sbF a b).Ok := subF_ok a b ha hb
def F5.c : F5 := ⟨121665, 0, 0, 0, 0⟩
theorem F5.c_ok : F5.c.Ok := by
  constructor <;> simp [F5.c]
def climbF (r : R4) (u : F5) : R4 :=
  ⟨mulF (mulF (adF r.x2 r.z2) (adF r.x2 r.z2)) (mulF (sbF r.x2 r.z2) (sbF r.x2 r.z2)),
   mulF (sbF (mulF (adF r.x2 r.z2) (adF r.x2 r.z2)) (mulF (sbF r.x2 r.z2) (sbF r.x2 r.z2)))
    (adF (mulF (adF r.x2 r.z2) (adF r.x2 r.z2)) (mulF F5.c (sbF (mulF (adF r.x2 r.z2) (adF r.x2 r.z2)) (mulF (sbF r.x2 r.z2) (sbF r.x2 r.z2))))),
   mulF (adF (mulF (sbF r.x3 r.z3) (adF r.x2 r.z2)) (mulF (adF r.x3 r.z3) (sbF r.x2 r.z2))) (adF (mulF (sbF r.x3 r.z3) (adF r.x2 r.z2)) (mulF (adF r.x3 r.z3) (sbF r.x2 r.z2))),
   mulF u (mulF (sbF (mulF (sbF r.x3 r.z3) (adF r.x2 r.z2)) (mulF (adF r.x3 r.z3) (sbF r.x2 r.z2))) (sbF (mulF (sbF r.x3 r.z3) (adF r.x2 r.z2)) (mulF (adF r.x3 r.z3) (sbF r.x2 r.z2))))⟩
theorem climbF_ok (r : R4) (u : F5) (hr : r.Ok) (hu : u.Ok) : (climbF r u).Ok := by
  obtain ⟨h1, h2, h3, h4⟩ := hr
  constructor <;> simp only [climbF] <;> repeat (first | assumption | exact F5.c_ok | apply mulF_ok | apply adF_ok | apply sbF_ok)
set_option maxHeartbeats 2000000 in
set_option maxRecDepth 20000 in
theorem climbed_fun (r : R4) (u : F5) (hr : r.Ok) (hu : u.Ok) : Fun Try.prog 11 [Ag r.l, Ag u.l] (Ag (climbF r u).l) := by
  obtain ⟨h1, h2, h3, h4⟩ := hr
  have hA := adF_ok _ _ h1 h2
  have hB := sbF_ok _ _ h1 h2
  have hC := adF_ok _ _ h3 h4
  have hD := sbF_ok _ _ h3 h4
  have hAA := mulF_ok _ _ hA hA
  have hBB := mulF_ok _ _ hB hB
  have hE := sbF_ok _ _ hAA hBB
  have hDA := mulF_ok _ _ hD hA
  have hCB := mulF_ok _ _ hC hB
  have hcE := mulF_ok _ _ F5.c_ok hE
  have hs := adF_ok _ _ hAA hcE
  have hp := adF_ok _ _ hDA hCB
  have hm := sbF_ok _ _ hDA hCB
  have hmm := mulF_ok _ _ hm hm
  simp only [climbF]
  refine fun_of_vc Try.func11 rfl (by kernel_rfl) (by simp [Try.ntmps11]) rfl rfl ?_
  simp only [F5.l, R4.l, Try.results11, rep20, sn_upto, sn_from, slN_def, run_cap, rules, rules2, loopRules, Try.facts, base0, Int.toNat_zero, Nat.reduceAdd, Nat.reduceMul, Nat.reduceSub, Nat.reduceLT, Nat.reduceLeDiff, Nat.reduceEqDiff, Int.reduceLE, Int.reduceLT, Int.reduceToNat, Int.reduceNe, Int.reduceEq, not_false_eq_true, Nat.reduceBEq, Nat.reduceDiv, Int.natCast_zero, Int.natCast_one, Int.reduceAdd, Int.reduceSub, reduceIte, ↓reduceIte, Value.oneCell', splice, reduceCtorEq]
  refine ⟨by kernel_rfl, ?_⟩
  refine Fun.draw (adF_fun r.x2 r.z2 h1 h2) Try.callable14 ?_
  generalize adF r.x2 r.z2 = A at *
  simp only [F5.l, rep20, sn_upto, sn_from, slN_def, run_cap, rules, rules2, loopRules, Try.facts, base0, Int.toNat_zero, Nat.reduceAdd, Nat.reduceMul, Nat.reduceSub, Nat.reduceLT, Nat.reduceLeDiff, Nat.reduceEqDiff, Int.reduceLE, Int.reduceLT, Int.reduceToNat, Int.reduceNe, Int.reduceEq, not_false_eq_true, Nat.reduceBEq, Nat.reduceDiv, Int.natCast_zero, Int.natCast_one, Int.reduceAdd, Int.reduceSub, reduceIte, ↓reduceIte, Value.oneCell', splice, reduceCtorEq]
  refine Fun.draw (sbF_fun r.x2 r.z2 h1 h2) Try.callable15 ?_
  generalize sbF r.x2 r.z2 = B at *
  simp only [F5.l, rep20, sn_upto, sn_from, slN_def, run_cap, rules, rules2, loopRules, Try.facts, base0, Int.toNat_zero, Nat.reduceAdd, Nat.reduceMul, Nat.reduceSub, Nat.reduceLT, Nat.reduceLeDiff, Nat.reduceEqDiff, Int.reduceLE, Int.reduceLT, Int.reduceToNat, Int.reduceNe, Int.reduceEq, not_false_eq_true, Nat.reduceBEq, Nat.reduceDiv, Int.natCast_zero, Int.natCast_one, Int.reduceAdd, Int.reduceSub, reduceIte, ↓reduceIte, Value.oneCell', splice, reduceCtorEq]
  refine ⟨by kernel_rfl, ?_⟩
  refine Fun.draw (adF_fun r.x3 r.z3 h3 h4) Try.callable14 ?_
  generalize adF r.x3 r.z3 = C at *
  simp only [F5.l, rep20, sn_upto, sn_from, slN_def, run_cap, rules, rules2, loopRules, Try.facts, base0, Int.toNat_zero, Nat.reduceAdd, Nat.reduceMul, Nat.reduceSub, Nat.reduceLT, Nat.reduceLeDiff, Nat.reduceEqDiff, Int.reduceLE, Int.reduceLT, Int.reduceToNat, Int.reduceNe, Int.reduceEq, not_false_eq_true, Nat.reduceBEq, Nat.reduceDiv, Int.natCast_zero, Int.natCast_one, Int.reduceAdd, Int.reduceSub, reduceIte, ↓reduceIte, Value.oneCell', splice, reduceCtorEq]
  refine Fun.draw (sbF_fun r.x3 r.z3 h3 h4) Try.callable15 ?_
  generalize sbF r.x3 r.z3 = D at *
  simp only [F5.l, rep20, sn_upto, sn_from, slN_def, run_cap, rules, rules2, loopRules, Try.facts, base0, Int.toNat_zero, Nat.reduceAdd, Nat.reduceMul, Nat.reduceSub, Nat.reduceLT, Nat.reduceLeDiff, Nat.reduceEqDiff, Int.reduceLE, Int.reduceLT, Int.reduceToNat, Int.reduceNe, Int.reduceEq, not_false_eq_true, Nat.reduceBEq, Nat.reduceDiv, Int.natCast_zero, Int.natCast_one, Int.reduceAdd, Int.reduceSub, reduceIte, ↓reduceIte, Value.oneCell', splice, reduceCtorEq]
  refine ⟨by kernel_rfl, ?_⟩
  refine Fun.draw (square_fun A hA) Try.callable16 ?_
  generalize mulF A A = AA at *
  simp only [F5.l, rep20, sn_upto, sn_from, slN_def, run_cap, rules, rules2, loopRules, Try.facts, base0, Int.toNat_zero, Nat.reduceAdd, Nat.reduceMul, Nat.reduceSub, Nat.reduceLT, Nat.reduceLeDiff, Nat.reduceEqDiff, Int.reduceLE, Int.reduceLT, Int.reduceToNat, Int.reduceNe, Int.reduceEq, not_false_eq_true, Nat.reduceBEq, Nat.reduceDiv, Int.natCast_zero, Int.natCast_one, Int.reduceAdd, Int.reduceSub, reduceIte, ↓reduceIte, Value.oneCell', splice, reduceCtorEq]
  refine Fun.draw (square_fun B hB) Try.callable16 ?_
  generalize mulF B B = BB at *
  simp only [F5.l, rep20, sn_upto, sn_from, slN_def, run_cap, rules, rules2, loopRules, Try.facts, base0, Int.toNat_zero, Nat.reduceAdd, Nat.reduceMul, Nat.reduceSub, Nat.reduceLT, Nat.reduceLeDiff, Nat.reduceEqDiff, Int.reduceLE, Int.reduceLT, Int.reduceToNat, Int.reduceNe, Int.reduceEq, not_false_eq_true, Nat.reduceBEq, Nat.reduceDiv, Int.natCast_zero, Int.natCast_one, Int.reduceAdd, Int.reduceSub, reduceIte, ↓reduceIte, Value.oneCell', splice, reduceCtorEq]
  refine (sbF_fun AA BB hAA hBB).vcCall ?_
  generalize sbF AA BB = E at *
  simp only [F5.l, rep20, sn_upto, sn_from, slN_def, run_cap, rules, rules2, loopRules, Try.facts, base0, Int.toNat_zero, Nat.reduceAdd, Nat.reduceMul, Nat.reduceSub, Nat.reduceLT, Nat.reduceLeDiff, Nat.reduceEqDiff, Int.reduceLE, Int.reduceLT, Int.reduceToNat, Int.reduceNe, Int.reduceEq, not_false_eq_true, Nat.reduceBEq, Nat.reduceDiv, Int.natCast_zero, Int.natCast_one, Int.reduceAdd, Int.reduceSub, reduceIte, ↓reduceIte, Value.oneCell', splice, reduceCtorEq]
  refine ⟨by kernel_rfl, ?_⟩
  refine Fun.draw (mul_fun D A hD hA) Try.callable12 ?_
  generalize mulF D A = DA at *
  simp only [F5.l, rep20, sn_upto, sn_from, slN_def, run_cap, rules, rules2, loopRules, Try.facts, base0, Int.toNat_zero, Nat.reduceAdd, Nat.reduceMul, Nat.reduceSub, Nat.reduceLT, Nat.reduceLeDiff, Nat.reduceEqDiff, Int.reduceLE, Int.reduceLT, Int.reduceToNat, Int.reduceNe, Int.reduceEq, not_false_eq_true, Nat.reduceBEq, Nat.reduceDiv, Int.natCast_zero, Int.natCast_one, Int.reduceAdd, Int.reduceSub, reduceIte, ↓reduceIte, Value.oneCell', splice, reduceCtorEq]
  refine Fun.draw (mul_fun C B hC hB) Try.callable12 ?_
  generalize mulF C B = CB at *
  simp only [F5.l, rep20, sn_upto, sn_from, slN_def, run_cap, rules, rules2, loopRules, Try.facts, base0, Int.toNat_zero, Nat.reduceAdd, Nat.reduceMul, Nat.reduceSub, Nat.reduceLT, Nat.reduceLeDiff, Nat.reduceEqDiff, Int.reduceLE, Int.reduceLT, Int.reduceToNat, Int.reduceNe, Int.reduceEq, not_false_eq_true, Nat.reduceBEq, Nat.reduceDiv, Int.natCast_zero, Int.natCast_one, Int.reduceAdd, Int.reduceSub, reduceIte, ↓reduceIte, Value.oneCell', splice, reduceCtorEq]
  refine ⟨by kernel_rfl, ?_⟩
  refine Fun.draw (mul_fun AA BB hAA hBB) Try.callable12 ?_
  simp only [F5.l, rep20, sn_upto, sn_from, slN_def, run_cap, rules, rules2, loopRules, Try.facts, base0, Int.toNat_zero, Nat.reduceAdd, Nat.reduceMul, Nat.reduceSub, Nat.reduceLT, Nat.reduceLeDiff, Nat.reduceEqDiff, Int.reduceLE, Int.reduceLT, Int.reduceToNat, Int.reduceNe, Int.reduceEq, not_false_eq_true, Nat.reduceBEq, Nat.reduceDiv, Int.natCast_zero, Int.natCast_one, Int.reduceAdd, Int.reduceSub, reduceIte, ↓reduceIte, Value.oneCell', splice, reduceCtorEq]
  refine Fun.draw (mul_fun F5.c E F5.c_ok hE) Try.callable12 ?_
  simp only [F5.l, rep20, sn_upto, sn_from, slN_def, run_cap, rules, rules2, loopRules, Try.facts, base0, Int.toNat_zero, Nat.reduceAdd, Nat.reduceMul, Nat.reduceSub, Nat.reduceLT, Nat.reduceLeDiff, Nat.reduceEqDiff, Int.reduceLE, Int.reduceLT, Int.reduceToNat, Int.reduceNe, Int.reduceEq, not_false_eq_true, Nat.reduceBEq, Nat.reduceDiv, Int.natCast_zero, Int.natCast_one, Int.reduceAdd, Int.reduceSub, reduceIte, ↓reduceIte, Value.oneCell', splice, reduceCtorEq]
  refine Fun.draw (adF_fun AA _ hAA hcE) Try.callable14 ?_
  generalize adF AA (mulF F5.c E) = S at *
  simp only [F5.l, rep20, sn_upto, sn_from, slN_def, run_cap, rules, rules2, loopRules, Try.facts, base0, Int.toNat_zero, Nat.reduceAdd, Nat.reduceMul, Nat.reduceSub, Nat.reduceLT, Nat.reduceLeDiff, Nat.reduceEqDiff, Int.reduceLE, Int.reduceLT, Int.reduceToNat, Int.reduceNe, Int.reduceEq, not_false_eq_true, Nat.reduceBEq, Nat.reduceDiv, Int.natCast_zero, Int.natCast_one, Int.reduceAdd, Int.reduceSub, reduceIte, ↓reduceIte, Value.oneCell', splice, reduceCtorEq]
  refine Fun.draw (mul_fun E S hE hs) Try.callable12 ?_
  simp only [F5.l, rep20, sn_upto, sn_from, slN_def, run_cap, rules, rules2, loopRules, Try.facts, base0, Int.toNat_zero, Nat.reduceAdd, Nat.reduceMul, Nat.reduceSub, Nat.reduceLT, Nat.reduceLeDiff, Nat.reduceEqDiff, Int.reduceLE, Int.reduceLT, Int.reduceToNat, Int.reduceNe, Int.reduceEq, not_false_eq_true, Nat.reduceBEq, Nat.reduceDiv, Int.natCast_zero, Int.natCast_one, Int.reduceAdd, Int.reduceSub, reduceIte, ↓reduceIte, Value.oneCell', splice, reduceCtorEq]
  refine Fun.draw (adF_fun DA CB hDA hCB) Try.callable14 ?_
  generalize adF DA CB = Q at *
  simp only [F5.l, rep20, sn_upto, sn_from, slN_def, run_cap, rules, rules2, loopRules, Try.facts, base0, Int.toNat_zero, Nat.reduceAdd, Nat.reduceMul, Nat.reduceSub, Nat.reduceLT, Nat.reduceLeDiff, Nat.reduceEqDiff, Int.reduceLE, Int.reduceLT, Int.reduceToNat, Int.reduceNe, Int.reduceEq, not_false_eq_true, Nat.reduceBEq, Nat.reduceDiv, Int.natCast_zero, Int.natCast_one, Int.reduceAdd, Int.reduceSub, reduceIte, ↓reduceIte, Value.oneCell', splice, reduceCtorEq]
  refine Fun.draw (square_fun Q hp) Try.callable16 ?_
  simp only [F5.l, rep20, sn_upto, sn_from, slN_def, run_cap, rules, rules2, loopRules, Try.facts, base0, Int.toNat_zero, Nat.reduceAdd, Nat.reduceMul, Nat.reduceSub, Nat.reduceLT, Nat.reduceLeDiff, Nat.reduceEqDiff, Int.reduceLE, Int.reduceLT, Int.reduceToNat, Int.reduceNe, Int.reduceEq, not_false_eq_true, Nat.reduceBEq, Nat.reduceDiv, Int.natCast_zero, Int.natCast_one, Int.reduceAdd, Int.reduceSub, reduceIte, ↓reduceIte, Value.oneCell', splice, reduceCtorEq]
  refine Fun.draw (sbF_fun DA CB hDA hCB) Try.callable15 ?_
  generalize sbF DA CB = M at *
  simp only [F5.l, rep20, sn_upto, sn_from, slN_def, run_cap, rules, rules2, loopRules, Try.facts, base0, Int.toNat_zero, Nat.reduceAdd, Nat.reduceMul, Nat.reduceSub, Nat.reduceLT, Nat.reduceLeDiff, Nat.reduceEqDiff, Int.reduceLE, Int.reduceLT, Int.reduceToNat, Int.reduceNe, Int.reduceEq, not_false_eq_true, Nat.reduceBEq, Nat.reduceDiv, Int.natCast_zero, Int.natCast_one, Int.reduceAdd, Int.reduceSub, reduceIte, ↓reduceIte, Value.oneCell', splice, reduceCtorEq]
  refine Fun.draw (square_fun M hm) Try.callable16 ?_
  generalize mulF M M = MM at *
  simp only [F5.l, rep20, sn_upto, sn_from, slN_def, run_cap, rules, rules2, loopRules, Try.facts, base0, Int.toNat_zero, Nat.reduceAdd, Nat.reduceMul, Nat.reduceSub, Nat.reduceLT, Nat.reduceLeDiff, Nat.reduceEqDiff, Int.reduceLE, Int.reduceLT, Int.reduceToNat, Int.reduceNe, Int.reduceEq, not_false_eq_true, Nat.reduceBEq, Nat.reduceDiv, Int.natCast_zero, Int.natCast_one, Int.reduceAdd, Int.reduceSub, reduceIte, ↓reduceIte, Value.oneCell', splice, reduceCtorEq]
  refine Fun.draw (mul_fun u MM hu hmm) Try.callable12 ?_
  simp only [F5.l, R4.l, rep20, sn_upto, sn_from, slN_def, run_cap, rules, rules2, loopRules, Try.facts, base0, Int.toNat_zero, Nat.reduceAdd, Nat.reduceMul, Nat.reduceSub, Nat.reduceLT, Nat.reduceLeDiff, Nat.reduceEqDiff, Int.reduceLE, Int.reduceLT, Int.reduceToNat, Int.reduceNe, Int.reduceEq, not_false_eq_true, Nat.reduceBEq, Nat.reduceDiv, Int.natCast_zero, Int.natCast_one, Int.reduceAdd, Int.reduceSub, reduceIte, ↓reduceIte, Value.oneCell', splice, reduceCtorEq]
end Go.Proofs.Ytemllgnejllcpaa
