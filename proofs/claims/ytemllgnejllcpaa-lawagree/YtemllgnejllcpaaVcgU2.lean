/-
  Functions of the program and numbers that they reckon.
-/
import Derived.Test.YtemllgnejllcpaaVcgU1
set_option linter.unusedVariables false
set_option linter.unusedSimpArgs false
namespace Go.Proofs.Ytemllgnejllcpaa
open Go.Vcg
theorem Fun.draw {P : Program} [Vcg.Tables P] {f : Nat} {l : List AV} {r : AV} (h : Fun P f l r) (hc : callable P f = true) {ops : Array Oper} {i nm : Nat} {dst : Option Nat} {K : AS → Prop} {s : AS} (hk : K (s.put dst (some r))) : vcFun P ops i nm f (some l) dst K s :=
  .inl ⟨l, r, rfl, .inl ⟨hc, h⟩, hk⟩
/-- The five sums of products. -/
def mulW (a b : F5) : F5 :=
  ⟨0 + a.a0 * b.a0 + a.a1 * (19 * b.a4) + a.a2 * (19 * b.a3) + a.a3 * (19 * b.a2) + a.a4 * (19 * b.a1),
   0 + a.a0 * b.a1 + a.a1 * b.a0 + a.a2 * (19 * b.a4) + a.a3 * (19 * b.a3) + a.a4 * (19 * b.a2),
   0 + a.a0 * b.a2 + a.a1 * b.a1 + a.a2 * b.a0 + a.a3 * (19 * b.a4) + a.a4 * (19 * b.a3),
   0 + a.a0 * b.a3 + a.a1 * b.a2 + a.a2 * b.a1 + a.a3 * b.a0 + a.a4 * (19 * b.a4),
   0 + a.a0 * b.a4 + a.a1 * b.a3 + a.a2 * b.a2 + a.a3 * b.a1 + a.a4 * b.a0⟩
def mulF (a b : F5) : F5 := carriedF
  ⟨(mulW a b).a0 % 18446744073709551616 % 2251799813685248 + 19 * ((mulW a b).a4 / 2251799813685248), (mulW a b).a1 % 18446744073709551616 % 2251799813685248 + (mulW a b).a0 / 2251799813685248,
   (mulW a b).a2 % 18446744073709551616 % 2251799813685248 + (mulW a b).a1 / 2251799813685248, (mulW a b).a3 % 18446744073709551616 % 2251799813685248 + (mulW a b).a2 / 2251799813685248,
   (mulW a b).a4 % 18446744073709551616 % 2251799813685248 + (mulW a b).a3 / 2251799813685248⟩
theorem prod_bd {x y : Int} (hx : 0 ≤ x) (hx' : x < 2251799813686272) (hy : 0 ≤ y) (hy' : y < 2251799813686272) : 0 ≤ x * y ∧ x * y ≤ 5070602400917524788405613885441 :=
  mul_bd hx (show x ≤ 2251799813686271 by omega) hy (show y ≤ 2251799813686271 by omega)
theorem prod_bd19 {x y : Int} (hx : 0 ≤ x) (hx' : x < 2251799813686272) (hy : 0 ≤ y) (hy' : y < 2251799813686272) : 0 ≤ x * (19 * y) ∧ x * (19 * y) ≤ 96341445617432970979706663823379 :=
  mul_bd hx (show x ≤ 2251799813686271 by omega) (show 0 ≤ 19 * y by omega) (show 19 * y ≤ 42784196460039149 by omega)

set_option maxHeartbeats 2000000 in
theorem mul_fun (a b : F5) (ha : a.Ok) (hb : b.Ok) : Fun Try.prog 12 [Ag a.l, Ag b.l] (Ag (mulF a b).l) := by
  obtain ⟨⟨h0, h0'⟩, ⟨h1, h1'⟩, ⟨h2, h2'⟩, ⟨h3, h3'⟩, ⟨h4, h4'⟩⟩ := ha
  obtain ⟨⟨k0, k0'⟩, ⟨k1, k1'⟩, ⟨k2, k2'⟩, ⟨k3, k3'⟩, ⟨k4, k4'⟩⟩ := hb
  have p00 := prod_bd h0 h0' k0 k0'
  have p14 := prod_bd19 h1 h1' k4 k4'
  have p23 := prod_bd19 h2 h2' k3 k3'
  have p32 := prod_bd19 h3 h3' k2 k2'
  have p41 := prod_bd19 h4 h4' k1 k1'
  have p01 := prod_bd h0 h0' k1 k1'
  have p10 := prod_bd h1 h1' k0 k0'
  have p24 := prod_bd19 h2 h2' k4 k4'
  have p33 := prod_bd19 h3 h3' k3 k3'
  have p42 := prod_bd19 h4 h4' k2 k2'
  have p02 := prod_bd h0 h0' k2 k2'
  have p11 := prod_bd h1 h1' k1 k1'
  have p20 := prod_bd h2 h2' k0 k0'
  have p34 := prod_bd19 h3 h3' k4 k4'
  have p43 := prod_bd19 h4 h4' k3 k3'
  have p03 := prod_bd h0 h0' k3 k3'
  have p12 := prod_bd h1 h1' k2 k2'
  have p21 := prod_bd h2 h2' k1 k1'
  have p30 := prod_bd h3 h3' k0 k0'
  have p44 := prod_bd19 h4 h4' k4 k4'
  have p04 := prod_bd h0 h0' k4 k4'
  have p13 := prod_bd h1 h1' k3 k3'
  have p22 := prod_bd h2 h2' k2 k2'
  have p31 := prod_bd h3 h3' k1 k1'
  have p40 := prod_bd h4 h4' k0 k0'
  have e1 : IntKind.u64.wrap (19 * b.a1) = 19 * b.a1 := wrap_u64_in _ (by omega) (by omega)
  have e2 : IntKind.u64.wrap (19 * b.a2) = 19 * b.a2 := wrap_u64_in _ (by omega) (by omega)
  have e3 : IntKind.u64.wrap (19 * b.a3) = 19 * b.a3 := wrap_u64_in _ (by omega) (by omega)
  have e4 : IntKind.u64.wrap (19 * b.a4) = 19 * b.a4 := wrap_u64_in _ (by omega) (by omega)
  refine fun_of_vc Try.func12 rfl (by kernel_rfl) (by simp [Try.ntmps12]) rfl rfl ?_
  simp only [F5.l, Try.results12, e1, e2, e3, e4, sn_upto, sn_from, slN_def, run_cap, rules, rules2, loopRules, Try.facts, base0, Int.toNat_zero, Nat.reduceAdd, Nat.reduceMul, Nat.reduceSub, Nat.reduceLT, Nat.reduceLeDiff, Nat.reduceEqDiff, Int.reduceLE, Int.reduceLT, Int.reduceToNat, Int.reduceNe, Int.reduceEq, not_false_eq_true, Nat.reduceBEq, Nat.reduceDiv, Int.natCast_zero, Int.natCast_one, Int.reduceAdd, Int.reduceSub, reduceIte, ↓reduceIte, Value.oneCell', splice, reduceCtorEq]
  refine ⟨by kernel_rfl, ?_⟩
  refine ⟨by kernel_rfl, ?_⟩
  refine Fun.draw (plus_fun (0) a.a0 b.a0 (by omega) (by omega) (by omega) (by omega) (by omega) (by omega)) Try.callable17 ?_
  simp only [wideL, sn_upto, sn_from, slN_def, run_cap, rules, rules2, loopRules, Try.facts, base0, Int.toNat_zero, Nat.reduceAdd, Nat.reduceMul, Nat.reduceSub, Nat.reduceLT, Nat.reduceLeDiff, Nat.reduceEqDiff, Int.reduceLE, Int.reduceLT, Int.reduceToNat, Int.reduceNe, Int.reduceEq, not_false_eq_true, Nat.reduceBEq, Nat.reduceDiv, Int.natCast_zero, Int.natCast_one, Int.reduceAdd, Int.reduceSub, reduceIte, ↓reduceIte, Value.oneCell', splice, reduceCtorEq]
  refine Fun.draw (plus_fun (0 + a.a0 * b.a0) a.a1 (19 * b.a4) (by omega) (by omega) (by omega) (by omega) (by omega) (by omega)) Try.callable17 ?_
  simp only [wideL, sn_upto, sn_from, slN_def, run_cap, rules, rules2, loopRules, Try.facts, base0, Int.toNat_zero, Nat.reduceAdd, Nat.reduceMul, Nat.reduceSub, Nat.reduceLT, Nat.reduceLeDiff, Nat.reduceEqDiff, Int.reduceLE, Int.reduceLT, Int.reduceToNat, Int.reduceNe, Int.reduceEq, not_false_eq_true, Nat.reduceBEq, Nat.reduceDiv, Int.natCast_zero, Int.natCast_one, Int.reduceAdd, Int.reduceSub, reduceIte, ↓reduceIte, Value.oneCell', splice, reduceCtorEq]
  refine Fun.draw (plus_fun (0 + a.a0 * b.a0 + a.a1 * (19 * b.a4)) a.a2 (19 * b.a3) (by omega) (by omega) (by omega) (by omega) (by omega) (by omega)) Try.callable17 ?_
  simp only [wideL, sn_upto, sn_from, slN_def, run_cap, rules, rules2, loopRules, Try.facts, base0, Int.toNat_zero, Nat.reduceAdd, Nat.reduceMul, Nat.reduceSub, Nat.reduceLT, Nat.reduceLeDiff, Nat.reduceEqDiff, Int.reduceLE, Int.reduceLT, Int.reduceToNat, Int.reduceNe, Int.reduceEq, not_false_eq_true, Nat.reduceBEq, Nat.reduceDiv, Int.natCast_zero, Int.natCast_one, Int.reduceAdd, Int.reduceSub, reduceIte, ↓reduceIte, Value.oneCell', splice, reduceCtorEq]
  refine Fun.draw (plus_fun (0 + a.a0 * b.a0 + a.a1 * (19 * b.a4) + a.a2 * (19 * b.a3)) a.a3 (19 * b.a2) (by omega) (by omega) (by omega) (by omega) (by omega) (by omega)) Try.callable17 ?_
  simp only [wideL, sn_upto, sn_from, slN_def, run_cap, rules, rules2, loopRules, Try.facts, base0, Int.toNat_zero, Nat.reduceAdd, Nat.reduceMul, Nat.reduceSub, Nat.reduceLT, Nat.reduceLeDiff, Nat.reduceEqDiff, Int.reduceLE, Int.reduceLT, Int.reduceToNat, Int.reduceNe, Int.reduceEq, not_false_eq_true, Nat.reduceBEq, Nat.reduceDiv, Int.natCast_zero, Int.natCast_one, Int.reduceAdd, Int.reduceSub, reduceIte, ↓reduceIte, Value.oneCell', splice, reduceCtorEq]
  refine Fun.draw (plus_fun (0 + a.a0 * b.a0 + a.a1 * (19 * b.a4) + a.a2 * (19 * b.a3) + a.a3 * (19 * b.a2)) a.a4 (19 * b.a1) (by omega) (by omega) (by omega) (by omega) (by omega) (by omega)) Try.callable17 ?_
  simp only [wideL, sn_upto, sn_from, slN_def, run_cap, rules, rules2, loopRules, Try.facts, base0, Int.toNat_zero, Nat.reduceAdd, Nat.reduceMul, Nat.reduceSub, Nat.reduceLT, Nat.reduceLeDiff, Nat.reduceEqDiff, Int.reduceLE, Int.reduceLT, Int.reduceToNat, Int.reduceNe, Int.reduceEq, not_false_eq_true, Nat.reduceBEq, Nat.reduceDiv, Int.natCast_zero, Int.natCast_one, Int.reduceAdd, Int.reduceSub, reduceIte, ↓reduceIte, Value.oneCell', splice, reduceCtorEq]
  refine ⟨by kernel_rfl, ?_⟩
  refine Fun.draw (plus_fun (0) a.a0 b.a1 (by omega) (by omega) (by omega) (by omega) (by omega) (by omega)) Try.callable17 ?_
  simp only [wideL, sn_upto, sn_from, slN_def, run_cap, rules, rules2, loopRules, Try.facts, base0, Int.toNat_zero, Nat.reduceAdd, Nat.reduceMul, Nat.reduceSub, Nat.reduceLT, Nat.reduceLeDiff, Nat.reduceEqDiff, Int.reduceLE, Int.reduceLT, Int.reduceToNat, Int.reduceNe, Int.reduceEq, not_false_eq_true, Nat.reduceBEq, Nat.reduceDiv, Int.natCast_zero, Int.natCast_one, Int.reduceAdd, Int.reduceSub, reduceIte, ↓reduceIte, Value.oneCell', splice, reduceCtorEq]
  refine Fun.draw (plus_fun (0 + a.a0 * b.a1) a.a1 b.a0 (by omega) (by omega) (by omega) (by omega) (by omega) (by omega)) Try.callable17 ?_
  simp only [wideL, sn_upto, sn_from, slN_def, run_cap, rules, rules2, loopRules, Try.facts, base0, Int.toNat_zero, Nat.reduceAdd, Nat.reduceMul, Nat.reduceSub, Nat.reduceLT, Nat.reduceLeDiff, Nat.reduceEqDiff, Int.reduceLE, Int.reduceLT, Int.reduceToNat, Int.reduceNe, Int.reduceEq, not_false_eq_true, Nat.reduceBEq, Nat.reduceDiv, Int.natCast_zero, Int.natCast_one, Int.reduceAdd, Int.reduceSub, reduceIte, ↓reduceIte, Value.oneCell', splice, reduceCtorEq]
  refine Fun.draw (plus_fun (0 + a.a0 * b.a1 + a.a1 * b.a0) a.a2 (19 * b.a4) (by omega) (by omega) (by omega) (by omega) (by omega) (by omega)) Try.callable17 ?_
  simp only [wideL, sn_upto, sn_from, slN_def, run_cap, rules, rules2, loopRules, Try.facts, base0, Int.toNat_zero, Nat.reduceAdd, Nat.reduceMul, Nat.reduceSub, Nat.reduceLT, Nat.reduceLeDiff, Nat.reduceEqDiff, Int.reduceLE, Int.reduceLT, Int.reduceToNat, Int.reduceNe, Int.reduceEq, not_false_eq_true, Nat.reduceBEq, Nat.reduceDiv, Int.natCast_zero, Int.natCast_one, Int.reduceAdd, Int.reduceSub, reduceIte, ↓reduceIte, Value.oneCell', splice, reduceCtorEq]
  refine Fun.draw (plus_fun (0 + a.a0 * b.a1 + a.a1 * b.a0 + a.a2 * (19 * b.a4)) a.a3 (19 * b.a3) (by omega) (by omega) (by omega) (by omega) (by omega) (by omega)) Try.callable17 ?_
  simp only [wideL, sn_upto, sn_from, slN_def, run_cap, rules, rules2, loopRules, Try.facts, base0, Int.toNat_zero, Nat.reduceAdd, Nat.reduceMul, Nat.reduceSub, Nat.reduceLT, Nat.reduceLeDiff, Nat.reduceEqDiff, Int.reduceLE, Int.reduceLT, Int.reduceToNat, Int.reduceNe, Int.reduceEq, not_false_eq_true, Nat.reduceBEq, Nat.reduceDiv, Int.natCast_zero, Int.natCast_one, Int.reduceAdd, Int.reduceSub, reduceIte, ↓reduceIte, Value.oneCell', splice, reduceCtorEq]
  refine Fun.draw (plus_fun (0 + a.a0 * b.a1 + a.a1 * b.a0 + a.a2 * (19 * b.a4) + a.a3 * (19 * b.a3)) a.a4 (19 * b.a2) (by omega) (by omega) (by omega) (by omega) (by omega) (by omega)) Try.callable17 ?_
  simp only [wideL, sn_upto, sn_from, slN_def, run_cap, rules, rules2, loopRules, Try.facts, base0, Int.toNat_zero, Nat.reduceAdd, Nat.reduceMul, Nat.reduceSub, Nat.reduceLT, Nat.reduceLeDiff, Nat.reduceEqDiff, Int.reduceLE, Int.reduceLT, Int.reduceToNat, Int.reduceNe, Int.reduceEq, not_false_eq_true, Nat.reduceBEq, Nat.reduceDiv, Int.natCast_zero, Int.natCast_one, Int.reduceAdd, Int.reduceSub, reduceIte, ↓reduceIte, Value.oneCell', splice, reduceCtorEq]
  refine ⟨by kernel_rfl, ?_⟩
  refine Fun.draw (plus_fun (0) a.a0 b.a2 (by omega) (by omega) (by omega) (by omega) (by omega) (by omega)) Try.callable17 ?_
  simp only [wideL, sn_upto, sn_from, slN_def, run_cap, rules, rules2, loopRules, Try.facts, base0, Int.toNat_zero, Nat.reduceAdd, Nat.reduceMul, Nat.reduceSub, Nat.reduceLT, Nat.reduceLeDiff, Nat.reduceEqDiff, Int.reduceLE, Int.reduceLT, Int.reduceToNat, Int.reduceNe, Int.reduceEq, not_false_eq_true, Nat.reduceBEq, Nat.reduceDiv, Int.natCast_zero, Int.natCast_one, Int.reduceAdd, Int.reduceSub, reduceIte, ↓reduceIte, Value.oneCell', splice, reduceCtorEq]
  refine Fun.draw (plus_fun (0 + a.a0 * b.a2) a.a1 b.a1 (by omega) (by omega) (by omega) (by omega) (by omega) (by omega)) Try.callable17 ?_
  simp only [wideL, sn_upto, sn_from, slN_def, run_cap, rules, rules2, loopRules, Try.facts, base0, Int.toNat_zero, Nat.reduceAdd, Nat.reduceMul, Nat.reduceSub, Nat.reduceLT, Nat.reduceLeDiff, Nat.reduceEqDiff, Int.reduceLE, Int.reduceLT, Int.reduceToNat, Int.reduceNe, Int.reduceEq, not_false_eq_true, Nat.reduceBEq, Nat.reduceDiv, Int.natCast_zero, Int.natCast_one, Int.reduceAdd, Int.reduceSub, reduceIte, ↓reduceIte, Value.oneCell', splice, reduceCtorEq]
  refine Fun.draw (plus_fun (0 + a.a0 * b.a2 + a.a1 * b.a1) a.a2 b.a0 (by omega) (by omega) (by omega) (by omega) (by omega) (by omega)) Try.callable17 ?_
  simp only [wideL, sn_upto, sn_from, slN_def, run_cap, rules, rules2, loopRules, Try.facts, base0, Int.toNat_zero, Nat.reduceAdd, Nat.reduceMul, Nat.reduceSub, Nat.reduceLT, Nat.reduceLeDiff, Nat.reduceEqDiff, Int.reduceLE, Int.reduceLT, Int.reduceToNat, Int.reduceNe, Int.reduceEq, not_false_eq_true, Nat.reduceBEq, Nat.reduceDiv, Int.natCast_zero, Int.natCast_one, Int.reduceAdd, Int.reduceSub, reduceIte, ↓reduceIte, Value.oneCell', splice, reduceCtorEq]
  refine Fun.draw (plus_fun (0 + a.a0 * b.a2 + a.a1 * b.a1 + a.a2 * b.a0) a.a3 (19 * b.a4) (by omega) (by omega) (by omega) (by omega) (by omega) (by omega)) Try.callable17 ?_
  simp only [wideL, sn_upto, sn_from, slN_def, run_cap, rules, rules2, loopRules, Try.facts, base0, Int.toNat_zero, Nat.reduceAdd, Nat.reduceMul, Nat.reduceSub, Nat.reduceLT, Nat.reduceLeDiff, Nat.reduceEqDiff, Int.reduceLE, Int.reduceLT, Int.reduceToNat, Int.reduceNe, Int.reduceEq, not_false_eq_true, Nat.reduceBEq, Nat.reduceDiv, Int.natCast_zero, Int.natCast_one, Int.reduceAdd, Int.reduceSub, reduceIte, ↓reduceIte, Value.oneCell', splice, reduceCtorEq]
  refine Fun.draw (plus_fun (0 + a.a0 * b.a2 + a.a1 * b.a1 + a.a2 * b.a0 + a.a3 * (19 * b.a4)) a.a4 (19 * b.a3) (by omega) (by omega) (by omega) (by omega) (by omega) (by omega)) Try.callable17 ?_
  simp only [wideL, sn_upto, sn_from, slN_def, run_cap, rules, rules2, loopRules, Try.facts, base0, Int.toNat_zero, Nat.reduceAdd, Nat.reduceMul, Nat.reduceSub, Nat.reduceLT, Nat.reduceLeDiff, Nat.reduceEqDiff, Int.reduceLE, Int.reduceLT, Int.reduceToNat, Int.reduceNe, Int.reduceEq, not_false_eq_true, Nat.reduceBEq, Nat.reduceDiv, Int.natCast_zero, Int.natCast_one, Int.reduceAdd, Int.reduceSub, reduceIte, ↓reduceIte, Value.oneCell', splice, reduceCtorEq]
  refine ⟨by kernel_rfl, ?_⟩
  refine Fun.draw (plus_fun (0) a.a0 b.a3 (by omega) (by omega) (by omega) (by omega) (by omega) (by omega)) Try.callable17 ?_
  simp only [wideL, sn_upto, sn_from, slN_def, run_cap, rules, rules2, loopRules, Try.facts, base0, Int.toNat_zero, Nat.reduceAdd, Nat.reduceMul, Nat.reduceSub, Nat.reduceLT, Nat.reduceLeDiff, Nat.reduceEqDiff, Int.reduceLE, Int.reduceLT, Int.reduceToNat, Int.reduceNe, Int.reduceEq, not_false_eq_true, Nat.reduceBEq, Nat.reduceDiv, Int.natCast_zero, Int.natCast_one, Int.reduceAdd, Int.reduceSub, reduceIte, ↓reduceIte, Value.oneCell', splice, reduceCtorEq]
  refine Fun.draw (plus_fun (0 + a.a0 * b.a3) a.a1 b.a2 (by omega) (by omega) (by omega) (by omega) (by omega) (by omega)) Try.callable17 ?_
  simp only [wideL, sn_upto, sn_from, slN_def, run_cap, rules, rules2, loopRules, Try.facts, base0, Int.toNat_zero, Nat.reduceAdd, Nat.reduceMul, Nat.reduceSub, Nat.reduceLT, Nat.reduceLeDiff, Nat.reduceEqDiff, Int.reduceLE, Int.reduceLT, Int.reduceToNat, Int.reduceNe, Int.reduceEq, not_false_eq_true, Nat.reduceBEq, Nat.reduceDiv, Int.natCast_zero, Int.natCast_one, Int.reduceAdd, Int.reduceSub, reduceIte, ↓reduceIte, Value.oneCell', splice, reduceCtorEq]
  refine Fun.draw (plus_fun (0 + a.a0 * b.a3 + a.a1 * b.a2) a.a2 b.a1 (by omega) (by omega) (by omega) (by omega) (by omega) (by omega)) Try.callable17 ?_
  simp only [wideL, sn_upto, sn_from, slN_def, run_cap, rules, rules2, loopRules, Try.facts, base0, Int.toNat_zero, Nat.reduceAdd, Nat.reduceMul, Nat.reduceSub, Nat.reduceLT, Nat.reduceLeDiff, Nat.reduceEqDiff, Int.reduceLE, Int.reduceLT, Int.reduceToNat, Int.reduceNe, Int.reduceEq, not_false_eq_true, Nat.reduceBEq, Nat.reduceDiv, Int.natCast_zero, Int.natCast_one, Int.reduceAdd, Int.reduceSub, reduceIte, ↓reduceIte, Value.oneCell', splice, reduceCtorEq]
  refine Fun.draw (plus_fun (0 + a.a0 * b.a3 + a.a1 * b.a2 + a.a2 * b.a1) a.a3 b.a0 (by omega) (by omega) (by omega) (by omega) (by omega) (by omega)) Try.callable17 ?_
  simp only [wideL, sn_upto, sn_from, slN_def, run_cap, rules, rules2, loopRules, Try.facts, base0, Int.toNat_zero, Nat.reduceAdd, Nat.reduceMul, Nat.reduceSub, Nat.reduceLT, Nat.reduceLeDiff, Nat.reduceEqDiff, Int.reduceLE, Int.reduceLT, Int.reduceToNat, Int.reduceNe, Int.reduceEq, not_false_eq_true, Nat.reduceBEq, Nat.reduceDiv, Int.natCast_zero, Int.natCast_one, Int.reduceAdd, Int.reduceSub, reduceIte, ↓reduceIte, Value.oneCell', splice, reduceCtorEq]
  refine Fun.draw (plus_fun (0 + a.a0 * b.a3 + a.a1 * b.a2 + a.a2 * b.a1 + a.a3 * b.a0) a.a4 (19 * b.a4) (by omega) (by omega) (by omega) (by omega) (by omega) (by omega)) Try.callable17 ?_
  simp only [wideL, sn_upto, sn_from, slN_def, run_cap, rules, rules2, loopRules, Try.facts, base0, Int.toNat_zero, Nat.reduceAdd, Nat.reduceMul, Nat.reduceSub, Nat.reduceLT, Nat.reduceLeDiff, Nat.reduceEqDiff, Int.reduceLE, Int.reduceLT, Int.reduceToNat, Int.reduceNe, Int.reduceEq, not_false_eq_true, Nat.reduceBEq, Nat.reduceDiv, Int.natCast_zero, Int.natCast_one, Int.reduceAdd, Int.reduceSub, reduceIte, ↓reduceIte, Value.oneCell', splice, reduceCtorEq]
  refine ⟨by kernel_rfl, ?_⟩
  refine Fun.draw (plus_fun (0) a.a0 b.a4 (by omega) (by omega) (by omega) (by omega) (by omega) (by omega)) Try.callable17 ?_
  simp only [wideL, sn_upto, sn_from, slN_def, run_cap, rules, rules2, loopRules, Try.facts, base0, Int.toNat_zero, Nat.reduceAdd, Nat.reduceMul, Nat.reduceSub, Nat.reduceLT, Nat.reduceLeDiff, Nat.reduceEqDiff, Int.reduceLE, Int.reduceLT, Int.reduceToNat, Int.reduceNe, Int.reduceEq, not_false_eq_true, Nat.reduceBEq, Nat.reduceDiv, Int.natCast_zero, Int.natCast_one, Int.reduceAdd, Int.reduceSub, reduceIte, ↓reduceIte, Value.oneCell', splice, reduceCtorEq]
  refine Fun.draw (plus_fun (0 + a.a0 * b.a4) a.a1 b.a3 (by omega) (by omega) (by omega) (by omega) (by omega) (by omega)) Try.callable17 ?_
  simp only [wideL, sn_upto, sn_from, slN_def, run_cap, rules, rules2, loopRules, Try.facts, base0, Int.toNat_zero, Nat.reduceAdd, Nat.reduceMul, Nat.reduceSub, Nat.reduceLT, Nat.reduceLeDiff, Nat.reduceEqDiff, Int.reduceLE, Int.reduceLT, Int.reduceToNat, Int.reduceNe, Int.reduceEq, not_false_eq_true, Nat.reduceBEq, Nat.reduceDiv, Int.natCast_zero, Int.natCast_one, Int.reduceAdd, Int.reduceSub, reduceIte, ↓reduceIte, Value.oneCell', splice, reduceCtorEq]
  refine Fun.draw (plus_fun (0 + a.a0 * b.a4 + a.a1 * b.a3) a.a2 b.a2 (by omega) (by omega) (by omega) (by omega) (by omega) (by omega)) Try.callable17 ?_
  simp only [wideL, sn_upto, sn_from, slN_def, run_cap, rules, rules2, loopRules, Try.facts, base0, Int.toNat_zero, Nat.reduceAdd, Nat.reduceMul, Nat.reduceSub, Nat.reduceLT, Nat.reduceLeDiff, Nat.reduceEqDiff, Int.reduceLE, Int.reduceLT, Int.reduceToNat, Int.reduceNe, Int.reduceEq, not_false_eq_true, Nat.reduceBEq, Nat.reduceDiv, Int.natCast_zero, Int.natCast_one, Int.reduceAdd, Int.reduceSub, reduceIte, ↓reduceIte, Value.oneCell', splice, reduceCtorEq]
  refine Fun.draw (plus_fun (0 + a.a0 * b.a4 + a.a1 * b.a3 + a.a2 * b.a2) a.a3 b.a1 (by omega) (by omega) (by omega) (by omega) (by omega) (by omega)) Try.callable17 ?_
  simp only [wideL, sn_upto, sn_from, slN_def, run_cap, rules, rules2, loopRules, Try.facts, base0, Int.toNat_zero, Nat.reduceAdd, Nat.reduceMul, Nat.reduceSub, Nat.reduceLT, Nat.reduceLeDiff, Nat.reduceEqDiff, Int.reduceLE, Int.reduceLT, Int.reduceToNat, Int.reduceNe, Int.reduceEq, not_false_eq_true, Nat.reduceBEq, Nat.reduceDiv, Int.natCast_zero, Int.natCast_one, Int.reduceAdd, Int.reduceSub, reduceIte, ↓reduceIte, Value.oneCell', splice, reduceCtorEq]
  refine Fun.draw (plus_fun (0 + a.a0 * b.a4 + a.a1 * b.a3 + a.a2 * b.a2 + a.a3 * b.a1) a.a4 b.a0 (by omega) (by omega) (by omega) (by omega) (by omega) (by omega)) Try.callable17 ?_
  simp only [wideL, sn_upto, sn_from, slN_def, run_cap, rules, rules2, loopRules, Try.facts, base0, Int.toNat_zero, Nat.reduceAdd, Nat.reduceMul, Nat.reduceSub, Nat.reduceLT, Nat.reduceLeDiff, Nat.reduceEqDiff, Int.reduceLE, Int.reduceLT, Int.reduceToNat, Int.reduceNe, Int.reduceEq, not_false_eq_true, Nat.reduceBEq, Nat.reduceDiv, Int.natCast_zero, Int.natCast_one, Int.reduceAdd, Int.reduceSub, reduceIte, ↓reduceIte, Value.oneCell', splice, reduceCtorEq]
  have q0 : 0 ≤ 0 + a.a0 * b.a0 + a.a1 * (19 * b.a4) + a.a2 * (19 * b.a3) + a.a3 * (19 * b.a2) + a.a4 * (19 * b.a1) ∧ 0 + a.a0 * b.a0 + a.a1 * (19 * b.a4) + a.a2 * (19 * b.a3) + a.a3 * (19 * b.a2) + a.a4 * (19 * b.a1) ≤ 390436384870649408707232269178957 := by omega
  have q1 : 0 ≤ 0 + a.a0 * b.a1 + a.a1 * b.a0 + a.a2 * (19 * b.a4) + a.a3 * (19 * b.a3) + a.a4 * (19 * b.a2) ∧ 0 + a.a0 * b.a1 + a.a1 * b.a0 + a.a2 * (19 * b.a4) + a.a3 * (19 * b.a3) + a.a4 * (19 * b.a2) ≤ 299165541654133962515931219241019 := by omega
  have q2 : 0 ≤ 0 + a.a0 * b.a2 + a.a1 * b.a1 + a.a2 * b.a0 + a.a3 * (19 * b.a4) + a.a4 * (19 * b.a3) ∧ 0 + a.a0 * b.a2 + a.a1 * b.a1 + a.a2 * b.a0 + a.a3 * (19 * b.a4) + a.a4 * (19 * b.a3) ≤ 207894698437618516324630169303081 := by omega
  have q3 : 0 ≤ 0 + a.a0 * b.a3 + a.a1 * b.a2 + a.a2 * b.a1 + a.a3 * b.a0 + a.a4 * (19 * b.a4) ∧ 0 + a.a0 * b.a3 + a.a1 * b.a2 + a.a2 * b.a1 + a.a3 * b.a0 + a.a4 * (19 * b.a4) ≤ 116623855221103070133329119365143 := by omega
  have q4 : 0 ≤ 0 + a.a0 * b.a4 + a.a1 * b.a3 + a.a2 * b.a2 + a.a3 * b.a1 + a.a4 * b.a0 ∧ 0 + a.a0 * b.a4 + a.a1 * b.a3 + a.a2 * b.a2 + a.a3 * b.a1 + a.a4 * b.a0 ≤ 25353012004587623942028069427205 := by omega
  clear p00 p01 p02 p03 p04 p10 p11 p12 p13 p14 p20 p21 p22 p23 p24 p30 p31 p32 p33 p34 p40 p41 p42 p43 p44
  generalize hW0 : 0 + a.a0 * b.a0 + a.a1 * (19 * b.a4) + a.a2 * (19 * b.a3) + a.a3 * (19 * b.a2) + a.a4 * (19 * b.a1) = W0 at *
  generalize hW1 : 0 + a.a0 * b.a1 + a.a1 * b.a0 + a.a2 * (19 * b.a4) + a.a3 * (19 * b.a3) + a.a4 * (19 * b.a2) = W1 at *
  generalize hW2 : 0 + a.a0 * b.a2 + a.a1 * b.a1 + a.a2 * b.a0 + a.a3 * (19 * b.a4) + a.a4 * (19 * b.a3) = W2 at *
  generalize hW3 : 0 + a.a0 * b.a3 + a.a1 * b.a2 + a.a2 * b.a1 + a.a3 * b.a0 + a.a4 * (19 * b.a4) = W3 at *
  generalize hW4 : 0 + a.a0 * b.a4 + a.a1 * b.a3 + a.a2 * b.a2 + a.a3 * b.a1 + a.a4 * b.a0 = W4 at *
  refine ⟨by kernel_rfl, ?_⟩
  refine Fun.draw (above_fun W4 (by omega) (by omega)) Try.callable19 ?_
  simp only [wideL, sn_upto, sn_from, slN_def, run_cap, rules, rules2, loopRules, Try.facts, base0, Int.toNat_zero, Nat.reduceAdd, Nat.reduceMul, Nat.reduceSub, Nat.reduceLT, Nat.reduceLeDiff, Nat.reduceEqDiff, Int.reduceLE, Int.reduceLT, Int.reduceToNat, Int.reduceNe, Int.reduceEq, not_false_eq_true, Nat.reduceBEq, Nat.reduceDiv, Int.natCast_zero, Int.natCast_one, Int.reduceAdd, Int.reduceSub, reduceIte, ↓reduceIte, Value.oneCell', splice, reduceCtorEq]
  refine Fun.draw (above_fun W0 (by omega) (by omega)) Try.callable19 ?_
  simp only [wideL, sn_upto, sn_from, slN_def, run_cap, rules, rules2, loopRules, Try.facts, base0, Int.toNat_zero, Nat.reduceAdd, Nat.reduceMul, Nat.reduceSub, Nat.reduceLT, Nat.reduceLeDiff, Nat.reduceEqDiff, Int.reduceLE, Int.reduceLT, Int.reduceToNat, Int.reduceNe, Int.reduceEq, not_false_eq_true, Nat.reduceBEq, Nat.reduceDiv, Int.natCast_zero, Int.natCast_one, Int.reduceAdd, Int.reduceSub, reduceIte, ↓reduceIte, Value.oneCell', splice, reduceCtorEq]
  refine Fun.draw (above_fun W1 (by omega) (by omega)) Try.callable19 ?_
  simp only [wideL, sn_upto, sn_from, slN_def, run_cap, rules, rules2, loopRules, Try.facts, base0, Int.toNat_zero, Nat.reduceAdd, Nat.reduceMul, Nat.reduceSub, Nat.reduceLT, Nat.reduceLeDiff, Nat.reduceEqDiff, Int.reduceLE, Int.reduceLT, Int.reduceToNat, Int.reduceNe, Int.reduceEq, not_false_eq_true, Nat.reduceBEq, Nat.reduceDiv, Int.natCast_zero, Int.natCast_one, Int.reduceAdd, Int.reduceSub, reduceIte, ↓reduceIte, Value.oneCell', splice, reduceCtorEq]
  refine Fun.draw (above_fun W2 (by omega) (by omega)) Try.callable19 ?_
  simp only [wideL, sn_upto, sn_from, slN_def, run_cap, rules, rules2, loopRules, Try.facts, base0, Int.toNat_zero, Nat.reduceAdd, Nat.reduceMul, Nat.reduceSub, Nat.reduceLT, Nat.reduceLeDiff, Nat.reduceEqDiff, Int.reduceLE, Int.reduceLT, Int.reduceToNat, Int.reduceNe, Int.reduceEq, not_false_eq_true, Nat.reduceBEq, Nat.reduceDiv, Int.natCast_zero, Int.natCast_one, Int.reduceAdd, Int.reduceSub, reduceIte, ↓reduceIte, Value.oneCell', splice, reduceCtorEq]
  refine Fun.draw (above_fun W3 (by omega) (by omega)) Try.callable19 ?_
  simp only [wideL, sn_upto, sn_from, slN_def, run_cap, rules, rules2, loopRules, Try.facts, base0, Int.toNat_zero, Nat.reduceAdd, Nat.reduceMul, Nat.reduceSub, Nat.reduceLT, Nat.reduceLeDiff, Nat.reduceEqDiff, Int.reduceLE, Int.reduceLT, Int.reduceToNat, Int.reduceNe, Int.reduceEq, not_false_eq_true, Nat.reduceBEq, Nat.reduceDiv, Int.natCast_zero, Int.natCast_one, Int.reduceAdd, Int.reduceSub, reduceIte, ↓reduceIte, Value.oneCell', splice, reduceCtorEq]
  simp only [and51 (W0 % 18446744073709551616) (by omega) (by omega), and51 (W1 % 18446744073709551616) (by omega) (by omega), and51 (W2 % 18446744073709551616) (by omega) (by omega), and51 (W3 % 18446744073709551616) (by omega) (by omega), and51 (W4 % 18446744073709551616) (by omega) (by omega)]
  rw [wrap_u64_in (19 * _) (by omega) (by omega), wrap_u64_in _ (by omega) (by omega), wrap_u64_in _ (by omega) (by omega), wrap_u64_in _ (by omega) (by omega), wrap_u64_in _ (by omega) (by omega), wrap_u64_in _ (by omega) (by omega)]
  refine Fun.draw (carried_fun ⟨W0 % 18446744073709551616 % 2251799813685248 + 19 * (W4 / 2251799813685248), W1 % 18446744073709551616 % 2251799813685248 + W0 / 2251799813685248,
    W2 % 18446744073709551616 % 2251799813685248 + W1 / 2251799813685248, W3 % 18446744073709551616 % 2251799813685248 + W2 / 2251799813685248,
    W4 % 18446744073709551616 % 2251799813685248 + W3 / 2251799813685248⟩ ⟨?_, ?_, ?_, ?_, ?_⟩) Try.callable18 ?_
  iterate 5 (simp only []; omega)
  simp only [F5.l, sn_upto, sn_from, slN_def, run_cap, rules, rules2, loopRules, Try.facts, base0, Int.toNat_zero, Nat.reduceAdd, Nat.reduceMul, Nat.reduceSub, Nat.reduceLT, Nat.reduceLeDiff, Nat.reduceEqDiff, Int.reduceLE, Int.reduceLT, Int.reduceToNat, Int.reduceNe, Int.reduceEq, not_false_eq_true, Nat.reduceBEq, Nat.reduceDiv, Int.natCast_zero, Int.natCast_one, Int.reduceAdd, Int.reduceSub, reduceIte, ↓reduceIte, Value.oneCell', splice, reduceCtorEq]
  subst hW0 hW1 hW2 hW3 hW4
  rfl
end Go.Proofs.Ytemllgnejllcpaa
