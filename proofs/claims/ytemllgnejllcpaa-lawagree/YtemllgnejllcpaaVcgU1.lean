/-
  Functions of the program and numbers that they reckon.
-/
import Derived.Test.YtemllgnejllcpaaVcgG
import Derived.Test.YtemllgnejllcpaaVcgN
import Derived.Test.YtemllgnejllcpaaVcgFacts
import Derived.Test.YtemllgnejllcpaaVcgK
import Derived.Laws.Externs
set_option linter.unusedVariables false
set_option linter.unusedSimpArgs false
namespace Go.Proofs.Ytemllgnejllcpaa
open Go.Vcg

/-! ### Words -/
theorem add64_ext (x y c : Int) (hx : 0 ≤ x) (hy : 0 ≤ y) (h0 : 0 ≤ c) (h1 : c ≤ 1) : ∀ (g : Where) (w : World), (callFunc 21 (([I .u64 x, I .u64 y, I .u64 c] : List AV).map (AV.conc g)).toArray).run Try.prog w =
    .ok (.value (AV.conc g (.inr [.inl (.inl (.int .u64 ((x + y + c) % 18446744073709551616))), .inl (.inl (.int .u64 ((x + y + c) / 18446744073709551616)))]))) w := by
  intro g w
  show (callFunc 21 #[.int .u64 x, .int .u64 y, .int .u64 c]).run Try.prog w = _
  rw [run_callFunc_extern Try.func21 (by kernel_rfl) (by kernel_rfl) (by kernel_rfl) (e := add64Entry) (by kernel_rfl), run_add64 x y c hx hy h0 h1]
  rfl
theorem Add64.call {x y c : Int} (hx : 0 ≤ x) (hy : 0 ≤ y) (h0 : 0 ≤ c) (h1 : c ≤ 1) {dst : Option Nat} {K : AS → Prop} {s : AS}
    (hk : K (s.put dst (some (.inr [.inl (.inl (.int .u64 ((x + y + c) % 18446744073709551616))), .inl (.inl (.int .u64 ((x + y + c) / 18446744073709551616)))])))) :
    vcExt Try.prog 21 (some [I .u64 x, I .u64 y, I .u64 c]) dst K s :=
  ⟨_, by intro v hv; simp at hv; rcases hv with rfl | rfl <;> trivial, add64_ext x y c hx hy h0 h1, hk⟩

theorem mul64_fun (x y : Int) (hx : 0 ≤ x) (hx' : x < 18446744073709551616) (hy : 0 ≤ y) (hy' : y < 18446744073709551616) :
    Fun Try.prog 20 [I .u64 x, I .u64 y] (.inr [.inl (.inl (.int .u64 (x * y / 18446744073709551616))), .inl (.inl (.int .u64 (x * y % 18446744073709551616)))]) := by
  refine fun_of_vc Try.func20 rfl (by kernel_rfl) (by simp [Try.ntmps20]) rfl rfl ?_
  simp only [Try.results20, sn_upto, sn_from, slN_def, run_cap, rules, rules2, loopRules, Try.facts, base0, Int.toNat_zero, Nat.reduceAdd, Nat.reduceMul, Nat.reduceSub, Nat.reduceLT, Nat.reduceLeDiff, Nat.reduceEqDiff, Int.reduceLE, Int.reduceLT, Int.reduceToNat, Int.reduceNe, Int.reduceEq, not_false_eq_true, Nat.reduceBEq, Nat.reduceDiv, Int.natCast_zero, Int.natCast_one, Int.reduceAdd, Int.reduceSub, reduceIte, ↓reduceIte, Value.oneCell', splice, reduceCtorEq]
  rw [mul64_math x y hx hx' hy hy', wrap_u64]

/-- A sum of products, hi counting 2^64. -/
def wideL (W : Int) : List SV := [Sum.inl (.int .u64 (W / 18446744073709551616)), Sum.inl (.int .u64 (W % 18446744073709551616))]
theorem plus_fun (W x y : Int) (hW : 0 ≤ W) (hx : 0 ≤ x) (hx' : x < 18446744073709551616) (hy : 0 ≤ y) (hy' : y < 18446744073709551616) (hs : W + x * y < 340282366920938463463374607431768211456) :
    Fun Try.prog 17 [Ag (wideL W), I .u64 x, I .u64 y] (Ag (wideL (W + x * y))) := by
  have hxy : 0 ≤ x * y := Int.mul_nonneg hx hy
  refine fun_of_vc Try.func17 rfl (by kernel_rfl) (by simp [Try.ntmps17]) rfl rfl ?_
  simp only [wideL, Try.results17, sn_upto, sn_from, slN_def, run_cap, rules, rules2, loopRules, Try.facts, base0, Int.toNat_zero, Nat.reduceAdd, Nat.reduceMul, Nat.reduceSub, Nat.reduceLT, Nat.reduceLeDiff, Nat.reduceEqDiff, Int.reduceLE, Int.reduceLT, Int.reduceToNat, Int.reduceNe, Int.reduceEq, not_false_eq_true, Nat.reduceBEq, Nat.reduceDiv, Int.natCast_zero, Int.natCast_one, Int.reduceAdd, Int.reduceSub, reduceIte, ↓reduceIte, Value.oneCell', splice, reduceCtorEq]
  refine (mul64_fun x y hx hx' hy hy').vcCall ?_
  simp only [sn_upto, sn_from, slN_def, run_cap, rules, rules2, loopRules, Try.facts, base0, Int.toNat_zero, Nat.reduceAdd, Nat.reduceMul, Nat.reduceSub, Nat.reduceLT, Nat.reduceLeDiff, Nat.reduceEqDiff, Int.reduceLE, Int.reduceLT, Int.reduceToNat, Int.reduceNe, Int.reduceEq, not_false_eq_true, Nat.reduceBEq, Nat.reduceDiv, Int.natCast_zero, Int.natCast_one, Int.reduceAdd, Int.reduceSub, reduceIte, ↓reduceIte, Value.oneCell', splice, reduceCtorEq]
  refine Add64.call (by omega) (by omega) (by omega) (by omega) ?_
  simp only [sn_upto, sn_from, slN_def, run_cap, rules, rules2, loopRules, Try.facts, base0, Int.toNat_zero, Nat.reduceAdd, Nat.reduceMul, Nat.reduceSub, Nat.reduceLT, Nat.reduceLeDiff, Nat.reduceEqDiff, Int.reduceLE, Int.reduceLT, Int.reduceToNat, Int.reduceNe, Int.reduceEq, not_false_eq_true, Nat.reduceBEq, Nat.reduceDiv, Int.natCast_zero, Int.natCast_one, Int.reduceAdd, Int.reduceSub, reduceIte, ↓reduceIte, Value.oneCell', splice, reduceCtorEq]
  refine Add64.call (by omega) (by omega) (by omega) (by omega) ?_
  simp only [sn_upto, sn_from, slN_def, run_cap, rules, rules2, loopRules, Try.facts, base0, Int.toNat_zero, Nat.reduceAdd, Nat.reduceMul, Nat.reduceSub, Nat.reduceLT, Nat.reduceLeDiff, Nat.reduceEqDiff, Int.reduceLE, Int.reduceLT, Int.reduceToNat, Int.reduceNe, Int.reduceEq, not_false_eq_true, Nat.reduceBEq, Nat.reduceDiv, Int.natCast_zero, Int.natCast_one, Int.reduceAdd, Int.reduceSub, reduceIte, ↓reduceIte, Value.oneCell', splice, reduceCtorEq]
  generalize x * y = p at *
  rw [show (W / 18446744073709551616 + p / 18446744073709551616 + (W % 18446744073709551616 + p % 18446744073709551616 + 0) / 18446744073709551616) % 18446744073709551616 = (W + p) / 18446744073709551616 from by omega,
    show (W % 18446744073709551616 + p % 18446744073709551616 + 0) % 18446744073709551616 = (W + p) % 18446744073709551616 from by omega]
theorem above_fun (W : Int) (hW : 0 ≤ W) (hW' : W < 41538374868278621028243970633760768) : Fun Try.prog 19 [Ag (wideL W)] (I .u64 (W / 2251799813685248)) := by
  refine fun_of_vc Try.func19 rfl (by kernel_rfl) (by simp [Try.ntmps19]) rfl rfl ?_
  simp only [wideL, Try.results19, sn_upto, sn_from, slN_def, run_cap, rules, rules2, loopRules, Try.facts, base0, Int.toNat_zero, Nat.reduceAdd, Nat.reduceMul, Nat.reduceSub, Nat.reduceLT, Nat.reduceLeDiff, Nat.reduceEqDiff, Int.reduceLE, Int.reduceLT, Int.reduceToNat, Int.reduceNe, Int.reduceEq, not_false_eq_true, Nat.reduceBEq, Nat.reduceDiv, Int.natCast_zero, Int.natCast_one, Int.reduceAdd, Int.reduceSub, reduceIte, ↓reduceIte, Value.oneCell', splice, reduceCtorEq]
  rw [shl13, shr51, Int.emod_eq_of_lt (by omega) (by omega)]
  have := or_add (W / 18446744073709551616) (W % 18446744073709551616 / 2251799813685248) 13 (by decide) (by omega) (by omega) (by omega) (by omega)
  rw [show (2 : Int) ^ 13 = 8192 from rfl] at this
  rw [this]
  rw [show W / 18446744073709551616 * 8192 + W % 18446744073709551616 / 2251799813685248 = W / 2251799813685248 from by omega]

/-! ### Five limbs -/
structure F5 where
  a0 : Int
  a1 : Int
  a2 : Int
  a3 : Int
  a4 : Int
def F5.l (f : F5) : List SV := [Sum.inl (.int .u64 f.a0), Sum.inl (.int .u64 f.a1), Sum.inl (.int .u64 f.a2), Sum.inl (.int .u64 f.a3), Sum.inl (.int .u64 f.a4)]
def carriedF (f : F5) : F5 :=
  ⟨f.a0 % 2251799813685248 + 19 * (f.a4 / 2251799813685248), f.a1 % 2251799813685248 + f.a0 / 2251799813685248, f.a2 % 2251799813685248 + f.a1 / 2251799813685248,
   f.a3 % 2251799813685248 + f.a2 / 2251799813685248, f.a4 % 2251799813685248 + f.a3 / 2251799813685248⟩
/-- Words. -/
structure F5.U (f : F5) : Prop where
  h0 : 0 ≤ f.a0 ∧ f.a0 < 18446744073709551616
  h1 : 0 ≤ f.a1 ∧ f.a1 < 18446744073709551616
  h2 : 0 ≤ f.a2 ∧ f.a2 < 18446744073709551616
  h3 : 0 ≤ f.a3 ∧ f.a3 < 18446744073709551616
  h4 : 0 ≤ f.a4 ∧ f.a4 < 18446744073709551616
theorem carried_fun (f : F5) (h : f.U) : Fun Try.prog 18 [I .u64 f.a0, I .u64 f.a1, I .u64 f.a2, I .u64 f.a3, I .u64 f.a4] (Ag (carriedF f).l) := by
  obtain ⟨⟨h0, h0'⟩, ⟨h1, h1'⟩, ⟨h2, h2'⟩, ⟨h3, h3'⟩, ⟨h4, h4'⟩⟩ := h
  refine fun_of_vc Try.func18 rfl (by kernel_rfl) (by simp [Try.ntmps18]) rfl rfl ?_
  simp only [Try.results18, sn_upto, sn_from, slN_def, run_cap, rules, rules2, loopRules, Try.facts, base0, Int.toNat_zero, Nat.reduceAdd, Nat.reduceMul, Nat.reduceSub, Nat.reduceLT, Nat.reduceLeDiff, Nat.reduceEqDiff, Int.reduceLE, Int.reduceLT, Int.reduceToNat, Int.reduceNe, Int.reduceEq, not_false_eq_true, Nat.reduceBEq, Nat.reduceDiv, Int.natCast_zero, Int.natCast_one, Int.reduceAdd, Int.reduceSub, reduceIte, ↓reduceIte, Value.oneCell', splice, reduceCtorEq]
  simp only [shr51, and51 f.a0 h0 h0', and51 f.a1 h1 h1', and51 f.a2 h2 h2', and51 f.a3 h3 h3', and51 f.a4 h4 h4']
  rw [wrap_u64_in (19 * _) (by omega) (by omega), wrap_u64_in _ (by omega) (by omega), wrap_u64_in _ (by omega) (by omega), wrap_u64_in _ (by omega) (by omega), wrap_u64_in _ (by omega) (by omega), wrap_u64_in _ (by omega) (by omega)]
  rfl
/-- Limbs with room for carries. -/
structure F5.Ok (f : F5) : Prop where
  h0 : 0 ≤ f.a0 ∧ f.a0 < 2251799813686272
  h1 : 0 ≤ f.a1 ∧ f.a1 < 2251799813686272
  h2 : 0 ≤ f.a2 ∧ f.a2 < 2251799813686272
  h3 : 0 ≤ f.a3 ∧ f.a3 < 2251799813686272
  h4 : 0 ≤ f.a4 ∧ f.a4 < 2251799813686272
def addP (a b : F5) : F5 := ⟨a.a0 + b.a0, a.a1 + b.a1, a.a2 + b.a2, a.a3 + b.a3, a.a4 + b.a4⟩
def subP (a b : F5) : F5 := ⟨a.a0 + 4503599627370458 - b.a0, a.a1 + 4503599627370494 - b.a1, a.a2 + 4503599627370494 - b.a2, a.a3 + 4503599627370494 - b.a3, a.a4 + 4503599627370494 - b.a4⟩
theorem add_fun (a b : F5) (ha : a.Ok) (hb : b.Ok) : Fun Try.prog 14 [Ag a.l, Ag b.l] (Ag (carriedF (addP a b)).l) := by
  obtain ⟨⟨h0, h0'⟩, ⟨h1, h1'⟩, ⟨h2, h2'⟩, ⟨h3, h3'⟩, ⟨h4, h4'⟩⟩ := ha
  obtain ⟨⟨k0, k0'⟩, ⟨k1, k1'⟩, ⟨k2, k2'⟩, ⟨k3, k3'⟩, ⟨k4, k4'⟩⟩ := hb
  refine fun_of_vc Try.func14 rfl (by kernel_rfl) (by simp [Try.ntmps14]) rfl rfl ?_
  simp only [F5.l, Try.results14, sn_upto, sn_from, slN_def, run_cap, rules, rules2, loopRules, Try.facts, base0, Int.toNat_zero, Nat.reduceAdd, Nat.reduceMul, Nat.reduceSub, Nat.reduceLT, Nat.reduceLeDiff, Nat.reduceEqDiff, Int.reduceLE, Int.reduceLT, Int.reduceToNat, Int.reduceNe, Int.reduceEq, not_false_eq_true, Nat.reduceBEq, Nat.reduceDiv, Int.natCast_zero, Int.natCast_one, Int.reduceAdd, Int.reduceSub, reduceIte, ↓reduceIte, Value.oneCell', splice, reduceCtorEq]
  rw [wrap_u64_in (a.a0 + b.a0) (by omega) (by omega), wrap_u64_in (a.a1 + b.a1) (by omega) (by omega), wrap_u64_in (a.a2 + b.a2) (by omega) (by omega), wrap_u64_in (a.a3 + b.a3) (by omega) (by omega), wrap_u64_in (a.a4 + b.a4) (by omega) (by omega)]
  refine (carried_fun (addP a b) ⟨?_, ?_, ?_, ?_, ?_⟩).vcCall ?_
  iterate 5 (simp only [addP]; omega)
  simp only [F5.l, sn_upto, sn_from, slN_def, run_cap, rules, rules2, loopRules, Try.facts, base0, Int.toNat_zero, Nat.reduceAdd, Nat.reduceMul, Nat.reduceSub, Nat.reduceLT, Nat.reduceLeDiff, Nat.reduceEqDiff, Int.reduceLE, Int.reduceLT, Int.reduceToNat, Int.reduceNe, Int.reduceEq, not_false_eq_true, Nat.reduceBEq, Nat.reduceDiv, Int.natCast_zero, Int.natCast_one, Int.reduceAdd, Int.reduceSub, reduceIte, ↓reduceIte, Value.oneCell', splice, reduceCtorEq]
theorem sub_fun (a b : F5) (ha : a.Ok) (hb : b.Ok) : Fun Try.prog 15 [Ag a.l, Ag b.l] (Ag (carriedF (subP a b)).l) := by
  obtain ⟨⟨h0, h0'⟩, ⟨h1, h1'⟩, ⟨h2, h2'⟩, ⟨h3, h3'⟩, ⟨h4, h4'⟩⟩ := ha
  obtain ⟨⟨k0, k0'⟩, ⟨k1, k1'⟩, ⟨k2, k2'⟩, ⟨k3, k3'⟩, ⟨k4, k4'⟩⟩ := hb
  refine fun_of_vc Try.func15 rfl (by kernel_rfl) (by simp [Try.ntmps15]) rfl rfl ?_
  simp only [F5.l, Try.results15, sn_upto, sn_from, slN_def, run_cap, rules, rules2, loopRules, Try.facts, base0, Int.toNat_zero, Nat.reduceAdd, Nat.reduceMul, Nat.reduceSub, Nat.reduceLT, Nat.reduceLeDiff, Nat.reduceEqDiff, Int.reduceLE, Int.reduceLT, Int.reduceToNat, Int.reduceNe, Int.reduceEq, not_false_eq_true, Nat.reduceBEq, Nat.reduceDiv, Int.natCast_zero, Int.natCast_one, Int.reduceAdd, Int.reduceSub, reduceIte, ↓reduceIte, Value.oneCell', splice, reduceCtorEq]
  rw [wrap_u64_in (a.a0 + _) (by omega) (by omega), wrap_u64_in (a.a1 + _) (by omega) (by omega), wrap_u64_in (a.a2 + _) (by omega) (by omega), wrap_u64_in (a.a3 + _) (by omega) (by omega), wrap_u64_in (a.a4 + _) (by omega) (by omega),
    wrap_u64_in (a.a0 + _ - b.a0) (by omega) (by omega), wrap_u64_in (a.a1 + _ - b.a1) (by omega) (by omega), wrap_u64_in (a.a2 + _ - b.a2) (by omega) (by omega), wrap_u64_in (a.a3 + _ - b.a3) (by omega) (by omega), wrap_u64_in (a.a4 + _ - b.a4) (by omega) (by omega)]
  refine (carried_fun (subP a b) ⟨?_, ?_, ?_, ?_, ?_⟩).vcCall ?_
  iterate 5 (simp only [subP]; omega)
  simp only [F5.l, sn_upto, sn_from, slN_def, run_cap, rules, rules2, loopRules, Try.facts, base0, Int.toNat_zero, Nat.reduceAdd, Nat.reduceMul, Nat.reduceSub, Nat.reduceLT, Nat.reduceLeDiff, Nat.reduceEqDiff, Int.reduceLE, Int.reduceLT, Int.reduceToNat, Int.reduceNe, Int.reduceEq, not_false_eq_true, Nat.reduceBEq, Nat.reduceDiv, Int.natCast_zero, Int.natCast_one, Int.reduceAdd, Int.reduceSub, reduceIte, ↓reduceIte, Value.oneCell', splice, reduceCtorEq]
end Go.Proofs.Ytemllgnejllcpaa
