/-
  Functions of the cipher, of the program and of the document.
-/
import Derived.Test.YtlpckbkmmocaaaaDoorVcgG
import Derived.Test.YtlpckbkmmocaaaaDoorVcgN
import Derived.Test.YtlpckbkmmocaaaaDoorVcgFacts
import Derived.Laws.Externs
set_option linter.unusedVariables false
set_option linter.unusedSimpArgs false
namespace Go.Proofs.YtlpckbkmmocaaaaDoor
open Go.Vcg

/-! ### Words -/
theorem add64_ext (x y c : Int) (hx : 0 ≤ x) (hy : 0 ≤ y) (h0 : 0 ≤ c) (h1 : c ≤ 1) : ∀ (g : Where) (w : World), (callFunc 69 (([I .u64 x, I .u64 y, I .u64 c] : List AV).map (AV.conc g)).toArray).run Tryd.prog w =
    .ok (.value (AV.conc g (.inr [.inl (.inl (.int .u64 ((x + y + c) % 18446744073709551616))), .inl (.inl (.int .u64 ((x + y + c) / 18446744073709551616)))]))) w := by
  intro g w
  show (callFunc 69 #[.int .u64 x, .int .u64 y, .int .u64 c]).run Tryd.prog w = _
  rw [run_callFunc_extern Tryd.func69 (by kernel_rfl) (by kernel_rfl) (by kernel_rfl) (e := add64Entry) (by kernel_rfl), run_add64 x y c hx hy h0 h1]
  rfl
theorem Add64.call {x y c : Int} (hx : 0 ≤ x) (hy : 0 ≤ y) (h0 : 0 ≤ c) (h1 : c ≤ 1) {dst : Option Nat} {K : AS → Prop} {s : AS}
    (hk : K (s.put dst (some (.inr [.inl (.inl (.int .u64 ((x + y + c) % 18446744073709551616))), .inl (.inl (.int .u64 ((x + y + c) / 18446744073709551616)))])))) :
    vcExt Tryd.prog 69 (some [I .u64 x, I .u64 y, I .u64 c]) dst K s :=
  ⟨_, by intro v hv; simp at hv; rcases hv with rfl | rfl <;> trivial, add64_ext x y c hx hy h0 h1, hk⟩

theorem mul64_fun (x y : Int) (hx : 0 ≤ x) (hx' : x < 18446744073709551616) (hy : 0 ≤ y) (hy' : y < 18446744073709551616) :
    Fun Tryd.prog 68 [I .u64 x, I .u64 y] (.inr [.inl (.inl (.int .u64 (x * y / 18446744073709551616))), .inl (.inl (.int .u64 (x * y % 18446744073709551616)))]) := by
  refine fun_of_vc Tryd.func68 rfl (by kernel_rfl) (by simp [Tryd.ntmps68]) rfl rfl ?_
  simp only [Tryd.results68, sn_upto, sn_from, slN_def, run_cap, rules, rules2, loopRules, Tryd.facts, base0, Int.toNat_zero, Nat.reduceAdd, Nat.reduceMul, Nat.reduceSub, Nat.reduceLT, Nat.reduceLeDiff, Nat.reduceEqDiff, Int.reduceLE, Int.reduceLT, Int.reduceToNat, Int.reduceNe, Int.reduceEq, not_false_eq_true, Nat.reduceBEq, Nat.reduceDiv, Int.natCast_zero, Int.natCast_one, Int.reduceAdd, Int.reduceSub, reduceIte, ↓reduceIte, Value.oneCell', splice, reduceCtorEq]
  rw [mul64_math x y hx hx' hy hy', wrap_u64]

/-- A sum of products, hi counting 2^64. -/
def wideL (W : Int) : List SV := [Sum.inl (.int .u64 (W / 18446744073709551616)), Sum.inl (.int .u64 (W % 18446744073709551616))]
theorem plus_fun (W x y : Int) (hW : 0 ≤ W) (hx : 0 ≤ x) (hx' : x < 18446744073709551616) (hy : 0 ≤ y) (hy' : y < 18446744073709551616) (hs : W + x * y < 340282366920938463463374607431768211456) :
    Fun Tryd.prog 62 [Ag (wideL W), I .u64 x, I .u64 y] (Ag (wideL (W + x * y))) := by
  have hxy : 0 ≤ x * y := Int.mul_nonneg hx hy
  refine fun_of_vc Tryd.func62 rfl (by kernel_rfl) (by simp [Tryd.ntmps62]) rfl rfl ?_
  simp only [wideL, Tryd.results62, sn_upto, sn_from, slN_def, run_cap, rules, rules2, loopRules, Tryd.facts, base0, Int.toNat_zero, Nat.reduceAdd, Nat.reduceMul, Nat.reduceSub, Nat.reduceLT, Nat.reduceLeDiff, Nat.reduceEqDiff, Int.reduceLE, Int.reduceLT, Int.reduceToNat, Int.reduceNe, Int.reduceEq, not_false_eq_true, Nat.reduceBEq, Nat.reduceDiv, Int.natCast_zero, Int.natCast_one, Int.reduceAdd, Int.reduceSub, reduceIte, ↓reduceIte, Value.oneCell', splice, reduceCtorEq]
  refine (mul64_fun x y hx hx' hy hy').vcCall ?_
  simp only [sn_upto, sn_from, slN_def, run_cap, rules, rules2, loopRules, Tryd.facts, base0, Int.toNat_zero, Nat.reduceAdd, Nat.reduceMul, Nat.reduceSub, Nat.reduceLT, Nat.reduceLeDiff, Nat.reduceEqDiff, Int.reduceLE, Int.reduceLT, Int.reduceToNat, Int.reduceNe, Int.reduceEq, not_false_eq_true, Nat.reduceBEq, Nat.reduceDiv, Int.natCast_zero, Int.natCast_one, Int.reduceAdd, Int.reduceSub, reduceIte, ↓reduceIte, Value.oneCell', splice, reduceCtorEq]
  refine Add64.call (by omega) (by omega) (by omega) (by omega) ?_
  simp only [sn_upto, sn_from, slN_def, run_cap, rules, rules2, loopRules, Tryd.facts, base0, Int.toNat_zero, Nat.reduceAdd, Nat.reduceMul, Nat.reduceSub, Nat.reduceLT, Nat.reduceLeDiff, Nat.reduceEqDiff, Int.reduceLE, Int.reduceLT, Int.reduceToNat, Int.reduceNe, Int.reduceEq, not_false_eq_true, Nat.reduceBEq, Nat.reduceDiv, Int.natCast_zero, Int.natCast_one, Int.reduceAdd, Int.reduceSub, reduceIte, ↓reduceIte, Value.oneCell', splice, reduceCtorEq]
  refine Add64.call (by omega) (by omega) (by omega) (by omega) ?_
  simp only [sn_upto, sn_from, slN_def, run_cap, rules, rules2, loopRules, Tryd.facts, base0, Int.toNat_zero, Nat.reduceAdd, Nat.reduceMul, Nat.reduceSub, Nat.reduceLT, Nat.reduceLeDiff, Nat.reduceEqDiff, Int.reduceLE, Int.reduceLT, Int.reduceToNat, Int.reduceNe, Int.reduceEq, not_false_eq_true, Nat.reduceBEq, Nat.reduceDiv, Int.natCast_zero, Int.natCast_one, Int.reduceAdd, Int.reduceSub, reduceIte, ↓reduceIte, Value.oneCell', splice, reduceCtorEq]
  generalize x * y = p at *
  rw [show (W / 18446744073709551616 + p / 18446744073709551616 + (W % 18446744073709551616 + p % 18446744073709551616 + 0) / 18446744073709551616) % 18446744073709551616 = (W + p) / 18446744073709551616 from by omega,
    show (W % 18446744073709551616 + p % 18446744073709551616 + 0) % 18446744073709551616 = (W + p) % 18446744073709551616 from by omega]
theorem above_fun (W : Int) (hW : 0 ≤ W) (hW' : W < 41538374868278621028243970633760768) : Fun Tryd.prog 64 [Ag (wideL W)] (I .u64 (W / 2251799813685248)) := by
  refine fun_of_vc Tryd.func64 rfl (by kernel_rfl) (by simp [Tryd.ntmps64]) rfl rfl ?_
  simp only [wideL, Tryd.results64, sn_upto, sn_from, slN_def, run_cap, rules, rules2, loopRules, Tryd.facts, base0, Int.toNat_zero, Nat.reduceAdd, Nat.reduceMul, Nat.reduceSub, Nat.reduceLT, Nat.reduceLeDiff, Nat.reduceEqDiff, Int.reduceLE, Int.reduceLT, Int.reduceToNat, Int.reduceNe, Int.reduceEq, not_false_eq_true, Nat.reduceBEq, Nat.reduceDiv, Int.natCast_zero, Int.natCast_one, Int.reduceAdd, Int.reduceSub, reduceIte, ↓reduceIte, Value.oneCell', splice, reduceCtorEq]
  rw [shl13, shr51, Int.emod_eq_of_lt (by omega) (by omega)]
  have := or_add (W / 18446744073709551616) (W % 18446744073709551616 / 2251799813685248) 13 (by decide) (by omega) (by omega) (by omega) (by omega)
  rw [show (2 : Int) ^ 13 = 8192 from rfl] at this
  rw [this]
  rw [show W / 18446744073709551616 * 8192 + W % 18446744073709551616 / 2251799813685248 = W / 2251799813685248 from by omega]

/-! ### Five limbs -/
structure F5 where
  a0 : Int
  a1 : Int
  a2 : Int
  a3 : Int
  a4 : Int
def F5.l (f : F5) : List SV := [Sum.inl (.int .u64 f.a0), Sum.inl (.int .u64 f.a1), Sum.inl (.int .u64 f.a2), Sum.inl (.int .u64 f.a3), Sum.inl (.int .u64 f.a4)]
def carriedF (f : F5) : F5 :=
  ⟨f.a0 % 2251799813685248 + 19 * (f.a4 / 2251799813685248), f.a1 % 2251799813685248 + f.a0 / 2251799813685248, f.a2 % 2251799813685248 + f.a1 / 2251799813685248,
   f.a3 % 2251799813685248 + f.a2 / 2251799813685248, f.a4 % 2251799813685248 + f.a3 / 2251799813685248⟩
/-- Words. -/
structure F5.U (f : F5) : Prop where
  h0 : 0 ≤ f.a0 ∧ f.a0 < 18446744073709551616
  h1 : 0 ≤ f.a1 ∧ f.a1 < 18446744073709551616
  h2 : 0 ≤ f.a2 ∧ f.a2 < 18446744073709551616
  h3 : 0 ≤ f.a3 ∧ f.a3 < 18446744073709551616
  h4 : 0 ≤ f.a4 ∧ f.a4 < 18446744073709551616
theorem carried_fun (f : F5) (h : f.U) : Fun Tryd.prog 63 [I .u64 f.a0, I .u64 f.a1, I .u64 f.a2, I .u64 f.a3, I .u64 f.a4] (Ag (carriedF f).l) := by
  obtain ⟨⟨h0, h0'⟩, ⟨h1, h1'⟩, ⟨h2, h2'⟩, ⟨h3, h3'⟩, ⟨h4, h4'⟩⟩ := h
  refine fun_of_vc Tryd.func63 rfl (by kernel_rfl) (by simp [Tryd.ntmps63]) rfl rfl ?_
  simp only [Tryd.results63, sn_upto, sn_from, slN_def, run_cap, rules, rules2, loopRules, Tryd.facts, base0, Int.toNat_zero, Nat.reduceAdd, Nat.reduceMul, Nat.reduceSub, Nat.reduceLT, Nat.reduceLeDiff, Nat.reduceEqDiff, Int.reduceLE, Int.reduceLT, Int.reduceToNat, Int.reduceNe, Int.reduceEq, not_false_eq_true, Nat.reduceBEq, Nat.reduceDiv, Int.natCast_zero, Int.natCast_one, Int.reduceAdd, Int.reduceSub, reduceIte, ↓reduceIte, Value.oneCell', splice, reduceCtorEq]
  simp only [shr51, and51 f.a0 h0 h0', and51 f.a1 h1 h1', and51 f.a2 h2 h2', and51 f.a3 h3 h3', and51 f.a4 h4 h4']
  rw [wrap_u64_in (19 * _) (by omega) (by omega), wrap_u64_in _ (by omega) (by omega), wrap_u64_in _ (by omega) (by omega), wrap_u64_in _ (by omega) (by omega), wrap_u64_in _ (by omega) (by omega), wrap_u64_in _ (by omega) (by omega)]
  rfl
/-- Limbs with room for carries. -/
structure F5.Ok (f : F5) : Prop where
  h0 : 0 ≤ f.a0 ∧ f.a0 < 2251799813686272
  h1 : 0 ≤ f.a1 ∧ f.a1 < 2251799813686272
  h2 : 0 ≤ f.a2 ∧ f.a2 < 2251799813686272
  h3 : 0 ≤ f.a3 ∧ f.a3 < 2251799813686272
  h4 : 0 ≤ f.a4 ∧ f.a4 < 2251799813686272
def addP (a b : F5) : F5 := ⟨a.a0 + b.a0, a.a1 + b.a1, a.a2 + b.a2, a.a3 + b.a3, a.a4 + b.a4⟩
def subP (a b : F5) : F5 := ⟨a.a0 + 4503599627370458 - b.a0, a.a1 + 4503599627370494 - b.a1, a.a2 + 4503599627370494 - b.a2, a.a3 + 4503599627370494 - b.a3, a.a4 + 4503599627370494 - b.a4⟩
theorem add_fun (a b : F5) (ha : a.Ok) (hb : b.Ok) : Fun Tryd.prog 59 [Ag a.l, Ag b.l] (Ag (carriedF (addP a b)).l) := by
  obtain ⟨⟨h0, h0'⟩, ⟨h1, h1'⟩, ⟨h2, h2'⟩, ⟨h3, h3'⟩, ⟨h4, h4'⟩⟩ := ha
  obtain ⟨⟨k0, k0'⟩, ⟨k1, k1'⟩, ⟨k2, k2'⟩, ⟨k3, k3'⟩, ⟨k4, k4'⟩⟩ := hb
  refine fun_of_vc Tryd.func59 rfl (by kernel_rfl) (by simp [Tryd.ntmps59]) rfl rfl ?_
  simp only [F5.l, Tryd.results59, sn_upto, sn_from, slN_def, run_cap, rules, rules2, loopRules, Tryd.facts, base0, Int.toNat_zero, Nat.reduceAdd, Nat.reduceMul, Nat.reduceSub, Nat.reduceLT, Nat.reduceLeDiff, Nat.reduceEqDiff, Int.reduceLE, Int.reduceLT, Int.reduceToNat, Int.reduceNe, Int.reduceEq, not_false_eq_true, Nat.reduceBEq, Nat.reduceDiv, Int.natCast_zero, Int.natCast_one, Int.reduceAdd, Int.reduceSub, reduceIte, ↓reduceIte, Value.oneCell', splice, reduceCtorEq]
  rw [wrap_u64_in (a.a0 + b.a0) (by omega) (by omega), wrap_u64_in (a.a1 + b.a1) (by omega) (by omega), wrap_u64_in (a.a2 + b.a2) (by omega) (by omega), wrap_u64_in (a.a3 + b.a3) (by omega) (by omega), wrap_u64_in (a.a4 + b.a4) (by omega) (by omega)]
  refine (carried_fun (addP a b) ⟨?_, ?_, ?_, ?_, ?_⟩).vcCall ?_
  iterate 5 (simp only [addP]; omega)
  simp only [F5.l, sn_upto, sn_from, slN_def, run_cap, rules, rules2, loopRules, Tryd.facts, base0, Int.toNat_zero, Nat.reduceAdd, Nat.reduceMul, Nat.reduceSub, Nat.reduceLT, Nat.reduceLeDiff, Nat.reduceEqDiff, Int.reduceLE, Int.reduceLT, Int.reduceToNat, Int.reduceNe, Int.reduceEq, not_false_eq_true, Nat.reduceBEq, Nat.reduceDiv, Int.natCast_zero, Int.natCast_one, Int.reduceAdd, Int.reduceSub, reduceIte, ↓reduceIte, Value.oneCell', splice, reduceCtorEq]
theorem sub_fun (a b : F5) (ha : a.Ok) (hb : b.Ok) : Fun Tryd.prog 60 [Ag a.l, Ag b.l] (Ag (carriedF (subP a b)).l) := by
  obtain ⟨⟨h0, h0'⟩, ⟨h1, h1'⟩, ⟨h2, h2'⟩, ⟨h3, h3'⟩, ⟨h4, h4'⟩⟩ := ha
  obtain ⟨⟨k0, k0'⟩, ⟨k1, k1'⟩, ⟨k2, k2'⟩, ⟨k3, k3'⟩, ⟨k4, k4'⟩⟩ := hb
  refine fun_of_vc Tryd.func60 rfl (by kernel_rfl) (by simp [Tryd.ntmps60]) rfl rfl ?_
  simp only [F5.l, Tryd.results60, sn_upto, sn_from, slN_def, run_cap, rules, rules2, loopRules, Tryd.facts, base0, Int.toNat_zero, Nat.reduceAdd, Nat.reduceMul, Nat.reduceSub, Nat.reduceLT, Nat.reduceLeDiff, Nat.reduceEqDiff, Int.reduceLE, Int.reduceLT, Int.reduceToNat, Int.reduceNe, Int.reduceEq, not_false_eq_true, Nat.reduceBEq, Nat.reduceDiv, Int.natCast_zero, Int.natCast_one, Int.reduceAdd, Int.reduceSub, reduceIte, ↓reduceIte, Value.oneCell', splice, reduceCtorEq]
  rw [wrap_u64_in (a.a0 + _) (by omega) (by omega), wrap_u64_in (a.a1 + _) (by omega) (by omega), wrap_u64_in (a.a2 + _) (by omega) (by omega), wrap_u64_in (a.a3 + _) (by omega) (by omega), wrap_u64_in (a.a4 + _) (by omega) (by omega),
    wrap_u64_in (a.a0 + _ - b.a0) (by omega) (by omega), wrap_u64_in (a.a1 + _ - b.a1) (by omega) (by omega), wrap_u64_in (a.a2 + _ - b.a2) (by omega) (by omega), wrap_u64_in (a.a3 + _ - b.a3) (by omega) (by omega), wrap_u64_in (a.a4 + _ - b.a4) (by omega) (by omega)]
  refine (carried_fun (subP a b) ⟨?_, ?_, ?_, ?_, ?_⟩).vcCall ?_
  iterate 5 (simp only [subP]; omega)
  simp only [F5.l, sn_upto, sn_from, slN_def, run_cap, rules, rules2, loopRules, Tryd.facts, base0, Int.toNat_zero, Nat.reduceAdd, Nat.reduceMul, Nat.reduceSub, Nat.reduceLT, Nat.reduceLeDiff, Nat.reduceEqDiff, Int.reduceLE, Int.reduceLT, Int.reduceToNat, Int.reduceNe, Int.reduceEq, not_false_eq_true, Nat.reduceBEq, Nat.reduceDiv, Int.natCast_zero, Int.natCast_one, Int.reduceAdd, Int.reduceSub, reduceIte, ↓reduceIte, Value.oneCell', splice, reduceCtorEq]
theorem Fun.draw {P : Program} [Vcg.Tables P] {f : Nat} {l : List AV} {r : AV} (h : Fun P f l r) (hc : callable P f = true) {ops : Array Oper} {i nm : Nat} {dst : Option Nat} {K : AS → Prop} {s : AS} (hk : K (s.put dst (some r))) : vcFun P ops i nm f (some l) dst K s :=
  .inl ⟨l, r, rfl, .inl ⟨hc, h⟩, hk⟩
/-- The five sums of products. -/
def mulW (a b : F5) : F5 :=
  ⟨0 + a.a0 * b.a0 + a.a1 * (19 * b.a4) + a.a2 * (19 * b.a3) + a.a3 * (19 * b.a2) + a.a4 * (19 * b.a1),
   0 + a.a0 * b.a1 + a.a1 * b.a0 + a.a2 * (19 * b.a4) + a.a3 * (19 * b.a3) + a.a4 * (19 * b.a2),
   0 + a.a0 * b.a2 + a.a1 * b.a1 + a.a2 * b.a0 + a.a3 * (19 * b.a4) + a.a4 * (19 * b.a3),
   0 + a.a0 * b.a3 + a.a1 * b.a2 + a.a2 * b.a1 + a.a3 * b.a0 + a.a4 * (19 * b.a4),
   0 + a.a0 * b.a4 + a.a1 * b.a3 + a.a2 * b.a2 + a.a3 * b.a1 + a.a4 * b.a0⟩
def mulF (a b : F5) : F5 := carriedF
  ⟨(mulW a b).a0 % 18446744073709551616 % 2251799813685248 + 19 * ((mulW a b).a4 / 2251799813685248), (mulW a b).a1 % 18446744073709551616 % 2251799813685248 + (mulW a b).a0 / 2251799813685248,
   (mulW a b).a2 % 18446744073709551616 % 2251799813685248 + (mulW a b).a1 / 2251799813685248, (mulW a b).a3 % 18446744073709551616 % 2251799813685248 + (mulW a b).a2 / 2251799813685248,
   (mulW a b).a4 % 18446744073709551616 % 2251799813685248 + (mulW a b).a3 / 2251799813685248⟩
theorem prod_bd {x y : Int} (hx : 0 ≤ x) (hx' : x < 2251799813686272) (hy : 0 ≤ y) (hy' : y < 2251799813686272) : 0 ≤ x * y ∧ x * y ≤ 5070602400917524788405613885441 :=
  mul_bd hx (show x ≤ 2251799813686271 by omega) hy (show y ≤ 2251799813686271 by omega)
theorem prod_bd19 {x y : Int} (hx : 0 ≤ x) (hx' : x < 2251799813686272) (hy : 0 ≤ y) (hy' : y < 2251799813686272) : 0 ≤ x * (19 * y) ∧ x * (19 * y) ≤ 96341445617432970979706663823379 :=
  mul_bd hx (show x ≤ 2251799813686271 by omega) (show 0 ≤ 19 * y by omega) (show 19 * y ≤ 42784196460039149 by omega)

set_option maxHeartbeats 2000000 in
theorem mul_fun (a b : F5) (ha : a.Ok) (hb : b.Ok) : Fun Tryd.prog 50 [Ag a.l, Ag b.l] (Ag (mulF a b).l) := by
  obtain ⟨⟨h0, h0'⟩, ⟨h1, h1'⟩, ⟨h2, h2'⟩, ⟨h3, h3'⟩, ⟨h4, h4'⟩⟩ := ha
  obtain ⟨⟨k0, k0'⟩, ⟨k1, k1'⟩, ⟨k2, k2'⟩, ⟨k3, k3'⟩, ⟨k4, k4'⟩⟩ := hb
  have p00 := prod_bd h0 h0' k0 k0'
  have p14 := prod_bd19 h1 h1' k4 k4'
  have p23 := prod_bd19 h2 h2' k3 k3'
  have p32 := prod_bd19 h3 h3' k2 k2'
  have p41 := prod_bd19 h4 h4' k1 k1'
  have p01 := prod_bd h0 h0' k1 k1'
  have p10 := prod_bd h1 h1' k0 k0'
  have p24 := prod_bd19 h2 h2' k4 k4'
  have p33 := prod_bd19 h3 h3' k3 k3'
  have p42 := prod_bd19 h4 h4' k2 k2'
  have p02 := prod_bd h0 h0' k2 k2'
  have p11 := prod_bd h1 h1' k1 k1'
  have p20 := prod_bd h2 h2' k0 k0'
  have p34 := prod_bd19 h3 h3' k4 k4'
  have p43 := prod_bd19 h4 h4' k3 k3'
  have p03 := prod_bd h0 h0' k3 k3'
  have p12 := prod_bd h1 h1' k2 k2'
  have p21 := prod_bd h2 h2' k1 k1'
  have p30 := prod_bd h3 h3' k0 k0'
  have p44 := prod_bd19 h4 h4' k4 k4'
  have p04 := prod_bd h0 h0' k4 k4'
  have p13 := prod_bd h1 h1' k3 k3'
  have p22 := prod_bd h2 h2' k2 k2'
  have p31 := prod_bd h3 h3' k1 k1'
  have p40 := prod_bd h4 h4' k0 k0'
  have e1 : IntKind.u64.wrap (19 * b.a1) = 19 * b.a1 := wrap_u64_in _ (by omega) (by omega)
  have e2 : IntKind.u64.wrap (19 * b.a2) = 19 * b.a2 := wrap_u64_in _ (by omega) (by omega)
  have e3 : IntKind.u64.wrap (19 * b.a3) = 19 * b.a3 := wrap_u64_in _ (by omega) (by omega)
  have e4 : IntKind.u64.wrap (19 * b.a4) = 19 * b.a4 := wrap_u64_in _ (by omega) (by omega)
  refine fun_of_vc Tryd.func50 rfl (by kernel_rfl) (by simp [Tryd.ntmps50]) rfl rfl ?_
  simp only [F5.l, Tryd.results50, e1, e2, e3, e4, sn_upto, sn_from, slN_def, run_cap, rules, rules2, loopRules, Tryd.facts, base0, Int.toNat_zero, Nat.reduceAdd, Nat.reduceMul, Nat.reduceSub, Nat.reduceLT, Nat.reduceLeDiff, Nat.reduceEqDiff, Int.reduceLE, Int.reduceLT, Int.reduceToNat, Int.reduceNe, Int.reduceEq, not_false_eq_true, Nat.reduceBEq, Nat.reduceDiv, Int.natCast_zero, Int.natCast_one, Int.reduceAdd, Int.reduceSub, reduceIte, ↓reduceIte, Value.oneCell', splice, reduceCtorEq]
  refine ⟨by kernel_rfl, ?_⟩
  refine ⟨by kernel_rfl, ?_⟩
  refine Fun.draw (plus_fun (0) a.a0 b.a0 (by omega) (by omega) (by omega) (by omega) (by omega) (by omega)) Tryd.callable62 ?_
  simp only [wideL, sn_upto, sn_from, slN_def, run_cap, rules, rules2, loopRules, Tryd.facts, base0, Int.toNat_zero, Nat.reduceAdd, Nat.reduceMul, Nat.reduceSub, Nat.reduceLT, Nat.reduceLeDiff, Nat.reduceEqDiff, Int.reduceLE, Int.reduceLT, Int.reduceToNat, Int.reduceNe, Int.reduceEq, not_false_eq_true, Nat.reduceBEq, Nat.reduceDiv, Int.natCast_zero, Int.natCast_one, Int.reduceAdd, Int.reduceSub, reduceIte, ↓reduceIte, Value.oneCell', splice, reduceCtorEq]
  refine Fun.draw (plus_fun (0 + a.a0 * b.a0) a.a1 (19 * b.a4) (by omega) (by omega) (by omega) (by omega) (by omega) (by omega)) Tryd.callable62 ?_
  simp only [wideL, sn_upto, sn_from, slN_def, run_cap, rules, rules2, loopRules, Tryd.facts, base0, Int.toNat_zero, Nat.reduceAdd, Nat.reduceMul, Nat.reduceSub, Nat.reduceLT, Nat.reduceLeDiff, Nat.reduceEqDiff, Int.reduceLE, Int.reduceLT, Int.reduceToNat, Int.reduceNe, Int.reduceEq, not_false_eq_true, Nat.reduceBEq, Nat.reduceDiv, Int.natCast_zero, Int.natCast_one, Int.reduceAdd, Int.reduceSub, reduceIte, ↓reduceIte, Value.oneCell', splice, reduceCtorEq]
  refine Fun.draw (plus_fun (0 + a.a0 * b.a0 + a.a1 * (19 * b.a4)) a.a2 (19 * b.a3) (by omega) (by omega) (by omega) (by omega) (by omega) (by omega)) Tryd.callable62 ?_
  simp only [wideL, sn_upto, sn_from, slN_def, run_cap, rules, rules2, loopRules, Tryd.facts, base0, Int.toNat_zero, Nat.reduceAdd, Nat.reduceMul, Nat.reduceSub, Nat.reduceLT, Nat.reduceLeDiff, Nat.reduceEqDiff, Int.reduceLE, Int.reduceLT, Int.reduceToNat, Int.reduceNe, Int.reduceEq, not_false_eq_true, Nat.reduceBEq, Nat.reduceDiv, Int.natCast_zero, Int.natCast_one, Int.reduceAdd, Int.reduceSub, reduceIte, ↓reduceIte, Value.oneCell', splice, reduceCtorEq]
  refine Fun.draw (plus_fun (0 + a.a0 * b.a0 + a.a1 * (19 * b.a4) + a.a2 * (19 * b.a3)) a.a3 (19 * b.a2) (by omega) (by omega) (by omega) (by omega) (by omega) (by omega)) Tryd.callable62 ?_
  simp only [wideL, sn_upto, sn_from, slN_def, run_cap, rules, rules2, loopRules, Tryd.facts, base0, Int.toNat_zero, Nat.reduceAdd, Nat.reduceMul, Nat.reduceSub, Nat.reduceLT, Nat.reduceLeDiff, Nat.reduceEqDiff, Int.reduceLE, Int.reduceLT, Int.reduceToNat, Int.reduceNe, Int.reduceEq, not_false_eq_true, Nat.reduceBEq, Nat.reduceDiv, Int.natCast_zero, Int.natCast_one, Int.reduceAdd, Int.reduceSub, reduceIte, ↓reduceIte, Value.oneCell', splice, reduceCtorEq]
  refine Fun.draw (plus_fun (0 + a.a0 * b.a0 + a.a1 * (19 * b.a4) + a.a2 * (19 * b.a3) + a.a3 * (19 * b.a2)) a.a4 (19 * b.a1) (by omega) (by omega) (by omega) (by omega) (by omega) (by omega)) Tryd.callable62 ?_
  simp only [wideL, sn_upto, sn_from, slN_def, run_cap, rules, rules2, loopRules, Tryd.facts, base0, Int.toNat_zero, Nat.reduceAdd, Nat.reduceMul, Nat.reduceSub, Nat.reduceLT, Nat.reduceLeDiff, Nat.reduceEqDiff, Int.reduceLE, Int.reduceLT, Int.reduceToNat, Int.reduceNe, Int.reduceEq, not_false_eq_true, Nat.reduceBEq, Nat.reduceDiv, Int.natCast_zero, Int.natCast_one, Int.reduceAdd, Int.reduceSub, reduceIte, ↓reduceIte, Value.oneCell', splice, reduceCtorEq]
  refine ⟨by kernel_rfl, ?_⟩
  refine Fun.draw (plus_fun (0) a.a0 b.a1 (by omega) (by omega) (by omega) (by omega) (by omega) (by omega)) Tryd.callable62 ?_
  simp only [wideL, sn_upto, sn_from, slN_def, run_cap, rules, rules2, loopRules, Tryd.facts, base0, Int.toNat_zero, Nat.reduceAdd, Nat.reduceMul, Nat.reduceSub, Nat.reduceLT, Nat.reduceLeDiff, Nat.reduceEqDiff, Int.reduceLE, Int.reduceLT, Int.reduceToNat, Int.reduceNe, Int.reduceEq, not_false_eq_true, Nat.reduceBEq, Nat.reduceDiv, Int.natCast_zero, Int.natCast_one, Int.reduceAdd, Int.reduceSub, reduceIte, ↓reduceIte, Value.oneCell', splice, reduceCtorEq]
  refine Fun.draw (plus_fun (0 + a.a0 * b.a1) a.a1 b.a0 (by omega) (by omega) (by omega) (by omega) (by omega) (by omega)) Tryd.callable62 ?_
  simp only [wideL, sn_upto, sn_from, slN_def, run_cap, rules, rules2, loopRules, Tryd.facts, base0, Int.toNat_zero, Nat.reduceAdd, Nat.reduceMul, Nat.reduceSub, Nat.reduceLT, Nat.reduceLeDiff, Nat.reduceEqDiff, Int.reduceLE, Int.reduceLT, Int.reduceToNat, Int.reduceNe, Int.reduceEq, not_false_eq_true, Nat.reduceBEq, Nat.reduceDiv, Int.natCast_zero, Int.natCast_one, Int.reduceAdd, Int.reduceSub, reduceIte, ↓reduceIte, Value.oneCell', splice, reduceCtorEq]
  refine Fun.draw (plus_fun (0 + a.a0 * b.a1 + a.a1 * b.a0) a.a2 (19 * b.a4) (by omega) (by omega) (by omega) (by omega) (by omega) (by omega)) Tryd.callable62 ?_
  simp only [wideL, sn_upto, sn_from, slN_def, run_cap, rules, rules2, loopRules, Tryd.facts, base0, Int.toNat_zero, Nat.reduceAdd, Nat.reduceMul, Nat.reduceSub, Nat.reduceLT, Nat.reduceLeDiff, Nat.reduceEqDiff, Int.reduceLE, Int.reduceLT, Int.reduceToNat, Int.reduceNe, Int.reduceEq, not_false_eq_true, Nat.reduceBEq, Nat.reduceDiv, Int.natCast_zero, Int.natCast_one, Int.reduceAdd, Int.reduceSub, reduceIte, ↓reduceIte, Value.oneCell', splice, reduceCtorEq]
  refine Fun.draw (plus_fun (0 + a.a0 * b.a1 + a.a1 * b.a0 + a.a2 * (19 * b.a4)) a.a3 (19 * b.a3) (by omega) (by omega) (by omega) (by omega) (by omega) (by omega)) Tryd.callable62 ?_
  simp only [wideL, sn_upto, sn_from, slN_def, run_cap, rules, rules2, loopRules, Tryd.facts, base0, Int.toNat_zero, Nat.reduceAdd, Nat.reduceMul, Nat.reduceSub, Nat.reduceLT, Nat.reduceLeDiff, Nat.reduceEqDiff, Int.reduceLE, Int.reduceLT, Int.reduceToNat, Int.reduceNe, Int.reduceEq, not_false_eq_true, Nat.reduceBEq, Nat.reduceDiv, Int.natCast_zero, Int.natCast_one, Int.reduceAdd, Int.reduceSub, reduceIte, ↓reduceIte, Value.oneCell', splice, reduceCtorEq]
  refine Fun.draw (plus_fun (0 + a.a0 * b.a1 + a.a1 * b.a0 + a.a2 * (19 * b.a4) + a.a3 * (19 * b.a3)) a.a4 (19 * b.a2) (by omega) (by omega) (by omega) (by omega) (by omega) (by omega)) Tryd.callable62 ?_
  simp only [wideL, sn_upto, sn_from, slN_def, run_cap, rules, rules2, loopRules, Tryd.facts, base0, Int.toNat_zero, Nat.reduceAdd, Nat.reduceMul, Nat.reduceSub, Nat.reduceLT, Nat.reduceLeDiff, Nat.reduceEqDiff, Int.reduceLE, Int.reduceLT, Int.reduceToNat, Int.reduceNe, Int.reduceEq, not_false_eq_true, Nat.reduceBEq, Nat.reduceDiv, Int.natCast_zero, Int.natCast_one, Int.reduceAdd, Int.reduceSub, reduceIte, ↓reduceIte, Value.oneCell', splice, reduceCtorEq]
  refine ⟨by kernel_rfl, ?_⟩
  refine Fun.draw (plus_fun (0) a.a0 b.a2 (by omega) (by omega) (by omega) (by omega) (by omega) (by omega)) Tryd.callable62 ?_
  simp only [wideL, sn_upto, sn_from, slN_def, run_cap, rules, rules2, loopRules, Tryd.facts, base0, Int.toNat_zero, Nat.reduceAdd, Nat.reduceMul, Nat.reduceSub, Nat.reduceLT, Nat.reduceLeDiff, Nat.reduceEqDiff, Int.reduceLE, Int.reduceLT, Int.reduceToNat, Int.reduceNe, Int.reduceEq, not_false_eq_true, Nat.reduceBEq, Nat.reduceDiv, Int.natCast_zero, Int.natCast_one, Int.reduceAdd, Int.reduceSub, reduceIte, ↓reduceIte, Value.oneCell', splice, reduceCtorEq]
  refine Fun.draw (plus_fun (0 + a.a0 * b.a2) a.a1 b.a1 (by omega) (by omega) (by omega) (by omega) (by omega) (by omega)) Tryd.callable62 ?_
  simp only [wideL, sn_upto, sn_from, slN_def, run_cap, rules, rules2, loopRules, Tryd.facts, base0, Int.toNat_zero, Nat.reduceAdd, Nat.reduceMul, Nat.reduceSub, Nat.reduceLT, Nat.reduceLeDiff, Nat.reduceEqDiff, Int.reduceLE, Int.reduceLT, Int.reduceToNat, Int.reduceNe, Int.reduceEq, not_false_eq_true, Nat.reduceBEq, Nat.reduceDiv, Int.natCast_zero, Int.natCast_one, Int.reduceAdd, Int.reduceSub, reduceIte, ↓reduceIte, Value.oneCell', splice, reduceCtorEq]
  refine Fun.draw (plus_fun (0 + a.a0 * b.a2 + a.a1 * b.a1) a.a2 b.a0 (by omega) (by omega) (by omega) (by omega) (by omega) (by omega)) Tryd.callable62 ?_
  simp only [wideL, sn_upto, sn_from, slN_def, run_cap, rules, rules2, loopRules, Tryd.facts, base0, Int.toNat_zero, Nat.reduceAdd, Nat.reduceMul, Nat.reduceSub, Nat.reduceLT, Nat.reduceLeDiff, Nat.reduceEqDiff, Int.reduceLE, Int.reduceLT, Int.reduceToNat, Int.reduceNe, Int.reduceEq, not_false_eq_true, Nat.reduceBEq, Nat.reduceDiv, Int.natCast_zero, Int.natCast_one, Int.reduceAdd, Int.reduceSub, reduceIte, ↓reduceIte, Value.oneCell', splice, reduceCtorEq]
  refine Fun.draw (plus_fun (0 + a.a0 * b.a2 + a.a1 * b.a1 + a.a2 * b.a0) a.a3 (19 * b.a4) (by omega) (by omega) (by omega) (by omega) (by omega) (by omega)) Tryd.callable62 ?_
  simp only [wideL, sn_upto, sn_from, slN_def, run_cap, rules, rules2, loopRules, Tryd.facts, base0, Int.toNat_zero, Nat.reduceAdd, Nat.reduceMul, Nat.reduceSub, Nat.reduceLT, Nat.reduceLeDiff, Nat.reduceEqDiff, Int.reduceLE, Int.reduceLT, Int.reduceToNat, Int.reduceNe, Int.reduceEq, not_false_eq_true, Nat.reduceBEq, Nat.reduceDiv, Int.natCast_zero, Int.natCast_one, Int.reduceAdd, Int.reduceSub, reduceIte, ↓reduceIte, Value.oneCell', splice, reduceCtorEq]
  refine Fun.draw (plus_fun (0 + a.a0 * b.a2 + a.a1 * b.a1 + a.a2 * b.a0 + a.a3 * (19 * b.a4)) a.a4 (19 * b.a3) (by omega) (by omega) (by omega) (by omega) (by omega) (by omega)) Tryd.callable62 ?_
  simp only [wideL, sn_upto, sn_from, slN_def, run_cap, rules, rules2, loopRules, Tryd.facts, base0, Int.toNat_zero, Nat.reduceAdd, Nat.reduceMul, Nat.reduceSub, Nat.reduceLT, Nat.reduceLeDiff, Nat.reduceEqDiff, Int.reduceLE, Int.reduceLT, Int.reduceToNat, Int.reduceNe, Int.reduceEq, not_false_eq_true, Nat.reduceBEq, Nat.reduceDiv, Int.natCast_zero, Int.natCast_one, Int.reduceAdd, Int.reduceSub, reduceIte, ↓reduceIte, Value.oneCell', splice, reduceCtorEq]
  refine ⟨by kernel_rfl, ?_⟩
  refine Fun.draw (plus_fun (0) a.a0 b.a3 (by omega) (by omega) (by omega) (by omega) (by omega) (by omega)) Tryd.callable62 ?_
  simp only [wideL, sn_upto, sn_from, slN_def, run_cap, rules, rules2, loopRules, Tryd.facts, base0, Int.toNat_zero, Nat.reduceAdd, Nat.reduceMul, Nat.reduceSub, Nat.reduceLT, Nat.reduceLeDiff, Nat.reduceEqDiff, Int.reduceLE, Int.reduceLT, Int.reduceToNat, Int.reduceNe, Int.reduceEq, not_false_eq_true, Nat.reduceBEq, Nat.reduceDiv, Int.natCast_zero, Int.natCast_one, Int.reduceAdd, Int.reduceSub, reduceIte, ↓reduceIte, Value.oneCell', splice, reduceCtorEq]
  refine Fun.draw (plus_fun (0 + a.a0 * b.a3) a.a1 b.a2 (by omega) (by omega) (by omega) (by omega) (by omega) (by omega)) Tryd.callable62 ?_
  simp only [wideL, sn_upto, sn_from, slN_def, run_cap, rules, rules2, loopRules, Tryd.facts, base0, Int.toNat_zero, Nat.reduceAdd, Nat.reduceMul, Nat.reduceSub, Nat.reduceLT, Nat.reduceLeDiff, Nat.reduceEqDiff, Int.reduceLE, Int.reduceLT, Int.reduceToNat, Int.reduceNe, Int.reduceEq, not_false_eq_true, Nat.reduceBEq, Nat.reduceDiv, Int.natCast_zero, Int.natCast_one, Int.reduceAdd, Int.reduceSub, reduceIte, ↓reduceIte, Value.oneCell', splice, reduceCtorEq]
  refine Fun.draw (plus_fun (0 + a.a0 * b.a3 + a.a1 * b.a2) a.a2 b.a1 (by omega) (by omega) (by omega) (by omega) (by omega) (by omega)) Tryd.callable62 ?_
  simp only [wideL, sn_upto, sn_from, slN_def, run_cap, rules, rules2, loopRules, Tryd.facts, base0, Int.toNat_zero, Nat.reduceAdd, Nat.reduceMul, Nat.reduceSub, Nat.reduceLT, Nat.reduceLeDiff, Nat.reduceEqDiff, Int.reduceLE, Int.reduceLT, Int.reduceToNat, Int.reduceNe, Int.reduceEq, not_false_eq_true, Nat.reduceBEq, Nat.reduceDiv, Int.natCast_zero, Int.natCast_one, Int.reduceAdd, Int.reduceSub, reduceIte, ↓reduceIte, Value.oneCell', splice, reduceCtorEq]
  refine Fun.draw (plus_fun (0 + a.a0 * b.a3 + a.a1 * b.a2 + a.a2 * b.a1) a.a3 b.a0 (by omega) (by omega) (by omega) (by omega) (by omega) (by omega)) Tryd.callable62 ?_
  simp only [wideL, sn_upto, sn_from, slN_def, run_cap, rules, rules2, loopRules, Tryd.facts, base0, Int.toNat_zero, Nat.reduceAdd, Nat.reduceMul, Nat.reduceSub, Nat.reduceLT, Nat.reduceLeDiff, Nat.reduceEqDiff, Int.reduceLE, Int.reduceLT, Int.reduceToNat, Int.reduceNe, Int.reduceEq, not_false_eq_true, Nat.reduceBEq, Nat.reduceDiv, Int.natCast_zero, Int.natCast_one, Int.reduceAdd, Int.reduceSub, reduceIte, ↓reduceIte, Value.oneCell', splice, reduceCtorEq]
  refine Fun.draw (plus_fun (0 + a.a0 * b.a3 + a.a1 * b.a2 + a.a2 * b.a1 + a.a3 * b.a0) a.a4 (19 * b.a4) (by omega) (by omega) (by omega) (by omega) (by omega) (by omega)) Tryd.callable62 ?_
  simp only [wideL, sn_upto, sn_from, slN_def, run_cap, rules, rules2, loopRules, Tryd.facts, base0, Int.toNat_zero, Nat.reduceAdd, Nat.reduceMul, Nat.reduceSub, Nat.reduceLT, Nat.reduceLeDiff, Nat.reduceEqDiff, Int.reduceLE, Int.reduceLT, Int.reduceToNat, Int.reduceNe, Int.reduceEq, not_false_eq_true, Nat.reduceBEq, Nat.reduceDiv, Int.natCast_zero, Int.natCast_one, Int.reduceAdd, Int.reduceSub, reduceIte, ↓reduceIte, Value.oneCell', splice, reduceCtorEq]
  refine ⟨by kernel_rfl, ?_⟩
  refine Fun.draw (plus_fun (0) a.a0 b.a4 (by omega) (by omega) (by omega) (by omega) (by omega) (by omega)) Tryd.callable62 ?_
  simp only [wideL, sn_upto, sn_from, slN_def, run_cap, rules, rules2, loopRules, Tryd.facts, base0, Int.toNat_zero, Nat.reduceAdd, Nat.reduceMul, Nat.reduceSub, Nat.reduceLT, Nat.reduceLeDiff, Nat.reduceEqDiff, Int.reduceLE, Int.reduceLT, Int.reduceToNat, Int.reduceNe, Int.reduceEq, not_false_eq_true, Nat.reduceBEq, Nat.reduceDiv, Int.natCast_zero, Int.natCast_one, Int.reduceAdd, Int.reduceSub, reduceIte, ↓reduceIte, Value.oneCell', splice, reduceCtorEq]
  refine Fun.draw (plus_fun (0 + a.a0 * b.a4) a.a1 b.a3 (by omega) (by omega) (by omega) (by omega) (by omega) (by omega)) Tryd.callable62 ?_
  simp only [wideL, sn_upto, sn_from, slN_def, run_cap, rules, rules2, loopRules, Tryd.facts, base0, Int.toNat_zero, Nat.reduceAdd, Nat.reduceMul, Nat.reduceSub, Nat.reduceLT, Nat.reduceLeDiff, Nat.reduceEqDiff, Int.reduceLE, Int.reduceLT, Int.reduceToNat, Int.reduceNe, Int.reduceEq, not_false_eq_true, Nat.reduceBEq, Nat.reduceDiv, Int.natCast_zero, Int.natCast_one, Int.reduceAdd, Int.reduceSub, reduceIte, ↓reduceIte, Value.oneCell', splice, reduceCtorEq]
  refine Fun.draw (plus_fun (0 + a.a0 * b.a4 + a.a1 * b.a3) a.a2 b.a2 (by omega) (by omega) (by omega) (by omega) (by omega) (by omega)) Tryd.callable62 ?_
  simp only [wideL, sn_upto, sn_from, slN_def, run_cap, rules, rules2, loopRules, Tryd.facts, base0, Int.toNat_zero, Nat.reduceAdd, Nat.reduceMul, Nat.reduceSub, Nat.reduceLT, Nat.reduceLeDiff, Nat.reduceEqDiff, Int.reduceLE, Int.reduceLT, Int.reduceToNat, Int.reduceNe, Int.reduceEq, not_false_eq_true, Nat.reduceBEq, Nat.reduceDiv, Int.natCast_zero, Int.natCast_one, Int.reduceAdd, Int.reduceSub, reduceIte, ↓reduceIte, Value.oneCell', splice, reduceCtorEq]
  refine Fun.draw (plus_fun (0 + a.a0 * b.a4 + a.a1 * b.a3 + a.a2 * b.a2) a.a3 b.a1 (by omega) (by omega) (by omega) (by omega) (by omega) (by omega)) Tryd.callable62 ?_
  simp only [wideL, sn_upto, sn_from, slN_def, run_cap, rules, rules2, loopRules, Tryd.facts, base0, Int.toNat_zero, Nat.reduceAdd, Nat.reduceMul, Nat.reduceSub, Nat.reduceLT, Nat.reduceLeDiff, Nat.reduceEqDiff, Int.reduceLE, Int.reduceLT, Int.reduceToNat, Int.reduceNe, Int.reduceEq, not_false_eq_true, Nat.reduceBEq, Nat.reduceDiv, Int.natCast_zero, Int.natCast_one, Int.reduceAdd, Int.reduceSub, reduceIte, ↓reduceIte, Value.oneCell', splice, reduceCtorEq]
  refine Fun.draw (plus_fun (0 + a.a0 * b.a4 + a.a1 * b.a3 + a.a2 * b.a2 + a.a3 * b.a1) a.a4 b.a0 (by omega) (by omega) (by omega) (by omega) (by omega) (by omega)) Tryd.callable62 ?_
  simp only [wideL, sn_upto, sn_from, slN_def, run_cap, rules, rules2, loopRules, Tryd.facts, base0, Int.toNat_zero, Nat.reduceAdd, Nat.reduceMul, Nat.reduceSub, Nat.reduceLT, Nat.reduceLeDiff, Nat.reduceEqDiff, Int.reduceLE, Int.reduceLT, Int.reduceToNat, Int.reduceNe, Int.reduceEq, not_false_eq_true, Nat.reduceBEq, Nat.reduceDiv, Int.natCast_zero, Int.natCast_one, Int.reduceAdd, Int.reduceSub, reduceIte, ↓reduceIte, Value.oneCell', splice, reduceCtorEq]
  have q0 : 0 ≤ 0 + a.a0 * b.a0 + a.a1 * (19 * b.a4) + a.a2 * (19 * b.a3) + a.a3 * (19 * b.a2) + a.a4 * (19 * b.a1) ∧ 0 + a.a0 * b.a0 + a.a1 * (19 * b.a4) + a.a2 * (19 * b.a3) + a.a3 * (19 * b.a2) + a.a4 * (19 * b.a1) ≤ 390436384870649408707232269178957 := by omega
  have q1 : 0 ≤ 0 + a.a0 * b.a1 + a.a1 * b.a0 + a.a2 * (19 * b.a4) + a.a3 * (19 * b.a3) + a.a4 * (19 * b.a2) ∧ 0 + a.a0 * b.a1 + a.a1 * b.a0 + a.a2 * (19 * b.a4) + a.a3 * (19 * b.a3) + a.a4 * (19 * b.a2) ≤ 299165541654133962515931219241019 := by omega
  have q2 : 0 ≤ 0 + a.a0 * b.a2 + a.a1 * b.a1 + a.a2 * b.a0 + a.a3 * (19 * b.a4) + a.a4 * (19 * b.a3) ∧ 0 + a.a0 * b.a2 + a.a1 * b.a1 + a.a2 * b.a0 + a.a3 * (19 * b.a4) + a.a4 * (19 * b.a3) ≤ 207894698437618516324630169303081 := by omega
  have q3 : 0 ≤ 0 + a.a0 * b.a3 + a.a1 * b.a2 + a.a2 * b.a1 + a.a3 * b.a0 + a.a4 * (19 * b.a4) ∧ 0 + a.a0 * b.a3 + a.a1 * b.a2 + a.a2 * b.a1 + a.a3 * b.a0 + a.a4 * (19 * b.a4) ≤ 116623855221103070133329119365143 := by omega
  have q4 : 0 ≤ 0 + a.a0 * b.a4 + a.a1 * b.a3 + a.a2 * b.a2 + a.a3 * b.a1 + a.a4 * b.a0 ∧ 0 + a.a0 * b.a4 + a.a1 * b.a3 + a.a2 * b.a2 + a.a3 * b.a1 + a.a4 * b.a0 ≤ 25353012004587623942028069427205 := by omega
  clear p00 p01 p02 p03 p04 p10 p11 p12 p13 p14 p20 p21 p22 p23 p24 p30 p31 p32 p33 p34 p40 p41 p42 p43 p44
  generalize hW0 : 0 + a.a0 * b.a0 + a.a1 * (19 * b.a4) + a.a2 * (19 * b.a3) + a.a3 * (19 * b.a2) + a.a4 * (19 * b.a1) = W0 at *
  generalize hW1 : 0 + a.a0 * b.a1 + a.a1 * b.a0 + a.a2 * (19 * b.a4) + a.a3 * (19 * b.a3) + a.a4 * (19 * b.a2) = W1 at *
  generalize hW2 : 0 + a.a0 * b.a2 + a.a1 * b.a1 + a.a2 * b.a0 + a.a3 * (19 * b.a4) + a.a4 * (19 * b.a3) = W2 at *
  generalize hW3 : 0 + a.a0 * b.a3 + a.a1 * b.a2 + a.a2 * b.a1 + a.a3 * b.a0 + a.a4 * (19 * b.a4) = W3 at *
  generalize hW4 : 0 + a.a0 * b.a4 + a.a1 * b.a3 + a.a2 * b.a2 + a.a3 * b.a1 + a.a4 * b.a0 = W4 at *
  refine ⟨by kernel_rfl, ?_⟩
  refine Fun.draw (above_fun W4 (by omega) (by omega)) Tryd.callable64 ?_
  simp only [wideL, sn_upto, sn_from, slN_def, run_cap, rules, rules2, loopRules, Tryd.facts, base0, Int.toNat_zero, Nat.reduceAdd, Nat.reduceMul, Nat.reduceSub, Nat.reduceLT, Nat.reduceLeDiff, Nat.reduceEqDiff, Int.reduceLE, Int.reduceLT, Int.reduceToNat, Int.reduceNe, Int.reduceEq, not_false_eq_true, Nat.reduceBEq, Nat.reduceDiv, Int.natCast_zero, Int.natCast_one, Int.reduceAdd, Int.reduceSub, reduceIte, ↓reduceIte, Value.oneCell', splice, reduceCtorEq]
  refine Fun.draw (above_fun W0 (by omega) (by omega)) Tryd.callable64 ?_
  simp only [wideL, sn_upto, sn_from, slN_def, run_cap, rules, rules2, loopRules, Tryd.facts, base0, Int.toNat_zero, Nat.reduceAdd, Nat.reduceMul, Nat.reduceSub, Nat.reduceLT, Nat.reduceLeDiff, Nat.reduceEqDiff, Int.reduceLE, Int.reduceLT, Int.reduceToNat, Int.reduceNe, Int.reduceEq, not_false_eq_true, Nat.reduceBEq, Nat.reduceDiv, Int.natCast_zero, Int.natCast_one, Int.reduceAdd, Int.reduceSub, reduceIte, ↓reduceIte, Value.oneCell', splice, reduceCtorEq]
  refine Fun.draw (above_fun W1 (by omega) (by omega)) Tryd.callable64 ?_
  simp only [wideL, sn_upto, sn_from, slN_def, run_cap, rules, rules2, loopRules, Tryd.facts, base0, Int.toNat_zero, Nat.reduceAdd, Nat.reduceMul, Nat.reduceSub, Nat.reduceLT, Nat.reduceLeDiff, Nat.reduceEqDiff, Int.reduceLE, Int.reduceLT, Int.reduceToNat, Int.reduceNe, Int.reduceEq, not_false_eq_true, Nat.reduceBEq, Nat.reduceDiv, Int.natCast_zero, Int.natCast_one, Int.reduceAdd, Int.reduceSub, reduceIte, ↓reduceIte, Value.oneCell', splice, reduceCtorEq]
  refine Fun.draw (above_fun W2 (by omega) (by omega)) Tryd.callable64 ?_
  simp only [wideL, sn_upto, sn_from, slN_def, run_cap, rules, rules2, loopRules, Tryd.facts, base0, Int.toNat_zero, Nat.reduceAdd, Nat.reduceMul, Nat.reduceSub, Nat.reduceLT, Nat.reduceLeDiff, Nat.reduceEqDiff, Int.reduceLE, Int.reduceLT, Int.reduceToNat, Int.reduceNe, Int.reduceEq, not_false_eq_true, Nat.reduceBEq, Nat.reduceDiv, Int.natCast_zero, Int.natCast_one, Int.reduceAdd, Int.reduceSub, reduceIte, ↓reduceIte, Value.oneCell', splice, reduceCtorEq]
  refine Fun.draw (above_fun W3 (by omega) (by omega)) Tryd.callable64 ?_
  simp only [wideL, sn_upto, sn_from, slN_def, run_cap, rules, rules2, loopRules, Tryd.facts, base0, Int.toNat_zero, Nat.reduceAdd, Nat.reduceMul, Nat.reduceSub, Nat.reduceLT, Nat.reduceLeDiff, Nat.reduceEqDiff, Int.reduceLE, Int.reduceLT, Int.reduceToNat, Int.reduceNe, Int.reduceEq, not_false_eq_true, Nat.reduceBEq, Nat.reduceDiv, Int.natCast_zero, Int.natCast_one, Int.reduceAdd, Int.reduceSub, reduceIte, ↓reduceIte, Value.oneCell', splice, reduceCtorEq]
  simp only [and51 (W0 % 18446744073709551616) (by omega) (by omega), and51 (W1 % 18446744073709551616) (by omega) (by omega), and51 (W2 % 18446744073709551616) (by omega) (by omega), and51 (W3 % 18446744073709551616) (by omega) (by omega), and51 (W4 % 18446744073709551616) (by omega) (by omega)]
  rw [wrap_u64_in (19 * _) (by omega) (by omega), wrap_u64_in _ (by omega) (by omega), wrap_u64_in _ (by omega) (by omega), wrap_u64_in _ (by omega) (by omega), wrap_u64_in _ (by omega) (by omega), wrap_u64_in _ (by omega) (by omega)]
  refine Fun.draw (carried_fun ⟨W0 % 18446744073709551616 % 2251799813685248 + 19 * (W4 / 2251799813685248), W1 % 18446744073709551616 % 2251799813685248 + W0 / 2251799813685248,
    W2 % 18446744073709551616 % 2251799813685248 + W1 / 2251799813685248, W3 % 18446744073709551616 % 2251799813685248 + W2 / 2251799813685248,
    W4 % 18446744073709551616 % 2251799813685248 + W3 / 2251799813685248⟩ ⟨?_, ?_, ?_, ?_, ?_⟩) Tryd.callable63 ?_
  iterate 5 (simp only []; omega)
  simp only [F5.l, sn_upto, sn_from, slN_def, run_cap, rules, rules2, loopRules, Tryd.facts, base0, Int.toNat_zero, Nat.reduceAdd, Nat.reduceMul, Nat.reduceSub, Nat.reduceLT, Nat.reduceLeDiff, Nat.reduceEqDiff, Int.reduceLE, Int.reduceLT, Int.reduceToNat, Int.reduceNe, Int.reduceEq, not_false_eq_true, Nat.reduceBEq, Nat.reduceDiv, Int.natCast_zero, Int.natCast_one, Int.reduceAdd, Int.reduceSub, reduceIte, ↓reduceIte, Value.oneCell', splice, reduceCtorEq]
  subst hW0 hW1 hW2 hW3 hW4
  rfl
end Go.Proofs.YtlpckbkmmocaaaaDoor
