/-
  Functions of the program and numbers that they reckon.
-/
import Derived.Test.YtemllgnejllcpaaVcgU5
set_option linter.unusedVariables false
set_option linter.unusedSimpArgs false
namespace Go.Proofs.Ytemllgnejllcpaa
open Go.Vcg
/-! ### The ladder -/
def bitOf (K : Nat → Int) (t : Nat) : Bool := (K (t / 8) / 2 ^ (t % 8)) % 2 == 1
def F5.zero : F5 := ⟨0, 0, 0, 0, 0⟩
theorem F5.zero_ok : F5.zero.Ok := by
  constructor <;> simp [F5.zero]
def ladR (K : Nat → Int) (u : F5) : Nat → R4
  | 0 => ⟨F5.one, F5.zero, u, F5.one⟩
  | k + 1 => exF (bitOf K (254 - k)) (climbF (exF (bitOf K (254 - k)) (ladR K u k)) u)
theorem ladR_ok (K : Nat → Int) (u : F5) (hu : u.Ok) : ∀ k, (ladR K u k).Ok
  | 0 => ⟨F5.one_ok, F5.zero_ok, hu, F5.one_ok⟩
  | k + 1 => exF_ok _ _ (climbF_ok _ _ (exF_ok _ _ (ladR_ok K u hu k)) hu)
/-- Bytes. -/
def By (K : Nat → Int) : Prop := ∀ i, 0 ≤ K i ∧ K i < 256
theorem quoN (t d : Nat) (h : t < 9223372036854775808) : IntKind.i64.wrap ((t : Int).tdiv (d : Int)) = ((t / d : Nat) : Int) := by
  have : t / d ≤ t := Nat.div_le_self t d
  rw [← Int.ofNat_tdiv]
  generalize t / d = q at *
  rw [wrap_i64 _ (by omega) (by omega)]
theorem quo8 (t : Nat) (h : t < 9223372036854775808) : IntKind.i64.wrap ((t : Int).tdiv 8) = ((t / 8 : Nat) : Int) := quoN t 8 h
theorem rem8 (t : Nat) : (t : Int).tmod 8 = ((t % 8 : Nat) : Int) := (Int.ofNat_tmod t 8).symm
theorem le_nat (n : Nat) : (0 ≤ (n : Int)) = True := by simp
theorem lt_nat {n m : Nat} (h : n < m) : ((n : Int) < (m : Int)) = True := by simp [h]
theorem and1 (x : Int) (h0 : 0 ≤ x) (h1 : x < 18446744073709551616) : bitI .and .u64 x 1 = x % 2 := and_mask x 1 h0 h1 (by decide)
theorem div_two_pow {x : Int} (h : 0 ≤ x) (n : Nat) : 0 ≤ x / 2 ^ n ∧ x / 2 ^ n ≤ x := by
  have hp : (0 : Int) < 2 ^ n := Int.pow_pos (by decide)
  exact ⟨Int.ediv_nonneg h (Int.le_of_lt hp), Int.ediv_le_self _ h⟩
theorem bit_of (K : Nat → Int) (hK : By K) (t : Nat) : bitI .and .u64 (IntKind.u64.wrap (shrI .u8 (K (t / 8)) ((t % 8 : Nat) : Int))) 1 = exI (bitOf K t) 0 1 := by
  have h := hK (t / 8)
  rw [shrI_eq .u8 _ _ (by simp [IntKind.bits]; omega)]
  have hd := div_two_pow h.1 (t % 8)
  simp only [exI, bitOf]
  rw [wrap_u64_in _ (by omega) (by omega), and1 _ (by omega) (by omega)]
  by_cases he : K (t / 8) / 2 ^ (t % 8) % 2 = 1
  · simp [he]
  · have : K (t / 8) / 2 ^ (t % 8) % 2 = 0 := by omega
    simp [this]
set_option maxHeartbeats 2000000 in
set_option maxRecDepth 20000 in
theorem ladder_fun (K : Nat → Int) (u : F5) (hK : By K) (hu : u.Ok) : Fun Try.prog 6 [Ag (rowI .u8 32 K), Ag u.l] (Ag (mulF (ladR K u 255).x2 (invP (ladR K u 255).z2 255)).l) := by
  refine fun_of_vc Try.func6 rfl (by kernel_rfl) (by simp [Try.ntmps6]) rfl rfl ?_
  simp only [F5.l, Try.results6, rep20, sn_upto, sn_from, slN_def, run_cap, rules, rules2, loopRules, Try.facts, base0, Int.toNat_zero, Nat.reduceAdd, Nat.reduceMul, Nat.reduceSub, Nat.reduceLT, Nat.reduceLeDiff, Nat.reduceEqDiff, Int.reduceLE, Int.reduceLT, Int.reduceToNat, Int.reduceNe, Int.reduceEq, not_false_eq_true, Nat.reduceBEq, Nat.reduceDiv, Int.natCast_zero, Int.natCast_one, Int.reduceAdd, Int.reduceSub, reduceIte, ↓reduceIte, Value.oneCell', splice, reduceCtorEq]
  refine loop_count 255 (fun k => [(2, Ptr 0 0), (3, Ptr 1 0), (4, Ptr 2 0), (5, Ptr 7 0), (6, I .i64 (254 - k))])
    (fun k => [(0, ⟨true, rowI .u8 32 K⟩), (1, ⟨true, u.l⟩), (2, ⟨true, [Sum.inl (Value.int IntKind.u64 0), Sum.inl (Value.int IntKind.u64 0), Sum.inl (Value.int IntKind.u64 0), Sum.inl (Value.int IntKind.u64 0), Sum.inl (Value.int IntKind.u64 0)]⟩), (7, ⟨true, (ladR K u k).l⟩)]) _ ?_ ?_ ?_
  · simp only [F5.l, R4.l, ladR, F5.one, F5.zero, sok_row, sn_upto, sn_from, slN_def, run_cap, rules, rules2, loopRules, Try.facts, base0, Int.toNat_zero, Nat.reduceAdd, Nat.reduceMul, Nat.reduceSub, Nat.reduceLT, Nat.reduceLeDiff, Nat.reduceEqDiff, Int.reduceLE, Int.reduceLT, Int.reduceToNat, Int.reduceNe, Int.reduceEq, not_false_eq_true, Nat.reduceBEq, Nat.reduceDiv, Int.natCast_zero, Int.natCast_one, Int.reduceAdd, Int.reduceSub, reduceIte, ↓reduceIte, Value.oneCell', splice, reduceCtorEq]
  · intro k hk
    obtain ⟨t, ht⟩ : ∃ t : Nat, (254 : Int) - k = t := ⟨254 - k, by omega⟩
    have ht' : t < 255 := by omega
    have hw : IntKind.i64.wrap ((t : Int) - 1) = 254 - ((k + 1 : Nat) : Int) := by rw [wrap_i64 _ (by omega) (by omega)]; omega
    simp only [F5.l, ht, sn_upto, sn_from, slN_def, run_cap, rules, rules2, loopRules, Try.facts, base0, Int.toNat_zero, Nat.reduceAdd, Nat.reduceMul, Nat.reduceSub, Nat.reduceLT, Nat.reduceLeDiff, Nat.reduceEqDiff, Int.reduceLE, Int.reduceLT, Int.reduceToNat, Int.reduceNe, Int.reduceEq, not_false_eq_true, Nat.reduceBEq, Nat.reduceDiv, Int.natCast_zero, Int.natCast_one, Int.reduceAdd, Int.reduceSub, reduceIte, ↓reduceIte, Value.oneCell', splice, reduceCtorEq]
    refine vcIf_yes (by simp) ?_
    have hg := rowI_get .u8 32 K (t / 8) (by omega)
    have hb := bit_of K hK t
    have hq := quo8 t (by omega)
    have hlt : (((t / 8 : Nat) : Int) < 32) = True := lt_nat (m := 32) (by omega)
    simp only [hq, rem8, hg, hb, hlt, le_nat, Int.toNat_natCast, R4.l, F5.l, sn_upto, sn_from, slN_def, run_cap, rules, rules2, loopRules, Try.facts, base0, Int.toNat_zero, Nat.reduceAdd, Nat.reduceMul, Nat.reduceSub, Nat.reduceLT, Nat.reduceLeDiff, Nat.reduceEqDiff, Int.reduceLE, Int.reduceLT, Int.reduceToNat, Int.reduceNe, Int.reduceEq, not_false_eq_true, Nat.reduceBEq, Nat.reduceDiv, Int.natCast_zero, Int.natCast_one, Int.reduceAdd, Int.reduceSub, reduceIte, ↓reduceIte, Value.oneCell', splice, reduceCtorEq]
    refine ⟨by kernel_rfl, ?_⟩
    refine Fun.draw (exchanged_fun (bitOf K t) (ladR K u k) (ladR_ok K u hu k)) Try.callable10 ?_
    simp only [R4.l, F5.l, sn_upto, sn_from, slN_def, run_cap, rules, rules2, loopRules, Try.facts, base0, Int.toNat_zero, Nat.reduceAdd, Nat.reduceMul, Nat.reduceSub, Nat.reduceLT, Nat.reduceLeDiff, Nat.reduceEqDiff, Int.reduceLE, Int.reduceLT, Int.reduceToNat, Int.reduceNe, Int.reduceEq, not_false_eq_true, Nat.reduceBEq, Nat.reduceDiv, Int.natCast_zero, Int.natCast_one, Int.reduceAdd, Int.reduceSub, reduceIte, ↓reduceIte, Value.oneCell', splice, reduceCtorEq]
    refine Fun.draw (climbed_fun _ u (exF_ok _ _ (ladR_ok K u hu k)) hu) Try.callable11 ?_
    simp only [R4.l, F5.l, sn_upto, sn_from, slN_def, run_cap, rules, rules2, loopRules, Try.facts, base0, Int.toNat_zero, Nat.reduceAdd, Nat.reduceMul, Nat.reduceSub, Nat.reduceLT, Nat.reduceLeDiff, Nat.reduceEqDiff, Int.reduceLE, Int.reduceLT, Int.reduceToNat, Int.reduceNe, Int.reduceEq, not_false_eq_true, Nat.reduceBEq, Nat.reduceDiv, Int.natCast_zero, Int.natCast_one, Int.reduceAdd, Int.reduceSub, reduceIte, ↓reduceIte, Value.oneCell', splice, reduceCtorEq]
    refine Fun.draw (exchanged_fun (bitOf K t) _ (climbF_ok _ _ (exF_ok _ _ (ladR_ok K u hu k)) hu)) Try.callable10 ?_
    have hs : ladR K u (k + 1) = exF (bitOf K t) (climbF (exF (bitOf K t) (ladR K u k)) u) := by rw [ladR, show 254 - k = t from by omega]
    simp only [R4.l, F5.l, hs, hw, sn_upto, sn_from, slN_def, run_cap, rules, rules2, loopRules, Try.facts, base0, Int.toNat_zero, Nat.reduceAdd, Nat.reduceMul, Nat.reduceSub, Nat.reduceLT, Nat.reduceLeDiff, Nat.reduceEqDiff, Int.reduceLE, Int.reduceLT, Int.reduceToNat, Int.reduceNe, Int.reduceEq, not_false_eq_true, Nat.reduceBEq, Nat.reduceDiv, Int.natCast_zero, Int.natCast_one, Int.reduceAdd, Int.reduceSub, reduceIte, ↓reduceIte, Value.oneCell', splice, reduceCtorEq]
  · simp only [F5.l, sn_upto, sn_from, slN_def, run_cap, rules, rules2, loopRules, Try.facts, base0, Int.toNat_zero, Nat.reduceAdd, Nat.reduceMul, Nat.reduceSub, Nat.reduceLT, Nat.reduceLeDiff, Nat.reduceEqDiff, Int.reduceLE, Int.reduceLT, Int.reduceToNat, Int.reduceNe, Int.reduceEq, not_false_eq_true, Nat.reduceBEq, Nat.reduceDiv, Int.natCast_zero, Int.natCast_one, Int.reduceAdd, Int.reduceSub, reduceIte, ↓reduceIte, Value.oneCell', splice, reduceCtorEq]
    refine vcIf_no (by simp) ?_
    simp only [F5.l, R4.l, sn_upto, sn_from, slN_def, run_cap, rules, rules2, loopRules, Try.facts, base0, Int.toNat_zero, Nat.reduceAdd, Nat.reduceMul, Nat.reduceSub, Nat.reduceLT, Nat.reduceLeDiff, Nat.reduceEqDiff, Int.reduceLE, Int.reduceLT, Int.reduceToNat, Int.reduceNe, Int.reduceEq, not_false_eq_true, Nat.reduceBEq, Nat.reduceDiv, Int.natCast_zero, Int.natCast_one, Int.reduceAdd, Int.reduceSub, reduceIte, ↓reduceIte, Value.oneCell', splice, reduceCtorEq]
    refine ⟨by kernel_rfl, ?_⟩
    refine Fun.draw (inverse_fun (ladR K u 255).z2 (ladR_ok K u hu 255).z2) Try.callable13 ?_
    simp only [F5.l, sn_upto, sn_from, slN_def, run_cap, rules, rules2, loopRules, Try.facts, base0, Int.toNat_zero, Nat.reduceAdd, Nat.reduceMul, Nat.reduceSub, Nat.reduceLT, Nat.reduceLeDiff, Nat.reduceEqDiff, Int.reduceLE, Int.reduceLT, Int.reduceToNat, Int.reduceNe, Int.reduceEq, not_false_eq_true, Nat.reduceBEq, Nat.reduceDiv, Int.natCast_zero, Int.natCast_one, Int.reduceAdd, Int.reduceSub, reduceIte, ↓reduceIte, Value.oneCell', splice, reduceCtorEq]
    refine Fun.draw (mul_fun (ladR K u 255).x2 (invP (ladR K u 255).z2 255) (ladR_ok K u hu 255).x2 (invP_ok _ (ladR_ok K u hu 255).z2 255)) Try.callable12 ?_
    simp only [F5.l, sn_upto, sn_from, slN_def, run_cap, rules, rules2, loopRules, Try.facts, base0, Int.toNat_zero, Nat.reduceAdd, Nat.reduceMul, Nat.reduceSub, Nat.reduceLT, Nat.reduceLeDiff, Nat.reduceEqDiff, Int.reduceLE, Int.reduceLT, Int.reduceToNat, Int.reduceNe, Int.reduceEq, not_false_eq_true, Nat.reduceBEq, Nat.reduceDiv, Int.natCast_zero, Int.natCast_one, Int.reduceAdd, Int.reduceSub, reduceIte, ↓reduceIte, Value.oneCell', splice, reduceCtorEq]
end Go.Proofs.Ytemllgnejllcpaa
