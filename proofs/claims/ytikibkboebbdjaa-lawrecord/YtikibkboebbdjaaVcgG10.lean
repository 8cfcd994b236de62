/-
  A state read, in the program: its measure.
-/
import Derived.Test.YtikibkboebbdjaaVcgG9
import Derived.Test.YtikibkboebbdjaaVcgF1
import Derived.Test.YtikibkboebbdjaaVcgRw
set_option linter.unusedSimpArgs false
set_option linter.unusedVariables false
namespace Go.Proofs.Ytikibkboebbdjaa
open Go.Vcg
theorem spl_one {a b : SV} : splice [a] 0 [b] = [b] := rfl
section
variable {s : AS} {nm t u o o' L c p : Nat} {G : Nat → Int} {rw : Bool} {cs : List SV} {dst : Option Nat} {K : AS → Prop}
theorem shows_at (hs : Shows cs o L G) (ho : o' = o + p) (hp : p ≤ L) : Shows cs o' (L - p) (fun i => G (p + i)) := by
  subst ho; exact shows_sub hs p (L - p) (by omega)
theorem slO_at {m : Nat} (ho : o' = o + p) (hc : L ≤ c) (hm : p + m ≤ L) : p + m < L → slO o' m (c - p) = o + (p + m) := fun h => by
  subst ho; unfold slO; rw [if_neg (by omega)]; omega
theorem u32_at (hG : Byt G) (hs : Shows cs o L G) (hq : cs.all SV.plain = true) (hb : s.box t = some ⟨true, [rd u o' (L - p) (c - p)]⟩) (hb' : s.box u = some ⟨rw, cs⟩) (hne : t ≠ u) (ho : o' = o + p) (hp : p + 4 ≤ L) (hc : L ≤ c)
    (hk : ∀ o2, (p + 4 < L → o2 = o + (p + 4)) → K ((⟨s.env, upd s.box t (some ⟨true, [rd u o2 (L - (p + 4)) (c - (p + 4))]⟩), s.next⟩ : AS).put dst (some (I .u32 (be4 G p))))) :
    vcCall Try.prog nm 41 (some [Ptr t 0]) dst K s := by
  have := hk _ (slO_at (m := 4) ho hc hp)
  rw [show L - (p + 4) = L - p - 4 by omega, show c - (p + 4) = c - p - 4 by omega] at this
  refine rd_call (u32_m (f := fun i => G (p + i)) (fun i => hG _) (shows_at hs ho (by omega)) hq (by omega) (by omega)) hb hb' hq hne rfl (y := I .u32 (be4 G p)) ?_ this
  rw [be4_shift]; rfl
theorem key_at (hs : Shows cs o L G) (hq : cs.all SV.plain = true) (hb : s.box t = some ⟨true, [rd u o' (L - p) (c - p)]⟩) (hb' : s.box u = some ⟨rw, cs⟩) (hne : t ≠ u) (ho : o' = o + p) (hp : p + 32 ≤ L) (hc : L ≤ c)
    (hk : ∀ o2, (p + 32 < L → o2 = o + (p + 32)) → K ((⟨s.env, upd s.box t (some ⟨true, [rd u o2 (L - (p + 32)) (c - (p + 32))]⟩), s.next⟩ : AS).put dst (some (Ag (rowI .u8 32 (fun i => G (p + i))))))) :
    vcCall Try.prog nm 43 (some [Ptr t 0]) dst K s := by
  have := hk _ (slO_at (m := 32) ho hc hp)
  rw [show L - (p + 32) = L - p - 32 by omega, show c - (p + 32) = c - p - 32 by omega] at this
  exact rd_call (key_m (f := fun i => G (p + i)) (shows_at hs ho (by omega)) hq (by omega) (by omega)) hb hb' hq hne rfl (y := Ag (rowI .u8 32 (fun i => G (p + i)))) ren_row this
theorem take_at {m : Nat} (hq : cs.all SV.plain = true) (hb : s.box t = some ⟨true, [rd u o' (L - p) (c - p)]⟩) (hb' : s.box u = some ⟨rw, cs⟩) (hne : t ≠ u) (ho : o' = o + p) (hp : p + m ≤ L) (hc : L ≤ c)
    (hk : ∀ o2, (p + m < L → o2 = o + (p + m)) → K ((⟨s.env, upd s.box t (some ⟨true, [rd u o2 (L - (p + m)) (c - (p + m))]⟩), s.next⟩ : AS).put dst (some (Sl u o' m (c - p))))) :
    vcCall Try.prog nm 42 (some [Ptr t 0, I .i64 m]) dst K s := by
  have := hk _ (slO_at (m := m) ho hc hp)
  rw [show L - (p + m) = L - p - m by omega, show c - (p + m) = c - p - m by omega] at this
  exact rd_call (take_m (o := o') (n := L - p) (c := c - p) (m := m) hq (by omega) (by omega)) hb hb' hq hne rfl (y := Sl u o' m (c - p)) rfl this
end
set_option maxHeartbeats 8000000 in
set_option maxRecDepth 20000 in
theorem measures_m {o n c : Nat} {f : Nat → Int} {cs : List SV} (hf : Byt f) (hs : Shows cs o n f) (hp : cs.all SV.plain = true) (hc : n ≤ c) (hn : n < 140737488355328) :
    MFun Try.prog 22 [Sl 0 o n c] 1 (lk [(0, ⟨false, cs⟩)]) (fun v out => v = B (decide (226 ≤ n ∧ (n : Int) = 226 + 72 * be4 f 222)) ∧ out = fun _ => none) := by
  refine mfun_of_vc Try.func22 rfl (by kernel_rfl) (by simp [Try.ntmps22]) Try.callable22 (by simp [AV.ok, CV.ok, SV.names]) all1 (inn1 hp) ?_
  by_cases h1 : n < 226
  · have d1 : decide ((n : Int) < 226) = true := decide_eq_true (by omega)
    have e : decide (226 ≤ n ∧ (n : Int) = 226 + 72 * be4 f 222) = false := decide_eq_false (by omega)
    rw [e]
    simp only [Try.results22, d1, sn_upto, sn_from, slN_def, run_cap, rules, rules2, loopRules, Try.facts, base0, Int.toNat_zero, Nat.reduceAdd, Nat.reduceMul, Nat.reduceSub, Nat.reduceLT, Nat.reduceLeDiff, Nat.reduceEqDiff, Int.reduceLE, Int.reduceLT, Int.reduceToNat, Int.reduceNe, Int.reduceEq, not_false_eq_true, Nat.reduceBEq, Nat.reduceDiv, Int.natCast_zero, Int.natCast_one, Int.reduceAdd, Int.reduceSub, reduceIte, ↓reduceIte, Value.oneCell', rowI_length, rowI_take, rowI_splice, rep_all, row_zero, le_nat, Int.toNat_natCast, Nat.zero_add, sok_row, reduceCtorEq]
    exact ret_plain rfl ⟨rfl, rfl⟩
  have d1 : decide ((n : Int) < 226) = false := decide_eq_false (by omega)
  have l1 : ((222 : Int) ≤ (n : Int)) = True := eq_true (by omega)
  have l2 : ((n : Int) ≤ (c : Int)) = True := eq_true (by omega)
  have n2 : (c = 222) = False := eq_false (by omega)
  simp only [Try.results22, d1, l1, l2, n2, if_false, spl_one, sn_upto, sn_from, slN_def, run_cap, rules, rules2, loopRules, Try.facts, base0, Int.toNat_zero, Nat.reduceAdd, Nat.reduceMul, Nat.reduceSub, Nat.reduceLT, Nat.reduceLeDiff, Nat.reduceEqDiff, Int.reduceLE, Int.reduceLT, Int.reduceToNat, Int.reduceNe, Int.reduceEq, not_false_eq_true, Nat.reduceBEq, Nat.reduceDiv, Int.natCast_zero, Int.natCast_one, Int.reduceAdd, Int.reduceSub, reduceIte, ↓reduceIte, Value.oneCell', rowI_length, rowI_take, rowI_splice, rep_all, row_zero, le_nat, Int.toNat_natCast, Nat.zero_add, sok_row, reduceCtorEq]
  refine u32_at (u := 0) (p := 222) (L := n) (c := c) (o := o) (rw := false) hf hs hp (by simp only [upd_same]) (by simp only [upd_apply, sn_upto, sn_from, slN_def, run_cap, rules, rules2, loopRules, Try.facts, base0, Int.toNat_zero, Nat.reduceAdd, Nat.reduceMul, Nat.reduceSub, Nat.reduceLT, Nat.reduceLeDiff, Nat.reduceEqDiff, Int.reduceLE, Int.reduceLT, Int.reduceToNat, Int.reduceNe, Int.reduceEq, not_false_eq_true, Nat.reduceBEq, Nat.reduceDiv, Int.natCast_zero, Int.natCast_one, Int.reduceAdd, Int.reduceSub, reduceIte, ↓reduceIte, Value.oneCell', rowI_length, rowI_take, rowI_splice, rep_all, row_zero, le_nat, Int.toNat_natCast, Nat.zero_add, sok_row, reduceCtorEq]) (by decide) rfl (by omega) hc ?_
  intro o2 ho2
  have hw := be4_w hf 222
  simp only [W32] at hw
  have e1 : IntKind.u64.wrap (n : Int) = n := wrap_u64_in _ (by omega) (by omega)
  have e2 : IntKind.u64.wrap (be4 f 222) = be4 f 222 := wrap_u64_in _ (by omega) (by omega)
  have e3 : IntKind.u64.wrap (72 * be4 f 222) = 72 * be4 f 222 := wrap_u64_in _ (by omega) (by omega)
  have e4 : IntKind.u64.wrap (226 + 72 * be4 f 222) = 226 + 72 * be4 f 222 := wrap_u64_in _ (by omega) (by omega)
  have e5 : decide (226 ≤ n ∧ (n : Int) = 226 + 72 * be4 f 222) = ((n : Int) == 226 + 72 * be4 f 222) := by
    rw [Bool.eq_iff_iff, decide_eq_true_eq, beq_iff_eq]
    constructor
    · exact fun h => h.2
    · exact fun h => ⟨by omega, h⟩
  simp only [e1, e2, e3, e4, sn_upto, sn_from, slN_def, run_cap, rules, rules2, loopRules, Try.facts, base0, Int.toNat_zero, Nat.reduceAdd, Nat.reduceMul, Nat.reduceSub, Nat.reduceLT, Nat.reduceLeDiff, Nat.reduceEqDiff, Int.reduceLE, Int.reduceLT, Int.reduceToNat, Int.reduceNe, Int.reduceEq, not_false_eq_true, Nat.reduceBEq, Nat.reduceDiv, Int.natCast_zero, Int.natCast_one, Int.reduceAdd, Int.reduceSub, reduceIte, ↓reduceIte, Value.oneCell', rowI_length, rowI_take, rowI_splice, rep_all, row_zero, le_nat, Int.toNat_natCast, Nat.zero_add, sok_row, reduceCtorEq]
  exact ret_plain rfl ⟨by rw [e5], rfl⟩
end Go.Proofs.Ytikibkboebbdjaa
