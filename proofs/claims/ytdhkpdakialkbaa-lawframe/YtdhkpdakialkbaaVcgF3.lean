/-
  A frame's bytes read, in the program.
-/
import Derived.Test.YtdhkpdakialkbaaVcgF2
set_option linter.unusedSimpArgs false
set_option linter.unusedVariables false
namespace Go.Proofs.Ytdhkpdakialkbaa
open Go.Vcg
/-- Bytes that have a frame's mark and lengths. -/
def isFr (n : Nat) (f : Nat → Int) : Prop := 77 ≤ n ∧ n ≤ 65613 ∧ f 0 = 210 ∧ be4 f 41 = ((n - 77 : Nat) : Int)
theorem spl_one {a b : SV} : splice [a] 0 [b] = [b] := rfl
set_option maxHeartbeats 8000000 in
set_option maxRecDepth 20000 in
theorem measures_m {o n c : Nat} {f : Nat → Int} {cs : List SV} (hf : Byt f) (hs : Shows cs o n f) (hp : cs.all SV.plain = true) (hc : n ≤ c) (hn : n < 140737488355328) (b : Bool) (hb : b = true ↔ isFr n f) :
    MFun Try.prog 16 [Sl 0 o n c] 1 (lk [(0, ⟨false, cs⟩)]) (fun v out => v = B b ∧ out = fun _ => none) := by
  refine mfun_of_vc Try.func16 rfl (by kernel_rfl) (by simp [Try.ntmps16]) Try.callable16 (by simp [AV.ok, CV.ok, SV.names]) all1 (inn1 hp) ?_
  have ok1 : ∀ {M : Nat → Prop}, (∀ x ∈ cs, SV.ok M x) = True := eq_true (ok_all hp)
  by_cases h1 : n < 77
  · have d1 : decide ((n : Int) < 77) = true := decide_eq_true (by omega)
    have : b = false := by cases b with
      | false => rfl
      | true => exact absurd (hb.1 rfl).1 (by omega)
    subst this
    simp only [Try.results16, d1, sn_upto, sn_from, slN_def, run_cap, rules, rules2, loopRules, Try.facts, base0, Int.toNat_zero, Nat.reduceAdd, Nat.reduceMul, Nat.reduceSub, Nat.reduceLT, Nat.reduceLeDiff, Nat.reduceEqDiff, Int.reduceLE, Int.reduceLT, Int.reduceToNat, Int.reduceNe, Int.reduceEq, not_false_eq_true, Nat.reduceBEq, Nat.reduceDiv, Int.natCast_zero, Int.natCast_one, Int.reduceAdd, Int.reduceSub, reduceIte, ↓reduceIte, Value.oneCell', rowI_length, rowI_take, rowI_splice, rep_all, row_zero, le_nat, Int.toNat_natCast, Nat.zero_add, sok_row, reduceCtorEq]
    exact ret_plain rfl ⟨rfl, rfl⟩
  have d1 : decide ((n : Int) < 77) = false := decide_eq_false (by omega)
  by_cases h2 : 65613 < n
  · have d2 : decide (65613 < (n : Int)) = true := decide_eq_true (by omega)
    have : b = false := by cases b with
      | false => rfl
      | true => exact absurd (hb.1 rfl).2.1 (by omega)
    subst this
    simp only [Try.results16, d1, d2, sn_upto, sn_from, slN_def, run_cap, rules, rules2, loopRules, Try.facts, base0, Int.toNat_zero, Nat.reduceAdd, Nat.reduceMul, Nat.reduceSub, Nat.reduceLT, Nat.reduceLeDiff, Nat.reduceEqDiff, Int.reduceLE, Int.reduceLT, Int.reduceToNat, Int.reduceNe, Int.reduceEq, not_false_eq_true, Nat.reduceBEq, Nat.reduceDiv, Int.natCast_zero, Int.natCast_one, Int.reduceAdd, Int.reduceSub, reduceIte, ↓reduceIte, Value.oneCell', rowI_length, rowI_take, rowI_splice, rep_all, row_zero, le_nat, Int.toNat_natCast, Nat.zero_add, sok_row, reduceCtorEq]
    exact ret_plain rfl ⟨rfl, rfl⟩
  have d2 : decide (65613 < (n : Int)) = false := decide_eq_false (by omega)
  have a0 := hs 0 (by omega)
  rw [Nat.add_zero] at a0
  have l0 : ((0 : Int) < (n : Int)) = True := eq_true (by omega)
  have l41 : ((41 : Int) ≤ (n : Int)) = True := eq_true (by omega)
  have l42 : ((n : Int) ≤ (c : Int)) = True := eq_true (by omega)
  by_cases h3 : f 0 = 210
  rotate_left 1
  · have d3 : (f 0 != 210) = true := by simpa using h3
    have : b = false := by cases b with
      | false => rfl
      | true => exact absurd (hb.1 rfl).2.2.1 h3
    subst this
    simp only [Try.results16, d1, d2, d3, l0, a0, sn_upto, sn_from, slN_def, run_cap, rules, rules2, loopRules, Try.facts, base0, Int.toNat_zero, Nat.reduceAdd, Nat.reduceMul, Nat.reduceSub, Nat.reduceLT, Nat.reduceLeDiff, Nat.reduceEqDiff, Int.reduceLE, Int.reduceLT, Int.reduceToNat, Int.reduceNe, Int.reduceEq, not_false_eq_true, Nat.reduceBEq, Nat.reduceDiv, Int.natCast_zero, Int.natCast_one, Int.reduceAdd, Int.reduceSub, reduceIte, ↓reduceIte, Value.oneCell', rowI_length, rowI_take, rowI_splice, rep_all, row_zero, le_nat, Int.toNat_natCast, Nat.zero_add, sok_row, reduceCtorEq]
    exact ret_plain rfl ⟨rfl, rfl⟩
  · have d3 : (f 0 != 210) = false := by simpa using h3
    simp only [Try.results16, d1, d2, d3, l0, l41, l42, spl_one, a0, sn_upto, sn_from, slN_def, run_cap, rules, rules2, loopRules, Try.facts, base0, Int.toNat_zero, Nat.reduceAdd, Nat.reduceMul, Nat.reduceSub, Nat.reduceLT, Nat.reduceLeDiff, Nat.reduceEqDiff, Int.reduceLE, Int.reduceLT, Int.reduceToNat, Int.reduceNe, Int.reduceEq, not_false_eq_true, Nat.reduceBEq, Nat.reduceDiv, Int.natCast_zero, Int.natCast_one, Int.reduceAdd, Int.reduceSub, reduceIte, ↓reduceIte, Value.oneCell', rowI_length, rowI_take, rowI_splice, rep_all, row_zero, le_nat, Int.toNat_natCast, Nat.zero_add, sok_row, reduceCtorEq]
    have hs' := shows_off (m := 41) hs (by omega) hc
    have hf' : Byt (fun i => f (41 + i)) := fun i => hf _
    refine rd_call (u32_m (o := slO o 41 c) (n := n - 41) (c := c - 41) hf' hs' hp (by omega) (by omega)) (t := 19) (u := 0) (rw := false) (by simp only [upd_apply, sn_upto, sn_from, slN_def, run_cap, rules, rules2, loopRules, Try.facts, base0, Int.toNat_zero, Nat.reduceAdd, Nat.reduceMul, Nat.reduceSub, Nat.reduceLT, Nat.reduceLeDiff, Nat.reduceEqDiff, Int.reduceLE, Int.reduceLT, Int.reduceToNat, Int.reduceNe, Int.reduceEq, not_false_eq_true, Nat.reduceBEq, Nat.reduceDiv, Int.natCast_zero, Int.natCast_one, Int.reduceAdd, Int.reduceSub, reduceIte, ↓reduceIte, Value.oneCell', rowI_length, rowI_take, rowI_splice, rep_all, row_zero, le_nat, Int.toNat_natCast, Nat.zero_add, sok_row, reduceCtorEq]; rfl) (by simp only [upd_apply, sn_upto, sn_from, slN_def, run_cap, rules, rules2, loopRules, Try.facts, base0, Int.toNat_zero, Nat.reduceAdd, Nat.reduceMul, Nat.reduceSub, Nat.reduceLT, Nat.reduceLeDiff, Nat.reduceEqDiff, Int.reduceLE, Int.reduceLT, Int.reduceToNat, Int.reduceNe, Int.reduceEq, not_false_eq_true, Nat.reduceBEq, Nat.reduceDiv, Int.natCast_zero, Int.natCast_one, Int.reduceAdd, Int.reduceSub, reduceIte, ↓reduceIte, Value.oneCell', rowI_length, rowI_take, rowI_splice, rep_all, row_zero, le_nat, Int.toNat_natCast, Nat.zero_add, sok_row, reduceCtorEq]) hp (by decide) rfl (y := I .u32 (be4 (fun i => f (41 + i)) 0)) rfl ?_
    have e : be4 (fun i => f (41 + i)) 0 = be4 f 41 := rfl
    have w1 : IntKind.i64.wrap ((n : Int) - 77) = ((n - 77 : Nat) : Int) := by rw [wrap_i64 _ (by omega) (by omega)]; omega
    have w2 : IntKind.u32.wrap ((n - 77 : Nat) : Int) = ((n - 77 : Nat) : Int) := wrap_u32_in _ (by omega) (by omega)
    simp only [e, w1, w2, sn_upto, sn_from, slN_def, run_cap, rules, rules2, loopRules, Try.facts, base0, Int.toNat_zero, Nat.reduceAdd, Nat.reduceMul, Nat.reduceSub, Nat.reduceLT, Nat.reduceLeDiff, Nat.reduceEqDiff, Int.reduceLE, Int.reduceLT, Int.reduceToNat, Int.reduceNe, Int.reduceEq, not_false_eq_true, Nat.reduceBEq, Nat.reduceDiv, Int.natCast_zero, Int.natCast_one, Int.reduceAdd, Int.reduceSub, reduceIte, ↓reduceIte, Value.oneCell', rowI_length, rowI_take, rowI_splice, rep_all, row_zero, le_nat, Int.toNat_natCast, Nat.zero_add, sok_row, reduceCtorEq]
    have eb : (be4 f 41 == ((n - 77 : Nat) : Int)) = b := by
      rw [Bool.eq_iff_iff, hb]
      simp only [isFr, beq_iff_eq]
      exact ⟨fun h => ⟨by omega, by omega, h3, h⟩, fun h => h.2.2.2⟩
    rw [eb]
    exact ret_plain rfl ⟨rfl, rfl⟩
/-- What is read of a frame's bytes. -/
def ReadF (k m : Nat) (f : Nat → Int) (v : AV) (out : Nat → Option Box) : Prop :=
  (m = 0 ∧ v = Ag (frL (fun i => f (1 + i)) (be4 f 33) (be4 f 37) (Sum.inl (.slice none 0 0)) (fun i => f (45 + m + i))) ∧ out = fun _ => none) ∨
  ∃ c tail, 0 < m ∧ v = Ag (frL (fun i => f (1 + i)) (be4 f 33) (be4 f 37) (Sum.inr (.inr (k, 0, m, c))) (fun i => f (45 + m + i))) ∧ out = lk [(k, ⟨true, rowI .u8 m (fun i => f (45 + i)) ++ tail⟩)] ∧ m ≤ c ∧ tail.length = c - m ∧ tail.all SV.plain = true
theorem zFrame : List.map Sum.inl (List.replicate 32 (Value.int IntKind.u8 0) ++ List.replicate 2 (Value.int IntKind.u32 0) ++ List.replicate 1 (Value.slice none 0 0) ++ List.replicate 32 (Value.int IntKind.u8 0)) = frL (fun _ => 0) 0 0 (Sum.inl (Value.slice none 0 0)) (fun _ => 0) := by
  simp only [List.map_append, row_zero]; rfl
theorem zFrame2 : (List.replicate 32 (Sum.inl (Value.int IntKind.u8 0)) ++ List.replicate 2 (Sum.inl (Value.int IntKind.u32 0)) ++ List.replicate 1 (Sum.inl (Value.slice none 0 0)) ++ List.replicate 32 (Sum.inl (Value.int IntKind.u8 0)) : List SV) = frL (fun _ => 0) 0 0 (Sum.inl (Value.slice none 0 0)) (fun _ => 0) := by
  rw [row_zero2]; rfl
theorem zHead : (List.replicate 32 (Sum.inl (Value.int IntKind.u8 0)) ++ List.replicate 2 (Sum.inl (Value.int IntKind.u32 0)) : List SV) = hdL (fun _ => 0) 0 0 := by
  rw [row_zero2]; rfl
theorem zHead2 : (List.map Sum.inl (List.replicate 32 (Value.int IntKind.u8 0) ++ List.replicate 2 (Value.int IntKind.u32 0)) : List SV) = hdL (fun _ => 0) 0 0 := by
  rw [List.map_append, row_zero]; rfl
section
variable {g p q r : Nat → Int} {a b x y : Int} {sv sw : SV}
theorem rowI_takeGe {k : IntKind} {n m : Nat} {f : Nat → Int} (h : n ≤ m) : List.take m (rowI k n f) = rowI k n f := List.take_of_length_le (by rw [rowI_length]; exact h)
theorem rowI_dropGe {k : IntKind} {n m : Nat} {f : Nat → Int} (h : n ≤ m) : List.drop m (rowI k n f) = [] := List.drop_eq_nil_of_le (by rw [rowI_length]; exact h)
theorem hdL_0 : splice (hdL g a b) 0 (rowI .u8 32 p) = hdL p a b := by simp [splice, hdL, rowI_length, List.take_append, List.drop_append, rowI_takeGe, rowI_dropGe]
theorem hdL_1 : splice (hdL g a b) 32 [Sum.inl (.int .u32 x)] = hdL g x b := by simp [splice, hdL, rowI_length, List.take_append, List.drop_append, rowI_takeGe, rowI_dropGe]
theorem hdL_2 : splice (hdL g a b) 33 [Sum.inl (.int .u32 x)] = hdL g a x := by simp [splice, hdL, rowI_length, List.take_append, List.drop_append, rowI_takeGe, rowI_dropGe]
theorem hdL_w : splice (hdL g a b) 0 (hdL p x y) = hdL p x y := by simp [splice, hdL, rowI_length, List.take_append, List.drop_append, rowI_takeGe, rowI_dropGe]
theorem hdL_take : List.take 34 (hdL g a b) = hdL g a b := List.take_of_length_le (by rw [hdL_len]; omega)
theorem frL_0 : splice (frL g a b sv q) 0 (hdL p x y) = frL p x y sv q := by simp [splice, hdL, frL, rowI_length, List.take_append, List.drop_append, rowI_takeGe, rowI_dropGe]
theorem frL_1 : splice (frL g a b sv q) 34 [sw] = frL g a b sw q := by simp [splice, frL, rowI_length, List.take_append, List.drop_append, rowI_takeGe, rowI_dropGe]
theorem frL_2 : splice (frL g a b sv q) 35 (rowI .u8 32 r) = frL g a b sv r := by simp [splice, frL, rowI_length, List.take_append, List.drop_append, rowI_takeGe, rowI_dropGe]
theorem frL_w : splice (frL g a b sv q) 0 (frL p x y sw r) = frL p x y sw r := by simp [splice, frL, rowI_length, List.take_append, List.drop_append, rowI_takeGe, rowI_dropGe]
end
theorem ret_fr {s : AS} {k q m c : Nat} {pub tag : Nat → Int} {a b : Int} {cs : List SV} (hq : k ≤ q) (hb : s.box q = some ⟨true, cs⟩) (hp : cs.all SV.plain = true) :
    Ret k (fun v out => v = Ag (frL pub a b (Sum.inr (.inr (k, 0, m, c))) tag) ∧ out = lk [(k, ⟨true, cs⟩)]) (Ag (frL pub a b (Sum.inr (.inr (q, 0, m, c))) tag)) s := by
  refine ⟨q, Ag (frL pub a b (Sum.inr (.inr (k, 0, m, c))) tag), lk [(k, ⟨true, cs⟩)], hq, ?_, frL_ok ⟨Nat.lt_succ_self k, rfl⟩, fun m b hm => ?_, rfl, rfl⟩
  · rw [ren_fr]
    show _ = Ag (frL pub a b (Sum.inr (.inr (rho k q k, 0, m, c))) tag)
    rw [rho_k]
  · simp only [lk] at hm
    split at hm
    · rename_i e
      simp only [Option.some.injEq] at hm; subst e hm
      exact ⟨Nat.lt_succ_self m, fun _ => rfl, ok_all hp, _, by rw [rho_k]; exact hb, fun _ => rfl, (ren_all hp _).symm⟩
    · cases hm
theorem ret_or {s : AS} {k : Nat} {P Q : AV → (Nat → Option Box) → Prop} {v : AV} (h : Ret k P v s) (hi : ∀ v out, P v out → Q v out) : Ret k Q v s := by
  obtain ⟨q, v0, out, h1, h2, h3, h4, h5⟩ := h
  exact ⟨q, v0, out, h1, h2, h3, h4, hi _ _ h5⟩
theorem AV_fr_plain {pub tag : Nat → Int} {a b : Int} : AV.plain (Ag (frL pub a b (Sum.inl (.slice none 0 0)) tag)) = true := by
  have := frL_plain (pub := pub) (pn := a) (n := b) (tag := tag) (sv := Sum.inl (.slice none 0 0)) rfl
  simpa [AV.plain, CV.plain] using this
/-- The three readings of a frame's last row, in any order. -/
def ordsF : Ords :=
  let e : Ords := .cons 3 (.cons 4 .nil .nil) .nil
  .cons 0 (.cons 1 (.cons 2 e .nil) (.cons 2 (.cons 1 e .nil) .nil)) (.cons 1 (.cons 0 (.cons 2 e .nil) (.cons 2 (.cons 0 e .nil) .nil)) (.cons 2 (.cons 0 (.cons 1 e .nil) (.cons 1 (.cons 0 e .nil) .nil)) .nil))
set_option maxHeartbeats 8000000 in
set_option maxRecDepth 20000 in
theorem readFrame_m {o n c : Nat} {f : Nat → Int} {cs : List SV} (hf : Byt f) (hs : Shows cs o n f) (hp : cs.all SV.plain = true) (hc : n ≤ c) (hn : n < 140737488355328) (hfr : isFr n f) :
    MFun Try.prog 17 [Sl 0 o n c] 1 (lk [(0, ⟨false, cs⟩)]) (ReadF 1 (n - 77) f) := by
  refine mfun_of_vcX Try.func17 rfl (by kernel_rfl) (by simp [Try.ntmps17]) Try.callable17 (by simp [AV.ok, CV.ok, SV.names]) all1 (inn1 hp) ?_
  have ok1 : ∀ {M : Nat → Prop}, (∀ x ∈ cs, SV.ok M x) = True := eq_true (ok_all hp)
  obtain ⟨h77, h65, hmark, hlen⟩ := hfr
  have l41 : ((1 : Int) ≤ (n : Int)) = True := eq_true (by omega)
  have l42 : ((n : Int) ≤ (c : Int)) = True := eq_true (by omega)
  have hs1 := shows_off (m := 1) hs (by omega) hc
  have hs2 := shows_off (c := c - 1) (m := 32) hs1 (by omega) (by omega)
  have hs3 := shows_off (c := c - 1 - 32) (m := 4) hs2 (by omega) (by omega)
  have hs4 := shows_off (c := c - 1 - 32 - 4) (m := 4) hs3 (by omega) (by omega)
  have hs5 := shows_off (c := c - 1 - 32 - 4 - 4) (m := 4) hs4 (by omega) (by omega)
  have hs5 : Shows cs _ _ (fun i => f (45 + i)) := shows_congr hs5 fun i hi => congrArg f (by omega)
  have hs6 := shows_off (c := c - 1 - 32 - 4 - 4 - 4) (m := n - 77) hs5 (by omega) (by omega)
  have hs6 : Shows cs _ _ (fun i => f (45 + (n - 77) + i)) := shows_congr hs6 fun i hi => congrArg f (by omega)
  simp only [Try.results17, l41, l42, spl_one, zFrame, rulesX, sn_upto, sn_from, slN_def, run_cap, rules, rules2, loopRules, Try.facts, base0, Int.toNat_zero, Nat.reduceAdd, Nat.reduceMul, Nat.reduceSub, Nat.reduceLT, Nat.reduceLeDiff, Nat.reduceEqDiff, Int.reduceLE, Int.reduceLT, Int.reduceToNat, Int.reduceNe, Int.reduceEq, not_false_eq_true, Nat.reduceBEq, Nat.reduceDiv, Int.natCast_zero, Int.natCast_one, Int.reduceAdd, Int.reduceSub, reduceIte, ↓reduceIte, Value.oneCell', rowI_length, rowI_take, rowI_splice, rep_all, row_zero, le_nat, Int.toNat_natCast, Nat.zero_add, sok_row, reduceCtorEq]
  refine ⟨by kernel_rfl, ?_⟩
  refine rd_call (key_m (c := c - 1) hs1 hp (by omega) (by omega)) (t := 5) (u := 0) (rw := false) (by simp only [upd_apply, sn_upto, sn_from, slN_def, run_cap, rules, rules2, loopRules, Try.facts, base0, Int.toNat_zero, Nat.reduceAdd, Nat.reduceMul, Nat.reduceSub, Nat.reduceLT, Nat.reduceLeDiff, Nat.reduceEqDiff, Int.reduceLE, Int.reduceLT, Int.reduceToNat, Int.reduceNe, Int.reduceEq, not_false_eq_true, Nat.reduceBEq, Nat.reduceDiv, Int.natCast_zero, Int.natCast_one, Int.reduceAdd, Int.reduceSub, reduceIte, ↓reduceIte, Value.oneCell', rowI_length, rowI_take, rowI_splice, rep_all, row_zero, le_nat, Int.toNat_natCast, Nat.zero_add, sok_row, reduceCtorEq]; rfl) (by simp only [upd_apply, sn_upto, sn_from, slN_def, run_cap, rules, rules2, loopRules, Try.facts, base0, Int.toNat_zero, Nat.reduceAdd, Nat.reduceMul, Nat.reduceSub, Nat.reduceLT, Nat.reduceLeDiff, Nat.reduceEqDiff, Int.reduceLE, Int.reduceLT, Int.reduceToNat, Int.reduceNe, Int.reduceEq, not_false_eq_true, Nat.reduceBEq, Nat.reduceDiv, Int.natCast_zero, Int.natCast_one, Int.reduceAdd, Int.reduceSub, reduceIte, ↓reduceIte, Value.oneCell', rowI_length, rowI_take, rowI_splice, rep_all, row_zero, le_nat, Int.toNat_natCast, Nat.zero_add, sok_row, reduceCtorEq]) hp (by decide) rfl (y := Ag (rowI .u8 32 (fun i => f (1 + i)))) rfl ?_
  simp only [sn_upto, sn_from, slN_def, run_cap, rules, rules2, loopRules, Try.facts, base0, Int.toNat_zero, Nat.reduceAdd, Nat.reduceMul, Nat.reduceSub, Nat.reduceLT, Nat.reduceLeDiff, Nat.reduceEqDiff, Int.reduceLE, Int.reduceLT, Int.reduceToNat, Int.reduceNe, Int.reduceEq, not_false_eq_true, Nat.reduceBEq, Nat.reduceDiv, Int.natCast_zero, Int.natCast_one, Int.reduceAdd, Int.reduceSub, reduceIte, ↓reduceIte, Value.oneCell', rowI_length, rowI_take, rowI_splice, rep_all, row_zero, le_nat, Int.toNat_natCast, Nat.zero_add, sok_row, reduceCtorEq]
  refine rd_call (u32_m (c := c - 1 - 32) (fun i => hf _) hs2 hp (by omega) (by omega)) (t := 5) (u := 0) (rw := false) (by simp only [upd_apply, sn_upto, sn_from, slN_def, run_cap, rules, rules2, loopRules, Try.facts, base0, Int.toNat_zero, Nat.reduceAdd, Nat.reduceMul, Nat.reduceSub, Nat.reduceLT, Nat.reduceLeDiff, Nat.reduceEqDiff, Int.reduceLE, Int.reduceLT, Int.reduceToNat, Int.reduceNe, Int.reduceEq, not_false_eq_true, Nat.reduceBEq, Nat.reduceDiv, Int.natCast_zero, Int.natCast_one, Int.reduceAdd, Int.reduceSub, reduceIte, ↓reduceIte, Value.oneCell', rowI_length, rowI_take, rowI_splice, rep_all, row_zero, le_nat, Int.toNat_natCast, Nat.zero_add, sok_row, reduceCtorEq]) (by simp only [upd_apply, sn_upto, sn_from, slN_def, run_cap, rules, rules2, loopRules, Try.facts, base0, Int.toNat_zero, Nat.reduceAdd, Nat.reduceMul, Nat.reduceSub, Nat.reduceLT, Nat.reduceLeDiff, Nat.reduceEqDiff, Int.reduceLE, Int.reduceLT, Int.reduceToNat, Int.reduceNe, Int.reduceEq, not_false_eq_true, Nat.reduceBEq, Nat.reduceDiv, Int.natCast_zero, Int.natCast_one, Int.reduceAdd, Int.reduceSub, reduceIte, ↓reduceIte, Value.oneCell', rowI_length, rowI_take, rowI_splice, rep_all, row_zero, le_nat, Int.toNat_natCast, Nat.zero_add, sok_row, reduceCtorEq]) hp (by decide) rfl (y := I .u32 (be4 f 33)) rfl ?_
  simp only [sn_upto, sn_from, slN_def, run_cap, rules, rules2, loopRules, Try.facts, base0, Int.toNat_zero, Nat.reduceAdd, Nat.reduceMul, Nat.reduceSub, Nat.reduceLT, Nat.reduceLeDiff, Nat.reduceEqDiff, Int.reduceLE, Int.reduceLT, Int.reduceToNat, Int.reduceNe, Int.reduceEq, not_false_eq_true, Nat.reduceBEq, Nat.reduceDiv, Int.natCast_zero, Int.natCast_one, Int.reduceAdd, Int.reduceSub, reduceIte, ↓reduceIte, Value.oneCell', rowI_length, rowI_take, rowI_splice, rep_all, row_zero, le_nat, Int.toNat_natCast, Nat.zero_add, sok_row, reduceCtorEq]
  refine rd_call (u32_m (c := c - 1 - 32 - 4) (fun i => hf _) hs3 hp (by omega) (by omega)) (t := 5) (u := 0) (rw := false) (by simp only [upd_apply, sn_upto, sn_from, slN_def, run_cap, rules, rules2, loopRules, Try.facts, base0, Int.toNat_zero, Nat.reduceAdd, Nat.reduceMul, Nat.reduceSub, Nat.reduceLT, Nat.reduceLeDiff, Nat.reduceEqDiff, Int.reduceLE, Int.reduceLT, Int.reduceToNat, Int.reduceNe, Int.reduceEq, not_false_eq_true, Nat.reduceBEq, Nat.reduceDiv, Int.natCast_zero, Int.natCast_one, Int.reduceAdd, Int.reduceSub, reduceIte, ↓reduceIte, Value.oneCell', rowI_length, rowI_take, rowI_splice, rep_all, row_zero, le_nat, Int.toNat_natCast, Nat.zero_add, sok_row, reduceCtorEq]) (by simp only [upd_apply, sn_upto, sn_from, slN_def, run_cap, rules, rules2, loopRules, Try.facts, base0, Int.toNat_zero, Nat.reduceAdd, Nat.reduceMul, Nat.reduceSub, Nat.reduceLT, Nat.reduceLeDiff, Nat.reduceEqDiff, Int.reduceLE, Int.reduceLT, Int.reduceToNat, Int.reduceNe, Int.reduceEq, not_false_eq_true, Nat.reduceBEq, Nat.reduceDiv, Int.natCast_zero, Int.natCast_one, Int.reduceAdd, Int.reduceSub, reduceIte, ↓reduceIte, Value.oneCell', rowI_length, rowI_take, rowI_splice, rep_all, row_zero, le_nat, Int.toNat_natCast, Nat.zero_add, sok_row, reduceCtorEq]) hp (by decide) rfl (y := I .u32 (be4 f 37)) rfl ?_
  simp only [zHead, zHead2, hdL_0, hdL_1, hdL_2, hdL_w, hdL_len, hdL_take, sn_upto, sn_from, slN_def, run_cap, rules, rules2, loopRules, Try.facts, base0, Int.toNat_zero, Nat.reduceAdd, Nat.reduceMul, Nat.reduceSub, Nat.reduceLT, Nat.reduceLeDiff, Nat.reduceEqDiff, Int.reduceLE, Int.reduceLT, Int.reduceToNat, Int.reduceNe, Int.reduceEq, not_false_eq_true, Nat.reduceBEq, Nat.reduceDiv, Int.natCast_zero, Int.natCast_one, Int.reduceAdd, Int.reduceSub, reduceIte, ↓reduceIte, Value.oneCell', rowI_length, rowI_take, rowI_splice, rep_all, row_zero, le_nat, Int.toNat_natCast, Nat.zero_add, sok_row, reduceCtorEq]
  refine ⟨by kernel_rfl, ?_⟩
  refine rd_call (u32_m (c := c - 1 - 32 - 4 - 4) (fun i => hf _) hs4 hp (by omega) (by omega)) (t := 5) (u := 0) (rw := false) (by simp only [upd_apply, sn_upto, sn_from, slN_def, run_cap, rules, rules2, loopRules, Try.facts, base0, Int.toNat_zero, Nat.reduceAdd, Nat.reduceMul, Nat.reduceSub, Nat.reduceLT, Nat.reduceLeDiff, Nat.reduceEqDiff, Int.reduceLE, Int.reduceLT, Int.reduceToNat, Int.reduceNe, Int.reduceEq, not_false_eq_true, Nat.reduceBEq, Nat.reduceDiv, Int.natCast_zero, Int.natCast_one, Int.reduceAdd, Int.reduceSub, reduceIte, ↓reduceIte, Value.oneCell', rowI_length, rowI_take, rowI_splice, rep_all, row_zero, le_nat, Int.toNat_natCast, Nat.zero_add, sok_row, reduceCtorEq]) (by simp only [upd_apply, sn_upto, sn_from, slN_def, run_cap, rules, rules2, loopRules, Try.facts, base0, Int.toNat_zero, Nat.reduceAdd, Nat.reduceMul, Nat.reduceSub, Nat.reduceLT, Nat.reduceLeDiff, Nat.reduceEqDiff, Int.reduceLE, Int.reduceLT, Int.reduceToNat, Int.reduceNe, Int.reduceEq, not_false_eq_true, Nat.reduceBEq, Nat.reduceDiv, Int.natCast_zero, Int.natCast_one, Int.reduceAdd, Int.reduceSub, reduceIte, ↓reduceIte, Value.oneCell', rowI_length, rowI_take, rowI_splice, rep_all, row_zero, le_nat, Int.toNat_natCast, Nat.zero_add, sok_row, reduceCtorEq]) hp (by decide) rfl (y := I .u32 (be4 f 41)) rfl ?_
  have w1 : IntKind.i64.wrap ((n - 77 : Nat) : Int) = ((n - 77 : Nat) : Int) := wrapN _ (by omega)
  simp only [hlen, w1, sn_upto, sn_from, slN_def, run_cap, rules, rules2, loopRules, Try.facts, base0, Int.toNat_zero, Nat.reduceAdd, Nat.reduceMul, Nat.reduceSub, Nat.reduceLT, Nat.reduceLeDiff, Nat.reduceEqDiff, Int.reduceLE, Int.reduceLT, Int.reduceToNat, Int.reduceNe, Int.reduceEq, not_false_eq_true, Nat.reduceBEq, Nat.reduceDiv, Int.natCast_zero, Int.natCast_one, Int.reduceAdd, Int.reduceSub, reduceIte, ↓reduceIte, Value.oneCell', rowI_length, rowI_take, rowI_splice, rep_all, row_zero, le_nat, Int.toNat_natCast, Nat.zero_add, sok_row, reduceCtorEq]
  refine rdNew_call (fresh_m (c := c - 1 - 32 - 4 - 4 - 4) (m := n - 77) hs5 hp (by omega) (by omega) (by omega)) (t := 5) (u := 0) (rw := false) (by simp only [upd_apply, sn_upto, sn_from, slN_def, run_cap, rules, rules2, loopRules, Try.facts, base0, Int.toNat_zero, Nat.reduceAdd, Nat.reduceMul, Nat.reduceSub, Nat.reduceLT, Nat.reduceLeDiff, Nat.reduceEqDiff, Int.reduceLE, Int.reduceLT, Int.reduceToNat, Int.reduceNe, Int.reduceEq, not_false_eq_true, Nat.reduceBEq, Nat.reduceDiv, Int.natCast_zero, Int.natCast_one, Int.reduceAdd, Int.reduceSub, reduceIte, ↓reduceIte, Value.oneCell', rowI_length, rowI_take, rowI_splice, rep_all, row_zero, le_nat, Int.toNat_natCast, Nat.zero_add, sok_row, reduceCtorEq]) (by simp only [upd_apply, sn_upto, sn_from, slN_def, run_cap, rules, rules2, loopRules, Try.facts, base0, Int.toNat_zero, Nat.reduceAdd, Nat.reduceMul, Nat.reduceSub, Nat.reduceLT, Nat.reduceLeDiff, Nat.reduceEqDiff, Int.reduceLE, Int.reduceLT, Int.reduceToNat, Int.reduceNe, Int.reduceEq, not_false_eq_true, Nat.reduceBEq, Nat.reduceDiv, Int.natCast_zero, Int.natCast_one, Int.reduceAdd, Int.reduceSub, reduceIte, ↓reduceIte, Value.oneCell', rowI_length, rowI_take, rowI_splice, rep_all, row_zero, le_nat, Int.toNat_natCast, Nat.zero_add, sok_row, reduceCtorEq]) hp (by decide) rfl (fun h0 => ?_) (fun h0 q cs' hg => ?_)
  · simp only [sn_upto, sn_from, slN_def, run_cap, rules, rules2, loopRules, Try.facts, base0, Int.toNat_zero, Nat.reduceAdd, Nat.reduceMul, Nat.reduceSub, Nat.reduceLT, Nat.reduceLeDiff, Nat.reduceEqDiff, Int.reduceLE, Int.reduceLT, Int.reduceToNat, Int.reduceNe, Int.reduceEq, not_false_eq_true, Nat.reduceBEq, Nat.reduceDiv, Int.natCast_zero, Int.natCast_one, Int.reduceAdd, Int.reduceSub, reduceIte, ↓reduceIte, Value.oneCell', rowI_length, rowI_take, rowI_splice, rep_all, row_zero, le_nat, Int.toNat_natCast, Nat.zero_add, sok_row, reduceCtorEq]
    refine .inr ⟨Try.mixed, ordsF, by kernel_rfl, ?_⟩
    simp only [ordsF, hdL_take, hdL_len, rulesX, sn_upto, sn_from, slN_def, run_cap, rules, rules2, loopRules, Try.facts, base0, Int.toNat_zero, Nat.reduceAdd, Nat.reduceMul, Nat.reduceSub, Nat.reduceLT, Nat.reduceLeDiff, Nat.reduceEqDiff, Int.reduceLE, Int.reduceLT, Int.reduceToNat, Int.reduceNe, Int.reduceEq, not_false_eq_true, Nat.reduceBEq, Nat.reduceDiv, Int.natCast_zero, Int.natCast_one, Int.reduceAdd, Int.reduceSub, reduceIte, ↓reduceIte, Value.oneCell', rowI_length, rowI_take, rowI_splice, rep_all, row_zero, le_nat, Int.toNat_natCast, Nat.zero_add, sok_row, reduceCtorEq]
    refine ⟨⟨?_, ?_⟩, ⟨?_, ?_⟩, ?_⟩
    all_goals
      refine rd_call (key_m (c := c - 1 - 32 - 4 - 4 - 4 - (n - 77)) hs6 hp (by omega) (by omega)) (t := 5) (u := 0) (rw := false) (by simp only [upd_apply, sn_upto, sn_from, slN_def, run_cap, rules, rules2, loopRules, Try.facts, base0, Int.toNat_zero, Nat.reduceAdd, Nat.reduceMul, Nat.reduceSub, Nat.reduceLT, Nat.reduceLeDiff, Nat.reduceEqDiff, Int.reduceLE, Int.reduceLT, Int.reduceToNat, Int.reduceNe, Int.reduceEq, not_false_eq_true, Nat.reduceBEq, Nat.reduceDiv, Int.natCast_zero, Int.natCast_one, Int.reduceAdd, Int.reduceSub, reduceIte, ↓reduceIte, Value.oneCell', rowI_length, rowI_take, rowI_splice, rep_all, row_zero, le_nat, Int.toNat_natCast, Nat.zero_add, sok_row, reduceCtorEq]) (by simp only [upd_apply, sn_upto, sn_from, slN_def, run_cap, rules, rules2, loopRules, Try.facts, base0, Int.toNat_zero, Nat.reduceAdd, Nat.reduceMul, Nat.reduceSub, Nat.reduceLT, Nat.reduceLeDiff, Nat.reduceEqDiff, Int.reduceLE, Int.reduceLT, Int.reduceToNat, Int.reduceNe, Int.reduceEq, not_false_eq_true, Nat.reduceBEq, Nat.reduceDiv, Int.natCast_zero, Int.natCast_one, Int.reduceAdd, Int.reduceSub, reduceIte, ↓reduceIte, Value.oneCell', rowI_length, rowI_take, rowI_splice, rep_all, row_zero, le_nat, Int.toNat_natCast, Nat.zero_add, sok_row, reduceCtorEq]) hp (by decide) rfl (y := Ag (rowI .u8 32 (fun i => f (45 + (n - 77) + i)))) rfl ?_
      simp only [hdL_take, hdL_len, zFrame2, frL_len, frL_0, frL_1, frL_2, frL_w, frL_all, rulesX, sn_upto, sn_from, slN_def, run_cap, rules, rules2, loopRules, Try.facts, base0, Int.toNat_zero, Nat.reduceAdd, Nat.reduceMul, Nat.reduceSub, Nat.reduceLT, Nat.reduceLeDiff, Nat.reduceEqDiff, Int.reduceLE, Int.reduceLT, Int.reduceToNat, Int.reduceNe, Int.reduceEq, not_false_eq_true, Nat.reduceBEq, Nat.reduceDiv, Int.natCast_zero, Int.natCast_one, Int.reduceAdd, Int.reduceSub, reduceIte, ↓reduceIte, Value.oneCell', rowI_length, rowI_take, rowI_splice, rep_all, row_zero, le_nat, Int.toNat_natCast, Nat.zero_add, sok_row, reduceCtorEq]
    all_goals first
      | exact ret_plain (AV_fr_plain) (.inl ⟨h0, rfl, rfl⟩)
      | exact ⟨ret_plain (AV_fr_plain) (.inl ⟨h0, rfl, rfl⟩), ret_plain (AV_fr_plain) (.inl ⟨h0, rfl, rfl⟩)⟩
  · obtain ⟨c2, tail, h1, h2, h3, h4, h5⟩ := hg.made (k := 1)
    have hc : q = c2 := by cases h1; rfl
    subst hc
    have hbx : rowI .u8 (n - 77) (fun i => f (45 + i)) ++ tail = cs' := by
      have := congrFun h2 1
      simpa [lk] using this.symm
    have fin : ∀ s : AS, s.box 15 = some ⟨true, cs'⟩ → Ret 1 (ReadF 1 (n - 77) f) (Ag (frL (fun i => f (1 + i)) (be4 f 33) (be4 f 37) (Sum.inr (.inr (15, 0, n - 77, q))) (fun i => f (45 + (n - 77) + i)))) s := fun s hs =>
      ret_or (ret_fr (k := 1) (by decide) hs hg.plain) (fun v out h => .inr ⟨q, tail, h0, h.1, by rw [h.2, hbx], h3, h4, h5⟩)
    simp only [sn_upto, sn_from, slN_def, run_cap, rules, rules2, loopRules, Try.facts, base0, Int.toNat_zero, Nat.reduceAdd, Nat.reduceMul, Nat.reduceSub, Nat.reduceLT, Nat.reduceLeDiff, Nat.reduceEqDiff, Int.reduceLE, Int.reduceLT, Int.reduceToNat, Int.reduceNe, Int.reduceEq, not_false_eq_true, Nat.reduceBEq, Nat.reduceDiv, Int.natCast_zero, Int.natCast_one, Int.reduceAdd, Int.reduceSub, reduceIte, ↓reduceIte, Value.oneCell', rowI_length, rowI_take, rowI_splice, rep_all, row_zero, le_nat, Int.toNat_natCast, Nat.zero_add, sok_row, reduceCtorEq]
    refine .inr ⟨Try.mixed, ordsF, by kernel_rfl, ?_⟩
    simp only [ordsF, hdL_take, hdL_len, rulesX, sn_upto, sn_from, slN_def, run_cap, rules, rules2, loopRules, Try.facts, base0, Int.toNat_zero, Nat.reduceAdd, Nat.reduceMul, Nat.reduceSub, Nat.reduceLT, Nat.reduceLeDiff, Nat.reduceEqDiff, Int.reduceLE, Int.reduceLT, Int.reduceToNat, Int.reduceNe, Int.reduceEq, not_false_eq_true, Nat.reduceBEq, Nat.reduceDiv, Int.natCast_zero, Int.natCast_one, Int.reduceAdd, Int.reduceSub, reduceIte, ↓reduceIte, Value.oneCell', rowI_length, rowI_take, rowI_splice, rep_all, row_zero, le_nat, Int.toNat_natCast, Nat.zero_add, sok_row, reduceCtorEq]
    refine ⟨⟨?_, ?_⟩, ⟨?_, ?_⟩, ?_⟩
    all_goals
      refine rd_call (key_m (c := c - 1 - 32 - 4 - 4 - 4 - (n - 77)) hs6 hp (by omega) (by omega)) (t := 5) (u := 0) (rw := false) (by simp only [upd_apply, sn_upto, sn_from, slN_def, run_cap, rules, rules2, loopRules, Try.facts, base0, Int.toNat_zero, Nat.reduceAdd, Nat.reduceMul, Nat.reduceSub, Nat.reduceLT, Nat.reduceLeDiff, Nat.reduceEqDiff, Int.reduceLE, Int.reduceLT, Int.reduceToNat, Int.reduceNe, Int.reduceEq, not_false_eq_true, Nat.reduceBEq, Nat.reduceDiv, Int.natCast_zero, Int.natCast_one, Int.reduceAdd, Int.reduceSub, reduceIte, ↓reduceIte, Value.oneCell', rowI_length, rowI_take, rowI_splice, rep_all, row_zero, le_nat, Int.toNat_natCast, Nat.zero_add, sok_row, reduceCtorEq]) (by simp only [upd_apply, sn_upto, sn_from, slN_def, run_cap, rules, rules2, loopRules, Try.facts, base0, Int.toNat_zero, Nat.reduceAdd, Nat.reduceMul, Nat.reduceSub, Nat.reduceLT, Nat.reduceLeDiff, Nat.reduceEqDiff, Int.reduceLE, Int.reduceLT, Int.reduceToNat, Int.reduceNe, Int.reduceEq, not_false_eq_true, Nat.reduceBEq, Nat.reduceDiv, Int.natCast_zero, Int.natCast_one, Int.reduceAdd, Int.reduceSub, reduceIte, ↓reduceIte, Value.oneCell', rowI_length, rowI_take, rowI_splice, rep_all, row_zero, le_nat, Int.toNat_natCast, Nat.zero_add, sok_row, reduceCtorEq]) hp (by decide) rfl (y := Ag (rowI .u8 32 (fun i => f (45 + (n - 77) + i)))) rfl ?_
      simp only [hdL_take, hdL_len, zFrame2, frL_len, frL_0, frL_1, frL_2, frL_w, frL_all, rulesX, sn_upto, sn_from, slN_def, run_cap, rules, rules2, loopRules, Try.facts, base0, Int.toNat_zero, Nat.reduceAdd, Nat.reduceMul, Nat.reduceSub, Nat.reduceLT, Nat.reduceLeDiff, Nat.reduceEqDiff, Int.reduceLE, Int.reduceLT, Int.reduceToNat, Int.reduceNe, Int.reduceEq, not_false_eq_true, Nat.reduceBEq, Nat.reduceDiv, Int.natCast_zero, Int.natCast_one, Int.reduceAdd, Int.reduceSub, reduceIte, ↓reduceIte, Value.oneCell', rowI_length, rowI_take, rowI_splice, rep_all, row_zero, le_nat, Int.toNat_natCast, Nat.zero_add, sok_row, reduceCtorEq]
    all_goals first
      | exact fin _ rfl
      | exact ⟨fin _ rfl, fin _ rfl⟩
/-- Such a reading, as a caller meets it. -/
theorem readF_call {s : AS} {nm fn t m : Nat} {f : Nat → Int} {args l : List AV} {cs : List SV} {rw : Bool} (h : MFun Try.prog fn args 1 (lk [(0, ⟨false, cs⟩)]) (ReadF 1 m f)) (hb : s.box t = some ⟨rw, cs⟩) (hp : cs.all SV.plain = true) (hl : l = args.map (AV.ren fun _ => t)) {dst : Option Nat} {K : AS → Prop}
    (h0 : m = 0 → K (s.put dst (some (Ag (frL (fun i => f (1 + i)) (be4 f 33) (be4 f 37) (Sum.inl (.slice none 0 0)) (fun i => f (45 + m + i)))))))
    (hk : 0 < m → ∀ q cs', Grows cs' 0 m q (fun i => f (45 + i)) → K ((⟨s.env, upd s.box nm (some ⟨true, cs'⟩), s.next⟩ : AS).put dst (some (Ag (frL (fun i => f (1 + i)) (be4 f 33) (be4 f 37) (rd nm 0 m q) (fun i => f (45 + m + i))))))) :
    vcCall Try.prog nm fn (some l) dst K s := by
  refine h.vcCall (fun _ => t) none (fits1 hb hp) hl ?_
  rintro v out (⟨e, rfl, rfl⟩ | ⟨q, tail, hm, rfl, rfl, h1, h2, h3⟩) _
  · rw [AV.ren_plain AV_fr_plain]; exact h0 e
  · rw [after_lk (plainT h3), ren_fr]
    have e : SV.ren (rnew (fun _ => t) 1 nm) (Sum.inr (.inr (1, 0, m, q))) = rd nm 0 m q := by show rd (rnew (fun _ => t) 1 nm 1) 0 m q = _; rw [rnew_k]
    rw [e]
    exact hk hm q _ (Grows.row h1 h2 h3)
end Go.Proofs.Ytdhkpdakialkbaa
