/-
  Joining lists in the program: Grow and Concat of the standard library.
-/
import Derived.Test.YtljncmifbncdbaaDoorVcgH4
set_option linter.unusedSimpArgs false
set_option linter.unusedVariables false
namespace Go.Proofs.YtljncmifbncdbaaDoor
open Go.Vcg
/-- Room for n bytes. -/
def Roomy (n : Nat) (v : AV) (out : Nat → Option Box) : Prop := (n = 0 ∧ v = V (.slice none 0 0) ∧ out = fun _ => none) ∨ (0 < n ∧ ∃ c cs, v = Sl 0 0 0 c ∧ out = lk [(0, ⟨true, cs⟩)] ∧ Grows cs 0 0 c (fun _ => 0))
set_option maxHeartbeats 8000000 in
set_option maxRecDepth 20000 in
theorem grow_m {n : Nat} (hn : n ≤ 140737488355328) : MFun Tryd.prog 50 [V (.slice none 0 0), I .i64 n] 0 (fun _ => none) (Roomy n) := by
  refine mfun_of_vc Tryd.func50 rfl (by kernel_rfl) (by simp [Tryd.ntmps50]) Tryd.callable50 (by simp [AV.ok, CV.ok, SV.names]) all0 inn0 ?_
  have w0 : IntKind.i64.wrap 0 = 0 := rfl
  have w1 : IntKind.i64.wrap ((n : Int) - 0) = (n : Int) := by rw [wrap_i64 _ (by omega) (by omega)]; omega
  simp only [Tryd.results50, sn_upto, sn_from, slN_def, run_cap, rules, rules2, loopRules, Tryd.facts, base0, Int.toNat_zero, Nat.reduceAdd, Nat.reduceMul, Nat.reduceSub, Nat.reduceLT, Nat.reduceLeDiff, Nat.reduceEqDiff, Int.reduceLE, Int.reduceLT, Int.reduceToNat, Int.reduceNe, Int.reduceEq, not_false_eq_true, Nat.reduceBEq, Nat.reduceDiv, Int.natCast_zero, Int.natCast_one, Int.reduceAdd, Int.reduceSub, reduceIte, ↓reduceIte, Value.oneCell', rowI_length, rowI_take, rowI_splice, rep_all, row_zero, le_nat, Int.toNat_natCast, Nat.zero_add, sok_row, reduceCtorEq]
  refine vcIf_no (by simp) ?_
  simp only [sn_upto, sn_from, slN_def, run_cap, rules, rules2, loopRules, Tryd.facts, base0, Int.toNat_zero, Nat.reduceAdd, Nat.reduceMul, Nat.reduceSub, Nat.reduceLT, Nat.reduceLeDiff, Nat.reduceEqDiff, Int.reduceLE, Int.reduceLT, Int.reduceToNat, Int.reduceNe, Int.reduceEq, not_false_eq_true, Nat.reduceBEq, Nat.reduceDiv, Int.natCast_zero, Int.natCast_one, Int.reduceAdd, Int.reduceSub, reduceIte, ↓reduceIte, Value.oneCell', rowI_length, rowI_take, rowI_splice, rep_all, row_zero, le_nat, Int.toNat_natCast, Nat.zero_add, sok_row, reduceCtorEq]
  refine vc_cap_nil Tryd.slK24 ?_
  simp only [w0, w1, Int.sub_self, sn_upto, sn_from, slN_def, run_cap, rules, rules2, loopRules, Tryd.facts, base0, Int.toNat_zero, Nat.reduceAdd, Nat.reduceMul, Nat.reduceSub, Nat.reduceLT, Nat.reduceLeDiff, Nat.reduceEqDiff, Int.reduceLE, Int.reduceLT, Int.reduceToNat, Int.reduceNe, Int.reduceEq, not_false_eq_true, Nat.reduceBEq, Nat.reduceDiv, Int.natCast_zero, Int.natCast_one, Int.reduceAdd, Int.reduceSub, reduceIte, ↓reduceIte, Value.oneCell', rowI_length, rowI_take, rowI_splice, rep_all, row_zero, le_nat, Int.toNat_natCast, Nat.zero_add, sok_row, reduceCtorEq]
  rcases Nat.eq_zero_or_pos n with rfl | hpos
  · refine vcIf_no (by simp) ?_
    simp only [sn_upto, sn_from, slN_def, run_cap, rules, rules2, loopRules, Tryd.facts, base0, Int.toNat_zero, Nat.reduceAdd, Nat.reduceMul, Nat.reduceSub, Nat.reduceLT, Nat.reduceLeDiff, Nat.reduceEqDiff, Int.reduceLE, Int.reduceLT, Int.reduceToNat, Int.reduceNe, Int.reduceEq, not_false_eq_true, Nat.reduceBEq, Nat.reduceDiv, Int.natCast_zero, Int.natCast_one, Int.reduceAdd, Int.reduceSub, reduceIte, ↓reduceIte, Value.oneCell', rowI_length, rowI_take, rowI_splice, rep_all, row_zero, le_nat, Int.toNat_natCast, Nat.zero_add, sok_row, reduceCtorEq]
    exact ⟨0, V (.slice none 0 0), fun _ => none, Nat.le_refl _, rfl, trivial, fun n b hb => (by cases hb), .inl ⟨rfl, rfl, rfl⟩⟩
  · refine vcIf_yes (by simp; omega) ?_
    simp only [sn_upto, sn_from, slN_def, run_cap, rules, rules2, loopRules, Tryd.facts, base0, Int.toNat_zero, Nat.reduceAdd, Nat.reduceMul, Nat.reduceSub, Nat.reduceLT, Nat.reduceLeDiff, Nat.reduceEqDiff, Int.reduceLE, Int.reduceLT, Int.reduceToNat, Int.reduceNe, Int.reduceEq, not_false_eq_true, Nat.reduceBEq, Nat.reduceDiv, Int.natCast_zero, Int.natCast_one, Int.reduceAdd, Int.reduceSub, reduceIte, ↓reduceIte, Value.oneCell', rowI_length, rowI_take, rowI_splice, rep_all, row_zero, le_nat, Int.toNat_natCast, Nat.zero_add, sok_row, reduceCtorEq]
    refine vc_cap_nil Tryd.slK24 ?_
    simp only [Int.toNat_zero, Nat.sub_self, sn_upto, sn_from, slN_def, run_cap, rules, rules2, loopRules, Tryd.facts, base0, Int.toNat_zero, Nat.reduceAdd, Nat.reduceMul, Nat.reduceSub, Nat.reduceLT, Nat.reduceLeDiff, Nat.reduceEqDiff, Int.reduceLE, Int.reduceLT, Int.reduceToNat, Int.reduceNe, Int.reduceEq, not_false_eq_true, Nat.reduceBEq, Nat.reduceDiv, Int.natCast_zero, Int.natCast_one, Int.reduceAdd, Int.reduceSub, reduceIte, ↓reduceIte, Value.oneCell', rowI_length, rowI_take, rowI_splice, rep_all, row_zero, le_nat, Int.toNat_natCast, Nat.zero_add, sok_row, reduceCtorEq]
    refine vc_nil_zeros (kn := .i64) Tryd.mkK24 Tryd.kind3 hpos hn ?_
    intro c cs hg
    simp only [nat_nn, nat_le_eq hg.room, sn_upto, sn_from, slN_def, run_cap, rules, rules2, loopRules, Tryd.facts, base0, Int.toNat_zero, Nat.reduceAdd, Nat.reduceMul, Nat.reduceSub, Nat.reduceLT, Nat.reduceLeDiff, Nat.reduceEqDiff, Int.reduceLE, Int.reduceLT, Int.reduceToNat, Int.reduceNe, Int.reduceEq, not_false_eq_true, Nat.reduceBEq, Nat.reduceDiv, Int.natCast_zero, Int.natCast_one, Int.reduceAdd, Int.reduceSub, reduceIte, ↓reduceIte, Value.oneCell', rowI_length, rowI_take, rowI_splice, rep_all, row_zero, le_nat, Int.toNat_natCast, Nat.zero_add, sok_row, reduceCtorEq]
    refine ret_new (k := 0) (q := 18) (cs := cs) (by decide) (by simp only [upd_apply, sn_upto, sn_from, slN_def, run_cap, rules, rules2, loopRules, Tryd.facts, base0, Int.toNat_zero, Nat.reduceAdd, Nat.reduceMul, Nat.reduceSub, Nat.reduceLT, Nat.reduceLeDiff, Nat.reduceEqDiff, Int.reduceLE, Int.reduceLT, Int.reduceToNat, Int.reduceNe, Int.reduceEq, not_false_eq_true, Nat.reduceBEq, Nat.reduceDiv, Int.natCast_zero, Int.natCast_one, Int.reduceAdd, Int.reduceSub, reduceIte, ↓reduceIte, Value.oneCell', rowI_length, rowI_take, rowI_splice, rep_all, row_zero, le_nat, Int.toNat_natCast, Nat.zero_add, sok_row, reduceCtorEq]) hg.plain (.inr ⟨hpos, c, cs, rfl, rfl, ?_⟩)
    exact ⟨hg.len, Nat.zero_le _, hg.plain, fun i hi => by omega⟩
/-- The lengths of the first j parts, and their bytes one behind the other. -/
def totN (n : Nat → Nat) : Nat → Nat
  | 0 => 0
  | j + 1 => totN n j + n j
def catN (n : Nat → Nat) (f : Nat → Nat → Int) : Nat → Nat → Int
  | 0 => fun _ => 0
  | j + 1 => joinB (totN n j) (catN n f j) (f j)
theorem totN_mono (n : Nat → Nat) {j m : Nat} (h : j ≤ m) : totN n j ≤ totN n m := by
  induction m with
  | zero => rw [show j = 0 by omega]; exact Nat.le_refl _
  | succ m ih =>
    by_cases e : j = m + 1
    · rw [e]; exact Nat.le_refl _
    · have := ih (by omega); simp only [totN]; omega
/-- Boxes 0 .. k-1: box 0 holds m slices from o on, each nil or of one of the others. -/
structure Parts (l : List (Nat × Box)) (cs0 : List SV) (k o m : Nat) (n : Nat → Nat) (f : Nat → Nat → Int) : Prop where
  ro : ∀ x ∈ l, x.2.rw = false
  all : ∀ i, i < k → ∃ b, lk l i = some b
  inn : ∀ x ∈ l, x.1 < k ∧ lk l x.1 = some x.2 ∧ ∀ y ∈ x.2.cells, SV.ok (fun n => n < k) y
  zero : lk l 0 = some ⟨false, cs0⟩
  part : ∀ j, j < m → ∃ sv, cs0[o + j]? = some sv ∧ BytesAt (lk l) (.inl (.inl sv)) (n j) (f j)
theorem bytes_len {box : Nat → Option Box} {v : AV} {n : Nat} {f : Nat → Int} (h : BytesAt box v n f) : effLen 1 (some [v]) = some (some (I .i64 n), none) := by
  rcases h with ⟨⟨a, rfl⟩, rfl⟩ | ⟨t, o, c, rw, cs, rfl, _⟩ <;> rfl
set_option maxHeartbeats 8000000 in
set_option maxRecDepth 20000 in
theorem concat_m {l : List (Nat × Box)} {cs0 : List SV} {k o m c : Nat} {n : Nat → Nat} {f : Nat → Nat → Int} (hl : Parts l cs0 k o m n f) (hk : 0 < k) (hk2 : k ≤ 20) (hm : m < 4611686018427387904) (hN : totN n m ≤ 140737488355328) :
    MFun Tryd.prog 34 [Sl 0 o m c] k (lk l) (Bytes k (totN n m) (catN n f m)) := by
  refine mfun_of_vc Tryd.func34 rfl (by kernel_rfl) (by simp [Tryd.ntmps34]) Tryd.callable34 (by simp [AV.ok, CV.ok, SV.names]; exact hk) hl.all (fun i b hb => ⟨(hl.inn _ (lk_mem _ _ _ hb)).1, (hl.inn _ (lk_mem _ _ _ hb)).2.2⟩) ?_
  have hz := hl.zero
  have hin : ∀ (next : Nat), k ≤ next → ∀ p ∈ l, lk l p.1 = some p.2 ∧ p.1 < next ∧ ∀ x ∈ p.2.cells, SV.ok (fun n => n < next) x := fun next hn p hp => ⟨(hl.inn p hp).2.1, by have := (hl.inn p hp).1; omega, fun y hy => SV.ok_mono (fun n h => by omega) ((hl.inn p hp).2.2 y hy)⟩
  simp only [Tryd.results34, sn_upto, sn_from, slN_def, run_cap, rules, rules2, loopRules, Tryd.facts, base0, Int.toNat_zero, Nat.reduceAdd, Nat.reduceMul, Nat.reduceSub, Nat.reduceLT, Nat.reduceLeDiff, Nat.reduceEqDiff, Int.reduceLE, Int.reduceLT, Int.reduceToNat, Int.reduceNe, Int.reduceEq, not_false_eq_true, Nat.reduceBEq, Nat.reduceDiv, Int.natCast_zero, Int.natCast_one, Int.reduceAdd, Int.reduceSub, reduceIte, ↓reduceIte, Value.oneCell', rowI_length, rowI_take, rowI_splice, rep_all, row_zero, le_nat, Int.toNat_natCast, Nat.zero_add, sok_row, reduceCtorEq]
  refine loop_count m (fun j => [(0, Sl 0 o m c), (3, I .i64 (totN n j)), (9, Sl 0 o m c), (10, I .i64 m), (11, I .i64 j)]) (fun j => l) _ ?_ ?_ ?_
  · simp only [totN, sn_upto, sn_from, slN_def, run_cap, rules, rules2, loopRules, Tryd.facts, base0, Int.toNat_zero, Nat.reduceAdd, Nat.reduceMul, Nat.reduceSub, Nat.reduceLT, Nat.reduceLeDiff, Nat.reduceEqDiff, Int.reduceLE, Int.reduceLT, Int.reduceToNat, Int.reduceNe, Int.reduceEq, not_false_eq_true, Nat.reduceBEq, Nat.reduceDiv, Int.natCast_zero, Int.natCast_one, Int.reduceAdd, Int.reduceSub, reduceIte, ↓reduceIte, Value.oneCell', rowI_length, rowI_take, rowI_splice, rep_all, row_zero, le_nat, Int.toNat_natCast, Nat.zero_add, sok_row, reduceCtorEq]
    exact ⟨by omega, hin _ (by omega)⟩
  · intro j hj
    obtain ⟨sv, h1, h2⟩ := hl.part j hj
    have hlen := bytes_len h2
    have hmono := totN_mono n (show j + 1 ≤ m by omega)
    simp only [totN] at hmono
    have wa := wrapA (totN n j) (n j) (by omega)
    simp only [sn_upto, sn_from, slN_def, run_cap, rules, rules2, loopRules, Tryd.facts, base0, Int.toNat_zero, Nat.reduceAdd, Nat.reduceMul, Nat.reduceSub, Nat.reduceLT, Nat.reduceLeDiff, Nat.reduceEqDiff, Int.reduceLE, Int.reduceLT, Int.reduceToNat, Int.reduceNe, Int.reduceEq, not_false_eq_true, Nat.reduceBEq, Nat.reduceDiv, Int.natCast_zero, Int.natCast_one, Int.reduceAdd, Int.reduceSub, reduceIte, ↓reduceIte, Value.oneCell', rowI_length, rowI_take, rowI_splice, rep_all, row_zero, le_nat, Int.toNat_natCast, Nat.zero_add, sok_row, reduceCtorEq]
    refine vcIf_yes (by simp; omega) ?_
    simp only [nat_nn, nat_lt_eq hj, hz, Nat.mul_one, h1, hlen, wa, wrapS j (by omega), sn_upto, sn_from, slN_def, run_cap, rules, rules2, loopRules, Tryd.facts, base0, Int.toNat_zero, Nat.reduceAdd, Nat.reduceMul, Nat.reduceSub, Nat.reduceLT, Nat.reduceLeDiff, Nat.reduceEqDiff, Int.reduceLE, Int.reduceLT, Int.reduceToNat, Int.reduceNe, Int.reduceEq, not_false_eq_true, Nat.reduceBEq, Nat.reduceDiv, Int.natCast_zero, Int.natCast_one, Int.reduceAdd, Int.reduceSub, reduceIte, ↓reduceIte, Value.oneCell', rowI_length, rowI_take, rowI_splice, rep_all, row_zero, le_nat, Int.toNat_natCast, Nat.zero_add, sok_row, reduceCtorEq]
    refine vcIf_no (by simp; omega) ?_
    simp only [totN, wrapS j (by omega), sn_upto, sn_from, slN_def, run_cap, rules, rules2, loopRules, Tryd.facts, base0, Int.toNat_zero, Nat.reduceAdd, Nat.reduceMul, Nat.reduceSub, Nat.reduceLT, Nat.reduceLeDiff, Nat.reduceEqDiff, Int.reduceLE, Int.reduceLT, Int.reduceToNat, Int.reduceNe, Int.reduceEq, not_false_eq_true, Nat.reduceBEq, Nat.reduceDiv, Int.natCast_zero, Int.natCast_one, Int.reduceAdd, Int.reduceSub, reduceIte, ↓reduceIte, Value.oneCell', rowI_length, rowI_take, rowI_splice, rep_all, row_zero, le_nat, Int.toNat_natCast, Nat.zero_add, sok_row, reduceCtorEq]
    exact ⟨by omega, hin _ (by omega)⟩
  · simp only [sn_upto, sn_from, slN_def, run_cap, rules, rules2, loopRules, Tryd.facts, base0, Int.toNat_zero, Nat.reduceAdd, Nat.reduceMul, Nat.reduceSub, Nat.reduceLT, Nat.reduceLeDiff, Nat.reduceEqDiff, Int.reduceLE, Int.reduceLT, Int.reduceToNat, Int.reduceNe, Int.reduceEq, not_false_eq_true, Nat.reduceBEq, Nat.reduceDiv, Int.natCast_zero, Int.natCast_one, Int.reduceAdd, Int.reduceSub, reduceIte, ↓reduceIte, Value.oneCell', rowI_length, rowI_take, rowI_splice, rep_all, row_zero, le_nat, Int.toNat_natCast, Nat.zero_add, sok_row, reduceCtorEq]
    refine vcIf_no (by simp) ?_
    simp only [sn_upto, sn_from, slN_def, run_cap, rules, rules2, loopRules, Tryd.facts, base0, Int.toNat_zero, Nat.reduceAdd, Nat.reduceMul, Nat.reduceSub, Nat.reduceLT, Nat.reduceLeDiff, Nat.reduceEqDiff, Int.reduceLE, Int.reduceLT, Int.reduceToNat, Int.reduceNe, Int.reduceEq, not_false_eq_true, Nat.reduceBEq, Nat.reduceDiv, Int.natCast_zero, Int.natCast_one, Int.reduceAdd, Int.reduceSub, reduceIte, ↓reduceIte, Value.oneCell', rowI_length, rowI_take, rowI_splice, rep_all, row_zero, le_nat, Int.toNat_natCast, Nat.zero_add, sok_row, reduceCtorEq]
    refine (grow_m hN).vcCall (fun n => n) none fits0 rfl ?_
    rintro v out (⟨h0, rfl, rfl⟩ | ⟨hpos, c0, cs1, rfl, rfl, hg⟩) _
    · have hn0 : ∀ j, j < m → n j = 0 := fun j hj => by
        have := totN_mono n (show j + 1 ≤ m by omega); simp only [totN] at this; omega
      simp only [after, ren_v, sn_upto, sn_from, slN_def, run_cap, rules, rules2, loopRules, Tryd.facts, base0, Int.toNat_zero, Nat.reduceAdd, Nat.reduceMul, Nat.reduceSub, Nat.reduceLT, Nat.reduceLeDiff, Nat.reduceEqDiff, Int.reduceLE, Int.reduceLT, Int.reduceToNat, Int.reduceNe, Int.reduceEq, not_false_eq_true, Nat.reduceBEq, Nat.reduceDiv, Int.natCast_zero, Int.natCast_one, Int.reduceAdd, Int.reduceSub, reduceIte, ↓reduceIte, Value.oneCell', rowI_length, rowI_take, rowI_splice, rep_all, row_zero, le_nat, Int.toNat_natCast, Nat.zero_add, sok_row, reduceCtorEq]
      refine loop_count m (fun j => [(6, V (.slice none 0 0)), (25, Sl 0 o m c), (26, I .i64 m), (27, I .i64 j)]) (fun j => l) _ ?_ ?_ ?_
      · simp only [sn_upto, sn_from, slN_def, run_cap, rules, rules2, loopRules, Tryd.facts, base0, Int.toNat_zero, Nat.reduceAdd, Nat.reduceMul, Nat.reduceSub, Nat.reduceLT, Nat.reduceLeDiff, Nat.reduceEqDiff, Int.reduceLE, Int.reduceLT, Int.reduceToNat, Int.reduceNe, Int.reduceEq, not_false_eq_true, Nat.reduceBEq, Nat.reduceDiv, Int.natCast_zero, Int.natCast_one, Int.reduceAdd, Int.reduceSub, reduceIte, ↓reduceIte, Value.oneCell', rowI_length, rowI_take, rowI_splice, rep_all, row_zero, le_nat, Int.toNat_natCast, Nat.zero_add, sok_row, reduceCtorEq]
        exact ⟨⟨trivial, by omega⟩, hin _ (by omega)⟩
      · intro j hj
        obtain ⟨sv, h1, h2⟩ := hl.part j hj
        simp only [sn_upto, sn_from, slN_def, run_cap, rules, rules2, loopRules, Tryd.facts, base0, Int.toNat_zero, Nat.reduceAdd, Nat.reduceMul, Nat.reduceSub, Nat.reduceLT, Nat.reduceLeDiff, Nat.reduceEqDiff, Int.reduceLE, Int.reduceLT, Int.reduceToNat, Int.reduceNe, Int.reduceEq, not_false_eq_true, Nat.reduceBEq, Nat.reduceDiv, Int.natCast_zero, Int.natCast_one, Int.reduceAdd, Int.reduceSub, reduceIte, ↓reduceIte, Value.oneCell', rowI_length, rowI_take, rowI_splice, rep_all, row_zero, le_nat, Int.toNat_natCast, Nat.zero_add, sok_row, reduceCtorEq]
        refine vcIf_yes (by simp; omega) ?_
        simp only [nat_nn, nat_lt_eq hj, hz, Nat.mul_one, h1, wrapS j (by omega), sn_upto, sn_from, slN_def, run_cap, rules, rules2, loopRules, Tryd.facts, base0, Int.toNat_zero, Nat.reduceAdd, Nat.reduceMul, Nat.reduceSub, Nat.reduceLT, Nat.reduceLeDiff, Nat.reduceEqDiff, Int.reduceLE, Int.reduceLT, Int.reduceToNat, Int.reduceNe, Int.reduceEq, not_false_eq_true, Nat.reduceBEq, Nat.reduceDiv, Int.natCast_zero, Int.natCast_one, Int.reduceAdd, Int.reduceSub, reduceIte, ↓reduceIte, Value.oneCell', rowI_length, rowI_take, rowI_splice, rep_all, row_zero, le_nat, Int.toNat_natCast, Nat.zero_add, sok_row, reduceCtorEq]
        refine append_nb (m := n j) (g := f j) Tryd.mkK24 Tryd.slK24 h2 (by rw [hn0 j hj]; decide) (fun _ => ?_) (fun h => by rw [hn0 j hj] at h; exact absurd h (by decide))
        simp only [wrapS j (by omega), sn_upto, sn_from, slN_def, run_cap, rules, rules2, loopRules, Tryd.facts, base0, Int.toNat_zero, Nat.reduceAdd, Nat.reduceMul, Nat.reduceSub, Nat.reduceLT, Nat.reduceLeDiff, Nat.reduceEqDiff, Int.reduceLE, Int.reduceLT, Int.reduceToNat, Int.reduceNe, Int.reduceEq, not_false_eq_true, Nat.reduceBEq, Nat.reduceDiv, Int.natCast_zero, Int.natCast_one, Int.reduceAdd, Int.reduceSub, reduceIte, ↓reduceIte, Value.oneCell', rowI_length, rowI_take, rowI_splice, rep_all, row_zero, le_nat, Int.toNat_natCast, Nat.zero_add, sok_row, reduceCtorEq]
        exact ⟨⟨trivial, by omega⟩, hin _ (by omega)⟩
      · simp only [sn_upto, sn_from, slN_def, run_cap, rules, rules2, loopRules, Tryd.facts, base0, Int.toNat_zero, Nat.reduceAdd, Nat.reduceMul, Nat.reduceSub, Nat.reduceLT, Nat.reduceLeDiff, Nat.reduceEqDiff, Int.reduceLE, Int.reduceLT, Int.reduceToNat, Int.reduceNe, Int.reduceEq, not_false_eq_true, Nat.reduceBEq, Nat.reduceDiv, Int.natCast_zero, Int.natCast_one, Int.reduceAdd, Int.reduceSub, reduceIte, ↓reduceIte, Value.oneCell', rowI_length, rowI_take, rowI_splice, rep_all, row_zero, le_nat, Int.toNat_natCast, Nat.zero_add, sok_row, reduceCtorEq]
        refine vcIf_no (by simp) ?_
        simp only [sn_upto, sn_from, slN_def, run_cap, rules, rules2, loopRules, Tryd.facts, base0, Int.toNat_zero, Nat.reduceAdd, Nat.reduceMul, Nat.reduceSub, Nat.reduceLT, Nat.reduceLeDiff, Nat.reduceEqDiff, Int.reduceLE, Int.reduceLT, Int.reduceToNat, Int.reduceNe, Int.reduceEq, not_false_eq_true, Nat.reduceBEq, Nat.reduceDiv, Int.natCast_zero, Int.natCast_one, Int.reduceAdd, Int.reduceSub, reduceIte, ↓reduceIte, Value.oneCell', rowI_length, rowI_take, rowI_splice, rep_all, row_zero, le_nat, Int.toNat_natCast, Nat.zero_add, sok_row, reduceCtorEq]
        exact ⟨k, V (.slice none 0 0), fun _ => none, Nat.le_refl _, rfl, trivial, fun n b hb => (by cases hb), .inl ⟨h0, rfl, rfl⟩⟩
    · rw [after_lk hg.plain]
      simp only [ren_s, rnew_k, sn_upto, sn_from, slN_def, run_cap, rules, rules2, loopRules, Tryd.facts, base0, Int.toNat_zero, Nat.reduceAdd, Nat.reduceMul, Nat.reduceSub, Nat.reduceLT, Nat.reduceLeDiff, Nat.reduceEqDiff, Int.reduceLE, Int.reduceLT, Int.reduceToNat, Int.reduceNe, Int.reduceEq, not_false_eq_true, Nat.reduceBEq, Nat.reduceDiv, Int.natCast_zero, Int.natCast_one, Int.reduceAdd, Int.reduceSub, reduceIte, ↓reduceIte, Value.oneCell', rowI_length, rowI_take, rowI_splice, rep_all, row_zero, le_nat, Int.toNat_natCast, Nat.zero_add, sok_row, reduceCtorEq]
      refine loop_anew (β := Nat × List SV) m (fun j y => Grows y.2 0 (totN n j) y.1 (catN n f j))
        (fun j y => [(6, Sl 60 0 (totN n j) y.1), (25, Sl 0 o m c), (26, I .i64 m), (27, I .i64 j)]) (fun j y => (60, ⟨true, y.2⟩) :: l) 61 (c0, cs1) ?_ ?_ ?_ ?_
      · refine ⟨hg, 60, k + 1 + 1 + 3 + 1 + 1, bringsTo_in (k := k) (by show _ ≤ 60; simp only; omega) (by decide) (by simp only; omega) (by omega) ?_ ?_ hg.plain hl.inn (fun t ht => ?_)⟩
        · simp only [ren_i, ren_s, totN, sn_upto, sn_from, slN_def, run_cap, rules, rules2, loopRules, Tryd.facts, base0, Int.toNat_zero, Nat.reduceAdd, Nat.reduceMul, Nat.reduceSub, Nat.reduceLT, Nat.reduceLeDiff, Nat.reduceEqDiff, Int.reduceLE, Int.reduceLT, Int.reduceToNat, Int.reduceNe, Int.reduceEq, not_false_eq_true, Nat.reduceBEq, Nat.reduceDiv, Int.natCast_zero, Int.natCast_one, Int.reduceAdd, Int.reduceSub, reduceIte, ↓reduceIte, Value.oneCell', rowI_length, rowI_take, rowI_splice, rep_all, row_zero, le_nat, Int.toNat_natCast, Nat.zero_add, sok_row, reduceCtorEq]
        · simp only [upd_same]
        · exact upd_ne _ _ _ _ (by omega)
      · rintro j ⟨c', cs'⟩ hj h1'
        obtain ⟨sv, h1, h2⟩ := hl.part j hj
        have hmono := totN_mono n (show j + 1 ≤ m by omega)
        simp only [totN] at hmono
        have hoff : BytesOff (mkS [(6, Sl 60 0 (totN n j) c'), (25, Sl 0 o m c), (26, I .i64 m), (27, I .i64 j)] ((60, ⟨true, cs'⟩) :: l) 61).box 60 (.inl (.inl sv)) (n j) (f j) := by
          rcases h2 with h | ⟨t, o1, c1, rw1, ds, e1, e2, _, e4⟩
          · exact .inl h
          · have ht : t < k := (hl.inn _ (lk_mem _ _ _ e2)).1
            refine .inr ⟨t, o1, c1, rw1, ds, e1, ?_, e4, by omega⟩
            show (if t = 60 then _ else lk l t) = _
            rw [if_neg (by omega)]; exact e2
        simp only at h1'
        simp only [sn_upto, sn_from, slN_def, run_cap, rules, rules2, loopRules, Tryd.facts, base0, Int.toNat_zero, Nat.reduceAdd, Nat.reduceMul, Nat.reduceSub, Nat.reduceLT, Nat.reduceLeDiff, Nat.reduceEqDiff, Int.reduceLE, Int.reduceLT, Int.reduceToNat, Int.reduceNe, Int.reduceEq, not_false_eq_true, Nat.reduceBEq, Nat.reduceDiv, Int.natCast_zero, Int.natCast_one, Int.reduceAdd, Int.reduceSub, reduceIte, ↓reduceIte, Value.oneCell', rowI_length, rowI_take, rowI_splice, rep_all, row_zero, le_nat, Int.toNat_natCast, Nat.zero_add, sok_row, reduceCtorEq]
        refine vcIf_yes (by simp; omega) ?_
        simp only [nat_nn, nat_lt_eq hj, hz, Nat.mul_one, h1, wrapS j (by omega), sn_upto, sn_from, slN_def, run_cap, rules, rules2, loopRules, Tryd.facts, base0, Int.toNat_zero, Nat.reduceAdd, Nat.reduceMul, Nat.reduceSub, Nat.reduceLT, Nat.reduceLeDiff, Nat.reduceEqDiff, Int.reduceLE, Int.reduceLT, Int.reduceToNat, Int.reduceNe, Int.reduceEq, not_false_eq_true, Nat.reduceBEq, Nat.reduceDiv, Int.natCast_zero, Int.natCast_one, Int.reduceAdd, Int.reduceSub, reduceIte, ↓reduceIte, Value.oneCell', rowI_length, rowI_take, rowI_splice, rep_all, row_zero, le_nat, Int.toNat_natCast, Nat.zero_add, sok_row, reduceCtorEq]
        refine append_b (b := 60) (g := f j) Tryd.mkK24 Tryd.slK24 (by simp only [upd_apply, sn_upto, sn_from, slN_def, run_cap, rules, rules2, loopRules, Tryd.facts, base0, Int.toNat_zero, Nat.reduceAdd, Nat.reduceMul, Nat.reduceSub, Nat.reduceLT, Nat.reduceLeDiff, Nat.reduceEqDiff, Int.reduceLE, Int.reduceLT, Int.reduceToNat, Int.reduceNe, Int.reduceEq, not_false_eq_true, Nat.reduceBEq, Nat.reduceDiv, Int.natCast_zero, Int.natCast_one, Int.reduceAdd, Int.reduceSub, reduceIte, ↓reduceIte, Value.oneCell', rowI_length, rowI_take, rowI_splice, rep_all, row_zero, le_nat, Int.toNat_natCast, Nat.zero_add, sok_row, reduceCtorEq]) h1' (by exact hoff) (by omega) ?_
        intro c2 cs2 hg2
        simp only [wrapS j (by omega), sn_upto, sn_from, slN_def, run_cap, rules, rules2, loopRules, Tryd.facts, base0, Int.toNat_zero, Nat.reduceAdd, Nat.reduceMul, Nat.reduceSub, Nat.reduceLT, Nat.reduceLeDiff, Nat.reduceEqDiff, Int.reduceLE, Int.reduceLT, Int.reduceToNat, Int.reduceNe, Int.reduceEq, not_false_eq_true, Nat.reduceBEq, Nat.reduceDiv, Int.natCast_zero, Int.natCast_one, Int.reduceAdd, Int.reduceSub, reduceIte, ↓reduceIte, Value.oneCell', rowI_length, rowI_take, rowI_splice, rep_all, row_zero, le_nat, Int.toNat_natCast, Nat.zero_add, sok_row, reduceCtorEq]
        refine ⟨(c2, cs2), hg2, 60, 67, bringsTo_in (k := k) (by omega) (by decide) (by omega) (by omega) ?_ ?_ hg2.plain hl.inn (fun t ht => ?_)⟩
        · simp only [ren_i, ren_s, totN, sn_upto, sn_from, slN_def, run_cap, rules, rules2, loopRules, Tryd.facts, base0, Int.toNat_zero, Nat.reduceAdd, Nat.reduceMul, Nat.reduceSub, Nat.reduceLT, Nat.reduceLeDiff, Nat.reduceEqDiff, Int.reduceLE, Int.reduceLT, Int.reduceToNat, Int.reduceNe, Int.reduceEq, not_false_eq_true, Nat.reduceBEq, Nat.reduceDiv, Int.natCast_zero, Int.natCast_one, Int.reduceAdd, Int.reduceSub, reduceIte, ↓reduceIte, Value.oneCell', rowI_length, rowI_take, rowI_splice, rep_all, row_zero, le_nat, Int.toNat_natCast, Nat.zero_add, sok_row, reduceCtorEq]
        · simp only [upd_same]
        · simp only [upd, sn_upto, sn_from, slN_def, run_cap, rules, rules2, loopRules, Tryd.facts, base0, Int.toNat_zero, Nat.reduceAdd, Nat.reduceMul, Nat.reduceSub, Nat.reduceLT, Nat.reduceLeDiff, Nat.reduceEqDiff, Int.reduceLE, Int.reduceLT, Int.reduceToNat, Int.reduceNe, Int.reduceEq, not_false_eq_true, Nat.reduceBEq, Nat.reduceDiv, Int.natCast_zero, Int.natCast_one, Int.reduceAdd, Int.reduceSub, reduceIte, ↓reduceIte, Value.oneCell', rowI_length, rowI_take, rowI_splice, rep_all, row_zero, le_nat, Int.toNat_natCast, Nat.zero_add, sok_row, reduceCtorEq]
          rw [if_neg (by omega), if_neg (by omega), if_neg (by omega)]
      · rintro ⟨c', cs'⟩ h1'
        simp only at h1'
        simp only [sn_upto, sn_from, slN_def, run_cap, rules, rules2, loopRules, Tryd.facts, base0, Int.toNat_zero, Nat.reduceAdd, Nat.reduceMul, Nat.reduceSub, Nat.reduceLT, Nat.reduceLeDiff, Nat.reduceEqDiff, Int.reduceLE, Int.reduceLT, Int.reduceToNat, Int.reduceNe, Int.reduceEq, not_false_eq_true, Nat.reduceBEq, Nat.reduceDiv, Int.natCast_zero, Int.natCast_one, Int.reduceAdd, Int.reduceSub, reduceIte, ↓reduceIte, Value.oneCell', rowI_length, rowI_take, rowI_splice, rep_all, row_zero, le_nat, Int.toNat_natCast, Nat.zero_add, sok_row, reduceCtorEq]
        refine vcIf_no (by simp) ?_
        simp only [sn_upto, sn_from, slN_def, run_cap, rules, rules2, loopRules, Tryd.facts, base0, Int.toNat_zero, Nat.reduceAdd, Nat.reduceMul, Nat.reduceSub, Nat.reduceLT, Nat.reduceLeDiff, Nat.reduceEqDiff, Int.reduceLE, Int.reduceLT, Int.reduceToNat, Int.reduceNe, Int.reduceEq, not_false_eq_true, Nat.reduceBEq, Nat.reduceDiv, Int.natCast_zero, Int.natCast_one, Int.reduceAdd, Int.reduceSub, reduceIte, ↓reduceIte, Value.oneCell', rowI_length, rowI_take, rowI_splice, rep_all, row_zero, le_nat, Int.toNat_natCast, Nat.zero_add, sok_row, reduceCtorEq]
        refine ret_new (k := k) (q := 60) (by omega) (by simp only [sn_upto, sn_from, slN_def, run_cap, rules, rules2, loopRules, Tryd.facts, base0, Int.toNat_zero, Nat.reduceAdd, Nat.reduceMul, Nat.reduceSub, Nat.reduceLT, Nat.reduceLeDiff, Nat.reduceEqDiff, Int.reduceLE, Int.reduceLT, Int.reduceToNat, Int.reduceNe, Int.reduceEq, not_false_eq_true, Nat.reduceBEq, Nat.reduceDiv, Int.natCast_zero, Int.natCast_one, Int.reduceAdd, Int.reduceSub, reduceIte, ↓reduceIte, Value.oneCell', rowI_length, rowI_take, rowI_splice, rep_all, row_zero, le_nat, Int.toNat_natCast, Nat.zero_add, sok_row, reduceCtorEq]) h1'.plain (.inr h1'.made)
      · simp only; omega
end Go.Proofs.YtljncmifbncdbaaDoor
