/-
  The digest of the document.
-/
import Derived.Test.YtljncmifbncdbaaDoorVcgH8
set_option linter.unusedSimpArgs false
set_option linter.unusedVariables false
namespace Go.Proofs.YtljncmifbncdbaaDoor
open Go.Vcg
set_option maxHeartbeats 8000000 in
set_option maxRecDepth 20000 in
theorem refDigest_m {k n : Nat} {v : AV} {f : Nat → Int} {ins : Nat → Option Box} (hf : Byt f) (hv : BytesAt ins v n f) (hn : n < 100000000) (hok : AV.ok (fun n => n < k) v) (hall : ∀ n, n < k → ∃ b, ins n = some b) (hinn : ∀ n b, ins n = some b → n < k ∧ ∀ x ∈ b.cells, SV.ok (fun n => n < k) x) (hk : k ≤ 20) :
    MFun Tryd.prog 46 [v] k ins (fun u out => u = Ag (rowI .u8 32 (shaW kW ivW f n)) ∧ out = fun _ => none) := by
  refine mfun_of_vc Tryd.func46 rfl (by kernel_rfl) (by simp [Tryd.ntmps46]) Tryd.callable46 (fun u hu => by rw [List.mem_singleton.1 hu]; exact hok) hall hinn ?_
  simp only [Tryd.results46, sn_upto, sn_from, slN_def, run_cap, rules, rules2, loopRules, Tryd.facts, base0, Int.toNat_zero, Nat.reduceAdd, Nat.reduceMul, Nat.reduceSub, Nat.reduceLT, Nat.reduceLeDiff, Nat.reduceEqDiff, Int.reduceLE, Int.reduceLT, Int.reduceToNat, Int.reduceNe, Int.reduceEq, not_false_eq_true, Nat.reduceBEq, Nat.reduceDiv, Int.natCast_zero, Int.natCast_one, Int.reduceAdd, Int.reduceSub, reduceIte, ↓reduceIte, Value.oneCell', rowI_length, rowI_take, rowI_splice, rep_all, row_zero, le_nat, Int.toNat_natCast, Nat.zero_add, sok_row, reduceCtorEq]
  have hG0 : Grows (rowI .u8 0 (fun _ => 0)) 0 0 0 (fun _ => 0) := ⟨rfl, by decide, rfl, fun i hi => by omega⟩
  refine append_b (g := f) Tryd.mkK24 Tryd.slK24 (by simp only [upd_same]) hG0 (off_of_at hv hok (by omega) (fun t ht => by simp only [upd]; rw [if_neg (by omega), if_neg (by omega)])) (by omega) ?_
  intro c1 cs1 hg1
  replace hg1 := hg1.congr (m := n) (g := f) (by omega) (fun i hi => by simp [joinB])
  simp only [sn_upto, sn_from, slN_def, run_cap, rules, rules2, loopRules, Tryd.facts, base0, Int.toNat_zero, Nat.reduceAdd, Nat.reduceMul, Nat.reduceSub, Nat.reduceLT, Nat.reduceLeDiff, Nat.reduceEqDiff, Int.reduceLE, Int.reduceLT, Int.reduceToNat, Int.reduceNe, Int.reduceEq, not_false_eq_true, Nat.reduceBEq, Nat.reduceDiv, Int.natCast_zero, Int.natCast_one, Int.reduceAdd, Int.reduceSub, reduceIte, ↓reduceIte, Value.oneCell', rowI_length, rowI_take, rowI_splice, rep_all, row_zero, le_nat, Int.toNat_natCast, Nat.zero_add, sok_row, reduceCtorEq]
  refine append_b (g := fun _ => 128) Tryd.mkK24 Tryd.slK24 (by simp only [upd]; rw [if_neg (by omega)]; exact if_pos trivial) hg1 (.inr ⟨_, _, _, true, [Sum.inl (.int .u8 128)], rfl, by simp only [upd_same]; rfl, shows_one, by omega⟩) (by omega) ?_
  intro c2 cs2 hg2
  have eB : blocks n = (n + 8) / 64 + 1 := rfl
  replace hg2 := hg2.congr (m := n + 1 + 0) (g := padW f n) (by omega) (fun i hi => by
    simp only [joinB, padW]; split
    · rfl
    · rw [if_pos (by omega)])
  have hR : n + 1 ≤ 64 * blocks n - 8 := by omega
  simp only [sn_upto, sn_from, slN_def, run_cap, rules, rules2, loopRules, Tryd.facts, base0, Int.toNat_zero, Nat.reduceAdd, Nat.reduceMul, Nat.reduceSub, Nat.reduceLT, Nat.reduceLeDiff, Nat.reduceEqDiff, Int.reduceLE, Int.reduceLT, Int.reduceToNat, Int.reduceNe, Int.reduceEq, not_false_eq_true, Nat.reduceBEq, Nat.reduceDiv, Int.natCast_zero, Int.natCast_one, Int.reduceAdd, Int.reduceSub, reduceIte, ↓reduceIte, Value.oneCell', rowI_length, rowI_take, rowI_splice, rep_all, row_zero, le_nat, Int.toNat_natCast, Nat.zero_add, sok_row, reduceCtorEq]
  refine loop_anew (64 * blocks n - 8 - (n + 1)) (fun j (x : Nat × List SV) => Grows x.2 0 (n + 1 + j) x.1 (padW f n)) (fun j x => [(2, Ptr k 0), (0, v), (3, Sl 60 0 (n + 1 + j) x.1)]) (fun j x => [(60, ⟨true, x.2⟩), (k, ⟨true, rowI .u8 32 (fun _ => 0)⟩)]) 100 (c2, cs2) ⟨hg2, ?_⟩ ?_ ?_ (by show _ ≤ 100; simp only [AS.put]; omega)
  · refine ⟨60, k + 1 + 4 + 2, bringsTo_l (by simp only [AS.put]; omega) (by decide) ?_ (by simp only [upd_same]) hg2.plain ?_⟩
    · have e1 : AV.ren (upd (fun n => n) 60 (k + 1 + 4 + 2)) v = v := ren_low (fun n hn => upd_ne _ _ _ _ (by omega)) hok
      have e2 : AV.ok (fun n => n < 100) v := AV.ok_mono (fun n hn => by omega) hok
      simp [e1, e2, upd_apply, ren_p, ren_s, ok_ptr, ok_sl, ok_i]
      omega
    · have q1 : (k = k + 1 + 4 + 2) = False := eq_false (by omega)
      have q2 : (k = k + 1 + 2) = False := eq_false (by omega)
      have q3 : (k = k + 1 + 4 + 1) = False := eq_false (by omega)
      have q4 : (k = k + 1) = False := eq_false (by omega)
      simp [upd_apply, plainI, q1, q2, q3, q4]
      exact ⟨by omega, fun x hx => List.all_eq_true.1 plainI x hx⟩
  · rintro j ⟨c, cs⟩ hj hg
    have l1 : n + 1 + j < 64 * blocks n - 8 := by omega
    have r1 : (((n + 1 + j : Nat) : Int)).tmod 64 = (((n + 1 + j) % 64 : Nat) : Int) := remN (n + 1 + j) 64
    simp only [r1, sn_upto, sn_from, slN_def, run_cap, rules, rules2, loopRules, Tryd.facts, base0, Int.toNat_zero, Nat.reduceAdd, Nat.reduceMul, Nat.reduceSub, Nat.reduceLT, Nat.reduceLeDiff, Nat.reduceEqDiff, Int.reduceLE, Int.reduceLT, Int.reduceToNat, Int.reduceNe, Int.reduceEq, not_false_eq_true, Nat.reduceBEq, Nat.reduceDiv, Int.natCast_zero, Int.natCast_one, Int.reduceAdd, Int.reduceSub, reduceIte, ↓reduceIte, Value.oneCell', rowI_length, rowI_take, rowI_splice, rep_all, row_zero, le_nat, Int.toNat_natCast, Nat.zero_add, sok_row, reduceCtorEq]
    refine vcIf_yes (by simp; omega) ?_
    simp only [sn_upto, sn_from, slN_def, run_cap, rules, rules2, loopRules, Tryd.facts, base0, Int.toNat_zero, Nat.reduceAdd, Nat.reduceMul, Nat.reduceSub, Nat.reduceLT, Nat.reduceLeDiff, Nat.reduceEqDiff, Int.reduceLE, Int.reduceLT, Int.reduceToNat, Int.reduceNe, Int.reduceEq, not_false_eq_true, Nat.reduceBEq, Nat.reduceDiv, Int.natCast_zero, Int.natCast_one, Int.reduceAdd, Int.reduceSub, reduceIte, ↓reduceIte, Value.oneCell', rowI_length, rowI_take, rowI_splice, rep_all, row_zero, le_nat, Int.toNat_natCast, Nat.zero_add, sok_row, reduceCtorEq]
    refine append_b (g := fun _ => 0) Tryd.mkK24 Tryd.slK24 (by simp only [upd_apply, sn_upto, sn_from, slN_def, run_cap, rules, rules2, loopRules, Tryd.facts, base0, Int.toNat_zero, Nat.reduceAdd, Nat.reduceMul, Nat.reduceSub, Nat.reduceLT, Nat.reduceLeDiff, Nat.reduceEqDiff, Int.reduceLE, Int.reduceLT, Int.reduceToNat, Int.reduceNe, Int.reduceEq, not_false_eq_true, Nat.reduceBEq, Nat.reduceDiv, Int.natCast_zero, Int.natCast_one, Int.reduceAdd, Int.reduceSub, reduceIte, ↓reduceIte, Value.oneCell', rowI_length, rowI_take, rowI_splice, rep_all, row_zero, le_nat, Int.toNat_natCast, Nat.zero_add, sok_row, reduceCtorEq]) hg (.inr ⟨_, _, _, true, [Sum.inl (.int .u8 0)], rfl, by simp only [upd_same]; rfl, shows_one, by omega⟩) (by omega) ?_
    intro c3 cs3 hg3
    simp only [sn_upto, sn_from, slN_def, run_cap, rules, rules2, loopRules, Tryd.facts, base0, Int.toNat_zero, Nat.reduceAdd, Nat.reduceMul, Nat.reduceSub, Nat.reduceLT, Nat.reduceLeDiff, Nat.reduceEqDiff, Int.reduceLE, Int.reduceLT, Int.reduceToNat, Int.reduceNe, Int.reduceEq, not_false_eq_true, Nat.reduceBEq, Nat.reduceDiv, Int.natCast_zero, Int.natCast_one, Int.reduceAdd, Int.reduceSub, reduceIte, ↓reduceIte, Value.oneCell', rowI_length, rowI_take, rowI_splice, rep_all, row_zero, le_nat, Int.toNat_natCast, Nat.zero_add, sok_row, reduceCtorEq]
    refine ⟨(c3, cs3), hg3.congr (by omega) (fun i hi => ?_), 60, 106, bringsTo_l (by omega) (by decide) ?_ (by simp only [upd_same]) hg3.plain ?_⟩
    · simp only [joinB, padW]; split
      · rfl
      · rw [if_neg (by omega), if_neg (by omega), if_pos (by omega)]
    · have e1 : AV.ren (upd (fun n => n) 60 106) v = v := ren_low (fun n hn => upd_ne _ _ _ _ (by omega)) hok
      have e2 : AV.ok (fun n => n < 100) v := AV.ok_mono (fun n hn => by omega) hok
      simp [e1, e2, upd_apply, lk, ren_p, ren_s, ok_ptr, ok_sl, ok_i]
      omega
    · have q1 : (k = 106) = False := eq_false (by omega)
      have q2 : (k = 60) = False := eq_false (by omega)
      have q3 : (k = 105) = False := eq_false (by omega)
      simp [upd_apply, lk, plainI, q1, q2, q3]
      exact ⟨by omega, fun x hx => List.all_eq_true.1 plainI x hx⟩
  · rintro ⟨c, cs⟩ hg
    have l1 : n + 1 + (64 * blocks n - 8 - (n + 1)) = 64 * blocks n - 8 := by omega
    rw [l1] at hg
    have r1 : (((64 * blocks n - 8 : Nat) : Int)).tmod 64 = (((64 * blocks n - 8) % 64 : Nat) : Int) := remN (64 * blocks n - 8) 64
    simp only [l1, r1, sn_upto, sn_from, slN_def, run_cap, rules, rules2, loopRules, Tryd.facts, base0, Int.toNat_zero, Nat.reduceAdd, Nat.reduceMul, Nat.reduceSub, Nat.reduceLT, Nat.reduceLeDiff, Nat.reduceEqDiff, Int.reduceLE, Int.reduceLT, Int.reduceToNat, Int.reduceNe, Int.reduceEq, not_false_eq_true, Nat.reduceBEq, Nat.reduceDiv, Int.natCast_zero, Int.natCast_one, Int.reduceAdd, Int.reduceSub, reduceIte, ↓reduceIte, Value.oneCell', rowI_length, rowI_take, rowI_splice, rep_all, row_zero, le_nat, Int.toNat_natCast, Nat.zero_add, sok_row, reduceCtorEq]
    refine vcIf_no (by simp; omega) ?_
    simp only [at_len hv, sn_upto, sn_from, slN_def, run_cap, rules, rules2, loopRules, Tryd.facts, base0, Int.toNat_zero, Nat.reduceAdd, Nat.reduceMul, Nat.reduceSub, Nat.reduceLT, Nat.reduceLeDiff, Nat.reduceEqDiff, Int.reduceLE, Int.reduceLT, Int.reduceToNat, Int.reduceNe, Int.reduceEq, not_false_eq_true, Nat.reduceBEq, Nat.reduceDiv, Int.natCast_zero, Int.natCast_one, Int.reduceAdd, Int.reduceSub, reduceIte, ↓reduceIte, Value.oneCell', rowI_length, rowI_take, rowI_splice, rep_all, row_zero, le_nat, Int.toNat_natCast, Nat.zero_add, sok_row, reduceCtorEq]
    refine made_call (long_m (l := n) (by omega)) (fun n => n) fits0 rfl ?_
    intro c4 tail4 h41 h42 h43
    simp only [sn_upto, sn_from, slN_def, run_cap, rules, rules2, loopRules, Tryd.facts, base0, Int.toNat_zero, Nat.reduceAdd, Nat.reduceMul, Nat.reduceSub, Nat.reduceLT, Nat.reduceLeDiff, Nat.reduceEqDiff, Int.reduceLE, Int.reduceLT, Int.reduceToNat, Int.reduceNe, Int.reduceEq, not_false_eq_true, Nat.reduceBEq, Nat.reduceDiv, Int.natCast_zero, Int.natCast_one, Int.reduceAdd, Int.reduceSub, reduceIte, ↓reduceIte, Value.oneCell', rowI_length, rowI_take, rowI_splice, rep_all, row_zero, le_nat, Int.toNat_natCast, Nat.zero_add, sok_row, reduceCtorEq]
    refine append_b (g := lenB n) Tryd.mkK24 Tryd.slK24 (by simp only [upd_apply, sn_upto, sn_from, slN_def, run_cap, rules, rules2, loopRules, Tryd.facts, base0, Int.toNat_zero, Nat.reduceAdd, Nat.reduceMul, Nat.reduceSub, Nat.reduceLT, Nat.reduceLeDiff, Nat.reduceEqDiff, Int.reduceLE, Int.reduceLT, Int.reduceToNat, Int.reduceNe, Int.reduceEq, not_false_eq_true, Nat.reduceBEq, Nat.reduceDiv, Int.natCast_zero, Int.natCast_one, Int.reduceAdd, Int.reduceSub, reduceIte, ↓reduceIte, Value.oneCell', rowI_length, rowI_take, rowI_splice, rep_all, row_zero, le_nat, Int.toNat_natCast, Nat.zero_add, sok_row, reduceCtorEq]) hg (.inr ⟨_, _, _, true, rowI .u8 8 (lenB n) ++ tail4, rfl, by simp only [upd_same], shows_row, by decide⟩) (by omega) ?_
    intro c5 cs5 hg5
    replace hg5 := hg5.congr (m := 64 * blocks n) (g := padW f n) (by omega) (fun i hi => by
      simp only [joinB]; split
      · rfl
      · simp only [padW]; rw [if_neg (by omega), if_neg (by omega), if_neg (by omega)])
    simp only [sn_upto, sn_from, slN_def, run_cap, rules, rules2, loopRules, Tryd.facts, base0, Int.toNat_zero, Nat.reduceAdd, Nat.reduceMul, Nat.reduceSub, Nat.reduceLT, Nat.reduceLeDiff, Nat.reduceEqDiff, Int.reduceLE, Int.reduceLT, Int.reduceToNat, Int.reduceNe, Int.reduceEq, not_false_eq_true, Nat.reduceBEq, Nat.reduceDiv, Int.natCast_zero, Int.natCast_one, Int.reduceAdd, Int.reduceSub, reduceIte, ↓reduceIte, Value.oneCell', rowI_length, rowI_take, rowI_splice, rep_all, row_zero, le_nat, Int.toNat_natCast, Nat.zero_add, sok_row, reduceCtorEq]
    have e8 : 64 * blocks n - 8 + 8 = 64 * blocks n := by omega
    have z8 : ∀ r : Nat → Int, splice [Sum.inl (Value.int IntKind.u32 0), Sum.inl (Value.int IntKind.u32 0), Sum.inl (Value.int IntKind.u32 0), Sum.inl (Value.int IntKind.u32 0), Sum.inl (Value.int IntKind.u32 0), Sum.inl (Value.int IntKind.u32 0), Sum.inl (Value.int IntKind.u32 0), Sum.inl (Value.int IntKind.u32 0)] 0 (rowI .u32 8 r) = rowI .u32 8 r := fun r => rowI_splice .u32 8 (fun _ => 0) r
    simp only [e8, z8]
    have ok5 : ∀ {M : Nat → Prop}, (∀ x ∈ cs5, SV.ok M x) = True := eq_true (ok_all hg5.plain)
    refine loop_count (blocks n) (fun i => [(2, Ptr k 0), (3, Sl 110 0 (64 * blocks n) c5), (4, Ptr 113 0), (5, I .i64 (64 * i : Nat))])
      (fun i => [(110, ⟨true, cs5⟩), (113, ⟨true, rowI .u32 8 (absW kW ivW (padW f n) i)⟩), (k, ⟨true, rowI .u8 32 (fun _ => 0)⟩)]) _ ?_ ?_ ?_
    · have q1 : (k = 113) = False := eq_false (by omega)
      have q2 : (k = 110) = False := eq_false (by omega)
      have q3 : (k = 60) = False := eq_false (by omega)
      have q4 : (k = 109) = False := eq_false (by omega)
      simp only [q1, q2, q3, q4, if_false, ok5, absW, sn_upto, sn_from, slN_def, run_cap, rules, rules2, loopRules, Tryd.facts, base0, Int.toNat_zero, Nat.reduceAdd, Nat.reduceMul, Nat.reduceSub, Nat.reduceLT, Nat.reduceLeDiff, Nat.reduceEqDiff, Int.reduceLE, Int.reduceLT, Int.reduceToNat, Int.reduceNe, Int.reduceEq, not_false_eq_true, Nat.reduceBEq, Nat.reduceDiv, Int.natCast_zero, Int.natCast_one, Int.reduceAdd, Int.reduceSub, reduceIte, ↓reduceIte, Value.oneCell', rowI_length, rowI_take, rowI_splice, rep_all, row_zero, le_nat, Int.toNat_natCast, Nat.zero_add, sok_row, reduceCtorEq]
      omega
    · intro i hi
      have w1 : IntKind.i64.wrap (((64 * i : Nat) : Int) + 64) = ((64 * (i + 1) : Nat) : Int) := by rw [wrap_i64 _ (by omega) (by omega)]; omega
      have k1 : (((64 * (i + 1) : Nat) : Int) ≤ ((64 * blocks n : Nat) : Int)) = True := eq_true (by omega)
      have k2 : (((64 * i : Nat) : Int) ≤ ((64 * (i + 1) : Nat) : Int)) = True := eq_true (by omega)
      have k3 : (((64 * (i + 1) : Nat) : Int) ≤ (c5 : Int)) = True := eq_true (by have := hg5.room; omega)
      simp only [w1, sn_upto, sn_from, slN_def, run_cap, rules, rules2, loopRules, Tryd.facts, base0, Int.toNat_zero, Nat.reduceAdd, Nat.reduceMul, Nat.reduceSub, Nat.reduceLT, Nat.reduceLeDiff, Nat.reduceEqDiff, Int.reduceLE, Int.reduceLT, Int.reduceToNat, Int.reduceNe, Int.reduceEq, not_false_eq_true, Nat.reduceBEq, Nat.reduceDiv, Int.natCast_zero, Int.natCast_one, Int.reduceAdd, Int.reduceSub, reduceIte, ↓reduceIte, Value.oneCell', rowI_length, rowI_take, rowI_splice, rep_all, row_zero, le_nat, Int.toNat_natCast, Nat.zero_add, sok_row, reduceCtorEq]
      refine vcIf_yes (by simp only [k1]; rfl) ?_
      simp only [w1, k1, k2, k3, nat_nn, sn_upto, sn_from, slN_def, run_cap, rules, rules2, loopRules, Tryd.facts, base0, Int.toNat_zero, Nat.reduceAdd, Nat.reduceMul, Nat.reduceSub, Nat.reduceLT, Nat.reduceLeDiff, Nat.reduceEqDiff, Int.reduceLE, Int.reduceLT, Int.reduceToNat, Int.reduceNe, Int.reduceEq, not_false_eq_true, Nat.reduceBEq, Nat.reduceDiv, Int.natCast_zero, Int.natCast_one, Int.reduceAdd, Int.reduceSub, reduceIte, ↓reduceIte, Value.oneCell', rowI_length, rowI_take, rowI_splice, rep_all, row_zero, le_nat, Int.toNat_natCast, Nat.zero_add, sok_row, reduceCtorEq]
      refine ⟨by kernel_rfl, ?_⟩
      have eo : Shows cs5 (if c5 = 64 * i then 0 else 64 * i) 64 (fun j => padW f n (64 * i + j)) := by
        have hr := hg5.room
        rw [if_neg (by omega)]
        have := shows_sub hg5.shows (64 * i) 64 (by omega)
        rwa [Nat.zero_add] at this
      have el : 64 * (i + 1) - 64 * i = 64 := by omega
      rw [el]
      generalize (if c5 = 64 * i then 0 else 64 * i) = o' at eo ⊢
      refine (compress_m (c := c5 - 64 * i) (absW_bd ivW_bd _) (fun j => padW_byt hf n _) eo hg5.plain).drawRead (fun _ => 110) (fits1 (rw := true) (by simp only [sn_upto, sn_from, slN_def, run_cap, rules, rules2, loopRules, Tryd.facts, base0, Int.toNat_zero, Nat.reduceAdd, Nat.reduceMul, Nat.reduceSub, Nat.reduceLT, Nat.reduceLeDiff, Nat.reduceEqDiff, Int.reduceLE, Int.reduceLT, Int.reduceToNat, Int.reduceNe, Int.reduceEq, not_false_eq_true, Nat.reduceBEq, Nat.reduceDiv, Int.natCast_zero, Int.natCast_one, Int.reduceAdd, Int.reduceSub, reduceIte, ↓reduceIte, Value.oneCell', rowI_length, rowI_take, rowI_splice, rep_all, row_zero, le_nat, Int.toNat_natCast, Nat.zero_add, sok_row, reduceCtorEq]) hg5.plain) plainI rfl (fun M h _ _ => h (Sl 110 o' 64 (c5 - 64 * i)) (List.Mem.tail _ (List.Mem.head _))) ?_
      have z8' : ∀ r r' : Nat → Int, splice (rowI .u32 8 r') 0 (rowI .u32 8 r) = rowI .u32 8 r := fun r r' => rowI_splice .u32 8 _ _
      have q1 : (k = 113) = False := eq_false (by omega)
      have q2 : (k = 110) = False := eq_false (by omega)
      simp only [z8', q1, q2, w1, ok5, absW, sn_upto, sn_from, slN_def, run_cap, rules, rules2, loopRules, Tryd.facts, base0, Int.toNat_zero, Nat.reduceAdd, Nat.reduceMul, Nat.reduceSub, Nat.reduceLT, Nat.reduceLeDiff, Nat.reduceEqDiff, Int.reduceLE, Int.reduceLT, Int.reduceToNat, Int.reduceNe, Int.reduceEq, not_false_eq_true, Nat.reduceBEq, Nat.reduceDiv, Int.natCast_zero, Int.natCast_one, Int.reduceAdd, Int.reduceSub, reduceIte, ↓reduceIte, Value.oneCell', rowI_length, rowI_take, rowI_splice, rep_all, row_zero, le_nat, Int.toNat_natCast, Nat.zero_add, sok_row, reduceCtorEq]
      omega
    · have w1 : IntKind.i64.wrap (((64 * blocks n : Nat) : Int) + 64) = ((64 * blocks n + 64 : Nat) : Int) := by rw [wrap_i64 _ (by omega) (by omega)]; omega
      simp only [w1, sn_upto, sn_from, slN_def, run_cap, rules, rules2, loopRules, Tryd.facts, base0, Int.toNat_zero, Nat.reduceAdd, Nat.reduceMul, Nat.reduceSub, Nat.reduceLT, Nat.reduceLeDiff, Nat.reduceEqDiff, Int.reduceLE, Int.reduceLT, Int.reduceToNat, Int.reduceNe, Int.reduceEq, not_false_eq_true, Nat.reduceBEq, Nat.reduceDiv, Int.natCast_zero, Int.natCast_one, Int.reduceAdd, Int.reduceSub, reduceIte, ↓reduceIte, Value.oneCell', rowI_length, rowI_take, rowI_splice, rep_all, row_zero, le_nat, Int.toNat_natCast, Nat.zero_add, sok_row, reduceCtorEq]
      refine vcIf_no (by simp; omega) ?_
      simp only [sn_upto, sn_from, slN_def, run_cap, rules, rules2, loopRules, Tryd.facts, base0, Int.toNat_zero, Nat.reduceAdd, Nat.reduceMul, Nat.reduceSub, Nat.reduceLT, Nat.reduceLeDiff, Nat.reduceEqDiff, Int.reduceLE, Int.reduceLT, Int.reduceToNat, Int.reduceNe, Int.reduceEq, not_false_eq_true, Nat.reduceBEq, Nat.reduceDiv, Int.natCast_zero, Int.natCast_one, Int.reduceAdd, Int.reduceSub, reduceIte, ↓reduceIte, Value.oneCell', rowI_length, rowI_take, rowI_splice, rep_all, row_zero, le_nat, Int.toNat_natCast, Nat.zero_add, sok_row, reduceCtorEq]
      refine loop_count 32 (fun j => [(2, Ptr k 0), (4, Ptr 113 0), (6, Ptr 121 0), (7, I .i64 j)])
        (fun j => [(113, ⟨true, rowI .u32 8 (absW kW ivW (padW f n) (blocks n))⟩), (121, ⟨true, rowI .u8 32 (fun i => if i < j then shaW kW ivW f n i else 0)⟩), (k, ⟨true, rowI .u8 32 (fun _ => 0)⟩)]) _ ?_ ?_ ?_
      · have q1 : (k = 121) = False := eq_false (by omega)
        have q2 : (k = 110) = False := eq_false (by omega)
        have q3 : (k = 113) = False := eq_false (by omega)
        simp only [q1, q2, q3, if_false, Nat.not_lt_zero, sn_upto, sn_from, slN_def, run_cap, rules, rules2, loopRules, Tryd.facts, base0, Int.toNat_zero, Nat.reduceAdd, Nat.reduceMul, Nat.reduceSub, Nat.reduceLT, Nat.reduceLeDiff, Nat.reduceEqDiff, Int.reduceLE, Int.reduceLT, Int.reduceToNat, Int.reduceNe, Int.reduceEq, not_false_eq_true, Nat.reduceBEq, Nat.reduceDiv, Int.natCast_zero, Int.natCast_one, Int.reduceAdd, Int.reduceSub, reduceIte, ↓reduceIte, Value.oneCell', rowI_length, rowI_take, rowI_splice, rep_all, row_zero, le_nat, Int.toNat_natCast, Nat.zero_add, sok_row, reduceCtorEq]
        omega
      · intro j hj
        have q1 : (k = 121) = False := eq_false (by omega)
        have q2 : (k = 113) = False := eq_false (by omega)
        have a1 : (((j / 4 : Nat) : Int) < 8) = True := by simp; omega
        have a3 : ((j : Int) < 32) = True := lt_nat (m := 32) hj
        have q := quoN j 4 (by omega)
        have r := remN j 4
        rw [show ((4 : Nat) : Int) = 4 from rfl] at q r
        have w1 : IntKind.i64.wrap (8 * ((j % 4 : Nat) : Int)) = 8 * ((j % 4 : Nat) : Int) := wrap_i64 _ (by omega) (by omega)
        have w2 : IntKind.i64.wrap (24 - 8 * ((j % 4 : Nat) : Int)) = 24 - 8 * ((j % 4 : Nat) : Int) := wrap_i64 _ (by omega) (by omega)
        have w3 : IntKind.u64.wrap (24 - 8 * ((j % 4 : Nat) : Int)) = 24 - 8 * ((j % 4 : Nat) : Int) := wrap_u64_in _ (by omega) (by omega)
        have a2 : (0 ≤ 24 - 8 * ((j % 4 : Nat) : Int)) = True := eq_true (by omega)
        have fin : rowI .u8 32 (upd (fun i => if i < j then shaW kW ivW f n i else 0) j (shaW kW ivW f n j)) = rowI .u8 32 (fun i => if i < j + 1 then shaW kW ivW f n i else 0) := row_upto
        have eo : IntKind.u8.wrap (shrI .u32 (absW kW ivW (padW f n) (blocks n) (j / 4)) (24 - 8 * ((j % 4 : Nat) : Int))) = shaW kW ivW f n j := rfl
        simp only [sn_upto, sn_from, slN_def, run_cap, rules, rules2, loopRules, Tryd.facts, base0, Int.toNat_zero, Nat.reduceAdd, Nat.reduceMul, Nat.reduceSub, Nat.reduceLT, Nat.reduceLeDiff, Nat.reduceEqDiff, Int.reduceLE, Int.reduceLT, Int.reduceToNat, Int.reduceNe, Int.reduceEq, not_false_eq_true, Nat.reduceBEq, Nat.reduceDiv, Int.natCast_zero, Int.natCast_one, Int.reduceAdd, Int.reduceSub, reduceIte, ↓reduceIte, Value.oneCell', rowI_length, rowI_take, rowI_splice, rep_all, row_zero, le_nat, Int.toNat_natCast, Nat.zero_add, sok_row, reduceCtorEq]
        refine vcIf_yes (by simp; omega) ?_
        simp only [q1, q2, q, r, w1, w2, w3, a1, a2, a3, nat_nn, rowI_get .u32 8 (absW kW ivW (padW f n) (blocks n)) (j / 4) (by omega), Nat.mul_one, eo, rowI_splice1 .u8 32 _ j hj, fin, wrapS j (by omega), sn_upto, sn_from, slN_def, run_cap, rules, rules2, loopRules, Tryd.facts, base0, Int.toNat_zero, Nat.reduceAdd, Nat.reduceMul, Nat.reduceSub, Nat.reduceLT, Nat.reduceLeDiff, Nat.reduceEqDiff, Int.reduceLE, Int.reduceLT, Int.reduceToNat, Int.reduceNe, Int.reduceEq, not_false_eq_true, Nat.reduceBEq, Nat.reduceDiv, Int.natCast_zero, Int.natCast_one, Int.reduceAdd, Int.reduceSub, reduceIte, ↓reduceIte, Value.oneCell', rowI_length, rowI_take, rowI_splice, rep_all, row_zero, le_nat, Int.toNat_natCast, Nat.zero_add, sok_row, reduceCtorEq]
        omega
      · simp only [sn_upto, sn_from, slN_def, run_cap, rules, rules2, loopRules, Tryd.facts, base0, Int.toNat_zero, Nat.reduceAdd, Nat.reduceMul, Nat.reduceSub, Nat.reduceLT, Nat.reduceLeDiff, Nat.reduceEqDiff, Int.reduceLE, Int.reduceLT, Int.reduceToNat, Int.reduceNe, Int.reduceEq, not_false_eq_true, Nat.reduceBEq, Nat.reduceDiv, Int.natCast_zero, Int.natCast_one, Int.reduceAdd, Int.reduceSub, reduceIte, ↓reduceIte, Value.oneCell', rowI_length, rowI_take, rowI_splice, rep_all, row_zero, le_nat, Int.toNat_natCast, Nat.zero_add, sok_row, reduceCtorEq]
        refine vcIf_no (by simp) ?_
        have hrow : rowI .u8 32 (fun i => if i < 32 then shaW kW ivW f n i else 0) = rowI .u8 32 (shaW kW ivW f n) := rowI_congr fun i hi => by rw [if_pos hi]
        have q1 : (k = 121) = False := eq_false (by omega)
        have q2 : (k = 113) = False := eq_false (by omega)
        simp only [hrow, q1, q2, sn_upto, sn_from, slN_def, run_cap, rules, rules2, loopRules, Tryd.facts, base0, Int.toNat_zero, Nat.reduceAdd, Nat.reduceMul, Nat.reduceSub, Nat.reduceLT, Nat.reduceLeDiff, Nat.reduceEqDiff, Int.reduceLE, Int.reduceLT, Int.reduceToNat, Int.reduceNe, Int.reduceEq, not_false_eq_true, Nat.reduceBEq, Nat.reduceDiv, Int.natCast_zero, Int.natCast_one, Int.reduceAdd, Int.reduceSub, reduceIte, ↓reduceIte, Value.oneCell', rowI_length, rowI_take, rowI_splice, rep_all, row_zero, le_nat, Int.toNat_natCast, Nat.zero_add, sok_row, reduceCtorEq]
        exact ret_plain plainI ⟨rfl, rfl⟩
theorem refDigest_call {s : AS} {nm t o n c : Nat} {rw : Bool} {f : Nat → Int} {cs : List SV} (hf : Byt f) (hb : s.box t = some ⟨rw, cs⟩) (hc : Shows cs o n f) (hp : cs.all SV.plain = true) (hn : n < 100000000) {dst : Option Nat} {K : AS → Prop}
    (hk : K (s.put dst (some (Ag (rowI .u8 32 (shaW kW ivW f n)))))) : vcCall Tryd.prog nm 46 (some [Sl t o n c]) dst K s :=
  (refDigest_m (k := 1) (v := Sl 0 o n c) (ins := lk [(0, ⟨false, cs⟩)]) hf (.inr ⟨0, o, c, false, cs, rfl, rfl, hp, hc⟩) hn (by show (0 : Nat) < 1; decide) all1 (inn1 hp) (by decide)).vcRead (fun _ => t) (fits1 hb hp) plainI rfl hk
theorem refDigest_draw {s : AS} {nm t o n c : Nat} {rw : Bool} {f : Nat → Int} {cs : List SV} (hf : Byt f) (hb : s.box t = some ⟨rw, cs⟩) (hc : Shows cs o n f) (hp : cs.all SV.plain = true) (hn : n < 100000000) {ops : Array Oper} {i : Nat} {dst : Option Nat} {K : AS → Prop}
    (hk : K (s.put dst (some (Ag (rowI .u8 32 (shaW kW ivW f n)))))) : vcFun Tryd.prog ops i nm 46 (some [Sl t o n c]) dst K s :=
  (refDigest_m (k := 1) (v := Sl 0 o n c) (ins := lk [(0, ⟨false, cs⟩)]) hf (.inr ⟨0, o, c, false, cs, rfl, rfl, hp, hc⟩) hn (by show (0 : Nat) < 1; decide) all1 (inn1 hp) (by decide)).drawRead (fun _ => t) (fits1 hb hp) plainI rfl (fun M h _ _ => h (Sl t o n c) (List.Mem.head _)) hk
end Go.Proofs.YtljncmifbncdbaaDoor
