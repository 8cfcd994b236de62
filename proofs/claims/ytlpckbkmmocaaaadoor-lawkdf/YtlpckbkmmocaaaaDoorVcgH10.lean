/-
  The keyed hash of the document.
-/
import Derived.Test.YtlpckbkmmocaaaaDoorVcgH7
set_option linter.unusedSimpArgs false
set_option linter.unusedVariables false
namespace Go.Proofs.YtlpckbkmmocaaaaDoor
open Go.Vcg
/-- What is known ahead of the loop: a key of at most 64 bytes. -/
structure KeyIn (k : Nat) (l : List (Nat × Box)) (vm : AV) (m : Nat) (kf f : Nat → Int) (s : AS) (L : List (Nat × Box)) (v : AV) (n : Nat) (g : Nat → Int) : Prop where
  e0 : s.env 0 = some v
  e1 : s.env 1 = some vm
  e4 : s.env 4 = some (Ptr k 0)
  next : s.next ≤ 50
  inn : ∀ x ∈ L, x.1 < s.next ∧ lk L x.1 = some x.2 ∧ s.box x.1 = some x.2 ∧ x.2.cells.all SV.plain = true
  cell : lk L k = some ⟨true, rowI .u8 32 (fun _ => 0)⟩
  hv : BytesAt (lk L) v n g
  hvm : BytesAt (lk L) vm m f
  hok : AV.ok (fun n => n < s.next) v
  hokm : AV.ok (fun n => n < s.next) vm
  hn : n ≤ 64
  hg : Byt g
  heq : ∀ i, kf i = if i < n then g i else 0
set_option maxHeartbeats 8000000 in
set_option maxRecDepth 20000 in
theorem refMac_m {l : List (Nat × Box)} {k nk m : Nat} {vk vm : AV} {key f : Nat → Int} (hkey : Byt key) (hf : Byt f) (hvk : BytesAt (lk l) vk nk key) (hvm : BytesAt (lk l) vm m f) (hnk : nk < 90000000) (hm : m < 90000000)
    (hokk : AV.ok (fun n => n < k) vk) (hokm : AV.ok (fun n => n < k) vm) (hl : ∀ x ∈ l, x.1 < k ∧ lk l x.1 = some x.2 ∧ x.2.cells.all SV.plain = true) (hall : ∀ n, n < k → ∃ b, lk l n = some b) (hk : k ≤ 20) :
    MFun Tryd.prog 15 [vk, vm] k (lk l) (fun u out => u = Ag (rowI .u8 32 (macW kW ivW key nk f m)) ∧ out = fun _ => none) := by
  refine mfun_of_vc Tryd.func15 rfl (by kernel_rfl) (by simp [Tryd.ntmps15]) Tryd.callable15 (fun u hu => by
    simp only [List.mem_cons, List.not_mem_nil, or_false] at hu
    rcases hu with rfl | rfl
    · exact hokk
    · exact hokm) hall (fun n b hb => ⟨(hl _ (lk_mem _ _ _ hb)).1, ok_all (hl _ (lk_mem _ _ _ hb)).2.2⟩) ?_
  simp only [Tryd.results15, at_len hvk, sn_upto, sn_from, slN_def, run_cap, rules, rules2, loopRules, Tryd.facts, base0, Int.toNat_zero, Nat.reduceAdd, Nat.reduceMul, Nat.reduceSub, Nat.reduceLT, Nat.reduceLeDiff, Nat.reduceEqDiff, Int.reduceLE, Int.reduceLT, Int.reduceToNat, Int.reduceNe, Int.reduceEq, not_false_eq_true, Nat.reduceBEq, Nat.reduceDiv, Int.natCast_zero, Int.natCast_one, Int.reduceAdd, Int.reduceSub, reduceIte, ↓reduceIte, Value.oneCell', rowI_length, rowI_take, rowI_splice, rep_all, row_zero, le_nat, Int.toNat_natCast, Nat.zero_add, sok_row, reduceCtorEq]
  refine vcIf_mid (fun s => ∃ L v n g, KeyIn k l vm m (keyW kW ivW key nk) f s L v n g) (fun h => ?_) (fun h => ?_) ?_
  · simp only [sn_upto, sn_from, slN_def, run_cap, rules, rules2, loopRules, Tryd.facts, base0, Int.toNat_zero, Nat.reduceAdd, Nat.reduceMul, Nat.reduceSub, Nat.reduceLT, Nat.reduceLeDiff, Nat.reduceEqDiff, Int.reduceLE, Int.reduceLT, Int.reduceToNat, Int.reduceNe, Int.reduceEq, not_false_eq_true, Nat.reduceBEq, Nat.reduceDiv, Int.natCast_zero, Int.natCast_one, Int.reduceAdd, Int.reduceSub, reduceIte, ↓reduceIte, Value.oneCell', rowI_length, rowI_take, rowI_splice, rep_all, row_zero, le_nat, Int.toNat_natCast, Nat.zero_add, sok_row, reduceCtorEq]
    have hn : 64 < nk := by have := of_decide_eq_true h; omega
    obtain ⟨t, o, c, rw, cs, rfl, hb, hp, hs⟩ := at_some hvk (by omega)
    have ht : t < k := hokk
    refine refDigest_call (rw := rw) hkey (by simp only [upd]; rw [if_neg (by omega)]; exact hb) hs hp (by omega) ?_
    simp only [sn_upto, sn_from, slN_def, run_cap, rules, rules2, loopRules, Tryd.facts, base0, Int.toNat_zero, Nat.reduceAdd, Nat.reduceMul, Nat.reduceSub, Nat.reduceLT, Nat.reduceLeDiff, Nat.reduceEqDiff, Int.reduceLE, Int.reduceLT, Int.reduceToNat, Int.reduceNe, Int.reduceEq, not_false_eq_true, Nat.reduceBEq, Nat.reduceDiv, Int.natCast_zero, Int.natCast_one, Int.reduceAdd, Int.reduceSub, reduceIte, ↓reduceIte, Value.oneCell', rowI_length, rowI_take, rowI_splice, rep_all, row_zero, le_nat, Int.toNat_natCast, Nat.zero_add, sok_row, reduceCtorEq]
    refine ⟨(k, ⟨true, rowI .u8 32 (fun _ => 0)⟩) :: (k + 1 + 3 + 2, ⟨true, rowI .u8 32 (shaW kW ivW key nk)⟩) :: l, Sl (k + 1 + 3 + 2) 0 32 32, 32, shaW kW ivW key nk, ⟨rfl, rfl, rfl, ?_, ?_, ?_, ?_, ?_, ?_, ?_, by omega, shaW_byt _ _ _ _, fun i => ?_⟩⟩
    · show k + 1 + 3 + 4 + 2 ≤ 50; omega
    · intro x hx
      rcases List.mem_cons.1 hx with rfl | hx
      · refine ⟨by show k < k + 1 + 3 + 4 + 2; omega, by simp [lk], ?_, plainI⟩
        simp only [upd]; rw [if_neg (by omega), if_neg (by omega)]; exact if_pos trivial
      rcases List.mem_cons.1 hx with rfl | hx
      · refine ⟨by show k + 1 + 3 + 2 < k + 1 + 3 + 4 + 2; omega, ?_, by simp only [upd_same], plainI⟩
        simp only [lk]; rw [if_neg (by omega)]; exact if_pos trivial
      · obtain ⟨h1, h2, h3⟩ := hl x hx
        exact ⟨by show x.1 < k + 1 + 3 + 4 + 2; omega, by simp only [lk]; rw [if_neg (by omega), if_neg (by omega)]; exact h2, by simp only [upd]; rw [if_neg (by omega), if_neg (by omega), if_neg (by omega)]; exact h2, h3⟩
    · simp [lk]
    · refine .inr ⟨_, _, _, true, rowI .u8 32 (shaW kW ivW key nk), rfl, ?_, plainI, shows_row0⟩
      simp only [lk]; rw [if_neg (by omega)]; exact if_pos trivial
    · refine at_mono hvm fun t b hb => ?_
      have := (hl _ (lk_mem _ _ _ hb)).1
      simp only at this
      simp only [lk]; rw [if_neg (by omega), if_neg (by omega)]; exact hb
    · show k + 1 + 3 + 2 < k + 1 + 3 + 4 + 2; omega
    · exact AV.ok_mono (fun n hn => by show n < k + 1 + 3 + 4 + 2; omega) hokm
    · simp only [keyW, gt_iff_lt]; rw [if_pos hn]
  · simp only [sn_upto, sn_from, slN_def, run_cap, rules, rules2, loopRules, Tryd.facts, base0, Int.toNat_zero, Nat.reduceAdd, Nat.reduceMul, Nat.reduceSub, Nat.reduceLT, Nat.reduceLeDiff, Nat.reduceEqDiff, Int.reduceLE, Int.reduceLT, Int.reduceToNat, Int.reduceNe, Int.reduceEq, not_false_eq_true, Nat.reduceBEq, Nat.reduceDiv, Int.natCast_zero, Int.natCast_one, Int.reduceAdd, Int.reduceSub, reduceIte, ↓reduceIte, Value.oneCell', rowI_length, rowI_take, rowI_splice, rep_all, row_zero, le_nat, Int.toNat_natCast, Nat.zero_add, sok_row, reduceCtorEq]
    have hn : ¬ 64 < nk := by have := of_decide_eq_false h; omega
    refine ⟨(k, ⟨true, rowI .u8 32 (fun _ => 0)⟩) :: l, vk, nk, key, ⟨rfl, rfl, rfl, ?_, ?_, ?_, ?_, ?_, ?_, ?_, by omega, hkey, fun i => ?_⟩⟩
    · show k + 1 + 3 ≤ 50; omega
    · intro x hx
      rcases List.mem_cons.1 hx with rfl | hx
      · exact ⟨by show k < k + 1 + 3; omega, by simp [lk], by simp [upd], plainI⟩
      · obtain ⟨h1, h2, h3⟩ := hl x hx
        have h0 : x.1 ≠ k := by omega
        exact ⟨by show x.1 < k + 1 + 3; omega, by simp only [lk]; rw [if_neg h0]; exact h2, by simp only [upd]; rw [if_neg h0]; exact h2, h3⟩
    · simp [lk]
    · refine at_mono hvk fun t b hb => ?_
      have := (hl _ (lk_mem _ _ _ hb)).1
      simp only at this
      simp only [lk]; rw [if_neg (by omega)]; exact hb
    · refine at_mono hvm fun t b hb => ?_
      have := (hl _ (lk_mem _ _ _ hb)).1
      simp only at this
      simp only [lk]; rw [if_neg (by omega)]; exact hb
    · exact AV.ok_mono (fun n hn => by show n < k + 1 + 3; omega) hokk
    · exact AV.ok_mono (fun n hn => by show n < k + 1 + 3; omega) hokm
    · simp only [keyW, gt_iff_lt]; rw [if_neg hn]
  · rintro s ⟨L, v, n, g, h⟩
    have E0 := h.e0
    have E1 := h.e1
    have E4 := h.e4
    have hN := h.next
    obtain ⟨env, box, next⟩ := s
    simp only at E0 E1 E4 hN
    simp only [E0, E1, E4, sn_upto, sn_from, slN_def, run_cap, rules, rules2, loopRules, Tryd.facts, base0, Int.toNat_zero, Nat.reduceAdd, Nat.reduceMul, Nat.reduceSub, Nat.reduceLT, Nat.reduceLeDiff, Nat.reduceEqDiff, Int.reduceLE, Int.reduceLT, Int.reduceToNat, Int.reduceNe, Int.reduceEq, not_false_eq_true, Nat.reduceBEq, Nat.reduceDiv, Int.natCast_zero, Int.natCast_one, Int.reduceAdd, Int.reduceSub, reduceIte, ↓reduceIte, Value.oneCell', rowI_length, rowI_take, rowI_splice, rep_all, row_zero, le_nat, Int.toNat_natCast, Nat.zero_add, sok_row, reduceCtorEq]
    have hL : ∀ x ∈ L, x.1 < 50 ∧ x.1 < next + 2 + 1 ∧ lk L x.1 = some x.2 ∧ box x.1 = some x.2 ∧ x.2.cells.all SV.plain = true := fun x hx => by
      obtain ⟨h1, h2⟩ := h.inn x hx
      exact ⟨by simp only at h1; omega, by simp only at h1; omega, h2⟩
    have ok0 : AV.ok (fun n => n < 50) v := AV.ok_mono (fun n (hn : n < next) => by omega) h.hok
    have ok1 : AV.ok (fun n => n < 50) vm := AV.ok_mono (fun n (hn : n < next) => by omega) h.hokm
    have okA : ∀ {v : AV}, AV.ok (fun n => n < 50) v → AV.ok (fun n => n < 100) v := fun h => AV.ok_mono (fun n hn => by omega) h
    have okk : k < 50 := by omega
    obtain ⟨_, _, _, _, _, hcell, hv, hvm, _, _, hn, hg, heq⟩ := h
    refine loop_anewR 64 (fun j (x : (Nat × List SV) × (Nat × List SV)) => j = 0 ∨ (Grows x.1.2 0 j x.1.1 (padK kW ivW key nk 54) ∧ Grows x.2.2 0 j x.2.1 (padK kW ivW key nk 92)))
      (fun j x => [(0, v), (1, vm), (4, Ptr k 0), (6, if j = 0 then V (.slice none 0 0) else Sl 60 0 j x.1.1), (7, if j = 0 then V (.slice none 0 0) else Sl 61 0 j x.2.1), (8, I .i64 j)])
      (fun j x => if j = 0 then L else (60, ⟨true, x.1.2⟩) :: (61, ⟨true, x.2.2⟩) :: L) 100 ((0, []), (0, [])) ⟨.inl rfl, fun n => n, ?_⟩ ?_ ?_ (by show next + 2 + 1 ≤ 100; omega)
    · simp only [if_true]
      refine bringsR_0 (by omega) ?_ (fun x hx => ⟨(hL x hx).2.1, (hL x hx).2.2.2⟩)
      simp only [E0, E1, E4, sn_upto, sn_from, slN_def, run_cap, rules, rules2, loopRules, Tryd.facts, base0, Int.toNat_zero, Nat.reduceAdd, Nat.reduceMul, Nat.reduceSub, Nat.reduceLT, Nat.reduceLeDiff, Nat.reduceEqDiff, Int.reduceLE, Int.reduceLT, Int.reduceToNat, Int.reduceNe, Int.reduceEq, not_false_eq_true, Nat.reduceBEq, Nat.reduceDiv, Int.natCast_zero, Int.natCast_one, Int.reduceAdd, Int.reduceSub, reduceIte, ↓reduceIte, Value.oneCell', rowI_length, rowI_take, rowI_splice, rep_all, row_zero, le_nat, Int.toNat_natCast, Nat.zero_add, sok_row, reduceCtorEq]
      exact ⟨okA ok0, okA ok1, by omega, trivial⟩
    · rintro j ⟨⟨c1, cs1⟩, c2, cs2⟩ hj hI
      have hkj : keyW kW ivW key nk j = if j < n then g j else 0 := heq j
      have hpj : ∀ x, bitI .xor .u8 (keyW kW ivW key nk j) x = padK kW ivW key nk x j := fun x => rfl
      have F : ∀ x ∈ L, ∀ z, 50 ≤ z → (x.1 = z) = False := fun x hx z hz => eq_false (by have := (hL x hx).1; omega)
      rcases j with _ | j
      · simp only [sn_upto, sn_from, slN_def, run_cap, rules, rules2, loopRules, Tryd.facts, base0, Int.toNat_zero, Nat.reduceAdd, Nat.reduceMul, Nat.reduceSub, Nat.reduceLT, Nat.reduceLeDiff, Nat.reduceEqDiff, Int.reduceLE, Int.reduceLT, Int.reduceToNat, Int.reduceNe, Int.reduceEq, not_false_eq_true, Nat.reduceBEq, Nat.reduceDiv, Int.natCast_zero, Int.natCast_one, Int.reduceAdd, Int.reduceSub, reduceIte, ↓reduceIte, Value.oneCell', rowI_length, rowI_take, rowI_splice, rep_all, row_zero, le_nat, Int.toNat_natCast, Nat.zero_add, sok_row, reduceCtorEq]
        refine vcIf_yes (by simp) ?_
        simp only [at_len hv, sn_upto, sn_from, slN_def, run_cap, rules, rules2, loopRules, Tryd.facts, base0, Int.toNat_zero, Nat.reduceAdd, Nat.reduceMul, Nat.reduceSub, Nat.reduceLT, Nat.reduceLeDiff, Nat.reduceEqDiff, Int.reduceLE, Int.reduceLT, Int.reduceToNat, Int.reduceNe, Int.reduceEq, not_false_eq_true, Nat.reduceBEq, Nat.reduceDiv, Int.natCast_zero, Int.natCast_one, Int.reduceAdd, Int.reduceSub, reduceIte, ↓reduceIte, Value.oneCell', rowI_length, rowI_take, rowI_splice, rep_all, row_zero, le_nat, Int.toNat_natCast, Nat.zero_add, sok_row, reduceCtorEq]
        by_cases hjn : 0 < n
        · rw [if_pos hjn] at hkj
          refine vcIf_yes (by simp; omega) ?_
          obtain ⟨t, o, c, rw, cs, rfl, hb, hp, hs⟩ := at_some hv (by omega)
          have hld := hs 0 hjn
          have a0 : ((0 : Int) < (n : Int)) = True := eq_true (by omega)
          rw [Nat.add_zero, ← hkj] at hld
          simp only [Nat.mul_one, a0, hb, hld, hpj, sn_upto, sn_from, slN_def, run_cap, rules, rules2, loopRules, Tryd.facts, base0, Int.toNat_zero, Nat.reduceAdd, Nat.reduceMul, Nat.reduceSub, Nat.reduceLT, Nat.reduceLeDiff, Nat.reduceEqDiff, Int.reduceLE, Int.reduceLT, Int.reduceToNat, Int.reduceNe, Int.reduceEq, not_false_eq_true, Nat.reduceBEq, Nat.reduceDiv, Int.natCast_zero, Int.natCast_one, Int.reduceAdd, Int.reduceSub, reduceIte, ↓reduceIte, Value.oneCell', rowI_length, rowI_take, rowI_splice, rep_all, row_zero, le_nat, Int.toNat_natCast, Nat.zero_add, sok_row, reduceCtorEq]
          refine append_nb (g := fun _ => padK kW ivW key nk 54 0) Tryd.mkK34 Tryd.slK34 (.inr ⟨_, _, _, true, [Sum.inl (.int .u8 (padK kW ivW key nk 54 0))], rfl, by simp only [upd_same]; rfl, rfl, shows_one⟩) (by decide) (fun h => by cases h) ?_
          intro _ c3 cs3 hg3
          simp only [hpj, sn_upto, sn_from, slN_def, run_cap, rules, rules2, loopRules, Tryd.facts, base0, Int.toNat_zero, Nat.reduceAdd, Nat.reduceMul, Nat.reduceSub, Nat.reduceLT, Nat.reduceLeDiff, Nat.reduceEqDiff, Int.reduceLE, Int.reduceLT, Int.reduceToNat, Int.reduceNe, Int.reduceEq, not_false_eq_true, Nat.reduceBEq, Nat.reduceDiv, Int.natCast_zero, Int.natCast_one, Int.reduceAdd, Int.reduceSub, reduceIte, ↓reduceIte, Value.oneCell', rowI_length, rowI_take, rowI_splice, rep_all, row_zero, le_nat, Int.toNat_natCast, Nat.zero_add, sok_row, reduceCtorEq]
          refine append_nb (g := fun _ => padK kW ivW key nk 92 0) Tryd.mkK34 Tryd.slK34 (.inr ⟨_, _, _, true, [Sum.inl (.int .u8 (padK kW ivW key nk 92 0))], rfl, by simp only [upd_same]; rfl, rfl, shows_one⟩) (by decide) (fun h => by cases h) ?_
          intro _ c4 cs4 hg4
          replace hg3 := hg3.congr (g := padK kW ivW key nk 54) (m := 0 + 1) rfl (fun i hi => by rw [show i = 0 by omega])
          replace hg4 := hg4.congr (g := padK kW ivW key nk 92) (m := 0 + 1) rfl (fun i hi => by rw [show i = 0 by omega])
          simp only [hpj, sn_upto, sn_from, slN_def, run_cap, rules, rules2, loopRules, Tryd.facts, base0, Int.toNat_zero, Nat.reduceAdd, Nat.reduceMul, Nat.reduceSub, Nat.reduceLT, Nat.reduceLeDiff, Nat.reduceEqDiff, Int.reduceLE, Int.reduceLT, Int.reduceToNat, Int.reduceNe, Int.reduceEq, not_false_eq_true, Nat.reduceBEq, Nat.reduceDiv, Int.natCast_zero, Int.natCast_one, Int.reduceAdd, Int.reduceSub, reduceIte, ↓reduceIte, Value.oneCell', rowI_length, rowI_take, rowI_splice, rep_all, row_zero, le_nat, Int.toNat_natCast, Nat.zero_add, sok_row, reduceCtorEq]
          refine ⟨((c3, cs3), (c4, cs4)), .inr ⟨hg3, hg4⟩, _, bringsR_2 (p := 116) (q := 122) (by omega) (by decide) (by decide) ?_ (by simp only [upd_apply, sn_upto, sn_from, slN_def, run_cap, rules, rules2, loopRules, Tryd.facts, base0, Int.toNat_zero, Nat.reduceAdd, Nat.reduceMul, Nat.reduceSub, Nat.reduceLT, Nat.reduceLeDiff, Nat.reduceEqDiff, Int.reduceLE, Int.reduceLT, Int.reduceToNat, Int.reduceNe, Int.reduceEq, not_false_eq_true, Nat.reduceBEq, Nat.reduceDiv, Int.natCast_zero, Int.natCast_one, Int.reduceAdd, Int.reduceSub, reduceIte, ↓reduceIte, Value.oneCell', rowI_length, rowI_take, rowI_splice, rep_all, row_zero, le_nat, Int.toNat_natCast, Nat.zero_add, sok_row, reduceCtorEq]) hg3.plain (by simp only [upd_same]) hg4.plain ?_⟩
          · have r0 := ren_low (r := upd (upd (fun n => n) 60 116) 61 122) (fun n hn => by rw [upd_ne _ _ _ _ (by omega), upd_ne _ _ _ _ (by omega)]) ok0
            have r1 := ren_low (r := upd (upd (fun n => n) 60 116) 61 122) (fun n hn => by rw [upd_ne _ _ _ _ (by omega), upd_ne _ _ _ _ (by omega)]) ok1
            have k0 : (k = 60) = False := eq_false (by omega)
            have k1 : (k = 61) = False := eq_false (by omega)
            have o0 := okA ok0
            have o1 := okA ok1
            have k2 : (k < 100) = True := eq_true (by omega)
            simp only [r0, r1, o0, o1, k0, k1, k2, ren_p, ren_s, ren_i, upd_apply, sn_upto, sn_from, slN_def, run_cap, rules, rules2, loopRules, Tryd.facts, base0, Int.toNat_zero, Nat.reduceAdd, Nat.reduceMul, Nat.reduceSub, Nat.reduceLT, Nat.reduceLeDiff, Nat.reduceEqDiff, Int.reduceLE, Int.reduceLT, Int.reduceToNat, Int.reduceNe, Int.reduceEq, not_false_eq_true, Nat.reduceBEq, Nat.reduceDiv, Int.natCast_zero, Int.natCast_one, Int.reduceAdd, Int.reduceSub, reduceIte, ↓reduceIte, Value.oneCell', rowI_length, rowI_take, rowI_splice, rep_all, row_zero, le_nat, Int.toNat_natCast, Nat.zero_add, sok_row, reduceCtorEq]
            rfl
          · intro x hx
            obtain ⟨h1, h2, h3, h4, h5⟩ := hL x hx
            have Fx := F x hx
            refine ⟨h2, by omega, by omega, ?_, h5⟩
            simp only [Fx 60 (by decide), Fx 61 (by decide), Fx 110 (by decide), Fx 111 (by decide), Fx 115 (by decide), Fx 116 (by decide), Fx 117 (by decide), Fx 121 (by decide), Fx 122 (by decide), h3, upd_apply, sn_upto, sn_from, slN_def, run_cap, rules, rules2, loopRules, Tryd.facts, base0, Int.toNat_zero, Nat.reduceAdd, Nat.reduceMul, Nat.reduceSub, Nat.reduceLT, Nat.reduceLeDiff, Nat.reduceEqDiff, Int.reduceLE, Int.reduceLT, Int.reduceToNat, Int.reduceNe, Int.reduceEq, not_false_eq_true, Nat.reduceBEq, Nat.reduceDiv, Int.natCast_zero, Int.natCast_one, Int.reduceAdd, Int.reduceSub, reduceIte, ↓reduceIte, Value.oneCell', rowI_length, rowI_take, rowI_splice, rep_all, row_zero, le_nat, Int.toNat_natCast, Nat.zero_add, sok_row, reduceCtorEq]
        · rw [if_neg hjn] at hkj
          refine vcIf_no (by simp; omega) ?_
          rw [hkj] at hpj
          simp only [hpj, sn_upto, sn_from, slN_def, run_cap, rules, rules2, loopRules, Tryd.facts, base0, Int.toNat_zero, Nat.reduceAdd, Nat.reduceMul, Nat.reduceSub, Nat.reduceLT, Nat.reduceLeDiff, Nat.reduceEqDiff, Int.reduceLE, Int.reduceLT, Int.reduceToNat, Int.reduceNe, Int.reduceEq, not_false_eq_true, Nat.reduceBEq, Nat.reduceDiv, Int.natCast_zero, Int.natCast_one, Int.reduceAdd, Int.reduceSub, reduceIte, ↓reduceIte, Value.oneCell', rowI_length, rowI_take, rowI_splice, rep_all, row_zero, le_nat, Int.toNat_natCast, Nat.zero_add, sok_row, reduceCtorEq]
          refine append_nb (g := fun _ => padK kW ivW key nk 54 0) Tryd.mkK34 Tryd.slK34 (.inr ⟨_, _, _, true, [Sum.inl (.int .u8 (padK kW ivW key nk 54 0))], rfl, by simp only [upd_same]; rfl, rfl, shows_one⟩) (by decide) (fun h => by cases h) ?_
          intro _ c3 cs3 hg3
          simp only [hpj, sn_upto, sn_from, slN_def, run_cap, rules, rules2, loopRules, Tryd.facts, base0, Int.toNat_zero, Nat.reduceAdd, Nat.reduceMul, Nat.reduceSub, Nat.reduceLT, Nat.reduceLeDiff, Nat.reduceEqDiff, Int.reduceLE, Int.reduceLT, Int.reduceToNat, Int.reduceNe, Int.reduceEq, not_false_eq_true, Nat.reduceBEq, Nat.reduceDiv, Int.natCast_zero, Int.natCast_one, Int.reduceAdd, Int.reduceSub, reduceIte, ↓reduceIte, Value.oneCell', rowI_length, rowI_take, rowI_splice, rep_all, row_zero, le_nat, Int.toNat_natCast, Nat.zero_add, sok_row, reduceCtorEq]
          refine append_nb (g := fun _ => padK kW ivW key nk 92 0) Tryd.mkK34 Tryd.slK34 (.inr ⟨_, _, _, true, [Sum.inl (.int .u8 (padK kW ivW key nk 92 0))], rfl, by simp only [upd_same]; rfl, rfl, shows_one⟩) (by decide) (fun h => by cases h) ?_
          intro _ c4 cs4 hg4
          replace hg3 := hg3.congr (g := padK kW ivW key nk 54) (m := 0 + 1) rfl (fun i hi => by rw [show i = 0 by omega])
          replace hg4 := hg4.congr (g := padK kW ivW key nk 92) (m := 0 + 1) rfl (fun i hi => by rw [show i = 0 by omega])
          simp only [hpj, sn_upto, sn_from, slN_def, run_cap, rules, rules2, loopRules, Tryd.facts, base0, Int.toNat_zero, Nat.reduceAdd, Nat.reduceMul, Nat.reduceSub, Nat.reduceLT, Nat.reduceLeDiff, Nat.reduceEqDiff, Int.reduceLE, Int.reduceLT, Int.reduceToNat, Int.reduceNe, Int.reduceEq, not_false_eq_true, Nat.reduceBEq, Nat.reduceDiv, Int.natCast_zero, Int.natCast_one, Int.reduceAdd, Int.reduceSub, reduceIte, ↓reduceIte, Value.oneCell', rowI_length, rowI_take, rowI_splice, rep_all, row_zero, le_nat, Int.toNat_natCast, Nat.zero_add, sok_row, reduceCtorEq]
          refine ⟨((c3, cs3), (c4, cs4)), .inr ⟨hg3, hg4⟩, _, bringsR_2 (p := 111) (q := 117) (by omega) (by decide) (by decide) ?_ (by simp only [upd_apply, sn_upto, sn_from, slN_def, run_cap, rules, rules2, loopRules, Tryd.facts, base0, Int.toNat_zero, Nat.reduceAdd, Nat.reduceMul, Nat.reduceSub, Nat.reduceLT, Nat.reduceLeDiff, Nat.reduceEqDiff, Int.reduceLE, Int.reduceLT, Int.reduceToNat, Int.reduceNe, Int.reduceEq, not_false_eq_true, Nat.reduceBEq, Nat.reduceDiv, Int.natCast_zero, Int.natCast_one, Int.reduceAdd, Int.reduceSub, reduceIte, ↓reduceIte, Value.oneCell', rowI_length, rowI_take, rowI_splice, rep_all, row_zero, le_nat, Int.toNat_natCast, Nat.zero_add, sok_row, reduceCtorEq]) hg3.plain (by simp only [upd_same]) hg4.plain ?_⟩
          · have r0 := ren_low (r := upd (upd (fun n => n) 60 111) 61 117) (fun n hn => by rw [upd_ne _ _ _ _ (by omega), upd_ne _ _ _ _ (by omega)]) ok0
            have r1 := ren_low (r := upd (upd (fun n => n) 60 111) 61 117) (fun n hn => by rw [upd_ne _ _ _ _ (by omega), upd_ne _ _ _ _ (by omega)]) ok1
            have k0 : (k = 60) = False := eq_false (by omega)
            have k1 : (k = 61) = False := eq_false (by omega)
            have o0 := okA ok0
            have o1 := okA ok1
            have k2 : (k < 100) = True := eq_true (by omega)
            simp only [r0, r1, o0, o1, k0, k1, k2, ren_p, ren_s, ren_i, upd_apply, sn_upto, sn_from, slN_def, run_cap, rules, rules2, loopRules, Tryd.facts, base0, Int.toNat_zero, Nat.reduceAdd, Nat.reduceMul, Nat.reduceSub, Nat.reduceLT, Nat.reduceLeDiff, Nat.reduceEqDiff, Int.reduceLE, Int.reduceLT, Int.reduceToNat, Int.reduceNe, Int.reduceEq, not_false_eq_true, Nat.reduceBEq, Nat.reduceDiv, Int.natCast_zero, Int.natCast_one, Int.reduceAdd, Int.reduceSub, reduceIte, ↓reduceIte, Value.oneCell', rowI_length, rowI_take, rowI_splice, rep_all, row_zero, le_nat, Int.toNat_natCast, Nat.zero_add, sok_row, reduceCtorEq]
            rfl
          · intro x hx
            obtain ⟨h1, h2, h3, h4, h5⟩ := hL x hx
            have Fx := F x hx
            refine ⟨h2, by omega, by omega, ?_, h5⟩
            simp only [Fx 60 (by decide), Fx 61 (by decide), Fx 110 (by decide), Fx 111 (by decide), Fx 115 (by decide), Fx 116 (by decide), Fx 117 (by decide), Fx 121 (by decide), Fx 122 (by decide), h3, upd_apply, sn_upto, sn_from, slN_def, run_cap, rules, rules2, loopRules, Tryd.facts, base0, Int.toNat_zero, Nat.reduceAdd, Nat.reduceMul, Nat.reduceSub, Nat.reduceLT, Nat.reduceLeDiff, Nat.reduceEqDiff, Int.reduceLE, Int.reduceLT, Int.reduceToNat, Int.reduceNe, Int.reduceEq, not_false_eq_true, Nat.reduceBEq, Nat.reduceDiv, Int.natCast_zero, Int.natCast_one, Int.reduceAdd, Int.reduceSub, reduceIte, ↓reduceIte, Value.oneCell', rowI_length, rowI_take, rowI_splice, rep_all, row_zero, le_nat, Int.toNat_natCast, Nat.zero_add, sok_row, reduceCtorEq]
      · obtain ⟨hg1, hg2⟩ := hI.resolve_left (by omega)
        simp only [Nat.add_one_ne_zero, if_false, sn_upto, sn_from, slN_def, run_cap, rules, rules2, loopRules, Tryd.facts, base0, Int.toNat_zero, Nat.reduceAdd, Nat.reduceMul, Nat.reduceSub, Nat.reduceLT, Nat.reduceLeDiff, Nat.reduceEqDiff, Int.reduceLE, Int.reduceLT, Int.reduceToNat, Int.reduceNe, Int.reduceEq, not_false_eq_true, Nat.reduceBEq, Nat.reduceDiv, Int.natCast_zero, Int.natCast_one, Int.reduceAdd, Int.reduceSub, reduceIte, ↓reduceIte, Value.oneCell', rowI_length, rowI_take, rowI_splice, rep_all, row_zero, le_nat, Int.toNat_natCast, Nat.zero_add, sok_row, reduceCtorEq]
        refine vcIf_yes (by simp; omega) ?_
        simp only [at_len hv, sn_upto, sn_from, slN_def, run_cap, rules, rules2, loopRules, Tryd.facts, base0, Int.toNat_zero, Nat.reduceAdd, Nat.reduceMul, Nat.reduceSub, Nat.reduceLT, Nat.reduceLeDiff, Nat.reduceEqDiff, Int.reduceLE, Int.reduceLT, Int.reduceToNat, Int.reduceNe, Int.reduceEq, not_false_eq_true, Nat.reduceBEq, Nat.reduceDiv, Int.natCast_zero, Int.natCast_one, Int.reduceAdd, Int.reduceSub, reduceIte, ↓reduceIte, Value.oneCell', rowI_length, rowI_take, rowI_splice, rep_all, row_zero, le_nat, Int.toNat_natCast, Nat.zero_add, sok_row, reduceCtorEq]
        by_cases hjn : j + 1 < n
        · rw [if_pos hjn] at hkj
          refine vcIf_yes (by simp; omega) ?_
          obtain ⟨t, o, c, rw, cs, rfl, hb, hp, hs⟩ := at_some hv (by omega)
          have hld := hs (j + 1) hjn
          have a0 : (((j + 1 : Nat) : Int) < (n : Int)) = True := eq_true (by omega)
          have f60 := F _ (lk_mem _ _ _ hb) 60 (by decide)
          have f61 := F _ (lk_mem _ _ _ hb) 61 (by decide)
          simp only at f60 f61
          rw [← hkj] at hld
          simp only [Nat.mul_one, a0, nat_nn, f60, f61, hb, hld, hpj, sn_upto, sn_from, slN_def, run_cap, rules, rules2, loopRules, Tryd.facts, base0, Int.toNat_zero, Nat.reduceAdd, Nat.reduceMul, Nat.reduceSub, Nat.reduceLT, Nat.reduceLeDiff, Nat.reduceEqDiff, Int.reduceLE, Int.reduceLT, Int.reduceToNat, Int.reduceNe, Int.reduceEq, not_false_eq_true, Nat.reduceBEq, Nat.reduceDiv, Int.natCast_zero, Int.natCast_one, Int.reduceAdd, Int.reduceSub, reduceIte, ↓reduceIte, Value.oneCell', rowI_length, rowI_take, rowI_splice, rep_all, row_zero, le_nat, Int.toNat_natCast, Nat.zero_add, sok_row, reduceCtorEq]
          refine append_b (g := fun _ => padK kW ivW key nk 54 (j + 1)) Tryd.mkK34 Tryd.slK34 (by simp only [upd_apply, sn_upto, sn_from, slN_def, run_cap, rules, rules2, loopRules, Tryd.facts, base0, Int.toNat_zero, Nat.reduceAdd, Nat.reduceMul, Nat.reduceSub, Nat.reduceLT, Nat.reduceLeDiff, Nat.reduceEqDiff, Int.reduceLE, Int.reduceLT, Int.reduceToNat, Int.reduceNe, Int.reduceEq, not_false_eq_true, Nat.reduceBEq, Nat.reduceDiv, Int.natCast_zero, Int.natCast_one, Int.reduceAdd, Int.reduceSub, reduceIte, ↓reduceIte, Value.oneCell', rowI_length, rowI_take, rowI_splice, rep_all, row_zero, le_nat, Int.toNat_natCast, Nat.zero_add, sok_row, reduceCtorEq]) hg1 (.inr ⟨_, _, _, true, [Sum.inl (.int .u8 (padK kW ivW key nk 54 (j + 1)))], rfl, by simp only [upd_same]; rfl, shows_one, by decide⟩) (by omega) ?_
          intro c3 cs3 hg3
          simp only [hpj, sn_upto, sn_from, slN_def, run_cap, rules, rules2, loopRules, Tryd.facts, base0, Int.toNat_zero, Nat.reduceAdd, Nat.reduceMul, Nat.reduceSub, Nat.reduceLT, Nat.reduceLeDiff, Nat.reduceEqDiff, Int.reduceLE, Int.reduceLT, Int.reduceToNat, Int.reduceNe, Int.reduceEq, not_false_eq_true, Nat.reduceBEq, Nat.reduceDiv, Int.natCast_zero, Int.natCast_one, Int.reduceAdd, Int.reduceSub, reduceIte, ↓reduceIte, Value.oneCell', rowI_length, rowI_take, rowI_splice, rep_all, row_zero, le_nat, Int.toNat_natCast, Nat.zero_add, sok_row, reduceCtorEq]
          refine append_b (g := fun _ => padK kW ivW key nk 92 (j + 1)) Tryd.mkK34 Tryd.slK34 (by simp only [upd_apply, sn_upto, sn_from, slN_def, run_cap, rules, rules2, loopRules, Tryd.facts, base0, Int.toNat_zero, Nat.reduceAdd, Nat.reduceMul, Nat.reduceSub, Nat.reduceLT, Nat.reduceLeDiff, Nat.reduceEqDiff, Int.reduceLE, Int.reduceLT, Int.reduceToNat, Int.reduceNe, Int.reduceEq, not_false_eq_true, Nat.reduceBEq, Nat.reduceDiv, Int.natCast_zero, Int.natCast_one, Int.reduceAdd, Int.reduceSub, reduceIte, ↓reduceIte, Value.oneCell', rowI_length, rowI_take, rowI_splice, rep_all, row_zero, le_nat, Int.toNat_natCast, Nat.zero_add, sok_row, reduceCtorEq]) hg2 (.inr ⟨_, _, _, true, [Sum.inl (.int .u8 (padK kW ivW key nk 92 (j + 1)))], rfl, by simp only [upd_same]; rfl, shows_one, by decide⟩) (by omega) ?_
          intro c4 cs4 hg4
          replace hg3 := hg3.congr (g := padK kW ivW key nk 54) (m := j + 1 + 1) rfl (fun i hi => by
            simp only [joinB]; split
            · rfl
            · rw [show i = j + 1 by omega])
          replace hg4 := hg4.congr (g := padK kW ivW key nk 92) (m := j + 1 + 1) rfl (fun i hi => by
            simp only [joinB]; split
            · rfl
            · rw [show i = j + 1 by omega])
          simp only [hpj, sn_upto, sn_from, slN_def, run_cap, rules, rules2, loopRules, Tryd.facts, base0, Int.toNat_zero, Nat.reduceAdd, Nat.reduceMul, Nat.reduceSub, Nat.reduceLT, Nat.reduceLeDiff, Nat.reduceEqDiff, Int.reduceLE, Int.reduceLT, Int.reduceToNat, Int.reduceNe, Int.reduceEq, not_false_eq_true, Nat.reduceBEq, Nat.reduceDiv, Int.natCast_zero, Int.natCast_one, Int.reduceAdd, Int.reduceSub, reduceIte, ↓reduceIte, Value.oneCell', rowI_length, rowI_take, rowI_splice, rep_all, row_zero, le_nat, Int.toNat_natCast, Nat.zero_add, sok_row, reduceCtorEq]
          refine ⟨((c3, cs3), (c4, cs4)), .inr ⟨hg3, hg4⟩, _, bringsR_2 (p := 116) (q := 122) (by omega) (by decide) (by decide) ?_ (by simp only [upd_apply, sn_upto, sn_from, slN_def, run_cap, rules, rules2, loopRules, Tryd.facts, base0, Int.toNat_zero, Nat.reduceAdd, Nat.reduceMul, Nat.reduceSub, Nat.reduceLT, Nat.reduceLeDiff, Nat.reduceEqDiff, Int.reduceLE, Int.reduceLT, Int.reduceToNat, Int.reduceNe, Int.reduceEq, not_false_eq_true, Nat.reduceBEq, Nat.reduceDiv, Int.natCast_zero, Int.natCast_one, Int.reduceAdd, Int.reduceSub, reduceIte, ↓reduceIte, Value.oneCell', rowI_length, rowI_take, rowI_splice, rep_all, row_zero, le_nat, Int.toNat_natCast, Nat.zero_add, sok_row, reduceCtorEq]) hg3.plain (by simp only [upd_same]) hg4.plain ?_⟩
          · have r0 := ren_low (r := upd (upd (fun n => n) 60 116) 61 122) (fun n hn => by rw [upd_ne _ _ _ _ (by omega), upd_ne _ _ _ _ (by omega)]) ok0
            have r1 := ren_low (r := upd (upd (fun n => n) 60 116) 61 122) (fun n hn => by rw [upd_ne _ _ _ _ (by omega), upd_ne _ _ _ _ (by omega)]) ok1
            have k0 : (k = 60) = False := eq_false (by omega)
            have k1 : (k = 61) = False := eq_false (by omega)
            have o0 := okA ok0
            have o1 := okA ok1
            have k2 : (k < 100) = True := eq_true (by omega)
            simp only [r0, r1, o0, o1, k0, k1, k2, ren_p, ren_s, ren_i, upd_apply, wrapS (j + 1) (by omega), sn_upto, sn_from, slN_def, run_cap, rules, rules2, loopRules, Tryd.facts, base0, Int.toNat_zero, Nat.reduceAdd, Nat.reduceMul, Nat.reduceSub, Nat.reduceLT, Nat.reduceLeDiff, Nat.reduceEqDiff, Int.reduceLE, Int.reduceLT, Int.reduceToNat, Int.reduceNe, Int.reduceEq, not_false_eq_true, Nat.reduceBEq, Nat.reduceDiv, Int.natCast_zero, Int.natCast_one, Int.reduceAdd, Int.reduceSub, reduceIte, ↓reduceIte, Value.oneCell', rowI_length, rowI_take, rowI_splice, rep_all, row_zero, le_nat, Int.toNat_natCast, Nat.zero_add, sok_row, reduceCtorEq]
          · intro x hx
            obtain ⟨h1, h2, h3, h4, h5⟩ := hL x hx
            have Fx := F x hx
            refine ⟨h2, by omega, by omega, ?_, h5⟩
            simp only [Fx 60 (by decide), Fx 61 (by decide), Fx 110 (by decide), Fx 111 (by decide), Fx 115 (by decide), Fx 116 (by decide), Fx 117 (by decide), Fx 121 (by decide), Fx 122 (by decide), h3, upd_apply, sn_upto, sn_from, slN_def, run_cap, rules, rules2, loopRules, Tryd.facts, base0, Int.toNat_zero, Nat.reduceAdd, Nat.reduceMul, Nat.reduceSub, Nat.reduceLT, Nat.reduceLeDiff, Nat.reduceEqDiff, Int.reduceLE, Int.reduceLT, Int.reduceToNat, Int.reduceNe, Int.reduceEq, not_false_eq_true, Nat.reduceBEq, Nat.reduceDiv, Int.natCast_zero, Int.natCast_one, Int.reduceAdd, Int.reduceSub, reduceIte, ↓reduceIte, Value.oneCell', rowI_length, rowI_take, rowI_splice, rep_all, row_zero, le_nat, Int.toNat_natCast, Nat.zero_add, sok_row, reduceCtorEq]
        · rw [if_neg hjn] at hkj
          refine vcIf_no (by simp; omega) ?_
          rw [hkj] at hpj
          simp only [hpj, sn_upto, sn_from, slN_def, run_cap, rules, rules2, loopRules, Tryd.facts, base0, Int.toNat_zero, Nat.reduceAdd, Nat.reduceMul, Nat.reduceSub, Nat.reduceLT, Nat.reduceLeDiff, Nat.reduceEqDiff, Int.reduceLE, Int.reduceLT, Int.reduceToNat, Int.reduceNe, Int.reduceEq, not_false_eq_true, Nat.reduceBEq, Nat.reduceDiv, Int.natCast_zero, Int.natCast_one, Int.reduceAdd, Int.reduceSub, reduceIte, ↓reduceIte, Value.oneCell', rowI_length, rowI_take, rowI_splice, rep_all, row_zero, le_nat, Int.toNat_natCast, Nat.zero_add, sok_row, reduceCtorEq]
          refine append_b (g := fun _ => padK kW ivW key nk 54 (j + 1)) Tryd.mkK34 Tryd.slK34 (by simp only [upd_apply, sn_upto, sn_from, slN_def, run_cap, rules, rules2, loopRules, Tryd.facts, base0, Int.toNat_zero, Nat.reduceAdd, Nat.reduceMul, Nat.reduceSub, Nat.reduceLT, Nat.reduceLeDiff, Nat.reduceEqDiff, Int.reduceLE, Int.reduceLT, Int.reduceToNat, Int.reduceNe, Int.reduceEq, not_false_eq_true, Nat.reduceBEq, Nat.reduceDiv, Int.natCast_zero, Int.natCast_one, Int.reduceAdd, Int.reduceSub, reduceIte, ↓reduceIte, Value.oneCell', rowI_length, rowI_take, rowI_splice, rep_all, row_zero, le_nat, Int.toNat_natCast, Nat.zero_add, sok_row, reduceCtorEq]) hg1 (.inr ⟨_, _, _, true, [Sum.inl (.int .u8 (padK kW ivW key nk 54 (j + 1)))], rfl, by simp only [upd_same]; rfl, shows_one, by decide⟩) (by omega) ?_
          intro c3 cs3 hg3
          simp only [hpj, sn_upto, sn_from, slN_def, run_cap, rules, rules2, loopRules, Tryd.facts, base0, Int.toNat_zero, Nat.reduceAdd, Nat.reduceMul, Nat.reduceSub, Nat.reduceLT, Nat.reduceLeDiff, Nat.reduceEqDiff, Int.reduceLE, Int.reduceLT, Int.reduceToNat, Int.reduceNe, Int.reduceEq, not_false_eq_true, Nat.reduceBEq, Nat.reduceDiv, Int.natCast_zero, Int.natCast_one, Int.reduceAdd, Int.reduceSub, reduceIte, ↓reduceIte, Value.oneCell', rowI_length, rowI_take, rowI_splice, rep_all, row_zero, le_nat, Int.toNat_natCast, Nat.zero_add, sok_row, reduceCtorEq]
          refine append_b (g := fun _ => padK kW ivW key nk 92 (j + 1)) Tryd.mkK34 Tryd.slK34 (by simp only [upd_apply, sn_upto, sn_from, slN_def, run_cap, rules, rules2, loopRules, Tryd.facts, base0, Int.toNat_zero, Nat.reduceAdd, Nat.reduceMul, Nat.reduceSub, Nat.reduceLT, Nat.reduceLeDiff, Nat.reduceEqDiff, Int.reduceLE, Int.reduceLT, Int.reduceToNat, Int.reduceNe, Int.reduceEq, not_false_eq_true, Nat.reduceBEq, Nat.reduceDiv, Int.natCast_zero, Int.natCast_one, Int.reduceAdd, Int.reduceSub, reduceIte, ↓reduceIte, Value.oneCell', rowI_length, rowI_take, rowI_splice, rep_all, row_zero, le_nat, Int.toNat_natCast, Nat.zero_add, sok_row, reduceCtorEq]) hg2 (.inr ⟨_, _, _, true, [Sum.inl (.int .u8 (padK kW ivW key nk 92 (j + 1)))], rfl, by simp only [upd_same]; rfl, shows_one, by decide⟩) (by omega) ?_
          intro c4 cs4 hg4
          replace hg3 := hg3.congr (g := padK kW ivW key nk 54) (m := j + 1 + 1) rfl (fun i hi => by
            simp only [joinB]; split
            · rfl
            · rw [show i = j + 1 by omega])
          replace hg4 := hg4.congr (g := padK kW ivW key nk 92) (m := j + 1 + 1) rfl (fun i hi => by
            simp only [joinB]; split
            · rfl
            · rw [show i = j + 1 by omega])
          simp only [hpj, sn_upto, sn_from, slN_def, run_cap, rules, rules2, loopRules, Tryd.facts, base0, Int.toNat_zero, Nat.reduceAdd, Nat.reduceMul, Nat.reduceSub, Nat.reduceLT, Nat.reduceLeDiff, Nat.reduceEqDiff, Int.reduceLE, Int.reduceLT, Int.reduceToNat, Int.reduceNe, Int.reduceEq, not_false_eq_true, Nat.reduceBEq, Nat.reduceDiv, Int.natCast_zero, Int.natCast_one, Int.reduceAdd, Int.reduceSub, reduceIte, ↓reduceIte, Value.oneCell', rowI_length, rowI_take, rowI_splice, rep_all, row_zero, le_nat, Int.toNat_natCast, Nat.zero_add, sok_row, reduceCtorEq]
          refine ⟨((c3, cs3), (c4, cs4)), .inr ⟨hg3, hg4⟩, _, bringsR_2 (p := 111) (q := 117) (by omega) (by decide) (by decide) ?_ (by simp only [upd_apply, sn_upto, sn_from, slN_def, run_cap, rules, rules2, loopRules, Tryd.facts, base0, Int.toNat_zero, Nat.reduceAdd, Nat.reduceMul, Nat.reduceSub, Nat.reduceLT, Nat.reduceLeDiff, Nat.reduceEqDiff, Int.reduceLE, Int.reduceLT, Int.reduceToNat, Int.reduceNe, Int.reduceEq, not_false_eq_true, Nat.reduceBEq, Nat.reduceDiv, Int.natCast_zero, Int.natCast_one, Int.reduceAdd, Int.reduceSub, reduceIte, ↓reduceIte, Value.oneCell', rowI_length, rowI_take, rowI_splice, rep_all, row_zero, le_nat, Int.toNat_natCast, Nat.zero_add, sok_row, reduceCtorEq]) hg3.plain (by simp only [upd_same]) hg4.plain ?_⟩
          · have r0 := ren_low (r := upd (upd (fun n => n) 60 111) 61 117) (fun n hn => by rw [upd_ne _ _ _ _ (by omega), upd_ne _ _ _ _ (by omega)]) ok0
            have r1 := ren_low (r := upd (upd (fun n => n) 60 111) 61 117) (fun n hn => by rw [upd_ne _ _ _ _ (by omega), upd_ne _ _ _ _ (by omega)]) ok1
            have k0 : (k = 60) = False := eq_false (by omega)
            have k1 : (k = 61) = False := eq_false (by omega)
            have o0 := okA ok0
            have o1 := okA ok1
            have k2 : (k < 100) = True := eq_true (by omega)
            simp only [r0, r1, o0, o1, k0, k1, k2, ren_p, ren_s, ren_i, upd_apply, wrapS (j + 1) (by omega), sn_upto, sn_from, slN_def, run_cap, rules, rules2, loopRules, Tryd.facts, base0, Int.toNat_zero, Nat.reduceAdd, Nat.reduceMul, Nat.reduceSub, Nat.reduceLT, Nat.reduceLeDiff, Nat.reduceEqDiff, Int.reduceLE, Int.reduceLT, Int.reduceToNat, Int.reduceNe, Int.reduceEq, not_false_eq_true, Nat.reduceBEq, Nat.reduceDiv, Int.natCast_zero, Int.natCast_one, Int.reduceAdd, Int.reduceSub, reduceIte, ↓reduceIte, Value.oneCell', rowI_length, rowI_take, rowI_splice, rep_all, row_zero, le_nat, Int.toNat_natCast, Nat.zero_add, sok_row, reduceCtorEq]
          · intro x hx
            obtain ⟨h1, h2, h3, h4, h5⟩ := hL x hx
            have Fx := F x hx
            refine ⟨h2, by omega, by omega, ?_, h5⟩
            simp only [Fx 60 (by decide), Fx 61 (by decide), Fx 110 (by decide), Fx 111 (by decide), Fx 115 (by decide), Fx 116 (by decide), Fx 117 (by decide), Fx 121 (by decide), Fx 122 (by decide), h3, upd_apply, sn_upto, sn_from, slN_def, run_cap, rules, rules2, loopRules, Tryd.facts, base0, Int.toNat_zero, Nat.reduceAdd, Nat.reduceMul, Nat.reduceSub, Nat.reduceLT, Nat.reduceLeDiff, Nat.reduceEqDiff, Int.reduceLE, Int.reduceLT, Int.reduceToNat, Int.reduceNe, Int.reduceEq, not_false_eq_true, Nat.reduceBEq, Nat.reduceDiv, Int.natCast_zero, Int.natCast_one, Int.reduceAdd, Int.reduceSub, reduceIte, ↓reduceIte, Value.oneCell', rowI_length, rowI_take, rowI_splice, rep_all, row_zero, le_nat, Int.toNat_natCast, Nat.zero_add, sok_row, reduceCtorEq]
    · rintro ⟨⟨c1, cs1⟩, c2, cs2⟩ hI
      have hI := hI.resolve_left (by decide)
      obtain ⟨hg1, hg2⟩ := hI
      simp only [sn_upto, sn_from, slN_def, run_cap, rules, rules2, loopRules, Tryd.facts, base0, Int.toNat_zero, Nat.reduceAdd, Nat.reduceMul, Nat.reduceSub, Nat.reduceLT, Nat.reduceLeDiff, Nat.reduceEqDiff, Int.reduceLE, Int.reduceLT, Int.reduceToNat, Int.reduceNe, Int.reduceEq, not_false_eq_true, Nat.reduceBEq, Nat.reduceDiv, Int.natCast_zero, Int.natCast_one, Int.reduceAdd, Int.reduceSub, reduceIte, ↓reduceIte, Value.oneCell', rowI_length, rowI_take, rowI_splice, rep_all, row_zero, le_nat, Int.toNat_natCast, Nat.zero_add, sok_row, reduceCtorEq]
      refine vcIf_no (by simp) ?_
      simp only [sn_upto, sn_from, slN_def, run_cap, rules, rules2, loopRules, Tryd.facts, base0, Int.toNat_zero, Nat.reduceAdd, Nat.reduceMul, Nat.reduceSub, Nat.reduceLT, Nat.reduceLeDiff, Nat.reduceEqDiff, Int.reduceLE, Int.reduceLT, Int.reduceToNat, Int.reduceNe, Int.reduceEq, not_false_eq_true, Nat.reduceBEq, Nat.reduceDiv, Int.natCast_zero, Int.natCast_one, Int.reduceAdd, Int.reduceSub, reduceIte, ↓reduceIte, Value.oneCell', rowI_length, rowI_take, rowI_splice, rep_all, row_zero, le_nat, Int.toNat_natCast, Nat.zero_add, sok_row, reduceCtorEq]
      refine append_b (g := f) Tryd.mkK34 Tryd.slK34 (by simp only [sn_upto, sn_from, slN_def, run_cap, rules, rules2, loopRules, Tryd.facts, base0, Int.toNat_zero, Nat.reduceAdd, Nat.reduceMul, Nat.reduceSub, Nat.reduceLT, Nat.reduceLeDiff, Nat.reduceEqDiff, Int.reduceLE, Int.reduceLT, Int.reduceToNat, Int.reduceNe, Int.reduceEq, not_false_eq_true, Nat.reduceBEq, Nat.reduceDiv, Int.natCast_zero, Int.natCast_one, Int.reduceAdd, Int.reduceSub, reduceIte, ↓reduceIte, Value.oneCell', rowI_length, rowI_take, rowI_splice, rep_all, row_zero, le_nat, Int.toNat_natCast, Nat.zero_add, sok_row, reduceCtorEq]) hg1 (at_off hvm fun t b hb => ?_) (by omega) ?_
      · have f60 := eq_false (p := t = 60) (by have := (hL _ (lk_mem _ _ _ hb)).1; simp only at this; omega)
        have f61 := eq_false (p := t = 61) (by have := (hL _ (lk_mem _ _ _ hb)).1; simp only at this; omega)
        simp only [f60, f61, hb, sn_upto, sn_from, slN_def, run_cap, rules, rules2, loopRules, Tryd.facts, base0, Int.toNat_zero, Nat.reduceAdd, Nat.reduceMul, Nat.reduceSub, Nat.reduceLT, Nat.reduceLeDiff, Nat.reduceEqDiff, Int.reduceLE, Int.reduceLT, Int.reduceToNat, Int.reduceNe, Int.reduceEq, not_false_eq_true, Nat.reduceBEq, Nat.reduceDiv, Int.natCast_zero, Int.natCast_one, Int.reduceAdd, Int.reduceSub, reduceIte, ↓reduceIte, Value.oneCell', rowI_length, rowI_take, rowI_splice, rep_all, row_zero, le_nat, Int.toNat_natCast, Nat.zero_add, sok_row, reduceCtorEq]
      intro c3 cs3 hg3
      simp only [sn_upto, sn_from, slN_def, run_cap, rules, rules2, loopRules, Tryd.facts, base0, Int.toNat_zero, Nat.reduceAdd, Nat.reduceMul, Nat.reduceSub, Nat.reduceLT, Nat.reduceLeDiff, Nat.reduceEqDiff, Int.reduceLE, Int.reduceLT, Int.reduceToNat, Int.reduceNe, Int.reduceEq, not_false_eq_true, Nat.reduceBEq, Nat.reduceDiv, Int.natCast_zero, Int.natCast_one, Int.reduceAdd, Int.reduceSub, reduceIte, ↓reduceIte, Value.oneCell', rowI_length, rowI_take, rowI_splice, rep_all, row_zero, le_nat, Int.toNat_natCast, Nat.zero_add, sok_row, reduceCtorEq]
      refine refDigest_call (rw := true) (joinB_byt (padK_byt _ _ _ _ _) hf) (by simp only [upd_same]) hg3.shows hg3.plain (by omega) ?_
      simp only [sn_upto, sn_from, slN_def, run_cap, rules, rules2, loopRules, Tryd.facts, base0, Int.toNat_zero, Nat.reduceAdd, Nat.reduceMul, Nat.reduceSub, Nat.reduceLT, Nat.reduceLeDiff, Nat.reduceEqDiff, Int.reduceLE, Int.reduceLT, Int.reduceToNat, Int.reduceNe, Int.reduceEq, not_false_eq_true, Nat.reduceBEq, Nat.reduceDiv, Int.natCast_zero, Int.natCast_one, Int.reduceAdd, Int.reduceSub, reduceIte, ↓reduceIte, Value.oneCell', rowI_length, rowI_take, rowI_splice, rep_all, row_zero, le_nat, Int.toNat_natCast, Nat.zero_add, sok_row, reduceCtorEq]
      refine append_b (g := shaW kW ivW (joinB 64 (padK kW ivW key nk 54) f) (64 + m)) Tryd.mkK34 Tryd.slK34 (by simp only [upd_apply, sn_upto, sn_from, slN_def, run_cap, rules, rules2, loopRules, Tryd.facts, base0, Int.toNat_zero, Nat.reduceAdd, Nat.reduceMul, Nat.reduceSub, Nat.reduceLT, Nat.reduceLeDiff, Nat.reduceEqDiff, Int.reduceLE, Int.reduceLT, Int.reduceToNat, Int.reduceNe, Int.reduceEq, not_false_eq_true, Nat.reduceBEq, Nat.reduceDiv, Int.natCast_zero, Int.natCast_one, Int.reduceAdd, Int.reduceSub, reduceIte, ↓reduceIte, Value.oneCell', rowI_length, rowI_take, rowI_splice, rep_all, row_zero, le_nat, Int.toNat_natCast, Nat.zero_add, sok_row, reduceCtorEq]) hg2 (.inr ⟨_, _, _, true, rowI .u8 32 (shaW kW ivW (joinB 64 (padK kW ivW key nk 54) f) (64 + m)), rfl, by simp only [upd_apply, sn_upto, sn_from, slN_def, run_cap, rules, rules2, loopRules, Tryd.facts, base0, Int.toNat_zero, Nat.reduceAdd, Nat.reduceMul, Nat.reduceSub, Nat.reduceLT, Nat.reduceLeDiff, Nat.reduceEqDiff, Int.reduceLE, Int.reduceLT, Int.reduceToNat, Int.reduceNe, Int.reduceEq, not_false_eq_true, Nat.reduceBEq, Nat.reduceDiv, Int.natCast_zero, Int.natCast_one, Int.reduceAdd, Int.reduceSub, reduceIte, ↓reduceIte, Value.oneCell', rowI_length, rowI_take, rowI_splice, rep_all, row_zero, le_nat, Int.toNat_natCast, Nat.zero_add, sok_row, reduceCtorEq], shows_row0, by decide⟩) (by decide) ?_
      intro c4 cs4 hg4
      simp only [sn_upto, sn_from, slN_def, run_cap, rules, rules2, loopRules, Tryd.facts, base0, Int.toNat_zero, Nat.reduceAdd, Nat.reduceMul, Nat.reduceSub, Nat.reduceLT, Nat.reduceLeDiff, Nat.reduceEqDiff, Int.reduceLE, Int.reduceLT, Int.reduceToNat, Int.reduceNe, Int.reduceEq, not_false_eq_true, Nat.reduceBEq, Nat.reduceDiv, Int.natCast_zero, Int.natCast_one, Int.reduceAdd, Int.reduceSub, reduceIte, ↓reduceIte, Value.oneCell', rowI_length, rowI_take, rowI_splice, rep_all, row_zero, le_nat, Int.toNat_natCast, Nat.zero_add, sok_row, reduceCtorEq]
      refine refDigest_call (rw := true) (joinB_byt (padK_byt _ _ _ _ _) (shaW_byt _ _ _ _)) (by simp only [upd_same]) hg4.shows hg4.plain (by decide) ?_
      have q1 : ∀ z, 50 ≤ z → (k = z) = False := fun z hz => eq_false (by omega)
      simp only [q1 60 (by decide), q1 61 (by decide), q1 104 (by decide), q1 108 (by decide), q1 112 (by decide), hcell, sn_upto, sn_from, slN_def, run_cap, rules, rules2, loopRules, Tryd.facts, base0, Int.toNat_zero, Nat.reduceAdd, Nat.reduceMul, Nat.reduceSub, Nat.reduceLT, Nat.reduceLeDiff, Nat.reduceEqDiff, Int.reduceLE, Int.reduceLT, Int.reduceToNat, Int.reduceNe, Int.reduceEq, not_false_eq_true, Nat.reduceBEq, Nat.reduceDiv, Int.natCast_zero, Int.natCast_one, Int.reduceAdd, Int.reduceSub, reduceIte, ↓reduceIte, Value.oneCell', rowI_length, rowI_take, rowI_splice, rep_all, row_zero, le_nat, Int.toNat_natCast, Nat.zero_add, sok_row, reduceCtorEq]
      exact ret_plain plainI ⟨rfl, rfl⟩
theorem refMac_call {s : AS} {nm ta tb o n c o' m c' : Nat} {rwa rwb : Bool} {key f : Nat → Int} {cs ds : List SV} (hkey : Byt key) (hf : Byt f) (hb : s.box ta = some ⟨rwa, cs⟩) (hc : Shows cs o n key) (hp : cs.all SV.plain = true) (hb' : s.box tb = some ⟨rwb, ds⟩) (hc' : Shows ds o' m f) (hp' : ds.all SV.plain = true)
    (hn : n < 90000000) (hm : m < 90000000) {dst : Option Nat} {K : AS → Prop} (hk : K (s.put dst (some (Ag (rowI .u8 32 (macW kW ivW key n f m)))))) : vcCall Tryd.prog nm 15 (some [Sl ta o n c, Sl tb o' m c']) dst K s := by
  refine (refMac_m (k := 2) (l := [(0, ⟨false, cs⟩), (1, ⟨false, ds⟩)]) (vk := Sl 0 o n c) (vm := Sl 1 o' m c') hkey hf (.inr ⟨0, o, c, false, cs, rfl, rfl, hp, hc⟩) (.inr ⟨1, o', c', false, ds, rfl, rfl, hp', hc'⟩) hn hm (by show (0 : Nat) < 2; decide) (by show (1 : Nat) < 2; decide) (fun x hx => ?_) all2 (by decide)).vcRead (two ta tb) (fits2 hb hp hb' hp') plainI rfl hk
  simp only [List.mem_cons, List.not_mem_nil, or_false] at hx
  rcases hx with rfl | rfl
  · exact ⟨by show (0 : Nat) < 2; decide, rfl, hp⟩
  · exact ⟨by show (1 : Nat) < 2; decide, rfl, hp'⟩
/-- How info is handed in: nothing, or box 0. -/
def InfoIs (k : Nat) (l : List (Nat × Box)) (vi : AV) (m : Nat) (info : Nat → Int) : Prop :=
  (k = 0 ∧ l = [] ∧ (∃ a, vi = V (.slice a 0 0)) ∧ m = 0) ∨ (k = 1 ∧ ∃ o c cs, l = [(0, ⟨false, cs⟩)] ∧ vi = Sl 0 o m c ∧ cs.all SV.plain = true ∧ Shows cs o m info)
theorem refParts_0 {k m : Nat} {l : List (Nat × Box)} {vi : AV} {p info : Nat → Int} (hi : InfoIs k l vi m info) : MFun Tryd.prog 22 [Ag (rowI .u8 32 p), vi, I .i64 0] k (lk l) (Made k 0 (okmW kW ivW p info m)) := by
    have hok : AV.ok (fun n => n < k) vi := by
      rcases hi with ⟨rfl, rfl, ⟨a, rfl⟩, rfl⟩ | ⟨rfl, o, c, cs, rfl, rfl, hp, hs⟩
      · trivial
      · show (0 : Nat) < 1; decide
    rcases hi with ⟨rfl, rfl, ⟨a, rfl⟩, rfl⟩ | ⟨rfl, o, c, cs, rfl, rfl, hp, hs⟩
    · refine mfun_of_vc Tryd.func22 rfl (by kernel_rfl) (by simp [Tryd.ntmps22]) Tryd.callable22 (fun u hu => by
        simp only [List.mem_cons, List.not_mem_nil, or_false] at hu
        rcases hu with rfl | rfl | rfl
        · exact ok_all plainI
        · exact hok
        · trivial) (fun n hn => by omega) (fun n c h => by cases h) ?_
      simp only [Tryd.results22, sn_upto, sn_from, slN_def, run_cap, rules, rules2, loopRules, Tryd.facts, base0, Int.toNat_zero, Nat.reduceAdd, Nat.reduceMul, Nat.reduceSub, Nat.reduceLT, Nat.reduceLeDiff, Nat.reduceEqDiff, Int.reduceLE, Int.reduceLT, Int.reduceToNat, Int.reduceNe, Int.reduceEq, not_false_eq_true, Nat.reduceBEq, Nat.reduceDiv, Int.natCast_zero, Int.natCast_one, Int.reduceAdd, Int.reduceSub, reduceIte, ↓reduceIte, Value.oneCell', rowI_length, rowI_take, rowI_splice, rep_all, row_zero, le_nat, Int.toNat_natCast, Nat.zero_add, sok_row, reduceCtorEq]
      refine vcIf_yes rfl ?_
      simp only [sn_upto, sn_from, slN_def, run_cap, rules, rules2, loopRules, Tryd.facts, base0, Int.toNat_zero, Nat.reduceAdd, Nat.reduceMul, Nat.reduceSub, Nat.reduceLT, Nat.reduceLeDiff, Nat.reduceEqDiff, Int.reduceLE, Int.reduceLT, Int.reduceToNat, Int.reduceNe, Int.reduceEq, not_false_eq_true, Nat.reduceBEq, Nat.reduceDiv, Int.natCast_zero, Int.natCast_one, Int.reduceAdd, Int.reduceSub, reduceIte, ↓reduceIte, Value.oneCell', rowI_length, rowI_take, rowI_splice, rep_all, row_zero, le_nat, Int.toNat_natCast, Nat.zero_add, sok_row, reduceCtorEq]
      refine ret_grows (cs := rowI .u8 0 (fun _ => 0)) (f := okmW kW ivW p info 0) (by decide) ⟨rfl, by decide, rfl, fun i hi => by omega⟩ (by simp only [upd_same]) rfl
    · refine mfun_of_vc Tryd.func22 rfl (by kernel_rfl) (by simp [Tryd.ntmps22]) Tryd.callable22 (fun u hu => by
        simp only [List.mem_cons, List.not_mem_nil, or_false] at hu
        rcases hu with rfl | rfl | rfl
        · exact ok_all plainI
        · exact hok
        · trivial) all1 (inn1 hp) ?_
      simp only [Tryd.results22, sn_upto, sn_from, slN_def, run_cap, rules, rules2, loopRules, Tryd.facts, base0, Int.toNat_zero, Nat.reduceAdd, Nat.reduceMul, Nat.reduceSub, Nat.reduceLT, Nat.reduceLeDiff, Nat.reduceEqDiff, Int.reduceLE, Int.reduceLT, Int.reduceToNat, Int.reduceNe, Int.reduceEq, not_false_eq_true, Nat.reduceBEq, Nat.reduceDiv, Int.natCast_zero, Int.natCast_one, Int.reduceAdd, Int.reduceSub, reduceIte, ↓reduceIte, Value.oneCell', rowI_length, rowI_take, rowI_splice, rep_all, row_zero, le_nat, Int.toNat_natCast, Nat.zero_add, sok_row, reduceCtorEq]
      refine vcIf_yes rfl ?_
      simp only [sn_upto, sn_from, slN_def, run_cap, rules, rules2, loopRules, Tryd.facts, base0, Int.toNat_zero, Nat.reduceAdd, Nat.reduceMul, Nat.reduceSub, Nat.reduceLT, Nat.reduceLeDiff, Nat.reduceEqDiff, Int.reduceLE, Int.reduceLT, Int.reduceToNat, Int.reduceNe, Int.reduceEq, not_false_eq_true, Nat.reduceBEq, Nat.reduceDiv, Int.natCast_zero, Int.natCast_one, Int.reduceAdd, Int.reduceSub, reduceIte, ↓reduceIte, Value.oneCell', rowI_length, rowI_take, rowI_splice, rep_all, row_zero, le_nat, Int.toNat_natCast, Nat.zero_add, sok_row, reduceCtorEq]
      refine ret_grows (cs := rowI .u8 0 (fun _ => 0)) (f := okmW kW ivW p info m) (by decide) ⟨rfl, by decide, rfl, fun i hi => by omega⟩ (by simp only [upd_same]) rfl
set_option maxHeartbeats 8000000 in
set_option maxRecDepth 20000 in
theorem refParts_s {k m d : Nat} {l : List (Nat × Box)} {vi : AV} {p info : Nat → Int} (hpb : Byt p) (hib : Byt info) (hi : InfoIs k l vi m info) (hm : m < 80000000) (hd : d < 1000) (ih : MFun Tryd.prog 22 [Ag (rowI .u8 32 p), vi, I .i64 d] k (lk l) (Made k (32 * d) (okmW kW ivW p info m))) :
    MFun Tryd.prog 22 [Ag (rowI .u8 32 p), vi, I .i64 (d + 1 : Nat)] k (lk l) (Made k (32 * (d + 1)) (okmW kW ivW p info m)) := by
    have hok : AV.ok (fun n => n < k) vi := by
      rcases hi with ⟨rfl, rfl, ⟨a, rfl⟩, rfl⟩ | ⟨rfl, o, c, cs, rfl, rfl, hp, hs⟩
      · trivial
      · show (0 : Nat) < 1; decide
    rcases hi with ⟨rfl, rfl, ⟨a, rfl⟩, hm0⟩ | ⟨rfl, o, c, cs, rfl, rfl, hp, hs⟩
    · refine mfun_of_vc Tryd.func22 rfl (by kernel_rfl) (by simp [Tryd.ntmps22]) Tryd.callable22 (fun u hu => by
        simp only [List.mem_cons, List.not_mem_nil, or_false] at hu
        rcases hu with rfl | rfl | rfl
        · exact ok_all plainI
        · exact hok
        · trivial) (fun n hn => by omega) (fun n c h => by cases h) ?_
      simp only [Tryd.results22, sn_upto, sn_from, slN_def, run_cap, rules, rules2, loopRules, Tryd.facts, base0, Int.toNat_zero, Nat.reduceAdd, Nat.reduceMul, Nat.reduceSub, Nat.reduceLT, Nat.reduceLeDiff, Nat.reduceEqDiff, Int.reduceLE, Int.reduceLT, Int.reduceToNat, Int.reduceNe, Int.reduceEq, not_false_eq_true, Nat.reduceBEq, Nat.reduceDiv, Int.natCast_zero, Int.natCast_one, Int.reduceAdd, Int.reduceSub, reduceIte, ↓reduceIte, Value.oneCell', rowI_length, rowI_take, rowI_splice, rep_all, row_zero, le_nat, Int.toNat_natCast, Nat.zero_add, sok_row, reduceCtorEq]
      refine vcIf_no (by simp <;> omega) ?_
      have w0 : IntKind.i64.wrap (((d + 1 : Nat) : Int) - 1) = (d : Int) := by rw [wrap_i64 _ (by omega) (by omega)]; omega
      simp only [w0, sn_upto, sn_from, slN_def, run_cap, rules, rules2, loopRules, Tryd.facts, base0, Int.toNat_zero, Nat.reduceAdd, Nat.reduceMul, Nat.reduceSub, Nat.reduceLT, Nat.reduceLeDiff, Nat.reduceEqDiff, Int.reduceLE, Int.reduceLT, Int.reduceToNat, Int.reduceNe, Int.reduceEq, not_false_eq_true, Nat.reduceBEq, Nat.reduceDiv, Int.natCast_zero, Int.natCast_one, Int.reduceAdd, Int.reduceSub, reduceIte, ↓reduceIte, Value.oneCell', rowI_length, rowI_take, rowI_splice, rep_all, row_zero, le_nat, Int.toNat_natCast, Nat.zero_add, sok_row, reduceCtorEq]
      refine made_call ih (fun n => n) fits0 (by simp only [List.map_cons, List.map_nil, ren_row, ren_i, ren_s, ren_v]) ?_
      intro c1 tail1 h11 h12 h13
      simp only [sn_upto, sn_from, slN_def, run_cap, rules, rules2, loopRules, Tryd.facts, base0, Int.toNat_zero, Nat.reduceAdd, Nat.reduceMul, Nat.reduceSub, Nat.reduceLT, Nat.reduceLeDiff, Nat.reduceEqDiff, Int.reduceLE, Int.reduceLT, Int.reduceToNat, Int.reduceNe, Int.reduceEq, not_false_eq_true, Nat.reduceBEq, Nat.reduceDiv, Int.natCast_zero, Int.natCast_one, Int.reduceAdd, Int.reduceSub, reduceIte, ↓reduceIte, Value.oneCell', rowI_length, rowI_take, rowI_splice, rep_all, row_zero, le_nat, Int.toNat_natCast, Nat.zero_add, sok_row, reduceCtorEq]
      have hgA : Grows (rowI .u8 (32 * d) (okmW kW ivW p info m) ++ tail1) 0 (32 * d) c1 (okmW kW ivW p info m) := Grows.row h11 h12 h13
      have hg0 : Grows (rowI .u8 0 (fun _ => 0)) 0 0 0 (fun _ => 0) := ⟨rfl, by decide, rfl, fun i hi => by omega⟩
      by_cases hd0 : d = 0
      · refine vcIf_no (by simp; omega) ?_
        simp only [sn_upto, sn_from, slN_def, run_cap, rules, rules2, loopRules, Tryd.facts, base0, Int.toNat_zero, Nat.reduceAdd, Nat.reduceMul, Nat.reduceSub, Nat.reduceLT, Nat.reduceLeDiff, Nat.reduceEqDiff, Int.reduceLE, Int.reduceLT, Int.reduceToNat, Int.reduceNe, Int.reduceEq, not_false_eq_true, Nat.reduceBEq, Nat.reduceDiv, Int.natCast_zero, Int.natCast_one, Int.reduceAdd, Int.reduceSub, reduceIte, ↓reduceIte, Value.oneCell', rowI_length, rowI_take, rowI_splice, rep_all, row_zero, le_nat, Int.toNat_natCast, Nat.zero_add, sok_row, reduceCtorEq]
        refine append_b (g := info) Tryd.mkK34 Tryd.slK34 (by simp only [upd_apply, sn_upto, sn_from, slN_def, run_cap, rules, rules2, loopRules, Tryd.facts, base0, Int.toNat_zero, Nat.reduceAdd, Nat.reduceMul, Nat.reduceSub, Nat.reduceLT, Nat.reduceLeDiff, Nat.reduceEqDiff, Int.reduceLE, Int.reduceLT, Int.reduceToNat, Int.reduceNe, Int.reduceEq, not_false_eq_true, Nat.reduceBEq, Nat.reduceDiv, Int.natCast_zero, Int.natCast_one, Int.reduceAdd, Int.reduceSub, reduceIte, ↓reduceIte, Value.oneCell', rowI_length, rowI_take, rowI_splice, rep_all, row_zero, le_nat, Int.toNat_natCast, Nat.zero_add, sok_row, reduceCtorEq]) hg0 (.inl ⟨⟨a, rfl⟩, hm0⟩) (by omega) ?_
        intro c2 cs2 hg2
        replace hg2 := hg2.congr (m := m) (g := info) (by omega) (fun i hi => by simp [joinB])
        simp only [sn_upto, sn_from, slN_def, run_cap, rules, rules2, loopRules, Tryd.facts, base0, Int.toNat_zero, Nat.reduceAdd, Nat.reduceMul, Nat.reduceSub, Nat.reduceLT, Nat.reduceLeDiff, Nat.reduceEqDiff, Int.reduceLE, Int.reduceLT, Int.reduceToNat, Int.reduceNe, Int.reduceEq, not_false_eq_true, Nat.reduceBEq, Nat.reduceDiv, Int.natCast_zero, Int.natCast_one, Int.reduceAdd, Int.reduceSub, reduceIte, ↓reduceIte, Value.oneCell', rowI_length, rowI_take, rowI_splice, rep_all, row_zero, le_nat, Int.toNat_natCast, Nat.zero_add, sok_row, reduceCtorEq]
        refine append_b (g := fun _ => IntKind.u8.wrap ((d + 1 : Nat) : Int)) Tryd.mkK34 Tryd.slK34 (by simp only [upd_apply, sn_upto, sn_from, slN_def, run_cap, rules, rules2, loopRules, Tryd.facts, base0, Int.toNat_zero, Nat.reduceAdd, Nat.reduceMul, Nat.reduceSub, Nat.reduceLT, Nat.reduceLeDiff, Nat.reduceEqDiff, Int.reduceLE, Int.reduceLT, Int.reduceToNat, Int.reduceNe, Int.reduceEq, not_false_eq_true, Nat.reduceBEq, Nat.reduceDiv, Int.natCast_zero, Int.natCast_one, Int.reduceAdd, Int.reduceSub, reduceIte, ↓reduceIte, Value.oneCell', rowI_length, rowI_take, rowI_splice, rep_all, row_zero, le_nat, Int.toNat_natCast, Nat.zero_add, sok_row, reduceCtorEq]) hg2 (.inr ⟨_, _, _, true, [Sum.inl (.int .u8 (IntKind.u8.wrap ((d + 1 : Nat) : Int)))], rfl, by simp only [upd_same]; rfl, shows_one, by decide⟩) (by omega) ?_
        intro c3 cs3 hg3
        simp only [sn_upto, sn_from, slN_def, run_cap, rules, rules2, loopRules, Tryd.facts, base0, Int.toNat_zero, Nat.reduceAdd, Nat.reduceMul, Nat.reduceSub, Nat.reduceLT, Nat.reduceLeDiff, Nat.reduceEqDiff, Int.reduceLE, Int.reduceLT, Int.reduceToNat, Int.reduceNe, Int.reduceEq, not_false_eq_true, Nat.reduceBEq, Nat.reduceDiv, Int.natCast_zero, Int.natCast_one, Int.reduceAdd, Int.reduceSub, reduceIte, ↓reduceIte, Value.oneCell', rowI_length, rowI_take, rowI_splice, rep_all, row_zero, le_nat, Int.toNat_natCast, Nat.zero_add, sok_row, reduceCtorEq]
        refine refMac_call (rwa := true) (rwb := true) hpb (joinB_byt hib (fun _ => byteB _)) (by simp only [upd_apply, sn_upto, sn_from, slN_def, run_cap, rules, rules2, loopRules, Tryd.facts, base0, Int.toNat_zero, Nat.reduceAdd, Nat.reduceMul, Nat.reduceSub, Nat.reduceLT, Nat.reduceLeDiff, Nat.reduceEqDiff, Int.reduceLE, Int.reduceLT, Int.reduceToNat, Int.reduceNe, Int.reduceEq, not_false_eq_true, Nat.reduceBEq, Nat.reduceDiv, Int.natCast_zero, Int.natCast_one, Int.reduceAdd, Int.reduceSub, reduceIte, ↓reduceIte, Value.oneCell', rowI_length, rowI_take, rowI_splice, rep_all, row_zero, le_nat, Int.toNat_natCast, Nat.zero_add, sok_row, reduceCtorEq]) shows_row0 plainI (by simp only [upd_apply, sn_upto, sn_from, slN_def, run_cap, rules, rules2, loopRules, Tryd.facts, base0, Int.toNat_zero, Nat.reduceAdd, Nat.reduceMul, Nat.reduceSub, Nat.reduceLT, Nat.reduceLeDiff, Nat.reduceEqDiff, Int.reduceLE, Int.reduceLT, Int.reduceToNat, Int.reduceNe, Int.reduceEq, not_false_eq_true, Nat.reduceBEq, Nat.reduceDiv, Int.natCast_zero, Int.natCast_one, Int.reduceAdd, Int.reduceSub, reduceIte, ↓reduceIte, Value.oneCell', rowI_length, rowI_take, rowI_splice, rep_all, row_zero, le_nat, Int.toNat_natCast, Nat.zero_add, sok_row, reduceCtorEq]) hg3.shows hg3.plain (by decide) (by omega) ?_
        have hT : macW kW ivW p 32 (joinB m info (fun _ => IntKind.u8.wrap ((d + 1 : Nat) : Int))) (m + 1) = hkT kW ivW p info m (d + 1) := by
          show _ = macW kW ivW p 32 (if d = 0 then _ else _) ((if d = 0 then 0 else 32) + (m + 1))
          rw [if_pos hd0, if_pos hd0, Nat.zero_add, hd0]
          rfl
        rw [hT]
        have hA := fun i hi => okm_at (K := kW) (V := ivW) (p := p) (info := info) (m := m) (k := d) (i := i) hi
        obtain ⟨T, hTe⟩ : ∃ T, hkT kW ivW p info m (d + 1) = T := ⟨_, rfl⟩
        rw [hTe] at hA ⊢
        simp only [sn_upto, sn_from, slN_def, run_cap, rules, rules2, loopRules, Tryd.facts, base0, Int.toNat_zero, Nat.reduceAdd, Nat.reduceMul, Nat.reduceSub, Nat.reduceLT, Nat.reduceLeDiff, Nat.reduceEqDiff, Int.reduceLE, Int.reduceLT, Int.reduceToNat, Int.reduceNe, Int.reduceEq, not_false_eq_true, Nat.reduceBEq, Nat.reduceDiv, Int.natCast_zero, Int.natCast_one, Int.reduceAdd, Int.reduceSub, reduceIte, ↓reduceIte, Value.oneCell', rowI_length, rowI_take, rowI_splice, rep_all, row_zero, le_nat, Int.toNat_natCast, Nat.zero_add, sok_row, reduceCtorEq]
        refine append_b (g := T) Tryd.mkK34 Tryd.slK34 (by simp only [upd_apply, sn_upto, sn_from, slN_def, run_cap, rules, rules2, loopRules, Tryd.facts, base0, Int.toNat_zero, Nat.reduceAdd, Nat.reduceMul, Nat.reduceSub, Nat.reduceLT, Nat.reduceLeDiff, Nat.reduceEqDiff, Int.reduceLE, Int.reduceLT, Int.reduceToNat, Int.reduceNe, Int.reduceEq, not_false_eq_true, Nat.reduceBEq, Nat.reduceDiv, Int.natCast_zero, Int.natCast_one, Int.reduceAdd, Int.reduceSub, reduceIte, ↓reduceIte, Value.oneCell', rowI_length, rowI_take, rowI_splice, rep_all, row_zero, le_nat, Int.toNat_natCast, Nat.zero_add, sok_row, reduceCtorEq]) hgA (.inr ⟨_, 0, 32, true, rowI .u8 32 T, rfl, by simp only [upd_apply, sn_upto, sn_from, slN_def, run_cap, rules, rules2, loopRules, Tryd.facts, base0, Int.toNat_zero, Nat.reduceAdd, Nat.reduceMul, Nat.reduceSub, Nat.reduceLT, Nat.reduceLeDiff, Nat.reduceEqDiff, Int.reduceLE, Int.reduceLT, Int.reduceToNat, Int.reduceNe, Int.reduceEq, not_false_eq_true, Nat.reduceBEq, Nat.reduceDiv, Int.natCast_zero, Int.natCast_one, Int.reduceAdd, Int.reduceSub, reduceIte, ↓reduceIte, Value.oneCell', rowI_length, rowI_take, rowI_splice, rep_all, row_zero, le_nat, Int.toNat_natCast, Nat.zero_add, sok_row, reduceCtorEq], shows_row0, by decide⟩) (by omega) ?_
        intro c4 cs4 hg4
        simp only [sn_upto, sn_from, slN_def, run_cap, rules, rules2, loopRules, Tryd.facts, base0, Int.toNat_zero, Nat.reduceAdd, Nat.reduceMul, Nat.reduceSub, Nat.reduceLT, Nat.reduceLeDiff, Nat.reduceEqDiff, Int.reduceLE, Int.reduceLT, Int.reduceToNat, Int.reduceNe, Int.reduceEq, not_false_eq_true, Nat.reduceBEq, Nat.reduceDiv, Int.natCast_zero, Int.natCast_one, Int.reduceAdd, Int.reduceSub, reduceIte, ↓reduceIte, Value.oneCell', rowI_length, rowI_take, rowI_splice, rep_all, row_zero, le_nat, Int.toNat_natCast, Nat.zero_add, sok_row, reduceCtorEq]
        exact ret_grows (by decide) (hg4.congr (m := 32 * (d + 1)) (by omega) (fun i hi => by
          simp only [joinB]; split
          · rfl
          · rw [← hA _ (by omega), show 32 * d + (i - 32 * d) = i by omega])) (by simp only [upd_same]) rfl
      · refine vcIf_yes (by simp; omega) ?_
        have w1 : IntKind.i64.wrap (((32 * d : Nat) : Int) - 32) = ((32 * d - 32 : Nat) : Int) := by rw [wrap_i64 _ (by omega) (by omega)]; omega
        have a1 : (((32 * d - 32 : Nat) : Int) ≤ ((32 * d : Nat) : Int)) = True := eq_true (by omega)
        have a2 : (((32 * d : Nat) : Int) ≤ (c1 : Int)) = True := eq_true (by omega)
        have hL : Shows (rowI .u8 (32 * d) (okmW kW ivW p info m) ++ tail1) (if c1 = 32 * d - 32 then 0 else 32 * d - 32) 32 (hkT kW ivW p info m d) := by
          rw [if_neg (by omega)]
          have h := shows_sub hgA.shows (32 * d - 32) 32 (by omega)
          rw [Nat.zero_add] at h
          refine shows_congr h fun i hi => ?_
          have := okm_at (K := kW) (V := ivW) (p := p) (info := info) (m := m) (k := d - 1) (i := i) hi
          rw [show 32 * (d - 1) + i = 32 * d - 32 + i by omega, show d - 1 + 1 = d by omega] at this
          exact this
        have e32 : 32 * d - (32 * d - 32) = 32 := by omega
        simp only [w1, a1, a2, e32, nat_nn, sn_upto, sn_from, slN_def, run_cap, rules, rules2, loopRules, Tryd.facts, base0, Int.toNat_zero, Nat.reduceAdd, Nat.reduceMul, Nat.reduceSub, Nat.reduceLT, Nat.reduceLeDiff, Nat.reduceEqDiff, Int.reduceLE, Int.reduceLT, Int.reduceToNat, Int.reduceNe, Int.reduceEq, not_false_eq_true, Nat.reduceBEq, Nat.reduceDiv, Int.natCast_zero, Int.natCast_one, Int.reduceAdd, Int.reduceSub, reduceIte, ↓reduceIte, Value.oneCell', rowI_length, rowI_take, rowI_splice, rep_all, row_zero, le_nat, Int.toNat_natCast, Nat.zero_add, sok_row, reduceCtorEq]
        generalize (if c1 = 32 * d - 32 then 0 else 32 * d - 32) = oL at hL ⊢
        refine append_b (g := hkT kW ivW p info m d) Tryd.mkK34 Tryd.slK34 (by simp only [upd_apply, sn_upto, sn_from, slN_def, run_cap, rules, rules2, loopRules, Tryd.facts, base0, Int.toNat_zero, Nat.reduceAdd, Nat.reduceMul, Nat.reduceSub, Nat.reduceLT, Nat.reduceLeDiff, Nat.reduceEqDiff, Int.reduceLE, Int.reduceLT, Int.reduceToNat, Int.reduceNe, Int.reduceEq, not_false_eq_true, Nat.reduceBEq, Nat.reduceDiv, Int.natCast_zero, Int.natCast_one, Int.reduceAdd, Int.reduceSub, reduceIte, ↓reduceIte, Value.oneCell', rowI_length, rowI_take, rowI_splice, rep_all, row_zero, le_nat, Int.toNat_natCast, Nat.zero_add, sok_row, reduceCtorEq]) hg0 (.inr ⟨_, _, _, true, _, rfl, by simp only [upd_apply, sn_upto, sn_from, slN_def, run_cap, rules, rules2, loopRules, Tryd.facts, base0, Int.toNat_zero, Nat.reduceAdd, Nat.reduceMul, Nat.reduceSub, Nat.reduceLT, Nat.reduceLeDiff, Nat.reduceEqDiff, Int.reduceLE, Int.reduceLT, Int.reduceToNat, Int.reduceNe, Int.reduceEq, not_false_eq_true, Nat.reduceBEq, Nat.reduceDiv, Int.natCast_zero, Int.natCast_one, Int.reduceAdd, Int.reduceSub, reduceIte, ↓reduceIte, Value.oneCell', rowI_length, rowI_take, rowI_splice, rep_all, row_zero, le_nat, Int.toNat_natCast, Nat.zero_add, sok_row, reduceCtorEq], hL, by decide⟩) (by decide) ?_
        intro c5 cs5 hg5
        replace hg5 := hg5.congr (m := 32) (g := hkT kW ivW p info m d) (by omega) (fun i hi => by simp [joinB])
        simp only [sn_upto, sn_from, slN_def, run_cap, rules, rules2, loopRules, Tryd.facts, base0, Int.toNat_zero, Nat.reduceAdd, Nat.reduceMul, Nat.reduceSub, Nat.reduceLT, Nat.reduceLeDiff, Nat.reduceEqDiff, Int.reduceLE, Int.reduceLT, Int.reduceToNat, Int.reduceNe, Int.reduceEq, not_false_eq_true, Nat.reduceBEq, Nat.reduceDiv, Int.natCast_zero, Int.natCast_one, Int.reduceAdd, Int.reduceSub, reduceIte, ↓reduceIte, Value.oneCell', rowI_length, rowI_take, rowI_splice, rep_all, row_zero, le_nat, Int.toNat_natCast, Nat.zero_add, sok_row, reduceCtorEq]
        refine append_b (g := info) Tryd.mkK34 Tryd.slK34 (by simp only [upd_apply, sn_upto, sn_from, slN_def, run_cap, rules, rules2, loopRules, Tryd.facts, base0, Int.toNat_zero, Nat.reduceAdd, Nat.reduceMul, Nat.reduceSub, Nat.reduceLT, Nat.reduceLeDiff, Nat.reduceEqDiff, Int.reduceLE, Int.reduceLT, Int.reduceToNat, Int.reduceNe, Int.reduceEq, not_false_eq_true, Nat.reduceBEq, Nat.reduceDiv, Int.natCast_zero, Int.natCast_one, Int.reduceAdd, Int.reduceSub, reduceIte, ↓reduceIte, Value.oneCell', rowI_length, rowI_take, rowI_splice, rep_all, row_zero, le_nat, Int.toNat_natCast, Nat.zero_add, sok_row, reduceCtorEq]) hg5 (.inl ⟨⟨a, rfl⟩, hm0⟩) (by omega) ?_
        intro c2 cs2 hg2
        simp only [sn_upto, sn_from, slN_def, run_cap, rules, rules2, loopRules, Tryd.facts, base0, Int.toNat_zero, Nat.reduceAdd, Nat.reduceMul, Nat.reduceSub, Nat.reduceLT, Nat.reduceLeDiff, Nat.reduceEqDiff, Int.reduceLE, Int.reduceLT, Int.reduceToNat, Int.reduceNe, Int.reduceEq, not_false_eq_true, Nat.reduceBEq, Nat.reduceDiv, Int.natCast_zero, Int.natCast_one, Int.reduceAdd, Int.reduceSub, reduceIte, ↓reduceIte, Value.oneCell', rowI_length, rowI_take, rowI_splice, rep_all, row_zero, le_nat, Int.toNat_natCast, Nat.zero_add, sok_row, reduceCtorEq]
        refine append_b (g := fun _ => IntKind.u8.wrap ((d + 1 : Nat) : Int)) Tryd.mkK34 Tryd.slK34 (by simp only [upd_apply, sn_upto, sn_from, slN_def, run_cap, rules, rules2, loopRules, Tryd.facts, base0, Int.toNat_zero, Nat.reduceAdd, Nat.reduceMul, Nat.reduceSub, Nat.reduceLT, Nat.reduceLeDiff, Nat.reduceEqDiff, Int.reduceLE, Int.reduceLT, Int.reduceToNat, Int.reduceNe, Int.reduceEq, not_false_eq_true, Nat.reduceBEq, Nat.reduceDiv, Int.natCast_zero, Int.natCast_one, Int.reduceAdd, Int.reduceSub, reduceIte, ↓reduceIte, Value.oneCell', rowI_length, rowI_take, rowI_splice, rep_all, row_zero, le_nat, Int.toNat_natCast, Nat.zero_add, sok_row, reduceCtorEq]) hg2 (.inr ⟨_, _, _, true, [Sum.inl (.int .u8 (IntKind.u8.wrap ((d + 1 : Nat) : Int)))], rfl, by simp only [upd_same]; rfl, shows_one, by decide⟩) (by omega) ?_
        intro c3 cs3 hg3
        simp only [sn_upto, sn_from, slN_def, run_cap, rules, rules2, loopRules, Tryd.facts, base0, Int.toNat_zero, Nat.reduceAdd, Nat.reduceMul, Nat.reduceSub, Nat.reduceLT, Nat.reduceLeDiff, Nat.reduceEqDiff, Int.reduceLE, Int.reduceLT, Int.reduceToNat, Int.reduceNe, Int.reduceEq, not_false_eq_true, Nat.reduceBEq, Nat.reduceDiv, Int.natCast_zero, Int.natCast_one, Int.reduceAdd, Int.reduceSub, reduceIte, ↓reduceIte, Value.oneCell', rowI_length, rowI_take, rowI_splice, rep_all, row_zero, le_nat, Int.toNat_natCast, Nat.zero_add, sok_row, reduceCtorEq]
        refine refMac_call (rwa := true) (rwb := true) hpb (joinB_byt (joinB_byt (hkT_byt _ _ _ _ _ _) hib) (fun _ => byteB _)) (by simp only [upd_apply, sn_upto, sn_from, slN_def, run_cap, rules, rules2, loopRules, Tryd.facts, base0, Int.toNat_zero, Nat.reduceAdd, Nat.reduceMul, Nat.reduceSub, Nat.reduceLT, Nat.reduceLeDiff, Nat.reduceEqDiff, Int.reduceLE, Int.reduceLT, Int.reduceToNat, Int.reduceNe, Int.reduceEq, not_false_eq_true, Nat.reduceBEq, Nat.reduceDiv, Int.natCast_zero, Int.natCast_one, Int.reduceAdd, Int.reduceSub, reduceIte, ↓reduceIte, Value.oneCell', rowI_length, rowI_take, rowI_splice, rep_all, row_zero, le_nat, Int.toNat_natCast, Nat.zero_add, sok_row, reduceCtorEq]) shows_row0 plainI (by simp only [upd_apply, sn_upto, sn_from, slN_def, run_cap, rules, rules2, loopRules, Tryd.facts, base0, Int.toNat_zero, Nat.reduceAdd, Nat.reduceMul, Nat.reduceSub, Nat.reduceLT, Nat.reduceLeDiff, Nat.reduceEqDiff, Int.reduceLE, Int.reduceLT, Int.reduceToNat, Int.reduceNe, Int.reduceEq, not_false_eq_true, Nat.reduceBEq, Nat.reduceDiv, Int.natCast_zero, Int.natCast_one, Int.reduceAdd, Int.reduceSub, reduceIte, ↓reduceIte, Value.oneCell', rowI_length, rowI_take, rowI_splice, rep_all, row_zero, le_nat, Int.toNat_natCast, Nat.zero_add, sok_row, reduceCtorEq]) hg3.shows hg3.plain (by decide) (by omega) ?_
        have hT : macW kW ivW p 32 (joinB (32 + m) (joinB 32 (hkT kW ivW p info m d) info) (fun _ => IntKind.u8.wrap ((d + 1 : Nat) : Int))) (32 + m + 1) = hkT kW ivW p info m (d + 1) := by
          show _ = macW kW ivW p 32 (if d = 0 then _ else joinB 32 (hkT kW ivW p info m d) (joinB m info (fun _ => IntKind.u8.wrap ((d + 1 : Nat) : Int)))) ((if d = 0 then 0 else 32) + (m + 1))
          rw [if_neg hd0, if_neg hd0, show 32 + (m + 1) = 32 + m + 1 by omega]
          refine macW_cong (fun _ _ => rfl) fun i hi => ?_
          simp only [joinB]
          by_cases h1 : i < 32
          · rw [if_pos (by omega), if_pos h1, if_pos h1]
          · rw [if_neg h1, if_neg h1]
            by_cases h2 : i < 32 + m
            · rw [if_pos h2, if_pos (by omega)]
            · rw [if_neg h2, if_neg (by omega)]
        rw [hT]
        have hA := fun i hi => okm_at (K := kW) (V := ivW) (p := p) (info := info) (m := m) (k := d) (i := i) hi
        obtain ⟨T, hTe⟩ : ∃ T, hkT kW ivW p info m (d + 1) = T := ⟨_, rfl⟩
        rw [hTe] at hA ⊢
        simp only [sn_upto, sn_from, slN_def, run_cap, rules, rules2, loopRules, Tryd.facts, base0, Int.toNat_zero, Nat.reduceAdd, Nat.reduceMul, Nat.reduceSub, Nat.reduceLT, Nat.reduceLeDiff, Nat.reduceEqDiff, Int.reduceLE, Int.reduceLT, Int.reduceToNat, Int.reduceNe, Int.reduceEq, not_false_eq_true, Nat.reduceBEq, Nat.reduceDiv, Int.natCast_zero, Int.natCast_one, Int.reduceAdd, Int.reduceSub, reduceIte, ↓reduceIte, Value.oneCell', rowI_length, rowI_take, rowI_splice, rep_all, row_zero, le_nat, Int.toNat_natCast, Nat.zero_add, sok_row, reduceCtorEq]
        refine append_b (g := T) Tryd.mkK34 Tryd.slK34 (by simp only [upd_apply, sn_upto, sn_from, slN_def, run_cap, rules, rules2, loopRules, Tryd.facts, base0, Int.toNat_zero, Nat.reduceAdd, Nat.reduceMul, Nat.reduceSub, Nat.reduceLT, Nat.reduceLeDiff, Nat.reduceEqDiff, Int.reduceLE, Int.reduceLT, Int.reduceToNat, Int.reduceNe, Int.reduceEq, not_false_eq_true, Nat.reduceBEq, Nat.reduceDiv, Int.natCast_zero, Int.natCast_one, Int.reduceAdd, Int.reduceSub, reduceIte, ↓reduceIte, Value.oneCell', rowI_length, rowI_take, rowI_splice, rep_all, row_zero, le_nat, Int.toNat_natCast, Nat.zero_add, sok_row, reduceCtorEq]) hgA (.inr ⟨_, 0, 32, true, rowI .u8 32 T, rfl, by simp only [upd_apply, sn_upto, sn_from, slN_def, run_cap, rules, rules2, loopRules, Tryd.facts, base0, Int.toNat_zero, Nat.reduceAdd, Nat.reduceMul, Nat.reduceSub, Nat.reduceLT, Nat.reduceLeDiff, Nat.reduceEqDiff, Int.reduceLE, Int.reduceLT, Int.reduceToNat, Int.reduceNe, Int.reduceEq, not_false_eq_true, Nat.reduceBEq, Nat.reduceDiv, Int.natCast_zero, Int.natCast_one, Int.reduceAdd, Int.reduceSub, reduceIte, ↓reduceIte, Value.oneCell', rowI_length, rowI_take, rowI_splice, rep_all, row_zero, le_nat, Int.toNat_natCast, Nat.zero_add, sok_row, reduceCtorEq], shows_row0, by decide⟩) (by omega) ?_
        intro c4 cs4 hg4
        simp only [sn_upto, sn_from, slN_def, run_cap, rules, rules2, loopRules, Tryd.facts, base0, Int.toNat_zero, Nat.reduceAdd, Nat.reduceMul, Nat.reduceSub, Nat.reduceLT, Nat.reduceLeDiff, Nat.reduceEqDiff, Int.reduceLE, Int.reduceLT, Int.reduceToNat, Int.reduceNe, Int.reduceEq, not_false_eq_true, Nat.reduceBEq, Nat.reduceDiv, Int.natCast_zero, Int.natCast_one, Int.reduceAdd, Int.reduceSub, reduceIte, ↓reduceIte, Value.oneCell', rowI_length, rowI_take, rowI_splice, rep_all, row_zero, le_nat, Int.toNat_natCast, Nat.zero_add, sok_row, reduceCtorEq]
        exact ret_grows (by decide) (hg4.congr (m := 32 * (d + 1)) (by omega) (fun i hi => by
          simp only [joinB]; split
          · rfl
          · rw [← hA _ (by omega), show 32 * d + (i - 32 * d) = i by omega])) (by simp only [upd_same]) rfl
    · refine mfun_of_vc Tryd.func22 rfl (by kernel_rfl) (by simp [Tryd.ntmps22]) Tryd.callable22 (fun u hu => by
        simp only [List.mem_cons, List.not_mem_nil, or_false] at hu
        rcases hu with rfl | rfl | rfl
        · exact ok_all plainI
        · exact hok
        · trivial) all1 (inn1 hp) ?_
      simp only [Tryd.results22, sn_upto, sn_from, slN_def, run_cap, rules, rules2, loopRules, Tryd.facts, base0, Int.toNat_zero, Nat.reduceAdd, Nat.reduceMul, Nat.reduceSub, Nat.reduceLT, Nat.reduceLeDiff, Nat.reduceEqDiff, Int.reduceLE, Int.reduceLT, Int.reduceToNat, Int.reduceNe, Int.reduceEq, not_false_eq_true, Nat.reduceBEq, Nat.reduceDiv, Int.natCast_zero, Int.natCast_one, Int.reduceAdd, Int.reduceSub, reduceIte, ↓reduceIte, Value.oneCell', rowI_length, rowI_take, rowI_splice, rep_all, row_zero, le_nat, Int.toNat_natCast, Nat.zero_add, sok_row, reduceCtorEq]
      refine vcIf_no (by simp <;> omega) ?_
      have w0 : IntKind.i64.wrap (((d + 1 : Nat) : Int) - 1) = (d : Int) := by rw [wrap_i64 _ (by omega) (by omega)]; omega
      simp only [w0, sn_upto, sn_from, slN_def, run_cap, rules, rules2, loopRules, Tryd.facts, base0, Int.toNat_zero, Nat.reduceAdd, Nat.reduceMul, Nat.reduceSub, Nat.reduceLT, Nat.reduceLeDiff, Nat.reduceEqDiff, Int.reduceLE, Int.reduceLT, Int.reduceToNat, Int.reduceNe, Int.reduceEq, not_false_eq_true, Nat.reduceBEq, Nat.reduceDiv, Int.natCast_zero, Int.natCast_one, Int.reduceAdd, Int.reduceSub, reduceIte, ↓reduceIte, Value.oneCell', rowI_length, rowI_take, rowI_splice, rep_all, row_zero, le_nat, Int.toNat_natCast, Nat.zero_add, sok_row, reduceCtorEq]
      refine made_call ih (fun _ => 0) (fits1 (rw := false) (by simp only [upd_apply, sn_upto, sn_from, slN_def, run_cap, rules, rules2, loopRules, Tryd.facts, base0, Int.toNat_zero, Nat.reduceAdd, Nat.reduceMul, Nat.reduceSub, Nat.reduceLT, Nat.reduceLeDiff, Nat.reduceEqDiff, Int.reduceLE, Int.reduceLT, Int.reduceToNat, Int.reduceNe, Int.reduceEq, not_false_eq_true, Nat.reduceBEq, Nat.reduceDiv, Int.natCast_zero, Int.natCast_one, Int.reduceAdd, Int.reduceSub, reduceIte, ↓reduceIte, Value.oneCell', rowI_length, rowI_take, rowI_splice, rep_all, row_zero, le_nat, Int.toNat_natCast, Nat.zero_add, sok_row, reduceCtorEq]) hp) (by simp only [List.map_cons, List.map_nil, ren_row, ren_i, ren_s, ren_v]) ?_
      intro c1 tail1 h11 h12 h13
      simp only [sn_upto, sn_from, slN_def, run_cap, rules, rules2, loopRules, Tryd.facts, base0, Int.toNat_zero, Nat.reduceAdd, Nat.reduceMul, Nat.reduceSub, Nat.reduceLT, Nat.reduceLeDiff, Nat.reduceEqDiff, Int.reduceLE, Int.reduceLT, Int.reduceToNat, Int.reduceNe, Int.reduceEq, not_false_eq_true, Nat.reduceBEq, Nat.reduceDiv, Int.natCast_zero, Int.natCast_one, Int.reduceAdd, Int.reduceSub, reduceIte, ↓reduceIte, Value.oneCell', rowI_length, rowI_take, rowI_splice, rep_all, row_zero, le_nat, Int.toNat_natCast, Nat.zero_add, sok_row, reduceCtorEq]
      have hgA : Grows (rowI .u8 (32 * d) (okmW kW ivW p info m) ++ tail1) 0 (32 * d) c1 (okmW kW ivW p info m) := Grows.row h11 h12 h13
      have hg0 : Grows (rowI .u8 0 (fun _ => 0)) 0 0 0 (fun _ => 0) := ⟨rfl, by decide, rfl, fun i hi => by omega⟩
      by_cases hd0 : d = 0
      · refine vcIf_no (by simp; omega) ?_
        simp only [sn_upto, sn_from, slN_def, run_cap, rules, rules2, loopRules, Tryd.facts, base0, Int.toNat_zero, Nat.reduceAdd, Nat.reduceMul, Nat.reduceSub, Nat.reduceLT, Nat.reduceLeDiff, Nat.reduceEqDiff, Int.reduceLE, Int.reduceLT, Int.reduceToNat, Int.reduceNe, Int.reduceEq, not_false_eq_true, Nat.reduceBEq, Nat.reduceDiv, Int.natCast_zero, Int.natCast_one, Int.reduceAdd, Int.reduceSub, reduceIte, ↓reduceIte, Value.oneCell', rowI_length, rowI_take, rowI_splice, rep_all, row_zero, le_nat, Int.toNat_natCast, Nat.zero_add, sok_row, reduceCtorEq]
        refine append_b (g := info) Tryd.mkK34 Tryd.slK34 (by simp only [upd_apply, sn_upto, sn_from, slN_def, run_cap, rules, rules2, loopRules, Tryd.facts, base0, Int.toNat_zero, Nat.reduceAdd, Nat.reduceMul, Nat.reduceSub, Nat.reduceLT, Nat.reduceLeDiff, Nat.reduceEqDiff, Int.reduceLE, Int.reduceLT, Int.reduceToNat, Int.reduceNe, Int.reduceEq, not_false_eq_true, Nat.reduceBEq, Nat.reduceDiv, Int.natCast_zero, Int.natCast_one, Int.reduceAdd, Int.reduceSub, reduceIte, ↓reduceIte, Value.oneCell', rowI_length, rowI_take, rowI_splice, rep_all, row_zero, le_nat, Int.toNat_natCast, Nat.zero_add, sok_row, reduceCtorEq]) hg0 (.inr ⟨0, o, c, false, cs, rfl, by simp only [upd_apply, sn_upto, sn_from, slN_def, run_cap, rules, rules2, loopRules, Tryd.facts, base0, Int.toNat_zero, Nat.reduceAdd, Nat.reduceMul, Nat.reduceSub, Nat.reduceLT, Nat.reduceLeDiff, Nat.reduceEqDiff, Int.reduceLE, Int.reduceLT, Int.reduceToNat, Int.reduceNe, Int.reduceEq, not_false_eq_true, Nat.reduceBEq, Nat.reduceDiv, Int.natCast_zero, Int.natCast_one, Int.reduceAdd, Int.reduceSub, reduceIte, ↓reduceIte, Value.oneCell', rowI_length, rowI_take, rowI_splice, rep_all, row_zero, le_nat, Int.toNat_natCast, Nat.zero_add, sok_row, reduceCtorEq], hs, by decide⟩) (by omega) ?_
        intro c2 cs2 hg2
        replace hg2 := hg2.congr (m := m) (g := info) (by omega) (fun i hi => by simp [joinB])
        simp only [sn_upto, sn_from, slN_def, run_cap, rules, rules2, loopRules, Tryd.facts, base0, Int.toNat_zero, Nat.reduceAdd, Nat.reduceMul, Nat.reduceSub, Nat.reduceLT, Nat.reduceLeDiff, Nat.reduceEqDiff, Int.reduceLE, Int.reduceLT, Int.reduceToNat, Int.reduceNe, Int.reduceEq, not_false_eq_true, Nat.reduceBEq, Nat.reduceDiv, Int.natCast_zero, Int.natCast_one, Int.reduceAdd, Int.reduceSub, reduceIte, ↓reduceIte, Value.oneCell', rowI_length, rowI_take, rowI_splice, rep_all, row_zero, le_nat, Int.toNat_natCast, Nat.zero_add, sok_row, reduceCtorEq]
        refine append_b (g := fun _ => IntKind.u8.wrap ((d + 1 : Nat) : Int)) Tryd.mkK34 Tryd.slK34 (by simp only [upd_apply, sn_upto, sn_from, slN_def, run_cap, rules, rules2, loopRules, Tryd.facts, base0, Int.toNat_zero, Nat.reduceAdd, Nat.reduceMul, Nat.reduceSub, Nat.reduceLT, Nat.reduceLeDiff, Nat.reduceEqDiff, Int.reduceLE, Int.reduceLT, Int.reduceToNat, Int.reduceNe, Int.reduceEq, not_false_eq_true, Nat.reduceBEq, Nat.reduceDiv, Int.natCast_zero, Int.natCast_one, Int.reduceAdd, Int.reduceSub, reduceIte, ↓reduceIte, Value.oneCell', rowI_length, rowI_take, rowI_splice, rep_all, row_zero, le_nat, Int.toNat_natCast, Nat.zero_add, sok_row, reduceCtorEq]) hg2 (.inr ⟨_, _, _, true, [Sum.inl (.int .u8 (IntKind.u8.wrap ((d + 1 : Nat) : Int)))], rfl, by simp only [upd_same]; rfl, shows_one, by decide⟩) (by omega) ?_
        intro c3 cs3 hg3
        simp only [sn_upto, sn_from, slN_def, run_cap, rules, rules2, loopRules, Tryd.facts, base0, Int.toNat_zero, Nat.reduceAdd, Nat.reduceMul, Nat.reduceSub, Nat.reduceLT, Nat.reduceLeDiff, Nat.reduceEqDiff, Int.reduceLE, Int.reduceLT, Int.reduceToNat, Int.reduceNe, Int.reduceEq, not_false_eq_true, Nat.reduceBEq, Nat.reduceDiv, Int.natCast_zero, Int.natCast_one, Int.reduceAdd, Int.reduceSub, reduceIte, ↓reduceIte, Value.oneCell', rowI_length, rowI_take, rowI_splice, rep_all, row_zero, le_nat, Int.toNat_natCast, Nat.zero_add, sok_row, reduceCtorEq]
        refine refMac_call (rwa := true) (rwb := true) hpb (joinB_byt hib (fun _ => byteB _)) (by simp only [upd_apply, sn_upto, sn_from, slN_def, run_cap, rules, rules2, loopRules, Tryd.facts, base0, Int.toNat_zero, Nat.reduceAdd, Nat.reduceMul, Nat.reduceSub, Nat.reduceLT, Nat.reduceLeDiff, Nat.reduceEqDiff, Int.reduceLE, Int.reduceLT, Int.reduceToNat, Int.reduceNe, Int.reduceEq, not_false_eq_true, Nat.reduceBEq, Nat.reduceDiv, Int.natCast_zero, Int.natCast_one, Int.reduceAdd, Int.reduceSub, reduceIte, ↓reduceIte, Value.oneCell', rowI_length, rowI_take, rowI_splice, rep_all, row_zero, le_nat, Int.toNat_natCast, Nat.zero_add, sok_row, reduceCtorEq]) shows_row0 plainI (by simp only [upd_apply, sn_upto, sn_from, slN_def, run_cap, rules, rules2, loopRules, Tryd.facts, base0, Int.toNat_zero, Nat.reduceAdd, Nat.reduceMul, Nat.reduceSub, Nat.reduceLT, Nat.reduceLeDiff, Nat.reduceEqDiff, Int.reduceLE, Int.reduceLT, Int.reduceToNat, Int.reduceNe, Int.reduceEq, not_false_eq_true, Nat.reduceBEq, Nat.reduceDiv, Int.natCast_zero, Int.natCast_one, Int.reduceAdd, Int.reduceSub, reduceIte, ↓reduceIte, Value.oneCell', rowI_length, rowI_take, rowI_splice, rep_all, row_zero, le_nat, Int.toNat_natCast, Nat.zero_add, sok_row, reduceCtorEq]) hg3.shows hg3.plain (by decide) (by omega) ?_
        have hT : macW kW ivW p 32 (joinB m info (fun _ => IntKind.u8.wrap ((d + 1 : Nat) : Int))) (m + 1) = hkT kW ivW p info m (d + 1) := by
          show _ = macW kW ivW p 32 (if d = 0 then _ else _) ((if d = 0 then 0 else 32) + (m + 1))
          rw [if_pos hd0, if_pos hd0, Nat.zero_add, hd0]
          rfl
        rw [hT]
        have hA := fun i hi => okm_at (K := kW) (V := ivW) (p := p) (info := info) (m := m) (k := d) (i := i) hi
        obtain ⟨T, hTe⟩ : ∃ T, hkT kW ivW p info m (d + 1) = T := ⟨_, rfl⟩
        rw [hTe] at hA ⊢
        simp only [sn_upto, sn_from, slN_def, run_cap, rules, rules2, loopRules, Tryd.facts, base0, Int.toNat_zero, Nat.reduceAdd, Nat.reduceMul, Nat.reduceSub, Nat.reduceLT, Nat.reduceLeDiff, Nat.reduceEqDiff, Int.reduceLE, Int.reduceLT, Int.reduceToNat, Int.reduceNe, Int.reduceEq, not_false_eq_true, Nat.reduceBEq, Nat.reduceDiv, Int.natCast_zero, Int.natCast_one, Int.reduceAdd, Int.reduceSub, reduceIte, ↓reduceIte, Value.oneCell', rowI_length, rowI_take, rowI_splice, rep_all, row_zero, le_nat, Int.toNat_natCast, Nat.zero_add, sok_row, reduceCtorEq]
        refine append_b (g := T) Tryd.mkK34 Tryd.slK34 (by simp only [upd_apply, sn_upto, sn_from, slN_def, run_cap, rules, rules2, loopRules, Tryd.facts, base0, Int.toNat_zero, Nat.reduceAdd, Nat.reduceMul, Nat.reduceSub, Nat.reduceLT, Nat.reduceLeDiff, Nat.reduceEqDiff, Int.reduceLE, Int.reduceLT, Int.reduceToNat, Int.reduceNe, Int.reduceEq, not_false_eq_true, Nat.reduceBEq, Nat.reduceDiv, Int.natCast_zero, Int.natCast_one, Int.reduceAdd, Int.reduceSub, reduceIte, ↓reduceIte, Value.oneCell', rowI_length, rowI_take, rowI_splice, rep_all, row_zero, le_nat, Int.toNat_natCast, Nat.zero_add, sok_row, reduceCtorEq]) hgA (.inr ⟨_, 0, 32, true, rowI .u8 32 T, rfl, by simp only [upd_apply, sn_upto, sn_from, slN_def, run_cap, rules, rules2, loopRules, Tryd.facts, base0, Int.toNat_zero, Nat.reduceAdd, Nat.reduceMul, Nat.reduceSub, Nat.reduceLT, Nat.reduceLeDiff, Nat.reduceEqDiff, Int.reduceLE, Int.reduceLT, Int.reduceToNat, Int.reduceNe, Int.reduceEq, not_false_eq_true, Nat.reduceBEq, Nat.reduceDiv, Int.natCast_zero, Int.natCast_one, Int.reduceAdd, Int.reduceSub, reduceIte, ↓reduceIte, Value.oneCell', rowI_length, rowI_take, rowI_splice, rep_all, row_zero, le_nat, Int.toNat_natCast, Nat.zero_add, sok_row, reduceCtorEq], shows_row0, by decide⟩) (by omega) ?_
        intro c4 cs4 hg4
        simp only [sn_upto, sn_from, slN_def, run_cap, rules, rules2, loopRules, Tryd.facts, base0, Int.toNat_zero, Nat.reduceAdd, Nat.reduceMul, Nat.reduceSub, Nat.reduceLT, Nat.reduceLeDiff, Nat.reduceEqDiff, Int.reduceLE, Int.reduceLT, Int.reduceToNat, Int.reduceNe, Int.reduceEq, not_false_eq_true, Nat.reduceBEq, Nat.reduceDiv, Int.natCast_zero, Int.natCast_one, Int.reduceAdd, Int.reduceSub, reduceIte, ↓reduceIte, Value.oneCell', rowI_length, rowI_take, rowI_splice, rep_all, row_zero, le_nat, Int.toNat_natCast, Nat.zero_add, sok_row, reduceCtorEq]
        exact ret_grows (by decide) (hg4.congr (m := 32 * (d + 1)) (by omega) (fun i hi => by
          simp only [joinB]; split
          · rfl
          · rw [← hA _ (by omega), show 32 * d + (i - 32 * d) = i by omega])) (by simp only [upd_same]) rfl
      · refine vcIf_yes (by simp; omega) ?_
        have w1 : IntKind.i64.wrap (((32 * d : Nat) : Int) - 32) = ((32 * d - 32 : Nat) : Int) := by rw [wrap_i64 _ (by omega) (by omega)]; omega
        have a1 : (((32 * d - 32 : Nat) : Int) ≤ ((32 * d : Nat) : Int)) = True := eq_true (by omega)
        have a2 : (((32 * d : Nat) : Int) ≤ (c1 : Int)) = True := eq_true (by omega)
        have hL : Shows (rowI .u8 (32 * d) (okmW kW ivW p info m) ++ tail1) (if c1 = 32 * d - 32 then 0 else 32 * d - 32) 32 (hkT kW ivW p info m d) := by
          rw [if_neg (by omega)]
          have h := shows_sub hgA.shows (32 * d - 32) 32 (by omega)
          rw [Nat.zero_add] at h
          refine shows_congr h fun i hi => ?_
          have := okm_at (K := kW) (V := ivW) (p := p) (info := info) (m := m) (k := d - 1) (i := i) hi
          rw [show 32 * (d - 1) + i = 32 * d - 32 + i by omega, show d - 1 + 1 = d by omega] at this
          exact this
        have e32 : 32 * d - (32 * d - 32) = 32 := by omega
        simp only [w1, a1, a2, e32, nat_nn, sn_upto, sn_from, slN_def, run_cap, rules, rules2, loopRules, Tryd.facts, base0, Int.toNat_zero, Nat.reduceAdd, Nat.reduceMul, Nat.reduceSub, Nat.reduceLT, Nat.reduceLeDiff, Nat.reduceEqDiff, Int.reduceLE, Int.reduceLT, Int.reduceToNat, Int.reduceNe, Int.reduceEq, not_false_eq_true, Nat.reduceBEq, Nat.reduceDiv, Int.natCast_zero, Int.natCast_one, Int.reduceAdd, Int.reduceSub, reduceIte, ↓reduceIte, Value.oneCell', rowI_length, rowI_take, rowI_splice, rep_all, row_zero, le_nat, Int.toNat_natCast, Nat.zero_add, sok_row, reduceCtorEq]
        generalize (if c1 = 32 * d - 32 then 0 else 32 * d - 32) = oL at hL ⊢
        refine append_b (g := hkT kW ivW p info m d) Tryd.mkK34 Tryd.slK34 (by simp only [upd_apply, sn_upto, sn_from, slN_def, run_cap, rules, rules2, loopRules, Tryd.facts, base0, Int.toNat_zero, Nat.reduceAdd, Nat.reduceMul, Nat.reduceSub, Nat.reduceLT, Nat.reduceLeDiff, Nat.reduceEqDiff, Int.reduceLE, Int.reduceLT, Int.reduceToNat, Int.reduceNe, Int.reduceEq, not_false_eq_true, Nat.reduceBEq, Nat.reduceDiv, Int.natCast_zero, Int.natCast_one, Int.reduceAdd, Int.reduceSub, reduceIte, ↓reduceIte, Value.oneCell', rowI_length, rowI_take, rowI_splice, rep_all, row_zero, le_nat, Int.toNat_natCast, Nat.zero_add, sok_row, reduceCtorEq]) hg0 (.inr ⟨_, _, _, true, _, rfl, by simp only [upd_apply, sn_upto, sn_from, slN_def, run_cap, rules, rules2, loopRules, Tryd.facts, base0, Int.toNat_zero, Nat.reduceAdd, Nat.reduceMul, Nat.reduceSub, Nat.reduceLT, Nat.reduceLeDiff, Nat.reduceEqDiff, Int.reduceLE, Int.reduceLT, Int.reduceToNat, Int.reduceNe, Int.reduceEq, not_false_eq_true, Nat.reduceBEq, Nat.reduceDiv, Int.natCast_zero, Int.natCast_one, Int.reduceAdd, Int.reduceSub, reduceIte, ↓reduceIte, Value.oneCell', rowI_length, rowI_take, rowI_splice, rep_all, row_zero, le_nat, Int.toNat_natCast, Nat.zero_add, sok_row, reduceCtorEq], hL, by decide⟩) (by decide) ?_
        intro c5 cs5 hg5
        replace hg5 := hg5.congr (m := 32) (g := hkT kW ivW p info m d) (by omega) (fun i hi => by simp [joinB])
        simp only [sn_upto, sn_from, slN_def, run_cap, rules, rules2, loopRules, Tryd.facts, base0, Int.toNat_zero, Nat.reduceAdd, Nat.reduceMul, Nat.reduceSub, Nat.reduceLT, Nat.reduceLeDiff, Nat.reduceEqDiff, Int.reduceLE, Int.reduceLT, Int.reduceToNat, Int.reduceNe, Int.reduceEq, not_false_eq_true, Nat.reduceBEq, Nat.reduceDiv, Int.natCast_zero, Int.natCast_one, Int.reduceAdd, Int.reduceSub, reduceIte, ↓reduceIte, Value.oneCell', rowI_length, rowI_take, rowI_splice, rep_all, row_zero, le_nat, Int.toNat_natCast, Nat.zero_add, sok_row, reduceCtorEq]
        refine append_b (g := info) Tryd.mkK34 Tryd.slK34 (by simp only [upd_apply, sn_upto, sn_from, slN_def, run_cap, rules, rules2, loopRules, Tryd.facts, base0, Int.toNat_zero, Nat.reduceAdd, Nat.reduceMul, Nat.reduceSub, Nat.reduceLT, Nat.reduceLeDiff, Nat.reduceEqDiff, Int.reduceLE, Int.reduceLT, Int.reduceToNat, Int.reduceNe, Int.reduceEq, not_false_eq_true, Nat.reduceBEq, Nat.reduceDiv, Int.natCast_zero, Int.natCast_one, Int.reduceAdd, Int.reduceSub, reduceIte, ↓reduceIte, Value.oneCell', rowI_length, rowI_take, rowI_splice, rep_all, row_zero, le_nat, Int.toNat_natCast, Nat.zero_add, sok_row, reduceCtorEq]) hg5 (.inr ⟨0, o, c, false, cs, rfl, by simp only [upd_apply, sn_upto, sn_from, slN_def, run_cap, rules, rules2, loopRules, Tryd.facts, base0, Int.toNat_zero, Nat.reduceAdd, Nat.reduceMul, Nat.reduceSub, Nat.reduceLT, Nat.reduceLeDiff, Nat.reduceEqDiff, Int.reduceLE, Int.reduceLT, Int.reduceToNat, Int.reduceNe, Int.reduceEq, not_false_eq_true, Nat.reduceBEq, Nat.reduceDiv, Int.natCast_zero, Int.natCast_one, Int.reduceAdd, Int.reduceSub, reduceIte, ↓reduceIte, Value.oneCell', rowI_length, rowI_take, rowI_splice, rep_all, row_zero, le_nat, Int.toNat_natCast, Nat.zero_add, sok_row, reduceCtorEq], hs, by decide⟩) (by omega) ?_
        intro c2 cs2 hg2
        simp only [sn_upto, sn_from, slN_def, run_cap, rules, rules2, loopRules, Tryd.facts, base0, Int.toNat_zero, Nat.reduceAdd, Nat.reduceMul, Nat.reduceSub, Nat.reduceLT, Nat.reduceLeDiff, Nat.reduceEqDiff, Int.reduceLE, Int.reduceLT, Int.reduceToNat, Int.reduceNe, Int.reduceEq, not_false_eq_true, Nat.reduceBEq, Nat.reduceDiv, Int.natCast_zero, Int.natCast_one, Int.reduceAdd, Int.reduceSub, reduceIte, ↓reduceIte, Value.oneCell', rowI_length, rowI_take, rowI_splice, rep_all, row_zero, le_nat, Int.toNat_natCast, Nat.zero_add, sok_row, reduceCtorEq]
        refine append_b (g := fun _ => IntKind.u8.wrap ((d + 1 : Nat) : Int)) Tryd.mkK34 Tryd.slK34 (by simp only [upd_apply, sn_upto, sn_from, slN_def, run_cap, rules, rules2, loopRules, Tryd.facts, base0, Int.toNat_zero, Nat.reduceAdd, Nat.reduceMul, Nat.reduceSub, Nat.reduceLT, Nat.reduceLeDiff, Nat.reduceEqDiff, Int.reduceLE, Int.reduceLT, Int.reduceToNat, Int.reduceNe, Int.reduceEq, not_false_eq_true, Nat.reduceBEq, Nat.reduceDiv, Int.natCast_zero, Int.natCast_one, Int.reduceAdd, Int.reduceSub, reduceIte, ↓reduceIte, Value.oneCell', rowI_length, rowI_take, rowI_splice, rep_all, row_zero, le_nat, Int.toNat_natCast, Nat.zero_add, sok_row, reduceCtorEq]) hg2 (.inr ⟨_, _, _, true, [Sum.inl (.int .u8 (IntKind.u8.wrap ((d + 1 : Nat) : Int)))], rfl, by simp only [upd_same]; rfl, shows_one, by decide⟩) (by omega) ?_
        intro c3 cs3 hg3
        simp only [sn_upto, sn_from, slN_def, run_cap, rules, rules2, loopRules, Tryd.facts, base0, Int.toNat_zero, Nat.reduceAdd, Nat.reduceMul, Nat.reduceSub, Nat.reduceLT, Nat.reduceLeDiff, Nat.reduceEqDiff, Int.reduceLE, Int.reduceLT, Int.reduceToNat, Int.reduceNe, Int.reduceEq, not_false_eq_true, Nat.reduceBEq, Nat.reduceDiv, Int.natCast_zero, Int.natCast_one, Int.reduceAdd, Int.reduceSub, reduceIte, ↓reduceIte, Value.oneCell', rowI_length, rowI_take, rowI_splice, rep_all, row_zero, le_nat, Int.toNat_natCast, Nat.zero_add, sok_row, reduceCtorEq]
        refine refMac_call (rwa := true) (rwb := true) hpb (joinB_byt (joinB_byt (hkT_byt _ _ _ _ _ _) hib) (fun _ => byteB _)) (by simp only [upd_apply, sn_upto, sn_from, slN_def, run_cap, rules, rules2, loopRules, Tryd.facts, base0, Int.toNat_zero, Nat.reduceAdd, Nat.reduceMul, Nat.reduceSub, Nat.reduceLT, Nat.reduceLeDiff, Nat.reduceEqDiff, Int.reduceLE, Int.reduceLT, Int.reduceToNat, Int.reduceNe, Int.reduceEq, not_false_eq_true, Nat.reduceBEq, Nat.reduceDiv, Int.natCast_zero, Int.natCast_one, Int.reduceAdd, Int.reduceSub, reduceIte, ↓reduceIte, Value.oneCell', rowI_length, rowI_take, rowI_splice, rep_all, row_zero, le_nat, Int.toNat_natCast, Nat.zero_add, sok_row, reduceCtorEq]) shows_row0 plainI (by simp only [upd_apply, sn_upto, sn_from, slN_def, run_cap, rules, rules2, loopRules, Tryd.facts, base0, Int.toNat_zero, Nat.reduceAdd, Nat.reduceMul, Nat.reduceSub, Nat.reduceLT, Nat.reduceLeDiff, Nat.reduceEqDiff, Int.reduceLE, Int.reduceLT, Int.reduceToNat, Int.reduceNe, Int.reduceEq, not_false_eq_true, Nat.reduceBEq, Nat.reduceDiv, Int.natCast_zero, Int.natCast_one, Int.reduceAdd, Int.reduceSub, reduceIte, ↓reduceIte, Value.oneCell', rowI_length, rowI_take, rowI_splice, rep_all, row_zero, le_nat, Int.toNat_natCast, Nat.zero_add, sok_row, reduceCtorEq]) hg3.shows hg3.plain (by decide) (by omega) ?_
        have hT : macW kW ivW p 32 (joinB (32 + m) (joinB 32 (hkT kW ivW p info m d) info) (fun _ => IntKind.u8.wrap ((d + 1 : Nat) : Int))) (32 + m + 1) = hkT kW ivW p info m (d + 1) := by
          show _ = macW kW ivW p 32 (if d = 0 then _ else joinB 32 (hkT kW ivW p info m d) (joinB m info (fun _ => IntKind.u8.wrap ((d + 1 : Nat) : Int)))) ((if d = 0 then 0 else 32) + (m + 1))
          rw [if_neg hd0, if_neg hd0, show 32 + (m + 1) = 32 + m + 1 by omega]
          refine macW_cong (fun _ _ => rfl) fun i hi => ?_
          simp only [joinB]
          by_cases h1 : i < 32
          · rw [if_pos (by omega), if_pos h1, if_pos h1]
          · rw [if_neg h1, if_neg h1]
            by_cases h2 : i < 32 + m
            · rw [if_pos h2, if_pos (by omega)]
            · rw [if_neg h2, if_neg (by omega)]
        rw [hT]
        have hA := fun i hi => okm_at (K := kW) (V := ivW) (p := p) (info := info) (m := m) (k := d) (i := i) hi
        obtain ⟨T, hTe⟩ : ∃ T, hkT kW ivW p info m (d + 1) = T := ⟨_, rfl⟩
        rw [hTe] at hA ⊢
        simp only [sn_upto, sn_from, slN_def, run_cap, rules, rules2, loopRules, Tryd.facts, base0, Int.toNat_zero, Nat.reduceAdd, Nat.reduceMul, Nat.reduceSub, Nat.reduceLT, Nat.reduceLeDiff, Nat.reduceEqDiff, Int.reduceLE, Int.reduceLT, Int.reduceToNat, Int.reduceNe, Int.reduceEq, not_false_eq_true, Nat.reduceBEq, Nat.reduceDiv, Int.natCast_zero, Int.natCast_one, Int.reduceAdd, Int.reduceSub, reduceIte, ↓reduceIte, Value.oneCell', rowI_length, rowI_take, rowI_splice, rep_all, row_zero, le_nat, Int.toNat_natCast, Nat.zero_add, sok_row, reduceCtorEq]
        refine append_b (g := T) Tryd.mkK34 Tryd.slK34 (by simp only [upd_apply, sn_upto, sn_from, slN_def, run_cap, rules, rules2, loopRules, Tryd.facts, base0, Int.toNat_zero, Nat.reduceAdd, Nat.reduceMul, Nat.reduceSub, Nat.reduceLT, Nat.reduceLeDiff, Nat.reduceEqDiff, Int.reduceLE, Int.reduceLT, Int.reduceToNat, Int.reduceNe, Int.reduceEq, not_false_eq_true, Nat.reduceBEq, Nat.reduceDiv, Int.natCast_zero, Int.natCast_one, Int.reduceAdd, Int.reduceSub, reduceIte, ↓reduceIte, Value.oneCell', rowI_length, rowI_take, rowI_splice, rep_all, row_zero, le_nat, Int.toNat_natCast, Nat.zero_add, sok_row, reduceCtorEq]) hgA (.inr ⟨_, 0, 32, true, rowI .u8 32 T, rfl, by simp only [upd_apply, sn_upto, sn_from, slN_def, run_cap, rules, rules2, loopRules, Tryd.facts, base0, Int.toNat_zero, Nat.reduceAdd, Nat.reduceMul, Nat.reduceSub, Nat.reduceLT, Nat.reduceLeDiff, Nat.reduceEqDiff, Int.reduceLE, Int.reduceLT, Int.reduceToNat, Int.reduceNe, Int.reduceEq, not_false_eq_true, Nat.reduceBEq, Nat.reduceDiv, Int.natCast_zero, Int.natCast_one, Int.reduceAdd, Int.reduceSub, reduceIte, ↓reduceIte, Value.oneCell', rowI_length, rowI_take, rowI_splice, rep_all, row_zero, le_nat, Int.toNat_natCast, Nat.zero_add, sok_row, reduceCtorEq], shows_row0, by decide⟩) (by omega) ?_
        intro c4 cs4 hg4
        simp only [sn_upto, sn_from, slN_def, run_cap, rules, rules2, loopRules, Tryd.facts, base0, Int.toNat_zero, Nat.reduceAdd, Nat.reduceMul, Nat.reduceSub, Nat.reduceLT, Nat.reduceLeDiff, Nat.reduceEqDiff, Int.reduceLE, Int.reduceLT, Int.reduceToNat, Int.reduceNe, Int.reduceEq, not_false_eq_true, Nat.reduceBEq, Nat.reduceDiv, Int.natCast_zero, Int.natCast_one, Int.reduceAdd, Int.reduceSub, reduceIte, ↓reduceIte, Value.oneCell', rowI_length, rowI_take, rowI_splice, rep_all, row_zero, le_nat, Int.toNat_natCast, Nat.zero_add, sok_row, reduceCtorEq]
        exact ret_grows (by decide) (hg4.congr (m := 32 * (d + 1)) (by omega) (fun i hi => by
          simp only [joinB]; split
          · rfl
          · rw [← hA _ (by omega), show 32 * d + (i - 32 * d) = i by omega])) (by simp only [upd_same]) rfl
theorem refParts_m {k m : Nat} {l : List (Nat × Box)} {vi : AV} {p info : Nat → Int} (hpb : Byt p) (hib : Byt info) (hi : InfoIs k l vi m info) (hm : m < 80000000) :
    ∀ d : Nat, d ≤ 1000 → MFun Tryd.prog 22 [Ag (rowI .u8 32 p), vi, I .i64 d] k (lk l) (Made k (32 * d) (okmW kW ivW p info m))
  | 0, _ => refParts_0 hi
  | d + 1, hc => refParts_s hpb hib hi hm (by omega) (refParts_m hpb hib hi hm d (by omega))
end Go.Proofs.YtlpckbkmmocaaaaDoor
