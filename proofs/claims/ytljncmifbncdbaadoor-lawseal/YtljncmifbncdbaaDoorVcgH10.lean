/-
  The keyed hash of the document.
-/
import Derived.Test.YtljncmifbncdbaaDoorVcgH9
set_option linter.unusedSimpArgs false
set_option linter.unusedVariables false
namespace Go.Proofs.YtljncmifbncdbaaDoor
open Go.Vcg
/-- What is known ahead of the loop: a key of at most 64 bytes. -/
structure KeyIn (k : Nat) (l : List (Nat × Box)) (vm : AV) (m : Nat) (kf f : Nat → Int) (s : AS) (L : List (Nat × Box)) (v : AV) (n : Nat) (g : Nat → Int) : Prop where
  e0 : s.env 0 = some v
  e1 : s.env 1 = some vm
  e4 : s.env 4 = some (Ptr k 0)
  next : s.next ≤ 50
  inn : ∀ x ∈ L, x.1 < s.next ∧ lk L x.1 = some x.2 ∧ s.box x.1 = some x.2 ∧ x.2.cells.all SV.plain = true
  cell : lk L k = some ⟨true, rowI .u8 32 (fun _ => 0)⟩
  hv : BytesAt (lk L) v n g
  hvm : BytesAt (lk L) vm m f
  hok : AV.ok (fun n => n < s.next) v
  hokm : AV.ok (fun n => n < s.next) vm
  hn : n ≤ 64
  hg : Byt g
  heq : ∀ i, kf i = if i < n then g i else 0
set_option maxHeartbeats 8000000 in
set_option maxRecDepth 20000 in
theorem refMac_m {l : List (Nat × Box)} {k nk m : Nat} {vk vm : AV} {key f : Nat → Int} (hkey : Byt key) (hf : Byt f) (hvk : BytesAt (lk l) vk nk key) (hvm : BytesAt (lk l) vm m f) (hnk : nk < 90000000) (hm : m < 90000000)
    (hokk : AV.ok (fun n => n < k) vk) (hokm : AV.ok (fun n => n < k) vm) (hl : ∀ x ∈ l, x.1 < k ∧ lk l x.1 = some x.2 ∧ x.2.cells.all SV.plain = true) (hall : ∀ n, n < k → ∃ b, lk l n = some b) (hk : k ≤ 20) :
    MFun Tryd.prog 31 [vk, vm] k (lk l) (fun u out => u = Ag (rowI .u8 32 (macW kW ivW key nk f m)) ∧ out = fun _ => none) := by
  refine mfun_of_vc Tryd.func31 rfl (by kernel_rfl) (by simp [Tryd.ntmps31]) Tryd.callable31 (fun u hu => by
    simp only [List.mem_cons, List.not_mem_nil, or_false] at hu
    rcases hu with rfl | rfl
    · exact hokk
    · exact hokm) hall (fun n b hb => ⟨(hl _ (lk_mem _ _ _ hb)).1, ok_all (hl _ (lk_mem _ _ _ hb)).2.2⟩) ?_
  simp only [Tryd.results31, at_len hvk, sn_upto, sn_from, slN_def, run_cap, rules, rules2, loopRules, Tryd.facts, base0, Int.toNat_zero, Nat.reduceAdd, Nat.reduceMul, Nat.reduceSub, Nat.reduceLT, Nat.reduceLeDiff, Nat.reduceEqDiff, Int.reduceLE, Int.reduceLT, Int.reduceToNat, Int.reduceNe, Int.reduceEq, not_false_eq_true, Nat.reduceBEq, Nat.reduceDiv, Int.natCast_zero, Int.natCast_one, Int.reduceAdd, Int.reduceSub, reduceIte, ↓reduceIte, Value.oneCell', rowI_length, rowI_take, rowI_splice, rep_all, row_zero, le_nat, Int.toNat_natCast, Nat.zero_add, sok_row, reduceCtorEq]
  refine vcIf_mid (fun s => ∃ L v n g, KeyIn k l vm m (keyW kW ivW key nk) f s L v n g) (fun h => ?_) (fun h => ?_) ?_
  · simp only [sn_upto, sn_from, slN_def, run_cap, rules, rules2, loopRules, Tryd.facts, base0, Int.toNat_zero, Nat.reduceAdd, Nat.reduceMul, Nat.reduceSub, Nat.reduceLT, Nat.reduceLeDiff, Nat.reduceEqDiff, Int.reduceLE, Int.reduceLT, Int.reduceToNat, Int.reduceNe, Int.reduceEq, not_false_eq_true, Nat.reduceBEq, Nat.reduceDiv, Int.natCast_zero, Int.natCast_one, Int.reduceAdd, Int.reduceSub, reduceIte, ↓reduceIte, Value.oneCell', rowI_length, rowI_take, rowI_splice, rep_all, row_zero, le_nat, Int.toNat_natCast, Nat.zero_add, sok_row, reduceCtorEq]
    have hn : 64 < nk := by have := of_decide_eq_true h; omega
    obtain ⟨t, o, c, rw, cs, rfl, hb, hp, hs⟩ := at_some hvk (by omega)
    have ht : t < k := hokk
    refine refDigest_call (rw := rw) hkey (by simp only [upd]; rw [if_neg (by omega)]; exact hb) hs hp (by omega) ?_
    simp only [sn_upto, sn_from, slN_def, run_cap, rules, rules2, loopRules, Tryd.facts, base0, Int.toNat_zero, Nat.reduceAdd, Nat.reduceMul, Nat.reduceSub, Nat.reduceLT, Nat.reduceLeDiff, Nat.reduceEqDiff, Int.reduceLE, Int.reduceLT, Int.reduceToNat, Int.reduceNe, Int.reduceEq, not_false_eq_true, Nat.reduceBEq, Nat.reduceDiv, Int.natCast_zero, Int.natCast_one, Int.reduceAdd, Int.reduceSub, reduceIte, ↓reduceIte, Value.oneCell', rowI_length, rowI_take, rowI_splice, rep_all, row_zero, le_nat, Int.toNat_natCast, Nat.zero_add, sok_row, reduceCtorEq]
    refine ⟨(k, ⟨true, rowI .u8 32 (fun _ => 0)⟩) :: (k + 1 + 3 + 2, ⟨true, rowI .u8 32 (shaW kW ivW key nk)⟩) :: l, Sl (k + 1 + 3 + 2) 0 32 32, 32, shaW kW ivW key nk, ⟨rfl, rfl, rfl, ?_, ?_, ?_, ?_, ?_, ?_, ?_, by omega, shaW_byt _ _ _ _, fun i => ?_⟩⟩
    · show k + 1 + 3 + 4 + 2 ≤ 50; omega
    · intro x hx
      rcases List.mem_cons.1 hx with rfl | hx
      · refine ⟨by show k < k + 1 + 3 + 4 + 2; omega, by simp [lk], ?_, plainI⟩
        simp only [upd]; rw [if_neg (by omega), if_neg (by omega)]; exact if_pos trivial
      rcases List.mem_cons.1 hx with rfl | hx
      · refine ⟨by show k + 1 + 3 + 2 < k + 1 + 3 + 4 + 2; omega, ?_, by simp only [upd_same], plainI⟩
        simp only [lk]; rw [if_neg (by omega)]; exact if_pos trivial
      · obtain ⟨h1, h2, h3⟩ := hl x hx
        exact ⟨by show x.1 < k + 1 + 3 + 4 + 2; omega, by simp only [lk]; rw [if_neg (by omega), if_neg (by omega)]; exact h2, by simp only [upd]; rw [if_neg (by omega), if_neg (by omega), if_neg (by omega)]; exact h2, h3⟩
    · simp [lk]
    · refine .inr ⟨_, _, _, true, rowI .u8 32 (shaW kW ivW key nk), rfl, ?_, plainI, shows_row0⟩
      simp only [lk]; rw [if_neg (by omega)]; exact if_pos trivial
    · refine at_mono hvm fun t b hb => ?_
      have := (hl _ (lk_mem _ _ _ hb)).1
      simp only at this
      simp only [lk]; rw [if_neg (by omega), if_neg (by omega)]; exact hb
    · show k + 1 + 3 + 2 < k + 1 + 3 + 4 + 2; omega
    · exact AV.ok_mono (fun n hn => by show n < k + 1 + 3 + 4 + 2; omega) hokm
    · simp only [keyW, gt_iff_lt]; rw [if_pos hn]
  · simp only [sn_upto, sn_from, slN_def, run_cap, rules, rules2, loopRules, Tryd.facts, base0, Int.toNat_zero, Nat.reduceAdd, Nat.reduceMul, Nat.reduceSub, Nat.reduceLT, Nat.reduceLeDiff, Nat.reduceEqDiff, Int.reduceLE, Int.reduceLT, Int.reduceToNat, Int.reduceNe, Int.reduceEq, not_false_eq_true, Nat.reduceBEq, Nat.reduceDiv, Int.natCast_zero, Int.natCast_one, Int.reduceAdd, Int.reduceSub, reduceIte, ↓reduceIte, Value.oneCell', rowI_length, rowI_take, rowI_splice, rep_all, row_zero, le_nat, Int.toNat_natCast, Nat.zero_add, sok_row, reduceCtorEq]
    have hn : ¬ 64 < nk := by have := of_decide_eq_false h; omega
    refine ⟨(k, ⟨true, rowI .u8 32 (fun _ => 0)⟩) :: l, vk, nk, key, ⟨rfl, rfl, rfl, ?_, ?_, ?_, ?_, ?_, ?_, ?_, by omega, hkey, fun i => ?_⟩⟩
    · show k + 1 + 3 ≤ 50; omega
    · intro x hx
      rcases List.mem_cons.1 hx with rfl | hx
      · exact ⟨by show k < k + 1 + 3; omega, by simp [lk], by simp [upd], plainI⟩
      · obtain ⟨h1, h2, h3⟩ := hl x hx
        have h0 : x.1 ≠ k := by omega
        exact ⟨by show x.1 < k + 1 + 3; omega, by simp only [lk]; rw [if_neg h0]; exact h2, by simp only [upd]; rw [if_neg h0]; exact h2, h3⟩
    · simp [lk]
    · refine at_mono hvk fun t b hb => ?_
      have := (hl _ (lk_mem _ _ _ hb)).1
      simp only at this
      simp only [lk]; rw [if_neg (by omega)]; exact hb
    · refine at_mono hvm fun t b hb => ?_
      have := (hl _ (lk_mem _ _ _ hb)).1
      simp only at this
      simp only [lk]; rw [if_neg (by omega)]; exact hb
    · exact AV.ok_mono (fun n hn => by show n < k + 1 + 3; omega) hokk
    · exact AV.ok_mono (fun n hn => by show n < k + 1 + 3; omega) hokm
    · simp only [keyW, gt_iff_lt]; rw [if_neg hn]
  · rintro s ⟨L, v, n, g, h⟩
    have E0 := h.e0
    have E1 := h.e1
    have E4 := h.e4
    have hN := h.next
    obtain ⟨env, box, next⟩ := s
    simp only at E0 E1 E4 hN
    simp only [E0, E1, E4, sn_upto, sn_from, slN_def, run_cap, rules, rules2, loopRules, Tryd.facts, base0, Int.toNat_zero, Nat.reduceAdd, Nat.reduceMul, Nat.reduceSub, Nat.reduceLT, Nat.reduceLeDiff, Nat.reduceEqDiff, Int.reduceLE, Int.reduceLT, Int.reduceToNat, Int.reduceNe, Int.reduceEq, not_false_eq_true, Nat.reduceBEq, Nat.reduceDiv, Int.natCast_zero, Int.natCast_one, Int.reduceAdd, Int.reduceSub, reduceIte, ↓reduceIte, Value.oneCell', rowI_length, rowI_take, rowI_splice, rep_all, row_zero, le_nat, Int.toNat_natCast, Nat.zero_add, sok_row, reduceCtorEq]
    have hL : ∀ x ∈ L, x.1 < 50 ∧ x.1 < next + 2 + 1 ∧ lk L x.1 = some x.2 ∧ box x.1 = some x.2 ∧ x.2.cells.all SV.plain = true := fun x hx => by
      obtain ⟨h1, h2⟩ := h.inn x hx
      exact ⟨by simp only at h1; omega, by simp only at h1; omega, h2⟩
    have ok0 : AV.ok (fun n => n < 50) v := AV.ok_mono (fun n (hn : n < next) => by omega) h.hok
    have ok1 : AV.ok (fun n => n < 50) vm := AV.ok_mono (fun n (hn : n < next) => by omega) h.hokm
    have okA : ∀ {v : AV}, AV.ok (fun n => n < 50) v → AV.ok (fun n => n < 100) v := fun h => AV.ok_mono (fun n hn => by omega) h
    have okk : k < 50 := by omega
    obtain ⟨_, _, _, _, _, hcell, hv, hvm, _, _, hn, hg, heq⟩ := h
    refine loop_anewR 64 (fun j (x : (Nat × List SV) × (Nat × List SV)) => j = 0 ∨ (Grows x.1.2 0 j x.1.1 (padK kW ivW key nk 54) ∧ Grows x.2.2 0 j x.2.1 (padK kW ivW key nk 92)))
      (fun j x => [(0, v), (1, vm), (4, Ptr k 0), (6, if j = 0 then V (.slice none 0 0) else Sl 60 0 j x.1.1), (7, if j = 0 then V (.slice none 0 0) else Sl 61 0 j x.2.1), (8, I .i64 j)])
      (fun j x => if j = 0 then L else (60, ⟨true, x.1.2⟩) :: (61, ⟨true, x.2.2⟩) :: L) 100 ((0, []), (0, [])) ⟨.inl rfl, fun n => n, ?_⟩ ?_ ?_ (by show next + 2 + 1 ≤ 100; omega)
    · simp only [if_true]
      refine bringsR_0 (by omega) ?_ (fun x hx => ⟨(hL x hx).2.1, (hL x hx).2.2.2⟩)
      simp only [E0, E1, E4, sn_upto, sn_from, slN_def, run_cap, rules, rules2, loopRules, Tryd.facts, base0, Int.toNat_zero, Nat.reduceAdd, Nat.reduceMul, Nat.reduceSub, Nat.reduceLT, Nat.reduceLeDiff, Nat.reduceEqDiff, Int.reduceLE, Int.reduceLT, Int.reduceToNat, Int.reduceNe, Int.reduceEq, not_false_eq_true, Nat.reduceBEq, Nat.reduceDiv, Int.natCast_zero, Int.natCast_one, Int.reduceAdd, Int.reduceSub, reduceIte, ↓reduceIte, Value.oneCell', rowI_length, rowI_take, rowI_splice, rep_all, row_zero, le_nat, Int.toNat_natCast, Nat.zero_add, sok_row, reduceCtorEq]
      exact ⟨okA ok0, okA ok1, by omega, trivial⟩
    · rintro j ⟨⟨c1, cs1⟩, c2, cs2⟩ hj hI
      have hkj : keyW kW ivW key nk j = if j < n then g j else 0 := heq j
      have hpj : ∀ x, bitI .xor .u8 (keyW kW ivW key nk j) x = padK kW ivW key nk x j := fun x => rfl
      have F : ∀ x ∈ L, ∀ z, 50 ≤ z → (x.1 = z) = False := fun x hx z hz => eq_false (by have := (hL x hx).1; omega)
      rcases j with _ | j
      · simp only [sn_upto, sn_from, slN_def, run_cap, rules, rules2, loopRules, Tryd.facts, base0, Int.toNat_zero, Nat.reduceAdd, Nat.reduceMul, Nat.reduceSub, Nat.reduceLT, Nat.reduceLeDiff, Nat.reduceEqDiff, Int.reduceLE, Int.reduceLT, Int.reduceToNat, Int.reduceNe, Int.reduceEq, not_false_eq_true, Nat.reduceBEq, Nat.reduceDiv, Int.natCast_zero, Int.natCast_one, Int.reduceAdd, Int.reduceSub, reduceIte, ↓reduceIte, Value.oneCell', rowI_length, rowI_take, rowI_splice, rep_all, row_zero, le_nat, Int.toNat_natCast, Nat.zero_add, sok_row, reduceCtorEq]
        refine vcIf_yes (by simp) ?_
        simp only [at_len hv, sn_upto, sn_from, slN_def, run_cap, rules, rules2, loopRules, Tryd.facts, base0, Int.toNat_zero, Nat.reduceAdd, Nat.reduceMul, Nat.reduceSub, Nat.reduceLT, Nat.reduceLeDiff, Nat.reduceEqDiff, Int.reduceLE, Int.reduceLT, Int.reduceToNat, Int.reduceNe, Int.reduceEq, not_false_eq_true, Nat.reduceBEq, Nat.reduceDiv, Int.natCast_zero, Int.natCast_one, Int.reduceAdd, Int.reduceSub, reduceIte, ↓reduceIte, Value.oneCell', rowI_length, rowI_take, rowI_splice, rep_all, row_zero, le_nat, Int.toNat_natCast, Nat.zero_add, sok_row, reduceCtorEq]
        by_cases hjn : 0 < n
        · rw [if_pos hjn] at hkj
          refine vcIf_yes (by simp; omega) ?_
          obtain ⟨t, o, c, rw, cs, rfl, hb, hp, hs⟩ := at_some hv (by omega)
          have hld := hs 0 hjn
          have a0 : ((0 : Int) < (n : Int)) = True := eq_true (by omega)
          rw [Nat.add_zero, ← hkj] at hld
          simp only [Nat.mul_one, a0, hb, hld, hpj, sn_upto, sn_from, slN_def, run_cap, rules, rules2, loopRules, Tryd.facts, base0, Int.toNat_zero, Nat.reduceAdd, Nat.reduceMul, Nat.reduceSub, Nat.reduceLT, Nat.reduceLeDiff, Nat.reduceEqDiff, Int.reduceLE, Int.reduceLT, Int.reduceToNat, Int.reduceNe, Int.reduceEq, not_false_eq_true, Nat.reduceBEq, Nat.reduceDiv, Int.natCast_zero, Int.natCast_one, Int.reduceAdd, Int.reduceSub, reduceIte, ↓reduceIte, Value.oneCell', rowI_length, rowI_take, rowI_splice, rep_all, row_zero, le_nat, Int.toNat_natCast, Nat.zero_add, sok_row, reduceCtorEq]
          refine append_nb (g := fun _ => padK kW ivW key nk 54 0) Tryd.mkK24 Tryd.slK24 (.inr ⟨_, _, _, true, [Sum.inl (.int .u8 (padK kW ivW key nk 54 0))], rfl, by simp only [upd_same]; rfl, rfl, shows_one⟩) (by decide) (fun h => by cases h) ?_
          intro _ c3 cs3 hg3
          simp only [hpj, sn_upto, sn_from, slN_def, run_cap, rules, rules2, loopRules, Tryd.facts, base0, Int.toNat_zero, Nat.reduceAdd, Nat.reduceMul, Nat.reduceSub, Nat.reduceLT, Nat.reduceLeDiff, Nat.reduceEqDiff, Int.reduceLE, Int.reduceLT, Int.reduceToNat, Int.reduceNe, Int.reduceEq, not_false_eq_true, Nat.reduceBEq, Nat.reduceDiv, Int.natCast_zero, Int.natCast_one, Int.reduceAdd, Int.reduceSub, reduceIte, ↓reduceIte, Value.oneCell', rowI_length, rowI_take, rowI_splice, rep_all, row_zero, le_nat, Int.toNat_natCast, Nat.zero_add, sok_row, reduceCtorEq]
          refine append_nb (g := fun _ => padK kW ivW key nk 92 0) Tryd.mkK24 Tryd.slK24 (.inr ⟨_, _, _, true, [Sum.inl (.int .u8 (padK kW ivW key nk 92 0))], rfl, by simp only [upd_same]; rfl, rfl, shows_one⟩) (by decide) (fun h => by cases h) ?_
          intro _ c4 cs4 hg4
          replace hg3 := hg3.congr (g := padK kW ivW key nk 54) (m := 0 + 1) rfl (fun i hi => by rw [show i = 0 by omega])
          replace hg4 := hg4.congr (g := padK kW ivW key nk 92) (m := 0 + 1) rfl (fun i hi => by rw [show i = 0 by omega])
          simp only [hpj, sn_upto, sn_from, slN_def, run_cap, rules, rules2, loopRules, Tryd.facts, base0, Int.toNat_zero, Nat.reduceAdd, Nat.reduceMul, Nat.reduceSub, Nat.reduceLT, Nat.reduceLeDiff, Nat.reduceEqDiff, Int.reduceLE, Int.reduceLT, Int.reduceToNat, Int.reduceNe, Int.reduceEq, not_false_eq_true, Nat.reduceBEq, Nat.reduceDiv, Int.natCast_zero, Int.natCast_one, Int.reduceAdd, Int.reduceSub, reduceIte, ↓reduceIte, Value.oneCell', rowI_length, rowI_take, rowI_splice, rep_all, row_zero, le_nat, Int.toNat_natCast, Nat.zero_add, sok_row, reduceCtorEq]
          refine ⟨((c3, cs3), (c4, cs4)), .inr ⟨hg3, hg4⟩, _, bringsR_2 (p := 116) (q := 122) (by omega) (by decide) (by decide) ?_ (by simp only [upd_apply, sn_upto, sn_from, slN_def, run_cap, rules, rules2, loopRules, Tryd.facts, base0, Int.toNat_zero, Nat.reduceAdd, Nat.reduceMul, Nat.reduceSub, Nat.reduceLT, Nat.reduceLeDiff, Nat.reduceEqDiff, Int.reduceLE, Int.reduceLT, Int.reduceToNat, Int.reduceNe, Int.reduceEq, not_false_eq_true, Nat.reduceBEq, Nat.reduceDiv, Int.natCast_zero, Int.natCast_one, Int.reduceAdd, Int.reduceSub, reduceIte, ↓reduceIte, Value.oneCell', rowI_length, rowI_take, rowI_splice, rep_all, row_zero, le_nat, Int.toNat_natCast, Nat.zero_add, sok_row, reduceCtorEq]) hg3.plain (by simp only [upd_same]) hg4.plain ?_⟩
          · have r0 := ren_low (r := upd (upd (fun n => n) 60 116) 61 122) (fun n hn => by rw [upd_ne _ _ _ _ (by omega), upd_ne _ _ _ _ (by omega)]) ok0
            have r1 := ren_low (r := upd (upd (fun n => n) 60 116) 61 122) (fun n hn => by rw [upd_ne _ _ _ _ (by omega), upd_ne _ _ _ _ (by omega)]) ok1
            have k0 : (k = 60) = False := eq_false (by omega)
            have k1 : (k = 61) = False := eq_false (by omega)
            have o0 := okA ok0
            have o1 := okA ok1
            have k2 : (k < 100) = True := eq_true (by omega)
            simp only [r0, r1, o0, o1, k0, k1, k2, ren_p, ren_s, ren_i, upd_apply, sn_upto, sn_from, slN_def, run_cap, rules, rules2, loopRules, Tryd.facts, base0, Int.toNat_zero, Nat.reduceAdd, Nat.reduceMul, Nat.reduceSub, Nat.reduceLT, Nat.reduceLeDiff, Nat.reduceEqDiff, Int.reduceLE, Int.reduceLT, Int.reduceToNat, Int.reduceNe, Int.reduceEq, not_false_eq_true, Nat.reduceBEq, Nat.reduceDiv, Int.natCast_zero, Int.natCast_one, Int.reduceAdd, Int.reduceSub, reduceIte, ↓reduceIte, Value.oneCell', rowI_length, rowI_take, rowI_splice, rep_all, row_zero, le_nat, Int.toNat_natCast, Nat.zero_add, sok_row, reduceCtorEq]
            rfl
          · intro x hx
            obtain ⟨h1, h2, h3, h4, h5⟩ := hL x hx
            have Fx := F x hx
            refine ⟨h2, by omega, by omega, ?_, h5⟩
            simp only [Fx 60 (by decide), Fx 61 (by decide), Fx 110 (by decide), Fx 111 (by decide), Fx 115 (by decide), Fx 116 (by decide), Fx 117 (by decide), Fx 121 (by decide), Fx 122 (by decide), h3, upd_apply, sn_upto, sn_from, slN_def, run_cap, rules, rules2, loopRules, Tryd.facts, base0, Int.toNat_zero, Nat.reduceAdd, Nat.reduceMul, Nat.reduceSub, Nat.reduceLT, Nat.reduceLeDiff, Nat.reduceEqDiff, Int.reduceLE, Int.reduceLT, Int.reduceToNat, Int.reduceNe, Int.reduceEq, not_false_eq_true, Nat.reduceBEq, Nat.reduceDiv, Int.natCast_zero, Int.natCast_one, Int.reduceAdd, Int.reduceSub, reduceIte, ↓reduceIte, Value.oneCell', rowI_length, rowI_take, rowI_splice, rep_all, row_zero, le_nat, Int.toNat_natCast, Nat.zero_add, sok_row, reduceCtorEq]
        · rw [if_neg hjn] at hkj
          refine vcIf_no (by simp; omega) ?_
          rw [hkj] at hpj
          simp only [hpj, sn_upto, sn_from, slN_def, run_cap, rules, rules2, loopRules, Tryd.facts, base0, Int.toNat_zero, Nat.reduceAdd, Nat.reduceMul, Nat.reduceSub, Nat.reduceLT, Nat.reduceLeDiff, Nat.reduceEqDiff, Int.reduceLE, Int.reduceLT, Int.reduceToNat, Int.reduceNe, Int.reduceEq, not_false_eq_true, Nat.reduceBEq, Nat.reduceDiv, Int.natCast_zero, Int.natCast_one, Int.reduceAdd, Int.reduceSub, reduceIte, ↓reduceIte, Value.oneCell', rowI_length, rowI_take, rowI_splice, rep_all, row_zero, le_nat, Int.toNat_natCast, Nat.zero_add, sok_row, reduceCtorEq]
          refine append_nb (g := fun _ => padK kW ivW key nk 54 0) Tryd.mkK24 Tryd.slK24 (.inr ⟨_, _, _, true, [Sum.inl (.int .u8 (padK kW ivW key nk 54 0))], rfl, by simp only [upd_same]; rfl, rfl, shows_one⟩) (by decide) (fun h => by cases h) ?_
          intro _ c3 cs3 hg3
          simp only [hpj, sn_upto, sn_from, slN_def, run_cap, rules, rules2, loopRules, Tryd.facts, base0, Int.toNat_zero, Nat.reduceAdd, Nat.reduceMul, Nat.reduceSub, Nat.reduceLT, Nat.reduceLeDiff, Nat.reduceEqDiff, Int.reduceLE, Int.reduceLT, Int.reduceToNat, Int.reduceNe, Int.reduceEq, not_false_eq_true, Nat.reduceBEq, Nat.reduceDiv, Int.natCast_zero, Int.natCast_one, Int.reduceAdd, Int.reduceSub, reduceIte, ↓reduceIte, Value.oneCell', rowI_length, rowI_take, rowI_splice, rep_all, row_zero, le_nat, Int.toNat_natCast, Nat.zero_add, sok_row, reduceCtorEq]
          refine append_nb (g := fun _ => padK kW ivW key nk 92 0) Tryd.mkK24 Tryd.slK24 (.inr ⟨_, _, _, true, [Sum.inl (.int .u8 (padK kW ivW key nk 92 0))], rfl, by simp only [upd_same]; rfl, rfl, shows_one⟩) (by decide) (fun h => by cases h) ?_
          intro _ c4 cs4 hg4
          replace hg3 := hg3.congr (g := padK kW ivW key nk 54) (m := 0 + 1) rfl (fun i hi => by rw [show i = 0 by omega])
          replace hg4 := hg4.congr (g := padK kW ivW key nk 92) (m := 0 + 1) rfl (fun i hi => by rw [show i = 0 by omega])
          simp only [hpj, sn_upto, sn_from, slN_def, run_cap, rules, rules2, loopRules, Tryd.facts, base0, Int.toNat_zero, Nat.reduceAdd, Nat.reduceMul, Nat.reduceSub, Nat.reduceLT, Nat.reduceLeDiff, Nat.reduceEqDiff, Int.reduceLE, Int.reduceLT, Int.reduceToNat, Int.reduceNe, Int.reduceEq, not_false_eq_true, Nat.reduceBEq, Nat.reduceDiv, Int.natCast_zero, Int.natCast_one, Int.reduceAdd, Int.reduceSub, reduceIte, ↓reduceIte, Value.oneCell', rowI_length, rowI_take, rowI_splice, rep_all, row_zero, le_nat, Int.toNat_natCast, Nat.zero_add, sok_row, reduceCtorEq]
          refine ⟨((c3, cs3), (c4, cs4)), .inr ⟨hg3, hg4⟩, _, bringsR_2 (p := 111) (q := 117) (by omega) (by decide) (by decide) ?_ (by simp only [upd_apply, sn_upto, sn_from, slN_def, run_cap, rules, rules2, loopRules, Tryd.facts, base0, Int.toNat_zero, Nat.reduceAdd, Nat.reduceMul, Nat.reduceSub, Nat.reduceLT, Nat.reduceLeDiff, Nat.reduceEqDiff, Int.reduceLE, Int.reduceLT, Int.reduceToNat, Int.reduceNe, Int.reduceEq, not_false_eq_true, Nat.reduceBEq, Nat.reduceDiv, Int.natCast_zero, Int.natCast_one, Int.reduceAdd, Int.reduceSub, reduceIte, ↓reduceIte, Value.oneCell', rowI_length, rowI_take, rowI_splice, rep_all, row_zero, le_nat, Int.toNat_natCast, Nat.zero_add, sok_row, reduceCtorEq]) hg3.plain (by simp only [upd_same]) hg4.plain ?_⟩
          · have r0 := ren_low (r := upd (upd (fun n => n) 60 111) 61 117) (fun n hn => by rw [upd_ne _ _ _ _ (by omega), upd_ne _ _ _ _ (by omega)]) ok0
            have r1 := ren_low (r := upd (upd (fun n => n) 60 111) 61 117) (fun n hn => by rw [upd_ne _ _ _ _ (by omega), upd_ne _ _ _ _ (by omega)]) ok1
            have k0 : (k = 60) = False := eq_false (by omega)
            have k1 : (k = 61) = False := eq_false (by omega)
            have o0 := okA ok0
            have o1 := okA ok1
            have k2 : (k < 100) = True := eq_true (by omega)
            simp only [r0, r1, o0, o1, k0, k1, k2, ren_p, ren_s, ren_i, upd_apply, sn_upto, sn_from, slN_def, run_cap, rules, rules2, loopRules, Tryd.facts, base0, Int.toNat_zero, Nat.reduceAdd, Nat.reduceMul, Nat.reduceSub, Nat.reduceLT, Nat.reduceLeDiff, Nat.reduceEqDiff, Int.reduceLE, Int.reduceLT, Int.reduceToNat, Int.reduceNe, Int.reduceEq, not_false_eq_true, Nat.reduceBEq, Nat.reduceDiv, Int.natCast_zero, Int.natCast_one, Int.reduceAdd, Int.reduceSub, reduceIte, ↓reduceIte, Value.oneCell', rowI_length, rowI_take, rowI_splice, rep_all, row_zero, le_nat, Int.toNat_natCast, Nat.zero_add, sok_row, reduceCtorEq]
            rfl
          · intro x hx
            obtain ⟨h1, h2, h3, h4, h5⟩ := hL x hx
            have Fx := F x hx
            refine ⟨h2, by omega, by omega, ?_, h5⟩
            simp only [Fx 60 (by decide), Fx 61 (by decide), Fx 110 (by decide), Fx 111 (by decide), Fx 115 (by decide), Fx 116 (by decide), Fx 117 (by decide), Fx 121 (by decide), Fx 122 (by decide), h3, upd_apply, sn_upto, sn_from, slN_def, run_cap, rules, rules2, loopRules, Tryd.facts, base0, Int.toNat_zero, Nat.reduceAdd, Nat.reduceMul, Nat.reduceSub, Nat.reduceLT, Nat.reduceLeDiff, Nat.reduceEqDiff, Int.reduceLE, Int.reduceLT, Int.reduceToNat, Int.reduceNe, Int.reduceEq, not_false_eq_true, Nat.reduceBEq, Nat.reduceDiv, Int.natCast_zero, Int.natCast_one, Int.reduceAdd, Int.reduceSub, reduceIte, ↓reduceIte, Value.oneCell', rowI_length, rowI_take, rowI_splice, rep_all, row_zero, le_nat, Int.toNat_natCast, Nat.zero_add, sok_row, reduceCtorEq]
      · obtain ⟨hg1, hg2⟩ := hI.resolve_left (by omega)
        simp only [Nat.add_one_ne_zero, if_false, sn_upto, sn_from, slN_def, run_cap, rules, rules2, loopRules, Tryd.facts, base0, Int.toNat_zero, Nat.reduceAdd, Nat.reduceMul, Nat.reduceSub, Nat.reduceLT, Nat.reduceLeDiff, Nat.reduceEqDiff, Int.reduceLE, Int.reduceLT, Int.reduceToNat, Int.reduceNe, Int.reduceEq, not_false_eq_true, Nat.reduceBEq, Nat.reduceDiv, Int.natCast_zero, Int.natCast_one, Int.reduceAdd, Int.reduceSub, reduceIte, ↓reduceIte, Value.oneCell', rowI_length, rowI_take, rowI_splice, rep_all, row_zero, le_nat, Int.toNat_natCast, Nat.zero_add, sok_row, reduceCtorEq]
        refine vcIf_yes (by simp; omega) ?_
        simp only [at_len hv, sn_upto, sn_from, slN_def, run_cap, rules, rules2, loopRules, Tryd.facts, base0, Int.toNat_zero, Nat.reduceAdd, Nat.reduceMul, Nat.reduceSub, Nat.reduceLT, Nat.reduceLeDiff, Nat.reduceEqDiff, Int.reduceLE, Int.reduceLT, Int.reduceToNat, Int.reduceNe, Int.reduceEq, not_false_eq_true, Nat.reduceBEq, Nat.reduceDiv, Int.natCast_zero, Int.natCast_one, Int.reduceAdd, Int.reduceSub, reduceIte, ↓reduceIte, Value.oneCell', rowI_length, rowI_take, rowI_splice, rep_all, row_zero, le_nat, Int.toNat_natCast, Nat.zero_add, sok_row, reduceCtorEq]
        by_cases hjn : j + 1 < n
        · rw [if_pos hjn] at hkj
          refine vcIf_yes (by simp; omega) ?_
          obtain ⟨t, o, c, rw, cs, rfl, hb, hp, hs⟩ := at_some hv (by omega)
          have hld := hs (j + 1) hjn
          have a0 : (((j + 1 : Nat) : Int) < (n : Int)) = True := eq_true (by omega)
          have f60 := F _ (lk_mem _ _ _ hb) 60 (by decide)
          have f61 := F _ (lk_mem _ _ _ hb) 61 (by decide)
          simp only at f60 f61
          rw [← hkj] at hld
          simp only [Nat.mul_one, a0, nat_nn, f60, f61, hb, hld, hpj, sn_upto, sn_from, slN_def, run_cap, rules, rules2, loopRules, Tryd.facts, base0, Int.toNat_zero, Nat.reduceAdd, Nat.reduceMul, Nat.reduceSub, Nat.reduceLT, Nat.reduceLeDiff, Nat.reduceEqDiff, Int.reduceLE, Int.reduceLT, Int.reduceToNat, Int.reduceNe, Int.reduceEq, not_false_eq_true, Nat.reduceBEq, Nat.reduceDiv, Int.natCast_zero, Int.natCast_one, Int.reduceAdd, Int.reduceSub, reduceIte, ↓reduceIte, Value.oneCell', rowI_length, rowI_take, rowI_splice, rep_all, row_zero, le_nat, Int.toNat_natCast, Nat.zero_add, sok_row, reduceCtorEq]
          refine append_b (g := fun _ => padK kW ivW key nk 54 (j + 1)) Tryd.mkK24 Tryd.slK24 (by simp only [upd_apply, sn_upto, sn_from, slN_def, run_cap, rules, rules2, loopRules, Tryd.facts, base0, Int.toNat_zero, Nat.reduceAdd, Nat.reduceMul, Nat.reduceSub, Nat.reduceLT, Nat.reduceLeDiff, Nat.reduceEqDiff, Int.reduceLE, Int.reduceLT, Int.reduceToNat, Int.reduceNe, Int.reduceEq, not_false_eq_true, Nat.reduceBEq, Nat.reduceDiv, Int.natCast_zero, Int.natCast_one, Int.reduceAdd, Int.reduceSub, reduceIte, ↓reduceIte, Value.oneCell', rowI_length, rowI_take, rowI_splice, rep_all, row_zero, le_nat, Int.toNat_natCast, Nat.zero_add, sok_row, reduceCtorEq]) hg1 (.inr ⟨_, _, _, true, [Sum.inl (.int .u8 (padK kW ivW key nk 54 (j + 1)))], rfl, by simp only [upd_same]; rfl, shows_one, by decide⟩) (by omega) ?_
          intro c3 cs3 hg3
          simp only [hpj, sn_upto, sn_from, slN_def, run_cap, rules, rules2, loopRules, Tryd.facts, base0, Int.toNat_zero, Nat.reduceAdd, Nat.reduceMul, Nat.reduceSub, Nat.reduceLT, Nat.reduceLeDiff, Nat.reduceEqDiff, Int.reduceLE, Int.reduceLT, Int.reduceToNat, Int.reduceNe, Int.reduceEq, not_false_eq_true, Nat.reduceBEq, Nat.reduceDiv, Int.natCast_zero, Int.natCast_one, Int.reduceAdd, Int.reduceSub, reduceIte, ↓reduceIte, Value.oneCell', rowI_length, rowI_take, rowI_splice, rep_all, row_zero, le_nat, Int.toNat_natCast, Nat.zero_add, sok_row, reduceCtorEq]
          refine append_b (g := fun _ => padK kW ivW key nk 92 (j + 1)) Tryd.mkK24 Tryd.slK24 (by simp only [upd_apply, sn_upto, sn_from, slN_def, run_cap, rules, rules2, loopRules, Tryd.facts, base0, Int.toNat_zero, Nat.reduceAdd, Nat.reduceMul, Nat.reduceSub, Nat.reduceLT, Nat.reduceLeDiff, Nat.reduceEqDiff, Int.reduceLE, Int.reduceLT, Int.reduceToNat, Int.reduceNe, Int.reduceEq, not_false_eq_true, Nat.reduceBEq, Nat.reduceDiv, Int.natCast_zero, Int.natCast_one, Int.reduceAdd, Int.reduceSub, reduceIte, ↓reduceIte, Value.oneCell', rowI_length, rowI_take, rowI_splice, rep_all, row_zero, le_nat, Int.toNat_natCast, Nat.zero_add, sok_row, reduceCtorEq]) hg2 (.inr ⟨_, _, _, true, [Sum.inl (.int .u8 (padK kW ivW key nk 92 (j + 1)))], rfl, by simp only [upd_same]; rfl, shows_one, by decide⟩) (by omega) ?_
          intro c4 cs4 hg4
          replace hg3 := hg3.congr (g := padK kW ivW key nk 54) (m := j + 1 + 1) rfl (fun i hi => by
            simp only [joinB]; split
            · rfl
            · rw [show i = j + 1 by omega])
          replace hg4 := hg4.congr (g := padK kW ivW key nk 92) (m := j + 1 + 1) rfl (fun i hi => by
            simp only [joinB]; split
            · rfl
            · rw [show i = j + 1 by omega])
          simp only [hpj, sn_upto, sn_from, slN_def, run_cap, rules, rules2, loopRules, Tryd.facts, base0, Int.toNat_zero, Nat.reduceAdd, Nat.reduceMul, Nat.reduceSub, Nat.reduceLT, Nat.reduceLeDiff, Nat.reduceEqDiff, Int.reduceLE, Int.reduceLT, Int.reduceToNat, Int.reduceNe, Int.reduceEq, not_false_eq_true, Nat.reduceBEq, Nat.reduceDiv, Int.natCast_zero, Int.natCast_one, Int.reduceAdd, Int.reduceSub, reduceIte, ↓reduceIte, Value.oneCell', rowI_length, rowI_take, rowI_splice, rep_all, row_zero, le_nat, Int.toNat_natCast, Nat.zero_add, sok_row, reduceCtorEq]
          refine ⟨((c3, cs3), (c4, cs4)), .inr ⟨hg3, hg4⟩, _, bringsR_2 (p := 116) (q := 122) (by omega) (by decide) (by decide) ?_ (by simp only [upd_apply, sn_upto, sn_from, slN_def, run_cap, rules, rules2, loopRules, Tryd.facts, base0, Int.toNat_zero, Nat.reduceAdd, Nat.reduceMul, Nat.reduceSub, Nat.reduceLT, Nat.reduceLeDiff, Nat.reduceEqDiff, Int.reduceLE, Int.reduceLT, Int.reduceToNat, Int.reduceNe, Int.reduceEq, not_false_eq_true, Nat.reduceBEq, Nat.reduceDiv, Int.natCast_zero, Int.natCast_one, Int.reduceAdd, Int.reduceSub, reduceIte, ↓reduceIte, Value.oneCell', rowI_length, rowI_take, rowI_splice, rep_all, row_zero, le_nat, Int.toNat_natCast, Nat.zero_add, sok_row, reduceCtorEq]) hg3.plain (by simp only [upd_same]) hg4.plain ?_⟩
          · have r0 := ren_low (r := upd (upd (fun n => n) 60 116) 61 122) (fun n hn => by rw [upd_ne _ _ _ _ (by omega), upd_ne _ _ _ _ (by omega)]) ok0
            have r1 := ren_low (r := upd (upd (fun n => n) 60 116) 61 122) (fun n hn => by rw [upd_ne _ _ _ _ (by omega), upd_ne _ _ _ _ (by omega)]) ok1
            have k0 : (k = 60) = False := eq_false (by omega)
            have k1 : (k = 61) = False := eq_false (by omega)
            have o0 := okA ok0
            have o1 := okA ok1
            have k2 : (k < 100) = True := eq_true (by omega)
            simp only [r0, r1, o0, o1, k0, k1, k2, ren_p, ren_s, ren_i, upd_apply, wrapS (j + 1) (by omega), sn_upto, sn_from, slN_def, run_cap, rules, rules2, loopRules, Tryd.facts, base0, Int.toNat_zero, Nat.reduceAdd, Nat.reduceMul, Nat.reduceSub, Nat.reduceLT, Nat.reduceLeDiff, Nat.reduceEqDiff, Int.reduceLE, Int.reduceLT, Int.reduceToNat, Int.reduceNe, Int.reduceEq, not_false_eq_true, Nat.reduceBEq, Nat.reduceDiv, Int.natCast_zero, Int.natCast_one, Int.reduceAdd, Int.reduceSub, reduceIte, ↓reduceIte, Value.oneCell', rowI_length, rowI_take, rowI_splice, rep_all, row_zero, le_nat, Int.toNat_natCast, Nat.zero_add, sok_row, reduceCtorEq]
          · intro x hx
            obtain ⟨h1, h2, h3, h4, h5⟩ := hL x hx
            have Fx := F x hx
            refine ⟨h2, by omega, by omega, ?_, h5⟩
            simp only [Fx 60 (by decide), Fx 61 (by decide), Fx 110 (by decide), Fx 111 (by decide), Fx 115 (by decide), Fx 116 (by decide), Fx 117 (by decide), Fx 121 (by decide), Fx 122 (by decide), h3, upd_apply, sn_upto, sn_from, slN_def, run_cap, rules, rules2, loopRules, Tryd.facts, base0, Int.toNat_zero, Nat.reduceAdd, Nat.reduceMul, Nat.reduceSub, Nat.reduceLT, Nat.reduceLeDiff, Nat.reduceEqDiff, Int.reduceLE, Int.reduceLT, Int.reduceToNat, Int.reduceNe, Int.reduceEq, not_false_eq_true, Nat.reduceBEq, Nat.reduceDiv, Int.natCast_zero, Int.natCast_one, Int.reduceAdd, Int.reduceSub, reduceIte, ↓reduceIte, Value.oneCell', rowI_length, rowI_take, rowI_splice, rep_all, row_zero, le_nat, Int.toNat_natCast, Nat.zero_add, sok_row, reduceCtorEq]
        · rw [if_neg hjn] at hkj
          refine vcIf_no (by simp; omega) ?_
          rw [hkj] at hpj
          simp only [hpj, sn_upto, sn_from, slN_def, run_cap, rules, rules2, loopRules, Tryd.facts, base0, Int.toNat_zero, Nat.reduceAdd, Nat.reduceMul, Nat.reduceSub, Nat.reduceLT, Nat.reduceLeDiff, Nat.reduceEqDiff, Int.reduceLE, Int.reduceLT, Int.reduceToNat, Int.reduceNe, Int.reduceEq, not_false_eq_true, Nat.reduceBEq, Nat.reduceDiv, Int.natCast_zero, Int.natCast_one, Int.reduceAdd, Int.reduceSub, reduceIte, ↓reduceIte, Value.oneCell', rowI_length, rowI_take, rowI_splice, rep_all, row_zero, le_nat, Int.toNat_natCast, Nat.zero_add, sok_row, reduceCtorEq]
          refine append_b (g := fun _ => padK kW ivW key nk 54 (j + 1)) Tryd.mkK24 Tryd.slK24 (by simp only [upd_apply, sn_upto, sn_from, slN_def, run_cap, rules, rules2, loopRules, Tryd.facts, base0, Int.toNat_zero, Nat.reduceAdd, Nat.reduceMul, Nat.reduceSub, Nat.reduceLT, Nat.reduceLeDiff, Nat.reduceEqDiff, Int.reduceLE, Int.reduceLT, Int.reduceToNat, Int.reduceNe, Int.reduceEq, not_false_eq_true, Nat.reduceBEq, Nat.reduceDiv, Int.natCast_zero, Int.natCast_one, Int.reduceAdd, Int.reduceSub, reduceIte, ↓reduceIte, Value.oneCell', rowI_length, rowI_take, rowI_splice, rep_all, row_zero, le_nat, Int.toNat_natCast, Nat.zero_add, sok_row, reduceCtorEq]) hg1 (.inr ⟨_, _, _, true, [Sum.inl (.int .u8 (padK kW ivW key nk 54 (j + 1)))], rfl, by simp only [upd_same]; rfl, shows_one, by decide⟩) (by omega) ?_
          intro c3 cs3 hg3
          simp only [hpj, sn_upto, sn_from, slN_def, run_cap, rules, rules2, loopRules, Tryd.facts, base0, Int.toNat_zero, Nat.reduceAdd, Nat.reduceMul, Nat.reduceSub, Nat.reduceLT, Nat.reduceLeDiff, Nat.reduceEqDiff, Int.reduceLE, Int.reduceLT, Int.reduceToNat, Int.reduceNe, Int.reduceEq, not_false_eq_true, Nat.reduceBEq, Nat.reduceDiv, Int.natCast_zero, Int.natCast_one, Int.reduceAdd, Int.reduceSub, reduceIte, ↓reduceIte, Value.oneCell', rowI_length, rowI_take, rowI_splice, rep_all, row_zero, le_nat, Int.toNat_natCast, Nat.zero_add, sok_row, reduceCtorEq]
          refine append_b (g := fun _ => padK kW ivW key nk 92 (j + 1)) Tryd.mkK24 Tryd.slK24 (by simp only [upd_apply, sn_upto, sn_from, slN_def, run_cap, rules, rules2, loopRules, Tryd.facts, base0, Int.toNat_zero, Nat.reduceAdd, Nat.reduceMul, Nat.reduceSub, Nat.reduceLT, Nat.reduceLeDiff, Nat.reduceEqDiff, Int.reduceLE, Int.reduceLT, Int.reduceToNat, Int.reduceNe, Int.reduceEq, not_false_eq_true, Nat.reduceBEq, Nat.reduceDiv, Int.natCast_zero, Int.natCast_one, Int.reduceAdd, Int.reduceSub, reduceIte, ↓reduceIte, Value.oneCell', rowI_length, rowI_take, rowI_splice, rep_all, row_zero, le_nat, Int.toNat_natCast, Nat.zero_add, sok_row, reduceCtorEq]) hg2 (.inr ⟨_, _, _, true, [Sum.inl (.int .u8 (padK kW ivW key nk 92 (j + 1)))], rfl, by simp only [upd_same]; rfl, shows_one, by decide⟩) (by omega) ?_
          intro c4 cs4 hg4
          replace hg3 := hg3.congr (g := padK kW ivW key nk 54) (m := j + 1 + 1) rfl (fun i hi => by
            simp only [joinB]; split
            · rfl
            · rw [show i = j + 1 by omega])
          replace hg4 := hg4.congr (g := padK kW ivW key nk 92) (m := j + 1 + 1) rfl (fun i hi => by
            simp only [joinB]; split
            · rfl
            · rw [show i = j + 1 by omega])
          simp only [hpj, sn_upto, sn_from, slN_def, run_cap, rules, rules2, loopRules, Tryd.facts, base0, Int.toNat_zero, Nat.reduceAdd, Nat.reduceMul, Nat.reduceSub, Nat.reduceLT, Nat.reduceLeDiff, Nat.reduceEqDiff, Int.reduceLE, Int.reduceLT, Int.reduceToNat, Int.reduceNe, Int.reduceEq, not_false_eq_true, Nat.reduceBEq, Nat.reduceDiv, Int.natCast_zero, Int.natCast_one, Int.reduceAdd, Int.reduceSub, reduceIte, ↓reduceIte, Value.oneCell', rowI_length, rowI_take, rowI_splice, rep_all, row_zero, le_nat, Int.toNat_natCast, Nat.zero_add, sok_row, reduceCtorEq]
          refine ⟨((c3, cs3), (c4, cs4)), .inr ⟨hg3, hg4⟩, _, bringsR_2 (p := 111) (q := 117) (by omega) (by decide) (by decide) ?_ (by simp only [upd_apply, sn_upto, sn_from, slN_def, run_cap, rules, rules2, loopRules, Tryd.facts, base0, Int.toNat_zero, Nat.reduceAdd, Nat.reduceMul, Nat.reduceSub, Nat.reduceLT, Nat.reduceLeDiff, Nat.reduceEqDiff, Int.reduceLE, Int.reduceLT, Int.reduceToNat, Int.reduceNe, Int.reduceEq, not_false_eq_true, Nat.reduceBEq, Nat.reduceDiv, Int.natCast_zero, Int.natCast_one, Int.reduceAdd, Int.reduceSub, reduceIte, ↓reduceIte, Value.oneCell', rowI_length, rowI_take, rowI_splice, rep_all, row_zero, le_nat, Int.toNat_natCast, Nat.zero_add, sok_row, reduceCtorEq]) hg3.plain (by simp only [upd_same]) hg4.plain ?_⟩
          · have r0 := ren_low (r := upd (upd (fun n => n) 60 111) 61 117) (fun n hn => by rw [upd_ne _ _ _ _ (by omega), upd_ne _ _ _ _ (by omega)]) ok0
            have r1 := ren_low (r := upd (upd (fun n => n) 60 111) 61 117) (fun n hn => by rw [upd_ne _ _ _ _ (by omega), upd_ne _ _ _ _ (by omega)]) ok1
            have k0 : (k = 60) = False := eq_false (by omega)
            have k1 : (k = 61) = False := eq_false (by omega)
            have o0 := okA ok0
            have o1 := okA ok1
            have k2 : (k < 100) = True := eq_true (by omega)
            simp only [r0, r1, o0, o1, k0, k1, k2, ren_p, ren_s, ren_i, upd_apply, wrapS (j + 1) (by omega), sn_upto, sn_from, slN_def, run_cap, rules, rules2, loopRules, Tryd.facts, base0, Int.toNat_zero, Nat.reduceAdd, Nat.reduceMul, Nat.reduceSub, Nat.reduceLT, Nat.reduceLeDiff, Nat.reduceEqDiff, Int.reduceLE, Int.reduceLT, Int.reduceToNat, Int.reduceNe, Int.reduceEq, not_false_eq_true, Nat.reduceBEq, Nat.reduceDiv, Int.natCast_zero, Int.natCast_one, Int.reduceAdd, Int.reduceSub, reduceIte, ↓reduceIte, Value.oneCell', rowI_length, rowI_take, rowI_splice, rep_all, row_zero, le_nat, Int.toNat_natCast, Nat.zero_add, sok_row, reduceCtorEq]
          · intro x hx
            obtain ⟨h1, h2, h3, h4, h5⟩ := hL x hx
            have Fx := F x hx
            refine ⟨h2, by omega, by omega, ?_, h5⟩
            simp only [Fx 60 (by decide), Fx 61 (by decide), Fx 110 (by decide), Fx 111 (by decide), Fx 115 (by decide), Fx 116 (by decide), Fx 117 (by decide), Fx 121 (by decide), Fx 122 (by decide), h3, upd_apply, sn_upto, sn_from, slN_def, run_cap, rules, rules2, loopRules, Tryd.facts, base0, Int.toNat_zero, Nat.reduceAdd, Nat.reduceMul, Nat.reduceSub, Nat.reduceLT, Nat.reduceLeDiff, Nat.reduceEqDiff, Int.reduceLE, Int.reduceLT, Int.reduceToNat, Int.reduceNe, Int.reduceEq, not_false_eq_true, Nat.reduceBEq, Nat.reduceDiv, Int.natCast_zero, Int.natCast_one, Int.reduceAdd, Int.reduceSub, reduceIte, ↓reduceIte, Value.oneCell', rowI_length, rowI_take, rowI_splice, rep_all, row_zero, le_nat, Int.toNat_natCast, Nat.zero_add, sok_row, reduceCtorEq]
    · rintro ⟨⟨c1, cs1⟩, c2, cs2⟩ hI
      have hI := hI.resolve_left (by decide)
      obtain ⟨hg1, hg2⟩ := hI
      simp only [sn_upto, sn_from, slN_def, run_cap, rules, rules2, loopRules, Tryd.facts, base0, Int.toNat_zero, Nat.reduceAdd, Nat.reduceMul, Nat.reduceSub, Nat.reduceLT, Nat.reduceLeDiff, Nat.reduceEqDiff, Int.reduceLE, Int.reduceLT, Int.reduceToNat, Int.reduceNe, Int.reduceEq, not_false_eq_true, Nat.reduceBEq, Nat.reduceDiv, Int.natCast_zero, Int.natCast_one, Int.reduceAdd, Int.reduceSub, reduceIte, ↓reduceIte, Value.oneCell', rowI_length, rowI_take, rowI_splice, rep_all, row_zero, le_nat, Int.toNat_natCast, Nat.zero_add, sok_row, reduceCtorEq]
      refine vcIf_no (by simp) ?_
      simp only [sn_upto, sn_from, slN_def, run_cap, rules, rules2, loopRules, Tryd.facts, base0, Int.toNat_zero, Nat.reduceAdd, Nat.reduceMul, Nat.reduceSub, Nat.reduceLT, Nat.reduceLeDiff, Nat.reduceEqDiff, Int.reduceLE, Int.reduceLT, Int.reduceToNat, Int.reduceNe, Int.reduceEq, not_false_eq_true, Nat.reduceBEq, Nat.reduceDiv, Int.natCast_zero, Int.natCast_one, Int.reduceAdd, Int.reduceSub, reduceIte, ↓reduceIte, Value.oneCell', rowI_length, rowI_take, rowI_splice, rep_all, row_zero, le_nat, Int.toNat_natCast, Nat.zero_add, sok_row, reduceCtorEq]
      refine append_b (g := f) Tryd.mkK24 Tryd.slK24 (by simp only [sn_upto, sn_from, slN_def, run_cap, rules, rules2, loopRules, Tryd.facts, base0, Int.toNat_zero, Nat.reduceAdd, Nat.reduceMul, Nat.reduceSub, Nat.reduceLT, Nat.reduceLeDiff, Nat.reduceEqDiff, Int.reduceLE, Int.reduceLT, Int.reduceToNat, Int.reduceNe, Int.reduceEq, not_false_eq_true, Nat.reduceBEq, Nat.reduceDiv, Int.natCast_zero, Int.natCast_one, Int.reduceAdd, Int.reduceSub, reduceIte, ↓reduceIte, Value.oneCell', rowI_length, rowI_take, rowI_splice, rep_all, row_zero, le_nat, Int.toNat_natCast, Nat.zero_add, sok_row, reduceCtorEq]) hg1 (at_off hvm fun t b hb => ?_) (by omega) ?_
      · have f60 := eq_false (p := t = 60) (by have := (hL _ (lk_mem _ _ _ hb)).1; simp only at this; omega)
        have f61 := eq_false (p := t = 61) (by have := (hL _ (lk_mem _ _ _ hb)).1; simp only at this; omega)
        simp only [f60, f61, hb, sn_upto, sn_from, slN_def, run_cap, rules, rules2, loopRules, Tryd.facts, base0, Int.toNat_zero, Nat.reduceAdd, Nat.reduceMul, Nat.reduceSub, Nat.reduceLT, Nat.reduceLeDiff, Nat.reduceEqDiff, Int.reduceLE, Int.reduceLT, Int.reduceToNat, Int.reduceNe, Int.reduceEq, not_false_eq_true, Nat.reduceBEq, Nat.reduceDiv, Int.natCast_zero, Int.natCast_one, Int.reduceAdd, Int.reduceSub, reduceIte, ↓reduceIte, Value.oneCell', rowI_length, rowI_take, rowI_splice, rep_all, row_zero, le_nat, Int.toNat_natCast, Nat.zero_add, sok_row, reduceCtorEq]
      intro c3 cs3 hg3
      simp only [sn_upto, sn_from, slN_def, run_cap, rules, rules2, loopRules, Tryd.facts, base0, Int.toNat_zero, Nat.reduceAdd, Nat.reduceMul, Nat.reduceSub, Nat.reduceLT, Nat.reduceLeDiff, Nat.reduceEqDiff, Int.reduceLE, Int.reduceLT, Int.reduceToNat, Int.reduceNe, Int.reduceEq, not_false_eq_true, Nat.reduceBEq, Nat.reduceDiv, Int.natCast_zero, Int.natCast_one, Int.reduceAdd, Int.reduceSub, reduceIte, ↓reduceIte, Value.oneCell', rowI_length, rowI_take, rowI_splice, rep_all, row_zero, le_nat, Int.toNat_natCast, Nat.zero_add, sok_row, reduceCtorEq]
      refine refDigest_call (rw := true) (joinB_byt (padK_byt _ _ _ _ _) hf) (by simp only [upd_same]) hg3.shows hg3.plain (by omega) ?_
      simp only [sn_upto, sn_from, slN_def, run_cap, rules, rules2, loopRules, Tryd.facts, base0, Int.toNat_zero, Nat.reduceAdd, Nat.reduceMul, Nat.reduceSub, Nat.reduceLT, Nat.reduceLeDiff, Nat.reduceEqDiff, Int.reduceLE, Int.reduceLT, Int.reduceToNat, Int.reduceNe, Int.reduceEq, not_false_eq_true, Nat.reduceBEq, Nat.reduceDiv, Int.natCast_zero, Int.natCast_one, Int.reduceAdd, Int.reduceSub, reduceIte, ↓reduceIte, Value.oneCell', rowI_length, rowI_take, rowI_splice, rep_all, row_zero, le_nat, Int.toNat_natCast, Nat.zero_add, sok_row, reduceCtorEq]
      refine append_b (g := shaW kW ivW (joinB 64 (padK kW ivW key nk 54) f) (64 + m)) Tryd.mkK24 Tryd.slK24 (by simp only [upd_apply, sn_upto, sn_from, slN_def, run_cap, rules, rules2, loopRules, Tryd.facts, base0, Int.toNat_zero, Nat.reduceAdd, Nat.reduceMul, Nat.reduceSub, Nat.reduceLT, Nat.reduceLeDiff, Nat.reduceEqDiff, Int.reduceLE, Int.reduceLT, Int.reduceToNat, Int.reduceNe, Int.reduceEq, not_false_eq_true, Nat.reduceBEq, Nat.reduceDiv, Int.natCast_zero, Int.natCast_one, Int.reduceAdd, Int.reduceSub, reduceIte, ↓reduceIte, Value.oneCell', rowI_length, rowI_take, rowI_splice, rep_all, row_zero, le_nat, Int.toNat_natCast, Nat.zero_add, sok_row, reduceCtorEq]) hg2 (.inr ⟨_, _, _, true, rowI .u8 32 (shaW kW ivW (joinB 64 (padK kW ivW key nk 54) f) (64 + m)), rfl, by simp only [upd_apply, sn_upto, sn_from, slN_def, run_cap, rules, rules2, loopRules, Tryd.facts, base0, Int.toNat_zero, Nat.reduceAdd, Nat.reduceMul, Nat.reduceSub, Nat.reduceLT, Nat.reduceLeDiff, Nat.reduceEqDiff, Int.reduceLE, Int.reduceLT, Int.reduceToNat, Int.reduceNe, Int.reduceEq, not_false_eq_true, Nat.reduceBEq, Nat.reduceDiv, Int.natCast_zero, Int.natCast_one, Int.reduceAdd, Int.reduceSub, reduceIte, ↓reduceIte, Value.oneCell', rowI_length, rowI_take, rowI_splice, rep_all, row_zero, le_nat, Int.toNat_natCast, Nat.zero_add, sok_row, reduceCtorEq], shows_row0, by decide⟩) (by decide) ?_
      intro c4 cs4 hg4
      simp only [sn_upto, sn_from, slN_def, run_cap, rules, rules2, loopRules, Tryd.facts, base0, Int.toNat_zero, Nat.reduceAdd, Nat.reduceMul, Nat.reduceSub, Nat.reduceLT, Nat.reduceLeDiff, Nat.reduceEqDiff, Int.reduceLE, Int.reduceLT, Int.reduceToNat, Int.reduceNe, Int.reduceEq, not_false_eq_true, Nat.reduceBEq, Nat.reduceDiv, Int.natCast_zero, Int.natCast_one, Int.reduceAdd, Int.reduceSub, reduceIte, ↓reduceIte, Value.oneCell', rowI_length, rowI_take, rowI_splice, rep_all, row_zero, le_nat, Int.toNat_natCast, Nat.zero_add, sok_row, reduceCtorEq]
      refine refDigest_call (rw := true) (joinB_byt (padK_byt _ _ _ _ _) (shaW_byt _ _ _ _)) (by simp only [upd_same]) hg4.shows hg4.plain (by decide) ?_
      have q1 : ∀ z, 50 ≤ z → (k = z) = False := fun z hz => eq_false (by omega)
      simp only [q1 60 (by decide), q1 61 (by decide), q1 104 (by decide), q1 108 (by decide), q1 112 (by decide), hcell, sn_upto, sn_from, slN_def, run_cap, rules, rules2, loopRules, Tryd.facts, base0, Int.toNat_zero, Nat.reduceAdd, Nat.reduceMul, Nat.reduceSub, Nat.reduceLT, Nat.reduceLeDiff, Nat.reduceEqDiff, Int.reduceLE, Int.reduceLT, Int.reduceToNat, Int.reduceNe, Int.reduceEq, not_false_eq_true, Nat.reduceBEq, Nat.reduceDiv, Int.natCast_zero, Int.natCast_one, Int.reduceAdd, Int.reduceSub, reduceIte, ↓reduceIte, Value.oneCell', rowI_length, rowI_take, rowI_splice, rep_all, row_zero, le_nat, Int.toNat_natCast, Nat.zero_add, sok_row, reduceCtorEq]
      exact ret_plain plainI ⟨rfl, rfl⟩
end Go.Proofs.YtljncmifbncdbaaDoor
