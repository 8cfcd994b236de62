/-
  Sealing in the program: the tag.
-/
import Derived.Test.YtljncmifbncdbaaDoorVcgS1
set_option linter.unusedSimpArgs false
set_option linter.unusedVariables false
namespace Go.Proofs.YtljncmifbncdbaaDoor
open Go.Vcg
set_option maxHeartbeats 8000000 in
set_option maxRecDepth 20000 in
theorem appendU64_n {x : Int} : MFun Tryd.prog 27 [V (.slice none 0 0), I .u64 x] 0 (fun _ => none) (Made 0 8 (u64B x)) := by
  refine mfun_of_vc Tryd.func27 rfl (by kernel_rfl) (by simp [Tryd.ntmps27]) Tryd.callable27 (by simp [AV.ok, CV.ok, SV.names]) all0 inn0 ?_
  simp only [Tryd.results27, sn_upto, sn_from, slN_def, run_cap, rules, rules2, loopRules, Tryd.facts, base0, Int.toNat_zero, Nat.reduceAdd, Nat.reduceMul, Nat.reduceSub, Nat.reduceLT, Nat.reduceLeDiff, Nat.reduceEqDiff, Int.reduceLE, Int.reduceLT, Int.reduceToNat, Int.reduceNe, Int.reduceEq, not_false_eq_true, Nat.reduceBEq, Nat.reduceDiv, Int.natCast_zero, Int.natCast_one, Int.reduceAdd, Int.reduceSub, reduceIte, ↓reduceIte, Value.oneCell', rowI_length, rowI_take, rowI_splice, rep_all, row_zero, le_nat, Int.toNat_natCast, Nat.zero_add, sok_row, reduceCtorEq]
  refine loop_anew (β := Nat × List SV) 8 (fun k y => k = 0 ∨ Grows y.2 0 k y.1 (u64B x))
    (fun k y => [(0, if k = 0 then V (.slice none 0 0) else Sl 30 0 k y.1), (1, I .u64 x), (5, I .i64 (56 - 8 * (k : Int)))]) (fun k y => if k = 0 then [] else [(30, ⟨true, y.2⟩)]) 31 (0, []) ?_ ?_ ?_ (by show _ ≤ 31; simp only [AS.put]; omega)
  · refine ⟨.inl rfl, 30, 0, ?_⟩
    simp only [BringsTo, if_true, ren_i, ren_s, ren_p, ren_v, sn_upto, sn_from, slN_def, run_cap, rules, rules2, loopRules, Tryd.facts, base0, Int.toNat_zero, Nat.reduceAdd, Nat.reduceMul, Nat.reduceSub, Nat.reduceLT, Nat.reduceLeDiff, Nat.reduceEqDiff, Int.reduceLE, Int.reduceLT, Int.reduceToNat, Int.reduceNe, Int.reduceEq, not_false_eq_true, Nat.reduceBEq, Nat.reduceDiv, Int.natCast_zero, Int.natCast_one, Int.reduceAdd, Int.reduceSub, reduceIte, ↓reduceIte, Value.oneCell', rowI_length, rowI_take, rowI_splice, rep_all, row_zero, le_nat, Int.toNat_natCast, Nat.zero_add, sok_row, reduceCtorEq]
    simp
    trivial
  · rintro k ⟨c', cs'⟩ hk h1
    simp only at h1
    have eb : IntKind.u8.wrap (shrI .u64 x (56 - 8 * (k : Int))) = u64B x k := rfl
    have ws : IntKind.i64.wrap (56 - 8 * (k : Int) - 8) = 56 - 8 * ((k + 1 : Nat) : Int) := by rw [wrap_i64 _ (by omega) (by omega)]; omega
    rcases k with _ | k
    · have eb : IntKind.u8.wrap (shrI .u64 x 56) = u64B x 0 := rfl
      have a0 : (56 - 8 * (0 : Int)) = 56 := rfl
      have ws : IntKind.i64.wrap 48 = 56 - 8 * 1 := by decide
      simp only [a0, sn_upto, sn_from, slN_def, run_cap, rules, rules2, loopRules, Tryd.facts, base0, Int.toNat_zero, Nat.reduceAdd, Nat.reduceMul, Nat.reduceSub, Nat.reduceLT, Nat.reduceLeDiff, Nat.reduceEqDiff, Int.reduceLE, Int.reduceLT, Int.reduceToNat, Int.reduceNe, Int.reduceEq, not_false_eq_true, Nat.reduceBEq, Nat.reduceDiv, Int.natCast_zero, Int.natCast_one, Int.reduceAdd, Int.reduceSub, reduceIte, ↓reduceIte, Value.oneCell', rowI_length, rowI_take, rowI_splice, rep_all, row_zero, le_nat, Int.toNat_natCast, Nat.zero_add, sok_row, reduceCtorEq]
      refine vcIf_yes (by decide) ?_
      simp only [eb, sn_upto, sn_from, slN_def, run_cap, rules, rules2, loopRules, Tryd.facts, base0, Int.toNat_zero, Nat.reduceAdd, Nat.reduceMul, Nat.reduceSub, Nat.reduceLT, Nat.reduceLeDiff, Nat.reduceEqDiff, Int.reduceLE, Int.reduceLT, Int.reduceToNat, Int.reduceNe, Int.reduceEq, not_false_eq_true, Nat.reduceBEq, Nat.reduceDiv, Int.natCast_zero, Int.natCast_one, Int.reduceAdd, Int.reduceSub, reduceIte, ↓reduceIte, Value.oneCell', rowI_length, rowI_take, rowI_splice, rep_all, row_zero, le_nat, Int.toNat_natCast, Nat.zero_add, sok_row, reduceCtorEq]
      refine append_nb (g := fun _ => u64B x 0) Tryd.mkK24 Tryd.slK24 (.inr ⟨_, _, _, true, [Sum.inl (.int .u8 (u64B x 0))], rfl, by simp only [upd_same]; rfl, rfl, shows_one⟩) (by decide) (fun h => by cases h) ?_
      intro _ c2 cs2 hg2
      simp only [ws, sn_upto, sn_from, slN_def, run_cap, rules, rules2, loopRules, Tryd.facts, base0, Int.toNat_zero, Nat.reduceAdd, Nat.reduceMul, Nat.reduceSub, Nat.reduceLT, Nat.reduceLeDiff, Nat.reduceEqDiff, Int.reduceLE, Int.reduceLT, Int.reduceToNat, Int.reduceNe, Int.reduceEq, not_false_eq_true, Nat.reduceBEq, Nat.reduceDiv, Int.natCast_zero, Int.natCast_one, Int.reduceAdd, Int.reduceSub, reduceIte, ↓reduceIte, Value.oneCell', rowI_length, rowI_take, rowI_splice, rep_all, row_zero, le_nat, Int.toNat_natCast, Nat.zero_add, sok_row, reduceCtorEq]
      refine ⟨(c2, cs2), .inr (hg2.congr rfl fun i hi => by rw [show i = 0 by omega]), 30, 39, ?_⟩
      simp only [BringsTo, ren_i, ren_s, ren_p, ren_v, hg2.plain, true_or, sn_upto, sn_from, slN_def, run_cap, rules, rules2, loopRules, Tryd.facts, base0, Int.toNat_zero, Nat.reduceAdd, Nat.reduceMul, Nat.reduceSub, Nat.reduceLT, Nat.reduceLeDiff, Nat.reduceEqDiff, Int.reduceLE, Int.reduceLT, Int.reduceToNat, Int.reduceNe, Int.reduceEq, not_false_eq_true, Nat.reduceBEq, Nat.reduceDiv, Int.natCast_zero, Int.natCast_one, Int.reduceAdd, Int.reduceSub, reduceIte, ↓reduceIte, Value.oneCell', rowI_length, rowI_take, rowI_splice, rep_all, row_zero, le_nat, Int.toNat_natCast, Nat.zero_add, sok_row, reduceCtorEq]
      simp
    · have hg := h1.resolve_left (by omega)
      have a2 : (0 ≤ 56 - 8 * ((k + 1 : Nat) : Int)) = True := eq_true (by omega)
      simp only [Nat.add_one_ne_zero, if_false, sn_upto, sn_from, slN_def, run_cap, rules, rules2, loopRules, Tryd.facts, base0, Int.toNat_zero, Nat.reduceAdd, Nat.reduceMul, Nat.reduceSub, Nat.reduceLT, Nat.reduceLeDiff, Nat.reduceEqDiff, Int.reduceLE, Int.reduceLT, Int.reduceToNat, Int.reduceNe, Int.reduceEq, not_false_eq_true, Nat.reduceBEq, Nat.reduceDiv, Int.natCast_zero, Int.natCast_one, Int.reduceAdd, Int.reduceSub, reduceIte, ↓reduceIte, Value.oneCell', rowI_length, rowI_take, rowI_splice, rep_all, row_zero, le_nat, Int.toNat_natCast, Nat.zero_add, sok_row, reduceCtorEq]
      refine vcIf_yes (by simp; omega) ?_
      simp only [a2, eb, sn_upto, sn_from, slN_def, run_cap, rules, rules2, loopRules, Tryd.facts, base0, Int.toNat_zero, Nat.reduceAdd, Nat.reduceMul, Nat.reduceSub, Nat.reduceLT, Nat.reduceLeDiff, Nat.reduceEqDiff, Int.reduceLE, Int.reduceLT, Int.reduceToNat, Int.reduceNe, Int.reduceEq, not_false_eq_true, Nat.reduceBEq, Nat.reduceDiv, Int.natCast_zero, Int.natCast_one, Int.reduceAdd, Int.reduceSub, reduceIte, ↓reduceIte, Value.oneCell', rowI_length, rowI_take, rowI_splice, rep_all, row_zero, le_nat, Int.toNat_natCast, Nat.zero_add, sok_row, reduceCtorEq]
      refine append_b (g := fun _ => u64B x (k + 1)) Tryd.mkK24 Tryd.slK24 (by simp only [upd_apply, sn_upto, sn_from, slN_def, run_cap, rules, rules2, loopRules, Tryd.facts, base0, Int.toNat_zero, Nat.reduceAdd, Nat.reduceMul, Nat.reduceSub, Nat.reduceLT, Nat.reduceLeDiff, Nat.reduceEqDiff, Int.reduceLE, Int.reduceLT, Int.reduceToNat, Int.reduceNe, Int.reduceEq, not_false_eq_true, Nat.reduceBEq, Nat.reduceDiv, Int.natCast_zero, Int.natCast_one, Int.reduceAdd, Int.reduceSub, reduceIte, ↓reduceIte, Value.oneCell', rowI_length, rowI_take, rowI_splice, rep_all, row_zero, le_nat, Int.toNat_natCast, Nat.zero_add, sok_row, reduceCtorEq]) hg (.inr ⟨_, 0, 1, true, [Sum.inl (.int .u8 (u64B x (k + 1)))], rfl, by simp only [upd_same]; rfl, shows_one, by decide⟩) (by omega) ?_
      intro c2 cs2 hg2
      simp only [ws, sn_upto, sn_from, slN_def, run_cap, rules, rules2, loopRules, Tryd.facts, base0, Int.toNat_zero, Nat.reduceAdd, Nat.reduceMul, Nat.reduceSub, Nat.reduceLT, Nat.reduceLeDiff, Nat.reduceEqDiff, Int.reduceLE, Int.reduceLT, Int.reduceToNat, Int.reduceNe, Int.reduceEq, not_false_eq_true, Nat.reduceBEq, Nat.reduceDiv, Int.natCast_zero, Int.natCast_one, Int.reduceAdd, Int.reduceSub, reduceIte, ↓reduceIte, Value.oneCell', rowI_length, rowI_take, rowI_splice, rep_all, row_zero, le_nat, Int.toNat_natCast, Nat.zero_add, sok_row, reduceCtorEq]
      refine ⟨(c2, cs2), .inr (hg2.congr rfl fun i hi => ?_), 30, 39, ?_⟩
      · simp only [joinB]; split
        · rfl
        · rw [show i = k + 1 by omega]
      simp only [BringsTo, ren_i, ren_s, ren_p, ren_v, hg2.plain, true_or, sn_upto, sn_from, slN_def, run_cap, rules, rules2, loopRules, Tryd.facts, base0, Int.toNat_zero, Nat.reduceAdd, Nat.reduceMul, Nat.reduceSub, Nat.reduceLT, Nat.reduceLeDiff, Nat.reduceEqDiff, Int.reduceLE, Int.reduceLT, Int.reduceToNat, Int.reduceNe, Int.reduceEq, not_false_eq_true, Nat.reduceBEq, Nat.reduceDiv, Int.natCast_zero, Int.natCast_one, Int.reduceAdd, Int.reduceSub, reduceIte, ↓reduceIte, Value.oneCell', rowI_length, rowI_take, rowI_splice, rep_all, row_zero, le_nat, Int.toNat_natCast, Nat.zero_add, sok_row, reduceCtorEq]
      simp
  · rintro ⟨c', cs'⟩ h1
    have h1 := h1.resolve_left (by decide)
    simp only at h1
    simp only [sn_upto, sn_from, slN_def, run_cap, rules, rules2, loopRules, Tryd.facts, base0, Int.toNat_zero, Nat.reduceAdd, Nat.reduceMul, Nat.reduceSub, Nat.reduceLT, Nat.reduceLeDiff, Nat.reduceEqDiff, Int.reduceLE, Int.reduceLT, Int.reduceToNat, Int.reduceNe, Int.reduceEq, not_false_eq_true, Nat.reduceBEq, Nat.reduceDiv, Int.natCast_zero, Int.natCast_one, Int.reduceAdd, Int.reduceSub, reduceIte, ↓reduceIte, Value.oneCell', rowI_length, rowI_take, rowI_splice, rep_all, row_zero, le_nat, Int.toNat_natCast, Nat.zero_add, sok_row, reduceCtorEq]
    refine vcIf_no (by decide) ?_
    simp only [sn_upto, sn_from, slN_def, run_cap, rules, rules2, loopRules, Tryd.facts, base0, Int.toNat_zero, Nat.reduceAdd, Nat.reduceMul, Nat.reduceSub, Nat.reduceLT, Nat.reduceLeDiff, Nat.reduceEqDiff, Int.reduceLE, Int.reduceLT, Int.reduceToNat, Int.reduceNe, Int.reduceEq, not_false_eq_true, Nat.reduceBEq, Nat.reduceDiv, Int.natCast_zero, Int.natCast_one, Int.reduceAdd, Int.reduceSub, reduceIte, ↓reduceIte, Value.oneCell', rowI_length, rowI_take, rowI_splice, rep_all, row_zero, le_nat, Int.toNat_natCast, Nat.zero_add, sok_row, reduceCtorEq]
    refine ret_new (k := 0) (q := 30) (cs := cs') (by decide) ?_ h1.plain h1.made
    simp only [sn_upto, sn_from, slN_def, run_cap, rules, rules2, loopRules, Tryd.facts, base0, Int.toNat_zero, Nat.reduceAdd, Nat.reduceMul, Nat.reduceSub, Nat.reduceLT, Nat.reduceLeDiff, Nat.reduceEqDiff, Int.reduceLE, Int.reduceLT, Int.reduceToNat, Int.reduceNe, Int.reduceEq, not_false_eq_true, Nat.reduceBEq, Nat.reduceDiv, Int.natCast_zero, Int.natCast_one, Int.reduceAdd, Int.reduceSub, reduceIte, ↓reduceIte, Value.oneCell', rowI_length, rowI_take, rowI_splice, rep_all, row_zero, le_nat, Int.toNat_natCast, Nat.zero_add, sok_row, reduceCtorEq]
theorem u64B_byt (x : Int) : Byt (u64B x) := fun i => by simp only [u64B, wrap_u8]; omega
/-- What the tag goes over: the length of ad, ad, the body. -/
def tagT (na nb : Nat) (ad body : Nat → Int) : Nat → Int := joinB (8 + na) (joinB 8 (u64B (na : Int)) ad) body
def tagA (K : Nat → Int) (na nb : Nat) (ad body : Nat → Int) : Nat → Int := macW kW ivW (fun i => K (32 + i)) 32 (tagT na nb ad body) (8 + na + nb)
set_option maxHeartbeats 8000000 in
set_option maxRecDepth 20000 in
theorem tag_m {oa na ca ob nb cb : Nat} {K ad body : Nat → Int} {cs ds : List SV} (hK : Byt K) (ha : Byt ad) (hb : Byt body) (hs : Shows cs oa na ad) (hp : cs.all SV.plain = true) (hs' : Shows ds ob nb body) (hq : ds.all SV.plain = true) (hna : na < 40000000) (hnb : nb < 40000000) :
    MFun Tryd.prog 17 [Ag (rowI .u8 80 K), Sl 0 oa na ca, Sl 1 ob nb cb] 2 (lk [(0, ⟨false, cs⟩), (1, ⟨false, ds⟩)]) (fun u out => u = Ag (rowI .u8 32 (tagA K na nb ad body)) ∧ out = fun _ => none) := by
  refine mfun_of_vc Tryd.func17 rfl (by kernel_rfl) (by simp [Tryd.ntmps17]) Tryd.callable17 (fun u hu => by
    simp only [List.mem_cons, List.not_mem_nil, or_false] at hu
    rcases hu with rfl | rfl | rfl
    · exact ok_all plainI
    · exact (by decide : 0 < 2)
    · exact (by decide : 1 < 2)) all2 (inn2 hp hq) ?_
  have hw : IntKind.u64.wrap (na : Int) = (na : Int) := wrap_u64_in _ (by omega) (by omega)
  simp only [Tryd.results17, hw, sn_upto, sn_from, slN_def, run_cap, rules, rules2, loopRules, Tryd.facts, base0, Int.toNat_zero, Nat.reduceAdd, Nat.reduceMul, Nat.reduceSub, Nat.reduceLT, Nat.reduceLeDiff, Nat.reduceEqDiff, Int.reduceLE, Int.reduceLT, Int.reduceToNat, Int.reduceNe, Int.reduceEq, not_false_eq_true, Nat.reduceBEq, Nat.reduceDiv, Int.natCast_zero, Int.natCast_one, Int.reduceAdd, Int.reduceSub, reduceIte, ↓reduceIte, Value.oneCell', rowI_length, rowI_take, rowI_splice, rep_all, row_zero, le_nat, Int.toNat_natCast, Nat.zero_add, sok_row, reduceCtorEq]
  refine made_call appendU64_n (fun n => n) fits0 rfl ?_
  intro c1 tail1 h1 h2 h3
  simp only [sn_upto, sn_from, slN_def, run_cap, rules, rules2, loopRules, Tryd.facts, base0, Int.toNat_zero, Nat.reduceAdd, Nat.reduceMul, Nat.reduceSub, Nat.reduceLT, Nat.reduceLeDiff, Nat.reduceEqDiff, Int.reduceLE, Int.reduceLT, Int.reduceToNat, Int.reduceNe, Int.reduceEq, not_false_eq_true, Nat.reduceBEq, Nat.reduceDiv, Int.natCast_zero, Int.natCast_one, Int.reduceAdd, Int.reduceSub, reduceIte, ↓reduceIte, Value.oneCell', rowI_length, rowI_take, rowI_splice, rep_all, row_zero, le_nat, Int.toNat_natCast, Nat.zero_add, sok_row, reduceCtorEq]
  refine ⟨show 1 ≤ 3 by decide, show 2 ≤ 3 by decide, show 3 ≤ 3 by decide, ?_⟩
  have hk : Shows (rowI .u8 80 K) 32 32 (fun i => K (32 + i)) := fun i hi => rowI_get .u8 80 K (32 + i) (by omega)
  refine mac3_call (rw0 := true) (rwk := true) (csk := rowI .u8 80 K) (key := fun i => K (32 + i)) (n0 := 8) (n1 := na) (n2 := nb) (f0 := u64B (na : Int)) (f1 := ad) (f2 := body) (by simp only [upd_same, build3]) rfl
    (.inr ⟨7, 0, c1, true, rowI .u8 8 (u64B (na : Int)) ++ tail1, rfl, by simp only [upd_apply, sn_upto, sn_from, slN_def, run_cap, rules, rules2, loopRules, Tryd.facts, base0, Int.toNat_zero, Nat.reduceAdd, Nat.reduceMul, Nat.reduceSub, Nat.reduceLT, Nat.reduceLeDiff, Nat.reduceEqDiff, Int.reduceLE, Int.reduceLT, Int.reduceToNat, Int.reduceNe, Int.reduceEq, not_false_eq_true, Nat.reduceBEq, Nat.reduceDiv, Int.natCast_zero, Int.natCast_one, Int.reduceAdd, Int.reduceSub, reduceIte, ↓reduceIte, Value.oneCell', rowI_length, rowI_take, rowI_splice, rep_all, row_zero, le_nat, Int.toNat_natCast, Nat.zero_add, sok_row, reduceCtorEq], plainT h3, shows_row⟩) (.inr ⟨0, oa, ca, false, cs, rfl, by simp only [upd_apply, sn_upto, sn_from, slN_def, run_cap, rules, rules2, loopRules, Tryd.facts, base0, Int.toNat_zero, Nat.reduceAdd, Nat.reduceMul, Nat.reduceSub, Nat.reduceLT, Nat.reduceLeDiff, Nat.reduceEqDiff, Int.reduceLE, Int.reduceLT, Int.reduceToNat, Int.reduceNe, Int.reduceEq, not_false_eq_true, Nat.reduceBEq, Nat.reduceDiv, Int.natCast_zero, Int.natCast_one, Int.reduceAdd, Int.reduceSub, reduceIte, ↓reduceIte, Value.oneCell', rowI_length, rowI_take, rowI_splice, rep_all, row_zero, le_nat, Int.toNat_natCast, Nat.zero_add, sok_row, reduceCtorEq], hp, hs⟩) (.inr ⟨1, ob, cb, false, ds, rfl, by simp only [upd_apply, sn_upto, sn_from, slN_def, run_cap, rules, rules2, loopRules, Tryd.facts, base0, Int.toNat_zero, Nat.reduceAdd, Nat.reduceMul, Nat.reduceSub, Nat.reduceLT, Nat.reduceLeDiff, Nat.reduceEqDiff, Int.reduceLE, Int.reduceLT, Int.reduceToNat, Int.reduceNe, Int.reduceEq, not_false_eq_true, Nat.reduceBEq, Nat.reduceDiv, Int.natCast_zero, Int.natCast_one, Int.reduceAdd, Int.reduceSub, reduceIte, ↓reduceIte, Value.oneCell', rowI_length, rowI_take, rowI_splice, rep_all, row_zero, le_nat, Int.toNat_natCast, Nat.zero_add, sok_row, reduceCtorEq], hq, hs'⟩)
    (u64B_byt _) ha hb (by simp only [upd_apply, sn_upto, sn_from, slN_def, run_cap, rules, rules2, loopRules, Tryd.facts, base0, Int.toNat_zero, Nat.reduceAdd, Nat.reduceMul, Nat.reduceSub, Nat.reduceLT, Nat.reduceLeDiff, Nat.reduceEqDiff, Int.reduceLE, Int.reduceLT, Int.reduceToNat, Int.reduceNe, Int.reduceEq, not_false_eq_true, Nat.reduceBEq, Nat.reduceDiv, Int.natCast_zero, Int.natCast_one, Int.reduceAdd, Int.reduceSub, reduceIte, ↓reduceIte, Value.oneCell', rowI_length, rowI_take, rowI_splice, rep_all, row_zero, le_nat, Int.toNat_natCast, Nat.zero_add, sok_row, reduceCtorEq]) plainI hk (fun i => hK _) (by decide) (by decide) (by omega) ?_
  simp only [sn_upto, sn_from, slN_def, run_cap, rules, rules2, loopRules, Tryd.facts, base0, Int.toNat_zero, Nat.reduceAdd, Nat.reduceMul, Nat.reduceSub, Nat.reduceLT, Nat.reduceLeDiff, Nat.reduceEqDiff, Int.reduceLE, Int.reduceLT, Int.reduceToNat, Int.reduceNe, Int.reduceEq, not_false_eq_true, Nat.reduceBEq, Nat.reduceDiv, Int.natCast_zero, Int.natCast_one, Int.reduceAdd, Int.reduceSub, reduceIte, ↓reduceIte, Value.oneCell', rowI_length, rowI_take, rowI_splice, rep_all, row_zero, le_nat, Int.toNat_natCast, Nat.zero_add, sok_row, reduceCtorEq]
  exact ret_plain plainI ⟨rfl, rfl⟩
theorem ints_row (k : IntKind) (n : Nat) (f : Nat → Int) : intsOf k (rowI k n f) = some ((List.range n).map f) := by
  rw [rowI]
  generalize List.range n = l
  induction l with
  | nil => rfl
  | cons a l ih => simp only [List.map_cons, intsOf, ih, if_true]
theorem xor_zero {a b : Int} (ha : 0 ≤ a ∧ a < 256) (hb : 0 ≤ b ∧ b < 256) : bitI .xor .u8 a b = 0 ↔ a = b := by
  obtain ⟨n, rfl, hn⟩ := of_byt ha
  obtain ⟨m, rfl, hm⟩ := of_byt hb
  rw [xorN n m hn hm]
  constructor
  · intro h
    have h2 : n ^^^ m = 0 := by omega
    have : n = m := by
      apply Nat.eq_of_testBit_eq
      intro i
      have := congrArg (fun z => z.testBit i) h2
      simp only [Nat.testBit_xor, Nat.zero_testBit] at this
      revert this
      cases n.testBit i <;> cases m.testBit i <;> simp
    rw [this]
  · intro h
    have : n = m := by omega
    rw [this, Nat.xor_self]; rfl
/-- Are 32 bytes the same? -/
def sameT (x y : Nat → Int) : Bool := decide ((List.range 32).map x = (List.range 32).map y)
set_option maxHeartbeats 8000000 in
set_option maxRecDepth 20000 in
theorem sameTag_fun (x y : Nat → Int) (hx : Byt x) (hy : Byt y) : Fun Tryd.prog 21 [Ag (rowI .u8 32 x), Ag (rowI .u8 32 y)] (B (sameT x y)) := by
  refine fun_of_vc Tryd.func21 rfl (by kernel_rfl) (by simp [Tryd.ntmps21]) rfl rfl ?_
  simp only [Tryd.results21, sn_upto, sn_from, slN_def, run_cap, rules, rules2, loopRules, Tryd.facts, base0, Int.toNat_zero, Nat.reduceAdd, Nat.reduceMul, Nat.reduceSub, Nat.reduceLT, Nat.reduceLeDiff, Nat.reduceEqDiff, Int.reduceLE, Int.reduceLT, Int.reduceToNat, Int.reduceNe, Int.reduceEq, not_false_eq_true, Nat.reduceBEq, Nat.reduceDiv, Int.natCast_zero, Int.natCast_one, Int.reduceAdd, Int.reduceSub, reduceIte, ↓reduceIte, Value.oneCell', rowI_length, rowI_take, rowI_splice, rep_all, row_zero, le_nat, Int.toNat_natCast, Nat.zero_add, sok_row, reduceCtorEq]
  refine loop_count 32 (fun k => [(2, Ptr 0 0), (3, Ptr 1 0), (5, Ptr 3 0), (7, I .i64 k)]) (fun k => [(0, ⟨true, rowI .u8 32 x⟩), (1, ⟨true, rowI .u8 32 y⟩), (3, ⟨true, rowI .u8 32 (fun i => if i < k then bitI .xor .u8 (x i) (y i) else 0)⟩)]) _ ?_ ?_ ?_
  · simp only [Nat.not_lt_zero, if_false, sn_upto, sn_from, slN_def, run_cap, rules, rules2, loopRules, Tryd.facts, base0, Int.toNat_zero, Nat.reduceAdd, Nat.reduceMul, Nat.reduceSub, Nat.reduceLT, Nat.reduceLeDiff, Nat.reduceEqDiff, Int.reduceLE, Int.reduceLT, Int.reduceToNat, Int.reduceNe, Int.reduceEq, not_false_eq_true, Nat.reduceBEq, Nat.reduceDiv, Int.natCast_zero, Int.natCast_one, Int.reduceAdd, Int.reduceSub, reduceIte, ↓reduceIte, Value.oneCell', rowI_length, rowI_take, rowI_splice, rep_all, row_zero, le_nat, Int.toNat_natCast, Nat.zero_add, sok_row, reduceCtorEq]
  · intro k hk
    have a1 : ((k : Int) < 32) = True := lt_nat (m := 32) hk
    have fin : rowI .u8 32 (upd (fun i => if i < k then bitI .xor .u8 (x i) (y i) else 0) k (bitI .xor .u8 (x k) (y k))) = rowI .u8 32 (fun i => if i < k + 1 then bitI .xor .u8 (x i) (y i) else 0) := row_upto
    simp only [sn_upto, sn_from, slN_def, run_cap, rules, rules2, loopRules, Tryd.facts, base0, Int.toNat_zero, Nat.reduceAdd, Nat.reduceMul, Nat.reduceSub, Nat.reduceLT, Nat.reduceLeDiff, Nat.reduceEqDiff, Int.reduceLE, Int.reduceLT, Int.reduceToNat, Int.reduceNe, Int.reduceEq, not_false_eq_true, Nat.reduceBEq, Nat.reduceDiv, Int.natCast_zero, Int.natCast_one, Int.reduceAdd, Int.reduceSub, reduceIte, ↓reduceIte, Value.oneCell', rowI_length, rowI_take, rowI_splice, rep_all, row_zero, le_nat, Int.toNat_natCast, Nat.zero_add, sok_row, reduceCtorEq]
    refine vcIf_yes (by simp; omega) ?_
    simp only [a1, nat_nn, Nat.mul_one, rowI_get .u8 32 _ k hk, rowI_splice1 .u8 32 _ k hk, fin, wrapS k (by omega), sn_upto, sn_from, slN_def, run_cap, rules, rules2, loopRules, Tryd.facts, base0, Int.toNat_zero, Nat.reduceAdd, Nat.reduceMul, Nat.reduceSub, Nat.reduceLT, Nat.reduceLeDiff, Nat.reduceEqDiff, Int.reduceLE, Int.reduceLT, Int.reduceToNat, Int.reduceNe, Int.reduceEq, not_false_eq_true, Nat.reduceBEq, Nat.reduceDiv, Int.natCast_zero, Int.natCast_one, Int.reduceAdd, Int.reduceSub, reduceIte, ↓reduceIte, Value.oneCell', rowI_length, rowI_take, rowI_splice, rep_all, row_zero, le_nat, Int.toNat_natCast, Nat.zero_add, sok_row, reduceCtorEq]
    exact ⟨by kernel_rfl, by omega⟩
  · simp only [sn_upto, sn_from, slN_def, run_cap, rules, rules2, loopRules, Tryd.facts, base0, Int.toNat_zero, Nat.reduceAdd, Nat.reduceMul, Nat.reduceSub, Nat.reduceLT, Nat.reduceLeDiff, Nat.reduceEqDiff, Int.reduceLE, Int.reduceLT, Int.reduceToNat, Int.reduceNe, Int.reduceEq, not_false_eq_true, Nat.reduceBEq, Nat.reduceDiv, Int.natCast_zero, Int.natCast_one, Int.reduceAdd, Int.reduceSub, reduceIte, ↓reduceIte, Value.oneCell', rowI_length, rowI_take, rowI_splice, rep_all, row_zero, le_nat, Int.toNat_natCast, Nat.zero_add, sok_row, reduceCtorEq]
    refine vcIf_no (by simp) ?_
    simp only [row_all, row_zero2, ints_row, eqL_eql, sn_upto, sn_from, slN_def, run_cap, rules, rules2, loopRules, Tryd.facts, base0, Int.toNat_zero, Nat.reduceAdd, Nat.reduceMul, Nat.reduceSub, Nat.reduceLT, Nat.reduceLeDiff, Nat.reduceEqDiff, Int.reduceLE, Int.reduceLT, Int.reduceToNat, Int.reduceNe, Int.reduceEq, not_false_eq_true, Nat.reduceBEq, Nat.reduceDiv, Int.natCast_zero, Int.natCast_one, Int.reduceAdd, Int.reduceSub, reduceIte, ↓reduceIte, Value.oneCell', rowI_length, rowI_take, rowI_splice, rep_all, row_zero, le_nat, Int.toNat_natCast, Nat.zero_add, sok_row, reduceCtorEq]
    refine ⟨⟨by simp, by simp⟩, ?_⟩
    have : (List.map (fun i => bitI BinOp.xor IntKind.u8 (x i) (y i)) (List.range 32) = List.map (fun _ => 0) (List.range 32)) = (List.map x (List.range 32) = List.map y (List.range 32)) := by
      rw [eq_iff_iff, List.map_inj_left, List.map_inj_left]
      exact ⟨fun h i hi => (xor_zero (hx i) (hy i)).1 (h i hi), fun h i hi => (xor_zero (hx i) (hy i)).2 (h i hi)⟩
    show B (decide _) = B (decide _)
    simp only [this]
end Go.Proofs.YtljncmifbncdbaaDoor
