/-
  Stores that are lent, and come back.
-/
import Derived.Test.YtikibkboebbdjaaVcgG15
import Derived.Test.YtikibkboebbdjaaVcgE2
set_option linter.unusedSimpArgs false
set_option linter.unusedVariables false
namespace Go.Proofs.Ytikibkboebbdjaa
open Go.Vcg
theorem sameStore_draw {s : AS} {nm t u o c n : Nat} {f : Nat → En} {w : SV} {cs ds : List SV} {ra rb : Bool} (hb : s.box t = some ⟨ra, cs⟩) (hp : cs.all SV.plain = true) (hb' : s.box u = some ⟨rb, ds⟩) (hq : ds.all SV.plain = true)
    (hc : n ≤ c) (h0 : ShowsE cs o n f) (h1 : StoreIs u w n f ds) (hn : n < 4611686018427387904) {ops : Array Oper} {i : Nat} {dst : Option Nat} {K : AS → Prop} (hk : K (s.put dst (some (B true)))) :
    vcFun Try.prog ops i nm 32 (some [Sl t o n c, .inl (.inl w)]) dst K s := by
  rcases h1 with ⟨⟨a, rfl⟩, rfl⟩ | ⟨o', c', rfl, hc', hs'⟩
  · refine (sameStore_m (u := .inr (.inr (0, o, 0, c))) (v := .inl (.slice a 0 0)) (f := f) (.inr ⟨o, c, rfl, hc, h0⟩) (.inl ⟨⟨a, rfl⟩, rfl⟩) hp hp hn).drawRead (fun _ => t) ?_ rfl rfl (fun M h n _ => h _ (List.Mem.head _)) hk
    refine ⟨fun m b hm => ?_, fun m m' b b' hm hrw => ?_, fun m b hm hrw => ?_, fun m hm => (by cases hm)⟩
    · rcases lk2 hm with ⟨rfl, rfl⟩ | ⟨rfl, rfl⟩ <;> exact ⟨_, hb, fun h => (by cases h), (ren_all hp _).symm⟩
    · rcases lk2 hm with ⟨rfl, rfl⟩ | ⟨rfl, rfl⟩ <;> cases hrw
    · rcases lk2 hm with ⟨rfl, rfl⟩ | ⟨rfl, rfl⟩ <;> cases hrw
  · refine (sameStore_m (u := .inr (.inr (0, o, n, c))) (v := .inr (.inr (1, o', n, c'))) (.inr ⟨o, c, rfl, hc, h0⟩) (.inr ⟨o', c', rfl, hc', hs'⟩) hp hq hn).drawRead (two t u) (fits2 hb hp hb' hq) rfl rfl (fun M h n hn => ?_) hk
    have a := h (Sl t o _ c) (List.Mem.head _)
    have b := h _ (List.Mem.tail _ (List.Mem.head _))
    simp only [two]; split
    · exact a
    · exact b
set_option maxHeartbeats 8000000 in
set_option maxRecDepth 20000 in
theorem shelfBack_m {n c : Nat} {f : Nat → En} {v : SV} {cs ds : List SV} (hg : GrowsE cs 0 (n + 2) c (lentE n f)) (h1 : StoreIs 1 v n f ds) (hq : ds.all SV.plain = true) (hn : n < 4611686018427387904) :
    MFun Try.prog 18 [shV 0 n c, .inl (.inl v)] 2 (lk [(0, ⟨false, cs⟩), (1, ⟨false, ds⟩)]) (fun v out => v = B true ∧ out = fun _ => none) := by
  have hp := hg.plain
  have hr := hg.room
  refine mfun_of_vc Try.func18 rfl (by kernel_rfl) (by simp [Try.ntmps18]) Try.callable18 (fun y hy => by
    simp only [List.mem_cons, List.not_mem_nil, or_false] at hy
    rcases hy with rfl | rfl
    · exact fun z hz => by
        simp only [shL, List.mem_cons, List.not_mem_nil, or_false] at hz
        rcases hz with rfl | rfl
        · exact ⟨show 0 < 2 by decide, rfl⟩
        · exact ⟨trivial, rfl⟩
    · exact (h1.ok (by decide)).1) all2 (inn2 hp hq) ?_
  have l1 : ((n : Int) ≤ (c : Int)) = True := eq_true (by omega)
  have l2 : ((n : Int) ≤ ((n + 2 : Nat) : Int)) = True := eq_true (by omega)
  have l3 : (((n + 2 : Nat) : Int) ≤ (c : Int)) = True := eq_true (by omega)
  have l4 : (if c = n then 0 else n * 66) = n * 66 := by rw [if_neg (by omega)]
  have l5 : n + 2 - n = 2 := by omega
  simp only [Try.results18, shL, l1, nat_nn, sn_upto, sn_from, slN_def, run_cap, rules, rules2, loopRules, Try.facts, base0, Int.toNat_zero, Nat.reduceAdd, Nat.reduceMul, Nat.reduceSub, Nat.reduceLT, Nat.reduceLeDiff, Nat.reduceEqDiff, Int.reduceLE, Int.reduceLT, Int.reduceToNat, Int.reduceNe, Int.reduceEq, not_false_eq_true, Nat.reduceBEq, Nat.reduceDiv, Int.natCast_zero, Int.natCast_one, Int.reduceAdd, Int.reduceSub, reduceIte, ↓reduceIte, Value.oneCell', rowI_length, rowI_take, rowI_splice, rep_all, row_zero, le_nat, Int.toNat_natCast, Nat.zero_add, sok_row, reduceCtorEq]
  refine ⟨by kernel_rfl, ?_⟩
  refine sameStore_draw (t := 0) (u := 1) (ra := false) (rb := false) (f := f) (by simp only [upd_apply, sn_upto, sn_from, slN_def, run_cap, rules, rules2, loopRules, Try.facts, base0, Int.toNat_zero, Nat.reduceAdd, Nat.reduceMul, Nat.reduceSub, Nat.reduceLT, Nat.reduceLeDiff, Nat.reduceEqDiff, Int.reduceLE, Int.reduceLT, Int.reduceToNat, Int.reduceNe, Int.reduceEq, not_false_eq_true, Nat.reduceBEq, Nat.reduceDiv, Int.natCast_zero, Int.natCast_one, Int.reduceAdd, Int.reduceSub, reduceIte, ↓reduceIte, Value.oneCell', rowI_length, rowI_take, rowI_splice, rep_all, row_zero, le_nat, Int.toNat_natCast, Nat.zero_add, sok_row, reduceCtorEq]) hp (by simp only [upd_apply, sn_upto, sn_from, slN_def, run_cap, rules, rules2, loopRules, Try.facts, base0, Int.toNat_zero, Nat.reduceAdd, Nat.reduceMul, Nat.reduceSub, Nat.reduceLT, Nat.reduceLeDiff, Nat.reduceEqDiff, Int.reduceLE, Int.reduceLT, Int.reduceToNat, Int.reduceNe, Int.reduceEq, not_false_eq_true, Nat.reduceBEq, Nat.reduceDiv, Int.natCast_zero, Int.natCast_one, Int.reduceAdd, Int.reduceSub, reduceIte, ↓reduceIte, Value.oneCell', rowI_length, rowI_take, rowI_splice, rep_all, row_zero, le_nat, Int.toNat_natCast, Nat.zero_add, sok_row, reduceCtorEq]) hq (by omega) (lentE_shows hg) h1 hn ?_
  simp only [shL, l1, l2, l3, l4, l5, nat_nn, mk2, sn_upto, sn_from, slN_def, run_cap, rules, rules2, loopRules, Try.facts, base0, Int.toNat_zero, Nat.reduceAdd, Nat.reduceMul, Nat.reduceSub, Nat.reduceLT, Nat.reduceLeDiff, Nat.reduceEqDiff, Int.reduceLE, Int.reduceLT, Int.reduceToNat, Int.reduceNe, Int.reduceEq, not_false_eq_true, Nat.reduceBEq, Nat.reduceDiv, Int.natCast_zero, Int.natCast_one, Int.reduceAdd, Int.reduceSub, reduceIte, ↓reduceIte, Value.oneCell', rowI_length, rowI_take, rowI_splice, rep_all, row_zero, le_nat, Int.toNat_natCast, Nat.zero_add, sok_row, reduceCtorEq]
  refine sameStore_draw (t := 0) (u := 17) (ra := false) (rb := true) (f := fun _ => enZ) (by simp only [upd_apply, sn_upto, sn_from, slN_def, run_cap, rules, rules2, loopRules, Try.facts, base0, Int.toNat_zero, Nat.reduceAdd, Nat.reduceMul, Nat.reduceSub, Nat.reduceLT, Nat.reduceLeDiff, Nat.reduceEqDiff, Int.reduceLE, Int.reduceLT, Int.reduceToNat, Int.reduceNe, Int.reduceEq, not_false_eq_true, Nat.reduceBEq, Nat.reduceDiv, Int.natCast_zero, Int.natCast_one, Int.reduceAdd, Int.reduceSub, reduceIte, ↓reduceIte, Value.oneCell', rowI_length, rowI_take, rowI_splice, rep_all, row_zero, le_nat, Int.toNat_natCast, Nat.zero_add, sok_row, reduceCtorEq]) hp (by simp only [upd_apply, sn_upto, sn_from, slN_def, run_cap, rules, rules2, loopRules, Try.facts, base0, Int.toNat_zero, Nat.reduceAdd, Nat.reduceMul, Nat.reduceSub, Nat.reduceLT, Nat.reduceLeDiff, Nat.reduceEqDiff, Int.reduceLE, Int.reduceLT, Int.reduceToNat, Int.reduceNe, Int.reduceEq, not_false_eq_true, Nat.reduceBEq, Nat.reduceDiv, Int.natCast_zero, Int.natCast_one, Int.reduceAdd, Int.reduceSub, reduceIte, ↓reduceIte, Value.oneCell', rowI_length, rowI_take, rowI_splice, rep_all, row_zero, le_nat, Int.toNat_natCast, Nat.zero_add, sok_row, reduceCtorEq]) z132_plain (by omega) (lentE_tail hg) (.inr ⟨0, 2, rfl, Nat.le_refl 2, z132_shows⟩) (by decide) ?_
  simp only [sn_upto, sn_from, slN_def, run_cap, rules, rules2, loopRules, Try.facts, base0, Int.toNat_zero, Nat.reduceAdd, Nat.reduceMul, Nat.reduceSub, Nat.reduceLT, Nat.reduceLeDiff, Nat.reduceEqDiff, Int.reduceLE, Int.reduceLT, Int.reduceToNat, Int.reduceNe, Int.reduceEq, not_false_eq_true, Nat.reduceBEq, Nat.reduceDiv, Int.natCast_zero, Int.natCast_one, Int.reduceAdd, Int.reduceSub, reduceIte, ↓reduceIte, Value.oneCell', rowI_length, rowI_take, rowI_splice, rep_all, row_zero, le_nat, Int.toNat_natCast, Nat.zero_add, sok_row, reduceCtorEq]
  exact ret_plain rfl ⟨rfl, rfl⟩
set_option maxHeartbeats 8000000 in
set_option maxRecDepth 20000 in
theorem spoil_m {n c : Nat} {f : Nat → En} {cs : List SV} (hg : GrowsE cs 0 n c f) (hn : n < 4611686018427387904) :
    MFun Try.prog 17 [Sl 0 0 n c] 1 (lk [(0, ⟨true, cs⟩)]) (fun v out => v = .inr [] ∧ ∃ ds, ds.all SV.plain = true ∧ out = lk [(0, ⟨true, ds⟩)]) := by
  have hp := hg.plain
  have hr := hg.room
  have hlen := hg.len
  refine mfun_of_vc Try.func17 rfl (by kernel_rfl) (by simp [Try.ntmps17]) Try.callable17 (by simp [AV.ok, CV.ok, SV.names]) all1 (inn1 hp) ?_
  simp only [Try.results17, sn_upto, sn_from, slN_def, run_cap, rules, rules2, loopRules, Try.facts, base0, Int.toNat_zero, Nat.reduceAdd, Nat.reduceMul, Nat.reduceSub, Nat.reduceLT, Nat.reduceLeDiff, Nat.reduceEqDiff, Int.reduceLE, Int.reduceLT, Int.reduceToNat, Int.reduceNe, Int.reduceEq, not_false_eq_true, Nat.reduceBEq, Nat.reduceDiv, Int.natCast_zero, Int.natCast_one, Int.reduceAdd, Int.reduceSub, reduceIte, ↓reduceIte, Value.oneCell', rowI_length, rowI_take, rowI_splice, rep_all, row_zero, le_nat, Int.toNat_natCast, Nat.zero_add, sok_row, reduceCtorEq]
  refine loop_p n (fun k t => ∃ ds g, ds.length = cs.length ∧ ds.all SV.plain = true ∧ ShowsE ds 0 n g ∧ t = mkS [(0, Sl 0 0 n c), (4, I .i64 n), (5, I .i64 k)] [(0, ⟨true, ds⟩)] 10) ?_ ?_ ?_ ?_
  · rintro k t ⟨ds, g, _, _, _, rfl⟩; exact Nat.le_of_ble_eq_true rfl
  · refine ⟨_, ⟨cs, f, rfl, hp, hg.shows, rfl⟩, _, Brings.refines ⟨mem3 ⟨rfl, show 0 < 10 by decide⟩ ⟨rfl, trivial⟩ ⟨rfl, trivial⟩, mem1 ⟨rfl, show 0 < 10 by decide, ok_all hp⟩⟩, fun _ _ => rfl⟩
  · rintro j t hj ⟨ds, g, hl, hd, hs, rfl⟩
    have q1 := hs.num hj
    have b1 := hs.lt hj
    simp only [mkS_eq, sn_upto, sn_from, slN_def, run_cap, rules, rules2, loopRules, Try.facts, base0, Int.toNat_zero, Nat.reduceAdd, Nat.reduceMul, Nat.reduceSub, Nat.reduceLT, Nat.reduceLeDiff, Nat.reduceEqDiff, Int.reduceLE, Int.reduceLT, Int.reduceToNat, Int.reduceNe, Int.reduceEq, not_false_eq_true, Nat.reduceBEq, Nat.reduceDiv, Int.natCast_zero, Int.natCast_one, Int.reduceAdd, Int.reduceSub, reduceIte, ↓reduceIte, Value.oneCell', rowI_length, rowI_take, rowI_splice, rep_all, row_zero, le_nat, Int.toNat_natCast, Nat.zero_add, sok_row, reduceCtorEq]
    refine vcIf_yes (by simp; omega) ?_
    rw [Nat.zero_add] at q1
    have e0 : (0 + j * 66) = j * 66 := Nat.zero_add _
    rw [e0] at b1
    simp only [nat_nn, nat_lt_eq hj, q1, wrapS j (by omega), sn_upto, sn_from, slN_def, run_cap, rules, rules2, loopRules, Try.facts, base0, Int.toNat_zero, Nat.reduceAdd, Nat.reduceMul, Nat.reduceSub, Nat.reduceLT, Nat.reduceLeDiff, Nat.reduceEqDiff, Int.reduceLE, Int.reduceLT, Int.reduceToNat, Int.reduceNe, Int.reduceEq, not_false_eq_true, Nat.reduceBEq, Nat.reduceDiv, Int.natCast_zero, Int.natCast_one, Int.reduceAdd, Int.reduceSub, reduceIte, ↓reduceIte, Value.oneCell', rowI_length, rowI_take, rowI_splice, rep_all, row_zero, le_nat, Int.toNat_natCast, Nat.zero_add, sok_row, reduceCtorEq]
    have hd2 : (splice ds (j * 66 + 1) [Sum.inl (Value.int .u32 (IntKind.u32.wrap ((g j).n + 1)))]).all SV.plain = true := splice_plain hd rfl
    exact ⟨by omega, _, ⟨_, _, by rw [splice_len1 (by omega)]; exact hl, hd2, spoilE hs hj, rfl⟩, _, Brings.refines ⟨mem3 ⟨rfl, show 0 < 10 by decide⟩ ⟨rfl, trivial⟩ ⟨rfl, trivial⟩, mem1 ⟨rfl, show 0 < 10 by decide, ok_all hd2⟩⟩, fun _ _ => rfl⟩
  · rintro t ⟨ds, g, hl, hd, hs, rfl⟩
    simp only [mkS_eq, sn_upto, sn_from, slN_def, run_cap, rules, rules2, loopRules, Try.facts, base0, Int.toNat_zero, Nat.reduceAdd, Nat.reduceMul, Nat.reduceSub, Nat.reduceLT, Nat.reduceLeDiff, Nat.reduceEqDiff, Int.reduceLE, Int.reduceLT, Int.reduceToNat, Int.reduceNe, Int.reduceEq, not_false_eq_true, Nat.reduceBEq, Nat.reduceDiv, Int.natCast_zero, Int.natCast_one, Int.reduceAdd, Int.reduceSub, reduceIte, ↓reduceIte, Value.oneCell', rowI_length, rowI_take, rowI_splice, rep_all, row_zero, le_nat, Int.toNat_natCast, Nat.zero_add, sok_row, reduceCtorEq]
    refine vcIf_no (by simp) ?_
    simp only [sn_upto, sn_from, slN_def, run_cap, rules, rules2, loopRules, Try.facts, base0, Int.toNat_zero, Nat.reduceAdd, Nat.reduceMul, Nat.reduceSub, Nat.reduceLT, Nat.reduceLeDiff, Nat.reduceEqDiff, Int.reduceLE, Int.reduceLT, Int.reduceToNat, Int.reduceNe, Int.reduceEq, not_false_eq_true, Nat.reduceBEq, Nat.reduceDiv, Int.natCast_zero, Int.natCast_one, Int.reduceAdd, Int.reduceSub, reduceIte, ↓reduceIte, Value.oneCell', rowI_length, rowI_take, rowI_splice, rep_all, row_zero, le_nat, Int.toNat_natCast, Nat.zero_add, sok_row, reduceCtorEq]
    exact ret_wrote (cs := ds) (by decide) rfl (by simp only [sn_upto, sn_from, slN_def, run_cap, rules, rules2, loopRules, Try.facts, base0, Int.toNat_zero, Nat.reduceAdd, Nat.reduceMul, Nat.reduceSub, Nat.reduceLT, Nat.reduceLeDiff, Nat.reduceEqDiff, Int.reduceLE, Int.reduceLT, Int.reduceToNat, Int.reduceNe, Int.reduceEq, not_false_eq_true, Nat.reduceBEq, Nat.reduceDiv, Int.natCast_zero, Int.natCast_one, Int.reduceAdd, Int.reduceSub, reduceIte, ↓reduceIte, Value.oneCell', rowI_length, rowI_take, rowI_splice, rep_all, row_zero, le_nat, Int.toNat_natCast, Nat.zero_add, sok_row, reduceCtorEq]) hd ⟨rfl, ds, hd, rfl⟩
end Go.Proofs.Ytikibkboebbdjaa
