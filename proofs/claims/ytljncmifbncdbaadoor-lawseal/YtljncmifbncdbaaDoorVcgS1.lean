/-
  Sealing in the program: the keys of a message.
-/
import Derived.Test.YtljncmifbncdbaaDoorVcgHB
import Derived.Test.YtljncmifbncdbaaDoorVcgY4
set_option linter.unusedSimpArgs false
set_option linter.unusedVariables false
namespace Go.Proofs.YtljncmifbncdbaaDoor
open Go.Vcg
theorem mfun_mono {P : Program} [Vcg.Tables P] {f k : Nat} {args : List AV} {ins : Nat → Option Box} {Post Post' : AV → (Nat → Option Box) → Prop} (h : MFun P f args k ins Post) (hp : ∀ v out, Post v out → Post' v out) : MFun P f args k ins Post' :=
  ⟨h.body, h.all, h.inn, fun W g w a b c d => (h.call W g w a b c d).mono (by
    rintro e w' ⟨v, out, g', h1, h2, h3⟩
    exact ⟨v, out, g', h1, hp _ _ h2, h3⟩)⟩
/-- A part of a row. -/
theorem row_part {n a m : Nat} {f : Nat → Int} {tail : List SV} (h : a + m ≤ n) : List.take m (List.drop a (rowI .u8 n f ++ tail)) = rowI .u8 m (fun i => f (a + i)) := by
  apply List.ext_getElem?
  intro i
  by_cases hi : i < m
  · rw [List.getElem?_take_of_lt hi, List.getElem?_drop, List.getElem?_append_left (by rw [rowI_length]; omega), rowI_get .u8 n f (a + i) (by omega), rowI_get .u8 m _ i hi]
  · rw [List.getElem?_eq_none (by rw [List.length_take]; omega), List.getElem?_eq_none (by rw [rowI_length]; omega)]
theorem row_part0 {n m : Nat} {f : Nat → Int} {tail : List SV} (h : m ≤ n) : List.take m (rowI .u8 n f ++ tail) = rowI .u8 m f := by
  have := row_part (n := n) (a := 0) (m := m) (f := f) (tail := tail) (by omega)
  rw [List.drop_zero] at this
  rw [this]
  exact rowI_congr fun i _ => by rw [Nat.zero_add]
theorem row_three {f g : Nat → Int} : splice (splice (splice (rowI .u8 80 g) 0 (rowI .u8 32 f)) 32 (rowI .u8 32 (fun i => f (32 + i)))) 64 (rowI .u8 16 (fun i => f (64 + i))) = rowI .u8 80 f := by
  rw [rowI_spl .u8 80 32 0 _ _ (by decide), rowI_spl .u8 80 32 32 _ _ (by decide), rowI_spl .u8 80 16 64 _ _ (by decide)]
  refine rowI_congr fun i hi => ?_
  by_cases h1 : 64 ≤ i
  · rw [if_pos (by omega), show 64 + (i - 64) = i by omega]
  · rw [if_neg (by omega)]
    by_cases h2 : 32 ≤ i
    · rw [if_pos (by omega), show 32 + (i - 32) = i by omega]
    · rw [if_neg (by omega), if_pos (by omega), Nat.sub_zero]
/-- The label of the keys. -/
def labelB (i : Nat) : Int := [114, 97, 116, 99, 104, 101, 116, 32, 115, 101, 97, 108].getD i 0
theorem labelB_byt : Byt labelB := fun i => by
  by_cases h : i < 12
  · have : ∀ j, j < 12 → 0 ≤ labelB j ∧ labelB j < 256 := by decide
    exact this i h
  · have : labelB i = 0 := by
      simp only [labelB, List.getD_eq_getElem?_getD]
      rw [List.getElem?_eq_none (by simp; omega)]; rfl
    rw [this]; decide
/-- The 80 bytes that a message key stands for. -/
def okS (mk : Nat → Int) : Nat → Int := okmW kW ivW (macW kW ivW (fun _ => 0) 32 mk 32) labelB 12
theorem hkT_b (p info : Nat → Int) (m c : Nat) : Byt (hkT kW ivW p info m c) := hkT_byt _ _ _ _ _ _
theorem okS_byt (mk : Nat → Int) : Byt (okS mk) := fun i => hkT_b _ _ _ _ _
set_option maxHeartbeats 8000000 in
set_option maxRecDepth 20000 in
theorem secretsOf_fun (mk : Nat → Int) (hb : Byt mk) : Fun Tryd.prog 15 [Ag (rowI .u8 32 mk)] (Ag (rowI .u8 80 (okS mk))) := by
  refine fun_of_vc Tryd.func15 rfl (by kernel_rfl) (by simp [Tryd.ntmps15]) rfl rfl ?_
  have z32 : ∀ r : Nat → Int, splice (rowI .u8 32 (fun _ => 0)) 0 (rowI .u8 32 r) = rowI .u8 32 r := fun r => rowI_splice .u8 32 _ _
  simp only [Tryd.results15, row_zero2, z32, sn_upto, sn_from, slN_def, run_cap, rules, rules2, loopRules, Tryd.facts, base0, Int.toNat_zero, Nat.reduceAdd, Nat.reduceMul, Nat.reduceSub, Nat.reduceLT, Nat.reduceLeDiff, Nat.reduceEqDiff, Int.reduceLE, Int.reduceLT, Int.reduceToNat, Int.reduceNe, Int.reduceEq, not_false_eq_true, Nat.reduceBEq, Nat.reduceDiv, Int.natCast_zero, Int.natCast_one, Int.reduceAdd, Int.reduceSub, reduceIte, ↓reduceIte, Value.oneCell', rowI_length, rowI_take, rowI_splice, rep_all, row_zero, le_nat, Int.toNat_natCast, Nat.zero_add, sok_row, reduceCtorEq]
  refine ⟨by kernel_rfl, show 1 ≤ 1 by decide, ?_⟩
  refine mac1_draw (rw0 := true) (rwk := true) (key := fun _ => 0) (f0 := mk) (n0 := 32) (by simp only [upd_same]; rfl) rfl (.inr ⟨0, 0, 32, true, rowI .u8 32 mk, rfl, by simp only [upd_apply, sn_upto, sn_from, slN_def, run_cap, rules, rules2, loopRules, Tryd.facts, base0, Int.toNat_zero, Nat.reduceAdd, Nat.reduceMul, Nat.reduceSub, Nat.reduceLT, Nat.reduceLeDiff, Nat.reduceEqDiff, Int.reduceLE, Int.reduceLT, Int.reduceToNat, Int.reduceNe, Int.reduceEq, not_false_eq_true, Nat.reduceBEq, Nat.reduceDiv, Int.natCast_zero, Int.natCast_one, Int.reduceAdd, Int.reduceSub, reduceIte, ↓reduceIte, Value.oneCell', rowI_length, rowI_take, rowI_splice, rep_all, row_zero, le_nat, Int.toNat_natCast, Nat.zero_add, sok_row, reduceCtorEq], plainI, shows_row0⟩) hb (by simp only [upd_apply, sn_upto, sn_from, slN_def, run_cap, rules, rules2, loopRules, Tryd.facts, base0, Int.toNat_zero, Nat.reduceAdd, Nat.reduceMul, Nat.reduceSub, Nat.reduceLT, Nat.reduceLeDiff, Nat.reduceEqDiff, Int.reduceLE, Int.reduceLT, Int.reduceToNat, Int.reduceNe, Int.reduceEq, not_false_eq_true, Nat.reduceBEq, Nat.reduceDiv, Int.natCast_zero, Int.natCast_one, Int.reduceAdd, Int.reduceSub, reduceIte, ↓reduceIte, Value.oneCell', rowI_length, rowI_take, rowI_splice, rep_all, row_zero, le_nat, Int.toNat_natCast, Nat.zero_add, sok_row, reduceCtorEq]) plainI shows_row0 (fun _ => ⟨Int.le_refl 0, by show (0 : Int) < 256; decide⟩) (by decide) (by decide) (by decide) ?_
  obtain ⟨p, hpE⟩ : ∃ p, macW kW ivW (fun _ => 0) 32 mk 32 = p := ⟨_, rfl⟩
  have hpb : Byt p := by rw [← hpE]; exact macW_byt _ _ _ _ _ _
  have eS : okS mk = okmW kW ivW p labelB 12 := by rw [okS, hpE]
  rw [hpE]
  simp only [sn_upto, sn_from, slN_def, run_cap, rules, rules2, loopRules, Tryd.facts, base0, Int.toNat_zero, Nat.reduceAdd, Nat.reduceMul, Nat.reduceSub, Nat.reduceLT, Nat.reduceLeDiff, Nat.reduceEqDiff, Int.reduceLE, Int.reduceLT, Int.reduceToNat, Int.reduceNe, Int.reduceEq, not_false_eq_true, Nat.reduceBEq, Nat.reduceDiv, Int.natCast_zero, Int.natCast_one, Int.reduceAdd, Int.reduceSub, reduceIte, ↓reduceIte, Value.oneCell', rowI_length, rowI_take, rowI_splice, rep_all, row_zero, le_nat, Int.toNat_natCast, Nat.zero_add, sok_row, reduceCtorEq]
  refine ⟨by decide, by decide, by decide, by decide, by decide, by decide, by decide, by decide, by decide, by decide, by decide, ?_⟩
  refine made_late (mfun_mono (Post' := Made 1 80 (okmW kW ivW p labelB 12)) (expand_m (o := 0) (m := 12) (c := 12) (n := 80) (cs := rowI .u8 12 labelB) hpb labelB_byt shows_row0 plainI (by decide) (by decide)) (fun v out h => h.resolve_left (fun e => by cases e.1))) (fun _ => 9) (fits1 (rw := true) (by simp only [upd_same]; rfl) plainI)
    (by simp only [List.map_cons, List.map_nil, ren_row, ren_s]; rfl) (fun M h n _ => h (Sl 9 0 12 12) (List.Mem.tail _ (List.Mem.head _))) (by kernel_rfl) ?_
  intro c1 tail1 h1 h2 h3
  have n1 : (c1 = 32) = False := eq_false (by omega)
  have n2 : (c1 = 64) = False := eq_false (by omega)
  have l1 : (32 ≤ (c1 : Int)) = True := eq_true (by omega)
  have l2 : (64 ≤ (c1 : Int)) = True := eq_true (by omega)
  have l3 : (80 ≤ (c1 : Int)) = True := eq_true (by omega)
  have len : ∀ m, m ≤ 80 → (m ≤ (rowI .u8 80 (okmW kW ivW p labelB 12) ++ tail1).length) = True := fun m hm => eq_true (by rw [List.length_append, rowI_length]; omega)
  have p0 := row_part0 (n := 80) (m := 32) (f := okmW kW ivW p labelB 12) (tail := tail1) (by decide)
  have p1 := row_part (n := 80) (a := 32) (m := 32) (f := okmW kW ivW p labelB 12) (tail := tail1) (by decide)
  have p2 := row_part (n := 80) (a := 64) (m := 16) (f := okmW kW ivW p labelB 12) (tail := tail1) (by decide)
  simp only [n1, n2, l1, l2, l3, len 32 (by decide), len 64 (by decide), len 80 (by decide), p0, p1, p2, row_zero2, row_three, sn_upto, sn_from, slN_def, run_cap, rules, rules2, loopRules, Tryd.facts, base0, Int.toNat_zero, Nat.reduceAdd, Nat.reduceMul, Nat.reduceSub, Nat.reduceLT, Nat.reduceLeDiff, Nat.reduceEqDiff, Int.reduceLE, Int.reduceLT, Int.reduceToNat, Int.reduceNe, Int.reduceEq, not_false_eq_true, Nat.reduceBEq, Nat.reduceDiv, Int.natCast_zero, Int.natCast_one, Int.reduceAdd, Int.reduceSub, reduceIte, ↓reduceIte, Value.oneCell', rowI_length, rowI_take, rowI_splice, rep_all, row_zero, le_nat, Int.toNat_natCast, Nat.zero_add, sok_row, reduceCtorEq]
  have ls : ∀ (l : List SV) (o : Nat) (m : List SV), o + m.length ≤ l.length → (splice l o m).length = l.length := fun l o m h => splice_length l o m h
  refine ⟨by kernel_rfl, ?_, ?_, by rw [eS]⟩
  · rw [ls _ _ _ (by rw [rowI_length, rowI_length]; decide), rowI_length]; decide
  · rw [ls _ _ _ (by rw [ls _ _ _ (by rw [rowI_length, rowI_length]; decide), rowI_length, rowI_length]; decide), ls _ _ _ (by rw [rowI_length, rowI_length]; decide), rowI_length]; decide
end Go.Proofs.YtljncmifbncdbaaDoor
