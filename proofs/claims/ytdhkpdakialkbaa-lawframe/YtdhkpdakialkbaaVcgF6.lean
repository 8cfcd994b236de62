/-
  The statement on frames.
-/
import Derived.Test.YtdhkpdakialkbaaVcgF7
import Derived.Test.YtdhkpdakialkbaaVcgV
set_option linter.unusedSimpArgs false
set_option linter.unusedVariables false
namespace Go.Proofs.Ytdhkpdakialkbaa
open Go.Vcg
/-- Behind the first half of the law. -/
def mid1E (vr vb : AV) (ex : List (Nat × AV)) : List (Nat × AV) := [(1, vr), (2, Ptr 2 0), (5, Ptr 7 0), (6, Ptr 11 0), (7, vb)] ++ ex
def mid1B (pub : Nat → Int) (pn n : Int) (sv : SV) (tag body raw : Nat → Int) (m L c1 c2 : Nat) (cs ds tail1 tail2 : List SV) (lb : List (Nat × Box)) : List (Nat × Box) :=
  [(0, ⟨false, cs⟩), (1, ⟨false, ds⟩), (2, ⟨false, frL pub pn n sv tag⟩), (6, ⟨true, rowI .u8 m body ++ (rowI .u8 64 (fun _ => 0) ++ tail1)⟩), (7, ⟨true, [rd 6 0 (m + 64) c1, Sum.inl (.int .i64 m)]⟩),
    (10, ⟨true, rowI .u8 L raw ++ (rowI .u8 64 (fun _ => 0) ++ tail2)⟩), (11, ⟨true, [rd 10 0 (L + 64) c2, Sum.inl (.int .i64 L)]⟩)] ++ lb
/-- What the law has kept of an answer's bytes. -/
def Kept (p : Nat) (vb : AV) (lb : List (Nat × Box)) : Prop := (vb = V (.slice none 0 0) ∧ lb = []) ∨ ∃ k c cs f, vb = Sl p 0 k c ∧ lb = [(p, ⟨true, cs⟩)] ∧ Grows cs 0 k c f ∧ k < 4611686018427387904
def Mid1 (pub : Nat → Int) (pn n : Int) (sv : SV) (tag body raw : Nat → Int) (m L : Nat) (cs ds : List SV) (vr : AV) (ex : List (Nat × AV)) (s2 : AS) : Prop :=
  ∃ vb lb c1 c2 tail1 tail2, s2 = mkS (mid1E vr vb ex) (mid1B pub pn n sv tag body raw m L c1 c2 cs ds tail1 tail2 lb) 120 ∧
    m + 64 ≤ c1 ∧ tail1.length = c1 - (m + 64) ∧ tail1.all SV.plain = true ∧ L + 64 ≤ c2 ∧ tail2.length = c2 - (L + 64) ∧ tail2.all SV.plain = true ∧ Kept 100 vb lb
theorem mid1_of {K : Nat} (hK : K ≤ 2) {s : AS} {pub tag body raw : Nat → Int} {pn n : Int} {m L c1 c2 : Nat} {sv : SV} {vr : AV} {cs ds tail1 tail2 : List SV} {ex : List (Nat × AV)} (hex : ∀ x ∈ ex, s.env x.1 = some x.2 ∧ AV.plain x.2 = true) (e1 : s.env 1 = some vr) (e2 : s.env 2 = some (Ptr 2 0)) (e5 : s.env 5 = some (Ptr 7 0)) (e6 : s.env 6 = some (Ptr 11 0))
    (b0 : s.box 0 = some ⟨false, cs⟩) (b1 : s.box 1 = some ⟨false, ds⟩) (b2 : s.box 2 = some ⟨false, frL pub pn n sv tag⟩) (b6 : s.box 6 = some ⟨true, rowI .u8 m body ++ (rowI .u8 64 (fun _ => 0) ++ tail1)⟩) (b7 : s.box 7 = some ⟨true, [rd 6 0 (m + 64) c1, Sum.inl (.int .i64 m)]⟩)
    (b10 : s.box 10 = some ⟨true, rowI .u8 L raw ++ (rowI .u8 64 (fun _ => 0) ++ tail2)⟩) (b11 : s.box 11 = some ⟨true, [rd 10 0 (L + 64) c2, Sum.inl (.int .i64 L)]⟩) (hp : cs.all SV.plain = true) (hq : ds.all SV.plain = true) (hv : ArgIs 0 (.inl (.inl sv)) m body cs) (hr : ArgIs 1 vr L raw ds)
    (h1 : m + 64 ≤ c1) (h2 : tail1.length = c1 - (m + 64)) (h3 : tail1.all SV.plain = true) (g1 : L + 64 ≤ c2) (g2 : tail2.length = c2 - (L + 64)) (g3 : tail2.all SV.plain = true)
    (hb : s.env 7 = some (V (.slice none 0 0)) ∨ ∃ q k c cs' f, s.env 7 = some (Sl q 0 k c) ∧ s.box q = some ⟨true, cs'⟩ ∧ Grows cs' 0 k c f ∧ k < 4611686018427387904 ∧ 11 < q ∧ q ≤ 100) : ∃ s2, RefN K s s2 ∧ K ≤ s2.next ∧ Mid1 pub pn n sv tag body raw m L cs ds vr ex s2 := by
  have boxes : ∀ r : Nat → Nat, (∀ k, k < 12 → r k = k) → ∀ x ∈ mid1B pub pn n sv tag body raw m L c1 c2 cs ds tail1 tail2 [], (∃ b', s.box (r x.1) = some b' ∧ (x.2.rw = true → b'.rw = true) ∧ b'.cells = x.2.cells.map (SV.ren r)) ∧ x.1 < 120 ∧ ∀ y ∈ x.2.cells, SV.ok (fun n => n < 120) y := by
    intro r hr0 x hx
    have svr := hv.svRen (hr0 0 (by decide))
    simp only [mid1B, List.mem_cons, List.not_mem_nil, or_false, List.append_nil] at hx
    rcases hx with rfl | rfl | rfl | rfl | rfl | rfl | rfl
    · exact ⟨⟨_, by rw [hr0 0 (by decide)]; exact b0, fun h => h, (ren_all hp _).symm⟩, show (0 : Nat) < 120 from by decide, ok_all hp⟩
    · exact ⟨⟨_, by rw [hr0 1 (by decide)]; exact b1, fun h => h, (ren_all hq _).symm⟩, show (1 : Nat) < 120 from by decide, ok_all hq⟩
    · exact ⟨⟨_, by rw [hr0 2 (by decide)]; exact b2, fun h => h, by rw [frL_ren, svr]⟩, show (2 : Nat) < 120 from by decide, frL_ok (svIs_ok hv (by decide))⟩
    · exact ⟨⟨_, by rw [hr0 6 (by decide)]; exact b6, fun h => h, (ren_all (plainL h3) _).symm⟩, show (6 : Nat) < 120 from by decide, ok_all (plainL h3)⟩
    · exact ⟨⟨_, by rw [hr0 7 (by decide)]; exact b7, fun h => h, by simp only [List.map_cons, List.map_nil, SV.ren, hr0 6 (by decide)]⟩, show (7 : Nat) < 120 from by decide, fun y hy => by
        simp only [List.mem_cons, List.not_mem_nil, or_false] at hy
        rcases hy with rfl | rfl
        · exact ⟨show (6 : Nat) < 120 by decide, rfl⟩
        · exact ⟨trivial, rfl⟩⟩
    · exact ⟨⟨_, by rw [hr0 10 (by decide)]; exact b10, fun h => h, (ren_all (plainL g3) _).symm⟩, show (10 : Nat) < 120 from by decide, ok_all (plainL g3)⟩
    · exact ⟨⟨_, by rw [hr0 11 (by decide)]; exact b11, fun h => h, by simp only [List.map_cons, List.map_nil, SV.ren, hr0 10 (by decide)]⟩, show (11 : Nat) < 120 from by decide, fun y hy => by
        simp only [List.mem_cons, List.not_mem_nil, or_false] at hy
        rcases hy with rfl | rfl
        · exact ⟨show (10 : Nat) < 120 by decide, rfl⟩
        · exact ⟨trivial, rfl⟩⟩
  have envs : ∀ (r : Nat → Nat) (vb vb' : AV), (∀ k, k < 12 → r k = k) → s.env 7 = some vb' → AV.ren r vb = vb' → AV.ok (fun n => n < 120) vb → ∀ x ∈ mid1E vr vb ex, s.env x.1 = some (AV.ren r x.2) ∧ AV.ok (fun n => n < 120) x.2 := by
    intro r vb vb' hr0 e7 evb okb x hx
    rcases List.mem_append.1 hx with hx | hx
    rotate_left 1
    · obtain ⟨h1, h2⟩ := hex x hx
      exact ⟨by rw [AV.ren_plain h2]; exact h1, AV.plain_ok h2⟩
    simp only [List.mem_cons, List.not_mem_nil, or_false] at hx
    rcases hx with rfl | rfl | rfl | rfl | rfl
    · exact ⟨by rw [hr.ren (hr0 1 (by decide))]; exact e1, hr.ok (by decide)⟩
    · exact ⟨by rw [ren_p, hr0 2 (by decide)]; exact e2, show (2 : Nat) < 120 by decide⟩
    · exact ⟨by rw [ren_p, hr0 7 (by decide)]; exact e5, show (7 : Nat) < 120 by decide⟩
    · exact ⟨by rw [ren_p, hr0 11 (by decide)]; exact e6, show (11 : Nat) < 120 by decide⟩
    · exact ⟨by rw [evb]; exact e7, okb⟩
  rcases hb with e7 | ⟨q, k, c, cs', f, e7, bq, hg, hk, hq1, hq2⟩
  · exact ⟨mkS (mid1E vr (V (.slice none 0 0)) ex) (mid1B pub pn n sv tag body raw m L c1 c2 cs ds tail1 tail2 []) 120, brings_0 (envs (fun n => n) _ _ (fun _ _ => rfl) e7 rfl trivial) (boxes (fun n => n) (fun _ _ => rfl)), show K ≤ 120 by omega, _, _, _, _, _, _, rfl, h1, h2, h3, g1, g2, g3, .inl ⟨rfl, rfl⟩⟩
  · have hr0 : ∀ k, k < 12 → upd (fun n => n) 100 q k = k := fun k hk => upd_ne _ _ _ _ (by omega)
    refine ⟨mkS (mid1E vr (Sl 100 0 k c) ex) (mid1B pub pn n sv tag body raw m L c1 c2 cs ds tail1 tail2 [(100, ⟨true, cs'⟩)]) 120, brings_1 (p := 100) (q := q) (by omega) ?_ (envs _ (Sl 100 0 k c) _ hr0 e7 (by rw [ren_s, upd_same]) (show (100 : Nat) < 120 by decide)) ?_, show K ≤ 120 by omega, _, _, _, _, _, _, rfl, h1, h2, h3, g1, g2, g3, .inr ⟨k, c, cs', f, rfl, rfl, hg, hk⟩⟩
    · rcases Nat.lt_or_ge q 100 with hq3 | hq3
      rotate_left 1
      · exact .inl (by omega)
      refine .inr fun x hx => ?_
      simp only [mid1B, List.mem_cons, List.not_mem_nil, or_false, List.cons_append, List.nil_append] at hx
      rcases hx with rfl | rfl | rfl | rfl | rfl | rfl | rfl | rfl <;> simp only <;> omega
    · intro x hx
      rw [mid1B] at hx
      rcases List.mem_append.1 hx with hx | hx
      · exact boxes _ hr0 x (by rw [mid1B, List.append_nil]; exact hx)
      · obtain rfl := List.mem_singleton.1 hx
        exact ⟨⟨_, by rw [upd_same]; exact bq, fun h => h, (ren_all hg.plain _).symm⟩, show (100 : Nat) < 120 from by decide, ok_all hg.plain⟩
theorem mid1b_of {K : Nat} (hK : K ≤ 2) {s : AS} {pub tag body raw : Nat → Int} {pn n : Int} {m L c1 c2 : Nat} {sv : SV} {vr vb : AV} {lb : List (Nat × Box)} {cs ds tail1 tail2 : List SV} (b : Bool) (hiff : b = true ↔ isFr L raw) (e11 : s.env 11 = some (B b)) (e1 : s.env 1 = some vr) (e2 : s.env 2 = some (Ptr 2 0)) (e5 : s.env 5 = some (Ptr 7 0)) (e6 : s.env 6 = some (Ptr 11 0))
    (e7 : s.env 7 = some vb) (hkb : Kept 100 vb lb) (hsb : s.box = lk (mid1B pub pn n sv tag body raw m L c1 c2 cs ds tail1 tail2 lb)) (hp : cs.all SV.plain = true) (hq : ds.all SV.plain = true) (hv : ArgIs 0 (.inl (.inl sv)) m body cs) (hr : ArgIs 1 vr L raw ds)
    (h1 : m + 64 ≤ c1) (h2 : tail1.length = c1 - (m + 64)) (h3 : tail1.all SV.plain = true) (g1 : L + 64 ≤ c2) (g2 : tail2.length = c2 - (L + 64)) (g3 : tail2.all SV.plain = true) :
    ∃ s2, RefN K s s2 ∧ K ≤ s2.next ∧ ∃ b, (b = true ↔ isFr L raw) ∧ Mid1 pub pn n sv tag body raw m L cs ds vr [(11, B b)] s2 := by
  have key := mid1_of hK (s := s) (pub := pub) (tag := tag) (pn := pn) (n := n) (ex := [(11, B b)]) (fun x hx => by obtain rfl := List.mem_singleton.1 hx; exact ⟨e11, rfl⟩) e1 e2 e5 e6 (by rw [hsb]; rfl) (by rw [hsb]; rfl) (by rw [hsb]; rfl) (by rw [hsb]; rfl) (by rw [hsb]; rfl) (by rw [hsb]; rfl) (by rw [hsb]; rfl) hp hq hv hr h1 h2 h3 g1 g2 g3 (by
    rcases hkb with ⟨rfl, rfl⟩ | ⟨k, c, cs', f, rfl, rfl, hg, hk⟩
    · exact .inl e7
    · exact .inr ⟨100, k, c, cs', f, e7, by rw [hsb]; rfl, hg, hk, by decide, by decide⟩)
  obtain ⟨s2, a1, a2, a3⟩ := key
  exact ⟨s2, a1, a2, b, hiff, a3⟩
theorem frL_congr {p p' q q' : Nat → Int} {a b : Int} {sv : SV} (h1 : ∀ i, i < 32 → p i = p' i) (h2 : ∀ i, i < 32 → q i = q' i) : frL p a b sv q = frL p' a b sv q' := by
  unfold frL; rw [rowI_congr h1, rowI_congr h2]
/-- Behind the law's first row: the frame in a box of its own; what is nothing stands anywhere. -/
def st0 (pub : Nat → Int) (pn n : Int) (sv : SV) (tag : Nat → Int) (cs ds : List SV) (vr : AV) : AS := mkS [(1, vr), (2, Ptr 2 0)] [(0, ⟨false, cs⟩), (1, ⟨false, ds⟩), (2, ⟨false, frL pub pn n sv tag⟩)] 4
/-- The rest of the law's code. -/
noncomputable def restC : Code := match Try.f3.body with
  | some c => tailC 1 c
  | none => .skip
set_option maxHeartbeats 16000000 in
set_option maxRecDepth 20000 in
theorem rest_m {pub tag body raw : Nat → Int} {pn n : Int} {m L : Nat} {sv : SV} {vr : AV} {cs ds : List SV} (hp : cs.all SV.plain = true) (hq : ds.all SV.plain = true) (hv : ArgIs 0 (.inl (.inl sv)) m body cs) (hr : ArgIs 1 vr L raw ds)
    (hpub : Byt pub) (htag : Byt tag) (hbody : Byt body) (hraw : Byt raw) (hpn : 0 ≤ pn ∧ pn < 4294967296) (hn : 0 ≤ n ∧ n < 4294967296) (hm : m + 64 ≤ 140737488355328) (hL : L + 64 ≤ 140737488355328) (hcap : ∀ o c, vr = Sl 1 o L c → L ≤ c) (k : Nat) (hk : k ≤ 2) :
    vcL Try.prog k [6, 1] restC (retK Try.prog Try.f3.results.toList (Ret k (fun v out => v = B true ∧ out = fun _ => none))) (st0 pub pn n sv tag cs ds vr) := by
  simp only [restC, Try.f3, tailC_succ, tailC_zero, st0]
  have hat : BytesAt (lk [(0, (⟨false, cs⟩ : Box)), (1, ⟨false, ds⟩)]) (.inl (.inl sv)) m body := hv.at (t := 0) rfl hp
  have rat : BytesAt (lk [(0, (⟨false, cs⟩ : Box)), (1, ⟨false, ds⟩)]) vr L raw := hr.at (t := 1) rfl hq
  refine ⟨Mid1 pub pn n sv tag body raw m L cs ds vr [], ?_, fun s2 h2 => ?_⟩
  · simp only [mkS_eq, frL_len, frL_34, rulesX, rulesL, sn_upto, sn_from, slN_def, run_cap, rules, rules2, loopRules, Try.facts, base0, Int.toNat_zero, Nat.reduceAdd, Nat.reduceMul, Nat.reduceSub, Nat.reduceLT, Nat.reduceLeDiff, Nat.reduceEqDiff, Int.reduceLE, Int.reduceLT, Int.reduceToNat, Int.reduceNe, Int.reduceEq, not_false_eq_true, Nat.reduceBEq, Nat.reduceDiv, Int.natCast_zero, Int.natCast_one, Int.reduceAdd, Int.reduceSub, reduceIte, ↓reduceIte, Value.oneCell', rowI_length, rowI_take, rowI_splice, rep_all, row_zero, le_nat, Int.toNat_natCast, Nat.zero_add, sok_row, reduceCtorEq]
    refine lend_at (t := 0) (rw := false) (cs := cs) rfl hp hv hm ?_
    intro c1 tail1 h1 h2 h3
    simp only [lentV, spl2, rulesX, rulesL, sn_upto, sn_from, slN_def, run_cap, rules, rules2, loopRules, Try.facts, base0, Int.toNat_zero, Nat.reduceAdd, Nat.reduceMul, Nat.reduceSub, Nat.reduceLT, Nat.reduceLeDiff, Nat.reduceEqDiff, Int.reduceLE, Int.reduceLT, Int.reduceToNat, Int.reduceNe, Int.reduceEq, not_false_eq_true, Nat.reduceBEq, Nat.reduceDiv, Int.natCast_zero, Int.natCast_one, Int.reduceAdd, Int.reduceSub, reduceIte, ↓reduceIte, Value.oneCell', rowI_length, rowI_take, rowI_splice, rep_all, row_zero, le_nat, Int.toNat_natCast, Nat.zero_add, sok_row, reduceCtorEq]
    refine lend_at (t := 1) (rw := false) (by simp only [upd_apply, sn_upto, sn_from, slN_def, run_cap, rules, rules2, loopRules, Try.facts, base0, Int.toNat_zero, Nat.reduceAdd, Nat.reduceMul, Nat.reduceSub, Nat.reduceLT, Nat.reduceLeDiff, Nat.reduceEqDiff, Int.reduceLE, Int.reduceLT, Int.reduceToNat, Int.reduceNe, Int.reduceEq, not_false_eq_true, Nat.reduceBEq, Nat.reduceDiv, Int.natCast_zero, Int.natCast_one, Int.reduceAdd, Int.reduceSub, reduceIte, ↓reduceIte, Value.oneCell', rowI_length, rowI_take, rowI_splice, rep_all, row_zero, le_nat, Int.toNat_natCast, Nat.zero_add, sok_row, reduceCtorEq]) hq hr hL ?_
    intro c2 tail2 g1 g2 g3
    simp only [lentV, spl2, frL_len, frL_head, rulesX, rulesL, sn_upto, sn_from, slN_def, run_cap, rules, rules2, loopRules, Try.facts, base0, Int.toNat_zero, Nat.reduceAdd, Nat.reduceMul, Nat.reduceSub, Nat.reduceLT, Nat.reduceLeDiff, Nat.reduceEqDiff, Int.reduceLE, Int.reduceLT, Int.reduceToNat, Int.reduceNe, Int.reduceEq, not_false_eq_true, Nat.reduceBEq, Nat.reduceDiv, Int.natCast_zero, Int.natCast_one, Int.reduceAdd, Int.reduceSub, reduceIte, ↓reduceIte, Value.oneCell', rowI_length, rowI_take, rowI_splice, rep_all, row_zero, le_nat, Int.toNat_natCast, Nat.zero_add, sok_row, reduceCtorEq]
    refine .inl ?_
    simp only [lentV, spl2, frL_len, frL_head, rulesX, rulesL, sn_upto, sn_from, slN_def, run_cap, rules, rules2, loopRules, Try.facts, base0, Int.toNat_zero, Nat.reduceAdd, Nat.reduceMul, Nat.reduceSub, Nat.reduceLT, Nat.reduceLeDiff, Nat.reduceEqDiff, Int.reduceLE, Int.reduceLT, Int.reduceToNat, Int.reduceNe, Int.reduceEq, not_false_eq_true, Nat.reduceBEq, Nat.reduceDiv, Int.natCast_zero, Int.natCast_one, Int.reduceAdd, Int.reduceSub, reduceIte, ↓reduceIte, Value.oneCell', rowI_length, rowI_take, rowI_splice, rep_all, row_zero, le_nat, Int.toNat_natCast, Nat.zero_add, sok_row, reduceCtorEq]
    refine ⟨by kernel_rfl, ?_⟩
    refine list_draw (n := m) (t := 6) (rw := true) (cs := rowI .u8 m body ++ (rowI .u8 64 (fun _ => 0) ++ tail1)) h1 (by simp only [upd_apply, sn_upto, sn_from, slN_def, run_cap, rules, rules2, loopRules, Try.facts, base0, Int.toNat_zero, Nat.reduceAdd, Nat.reduceMul, Nat.reduceSub, Nat.reduceLT, Nat.reduceLeDiff, Nat.reduceEqDiff, Int.reduceLE, Int.reduceLT, Int.reduceToNat, Int.reduceNe, Int.reduceEq, not_false_eq_true, Nat.reduceBEq, Nat.reduceDiv, Int.natCast_zero, Int.natCast_one, Int.reduceAdd, Int.reduceSub, reduceIte, ↓reduceIte, Value.oneCell', rowI_length, rowI_take, rowI_splice, rep_all, row_zero, le_nat, Int.toNat_natCast, Nat.zero_add, sok_row, reduceCtorEq]) (plainL h3) ?_
    simp only [zFrame2, frL_len, frL_0, frL_1, frL_2, frL_tag, frL_head, hdL_len, rulesX, rulesL, sn_upto, sn_from, slN_def, run_cap, rules, rules2, loopRules, Try.facts, base0, Int.toNat_zero, Nat.reduceAdd, Nat.reduceMul, Nat.reduceSub, Nat.reduceLT, Nat.reduceLeDiff, Nat.reduceEqDiff, Int.reduceLE, Int.reduceLT, Int.reduceToNat, Int.reduceNe, Int.reduceEq, not_false_eq_true, Nat.reduceBEq, Nat.reduceDiv, Int.natCast_zero, Int.natCast_one, Int.reduceAdd, Int.reduceSub, reduceIte, ↓reduceIte, Value.oneCell', rowI_length, rowI_take, rowI_splice, rep_all, row_zero, le_nat, Int.toNat_natCast, Nat.zero_add, sok_row, reduceCtorEq]
    have pl1 := plainL (n := m) (f := body) h3
    have sl1 : Shows (rowI .u8 m body ++ (rowI .u8 64 (fun _ => 0) ++ tail1)) 0 m body := shows_row
    refine encode_draw (t := 6) (o := 0) (c := c1) (rw := true) (by simp only [upd_apply, sn_upto, sn_from, slN_def, run_cap, rules, rules2, loopRules, Try.facts, base0, Int.toNat_zero, Nat.reduceAdd, Nat.reduceMul, Nat.reduceSub, Nat.reduceLT, Nat.reduceLeDiff, Nat.reduceEqDiff, Int.reduceLE, Int.reduceLT, Int.reduceToNat, Int.reduceNe, Int.reduceEq, not_false_eq_true, Nat.reduceBEq, Nat.reduceDiv, Int.natCast_zero, Int.natCast_one, Int.reduceAdd, Int.reduceSub, reduceIte, ↓reduceIte, Value.oneCell', rowI_length, rowI_take, rowI_splice, rep_all, row_zero, le_nat, Int.toNat_natCast, Nat.zero_add, sok_row, reduceCtorEq]) pl1 sl1 (by kernel_rfl) (fun hm6 => ?_) (fun hm6 cb csb hgb => ?_)
    · have d : decide ((m : Int) ≤ 65536) = false := decide_eq_false (by omega)
      simp only [rulesX, rulesL, sn_upto, sn_from, slN_def, run_cap, rules, rules2, loopRules, Try.facts, base0, Int.toNat_zero, Nat.reduceAdd, Nat.reduceMul, Nat.reduceSub, Nat.reduceLT, Nat.reduceLeDiff, Nat.reduceEqDiff, Int.reduceLE, Int.reduceLT, Int.reduceToNat, Int.reduceNe, Int.reduceEq, not_false_eq_true, Nat.reduceBEq, Nat.reduceDiv, Int.natCast_zero, Int.natCast_one, Int.reduceAdd, Int.reduceSub, reduceIte, ↓reduceIte, Value.oneCell', rowI_length, rowI_take, rowI_splice, rep_all, row_zero, le_nat, Int.toNat_natCast, Nat.zero_add, sok_row, reduceCtorEq]
      refine decode_nil.vcRead (fun n => n) fits0 shutV_plain rfl ?_
      simp only [shutV, zFrame, zFrame2, frL_len, frL_w, frL_34, at_len hat, d, rulesX, rulesL, sn_upto, sn_from, slN_def, run_cap, rules, rules2, loopRules, Try.facts, base0, Int.toNat_zero, Nat.reduceAdd, Nat.reduceMul, Nat.reduceSub, Nat.reduceLT, Nat.reduceLeDiff, Nat.reduceEqDiff, Int.reduceLE, Int.reduceLT, Int.reduceToNat, Int.reduceNe, Int.reduceEq, not_false_eq_true, Nat.reduceBEq, Nat.reduceDiv, Int.natCast_zero, Int.natCast_one, Int.reduceAdd, Int.reduceSub, reduceIte, ↓reduceIte, Value.oneCell', rowI_length, rowI_take, rowI_splice, rep_all, row_zero, le_nat, Int.toNat_natCast, Nat.zero_add, sok_row, reduceCtorEq]
      refine ⟨by kernel_rfl, ?_⟩
      simp only [beq_self_eq_true, Bool.not_true, Bool.not_false, rulesX, rulesL, sn_upto, sn_from, slN_def, run_cap, rules, rules2, loopRules, Try.facts, base0, Int.toNat_zero, Nat.reduceAdd, Nat.reduceMul, Nat.reduceSub, Nat.reduceLT, Nat.reduceLeDiff, Nat.reduceEqDiff, Int.reduceLE, Int.reduceLT, Int.reduceToNat, Int.reduceNe, Int.reduceEq, not_false_eq_true, Nat.reduceBEq, Nat.reduceDiv, Int.natCast_zero, Int.natCast_one, Int.reduceAdd, Int.reduceSub, reduceIte, ↓reduceIte, Value.oneCell', rowI_length, rowI_take, rowI_splice, rep_all, row_zero, le_nat, Int.toNat_natCast, Nat.zero_add, sok_row, reduceCtorEq]
      refine vcIf_no rfl ?_
      simp only [rulesX, rulesL, sn_upto, sn_from, slN_def, run_cap, rules, rules2, loopRules, Try.facts, base0, Int.toNat_zero, Nat.reduceAdd, Nat.reduceMul, Nat.reduceSub, Nat.reduceLT, Nat.reduceLeDiff, Nat.reduceEqDiff, Int.reduceLE, Int.reduceLT, Int.reduceToNat, Int.reduceNe, Int.reduceEq, not_false_eq_true, Nat.reduceBEq, Nat.reduceDiv, Int.natCast_zero, Int.natCast_one, Int.reduceAdd, Int.reduceSub, reduceIte, ↓reduceIte, Value.oneCell', rowI_length, rowI_take, rowI_splice, rep_all, row_zero, le_nat, Int.toNat_natCast, Nat.zero_add, sok_row, reduceCtorEq]
      exact mid1_of hk (ex := []) (fun x hx => by cases hx) rfl rfl rfl rfl rfl rfl rfl rfl rfl rfl rfl hp hq hv hr h1 h2 h3 g1 g2 g3 (.inl rfl)
    · have d : decide ((m : Int) ≤ 65536) = true := decide_eq_true (by omega)
      simp only [rulesX, rulesL, sn_upto, sn_from, slN_def, run_cap, rules, rules2, loopRules, Try.facts, base0, Int.toNat_zero, Nat.reduceAdd, Nat.reduceMul, Nat.reduceSub, Nat.reduceLT, Nat.reduceLeDiff, Nat.reduceEqDiff, Int.reduceLE, Int.reduceLT, Int.reduceToNat, Int.reduceNe, Int.reduceEq, not_false_eq_true, Nat.reduceBEq, Nat.reduceDiv, Int.natCast_zero, Int.natCast_one, Int.reduceAdd, Int.reduceSub, reduceIte, ↓reduceIte, Value.oneCell', rowI_length, rowI_take, rowI_splice, rep_all, row_zero, le_nat, Int.toNat_natCast, Nat.zero_add, sok_row, reduceCtorEq]
      have hGb := frB_byt (pn := pn) (n := n) (m := m) hpub htag hbody
      have cB : rowI .u8 32 (fun i => frB pub pn n m body tag (1 + i)) = rowI .u8 32 pub := rowI_congr fun i hi => frB_pub i hi
      have cT : rowI .u8 32 (fun i => frB pub pn n m body tag (45 + m + i)) = rowI .u8 32 tag := rowI_congr fun i hi => frB_tag i hi
      have em : 45 + m + 32 - 77 = m := by omega
      refine decode_call (t := 20) (o := 0) (rw := true) hGb hgb.shows (by simp only [upd_apply, sn_upto, sn_from, slN_def, run_cap, rules, rules2, loopRules, Try.facts, base0, Int.toNat_zero, Nat.reduceAdd, Nat.reduceMul, Nat.reduceSub, Nat.reduceLT, Nat.reduceLeDiff, Nat.reduceEqDiff, Int.reduceLE, Int.reduceLT, Int.reduceToNat, Int.reduceNe, Int.reduceEq, not_false_eq_true, Nat.reduceBEq, Nat.reduceDiv, Int.natCast_zero, Int.natCast_one, Int.reduceAdd, Int.reduceSub, reduceIte, ↓reduceIte, Value.oneCell', rowI_length, rowI_take, rowI_splice, rep_all, row_zero, le_nat, Int.toNat_natCast, Nat.zero_add, sok_row, reduceCtorEq]) hgb.plain hgb.room (by omega) (fun h => absurd (frB_is hm6) h) (fun _ h0 => ?_) (fun _ h0 q csq hgq => ?_)
      all_goals
        rw [em, frB_33 hpn.1 hpn.2, frB_37 hn.1 hn.2, frL_congr (fun i hi => frB_pub i hi) (fun i hi => frB_tag i hi)]
        simp only [zFrame, zFrame2, frL_len, frL_w, frL_34, frL_all, at_len hat, d, rulesX, rulesL, sn_upto, sn_from, slN_def, run_cap, rules, rules2, loopRules, Try.facts, base0, Int.toNat_zero, Nat.reduceAdd, Nat.reduceMul, Nat.reduceSub, Nat.reduceLT, Nat.reduceLeDiff, Nat.reduceEqDiff, Int.reduceLE, Int.reduceLT, Int.reduceToNat, Int.reduceNe, Int.reduceEq, not_false_eq_true, Nat.reduceBEq, Nat.reduceDiv, Int.natCast_zero, Int.natCast_one, Int.reduceAdd, Int.reduceSub, reduceIte, ↓reduceIte, Value.oneCell', rowI_length, rowI_take, rowI_splice, rep_all, row_zero, le_nat, Int.toNat_natCast, Nat.zero_add, sok_row, reduceCtorEq]
        refine ⟨by kernel_rfl, ?_⟩
        simp only [beq_self_eq_true, Bool.not_true, Bool.not_false, frL_len, frL_all, rulesX, rulesL, sn_upto, sn_from, slN_def, run_cap, rules, rules2, loopRules, Try.facts, base0, Int.toNat_zero, Nat.reduceAdd, Nat.reduceMul, Nat.reduceSub, Nat.reduceLT, Nat.reduceLeDiff, Nat.reduceEqDiff, Int.reduceLE, Int.reduceLT, Int.reduceToNat, Int.reduceNe, Int.reduceEq, not_false_eq_true, Nat.reduceBEq, Nat.reduceDiv, Int.natCast_zero, Int.natCast_one, Int.reduceAdd, Int.reduceSub, reduceIte, ↓reduceIte, Value.oneCell', rowI_length, rowI_take, rowI_splice, rep_all, row_zero, le_nat, Int.toNat_natCast, Nat.zero_add, sok_row, reduceCtorEq]
        refine laid_call (t := 20) (u := 0) (ra := true) (rb := false) (by omega) hGb hgb.shows (by simp only [upd_apply, sn_upto, sn_from, slN_def, run_cap, rules, rules2, loopRules, Try.facts, base0, Int.toNat_zero, Nat.reduceAdd, Nat.reduceMul, Nat.reduceSub, Nat.reduceLT, Nat.reduceLeDiff, Nat.reduceEqDiff, Int.reduceLE, Int.reduceLT, Int.reduceToNat, Int.reduceNe, Int.reduceEq, not_false_eq_true, Nat.reduceBEq, Nat.reduceDiv, Int.natCast_zero, Int.natCast_one, Int.reduceAdd, Int.reduceSub, reduceIte, ↓reduceIte, Value.oneCell', rowI_length, rowI_take, rowI_splice, rep_all, row_zero, le_nat, Int.toNat_natCast, Nat.zero_add, sok_row, reduceCtorEq]) hgb.plain hgb.room hm6 hv (by simp only [upd_apply, sn_upto, sn_from, slN_def, run_cap, rules, rules2, loopRules, Try.facts, base0, Int.toNat_zero, Nat.reduceAdd, Nat.reduceMul, Nat.reduceSub, Nat.reduceLT, Nat.reduceLeDiff, Nat.reduceEqDiff, Int.reduceLE, Int.reduceLT, Int.reduceToNat, Int.reduceNe, Int.reduceEq, not_false_eq_true, Nat.reduceBEq, Nat.reduceDiv, Int.natCast_zero, Int.natCast_one, Int.reduceAdd, Int.reduceSub, reduceIte, ↓reduceIte, Value.oneCell', rowI_length, rowI_take, rowI_splice, rep_all, row_zero, le_nat, Int.toNat_natCast, Nat.zero_add, sok_row, reduceCtorEq]) hp frB_0 (fun i hi => frB_pub i hi) (fun i hi => frB_tag i hi) (frB_33 hpn.1 hpn.2) (frB_37 hn.1 hn.2) (frB_41 hm6) (fun i hi => frB_body i hi) ?_
        simp only [beq_self_eq_true, Bool.not_true, Bool.not_false, frL_len, frL_all, rulesX, rulesL, sn_upto, sn_from, slN_def, run_cap, rules, rules2, loopRules, Try.facts, base0, Int.toNat_zero, Nat.reduceAdd, Nat.reduceMul, Nat.reduceSub, Nat.reduceLT, Nat.reduceLeDiff, Nat.reduceEqDiff, Int.reduceLE, Int.reduceLT, Int.reduceToNat, Int.reduceNe, Int.reduceEq, not_false_eq_true, Nat.reduceBEq, Nat.reduceDiv, Int.natCast_zero, Int.natCast_one, Int.reduceAdd, Int.reduceSub, reduceIte, ↓reduceIte, Value.oneCell', rowI_length, rowI_take, rowI_splice, rep_all, row_zero, le_nat, Int.toNat_natCast, Nat.zero_add, sok_row, reduceCtorEq]
      · refine sameFrame_call (t := 0) (u := 0) (m := m) (body := body) (ra := false) (rb := false) (by simp only [upd_apply, sn_upto, sn_from, slN_def, run_cap, rules, rules2, loopRules, Try.facts, base0, Int.toNat_zero, Nat.reduceAdd, Nat.reduceMul, Nat.reduceSub, Nat.reduceLT, Nat.reduceLeDiff, Nat.reduceEqDiff, Int.reduceLE, Int.reduceLT, Int.reduceToNat, Int.reduceNe, Int.reduceEq, not_false_eq_true, Nat.reduceBEq, Nat.reduceDiv, Int.natCast_zero, Int.natCast_one, Int.reduceAdd, Int.reduceSub, reduceIte, ↓reduceIte, Value.oneCell', rowI_length, rowI_take, rowI_splice, rep_all, row_zero, le_nat, Int.toNat_natCast, Nat.zero_add, sok_row, reduceCtorEq]) hp (by simp only [upd_apply, sn_upto, sn_from, slN_def, run_cap, rules, rules2, loopRules, Try.facts, base0, Int.toNat_zero, Nat.reduceAdd, Nat.reduceMul, Nat.reduceSub, Nat.reduceLT, Nat.reduceLeDiff, Nat.reduceEqDiff, Int.reduceLE, Int.reduceLT, Int.reduceToNat, Int.reduceNe, Int.reduceEq, not_false_eq_true, Nat.reduceBEq, Nat.reduceDiv, Int.natCast_zero, Int.natCast_one, Int.reduceAdd, Int.reduceSub, reduceIte, ↓reduceIte, Value.oneCell', rowI_length, rowI_take, rowI_splice, rep_all, row_zero, le_nat, Int.toNat_natCast, Nat.zero_add, sok_row, reduceCtorEq]) hp (.inl ⟨⟨none, rfl⟩, by omega⟩) hv (by omega) ?_
        simp only [beq_self_eq_true, Bool.not_true, Bool.not_false, rulesX, rulesL, sn_upto, sn_from, slN_def, run_cap, rules, rules2, loopRules, Try.facts, base0, Int.toNat_zero, Nat.reduceAdd, Nat.reduceMul, Nat.reduceSub, Nat.reduceLT, Nat.reduceLeDiff, Nat.reduceEqDiff, Int.reduceLE, Int.reduceLT, Int.reduceToNat, Int.reduceNe, Int.reduceEq, not_false_eq_true, Nat.reduceBEq, Nat.reduceDiv, Int.natCast_zero, Int.natCast_one, Int.reduceAdd, Int.reduceSub, reduceIte, ↓reduceIte, Value.oneCell', rowI_length, rowI_take, rowI_splice, rep_all, row_zero, le_nat, Int.toNat_natCast, Nat.zero_add, sok_row, reduceCtorEq]
        exact mid1_of hk (ex := []) (fun x hx => by cases hx) rfl rfl rfl rfl rfl rfl rfl rfl rfl rfl rfl hp hq hv hr h1 h2 h3 g1 g2 g3 (.inr ⟨20, _, cb, csb, _, rfl, rfl, hgb, by omega, by decide, by decide⟩)
      · refine sameFrame_call (t := 23) (u := 0) (m := m) (body := body) (ra := true) (rb := false) (by simp only [upd_apply, sn_upto, sn_from, slN_def, run_cap, rules, rules2, loopRules, Try.facts, base0, Int.toNat_zero, Nat.reduceAdd, Nat.reduceMul, Nat.reduceSub, Nat.reduceLT, Nat.reduceLeDiff, Nat.reduceEqDiff, Int.reduceLE, Int.reduceLT, Int.reduceToNat, Int.reduceNe, Int.reduceEq, not_false_eq_true, Nat.reduceBEq, Nat.reduceDiv, Int.natCast_zero, Int.natCast_one, Int.reduceAdd, Int.reduceSub, reduceIte, ↓reduceIte, Value.oneCell', rowI_length, rowI_take, rowI_splice, rep_all, row_zero, le_nat, Int.toNat_natCast, Nat.zero_add, sok_row, reduceCtorEq]) hgq.plain (by simp only [upd_apply, sn_upto, sn_from, slN_def, run_cap, rules, rules2, loopRules, Try.facts, base0, Int.toNat_zero, Nat.reduceAdd, Nat.reduceMul, Nat.reduceSub, Nat.reduceLT, Nat.reduceLeDiff, Nat.reduceEqDiff, Int.reduceLE, Int.reduceLT, Int.reduceToNat, Int.reduceNe, Int.reduceEq, not_false_eq_true, Nat.reduceBEq, Nat.reduceDiv, Int.natCast_zero, Int.natCast_one, Int.reduceAdd, Int.reduceSub, reduceIte, ↓reduceIte, Value.oneCell', rowI_length, rowI_take, rowI_splice, rep_all, row_zero, le_nat, Int.toNat_natCast, Nat.zero_add, sok_row, reduceCtorEq]) hp (.inr ⟨0, q, rfl, by have := hgq.shows; rw [em] at this; exact shows_congr this (fun i hi => frB_body i hi)⟩) hv (by omega) ?_
        simp only [beq_self_eq_true, Bool.not_true, Bool.not_false, rulesX, rulesL, sn_upto, sn_from, slN_def, run_cap, rules, rules2, loopRules, Try.facts, base0, Int.toNat_zero, Nat.reduceAdd, Nat.reduceMul, Nat.reduceSub, Nat.reduceLT, Nat.reduceLeDiff, Nat.reduceEqDiff, Int.reduceLE, Int.reduceLT, Int.reduceToNat, Int.reduceNe, Int.reduceEq, not_false_eq_true, Nat.reduceBEq, Nat.reduceDiv, Int.natCast_zero, Int.natCast_one, Int.reduceAdd, Int.reduceSub, reduceIte, ↓reduceIte, Value.oneCell', rowI_length, rowI_take, rowI_splice, rep_all, row_zero, le_nat, Int.toNat_natCast, Nat.zero_add, sok_row, reduceCtorEq]
        exact mid1_of hk (ex := []) (fun x hx => by cases hx) rfl rfl rfl rfl rfl rfl rfl rfl rfl rfl rfl hp hq hv hr h1 h2 h3 g1 g2 g3 (.inr ⟨20, _, cb, csb, _, rfl, rfl, hgb, by omega, by decide, by decide⟩)
  · obtain ⟨vb, lb, c1, c2, tail1, tail2, rfl, h1, h2, h3, g1, g2, g3, hkb⟩ := h2
    refine ⟨fun s2 => ∃ b, (b = true ↔ isFr L raw) ∧ Mid1 pub pn n sv tag body raw m L cs ds vr [(11, B b)] s2, ?_, fun s2 h2 => ?_⟩
    · have fin := fun (b : Bool) (hb : b = true ↔ isFr L raw) (s : AS) e11 e1 e2 e5 e6 e7 hsb => mid1b_of hk (s := s) (pub := pub) (tag := tag) (pn := pn) (n := n) (sv := sv) (body := body) b hb e11 e1 e2 e5 e6 e7 hkb hsb hp hq hv hr h1 h2 h3 g1 g2 g3
      by_cases k1 : L < 77
      · have d1 : decide (77 ≤ (L : Int)) = false := decide_eq_false (by omega)
        simp only [mkS_eq, mid1E, mid1B, List.cons_append, List.nil_append, List.append_nil, at_len rat, d1, rulesX, rulesL, sn_upto, sn_from, slN_def, run_cap, rules, rules2, loopRules, Try.facts, base0, Int.toNat_zero, Nat.reduceAdd, Nat.reduceMul, Nat.reduceSub, Nat.reduceLT, Nat.reduceLeDiff, Nat.reduceEqDiff, Int.reduceLE, Int.reduceLT, Int.reduceToNat, Int.reduceNe, Int.reduceEq, not_false_eq_true, Nat.reduceBEq, Nat.reduceDiv, Int.natCast_zero, Int.natCast_one, Int.reduceAdd, Int.reduceSub, reduceIte, ↓reduceIte, Value.oneCell', rowI_length, rowI_take, rowI_splice, rep_all, row_zero, le_nat, Int.toNat_natCast, Nat.zero_add, sok_row, reduceCtorEq]
        exact fin false (by simp [isFr]; omega) _ rfl rfl rfl rfl rfl rfl rfl
      have d1 : decide (77 ≤ (L : Int)) = true := decide_eq_true (by omega)
      by_cases k2 : 65613 < L
      · have d2 : decide ((L : Int) ≤ 65613) = false := decide_eq_false (by omega)
        simp only [mkS_eq, mid1E, mid1B, List.cons_append, List.nil_append, List.append_nil, at_len rat, d1, d2, rulesX, rulesL, sn_upto, sn_from, slN_def, run_cap, rules, rules2, loopRules, Try.facts, base0, Int.toNat_zero, Nat.reduceAdd, Nat.reduceMul, Nat.reduceSub, Nat.reduceLT, Nat.reduceLeDiff, Nat.reduceEqDiff, Int.reduceLE, Int.reduceLT, Int.reduceToNat, Int.reduceNe, Int.reduceEq, not_false_eq_true, Nat.reduceBEq, Nat.reduceDiv, Int.natCast_zero, Int.natCast_one, Int.reduceAdd, Int.reduceSub, reduceIte, ↓reduceIte, Value.oneCell', rowI_length, rowI_take, rowI_splice, rep_all, row_zero, le_nat, Int.toNat_natCast, Nat.zero_add, sok_row, reduceCtorEq]
        exact fin false (by simp [isFr]; omega) _ rfl rfl rfl rfl rfl rfl rfl
      have d2 : decide ((L : Int) ≤ 65613) = true := decide_eq_true (by omega)
      rcases hr with ⟨-, k0⟩ | ⟨o, c, rfl, hs⟩
      · exact absurd k0 (by omega)
      have l0 : ((0 : Int) < (L : Int)) = True := eq_true (by omega)
      have a0 := hs 0 (by omega)
      rw [Nat.add_zero] at a0
      by_cases k3 : raw 0 = 210
      rotate_left 1
      · have d3 : (raw 0 == 210) = false := by simpa using k3
        simp only [mkS_eq, mid1E, mid1B, List.cons_append, List.nil_append, List.append_nil, at_len rat, d1, d2, d3, l0, a0, rulesX, rulesL, sn_upto, sn_from, slN_def, run_cap, rules, rules2, loopRules, Try.facts, base0, Int.toNat_zero, Nat.reduceAdd, Nat.reduceMul, Nat.reduceSub, Nat.reduceLT, Nat.reduceLeDiff, Nat.reduceEqDiff, Int.reduceLE, Int.reduceLT, Int.reduceToNat, Int.reduceNe, Int.reduceEq, not_false_eq_true, Nat.reduceBEq, Nat.reduceDiv, Int.natCast_zero, Int.natCast_one, Int.reduceAdd, Int.reduceSub, reduceIte, ↓reduceIte, Value.oneCell', rowI_length, rowI_take, rowI_splice, rep_all, row_zero, le_nat, Int.toNat_natCast, Nat.zero_add, sok_row, reduceCtorEq]
        exact fin false (by simp [isFr, k3]) _ rfl rfl rfl rfl rfl rfl rfl
      have d3 : (raw 0 == 210) = true := by simpa using k3
      simp only [mkS_eq, mid1E, mid1B, List.cons_append, List.nil_append, List.append_nil, at_len rat, d1, d2, d3, l0, a0, rulesX, rulesL, sn_upto, sn_from, slN_def, run_cap, rules, rules2, loopRules, Try.facts, base0, Int.toNat_zero, Nat.reduceAdd, Nat.reduceMul, Nat.reduceSub, Nat.reduceLT, Nat.reduceLeDiff, Nat.reduceEqDiff, Int.reduceLE, Int.reduceLT, Int.reduceToNat, Int.reduceNe, Int.reduceEq, not_false_eq_true, Nat.reduceBEq, Nat.reduceDiv, Int.natCast_zero, Int.natCast_one, Int.reduceAdd, Int.reduceSub, reduceIte, ↓reduceIte, Value.oneCell', rowI_length, rowI_take, rowI_splice, rep_all, row_zero, le_nat, Int.toNat_natCast, Nat.zero_add, sok_row, reduceCtorEq]
      refine (number_m hraw hs hq 41 (by omega) (by omega)).vcRead (fun _ => 1) (fits1 (rw := false) (by simp only [upd_apply, sn_upto, sn_from, slN_def, run_cap, rules, rules2, loopRules, Try.facts, base0, Int.toNat_zero, Nat.reduceAdd, Nat.reduceMul, Nat.reduceSub, Nat.reduceLT, Nat.reduceLeDiff, Nat.reduceEqDiff, Int.reduceLE, Int.reduceLT, Int.reduceToNat, Int.reduceNe, Int.reduceEq, not_false_eq_true, Nat.reduceBEq, Nat.reduceDiv, Int.natCast_zero, Int.natCast_one, Int.reduceAdd, Int.reduceSub, reduceIte, ↓reduceIte, Value.oneCell', rowI_length, rowI_take, rowI_splice, rep_all, row_zero, le_nat, Int.toNat_natCast, Nat.zero_add, sok_row, reduceCtorEq]) hq) rfl rfl ?_
      have w1 : IntKind.i64.wrap ((L : Int) - 77) = ((L - 77 : Nat) : Int) := by rw [wrap_i64 _ (by omega) (by omega)]; omega
      have w2 : IntKind.u64.wrap ((L - 77 : Nat) : Int) = ((L - 77 : Nat) : Int) := by rw [wrap_u64]; omega
      simp only [w1, w2, rulesX, rulesL, sn_upto, sn_from, slN_def, run_cap, rules, rules2, loopRules, Try.facts, base0, Int.toNat_zero, Nat.reduceAdd, Nat.reduceMul, Nat.reduceSub, Nat.reduceLT, Nat.reduceLeDiff, Nat.reduceEqDiff, Int.reduceLE, Int.reduceLT, Int.reduceToNat, Int.reduceNe, Int.reduceEq, not_false_eq_true, Nat.reduceBEq, Nat.reduceDiv, Int.natCast_zero, Int.natCast_one, Int.reduceAdd, Int.reduceSub, reduceIte, ↓reduceIte, Value.oneCell', rowI_length, rowI_take, rowI_splice, rep_all, row_zero, le_nat, Int.toNat_natCast, Nat.zero_add, sok_row, reduceCtorEq]
      exact fin (be4 raw 41 == ((L - 77 : Nat) : Int)) (by simp only [isFr, beq_iff_eq]; exact ⟨fun h => ⟨by omega, by omega, k3, h⟩, fun h => h.2.2.2⟩) _ rfl rfl rfl rfl rfl rfl rfl
    · obtain ⟨b, hiff, vb, lb, c1, c2, tail1, tail2, rfl, h1, h2, h3, g1, g2, g3, hkb⟩ := h2
      have pl2 := plainL (n := L) (f := raw) g3
      have sl2 : Shows (rowI .u8 L raw ++ (rowI .u8 64 (fun _ => 0) ++ tail2)) 0 L raw := shows_row
      simp only [mkS_eq, mid1E, mid1B, List.cons_append, List.nil_append, List.append_nil, at_len rat, tailC_succ, rulesX, rulesL, sn_upto, sn_from, slN_def, run_cap, rules, rules2, loopRules, Try.facts, base0, Int.toNat_zero, Nat.reduceAdd, Nat.reduceMul, Nat.reduceSub, Nat.reduceLT, Nat.reduceLeDiff, Nat.reduceEqDiff, Int.reduceLE, Int.reduceLT, Int.reduceToNat, Int.reduceNe, Int.reduceEq, not_false_eq_true, Nat.reduceBEq, Nat.reduceDiv, Int.natCast_zero, Int.natCast_one, Int.reduceAdd, Int.reduceSub, reduceIte, ↓reduceIte, Value.oneCell', rowI_length, rowI_take, rowI_splice, rep_all, row_zero, le_nat, Int.toNat_natCast, Nat.zero_add, sok_row, reduceCtorEq]
      refine list_call (n := L) (t := 10) (rw := true) (cs := rowI .u8 L raw ++ (rowI .u8 64 (fun _ => 0) ++ tail2)) g1 (by simp only [upd_apply, sn_upto, sn_from, slN_def, run_cap, rules, rules2, loopRules, Try.facts, base0, Int.toNat_zero, Nat.reduceAdd, Nat.reduceMul, Nat.reduceSub, Nat.reduceLT, Nat.reduceLeDiff, Nat.reduceEqDiff, Int.reduceLE, Int.reduceLT, Int.reduceToNat, Int.reduceNe, Int.reduceEq, not_false_eq_true, Nat.reduceBEq, Nat.reduceDiv, Int.natCast_zero, Int.natCast_one, Int.reduceAdd, Int.reduceSub, reduceIte, ↓reduceIte, Value.oneCell', rowI_length, rowI_take, rowI_splice, rep_all, row_zero, le_nat, Int.toNat_natCast, Nat.zero_add, sok_row, reduceCtorEq]) pl2 ?_
      simp only [rulesX, rulesL, sn_upto, sn_from, slN_def, run_cap, rules, rules2, loopRules, Try.facts, base0, Int.toNat_zero, Nat.reduceAdd, Nat.reduceMul, Nat.reduceSub, Nat.reduceLT, Nat.reduceLeDiff, Nat.reduceEqDiff, Int.reduceLE, Int.reduceLT, Int.reduceToNat, Int.reduceNe, Int.reduceEq, not_false_eq_true, Nat.reduceBEq, Nat.reduceDiv, Int.natCast_zero, Int.natCast_one, Int.reduceAdd, Int.reduceSub, reduceIte, ↓reduceIte, Value.oneCell', rowI_length, rowI_take, rowI_splice, rep_all, row_zero, le_nat, Int.toNat_natCast, Nat.zero_add, sok_row, reduceCtorEq]
      refine decode_call (t := 10) (o := 0) (rw := true) hraw sl2 (by simp only [upd_apply, sn_upto, sn_from, slN_def, run_cap, rules, rules2, loopRules, Try.facts, base0, Int.toNat_zero, Nat.reduceAdd, Nat.reduceMul, Nat.reduceSub, Nat.reduceLT, Nat.reduceLeDiff, Nat.reduceEqDiff, Int.reduceLE, Int.reduceLT, Int.reduceToNat, Int.reduceNe, Int.reduceEq, not_false_eq_true, Nat.reduceBEq, Nat.reduceDiv, Int.natCast_zero, Int.natCast_one, Int.reduceAdd, Int.reduceSub, reduceIte, ↓reduceIte, Value.oneCell', rowI_length, rowI_take, rowI_splice, rep_all, row_zero, le_nat, Int.toNat_natCast, Nat.zero_add, sok_row, reduceCtorEq]) pl2 (by omega) (by omega) (fun hfr => ?_) (fun hfr h0 => ?_) (fun hfr h0 q csq hgq => ?_)
      · have hb : b = false := by cases b with
          | false => rfl
          | true => exact absurd (hiff.1 rfl) hfr
        subst hb
        simp only [shutV, zFrame, zFrame2, frL_len, frL_w, frL_all, rulesX, rulesL, sn_upto, sn_from, slN_def, run_cap, rules, rules2, loopRules, Try.facts, base0, Int.toNat_zero, Nat.reduceAdd, Nat.reduceMul, Nat.reduceSub, Nat.reduceLT, Nat.reduceLeDiff, Nat.reduceEqDiff, Int.reduceLE, Int.reduceLT, Int.reduceToNat, Int.reduceNe, Int.reduceEq, not_false_eq_true, Nat.reduceBEq, Nat.reduceDiv, Int.natCast_zero, Int.natCast_one, Int.reduceAdd, Int.reduceSub, reduceIte, ↓reduceIte, Value.oneCell', rowI_length, rowI_take, rowI_splice, rep_all, row_zero, le_nat, Int.toNat_natCast, Nat.zero_add, sok_row, reduceCtorEq]
        refine ⟨by kernel_rfl, ?_⟩
        simp only [beq_self_eq_true, Bool.not_true, Bool.not_false, frL_len, frL_all, frL_w, zFrame2, rulesX, rulesL, sn_upto, sn_from, slN_def, run_cap, rules, rules2, loopRules, Try.facts, base0, Int.toNat_zero, Nat.reduceAdd, Nat.reduceMul, Nat.reduceSub, Nat.reduceLT, Nat.reduceLeDiff, Nat.reduceEqDiff, Int.reduceLE, Int.reduceLT, Int.reduceToNat, Int.reduceNe, Int.reduceEq, not_false_eq_true, Nat.reduceBEq, Nat.reduceDiv, Int.natCast_zero, Int.natCast_one, Int.reduceAdd, Int.reduceSub, reduceIte, ↓reduceIte, Value.oneCell', rowI_length, rowI_take, rowI_splice, rep_all, row_zero, le_nat, Int.toNat_natCast, Nat.zero_add, sok_row, reduceCtorEq]
        refine sameFrame_call (t := 1) (u := 1) (m := 0) (body := fun _ => 0) (ra := false) (rb := false) (cs := ds) (ds := ds) rfl hq rfl hq (.inl ⟨⟨none, rfl⟩, rfl⟩) (.inl ⟨⟨none, rfl⟩, rfl⟩) (by omega) ?_
        simp only [beq_self_eq_true, Bool.not_true, Bool.not_false, frL_34, rulesX, rulesL, sn_upto, sn_from, slN_def, run_cap, rules, rules2, loopRules, Try.facts, base0, Int.toNat_zero, Nat.reduceAdd, Nat.reduceMul, Nat.reduceSub, Nat.reduceLT, Nat.reduceLeDiff, Nat.reduceEqDiff, Int.reduceLE, Int.reduceLT, Int.reduceToNat, Int.reduceNe, Int.reduceEq, not_false_eq_true, Nat.reduceBEq, Nat.reduceDiv, Int.natCast_zero, Int.natCast_one, Int.reduceAdd, Int.reduceSub, reduceIte, ↓reduceIte, Value.oneCell', rowI_length, rowI_take, rowI_splice, rep_all, row_zero, le_nat, Int.toNat_natCast, Nat.zero_add, sok_row, reduceCtorEq]
        refine scribble_call (t := 100) (by
          rcases hkb with ⟨rfl, rfl⟩ | ⟨k, c', cs', f, rfl, rfl, hg, hk⟩
          · exact .inl rfl
          · exact .inr ⟨k, c', cs', f, rfl, rfl, hg, hk⟩) (fun box' hb' => ?_)
        have e0 : box' 0 = some ⟨false, cs⟩ := (hb' 0 (by decide)).trans rfl
        have e1 : box' 1 = some ⟨false, ds⟩ := (hb' 1 (by decide)).trans rfl
        have e2 : box' 2 = some ⟨false, frL pub pn n sv tag⟩ := (hb' 2 (by decide)).trans rfl
        have e6 : box' 6 = some ⟨true, rowI .u8 m body ++ (rowI .u8 64 (fun _ => 0) ++ tail1)⟩ := (hb' 6 (by decide)).trans rfl
        have e7 : box' 7 = some ⟨true, [rd 6 0 (m + 64) c1, Sum.inl (.int .i64 m)]⟩ := (hb' 7 (by decide)).trans rfl
        have e10 : box' 10 = some ⟨true, rowI .u8 L raw ++ (rowI .u8 64 (fun _ => 0) ++ tail2)⟩ := (hb' 10 (by decide)).trans rfl
        have e11 : box' 11 = some ⟨true, [rd 10 0 (L + 64) c2, Sum.inl (.int .i64 L)]⟩ := (hb' 11 (by decide)).trans rfl
        have e126 : box' 126 = some ⟨true, frL (fun _ => 0) 0 0 (Sum.inl (.slice none 0 0)) (fun _ => 0)⟩ := (hb' 126 (by decide)).trans rfl
        simp only [e0, e1, e2, e6, e7, e10, e11, e126, frL_34, rulesX, rulesL, sn_upto, sn_from, slN_def, run_cap, rules, rules2, loopRules, Try.facts, base0, Int.toNat_zero, Nat.reduceAdd, Nat.reduceMul, Nat.reduceSub, Nat.reduceLT, Nat.reduceLeDiff, Nat.reduceEqDiff, Int.reduceLE, Int.reduceLT, Int.reduceToNat, Int.reduceNe, Int.reduceEq, not_false_eq_true, Nat.reduceBEq, Nat.reduceDiv, Int.natCast_zero, Int.natCast_one, Int.reduceAdd, Int.reduceSub, reduceIte, ↓reduceIte, Value.oneCell', rowI_length, rowI_take, rowI_splice, rep_all, row_zero, le_nat, Int.toNat_natCast, Nat.zero_add, sok_row, reduceCtorEq]
        refine scribble_call (t := 101) (.inl rfl) (fun bx' hc' => ?_)
        have f0 : bx' 0 = some ⟨false, cs⟩ := (hc' 0 (by decide)).trans e0
        have f1 : bx' 1 = some ⟨false, ds⟩ := (hc' 1 (by decide)).trans e1
        have f2 : bx' 2 = some ⟨false, frL pub pn n sv tag⟩ := (hc' 2 (by decide)).trans e2
        have f6 : bx' 6 = some ⟨true, rowI .u8 m body ++ (rowI .u8 64 (fun _ => 0) ++ tail1)⟩ := (hc' 6 (by decide)).trans e6
        have f7 : bx' 7 = some ⟨true, [rd 6 0 (m + 64) c1, Sum.inl (.int .i64 m)]⟩ := (hc' 7 (by decide)).trans e7
        have f10 : bx' 10 = some ⟨true, rowI .u8 L raw ++ (rowI .u8 64 (fun _ => 0) ++ tail2)⟩ := (hc' 10 (by decide)).trans e10
        have f11 : bx' 11 = some ⟨true, [rd 10 0 (L + 64) c2, Sum.inl (.int .i64 L)]⟩ := (hc' 11 (by decide)).trans e11
        simp only [f0, f1, f2, f6, f7, f10, f11, frL_34, rulesX, rulesL, sn_upto, sn_from, slN_def, run_cap, rules, rules2, loopRules, Try.facts, base0, Int.toNat_zero, Nat.reduceAdd, Nat.reduceMul, Nat.reduceSub, Nat.reduceLT, Nat.reduceLeDiff, Nat.reduceEqDiff, Int.reduceLE, Int.reduceLT, Int.reduceToNat, Int.reduceNe, Int.reduceEq, not_false_eq_true, Nat.reduceBEq, Nat.reduceDiv, Int.natCast_zero, Int.natCast_one, Int.reduceAdd, Int.reduceSub, reduceIte, ↓reduceIte, Value.oneCell', rowI_length, rowI_take, rowI_splice, rep_all, row_zero, le_nat, Int.toNat_natCast, Nat.zero_add, sok_row, reduceCtorEq]
        refine back_at (u := 6) (t := 0) (tail := tail1) f6 h3 h1 f0 hp hv (by omega) ?_
        simp only [f0, f1, f2, f6, f7, f10, f11, rulesX, rulesL, sn_upto, sn_from, slN_def, run_cap, rules, rules2, loopRules, Try.facts, base0, Int.toNat_zero, Nat.reduceAdd, Nat.reduceMul, Nat.reduceSub, Nat.reduceLT, Nat.reduceLeDiff, Nat.reduceEqDiff, Int.reduceLE, Int.reduceLT, Int.reduceToNat, Int.reduceNe, Int.reduceEq, not_false_eq_true, Nat.reduceBEq, Nat.reduceDiv, Int.natCast_zero, Int.natCast_one, Int.reduceAdd, Int.reduceSub, reduceIte, ↓reduceIte, Value.oneCell', rowI_length, rowI_take, rowI_splice, rep_all, row_zero, le_nat, Int.toNat_natCast, Nat.zero_add, sok_row, reduceCtorEq]
        refine back_at (u := 10) (t := 1) (tail := tail2) f10 g3 g1 f1 hq hr (by omega) ?_
        simp only [rulesX, rulesL, sn_upto, sn_from, slN_def, run_cap, rules, rules2, loopRules, Try.facts, base0, Int.toNat_zero, Nat.reduceAdd, Nat.reduceMul, Nat.reduceSub, Nat.reduceLT, Nat.reduceLeDiff, Nat.reduceEqDiff, Int.reduceLE, Int.reduceLT, Int.reduceToNat, Int.reduceNe, Int.reduceEq, not_false_eq_true, Nat.reduceBEq, Nat.reduceDiv, Int.natCast_zero, Int.natCast_one, Int.reduceAdd, Int.reduceSub, reduceIte, ↓reduceIte, Value.oneCell', rowI_length, rowI_take, rowI_splice, rep_all, row_zero, le_nat, Int.toNat_natCast, Nat.zero_add, sok_row, reduceCtorEq]
        exact ret_plain rfl ⟨rfl, rfl⟩
      · obtain rfl := hiff.2 hfr
        have hr' := hr
        rcases hr' with ⟨-, k0⟩ | ⟨o, c, rfl, hs⟩
        · exact absurd hfr (by simp [isFr]; omega)
        have hc := hcap o c rfl
        have h77 := hfr.1
        have h65 := hfr.2.1
        simp only [zFrame, zFrame2, frL_len, frL_w, frL_all, beq_self_eq_true, Bool.not_true, rulesX, rulesL, sn_upto, sn_from, slN_def, run_cap, rules, rules2, loopRules, Try.facts, base0, Int.toNat_zero, Nat.reduceAdd, Nat.reduceMul, Nat.reduceSub, Nat.reduceLT, Nat.reduceLeDiff, Nat.reduceEqDiff, Int.reduceLE, Int.reduceLT, Int.reduceToNat, Int.reduceNe, Int.reduceEq, not_false_eq_true, Nat.reduceBEq, Nat.reduceDiv, Int.natCast_zero, Int.natCast_one, Int.reduceAdd, Int.reduceSub, reduceIte, ↓reduceIte, Value.oneCell', rowI_length, rowI_take, rowI_splice, rep_all, row_zero, le_nat, Int.toNat_natCast, Nat.zero_add, sok_row, reduceCtorEq]
        refine ⟨by kernel_rfl, ?_⟩
        refine laid_call (t := 1) (m := L - 77) (body := fun i => raw (45 + i)) (ra := false) (by omega) hraw hs rfl hq hc (by omega) (u := 1) (rb := false) (.inl ⟨⟨none, rfl⟩, h0⟩) rfl hq hfr.2.2.1 (fun i hi => rfl) (fun i hi => rfl) rfl rfl hfr.2.2.2 (fun i hi => rfl) ?_
        simp only [beq_self_eq_true, Bool.not_true, Bool.not_false, frL_len, frL_all, rulesX, rulesL, sn_upto, sn_from, slN_def, run_cap, rules, rules2, loopRules, Try.facts, base0, Int.toNat_zero, Nat.reduceAdd, Nat.reduceMul, Nat.reduceSub, Nat.reduceLT, Nat.reduceLeDiff, Nat.reduceEqDiff, Int.reduceLE, Int.reduceLT, Int.reduceToNat, Int.reduceNe, Int.reduceEq, not_false_eq_true, Nat.reduceBEq, Nat.reduceDiv, Int.natCast_zero, Int.natCast_one, Int.reduceAdd, Int.reduceSub, reduceIte, ↓reduceIte, Value.oneCell', rowI_length, rowI_take, rowI_splice, rep_all, row_zero, le_nat, Int.toNat_natCast, Nat.zero_add, sok_row, reduceCtorEq]
        refine encode_call (m := L - 77) (body := fun i => raw (45 + i)) (t := 1) (rw := false) rfl hq (.inl ⟨⟨none, rfl⟩, h0⟩) (fun h => absurd h (by omega)) (fun _ ce cse hge => ?_)
        have hLe : 45 + (L - 77) + 32 = L := by omega
        rw [hLe] at hge ⊢
        simp only [rulesX, rulesL, sn_upto, sn_from, slN_def, run_cap, rules, rules2, loopRules, Try.facts, base0, Int.toNat_zero, Nat.reduceAdd, Nat.reduceMul, Nat.reduceSub, Nat.reduceLT, Nat.reduceLeDiff, Nat.reduceEqDiff, Int.reduceLE, Int.reduceLT, Int.reduceToNat, Int.reduceNe, Int.reduceEq, not_false_eq_true, Nat.reduceBEq, Nat.reduceDiv, Int.natCast_zero, Int.natCast_one, Int.reduceAdd, Int.reduceSub, reduceIte, ↓reduceIte, Value.oneCell', rowI_length, rowI_take, rowI_splice, rep_all, row_zero, le_nat, Int.toNat_natCast, Nat.zero_add, sok_row, reduceCtorEq]
        refine same_call (n := L) (f := raw) (by omega) (.inr ⟨_, 0, ce, true, cse, rfl, rfl, hge.plain, shows_congr hge.shows fun i hi => frB_raw hraw hfr i hi⟩) (.inr ⟨1, o, c, false, ds, rfl, rfl, hq, hs⟩) ?_
        simp only [beq_self_eq_true, Bool.not_true, Bool.not_false, frL_34, rulesX, rulesL, sn_upto, sn_from, slN_def, run_cap, rules, rules2, loopRules, Try.facts, base0, Int.toNat_zero, Nat.reduceAdd, Nat.reduceMul, Nat.reduceSub, Nat.reduceLT, Nat.reduceLeDiff, Nat.reduceEqDiff, Int.reduceLE, Int.reduceLT, Int.reduceToNat, Int.reduceNe, Int.reduceEq, not_false_eq_true, Nat.reduceBEq, Nat.reduceDiv, Int.natCast_zero, Int.natCast_one, Int.reduceAdd, Int.reduceSub, reduceIte, ↓reduceIte, Value.oneCell', rowI_length, rowI_take, rowI_splice, rep_all, row_zero, le_nat, Int.toNat_natCast, Nat.zero_add, sok_row, reduceCtorEq]
        refine scribble_call (t := 100) (by
          rcases hkb with ⟨rfl, rfl⟩ | ⟨k, c', cs', f, rfl, rfl, hg, hk⟩
          · exact .inl rfl
          · exact .inr ⟨k, c', cs', f, rfl, rfl, hg, hk⟩) (fun box' hb' => ?_)
        have e0 : box' 0 = some ⟨false, cs⟩ := (hb' 0 (by decide)).trans rfl
        have e1 : box' 1 = some ⟨false, ds⟩ := (hb' 1 (by decide)).trans rfl
        have e2 : box' 2 = some ⟨false, frL pub pn n sv tag⟩ := (hb' 2 (by decide)).trans rfl
        have e6 : box' 6 = some ⟨true, rowI .u8 m body ++ (rowI .u8 64 (fun _ => 0) ++ tail1)⟩ := (hb' 6 (by decide)).trans rfl
        have e7 : box' 7 = some ⟨true, [rd 6 0 (m + 64) c1, Sum.inl (.int .i64 m)]⟩ := (hb' 7 (by decide)).trans rfl
        have e10 : box' 10 = some ⟨true, rowI .u8 L raw ++ (rowI .u8 64 (fun _ => 0) ++ tail2)⟩ := (hb' 10 (by decide)).trans rfl
        have e11 : box' 11 = some ⟨true, [rd 10 0 (L + 64) c2, Sum.inl (.int .i64 L)]⟩ := (hb' 11 (by decide)).trans rfl
        have e126 : box' 126 = some ⟨true, frL (fun i => raw (1 + i)) (be4 raw 33) (be4 raw 37) (Sum.inl (.slice none 0 0)) (fun i => raw (45 + (L - 77) + i))⟩ := (hb' 126 (by decide)).trans rfl
        simp only [e0, e1, e2, e6, e7, e10, e11, e126, frL_34, rulesX, rulesL, sn_upto, sn_from, slN_def, run_cap, rules, rules2, loopRules, Try.facts, base0, Int.toNat_zero, Nat.reduceAdd, Nat.reduceMul, Nat.reduceSub, Nat.reduceLT, Nat.reduceLeDiff, Nat.reduceEqDiff, Int.reduceLE, Int.reduceLT, Int.reduceToNat, Int.reduceNe, Int.reduceEq, not_false_eq_true, Nat.reduceBEq, Nat.reduceDiv, Int.natCast_zero, Int.natCast_one, Int.reduceAdd, Int.reduceSub, reduceIte, ↓reduceIte, Value.oneCell', rowI_length, rowI_take, rowI_splice, rep_all, row_zero, le_nat, Int.toNat_natCast, Nat.zero_add, sok_row, reduceCtorEq]
        refine scribble_call (t := 101) (.inl rfl) (fun bx' hc' => ?_)
        have f0 : bx' 0 = some ⟨false, cs⟩ := (hc' 0 (by decide)).trans e0
        have f1 : bx' 1 = some ⟨false, ds⟩ := (hc' 1 (by decide)).trans e1
        have f2 : bx' 2 = some ⟨false, frL pub pn n sv tag⟩ := (hc' 2 (by decide)).trans e2
        have f6 : bx' 6 = some ⟨true, rowI .u8 m body ++ (rowI .u8 64 (fun _ => 0) ++ tail1)⟩ := (hc' 6 (by decide)).trans e6
        have f7 : bx' 7 = some ⟨true, [rd 6 0 (m + 64) c1, Sum.inl (.int .i64 m)]⟩ := (hc' 7 (by decide)).trans e7
        have f10 : bx' 10 = some ⟨true, rowI .u8 L raw ++ (rowI .u8 64 (fun _ => 0) ++ tail2)⟩ := (hc' 10 (by decide)).trans e10
        have f11 : bx' 11 = some ⟨true, [rd 10 0 (L + 64) c2, Sum.inl (.int .i64 L)]⟩ := (hc' 11 (by decide)).trans e11
        simp only [f0, f1, f2, f6, f7, f10, f11, frL_34, rulesX, rulesL, sn_upto, sn_from, slN_def, run_cap, rules, rules2, loopRules, Try.facts, base0, Int.toNat_zero, Nat.reduceAdd, Nat.reduceMul, Nat.reduceSub, Nat.reduceLT, Nat.reduceLeDiff, Nat.reduceEqDiff, Int.reduceLE, Int.reduceLT, Int.reduceToNat, Int.reduceNe, Int.reduceEq, not_false_eq_true, Nat.reduceBEq, Nat.reduceDiv, Int.natCast_zero, Int.natCast_one, Int.reduceAdd, Int.reduceSub, reduceIte, ↓reduceIte, Value.oneCell', rowI_length, rowI_take, rowI_splice, rep_all, row_zero, le_nat, Int.toNat_natCast, Nat.zero_add, sok_row, reduceCtorEq]
        refine back_at (u := 6) (t := 0) (tail := tail1) f6 h3 h1 f0 hp hv (by omega) ?_
        simp only [f0, f1, f2, f6, f7, f10, f11, rulesX, rulesL, sn_upto, sn_from, slN_def, run_cap, rules, rules2, loopRules, Try.facts, base0, Int.toNat_zero, Nat.reduceAdd, Nat.reduceMul, Nat.reduceSub, Nat.reduceLT, Nat.reduceLeDiff, Nat.reduceEqDiff, Int.reduceLE, Int.reduceLT, Int.reduceToNat, Int.reduceNe, Int.reduceEq, not_false_eq_true, Nat.reduceBEq, Nat.reduceDiv, Int.natCast_zero, Int.natCast_one, Int.reduceAdd, Int.reduceSub, reduceIte, ↓reduceIte, Value.oneCell', rowI_length, rowI_take, rowI_splice, rep_all, row_zero, le_nat, Int.toNat_natCast, Nat.zero_add, sok_row, reduceCtorEq]
        refine back_at (u := 10) (t := 1) (tail := tail2) f10 g3 g1 f1 hq hr (by omega) ?_
        simp only [rulesX, rulesL, sn_upto, sn_from, slN_def, run_cap, rules, rules2, loopRules, Try.facts, base0, Int.toNat_zero, Nat.reduceAdd, Nat.reduceMul, Nat.reduceSub, Nat.reduceLT, Nat.reduceLeDiff, Nat.reduceEqDiff, Int.reduceLE, Int.reduceLT, Int.reduceToNat, Int.reduceNe, Int.reduceEq, not_false_eq_true, Nat.reduceBEq, Nat.reduceDiv, Int.natCast_zero, Int.natCast_one, Int.reduceAdd, Int.reduceSub, reduceIte, ↓reduceIte, Value.oneCell', rowI_length, rowI_take, rowI_splice, rep_all, row_zero, le_nat, Int.toNat_natCast, Nat.zero_add, sok_row, reduceCtorEq]
        exact ret_plain rfl ⟨rfl, rfl⟩
      · obtain rfl := hiff.2 hfr
        have hr' := hr
        rcases hr' with ⟨-, k0⟩ | ⟨o, c, rfl, hs⟩
        · exact absurd hfr (by simp [isFr]; omega)
        have hc := hcap o c rfl
        have h77 := hfr.1
        have h65 := hfr.2.1
        simp only [zFrame, zFrame2, frL_len, frL_w, frL_all, beq_self_eq_true, Bool.not_true, rulesX, rulesL, sn_upto, sn_from, slN_def, run_cap, rules, rules2, loopRules, Try.facts, base0, Int.toNat_zero, Nat.reduceAdd, Nat.reduceMul, Nat.reduceSub, Nat.reduceLT, Nat.reduceLeDiff, Nat.reduceEqDiff, Int.reduceLE, Int.reduceLT, Int.reduceToNat, Int.reduceNe, Int.reduceEq, not_false_eq_true, Nat.reduceBEq, Nat.reduceDiv, Int.natCast_zero, Int.natCast_one, Int.reduceAdd, Int.reduceSub, reduceIte, ↓reduceIte, Value.oneCell', rowI_length, rowI_take, rowI_splice, rep_all, row_zero, le_nat, Int.toNat_natCast, Nat.zero_add, sok_row, reduceCtorEq]
        refine ⟨by kernel_rfl, ?_⟩
        refine laid_call (t := 1) (m := L - 77) (body := fun i => raw (45 + i)) (ra := false) (by omega) hraw hs rfl hq hc (by omega) (rb := true) (.inr ⟨0, q, rfl, hgq.shows⟩) rfl hgq.plain hfr.2.2.1 (fun i hi => rfl) (fun i hi => rfl) rfl rfl hfr.2.2.2 (fun i hi => rfl) ?_
        simp only [beq_self_eq_true, Bool.not_true, Bool.not_false, frL_len, frL_all, rulesX, rulesL, sn_upto, sn_from, slN_def, run_cap, rules, rules2, loopRules, Try.facts, base0, Int.toNat_zero, Nat.reduceAdd, Nat.reduceMul, Nat.reduceSub, Nat.reduceLT, Nat.reduceLeDiff, Nat.reduceEqDiff, Int.reduceLE, Int.reduceLT, Int.reduceToNat, Int.reduceNe, Int.reduceEq, not_false_eq_true, Nat.reduceBEq, Nat.reduceDiv, Int.natCast_zero, Int.natCast_one, Int.reduceAdd, Int.reduceSub, reduceIte, ↓reduceIte, Value.oneCell', rowI_length, rowI_take, rowI_splice, rep_all, row_zero, le_nat, Int.toNat_natCast, Nat.zero_add, sok_row, reduceCtorEq]
        refine encode_call (m := L - 77) (body := fun i => raw (45 + i)) (rw := true) rfl hgq.plain (.inr ⟨0, q, rfl, hgq.shows⟩) (fun h => absurd h (by omega)) (fun _ ce cse hge => ?_)
        have hLe : 45 + (L - 77) + 32 = L := by omega
        rw [hLe] at hge ⊢
        simp only [rulesX, rulesL, sn_upto, sn_from, slN_def, run_cap, rules, rules2, loopRules, Try.facts, base0, Int.toNat_zero, Nat.reduceAdd, Nat.reduceMul, Nat.reduceSub, Nat.reduceLT, Nat.reduceLeDiff, Nat.reduceEqDiff, Int.reduceLE, Int.reduceLT, Int.reduceToNat, Int.reduceNe, Int.reduceEq, not_false_eq_true, Nat.reduceBEq, Nat.reduceDiv, Int.natCast_zero, Int.natCast_one, Int.reduceAdd, Int.reduceSub, reduceIte, ↓reduceIte, Value.oneCell', rowI_length, rowI_take, rowI_splice, rep_all, row_zero, le_nat, Int.toNat_natCast, Nat.zero_add, sok_row, reduceCtorEq]
        refine same_call (n := L) (f := raw) (by omega) (.inr ⟨_, 0, ce, true, cse, rfl, rfl, hge.plain, shows_congr hge.shows fun i hi => frB_raw hraw hfr i hi⟩) (.inr ⟨1, o, c, false, ds, rfl, rfl, hq, hs⟩) ?_
        simp only [beq_self_eq_true, Bool.not_true, Bool.not_false, frL_34, rulesX, rulesL, sn_upto, sn_from, slN_def, run_cap, rules, rules2, loopRules, Try.facts, base0, Int.toNat_zero, Nat.reduceAdd, Nat.reduceMul, Nat.reduceSub, Nat.reduceLT, Nat.reduceLeDiff, Nat.reduceEqDiff, Int.reduceLE, Int.reduceLT, Int.reduceToNat, Int.reduceNe, Int.reduceEq, not_false_eq_true, Nat.reduceBEq, Nat.reduceDiv, Int.natCast_zero, Int.natCast_one, Int.reduceAdd, Int.reduceSub, reduceIte, ↓reduceIte, Value.oneCell', rowI_length, rowI_take, rowI_splice, rep_all, row_zero, le_nat, Int.toNat_natCast, Nat.zero_add, sok_row, reduceCtorEq]
        refine scribble_call (t := 100) (by
          rcases hkb with ⟨rfl, rfl⟩ | ⟨k, c', cs', f, rfl, rfl, hg, hk⟩
          · exact .inl rfl
          · exact .inr ⟨k, c', cs', f, rfl, rfl, hg, hk⟩) (fun box' hb' => ?_)
        have e0 : box' 0 = some ⟨false, cs⟩ := (hb' 0 (by decide)).trans rfl
        have e1 : box' 1 = some ⟨false, ds⟩ := (hb' 1 (by decide)).trans rfl
        have e2 : box' 2 = some ⟨false, frL pub pn n sv tag⟩ := (hb' 2 (by decide)).trans rfl
        have e6 : box' 6 = some ⟨true, rowI .u8 m body ++ (rowI .u8 64 (fun _ => 0) ++ tail1)⟩ := (hb' 6 (by decide)).trans rfl
        have e7 : box' 7 = some ⟨true, [rd 6 0 (m + 64) c1, Sum.inl (.int .i64 m)]⟩ := (hb' 7 (by decide)).trans rfl
        have e10 : box' 10 = some ⟨true, rowI .u8 L raw ++ (rowI .u8 64 (fun _ => 0) ++ tail2)⟩ := (hb' 10 (by decide)).trans rfl
        have e11 : box' 11 = some ⟨true, [rd 10 0 (L + 64) c2, Sum.inl (.int .i64 L)]⟩ := (hb' 11 (by decide)).trans rfl
        have e126 : box' 126 = some ⟨true, frL (fun i => raw (1 + i)) (be4 raw 33) (be4 raw 37) (rd 122 0 (L - 77) q) (fun i => raw (45 + (L - 77) + i))⟩ := (hb' 126 (by decide)).trans rfl
        have e122 : box' 122 = some ⟨true, csq⟩ := (hb' 122 (by decide)).trans rfl
        simp only [e0, e1, e2, e6, e7, e10, e11, e126, frL_34, rulesX, rulesL, sn_upto, sn_from, slN_def, run_cap, rules, rules2, loopRules, Try.facts, base0, Int.toNat_zero, Nat.reduceAdd, Nat.reduceMul, Nat.reduceSub, Nat.reduceLT, Nat.reduceLeDiff, Nat.reduceEqDiff, Int.reduceLE, Int.reduceLT, Int.reduceToNat, Int.reduceNe, Int.reduceEq, not_false_eq_true, Nat.reduceBEq, Nat.reduceDiv, Int.natCast_zero, Int.natCast_one, Int.reduceAdd, Int.reduceSub, reduceIte, ↓reduceIte, Value.oneCell', rowI_length, rowI_take, rowI_splice, rep_all, row_zero, le_nat, Int.toNat_natCast, Nat.zero_add, sok_row, reduceCtorEq]
        refine scribble_call (t := 122) (.inr ⟨_, _, _, _, rfl, e122, hgq, by omega⟩) (fun bx' hc' => ?_)
        have f0 : bx' 0 = some ⟨false, cs⟩ := (hc' 0 (by decide)).trans e0
        have f1 : bx' 1 = some ⟨false, ds⟩ := (hc' 1 (by decide)).trans e1
        have f2 : bx' 2 = some ⟨false, frL pub pn n sv tag⟩ := (hc' 2 (by decide)).trans e2
        have f6 : bx' 6 = some ⟨true, rowI .u8 m body ++ (rowI .u8 64 (fun _ => 0) ++ tail1)⟩ := (hc' 6 (by decide)).trans e6
        have f7 : bx' 7 = some ⟨true, [rd 6 0 (m + 64) c1, Sum.inl (.int .i64 m)]⟩ := (hc' 7 (by decide)).trans e7
        have f10 : bx' 10 = some ⟨true, rowI .u8 L raw ++ (rowI .u8 64 (fun _ => 0) ++ tail2)⟩ := (hc' 10 (by decide)).trans e10
        have f11 : bx' 11 = some ⟨true, [rd 10 0 (L + 64) c2, Sum.inl (.int .i64 L)]⟩ := (hc' 11 (by decide)).trans e11
        simp only [f0, f1, f2, f6, f7, f10, f11, frL_34, rulesX, rulesL, sn_upto, sn_from, slN_def, run_cap, rules, rules2, loopRules, Try.facts, base0, Int.toNat_zero, Nat.reduceAdd, Nat.reduceMul, Nat.reduceSub, Nat.reduceLT, Nat.reduceLeDiff, Nat.reduceEqDiff, Int.reduceLE, Int.reduceLT, Int.reduceToNat, Int.reduceNe, Int.reduceEq, not_false_eq_true, Nat.reduceBEq, Nat.reduceDiv, Int.natCast_zero, Int.natCast_one, Int.reduceAdd, Int.reduceSub, reduceIte, ↓reduceIte, Value.oneCell', rowI_length, rowI_take, rowI_splice, rep_all, row_zero, le_nat, Int.toNat_natCast, Nat.zero_add, sok_row, reduceCtorEq]
        refine back_at (u := 6) (t := 0) (tail := tail1) f6 h3 h1 f0 hp hv (by omega) ?_
        simp only [f0, f1, f2, f6, f7, f10, f11, rulesX, rulesL, sn_upto, sn_from, slN_def, run_cap, rules, rules2, loopRules, Try.facts, base0, Int.toNat_zero, Nat.reduceAdd, Nat.reduceMul, Nat.reduceSub, Nat.reduceLT, Nat.reduceLeDiff, Nat.reduceEqDiff, Int.reduceLE, Int.reduceLT, Int.reduceToNat, Int.reduceNe, Int.reduceEq, not_false_eq_true, Nat.reduceBEq, Nat.reduceDiv, Int.natCast_zero, Int.natCast_one, Int.reduceAdd, Int.reduceSub, reduceIte, ↓reduceIte, Value.oneCell', rowI_length, rowI_take, rowI_splice, rep_all, row_zero, le_nat, Int.toNat_natCast, Nat.zero_add, sok_row, reduceCtorEq]
        refine back_at (u := 10) (t := 1) (tail := tail2) f10 g3 g1 f1 hq hr (by omega) ?_
        simp only [rulesX, rulesL, sn_upto, sn_from, slN_def, run_cap, rules, rules2, loopRules, Try.facts, base0, Int.toNat_zero, Nat.reduceAdd, Nat.reduceMul, Nat.reduceSub, Nat.reduceLT, Nat.reduceLeDiff, Nat.reduceEqDiff, Int.reduceLE, Int.reduceLT, Int.reduceToNat, Int.reduceNe, Int.reduceEq, not_false_eq_true, Nat.reduceBEq, Nat.reduceDiv, Int.natCast_zero, Int.natCast_one, Int.reduceAdd, Int.reduceSub, reduceIte, ↓reduceIte, Value.oneCell', rowI_length, rowI_take, rowI_splice, rep_all, row_zero, le_nat, Int.toNat_natCast, Nat.zero_add, sok_row, reduceCtorEq]
        exact ret_plain rfl ⟨rfl, rfl⟩
end Go.Proofs.Ytdhkpdakialkbaa
