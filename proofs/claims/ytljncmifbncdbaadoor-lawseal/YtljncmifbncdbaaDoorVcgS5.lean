/-
  Sealing in the document: Seal and Open.
-/
import Derived.Test.YtljncmifbncdbaaDoorVcgS4
set_option linter.unusedSimpArgs false
set_option linter.unusedVariables false
namespace Go.Proofs.YtljncmifbncdbaaDoor
open Go.Vcg
theorem packs_at {s : AS} {k n : Nat} {l : List (Nat × Box)} {r : Nat → Nat} {L : List AV} {v : AV} {f : Nat → Int} (h : Packs s k l r L) (hk : k < 20) (hv : BytesAt s.box v n f) :
    ∃ k' l' r' v', k' ≤ k + 1 ∧ Packs s k' l' r' (v :: L) ∧ Arg k' l' v' n f ∧ AV.ren r' v' = v ∧ ∀ u m g, Arg k l u m g → Arg k' l' u m g ∧ AV.ren r' u = AV.ren r u := by
  rcases hv with ⟨⟨a, rfl⟩, h0⟩ | ⟨t, o, c, rw, cs, rfl, hb, hp, hs⟩
  · exact ⟨k, l, r, V (.slice a 0 0), by omega, ⟨h.good, h.fits, fun M hM => h.named M fun u hu => hM u (List.Mem.tail _ hu)⟩, ⟨.inl ⟨⟨_, rfl⟩, h0⟩, trivial⟩, rfl, fun u m g hu => ⟨hu, rfl⟩⟩
  · exact packs_add h hk (.inr ⟨o, c, rfl, hs⟩) hb hp
theorem sl_of_ren {k o co to : Nat} {l : List (Nat × Box)} {r : Nat → Nat} {v : AV} {f : Nat → Int} (h : Arg k l v 80 f) (e : AV.ren r v = Sl to o 80 co) (hc : 80 ≤ co) : ∃ t o, v = Sl t o 80 co ∧ 80 ≤ co := by
  obtain ⟨t', o', c', rw, cs, rfl, _⟩ := at_some h.at_ (by decide)
  rw [ren_s] at e
  cases e
  exact ⟨t', _, rfl, hc⟩
theorem stream_call {s : AS} {nm to o co n : Nat} {vd : AV} {K f : Nat → Int} (hK : Byt K) (hf : Byt f) (ho : BytesAt s.box (Sl to o 80 co) 80 K) (hco : 80 ≤ co) (hd : BytesAt s.box vd n f) (hn : n ≤ 1048576) {dst : Option Nat} {K' : AS → Prop}
    (h0 : n = 0 → K' (s.put dst (some (V (.slice none 0 0)))))
    (h1 : ∀ c tail, n ≤ c → tail.length = c - n → tail.all SV.plain = true → K' ((⟨s.env, upd s.box nm (some ⟨true, rowI .u8 n (ctrB K (fun i => K (64 + i)) f) ++ tail⟩), s.next⟩ : AS).put dst (some (Sl nm 0 n c)))) :
    vcCall Tryd.prog nm 19 (some [Sl to o 80 co, vd]) dst K' s := by
  obtain ⟨k1, l1, r1, v1, q1, P1, A1, e1, _⟩ := packs_at (s := s) packs_nil (by decide) hd
  obtain ⟨k2, l2, r2, v2, q2, P2, A2, e2, T2⟩ := packs_at P1 (by omega) ho
  obtain ⟨B1, f1⟩ := T2 _ _ _ A1
  refine (stream_g (co := co) P2.good hK hf A2 (sl_of_ren A2 e2 hco) B1 hn).vcCall r2 none P2.fits (by simp only [List.map_cons, List.map_nil, e2, f1, e1]) ?_
  rintro v out (⟨g0, rfl, rfl⟩ | ⟨c, tail, rfl, rfl, g1, g2, g3⟩) _
  · have e : after s r2 k2 nm none (fun _ => none) = s.box := by funext x; simp [after]
    rw [e]
    exact h0 g0
  · rw [after_lk (plainT g3)]
    have e : AV.ren (rnew r2 k2 nm) (Sl k2 0 n c) = Sl nm 0 n c := by show Sl (rnew r2 k2 nm k2) 0 n c = _; rw [rnew_k]
    rw [e]
    exact h1 c tail g1 g2 g3
theorem tagOf_packs {s : AS} {to o co na nb : Nat} {va vb : AV} {K ad body : Nat → Int} (ho : BytesAt s.box (Sl to o 80 co) 80 K) (hco : 80 ≤ co) (ha : BytesAt s.box va na ad) (hb : BytesAt s.box vb nb body) :
    ∃ k l r v0 v1 v2, Packs s k l r [Sl to o 80 co, va, vb] ∧ Arg k l v0 80 K ∧ (∃ t o, v0 = Sl t o 80 co ∧ 80 ≤ co) ∧ Arg k l v1 na ad ∧ Arg k l v2 nb body ∧ [Sl to o 80 co, va, vb] = [v0, v1, v2].map (AV.ren r) := by
  obtain ⟨k1, l1, r1, v1, q1, P1, A1, e1, _⟩ := packs_at (s := s) packs_nil (by decide) hb
  obtain ⟨k2, l2, r2, v2, q2, P2, A2, e2, T2⟩ := packs_at P1 (by omega) ha
  obtain ⟨k3, l3, r3, v3, q3, P3, A3, e3, T3⟩ := packs_at P2 (by omega) ho
  obtain ⟨B1, f1⟩ := T2 _ _ _ A1
  obtain ⟨C1, g1⟩ := T3 _ _ _ B1
  obtain ⟨C2, g2⟩ := T3 _ _ _ A2
  exact ⟨k3, l3, r3, v3, v2, v1, P3, A3, sl_of_ren A3 e3 hco, C2, C1, by simp only [List.map_cons, List.map_nil, e3, g2, e2, g1, f1, e1]⟩
theorem tagOf_call {s : AS} {nm to o co na nb : Nat} {va vb : AV} {K ad body : Nat → Int} (hK : Byt K) (hab : Byt ad) (hbb : Byt body) (ho : BytesAt s.box (Sl to o 80 co) 80 K) (hco : 80 ≤ co) (ha : BytesAt s.box va na ad) (hb : BytesAt s.box vb nb body) (hna : na < 40000000) (hnb : nb < 40000000) {dst : Option Nat} {K' : AS → Prop}
    (hk : K' (s.put dst (some (Ag (rowI .u8 32 (tagA K na nb ad body)))))) : vcCall Tryd.prog nm 20 (some [Sl to o 80 co, va, vb]) dst K' s := by
  obtain ⟨k, l, r, v0, v1, v2, P, A0, hc, A1, A2, e⟩ := tagOf_packs ho hco ha hb
  exact (tagOf_g (co := co) P.good hK hab hbb A0 hc A1 A2 hna hnb).vcRead r P.fits plainI e hk
theorem tagOf_draw {s : AS} {nm to o co na nb : Nat} {va vb : AV} {K ad body : Nat → Int} (hK : Byt K) (hab : Byt ad) (hbb : Byt body) (ho : BytesAt s.box (Sl to o 80 co) 80 K) (hco : 80 ≤ co) (ha : BytesAt s.box va na ad) (hb : BytesAt s.box vb nb body) (hna : na < 40000000) (hnb : nb < 40000000) {ops : Array Oper} {i : Nat} {dst : Option Nat} {K' : AS → Prop}
    (hk : K' (s.put dst (some (Ag (rowI .u8 32 (tagA K na nb ad body)))))) : vcFun Tryd.prog ops i nm 20 (some [Sl to o 80 co, va, vb]) dst K' s := by
  obtain ⟨k, l, r, v0, v1, v2, P, A0, hc, A1, A2, e⟩ := tagOf_packs ho hco ha hb
  exact (tagOf_g (co := co) P.good hK hab hbb A0 hc A1 A2 hna hnb).drawRead r P.fits plainI e (fun M h => P.named M h) hk
/-- What the document's Seal hands back. -/
def RefSealed (k n : Nat) (body tag : Nat → Int) (v : AV) (out : Nat → Option Box) : Prop :=
  (n = 0 ∧ v = Ag (Sum.inl (.slice none 0 0) :: rowI .u8 32 tag) ∧ out = fun _ => none) ∨ ∃ c tail, v = sealedV k n c tag ∧ out = lk [(k, ⟨true, rowI .u8 n body ++ tail⟩)] ∧ n ≤ c ∧ tail.length = c - n ∧ tail.all SV.plain = true
theorem ret_or {s : AS} {k : Nat} {P Q : AV → (Nat → Option Box) → Prop} {v : AV} (h : Ret k P v s) (hi : ∀ v out, P v out → Q v out) : Ret k Q v s := by
  obtain ⟨q, v0, out, h1, h2, h3, h4, h5⟩ := h
  exact ⟨q, v0, out, h1, h2, h3, h4, hi _ _ h5⟩
theorem zPlain {r : Nat → Int} : (Sum.inl (Value.slice none 0 0) :: rowI .u8 32 r : List SV).all SV.plain = true := by
  rw [List.all_cons, plainI]; rfl
set_option maxHeartbeats 8000000 in
set_option maxRecDepth 20000 in
theorem refSeal_g {k na n : Nat} {l : List (Nat × Box)} {va vd : AV} {mk ad f : Nat → Int} (hg : Handed k l) (hmk : Byt mk) (ha : Byt ad) (hf : Byt f) (hva : Arg k l va na ad) (hvd : Arg k l vd n f) (hlim : ¬ (1048576 < na ∨ 1048576 < n)) :
    MFun Tryd.prog 7 [Ag (rowI .u8 32 mk), va, vd] k (lk l) (RefSealed k n (bodyA mk f) (sealT mk na n ad (bodyA mk f))) := by
  refine mfun_of_vc Tryd.func7 rfl (by kernel_rfl) (by simp [Tryd.ntmps7]) Tryd.callable7 (fun u hu => by
    simp only [List.mem_cons, List.not_mem_nil, or_false] at hu
    rcases hu with rfl | rfl | rfl
    · exact ok_all plainI
    · exact hva.ok
    · exact hvd.ok) hg.all hg.hinn ?_
  have hk := hg.le
  obtain ⟨d1, d2⟩ := tooLong2 hlim
  have q1 : (k = k + 1) = False := eq_false (by omega)
  simp only [Tryd.results7, at_len hva.at_, at_len hvd.at_, d1, d2, zSealed, q1, sn_upto, sn_from, slN_def, run_cap, rules, rules2, loopRules, Tryd.facts, base0, Int.toNat_zero, Nat.reduceAdd, Nat.reduceMul, Nat.reduceSub, Nat.reduceLT, Nat.reduceLeDiff, Nat.reduceEqDiff, Int.reduceLE, Int.reduceLT, Int.reduceToNat, Int.reduceNe, Int.reduceEq, not_false_eq_true, Nat.reduceBEq, Nat.reduceDiv, Int.natCast_zero, Int.natCast_one, Int.reduceAdd, Int.reduceSub, reduceIte, ↓reduceIte, Value.oneCell', rowI_length, rowI_take, rowI_splice, rep_all, row_zero, le_nat, Int.toNat_natCast, Nat.zero_add, sok_row, reduceCtorEq]
  refine ⟨by decide, ?_⟩
  refine made_call (keysOf_m mk hmk) (fun n => n) fits0 (by simp only [List.map_cons, List.map_nil, ren_row]) ?_
  intro c1 tail1 h1 h2 h3
  have hbb : Byt (bodyA mk f) := ctrB_byt _ _ _
  obtain ⟨T, hT⟩ : ∃ T, tagA (okS mk) na n ad (bodyA mk f) = T := ⟨_, rfl⟩
  have eT : sealT mk na n ad (bodyA mk f) = T := hT
  rw [eT]
  have hO : Shows (rowI .u8 80 (okS mk) ++ tail1) 0 80 (okS mk) := shows_row
  have pO := plainT (n := 80) (f := okS mk) h3
  simp only [q1, sn_upto, sn_from, slN_def, run_cap, rules, rules2, loopRules, Tryd.facts, base0, Int.toNat_zero, Nat.reduceAdd, Nat.reduceMul, Nat.reduceSub, Nat.reduceLT, Nat.reduceLeDiff, Nat.reduceEqDiff, Int.reduceLE, Int.reduceLT, Int.reduceToNat, Int.reduceNe, Int.reduceEq, not_false_eq_true, Nat.reduceBEq, Nat.reduceDiv, Int.natCast_zero, Int.natCast_one, Int.reduceAdd, Int.reduceSub, reduceIte, ↓reduceIte, Value.oneCell', rowI_length, rowI_take, rowI_splice, rep_all, row_zero, le_nat, Int.toNat_natCast, Nat.zero_add, sok_row, reduceCtorEq]
  refine stream_call (okS_byt mk) hf (.inr ⟨_, _, _, true, _, rfl, by simp only [upd_same], pO, hO⟩) h1 (at_mono hvd.at_ fun t b hb => ?_) (by omega) (fun hn0 => ?_) (fun c2 tail2 g1 g2 g3 => ?_)
  · have := (hg.inn _ (lk_mem _ _ _ hb)).1
    simp only at this
    simp only [upd]; rw [if_neg (by omega), if_neg (by omega), if_neg (by omega)]; exact hb
  · simp only [sn_upto, sn_from, slN_def, run_cap, rules, rules2, loopRules, Tryd.facts, base0, Int.toNat_zero, Nat.reduceAdd, Nat.reduceMul, Nat.reduceSub, Nat.reduceLT, Nat.reduceLeDiff, Nat.reduceEqDiff, Int.reduceLE, Int.reduceLT, Int.reduceToNat, Int.reduceNe, Int.reduceEq, not_false_eq_true, Nat.reduceBEq, Nat.reduceDiv, Int.natCast_zero, Int.natCast_one, Int.reduceAdd, Int.reduceSub, reduceIte, ↓reduceIte, Value.oneCell', rowI_length, rowI_take, rowI_splice, rep_all, row_zero, le_nat, Int.toNat_natCast, Nat.zero_add, sok_row, reduceCtorEq]
    refine tagOf_call (ad := ad) (body := bodyA mk f) (okS_byt mk) ha hbb (.inr ⟨_, _, _, true, _, rfl, by simp only [upd_same], pO, hO⟩) h1 (at_mono hva.at_ fun t b hb => ?_) (.inl ⟨⟨_, rfl⟩, hn0⟩) (by omega) (by omega) ?_
    · have := (hg.inn _ (lk_mem _ _ _ hb)).1
      simp only at this
      simp only [upd]; rw [if_neg (by omega), if_neg (by omega), if_neg (by omega)]; exact hb
    have q2 : (k + 1 = k + 2 + 8 + 1) = False := eq_false (by omega)
    rw [hT]
    simp only [q2, zSealed2, spl_a, spl_t, spl_b, len33, take33, sn_upto, sn_from, slN_def, run_cap, rules, rules2, loopRules, Tryd.facts, base0, Int.toNat_zero, Nat.reduceAdd, Nat.reduceMul, Nat.reduceSub, Nat.reduceLT, Nat.reduceLeDiff, Nat.reduceEqDiff, Int.reduceLE, Int.reduceLT, Int.reduceToNat, Int.reduceNe, Int.reduceEq, not_false_eq_true, Nat.reduceBEq, Nat.reduceDiv, Int.natCast_zero, Int.natCast_one, Int.reduceAdd, Int.reduceSub, reduceIte, ↓reduceIte, Value.oneCell', rowI_length, rowI_take, rowI_splice, rep_all, row_zero, le_nat, Int.toNat_natCast, Nat.zero_add, sok_row, reduceCtorEq]
    exact ret_plain (v := Ag (Sum.inl (.slice none 0 0) :: rowI .u8 32 T)) (zPlain (r := T)) (.inl ⟨hn0, rfl, rfl⟩)
  · simp only [sn_upto, sn_from, slN_def, run_cap, rules, rules2, loopRules, Tryd.facts, base0, Int.toNat_zero, Nat.reduceAdd, Nat.reduceMul, Nat.reduceSub, Nat.reduceLT, Nat.reduceLeDiff, Nat.reduceEqDiff, Int.reduceLE, Int.reduceLT, Int.reduceToNat, Int.reduceNe, Int.reduceEq, not_false_eq_true, Nat.reduceBEq, Nat.reduceDiv, Int.natCast_zero, Int.natCast_one, Int.reduceAdd, Int.reduceSub, reduceIte, ↓reduceIte, Value.oneCell', rowI_length, rowI_take, rowI_splice, rep_all, row_zero, le_nat, Int.toNat_natCast, Nat.zero_add, sok_row, reduceCtorEq]
    refine tagOf_call (ad := ad) (body := bodyA mk f) (nb := n) (okS_byt mk) ha hbb (.inr ⟨_, _, _, true, _, rfl, by simp only [upd]; rw [if_neg (by omega)]; exact if_pos trivial, pO, hO⟩) h1 (at_mono hva.at_ fun t b hb => ?_) (.inr ⟨_, _, _, true, rowI .u8 n (bodyA mk f) ++ tail2, rfl, by simp only [upd_same]; rfl, plainT g3, shows_row⟩) (by omega) (by omega) ?_
    · have := (hg.inn _ (lk_mem _ _ _ hb)).1
      simp only at this
      simp only [upd]; rw [if_neg (by omega), if_neg (by omega), if_neg (by omega), if_neg (by omega)]; exact hb
    have q2 : (k + 1 = k + 2 + 8 + 1) = False := eq_false (by omega)
    have q3 : (k + 1 = k + 2 + 8 + 3 + 2) = False := eq_false (by omega)
    rw [hT]
    simp only [q2, q3, zSealed2, spl_a, spl_t, spl_b, len33, take33, sn_upto, sn_from, slN_def, run_cap, rules, rules2, loopRules, Tryd.facts, base0, Int.toNat_zero, Nat.reduceAdd, Nat.reduceMul, Nat.reduceSub, Nat.reduceLT, Nat.reduceLeDiff, Nat.reduceEqDiff, Int.reduceLE, Int.reduceLT, Int.reduceToNat, Int.reduceNe, Int.reduceEq, not_false_eq_true, Nat.reduceBEq, Nat.reduceDiv, Int.natCast_zero, Int.natCast_one, Int.reduceAdd, Int.reduceSub, reduceIte, ↓reduceIte, Value.oneCell', rowI_length, rowI_take, rowI_splice, rep_all, row_zero, le_nat, Int.toNat_natCast, Nat.zero_add, sok_row, reduceCtorEq]
    refine ret_or (ret_sealed (k := k) (q := k + 2 + 8 + 3 + 2) (cs := rowI .u8 n (bodyA mk f) ++ tail2) (by omega) ?_ (plainT g3)) (fun v out h => .inr ⟨c2, tail2, h.1, h.2, g1, g2, g3⟩)
    have q4 : (k + 2 + 8 + 3 + 2 = k + 1) = False := eq_false (by omega)
    simp only [upd_apply, q4, sn_upto, sn_from, slN_def, run_cap, rules, rules2, loopRules, Tryd.facts, base0, Int.toNat_zero, Nat.reduceAdd, Nat.reduceMul, Nat.reduceSub, Nat.reduceLT, Nat.reduceLeDiff, Nat.reduceEqDiff, Int.reduceLE, Int.reduceLT, Int.reduceToNat, Int.reduceNe, Int.reduceEq, not_false_eq_true, Nat.reduceBEq, Nat.reduceDiv, Int.natCast_zero, Int.natCast_one, Int.reduceAdd, Int.reduceSub, reduceIte, ↓reduceIte, Value.oneCell', rowI_length, rowI_take, rowI_splice, rep_all, row_zero, le_nat, Int.toNat_natCast, Nat.zero_add, sok_row, reduceCtorEq]
    rfl
set_option maxHeartbeats 8000000 in
set_option maxRecDepth 20000 in
theorem refSeal_bad {k na n : Nat} {l : List (Nat × Box)} {va vd : AV} {mk ad f : Nat → Int} (hg : Handed k l) (hva : Arg k l va na ad) (hvd : Arg k l vd n f) (hlim : 1048576 < na ∨ 1048576 < n) :
    MFun Tryd.prog 7 [Ag (rowI .u8 32 mk), va, vd] k (lk l) (fun v out => v = Ag (Sum.inl (.slice none 0 0) :: rowI .u8 32 (fun _ => 0)) ∧ out = fun _ => none) := by
  refine mfun_of_vc Tryd.func7 rfl (by kernel_rfl) (by simp [Tryd.ntmps7]) Tryd.callable7 (fun u hu => by
    simp only [List.mem_cons, List.not_mem_nil, or_false] at hu
    rcases hu with rfl | rfl | rfl
    · exact ok_all plainI
    · exact hva.ok
    · exact hvd.ok) hg.all hg.hinn ?_
  by_cases h1 : 1048576 < na
  · have d1 : decide (1048576 < (na : Int)) = true := decide_eq_true (by omega)
    simp only [Tryd.results7, at_len hva.at_, at_len hvd.at_, d1, zSealed, zSealed2, spl_b, len33, take33, sn_upto, sn_from, slN_def, run_cap, rules, rules2, loopRules, Tryd.facts, base0, Int.toNat_zero, Nat.reduceAdd, Nat.reduceMul, Nat.reduceSub, Nat.reduceLT, Nat.reduceLeDiff, Nat.reduceEqDiff, Int.reduceLE, Int.reduceLT, Int.reduceToNat, Int.reduceNe, Int.reduceEq, not_false_eq_true, Nat.reduceBEq, Nat.reduceDiv, Int.natCast_zero, Int.natCast_one, Int.reduceAdd, Int.reduceSub, reduceIte, ↓reduceIte, Value.oneCell', rowI_length, rowI_take, rowI_splice, rep_all, row_zero, le_nat, Int.toNat_natCast, Nat.zero_add, sok_row, reduceCtorEq]
    exact ⟨by decide, ret_plain (v := Ag (Sum.inl (.slice none 0 0) :: rowI .u8 32 (fun _ => 0))) (zPlain (r := fun _ => 0)) ⟨rfl, rfl⟩⟩
  have d1 : decide (1048576 < (na : Int)) = false := decide_eq_false (by omega)
  have d2 : decide (1048576 < (n : Int)) = true := decide_eq_true (by omega)
  simp only [Tryd.results7, at_len hva.at_, at_len hvd.at_, d1, d2, zSealed, zSealed2, spl_b, len33, take33, sn_upto, sn_from, slN_def, run_cap, rules, rules2, loopRules, Tryd.facts, base0, Int.toNat_zero, Nat.reduceAdd, Nat.reduceMul, Nat.reduceSub, Nat.reduceLT, Nat.reduceLeDiff, Nat.reduceEqDiff, Int.reduceLE, Int.reduceLT, Int.reduceToNat, Int.reduceNe, Int.reduceEq, not_false_eq_true, Nat.reduceBEq, Nat.reduceDiv, Int.natCast_zero, Int.natCast_one, Int.reduceAdd, Int.reduceSub, reduceIte, ↓reduceIte, Value.oneCell', rowI_length, rowI_take, rowI_splice, rep_all, row_zero, le_nat, Int.toNat_natCast, Nat.zero_add, sok_row, reduceCtorEq]
  exact ⟨by decide, ret_plain (v := Ag (Sum.inl (.slice none 0 0) :: rowI .u8 32 (fun _ => 0))) (zPlain (r := fun _ => 0)) ⟨rfl, rfl⟩⟩
/-- A sealed list as it is handed in: its body is nothing or a slice. -/
def sealedIn (v : SV) (tag : Nat → Int) : AV := Ag (v :: rowI .u8 32 tag)
/-- What the document's Open hands back. -/
def RefOpened (k n : Nat) (body : Nat → Int) (v : AV) (out : Nat → Option Box) : Prop :=
  (n = 0 ∧ v = .inr [.inl (.inl (.slice none 0 0)), .inl (.inl (.bool true))] ∧ out = fun _ => none) ∨ ∃ c tail, v = .inr [.inl (.inr (.inr (k, 0, n, c))), .inl (.inl (.bool true))] ∧ out = lk [(k, ⟨true, rowI .u8 n body ++ tail⟩)] ∧ n ≤ c ∧ tail.length = c - n ∧ tail.all SV.plain = true
theorem ints_neq (x y : Nat → Int) : eqL .neq 32 (intsOf .u8 (rowI .u8 32 x)) (intsOf .u8 (rowI .u8 32 y)) = some (some (B (!sameT x y)), none) := by
  rw [ints_row, ints_row, eqL_neq, if_pos ⟨by simp, by simp⟩]; rfl
theorem sv_ok {k n : Nat} {l : List (Nat × Box)} {sv : SV} {f : Nat → Int} (h : Arg k l (.inl (.inl sv)) n f) : SV.ok (fun n => n < k) sv := by
  rcases h.at_ with ⟨⟨a, e⟩, _⟩ | ⟨t, o, c, rw, cs, e, _⟩
  · cases e; exact ⟨trivial, rfl⟩
  · cases e; exact ⟨h.ok, rfl⟩
theorem ret_pair {s : AS} {k q n c : Nat} {cs : List SV} (hq : k ≤ q) (hb : s.box q = some ⟨true, cs⟩) (hp : cs.all SV.plain = true) : Ret k (fun v out => v = .inr [.inl (.inr (.inr (k, 0, n, c))), .inl (.inl (.bool true))] ∧ out = lk [(k, ⟨true, cs⟩)]) (.inr [.inl (.inr (.inr (q, 0, n, c))), .inl (.inl (.bool true))]) s := by
  refine ⟨q, .inr [.inl (.inr (.inr (k, 0, n, c))), .inl (.inl (.bool true))], lk [(k, ⟨true, cs⟩)], hq, ?_, ?_, fun m b hm => ?_, rfl, rfl⟩
  · show (Sum.inr [Sum.inl (Sum.inr (Sum.inr (q, 0, n, c))), Sum.inl (Sum.inl (Value.bool true))] : AV) = Sum.inr [Sum.inl (Sum.inr (Sum.inr (rho k q k, 0, n, c))), Sum.inl (Sum.inl (Value.bool true))]
    rw [rho_k]
  · intro x hx
    simp only [List.mem_cons, List.not_mem_nil, or_false] at hx
    rcases hx with rfl | rfl
    · exact Nat.lt_succ_self k
    · trivial
  · simp only [lk] at hm
    split at hm
    · rename_i e
      simp only [Option.some.injEq] at hm; subst e hm
      exact ⟨Nat.lt_succ_self m, fun _ => rfl, ok_all hp, _, by rw [rho_k]; exact hb, fun _ => rfl, (ren_all hp _).symm⟩
    · cases hm
set_option maxHeartbeats 8000000 in
set_option maxRecDepth 20000 in
theorem refOpen_g {k na n : Nat} {l : List (Nat × Box)} {va : AV} {sv : SV} {mk ad f tag : Nat → Int} (hg : Handed k l) (hmk : Byt mk) (ha : Byt ad) (hf : Byt f) (hva : Arg k l va na ad) (hvd : Arg k l (.inl (.inl sv)) n f) (hlim : ¬ (1048576 < na ∨ 1048576 < n)) (hsame : sameT (sealT mk na n ad f) tag = true) :
    MFun Tryd.prog 10 [Ag (rowI .u8 32 mk), va, Ag (sv :: rowI .u8 32 tag)] k (lk l) (RefOpened k n (bodyA mk f)) := by
  refine mfun_of_vc Tryd.func10 rfl (by kernel_rfl) (by simp [Tryd.ntmps10]) Tryd.callable10 (fun u hu => by
    simp only [List.mem_cons, List.not_mem_nil, or_false] at hu
    rcases hu with rfl | rfl | rfl
    · exact ok_all plainI
    · exact hva.ok
    · intro x hx
      rcases List.mem_cons.1 hx with rfl | hx
      · exact sv_ok hvd
      · exact SV.plain_ok (List.all_eq_true.1 plainI x hx)) hg.all hg.hinn ?_
  have hk := hg.le
  obtain ⟨d1, d2⟩ := tooLong2 hlim
  have q1 : (k = k + 1) = False := eq_false (by omega)
  simp only [Tryd.results10, at_len hva.at_, at_len hvd.at_, d1, d2, q1, len33, sn_upto, sn_from, slN_def, run_cap, rules, rules2, loopRules, Tryd.facts, base0, Int.toNat_zero, Nat.reduceAdd, Nat.reduceMul, Nat.reduceSub, Nat.reduceLT, Nat.reduceLeDiff, Nat.reduceEqDiff, Int.reduceLE, Int.reduceLT, Int.reduceToNat, Int.reduceNe, Int.reduceEq, not_false_eq_true, Nat.reduceBEq, Nat.reduceDiv, Int.natCast_zero, Int.natCast_one, Int.reduceAdd, Int.reduceSub, reduceIte, ↓reduceIte, Value.oneCell', rowI_length, rowI_take, rowI_splice, rep_all, row_zero, le_nat, Int.toNat_natCast, Nat.zero_add, sok_row, reduceCtorEq]
  refine made_call (keysOf_m mk hmk) (fun n => n) fits0 (by simp only [List.map_cons, List.map_nil, ren_row]) ?_
  intro c1 tail1 h1 h2 h3
  have hbb : Byt (bodyA mk f) := ctrB_byt _ _ _
  obtain ⟨T, hT⟩ : ∃ T, tagA (okS mk) na n ad f = T := ⟨_, rfl⟩
  have hsame' : sameT T tag = true := by rw [← hT]; exact hsame
  have hO : Shows (rowI .u8 80 (okS mk) ++ tail1) 0 80 (okS mk) := shows_row
  have pO := plainT (n := 80) (f := okS mk) h3
  have q2 : (k + 1 = k + 4 + 9 + 1) = False := eq_false (by omega)
  have tt : List.take 32 (rowI .u8 32 tag) = rowI .u8 32 tag := rowI_take _ _ _
  have hmono : ∀ (t : Nat) (b : Box), lk l t = some b → t ≠ k ∧ t ≠ k + 1 ∧ t ≠ k + 4 + 9 + 1 := fun t b hb => by
    have := (hg.inn _ (lk_mem _ _ _ hb)).1
    simp only at this
    omega
  simp only [q1, q2, tt, len33, sn_upto, sn_from, slN_def, run_cap, rules, rules2, loopRules, Tryd.facts, base0, Int.toNat_zero, Nat.reduceAdd, Nat.reduceMul, Nat.reduceSub, Nat.reduceLT, Nat.reduceLeDiff, Nat.reduceEqDiff, Int.reduceLE, Int.reduceLT, Int.reduceToNat, Int.reduceNe, Int.reduceEq, not_false_eq_true, Nat.reduceBEq, Nat.reduceDiv, Int.natCast_zero, Int.natCast_one, Int.reduceAdd, Int.reduceSub, reduceIte, ↓reduceIte, Value.oneCell', rowI_length, rowI_take, rowI_splice, rep_all, row_zero, le_nat, Int.toNat_natCast, Nat.zero_add, sok_row, reduceCtorEq]
  refine ⟨by kernel_rfl, ?_⟩
  refine tagOf_draw (ad := ad) (body := f) (nb := n) (okS_byt mk) ha hf (.inr ⟨_, _, _, true, _, rfl, by simp only [upd_same], pO, hO⟩) h1 (at_mono hva.at_ fun t b hb => ?_) (at_mono hvd.at_ fun t b hb => ?_) (by omega) (by omega) ?_
  · obtain ⟨a1, a2, a3⟩ := hmono t b hb
    simp only [upd]; rw [if_neg a3, if_neg a2, if_neg a1]; exact hb
  · obtain ⟨a1, a2, a3⟩ := hmono t b hb
    simp only [upd]; rw [if_neg a3, if_neg a2, if_neg a1]; exact hb
  rw [hT]
  simp only [q1, q2, tt, len33, ints_neq, hsame', Bool.not_true, sn_upto, sn_from, slN_def, run_cap, rules, rules2, loopRules, Tryd.facts, base0, Int.toNat_zero, Nat.reduceAdd, Nat.reduceMul, Nat.reduceSub, Nat.reduceLT, Nat.reduceLeDiff, Nat.reduceEqDiff, Int.reduceLE, Int.reduceLT, Int.reduceToNat, Int.reduceNe, Int.reduceEq, not_false_eq_true, Nat.reduceBEq, Nat.reduceDiv, Int.natCast_zero, Int.natCast_one, Int.reduceAdd, Int.reduceSub, reduceIte, ↓reduceIte, Value.oneCell', rowI_length, rowI_take, rowI_splice, rep_all, row_zero, le_nat, Int.toNat_natCast, Nat.zero_add, sok_row, reduceCtorEq]
  refine stream_call (okS_byt mk) hf (.inr ⟨_, _, _, true, _, rfl, by simp only [upd_same], pO, hO⟩) h1 (at_mono hvd.at_ fun t b hb => ?_) (by omega) (fun hn0 => ?_) (fun c2 tail2 g1 g2 g3 => ?_)
  · obtain ⟨a1, a2, a3⟩ := hmono t b hb
    simp only [upd]; rw [if_neg a3, if_neg a2, if_neg a1]; exact hb
  · simp only [sn_upto, sn_from, slN_def, run_cap, rules, rules2, loopRules, Tryd.facts, base0, Int.toNat_zero, Nat.reduceAdd, Nat.reduceMul, Nat.reduceSub, Nat.reduceLT, Nat.reduceLeDiff, Nat.reduceEqDiff, Int.reduceLE, Int.reduceLT, Int.reduceToNat, Int.reduceNe, Int.reduceEq, not_false_eq_true, Nat.reduceBEq, Nat.reduceDiv, Int.natCast_zero, Int.natCast_one, Int.reduceAdd, Int.reduceSub, reduceIte, ↓reduceIte, Value.oneCell', rowI_length, rowI_take, rowI_splice, rep_all, row_zero, le_nat, Int.toNat_natCast, Nat.zero_add, sok_row, reduceCtorEq]
    exact ret_plain (v := .inr [.inl (.inl (.slice none 0 0)), .inl (.inl (.bool true))]) rfl (.inl ⟨hn0, rfl, rfl⟩)
  · simp only [sn_upto, sn_from, slN_def, run_cap, rules, rules2, loopRules, Tryd.facts, base0, Int.toNat_zero, Nat.reduceAdd, Nat.reduceMul, Nat.reduceSub, Nat.reduceLT, Nat.reduceLeDiff, Nat.reduceEqDiff, Int.reduceLE, Int.reduceLT, Int.reduceToNat, Int.reduceNe, Int.reduceEq, not_false_eq_true, Nat.reduceBEq, Nat.reduceDiv, Int.natCast_zero, Int.natCast_one, Int.reduceAdd, Int.reduceSub, reduceIte, ↓reduceIte, Value.oneCell', rowI_length, rowI_take, rowI_splice, rep_all, row_zero, le_nat, Int.toNat_natCast, Nat.zero_add, sok_row, reduceCtorEq]
    exact ret_or (ret_pair (k := k) (n := n) (c := c2) (cs := rowI .u8 n (bodyA mk f) ++ tail2) (by omega) (by simp only [upd_same]; rfl) (plainT g3)) (fun v out h => .inr ⟨c2, tail2, h.1, h.2, g1, g2, g3⟩)
set_option maxHeartbeats 8000000 in
set_option maxRecDepth 20000 in
theorem refOpen_shut {k na n : Nat} {l : List (Nat × Box)} {va : AV} {sv : SV} {mk ad f tag : Nat → Int} (hg : Handed k l) (hmk : Byt mk) (ha : Byt ad) (hf : Byt f) (hva : Arg k l va na ad) (hvd : Arg k l (.inl (.inl sv)) n f) (hlim : ¬ (1048576 < na ∨ 1048576 < n)) (hsame : sameT (sealT mk na n ad f) tag = false) :
    MFun Tryd.prog 10 [Ag (rowI .u8 32 mk), va, Ag (sv :: rowI .u8 32 tag)] k (lk l) (fun v out => v = closedV ∧ out = fun _ => none) := by
  refine mfun_of_vc Tryd.func10 rfl (by kernel_rfl) (by simp [Tryd.ntmps10]) Tryd.callable10 (fun u hu => by
    simp only [List.mem_cons, List.not_mem_nil, or_false] at hu
    rcases hu with rfl | rfl | rfl
    · exact ok_all plainI
    · exact hva.ok
    · intro x hx
      rcases List.mem_cons.1 hx with rfl | hx
      · exact sv_ok hvd
      · exact SV.plain_ok (List.all_eq_true.1 plainI x hx)) hg.all hg.hinn ?_
  have hk := hg.le
  obtain ⟨d1, d2⟩ := tooLong2 hlim
  have q1 : (k = k + 1) = False := eq_false (by omega)
  simp only [Tryd.results10, at_len hva.at_, at_len hvd.at_, d1, d2, q1, len33, sn_upto, sn_from, slN_def, run_cap, rules, rules2, loopRules, Tryd.facts, base0, Int.toNat_zero, Nat.reduceAdd, Nat.reduceMul, Nat.reduceSub, Nat.reduceLT, Nat.reduceLeDiff, Nat.reduceEqDiff, Int.reduceLE, Int.reduceLT, Int.reduceToNat, Int.reduceNe, Int.reduceEq, not_false_eq_true, Nat.reduceBEq, Nat.reduceDiv, Int.natCast_zero, Int.natCast_one, Int.reduceAdd, Int.reduceSub, reduceIte, ↓reduceIte, Value.oneCell', rowI_length, rowI_take, rowI_splice, rep_all, row_zero, le_nat, Int.toNat_natCast, Nat.zero_add, sok_row, reduceCtorEq]
  refine made_call (keysOf_m mk hmk) (fun n => n) fits0 (by simp only [List.map_cons, List.map_nil, ren_row]) ?_
  intro c1 tail1 h1 h2 h3
  have hbb : Byt (bodyA mk f) := ctrB_byt _ _ _
  obtain ⟨T, hT⟩ : ∃ T, tagA (okS mk) na n ad f = T := ⟨_, rfl⟩
  have hsame' : sameT T tag = false := by rw [← hT]; exact hsame
  have hO : Shows (rowI .u8 80 (okS mk) ++ tail1) 0 80 (okS mk) := shows_row
  have pO := plainT (n := 80) (f := okS mk) h3
  have q2 : (k + 1 = k + 4 + 9 + 1) = False := eq_false (by omega)
  have tt : List.take 32 (rowI .u8 32 tag) = rowI .u8 32 tag := rowI_take _ _ _
  have hmono : ∀ (t : Nat) (b : Box), lk l t = some b → t ≠ k ∧ t ≠ k + 1 ∧ t ≠ k + 4 + 9 + 1 := fun t b hb => by
    have := (hg.inn _ (lk_mem _ _ _ hb)).1
    simp only at this
    omega
  simp only [q1, q2, tt, len33, sn_upto, sn_from, slN_def, run_cap, rules, rules2, loopRules, Tryd.facts, base0, Int.toNat_zero, Nat.reduceAdd, Nat.reduceMul, Nat.reduceSub, Nat.reduceLT, Nat.reduceLeDiff, Nat.reduceEqDiff, Int.reduceLE, Int.reduceLT, Int.reduceToNat, Int.reduceNe, Int.reduceEq, not_false_eq_true, Nat.reduceBEq, Nat.reduceDiv, Int.natCast_zero, Int.natCast_one, Int.reduceAdd, Int.reduceSub, reduceIte, ↓reduceIte, Value.oneCell', rowI_length, rowI_take, rowI_splice, rep_all, row_zero, le_nat, Int.toNat_natCast, Nat.zero_add, sok_row, reduceCtorEq]
  refine ⟨by kernel_rfl, ?_⟩
  refine tagOf_draw (ad := ad) (body := f) (nb := n) (okS_byt mk) ha hf (.inr ⟨_, _, _, true, _, rfl, by simp only [upd_same], pO, hO⟩) h1 (at_mono hva.at_ fun t b hb => ?_) (at_mono hvd.at_ fun t b hb => ?_) (by omega) (by omega) ?_
  · obtain ⟨a1, a2, a3⟩ := hmono t b hb
    simp only [upd]; rw [if_neg a3, if_neg a2, if_neg a1]; exact hb
  · obtain ⟨a1, a2, a3⟩ := hmono t b hb
    simp only [upd]; rw [if_neg a3, if_neg a2, if_neg a1]; exact hb
  rw [hT]
  simp only [q1, q2, tt, len33, ints_neq, hsame', Bool.not_false, sn_upto, sn_from, slN_def, run_cap, rules, rules2, loopRules, Tryd.facts, base0, Int.toNat_zero, Nat.reduceAdd, Nat.reduceMul, Nat.reduceSub, Nat.reduceLT, Nat.reduceLeDiff, Nat.reduceEqDiff, Int.reduceLE, Int.reduceLT, Int.reduceToNat, Int.reduceNe, Int.reduceEq, not_false_eq_true, Nat.reduceBEq, Nat.reduceDiv, Int.natCast_zero, Int.natCast_one, Int.reduceAdd, Int.reduceSub, reduceIte, ↓reduceIte, Value.oneCell', rowI_length, rowI_take, rowI_splice, rep_all, row_zero, le_nat, Int.toNat_natCast, Nat.zero_add, sok_row, reduceCtorEq]
  exact ret_plain (v := closedV) rfl ⟨rfl, rfl⟩
set_option maxHeartbeats 8000000 in
set_option maxRecDepth 20000 in
theorem refOpen_bad {k na n : Nat} {l : List (Nat × Box)} {va : AV} {sv : SV} {mk ad f tag : Nat → Int} (hg : Handed k l) (hva : Arg k l va na ad) (hvd : Arg k l (.inl (.inl sv)) n f) (hlim : 1048576 < na ∨ 1048576 < n) :
    MFun Tryd.prog 10 [Ag (rowI .u8 32 mk), va, Ag (sv :: rowI .u8 32 tag)] k (lk l) (fun v out => v = closedV ∧ out = fun _ => none) := by
  refine mfun_of_vc Tryd.func10 rfl (by kernel_rfl) (by simp [Tryd.ntmps10]) Tryd.callable10 (fun u hu => by
    simp only [List.mem_cons, List.not_mem_nil, or_false] at hu
    rcases hu with rfl | rfl | rfl
    · exact ok_all plainI
    · exact hva.ok
    · intro x hx
      rcases List.mem_cons.1 hx with rfl | hx
      · exact sv_ok hvd
      · exact SV.plain_ok (List.all_eq_true.1 plainI x hx)) hg.all hg.hinn ?_
  have hk := hg.le
  have q1 : (k = k + 1) = False := eq_false (by omega)
  by_cases h1 : 1048576 < na
  · have d1 : decide (1048576 < (na : Int)) = true := decide_eq_true (by omega)
    simp only [Tryd.results10, at_len hva.at_, at_len hvd.at_, d1, q1, len33, sn_upto, sn_from, slN_def, run_cap, rules, rules2, loopRules, Tryd.facts, base0, Int.toNat_zero, Nat.reduceAdd, Nat.reduceMul, Nat.reduceSub, Nat.reduceLT, Nat.reduceLeDiff, Nat.reduceEqDiff, Int.reduceLE, Int.reduceLT, Int.reduceToNat, Int.reduceNe, Int.reduceEq, not_false_eq_true, Nat.reduceBEq, Nat.reduceDiv, Int.natCast_zero, Int.natCast_one, Int.reduceAdd, Int.reduceSub, reduceIte, ↓reduceIte, Value.oneCell', rowI_length, rowI_take, rowI_splice, rep_all, row_zero, le_nat, Int.toNat_natCast, Nat.zero_add, sok_row, reduceCtorEq]
    exact ret_plain (v := closedV) rfl ⟨rfl, rfl⟩
  have d1 : decide (1048576 < (na : Int)) = false := decide_eq_false (by omega)
  have d2 : decide (1048576 < (n : Int)) = true := decide_eq_true (by omega)
  simp only [Tryd.results10, at_len hva.at_, at_len hvd.at_, d1, d2, q1, len33, sn_upto, sn_from, slN_def, run_cap, rules, rules2, loopRules, Tryd.facts, base0, Int.toNat_zero, Nat.reduceAdd, Nat.reduceMul, Nat.reduceSub, Nat.reduceLT, Nat.reduceLeDiff, Nat.reduceEqDiff, Int.reduceLE, Int.reduceLT, Int.reduceToNat, Int.reduceNe, Int.reduceEq, not_false_eq_true, Nat.reduceBEq, Nat.reduceDiv, Int.natCast_zero, Int.natCast_one, Int.reduceAdd, Int.reduceSub, reduceIte, ↓reduceIte, Value.oneCell', rowI_length, rowI_take, rowI_splice, rep_all, row_zero, le_nat, Int.toNat_natCast, Nat.zero_add, sok_row, reduceCtorEq]
  exact ret_plain (v := closedV) rfl ⟨rfl, rfl⟩
end Go.Proofs.YtljncmifbncdbaaDoor
