/-
  The expansion in the program.
-/
import Derived.Test.YtlpckbkmmocaaaaDoorVcgH1
set_option linter.unusedSimpArgs false
set_option linter.unusedVariables false
namespace Go.Proofs.YtlpckbkmmocaaaaDoor
open Go.Vcg
/-- A part as it is known in the callee: by the number of a box of its own. -/
theorem part_own {box : Nat → Option Box} {sv : SV} {n tk : Nat} {f : Nat → Int} {rwk : Bool} {csk : List SV} (h : BytesAt box (.inl (.inl sv)) n f) (hk : box tk = some ⟨rwk, csk⟩) (hkp : csk.all SV.plain = true) :
    ∃ (t : Nat) (rw : Bool) (cs : List SV) (w : Nat → SV), box t = some ⟨rw, cs⟩ ∧ cs.all SV.plain = true ∧ (∀ (r : Nat → Nat) j, r j = t → SV.ren r (w j) = sv) ∧
      (∀ (bx : Nat → Option Box) j, bx j = some ⟨false, cs⟩ → BytesAt bx (.inl (.inl (w j))) n f) ∧ (∀ (M : Nat → Prop) j, M j → SV.ok M (w j)) ∧ (∀ M : Nat → Prop, AV.ok M (.inl (.inl sv)) → (t = tk ∨ M t)) := by
  rcases h with ⟨⟨a, e⟩, rfl⟩ | ⟨t, o, c, rw, cs, e, hb, hp, hs⟩
  · cases e
    exact ⟨tk, rwk, csk, fun _ => .inl (.slice a 0 0), hk, hkp, fun _ _ _ => rfl, fun _ _ _ => .inl ⟨⟨a, rfl⟩, rfl⟩, fun _ _ _ => ⟨trivial, rfl⟩, fun _ _ => .inl rfl⟩
  · cases e
    refine ⟨t, rw, cs, fun j => .inr (.inr (j, o, n, c)), hb, hp, fun r j e => ?_, fun bx j e => .inr ⟨j, o, c, false, cs, rfl, e, hp, hs⟩, fun M j h => ⟨h, rfl⟩, fun M h => .inr h⟩
    show SV.ren r (Sum.inr (Sum.inr (j, o, n, c))) = _
    simp only [SV.ren, e]
def five (a b c d e : Nat) : Nat → Nat
  | 0 => a
  | 1 => b
  | 2 => c
  | 3 => d
  | _ => e
theorem mac3_call {s : AS} {nm t0 tk ok nk ck o c : Nat} {rw0 rwk : Bool} {a0 a1 a2 : SV} {csk : List SV} {n0 n1 n2 : Nat} {f0 f1 f2 key : Nat → Int} (h0 : s.box t0 = some ⟨rw0, [a0, a1, a2]⟩) (ho : o = 0)
    (p0 : BytesAt s.box (.inl (.inl a0)) n0 f0) (p1 : BytesAt s.box (.inl (.inl a1)) n1 f1) (p2 : BytesAt s.box (.inl (.inl a2)) n2 f2) (b0 : Byt f0) (b1 : Byt f1) (b2 : Byt f2)
    (hk : s.box tk = some ⟨rwk, csk⟩) (hkp : csk.all SV.plain = true) (hkey : Shows csk ok nk key) (hkb : Byt key) (hnk : nk < 100000000) (hck : nk ≤ ck) (hN : n0 + n1 + n2 < 100000000) {dst : Option Nat} {K : AS → Prop}
    (hK : K (s.put dst (some (Ag (rowI .u8 32 (macW kW ivW key nk (joinB (n0 + n1) (joinB n0 f0 f1) f2) (n0 + n1 + n2))))))) : vcCall Tryd.prog nm 21 (some [Sl tk ok nk ck, Sl t0 o 3 c]) dst K s := by
  subst ho
  obtain ⟨u0, r0, c0, w0, e0, q0, g0, i0, k0, _⟩ := part_own p0 hk hkp
  obtain ⟨u1, r1, c1, w1, e1, q1, g1, i1, k1, _⟩ := part_own p1 hk hkp
  obtain ⟨u2, r2, c2, w2, e2, q2, g2, i2, k2, _⟩ := part_own p2 hk hkp
  let l : List (Nat × Box) := [(0, ⟨false, [w0 2, w1 3, w2 4]⟩), (1, ⟨false, csk⟩), (2, ⟨false, c0⟩), (3, ⟨false, c1⟩), (4, ⟨false, c2⟩)]
  let nn : Nat → Nat := fun j => if j = 0 then n0 else if j = 1 then n1 else n2
  let ff : Nat → Nat → Int := fun j => if j = 0 then f0 else if j = 1 then f1 else f2
  have hl : Parts l [w0 2, w1 3, w2 4] 5 0 3 nn ff := by
    refine ⟨fun x hx => ?_, fun i hi => ?_, fun x hx => ?_, rfl, fun j hj => ?_⟩
    · simp only [l, List.mem_cons, List.not_mem_nil, or_false] at hx
      rcases hx with rfl | rfl | rfl | rfl | rfl <;> rfl
    · have : i = 0 ∨ i = 1 ∨ i = 2 ∨ i = 3 ∨ i = 4 := by omega
      rcases this with rfl | rfl | rfl | rfl | rfl <;> exact ⟨_, rfl⟩
    · simp only [l, List.mem_cons, List.not_mem_nil, or_false] at hx
      rcases hx with rfl | rfl | rfl | rfl | rfl
      · refine ⟨show (0 : Nat) < 5 by decide, rfl, fun y hy => ?_⟩
        simp only [List.mem_cons, List.not_mem_nil, or_false] at hy
        rcases hy with rfl | rfl | rfl
        · exact k0 _ _ (by decide)
        · exact k1 _ _ (by decide)
        · exact k2 _ _ (by decide)
      · exact ⟨show (1 : Nat) < 5 by decide, rfl, ok_all hkp⟩
      · exact ⟨show (2 : Nat) < 5 by decide, rfl, ok_all q0⟩
      · exact ⟨show (3 : Nat) < 5 by decide, rfl, ok_all q1⟩
      · exact ⟨show (4 : Nat) < 5 by decide, rfl, ok_all q2⟩
    · have : j = 0 ∨ j = 1 ∨ j = 2 := by omega
      rcases this with rfl | rfl | rfl
      · exact ⟨_, rfl, i0 _ 2 rfl⟩
      · exact ⟨_, rfl, i1 _ 3 rfl⟩
      · exact ⟨_, rfl, i2 _ 4 rfl⟩
  have hfit : Fits s (five t0 tk u0 u1 u2) (lk l) none := by
    refine ⟨fun n b hb => ?_, fun n n' b b' hb hrw => ?_, fun n b hb hrw => ?_, fun n hn => (by cases hn)⟩
    · have := lk_mem _ _ _ hb
      simp only [l, List.mem_cons, List.not_mem_nil, or_false, Prod.mk.injEq] at this
      rcases this with ⟨rfl, rfl⟩ | ⟨rfl, rfl⟩ | ⟨rfl, rfl⟩ | ⟨rfl, rfl⟩ | ⟨rfl, rfl⟩
      · refine ⟨_, h0, fun e => (by cases e), ?_⟩
        simp only [List.map_cons, List.map_nil]
        rw [g0 _ 2 rfl, g1 _ 3 rfl, g2 _ 4 rfl]
      · exact ⟨_, hk, fun e => (by cases e), (ren_all hkp _).symm⟩
      · exact ⟨_, e0, fun e => (by cases e), (ren_all q0 _).symm⟩
      · exact ⟨_, e1, fun e => (by cases e), (ren_all q1 _).symm⟩
      · exact ⟨_, e2, fun e => (by cases e), (ren_all q2 _).symm⟩
    all_goals
      have := hl.ro _ (lk_mem _ _ _ hb)
      simp only at this
      rw [this] at hrw; cases hrw
  have hb : ∀ j, j < 3 → Byt (ff j) := fun j hj => by
    have : j = 0 ∨ j = 1 ∨ j = 2 := by omega
    rcases this with rfl | rfl | rfl
    · exact b0
    · exact b1
    · exact b2
  have hmac := mac_m (c := c) (tk := 1) (ok := ok) (nk := nk) (ck := ck) (key := key) hl (by decide) (by decide) (by decide) (by show 0 + n0 + n1 + n2 < _; omega) hb rfl hkp hkey hkb hnk hck
  have hcat : macW kW ivW key nk (catN nn ff 3) (totN nn 3) = macW kW ivW key nk (joinB (n0 + n1) (joinB n0 f0 f1) f2) (n0 + n1 + n2) := by
    have e1 : totN nn 3 = n0 + n1 + n2 := by show 0 + n0 + n1 + n2 = _; omega
    rw [e1]
    refine macW_cong (fun _ _ => rfl) fun i hi => ?_
    show joinB (0 + n0 + n1) (joinB (0 + n0) (joinB 0 (fun _ => 0) f0) f1) f2 i = _
    rw [Nat.zero_add]
    simp only [joinB]
    split
    · split
      · rw [if_neg (by omega), Nat.sub_zero]
      · rfl
    · rfl
  rw [hcat] at hmac
  exact hmac.vcRead (five t0 tk u0 u1 u2) hfit plainI rfl hK
theorem byteB (x : Int) : 0 ≤ IntKind.u8.wrap x ∧ IntKind.u8.wrap x < 256 := by rw [wrap_u8]; omega
theorem byteS (x : Int) : IntKind.u8.wrap (IntKind.u8.wrap x + 1) = IntKind.u8.wrap (x + 1) := by simp only [wrap_u8]; omega
theorem build3 {v : Value} {a b c : SV} : splice (splice (splice (zerosL [v] 3) 0 [a]) 1 [b]) 2 [c] = [a, b, c] := rfl
theorem okm_at {K V p info : Nat → Int} {m k i : Nat} (h : i < 32) : okmW K V p info m (32 * k + i) = hkT K V p info m (k + 1) i := by
  simp only [okmW]; rw [show (32 * k + i) / 32 = k by omega, show (32 * k + i) % 32 = i by omega]
/-- What the expansion's loop holds: the bytes so far, and the last part. -/
def okmV (k c : Nat) : AV := if k = 0 then V (.slice none 0 0) else Sl 30 0 (32 * k) c
def lastV (k : Nat) : AV := if k = 0 then V (.slice none 0 0) else Sl 31 0 32 32
def okmBox (k : Nat) (cs : List SV) (T : Nat → Int) : List (Nat × Box) := if k = 0 then [] else [(30, ⟨true, cs⟩), (31, ⟨true, rowI .u8 32 T⟩)]
set_option maxHeartbeats 8000000 in
set_option maxRecDepth 20000 in
theorem expand_m {o m c n : Nat} {p info : Nat → Int} {cs : List SV} (hpb : Byt p) (hib : Byt info) (hc : Shows cs o m info) (hp : cs.all SV.plain = true) (hm : m < 10000000) (hn : n ≤ 8160) :
    MFun Tryd.prog 20 [Ag (rowI .u8 32 p), Sl 0 o m c, I .i64 n] 1 (lk [(0, ⟨false, cs⟩)]) (Bytes 1 n (okmW kW ivW p info m)) := by
  refine mfun_of_vc Tryd.func20 rfl (by kernel_rfl) (by simp [Tryd.ntmps20]) Tryd.callable20 (fun u hu => by
    simp only [List.mem_cons, List.not_mem_nil, or_false] at hu
    rcases hu with rfl | rfl | rfl
    · exact ok_all plainI
    · exact (by decide : 0 < 1)
    · trivial) all1 (inn1 hp) ?_
  have ok1 : ∀ {M : Nat → Prop}, (∀ x ∈ cs, SV.ok M x) = True := eq_true (ok_all hp)
  simp only [Tryd.results20, sn_upto, sn_from, slN_def, run_cap, rules, rules2, loopRules, Tryd.facts, base0, Int.toNat_zero, Nat.reduceAdd, Nat.reduceMul, Nat.reduceSub, Nat.reduceLT, Nat.reduceLeDiff, Nat.reduceEqDiff, Int.reduceLE, Int.reduceLT, Int.reduceToNat, Int.reduceNe, Int.reduceEq, not_false_eq_true, Nat.reduceBEq, Nat.reduceDiv, Int.natCast_zero, Int.natCast_one, Int.reduceAdd, Int.reduceSub, reduceIte, ↓reduceIte, Value.oneCell', rowI_length, rowI_take, rowI_splice, rep_all, row_zero, le_nat, Int.toNat_natCast, Nat.zero_add, sok_row, reduceCtorEq]
  refine loop_anewR (β := Nat × List SV) ((n + 31) / 32) (fun k y => k = 0 ∨ Grows y.2 0 (32 * k) y.1 (okmW kW ivW p info m))
    (fun k y => [(1, Sl 0 o m c), (2, I .i64 n), (3, Ptr 1 0), (7, okmV k y.1), (8, lastV k), (9, I .u8 (IntKind.u8.wrap ((k + 1 : Nat) : Int)))])
    (fun k y => [(0, ⟨false, cs⟩), (1, ⟨true, rowI .u8 32 p⟩)] ++ okmBox k y.2 (hkT kW ivW p info m k)) 32 (0, []) ?_ ?_ ?_ ?_
  · refine ⟨.inl rfl, fun n => n, fun _ _ => rfl, ?_, ?_, ?_⟩
    · simp only [okmV, lastV, if_true, ren_s, ren_i, ren_p, ren_v, sn_upto, sn_from, slN_def, run_cap, rules, rules2, loopRules, Tryd.facts, base0, Int.toNat_zero, Nat.reduceAdd, Nat.reduceMul, Nat.reduceSub, Nat.reduceLT, Nat.reduceLeDiff, Nat.reduceEqDiff, Int.reduceLE, Int.reduceLT, Int.reduceToNat, Int.reduceNe, Int.reduceEq, not_false_eq_true, Nat.reduceBEq, Nat.reduceDiv, Int.natCast_zero, Int.natCast_one, Int.reduceAdd, Int.reduceSub, reduceIte, ↓reduceIte, Value.oneCell', rowI_length, rowI_take, rowI_splice, rep_all, row_zero, le_nat, Int.toNat_natCast, Nat.zero_add, sok_row, reduceCtorEq]
      simp
      exact ⟨trivial, rfl⟩
    · simp only [okmBox, if_true, List.append_nil, rowI_plain, hp, sn_upto, sn_from, slN_def, run_cap, rules, rules2, loopRules, Tryd.facts, base0, Int.toNat_zero, Nat.reduceAdd, Nat.reduceMul, Nat.reduceSub, Nat.reduceLT, Nat.reduceLeDiff, Nat.reduceEqDiff, Int.reduceLE, Int.reduceLT, Int.reduceToNat, Int.reduceNe, Int.reduceEq, not_false_eq_true, Nat.reduceBEq, Nat.reduceDiv, Int.natCast_zero, Int.natCast_one, Int.reduceAdd, Int.reduceSub, reduceIte, ↓reduceIte, Value.oneCell', rowI_length, rowI_take, rowI_splice, rep_all, row_zero, le_nat, Int.toNat_natCast, Nat.zero_add, sok_row, reduceCtorEq]
    · simp only [okmBox, if_true, List.append_nil, sn_upto, sn_from, slN_def, run_cap, rules, rules2, loopRules, Tryd.facts, base0, Int.toNat_zero, Nat.reduceAdd, Nat.reduceMul, Nat.reduceSub, Nat.reduceLT, Nat.reduceLeDiff, Nat.reduceEqDiff, Int.reduceLE, Int.reduceLT, Int.reduceToNat, Int.reduceNe, Int.reduceEq, not_false_eq_true, Nat.reduceBEq, Nat.reduceDiv, Int.natCast_zero, Int.natCast_one, Int.reduceAdd, Int.reduceSub, reduceIte, ↓reduceIte, Value.oneCell', rowI_length, rowI_take, rowI_splice, rep_all, row_zero, le_nat, Int.toNat_natCast, Nat.zero_add, sok_row, reduceCtorEq]
      simp
  · rintro k ⟨c', cs'⟩ hk hinv
    simp only at hinv
    by_cases hk0 : k = 0
    · subst hk0
      have hn0 : 0 < n := by omega
      simp only [okmV, lastV, okmBox, if_true, List.append_nil, sn_upto, sn_from, slN_def, run_cap, rules, rules2, loopRules, Tryd.facts, base0, Int.toNat_zero, Nat.reduceAdd, Nat.reduceMul, Nat.reduceSub, Nat.reduceLT, Nat.reduceLeDiff, Nat.reduceEqDiff, Int.reduceLE, Int.reduceLT, Int.reduceToNat, Int.reduceNe, Int.reduceEq, not_false_eq_true, Nat.reduceBEq, Nat.reduceDiv, Int.natCast_zero, Int.natCast_one, Int.reduceAdd, Int.reduceSub, reduceIte, ↓reduceIte, Value.oneCell', rowI_length, rowI_take, rowI_splice, rep_all, row_zero, le_nat, Int.toNat_natCast, Nat.zero_add, sok_row, reduceCtorEq]
      refine vcIf_yes (by simp; omega) ?_
      simp only [sn_upto, sn_from, slN_def, run_cap, rules, rules2, loopRules, Tryd.facts, base0, Int.toNat_zero, Nat.reduceAdd, Nat.reduceMul, Nat.reduceSub, Nat.reduceLT, Nat.reduceLeDiff, Nat.reduceEqDiff, Int.reduceLE, Int.reduceLT, Int.reduceToNat, Int.reduceNe, Int.reduceEq, not_false_eq_true, Nat.reduceBEq, Nat.reduceDiv, Int.natCast_zero, Int.natCast_one, Int.reduceAdd, Int.reduceSub, reduceIte, ↓reduceIte, Value.oneCell', rowI_length, rowI_take, rowI_splice, rep_all, row_zero, le_nat, Int.toNat_natCast, Nat.zero_add, sok_row, reduceCtorEq]
      refine ⟨show 1 ≤ 3 by decide, show 2 ≤ 3 by decide, show 3 ≤ 3 by decide, ?_⟩
      refine mac3_call (t0 := 41) (tk := 1) (rw0 := true) (rwk := true) (csk := rowI .u8 32 p) (key := p) (n0 := 0) (n1 := m) (n2 := 1) (f0 := fun _ => 0) (f1 := info) (f2 := fun _ => IntKind.u8.wrap ((0 + 1 : Nat) : Int)) (by simp only [upd_apply, build3, sn_upto, sn_from, slN_def, run_cap, rules, rules2, loopRules, Tryd.facts, base0, Int.toNat_zero, Nat.reduceAdd, Nat.reduceMul, Nat.reduceSub, Nat.reduceLT, Nat.reduceLeDiff, Nat.reduceEqDiff, Int.reduceLE, Int.reduceLT, Int.reduceToNat, Int.reduceNe, Int.reduceEq, not_false_eq_true, Nat.reduceBEq, Nat.reduceDiv, Int.natCast_zero, Int.natCast_one, Int.reduceAdd, Int.reduceSub, reduceIte, ↓reduceIte, Value.oneCell', rowI_length, rowI_take, rowI_splice, rep_all, row_zero, le_nat, Int.toNat_natCast, Nat.zero_add, sok_row, reduceCtorEq]; rfl) rfl
        (.inl ⟨⟨_, rfl⟩, rfl⟩) (.inr ⟨0, o, c, false, cs, rfl, by simp only [upd_apply, sn_upto, sn_from, slN_def, run_cap, rules, rules2, loopRules, Tryd.facts, base0, Int.toNat_zero, Nat.reduceAdd, Nat.reduceMul, Nat.reduceSub, Nat.reduceLT, Nat.reduceLeDiff, Nat.reduceEqDiff, Int.reduceLE, Int.reduceLT, Int.reduceToNat, Int.reduceNe, Int.reduceEq, not_false_eq_true, Nat.reduceBEq, Nat.reduceDiv, Int.natCast_zero, Int.natCast_one, Int.reduceAdd, Int.reduceSub, reduceIte, ↓reduceIte, Value.oneCell', rowI_length, rowI_take, rowI_splice, rep_all, row_zero, le_nat, Int.toNat_natCast, Nat.zero_add, sok_row, reduceCtorEq], hp, hc⟩) (.inr ⟨40, 0, 1, true, [Sum.inl (.int .u8 (IntKind.u8.wrap ((0 + 1 : Nat) : Int)))], rfl, by simp only [upd_apply, splice_one, sn_upto, sn_from, slN_def, run_cap, rules, rules2, loopRules, Tryd.facts, base0, Int.toNat_zero, Nat.reduceAdd, Nat.reduceMul, Nat.reduceSub, Nat.reduceLT, Nat.reduceLeDiff, Nat.reduceEqDiff, Int.reduceLE, Int.reduceLT, Int.reduceToNat, Int.reduceNe, Int.reduceEq, not_false_eq_true, Nat.reduceBEq, Nat.reduceDiv, Int.natCast_zero, Int.natCast_one, Int.reduceAdd, Int.reduceSub, reduceIte, ↓reduceIte, Value.oneCell', rowI_length, rowI_take, rowI_splice, rep_all, row_zero, le_nat, Int.toNat_natCast, Nat.zero_add, sok_row, reduceCtorEq], rfl, shows_one⟩)
        (fun _ => ⟨Int.le_refl 0, by show (0 : Int) < 256; decide⟩) hib (fun _ => byteB _) (by simp only [upd_apply, sn_upto, sn_from, slN_def, run_cap, rules, rules2, loopRules, Tryd.facts, base0, Int.toNat_zero, Nat.reduceAdd, Nat.reduceMul, Nat.reduceSub, Nat.reduceLT, Nat.reduceLeDiff, Nat.reduceEqDiff, Int.reduceLE, Int.reduceLT, Int.reduceToNat, Int.reduceNe, Int.reduceEq, not_false_eq_true, Nat.reduceBEq, Nat.reduceDiv, Int.natCast_zero, Int.natCast_one, Int.reduceAdd, Int.reduceSub, reduceIte, ↓reduceIte, Value.oneCell', rowI_length, rowI_take, rowI_splice, rep_all, row_zero, le_nat, Int.toNat_natCast, Nat.zero_add, sok_row, reduceCtorEq]) plainI shows_row0 hpb (by decide) (by decide) (by omega) ?_
      have hT : macW kW ivW p 32 (joinB (0 + m) (joinB 0 (fun _ => 0) info) (fun _ => IntKind.u8.wrap ((0 + 1 : Nat) : Int))) (0 + m + 1) = hkT kW ivW p info m 1 := by
        show _ = macW kW ivW p 32 (joinB m info (fun _ => 1)) (0 + (m + 1))
        rw [show 0 + (m + 1) = 0 + m + 1 by omega]
        refine macW_cong (fun _ _ => rfl) fun i hi => ?_
        simp only [joinB, Nat.zero_add, Nat.not_lt_zero, if_false, Nat.sub_zero]
        rfl
      rw [hT]
      have hTb := hkT_byt kW ivW p info m 1
      generalize hTe : hkT kW ivW p info m 1 = T at *
      simp only [sn_upto, sn_from, slN_def, run_cap, rules, rules2, loopRules, Tryd.facts, base0, Int.toNat_zero, Nat.reduceAdd, Nat.reduceMul, Nat.reduceSub, Nat.reduceLT, Nat.reduceLeDiff, Nat.reduceEqDiff, Int.reduceLE, Int.reduceLT, Int.reduceToNat, Int.reduceNe, Int.reduceEq, not_false_eq_true, Nat.reduceBEq, Nat.reduceDiv, Int.natCast_zero, Int.natCast_one, Int.reduceAdd, Int.reduceSub, reduceIte, ↓reduceIte, Value.oneCell', rowI_length, rowI_take, rowI_splice, rep_all, row_zero, le_nat, Int.toNat_natCast, Nat.zero_add, sok_row, reduceCtorEq]
      refine append_nb (m := 32) (g := T) Tryd.mkK34 Tryd.slK34 (.inr ⟨43, 0, 32, true, rowI .u8 32 T, rfl, by simp only [upd_apply, sn_upto, sn_from, slN_def, run_cap, rules, rules2, loopRules, Tryd.facts, base0, Int.toNat_zero, Nat.reduceAdd, Nat.reduceMul, Nat.reduceSub, Nat.reduceLT, Nat.reduceLeDiff, Nat.reduceEqDiff, Int.reduceLE, Int.reduceLT, Int.reduceToNat, Int.reduceNe, Int.reduceEq, not_false_eq_true, Nat.reduceBEq, Nat.reduceDiv, Int.natCast_zero, Int.natCast_one, Int.reduceAdd, Int.reduceSub, reduceIte, ↓reduceIte, Value.oneCell', rowI_length, rowI_take, rowI_splice, rep_all, row_zero, le_nat, Int.toNat_natCast, Nat.zero_add, sok_row, reduceCtorEq], plainI, shows_row0⟩) (by decide) (fun h => absurd h (by decide)) ?_
      intro _ c2 cs2 hg2
      simp only [sn_upto, sn_from, slN_def, run_cap, rules, rules2, loopRules, Tryd.facts, base0, Int.toNat_zero, Nat.reduceAdd, Nat.reduceMul, Nat.reduceSub, Nat.reduceLT, Nat.reduceLeDiff, Nat.reduceEqDiff, Int.reduceLE, Int.reduceLT, Int.reduceToNat, Int.reduceNe, Int.reduceEq, not_false_eq_true, Nat.reduceBEq, Nat.reduceDiv, Int.natCast_zero, Int.natCast_one, Int.reduceAdd, Int.reduceSub, reduceIte, ↓reduceIte, Value.oneCell', rowI_length, rowI_take, rowI_splice, rep_all, row_zero, le_nat, Int.toNat_natCast, Nat.zero_add, sok_row, reduceCtorEq]
      refine ⟨(c2, cs2), .inr (hg2.congr (by omega) fun i hi => ?_), fun x => if x = 30 then 49 else if x = 31 then 43 else x, fun x hx => ?_, ?_, ?_, ?_⟩
      · have h := okm_at (K := kW) (V := ivW) (p := p) (info := info) (m := m) (k := 0) hi
        rw [show 32 * 0 + i = i by omega] at h
        rw [h]; exact congrFun hTe.symm i
      · simp only; rw [if_neg (by omega), if_neg (by omega)]
      · simp only [ren_s, ren_i, ren_p, ren_v, byteS, sn_upto, sn_from, slN_def, run_cap, rules, rules2, loopRules, Tryd.facts, base0, Int.toNat_zero, Nat.reduceAdd, Nat.reduceMul, Nat.reduceSub, Nat.reduceLT, Nat.reduceLeDiff, Nat.reduceEqDiff, Int.reduceLE, Int.reduceLT, Int.reduceToNat, Int.reduceNe, Int.reduceEq, not_false_eq_true, Nat.reduceBEq, Nat.reduceDiv, Int.natCast_zero, Int.natCast_one, Int.reduceAdd, Int.reduceSub, reduceIte, ↓reduceIte, Value.oneCell', rowI_length, rowI_take, rowI_splice, rep_all, row_zero, le_nat, Int.toNat_natCast, Nat.zero_add, sok_row, reduceCtorEq]
      · simp only [hg2.plain, rowI_plain, hp, sn_upto, sn_from, slN_def, run_cap, rules, rules2, loopRules, Tryd.facts, base0, Int.toNat_zero, Nat.reduceAdd, Nat.reduceMul, Nat.reduceSub, Nat.reduceLT, Nat.reduceLeDiff, Nat.reduceEqDiff, Int.reduceLE, Int.reduceLT, Int.reduceToNat, Int.reduceNe, Int.reduceEq, not_false_eq_true, Nat.reduceBEq, Nat.reduceDiv, Int.natCast_zero, Int.natCast_one, Int.reduceAdd, Int.reduceSub, reduceIte, ↓reduceIte, Value.oneCell', rowI_length, rowI_take, rowI_splice, rep_all, row_zero, le_nat, Int.toNat_natCast, Nat.zero_add, sok_row, reduceCtorEq]
      · simp only [sn_upto, sn_from, slN_def, run_cap, rules, rules2, loopRules, Tryd.facts, base0, Int.toNat_zero, Nat.reduceAdd, Nat.reduceMul, Nat.reduceSub, Nat.reduceLT, Nat.reduceLeDiff, Nat.reduceEqDiff, Int.reduceLE, Int.reduceLT, Int.reduceToNat, Int.reduceNe, Int.reduceEq, not_false_eq_true, Nat.reduceBEq, Nat.reduceDiv, Int.natCast_zero, Int.natCast_one, Int.reduceAdd, Int.reduceSub, reduceIte, ↓reduceIte, Value.oneCell', rowI_length, rowI_take, rowI_splice, rep_all, row_zero, le_nat, Int.toNat_natCast, Nat.zero_add, sok_row, reduceCtorEq]
        simp
    · simp only [okmV, lastV, okmBox, if_neg hk0, if_neg (Nat.succ_ne_zero k), List.cons_append, List.nil_append, sn_upto, sn_from, slN_def, run_cap, rules, rules2, loopRules, Tryd.facts, base0, Int.toNat_zero, Nat.reduceAdd, Nat.reduceMul, Nat.reduceSub, Nat.reduceLT, Nat.reduceLeDiff, Nat.reduceEqDiff, Int.reduceLE, Int.reduceLT, Int.reduceToNat, Int.reduceNe, Int.reduceEq, not_false_eq_true, Nat.reduceBEq, Nat.reduceDiv, Int.natCast_zero, Int.natCast_one, Int.reduceAdd, Int.reduceSub, reduceIte, ↓reduceIte, Value.oneCell', rowI_length, rowI_take, rowI_splice, rep_all, row_zero, le_nat, Int.toNat_natCast, Nat.zero_add, sok_row, reduceCtorEq]
      refine vcIf_yes (by simp; omega) ?_
      simp only [sn_upto, sn_from, slN_def, run_cap, rules, rules2, loopRules, Tryd.facts, base0, Int.toNat_zero, Nat.reduceAdd, Nat.reduceMul, Nat.reduceSub, Nat.reduceLT, Nat.reduceLeDiff, Nat.reduceEqDiff, Int.reduceLE, Int.reduceLT, Int.reduceToNat, Int.reduceNe, Int.reduceEq, not_false_eq_true, Nat.reduceBEq, Nat.reduceDiv, Int.natCast_zero, Int.natCast_one, Int.reduceAdd, Int.reduceSub, reduceIte, ↓reduceIte, Value.oneCell', rowI_length, rowI_take, rowI_splice, rep_all, row_zero, le_nat, Int.toNat_natCast, Nat.zero_add, sok_row, reduceCtorEq]
      refine ⟨show 1 ≤ 3 by decide, show 2 ≤ 3 by decide, show 3 ≤ 3 by decide, ?_⟩
      refine mac3_call (t0 := 41) (tk := 1) (rw0 := true) (rwk := true) (csk := rowI .u8 32 p) (key := p) (n0 := 32) (n1 := m) (n2 := 1) (f0 := hkT kW ivW p info m k) (f1 := info) (f2 := fun _ => IntKind.u8.wrap ((k + 1 : Nat) : Int)) (by simp only [upd_apply, build3, sn_upto, sn_from, slN_def, run_cap, rules, rules2, loopRules, Tryd.facts, base0, Int.toNat_zero, Nat.reduceAdd, Nat.reduceMul, Nat.reduceSub, Nat.reduceLT, Nat.reduceLeDiff, Nat.reduceEqDiff, Int.reduceLE, Int.reduceLT, Int.reduceToNat, Int.reduceNe, Int.reduceEq, not_false_eq_true, Nat.reduceBEq, Nat.reduceDiv, Int.natCast_zero, Int.natCast_one, Int.reduceAdd, Int.reduceSub, reduceIte, ↓reduceIte, Value.oneCell', rowI_length, rowI_take, rowI_splice, rep_all, row_zero, le_nat, Int.toNat_natCast, Nat.zero_add, sok_row, reduceCtorEq]) rfl
        (.inr ⟨31, 0, 32, true, rowI .u8 32 (hkT kW ivW p info m k), rfl, by simp only [upd_apply, sn_upto, sn_from, slN_def, run_cap, rules, rules2, loopRules, Tryd.facts, base0, Int.toNat_zero, Nat.reduceAdd, Nat.reduceMul, Nat.reduceSub, Nat.reduceLT, Nat.reduceLeDiff, Nat.reduceEqDiff, Int.reduceLE, Int.reduceLT, Int.reduceToNat, Int.reduceNe, Int.reduceEq, not_false_eq_true, Nat.reduceBEq, Nat.reduceDiv, Int.natCast_zero, Int.natCast_one, Int.reduceAdd, Int.reduceSub, reduceIte, ↓reduceIte, Value.oneCell', rowI_length, rowI_take, rowI_splice, rep_all, row_zero, le_nat, Int.toNat_natCast, Nat.zero_add, sok_row, reduceCtorEq], plainI, shows_row0⟩) (.inr ⟨0, o, c, false, cs, rfl, by simp only [upd_apply, sn_upto, sn_from, slN_def, run_cap, rules, rules2, loopRules, Tryd.facts, base0, Int.toNat_zero, Nat.reduceAdd, Nat.reduceMul, Nat.reduceSub, Nat.reduceLT, Nat.reduceLeDiff, Nat.reduceEqDiff, Int.reduceLE, Int.reduceLT, Int.reduceToNat, Int.reduceNe, Int.reduceEq, not_false_eq_true, Nat.reduceBEq, Nat.reduceDiv, Int.natCast_zero, Int.natCast_one, Int.reduceAdd, Int.reduceSub, reduceIte, ↓reduceIte, Value.oneCell', rowI_length, rowI_take, rowI_splice, rep_all, row_zero, le_nat, Int.toNat_natCast, Nat.zero_add, sok_row, reduceCtorEq], hp, hc⟩) (.inr ⟨40, 0, 1, true, [Sum.inl (.int .u8 (IntKind.u8.wrap ((k + 1 : Nat) : Int)))], rfl, by simp only [upd_apply, splice_one, sn_upto, sn_from, slN_def, run_cap, rules, rules2, loopRules, Tryd.facts, base0, Int.toNat_zero, Nat.reduceAdd, Nat.reduceMul, Nat.reduceSub, Nat.reduceLT, Nat.reduceLeDiff, Nat.reduceEqDiff, Int.reduceLE, Int.reduceLT, Int.reduceToNat, Int.reduceNe, Int.reduceEq, not_false_eq_true, Nat.reduceBEq, Nat.reduceDiv, Int.natCast_zero, Int.natCast_one, Int.reduceAdd, Int.reduceSub, reduceIte, ↓reduceIte, Value.oneCell', rowI_length, rowI_take, rowI_splice, rep_all, row_zero, le_nat, Int.toNat_natCast, Nat.zero_add, sok_row, reduceCtorEq], rfl, shows_one⟩)
        (hkT_byt _ _ _ _ _ _) hib (fun _ => byteB _) (by simp only [upd_apply, sn_upto, sn_from, slN_def, run_cap, rules, rules2, loopRules, Tryd.facts, base0, Int.toNat_zero, Nat.reduceAdd, Nat.reduceMul, Nat.reduceSub, Nat.reduceLT, Nat.reduceLeDiff, Nat.reduceEqDiff, Int.reduceLE, Int.reduceLT, Int.reduceToNat, Int.reduceNe, Int.reduceEq, not_false_eq_true, Nat.reduceBEq, Nat.reduceDiv, Int.natCast_zero, Int.natCast_one, Int.reduceAdd, Int.reduceSub, reduceIte, ↓reduceIte, Value.oneCell', rowI_length, rowI_take, rowI_splice, rep_all, row_zero, le_nat, Int.toNat_natCast, Nat.zero_add, sok_row, reduceCtorEq]) plainI shows_row0 hpb (by decide) (by decide) (by omega) ?_
      have hT : macW kW ivW p 32 (joinB (32 + m) (joinB 32 (hkT kW ivW p info m k) info) (fun _ => IntKind.u8.wrap ((k + 1 : Nat) : Int))) (32 + m + 1) = hkT kW ivW p info m (k + 1) := by
        show _ = macW kW ivW p 32 (if k = 0 then _ else joinB 32 (hkT kW ivW p info m k) (joinB m info (fun _ => IntKind.u8.wrap ((k + 1 : Nat) : Int)))) ((if k = 0 then 0 else 32) + (m + 1))
        rw [if_neg hk0, if_neg hk0, show 32 + (m + 1) = 32 + m + 1 by omega]
        refine macW_cong (fun _ _ => rfl) fun i hi => ?_
        simp only [joinB]
        by_cases h1 : i < 32
        · rw [if_pos (by omega), if_pos h1, if_pos h1]
        · rw [if_neg h1, if_neg h1]
          by_cases h2 : i < 32 + m
          · rw [if_pos h2, if_pos (by omega)]
          · rw [if_neg h2, if_neg (by omega)]
      rw [hT]
      have hg := hinv.resolve_left hk0
      obtain ⟨T, hTe⟩ : ∃ T, hkT kW ivW p info m (k + 1) = T := ⟨_, rfl⟩
      rw [hTe]
      simp only [sn_upto, sn_from, slN_def, run_cap, rules, rules2, loopRules, Tryd.facts, base0, Int.toNat_zero, Nat.reduceAdd, Nat.reduceMul, Nat.reduceSub, Nat.reduceLT, Nat.reduceLeDiff, Nat.reduceEqDiff, Int.reduceLE, Int.reduceLT, Int.reduceToNat, Int.reduceNe, Int.reduceEq, not_false_eq_true, Nat.reduceBEq, Nat.reduceDiv, Int.natCast_zero, Int.natCast_one, Int.reduceAdd, Int.reduceSub, reduceIte, ↓reduceIte, Value.oneCell', rowI_length, rowI_take, rowI_splice, rep_all, row_zero, le_nat, Int.toNat_natCast, Nat.zero_add, sok_row, reduceCtorEq]
      refine append_b (b := 30) (g := T) Tryd.mkK34 Tryd.slK34 (by simp only [upd_apply, sn_upto, sn_from, slN_def, run_cap, rules, rules2, loopRules, Tryd.facts, base0, Int.toNat_zero, Nat.reduceAdd, Nat.reduceMul, Nat.reduceSub, Nat.reduceLT, Nat.reduceLeDiff, Nat.reduceEqDiff, Int.reduceLE, Int.reduceLT, Int.reduceToNat, Int.reduceNe, Int.reduceEq, not_false_eq_true, Nat.reduceBEq, Nat.reduceDiv, Int.natCast_zero, Int.natCast_one, Int.reduceAdd, Int.reduceSub, reduceIte, ↓reduceIte, Value.oneCell', rowI_length, rowI_take, rowI_splice, rep_all, row_zero, le_nat, Int.toNat_natCast, Nat.zero_add, sok_row, reduceCtorEq]) hg (.inr ⟨43, 0, 32, true, rowI .u8 32 T, rfl, by simp only [upd_apply, sn_upto, sn_from, slN_def, run_cap, rules, rules2, loopRules, Tryd.facts, base0, Int.toNat_zero, Nat.reduceAdd, Nat.reduceMul, Nat.reduceSub, Nat.reduceLT, Nat.reduceLeDiff, Nat.reduceEqDiff, Int.reduceLE, Int.reduceLT, Int.reduceToNat, Int.reduceNe, Int.reduceEq, not_false_eq_true, Nat.reduceBEq, Nat.reduceDiv, Int.natCast_zero, Int.natCast_one, Int.reduceAdd, Int.reduceSub, reduceIte, ↓reduceIte, Value.oneCell', rowI_length, rowI_take, rowI_splice, rep_all, row_zero, le_nat, Int.toNat_natCast, Nat.zero_add, sok_row, reduceCtorEq], shows_row0, by decide⟩) (by omega) ?_
      intro c2 cs2 hg2
      simp only [sn_upto, sn_from, slN_def, run_cap, rules, rules2, loopRules, Tryd.facts, base0, Int.toNat_zero, Nat.reduceAdd, Nat.reduceMul, Nat.reduceSub, Nat.reduceLT, Nat.reduceLeDiff, Nat.reduceEqDiff, Int.reduceLE, Int.reduceLT, Int.reduceToNat, Int.reduceNe, Int.reduceEq, not_false_eq_true, Nat.reduceBEq, Nat.reduceDiv, Int.natCast_zero, Int.natCast_one, Int.reduceAdd, Int.reduceSub, reduceIte, ↓reduceIte, Value.oneCell', rowI_length, rowI_take, rowI_splice, rep_all, row_zero, le_nat, Int.toNat_natCast, Nat.zero_add, sok_row, reduceCtorEq]
      refine ⟨(c2, cs2), .inr (hg2.congr (by omega) fun i hi => ?_), fun x => if x = 30 then 49 else if x = 31 then 43 else x, fun x hx => ?_, ?_, ?_, ?_⟩
      · simp only [joinB]
        split
        · rfl
        · have h := okm_at (K := kW) (V := ivW) (p := p) (info := info) (m := m) (k := k) (i := i - 32 * k) (by omega)
          rw [show 32 * k + (i - 32 * k) = i by omega] at h
          rw [h, hTe]
      · simp only; rw [if_neg (by omega), if_neg (by omega)]
      · simp only [ren_s, ren_i, ren_p, ren_v, byteS, sn_upto, sn_from, slN_def, run_cap, rules, rules2, loopRules, Tryd.facts, base0, Int.toNat_zero, Nat.reduceAdd, Nat.reduceMul, Nat.reduceSub, Nat.reduceLT, Nat.reduceLeDiff, Nat.reduceEqDiff, Int.reduceLE, Int.reduceLT, Int.reduceToNat, Int.reduceNe, Int.reduceEq, not_false_eq_true, Nat.reduceBEq, Nat.reduceDiv, Int.natCast_zero, Int.natCast_one, Int.reduceAdd, Int.reduceSub, reduceIte, ↓reduceIte, Value.oneCell', rowI_length, rowI_take, rowI_splice, rep_all, row_zero, le_nat, Int.toNat_natCast, Nat.zero_add, sok_row, reduceCtorEq]
        exact ⟨congrArg (fun z => some (Sl 49 0 z c2)) (by omega), congrArg (fun z => some (I .u8 (IntKind.u8.wrap z))) (by omega)⟩
      · simp only [hg2.plain, rowI_plain, hp, sn_upto, sn_from, slN_def, run_cap, rules, rules2, loopRules, Tryd.facts, base0, Int.toNat_zero, Nat.reduceAdd, Nat.reduceMul, Nat.reduceSub, Nat.reduceLT, Nat.reduceLeDiff, Nat.reduceEqDiff, Int.reduceLE, Int.reduceLT, Int.reduceToNat, Int.reduceNe, Int.reduceEq, not_false_eq_true, Nat.reduceBEq, Nat.reduceDiv, Int.natCast_zero, Int.natCast_one, Int.reduceAdd, Int.reduceSub, reduceIte, ↓reduceIte, Value.oneCell', rowI_length, rowI_take, rowI_splice, rep_all, row_zero, le_nat, Int.toNat_natCast, Nat.zero_add, sok_row, reduceCtorEq]
      · simp only [sn_upto, sn_from, slN_def, run_cap, rules, rules2, loopRules, Tryd.facts, base0, Int.toNat_zero, Nat.reduceAdd, Nat.reduceMul, Nat.reduceSub, Nat.reduceLT, Nat.reduceLeDiff, Nat.reduceEqDiff, Int.reduceLE, Int.reduceLT, Int.reduceToNat, Int.reduceNe, Int.reduceEq, not_false_eq_true, Nat.reduceBEq, Nat.reduceDiv, Int.natCast_zero, Int.natCast_one, Int.reduceAdd, Int.reduceSub, reduceIte, ↓reduceIte, Value.oneCell', rowI_length, rowI_take, rowI_splice, rep_all, row_zero, le_nat, Int.toNat_natCast, Nat.zero_add, sok_row, reduceCtorEq]
        simp
  · rintro ⟨c', cs'⟩ hinv
    simp only at hinv
    by_cases hk0 : (n + 31) / 32 = 0
    · have hn0 : n = 0 := by omega
      subst hn0
      simp only [okmV, lastV, okmBox, if_true, hk0, List.append_nil, sn_upto, sn_from, slN_def, run_cap, rules, rules2, loopRules, Tryd.facts, base0, Int.toNat_zero, Nat.reduceAdd, Nat.reduceMul, Nat.reduceSub, Nat.reduceLT, Nat.reduceLeDiff, Nat.reduceEqDiff, Int.reduceLE, Int.reduceLT, Int.reduceToNat, Int.reduceNe, Int.reduceEq, not_false_eq_true, Nat.reduceBEq, Nat.reduceDiv, Int.natCast_zero, Int.natCast_one, Int.reduceAdd, Int.reduceSub, reduceIte, ↓reduceIte, Value.oneCell', rowI_length, rowI_take, rowI_splice, rep_all, row_zero, le_nat, Int.toNat_natCast, Nat.zero_add, sok_row, reduceCtorEq]
      refine vcIf_no (by simp) ?_
      simp only [sn_upto, sn_from, slN_def, run_cap, rules, rules2, loopRules, Tryd.facts, base0, Int.toNat_zero, Nat.reduceAdd, Nat.reduceMul, Nat.reduceSub, Nat.reduceLT, Nat.reduceLeDiff, Nat.reduceEqDiff, Int.reduceLE, Int.reduceLT, Int.reduceToNat, Int.reduceNe, Int.reduceEq, not_false_eq_true, Nat.reduceBEq, Nat.reduceDiv, Int.natCast_zero, Int.natCast_one, Int.reduceAdd, Int.reduceSub, reduceIte, ↓reduceIte, Value.oneCell', rowI_length, rowI_take, rowI_splice, rep_all, row_zero, le_nat, Int.toNat_natCast, Nat.zero_add, sok_row, reduceCtorEq]
      exact ⟨1, V (.slice none 0 0), fun _ => none, Nat.le_refl _, rfl, trivial, fun n b hb => (by cases hb), .inl ⟨rfl, rfl, rfl⟩⟩
    · have hg := hinv.resolve_left hk0
      have hr := hg.room
      have l1 : ((n : Int) ≤ (c' : Int)) = True := eq_true (by omega)
      simp only [okmV, lastV, okmBox, if_neg hk0, List.cons_append, List.nil_append, sn_upto, sn_from, slN_def, run_cap, rules, rules2, loopRules, Tryd.facts, base0, Int.toNat_zero, Nat.reduceAdd, Nat.reduceMul, Nat.reduceSub, Nat.reduceLT, Nat.reduceLeDiff, Nat.reduceEqDiff, Int.reduceLE, Int.reduceLT, Int.reduceToNat, Int.reduceNe, Int.reduceEq, not_false_eq_true, Nat.reduceBEq, Nat.reduceDiv, Int.natCast_zero, Int.natCast_one, Int.reduceAdd, Int.reduceSub, reduceIte, ↓reduceIte, Value.oneCell', rowI_length, rowI_take, rowI_splice, rep_all, row_zero, le_nat, Int.toNat_natCast, Nat.zero_add, sok_row, reduceCtorEq]
      refine vcIf_no (by simp; omega) ?_
      simp only [nat_nn, l1, sn_upto, sn_from, slN_def, run_cap, rules, rules2, loopRules, Tryd.facts, base0, Int.toNat_zero, Nat.reduceAdd, Nat.reduceMul, Nat.reduceSub, Nat.reduceLT, Nat.reduceLeDiff, Nat.reduceEqDiff, Int.reduceLE, Int.reduceLT, Int.reduceToNat, Int.reduceNe, Int.reduceEq, not_false_eq_true, Nat.reduceBEq, Nat.reduceDiv, Int.natCast_zero, Int.natCast_one, Int.reduceAdd, Int.reduceSub, reduceIte, ↓reduceIte, Value.oneCell', rowI_length, rowI_take, rowI_splice, rep_all, row_zero, le_nat, Int.toNat_natCast, Nat.zero_add, sok_row, reduceCtorEq]
      exact ret_new (k := 1) (q := 30) (by decide) (by simp only [upd_apply, sn_upto, sn_from, slN_def, run_cap, rules, rules2, loopRules, Tryd.facts, base0, Int.toNat_zero, Nat.reduceAdd, Nat.reduceMul, Nat.reduceSub, Nat.reduceLT, Nat.reduceLeDiff, Nat.reduceEqDiff, Int.reduceLE, Int.reduceLT, Int.reduceToNat, Int.reduceNe, Int.reduceEq, not_false_eq_true, Nat.reduceBEq, Nat.reduceDiv, Int.natCast_zero, Int.natCast_one, Int.reduceAdd, Int.reduceSub, reduceIte, ↓reduceIte, Value.oneCell', rowI_length, rowI_take, rowI_splice, rep_all, row_zero, le_nat, Int.toNat_natCast, Nat.zero_add, sok_row, reduceCtorEq]) hg.plain (.inr (Grows.made ⟨hg.len, by omega, hg.plain, shows_mono hg.shows (by omega)⟩))
  · show 6 ≤ 32
    decide
def shortB (x : Int) (j : Nat) : Int := IntKind.u8.wrap (shrI .u32 x (24 - 8 * (j : Int)))
theorem shr0 (x : Int) : shrI .u32 x 0 = x := by
  have := shrI_eq .u32 x 0 (by decide)
  simpa using this
set_option maxHeartbeats 8000000 in
set_option maxRecDepth 20000 in
theorem short_m (x : Int) : MFun Tryd.prog 44 [I .u32 x] 0 (fun _ => none) (MadeX 0 4 (shortB x)) := by
  refine mfun_of_vc Tryd.func44 rfl (by kernel_rfl) (by simp [Tryd.ntmps44]) Tryd.callable44 (by simp [AV.ok, CV.ok, SV.names]) all0 inn0 ?_
  simp only [Tryd.results44, sn_upto, sn_from, slN_def, run_cap, rules, rules2, loopRules, Tryd.facts, base0, Int.toNat_zero, Nat.reduceAdd, Nat.reduceMul, Nat.reduceSub, Nat.reduceLT, Nat.reduceLeDiff, Nat.reduceEqDiff, Int.reduceLE, Int.reduceLT, Int.reduceToNat, Int.reduceNe, Int.reduceEq, not_false_eq_true, Nat.reduceBEq, Nat.reduceDiv, Int.natCast_zero, Int.natCast_one, Int.reduceAdd, Int.reduceSub, reduceIte, ↓reduceIte, Value.oneCell', splice, reduceCtorEq]
  have e3 : IntKind.u8.wrap x = shortB x 3 := by simp [shortB, shr0]
  refine ⟨by decide, by decide, by decide, by decide, ?_⟩
  refine ret_new (k := 0) (q := 12) (cs := rowI .u8 4 (shortB x)) (by decide) ?_ plainI ⟨rfl, rfl⟩
  rw [e3]
  simp only [upd_same]
  rfl
set_option maxHeartbeats 8000000 in
set_option maxRecDepth 20000 in
theorem long_m {l : Nat} (hl : l < 140737488355328) : MFun Tryd.prog 29 [I .u64 (IntKind.u64.wrap (IntKind.u64.wrap (l : Int) * 8))] 0 (fun _ => none) (Made 0 8 (lenB l)) := by
  refine mfun_of_vc Tryd.func29 rfl (by kernel_rfl) (by simp [Tryd.ntmps29]) Tryd.callable29 (by simp [AV.ok, CV.ok, SV.names]) all0 inn0 ?_
  simp only [Tryd.results29, sn_upto, sn_from, slN_def, run_cap, rules, rules2, loopRules, Tryd.facts, base0, Int.toNat_zero, Nat.reduceAdd, Nat.reduceMul, Nat.reduceSub, Nat.reduceLT, Nat.reduceLeDiff, Nat.reduceEqDiff, Int.reduceLE, Int.reduceLT, Int.reduceToNat, Int.reduceNe, Int.reduceEq, not_false_eq_true, Nat.reduceBEq, Nat.reduceDiv, Int.natCast_zero, Int.natCast_one, Int.reduceAdd, Int.reduceSub, reduceIte, ↓reduceIte, Value.oneCell', rowI_length, rowI_take, rowI_splice, rep_all, row_zero, le_nat, Int.toNat_natCast, Nat.zero_add, sok_row, reduceCtorEq]
  have e4 : ∀ x : Int, IntKind.u32.wrap x = x % 4294967296 := wrap_u32
  refine madeX_call (short_m _) (fun n => n) fits0 rfl ?_
  simp only [sn_upto, sn_from, slN_def, run_cap, rules, rules2, loopRules, Tryd.facts, base0, Int.toNat_zero, Nat.reduceAdd, Nat.reduceMul, Nat.reduceSub, Nat.reduceLT, Nat.reduceLeDiff, Nat.reduceEqDiff, Int.reduceLE, Int.reduceLT, Int.reduceToNat, Int.reduceNe, Int.reduceEq, not_false_eq_true, Nat.reduceBEq, Nat.reduceDiv, Int.natCast_zero, Int.natCast_one, Int.reduceAdd, Int.reduceSub, reduceIte, ↓reduceIte, Value.oneCell', rowI_length, rowI_take, rowI_splice, rep_all, row_zero, le_nat, Int.toNat_natCast, Nat.zero_add, sok_row, reduceCtorEq]
  refine madeX_call (short_m _) (fun n => n) fits0 rfl ?_
  simp only [sn_upto, sn_from, slN_def, run_cap, rules, rules2, loopRules, Tryd.facts, base0, Int.toNat_zero, Nat.reduceAdd, Nat.reduceMul, Nat.reduceSub, Nat.reduceLT, Nat.reduceLeDiff, Nat.reduceEqDiff, Int.reduceLE, Int.reduceLT, Int.reduceToNat, Int.reduceNe, Int.reduceEq, not_false_eq_true, Nat.reduceBEq, Nat.reduceDiv, Int.natCast_zero, Int.natCast_one, Int.reduceAdd, Int.reduceSub, reduceIte, ↓reduceIte, Value.oneCell', rowI_length, rowI_take, rowI_splice, rep_all, row_zero, le_nat, Int.toNat_natCast, Nat.zero_add, sok_row, reduceCtorEq]
  refine append_b (g := shortB (IntKind.u32.wrap (IntKind.u64.wrap (IntKind.u64.wrap (l : Int) * 8)))) Tryd.mkK34 Tryd.slK34 (f := shortB (IntKind.u32.wrap (shrI .u64 (IntKind.u64.wrap (IntKind.u64.wrap (l : Int) * 8)) 32))) (b := 4) (cs := rowI .u8 4 (shortB (IntKind.u32.wrap (shrI .u64 (IntKind.u64.wrap (IntKind.u64.wrap (l : Int) * 8)) 32)))) (by simp only [upd_apply, sn_upto, sn_from, slN_def, run_cap, rules, rules2, loopRules, Tryd.facts, base0, Int.toNat_zero, Nat.reduceAdd, Nat.reduceMul, Nat.reduceSub, Nat.reduceLT, Nat.reduceLeDiff, Nat.reduceEqDiff, Int.reduceLE, Int.reduceLT, Int.reduceToNat, Int.reduceNe, Int.reduceEq, not_false_eq_true, Nat.reduceBEq, Nat.reduceDiv, Int.natCast_zero, Int.natCast_one, Int.reduceAdd, Int.reduceSub, reduceIte, ↓reduceIte, Value.oneCell', rowI_length, rowI_take, rowI_splice, rep_all, row_zero, le_nat, Int.toNat_natCast, Nat.zero_add, sok_row, reduceCtorEq])
    ⟨by rw [rowI_length], by decide, plainI, shows_row0⟩ (.inr ⟨9, 0, 4, true, rowI .u8 4 (shortB (IntKind.u32.wrap (IntKind.u64.wrap (IntKind.u64.wrap (l : Int) * 8)))), rfl, by simp only [upd_apply, sn_upto, sn_from, slN_def, run_cap, rules, rules2, loopRules, Tryd.facts, base0, Int.toNat_zero, Nat.reduceAdd, Nat.reduceMul, Nat.reduceSub, Nat.reduceLT, Nat.reduceLeDiff, Nat.reduceEqDiff, Int.reduceLE, Int.reduceLT, Int.reduceToNat, Int.reduceNe, Int.reduceEq, not_false_eq_true, Nat.reduceBEq, Nat.reduceDiv, Int.natCast_zero, Int.natCast_one, Int.reduceAdd, Int.reduceSub, reduceIte, ↓reduceIte, Value.oneCell', rowI_length, rowI_take, rowI_splice, rep_all, row_zero, le_nat, Int.toNat_natCast, Nat.zero_add, sok_row, reduceCtorEq], shows_row0, by decide⟩) (by decide) ?_
  intro c2 cs2 hg2
  simp only [sn_upto, sn_from, slN_def, run_cap, rules, rules2, loopRules, Tryd.facts, base0, Int.toNat_zero, Nat.reduceAdd, Nat.reduceMul, Nat.reduceSub, Nat.reduceLT, Nat.reduceLeDiff, Nat.reduceEqDiff, Int.reduceLE, Int.reduceLT, Int.reduceToNat, Int.reduceNe, Int.reduceEq, not_false_eq_true, Nat.reduceBEq, Nat.reduceDiv, Int.natCast_zero, Int.natCast_one, Int.reduceAdd, Int.reduceSub, reduceIte, ↓reduceIte, Value.oneCell', rowI_length, rowI_take, rowI_splice, rep_all, row_zero, le_nat, Int.toNat_natCast, Nat.zero_add, sok_row, reduceCtorEq]
  refine ret_grows (k := 0) (by decide) (hg2.congr (m := 8) rfl fun i hi => ?_) (by simp only [upd_apply, sn_upto, sn_from, slN_def, run_cap, rules, rules2, loopRules, Tryd.facts, base0, Int.toNat_zero, Nat.reduceAdd, Nat.reduceMul, Nat.reduceSub, Nat.reduceLT, Nat.reduceLeDiff, Nat.reduceEqDiff, Int.reduceLE, Int.reduceLT, Int.reduceToNat, Int.reduceNe, Int.reduceEq, not_false_eq_true, Nat.reduceBEq, Nat.reduceDiv, Int.natCast_zero, Int.natCast_one, Int.reduceAdd, Int.reduceSub, reduceIte, ↓reduceIte, Value.oneCell', rowI_length, rowI_take, rowI_splice, rep_all, row_zero, le_nat, Int.toNat_natCast, Nat.zero_add, sok_row, reduceCtorEq]) rfl
  have w1 : IntKind.u64.wrap (IntKind.u64.wrap (l : Int) * 8) = (l : Int) * 8 := by rw [wrap_u64_in (l : Int) (by omega) (by omega), wrap_u64_in _ (by omega) (by omega)]
  have s32 : shrI .u64 ((l : Int) * 8) 32 = (l : Int) * 8 / 4294967296 := shrI_eq .u64 _ 32 (by decide)
  rw [w1, s32]
  have s24 : ∀ x : Int, shrI .u32 x 24 = x / 16777216 := fun x => shrI_eq .u32 x 24 (by decide)
  have s16 : ∀ x : Int, shrI .u32 x 16 = x / 65536 := fun x => shrI_eq .u32 x 16 (by decide)
  have s8 : ∀ x : Int, shrI .u32 x 8 = x / 256 := fun x => shrI_eq .u32 x 8 (by decide)
  have hc : i = 0 ∨ i = 1 ∨ i = 2 ∨ i = 3 ∨ i = 4 ∨ i = 5 ∨ i = 6 ∨ i = 7 := by omega
  rcases hc with rfl | rfl | rfl | rfl | rfl | rfl | rfl | rfl
  · show shortB _ 0 = _
    simp only [shortB, lenB]
    show IntKind.u8.wrap (shrI .u32 _ 24) = ((l * 8 / 72057594037927936 % 256 : Nat) : Int)
    rw [s24, e4, wrap_u8]; omega
  · show shortB _ 1 = _
    simp only [shortB, lenB]
    show IntKind.u8.wrap (shrI .u32 _ 16) = ((l * 8 / 281474976710656 % 256 : Nat) : Int)
    rw [s16, e4, wrap_u8]; omega
  · show shortB _ 2 = _
    simp only [shortB, lenB]
    show IntKind.u8.wrap (shrI .u32 _ 8) = ((l * 8 / 1099511627776 % 256 : Nat) : Int)
    rw [s8, e4, wrap_u8]; omega
  · show shortB _ 3 = _
    simp only [shortB, lenB]
    show IntKind.u8.wrap (shrI .u32 _ 0) = ((l * 8 / 4294967296 % 256 : Nat) : Int)
    rw [shr0, e4, wrap_u8]; omega
  · show shortB _ 0 = _
    simp only [shortB, lenB]
    show IntKind.u8.wrap (shrI .u32 _ 24) = ((l * 8 / 16777216 % 256 : Nat) : Int)
    rw [s24, e4, wrap_u8]; omega
  · show shortB _ 1 = _
    simp only [shortB, lenB]
    show IntKind.u8.wrap (shrI .u32 _ 16) = ((l * 8 / 65536 % 256 : Nat) : Int)
    rw [s16, e4, wrap_u8]; omega
  · show shortB _ 2 = _
    simp only [shortB, lenB]
    show IntKind.u8.wrap (shrI .u32 _ 8) = ((l * 8 / 256 % 256 : Nat) : Int)
    rw [s8, e4, wrap_u8]; omega
  · show shortB _ 3 = _
    simp only [shortB, lenB]
    show IntKind.u8.wrap (shrI .u32 _ 0) = ((l * 8 / 1 % 256 : Nat) : Int)
    rw [shr0, e4, wrap_u8]; omega
set_option maxHeartbeats 8000000 in
set_option maxRecDepth 20000 in
theorem refDigest_m {k n : Nat} {v : AV} {f : Nat → Int} {ins : Nat → Option Box} (hf : Byt f) (hv : BytesAt ins v n f) (hn : n < 100000000) (hok : AV.ok (fun n => n < k) v) (hall : ∀ n, n < k → ∃ b, ins n = some b) (hinn : ∀ n b, ins n = some b → n < k ∧ ∀ x ∈ b.cells, SV.ok (fun n => n < k) x) (hk : k ≤ 20) :
    MFun Tryd.prog 23 [v] k ins (fun u out => u = Ag (rowI .u8 32 (shaW kW ivW f n)) ∧ out = fun _ => none) := by
  refine mfun_of_vc Tryd.func23 rfl (by kernel_rfl) (by simp [Tryd.ntmps23]) Tryd.callable23 (fun u hu => by rw [List.mem_singleton.1 hu]; exact hok) hall hinn ?_
  simp only [Tryd.results23, sn_upto, sn_from, slN_def, run_cap, rules, rules2, loopRules, Tryd.facts, base0, Int.toNat_zero, Nat.reduceAdd, Nat.reduceMul, Nat.reduceSub, Nat.reduceLT, Nat.reduceLeDiff, Nat.reduceEqDiff, Int.reduceLE, Int.reduceLT, Int.reduceToNat, Int.reduceNe, Int.reduceEq, not_false_eq_true, Nat.reduceBEq, Nat.reduceDiv, Int.natCast_zero, Int.natCast_one, Int.reduceAdd, Int.reduceSub, reduceIte, ↓reduceIte, Value.oneCell', rowI_length, rowI_take, rowI_splice, rep_all, row_zero, le_nat, Int.toNat_natCast, Nat.zero_add, sok_row, reduceCtorEq]
  have hG0 : Grows (rowI .u8 0 (fun _ => 0)) 0 0 0 (fun _ => 0) := ⟨rfl, by decide, rfl, fun i hi => by omega⟩
  refine append_b (g := f) Tryd.mkK34 Tryd.slK34 (by simp only [upd_same]) hG0 (off_of_at hv hok (by omega) (fun t ht => by simp only [upd]; rw [if_neg (by omega), if_neg (by omega)])) (by omega) ?_
  intro c1 cs1 hg1
  replace hg1 := hg1.congr (m := n) (g := f) (by omega) (fun i hi => by simp [joinB])
  simp only [sn_upto, sn_from, slN_def, run_cap, rules, rules2, loopRules, Tryd.facts, base0, Int.toNat_zero, Nat.reduceAdd, Nat.reduceMul, Nat.reduceSub, Nat.reduceLT, Nat.reduceLeDiff, Nat.reduceEqDiff, Int.reduceLE, Int.reduceLT, Int.reduceToNat, Int.reduceNe, Int.reduceEq, not_false_eq_true, Nat.reduceBEq, Nat.reduceDiv, Int.natCast_zero, Int.natCast_one, Int.reduceAdd, Int.reduceSub, reduceIte, ↓reduceIte, Value.oneCell', rowI_length, rowI_take, rowI_splice, rep_all, row_zero, le_nat, Int.toNat_natCast, Nat.zero_add, sok_row, reduceCtorEq]
  refine append_b (g := fun _ => 128) Tryd.mkK34 Tryd.slK34 (by simp only [upd]; rw [if_neg (by omega)]; exact if_pos trivial) hg1 (.inr ⟨_, _, _, true, [Sum.inl (.int .u8 128)], rfl, by simp only [upd_same]; rfl, shows_one, by omega⟩) (by omega) ?_
  intro c2 cs2 hg2
  have eB : blocks n = (n + 8) / 64 + 1 := rfl
  replace hg2 := hg2.congr (m := n + 1 + 0) (g := padW f n) (by omega) (fun i hi => by
    simp only [joinB, padW]; split
    · rfl
    · rw [if_pos (by omega)])
  have hR : n + 1 ≤ 64 * blocks n - 8 := by omega
  simp only [sn_upto, sn_from, slN_def, run_cap, rules, rules2, loopRules, Tryd.facts, base0, Int.toNat_zero, Nat.reduceAdd, Nat.reduceMul, Nat.reduceSub, Nat.reduceLT, Nat.reduceLeDiff, Nat.reduceEqDiff, Int.reduceLE, Int.reduceLT, Int.reduceToNat, Int.reduceNe, Int.reduceEq, not_false_eq_true, Nat.reduceBEq, Nat.reduceDiv, Int.natCast_zero, Int.natCast_one, Int.reduceAdd, Int.reduceSub, reduceIte, ↓reduceIte, Value.oneCell', rowI_length, rowI_take, rowI_splice, rep_all, row_zero, le_nat, Int.toNat_natCast, Nat.zero_add, sok_row, reduceCtorEq]
  refine loop_anew (64 * blocks n - 8 - (n + 1)) (fun j (x : Nat × List SV) => Grows x.2 0 (n + 1 + j) x.1 (padW f n)) (fun j x => [(2, Ptr k 0), (0, v), (3, Sl 60 0 (n + 1 + j) x.1)]) (fun j x => [(60, ⟨true, x.2⟩), (k, ⟨true, rowI .u8 32 (fun _ => 0)⟩)]) 100 (c2, cs2) ⟨hg2, ?_⟩ ?_ ?_ (by show _ ≤ 100; simp only [AS.put]; omega)
  · refine ⟨60, k + 1 + 4 + 2, bringsTo_l (by simp only [AS.put]; omega) (by decide) ?_ (by simp only [upd_same]) hg2.plain ?_⟩
    · have e1 : AV.ren (upd (fun n => n) 60 (k + 1 + 4 + 2)) v = v := ren_low (fun n hn => upd_ne _ _ _ _ (by omega)) hok
      have e2 : AV.ok (fun n => n < 100) v := AV.ok_mono (fun n hn => by omega) hok
      simp [e1, e2, upd_apply, ren_p, ren_s, ok_ptr, ok_sl, ok_i]
      omega
    · have q1 : (k = k + 1 + 4 + 2) = False := eq_false (by omega)
      have q2 : (k = k + 1 + 2) = False := eq_false (by omega)
      have q3 : (k = k + 1 + 4 + 1) = False := eq_false (by omega)
      have q4 : (k = k + 1) = False := eq_false (by omega)
      simp [upd_apply, plainI, q1, q2, q3, q4]
      exact ⟨by omega, fun x hx => List.all_eq_true.1 plainI x hx⟩
  · rintro j ⟨c, cs⟩ hj hg
    have l1 : n + 1 + j < 64 * blocks n - 8 := by omega
    have r1 : (((n + 1 + j : Nat) : Int)).tmod 64 = (((n + 1 + j) % 64 : Nat) : Int) := remN (n + 1 + j) 64
    simp only [r1, sn_upto, sn_from, slN_def, run_cap, rules, rules2, loopRules, Tryd.facts, base0, Int.toNat_zero, Nat.reduceAdd, Nat.reduceMul, Nat.reduceSub, Nat.reduceLT, Nat.reduceLeDiff, Nat.reduceEqDiff, Int.reduceLE, Int.reduceLT, Int.reduceToNat, Int.reduceNe, Int.reduceEq, not_false_eq_true, Nat.reduceBEq, Nat.reduceDiv, Int.natCast_zero, Int.natCast_one, Int.reduceAdd, Int.reduceSub, reduceIte, ↓reduceIte, Value.oneCell', rowI_length, rowI_take, rowI_splice, rep_all, row_zero, le_nat, Int.toNat_natCast, Nat.zero_add, sok_row, reduceCtorEq]
    refine vcIf_yes (by simp; omega) ?_
    simp only [sn_upto, sn_from, slN_def, run_cap, rules, rules2, loopRules, Tryd.facts, base0, Int.toNat_zero, Nat.reduceAdd, Nat.reduceMul, Nat.reduceSub, Nat.reduceLT, Nat.reduceLeDiff, Nat.reduceEqDiff, Int.reduceLE, Int.reduceLT, Int.reduceToNat, Int.reduceNe, Int.reduceEq, not_false_eq_true, Nat.reduceBEq, Nat.reduceDiv, Int.natCast_zero, Int.natCast_one, Int.reduceAdd, Int.reduceSub, reduceIte, ↓reduceIte, Value.oneCell', rowI_length, rowI_take, rowI_splice, rep_all, row_zero, le_nat, Int.toNat_natCast, Nat.zero_add, sok_row, reduceCtorEq]
    refine append_b (g := fun _ => 0) Tryd.mkK34 Tryd.slK34 (by simp only [upd_apply, sn_upto, sn_from, slN_def, run_cap, rules, rules2, loopRules, Tryd.facts, base0, Int.toNat_zero, Nat.reduceAdd, Nat.reduceMul, Nat.reduceSub, Nat.reduceLT, Nat.reduceLeDiff, Nat.reduceEqDiff, Int.reduceLE, Int.reduceLT, Int.reduceToNat, Int.reduceNe, Int.reduceEq, not_false_eq_true, Nat.reduceBEq, Nat.reduceDiv, Int.natCast_zero, Int.natCast_one, Int.reduceAdd, Int.reduceSub, reduceIte, ↓reduceIte, Value.oneCell', rowI_length, rowI_take, rowI_splice, rep_all, row_zero, le_nat, Int.toNat_natCast, Nat.zero_add, sok_row, reduceCtorEq]) hg (.inr ⟨_, _, _, true, [Sum.inl (.int .u8 0)], rfl, by simp only [upd_same]; rfl, shows_one, by omega⟩) (by omega) ?_
    intro c3 cs3 hg3
    simp only [sn_upto, sn_from, slN_def, run_cap, rules, rules2, loopRules, Tryd.facts, base0, Int.toNat_zero, Nat.reduceAdd, Nat.reduceMul, Nat.reduceSub, Nat.reduceLT, Nat.reduceLeDiff, Nat.reduceEqDiff, Int.reduceLE, Int.reduceLT, Int.reduceToNat, Int.reduceNe, Int.reduceEq, not_false_eq_true, Nat.reduceBEq, Nat.reduceDiv, Int.natCast_zero, Int.natCast_one, Int.reduceAdd, Int.reduceSub, reduceIte, ↓reduceIte, Value.oneCell', rowI_length, rowI_take, rowI_splice, rep_all, row_zero, le_nat, Int.toNat_natCast, Nat.zero_add, sok_row, reduceCtorEq]
    refine ⟨(c3, cs3), hg3.congr (by omega) (fun i hi => ?_), 60, 106, bringsTo_l (by omega) (by decide) ?_ (by simp only [upd_same]) hg3.plain ?_⟩
    · simp only [joinB, padW]; split
      · rfl
      · rw [if_neg (by omega), if_neg (by omega), if_pos (by omega)]
    · have e1 : AV.ren (upd (fun n => n) 60 106) v = v := ren_low (fun n hn => upd_ne _ _ _ _ (by omega)) hok
      have e2 : AV.ok (fun n => n < 100) v := AV.ok_mono (fun n hn => by omega) hok
      simp [e1, e2, upd_apply, lk, ren_p, ren_s, ok_ptr, ok_sl, ok_i]
      omega
    · have q1 : (k = 106) = False := eq_false (by omega)
      have q2 : (k = 60) = False := eq_false (by omega)
      have q3 : (k = 105) = False := eq_false (by omega)
      simp [upd_apply, lk, plainI, q1, q2, q3]
      exact ⟨by omega, fun x hx => List.all_eq_true.1 plainI x hx⟩
  · rintro ⟨c, cs⟩ hg
    have l1 : n + 1 + (64 * blocks n - 8 - (n + 1)) = 64 * blocks n - 8 := by omega
    rw [l1] at hg
    have r1 : (((64 * blocks n - 8 : Nat) : Int)).tmod 64 = (((64 * blocks n - 8) % 64 : Nat) : Int) := remN (64 * blocks n - 8) 64
    simp only [l1, r1, sn_upto, sn_from, slN_def, run_cap, rules, rules2, loopRules, Tryd.facts, base0, Int.toNat_zero, Nat.reduceAdd, Nat.reduceMul, Nat.reduceSub, Nat.reduceLT, Nat.reduceLeDiff, Nat.reduceEqDiff, Int.reduceLE, Int.reduceLT, Int.reduceToNat, Int.reduceNe, Int.reduceEq, not_false_eq_true, Nat.reduceBEq, Nat.reduceDiv, Int.natCast_zero, Int.natCast_one, Int.reduceAdd, Int.reduceSub, reduceIte, ↓reduceIte, Value.oneCell', rowI_length, rowI_take, rowI_splice, rep_all, row_zero, le_nat, Int.toNat_natCast, Nat.zero_add, sok_row, reduceCtorEq]
    refine vcIf_no (by simp; omega) ?_
    simp only [at_len hv, sn_upto, sn_from, slN_def, run_cap, rules, rules2, loopRules, Tryd.facts, base0, Int.toNat_zero, Nat.reduceAdd, Nat.reduceMul, Nat.reduceSub, Nat.reduceLT, Nat.reduceLeDiff, Nat.reduceEqDiff, Int.reduceLE, Int.reduceLT, Int.reduceToNat, Int.reduceNe, Int.reduceEq, not_false_eq_true, Nat.reduceBEq, Nat.reduceDiv, Int.natCast_zero, Int.natCast_one, Int.reduceAdd, Int.reduceSub, reduceIte, ↓reduceIte, Value.oneCell', rowI_length, rowI_take, rowI_splice, rep_all, row_zero, le_nat, Int.toNat_natCast, Nat.zero_add, sok_row, reduceCtorEq]
    refine made_call (long_m (l := n) (by omega)) (fun n => n) fits0 rfl ?_
    intro c4 tail4 h41 h42 h43
    simp only [sn_upto, sn_from, slN_def, run_cap, rules, rules2, loopRules, Tryd.facts, base0, Int.toNat_zero, Nat.reduceAdd, Nat.reduceMul, Nat.reduceSub, Nat.reduceLT, Nat.reduceLeDiff, Nat.reduceEqDiff, Int.reduceLE, Int.reduceLT, Int.reduceToNat, Int.reduceNe, Int.reduceEq, not_false_eq_true, Nat.reduceBEq, Nat.reduceDiv, Int.natCast_zero, Int.natCast_one, Int.reduceAdd, Int.reduceSub, reduceIte, ↓reduceIte, Value.oneCell', rowI_length, rowI_take, rowI_splice, rep_all, row_zero, le_nat, Int.toNat_natCast, Nat.zero_add, sok_row, reduceCtorEq]
    refine append_b (g := lenB n) Tryd.mkK34 Tryd.slK34 (by simp only [upd_apply, sn_upto, sn_from, slN_def, run_cap, rules, rules2, loopRules, Tryd.facts, base0, Int.toNat_zero, Nat.reduceAdd, Nat.reduceMul, Nat.reduceSub, Nat.reduceLT, Nat.reduceLeDiff, Nat.reduceEqDiff, Int.reduceLE, Int.reduceLT, Int.reduceToNat, Int.reduceNe, Int.reduceEq, not_false_eq_true, Nat.reduceBEq, Nat.reduceDiv, Int.natCast_zero, Int.natCast_one, Int.reduceAdd, Int.reduceSub, reduceIte, ↓reduceIte, Value.oneCell', rowI_length, rowI_take, rowI_splice, rep_all, row_zero, le_nat, Int.toNat_natCast, Nat.zero_add, sok_row, reduceCtorEq]) hg (.inr ⟨_, _, _, true, rowI .u8 8 (lenB n) ++ tail4, rfl, by simp only [upd_same], shows_row, by decide⟩) (by omega) ?_
    intro c5 cs5 hg5
    replace hg5 := hg5.congr (m := 64 * blocks n) (g := padW f n) (by omega) (fun i hi => by
      simp only [joinB]; split
      · rfl
      · simp only [padW]; rw [if_neg (by omega), if_neg (by omega), if_neg (by omega)])
    simp only [sn_upto, sn_from, slN_def, run_cap, rules, rules2, loopRules, Tryd.facts, base0, Int.toNat_zero, Nat.reduceAdd, Nat.reduceMul, Nat.reduceSub, Nat.reduceLT, Nat.reduceLeDiff, Nat.reduceEqDiff, Int.reduceLE, Int.reduceLT, Int.reduceToNat, Int.reduceNe, Int.reduceEq, not_false_eq_true, Nat.reduceBEq, Nat.reduceDiv, Int.natCast_zero, Int.natCast_one, Int.reduceAdd, Int.reduceSub, reduceIte, ↓reduceIte, Value.oneCell', rowI_length, rowI_take, rowI_splice, rep_all, row_zero, le_nat, Int.toNat_natCast, Nat.zero_add, sok_row, reduceCtorEq]
    have e8 : 64 * blocks n - 8 + 8 = 64 * blocks n := by omega
    have z8 : ∀ r : Nat → Int, splice [Sum.inl (Value.int IntKind.u32 0), Sum.inl (Value.int IntKind.u32 0), Sum.inl (Value.int IntKind.u32 0), Sum.inl (Value.int IntKind.u32 0), Sum.inl (Value.int IntKind.u32 0), Sum.inl (Value.int IntKind.u32 0), Sum.inl (Value.int IntKind.u32 0), Sum.inl (Value.int IntKind.u32 0)] 0 (rowI .u32 8 r) = rowI .u32 8 r := fun r => rowI_splice .u32 8 (fun _ => 0) r
    simp only [e8, z8]
    have ok5 : ∀ {M : Nat → Prop}, (∀ x ∈ cs5, SV.ok M x) = True := eq_true (ok_all hg5.plain)
    refine loop_count (blocks n) (fun i => [(2, Ptr k 0), (3, Sl 110 0 (64 * blocks n) c5), (4, Ptr 113 0), (5, I .i64 (64 * i : Nat))])
      (fun i => [(110, ⟨true, cs5⟩), (113, ⟨true, rowI .u32 8 (absW kW ivW (padW f n) i)⟩), (k, ⟨true, rowI .u8 32 (fun _ => 0)⟩)]) _ ?_ ?_ ?_
    · have q1 : (k = 113) = False := eq_false (by omega)
      have q2 : (k = 110) = False := eq_false (by omega)
      have q3 : (k = 60) = False := eq_false (by omega)
      have q4 : (k = 109) = False := eq_false (by omega)
      simp only [q1, q2, q3, q4, if_false, ok5, absW, sn_upto, sn_from, slN_def, run_cap, rules, rules2, loopRules, Tryd.facts, base0, Int.toNat_zero, Nat.reduceAdd, Nat.reduceMul, Nat.reduceSub, Nat.reduceLT, Nat.reduceLeDiff, Nat.reduceEqDiff, Int.reduceLE, Int.reduceLT, Int.reduceToNat, Int.reduceNe, Int.reduceEq, not_false_eq_true, Nat.reduceBEq, Nat.reduceDiv, Int.natCast_zero, Int.natCast_one, Int.reduceAdd, Int.reduceSub, reduceIte, ↓reduceIte, Value.oneCell', rowI_length, rowI_take, rowI_splice, rep_all, row_zero, le_nat, Int.toNat_natCast, Nat.zero_add, sok_row, reduceCtorEq]
      omega
    · intro i hi
      have w1 : IntKind.i64.wrap (((64 * i : Nat) : Int) + 64) = ((64 * (i + 1) : Nat) : Int) := by rw [wrap_i64 _ (by omega) (by omega)]; omega
      have k1 : (((64 * (i + 1) : Nat) : Int) ≤ ((64 * blocks n : Nat) : Int)) = True := eq_true (by omega)
      have k2 : (((64 * i : Nat) : Int) ≤ ((64 * (i + 1) : Nat) : Int)) = True := eq_true (by omega)
      have k3 : (((64 * (i + 1) : Nat) : Int) ≤ (c5 : Int)) = True := eq_true (by have := hg5.room; omega)
      simp only [w1, sn_upto, sn_from, slN_def, run_cap, rules, rules2, loopRules, Tryd.facts, base0, Int.toNat_zero, Nat.reduceAdd, Nat.reduceMul, Nat.reduceSub, Nat.reduceLT, Nat.reduceLeDiff, Nat.reduceEqDiff, Int.reduceLE, Int.reduceLT, Int.reduceToNat, Int.reduceNe, Int.reduceEq, not_false_eq_true, Nat.reduceBEq, Nat.reduceDiv, Int.natCast_zero, Int.natCast_one, Int.reduceAdd, Int.reduceSub, reduceIte, ↓reduceIte, Value.oneCell', rowI_length, rowI_take, rowI_splice, rep_all, row_zero, le_nat, Int.toNat_natCast, Nat.zero_add, sok_row, reduceCtorEq]
      refine vcIf_yes (by simp only [k1]; rfl) ?_
      simp only [w1, k1, k2, k3, nat_nn, sn_upto, sn_from, slN_def, run_cap, rules, rules2, loopRules, Tryd.facts, base0, Int.toNat_zero, Nat.reduceAdd, Nat.reduceMul, Nat.reduceSub, Nat.reduceLT, Nat.reduceLeDiff, Nat.reduceEqDiff, Int.reduceLE, Int.reduceLT, Int.reduceToNat, Int.reduceNe, Int.reduceEq, not_false_eq_true, Nat.reduceBEq, Nat.reduceDiv, Int.natCast_zero, Int.natCast_one, Int.reduceAdd, Int.reduceSub, reduceIte, ↓reduceIte, Value.oneCell', rowI_length, rowI_take, rowI_splice, rep_all, row_zero, le_nat, Int.toNat_natCast, Nat.zero_add, sok_row, reduceCtorEq]
      refine ⟨by kernel_rfl, ?_⟩
      have eo : Shows cs5 (if c5 = 64 * i then 0 else 64 * i) 64 (fun j => padW f n (64 * i + j)) := by
        have hr := hg5.room
        rw [if_neg (by omega)]
        have := shows_sub hg5.shows (64 * i) 64 (by omega)
        rwa [Nat.zero_add] at this
      have el : 64 * (i + 1) - 64 * i = 64 := by omega
      rw [el]
      generalize (if c5 = 64 * i then 0 else 64 * i) = o' at eo ⊢
      refine (compress_m (c := c5 - 64 * i) (absW_bd ivW_bd _) (fun j => padW_byt hf n _) eo hg5.plain).drawRead (fun _ => 110) (fits1 (rw := true) (by simp only [sn_upto, sn_from, slN_def, run_cap, rules, rules2, loopRules, Tryd.facts, base0, Int.toNat_zero, Nat.reduceAdd, Nat.reduceMul, Nat.reduceSub, Nat.reduceLT, Nat.reduceLeDiff, Nat.reduceEqDiff, Int.reduceLE, Int.reduceLT, Int.reduceToNat, Int.reduceNe, Int.reduceEq, not_false_eq_true, Nat.reduceBEq, Nat.reduceDiv, Int.natCast_zero, Int.natCast_one, Int.reduceAdd, Int.reduceSub, reduceIte, ↓reduceIte, Value.oneCell', rowI_length, rowI_take, rowI_splice, rep_all, row_zero, le_nat, Int.toNat_natCast, Nat.zero_add, sok_row, reduceCtorEq]) hg5.plain) plainI rfl (fun M h _ _ => h (Sl 110 o' 64 (c5 - 64 * i)) (List.Mem.tail _ (List.Mem.head _))) ?_
      have z8' : ∀ r r' : Nat → Int, splice (rowI .u32 8 r') 0 (rowI .u32 8 r) = rowI .u32 8 r := fun r r' => rowI_splice .u32 8 _ _
      have q1 : (k = 113) = False := eq_false (by omega)
      have q2 : (k = 110) = False := eq_false (by omega)
      simp only [z8', q1, q2, w1, ok5, absW, sn_upto, sn_from, slN_def, run_cap, rules, rules2, loopRules, Tryd.facts, base0, Int.toNat_zero, Nat.reduceAdd, Nat.reduceMul, Nat.reduceSub, Nat.reduceLT, Nat.reduceLeDiff, Nat.reduceEqDiff, Int.reduceLE, Int.reduceLT, Int.reduceToNat, Int.reduceNe, Int.reduceEq, not_false_eq_true, Nat.reduceBEq, Nat.reduceDiv, Int.natCast_zero, Int.natCast_one, Int.reduceAdd, Int.reduceSub, reduceIte, ↓reduceIte, Value.oneCell', rowI_length, rowI_take, rowI_splice, rep_all, row_zero, le_nat, Int.toNat_natCast, Nat.zero_add, sok_row, reduceCtorEq]
      omega
    · have w1 : IntKind.i64.wrap (((64 * blocks n : Nat) : Int) + 64) = ((64 * blocks n + 64 : Nat) : Int) := by rw [wrap_i64 _ (by omega) (by omega)]; omega
      simp only [w1, sn_upto, sn_from, slN_def, run_cap, rules, rules2, loopRules, Tryd.facts, base0, Int.toNat_zero, Nat.reduceAdd, Nat.reduceMul, Nat.reduceSub, Nat.reduceLT, Nat.reduceLeDiff, Nat.reduceEqDiff, Int.reduceLE, Int.reduceLT, Int.reduceToNat, Int.reduceNe, Int.reduceEq, not_false_eq_true, Nat.reduceBEq, Nat.reduceDiv, Int.natCast_zero, Int.natCast_one, Int.reduceAdd, Int.reduceSub, reduceIte, ↓reduceIte, Value.oneCell', rowI_length, rowI_take, rowI_splice, rep_all, row_zero, le_nat, Int.toNat_natCast, Nat.zero_add, sok_row, reduceCtorEq]
      refine vcIf_no (by simp; omega) ?_
      simp only [sn_upto, sn_from, slN_def, run_cap, rules, rules2, loopRules, Tryd.facts, base0, Int.toNat_zero, Nat.reduceAdd, Nat.reduceMul, Nat.reduceSub, Nat.reduceLT, Nat.reduceLeDiff, Nat.reduceEqDiff, Int.reduceLE, Int.reduceLT, Int.reduceToNat, Int.reduceNe, Int.reduceEq, not_false_eq_true, Nat.reduceBEq, Nat.reduceDiv, Int.natCast_zero, Int.natCast_one, Int.reduceAdd, Int.reduceSub, reduceIte, ↓reduceIte, Value.oneCell', rowI_length, rowI_take, rowI_splice, rep_all, row_zero, le_nat, Int.toNat_natCast, Nat.zero_add, sok_row, reduceCtorEq]
      refine loop_count 32 (fun j => [(2, Ptr k 0), (4, Ptr 113 0), (6, Ptr 121 0), (7, I .i64 j)])
        (fun j => [(113, ⟨true, rowI .u32 8 (absW kW ivW (padW f n) (blocks n))⟩), (121, ⟨true, rowI .u8 32 (fun i => if i < j then shaW kW ivW f n i else 0)⟩), (k, ⟨true, rowI .u8 32 (fun _ => 0)⟩)]) _ ?_ ?_ ?_
      · have q1 : (k = 121) = False := eq_false (by omega)
        have q2 : (k = 110) = False := eq_false (by omega)
        have q3 : (k = 113) = False := eq_false (by omega)
        simp only [q1, q2, q3, if_false, Nat.not_lt_zero, sn_upto, sn_from, slN_def, run_cap, rules, rules2, loopRules, Tryd.facts, base0, Int.toNat_zero, Nat.reduceAdd, Nat.reduceMul, Nat.reduceSub, Nat.reduceLT, Nat.reduceLeDiff, Nat.reduceEqDiff, Int.reduceLE, Int.reduceLT, Int.reduceToNat, Int.reduceNe, Int.reduceEq, not_false_eq_true, Nat.reduceBEq, Nat.reduceDiv, Int.natCast_zero, Int.natCast_one, Int.reduceAdd, Int.reduceSub, reduceIte, ↓reduceIte, Value.oneCell', rowI_length, rowI_take, rowI_splice, rep_all, row_zero, le_nat, Int.toNat_natCast, Nat.zero_add, sok_row, reduceCtorEq]
        omega
      · intro j hj
        have q1 : (k = 121) = False := eq_false (by omega)
        have q2 : (k = 113) = False := eq_false (by omega)
        have a1 : (((j / 4 : Nat) : Int) < 8) = True := by simp; omega
        have a3 : ((j : Int) < 32) = True := lt_nat (m := 32) hj
        have q := quoN j 4 (by omega)
        have r := remN j 4
        rw [show ((4 : Nat) : Int) = 4 from rfl] at q r
        have w1 : IntKind.i64.wrap (8 * ((j % 4 : Nat) : Int)) = 8 * ((j % 4 : Nat) : Int) := wrap_i64 _ (by omega) (by omega)
        have w2 : IntKind.i64.wrap (24 - 8 * ((j % 4 : Nat) : Int)) = 24 - 8 * ((j % 4 : Nat) : Int) := wrap_i64 _ (by omega) (by omega)
        have w3 : IntKind.u64.wrap (24 - 8 * ((j % 4 : Nat) : Int)) = 24 - 8 * ((j % 4 : Nat) : Int) := wrap_u64_in _ (by omega) (by omega)
        have a2 : (0 ≤ 24 - 8 * ((j % 4 : Nat) : Int)) = True := eq_true (by omega)
        have fin : rowI .u8 32 (upd (fun i => if i < j then shaW kW ivW f n i else 0) j (shaW kW ivW f n j)) = rowI .u8 32 (fun i => if i < j + 1 then shaW kW ivW f n i else 0) := row_upto
        have eo : IntKind.u8.wrap (shrI .u32 (absW kW ivW (padW f n) (blocks n) (j / 4)) (24 - 8 * ((j % 4 : Nat) : Int))) = shaW kW ivW f n j := rfl
        simp only [sn_upto, sn_from, slN_def, run_cap, rules, rules2, loopRules, Tryd.facts, base0, Int.toNat_zero, Nat.reduceAdd, Nat.reduceMul, Nat.reduceSub, Nat.reduceLT, Nat.reduceLeDiff, Nat.reduceEqDiff, Int.reduceLE, Int.reduceLT, Int.reduceToNat, Int.reduceNe, Int.reduceEq, not_false_eq_true, Nat.reduceBEq, Nat.reduceDiv, Int.natCast_zero, Int.natCast_one, Int.reduceAdd, Int.reduceSub, reduceIte, ↓reduceIte, Value.oneCell', rowI_length, rowI_take, rowI_splice, rep_all, row_zero, le_nat, Int.toNat_natCast, Nat.zero_add, sok_row, reduceCtorEq]
        refine vcIf_yes (by simp; omega) ?_
        simp only [q1, q2, q, r, w1, w2, w3, a1, a2, a3, nat_nn, rowI_get .u32 8 (absW kW ivW (padW f n) (blocks n)) (j / 4) (by omega), Nat.mul_one, eo, rowI_splice1 .u8 32 _ j hj, fin, wrapS j (by omega), sn_upto, sn_from, slN_def, run_cap, rules, rules2, loopRules, Tryd.facts, base0, Int.toNat_zero, Nat.reduceAdd, Nat.reduceMul, Nat.reduceSub, Nat.reduceLT, Nat.reduceLeDiff, Nat.reduceEqDiff, Int.reduceLE, Int.reduceLT, Int.reduceToNat, Int.reduceNe, Int.reduceEq, not_false_eq_true, Nat.reduceBEq, Nat.reduceDiv, Int.natCast_zero, Int.natCast_one, Int.reduceAdd, Int.reduceSub, reduceIte, ↓reduceIte, Value.oneCell', rowI_length, rowI_take, rowI_splice, rep_all, row_zero, le_nat, Int.toNat_natCast, Nat.zero_add, sok_row, reduceCtorEq]
        omega
      · simp only [sn_upto, sn_from, slN_def, run_cap, rules, rules2, loopRules, Tryd.facts, base0, Int.toNat_zero, Nat.reduceAdd, Nat.reduceMul, Nat.reduceSub, Nat.reduceLT, Nat.reduceLeDiff, Nat.reduceEqDiff, Int.reduceLE, Int.reduceLT, Int.reduceToNat, Int.reduceNe, Int.reduceEq, not_false_eq_true, Nat.reduceBEq, Nat.reduceDiv, Int.natCast_zero, Int.natCast_one, Int.reduceAdd, Int.reduceSub, reduceIte, ↓reduceIte, Value.oneCell', rowI_length, rowI_take, rowI_splice, rep_all, row_zero, le_nat, Int.toNat_natCast, Nat.zero_add, sok_row, reduceCtorEq]
        refine vcIf_no (by simp) ?_
        have hrow : rowI .u8 32 (fun i => if i < 32 then shaW kW ivW f n i else 0) = rowI .u8 32 (shaW kW ivW f n) := rowI_congr fun i hi => by rw [if_pos hi]
        have q1 : (k = 121) = False := eq_false (by omega)
        have q2 : (k = 113) = False := eq_false (by omega)
        simp only [hrow, q1, q2, sn_upto, sn_from, slN_def, run_cap, rules, rules2, loopRules, Tryd.facts, base0, Int.toNat_zero, Nat.reduceAdd, Nat.reduceMul, Nat.reduceSub, Nat.reduceLT, Nat.reduceLeDiff, Nat.reduceEqDiff, Int.reduceLE, Int.reduceLT, Int.reduceToNat, Int.reduceNe, Int.reduceEq, not_false_eq_true, Nat.reduceBEq, Nat.reduceDiv, Int.natCast_zero, Int.natCast_one, Int.reduceAdd, Int.reduceSub, reduceIte, ↓reduceIte, Value.oneCell', rowI_length, rowI_take, rowI_splice, rep_all, row_zero, le_nat, Int.toNat_natCast, Nat.zero_add, sok_row, reduceCtorEq]
        exact ret_plain plainI ⟨rfl, rfl⟩
theorem refDigest_call {s : AS} {nm t o n c : Nat} {rw : Bool} {f : Nat → Int} {cs : List SV} (hf : Byt f) (hb : s.box t = some ⟨rw, cs⟩) (hc : Shows cs o n f) (hp : cs.all SV.plain = true) (hn : n < 100000000) {dst : Option Nat} {K : AS → Prop}
    (hk : K (s.put dst (some (Ag (rowI .u8 32 (shaW kW ivW f n)))))) : vcCall Tryd.prog nm 23 (some [Sl t o n c]) dst K s :=
  (refDigest_m (k := 1) (v := Sl 0 o n c) (ins := lk [(0, ⟨false, cs⟩)]) hf (.inr ⟨0, o, c, false, cs, rfl, rfl, hp, hc⟩) hn (by show (0 : Nat) < 1; decide) all1 (inn1 hp) (by decide)).vcRead (fun _ => t) (fits1 hb hp) plainI rfl hk
theorem refDigest_draw {s : AS} {nm t o n c : Nat} {rw : Bool} {f : Nat → Int} {cs : List SV} (hf : Byt f) (hb : s.box t = some ⟨rw, cs⟩) (hc : Shows cs o n f) (hp : cs.all SV.plain = true) (hn : n < 100000000) {ops : Array Oper} {i : Nat} {dst : Option Nat} {K : AS → Prop}
    (hk : K (s.put dst (some (Ag (rowI .u8 32 (shaW kW ivW f n)))))) : vcFun Tryd.prog ops i nm 23 (some [Sl t o n c]) dst K s :=
  (refDigest_m (k := 1) (v := Sl 0 o n c) (ins := lk [(0, ⟨false, cs⟩)]) hf (.inr ⟨0, o, c, false, cs, rfl, rfl, hp, hc⟩) hn (by show (0 : Nat) < 1; decide) all1 (inn1 hp) (by decide)).drawRead (fun _ => t) (fits1 hb hp) plainI rfl (fun M h _ _ => h (Sl t o n c) (List.Mem.head _)) hk
end Go.Proofs.YtlpckbkmmocaaaaDoor
