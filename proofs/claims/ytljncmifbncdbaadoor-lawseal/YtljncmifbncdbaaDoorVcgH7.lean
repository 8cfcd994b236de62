/-
  The expansion in the program.
-/
import Derived.Test.YtljncmifbncdbaaDoorVcgH6
set_option linter.unusedSimpArgs false
set_option linter.unusedVariables false
namespace Go.Proofs.YtljncmifbncdbaaDoor
open Go.Vcg
/-- A part as it is known in the callee: by the number of a box of its own. -/
theorem part_own {box : Nat → Option Box} {sv : SV} {n tk : Nat} {f : Nat → Int} {rwk : Bool} {csk : List SV} (h : BytesAt box (.inl (.inl sv)) n f) (hk : box tk = some ⟨rwk, csk⟩) (hkp : csk.all SV.plain = true) :
    ∃ (t : Nat) (rw : Bool) (cs : List SV) (w : Nat → SV), box t = some ⟨rw, cs⟩ ∧ cs.all SV.plain = true ∧ (∀ (r : Nat → Nat) j, r j = t → SV.ren r (w j) = sv) ∧
      (∀ (bx : Nat → Option Box) j, bx j = some ⟨false, cs⟩ → BytesAt bx (.inl (.inl (w j))) n f) ∧ (∀ (M : Nat → Prop) j, M j → SV.ok M (w j)) ∧ (∀ M : Nat → Prop, AV.ok M (.inl (.inl sv)) → (t = tk ∨ M t)) := by
  rcases h with ⟨⟨a, e⟩, rfl⟩ | ⟨t, o, c, rw, cs, e, hb, hp, hs⟩
  · cases e
    exact ⟨tk, rwk, csk, fun _ => .inl (.slice a 0 0), hk, hkp, fun _ _ _ => rfl, fun _ _ _ => .inl ⟨⟨a, rfl⟩, rfl⟩, fun _ _ _ => ⟨trivial, rfl⟩, fun _ _ => .inl rfl⟩
  · cases e
    refine ⟨t, rw, cs, fun j => .inr (.inr (j, o, n, c)), hb, hp, fun r j e => ?_, fun bx j e => .inr ⟨j, o, c, false, cs, rfl, e, hp, hs⟩, fun M j h => ⟨h, rfl⟩, fun M h => .inr h⟩
    show SV.ren r (Sum.inr (Sum.inr (j, o, n, c))) = _
    simp only [SV.ren, e]
def five (a b c d e : Nat) : Nat → Nat
  | 0 => a
  | 1 => b
  | 2 => c
  | 3 => d
  | _ => e
theorem mac3_call {s : AS} {nm t0 tk ok nk ck o c : Nat} {rw0 rwk : Bool} {a0 a1 a2 : SV} {csk : List SV} {n0 n1 n2 : Nat} {f0 f1 f2 key : Nat → Int} (h0 : s.box t0 = some ⟨rw0, [a0, a1, a2]⟩) (ho : o = 0)
    (p0 : BytesAt s.box (.inl (.inl a0)) n0 f0) (p1 : BytesAt s.box (.inl (.inl a1)) n1 f1) (p2 : BytesAt s.box (.inl (.inl a2)) n2 f2) (b0 : Byt f0) (b1 : Byt f1) (b2 : Byt f2)
    (hk : s.box tk = some ⟨rwk, csk⟩) (hkp : csk.all SV.plain = true) (hkey : Shows csk ok nk key) (hkb : Byt key) (hnk : nk < 100000000) (hck : nk ≤ ck) (hN : n0 + n1 + n2 < 100000000) {dst : Option Nat} {K : AS → Prop}
    (hK : K (s.put dst (some (Ag (rowI .u8 32 (macW kW ivW key nk (joinB (n0 + n1) (joinB n0 f0 f1) f2) (n0 + n1 + n2))))))) : vcCall Tryd.prog nm 23 (some [Sl tk ok nk ck, Sl t0 o 3 c]) dst K s := by
  subst ho
  obtain ⟨u0, r0, c0, w0, e0, q0, g0, i0, k0, _⟩ := part_own p0 hk hkp
  obtain ⟨u1, r1, c1, w1, e1, q1, g1, i1, k1, _⟩ := part_own p1 hk hkp
  obtain ⟨u2, r2, c2, w2, e2, q2, g2, i2, k2, _⟩ := part_own p2 hk hkp
  let l : List (Nat × Box) := [(0, ⟨false, [w0 2, w1 3, w2 4]⟩), (1, ⟨false, csk⟩), (2, ⟨false, c0⟩), (3, ⟨false, c1⟩), (4, ⟨false, c2⟩)]
  let nn : Nat → Nat := fun j => if j = 0 then n0 else if j = 1 then n1 else n2
  let ff : Nat → Nat → Int := fun j => if j = 0 then f0 else if j = 1 then f1 else f2
  have hl : Parts l [w0 2, w1 3, w2 4] 5 0 3 nn ff := by
    refine ⟨fun x hx => ?_, fun i hi => ?_, fun x hx => ?_, rfl, fun j hj => ?_⟩
    · simp only [l, List.mem_cons, List.not_mem_nil, or_false] at hx
      rcases hx with rfl | rfl | rfl | rfl | rfl <;> rfl
    · have : i = 0 ∨ i = 1 ∨ i = 2 ∨ i = 3 ∨ i = 4 := by omega
      rcases this with rfl | rfl | rfl | rfl | rfl <;> exact ⟨_, rfl⟩
    · simp only [l, List.mem_cons, List.not_mem_nil, or_false] at hx
      rcases hx with rfl | rfl | rfl | rfl | rfl
      · refine ⟨show (0 : Nat) < 5 by decide, rfl, fun y hy => ?_⟩
        simp only [List.mem_cons, List.not_mem_nil, or_false] at hy
        rcases hy with rfl | rfl | rfl
        · exact k0 _ _ (by decide)
        · exact k1 _ _ (by decide)
        · exact k2 _ _ (by decide)
      · exact ⟨show (1 : Nat) < 5 by decide, rfl, ok_all hkp⟩
      · exact ⟨show (2 : Nat) < 5 by decide, rfl, ok_all q0⟩
      · exact ⟨show (3 : Nat) < 5 by decide, rfl, ok_all q1⟩
      · exact ⟨show (4 : Nat) < 5 by decide, rfl, ok_all q2⟩
    · have : j = 0 ∨ j = 1 ∨ j = 2 := by omega
      rcases this with rfl | rfl | rfl
      · exact ⟨_, rfl, i0 _ 2 rfl⟩
      · exact ⟨_, rfl, i1 _ 3 rfl⟩
      · exact ⟨_, rfl, i2 _ 4 rfl⟩
  have hfit : Fits s (five t0 tk u0 u1 u2) (lk l) none := by
    refine ⟨fun n b hb => ?_, fun n n' b b' hb hrw => ?_, fun n b hb hrw => ?_, fun n hn => (by cases hn)⟩
    · have := lk_mem _ _ _ hb
      simp only [l, List.mem_cons, List.not_mem_nil, or_false, Prod.mk.injEq] at this
      rcases this with ⟨rfl, rfl⟩ | ⟨rfl, rfl⟩ | ⟨rfl, rfl⟩ | ⟨rfl, rfl⟩ | ⟨rfl, rfl⟩
      · refine ⟨_, h0, fun e => (by cases e), ?_⟩
        simp only [List.map_cons, List.map_nil]
        rw [g0 _ 2 rfl, g1 _ 3 rfl, g2 _ 4 rfl]
      · exact ⟨_, hk, fun e => (by cases e), (ren_all hkp _).symm⟩
      · exact ⟨_, e0, fun e => (by cases e), (ren_all q0 _).symm⟩
      · exact ⟨_, e1, fun e => (by cases e), (ren_all q1 _).symm⟩
      · exact ⟨_, e2, fun e => (by cases e), (ren_all q2 _).symm⟩
    all_goals
      have := hl.ro _ (lk_mem _ _ _ hb)
      simp only at this
      rw [this] at hrw; cases hrw
  have hb : ∀ j, j < 3 → Byt (ff j) := fun j hj => by
    have : j = 0 ∨ j = 1 ∨ j = 2 := by omega
    rcases this with rfl | rfl | rfl
    · exact b0
    · exact b1
    · exact b2
  have hmac := mac_m (c := c) (tk := 1) (ok := ok) (nk := nk) (ck := ck) (key := key) hl (by decide) (by decide) (by decide) (by show 0 + n0 + n1 + n2 < _; omega) hb rfl hkp hkey hkb hnk hck
  have hcat : macW kW ivW key nk (catN nn ff 3) (totN nn 3) = macW kW ivW key nk (joinB (n0 + n1) (joinB n0 f0 f1) f2) (n0 + n1 + n2) := by
    have e1 : totN nn 3 = n0 + n1 + n2 := by show 0 + n0 + n1 + n2 = _; omega
    rw [e1]
    refine macW_cong (fun _ _ => rfl) fun i hi => ?_
    show joinB (0 + n0 + n1) (joinB (0 + n0) (joinB 0 (fun _ => 0) f0) f1) f2 i = _
    rw [Nat.zero_add]
    simp only [joinB]
    split
    · split
      · rw [if_neg (by omega), Nat.sub_zero]
      · rfl
    · rfl
  rw [hcat] at hmac
  exact hmac.vcRead (five t0 tk u0 u1 u2) hfit plainI rfl hK
theorem byteB (x : Int) : 0 ≤ IntKind.u8.wrap x ∧ IntKind.u8.wrap x < 256 := by rw [wrap_u8]; omega
theorem byteS (x : Int) : IntKind.u8.wrap (IntKind.u8.wrap x + 1) = IntKind.u8.wrap (x + 1) := by simp only [wrap_u8]; omega
theorem build3 {v : Value} {a b c : SV} : splice (splice (splice (zerosL [v] 3) 0 [a]) 1 [b]) 2 [c] = [a, b, c] := rfl
theorem okm_at {K V p info : Nat → Int} {m k i : Nat} (h : i < 32) : okmW K V p info m (32 * k + i) = hkT K V p info m (k + 1) i := by
  simp only [okmW]; rw [show (32 * k + i) / 32 = k by omega, show (32 * k + i) % 32 = i by omega]
/-- What the expansion's loop holds: the bytes so far, and the last part. -/
def okmV (k c : Nat) : AV := if k = 0 then V (.slice none 0 0) else Sl 30 0 (32 * k) c
def lastV (k : Nat) : AV := if k = 0 then V (.slice none 0 0) else Sl 31 0 32 32
def okmBox (k : Nat) (cs : List SV) (T : Nat → Int) : List (Nat × Box) := if k = 0 then [] else [(30, ⟨true, cs⟩), (31, ⟨true, rowI .u8 32 T⟩)]
set_option maxHeartbeats 8000000 in
set_option maxRecDepth 20000 in
theorem expand_m {o m c n : Nat} {p info : Nat → Int} {cs : List SV} (hpb : Byt p) (hib : Byt info) (hc : Shows cs o m info) (hp : cs.all SV.plain = true) (hm : m < 10000000) (hn : n ≤ 8160) :
    MFun Tryd.prog 22 [Ag (rowI .u8 32 p), Sl 0 o m c, I .i64 n] 1 (lk [(0, ⟨false, cs⟩)]) (Bytes 1 n (okmW kW ivW p info m)) := by
  refine mfun_of_vc Tryd.func22 rfl (by kernel_rfl) (by simp [Tryd.ntmps22]) Tryd.callable22 (fun u hu => by
    simp only [List.mem_cons, List.not_mem_nil, or_false] at hu
    rcases hu with rfl | rfl | rfl
    · exact ok_all plainI
    · exact (by decide : 0 < 1)
    · trivial) all1 (inn1 hp) ?_
  have ok1 : ∀ {M : Nat → Prop}, (∀ x ∈ cs, SV.ok M x) = True := eq_true (ok_all hp)
  simp only [Tryd.results22, sn_upto, sn_from, slN_def, run_cap, rules, rules2, loopRules, Tryd.facts, base0, Int.toNat_zero, Nat.reduceAdd, Nat.reduceMul, Nat.reduceSub, Nat.reduceLT, Nat.reduceLeDiff, Nat.reduceEqDiff, Int.reduceLE, Int.reduceLT, Int.reduceToNat, Int.reduceNe, Int.reduceEq, not_false_eq_true, Nat.reduceBEq, Nat.reduceDiv, Int.natCast_zero, Int.natCast_one, Int.reduceAdd, Int.reduceSub, reduceIte, ↓reduceIte, Value.oneCell', rowI_length, rowI_take, rowI_splice, rep_all, row_zero, le_nat, Int.toNat_natCast, Nat.zero_add, sok_row, reduceCtorEq]
  refine loop_anewR (β := Nat × List SV) ((n + 31) / 32) (fun k y => k = 0 ∨ Grows y.2 0 (32 * k) y.1 (okmW kW ivW p info m))
    (fun k y => [(1, Sl 0 o m c), (2, I .i64 n), (3, Ptr 1 0), (7, okmV k y.1), (8, lastV k), (9, I .u8 (IntKind.u8.wrap ((k + 1 : Nat) : Int)))])
    (fun k y => [(0, ⟨false, cs⟩), (1, ⟨true, rowI .u8 32 p⟩)] ++ okmBox k y.2 (hkT kW ivW p info m k)) 32 (0, []) ?_ ?_ ?_ ?_
  · refine ⟨.inl rfl, fun n => n, fun _ _ => rfl, ?_, ?_, ?_⟩
    · simp only [okmV, lastV, if_true, ren_s, ren_i, ren_p, ren_v, sn_upto, sn_from, slN_def, run_cap, rules, rules2, loopRules, Tryd.facts, base0, Int.toNat_zero, Nat.reduceAdd, Nat.reduceMul, Nat.reduceSub, Nat.reduceLT, Nat.reduceLeDiff, Nat.reduceEqDiff, Int.reduceLE, Int.reduceLT, Int.reduceToNat, Int.reduceNe, Int.reduceEq, not_false_eq_true, Nat.reduceBEq, Nat.reduceDiv, Int.natCast_zero, Int.natCast_one, Int.reduceAdd, Int.reduceSub, reduceIte, ↓reduceIte, Value.oneCell', rowI_length, rowI_take, rowI_splice, rep_all, row_zero, le_nat, Int.toNat_natCast, Nat.zero_add, sok_row, reduceCtorEq]
      simp
      exact ⟨trivial, rfl⟩
    · simp only [okmBox, if_true, List.append_nil, rowI_plain, hp, sn_upto, sn_from, slN_def, run_cap, rules, rules2, loopRules, Tryd.facts, base0, Int.toNat_zero, Nat.reduceAdd, Nat.reduceMul, Nat.reduceSub, Nat.reduceLT, Nat.reduceLeDiff, Nat.reduceEqDiff, Int.reduceLE, Int.reduceLT, Int.reduceToNat, Int.reduceNe, Int.reduceEq, not_false_eq_true, Nat.reduceBEq, Nat.reduceDiv, Int.natCast_zero, Int.natCast_one, Int.reduceAdd, Int.reduceSub, reduceIte, ↓reduceIte, Value.oneCell', rowI_length, rowI_take, rowI_splice, rep_all, row_zero, le_nat, Int.toNat_natCast, Nat.zero_add, sok_row, reduceCtorEq]
    · simp only [okmBox, if_true, List.append_nil, sn_upto, sn_from, slN_def, run_cap, rules, rules2, loopRules, Tryd.facts, base0, Int.toNat_zero, Nat.reduceAdd, Nat.reduceMul, Nat.reduceSub, Nat.reduceLT, Nat.reduceLeDiff, Nat.reduceEqDiff, Int.reduceLE, Int.reduceLT, Int.reduceToNat, Int.reduceNe, Int.reduceEq, not_false_eq_true, Nat.reduceBEq, Nat.reduceDiv, Int.natCast_zero, Int.natCast_one, Int.reduceAdd, Int.reduceSub, reduceIte, ↓reduceIte, Value.oneCell', rowI_length, rowI_take, rowI_splice, rep_all, row_zero, le_nat, Int.toNat_natCast, Nat.zero_add, sok_row, reduceCtorEq]
      simp
  · rintro k ⟨c', cs'⟩ hk hinv
    simp only at hinv
    by_cases hk0 : k = 0
    · subst hk0
      have hn0 : 0 < n := by omega
      simp only [okmV, lastV, okmBox, if_true, List.append_nil, sn_upto, sn_from, slN_def, run_cap, rules, rules2, loopRules, Tryd.facts, base0, Int.toNat_zero, Nat.reduceAdd, Nat.reduceMul, Nat.reduceSub, Nat.reduceLT, Nat.reduceLeDiff, Nat.reduceEqDiff, Int.reduceLE, Int.reduceLT, Int.reduceToNat, Int.reduceNe, Int.reduceEq, not_false_eq_true, Nat.reduceBEq, Nat.reduceDiv, Int.natCast_zero, Int.natCast_one, Int.reduceAdd, Int.reduceSub, reduceIte, ↓reduceIte, Value.oneCell', rowI_length, rowI_take, rowI_splice, rep_all, row_zero, le_nat, Int.toNat_natCast, Nat.zero_add, sok_row, reduceCtorEq]
      refine vcIf_yes (by simp; omega) ?_
      simp only [sn_upto, sn_from, slN_def, run_cap, rules, rules2, loopRules, Tryd.facts, base0, Int.toNat_zero, Nat.reduceAdd, Nat.reduceMul, Nat.reduceSub, Nat.reduceLT, Nat.reduceLeDiff, Nat.reduceEqDiff, Int.reduceLE, Int.reduceLT, Int.reduceToNat, Int.reduceNe, Int.reduceEq, not_false_eq_true, Nat.reduceBEq, Nat.reduceDiv, Int.natCast_zero, Int.natCast_one, Int.reduceAdd, Int.reduceSub, reduceIte, ↓reduceIte, Value.oneCell', rowI_length, rowI_take, rowI_splice, rep_all, row_zero, le_nat, Int.toNat_natCast, Nat.zero_add, sok_row, reduceCtorEq]
      refine ⟨show 1 ≤ 3 by decide, show 2 ≤ 3 by decide, show 3 ≤ 3 by decide, ?_⟩
      refine mac3_call (t0 := 41) (tk := 1) (rw0 := true) (rwk := true) (csk := rowI .u8 32 p) (key := p) (n0 := 0) (n1 := m) (n2 := 1) (f0 := fun _ => 0) (f1 := info) (f2 := fun _ => IntKind.u8.wrap ((0 + 1 : Nat) : Int)) (by simp only [upd_apply, build3, sn_upto, sn_from, slN_def, run_cap, rules, rules2, loopRules, Tryd.facts, base0, Int.toNat_zero, Nat.reduceAdd, Nat.reduceMul, Nat.reduceSub, Nat.reduceLT, Nat.reduceLeDiff, Nat.reduceEqDiff, Int.reduceLE, Int.reduceLT, Int.reduceToNat, Int.reduceNe, Int.reduceEq, not_false_eq_true, Nat.reduceBEq, Nat.reduceDiv, Int.natCast_zero, Int.natCast_one, Int.reduceAdd, Int.reduceSub, reduceIte, ↓reduceIte, Value.oneCell', rowI_length, rowI_take, rowI_splice, rep_all, row_zero, le_nat, Int.toNat_natCast, Nat.zero_add, sok_row, reduceCtorEq]; rfl) rfl
        (.inl ⟨⟨_, rfl⟩, rfl⟩) (.inr ⟨0, o, c, false, cs, rfl, by simp only [upd_apply, sn_upto, sn_from, slN_def, run_cap, rules, rules2, loopRules, Tryd.facts, base0, Int.toNat_zero, Nat.reduceAdd, Nat.reduceMul, Nat.reduceSub, Nat.reduceLT, Nat.reduceLeDiff, Nat.reduceEqDiff, Int.reduceLE, Int.reduceLT, Int.reduceToNat, Int.reduceNe, Int.reduceEq, not_false_eq_true, Nat.reduceBEq, Nat.reduceDiv, Int.natCast_zero, Int.natCast_one, Int.reduceAdd, Int.reduceSub, reduceIte, ↓reduceIte, Value.oneCell', rowI_length, rowI_take, rowI_splice, rep_all, row_zero, le_nat, Int.toNat_natCast, Nat.zero_add, sok_row, reduceCtorEq], hp, hc⟩) (.inr ⟨40, 0, 1, true, [Sum.inl (.int .u8 (IntKind.u8.wrap ((0 + 1 : Nat) : Int)))], rfl, by simp only [upd_apply, splice_one, sn_upto, sn_from, slN_def, run_cap, rules, rules2, loopRules, Tryd.facts, base0, Int.toNat_zero, Nat.reduceAdd, Nat.reduceMul, Nat.reduceSub, Nat.reduceLT, Nat.reduceLeDiff, Nat.reduceEqDiff, Int.reduceLE, Int.reduceLT, Int.reduceToNat, Int.reduceNe, Int.reduceEq, not_false_eq_true, Nat.reduceBEq, Nat.reduceDiv, Int.natCast_zero, Int.natCast_one, Int.reduceAdd, Int.reduceSub, reduceIte, ↓reduceIte, Value.oneCell', rowI_length, rowI_take, rowI_splice, rep_all, row_zero, le_nat, Int.toNat_natCast, Nat.zero_add, sok_row, reduceCtorEq], rfl, shows_one⟩)
        (fun _ => ⟨Int.le_refl 0, by show (0 : Int) < 256; decide⟩) hib (fun _ => byteB _) (by simp only [upd_apply, sn_upto, sn_from, slN_def, run_cap, rules, rules2, loopRules, Tryd.facts, base0, Int.toNat_zero, Nat.reduceAdd, Nat.reduceMul, Nat.reduceSub, Nat.reduceLT, Nat.reduceLeDiff, Nat.reduceEqDiff, Int.reduceLE, Int.reduceLT, Int.reduceToNat, Int.reduceNe, Int.reduceEq, not_false_eq_true, Nat.reduceBEq, Nat.reduceDiv, Int.natCast_zero, Int.natCast_one, Int.reduceAdd, Int.reduceSub, reduceIte, ↓reduceIte, Value.oneCell', rowI_length, rowI_take, rowI_splice, rep_all, row_zero, le_nat, Int.toNat_natCast, Nat.zero_add, sok_row, reduceCtorEq]) plainI shows_row0 hpb (by decide) (by decide) (by omega) ?_
      have hT : macW kW ivW p 32 (joinB (0 + m) (joinB 0 (fun _ => 0) info) (fun _ => IntKind.u8.wrap ((0 + 1 : Nat) : Int))) (0 + m + 1) = hkT kW ivW p info m 1 := by
        show _ = macW kW ivW p 32 (joinB m info (fun _ => 1)) (0 + (m + 1))
        rw [show 0 + (m + 1) = 0 + m + 1 by omega]
        refine macW_cong (fun _ _ => rfl) fun i hi => ?_
        simp only [joinB, Nat.zero_add, Nat.not_lt_zero, if_false, Nat.sub_zero]
        rfl
      rw [hT]
      have hTb := hkT_byt kW ivW p info m 1
      generalize hTe : hkT kW ivW p info m 1 = T at *
      simp only [sn_upto, sn_from, slN_def, run_cap, rules, rules2, loopRules, Tryd.facts, base0, Int.toNat_zero, Nat.reduceAdd, Nat.reduceMul, Nat.reduceSub, Nat.reduceLT, Nat.reduceLeDiff, Nat.reduceEqDiff, Int.reduceLE, Int.reduceLT, Int.reduceToNat, Int.reduceNe, Int.reduceEq, not_false_eq_true, Nat.reduceBEq, Nat.reduceDiv, Int.natCast_zero, Int.natCast_one, Int.reduceAdd, Int.reduceSub, reduceIte, ↓reduceIte, Value.oneCell', rowI_length, rowI_take, rowI_splice, rep_all, row_zero, le_nat, Int.toNat_natCast, Nat.zero_add, sok_row, reduceCtorEq]
      refine append_nb (m := 32) (g := T) Tryd.mkK24 Tryd.slK24 (.inr ⟨43, 0, 32, true, rowI .u8 32 T, rfl, by simp only [upd_apply, sn_upto, sn_from, slN_def, run_cap, rules, rules2, loopRules, Tryd.facts, base0, Int.toNat_zero, Nat.reduceAdd, Nat.reduceMul, Nat.reduceSub, Nat.reduceLT, Nat.reduceLeDiff, Nat.reduceEqDiff, Int.reduceLE, Int.reduceLT, Int.reduceToNat, Int.reduceNe, Int.reduceEq, not_false_eq_true, Nat.reduceBEq, Nat.reduceDiv, Int.natCast_zero, Int.natCast_one, Int.reduceAdd, Int.reduceSub, reduceIte, ↓reduceIte, Value.oneCell', rowI_length, rowI_take, rowI_splice, rep_all, row_zero, le_nat, Int.toNat_natCast, Nat.zero_add, sok_row, reduceCtorEq], plainI, shows_row0⟩) (by decide) (fun h => absurd h (by decide)) ?_
      intro _ c2 cs2 hg2
      simp only [sn_upto, sn_from, slN_def, run_cap, rules, rules2, loopRules, Tryd.facts, base0, Int.toNat_zero, Nat.reduceAdd, Nat.reduceMul, Nat.reduceSub, Nat.reduceLT, Nat.reduceLeDiff, Nat.reduceEqDiff, Int.reduceLE, Int.reduceLT, Int.reduceToNat, Int.reduceNe, Int.reduceEq, not_false_eq_true, Nat.reduceBEq, Nat.reduceDiv, Int.natCast_zero, Int.natCast_one, Int.reduceAdd, Int.reduceSub, reduceIte, ↓reduceIte, Value.oneCell', rowI_length, rowI_take, rowI_splice, rep_all, row_zero, le_nat, Int.toNat_natCast, Nat.zero_add, sok_row, reduceCtorEq]
      refine ⟨(c2, cs2), .inr (hg2.congr (by omega) fun i hi => ?_), fun x => if x = 30 then 49 else if x = 31 then 43 else x, fun x hx => ?_, ?_, ?_, ?_⟩
      · have h := okm_at (K := kW) (V := ivW) (p := p) (info := info) (m := m) (k := 0) hi
        rw [show 32 * 0 + i = i by omega] at h
        rw [h]; exact congrFun hTe.symm i
      · simp only; rw [if_neg (by omega), if_neg (by omega)]
      · simp only [ren_s, ren_i, ren_p, ren_v, byteS, sn_upto, sn_from, slN_def, run_cap, rules, rules2, loopRules, Tryd.facts, base0, Int.toNat_zero, Nat.reduceAdd, Nat.reduceMul, Nat.reduceSub, Nat.reduceLT, Nat.reduceLeDiff, Nat.reduceEqDiff, Int.reduceLE, Int.reduceLT, Int.reduceToNat, Int.reduceNe, Int.reduceEq, not_false_eq_true, Nat.reduceBEq, Nat.reduceDiv, Int.natCast_zero, Int.natCast_one, Int.reduceAdd, Int.reduceSub, reduceIte, ↓reduceIte, Value.oneCell', rowI_length, rowI_take, rowI_splice, rep_all, row_zero, le_nat, Int.toNat_natCast, Nat.zero_add, sok_row, reduceCtorEq]
      · simp only [hg2.plain, rowI_plain, hp, sn_upto, sn_from, slN_def, run_cap, rules, rules2, loopRules, Tryd.facts, base0, Int.toNat_zero, Nat.reduceAdd, Nat.reduceMul, Nat.reduceSub, Nat.reduceLT, Nat.reduceLeDiff, Nat.reduceEqDiff, Int.reduceLE, Int.reduceLT, Int.reduceToNat, Int.reduceNe, Int.reduceEq, not_false_eq_true, Nat.reduceBEq, Nat.reduceDiv, Int.natCast_zero, Int.natCast_one, Int.reduceAdd, Int.reduceSub, reduceIte, ↓reduceIte, Value.oneCell', rowI_length, rowI_take, rowI_splice, rep_all, row_zero, le_nat, Int.toNat_natCast, Nat.zero_add, sok_row, reduceCtorEq]
      · simp only [sn_upto, sn_from, slN_def, run_cap, rules, rules2, loopRules, Tryd.facts, base0, Int.toNat_zero, Nat.reduceAdd, Nat.reduceMul, Nat.reduceSub, Nat.reduceLT, Nat.reduceLeDiff, Nat.reduceEqDiff, Int.reduceLE, Int.reduceLT, Int.reduceToNat, Int.reduceNe, Int.reduceEq, not_false_eq_true, Nat.reduceBEq, Nat.reduceDiv, Int.natCast_zero, Int.natCast_one, Int.reduceAdd, Int.reduceSub, reduceIte, ↓reduceIte, Value.oneCell', rowI_length, rowI_take, rowI_splice, rep_all, row_zero, le_nat, Int.toNat_natCast, Nat.zero_add, sok_row, reduceCtorEq]
        simp
    · simp only [okmV, lastV, okmBox, if_neg hk0, if_neg (Nat.succ_ne_zero k), List.cons_append, List.nil_append, sn_upto, sn_from, slN_def, run_cap, rules, rules2, loopRules, Tryd.facts, base0, Int.toNat_zero, Nat.reduceAdd, Nat.reduceMul, Nat.reduceSub, Nat.reduceLT, Nat.reduceLeDiff, Nat.reduceEqDiff, Int.reduceLE, Int.reduceLT, Int.reduceToNat, Int.reduceNe, Int.reduceEq, not_false_eq_true, Nat.reduceBEq, Nat.reduceDiv, Int.natCast_zero, Int.natCast_one, Int.reduceAdd, Int.reduceSub, reduceIte, ↓reduceIte, Value.oneCell', rowI_length, rowI_take, rowI_splice, rep_all, row_zero, le_nat, Int.toNat_natCast, Nat.zero_add, sok_row, reduceCtorEq]
      refine vcIf_yes (by simp; omega) ?_
      simp only [sn_upto, sn_from, slN_def, run_cap, rules, rules2, loopRules, Tryd.facts, base0, Int.toNat_zero, Nat.reduceAdd, Nat.reduceMul, Nat.reduceSub, Nat.reduceLT, Nat.reduceLeDiff, Nat.reduceEqDiff, Int.reduceLE, Int.reduceLT, Int.reduceToNat, Int.reduceNe, Int.reduceEq, not_false_eq_true, Nat.reduceBEq, Nat.reduceDiv, Int.natCast_zero, Int.natCast_one, Int.reduceAdd, Int.reduceSub, reduceIte, ↓reduceIte, Value.oneCell', rowI_length, rowI_take, rowI_splice, rep_all, row_zero, le_nat, Int.toNat_natCast, Nat.zero_add, sok_row, reduceCtorEq]
      refine ⟨show 1 ≤ 3 by decide, show 2 ≤ 3 by decide, show 3 ≤ 3 by decide, ?_⟩
      refine mac3_call (t0 := 41) (tk := 1) (rw0 := true) (rwk := true) (csk := rowI .u8 32 p) (key := p) (n0 := 32) (n1 := m) (n2 := 1) (f0 := hkT kW ivW p info m k) (f1 := info) (f2 := fun _ => IntKind.u8.wrap ((k + 1 : Nat) : Int)) (by simp only [upd_apply, build3, sn_upto, sn_from, slN_def, run_cap, rules, rules2, loopRules, Tryd.facts, base0, Int.toNat_zero, Nat.reduceAdd, Nat.reduceMul, Nat.reduceSub, Nat.reduceLT, Nat.reduceLeDiff, Nat.reduceEqDiff, Int.reduceLE, Int.reduceLT, Int.reduceToNat, Int.reduceNe, Int.reduceEq, not_false_eq_true, Nat.reduceBEq, Nat.reduceDiv, Int.natCast_zero, Int.natCast_one, Int.reduceAdd, Int.reduceSub, reduceIte, ↓reduceIte, Value.oneCell', rowI_length, rowI_take, rowI_splice, rep_all, row_zero, le_nat, Int.toNat_natCast, Nat.zero_add, sok_row, reduceCtorEq]) rfl
        (.inr ⟨31, 0, 32, true, rowI .u8 32 (hkT kW ivW p info m k), rfl, by simp only [upd_apply, sn_upto, sn_from, slN_def, run_cap, rules, rules2, loopRules, Tryd.facts, base0, Int.toNat_zero, Nat.reduceAdd, Nat.reduceMul, Nat.reduceSub, Nat.reduceLT, Nat.reduceLeDiff, Nat.reduceEqDiff, Int.reduceLE, Int.reduceLT, Int.reduceToNat, Int.reduceNe, Int.reduceEq, not_false_eq_true, Nat.reduceBEq, Nat.reduceDiv, Int.natCast_zero, Int.natCast_one, Int.reduceAdd, Int.reduceSub, reduceIte, ↓reduceIte, Value.oneCell', rowI_length, rowI_take, rowI_splice, rep_all, row_zero, le_nat, Int.toNat_natCast, Nat.zero_add, sok_row, reduceCtorEq], plainI, shows_row0⟩) (.inr ⟨0, o, c, false, cs, rfl, by simp only [upd_apply, sn_upto, sn_from, slN_def, run_cap, rules, rules2, loopRules, Tryd.facts, base0, Int.toNat_zero, Nat.reduceAdd, Nat.reduceMul, Nat.reduceSub, Nat.reduceLT, Nat.reduceLeDiff, Nat.reduceEqDiff, Int.reduceLE, Int.reduceLT, Int.reduceToNat, Int.reduceNe, Int.reduceEq, not_false_eq_true, Nat.reduceBEq, Nat.reduceDiv, Int.natCast_zero, Int.natCast_one, Int.reduceAdd, Int.reduceSub, reduceIte, ↓reduceIte, Value.oneCell', rowI_length, rowI_take, rowI_splice, rep_all, row_zero, le_nat, Int.toNat_natCast, Nat.zero_add, sok_row, reduceCtorEq], hp, hc⟩) (.inr ⟨40, 0, 1, true, [Sum.inl (.int .u8 (IntKind.u8.wrap ((k + 1 : Nat) : Int)))], rfl, by simp only [upd_apply, splice_one, sn_upto, sn_from, slN_def, run_cap, rules, rules2, loopRules, Tryd.facts, base0, Int.toNat_zero, Nat.reduceAdd, Nat.reduceMul, Nat.reduceSub, Nat.reduceLT, Nat.reduceLeDiff, Nat.reduceEqDiff, Int.reduceLE, Int.reduceLT, Int.reduceToNat, Int.reduceNe, Int.reduceEq, not_false_eq_true, Nat.reduceBEq, Nat.reduceDiv, Int.natCast_zero, Int.natCast_one, Int.reduceAdd, Int.reduceSub, reduceIte, ↓reduceIte, Value.oneCell', rowI_length, rowI_take, rowI_splice, rep_all, row_zero, le_nat, Int.toNat_natCast, Nat.zero_add, sok_row, reduceCtorEq], rfl, shows_one⟩)
        (hkT_byt _ _ _ _ _ _) hib (fun _ => byteB _) (by simp only [upd_apply, sn_upto, sn_from, slN_def, run_cap, rules, rules2, loopRules, Tryd.facts, base0, Int.toNat_zero, Nat.reduceAdd, Nat.reduceMul, Nat.reduceSub, Nat.reduceLT, Nat.reduceLeDiff, Nat.reduceEqDiff, Int.reduceLE, Int.reduceLT, Int.reduceToNat, Int.reduceNe, Int.reduceEq, not_false_eq_true, Nat.reduceBEq, Nat.reduceDiv, Int.natCast_zero, Int.natCast_one, Int.reduceAdd, Int.reduceSub, reduceIte, ↓reduceIte, Value.oneCell', rowI_length, rowI_take, rowI_splice, rep_all, row_zero, le_nat, Int.toNat_natCast, Nat.zero_add, sok_row, reduceCtorEq]) plainI shows_row0 hpb (by decide) (by decide) (by omega) ?_
      have hT : macW kW ivW p 32 (joinB (32 + m) (joinB 32 (hkT kW ivW p info m k) info) (fun _ => IntKind.u8.wrap ((k + 1 : Nat) : Int))) (32 + m + 1) = hkT kW ivW p info m (k + 1) := by
        show _ = macW kW ivW p 32 (if k = 0 then _ else joinB 32 (hkT kW ivW p info m k) (joinB m info (fun _ => IntKind.u8.wrap ((k + 1 : Nat) : Int)))) ((if k = 0 then 0 else 32) + (m + 1))
        rw [if_neg hk0, if_neg hk0, show 32 + (m + 1) = 32 + m + 1 by omega]
        refine macW_cong (fun _ _ => rfl) fun i hi => ?_
        simp only [joinB]
        by_cases h1 : i < 32
        · rw [if_pos (by omega), if_pos h1, if_pos h1]
        · rw [if_neg h1, if_neg h1]
          by_cases h2 : i < 32 + m
          · rw [if_pos h2, if_pos (by omega)]
          · rw [if_neg h2, if_neg (by omega)]
      rw [hT]
      have hg := hinv.resolve_left hk0
      obtain ⟨T, hTe⟩ : ∃ T, hkT kW ivW p info m (k + 1) = T := ⟨_, rfl⟩
      rw [hTe]
      simp only [sn_upto, sn_from, slN_def, run_cap, rules, rules2, loopRules, Tryd.facts, base0, Int.toNat_zero, Nat.reduceAdd, Nat.reduceMul, Nat.reduceSub, Nat.reduceLT, Nat.reduceLeDiff, Nat.reduceEqDiff, Int.reduceLE, Int.reduceLT, Int.reduceToNat, Int.reduceNe, Int.reduceEq, not_false_eq_true, Nat.reduceBEq, Nat.reduceDiv, Int.natCast_zero, Int.natCast_one, Int.reduceAdd, Int.reduceSub, reduceIte, ↓reduceIte, Value.oneCell', rowI_length, rowI_take, rowI_splice, rep_all, row_zero, le_nat, Int.toNat_natCast, Nat.zero_add, sok_row, reduceCtorEq]
      refine append_b (b := 30) (g := T) Tryd.mkK24 Tryd.slK24 (by simp only [upd_apply, sn_upto, sn_from, slN_def, run_cap, rules, rules2, loopRules, Tryd.facts, base0, Int.toNat_zero, Nat.reduceAdd, Nat.reduceMul, Nat.reduceSub, Nat.reduceLT, Nat.reduceLeDiff, Nat.reduceEqDiff, Int.reduceLE, Int.reduceLT, Int.reduceToNat, Int.reduceNe, Int.reduceEq, not_false_eq_true, Nat.reduceBEq, Nat.reduceDiv, Int.natCast_zero, Int.natCast_one, Int.reduceAdd, Int.reduceSub, reduceIte, ↓reduceIte, Value.oneCell', rowI_length, rowI_take, rowI_splice, rep_all, row_zero, le_nat, Int.toNat_natCast, Nat.zero_add, sok_row, reduceCtorEq]) hg (.inr ⟨43, 0, 32, true, rowI .u8 32 T, rfl, by simp only [upd_apply, sn_upto, sn_from, slN_def, run_cap, rules, rules2, loopRules, Tryd.facts, base0, Int.toNat_zero, Nat.reduceAdd, Nat.reduceMul, Nat.reduceSub, Nat.reduceLT, Nat.reduceLeDiff, Nat.reduceEqDiff, Int.reduceLE, Int.reduceLT, Int.reduceToNat, Int.reduceNe, Int.reduceEq, not_false_eq_true, Nat.reduceBEq, Nat.reduceDiv, Int.natCast_zero, Int.natCast_one, Int.reduceAdd, Int.reduceSub, reduceIte, ↓reduceIte, Value.oneCell', rowI_length, rowI_take, rowI_splice, rep_all, row_zero, le_nat, Int.toNat_natCast, Nat.zero_add, sok_row, reduceCtorEq], shows_row0, by decide⟩) (by omega) ?_
      intro c2 cs2 hg2
      simp only [sn_upto, sn_from, slN_def, run_cap, rules, rules2, loopRules, Tryd.facts, base0, Int.toNat_zero, Nat.reduceAdd, Nat.reduceMul, Nat.reduceSub, Nat.reduceLT, Nat.reduceLeDiff, Nat.reduceEqDiff, Int.reduceLE, Int.reduceLT, Int.reduceToNat, Int.reduceNe, Int.reduceEq, not_false_eq_true, Nat.reduceBEq, Nat.reduceDiv, Int.natCast_zero, Int.natCast_one, Int.reduceAdd, Int.reduceSub, reduceIte, ↓reduceIte, Value.oneCell', rowI_length, rowI_take, rowI_splice, rep_all, row_zero, le_nat, Int.toNat_natCast, Nat.zero_add, sok_row, reduceCtorEq]
      refine ⟨(c2, cs2), .inr (hg2.congr (by omega) fun i hi => ?_), fun x => if x = 30 then 49 else if x = 31 then 43 else x, fun x hx => ?_, ?_, ?_, ?_⟩
      · simp only [joinB]
        split
        · rfl
        · have h := okm_at (K := kW) (V := ivW) (p := p) (info := info) (m := m) (k := k) (i := i - 32 * k) (by omega)
          rw [show 32 * k + (i - 32 * k) = i by omega] at h
          rw [h, hTe]
      · simp only; rw [if_neg (by omega), if_neg (by omega)]
      · simp only [ren_s, ren_i, ren_p, ren_v, byteS, sn_upto, sn_from, slN_def, run_cap, rules, rules2, loopRules, Tryd.facts, base0, Int.toNat_zero, Nat.reduceAdd, Nat.reduceMul, Nat.reduceSub, Nat.reduceLT, Nat.reduceLeDiff, Nat.reduceEqDiff, Int.reduceLE, Int.reduceLT, Int.reduceToNat, Int.reduceNe, Int.reduceEq, not_false_eq_true, Nat.reduceBEq, Nat.reduceDiv, Int.natCast_zero, Int.natCast_one, Int.reduceAdd, Int.reduceSub, reduceIte, ↓reduceIte, Value.oneCell', rowI_length, rowI_take, rowI_splice, rep_all, row_zero, le_nat, Int.toNat_natCast, Nat.zero_add, sok_row, reduceCtorEq]
        exact ⟨congrArg (fun z => some (Sl 49 0 z c2)) (by omega), congrArg (fun z => some (I .u8 (IntKind.u8.wrap z))) (by omega)⟩
      · simp only [hg2.plain, rowI_plain, hp, sn_upto, sn_from, slN_def, run_cap, rules, rules2, loopRules, Tryd.facts, base0, Int.toNat_zero, Nat.reduceAdd, Nat.reduceMul, Nat.reduceSub, Nat.reduceLT, Nat.reduceLeDiff, Nat.reduceEqDiff, Int.reduceLE, Int.reduceLT, Int.reduceToNat, Int.reduceNe, Int.reduceEq, not_false_eq_true, Nat.reduceBEq, Nat.reduceDiv, Int.natCast_zero, Int.natCast_one, Int.reduceAdd, Int.reduceSub, reduceIte, ↓reduceIte, Value.oneCell', rowI_length, rowI_take, rowI_splice, rep_all, row_zero, le_nat, Int.toNat_natCast, Nat.zero_add, sok_row, reduceCtorEq]
      · simp only [sn_upto, sn_from, slN_def, run_cap, rules, rules2, loopRules, Tryd.facts, base0, Int.toNat_zero, Nat.reduceAdd, Nat.reduceMul, Nat.reduceSub, Nat.reduceLT, Nat.reduceLeDiff, Nat.reduceEqDiff, Int.reduceLE, Int.reduceLT, Int.reduceToNat, Int.reduceNe, Int.reduceEq, not_false_eq_true, Nat.reduceBEq, Nat.reduceDiv, Int.natCast_zero, Int.natCast_one, Int.reduceAdd, Int.reduceSub, reduceIte, ↓reduceIte, Value.oneCell', rowI_length, rowI_take, rowI_splice, rep_all, row_zero, le_nat, Int.toNat_natCast, Nat.zero_add, sok_row, reduceCtorEq]
        simp
  · rintro ⟨c', cs'⟩ hinv
    simp only at hinv
    by_cases hk0 : (n + 31) / 32 = 0
    · have hn0 : n = 0 := by omega
      subst hn0
      simp only [okmV, lastV, okmBox, if_true, hk0, List.append_nil, sn_upto, sn_from, slN_def, run_cap, rules, rules2, loopRules, Tryd.facts, base0, Int.toNat_zero, Nat.reduceAdd, Nat.reduceMul, Nat.reduceSub, Nat.reduceLT, Nat.reduceLeDiff, Nat.reduceEqDiff, Int.reduceLE, Int.reduceLT, Int.reduceToNat, Int.reduceNe, Int.reduceEq, not_false_eq_true, Nat.reduceBEq, Nat.reduceDiv, Int.natCast_zero, Int.natCast_one, Int.reduceAdd, Int.reduceSub, reduceIte, ↓reduceIte, Value.oneCell', rowI_length, rowI_take, rowI_splice, rep_all, row_zero, le_nat, Int.toNat_natCast, Nat.zero_add, sok_row, reduceCtorEq]
      refine vcIf_no (by simp) ?_
      simp only [sn_upto, sn_from, slN_def, run_cap, rules, rules2, loopRules, Tryd.facts, base0, Int.toNat_zero, Nat.reduceAdd, Nat.reduceMul, Nat.reduceSub, Nat.reduceLT, Nat.reduceLeDiff, Nat.reduceEqDiff, Int.reduceLE, Int.reduceLT, Int.reduceToNat, Int.reduceNe, Int.reduceEq, not_false_eq_true, Nat.reduceBEq, Nat.reduceDiv, Int.natCast_zero, Int.natCast_one, Int.reduceAdd, Int.reduceSub, reduceIte, ↓reduceIte, Value.oneCell', rowI_length, rowI_take, rowI_splice, rep_all, row_zero, le_nat, Int.toNat_natCast, Nat.zero_add, sok_row, reduceCtorEq]
      exact ⟨1, V (.slice none 0 0), fun _ => none, Nat.le_refl _, rfl, trivial, fun n b hb => (by cases hb), .inl ⟨rfl, rfl, rfl⟩⟩
    · have hg := hinv.resolve_left hk0
      have hr := hg.room
      have l1 : ((n : Int) ≤ (c' : Int)) = True := eq_true (by omega)
      simp only [okmV, lastV, okmBox, if_neg hk0, List.cons_append, List.nil_append, sn_upto, sn_from, slN_def, run_cap, rules, rules2, loopRules, Tryd.facts, base0, Int.toNat_zero, Nat.reduceAdd, Nat.reduceMul, Nat.reduceSub, Nat.reduceLT, Nat.reduceLeDiff, Nat.reduceEqDiff, Int.reduceLE, Int.reduceLT, Int.reduceToNat, Int.reduceNe, Int.reduceEq, not_false_eq_true, Nat.reduceBEq, Nat.reduceDiv, Int.natCast_zero, Int.natCast_one, Int.reduceAdd, Int.reduceSub, reduceIte, ↓reduceIte, Value.oneCell', rowI_length, rowI_take, rowI_splice, rep_all, row_zero, le_nat, Int.toNat_natCast, Nat.zero_add, sok_row, reduceCtorEq]
      refine vcIf_no (by simp; omega) ?_
      simp only [nat_nn, l1, sn_upto, sn_from, slN_def, run_cap, rules, rules2, loopRules, Tryd.facts, base0, Int.toNat_zero, Nat.reduceAdd, Nat.reduceMul, Nat.reduceSub, Nat.reduceLT, Nat.reduceLeDiff, Nat.reduceEqDiff, Int.reduceLE, Int.reduceLT, Int.reduceToNat, Int.reduceNe, Int.reduceEq, not_false_eq_true, Nat.reduceBEq, Nat.reduceDiv, Int.natCast_zero, Int.natCast_one, Int.reduceAdd, Int.reduceSub, reduceIte, ↓reduceIte, Value.oneCell', rowI_length, rowI_take, rowI_splice, rep_all, row_zero, le_nat, Int.toNat_natCast, Nat.zero_add, sok_row, reduceCtorEq]
      exact ret_new (k := 1) (q := 30) (by decide) (by simp only [upd_apply, sn_upto, sn_from, slN_def, run_cap, rules, rules2, loopRules, Tryd.facts, base0, Int.toNat_zero, Nat.reduceAdd, Nat.reduceMul, Nat.reduceSub, Nat.reduceLT, Nat.reduceLeDiff, Nat.reduceEqDiff, Int.reduceLE, Int.reduceLT, Int.reduceToNat, Int.reduceNe, Int.reduceEq, not_false_eq_true, Nat.reduceBEq, Nat.reduceDiv, Int.natCast_zero, Int.natCast_one, Int.reduceAdd, Int.reduceSub, reduceIte, ↓reduceIte, Value.oneCell', rowI_length, rowI_take, rowI_splice, rep_all, row_zero, le_nat, Int.toNat_natCast, Nat.zero_add, sok_row, reduceCtorEq]) hg.plain (.inr (Grows.made ⟨hg.len, by omega, hg.plain, shows_mono hg.shows (by omega)⟩))
  · show 6 ≤ 32
    decide
end Go.Proofs.YtljncmifbncdbaaDoor
