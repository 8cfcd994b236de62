/-
  What is taken as a state, in the program.
-/
import Derived.Test.YtikibkboebbdjaaVcgG11
set_option linter.unusedSimpArgs false
set_option linter.unusedVariables false
namespace Go.Proofs.Ytikibkboebbdjaa
open Go.Vcg
/-- A call that encodes a state. -/
theorem enc_call {s : AS} {nm fn t n : Nat} {x : St} {f : Nat → En} {rw : Bool} {cs : List SV} (hm : ∀ {y : St} {ds : List SV}, StoreIs 0 y.store n f ds → ds.all SV.plain = true → StOk y → MFun Try.prog fn [Ag (stL y)] 1 (lk [(0, ⟨false, ds⟩)]) (EncS 1 y n f))
    (hx : StOk x) (hb : s.box t = some ⟨rw, cs⟩) (hp : cs.all SV.plain = true) (hi : StoreIs t x.store n f cs) {dst : Option Nat} {K : AS → Prop}
    (h0 : valB x n f = false → K (s.put dst (some (V (.slice none 0 0)))))
    (h1 : valB x n f = true → ∀ c cs', Grows cs' 0 (226 + 72 * n) c (stateB x n f n) → K ((⟨s.env, upd s.box nm (some ⟨true, cs'⟩), s.next⟩ : AS).put dst (some (Sl nm 0 (226 + 72 * n) c)))) : vcCall Try.prog nm fn (some [Ag (stL x)]) dst K s := by
  obtain ⟨v0, g0, e0⟩ := hi.name (k := 0)
  refine (hm (y := { x with store := v0 }) g0 hp (hx.ws v0)).vcCall (fun _ => t) none (fits1 hb hp) (by simp only [List.map_cons, List.map_nil, ren_st, e0 (fun _ => t) rfl]) ?_
  rintro v out (⟨hv, rfl, rfl⟩ | ⟨hv, c, tail, rfl, rfl, g1, g2, g3⟩) _
  · rw [val_ws] at hv
    have e : after s (fun _ => t) 1 nm none (fun _ => none) = s.box := by funext x; simp [after]
    rw [e]; exact h0 hv
  · rw [val_ws] at hv
    rw [after_lk (plainT g3)]
    have e : AV.ren (rnew (fun _ => t) 1 nm) (Sl 1 0 (226 + 72 * n) c) = Sl nm 0 (226 + 72 * n) c := by rw [ren_s, rnew_k]
    rw [e]
    have se : stateB { x with store := v0 } n f n = stateB x n f n := stateB_ws n
    rw [se]
    exact h1 hv c _ (Grows.row g1 g2 g3)
/-- A call that reads a state. -/
theorem readS_call {s : AS} {nm fn t N : Nat} {G : Nat → Int} {args l : List AV} {rw : Bool} {cs : List SV} (hm : MFun Try.prog fn args 1 (lk [(0, ⟨false, cs⟩)]) (ReadS 1 N G)) (hb : s.box t = some ⟨rw, cs⟩) (hp : cs.all SV.plain = true) (hl : l = args.map (AV.ren fun _ => t)) {dst : Option Nat} {K : AS → Prop}
    (h0 : N = 0 → K (s.put dst (some (Ag (stL { rawS G with store := .inl (.slice none 0 0) })))))
    (h1 : 0 < N → ∀ c cs', GrowsE cs' 0 N c (rawE G) → K ((⟨s.env, upd s.box nm (some ⟨true, cs'⟩), s.next⟩ : AS).put dst (some (Ag (stL { rawS G with store := .inr (.inr (nm, 0, N, c)) }))))) : vcCall Try.prog nm fn (some l) dst K s := by
  refine hm.vcCall (fun _ => t) none (fits1 hb hp) hl ?_
  rintro v out ⟨sv, rfl, (⟨hn, rfl, rfl⟩ | ⟨hn, c, ds, rfl, hg, rfl⟩)⟩ _
  · have e : after s (fun _ => t) 1 nm none (fun _ => none) = s.box := by funext x; simp [after]
    rw [e]; exact h0 hn
  · rw [after_lk hg.plain]
    have e : AV.ren (rnew (fun _ => t) 1 nm) (Ag (stL { rawS G with store := .inr (.inr (1, 0, N, c)) })) = Ag (stL { rawS G with store := .inr (.inr (nm, 0, N, c)) }) := by rw [ren_st]; simp only [SV.ren, rnew_k]
    rw [e]
    exact h1 hn c ds hg
set_option maxHeartbeats 16000000 in
set_option maxRecDepth 20000 in
theorem decode_m {o L c : Nat} {G : Nat → Int} {cs : List SV} (hG : Byt G) (hs : Shows cs o L G) (hp : cs.all SV.plain = true) (hc : L ≤ c) (hL : L < 140737488355328) :
    MFun Try.prog 8 [Sl 0 o L c] 1 (lk [(0, ⟨false, cs⟩)]) (DecS 1 L G) := by
  refine mfun_of_vc Try.func8 rfl (by kernel_rfl) (by simp [Try.ntmps8]) Try.callable8 (by simp [AV.ok, CV.ok, SV.names]) all1 (inn1 hp) ?_
  simp only [Try.results8, zOkSt, rulesS, sn_upto, sn_from, slN_def, run_cap, rules, rules2, loopRules, Try.facts, base0, Int.toNat_zero, Nat.reduceAdd, Nat.reduceMul, Nat.reduceSub, Nat.reduceLT, Nat.reduceLeDiff, Nat.reduceEqDiff, Int.reduceLE, Int.reduceLT, Int.reduceToNat, Int.reduceNe, Int.reduceEq, not_false_eq_true, Nat.reduceBEq, Nat.reduceDiv, Int.natCast_zero, Int.natCast_one, Int.reduceAdd, Int.reduceSub, reduceIte, ↓reduceIte, Value.oneCell', rowI_length, rowI_take, rowI_splice, rep_all, row_zero, le_nat, Int.toNat_natCast, Nat.zero_add, sok_row, reduceCtorEq]
  refine (measures_m hG hs hp hc hL).vcRead (fun _ => 0) (fits1 (rw := false) (by simp only [upd_apply, sn_upto, sn_from, slN_def, run_cap, rules, rules2, loopRules, Try.facts, base0, Int.toNat_zero, Nat.reduceAdd, Nat.reduceMul, Nat.reduceSub, Nat.reduceLT, Nat.reduceLeDiff, Nat.reduceEqDiff, Int.reduceLE, Int.reduceLT, Int.reduceToNat, Int.reduceNe, Int.reduceEq, not_false_eq_true, Nat.reduceBEq, Nat.reduceDiv, Int.natCast_zero, Int.natCast_one, Int.reduceAdd, Int.reduceSub, reduceIte, ↓reduceIte, Value.oneCell', rowI_length, rowI_take, rowI_splice, rep_all, row_zero, le_nat, Int.toNat_natCast, Nat.zero_add, sok_row, reduceCtorEq]) hp) rfl rfl ?_
  by_cases hM : 226 ≤ L ∧ (L : Int) = 226 + 72 * be4 G 222
  rotate_left 1
  · rw [decide_eq_false hM]
    have hno : ¬ GoodS L G := fun h => hM (by have := good_cnt h; have := h.1; exact ⟨by omega, by omega⟩)
    simp only [Bool.not_false, rulesS, sn_upto, sn_from, slN_def, run_cap, rules, rules2, loopRules, Try.facts, base0, Int.toNat_zero, Nat.reduceAdd, Nat.reduceMul, Nat.reduceSub, Nat.reduceLT, Nat.reduceLeDiff, Nat.reduceEqDiff, Int.reduceLE, Int.reduceLT, Int.reduceToNat, Int.reduceNe, Int.reduceEq, not_false_eq_true, Nat.reduceBEq, Nat.reduceDiv, Int.natCast_zero, Int.natCast_one, Int.reduceAdd, Int.reduceSub, reduceIte, ↓reduceIte, Value.oneCell', rowI_length, rowI_take, rowI_splice, rep_all, row_zero, le_nat, Int.toNat_natCast, Nat.zero_add, sok_row, reduceCtorEq]
    exact ret_plain (by rfl) (.inl ⟨hno, rfl, rfl⟩)
  rw [decide_eq_true hM]
  obtain ⟨hM1, hM2⟩ := hM
  have hw := be4_w hG 222
  simp only [W32] at hw
  have hN : L = 226 + 72 * (be4 G 222).toNat := by omega
  have hcn := cntE_of hN
  have hn : be4 G 222 = (cntE L : Nat) := by omega
  rw [← hcn] at hN
  simp only [Bool.not_true, rulesS, sn_upto, sn_from, slN_def, run_cap, rules, rules2, loopRules, Try.facts, base0, Int.toNat_zero, Nat.reduceAdd, Nat.reduceMul, Nat.reduceSub, Nat.reduceLT, Nat.reduceLeDiff, Nat.reduceEqDiff, Int.reduceLE, Int.reduceLT, Int.reduceToNat, Int.reduceNe, Int.reduceEq, not_false_eq_true, Nat.reduceBEq, Nat.reduceDiv, Int.natCast_zero, Int.natCast_one, Int.reduceAdd, Int.reduceSub, reduceIte, ↓reduceIte, Value.oneCell', rowI_length, rowI_take, rowI_splice, rep_all, row_zero, le_nat, Int.toNat_natCast, Nat.zero_add, sok_row, reduceCtorEq]
  refine readS_call (t := 0) (rw := false) (readState_m hG hs hp hc hL (cntE L) hN hn) (by simp only [upd_apply, sn_upto, sn_from, slN_def, run_cap, rules, rules2, loopRules, Try.facts, base0, Int.toNat_zero, Nat.reduceAdd, Nat.reduceMul, Nat.reduceSub, Nat.reduceLT, Nat.reduceLeDiff, Nat.reduceEqDiff, Int.reduceLE, Int.reduceLT, Int.reduceToNat, Int.reduceNe, Int.reduceEq, not_false_eq_true, Nat.reduceBEq, Nat.reduceDiv, Int.natCast_zero, Int.natCast_one, Int.reduceAdd, Int.reduceSub, reduceIte, ↓reduceIte, Value.oneCell', rowI_length, rowI_take, rowI_splice, rep_all, row_zero, le_nat, Int.toNat_natCast, Nat.zero_add, sok_row, reduceCtorEq]) hp rfl (fun h0 => ?_) (fun h0 c2 ds hg => ?_)
  · simp only [zOkSt, rulesS, sn_upto, sn_from, slN_def, run_cap, rules, rules2, loopRules, Try.facts, base0, Int.toNat_zero, Nat.reduceAdd, Nat.reduceMul, Nat.reduceSub, Nat.reduceLT, Nat.reduceLeDiff, Nat.reduceEqDiff, Int.reduceLE, Int.reduceLT, Int.reduceToNat, Int.reduceNe, Int.reduceEq, not_false_eq_true, Nat.reduceBEq, Nat.reduceDiv, Int.natCast_zero, Int.natCast_one, Int.reduceAdd, Int.reduceSub, reduceIte, ↓reduceIte, Value.oneCell', rowI_length, rowI_take, rowI_splice, rep_all, row_zero, le_nat, Int.toNat_natCast, Nat.zero_add, sok_row, reduceCtorEq]
    refine enc_call (t := 0) (rw := false) (n := cntE L) (f := rawE G) (x := { rawS G with store := .inl (.slice none 0 0) }) (fun a b c => encodeState_m a b c (fun i => rawE_ok hG i) (by omega)) ((rawS_ok hG).ws _) (by simp only [upd_apply, sn_upto, sn_from, slN_def, run_cap, rules, rules2, loopRules, Try.facts, base0, Int.toNat_zero, Nat.reduceAdd, Nat.reduceMul, Nat.reduceSub, Nat.reduceLT, Nat.reduceLeDiff, Nat.reduceEqDiff, Int.reduceLE, Int.reduceLT, Int.reduceToNat, Int.reduceNe, Int.reduceEq, not_false_eq_true, Nat.reduceBEq, Nat.reduceDiv, Int.natCast_zero, Int.natCast_one, Int.reduceAdd, Int.reduceSub, reduceIte, ↓reduceIte, Value.oneCell', rowI_length, rowI_take, rowI_splice, rep_all, row_zero, le_nat, Int.toNat_natCast, Nat.zero_add, sok_row, reduceCtorEq]) hp (.inl ⟨⟨none, rfl⟩, h0⟩) (fun hv => ?_) (fun hv c3 es he => ?_)
    · rw [val_ws] at hv
      have hno : ¬ GoodS L G := fun h => by rw [h.2.1] at hv; cases hv
      simp only [rulesS, sn_upto, sn_from, slN_def, run_cap, rules, rules2, loopRules, Try.facts, base0, Int.toNat_zero, Nat.reduceAdd, Nat.reduceMul, Nat.reduceSub, Nat.reduceLT, Nat.reduceLeDiff, Nat.reduceEqDiff, Int.reduceLE, Int.reduceLT, Int.reduceToNat, Int.reduceNe, Int.reduceEq, not_false_eq_true, Nat.reduceBEq, Nat.reduceDiv, Int.natCast_zero, Int.natCast_one, Int.reduceAdd, Int.reduceSub, reduceIte, ↓reduceIte, Value.oneCell', rowI_length, rowI_take, rowI_splice, rep_all, row_zero, le_nat, Int.toNat_natCast, Nat.zero_add, sok_row, reduceCtorEq]
      refine (bytesEqual_ns hs (by omega)).vcRead (fun _ => 0) (fits1 (rw := false) (by simp only [upd_apply, sn_upto, sn_from, slN_def, run_cap, rules, rules2, loopRules, Try.facts, base0, Int.toNat_zero, Nat.reduceAdd, Nat.reduceMul, Nat.reduceSub, Nat.reduceLT, Nat.reduceLeDiff, Nat.reduceEqDiff, Int.reduceLE, Int.reduceLT, Int.reduceToNat, Int.reduceNe, Int.reduceEq, not_false_eq_true, Nat.reduceBEq, Nat.reduceDiv, Int.natCast_zero, Int.natCast_one, Int.reduceAdd, Int.reduceSub, reduceIte, ↓reduceIte, Value.oneCell', rowI_length, rowI_take, rowI_splice, rep_all, row_zero, le_nat, Int.toNat_natCast, Nat.zero_add, sok_row, reduceCtorEq]) hp) rfl rfl ?_
      simp only [Bool.not_false, zOkSt, rulesS, sn_upto, sn_from, slN_def, run_cap, rules, rules2, loopRules, Try.facts, base0, Int.toNat_zero, Nat.reduceAdd, Nat.reduceMul, Nat.reduceSub, Nat.reduceLT, Nat.reduceLeDiff, Nat.reduceEqDiff, Int.reduceLE, Int.reduceLT, Int.reduceToNat, Int.reduceNe, Int.reduceEq, not_false_eq_true, Nat.reduceBEq, Nat.reduceDiv, Int.natCast_zero, Int.natCast_one, Int.reduceAdd, Int.reduceSub, reduceIte, ↓reduceIte, Value.oneCell', rowI_length, rowI_take, rowI_splice, rep_all, row_zero, le_nat, Int.toNat_natCast, Nat.zero_add, sok_row, reduceCtorEq]
      exact ret_plain (by rfl) (.inl ⟨hno, rfl, rfl⟩)
    · rw [val_ws] at hv
      rw [stateB_ws, ← hN] at he
      simp only [← hN, rulesS, sn_upto, sn_from, slN_def, run_cap, rules, rules2, loopRules, Try.facts, base0, Int.toNat_zero, Nat.reduceAdd, Nat.reduceMul, Nat.reduceSub, Nat.reduceLT, Nat.reduceLeDiff, Nat.reduceEqDiff, Int.reduceLE, Int.reduceLT, Int.reduceToNat, Int.reduceNe, Int.reduceEq, not_false_eq_true, Nat.reduceBEq, Nat.reduceDiv, Int.natCast_zero, Int.natCast_one, Int.reduceAdd, Int.reduceSub, reduceIte, ↓reduceIte, Value.oneCell', rowI_length, rowI_take, rowI_splice, rep_all, row_zero, le_nat, Int.toNat_natCast, Nat.zero_add, sok_row, reduceCtorEq]
      refine (bytesEqual_ss (n := L) (stateB_byt (rawS_ok hG) (fun i => rawE_ok hG i)) hG he.shows hs).vcRead (two _ 0) (fits2 (rw := true) (rw' := false) (by simp only [upd_same]) he.plain (by simp only [upd_apply, sn_upto, sn_from, slN_def, run_cap, rules, rules2, loopRules, Try.facts, base0, Int.toNat_zero, Nat.reduceAdd, Nat.reduceMul, Nat.reduceSub, Nat.reduceLT, Nat.reduceLeDiff, Nat.reduceEqDiff, Int.reduceLE, Int.reduceLT, Int.reduceToNat, Int.reduceNe, Int.reduceEq, not_false_eq_true, Nat.reduceBEq, Nat.reduceDiv, Int.natCast_zero, Int.natCast_one, Int.reduceAdd, Int.reduceSub, reduceIte, ↓reduceIte, Value.oneCell', rowI_length, rowI_take, rowI_splice, rep_all, row_zero, le_nat, Int.toNat_natCast, Nat.zero_add, sok_row, reduceCtorEq]) hp) rfl rfl ?_
      rcases Bool.eq_false_or_eq_true (eqB L (stateB (rawS G) (cntE L) (rawE G) (cntE L)) G) with hb | hb
      rotate_left 1
      · have hno : ¬ GoodS L G := fun h => by
          have := eqB_iff.2 h.2.2
          rw [hb] at this; cases this
        simp only [hb, Bool.not_false, zOkSt, rulesS, sn_upto, sn_from, slN_def, run_cap, rules, rules2, loopRules, Try.facts, base0, Int.toNat_zero, Nat.reduceAdd, Nat.reduceMul, Nat.reduceSub, Nat.reduceLT, Nat.reduceLeDiff, Nat.reduceEqDiff, Int.reduceLE, Int.reduceLT, Int.reduceToNat, Int.reduceNe, Int.reduceEq, not_false_eq_true, Nat.reduceBEq, Nat.reduceDiv, Int.natCast_zero, Int.natCast_one, Int.reduceAdd, Int.reduceSub, reduceIte, ↓reduceIte, Value.oneCell', rowI_length, rowI_take, rowI_splice, rep_all, row_zero, le_nat, Int.toNat_natCast, Nat.zero_add, sok_row, reduceCtorEq]
        exact ret_plain (by rfl) (.inl ⟨hno, rfl, rfl⟩)
      · have good : GoodS L G := ⟨hN, hv, eqB_iff.1 hb⟩
        simp only [hb, Bool.not_true, zOkSt, rulesS, sn_upto, sn_from, slN_def, run_cap, rules, rules2, loopRules, Try.facts, base0, Int.toNat_zero, Nat.reduceAdd, Nat.reduceMul, Nat.reduceSub, Nat.reduceLT, Nat.reduceLeDiff, Nat.reduceEqDiff, Int.reduceLE, Int.reduceLT, Int.reduceToNat, Int.reduceNe, Int.reduceEq, not_false_eq_true, Nat.reduceBEq, Nat.reduceDiv, Int.natCast_zero, Int.natCast_one, Int.reduceAdd, Int.reduceSub, reduceIte, ↓reduceIte, Value.oneCell', rowI_length, rowI_take, rowI_splice, rep_all, row_zero, le_nat, Int.toNat_natCast, Nat.zero_add, sok_row, reduceCtorEq]
        exact ret_plain (by show (List.all (stL { rawS G with store := .inl (.slice none 0 0) }) SV.plain && (true && true)) = true; rw [stL_plain rfl]; rfl) (.inr ⟨good, _, rfl, .inl ⟨h0, rfl, rfl⟩⟩)
  · simp only [zOkSt, rulesS, sn_upto, sn_from, slN_def, run_cap, rules, rules2, loopRules, Try.facts, base0, Int.toNat_zero, Nat.reduceAdd, Nat.reduceMul, Nat.reduceSub, Nat.reduceLT, Nat.reduceLeDiff, Nat.reduceEqDiff, Int.reduceLE, Int.reduceLT, Int.reduceToNat, Int.reduceNe, Int.reduceEq, not_false_eq_true, Nat.reduceBEq, Nat.reduceDiv, Int.natCast_zero, Int.natCast_one, Int.reduceAdd, Int.reduceSub, reduceIte, ↓reduceIte, Value.oneCell', rowI_length, rowI_take, rowI_splice, rep_all, row_zero, le_nat, Int.toNat_natCast, Nat.zero_add, sok_row, reduceCtorEq]
    refine enc_call (t := 7) (rw := true) (n := cntE L) (f := rawE G) (x := { rawS G with store := .inr (.inr (7, 0, cntE L, c2)) }) (fun a b c => encodeState_m a b c (fun i => rawE_ok hG i) (by omega)) ((rawS_ok hG).ws _) (by simp only [upd_apply, sn_upto, sn_from, slN_def, run_cap, rules, rules2, loopRules, Try.facts, base0, Int.toNat_zero, Nat.reduceAdd, Nat.reduceMul, Nat.reduceSub, Nat.reduceLT, Nat.reduceLeDiff, Nat.reduceEqDiff, Int.reduceLE, Int.reduceLT, Int.reduceToNat, Int.reduceNe, Int.reduceEq, not_false_eq_true, Nat.reduceBEq, Nat.reduceDiv, Int.natCast_zero, Int.natCast_one, Int.reduceAdd, Int.reduceSub, reduceIte, ↓reduceIte, Value.oneCell', rowI_length, rowI_take, rowI_splice, rep_all, row_zero, le_nat, Int.toNat_natCast, Nat.zero_add, sok_row, reduceCtorEq]) hg.plain (.inr ⟨0, c2, rfl, hg.room, hg.shows⟩) (fun hv => ?_) (fun hv c3 es he => ?_)
    · rw [val_ws] at hv
      have hno : ¬ GoodS L G := fun h => by rw [h.2.1] at hv; cases hv
      simp only [rulesS, sn_upto, sn_from, slN_def, run_cap, rules, rules2, loopRules, Try.facts, base0, Int.toNat_zero, Nat.reduceAdd, Nat.reduceMul, Nat.reduceSub, Nat.reduceLT, Nat.reduceLeDiff, Nat.reduceEqDiff, Int.reduceLE, Int.reduceLT, Int.reduceToNat, Int.reduceNe, Int.reduceEq, not_false_eq_true, Nat.reduceBEq, Nat.reduceDiv, Int.natCast_zero, Int.natCast_one, Int.reduceAdd, Int.reduceSub, reduceIte, ↓reduceIte, Value.oneCell', rowI_length, rowI_take, rowI_splice, rep_all, row_zero, le_nat, Int.toNat_natCast, Nat.zero_add, sok_row, reduceCtorEq]
      refine (bytesEqual_ns hs (by omega)).vcRead (fun _ => 0) (fits1 (rw := false) (by simp only [upd_apply, sn_upto, sn_from, slN_def, run_cap, rules, rules2, loopRules, Try.facts, base0, Int.toNat_zero, Nat.reduceAdd, Nat.reduceMul, Nat.reduceSub, Nat.reduceLT, Nat.reduceLeDiff, Nat.reduceEqDiff, Int.reduceLE, Int.reduceLT, Int.reduceToNat, Int.reduceNe, Int.reduceEq, not_false_eq_true, Nat.reduceBEq, Nat.reduceDiv, Int.natCast_zero, Int.natCast_one, Int.reduceAdd, Int.reduceSub, reduceIte, ↓reduceIte, Value.oneCell', rowI_length, rowI_take, rowI_splice, rep_all, row_zero, le_nat, Int.toNat_natCast, Nat.zero_add, sok_row, reduceCtorEq]) hp) rfl rfl ?_
      simp only [Bool.not_false, zOkSt, rulesS, sn_upto, sn_from, slN_def, run_cap, rules, rules2, loopRules, Try.facts, base0, Int.toNat_zero, Nat.reduceAdd, Nat.reduceMul, Nat.reduceSub, Nat.reduceLT, Nat.reduceLeDiff, Nat.reduceEqDiff, Int.reduceLE, Int.reduceLT, Int.reduceToNat, Int.reduceNe, Int.reduceEq, not_false_eq_true, Nat.reduceBEq, Nat.reduceDiv, Int.natCast_zero, Int.natCast_one, Int.reduceAdd, Int.reduceSub, reduceIte, ↓reduceIte, Value.oneCell', rowI_length, rowI_take, rowI_splice, rep_all, row_zero, le_nat, Int.toNat_natCast, Nat.zero_add, sok_row, reduceCtorEq]
      exact ret_plain (by rfl) (.inl ⟨hno, rfl, rfl⟩)
    · rw [val_ws] at hv
      rw [stateB_ws, ← hN] at he
      simp only [← hN, rulesS, sn_upto, sn_from, slN_def, run_cap, rules, rules2, loopRules, Try.facts, base0, Int.toNat_zero, Nat.reduceAdd, Nat.reduceMul, Nat.reduceSub, Nat.reduceLT, Nat.reduceLeDiff, Nat.reduceEqDiff, Int.reduceLE, Int.reduceLT, Int.reduceToNat, Int.reduceNe, Int.reduceEq, not_false_eq_true, Nat.reduceBEq, Nat.reduceDiv, Int.natCast_zero, Int.natCast_one, Int.reduceAdd, Int.reduceSub, reduceIte, ↓reduceIte, Value.oneCell', rowI_length, rowI_take, rowI_splice, rep_all, row_zero, le_nat, Int.toNat_natCast, Nat.zero_add, sok_row, reduceCtorEq]
      refine (bytesEqual_ss (n := L) (stateB_byt (rawS_ok hG) (fun i => rawE_ok hG i)) hG he.shows hs).vcRead (two _ 0) (fits2 (rw := true) (rw' := false) (by simp only [upd_same]) he.plain (by simp only [upd_apply, sn_upto, sn_from, slN_def, run_cap, rules, rules2, loopRules, Try.facts, base0, Int.toNat_zero, Nat.reduceAdd, Nat.reduceMul, Nat.reduceSub, Nat.reduceLT, Nat.reduceLeDiff, Nat.reduceEqDiff, Int.reduceLE, Int.reduceLT, Int.reduceToNat, Int.reduceNe, Int.reduceEq, not_false_eq_true, Nat.reduceBEq, Nat.reduceDiv, Int.natCast_zero, Int.natCast_one, Int.reduceAdd, Int.reduceSub, reduceIte, ↓reduceIte, Value.oneCell', rowI_length, rowI_take, rowI_splice, rep_all, row_zero, le_nat, Int.toNat_natCast, Nat.zero_add, sok_row, reduceCtorEq]) hp) rfl rfl ?_
      rcases Bool.eq_false_or_eq_true (eqB L (stateB (rawS G) (cntE L) (rawE G) (cntE L)) G) with hb | hb
      rotate_left 1
      · have hno : ¬ GoodS L G := fun h => by
          have := eqB_iff.2 h.2.2
          rw [hb] at this; cases this
        simp only [hb, Bool.not_false, zOkSt, rulesS, sn_upto, sn_from, slN_def, run_cap, rules, rules2, loopRules, Try.facts, base0, Int.toNat_zero, Nat.reduceAdd, Nat.reduceMul, Nat.reduceSub, Nat.reduceLT, Nat.reduceLeDiff, Nat.reduceEqDiff, Int.reduceLE, Int.reduceLT, Int.reduceToNat, Int.reduceNe, Int.reduceEq, not_false_eq_true, Nat.reduceBEq, Nat.reduceDiv, Int.natCast_zero, Int.natCast_one, Int.reduceAdd, Int.reduceSub, reduceIte, ↓reduceIte, Value.oneCell', rowI_length, rowI_take, rowI_splice, rep_all, row_zero, le_nat, Int.toNat_natCast, Nat.zero_add, sok_row, reduceCtorEq]
        exact ret_plain (by rfl) (.inl ⟨hno, rfl, rfl⟩)
      · have good : GoodS L G := ⟨hN, hv, eqB_iff.1 hb⟩
        simp only [hb, Bool.not_true, zOkSt, rulesS, sn_upto, sn_from, slN_def, run_cap, rules, rules2, loopRules, Try.facts, base0, Int.toNat_zero, Nat.reduceAdd, Nat.reduceMul, Nat.reduceSub, Nat.reduceLT, Nat.reduceLeDiff, Nat.reduceEqDiff, Int.reduceLE, Int.reduceLT, Int.reduceToNat, Int.reduceNe, Int.reduceEq, not_false_eq_true, Nat.reduceBEq, Nat.reduceDiv, Int.natCast_zero, Int.natCast_one, Int.reduceAdd, Int.reduceSub, reduceIte, ↓reduceIte, Value.oneCell', rowI_length, rowI_take, rowI_splice, rep_all, row_zero, le_nat, Int.toNat_natCast, Nat.zero_add, sok_row, reduceCtorEq]
        exact ret_stT (by decide) (by simp only [upd_apply, sn_upto, sn_from, slN_def, run_cap, rules, rules2, loopRules, Try.facts, base0, Int.toNat_zero, Nat.reduceAdd, Nat.reduceMul, Nat.reduceSub, Nat.reduceLT, Nat.reduceLeDiff, Nat.reduceEqDiff, Int.reduceLE, Int.reduceLT, Int.reduceToNat, Int.reduceNe, Int.reduceEq, not_false_eq_true, Nat.reduceBEq, Nat.reduceDiv, Int.natCast_zero, Int.natCast_one, Int.reduceAdd, Int.reduceSub, reduceIte, ↓reduceIte, Value.oneCell', rowI_length, rowI_take, rowI_splice, rep_all, row_zero, le_nat, Int.toNat_natCast, Nat.zero_add, sok_row, reduceCtorEq]) hg.plain (.inr ⟨good, _, rfl, .inr ⟨h0, c2, ds, rfl, hg, rfl⟩⟩)
end Go.Proofs.Ytikibkboebbdjaa
