/-
  A state that is valid, in the document: the whole.
-/
import Derived.Test.YtikibkboebbdjaaVcgG4
set_option linter.unusedSimpArgs false
set_option linter.unusedVariables false
namespace Go.Proofs.Ytikibkboebbdjaa
open Go.Vcg
set_option maxHeartbeats 16000000 in
set_option maxRecDepth 20000 in
theorem refValid_m {s : St} {n : Nat} {f : Nat → En} {cs : List SV} (h0 : StoreIs 0 s.store n f cs) (hp : cs.all SV.plain = true) (hs : StOk s) (hf : ∀ i, EnOk (f i)) (hn : n < 4611686018427387904) :
    MFun Try.prog 9 [Ag (stL s)] 1 (lk [(0, ⟨false, cs⟩)]) (fun v out => v = B (valB s n f) ∧ out = fun _ => none) := by
  refine mfun_of_vcL Try.func9 rfl (by kernel_rfl) [3, 1, 1, 1, 1] (by simp [Try.ntmps9]) Try.callable9 (fun y hy => by
    obtain rfl := List.mem_singleton.1 hy
    exact stL_ok (h0.ok (by decide))) all1 (inn1 hp) ?_
  refine ⟨_, vcut0 h0 hp hs, fun s2 e2 => ?_⟩
  rw [show s2 = _ from e2]; clear e2 s2
  refine ⟨_, vcut1 h0 hp hs, fun s2 e2 => ?_⟩
  rw [show s2 = _ from e2]; clear e2 s2
  refine ⟨_, vcut2 h0 hp hs, fun s2 e2 => ?_⟩
  rw [show s2 = _ from e2]; clear e2 s2
  refine ⟨_, vcut3 h0 hp hs, fun s2 e2 => ?_⟩
  rw [show s2 = _ from e2]; clear e2 s2
  refine ⟨_, vcut4 h0 hp hs, fun s2 e2 => ?_⟩
  rw [show s2 = _ from e2]; clear e2 s2
  have hl := h0.len
  have fin : ∀ {t : AS} {b : Bool}, b = valB s n f → Ret 1 (fun v out => v = B (valB s n f) ∧ out = fun _ => none) (B b) t := fun e => ret_plain rfl ⟨by rw [e], rfl⟩
  rcases Bool.eq_false_or_eq_true (limB s n) with b1 | b1
  rotate_left 1
  · simp only [Try.results9, b1, vEnv, vE_cons, vE_nil, vBox, mkS_eq, Bool.not_false, rulesX, rulesL, sn_upto, sn_from, slN_def, run_cap, rules, rules2, loopRules, Try.facts, base0, Int.toNat_zero, Nat.reduceAdd, Nat.reduceMul, Nat.reduceSub, Nat.reduceLT, Nat.reduceLeDiff, Nat.reduceEqDiff, Int.reduceLE, Int.reduceLT, Int.reduceToNat, Int.reduceNe, Int.reduceEq, not_false_eq_true, Nat.reduceBEq, Nat.reduceDiv, Int.natCast_zero, Int.natCast_one, Int.reduceAdd, Int.reduceSub, reduceIte, ↓reduceIte, Value.oneCell', rowI_length, rowI_take, rowI_splice, rep_all, row_zero, le_nat, Int.toNat_natCast, Nat.zero_add, sok_row, reduceCtorEq]
    exact fin (by simp [valB, b1])
  rcases Bool.eq_false_or_eq_true (twoB s) with b2 | b2
  rotate_left 1
  · simp only [Try.results9, b1, b2, vEnv, vE_cons, vE_nil, vBox, mkS_eq, Bool.not_false, Bool.not_true, rulesX, rulesL, sn_upto, sn_from, slN_def, run_cap, rules, rules2, loopRules, Try.facts, base0, Int.toNat_zero, Nat.reduceAdd, Nat.reduceMul, Nat.reduceSub, Nat.reduceLT, Nat.reduceLeDiff, Nat.reduceEqDiff, Int.reduceLE, Int.reduceLT, Int.reduceToNat, Int.reduceNe, Int.reduceEq, not_false_eq_true, Nat.reduceBEq, Nat.reduceDiv, Int.natCast_zero, Int.natCast_one, Int.reduceAdd, Int.reduceSub, reduceIte, ↓reduceIte, Value.oneCell', rowI_length, rowI_take, rowI_splice, rep_all, row_zero, le_nat, Int.toNat_natCast, Nat.zero_add, sok_row, reduceCtorEq]
    exact fin (by unfold valB; rw [b1, show (s.own || s.peer) = false from b2]; rfl)
  rcases Bool.eq_false_or_eq_true (absB s) with b3 | b3
  rotate_left 1
  · simp only [Try.results9, b1, b2, b3, vEnv, vE_cons, vE_nil, vBox, mkS_eq, Bool.not_false, Bool.not_true, rulesX, rulesL, sn_upto, sn_from, slN_def, run_cap, rules, rules2, loopRules, Try.facts, base0, Int.toNat_zero, Nat.reduceAdd, Nat.reduceMul, Nat.reduceSub, Nat.reduceLT, Nat.reduceLeDiff, Nat.reduceEqDiff, Int.reduceLE, Int.reduceLT, Int.reduceToNat, Int.reduceNe, Int.reduceEq, not_false_eq_true, Nat.reduceBEq, Nat.reduceDiv, Int.natCast_zero, Int.natCast_one, Int.reduceAdd, Int.reduceSub, reduceIte, ↓reduceIte, Value.oneCell', rowI_length, rowI_take, rowI_splice, rep_all, row_zero, le_nat, Int.toNat_natCast, Nat.zero_add, sok_row, reduceCtorEq]
    exact fin (by unfold valB; rw [b1, b3]; simp)
  rcases Bool.eq_false_or_eq_true (unbB s) with b4 | b4
  rotate_left 1
  · simp only [Try.results9, b1, b2, b3, b4, vEnv, vE_cons, vE_nil, vBox, mkS_eq, Bool.not_false, Bool.not_true, rulesX, rulesL, sn_upto, sn_from, slN_def, run_cap, rules, rules2, loopRules, Try.facts, base0, Int.toNat_zero, Nat.reduceAdd, Nat.reduceMul, Nat.reduceSub, Nat.reduceLT, Nat.reduceLeDiff, Nat.reduceEqDiff, Int.reduceLE, Int.reduceLT, Int.reduceToNat, Int.reduceNe, Int.reduceEq, not_false_eq_true, Nat.reduceBEq, Nat.reduceDiv, Int.natCast_zero, Int.natCast_one, Int.reduceAdd, Int.reduceSub, reduceIte, ↓reduceIte, Value.oneCell', rowI_length, rowI_take, rowI_splice, rep_all, row_zero, le_nat, Int.toNat_natCast, Nat.zero_add, sok_row, reduceCtorEq]
    exact fin (by unfold valB; rw [b1, b4]; simp)
  rcases Bool.eq_false_or_eq_true (chB s) with b5 | b5
  rotate_left 1
  · simp only [Try.results9, b1, b2, b3, b4, b5, vEnv, vE_cons, vE_nil, vBox, mkS_eq, Bool.not_false, Bool.not_true, rulesX, rulesL, sn_upto, sn_from, slN_def, run_cap, rules, rules2, loopRules, Try.facts, base0, Int.toNat_zero, Nat.reduceAdd, Nat.reduceMul, Nat.reduceSub, Nat.reduceLT, Nat.reduceLeDiff, Nat.reduceEqDiff, Int.reduceLE, Int.reduceLT, Int.reduceToNat, Int.reduceNe, Int.reduceEq, not_false_eq_true, Nat.reduceBEq, Nat.reduceDiv, Int.natCast_zero, Int.natCast_one, Int.reduceAdd, Int.reduceSub, reduceIte, ↓reduceIte, Value.oneCell', rowI_length, rowI_take, rowI_splice, rep_all, row_zero, le_nat, Int.toNat_natCast, Nat.zero_add, sok_row, reduceCtorEq]
    exact fin (by unfold valB; rw [b1, b5]; simp)
  have ev : valB s n f = groB s f n := by unfold valB; rw [b1, show (s.own || s.peer) = true from b2, b3, b4, b5]; rfl
  have ok1 : ∀ {M : Nat → Prop}, (∀ x ∈ cs, SV.ok M x) = True := eq_true (ok_all hp)
  have ok2 : (∀ x ∈ stL s, SV.ok (fun n => n < 519) x) = True := eq_true (stL_ok (h0.ok (by decide)))
  simp only [Try.results9, b1, b2, b3, b4, b5, vEnv, vE_cons, vE_nil, vBox, mkS_eq, Bool.not_false, Bool.not_true, rulesX, rulesL, sn_upto, sn_from, slN_def, run_cap, rules, rules2, loopRules, Try.facts, base0, Int.toNat_zero, Nat.reduceAdd, Nat.reduceMul, Nat.reduceSub, Nat.reduceLT, Nat.reduceLeDiff, Nat.reduceEqDiff, Int.reduceLE, Int.reduceLT, Int.reduceToNat, Int.reduceNe, Int.reduceEq, not_false_eq_true, Nat.reduceBEq, Nat.reduceDiv, Int.natCast_zero, Int.natCast_one, Int.reduceAdd, Int.reduceSub, reduceIte, ↓reduceIte, Value.oneCell', rowI_length, rowI_take, rowI_splice, rep_all, row_zero, le_nat, Int.toNat_natCast, Nat.zero_add, sok_row, reduceCtorEq]
  refine loop_inv n (fun k => groB s f k = true) (fun k => [(1, Ptr 1 0), (9, I .i64 k)]) (fun k => [(0, ⟨false, cs⟩), (1, ⟨true, stL s⟩)]) _ ?_ ?_ ?_
  · refine ⟨rfl, ?_⟩
    simp only [ok1, ok2, sn_upto, sn_from, slN_def, run_cap, rules, rules2, loopRules, Try.facts, base0, Int.toNat_zero, Nat.reduceAdd, Nat.reduceMul, Nat.reduceSub, Nat.reduceLT, Nat.reduceLeDiff, Nat.reduceEqDiff, Int.reduceLE, Int.reduceLT, Int.reduceToNat, Int.reduceNe, Int.reduceEq, not_false_eq_true, Nat.reduceBEq, Nat.reduceDiv, Int.natCast_zero, Int.natCast_one, Int.reduceAdd, Int.reduceSub, reduceIte, ↓reduceIte, Value.oneCell', rowI_length, rowI_take, rowI_splice, rep_all, row_zero, le_nat, Int.toNat_natCast, Nat.zero_add, sok_row, reduceCtorEq]
  · intro j hj hinv
    have h1 := h0
    rcases h0 with ⟨_, rfl⟩ | ⟨o, c, e, hc, hsh⟩
    · omega
    have b1 := hsh.lt hj
    simp only [hl, rulesS, sn_upto, sn_from, slN_def, run_cap, rules, rules2, loopRules, Try.facts, base0, Int.toNat_zero, Nat.reduceAdd, Nat.reduceMul, Nat.reduceSub, Nat.reduceLT, Nat.reduceLeDiff, Nat.reduceEqDiff, Int.reduceLE, Int.reduceLT, Int.reduceToNat, Int.reduceNe, Int.reduceEq, not_false_eq_true, Nat.reduceBEq, Nat.reduceDiv, Int.natCast_zero, Int.natCast_one, Int.reduceAdd, Int.reduceSub, reduceIte, ↓reduceIte, Value.oneCell', rowI_length, rowI_take, rowI_splice, rep_all, row_zero, le_nat, Int.toNat_natCast, Nat.zero_add, sok_row, reduceCtorEq]
    refine vcIf_yes (by simp; omega) ?_
    simp only [e, nat_nn, nat_lt_eq hj, hsh j hj, b1, rulesE, rulesS, sn_upto, sn_from, slN_def, run_cap, rules, rules2, loopRules, Try.facts, base0, Int.toNat_zero, Nat.reduceAdd, Nat.reduceMul, Nat.reduceSub, Nat.reduceLT, Nat.reduceLeDiff, Nat.reduceEqDiff, Int.reduceLE, Int.reduceLT, Int.reduceToNat, Int.reduceNe, Int.reduceEq, not_false_eq_true, Nat.reduceBEq, Nat.reduceDiv, Int.natCast_zero, Int.natCast_one, Int.reduceAdd, Int.reduceSub, reduceIte, ↓reduceIte, Value.oneCell', rowI_length, rowI_take, rowI_splice, rep_all, row_zero, le_nat, Int.toNat_natCast, Nat.zero_add, sok_row, reduceCtorEq]
    refine ⟨by kernel_rfl, ?_⟩
    have w := hf j
    rcases Bool.eq_false_or_eq_true ((f j).ep == 0) with p0 | p0
    · have g1 : valB s n f = false := by rw [ev]; exact gro_false hj (by simp [entB, pasB, p0])
      simp only [p0, sn_upto, sn_from, slN_def, run_cap, rules, rules2, loopRules, Try.facts, base0, Int.toNat_zero, Nat.reduceAdd, Nat.reduceMul, Nat.reduceSub, Nat.reduceLT, Nat.reduceLeDiff, Nat.reduceEqDiff, Int.reduceLE, Int.reduceLT, Int.reduceToNat, Int.reduceNe, Int.reduceEq, not_false_eq_true, Nat.reduceBEq, Nat.reduceDiv, Int.natCast_zero, Int.natCast_one, Int.reduceAdd, Int.reduceSub, reduceIte, ↓reduceIte, Value.oneCell', rowI_length, rowI_take, rowI_splice, rep_all, row_zero, le_nat, Int.toNat_natCast, Nat.zero_add, sok_row, reduceCtorEq]
      exact fin (by rw [g1])
    simp only [p0, rulesE, rulesS, sn_upto, sn_from, slN_def, run_cap, rules, rules2, loopRules, Try.facts, base0, Int.toNat_zero, Nat.reduceAdd, Nat.reduceMul, Nat.reduceSub, Nat.reduceLT, Nat.reduceLeDiff, Nat.reduceEqDiff, Int.reduceLE, Int.reduceLT, Int.reduceToNat, Int.reduceNe, Int.reduceEq, not_false_eq_true, Nat.reduceBEq, Nat.reduceDiv, Int.natCast_zero, Int.natCast_one, Int.reduceAdd, Int.reduceSub, reduceIte, ↓reduceIte, Value.oneCell', rowI_length, rowI_take, rowI_splice, rep_all, row_zero, le_nat, Int.toNat_natCast, Nat.zero_add, sok_row, reduceCtorEq]
    refine Fun.draw (place_fun w.ep w.n) Try.callable25 ?_
    simp only [rulesE, rulesS, sn_upto, sn_from, slN_def, run_cap, rules, rules2, loopRules, Try.facts, base0, Int.toNat_zero, Nat.reduceAdd, Nat.reduceMul, Nat.reduceSub, Nat.reduceLT, Nat.reduceLeDiff, Nat.reduceEqDiff, Int.reduceLE, Int.reduceLT, Int.reduceToNat, Int.reduceNe, Int.reduceEq, not_false_eq_true, Nat.reduceBEq, Nat.reduceDiv, Int.natCast_zero, Int.natCast_one, Int.reduceAdd, Int.reduceSub, reduceIte, ↓reduceIte, Value.oneCell', rowI_length, rowI_take, rowI_splice, rep_all, row_zero, le_nat, Int.toNat_natCast, Nat.zero_add, sok_row, reduceCtorEq]
    refine Fun.draw (place_fun hs.re hs.nr) Try.callable25 ?_
    by_cases p1 : plc s.re s.nr ≤ plc (f j).ep (f j).n
    · have g1 : valB s n f = false := by
        rw [ev]; refine gro_false hj ?_
        have : ¬ plc (f j).ep (f j).n < plc s.re s.nr := by omega
        simp [entB, pasB, this]
      have d1 : decide (plc s.re s.nr ≤ plc (f j).ep (f j).n) = true := decide_eq_true p1
      simp only [d1, sn_upto, sn_from, slN_def, run_cap, rules, rules2, loopRules, Try.facts, base0, Int.toNat_zero, Nat.reduceAdd, Nat.reduceMul, Nat.reduceSub, Nat.reduceLT, Nat.reduceLeDiff, Nat.reduceEqDiff, Int.reduceLE, Int.reduceLT, Int.reduceToNat, Int.reduceNe, Int.reduceEq, not_false_eq_true, Nat.reduceBEq, Nat.reduceDiv, Int.natCast_zero, Int.natCast_one, Int.reduceAdd, Int.reduceSub, reduceIte, ↓reduceIte, Value.oneCell', rowI_length, rowI_take, rowI_splice, rep_all, row_zero, le_nat, Int.toNat_natCast, Nat.zero_add, sok_row, reduceCtorEq]
      exact fin (by rw [g1])
    have d1 : decide (plc s.re s.nr ≤ plc (f j).ep (f j).n) = false := decide_eq_false p1
    have pas : pasB s (f j) = true := by
      have : plc (f j).ep (f j).n < plc s.re s.nr := by omega
      simp [pasB, p0, this]
    by_cases j0 : j = 0
    · have d0 : decide (0 < (j : Int)) = false := decide_eq_false (by omega)
      have g1 : groB s f (j + 1) = true := by rw [groB, hinv, entB, pas, decide_eq_true j0]; rfl
      simp only [d1, d0, sn_upto, sn_from, slN_def, run_cap, rules, rules2, loopRules, Try.facts, base0, Int.toNat_zero, Nat.reduceAdd, Nat.reduceMul, Nat.reduceSub, Nat.reduceLT, Nat.reduceLeDiff, Nat.reduceEqDiff, Int.reduceLE, Int.reduceLT, Int.reduceToNat, Int.reduceNe, Int.reduceEq, not_false_eq_true, Nat.reduceBEq, Nat.reduceDiv, Int.natCast_zero, Int.natCast_one, Int.reduceAdd, Int.reduceSub, reduceIte, ↓reduceIte, Value.oneCell', rowI_length, rowI_take, rowI_splice, rep_all, row_zero, le_nat, Int.toNat_natCast, Nat.zero_add, sok_row, reduceCtorEq]
      refine ⟨by kernel_rfl, ?_⟩
      simp only [g1, wrapS j (by omega), sn_upto, sn_from, slN_def, run_cap, rules, rules2, loopRules, Try.facts, base0, Int.toNat_zero, Nat.reduceAdd, Nat.reduceMul, Nat.reduceSub, Nat.reduceLT, Nat.reduceLeDiff, Nat.reduceEqDiff, Int.reduceLE, Int.reduceLT, Int.reduceToNat, Int.reduceNe, Int.reduceEq, not_false_eq_true, Nat.reduceBEq, Nat.reduceDiv, Int.natCast_zero, Int.natCast_one, Int.reduceAdd, Int.reduceSub, reduceIte, ↓reduceIte, Value.oneCell', rowI_length, rowI_take, rowI_splice, rep_all, row_zero, le_nat, Int.toNat_natCast, Nat.zero_add, sok_row, reduceCtorEq]
      exact ⟨ok_all hp, stL_ok (h1.ok (by decide))⟩
    have d0 : decide (0 < (j : Int)) = true := decide_eq_true (by omega)
    have w1 : IntKind.i64.wrap ((j : Int) - 1) = ((j - 1 : Nat) : Int) := wrapD j 1 (by omega) (by omega)
    have hj1 : j - 1 < n := by omega
    have b2 := hsh.lt hj1
    have w2 := hf (j - 1)
    have q0 : cs[o + (j - 1) * 66]? = some (Sum.inl (.int .u32 (f (j - 1)).ep)) := by
      have := congrArg (fun l : List SV => l[0]?) (hsh (j - 1) hj1)
      simp only [enL_g0] at this
      rwa [List.getElem?_take_of_lt (by decide), List.getElem?_drop, Nat.add_zero] at this
    have q1 : cs[o + (j - 1) * 66 + 1]? = some (Sum.inl (.int .u32 (f (j - 1)).n)) := by
      have := congrArg (fun l : List SV => l[1]?) (hsh (j - 1) hj1)
      simp only [enL_g1] at this
      rwa [List.getElem?_take_of_lt (by decide), List.getElem?_drop] at this
    simp only [d1, d0, sn_upto, sn_from, slN_def, run_cap, rules, rules2, loopRules, Try.facts, base0, Int.toNat_zero, Nat.reduceAdd, Nat.reduceMul, Nat.reduceSub, Nat.reduceLT, Nat.reduceLeDiff, Nat.reduceEqDiff, Int.reduceLE, Int.reduceLT, Int.reduceToNat, Int.reduceNe, Int.reduceEq, not_false_eq_true, Nat.reduceBEq, Nat.reduceDiv, Int.natCast_zero, Int.natCast_one, Int.reduceAdd, Int.reduceSub, reduceIte, ↓reduceIte, Value.oneCell', rowI_length, rowI_take, rowI_splice, rep_all, row_zero, le_nat, Int.toNat_natCast, Nat.zero_add, sok_row, reduceCtorEq]
    refine ⟨by kernel_rfl, ?_⟩
    simp only [e, w1, nat_nn, nat_lt_eq hj1, q0, q1, rulesE, rulesS, sn_upto, sn_from, slN_def, run_cap, rules, rules2, loopRules, Try.facts, base0, Int.toNat_zero, Nat.reduceAdd, Nat.reduceMul, Nat.reduceSub, Nat.reduceLT, Nat.reduceLeDiff, Nat.reduceEqDiff, Int.reduceLE, Int.reduceLT, Int.reduceToNat, Int.reduceNe, Int.reduceEq, not_false_eq_true, Nat.reduceBEq, Nat.reduceDiv, Int.natCast_zero, Int.natCast_one, Int.reduceAdd, Int.reduceSub, reduceIte, ↓reduceIte, Value.oneCell', rowI_length, rowI_take, rowI_splice, rep_all, row_zero, le_nat, Int.toNat_natCast, Nat.zero_add, sok_row, reduceCtorEq]
    refine Fun.draw (place_fun w2.ep w2.n) Try.callable25 ?_
    simp only [rulesE, rulesS, sn_upto, sn_from, slN_def, run_cap, rules, rules2, loopRules, Try.facts, base0, Int.toNat_zero, Nat.reduceAdd, Nat.reduceMul, Nat.reduceSub, Nat.reduceLT, Nat.reduceLeDiff, Nat.reduceEqDiff, Int.reduceLE, Int.reduceLT, Int.reduceToNat, Int.reduceNe, Int.reduceEq, not_false_eq_true, Nat.reduceBEq, Nat.reduceDiv, Int.natCast_zero, Int.natCast_one, Int.reduceAdd, Int.reduceSub, reduceIte, ↓reduceIte, Value.oneCell', rowI_length, rowI_take, rowI_splice, rep_all, row_zero, le_nat, Int.toNat_natCast, Nat.zero_add, sok_row, reduceCtorEq]
    refine Fun.draw (place_fun w.ep w.n) Try.callable25 ?_
    by_cases hc0 : plc (f (j - 1)).ep (f (j - 1)).n < plc (f j).ep (f j).n
    · have d2 : decide (plc (f j).ep (f j).n ≤ plc (f (j - 1)).ep (f (j - 1)).n) = false := decide_eq_false (by omega)
      have g1 : groB s f (j + 1) = true := by rw [groB, hinv, entB, pas, decide_eq_true hc0]; simp
      simp only [d2, g1, wrapS j (by omega), sn_upto, sn_from, slN_def, run_cap, rules, rules2, loopRules, Try.facts, base0, Int.toNat_zero, Nat.reduceAdd, Nat.reduceMul, Nat.reduceSub, Nat.reduceLT, Nat.reduceLeDiff, Nat.reduceEqDiff, Int.reduceLE, Int.reduceLT, Int.reduceToNat, Int.reduceNe, Int.reduceEq, not_false_eq_true, Nat.reduceBEq, Nat.reduceDiv, Int.natCast_zero, Int.natCast_one, Int.reduceAdd, Int.reduceSub, reduceIte, ↓reduceIte, Value.oneCell', rowI_length, rowI_take, rowI_splice, rep_all, row_zero, le_nat, Int.toNat_natCast, Nat.zero_add, sok_row, reduceCtorEq]
      exact ⟨ok_all hp, stL_ok (h1.ok (by decide))⟩
    · have d2 : decide (plc (f j).ep (f j).n ≤ plc (f (j - 1)).ep (f (j - 1)).n) = true := decide_eq_true (by omega)
      have g1 : valB s n f = false := by rw [ev]; exact gro_false hj (by rw [entB, decide_eq_false hc0, decide_eq_false j0]; simp)
      simp only [d2, sn_upto, sn_from, slN_def, run_cap, rules, rules2, loopRules, Try.facts, base0, Int.toNat_zero, Nat.reduceAdd, Nat.reduceMul, Nat.reduceSub, Nat.reduceLT, Nat.reduceLeDiff, Nat.reduceEqDiff, Int.reduceLE, Int.reduceLT, Int.reduceToNat, Int.reduceNe, Int.reduceEq, not_false_eq_true, Nat.reduceBEq, Nat.reduceDiv, Int.natCast_zero, Int.natCast_one, Int.reduceAdd, Int.reduceSub, reduceIte, ↓reduceIte, Value.oneCell', rowI_length, rowI_take, rowI_splice, rep_all, row_zero, le_nat, Int.toNat_natCast, Nat.zero_add, sok_row, reduceCtorEq]
      exact fin (by rw [g1])
  · intro hinv
    simp only [hl, rulesS, sn_upto, sn_from, slN_def, run_cap, rules, rules2, loopRules, Try.facts, base0, Int.toNat_zero, Nat.reduceAdd, Nat.reduceMul, Nat.reduceSub, Nat.reduceLT, Nat.reduceLeDiff, Nat.reduceEqDiff, Int.reduceLE, Int.reduceLT, Int.reduceToNat, Int.reduceNe, Int.reduceEq, not_false_eq_true, Nat.reduceBEq, Nat.reduceDiv, Int.natCast_zero, Int.natCast_one, Int.reduceAdd, Int.reduceSub, reduceIte, ↓reduceIte, Value.oneCell', rowI_length, rowI_take, rowI_splice, rep_all, row_zero, le_nat, Int.toNat_natCast, Nat.zero_add, sok_row, reduceCtorEq]
    refine vcIf_no (by simp) ?_
    simp only [hinv, sn_upto, sn_from, slN_def, run_cap, rules, rules2, loopRules, Try.facts, base0, Int.toNat_zero, Nat.reduceAdd, Nat.reduceMul, Nat.reduceSub, Nat.reduceLT, Nat.reduceLeDiff, Nat.reduceEqDiff, Int.reduceLE, Int.reduceLT, Int.reduceToNat, Int.reduceNe, Int.reduceEq, not_false_eq_true, Nat.reduceBEq, Nat.reduceDiv, Int.natCast_zero, Int.natCast_one, Int.reduceAdd, Int.reduceSub, reduceIte, ↓reduceIte, Value.oneCell', rowI_length, rowI_take, rowI_splice, rep_all, row_zero, le_nat, Int.toNat_natCast, Nat.zero_add, sok_row, reduceCtorEq]
    exact fin (by rw [ev, hinv])
end Go.Proofs.Ytikibkboebbdjaa
