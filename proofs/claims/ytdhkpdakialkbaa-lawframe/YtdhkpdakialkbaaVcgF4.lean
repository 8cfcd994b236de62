/-
  Decoding in the program.
-/
import Derived.Test.YtdhkpdakialkbaaVcgF3
set_option linter.unusedSimpArgs false
set_option linter.unusedVariables false
namespace Go.Proofs.Ytdhkpdakialkbaa
open Go.Vcg
theorem measures_nil {a : Option Addr} : MFun Try.prog 16 [V (.slice a 0 0)] 0 (fun _ => none) (fun v out => v = B false ∧ out = fun _ => none) := by
  refine mfun_of_vc Try.func16 rfl (by kernel_rfl) (by simp [Try.ntmps16]) Try.callable16 (by simp [AV.ok, CV.ok, SV.names]) all0 inn0 ?_
  simp only [Try.results16, decide_true, sn_upto, sn_from, slN_def, run_cap, rules, rules2, loopRules, Try.facts, base0, Int.toNat_zero, Nat.reduceAdd, Nat.reduceMul, Nat.reduceSub, Nat.reduceLT, Nat.reduceLeDiff, Nat.reduceEqDiff, Int.reduceLE, Int.reduceLT, Int.reduceToNat, Int.reduceNe, Int.reduceEq, not_false_eq_true, Nat.reduceBEq, Nat.reduceDiv, Int.natCast_zero, Int.natCast_one, Int.reduceAdd, Int.reduceSub, reduceIte, ↓reduceIte, Value.oneCell', rowI_length, rowI_take, rowI_splice, rep_all, row_zero, le_nat, Int.toNat_natCast, Nat.zero_add, sok_row, reduceCtorEq]
  exact ret_plain rfl ⟨rfl, rfl⟩
/-- The answer where nothing is read. -/
def shutV : AV := .inr [.inr (frL (fun _ => 0) 0 0 (Sum.inl (.slice none 0 0)) (fun _ => 0)), .inl (.inl (.bool false))]
theorem shutV_plain : AV.plain shutV = true := by
  have := frL_plain (pub := fun _ => 0) (pn := 0) (n := 0) (tag := fun _ => 0) (sv := Sum.inl (.slice none 0 0)) rfl
  simpa [shutV, AV.plain, CV.plain, SV.plain] using this
theorem decode_nil {a : Option Addr} : MFun Try.prog 7 [V (.slice a 0 0)] 0 (fun _ => none) (fun v out => v = shutV ∧ out = fun _ => none) := by
  refine mfun_of_vc Try.func7 rfl (by kernel_rfl) (by simp [Try.ntmps7]) Try.callable7 (by simp [AV.ok, CV.ok, SV.names]) all0 inn0 ?_
  simp only [Try.results7, zFrame, zFrame2, frL_len, frL_w, frL_all, sn_upto, sn_from, slN_def, run_cap, rules, rules2, loopRules, Try.facts, base0, Int.toNat_zero, Nat.reduceAdd, Nat.reduceMul, Nat.reduceSub, Nat.reduceLT, Nat.reduceLeDiff, Nat.reduceEqDiff, Int.reduceLE, Int.reduceLT, Int.reduceToNat, Int.reduceNe, Int.reduceEq, not_false_eq_true, Nat.reduceBEq, Nat.reduceDiv, Int.natCast_zero, Int.natCast_one, Int.reduceAdd, Int.reduceSub, reduceIte, ↓reduceIte, Value.oneCell', rowI_length, rowI_take, rowI_splice, rep_all, row_zero, le_nat, Int.toNat_natCast, Nat.zero_add, sok_row, reduceCtorEq]
  refine ⟨by kernel_rfl, ?_⟩
  refine measures_nil.vcRead (fun n => n) fits0 rfl rfl ?_
  simp only [Bool.not_false, zFrame, zFrame2, frL_len, frL_w, frL_all, sn_upto, sn_from, slN_def, run_cap, rules, rules2, loopRules, Try.facts, base0, Int.toNat_zero, Nat.reduceAdd, Nat.reduceMul, Nat.reduceSub, Nat.reduceLT, Nat.reduceLeDiff, Nat.reduceEqDiff, Int.reduceLE, Int.reduceLT, Int.reduceToNat, Int.reduceNe, Int.reduceEq, not_false_eq_true, Nat.reduceBEq, Nat.reduceDiv, Int.natCast_zero, Int.natCast_one, Int.reduceAdd, Int.reduceSub, reduceIte, ↓reduceIte, Value.oneCell', rowI_length, rowI_take, rowI_splice, rep_all, row_zero, le_nat, Int.toNat_natCast, Nat.zero_add, sok_row, reduceCtorEq]
  exact ret_plain shutV_plain ⟨rfl, rfl⟩
theorem decode_bad {o n c : Nat} {f : Nat → Int} {cs : List SV} (hf : Byt f) (hs : Shows cs o n f) (hp : cs.all SV.plain = true) (hc : n ≤ c) (hn : n < 140737488355328) (hfr : ¬ isFr n f) :
    MFun Try.prog 7 [Sl 0 o n c] 1 (lk [(0, ⟨false, cs⟩)]) (fun v out => v = shutV ∧ out = fun _ => none) := by
  refine mfun_of_vc Try.func7 rfl (by kernel_rfl) (by simp [Try.ntmps7]) Try.callable7 (by simp [AV.ok, CV.ok, SV.names]) all1 (inn1 hp) ?_
  simp only [Try.results7, zFrame, zFrame2, frL_len, frL_w, frL_all, sn_upto, sn_from, slN_def, run_cap, rules, rules2, loopRules, Try.facts, base0, Int.toNat_zero, Nat.reduceAdd, Nat.reduceMul, Nat.reduceSub, Nat.reduceLT, Nat.reduceLeDiff, Nat.reduceEqDiff, Int.reduceLE, Int.reduceLT, Int.reduceToNat, Int.reduceNe, Int.reduceEq, not_false_eq_true, Nat.reduceBEq, Nat.reduceDiv, Int.natCast_zero, Int.natCast_one, Int.reduceAdd, Int.reduceSub, reduceIte, ↓reduceIte, Value.oneCell', rowI_length, rowI_take, rowI_splice, rep_all, row_zero, le_nat, Int.toNat_natCast, Nat.zero_add, sok_row, reduceCtorEq]
  refine ⟨by kernel_rfl, ?_⟩
  refine (measures_m hf hs hp hc hn false (by simp [hfr])).vcRead (fun _ => 0) (fits1 (rw := false) (by simp only [upd_apply, sn_upto, sn_from, slN_def, run_cap, rules, rules2, loopRules, Try.facts, base0, Int.toNat_zero, Nat.reduceAdd, Nat.reduceMul, Nat.reduceSub, Nat.reduceLT, Nat.reduceLeDiff, Nat.reduceEqDiff, Int.reduceLE, Int.reduceLT, Int.reduceToNat, Int.reduceNe, Int.reduceEq, not_false_eq_true, Nat.reduceBEq, Nat.reduceDiv, Int.natCast_zero, Int.natCast_one, Int.reduceAdd, Int.reduceSub, reduceIte, ↓reduceIte, Value.oneCell', rowI_length, rowI_take, rowI_splice, rep_all, row_zero, le_nat, Int.toNat_natCast, Nat.zero_add, sok_row, reduceCtorEq]) hp) rfl rfl ?_
  simp only [Bool.not_false, zFrame, zFrame2, frL_len, frL_w, frL_all, sn_upto, sn_from, slN_def, run_cap, rules, rules2, loopRules, Try.facts, base0, Int.toNat_zero, Nat.reduceAdd, Nat.reduceMul, Nat.reduceSub, Nat.reduceLT, Nat.reduceLeDiff, Nat.reduceEqDiff, Int.reduceLE, Int.reduceLT, Int.reduceToNat, Int.reduceNe, Int.reduceEq, not_false_eq_true, Nat.reduceBEq, Nat.reduceDiv, Int.natCast_zero, Int.natCast_one, Int.reduceAdd, Int.reduceSub, reduceIte, ↓reduceIte, Value.oneCell', rowI_length, rowI_take, rowI_splice, rep_all, row_zero, le_nat, Int.toNat_natCast, Nat.zero_add, sok_row, reduceCtorEq]
  exact ret_plain shutV_plain ⟨rfl, rfl⟩
/-- The answer where a frame was read. -/
def DecF (k m : Nat) (f : Nat → Int) (v : AV) (out : Nat → Option Box) : Prop :=
  ∃ sv, v = .inr [.inr (frL (fun i => f (1 + i)) (be4 f 33) (be4 f 37) sv (fun i => f (45 + m + i))), .inl (.inl (.bool true))] ∧
    ((m = 0 ∧ sv = Sum.inl (.slice none 0 0) ∧ out = fun _ => none) ∨
      ∃ c tail, 0 < m ∧ sv = Sum.inr (.inr (k, 0, m, c)) ∧ out = lk [(k, ⟨true, rowI .u8 m (fun i => f (45 + i)) ++ tail⟩)] ∧ m ≤ c ∧ tail.length = c - m ∧ tail.all SV.plain = true)
theorem ret_frT {s : AS} {k q m c : Nat} {pub tag : Nat → Int} {a b : Int} {cs : List SV} (hq : k ≤ q) (hb : s.box q = some ⟨true, cs⟩) (hp : cs.all SV.plain = true) :
    Ret k (fun v out => v = .inr [.inr (frL pub a b (Sum.inr (.inr (k, 0, m, c))) tag), .inl (.inl (.bool true))] ∧ out = lk [(k, ⟨true, cs⟩)]) (.inr [.inr (frL pub a b (Sum.inr (.inr (q, 0, m, c))) tag), .inl (.inl (.bool true))]) s := by
  refine ⟨q, .inr [.inr (frL pub a b (Sum.inr (.inr (k, 0, m, c))) tag), .inl (.inl (.bool true))], lk [(k, ⟨true, cs⟩)], hq, ?_, ?_, fun m b hm => ?_, rfl, rfl⟩
  · have e : SV.ren (rho k q) (Sum.inr (.inr (k, 0, m, c))) = Sum.inr (.inr (q, 0, m, c)) := by
      show (Sum.inr (.inr (rho k q k, 0, m, c)) : SV) = _
      rw [rho_k]
    simp only [AV.ren, List.map_cons, List.map_nil, CV.ren, frL_ren, e]; rfl
  · intro x hx
    simp only [List.mem_cons, List.not_mem_nil, or_false] at hx
    rcases hx with rfl | rfl
    · exact frL_ok ⟨Nat.lt_succ_self k, rfl⟩
    · trivial
  · simp only [lk] at hm
    split at hm
    · rename_i e
      simp only [Option.some.injEq] at hm; subst e hm
      exact ⟨Nat.lt_succ_self m, fun _ => rfl, ok_all hp, _, by rw [rho_k]; exact hb, fun _ => rfl, (ren_all hp _).symm⟩
    · cases hm
theorem openV_plain {pub tag : Nat → Int} {a b : Int} : AV.plain (.inr [.inr (frL pub a b (Sum.inl (.slice none 0 0)) tag), .inl (.inl (.bool true))]) = true := by
  have := frL_plain (pub := pub) (pn := a) (n := b) (tag := tag) (sv := Sum.inl (.slice none 0 0)) rfl
  simpa [AV.plain, CV.plain, SV.plain] using this
set_option maxHeartbeats 8000000 in
set_option maxRecDepth 20000 in
theorem decode_good {o n c : Nat} {f : Nat → Int} {cs : List SV} (hf : Byt f) (hs : Shows cs o n f) (hp : cs.all SV.plain = true) (hc : n ≤ c) (hn : n < 140737488355328) (hfr : isFr n f) :
    MFun Try.prog 7 [Sl 0 o n c] 1 (lk [(0, ⟨false, cs⟩)]) (DecF 1 (n - 77) f) := by
  refine mfun_of_vc Try.func7 rfl (by kernel_rfl) (by simp [Try.ntmps7]) Try.callable7 (by simp [AV.ok, CV.ok, SV.names]) all1 (inn1 hp) ?_
  simp only [Try.results7, zFrame, zFrame2, frL_len, frL_w, frL_all, sn_upto, sn_from, slN_def, run_cap, rules, rules2, loopRules, Try.facts, base0, Int.toNat_zero, Nat.reduceAdd, Nat.reduceMul, Nat.reduceSub, Nat.reduceLT, Nat.reduceLeDiff, Nat.reduceEqDiff, Int.reduceLE, Int.reduceLT, Int.reduceToNat, Int.reduceNe, Int.reduceEq, not_false_eq_true, Nat.reduceBEq, Nat.reduceDiv, Int.natCast_zero, Int.natCast_one, Int.reduceAdd, Int.reduceSub, reduceIte, ↓reduceIte, Value.oneCell', rowI_length, rowI_take, rowI_splice, rep_all, row_zero, le_nat, Int.toNat_natCast, Nat.zero_add, sok_row, reduceCtorEq]
  refine ⟨by kernel_rfl, ?_⟩
  refine (measures_m hf hs hp hc hn true (by simp [hfr])).vcRead (fun _ => 0) (fits1 (rw := false) (by simp only [upd_apply, sn_upto, sn_from, slN_def, run_cap, rules, rules2, loopRules, Try.facts, base0, Int.toNat_zero, Nat.reduceAdd, Nat.reduceMul, Nat.reduceSub, Nat.reduceLT, Nat.reduceLeDiff, Nat.reduceEqDiff, Int.reduceLE, Int.reduceLT, Int.reduceToNat, Int.reduceNe, Int.reduceEq, not_false_eq_true, Nat.reduceBEq, Nat.reduceDiv, Int.natCast_zero, Int.natCast_one, Int.reduceAdd, Int.reduceSub, reduceIte, ↓reduceIte, Value.oneCell', rowI_length, rowI_take, rowI_splice, rep_all, row_zero, le_nat, Int.toNat_natCast, Nat.zero_add, sok_row, reduceCtorEq]) hp) rfl rfl ?_
  simp only [Bool.not_true, sn_upto, sn_from, slN_def, run_cap, rules, rules2, loopRules, Try.facts, base0, Int.toNat_zero, Nat.reduceAdd, Nat.reduceMul, Nat.reduceSub, Nat.reduceLT, Nat.reduceLeDiff, Nat.reduceEqDiff, Int.reduceLE, Int.reduceLT, Int.reduceToNat, Int.reduceNe, Int.reduceEq, not_false_eq_true, Nat.reduceBEq, Nat.reduceDiv, Int.natCast_zero, Int.natCast_one, Int.reduceAdd, Int.reduceSub, reduceIte, ↓reduceIte, Value.oneCell', rowI_length, rowI_take, rowI_splice, rep_all, row_zero, le_nat, Int.toNat_natCast, Nat.zero_add, sok_row, reduceCtorEq]
  refine readF_call (t := 0) (readFrame_m hf hs hp hc hn hfr) (rw := false) (by simp only [upd_apply, sn_upto, sn_from, slN_def, run_cap, rules, rules2, loopRules, Try.facts, base0, Int.toNat_zero, Nat.reduceAdd, Nat.reduceMul, Nat.reduceSub, Nat.reduceLT, Nat.reduceLeDiff, Nat.reduceEqDiff, Int.reduceLE, Int.reduceLT, Int.reduceToNat, Int.reduceNe, Int.reduceEq, not_false_eq_true, Nat.reduceBEq, Nat.reduceDiv, Int.natCast_zero, Int.natCast_one, Int.reduceAdd, Int.reduceSub, reduceIte, ↓reduceIte, Value.oneCell', rowI_length, rowI_take, rowI_splice, rep_all, row_zero, le_nat, Int.toNat_natCast, Nat.zero_add, sok_row, reduceCtorEq]) hp rfl (fun h0 => ?_) (fun h0 q cs' hg => ?_)
  · simp only [frL_len, frL_w, frL_all, sn_upto, sn_from, slN_def, run_cap, rules, rules2, loopRules, Try.facts, base0, Int.toNat_zero, Nat.reduceAdd, Nat.reduceMul, Nat.reduceSub, Nat.reduceLT, Nat.reduceLeDiff, Nat.reduceEqDiff, Int.reduceLE, Int.reduceLT, Int.reduceToNat, Int.reduceNe, Int.reduceEq, not_false_eq_true, Nat.reduceBEq, Nat.reduceDiv, Int.natCast_zero, Int.natCast_one, Int.reduceAdd, Int.reduceSub, reduceIte, ↓reduceIte, Value.oneCell', rowI_length, rowI_take, rowI_splice, rep_all, row_zero, le_nat, Int.toNat_natCast, Nat.zero_add, sok_row, reduceCtorEq]
    exact ret_plain openV_plain ⟨_, rfl, .inl ⟨h0, rfl, rfl⟩⟩
  · obtain ⟨c2, tail, h1, h2, h3, h4, h5⟩ := hg.made (k := 1)
    have hc : q = c2 := by cases h1; rfl
    subst hc
    have hbx : rowI .u8 (n - 77) (fun i => f (45 + i)) ++ tail = cs' := by
      have := congrFun h2 1
      simpa [lk] using this.symm
    simp only [frL_len, frL_w, frL_all, sn_upto, sn_from, slN_def, run_cap, rules, rules2, loopRules, Try.facts, base0, Int.toNat_zero, Nat.reduceAdd, Nat.reduceMul, Nat.reduceSub, Nat.reduceLT, Nat.reduceLeDiff, Nat.reduceEqDiff, Int.reduceLE, Int.reduceLT, Int.reduceToNat, Int.reduceNe, Int.reduceEq, not_false_eq_true, Nat.reduceBEq, Nat.reduceDiv, Int.natCast_zero, Int.natCast_one, Int.reduceAdd, Int.reduceSub, reduceIte, ↓reduceIte, Value.oneCell', rowI_length, rowI_take, rowI_splice, rep_all, row_zero, le_nat, Int.toNat_natCast, Nat.zero_add, sok_row, reduceCtorEq]
    exact ret_or (ret_frT (k := 1) (by decide) rfl hg.plain) (fun v out h => ⟨_, h.1, .inr ⟨q, tail, h0, rfl, by rw [h.2, hbx], h3, h4, h5⟩⟩)
end Go.Proofs.Ytdhkpdakialkbaa
