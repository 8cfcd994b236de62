/-
  What the statement lends, and how it holds lists against each other.
-/
import Derived.Test.YtikibkboebbdjaaVcgFacts
import Derived.Test.YtikibkboebbdjaaVcgK
set_option linter.unusedSimpArgs false
set_option linter.unusedVariables false
namespace Go.Proofs.Ytikibkboebbdjaa
open Go.Vcg
set_option maxHeartbeats 4000000 in
set_option maxRecDepth 20000 in
theorem same_ss {n : Nat} {f : Nat → Int} {o o' c c' : Nat} {cs ds : List SV} (hc : Shows cs o n f) (hd : Shows ds o' n f) (hp : cs.all SV.plain = true) (hq : ds.all SV.plain = true) (hn : n < 4611686018427387904) :
    MFun Try.prog 11 [Sl 0 o n c, Sl 1 o' n c'] 2 (lk [(0, ⟨false, cs⟩), (1, ⟨false, ds⟩)]) (fun v out => v = B true ∧ out = fun _ => none) := by
  refine mfun_of_vc Try.func11 rfl (by kernel_rfl) (by simp [Try.ntmps11]) Try.callable11 (by simp [AV.ok, CV.ok, SV.names]) all2 (inn2 hp hq) ?_
  have ok1 : ∀ {M : Nat → Prop}, (∀ x ∈ cs, SV.ok M x) = True := eq_true (ok_all hp)
  have ok2 : ∀ {M : Nat → Prop}, (∀ x ∈ ds, SV.ok M x) = True := eq_true (ok_all hq)
  simp only [Try.results11, bne_self_eq_false, sn_upto, sn_from, slN_def, run_cap, rules, rules2, loopRules, Try.facts, base0, Int.toNat_zero, Nat.reduceAdd, Nat.reduceMul, Nat.reduceSub, Nat.reduceLT, Nat.reduceLeDiff, Nat.reduceEqDiff, Int.reduceLE, Int.reduceLT, Int.reduceToNat, Int.reduceNe, Int.reduceEq, not_false_eq_true, Nat.reduceBEq, Nat.reduceDiv, Int.natCast_zero, Int.natCast_one, Int.reduceAdd, Int.reduceSub, reduceIte, ↓reduceIte, Value.oneCell', rowI_length, rowI_take, rowI_splice, rep_all, row_zero, le_nat, Int.toNat_natCast, Nat.zero_add, sok_row, reduceCtorEq]
  refine loop_count n (fun k => [(0, Sl 0 o n c), (1, Sl 1 o' n c'), (12, I .i64 n), (13, I .i64 k)])
    (fun k => [(0, ⟨false, cs⟩), (1, ⟨false, ds⟩)]) _ ?_ ?_ ?_
  · simp only [ok1, ok2, sn_upto, sn_from, slN_def, run_cap, rules, rules2, loopRules, Try.facts, base0, Int.toNat_zero, Nat.reduceAdd, Nat.reduceMul, Nat.reduceSub, Nat.reduceLT, Nat.reduceLeDiff, Nat.reduceEqDiff, Int.reduceLE, Int.reduceLT, Int.reduceToNat, Int.reduceNe, Int.reduceEq, not_false_eq_true, Nat.reduceBEq, Nat.reduceDiv, Int.natCast_zero, Int.natCast_one, Int.reduceAdd, Int.reduceSub, reduceIte, ↓reduceIte, Value.oneCell', rowI_length, rowI_take, rowI_splice, rep_all, row_zero, le_nat, Int.toNat_natCast, Nat.zero_add, sok_row, reduceCtorEq]
  · intro j hj
    simp only [sn_upto, sn_from, slN_def, run_cap, rules, rules2, loopRules, Try.facts, base0, Int.toNat_zero, Nat.reduceAdd, Nat.reduceMul, Nat.reduceSub, Nat.reduceLT, Nat.reduceLeDiff, Nat.reduceEqDiff, Int.reduceLE, Int.reduceLT, Int.reduceToNat, Int.reduceNe, Int.reduceEq, not_false_eq_true, Nat.reduceBEq, Nat.reduceDiv, Int.natCast_zero, Int.natCast_one, Int.reduceAdd, Int.reduceSub, reduceIte, ↓reduceIte, Value.oneCell', rowI_length, rowI_take, rowI_splice, rep_all, row_zero, le_nat, Int.toNat_natCast, Nat.zero_add, sok_row, reduceCtorEq]
    refine vcIf_yes (by simp; omega) ?_
    simp only [nat_nn, nat_lt_eq hj, hc j hj, hd j hj, bne_self_eq_false, wrapS j (by omega), sn_upto, sn_from, slN_def, run_cap, rules, rules2, loopRules, Try.facts, base0, Int.toNat_zero, Nat.reduceAdd, Nat.reduceMul, Nat.reduceSub, Nat.reduceLT, Nat.reduceLeDiff, Nat.reduceEqDiff, Int.reduceLE, Int.reduceLT, Int.reduceToNat, Int.reduceNe, Int.reduceEq, not_false_eq_true, Nat.reduceBEq, Nat.reduceDiv, Int.natCast_zero, Int.natCast_one, Int.reduceAdd, Int.reduceSub, reduceIte, ↓reduceIte, Value.oneCell', rowI_length, rowI_take, rowI_splice, rep_all, row_zero, le_nat, Int.toNat_natCast, Nat.zero_add, sok_row, reduceCtorEq]
    exact ⟨by kernel_rfl, ok_all hp, ok_all hq⟩
  · simp only [sn_upto, sn_from, slN_def, run_cap, rules, rules2, loopRules, Try.facts, base0, Int.toNat_zero, Nat.reduceAdd, Nat.reduceMul, Nat.reduceSub, Nat.reduceLT, Nat.reduceLeDiff, Nat.reduceEqDiff, Int.reduceLE, Int.reduceLT, Int.reduceToNat, Int.reduceNe, Int.reduceEq, not_false_eq_true, Nat.reduceBEq, Nat.reduceDiv, Int.natCast_zero, Int.natCast_one, Int.reduceAdd, Int.reduceSub, reduceIte, ↓reduceIte, Value.oneCell', rowI_length, rowI_take, rowI_splice, rep_all, row_zero, le_nat, Int.toNat_natCast, Nat.zero_add, sok_row, reduceCtorEq]
    refine vcIf_no (by simp) ?_
    simp only [sn_upto, sn_from, slN_def, run_cap, rules, rules2, loopRules, Try.facts, base0, Int.toNat_zero, Nat.reduceAdd, Nat.reduceMul, Nat.reduceSub, Nat.reduceLT, Nat.reduceLeDiff, Nat.reduceEqDiff, Int.reduceLE, Int.reduceLT, Int.reduceToNat, Int.reduceNe, Int.reduceEq, not_false_eq_true, Nat.reduceBEq, Nat.reduceDiv, Int.natCast_zero, Int.natCast_one, Int.reduceAdd, Int.reduceSub, reduceIte, ↓reduceIte, Value.oneCell', rowI_length, rowI_take, rowI_splice, rep_all, row_zero, le_nat, Int.toNat_natCast, Nat.zero_add, sok_row, reduceCtorEq]
    exact ret_plain rfl ⟨rfl, rfl⟩
set_option maxHeartbeats 4000000 in
set_option maxRecDepth 20000 in
theorem same_ns {a : Option Addr} {o c : Nat} {cs : List SV} (hp : cs.all SV.plain = true) :
    MFun Try.prog 11 [V (.slice a 0 0), Sl 0 o 0 c] 1 (lk [(0, ⟨false, cs⟩)]) (fun v out => v = B true ∧ out = fun _ => none) := by
  refine mfun_of_vc Try.func11 rfl (by kernel_rfl) (by simp [Try.ntmps11]) Try.callable11 (by simp [AV.ok, CV.ok, SV.names]) all1 (inn1 hp) ?_
  simp only [Try.results11, bne_self_eq_false, sn_upto, sn_from, slN_def, run_cap, rules, rules2, loopRules, Try.facts, base0, Int.toNat_zero, Nat.reduceAdd, Nat.reduceMul, Nat.reduceSub, Nat.reduceLT, Nat.reduceLeDiff, Nat.reduceEqDiff, Int.reduceLE, Int.reduceLT, Int.reduceToNat, Int.reduceNe, Int.reduceEq, not_false_eq_true, Nat.reduceBEq, Nat.reduceDiv, Int.natCast_zero, Int.natCast_one, Int.reduceAdd, Int.reduceSub, reduceIte, ↓reduceIte, Value.oneCell', rowI_length, rowI_take, rowI_splice, rep_all, row_zero, le_nat, Int.toNat_natCast, Nat.zero_add, sok_row, reduceCtorEq]
  refine loop_count 0 (fun k => [(12, I .i64 0), (13, I .i64 k)]) (fun k => []) _ ?_ ?_ ?_
  · simp only [sn_upto, sn_from, slN_def, run_cap, rules, rules2, loopRules, Try.facts, base0, Int.toNat_zero, Nat.reduceAdd, Nat.reduceMul, Nat.reduceSub, Nat.reduceLT, Nat.reduceLeDiff, Nat.reduceEqDiff, Int.reduceLE, Int.reduceLT, Int.reduceToNat, Int.reduceNe, Int.reduceEq, not_false_eq_true, Nat.reduceBEq, Nat.reduceDiv, Int.natCast_zero, Int.natCast_one, Int.reduceAdd, Int.reduceSub, reduceIte, ↓reduceIte, Value.oneCell', rowI_length, rowI_take, rowI_splice, rep_all, row_zero, le_nat, Int.toNat_natCast, Nat.zero_add, sok_row, reduceCtorEq]
  · intro j hj; omega
  · simp only [sn_upto, sn_from, slN_def, run_cap, rules, rules2, loopRules, Try.facts, base0, Int.toNat_zero, Nat.reduceAdd, Nat.reduceMul, Nat.reduceSub, Nat.reduceLT, Nat.reduceLeDiff, Nat.reduceEqDiff, Int.reduceLE, Int.reduceLT, Int.reduceToNat, Int.reduceNe, Int.reduceEq, not_false_eq_true, Nat.reduceBEq, Nat.reduceDiv, Int.natCast_zero, Int.natCast_one, Int.reduceAdd, Int.reduceSub, reduceIte, ↓reduceIte, Value.oneCell', rowI_length, rowI_take, rowI_splice, rep_all, row_zero, le_nat, Int.toNat_natCast, Nat.zero_add, sok_row, reduceCtorEq]
    refine vcIf_no (by simp) ?_
    simp only [sn_upto, sn_from, slN_def, run_cap, rules, rules2, loopRules, Try.facts, base0, Int.toNat_zero, Nat.reduceAdd, Nat.reduceMul, Nat.reduceSub, Nat.reduceLT, Nat.reduceLeDiff, Nat.reduceEqDiff, Int.reduceLE, Int.reduceLT, Int.reduceToNat, Int.reduceNe, Int.reduceEq, not_false_eq_true, Nat.reduceBEq, Nat.reduceDiv, Int.natCast_zero, Int.natCast_one, Int.reduceAdd, Int.reduceSub, reduceIte, ↓reduceIte, Value.oneCell', rowI_length, rowI_take, rowI_splice, rep_all, row_zero, le_nat, Int.toNat_natCast, Nat.zero_add, sok_row, reduceCtorEq]
    exact ret_plain rfl ⟨rfl, rfl⟩
set_option maxHeartbeats 4000000 in
set_option maxRecDepth 20000 in
theorem same_sn {a : Option Addr} {o c : Nat} {cs : List SV} (hp : cs.all SV.plain = true) :
    MFun Try.prog 11 [Sl 0 o 0 c, V (.slice a 0 0)] 1 (lk [(0, ⟨false, cs⟩)]) (fun v out => v = B true ∧ out = fun _ => none) := by
  refine mfun_of_vc Try.func11 rfl (by kernel_rfl) (by simp [Try.ntmps11]) Try.callable11 (by simp [AV.ok, CV.ok, SV.names]) all1 (inn1 hp) ?_
  simp only [Try.results11, bne_self_eq_false, sn_upto, sn_from, slN_def, run_cap, rules, rules2, loopRules, Try.facts, base0, Int.toNat_zero, Nat.reduceAdd, Nat.reduceMul, Nat.reduceSub, Nat.reduceLT, Nat.reduceLeDiff, Nat.reduceEqDiff, Int.reduceLE, Int.reduceLT, Int.reduceToNat, Int.reduceNe, Int.reduceEq, not_false_eq_true, Nat.reduceBEq, Nat.reduceDiv, Int.natCast_zero, Int.natCast_one, Int.reduceAdd, Int.reduceSub, reduceIte, ↓reduceIte, Value.oneCell', rowI_length, rowI_take, rowI_splice, rep_all, row_zero, le_nat, Int.toNat_natCast, Nat.zero_add, sok_row, reduceCtorEq]
  refine loop_count 0 (fun k => [(12, I .i64 0), (13, I .i64 k)]) (fun k => []) _ ?_ ?_ ?_
  · simp only [sn_upto, sn_from, slN_def, run_cap, rules, rules2, loopRules, Try.facts, base0, Int.toNat_zero, Nat.reduceAdd, Nat.reduceMul, Nat.reduceSub, Nat.reduceLT, Nat.reduceLeDiff, Nat.reduceEqDiff, Int.reduceLE, Int.reduceLT, Int.reduceToNat, Int.reduceNe, Int.reduceEq, not_false_eq_true, Nat.reduceBEq, Nat.reduceDiv, Int.natCast_zero, Int.natCast_one, Int.reduceAdd, Int.reduceSub, reduceIte, ↓reduceIte, Value.oneCell', rowI_length, rowI_take, rowI_splice, rep_all, row_zero, le_nat, Int.toNat_natCast, Nat.zero_add, sok_row, reduceCtorEq]
  · intro j hj; omega
  · simp only [sn_upto, sn_from, slN_def, run_cap, rules, rules2, loopRules, Try.facts, base0, Int.toNat_zero, Nat.reduceAdd, Nat.reduceMul, Nat.reduceSub, Nat.reduceLT, Nat.reduceLeDiff, Nat.reduceEqDiff, Int.reduceLE, Int.reduceLT, Int.reduceToNat, Int.reduceNe, Int.reduceEq, not_false_eq_true, Nat.reduceBEq, Nat.reduceDiv, Int.natCast_zero, Int.natCast_one, Int.reduceAdd, Int.reduceSub, reduceIte, ↓reduceIte, Value.oneCell', rowI_length, rowI_take, rowI_splice, rep_all, row_zero, le_nat, Int.toNat_natCast, Nat.zero_add, sok_row, reduceCtorEq]
    refine vcIf_no (by simp) ?_
    simp only [sn_upto, sn_from, slN_def, run_cap, rules, rules2, loopRules, Try.facts, base0, Int.toNat_zero, Nat.reduceAdd, Nat.reduceMul, Nat.reduceSub, Nat.reduceLT, Nat.reduceLeDiff, Nat.reduceEqDiff, Int.reduceLE, Int.reduceLT, Int.reduceToNat, Int.reduceNe, Int.reduceEq, not_false_eq_true, Nat.reduceBEq, Nat.reduceDiv, Int.natCast_zero, Int.natCast_one, Int.reduceAdd, Int.reduceSub, reduceIte, ↓reduceIte, Value.oneCell', rowI_length, rowI_take, rowI_splice, rep_all, row_zero, le_nat, Int.toNat_natCast, Nat.zero_add, sok_row, reduceCtorEq]
    exact ret_plain rfl ⟨rfl, rfl⟩
set_option maxHeartbeats 4000000 in
set_option maxRecDepth 20000 in
theorem same_nn {a a' : Option Addr} : MFun Try.prog 11 [V (.slice a 0 0), V (.slice a' 0 0)] 0 (fun _ => none) (fun v out => v = B true ∧ out = fun _ => none) := by
  refine mfun_of_vc Try.func11 rfl (by kernel_rfl) (by simp [Try.ntmps11]) Try.callable11 (by simp [AV.ok, CV.ok, SV.names]) all0 inn0 ?_
  simp only [Try.results11, bne_self_eq_false, sn_upto, sn_from, slN_def, run_cap, rules, rules2, loopRules, Try.facts, base0, Int.toNat_zero, Nat.reduceAdd, Nat.reduceMul, Nat.reduceSub, Nat.reduceLT, Nat.reduceLeDiff, Nat.reduceEqDiff, Int.reduceLE, Int.reduceLT, Int.reduceToNat, Int.reduceNe, Int.reduceEq, not_false_eq_true, Nat.reduceBEq, Nat.reduceDiv, Int.natCast_zero, Int.natCast_one, Int.reduceAdd, Int.reduceSub, reduceIte, ↓reduceIte, Value.oneCell', rowI_length, rowI_take, rowI_splice, rep_all, row_zero, le_nat, Int.toNat_natCast, Nat.zero_add, sok_row, reduceCtorEq]
  refine loop_count 0 (fun k => [(12, I .i64 0), (13, I .i64 k)]) (fun k => []) _ ?_ ?_ ?_
  · simp only [sn_upto, sn_from, slN_def, run_cap, rules, rules2, loopRules, Try.facts, base0, Int.toNat_zero, Nat.reduceAdd, Nat.reduceMul, Nat.reduceSub, Nat.reduceLT, Nat.reduceLeDiff, Nat.reduceEqDiff, Int.reduceLE, Int.reduceLT, Int.reduceToNat, Int.reduceNe, Int.reduceEq, not_false_eq_true, Nat.reduceBEq, Nat.reduceDiv, Int.natCast_zero, Int.natCast_one, Int.reduceAdd, Int.reduceSub, reduceIte, ↓reduceIte, Value.oneCell', rowI_length, rowI_take, rowI_splice, rep_all, row_zero, le_nat, Int.toNat_natCast, Nat.zero_add, sok_row, reduceCtorEq]
  · intro j hj; omega
  · simp only [sn_upto, sn_from, slN_def, run_cap, rules, rules2, loopRules, Try.facts, base0, Int.toNat_zero, Nat.reduceAdd, Nat.reduceMul, Nat.reduceSub, Nat.reduceLT, Nat.reduceLeDiff, Nat.reduceEqDiff, Int.reduceLE, Int.reduceLT, Int.reduceToNat, Int.reduceNe, Int.reduceEq, not_false_eq_true, Nat.reduceBEq, Nat.reduceDiv, Int.natCast_zero, Int.natCast_one, Int.reduceAdd, Int.reduceSub, reduceIte, ↓reduceIte, Value.oneCell', rowI_length, rowI_take, rowI_splice, rep_all, row_zero, le_nat, Int.toNat_natCast, Nat.zero_add, sok_row, reduceCtorEq]
    refine vcIf_no (by simp) ?_
    simp only [sn_upto, sn_from, slN_def, run_cap, rules, rules2, loopRules, Try.facts, base0, Int.toNat_zero, Nat.reduceAdd, Nat.reduceMul, Nat.reduceSub, Nat.reduceLT, Nat.reduceLeDiff, Nat.reduceEqDiff, Int.reduceLE, Int.reduceLT, Int.reduceToNat, Int.reduceNe, Int.reduceEq, not_false_eq_true, Nat.reduceBEq, Nat.reduceDiv, Int.natCast_zero, Int.natCast_one, Int.reduceAdd, Int.reduceSub, reduceIte, ↓reduceIte, Value.oneCell', rowI_length, rowI_take, rowI_splice, rep_all, row_zero, le_nat, Int.toNat_natCast, Nat.zero_add, sok_row, reduceCtorEq]
    exact ret_plain rfl ⟨rfl, rfl⟩
theorem two0 (t u : Nat) : two t u 0 = t := rfl
theorem two1 (t u : Nat) : two t u 1 = u := rfl
/-- Two slices of the same bytes. -/
theorem same_call {s : AS} {nm : Nat} {v u : AV} {n : Nat} {f : Nat → Int} (hn : n < 4611686018427387904) (h1 : BytesAt s.box v n f) (h2 : BytesAt s.box u n f) {dst : Option Nat} {K : AS → Prop} (hk : K (s.put dst (some (B true)))) :
    vcCall Try.prog nm 11 (some [v, u]) dst K s := by
  rcases h1 with ⟨⟨a, rfl⟩, rfl⟩ | ⟨t, o, c, rw1, cs, rfl, hb, hp, hc⟩ <;> rcases h2 with ⟨⟨a', rfl⟩, h0⟩ | ⟨t', o', c', rw2, ds, rfl, hb', hq, hd⟩
  · exact same_nn.vcRead (fun n => n) fits0 rfl rfl hk
  · exact (same_ns hq).vcRead (fun _ => t') (fits1 hb' hq) rfl rfl hk
  · subst h0
    exact (same_sn hp).vcRead (fun _ => t) (fits1 hb hp) rfl rfl hk
  · exact (same_ss hc hd hp hq hn).vcRead (two t t') (fits2 hb hp hb' hq) rfl rfl hk
theorem same_draw {s : AS} {nm : Nat} {v u : AV} {n : Nat} {f : Nat → Int} (hn : n < 4611686018427387904) (h1 : BytesAt s.box v n f) (h2 : BytesAt s.box u n f) {ops : Array Oper} {i : Nat} {dst : Option Nat} {K : AS → Prop} (hk : K (s.put dst (some (B true)))) :
    vcFun Try.prog ops i nm 11 (some [v, u]) dst K s := by
  rcases h1 with ⟨⟨a, rfl⟩, rfl⟩ | ⟨t, o, c, rw1, cs, rfl, hb, hp, hc⟩ <;> rcases h2 with ⟨⟨a', rfl⟩, h0⟩ | ⟨t', o', c', rw2, ds, rfl, hb', hq, hd⟩
  · exact same_nn.drawRead (fun n => n) fits0 rfl rfl (fun M h n hn => by omega) hk
  · exact (same_ns hq).drawRead (fun _ => t') (fits1 hb' hq) rfl rfl (fun M h n _ => h (Sl t' o' 0 c') (List.Mem.tail _ (List.Mem.head _))) hk
  · subst h0
    exact (same_sn hp).drawRead (fun _ => t) (fits1 hb hp) rfl rfl (fun M h n _ => h (Sl t o 0 c) (List.Mem.head _)) hk
  · exact (same_ss hc hd hp hq hn).drawRead (two t t') (fits2 hb hp hb' hq) rfl rfl (fun M h n' hn' => by
      rcases Nat.lt_or_ge n' 1 with h0 | h0
      · rw [show n' = 0 by omega]; exact h (Sl t o n c) (List.Mem.head _)
      · rw [show n' = 1 by omega]; exact h (Sl t' o' n c') (List.Mem.tail _ (List.Mem.head _))) hk
set_option maxHeartbeats 4000000 in
set_option maxRecDepth 20000 in
theorem copied_s {n : Nat} {f : Nat → Int} {o c : Nat} {cs : List SV} (hc : Shows cs o n f) (hp : cs.all SV.plain = true) (hn : n ≤ 140737488355328) :
    MFun Try.prog 20 [Sl 0 o n c] 1 (lk [(0, ⟨false, cs⟩)]) (Made 1 n f) := by
  refine mfun_of_vc Try.func20 rfl (by kernel_rfl) (by simp [Try.ntmps20]) Try.callable20 (by simp [AV.ok, CV.ok, SV.names]) all1 (inn1 hp) ?_
  simp only [Try.results20, sn_upto, sn_from, slN_def, run_cap, rules, rules2, loopRules, Try.facts, base0, Int.toNat_zero, Nat.reduceAdd, Nat.reduceMul, Nat.reduceSub, Nat.reduceLT, Nat.reduceLeDiff, Nat.reduceEqDiff, Int.reduceLE, Int.reduceLT, Int.reduceToNat, Int.reduceNe, Int.reduceEq, not_false_eq_true, Nat.reduceBEq, Nat.reduceDiv, Int.natCast_zero, Int.natCast_one, Int.reduceAdd, Int.reduceSub, reduceIte, ↓reduceIte, Value.oneCell', rowI_length, rowI_take, rowI_splice, rep_all, row_zero, le_nat, Int.toNat_natCast, Nat.zero_add, sok_row, reduceCtorEq]
  refine vc_append (b := 2) (olds := []) (news := rowI .u8 n f) (m := n) Try.mkK28 Try.slK28 rfl (by decide) rfl rfl rfl (Nat.le_refl _) rfl nil_src plainI
    (.inl ⟨0, o, c, ⟨false, cs⟩, rfl, rfl, by rw [rowI_length, Nat.mul_one], shows_src hc, by decide⟩) (by omega) (by omega) ?_
  intro c' tail h1 h2 h3
  simp only [sn_upto, sn_from, slN_def, run_cap, rules, rules2, loopRules, Try.facts, base0, Int.toNat_zero, Nat.reduceAdd, Nat.reduceMul, Nat.reduceSub, Nat.reduceLT, Nat.reduceLeDiff, Nat.reduceEqDiff, Int.reduceLE, Int.reduceLT, Int.reduceToNat, Int.reduceNe, Int.reduceEq, not_false_eq_true, Nat.reduceBEq, Nat.reduceDiv, Int.natCast_zero, Int.natCast_one, Int.reduceAdd, Int.reduceSub, reduceIte, ↓reduceIte, Value.oneCell', rowI_length, rowI_take, rowI_splice, rep_all, row_zero, le_nat, Int.toNat_natCast, Nat.zero_add, sok_row, reduceCtorEq]
  refine ret_new (k := 1) (q := 4) (cs := rowI .u8 n f ++ tail) (by decide) ?_ (plainT h3) ⟨c', tail, rfl, rfl, by omega, by omega, h3⟩
  simp only [sn_upto, sn_from, slN_def, run_cap, rules, rules2, loopRules, Try.facts, base0, Int.toNat_zero, Nat.reduceAdd, Nat.reduceMul, Nat.reduceSub, Nat.reduceLT, Nat.reduceLeDiff, Nat.reduceEqDiff, Int.reduceLE, Int.reduceLT, Int.reduceToNat, Int.reduceNe, Int.reduceEq, not_false_eq_true, Nat.reduceBEq, Nat.reduceDiv, Int.natCast_zero, Int.natCast_one, Int.reduceAdd, Int.reduceSub, reduceIte, ↓reduceIte, Value.oneCell', rowI_length, rowI_take, rowI_splice, rep_all, row_zero, le_nat, Int.toNat_natCast, Nat.zero_add, sok_row, reduceCtorEq]
set_option maxHeartbeats 4000000 in
set_option maxRecDepth 20000 in
theorem copied_n {a : Option Addr} {f : Nat → Int} : MFun Try.prog 20 [V (.slice a 0 0)] 0 (fun _ => none) (Made 0 0 f) := by
  refine mfun_of_vc Try.func20 rfl (by kernel_rfl) (by simp [Try.ntmps20]) Try.callable20 (by simp [AV.ok, CV.ok, SV.names]) all0 inn0 ?_
  simp only [Try.results20, sn_upto, sn_from, slN_def, run_cap, rules, rules2, loopRules, Try.facts, base0, Int.toNat_zero, Nat.reduceAdd, Nat.reduceMul, Nat.reduceSub, Nat.reduceLT, Nat.reduceLeDiff, Nat.reduceEqDiff, Int.reduceLE, Int.reduceLT, Int.reduceToNat, Int.reduceNe, Int.reduceEq, not_false_eq_true, Nat.reduceBEq, Nat.reduceDiv, Int.natCast_zero, Int.natCast_one, Int.reduceAdd, Int.reduceSub, reduceIte, ↓reduceIte, Value.oneCell', rowI_length, rowI_take, rowI_splice, rep_all, row_zero, le_nat, Int.toNat_natCast, Nat.zero_add, sok_row, reduceCtorEq]
  refine vc_append (b := 1) (olds := []) (news := []) (m := 0) Try.mkK28 Try.slK28 rfl (by decide) rfl rfl rfl (Nat.le_refl _) rfl nil_src plainI
    (.inr ⟨⟨_, rfl⟩, rfl, rfl⟩) (by omega) (by omega) ?_
  intro c' tail h1 h2 h3
  simp only [sn_upto, sn_from, slN_def, run_cap, rules, rules2, loopRules, Try.facts, base0, Int.toNat_zero, Nat.reduceAdd, Nat.reduceMul, Nat.reduceSub, Nat.reduceLT, Nat.reduceLeDiff, Nat.reduceEqDiff, Int.reduceLE, Int.reduceLT, Int.reduceToNat, Int.reduceNe, Int.reduceEq, not_false_eq_true, Nat.reduceBEq, Nat.reduceDiv, Int.natCast_zero, Int.natCast_one, Int.reduceAdd, Int.reduceSub, reduceIte, ↓reduceIte, Value.oneCell', rowI_length, rowI_take, rowI_splice, rep_all, row_zero, le_nat, Int.toNat_natCast, Nat.zero_add, sok_row, reduceCtorEq]
  refine ret_new (k := 0) (q := 3) (cs := rowI .u8 0 f ++ tail) (by decide) ?_ (plainT h3) ⟨c', tail, rfl, rfl, by omega, by omega, h3⟩
  simp only [sn_upto, sn_from, slN_def, run_cap, rules, rules2, loopRules, Try.facts, base0, Int.toNat_zero, Nat.reduceAdd, Nat.reduceMul, Nat.reduceSub, Nat.reduceLT, Nat.reduceLeDiff, Nat.reduceEqDiff, Int.reduceLE, Int.reduceLT, Int.reduceToNat, Int.reduceNe, Int.reduceEq, not_false_eq_true, Nat.reduceBEq, Nat.reduceDiv, Int.natCast_zero, Int.natCast_one, Int.reduceAdd, Int.reduceSub, reduceIte, ↓reduceIte, Value.oneCell', rowI_length, rowI_take, rowI_splice, rep_all, row_zero, le_nat, Int.toNat_natCast, Nat.zero_add, sok_row, reduceCtorEq]
  rfl
/-- What is lent: the bytes, 64 zeros behind them, and more behind these. -/
def lentV (k n c : Nat) : AV := Ag [Sum.inr (Sum.inr (k, 0, n + 64, c)), Sum.inl (.int .i64 n)]
def Lent (k n : Nat) (f : Nat → Int) (v : AV) (out : Nat → Option Box) : Prop :=
  ∃ c tail, v = lentV k n c ∧ out = lk [(k, ⟨true, rowI .u8 n f ++ (rowI .u8 64 (fun _ => 0) ++ tail)⟩)] ∧ n + 64 ≤ c ∧ tail.length = c - (n + 64) ∧ tail.all SV.plain = true
theorem plainL {n : Nat} {f : Nat → Int} {tail : List SV} (h : tail.all SV.plain = true) : (rowI .u8 n f ++ (rowI .u8 64 (fun _ => 0) ++ tail)).all SV.plain = true := by
  rw [List.all_append, plainI, plainT h]; rfl
theorem lent_ok {M : Nat → Prop} {k n c : Nat} (h : M k) : AV.ok M (lentV k n c) := by
  intro x hx
  simp only [List.mem_cons, List.not_mem_nil, or_false] at hx
  rcases hx with rfl | rfl
  · exact ⟨h, rfl⟩
  · exact ⟨trivial, rfl⟩
theorem ret_lent {s : AS} {k q n c : Nat} {f : Nat → Int} {tail : List SV} (hq : k ≤ q) (hb : s.box q = some ⟨true, rowI .u8 n f ++ (rowI .u8 64 (fun _ => 0) ++ tail)⟩) (h1 : n + 64 ≤ c) (h2 : tail.length = c - (n + 64)) (h3 : tail.all SV.plain = true) :
    Ret k (Lent k n f) (lentV q n c) s := by
  refine ⟨q, lentV k n c, lk [(k, ⟨true, rowI .u8 n f ++ (rowI .u8 64 (fun _ => 0) ++ tail)⟩)], hq, ?_, ?_, fun m b hm => ?_, c, tail, rfl, rfl, h1, h2, h3⟩
  · show lentV q n c = lentV (rho k q k) n c
    rw [rho_k]
  · intro x hx
    simp only [List.mem_cons, List.not_mem_nil, or_false] at hx
    rcases hx with rfl | rfl
    · exact ⟨Nat.lt_succ_self k, rfl⟩
    · exact ⟨trivial, rfl⟩
  · simp only [lk] at hm
    split at hm
    · rename_i e
      simp only [Option.some.injEq] at hm; subst e hm
      exact ⟨Nat.lt_succ_self m, fun _ => rfl, ok_all (plainL h3), _, by rw [rho_k]; exact hb, fun _ => rfl, (ren_all (plainL h3) _).symm⟩
    · cases hm
set_option maxHeartbeats 4000000 in
set_option maxRecDepth 20000 in
theorem lend_s {n : Nat} {f : Nat → Int} {o c : Nat} {cs : List SV} (hc : Shows cs o n f) (hp : cs.all SV.plain = true) (hn : n + 64 ≤ 140737488355328) :
    MFun Try.prog 5 [Sl 0 o n c] 1 (lk [(0, ⟨false, cs⟩)]) (Lent 1 n f) := by
  refine mfun_of_vc Try.func5 rfl (by kernel_rfl) (by simp [Try.ntmps5]) Try.callable5 (by simp [AV.ok, CV.ok, SV.names]) all1 (inn1 hp) ?_
  simp only [Try.results5, sn_upto, sn_from, slN_def, run_cap, rules, rules2, loopRules, Try.facts, base0, Int.toNat_zero, Nat.reduceAdd, Nat.reduceMul, Nat.reduceSub, Nat.reduceLT, Nat.reduceLeDiff, Nat.reduceEqDiff, Int.reduceLE, Int.reduceLT, Int.reduceToNat, Int.reduceNe, Int.reduceEq, not_false_eq_true, Nat.reduceBEq, Nat.reduceDiv, Int.natCast_zero, Int.natCast_one, Int.reduceAdd, Int.reduceSub, reduceIte, ↓reduceIte, Value.oneCell', rowI_length, rowI_take, rowI_splice, rep_all, row_zero, le_nat, Int.toNat_natCast, Nat.zero_add, sok_row, reduceCtorEq]
  refine made_call (copied_s hc hp (by omega)) (fun _ => 0) (fits1 (rw := false) (by simp only [upd_apply, sn_upto, sn_from, slN_def, run_cap, rules, rules2, loopRules, Try.facts, base0, Int.toNat_zero, Nat.reduceAdd, Nat.reduceMul, Nat.reduceSub, Nat.reduceLT, Nat.reduceLeDiff, Nat.reduceEqDiff, Int.reduceLE, Int.reduceLT, Int.reduceToNat, Int.reduceNe, Int.reduceEq, not_false_eq_true, Nat.reduceBEq, Nat.reduceDiv, Int.natCast_zero, Int.natCast_one, Int.reduceAdd, Int.reduceSub, reduceIte, ↓reduceIte, Value.oneCell', rowI_length, rowI_take, rowI_splice, rep_all, row_zero, le_nat, Int.toNat_natCast, Nat.zero_add, sok_row, reduceCtorEq]) hp) rfl ?_
  intro c1 tail1 h1 h2 h3
  simp only [sn_upto, sn_from, slN_def, run_cap, rules, rules2, loopRules, Try.facts, base0, Int.toNat_zero, Nat.reduceAdd, Nat.reduceMul, Nat.reduceSub, Nat.reduceLT, Nat.reduceLeDiff, Nat.reduceEqDiff, Int.reduceLE, Int.reduceLT, Int.reduceToNat, Int.reduceNe, Int.reduceEq, not_false_eq_true, Nat.reduceBEq, Nat.reduceDiv, Int.natCast_zero, Int.natCast_one, Int.reduceAdd, Int.reduceSub, reduceIte, ↓reduceIte, Value.oneCell', rowI_length, rowI_take, rowI_splice, rep_all, row_zero, le_nat, Int.toNat_natCast, Nat.zero_add, sok_row, reduceCtorEq]
  refine vc_append_zeros (b := 3) (o := 0) (n := n) (c := c1) (m := 64) (cs := rowI .u8 n f ++ tail1) (olds := rowI .u8 n f) Try.mkK28 Try.kind3 rfl (by decide) rfl (by simp only [upd_apply, sn_upto, sn_from, slN_def, run_cap, rules, rules2, loopRules, Try.facts, base0, Int.toNat_zero, Nat.reduceAdd, Nat.reduceMul, Nat.reduceSub, Nat.reduceLT, Nat.reduceLeDiff, Nat.reduceEqDiff, Int.reduceLE, Int.reduceLT, Int.reduceToNat, Int.reduceNe, Int.reduceEq, not_false_eq_true, Nat.reduceBEq, Nat.reduceDiv, Int.natCast_zero, Int.natCast_one, Int.reduceAdd, Int.reduceSub, reduceIte, ↓reduceIte, Value.oneCell', rowI_length, rowI_take, rowI_splice, rep_all, row_zero, le_nat, Int.toNat_natCast, Nat.zero_add, sok_row, reduceCtorEq]) (by rw [List.length_append, rowI_length]; omega)
    (by rw [rowI_length, Nat.mul_one]) (shows_src shows_row) (plainT h3) (by decide) (by decide) (by decide) (by omega) (by omega) ?_
  intro c' tail h1' h2' h3'
  simp only [zeros_u8, List.append_assoc, sn_upto, sn_from, slN_def, run_cap, rules, rules2, loopRules, Try.facts, base0, Int.toNat_zero, Nat.reduceAdd, Nat.reduceMul, Nat.reduceSub, Nat.reduceLT, Nat.reduceLeDiff, Nat.reduceEqDiff, Int.reduceLE, Int.reduceLT, Int.reduceToNat, Int.reduceNe, Int.reduceEq, not_false_eq_true, Nat.reduceBEq, Nat.reduceDiv, Int.natCast_zero, Int.natCast_one, Int.reduceAdd, Int.reduceSub, reduceIte, ↓reduceIte, Value.oneCell', splice, reduceCtorEq]
  refine ret_lent (k := 1) (q := 4) (by decide) ?_ h1' (by omega) h3'
  simp only [sn_upto, sn_from, slN_def, run_cap, rules, rules2, loopRules, Try.facts, base0, Int.toNat_zero, Nat.reduceAdd, Nat.reduceMul, Nat.reduceSub, Nat.reduceLT, Nat.reduceLeDiff, Nat.reduceEqDiff, Int.reduceLE, Int.reduceLT, Int.reduceToNat, Int.reduceNe, Int.reduceEq, not_false_eq_true, Nat.reduceBEq, Nat.reduceDiv, Int.natCast_zero, Int.natCast_one, Int.reduceAdd, Int.reduceSub, reduceIte, ↓reduceIte, Value.oneCell', rowI_length, rowI_take, rowI_splice, rep_all, row_zero, le_nat, Int.toNat_natCast, Nat.zero_add, sok_row, reduceCtorEq]
set_option maxHeartbeats 4000000 in
set_option maxRecDepth 20000 in
theorem lend_n {a : Option Addr} {f : Nat → Int} : MFun Try.prog 5 [V (.slice a 0 0)] 0 (fun _ => none) (Lent 0 0 f) := by
  refine mfun_of_vc Try.func5 rfl (by kernel_rfl) (by simp [Try.ntmps5]) Try.callable5 (by simp [AV.ok, CV.ok, SV.names]) all0 inn0 ?_
  simp only [Try.results5, sn_upto, sn_from, slN_def, run_cap, rules, rules2, loopRules, Try.facts, base0, Int.toNat_zero, Nat.reduceAdd, Nat.reduceMul, Nat.reduceSub, Nat.reduceLT, Nat.reduceLeDiff, Nat.reduceEqDiff, Int.reduceLE, Int.reduceLT, Int.reduceToNat, Int.reduceNe, Int.reduceEq, not_false_eq_true, Nat.reduceBEq, Nat.reduceDiv, Int.natCast_zero, Int.natCast_one, Int.reduceAdd, Int.reduceSub, reduceIte, ↓reduceIte, Value.oneCell', rowI_length, rowI_take, rowI_splice, rep_all, row_zero, le_nat, Int.toNat_natCast, Nat.zero_add, sok_row, reduceCtorEq]
  refine made_call (f := f) copied_n (fun n => n) fits0 rfl ?_
  intro c1 tail1 h1 h2 h3
  simp only [sn_upto, sn_from, slN_def, run_cap, rules, rules2, loopRules, Try.facts, base0, Int.toNat_zero, Nat.reduceAdd, Nat.reduceMul, Nat.reduceSub, Nat.reduceLT, Nat.reduceLeDiff, Nat.reduceEqDiff, Int.reduceLE, Int.reduceLT, Int.reduceToNat, Int.reduceNe, Int.reduceEq, not_false_eq_true, Nat.reduceBEq, Nat.reduceDiv, Int.natCast_zero, Int.natCast_one, Int.reduceAdd, Int.reduceSub, reduceIte, ↓reduceIte, Value.oneCell', rowI_length, rowI_take, rowI_splice, rep_all, row_zero, le_nat, Int.toNat_natCast, Nat.zero_add, sok_row, reduceCtorEq]
  refine vc_append_zeros (b := 2) (o := 0) (n := 0) (c := c1) (m := 64) (cs := rowI .u8 0 f ++ tail1) (olds := rowI .u8 0 f) Try.mkK28 Try.kind3 rfl (by decide) rfl (by simp only [upd_apply, sn_upto, sn_from, slN_def, run_cap, rules, rules2, loopRules, Try.facts, base0, Int.toNat_zero, Nat.reduceAdd, Nat.reduceMul, Nat.reduceSub, Nat.reduceLT, Nat.reduceLeDiff, Nat.reduceEqDiff, Int.reduceLE, Int.reduceLT, Int.reduceToNat, Int.reduceNe, Int.reduceEq, not_false_eq_true, Nat.reduceBEq, Nat.reduceDiv, Int.natCast_zero, Int.natCast_one, Int.reduceAdd, Int.reduceSub, reduceIte, ↓reduceIte, Value.oneCell', rowI_length, rowI_take, rowI_splice, rep_all, row_zero, le_nat, Int.toNat_natCast, Nat.zero_add, sok_row, reduceCtorEq]) (by rw [List.length_append, rowI_length]; omega)
    (by rw [rowI_length, Nat.mul_one]) (shows_src shows_row) (plainT h3) (by decide) (by decide) (by decide) (by omega) (by omega) ?_
  intro c' tail h1' h2' h3'
  simp only [zeros_u8, List.append_assoc, sn_upto, sn_from, slN_def, run_cap, rules, rules2, loopRules, Try.facts, base0, Int.toNat_zero, Nat.reduceAdd, Nat.reduceMul, Nat.reduceSub, Nat.reduceLT, Nat.reduceLeDiff, Nat.reduceEqDiff, Int.reduceLE, Int.reduceLT, Int.reduceToNat, Int.reduceNe, Int.reduceEq, not_false_eq_true, Nat.reduceBEq, Nat.reduceDiv, Int.natCast_zero, Int.natCast_one, Int.reduceAdd, Int.reduceSub, reduceIte, ↓reduceIte, Value.oneCell', splice, reduceCtorEq]
  refine ret_lent (k := 0) (q := 3) (by decide) ?_ h1' (by omega) h3'
  simp only [sn_upto, sn_from, slN_def, run_cap, rules, rules2, loopRules, Try.facts, base0, Int.toNat_zero, Nat.reduceAdd, Nat.reduceMul, Nat.reduceSub, Nat.reduceLT, Nat.reduceLeDiff, Nat.reduceEqDiff, Int.reduceLE, Int.reduceLT, Int.reduceToNat, Int.reduceNe, Int.reduceEq, not_false_eq_true, Nat.reduceBEq, Nat.reduceDiv, Int.natCast_zero, Int.natCast_one, Int.reduceAdd, Int.reduceSub, reduceIte, ↓reduceIte, Value.oneCell', rowI_length, rowI_take, rowI_splice, rep_all, row_zero, le_nat, Int.toNat_natCast, Nat.zero_add, sok_row, reduceCtorEq]
set_option maxHeartbeats 4000000 in
set_option maxRecDepth 20000 in
theorem list_m {n c : Nat} {cs : List SV} (hn : n + 64 ≤ c) (hp : cs.all SV.plain = true) : MFun Try.prog 14 [lentV 0 n c] 1 (lk [(0, ⟨false, cs⟩)]) (fun v out => v = Sl 0 0 n c ∧ out = fun _ => none) := by
  refine mfun_of_vc Try.func14 rfl (by kernel_rfl) (by simp [Try.ntmps14]) Try.callable14 (fun v hv => by rw [List.mem_singleton.1 hv]; exact lent_ok (by decide)) all1 (inn1 hp) ?_
  have h1 : ((n : Int) ≤ (c : Int)) = True := eq_true (by omega)
  simp only [Try.results14, lentV, nat_nn, h1, sn_upto, sn_from, slN_def, run_cap, rules, rules2, loopRules, Try.facts, base0, Int.toNat_zero, Nat.reduceAdd, Nat.reduceMul, Nat.reduceSub, Nat.reduceLT, Nat.reduceLeDiff, Nat.reduceEqDiff, Int.reduceLE, Int.reduceLT, Int.reduceToNat, Int.reduceNe, Int.reduceEq, not_false_eq_true, Nat.reduceBEq, Nat.reduceDiv, Int.natCast_zero, Int.natCast_one, Int.reduceAdd, Int.reduceSub, reduceIte, ↓reduceIte, Value.oneCell', rowI_length, rowI_take, rowI_splice, rep_all, row_zero, le_nat, Int.toNat_natCast, Nat.zero_add, sok_row, reduceCtorEq]
  exact ret_in (by decide) ⟨rfl, rfl⟩
set_option maxHeartbeats 4000000 in
set_option maxRecDepth 20000 in
theorem scribble_m {n o c : Nat} {f : Nat → Int} {tail : List SV} (hp : tail.all SV.plain = true) (hn : n < 4611686018427387904) (ho : o = 0) :
    MFun Try.prog 16 [Sl 0 o n c] 1 (lk [(0, ⟨true, rowI .u8 n f ++ tail⟩)]) (fun v out => v = .inr [] ∧ out = lk [(0, ⟨true, rowI .u8 n (fun i => bitI .xor .u8 (f i) 165) ++ tail⟩)]) := by
  subst ho
  refine mfun_of_vc Try.func16 rfl (by kernel_rfl) (by simp [Try.ntmps16]) Try.callable16 (by simp [AV.ok, CV.ok, SV.names]) all1 (inn1 (plainT hp)) ?_
  simp only [Try.results16, sn_upto, sn_from, slN_def, run_cap, rules, rules2, loopRules, Try.facts, base0, Int.toNat_zero, Nat.reduceAdd, Nat.reduceMul, Nat.reduceSub, Nat.reduceLT, Nat.reduceLeDiff, Nat.reduceEqDiff, Int.reduceLE, Int.reduceLT, Int.reduceToNat, Int.reduceNe, Int.reduceEq, not_false_eq_true, Nat.reduceBEq, Nat.reduceDiv, Int.natCast_zero, Int.natCast_one, Int.reduceAdd, Int.reduceSub, reduceIte, ↓reduceIte, Value.oneCell', rowI_length, rowI_take, rowI_splice, rep_all, row_zero, le_nat, Int.toNat_natCast, Nat.zero_add, sok_row, reduceCtorEq]
  refine loop_count n (fun k => [(0, Sl 0 0 n c), (4, I .i64 n), (5, I .i64 k)])
    (fun k => [(0, ⟨true, rowI .u8 n (fun i => if i < k then bitI .xor .u8 (f i) 165 else f i) ++ tail⟩)]) _ ?_ ?_ ?_
  · simp only [Nat.not_lt_zero, if_false, sn_upto, sn_from, slN_def, run_cap, rules, rules2, loopRules, Try.facts, base0, Int.toNat_zero, Nat.reduceAdd, Nat.reduceMul, Nat.reduceSub, Nat.reduceLT, Nat.reduceLeDiff, Nat.reduceEqDiff, Int.reduceLE, Int.reduceLT, Int.reduceToNat, Int.reduceNe, Int.reduceEq, not_false_eq_true, Nat.reduceBEq, Nat.reduceDiv, Int.natCast_zero, Int.natCast_one, Int.reduceAdd, Int.reduceSub, reduceIte, ↓reduceIte, Value.oneCell', rowI_length, rowI_take, rowI_splice, rep_all, row_zero, le_nat, Int.toNat_natCast, Nat.zero_add, sok_row, reduceCtorEq]
    exact ok_all (plainT hp)
  · intro j hj
    have hg : ∀ g : Nat → Int, (rowI .u8 n g ++ tail)[j]? = some (Sum.inl (.int .u8 (g j))) := fun g => by
      have := shows_row (n := n) (f := g) (tail := tail) j hj
      rwa [Nat.zero_add] at this
    have hs : ∀ (g : Nat → Int) (v : Int), splice (rowI .u8 n g ++ tail) j [Sum.inl (Value.int .u8 v)] = rowI .u8 n (upd g j v) ++ tail := fun g v => by
      rw [← rowI_splice1 .u8 n g j hj]
      simp only [splice, List.length_singleton]
      rw [List.take_append_of_le_length (by rw [rowI_length]; omega), List.drop_append_of_le_length (by rw [rowI_length]; omega)]
      simp only [List.append_assoc]
    simp only [sn_upto, sn_from, slN_def, run_cap, rules, rules2, loopRules, Try.facts, base0, Int.toNat_zero, Nat.reduceAdd, Nat.reduceMul, Nat.reduceSub, Nat.reduceLT, Nat.reduceLeDiff, Nat.reduceEqDiff, Int.reduceLE, Int.reduceLT, Int.reduceToNat, Int.reduceNe, Int.reduceEq, not_false_eq_true, Nat.reduceBEq, Nat.reduceDiv, Int.natCast_zero, Int.natCast_one, Int.reduceAdd, Int.reduceSub, reduceIte, ↓reduceIte, Value.oneCell', rowI_length, rowI_take, rowI_splice, rep_all, row_zero, le_nat, Int.toNat_natCast, Nat.zero_add, sok_row, reduceCtorEq]
    refine vcIf_yes (by simp; omega) ?_
    simp only [nat_nn, nat_lt_eq hj, hg, hs, Nat.lt_irrefl, if_false, wrapS j (by omega), sn_upto, sn_from, slN_def, run_cap, rules, rules2, loopRules, Try.facts, base0, Int.toNat_zero, Nat.reduceAdd, Nat.reduceMul, Nat.reduceSub, Nat.reduceLT, Nat.reduceLeDiff, Nat.reduceEqDiff, Int.reduceLE, Int.reduceLT, Int.reduceToNat, Int.reduceNe, Int.reduceEq, not_false_eq_true, Nat.reduceBEq, Nat.reduceDiv, Int.natCast_zero, Int.natCast_one, Int.reduceAdd, Int.reduceSub, reduceIte, ↓reduceIte, Value.oneCell', rowI_length, rowI_take, rowI_splice, rep_all, row_zero, le_nat, Int.toNat_natCast, Nat.zero_add, sok_row, reduceCtorEq]
    refine ⟨by rw [List.length_append, rowI_length]; omega, ?_⟩
    exact ⟨congrArg (fun c => some (Box.mk true (c ++ tail))) (row_upto2 (f := fun i => bitI .xor .u8 (f i) 165) (g := f)), ok_all (plainT hp)⟩
  · simp only [sn_upto, sn_from, slN_def, run_cap, rules, rules2, loopRules, Try.facts, base0, Int.toNat_zero, Nat.reduceAdd, Nat.reduceMul, Nat.reduceSub, Nat.reduceLT, Nat.reduceLeDiff, Nat.reduceEqDiff, Int.reduceLE, Int.reduceLT, Int.reduceToNat, Int.reduceNe, Int.reduceEq, not_false_eq_true, Nat.reduceBEq, Nat.reduceDiv, Int.natCast_zero, Int.natCast_one, Int.reduceAdd, Int.reduceSub, reduceIte, ↓reduceIte, Value.oneCell', rowI_length, rowI_take, rowI_splice, rep_all, row_zero, le_nat, Int.toNat_natCast, Nat.zero_add, sok_row, reduceCtorEq]
    refine vcIf_no (by simp) ?_
    simp only [row_all, sn_upto, sn_from, slN_def, run_cap, rules, rules2, loopRules, Try.facts, base0, Int.toNat_zero, Nat.reduceAdd, Nat.reduceMul, Nat.reduceSub, Nat.reduceLT, Nat.reduceLeDiff, Nat.reduceEqDiff, Int.reduceLE, Int.reduceLT, Int.reduceToNat, Int.reduceNe, Int.reduceEq, not_false_eq_true, Nat.reduceBEq, Nat.reduceDiv, Int.natCast_zero, Int.natCast_one, Int.reduceAdd, Int.reduceSub, reduceIte, ↓reduceIte, Value.oneCell', rowI_length, rowI_take, rowI_splice, rep_all, row_zero, le_nat, Int.toNat_natCast, Nat.zero_add, sok_row, reduceCtorEq]
    exact ret_wrote (cs := rowI .u8 n (fun i => bitI .xor .u8 (f i) 165) ++ tail) (by decide) rfl (by simp only [sn_upto, sn_from, slN_def, run_cap, rules, rules2, loopRules, Try.facts, base0, Int.toNat_zero, Nat.reduceAdd, Nat.reduceMul, Nat.reduceSub, Nat.reduceLT, Nat.reduceLeDiff, Nat.reduceEqDiff, Int.reduceLE, Int.reduceLT, Int.reduceToNat, Int.reduceNe, Int.reduceEq, not_false_eq_true, Nat.reduceBEq, Nat.reduceDiv, Int.natCast_zero, Int.natCast_one, Int.reduceAdd, Int.reduceSub, reduceIte, ↓reduceIte, Value.oneCell', rowI_length, rowI_take, rowI_splice, rep_all, row_zero, le_nat, Int.toNat_natCast, Nat.zero_add, sok_row, reduceCtorEq]) (plainT hp) ⟨rfl, rfl⟩
set_option maxHeartbeats 4000000 in
set_option maxRecDepth 20000 in
theorem scribble_n : Fun Try.prog 16 [V (.slice none 0 0)] (.inr []) := by
  refine fun_of_vc Try.func16 rfl (by kernel_rfl) (by simp [Try.ntmps16]) rfl rfl ?_
  simp only [Try.results16, sn_upto, sn_from, slN_def, run_cap, rules, rules2, loopRules, Try.facts, base0, Int.toNat_zero, Nat.reduceAdd, Nat.reduceMul, Nat.reduceSub, Nat.reduceLT, Nat.reduceLeDiff, Nat.reduceEqDiff, Int.reduceLE, Int.reduceLT, Int.reduceToNat, Int.reduceNe, Int.reduceEq, not_false_eq_true, Nat.reduceBEq, Nat.reduceDiv, Int.natCast_zero, Int.natCast_one, Int.reduceAdd, Int.reduceSub, reduceIte, ↓reduceIte, Value.oneCell', rowI_length, rowI_take, rowI_splice, rep_all, row_zero, le_nat, Int.toNat_natCast, Nat.zero_add, sok_row, reduceCtorEq]
  refine loop_count 0 (fun k => [(4, I .i64 0), (5, I .i64 k)]) (fun k => []) _ ?_ ?_ ?_
  · simp only [sn_upto, sn_from, slN_def, run_cap, rules, rules2, loopRules, Try.facts, base0, Int.toNat_zero, Nat.reduceAdd, Nat.reduceMul, Nat.reduceSub, Nat.reduceLT, Nat.reduceLeDiff, Nat.reduceEqDiff, Int.reduceLE, Int.reduceLT, Int.reduceToNat, Int.reduceNe, Int.reduceEq, not_false_eq_true, Nat.reduceBEq, Nat.reduceDiv, Int.natCast_zero, Int.natCast_one, Int.reduceAdd, Int.reduceSub, reduceIte, ↓reduceIte, Value.oneCell', rowI_length, rowI_take, rowI_splice, rep_all, row_zero, le_nat, Int.toNat_natCast, Nat.zero_add, sok_row, reduceCtorEq]
  · intro j hj; omega
  · simp only [sn_upto, sn_from, slN_def, run_cap, rules, rules2, loopRules, Try.facts, base0, Int.toNat_zero, Nat.reduceAdd, Nat.reduceMul, Nat.reduceSub, Nat.reduceLT, Nat.reduceLeDiff, Nat.reduceEqDiff, Int.reduceLE, Int.reduceLT, Int.reduceToNat, Int.reduceNe, Int.reduceEq, not_false_eq_true, Nat.reduceBEq, Nat.reduceDiv, Int.natCast_zero, Int.natCast_one, Int.reduceAdd, Int.reduceSub, reduceIte, ↓reduceIte, Value.oneCell', rowI_length, rowI_take, rowI_splice, rep_all, row_zero, le_nat, Int.toNat_natCast, Nat.zero_add, sok_row, reduceCtorEq]
    refine vcIf_no (by simp) ?_
    simp only [sn_upto, sn_from, slN_def, run_cap, rules, rules2, loopRules, Try.facts, base0, Int.toNat_zero, Nat.reduceAdd, Nat.reduceMul, Nat.reduceSub, Nat.reduceLT, Nat.reduceLeDiff, Nat.reduceEqDiff, Int.reduceLE, Int.reduceLT, Int.reduceToNat, Int.reduceNe, Int.reduceEq, not_false_eq_true, Nat.reduceBEq, Nat.reduceDiv, Int.natCast_zero, Int.natCast_one, Int.reduceAdd, Int.reduceSub, reduceIte, ↓reduceIte, Value.oneCell', rowI_length, rowI_take, rowI_splice, rep_all, row_zero, le_nat, Int.toNat_natCast, Nat.zero_add, sok_row, reduceCtorEq]
set_option maxHeartbeats 8000000 in
set_option maxRecDepth 20000 in
theorem back_s {n o c c' : Nat} {f : Nat → Int} {tail cs : List SV} (hc : n + 64 ≤ c) (hn : n < 4611686018427387904) (hp : tail.all SV.plain = true) (hs : Shows cs o n f) (hq : cs.all SV.plain = true) :
    MFun Try.prog 19 [lentV 0 n c, Sl 1 o n c'] 2 (lk [(0, ⟨false, rowI .u8 n f ++ (rowI .u8 64 (fun _ => 0) ++ tail)⟩), (1, ⟨false, cs⟩)]) (fun v out => v = B true ∧ out = fun _ => none) := by
  have hsh : Shows (rowI .u8 n f ++ (rowI .u8 64 (fun _ => 0) ++ tail)) n 64 (fun _ => 0) := fun i hi => by
    rw [List.getElem?_append_right (by rw [rowI_length]; omega), rowI_length, show n + i - n = i by omega, List.getElem?_append_left (by rw [rowI_length]; exact hi), rowI_get .u8 64 _ i hi]
  refine mfun_of_vc Try.func19 rfl (by kernel_rfl) (by simp [Try.ntmps19]) Try.callable19 (fun v hv => by
    simp only [List.mem_cons, List.not_mem_nil, or_false] at hv
    rcases hv with rfl | rfl
    · exact lent_ok (by decide)
    · exact (by decide : 1 < 2)) all2 (inn2 (plainL hp) hq) ?_
  have h1 : ((n : Int) ≤ (c : Int)) = True := eq_true (by omega)
  have h2 : ((n : Int) ≤ ((n + 64 : Nat) : Int)) = True := eq_true (by omega)
  have h3 : (((n + 64 : Nat) : Int) ≤ (c : Int)) = True := eq_true (by omega)
  have h4 : (if c = n then 0 else n) = n := if_neg (by omega)
  have h5 : n + 64 - n = 64 := by omega
  simp only [Try.results19, lentV, nat_nn, h1, h2, h3, sn_upto, sn_from, slN_def, run_cap, rules, rules2, loopRules, Try.facts, base0, Int.toNat_zero, Nat.reduceAdd, Nat.reduceMul, Nat.reduceSub, Nat.reduceLT, Nat.reduceLeDiff, Nat.reduceEqDiff, Int.reduceLE, Int.reduceLT, Int.reduceToNat, Int.reduceNe, Int.reduceEq, not_false_eq_true, Nat.reduceBEq, Nat.reduceDiv, Int.natCast_zero, Int.natCast_one, Int.reduceAdd, Int.reduceSub, reduceIte, ↓reduceIte, Value.oneCell', rowI_length, rowI_take, rowI_splice, rep_all, row_zero, le_nat, Int.toNat_natCast, Nat.zero_add, sok_row, reduceCtorEq]
  refine ⟨by kernel_rfl, ?_⟩
  refine same_draw hn (.inr ⟨0, 0, c, false, _, rfl, by simp only [upd_apply, sn_upto, sn_from, slN_def, run_cap, rules, rules2, loopRules, Try.facts, base0, Int.toNat_zero, Nat.reduceAdd, Nat.reduceMul, Nat.reduceSub, Nat.reduceLT, Nat.reduceLeDiff, Nat.reduceEqDiff, Int.reduceLE, Int.reduceLT, Int.reduceToNat, Int.reduceNe, Int.reduceEq, not_false_eq_true, Nat.reduceBEq, Nat.reduceDiv, Int.natCast_zero, Int.natCast_one, Int.reduceAdd, Int.reduceSub, reduceIte, ↓reduceIte, Value.oneCell', rowI_length, rowI_take, rowI_splice, rep_all, row_zero, le_nat, Int.toNat_natCast, Nat.zero_add, sok_row, reduceCtorEq], plainL hp, shows_row⟩) (.inr ⟨1, o, c', false, cs, rfl, by simp only [upd_apply, sn_upto, sn_from, slN_def, run_cap, rules, rules2, loopRules, Try.facts, base0, Int.toNat_zero, Nat.reduceAdd, Nat.reduceMul, Nat.reduceSub, Nat.reduceLT, Nat.reduceLeDiff, Nat.reduceEqDiff, Int.reduceLE, Int.reduceLT, Int.reduceToNat, Int.reduceNe, Int.reduceEq, not_false_eq_true, Nat.reduceBEq, Nat.reduceDiv, Int.natCast_zero, Int.natCast_one, Int.reduceAdd, Int.reduceSub, reduceIte, ↓reduceIte, Value.oneCell', rowI_length, rowI_take, rowI_splice, rep_all, row_zero, le_nat, Int.toNat_natCast, Nat.zero_add, sok_row, reduceCtorEq], hq, hs⟩) ?_
  simp only [nat_nn, h1, h2, h3, h4, h5, sn_upto, sn_from, slN_def, run_cap, rules, rules2, loopRules, Try.facts, base0, Int.toNat_zero, Nat.reduceAdd, Nat.reduceMul, Nat.reduceSub, Nat.reduceLT, Nat.reduceLeDiff, Nat.reduceEqDiff, Int.reduceLE, Int.reduceLT, Int.reduceToNat, Int.reduceNe, Int.reduceEq, not_false_eq_true, Nat.reduceBEq, Nat.reduceDiv, Int.natCast_zero, Int.natCast_one, Int.reduceAdd, Int.reduceSub, reduceIte, ↓reduceIte, Value.oneCell', rowI_length, rowI_take, rowI_splice, rep_all, row_zero, le_nat, Int.toNat_natCast, Nat.zero_add, sok_row, reduceCtorEq]
  refine ⟨by decide, ?_⟩
  refine same_draw (by decide) (.inr ⟨0, n, c - n, false, _, rfl, by simp only [upd_apply, sn_upto, sn_from, slN_def, run_cap, rules, rules2, loopRules, Try.facts, base0, Int.toNat_zero, Nat.reduceAdd, Nat.reduceMul, Nat.reduceSub, Nat.reduceLT, Nat.reduceLeDiff, Nat.reduceEqDiff, Int.reduceLE, Int.reduceLT, Int.reduceToNat, Int.reduceNe, Int.reduceEq, not_false_eq_true, Nat.reduceBEq, Nat.reduceDiv, Int.natCast_zero, Int.natCast_one, Int.reduceAdd, Int.reduceSub, reduceIte, ↓reduceIte, Value.oneCell', rowI_length, rowI_take, rowI_splice, rep_all, row_zero, le_nat, Int.toNat_natCast, Nat.zero_add, sok_row, reduceCtorEq], plainL hp, hsh⟩) (.inr ⟨17, 0, 64, true, rowI .u8 64 (fun _ => 0), rfl, by simp only [upd_apply, sn_upto, sn_from, slN_def, run_cap, rules, rules2, loopRules, Try.facts, base0, Int.toNat_zero, Nat.reduceAdd, Nat.reduceMul, Nat.reduceSub, Nat.reduceLT, Nat.reduceLeDiff, Nat.reduceEqDiff, Int.reduceLE, Int.reduceLT, Int.reduceToNat, Int.reduceNe, Int.reduceEq, not_false_eq_true, Nat.reduceBEq, Nat.reduceDiv, Int.natCast_zero, Int.natCast_one, Int.reduceAdd, Int.reduceSub, reduceIte, ↓reduceIte, Value.oneCell', rowI_length, rowI_take, rowI_splice, rep_all, row_zero, le_nat, Int.toNat_natCast, Nat.zero_add, sok_row, reduceCtorEq], plainI, shows_row0⟩) ?_
  simp only [sn_upto, sn_from, slN_def, run_cap, rules, rules2, loopRules, Try.facts, base0, Int.toNat_zero, Nat.reduceAdd, Nat.reduceMul, Nat.reduceSub, Nat.reduceLT, Nat.reduceLeDiff, Nat.reduceEqDiff, Int.reduceLE, Int.reduceLT, Int.reduceToNat, Int.reduceNe, Int.reduceEq, not_false_eq_true, Nat.reduceBEq, Nat.reduceDiv, Int.natCast_zero, Int.natCast_one, Int.reduceAdd, Int.reduceSub, reduceIte, ↓reduceIte, Value.oneCell', rowI_length, rowI_take, rowI_splice, rep_all, row_zero, le_nat, Int.toNat_natCast, Nat.zero_add, sok_row, reduceCtorEq]
  exact ret_plain rfl ⟨rfl, rfl⟩
set_option maxHeartbeats 8000000 in
set_option maxRecDepth 20000 in
theorem back_n {a : Option Addr} {c : Nat} {f : Nat → Int} {tail : List SV} (hc : 0 + 64 ≤ c) (hp : tail.all SV.plain = true) :
    MFun Try.prog 19 [lentV 0 0 c, V (.slice a 0 0)] 1 (lk [(0, ⟨false, rowI .u8 0 f ++ (rowI .u8 64 (fun _ => 0) ++ tail)⟩)]) (fun v out => v = B true ∧ out = fun _ => none) := by
  have hsh : Shows (rowI .u8 0 f ++ (rowI .u8 64 (fun _ => 0) ++ tail)) 0 64 (fun _ => 0) := fun i hi => by
    rw [List.getElem?_append_right (by rw [rowI_length]; omega), rowI_length, show 0 + i - 0 = i by omega, List.getElem?_append_left (by rw [rowI_length]; exact hi), rowI_get .u8 64 _ i hi]
  refine mfun_of_vc Try.func19 rfl (by kernel_rfl) (by simp [Try.ntmps19]) Try.callable19 (fun v hv => by
    simp only [List.mem_cons, List.not_mem_nil, or_false] at hv
    rcases hv with rfl | rfl
    · exact lent_ok (by decide)
    · trivial) all1 (inn1 (plainL hp)) ?_
  have h0 : (0 ≤ (c : Int)) = True := eq_true (by omega)
  have h3 : (64 ≤ (c : Int)) = True := eq_true (by omega)
  have h4 : (if c = 0 then 0 else 0) = 0 := by split <;> rfl
  simp only [Try.results19, lentV, nat_nn, h0, h3, sn_upto, sn_from, slN_def, run_cap, rules, rules2, loopRules, Try.facts, base0, Int.toNat_zero, Nat.reduceAdd, Nat.reduceMul, Nat.reduceSub, Nat.reduceLT, Nat.reduceLeDiff, Nat.reduceEqDiff, Int.reduceLE, Int.reduceLT, Int.reduceToNat, Int.reduceNe, Int.reduceEq, not_false_eq_true, Nat.reduceBEq, Nat.reduceDiv, Int.natCast_zero, Int.natCast_one, Int.reduceAdd, Int.reduceSub, reduceIte, ↓reduceIte, Value.oneCell', rowI_length, rowI_take, rowI_splice, rep_all, row_zero, le_nat, Int.toNat_natCast, Nat.zero_add, sok_row, reduceCtorEq]
  refine ⟨by kernel_rfl, ?_⟩
  refine same_draw (n := 0) (f := f) (by decide) (.inr ⟨0, 0, c, false, _, rfl, by simp only [upd_apply, sn_upto, sn_from, slN_def, run_cap, rules, rules2, loopRules, Try.facts, base0, Int.toNat_zero, Nat.reduceAdd, Nat.reduceMul, Nat.reduceSub, Nat.reduceLT, Nat.reduceLeDiff, Nat.reduceEqDiff, Int.reduceLE, Int.reduceLT, Int.reduceToNat, Int.reduceNe, Int.reduceEq, not_false_eq_true, Nat.reduceBEq, Nat.reduceDiv, Int.natCast_zero, Int.natCast_one, Int.reduceAdd, Int.reduceSub, reduceIte, ↓reduceIte, Value.oneCell', rowI_length, rowI_take, rowI_splice, rep_all, row_zero, le_nat, Int.toNat_natCast, Nat.zero_add, sok_row, reduceCtorEq], plainL hp, shows_row⟩) (.inl ⟨⟨_, rfl⟩, rfl⟩) ?_
  simp only [nat_nn, h0, h3, h4, sn_upto, sn_from, slN_def, run_cap, rules, rules2, loopRules, Try.facts, base0, Int.toNat_zero, Nat.reduceAdd, Nat.reduceMul, Nat.reduceSub, Nat.reduceLT, Nat.reduceLeDiff, Nat.reduceEqDiff, Int.reduceLE, Int.reduceLT, Int.reduceToNat, Int.reduceNe, Int.reduceEq, not_false_eq_true, Nat.reduceBEq, Nat.reduceDiv, Int.natCast_zero, Int.natCast_one, Int.reduceAdd, Int.reduceSub, reduceIte, ↓reduceIte, Value.oneCell', rowI_length, rowI_take, rowI_splice, rep_all, row_zero, le_nat, Int.toNat_natCast, Nat.zero_add, sok_row, reduceCtorEq]
  refine ⟨by decide, ?_⟩
  refine same_draw (by decide) (.inr ⟨0, 0, c - 0, false, _, rfl, by simp only [upd_apply, sn_upto, sn_from, slN_def, run_cap, rules, rules2, loopRules, Try.facts, base0, Int.toNat_zero, Nat.reduceAdd, Nat.reduceMul, Nat.reduceSub, Nat.reduceLT, Nat.reduceLeDiff, Nat.reduceEqDiff, Int.reduceLE, Int.reduceLT, Int.reduceToNat, Int.reduceNe, Int.reduceEq, not_false_eq_true, Nat.reduceBEq, Nat.reduceDiv, Int.natCast_zero, Int.natCast_one, Int.reduceAdd, Int.reduceSub, reduceIte, ↓reduceIte, Value.oneCell', rowI_length, rowI_take, rowI_splice, rep_all, row_zero, le_nat, Int.toNat_natCast, Nat.zero_add, sok_row, reduceCtorEq], plainL hp, hsh⟩) (.inr ⟨16, 0, 64, true, rowI .u8 64 (fun _ => 0), rfl, by simp only [upd_apply, sn_upto, sn_from, slN_def, run_cap, rules, rules2, loopRules, Try.facts, base0, Int.toNat_zero, Nat.reduceAdd, Nat.reduceMul, Nat.reduceSub, Nat.reduceLT, Nat.reduceLeDiff, Nat.reduceEqDiff, Int.reduceLE, Int.reduceLT, Int.reduceToNat, Int.reduceNe, Int.reduceEq, not_false_eq_true, Nat.reduceBEq, Nat.reduceDiv, Int.natCast_zero, Int.natCast_one, Int.reduceAdd, Int.reduceSub, reduceIte, ↓reduceIte, Value.oneCell', rowI_length, rowI_take, rowI_splice, rep_all, row_zero, le_nat, Int.toNat_natCast, Nat.zero_add, sok_row, reduceCtorEq], plainI, shows_row0⟩) ?_
  simp only [sn_upto, sn_from, slN_def, run_cap, rules, rules2, loopRules, Try.facts, base0, Int.toNat_zero, Nat.reduceAdd, Nat.reduceMul, Nat.reduceSub, Nat.reduceLT, Nat.reduceLeDiff, Nat.reduceEqDiff, Int.reduceLE, Int.reduceLT, Int.reduceToNat, Int.reduceNe, Int.reduceEq, not_false_eq_true, Nat.reduceBEq, Nat.reduceDiv, Int.natCast_zero, Int.natCast_one, Int.reduceAdd, Int.reduceSub, reduceIte, ↓reduceIte, Value.oneCell', rowI_length, rowI_take, rowI_splice, rep_all, row_zero, le_nat, Int.toNat_natCast, Nat.zero_add, sok_row, reduceCtorEq]
  exact ret_plain rfl ⟨rfl, rfl⟩
theorem lent_call {s : AS} {fn k n nm : Nat} {f : Nat → Int} {args l : List AV} {ins : Nat → Option Box} (h : MFun Try.prog fn args k ins (Lent k n f)) (r : Nat → Nat) (hfit : Fits s r ins none) (hl : l = args.map (AV.ren r)) {dst : Option Nat} {K : AS → Prop}
    (hk : ∀ c tail, n + 64 ≤ c → tail.length = c - (n + 64) → tail.all SV.plain = true → K ((⟨s.env, upd s.box nm (some ⟨true, rowI .u8 n f ++ (rowI .u8 64 (fun _ => 0) ++ tail)⟩), s.next⟩ : AS).put dst (some (lentV nm n c)))) : vcCall Try.prog nm fn (some l) dst K s := by
  refine h.vcCall r none hfit hl ?_
  rintro v out ⟨c, tail, rfl, rfl, h1, h2, h3⟩ _
  rw [after_lk (plainL h3)]
  have e : AV.ren (rnew r k nm) (lentV k n c) = lentV nm n c := by show lentV (rnew r k nm k) n c = _; rw [rnew_k]
  rw [e]
  exact hk c tail h1 h2 h3
/-- The list that is lent, in a region that draws. -/
theorem list_draw {s : AS} {nm t n c : Nat} {rw : Bool} {cs : List SV} (hn : n + 64 ≤ c) (hb : s.box t = some ⟨rw, cs⟩) (hp : cs.all SV.plain = true) {ops : Array Oper} {i : Nat} {dst : Option Nat} {K : AS → Prop} (hk : K (s.put dst (some (Sl t 0 n c)))) :
    vcFun Try.prog ops i nm 14 (some [lentV t n c]) dst K s := by
  refine .inr (.inl ⟨(some (Sl t 0 n c), none), (list_m hn hp).reads (fun _ => t) (fits1 hb hp) rfl (fun M h n _ => (h (lentV t _ c) (List.Mem.head _) _ (List.Mem.head _)).1) ?_ ?_, hk⟩)
  · rintro x out ⟨rfl, rfl⟩
    rfl
  · rintro e rfl
    exact .inl rfl
end Go.Proofs.Ytikibkboebbdjaa
