/-
  Stores and states held against each other.
-/
import Derived.Test.YtikibkboebbdjaaVcgFacts
import Derived.Test.YtikibkboebbdjaaVcgSk
set_option linter.unusedSimpArgs false
set_option linter.unusedVariables false
namespace Go.Proofs.Ytikibkboebbdjaa
open Go.Vcg
set_option maxHeartbeats 4000000 in
set_option maxRecDepth 20000 in
theorem sameStore_m {n : Nat} {f : Nat → En} {u v : SV} {cs ds : List SV} (h0 : StoreIs 0 u n f cs) (h1 : StoreIs 1 v n f ds) (hp : cs.all SV.plain = true) (hq : ds.all SV.plain = true) (hn : n < 4611686018427387904) :
    MFun Try.prog 32 [.inl (.inl u), .inl (.inl v)] 2 (lk [(0, ⟨false, cs⟩), (1, ⟨false, ds⟩)]) (fun v out => v = B true ∧ out = fun _ => none) := by
  refine mfun_of_vc Try.func32 rfl (by kernel_rfl) (by simp [Try.ntmps32]) Try.callable32 (fun x hx => by
    simp only [List.mem_cons, List.not_mem_nil, or_false] at hx
    rcases hx with rfl | rfl
    · exact (h0.ok (by decide)).1
    · exact (h1.ok (by decide)).1) all2 (inn2 hp hq) ?_
  have ok1 : ∀ {M : Nat → Prop}, (∀ x ∈ cs, SV.ok M x) = True := eq_true (ok_all hp)
  have ok2 : ∀ {M : Nat → Prop}, (∀ x ∈ ds, SV.ok M x) = True := eq_true (ok_all hq)
  have oku : AV.ok (fun k => k < 2) (.inl (.inl u)) = True := eq_true (h0.ok (by decide)).1
  have okv : AV.ok (fun k => k < 2) (.inl (.inl v)) = True := eq_true (h1.ok (by decide)).1
  simp only [Try.results32, h0.len, h1.len, bne_self_eq_false, sn_upto, sn_from, slN_def, run_cap, rules, rules2, loopRules, Try.facts, base0, Int.toNat_zero, Nat.reduceAdd, Nat.reduceMul, Nat.reduceSub, Nat.reduceLT, Nat.reduceLeDiff, Nat.reduceEqDiff, Int.reduceLE, Int.reduceLT, Int.reduceToNat, Int.reduceNe, Int.reduceEq, not_false_eq_true, Nat.reduceBEq, Nat.reduceDiv, Int.natCast_zero, Int.natCast_one, Int.reduceAdd, Int.reduceSub, reduceIte, ↓reduceIte, Value.oneCell', rowI_length, rowI_take, rowI_splice, rep_all, row_zero, le_nat, Int.toNat_natCast, Nat.zero_add, sok_row, reduceCtorEq]
  refine loop_count n (fun k => [(0, .inl (.inl u)), (1, .inl (.inl v)), (12, I .i64 n), (13, I .i64 k)])
    (fun k => [(0, ⟨false, cs⟩), (1, ⟨false, ds⟩)]) _ ?_ ?_ ?_
  · simp only [ok1, ok2, sn_upto, sn_from, slN_def, run_cap, rules, rules2, loopRules, Try.facts, base0, Int.toNat_zero, Nat.reduceAdd, Nat.reduceMul, Nat.reduceSub, Nat.reduceLT, Nat.reduceLeDiff, Nat.reduceEqDiff, Int.reduceLE, Int.reduceLT, Int.reduceToNat, Int.reduceNe, Int.reduceEq, not_false_eq_true, Nat.reduceBEq, Nat.reduceDiv, Int.natCast_zero, Int.natCast_one, Int.reduceAdd, Int.reduceSub, reduceIte, ↓reduceIte, Value.oneCell', rowI_length, rowI_take, rowI_splice, rep_all, row_zero, le_nat, Int.toNat_natCast, Nat.zero_add, sok_row, reduceCtorEq]
    exact ⟨(h0.ok (by decide)).1, (h1.ok (by decide)).1⟩
  · intro j hj
    rcases h0 with ⟨_, rfl⟩ | ⟨o, c, rfl, _, hs⟩
    · omega
    rcases h1 with ⟨_, rfl⟩ | ⟨o', c', rfl, _, hs'⟩
    · omega
    have b1 := hs.lt hj
    have b2 := hs'.lt hj
    simp only [sn_upto, sn_from, slN_def, run_cap, rules, rules2, loopRules, Try.facts, base0, Int.toNat_zero, Nat.reduceAdd, Nat.reduceMul, Nat.reduceSub, Nat.reduceLT, Nat.reduceLeDiff, Nat.reduceEqDiff, Int.reduceLE, Int.reduceLT, Int.reduceToNat, Int.reduceNe, Int.reduceEq, not_false_eq_true, Nat.reduceBEq, Nat.reduceDiv, Int.natCast_zero, Int.natCast_one, Int.reduceAdd, Int.reduceSub, reduceIte, ↓reduceIte, Value.oneCell', rowI_length, rowI_take, rowI_splice, rep_all, row_zero, le_nat, Int.toNat_natCast, Nat.zero_add, sok_row, reduceCtorEq]
    refine vcIf_yes (by simp; omega) ?_
    simp only [nat_nn, nat_lt_eq hj, hs j hj, hs' j hj, b1, b2, fds_en, wrapS j (by omega), sn_upto, sn_from, slN_def, run_cap, rules, rules2, loopRules, Try.facts, base0, Int.toNat_zero, Nat.reduceAdd, Nat.reduceMul, Nat.reduceSub, Nat.reduceLT, Nat.reduceLeDiff, Nat.reduceEqDiff, Int.reduceLE, Int.reduceLT, Int.reduceToNat, Int.reduceNe, Int.reduceEq, not_false_eq_true, Nat.reduceBEq, Nat.reduceDiv, Int.natCast_zero, Int.natCast_one, Int.reduceAdd, Int.reduceSub, reduceIte, ↓reduceIte, Value.oneCell', rowI_length, rowI_take, rowI_splice, rep_all, row_zero, le_nat, Int.toNat_natCast, Nat.zero_add, sok_row, reduceCtorEq]
    refine ⟨by kernel_rfl, ?_⟩
    simp only [Bool.not_true, wrapS j (by omega), sn_upto, sn_from, slN_def, run_cap, rules, rules2, loopRules, Try.facts, base0, Int.toNat_zero, Nat.reduceAdd, Nat.reduceMul, Nat.reduceSub, Nat.reduceLT, Nat.reduceLeDiff, Nat.reduceEqDiff, Int.reduceLE, Int.reduceLT, Int.reduceToNat, Int.reduceNe, Int.reduceEq, not_false_eq_true, Nat.reduceBEq, Nat.reduceDiv, Int.natCast_zero, Int.natCast_one, Int.reduceAdd, Int.reduceSub, reduceIte, ↓reduceIte, Value.oneCell', rowI_length, rowI_take, rowI_splice, rep_all, row_zero, le_nat, Int.toNat_natCast, Nat.zero_add, sok_row, reduceCtorEq]
    exact ⟨ok_all hp, ok_all hq⟩
  · simp only [sn_upto, sn_from, slN_def, run_cap, rules, rules2, loopRules, Try.facts, base0, Int.toNat_zero, Nat.reduceAdd, Nat.reduceMul, Nat.reduceSub, Nat.reduceLT, Nat.reduceLeDiff, Nat.reduceEqDiff, Int.reduceLE, Int.reduceLT, Int.reduceToNat, Int.reduceNe, Int.reduceEq, not_false_eq_true, Nat.reduceBEq, Nat.reduceDiv, Int.natCast_zero, Int.natCast_one, Int.reduceAdd, Int.reduceSub, reduceIte, ↓reduceIte, Value.oneCell', rowI_length, rowI_take, rowI_splice, rep_all, row_zero, le_nat, Int.toNat_natCast, Nat.zero_add, sok_row, reduceCtorEq]
    refine vcIf_no (by simp) ?_
    simp only [sn_upto, sn_from, slN_def, run_cap, rules, rules2, loopRules, Try.facts, base0, Int.toNat_zero, Nat.reduceAdd, Nat.reduceMul, Nat.reduceSub, Nat.reduceLT, Nat.reduceLeDiff, Nat.reduceEqDiff, Int.reduceLE, Int.reduceLT, Int.reduceToNat, Int.reduceNe, Int.reduceEq, not_false_eq_true, Nat.reduceBEq, Nat.reduceDiv, Int.natCast_zero, Int.natCast_one, Int.reduceAdd, Int.reduceSub, reduceIte, ↓reduceIte, Value.oneCell', rowI_length, rowI_take, rowI_splice, rep_all, row_zero, le_nat, Int.toNat_natCast, Nat.zero_add, sok_row, reduceCtorEq]
    exact ret_plain rfl ⟨rfl, rfl⟩
/-- The state with this store. -/
def St.withS (s : St) (v : SV) : St := { s with store := v }
theorem sameStore_call {s : AS} {nm t u n : Nat} {f : Nat → En} {v w : SV} {cs ds : List SV} {ra rb : Bool} (hb : s.box t = some ⟨ra, cs⟩) (hp : cs.all SV.plain = true) (hb' : s.box u = some ⟨rb, ds⟩) (hq : ds.all SV.plain = true)
    (h0 : StoreIs t v n f cs) (h1 : StoreIs u w n f ds) (hn : n < 4611686018427387904) {dst : Option Nat} {K : AS → Prop} (hk : K (s.put dst (some (B true)))) :
    vcCall Try.prog nm 32 (some [.inl (.inl v), .inl (.inl w)]) dst K s := by
  obtain ⟨v0, g0, e0⟩ := h0.name (k := 0)
  obtain ⟨w0, g1, e1⟩ := h1.name (k := 1)
  refine (sameStore_m g0 g1 hp hq hn).vcRead (two t u) (fits2 hb hp hb' hq) rfl ?_ hk
  simp only [List.map_cons, List.map_nil, AV.ren, CV.ren, e0 (two t u) rfl, e1 (two t u) rfl]
set_option maxHeartbeats 8000000 in
set_option maxRecDepth 20000 in
theorem sameState_m {x : St} {n : Nat} {f : Nat → En} {u v : SV} {cs ds : List SV} (h0 : StoreIs 0 u n f cs) (h1 : StoreIs 1 v n f ds) (hp : cs.all SV.plain = true) (hq : ds.all SV.plain = true) (hn : n < 4611686018427387904) :
    MFun Try.prog 13 [Ag (stL { x with store := u }), Ag (stL { x with store := v })] 2 (lk [(0, ⟨false, cs⟩), (1, ⟨false, ds⟩)]) (fun v out => v = B true ∧ out = fun _ => none) := by
  refine mfun_of_vc Try.func13 rfl (by kernel_rfl) (by simp [Try.ntmps13]) Try.callable13 (fun y hy => by
    simp only [List.mem_cons, List.not_mem_nil, or_false] at hy
    rcases hy with rfl | rfl
    · exact stL_ok (h0.ok (by decide))
    · exact stL_ok (h1.ok (by decide))) all2 (inn2 hp hq) ?_
  simp only [Try.results13, rulesS, sn_upto, sn_from, slN_def, run_cap, rules, rules2, loopRules, Try.facts, base0, Int.toNat_zero, Nat.reduceAdd, Nat.reduceMul, Nat.reduceSub, Nat.reduceLT, Nat.reduceLeDiff, Nat.reduceEqDiff, Int.reduceLE, Int.reduceLT, Int.reduceToNat, Int.reduceNe, Int.reduceEq, not_false_eq_true, Nat.reduceBEq, Nat.reduceDiv, Int.natCast_zero, Int.natCast_one, Int.reduceAdd, Int.reduceSub, reduceIte, ↓reduceIte, Value.oneCell', rowI_length, rowI_take, rowI_splice, rep_all, row_zero, le_nat, Int.toNat_natCast, Nat.zero_add, sok_row, reduceCtorEq]
  refine sameStore_call (n := n) (f := f) (t := 0) (u := 1) (ra := false) (rb := false) (by simp only [upd_apply, sn_upto, sn_from, slN_def, run_cap, rules, rules2, loopRules, Try.facts, base0, Int.toNat_zero, Nat.reduceAdd, Nat.reduceMul, Nat.reduceSub, Nat.reduceLT, Nat.reduceLeDiff, Nat.reduceEqDiff, Int.reduceLE, Int.reduceLT, Int.reduceToNat, Int.reduceNe, Int.reduceEq, not_false_eq_true, Nat.reduceBEq, Nat.reduceDiv, Int.natCast_zero, Int.natCast_one, Int.reduceAdd, Int.reduceSub, reduceIte, ↓reduceIte, Value.oneCell', rowI_length, rowI_take, rowI_splice, rep_all, row_zero, le_nat, Int.toNat_natCast, Nat.zero_add, sok_row, reduceCtorEq]) hp (by simp only [upd_apply, sn_upto, sn_from, slN_def, run_cap, rules, rules2, loopRules, Try.facts, base0, Int.toNat_zero, Nat.reduceAdd, Nat.reduceMul, Nat.reduceSub, Nat.reduceLT, Nat.reduceLeDiff, Nat.reduceEqDiff, Int.reduceLE, Int.reduceLT, Int.reduceToNat, Int.reduceNe, Int.reduceEq, not_false_eq_true, Nat.reduceBEq, Nat.reduceDiv, Int.natCast_zero, Int.natCast_one, Int.reduceAdd, Int.reduceSub, reduceIte, ↓reduceIte, Value.oneCell', rowI_length, rowI_take, rowI_splice, rep_all, row_zero, le_nat, Int.toNat_natCast, Nat.zero_add, sok_row, reduceCtorEq]) hq h0 h1 hn ?_
  simp only [Bool.not_true, bne_self_eq_false, beq_self_eq_true, ints_sameN, rulesS, sn_upto, sn_from, slN_def, run_cap, rules, rules2, loopRules, Try.facts, base0, Int.toNat_zero, Nat.reduceAdd, Nat.reduceMul, Nat.reduceSub, Nat.reduceLT, Nat.reduceLeDiff, Nat.reduceEqDiff, Int.reduceLE, Int.reduceLT, Int.reduceToNat, Int.reduceNe, Int.reduceEq, not_false_eq_true, Nat.reduceBEq, Nat.reduceDiv, Int.natCast_zero, Int.natCast_one, Int.reduceAdd, Int.reduceSub, reduceIte, ↓reduceIte, Value.oneCell', rowI_length, rowI_take, rowI_splice, rep_all, row_zero, le_nat, Int.toNat_natCast, Nat.zero_add, sok_row, reduceCtorEq]
  exact ret_plain rfl ⟨rfl, rfl⟩
set_option maxHeartbeats 4000000 in
set_option maxRecDepth 20000 in
theorem sameStore_f : Fun Try.prog 32 [V (.slice none 0 0), V (.slice none 0 0)] (B true) := by
  refine fun_of_vc Try.func32 rfl (by kernel_rfl) (by simp [Try.ntmps32]) rfl rfl ?_
  simp only [Try.results32, sn_upto, sn_from, slN_def, run_cap, rules, rules2, loopRules, Try.facts, base0, Int.toNat_zero, Nat.reduceAdd, Nat.reduceMul, Nat.reduceSub, Nat.reduceLT, Nat.reduceLeDiff, Nat.reduceEqDiff, Int.reduceLE, Int.reduceLT, Int.reduceToNat, Int.reduceNe, Int.reduceEq, not_false_eq_true, Nat.reduceBEq, Nat.reduceDiv, Int.natCast_zero, Int.natCast_one, Int.reduceAdd, Int.reduceSub, reduceIte, ↓reduceIte, Value.oneCell', splice, reduceCtorEq]
  simp only [bne_self_eq_false, sn_upto, sn_from, slN_def, run_cap, rules, rules2, loopRules, Try.facts, base0, Int.toNat_zero, Nat.reduceAdd, Nat.reduceMul, Nat.reduceSub, Nat.reduceLT, Nat.reduceLeDiff, Nat.reduceEqDiff, Int.reduceLE, Int.reduceLT, Int.reduceToNat, Int.reduceNe, Int.reduceEq, not_false_eq_true, Nat.reduceBEq, Nat.reduceDiv, Int.natCast_zero, Int.natCast_one, Int.reduceAdd, Int.reduceSub, reduceIte, ↓reduceIte, Value.oneCell', rowI_length, rowI_take, rowI_splice, rep_all, row_zero, le_nat, Int.toNat_natCast, Nat.zero_add, sok_row, reduceCtorEq]
  refine loop_count 0 (fun k => [(12, I .i64 0), (13, I .i64 k)]) (fun k => []) _ ?_ ?_ ?_
  · simp only [sn_upto, sn_from, slN_def, run_cap, rules, rules2, loopRules, Try.facts, base0, Int.toNat_zero, Nat.reduceAdd, Nat.reduceMul, Nat.reduceSub, Nat.reduceLT, Nat.reduceLeDiff, Nat.reduceEqDiff, Int.reduceLE, Int.reduceLT, Int.reduceToNat, Int.reduceNe, Int.reduceEq, not_false_eq_true, Nat.reduceBEq, Nat.reduceDiv, Int.natCast_zero, Int.natCast_one, Int.reduceAdd, Int.reduceSub, reduceIte, ↓reduceIte, Value.oneCell', rowI_length, rowI_take, rowI_splice, rep_all, row_zero, le_nat, Int.toNat_natCast, Nat.zero_add, sok_row, reduceCtorEq]
  · intro j hj; omega
  · simp only [sn_upto, sn_from, slN_def, run_cap, rules, rules2, loopRules, Try.facts, base0, Int.toNat_zero, Nat.reduceAdd, Nat.reduceMul, Nat.reduceSub, Nat.reduceLT, Nat.reduceLeDiff, Nat.reduceEqDiff, Int.reduceLE, Int.reduceLT, Int.reduceToNat, Int.reduceNe, Int.reduceEq, not_false_eq_true, Nat.reduceBEq, Nat.reduceDiv, Int.natCast_zero, Int.natCast_one, Int.reduceAdd, Int.reduceSub, reduceIte, ↓reduceIte, Value.oneCell', rowI_length, rowI_take, rowI_splice, rep_all, row_zero, le_nat, Int.toNat_natCast, Nat.zero_add, sok_row, reduceCtorEq]
    refine vcIf_no (by simp) ?_
    simp only [sn_upto, sn_from, slN_def, run_cap, rules, rules2, loopRules, Try.facts, base0, Int.toNat_zero, Nat.reduceAdd, Nat.reduceMul, Nat.reduceSub, Nat.reduceLT, Nat.reduceLeDiff, Nat.reduceEqDiff, Int.reduceLE, Int.reduceLT, Int.reduceToNat, Int.reduceNe, Int.reduceEq, not_false_eq_true, Nat.reduceBEq, Nat.reduceDiv, Int.natCast_zero, Int.natCast_one, Int.reduceAdd, Int.reduceSub, reduceIte, ↓reduceIte, Value.oneCell', rowI_length, rowI_take, rowI_splice, rep_all, row_zero, le_nat, Int.toNat_natCast, Nat.zero_add, sok_row, reduceCtorEq]
set_option maxHeartbeats 8000000 in
set_option maxRecDepth 20000 in
theorem sameState_f {x : St} : Fun Try.prog 13 [Ag (stL { x with store := .inl (.slice none 0 0) }), Ag (stL { x with store := .inl (.slice none 0 0) })] (B true) := by
  refine fun_of_vc Try.func13 rfl (by kernel_rfl) (by simp [Try.ntmps13]) (by simp only [List.all_cons, AV_st_plain (s := { x with store := .inl (.slice none 0 0) }) rfl, List.all_nil, Bool.and_true]) rfl ?_
  simp only [Try.results13, rulesS, sn_upto, sn_from, slN_def, run_cap, rules, rules2, loopRules, Try.facts, base0, Int.toNat_zero, Nat.reduceAdd, Nat.reduceMul, Nat.reduceSub, Nat.reduceLT, Nat.reduceLeDiff, Nat.reduceEqDiff, Int.reduceLE, Int.reduceLT, Int.reduceToNat, Int.reduceNe, Int.reduceEq, not_false_eq_true, Nat.reduceBEq, Nat.reduceDiv, Int.natCast_zero, Int.natCast_one, Int.reduceAdd, Int.reduceSub, reduceIte, ↓reduceIte, Value.oneCell', rowI_length, rowI_take, rowI_splice, rep_all, row_zero, le_nat, Int.toNat_natCast, Nat.zero_add, sok_row, reduceCtorEq]
  refine sameStore_f.vcCall ?_
  simp only [Bool.not_true, bne_self_eq_false, beq_self_eq_true, ints_sameN, rulesS, sn_upto, sn_from, slN_def, run_cap, rules, rules2, loopRules, Try.facts, base0, Int.toNat_zero, Nat.reduceAdd, Nat.reduceMul, Nat.reduceSub, Nat.reduceLT, Nat.reduceLeDiff, Nat.reduceEqDiff, Int.reduceLE, Int.reduceLT, Int.reduceToNat, Int.reduceNe, Int.reduceEq, not_false_eq_true, Nat.reduceBEq, Nat.reduceDiv, Int.natCast_zero, Int.natCast_one, Int.reduceAdd, Int.reduceSub, reduceIte, ↓reduceIte, Value.oneCell', rowI_length, rowI_take, rowI_splice, rep_all, row_zero, le_nat, Int.toNat_natCast, Nat.zero_add, sok_row, reduceCtorEq]
end Go.Proofs.Ytikibkboebbdjaa
