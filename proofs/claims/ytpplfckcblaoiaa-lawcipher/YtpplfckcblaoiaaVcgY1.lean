/-
  Functions of the cipher, of the program and of the document.
-/
import Derived.Test.YtpplfckcblaoiaaVcgX9
set_option linter.unusedVariables false
set_option linter.unusedSimpArgs false
namespace Go.Proofs.Ytpplfckcblaoiaa
open Go.Vcg
/-! ### Lists of bytes -/
/-- n bytes that a slice shows. -/
def Shows (cs : List SV) (o n : Nat) (f : Nat → Int) : Prop := ∀ i, i < n → cs[o + i]? = some (Sum.inl (.int .u8 (f i)))
/-- A slice of bytes in a state: nil, or of a box of plain cells. -/
def BytesAt (box : Nat → Option Box) (v : AV) (n : Nat) (f : Nat → Int) : Prop :=
  ((∃ a, v = V (.slice a 0 0)) ∧ n = 0) ∨ ∃ t o c rw cs, v = Sl t o n c ∧ box t = some ⟨rw, cs⟩ ∧ cs.all SV.plain = true ∧ Shows cs o n f
theorem nat_lt_eq {a b : Nat} (h : a < b) : ((a : Int) < (b : Int)) = True := eq_true (by omega)
set_option maxHeartbeats 4000000 in
set_option maxRecDepth 20000 in
theorem same_ss {n : Nat} {f : Nat → Int} {o o' c c' : Nat} {cs ds : List SV} (hc : Shows cs o n f) (hd : Shows ds o' n f) (hp : cs.all SV.plain = true) (hq : ds.all SV.plain = true) (hn : n < 4611686018427387904) :
    MFun Try.prog 13 [Sl 0 o n c, Sl 1 o' n c'] 2 (lk [(0, ⟨false, cs⟩), (1, ⟨false, ds⟩)]) (fun v out => v = B true ∧ out = fun _ => none) := by
  refine mfun_of_vc Try.func13 rfl (by kernel_rfl) (by simp [Try.ntmps13]) Try.callable13 (by simp [AV.ok, CV.ok, SV.names]) all2 (inn2 hp hq) ?_
  have ok1 : ∀ {M : Nat → Prop}, (∀ x ∈ cs, SV.ok M x) = True := eq_true (ok_all hp)
  have ok2 : ∀ {M : Nat → Prop}, (∀ x ∈ ds, SV.ok M x) = True := eq_true (ok_all hq)
  simp only [Try.results13, bne_self_eq_false, sn_upto, sn_from, slN_def, run_cap, rules, rules2, loopRules, Try.facts, base0, Int.toNat_zero, Nat.reduceAdd, Nat.reduceMul, Nat.reduceSub, Nat.reduceLT, Nat.reduceLeDiff, Nat.reduceEqDiff, Int.reduceLE, Int.reduceLT, Int.reduceToNat, Int.reduceNe, Int.reduceEq, not_false_eq_true, Nat.reduceBEq, Nat.reduceDiv, Int.natCast_zero, Int.natCast_one, Int.reduceAdd, Int.reduceSub, reduceIte, ↓reduceIte, Value.oneCell', rowI_length, rowI_take, rowI_splice, rep_all, row_zero, le_nat, Int.toNat_natCast, Nat.zero_add, sok_row, reduceCtorEq]
  refine loop_count n (fun k => [(0, Sl 0 o n c), (1, Sl 1 o' n c'), (12, I .i64 n), (13, I .i64 k)])
    (fun k => [(0, ⟨false, cs⟩), (1, ⟨false, ds⟩)]) _ ?_ ?_ ?_
  · simp only [ok1, ok2, sn_upto, sn_from, slN_def, run_cap, rules, rules2, loopRules, Try.facts, base0, Int.toNat_zero, Nat.reduceAdd, Nat.reduceMul, Nat.reduceSub, Nat.reduceLT, Nat.reduceLeDiff, Nat.reduceEqDiff, Int.reduceLE, Int.reduceLT, Int.reduceToNat, Int.reduceNe, Int.reduceEq, not_false_eq_true, Nat.reduceBEq, Nat.reduceDiv, Int.natCast_zero, Int.natCast_one, Int.reduceAdd, Int.reduceSub, reduceIte, ↓reduceIte, Value.oneCell', rowI_length, rowI_take, rowI_splice, rep_all, row_zero, le_nat, Int.toNat_natCast, Nat.zero_add, sok_row, reduceCtorEq]
  · intro j hj
    simp only [sn_upto, sn_from, slN_def, run_cap, rules, rules2, loopRules, Try.facts, base0, Int.toNat_zero, Nat.reduceAdd, Nat.reduceMul, Nat.reduceSub, Nat.reduceLT, Nat.reduceLeDiff, Nat.reduceEqDiff, Int.reduceLE, Int.reduceLT, Int.reduceToNat, Int.reduceNe, Int.reduceEq, not_false_eq_true, Nat.reduceBEq, Nat.reduceDiv, Int.natCast_zero, Int.natCast_one, Int.reduceAdd, Int.reduceSub, reduceIte, ↓reduceIte, Value.oneCell', rowI_length, rowI_take, rowI_splice, rep_all, row_zero, le_nat, Int.toNat_natCast, Nat.zero_add, sok_row, reduceCtorEq]
    refine vcIf_yes (by simp; omega) ?_
    simp only [nat_nn, nat_lt_eq hj, hc j hj, hd j hj, bne_self_eq_false, wrapS j (by omega), sn_upto, sn_from, slN_def, run_cap, rules, rules2, loopRules, Try.facts, base0, Int.toNat_zero, Nat.reduceAdd, Nat.reduceMul, Nat.reduceSub, Nat.reduceLT, Nat.reduceLeDiff, Nat.reduceEqDiff, Int.reduceLE, Int.reduceLT, Int.reduceToNat, Int.reduceNe, Int.reduceEq, not_false_eq_true, Nat.reduceBEq, Nat.reduceDiv, Int.natCast_zero, Int.natCast_one, Int.reduceAdd, Int.reduceSub, reduceIte, ↓reduceIte, Value.oneCell', rowI_length, rowI_take, rowI_splice, rep_all, row_zero, le_nat, Int.toNat_natCast, Nat.zero_add, sok_row, reduceCtorEq]
    exact ⟨by kernel_rfl, ok_all hp, ok_all hq⟩
  · simp only [sn_upto, sn_from, slN_def, run_cap, rules, rules2, loopRules, Try.facts, base0, Int.toNat_zero, Nat.reduceAdd, Nat.reduceMul, Nat.reduceSub, Nat.reduceLT, Nat.reduceLeDiff, Nat.reduceEqDiff, Int.reduceLE, Int.reduceLT, Int.reduceToNat, Int.reduceNe, Int.reduceEq, not_false_eq_true, Nat.reduceBEq, Nat.reduceDiv, Int.natCast_zero, Int.natCast_one, Int.reduceAdd, Int.reduceSub, reduceIte, ↓reduceIte, Value.oneCell', rowI_length, rowI_take, rowI_splice, rep_all, row_zero, le_nat, Int.toNat_natCast, Nat.zero_add, sok_row, reduceCtorEq]
    refine vcIf_no (by simp) ?_
    simp only [sn_upto, sn_from, slN_def, run_cap, rules, rules2, loopRules, Try.facts, base0, Int.toNat_zero, Nat.reduceAdd, Nat.reduceMul, Nat.reduceSub, Nat.reduceLT, Nat.reduceLeDiff, Nat.reduceEqDiff, Int.reduceLE, Int.reduceLT, Int.reduceToNat, Int.reduceNe, Int.reduceEq, not_false_eq_true, Nat.reduceBEq, Nat.reduceDiv, Int.natCast_zero, Int.natCast_one, Int.reduceAdd, Int.reduceSub, reduceIte, ↓reduceIte, Value.oneCell', rowI_length, rowI_take, rowI_splice, rep_all, row_zero, le_nat, Int.toNat_natCast, Nat.zero_add, sok_row, reduceCtorEq]
    exact ret_plain rfl ⟨rfl, rfl⟩
set_option maxHeartbeats 4000000 in
set_option maxRecDepth 20000 in
theorem same_ns {a : Option Addr} {o c : Nat} {cs : List SV} (hp : cs.all SV.plain = true) :
    MFun Try.prog 13 [V (.slice a 0 0), Sl 0 o 0 c] 1 (lk [(0, ⟨false, cs⟩)]) (fun v out => v = B true ∧ out = fun _ => none) := by
  refine mfun_of_vc Try.func13 rfl (by kernel_rfl) (by simp [Try.ntmps13]) Try.callable13 (by simp [AV.ok, CV.ok, SV.names]) all1 (inn1 hp) ?_
  simp only [Try.results13, bne_self_eq_false, sn_upto, sn_from, slN_def, run_cap, rules, rules2, loopRules, Try.facts, base0, Int.toNat_zero, Nat.reduceAdd, Nat.reduceMul, Nat.reduceSub, Nat.reduceLT, Nat.reduceLeDiff, Nat.reduceEqDiff, Int.reduceLE, Int.reduceLT, Int.reduceToNat, Int.reduceNe, Int.reduceEq, not_false_eq_true, Nat.reduceBEq, Nat.reduceDiv, Int.natCast_zero, Int.natCast_one, Int.reduceAdd, Int.reduceSub, reduceIte, ↓reduceIte, Value.oneCell', rowI_length, rowI_take, rowI_splice, rep_all, row_zero, le_nat, Int.toNat_natCast, Nat.zero_add, sok_row, reduceCtorEq]
  refine loop_count 0 (fun k => [(12, I .i64 0), (13, I .i64 k)]) (fun k => []) _ ?_ ?_ ?_
  · simp only [sn_upto, sn_from, slN_def, run_cap, rules, rules2, loopRules, Try.facts, base0, Int.toNat_zero, Nat.reduceAdd, Nat.reduceMul, Nat.reduceSub, Nat.reduceLT, Nat.reduceLeDiff, Nat.reduceEqDiff, Int.reduceLE, Int.reduceLT, Int.reduceToNat, Int.reduceNe, Int.reduceEq, not_false_eq_true, Nat.reduceBEq, Nat.reduceDiv, Int.natCast_zero, Int.natCast_one, Int.reduceAdd, Int.reduceSub, reduceIte, ↓reduceIte, Value.oneCell', rowI_length, rowI_take, rowI_splice, rep_all, row_zero, le_nat, Int.toNat_natCast, Nat.zero_add, sok_row, reduceCtorEq]
  · intro j hj; omega
  · simp only [sn_upto, sn_from, slN_def, run_cap, rules, rules2, loopRules, Try.facts, base0, Int.toNat_zero, Nat.reduceAdd, Nat.reduceMul, Nat.reduceSub, Nat.reduceLT, Nat.reduceLeDiff, Nat.reduceEqDiff, Int.reduceLE, Int.reduceLT, Int.reduceToNat, Int.reduceNe, Int.reduceEq, not_false_eq_true, Nat.reduceBEq, Nat.reduceDiv, Int.natCast_zero, Int.natCast_one, Int.reduceAdd, Int.reduceSub, reduceIte, ↓reduceIte, Value.oneCell', rowI_length, rowI_take, rowI_splice, rep_all, row_zero, le_nat, Int.toNat_natCast, Nat.zero_add, sok_row, reduceCtorEq]
    refine vcIf_no (by simp) ?_
    simp only [sn_upto, sn_from, slN_def, run_cap, rules, rules2, loopRules, Try.facts, base0, Int.toNat_zero, Nat.reduceAdd, Nat.reduceMul, Nat.reduceSub, Nat.reduceLT, Nat.reduceLeDiff, Nat.reduceEqDiff, Int.reduceLE, Int.reduceLT, Int.reduceToNat, Int.reduceNe, Int.reduceEq, not_false_eq_true, Nat.reduceBEq, Nat.reduceDiv, Int.natCast_zero, Int.natCast_one, Int.reduceAdd, Int.reduceSub, reduceIte, ↓reduceIte, Value.oneCell', rowI_length, rowI_take, rowI_splice, rep_all, row_zero, le_nat, Int.toNat_natCast, Nat.zero_add, sok_row, reduceCtorEq]
    exact ret_plain rfl ⟨rfl, rfl⟩
set_option maxHeartbeats 4000000 in
set_option maxRecDepth 20000 in
theorem same_sn {a : Option Addr} {o c : Nat} {cs : List SV} (hp : cs.all SV.plain = true) :
    MFun Try.prog 13 [Sl 0 o 0 c, V (.slice a 0 0)] 1 (lk [(0, ⟨false, cs⟩)]) (fun v out => v = B true ∧ out = fun _ => none) := by
  refine mfun_of_vc Try.func13 rfl (by kernel_rfl) (by simp [Try.ntmps13]) Try.callable13 (by simp [AV.ok, CV.ok, SV.names]) all1 (inn1 hp) ?_
  simp only [Try.results13, bne_self_eq_false, sn_upto, sn_from, slN_def, run_cap, rules, rules2, loopRules, Try.facts, base0, Int.toNat_zero, Nat.reduceAdd, Nat.reduceMul, Nat.reduceSub, Nat.reduceLT, Nat.reduceLeDiff, Nat.reduceEqDiff, Int.reduceLE, Int.reduceLT, Int.reduceToNat, Int.reduceNe, Int.reduceEq, not_false_eq_true, Nat.reduceBEq, Nat.reduceDiv, Int.natCast_zero, Int.natCast_one, Int.reduceAdd, Int.reduceSub, reduceIte, ↓reduceIte, Value.oneCell', rowI_length, rowI_take, rowI_splice, rep_all, row_zero, le_nat, Int.toNat_natCast, Nat.zero_add, sok_row, reduceCtorEq]
  refine loop_count 0 (fun k => [(12, I .i64 0), (13, I .i64 k)]) (fun k => []) _ ?_ ?_ ?_
  · simp only [sn_upto, sn_from, slN_def, run_cap, rules, rules2, loopRules, Try.facts, base0, Int.toNat_zero, Nat.reduceAdd, Nat.reduceMul, Nat.reduceSub, Nat.reduceLT, Nat.reduceLeDiff, Nat.reduceEqDiff, Int.reduceLE, Int.reduceLT, Int.reduceToNat, Int.reduceNe, Int.reduceEq, not_false_eq_true, Nat.reduceBEq, Nat.reduceDiv, Int.natCast_zero, Int.natCast_one, Int.reduceAdd, Int.reduceSub, reduceIte, ↓reduceIte, Value.oneCell', rowI_length, rowI_take, rowI_splice, rep_all, row_zero, le_nat, Int.toNat_natCast, Nat.zero_add, sok_row, reduceCtorEq]
  · intro j hj; omega
  · simp only [sn_upto, sn_from, slN_def, run_cap, rules, rules2, loopRules, Try.facts, base0, Int.toNat_zero, Nat.reduceAdd, Nat.reduceMul, Nat.reduceSub, Nat.reduceLT, Nat.reduceLeDiff, Nat.reduceEqDiff, Int.reduceLE, Int.reduceLT, Int.reduceToNat, Int.reduceNe, Int.reduceEq, not_false_eq_true, Nat.reduceBEq, Nat.reduceDiv, Int.natCast_zero, Int.natCast_one, Int.reduceAdd, Int.reduceSub, reduceIte, ↓reduceIte, Value.oneCell', rowI_length, rowI_take, rowI_splice, rep_all, row_zero, le_nat, Int.toNat_natCast, Nat.zero_add, sok_row, reduceCtorEq]
    refine vcIf_no (by simp) ?_
    simp only [sn_upto, sn_from, slN_def, run_cap, rules, rules2, loopRules, Try.facts, base0, Int.toNat_zero, Nat.reduceAdd, Nat.reduceMul, Nat.reduceSub, Nat.reduceLT, Nat.reduceLeDiff, Nat.reduceEqDiff, Int.reduceLE, Int.reduceLT, Int.reduceToNat, Int.reduceNe, Int.reduceEq, not_false_eq_true, Nat.reduceBEq, Nat.reduceDiv, Int.natCast_zero, Int.natCast_one, Int.reduceAdd, Int.reduceSub, reduceIte, ↓reduceIte, Value.oneCell', rowI_length, rowI_take, rowI_splice, rep_all, row_zero, le_nat, Int.toNat_natCast, Nat.zero_add, sok_row, reduceCtorEq]
    exact ret_plain rfl ⟨rfl, rfl⟩
set_option maxHeartbeats 4000000 in
set_option maxRecDepth 20000 in
theorem same_nn {a a' : Option Addr} : MFun Try.prog 13 [V (.slice a 0 0), V (.slice a' 0 0)] 0 (fun _ => none) (fun v out => v = B true ∧ out = fun _ => none) := by
  refine mfun_of_vc Try.func13 rfl (by kernel_rfl) (by simp [Try.ntmps13]) Try.callable13 (by simp [AV.ok, CV.ok, SV.names]) all0 inn0 ?_
  simp only [Try.results13, bne_self_eq_false, sn_upto, sn_from, slN_def, run_cap, rules, rules2, loopRules, Try.facts, base0, Int.toNat_zero, Nat.reduceAdd, Nat.reduceMul, Nat.reduceSub, Nat.reduceLT, Nat.reduceLeDiff, Nat.reduceEqDiff, Int.reduceLE, Int.reduceLT, Int.reduceToNat, Int.reduceNe, Int.reduceEq, not_false_eq_true, Nat.reduceBEq, Nat.reduceDiv, Int.natCast_zero, Int.natCast_one, Int.reduceAdd, Int.reduceSub, reduceIte, ↓reduceIte, Value.oneCell', rowI_length, rowI_take, rowI_splice, rep_all, row_zero, le_nat, Int.toNat_natCast, Nat.zero_add, sok_row, reduceCtorEq]
  refine loop_count 0 (fun k => [(12, I .i64 0), (13, I .i64 k)]) (fun k => []) _ ?_ ?_ ?_
  · simp only [sn_upto, sn_from, slN_def, run_cap, rules, rules2, loopRules, Try.facts, base0, Int.toNat_zero, Nat.reduceAdd, Nat.reduceMul, Nat.reduceSub, Nat.reduceLT, Nat.reduceLeDiff, Nat.reduceEqDiff, Int.reduceLE, Int.reduceLT, Int.reduceToNat, Int.reduceNe, Int.reduceEq, not_false_eq_true, Nat.reduceBEq, Nat.reduceDiv, Int.natCast_zero, Int.natCast_one, Int.reduceAdd, Int.reduceSub, reduceIte, ↓reduceIte, Value.oneCell', rowI_length, rowI_take, rowI_splice, rep_all, row_zero, le_nat, Int.toNat_natCast, Nat.zero_add, sok_row, reduceCtorEq]
  · intro j hj; omega
  · simp only [sn_upto, sn_from, slN_def, run_cap, rules, rules2, loopRules, Try.facts, base0, Int.toNat_zero, Nat.reduceAdd, Nat.reduceMul, Nat.reduceSub, Nat.reduceLT, Nat.reduceLeDiff, Nat.reduceEqDiff, Int.reduceLE, Int.reduceLT, Int.reduceToNat, Int.reduceNe, Int.reduceEq, not_false_eq_true, Nat.reduceBEq, Nat.reduceDiv, Int.natCast_zero, Int.natCast_one, Int.reduceAdd, Int.reduceSub, reduceIte, ↓reduceIte, Value.oneCell', rowI_length, rowI_take, rowI_splice, rep_all, row_zero, le_nat, Int.toNat_natCast, Nat.zero_add, sok_row, reduceCtorEq]
    refine vcIf_no (by simp) ?_
    simp only [sn_upto, sn_from, slN_def, run_cap, rules, rules2, loopRules, Try.facts, base0, Int.toNat_zero, Nat.reduceAdd, Nat.reduceMul, Nat.reduceSub, Nat.reduceLT, Nat.reduceLeDiff, Nat.reduceEqDiff, Int.reduceLE, Int.reduceLT, Int.reduceToNat, Int.reduceNe, Int.reduceEq, not_false_eq_true, Nat.reduceBEq, Nat.reduceDiv, Int.natCast_zero, Int.natCast_one, Int.reduceAdd, Int.reduceSub, reduceIte, ↓reduceIte, Value.oneCell', rowI_length, rowI_take, rowI_splice, rep_all, row_zero, le_nat, Int.toNat_natCast, Nat.zero_add, sok_row, reduceCtorEq]
    exact ret_plain rfl ⟨rfl, rfl⟩
theorem two0 (t u : Nat) : two t u 0 = t := rfl
theorem two1 (t u : Nat) : two t u 1 = u := rfl
/-- Two slices of the same bytes. -/
theorem same_call {s : AS} {nm : Nat} {v u : AV} {n : Nat} {f : Nat → Int} (hn : n < 4611686018427387904) (h1 : BytesAt s.box v n f) (h2 : BytesAt s.box u n f) {dst : Option Nat} {K : AS → Prop} (hk : K (s.put dst (some (B true)))) :
    vcCall Try.prog nm 13 (some [v, u]) dst K s := by
  rcases h1 with ⟨⟨a, rfl⟩, rfl⟩ | ⟨t, o, c, rw1, cs, rfl, hb, hp, hc⟩ <;> rcases h2 with ⟨⟨a', rfl⟩, h0⟩ | ⟨t', o', c', rw2, ds, rfl, hb', hq, hd⟩
  · exact same_nn.vcRead (fun n => n) fits0 rfl rfl hk
  · exact (same_ns hq).vcRead (fun _ => t') (fits1 hb' hq) rfl rfl hk
  · subst h0
    exact (same_sn hp).vcRead (fun _ => t) (fits1 hb hp) rfl rfl hk
  · exact (same_ss hc hd hp hq hn).vcRead (two t t') (fits2 hb hp hb' hq) rfl rfl hk
theorem same_draw {s : AS} {nm : Nat} {v u : AV} {n : Nat} {f : Nat → Int} (hn : n < 4611686018427387904) (h1 : BytesAt s.box v n f) (h2 : BytesAt s.box u n f) {ops : Array Oper} {i : Nat} {dst : Option Nat} {K : AS → Prop} (hk : K (s.put dst (some (B true)))) :
    vcFun Try.prog ops i nm 13 (some [v, u]) dst K s := by
  rcases h1 with ⟨⟨a, rfl⟩, rfl⟩ | ⟨t, o, c, rw1, cs, rfl, hb, hp, hc⟩ <;> rcases h2 with ⟨⟨a', rfl⟩, h0⟩ | ⟨t', o', c', rw2, ds, rfl, hb', hq, hd⟩
  · exact same_nn.drawRead (fun n => n) fits0 rfl rfl (fun M h n hn => by omega) hk
  · exact (same_ns hq).drawRead (fun _ => t') (fits1 hb' hq) rfl rfl (fun M h n _ => h (Sl t' o' 0 c') (List.Mem.tail _ (List.Mem.head _))) hk
  · subst h0
    exact (same_sn hp).drawRead (fun _ => t) (fits1 hb hp) rfl rfl (fun M h n _ => h (Sl t o 0 c) (List.Mem.head _)) hk
  · exact (same_ss hc hd hp hq hn).drawRead (two t t') (fits2 hb hp hb' hq) rfl rfl (fun M h n' hn' => by
      rcases Nat.lt_or_ge n' 1 with h0 | h0
      · rw [show n' = 0 by omega]; exact h (Sl t o n c) (List.Mem.head _)
      · rw [show n' = 1 by omega]; exact h (Sl t' o' n c') (List.Mem.tail _ (List.Mem.head _))) hk
end Go.Proofs.Ytpplfckcblaoiaa
