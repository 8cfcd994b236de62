/-
  What the statement reads of bytes.
-/
import Derived.Test.YtdhkpdakialkbaaVcgF4
import Derived.Test.YtdhkpdakialkbaaVcgE2
set_option linter.unusedSimpArgs false
set_option linter.unusedVariables false
namespace Go.Proofs.Ytdhkpdakialkbaa
open Go.Vcg
def numB (f : Nat → Int) (at_ : Nat) : Nat → Int
  | 0 => 0
  | k + 1 => numB f at_ k * 256 + f (at_ + k)
theorem numB_bd {f : Nat → Int} (hf : Byt f) (a : Nat) : ∀ k, k ≤ 4 → 0 ≤ numB f a k ∧ numB f a k < 4294967296 := fun k hk => by
  have h0 := hf a; have h1 := hf (a + 1); have h2 := hf (a + 2); have h3 := hf (a + 3)
  have : k = 0 ∨ k = 1 ∨ k = 2 ∨ k = 3 ∨ k = 4 := by omega
  rcases this with rfl | rfl | rfl | rfl | rfl <;> simp only [numB, Nat.add_zero] <;> omega
theorem numB_4 {f : Nat → Int} (a : Nat) : numB f a 4 = be4 f a := by
  simp only [numB, be4, Nat.add_zero]; omega
set_option maxHeartbeats 8000000 in
set_option maxRecDepth 20000 in
theorem number_m {o n c : Nat} {f : Nat → Int} {cs : List SV} (hf : Byt f) (hs : Shows cs o n f) (hp : cs.all SV.plain = true) (a : Nat) (ha : a + 4 ≤ n) (hn : n < 140737488355328) :
    MFun Try.prog 10 [Sl 0 o n c, I .i64 a, I .i64 4] 1 (lk [(0, ⟨false, cs⟩)]) (fun v out => v = I .u64 (be4 f a) ∧ out = fun _ => none) := by
  refine mfun_of_vc Try.func10 rfl (by kernel_rfl) (by simp [Try.ntmps10]) Try.callable10 (by simp [AV.ok, CV.ok, SV.names]) all1 (inn1 hp) ?_
  have ok1 : ∀ {M : Nat → Prop}, (∀ x ∈ cs, SV.ok M x) = True := eq_true (ok_all hp)
  have w4 : IntKind.i64.wrap ((a : Int) + 4) = ((a + 4 : Nat) : Int) := wrapA a 4 (by omega)
  simp only [Try.results10, sn_upto, sn_from, slN_def, run_cap, rules, rules2, loopRules, Try.facts, base0, Int.toNat_zero, Nat.reduceAdd, Nat.reduceMul, Nat.reduceSub, Nat.reduceLT, Nat.reduceLeDiff, Nat.reduceEqDiff, Int.reduceLE, Int.reduceLT, Int.reduceToNat, Int.reduceNe, Int.reduceEq, not_false_eq_true, Nat.reduceBEq, Nat.reduceDiv, Int.natCast_zero, Int.natCast_one, Int.reduceAdd, Int.reduceSub, reduceIte, ↓reduceIte, Value.oneCell', rowI_length, rowI_take, rowI_splice, rep_all, row_zero, le_nat, Int.toNat_natCast, Nat.zero_add, sok_row, reduceCtorEq]
  refine loop_count 4 (fun k => [(0, Sl 0 o n c), (1, I .i64 a), (2, I .i64 4), (7, I .u64 (numB f a k)), (8, I .i64 ((a + k : Nat) : Int))])
    (fun k => [(0, ⟨false, cs⟩)]) _ ?_ ?_ ?_
  · simp only [ok1, numB, Nat.add_zero, sn_upto, sn_from, slN_def, run_cap, rules, rules2, loopRules, Try.facts, base0, Int.toNat_zero, Nat.reduceAdd, Nat.reduceMul, Nat.reduceSub, Nat.reduceLT, Nat.reduceLeDiff, Nat.reduceEqDiff, Int.reduceLE, Int.reduceLT, Int.reduceToNat, Int.reduceNe, Int.reduceEq, not_false_eq_true, Nat.reduceBEq, Nat.reduceDiv, Int.natCast_zero, Int.natCast_one, Int.reduceAdd, Int.reduceSub, reduceIte, ↓reduceIte, Value.oneCell', rowI_length, rowI_take, rowI_splice, rep_all, row_zero, le_nat, Int.toNat_natCast, Nat.zero_add, sok_row, reduceCtorEq]
  · intro k hk
    have hb := numB_bd hf a k (by omega)
    have hb1 := numB_bd hf a (k + 1) (by omega)
    have hx := hf (a + k)
    have l1 : (((a + k : Nat) : Int) < ((a + 4 : Nat) : Int)) = True := eq_true (by omega)
    have d0 : decide (((a + k : Nat) : Int) < 0) = false := decide_eq_false (by omega)
    have d1 : decide ((n : Int) ≤ ((a + k : Nat) : Int)) = false := decide_eq_false (by omega)
    have l2 : (((a + k : Nat) : Int) < (n : Int)) = True := eq_true (by omega)
    have e := hs (a + k) (by omega)
    have w1 : IntKind.u64.wrap (numB f a k * 256) = numB f a k * 256 := by rw [wrap_u64]; omega
    have w2 : IntKind.u64.wrap (f (a + k)) = f (a + k) := by rw [wrap_u64]; omega
    have w3 : IntKind.u64.wrap (numB f a k * 256 + f (a + k)) = numB f a (k + 1) := by rw [wrap_u64]; simp only [numB] at hb1 ⊢; omega
    have w5 : IntKind.i64.wrap (((a + k : Nat) : Int) + 1) = ((a + (k + 1) : Nat) : Int) := wrapS _ (by omega)
    simp only [w4, sn_upto, sn_from, slN_def, run_cap, rules, rules2, loopRules, Try.facts, base0, Int.toNat_zero, Nat.reduceAdd, Nat.reduceMul, Nat.reduceSub, Nat.reduceLT, Nat.reduceLeDiff, Nat.reduceEqDiff, Int.reduceLE, Int.reduceLT, Int.reduceToNat, Int.reduceNe, Int.reduceEq, not_false_eq_true, Nat.reduceBEq, Nat.reduceDiv, Int.natCast_zero, Int.natCast_one, Int.reduceAdd, Int.reduceSub, reduceIte, ↓reduceIte, Value.oneCell', rowI_length, rowI_take, rowI_splice, rep_all, row_zero, le_nat, Int.toNat_natCast, Nat.zero_add, sok_row, reduceCtorEq]
    refine vcIf_yes (by simp; omega) ?_
    simp only [d0, d1, sn_upto, sn_from, slN_def, run_cap, rules, rules2, loopRules, Try.facts, base0, Int.toNat_zero, Nat.reduceAdd, Nat.reduceMul, Nat.reduceSub, Nat.reduceLT, Nat.reduceLeDiff, Nat.reduceEqDiff, Int.reduceLE, Int.reduceLT, Int.reduceToNat, Int.reduceNe, Int.reduceEq, not_false_eq_true, Nat.reduceBEq, Nat.reduceDiv, Int.natCast_zero, Int.natCast_one, Int.reduceAdd, Int.reduceSub, reduceIte, ↓reduceIte, Value.oneCell', rowI_length, rowI_take, rowI_splice, rep_all, row_zero, le_nat, Int.toNat_natCast, Nat.zero_add, sok_row, reduceCtorEq]
    simp only [nat_nn, l2, e, w1, w2, w3, w5, sn_upto, sn_from, slN_def, run_cap, rules, rules2, loopRules, Try.facts, base0, Int.toNat_zero, Nat.reduceAdd, Nat.reduceMul, Nat.reduceSub, Nat.reduceLT, Nat.reduceLeDiff, Nat.reduceEqDiff, Int.reduceLE, Int.reduceLT, Int.reduceToNat, Int.reduceNe, Int.reduceEq, not_false_eq_true, Nat.reduceBEq, Nat.reduceDiv, Int.natCast_zero, Int.natCast_one, Int.reduceAdd, Int.reduceSub, reduceIte, ↓reduceIte, Value.oneCell', rowI_length, rowI_take, rowI_splice, rep_all, row_zero, le_nat, Int.toNat_natCast, Nat.zero_add, sok_row, reduceCtorEq]
    exact ok_all hp
  · simp only [w4, sn_upto, sn_from, slN_def, run_cap, rules, rules2, loopRules, Try.facts, base0, Int.toNat_zero, Nat.reduceAdd, Nat.reduceMul, Nat.reduceSub, Nat.reduceLT, Nat.reduceLeDiff, Nat.reduceEqDiff, Int.reduceLE, Int.reduceLT, Int.reduceToNat, Int.reduceNe, Int.reduceEq, not_false_eq_true, Nat.reduceBEq, Nat.reduceDiv, Int.natCast_zero, Int.natCast_one, Int.reduceAdd, Int.reduceSub, reduceIte, ↓reduceIte, Value.oneCell', rowI_length, rowI_take, rowI_splice, rep_all, row_zero, le_nat, Int.toNat_natCast, Nat.zero_add, sok_row, reduceCtorEq]
    refine vcIf_no (by simp) ?_
    simp only [numB_4, sn_upto, sn_from, slN_def, run_cap, rules, rules2, loopRules, Try.facts, base0, Int.toNat_zero, Nat.reduceAdd, Nat.reduceMul, Nat.reduceSub, Nat.reduceLT, Nat.reduceLeDiff, Nat.reduceEqDiff, Int.reduceLE, Int.reduceLT, Int.reduceToNat, Int.reduceNe, Int.reduceEq, not_false_eq_true, Nat.reduceBEq, Nat.reduceDiv, Int.natCast_zero, Int.natCast_one, Int.reduceAdd, Int.reduceSub, reduceIte, ↓reduceIte, Value.oneCell', rowI_length, rowI_take, rowI_splice, rep_all, row_zero, le_nat, Int.toNat_natCast, Nat.zero_add, sok_row, reduceCtorEq]
    exact ret_plain rfl ⟨rfl, rfl⟩
set_option maxHeartbeats 8000000 in
set_option maxRecDepth 20000 in
theorem keyIn_m {o n c : Nat} {f : Nat → Int} {cs : List SV} (hs : Shows cs o n f) (hp : cs.all SV.plain = true) (a : Nat) (ha : a + 32 ≤ n) (hc : n ≤ c) (hn : n < 140737488355328) :
    MFun Try.prog 18 [Sl 0 o n c, I .i64 a] 1 (lk [(0, ⟨false, cs⟩)]) (fun v out => v = Ag (rowI .u8 32 (fun i => f (a + i))) ∧ out = fun _ => none) := by
  refine mfun_of_vc Try.func18 rfl (by kernel_rfl) (by simp [Try.ntmps18]) Try.callable18 (by simp [AV.ok, CV.ok, SV.names]) all1 (inn1 hp) ?_
  have w1 : IntKind.i64.wrap ((a : Int) + 32) = ((a + 32 : Nat) : Int) := wrapA a 32 (by omega)
  have ec : c ≠ a := by omega
  have es : a + 32 - a = 32 := by omega
  have sc : Shows cs (o + a) 32 (fun i => f (a + i)) := shows_sub hs a 32 ha
  have d0 : decide (0 ≤ (a : Int)) = true := decide_eq_true (by omega)
  have d1 : decide (((a + 32 : Nat) : Int) ≤ (n : Int)) = true := decide_eq_true (by omega)
  have l1 : ((a : Int) ≤ ((a + 32 : Nat) : Int)) = True := eq_true (by omega)
  have l2 : (((a + 32 : Nat) : Int) ≤ (c : Int)) = True := eq_true (by omega)
  simp only [Try.results18, w1, d0, d1, decide_true, sn_upto, sn_from, slN_def, run_cap, rules, rules2, loopRules, Try.facts, base0, Int.toNat_zero, Nat.reduceAdd, Nat.reduceMul, Nat.reduceSub, Nat.reduceLT, Nat.reduceLeDiff, Nat.reduceEqDiff, Int.reduceLE, Int.reduceLT, Int.reduceToNat, Int.reduceNe, Int.reduceEq, not_false_eq_true, Nat.reduceBEq, Nat.reduceDiv, Int.natCast_zero, Int.natCast_one, Int.reduceAdd, Int.reduceSub, reduceIte, ↓reduceIte, Value.oneCell', rowI_length, rowI_take, rowI_splice, rep_all, row_zero, le_nat, Int.toNat_natCast, Nat.zero_add, sok_row, reduceCtorEq]
  refine ⟨by kernel_rfl, ⟨by omega, by omega⟩, by kernel_rfl, ?_⟩
  rw [if_neg ec, es]
  refine vc_copy Try.mkK27 Try.slK27 (cs := rowI .u8 32 (fun _ => 0)) (bx := ⟨false, cs⟩) (news := rowI .u8 32 (fun i => f (a + i))) (by simp only [upd_apply, sn_upto, sn_from, slN_def, run_cap, rules, rules2, loopRules, Try.facts, base0, Int.toNat_zero, Nat.reduceAdd, Nat.reduceMul, Nat.reduceSub, Nat.reduceLT, Nat.reduceLeDiff, Nat.reduceEqDiff, Int.reduceLE, Int.reduceLT, Int.reduceToNat, Int.reduceNe, Int.reduceEq, not_false_eq_true, Nat.reduceBEq, Nat.reduceDiv, Int.natCast_zero, Int.natCast_one, Int.reduceAdd, Int.reduceSub, reduceIte, ↓reduceIte, Value.oneCell', rowI_length, rowI_take, rowI_splice, rep_all, row_zero, le_nat, Int.toNat_natCast, Nat.zero_add, sok_row, reduceCtorEq]) (by simp only [upd_apply, sn_upto, sn_from, slN_def, run_cap, rules, rules2, loopRules, Try.facts, base0, Int.toNat_zero, Nat.reduceAdd, Nat.reduceMul, Nat.reduceSub, Nat.reduceLT, Nat.reduceLeDiff, Nat.reduceEqDiff, Int.reduceLE, Int.reduceLT, Int.reduceToNat, Int.reduceNe, Int.reduceEq, not_false_eq_true, Nat.reduceBEq, Nat.reduceDiv, Int.natCast_zero, Int.natCast_one, Int.reduceAdd, Int.reduceSub, reduceIte, ↓reduceIte, Value.oneCell', rowI_length, rowI_take, rowI_splice, rep_all, row_zero, le_nat, Int.toNat_natCast, Nat.zero_add, sok_row, reduceCtorEq]) (by rw [rowI_length]; rfl) (shows_src sc) (by rw [rowI_length]; decide) ?_
  simp only [sn_upto, sn_from, slN_def, run_cap, rules, rules2, loopRules, Try.facts, base0, Int.toNat_zero, Nat.reduceAdd, Nat.reduceMul, Nat.reduceSub, Nat.reduceLT, Nat.reduceLeDiff, Nat.reduceEqDiff, Int.reduceLE, Int.reduceLT, Int.reduceToNat, Int.reduceNe, Int.reduceEq, not_false_eq_true, Nat.reduceBEq, Nat.reduceDiv, Int.natCast_zero, Int.natCast_one, Int.reduceAdd, Int.reduceSub, reduceIte, ↓reduceIte, Value.oneCell', rowI_length, rowI_take, rowI_splice, rep_all, row_zero, le_nat, Int.toNat_natCast, Nat.zero_add, sok_row, reduceCtorEq]
  exact ret_plain (by simpa [AV.plain, CV.plain] using plainI) ⟨rfl, rfl⟩
/-! ### Two frames held against each other -/
theorem ints_row (k : IntKind) (n : Nat) (f : Nat → Int) : intsOf k (rowI k n f) = some ((List.range n).map f) := by
  unfold rowI
  induction List.range n with
  | nil => rfl
  | cons a r ih => simp only [List.map_cons, intsOf, if_true, ih]
theorem fds_frame (pub : Nat → Int) (pn n : Int) : eqFC 32 (intsOf IntKind.u8 (List.take 32 (hdL pub pn n))) (intsOf IntKind.u8 (List.take 32 (hdL pub pn n)))
    (eqFC 1 (intsOf IntKind.u32 (List.take 1 (List.drop 32 (hdL pub pn n)))) (intsOf IntKind.u32 (List.take 1 (List.drop 32 (hdL pub pn n))))
      (eqFC 1 (intsOf IntKind.u32 (List.take 1 (List.drop 33 (hdL pub pn n)))) (intsOf IntKind.u32 (List.take 1 (List.drop 33 (hdL pub pn n)))) (some true))) = some true := by
  have e0 : List.take 32 (hdL pub pn n) = rowI .u8 32 pub := by simp [hdL, List.take_append, rowI_takeGe, rowI_length]
  have e1 : List.take 1 (List.drop 32 (hdL pub pn n)) = [Sum.inl (.int .u32 pn)] := by simp [hdL, List.drop_append, rowI_dropGe, rowI_length]
  have e2 : List.take 1 (List.drop 33 (hdL pub pn n)) = [Sum.inl (.int .u32 n)] := by simp [hdL, List.drop_append, rowI_dropGe, rowI_length]
  rw [e0, e1, e2, ints_row]
  simp [intsOf, eqFC]
theorem ints_same (x : Nat → Int) : eqL .eql 32 (intsOf .u8 (rowI .u8 32 x)) (intsOf .u8 (rowI .u8 32 x)) = some (some (B true), none) := by
  rw [ints_row, eqL_eql, if_pos ⟨by simp, by simp⟩]; simp
theorem ints_sameN (x : Nat → Int) : eqL .neq 32 (intsOf .u8 (rowI .u8 32 x)) (intsOf .u8 (rowI .u8 32 x)) = some (some (B false), none) := by
  rw [ints_row, eqL_neq, if_pos ⟨by simp, by simp⟩]; simp
set_option maxHeartbeats 8000000 in
set_option maxRecDepth 20000 in
theorem sameFrame_m {pub tag body : Nat → Int} {pn n : Int} {m : Nat} {sv sw : SV} {cs ds : List SV} (hp : cs.all SV.plain = true) (hq : ds.all SV.plain = true) (h0 : ArgIs 0 (.inl (.inl sv)) m body cs) (h1 : ArgIs 1 (.inl (.inl sw)) m body ds) (hm : m < 4611686018427387904) :
    MFun Try.prog 9 [Ag (frL pub pn n sv tag), Ag (frL pub pn n sw tag)] 2 (lk [(0, ⟨false, cs⟩), (1, ⟨false, ds⟩)]) (fun v out => v = B true ∧ out = fun _ => none) := by
  refine mfun_of_vc Try.func9 rfl (by kernel_rfl) (by simp [Try.ntmps9]) Try.callable9 (fun u hu => by
    simp only [List.mem_cons, List.not_mem_nil, or_false] at hu
    rcases hu with rfl | rfl
    · exact frL_ok (svIs_ok h0 (by decide))
    · exact frL_ok (svIs_ok h1 (by decide))) all2 (inn2 hp hq) ?_
  simp only [Try.results9, frL_len, frL_head, frL_all, frL_tag, frL_34, fds_frame, ints_same, sn_upto, sn_from, slN_def, run_cap, rules, rules2, loopRules, Try.facts, base0, Int.toNat_zero, Nat.reduceAdd, Nat.reduceMul, Nat.reduceSub, Nat.reduceLT, Nat.reduceLeDiff, Nat.reduceEqDiff, Int.reduceLE, Int.reduceLT, Int.reduceToNat, Int.reduceNe, Int.reduceEq, not_false_eq_true, Nat.reduceBEq, Nat.reduceDiv, Int.natCast_zero, Int.natCast_one, Int.reduceAdd, Int.reduceSub, reduceIte, ↓reduceIte, Value.oneCell', rowI_length, rowI_take, rowI_splice, rep_all, row_zero, le_nat, Int.toNat_natCast, Nat.zero_add, sok_row, reduceCtorEq]
  refine same_call (n := m) (f := body) hm (h0.at (rw := false) (by simp only [upd_apply, sn_upto, sn_from, slN_def, run_cap, rules, rules2, loopRules, Try.facts, base0, Int.toNat_zero, Nat.reduceAdd, Nat.reduceMul, Nat.reduceSub, Nat.reduceLT, Nat.reduceLeDiff, Nat.reduceEqDiff, Int.reduceLE, Int.reduceLT, Int.reduceToNat, Int.reduceNe, Int.reduceEq, not_false_eq_true, Nat.reduceBEq, Nat.reduceDiv, Int.natCast_zero, Int.natCast_one, Int.reduceAdd, Int.reduceSub, reduceIte, ↓reduceIte, Value.oneCell', rowI_length, rowI_take, rowI_splice, rep_all, row_zero, le_nat, Int.toNat_natCast, Nat.zero_add, sok_row, reduceCtorEq]) hp) (h1.at (rw := false) (by simp only [upd_apply, sn_upto, sn_from, slN_def, run_cap, rules, rules2, loopRules, Try.facts, base0, Int.toNat_zero, Nat.reduceAdd, Nat.reduceMul, Nat.reduceSub, Nat.reduceLT, Nat.reduceLeDiff, Nat.reduceEqDiff, Int.reduceLE, Int.reduceLT, Int.reduceToNat, Int.reduceNe, Int.reduceEq, not_false_eq_true, Nat.reduceBEq, Nat.reduceDiv, Int.natCast_zero, Int.natCast_one, Int.reduceAdd, Int.reduceSub, reduceIte, ↓reduceIte, Value.oneCell', rowI_length, rowI_take, rowI_splice, rep_all, row_zero, le_nat, Int.toNat_natCast, Nat.zero_add, sok_row, reduceCtorEq]) hq) ?_
  simp only [sn_upto, sn_from, slN_def, run_cap, rules, rules2, loopRules, Try.facts, base0, Int.toNat_zero, Nat.reduceAdd, Nat.reduceMul, Nat.reduceSub, Nat.reduceLT, Nat.reduceLeDiff, Nat.reduceEqDiff, Int.reduceLE, Int.reduceLT, Int.reduceToNat, Int.reduceNe, Int.reduceEq, not_false_eq_true, Nat.reduceBEq, Nat.reduceDiv, Int.natCast_zero, Int.natCast_one, Int.reduceAdd, Int.reduceSub, reduceIte, ↓reduceIte, Value.oneCell', rowI_length, rowI_take, rowI_splice, rep_all, row_zero, le_nat, Int.toNat_natCast, Nat.zero_add, sok_row, reduceCtorEq]
  exact ret_plain rfl ⟨rfl, rfl⟩
set_option maxHeartbeats 8000000 in
set_option maxRecDepth 20000 in
theorem laid_m {o c m : Nat} {G pub tag body : Nat → Int} {pn n : Int} {sv : SV} {cs ds : List SV} (hG : Byt G) (hs : Shows cs o (77 + m) G) (hp : cs.all SV.plain = true) (hc : 77 + m ≤ c) (hm : m ≤ 65536) (hv : ArgIs 1 (.inl (.inl sv)) m body ds) (hq : ds.all SV.plain = true)
    (e0 : G 0 = 210) (e1 : ∀ i, i < 32 → G (1 + i) = pub i) (e2 : ∀ i, i < 32 → G (45 + m + i) = tag i) (e3 : be4 G 33 = pn) (e4 : be4 G 37 = n) (e5 : be4 G 41 = m) (e6 : ∀ i, i < m → G (45 + i) = body i) :
    MFun Try.prog 8 [Sl 0 o (77 + m) c, Ag (frL pub pn n sv tag)] 2 (lk [(0, ⟨false, cs⟩), (1, ⟨false, ds⟩)]) (fun v out => v = B true ∧ out = fun _ => none) := by
  refine mfun_of_vc Try.func8 rfl (by kernel_rfl) (by simp [Try.ntmps8]) Try.callable8 (fun u hu => by
    simp only [List.mem_cons, List.not_mem_nil, or_false] at hu
    rcases hu with rfl | rfl
    · exact (by decide : 0 < 2)
    · exact frL_ok (svIs_ok hv (by decide))) all2 (inn2 hp hq) ?_
  have hat : BytesAt (lk [(0, (⟨false, cs⟩ : Box)), (1, ⟨false, ds⟩)]) (.inl (.inl sv)) m body := hv.at (t := 1) rfl hq
  have w1 : IntKind.i64.wrap (77 + (m : Int)) = ((77 + m : Nat) : Int) := by rw [wrap_i64 _ (by omega) (by omega)]; omega
  have a0 := hs 0 (by omega)
  rw [Nat.add_zero, e0] at a0
  have l0 : ((0 : Int) < ((77 + m : Nat) : Int)) = True := eq_true (by omega)
  simp only [Try.results8, frL_len, frL_34, at_len hat, w1, bne_self_eq_false, l0, a0, sn_upto, sn_from, slN_def, run_cap, rules, rules2, loopRules, Try.facts, base0, Int.toNat_zero, Nat.reduceAdd, Nat.reduceMul, Nat.reduceSub, Nat.reduceLT, Nat.reduceLeDiff, Nat.reduceEqDiff, Int.reduceLE, Int.reduceLT, Int.reduceToNat, Int.reduceNe, Int.reduceEq, not_false_eq_true, Nat.reduceBEq, Nat.reduceDiv, Int.natCast_zero, Int.natCast_one, Int.reduceAdd, Int.reduceSub, reduceIte, ↓reduceIte, Value.oneCell', rowI_length, rowI_take, rowI_splice, rep_all, row_zero, le_nat, Int.toNat_natCast, Nat.zero_add, sok_row, reduceCtorEq]
  have rowP : ∀ g : Nat → Int, AV.plain (Ag (rowI .u8 32 g)) = true := fun g => by simpa [AV.plain, CV.plain] using plainI
  have c1 : rowI .u8 32 (fun i => G (1 + i)) = rowI .u8 32 pub := rowI_congr fun i hi => e1 i hi
  have c2 : rowI .u8 32 (fun i => G (45 + m + i)) = rowI .u8 32 tag := rowI_congr fun i hi => e2 i hi
  have w2 : IntKind.i64.wrap (45 + (m : Int)) = ((45 + m : Nat) : Int) := by rw [wrap_i64 _ (by omega) (by omega)]; omega
  refine ⟨by kernel_rfl, ?_⟩
  refine (keyIn_m hs hp 1 (by omega) hc (by omega)).drawRead (fun _ => 0) (fits1 (rw := false) (by simp only [upd_apply, sn_upto, sn_from, slN_def, run_cap, rules, rules2, loopRules, Try.facts, base0, Int.toNat_zero, Nat.reduceAdd, Nat.reduceMul, Nat.reduceSub, Nat.reduceLT, Nat.reduceLeDiff, Nat.reduceEqDiff, Int.reduceLE, Int.reduceLT, Int.reduceToNat, Int.reduceNe, Int.reduceEq, not_false_eq_true, Nat.reduceBEq, Nat.reduceDiv, Int.natCast_zero, Int.natCast_one, Int.reduceAdd, Int.reduceSub, reduceIte, ↓reduceIte, Value.oneCell', rowI_length, rowI_take, rowI_splice, rep_all, row_zero, le_nat, Int.toNat_natCast, Nat.zero_add, sok_row, reduceCtorEq]) hp) (rowP _) rfl (fun M h n _ => h _ (List.Mem.head _)) ?_
  simp only [c1, w2, frL_len, frL_34, frL_pub, frL_tag, ints_sameN, sn_upto, sn_from, slN_def, run_cap, rules, rules2, loopRules, Try.facts, base0, Int.toNat_zero, Nat.reduceAdd, Nat.reduceMul, Nat.reduceSub, Nat.reduceLT, Nat.reduceLeDiff, Nat.reduceEqDiff, Int.reduceLE, Int.reduceLT, Int.reduceToNat, Int.reduceNe, Int.reduceEq, not_false_eq_true, Nat.reduceBEq, Nat.reduceDiv, Int.natCast_zero, Int.natCast_one, Int.reduceAdd, Int.reduceSub, reduceIte, ↓reduceIte, Value.oneCell', rowI_length, rowI_take, rowI_splice, rep_all, row_zero, le_nat, Int.toNat_natCast, Nat.zero_add, sok_row, reduceCtorEq]
  refine (keyIn_m hs hp (45 + m) (by omega) hc (by omega)).drawRead (fun _ => 0) (fits1 (rw := false) (by simp only [upd_apply, sn_upto, sn_from, slN_def, run_cap, rules, rules2, loopRules, Try.facts, base0, Int.toNat_zero, Nat.reduceAdd, Nat.reduceMul, Nat.reduceSub, Nat.reduceLT, Nat.reduceLeDiff, Nat.reduceEqDiff, Int.reduceLE, Int.reduceLT, Int.reduceToNat, Int.reduceNe, Int.reduceEq, not_false_eq_true, Nat.reduceBEq, Nat.reduceDiv, Int.natCast_zero, Int.natCast_one, Int.reduceAdd, Int.reduceSub, reduceIte, ↓reduceIte, Value.oneCell', rowI_length, rowI_take, rowI_splice, rep_all, row_zero, le_nat, Int.toNat_natCast, Nat.zero_add, sok_row, reduceCtorEq]) hp) (rowP _) rfl (fun M h n _ => h _ (List.Mem.head _)) ?_
  simp only [c2, w2, frL_len, frL_34, frL_pub, frL_tag, ints_sameN, sn_upto, sn_from, slN_def, run_cap, rules, rules2, loopRules, Try.facts, base0, Int.toNat_zero, Nat.reduceAdd, Nat.reduceMul, Nat.reduceSub, Nat.reduceLT, Nat.reduceLeDiff, Nat.reduceEqDiff, Int.reduceLE, Int.reduceLT, Int.reduceToNat, Int.reduceNe, Int.reduceEq, not_false_eq_true, Nat.reduceBEq, Nat.reduceDiv, Int.natCast_zero, Int.natCast_one, Int.reduceAdd, Int.reduceSub, reduceIte, ↓reduceIte, Value.oneCell', rowI_length, rowI_take, rowI_splice, rep_all, row_zero, le_nat, Int.toNat_natCast, Nat.zero_add, sok_row, reduceCtorEq]
  have b3 := be4_bd hG 33
  have b4 := be4_bd hG 37
  have w3 : IntKind.u64.wrap pn = pn := by rw [wrap_u64]; omega
  have w4 : IntKind.u64.wrap n = n := by rw [wrap_u64]; omega
  have w5 : IntKind.u64.wrap (m : Int) = m := by rw [wrap_u64]; omega
  refine ⟨by kernel_rfl, ?_⟩
  refine (number_m hG hs hp 33 (by omega) (by omega)).drawRead (fun _ => 0) (fits1 (rw := false) (by simp only [upd_apply, sn_upto, sn_from, slN_def, run_cap, rules, rules2, loopRules, Try.facts, base0, Int.toNat_zero, Nat.reduceAdd, Nat.reduceMul, Nat.reduceSub, Nat.reduceLT, Nat.reduceLeDiff, Nat.reduceEqDiff, Int.reduceLE, Int.reduceLT, Int.reduceToNat, Int.reduceNe, Int.reduceEq, not_false_eq_true, Nat.reduceBEq, Nat.reduceDiv, Int.natCast_zero, Int.natCast_one, Int.reduceAdd, Int.reduceSub, reduceIte, ↓reduceIte, Value.oneCell', rowI_length, rowI_take, rowI_splice, rep_all, row_zero, le_nat, Int.toNat_natCast, Nat.zero_add, sok_row, reduceCtorEq]) hp) rfl rfl (fun M h n _ => h _ (List.Mem.head _)) ?_
  simp only [e3, w3, frL_32, bne_self_eq_false, sn_upto, sn_from, slN_def, run_cap, rules, rules2, loopRules, Try.facts, base0, Int.toNat_zero, Nat.reduceAdd, Nat.reduceMul, Nat.reduceSub, Nat.reduceLT, Nat.reduceLeDiff, Nat.reduceEqDiff, Int.reduceLE, Int.reduceLT, Int.reduceToNat, Int.reduceNe, Int.reduceEq, not_false_eq_true, Nat.reduceBEq, Nat.reduceDiv, Int.natCast_zero, Int.natCast_one, Int.reduceAdd, Int.reduceSub, reduceIte, ↓reduceIte, Value.oneCell', rowI_length, rowI_take, rowI_splice, rep_all, row_zero, le_nat, Int.toNat_natCast, Nat.zero_add, sok_row, reduceCtorEq]
  refine (number_m hG hs hp 37 (by omega) (by omega)).drawRead (fun _ => 0) (fits1 (rw := false) (by simp only [upd_apply, sn_upto, sn_from, slN_def, run_cap, rules, rules2, loopRules, Try.facts, base0, Int.toNat_zero, Nat.reduceAdd, Nat.reduceMul, Nat.reduceSub, Nat.reduceLT, Nat.reduceLeDiff, Nat.reduceEqDiff, Int.reduceLE, Int.reduceLT, Int.reduceToNat, Int.reduceNe, Int.reduceEq, not_false_eq_true, Nat.reduceBEq, Nat.reduceDiv, Int.natCast_zero, Int.natCast_one, Int.reduceAdd, Int.reduceSub, reduceIte, ↓reduceIte, Value.oneCell', rowI_length, rowI_take, rowI_splice, rep_all, row_zero, le_nat, Int.toNat_natCast, Nat.zero_add, sok_row, reduceCtorEq]) hp) rfl rfl (fun M h n _ => h _ (List.Mem.head _)) ?_
  simp only [e4, w4, frL_33, bne_self_eq_false, sn_upto, sn_from, slN_def, run_cap, rules, rules2, loopRules, Try.facts, base0, Int.toNat_zero, Nat.reduceAdd, Nat.reduceMul, Nat.reduceSub, Nat.reduceLT, Nat.reduceLeDiff, Nat.reduceEqDiff, Int.reduceLE, Int.reduceLT, Int.reduceToNat, Int.reduceNe, Int.reduceEq, not_false_eq_true, Nat.reduceBEq, Nat.reduceDiv, Int.natCast_zero, Int.natCast_one, Int.reduceAdd, Int.reduceSub, reduceIte, ↓reduceIte, Value.oneCell', rowI_length, rowI_take, rowI_splice, rep_all, row_zero, le_nat, Int.toNat_natCast, Nat.zero_add, sok_row, reduceCtorEq]
  refine (number_m hG hs hp 41 (by omega) (by omega)).drawRead (fun _ => 0) (fits1 (rw := false) (by simp only [upd_apply, sn_upto, sn_from, slN_def, run_cap, rules, rules2, loopRules, Try.facts, base0, Int.toNat_zero, Nat.reduceAdd, Nat.reduceMul, Nat.reduceSub, Nat.reduceLT, Nat.reduceLeDiff, Nat.reduceEqDiff, Int.reduceLE, Int.reduceLT, Int.reduceToNat, Int.reduceNe, Int.reduceEq, not_false_eq_true, Nat.reduceBEq, Nat.reduceDiv, Int.natCast_zero, Int.natCast_one, Int.reduceAdd, Int.reduceSub, reduceIte, ↓reduceIte, Value.oneCell', rowI_length, rowI_take, rowI_splice, rep_all, row_zero, le_nat, Int.toNat_natCast, Nat.zero_add, sok_row, reduceCtorEq]) hp) rfl rfl (fun M h n _ => h _ (List.Mem.head _)) ?_
  have l1 : ((45 : Int) ≤ ((45 + m : Nat) : Int)) = True := eq_true (by omega)
  have l2 : (((45 + m : Nat) : Int) ≤ (c : Int)) = True := eq_true (by omega)
  have ec : c ≠ 45 := by omega
  have es : 45 + m - 45 = m := by omega
  have sb : Shows cs (o + 45) m body := shows_congr (shows_sub hs 45 m (by omega)) e6
  simp only [e5, w5, w2, l1, l2, ec, es, frL_34, bne_self_eq_false, sn_upto, sn_from, slN_def, run_cap, rules, rules2, loopRules, Try.facts, base0, Int.toNat_zero, Nat.reduceAdd, Nat.reduceMul, Nat.reduceSub, Nat.reduceLT, Nat.reduceLeDiff, Nat.reduceEqDiff, Int.reduceLE, Int.reduceLT, Int.reduceToNat, Int.reduceNe, Int.reduceEq, not_false_eq_true, Nat.reduceBEq, Nat.reduceDiv, Int.natCast_zero, Int.natCast_one, Int.reduceAdd, Int.reduceSub, reduceIte, ↓reduceIte, Value.oneCell', rowI_length, rowI_take, rowI_splice, rep_all, row_zero, le_nat, Int.toNat_natCast, Nat.zero_add, sok_row, reduceCtorEq]
  refine ⟨by kernel_rfl, ?_⟩
  refine same_draw (n := m) (f := body) (by omega) (.inr ⟨_, _, _, false, _, rfl, by simp only [upd_apply, sn_upto, sn_from, slN_def, run_cap, rules, rules2, loopRules, Try.facts, base0, Int.toNat_zero, Nat.reduceAdd, Nat.reduceMul, Nat.reduceSub, Nat.reduceLT, Nat.reduceLeDiff, Nat.reduceEqDiff, Int.reduceLE, Int.reduceLT, Int.reduceToNat, Int.reduceNe, Int.reduceEq, not_false_eq_true, Nat.reduceBEq, Nat.reduceDiv, Int.natCast_zero, Int.natCast_one, Int.reduceAdd, Int.reduceSub, reduceIte, ↓reduceIte, Value.oneCell', rowI_length, rowI_take, rowI_splice, rep_all, row_zero, le_nat, Int.toNat_natCast, Nat.zero_add, sok_row, reduceCtorEq], hp, sb⟩) (hv.at (rw := false) (by simp only [upd_apply, sn_upto, sn_from, slN_def, run_cap, rules, rules2, loopRules, Try.facts, base0, Int.toNat_zero, Nat.reduceAdd, Nat.reduceMul, Nat.reduceSub, Nat.reduceLT, Nat.reduceLeDiff, Nat.reduceEqDiff, Int.reduceLE, Int.reduceLT, Int.reduceToNat, Int.reduceNe, Int.reduceEq, not_false_eq_true, Nat.reduceBEq, Nat.reduceDiv, Int.natCast_zero, Int.natCast_one, Int.reduceAdd, Int.reduceSub, reduceIte, ↓reduceIte, Value.oneCell', rowI_length, rowI_take, rowI_splice, rep_all, row_zero, le_nat, Int.toNat_natCast, Nat.zero_add, sok_row, reduceCtorEq]) hq) ?_
  simp only [sn_upto, sn_from, slN_def, run_cap, rules, rules2, loopRules, Try.facts, base0, Int.toNat_zero, Nat.reduceAdd, Nat.reduceMul, Nat.reduceSub, Nat.reduceLT, Nat.reduceLeDiff, Nat.reduceEqDiff, Int.reduceLE, Int.reduceLT, Int.reduceToNat, Int.reduceNe, Int.reduceEq, not_false_eq_true, Nat.reduceBEq, Nat.reduceDiv, Int.natCast_zero, Int.natCast_one, Int.reduceAdd, Int.reduceSub, reduceIte, ↓reduceIte, Value.oneCell', rowI_length, rowI_take, rowI_splice, rep_all, row_zero, le_nat, Int.toNat_natCast, Nat.zero_add, sok_row, reduceCtorEq]
  exact ret_plain rfl ⟨rfl, rfl⟩
end Go.Proofs.Ytdhkpdakialkbaa
