/-
  Numbers, keys and bytes in the document.
-/
import Derived.Test.YtikibkboebbdjaaVcgG12
set_option linter.unusedSimpArgs false
set_option linter.unusedVariables false
namespace Go.Proofs.Ytikibkboebbdjaa
open Go.Vcg
set_option maxHeartbeats 8000000 in
set_option maxRecDepth 20000 in
theorem keyA_m {o n c at' : Nat} {f : Nat → Int} {cs : List SV} (hs : Shows cs o n f) (hp : cs.all SV.plain = true) (h : at' + 32 ≤ n) (hn : n < 140737488355328) :
    MFun Try.prog 33 [Sl 0 o n c, I .i64 at'] 1 (lk [(0, ⟨false, cs⟩)]) (fun v out => v = Ag (rowI .u8 32 (fun i => f (at' + i))) ∧ out = fun _ => none) := by
  refine mfun_of_vc Try.func33 rfl (by kernel_rfl) (by simp [Try.ntmps33]) Try.callable33 (by simp [AV.ok, CV.ok, SV.names]) all1 (inn1 hp) ?_
  have ok1 : ∀ {M : Nat → Prop}, (∀ x ∈ cs, SV.ok M x) = True := eq_true (ok_all hp)
  simp only [Try.results33, sn_upto, sn_from, slN_def, run_cap, rules, rules2, loopRules, Try.facts, base0, Int.toNat_zero, Nat.reduceAdd, Nat.reduceMul, Nat.reduceSub, Nat.reduceLT, Nat.reduceLeDiff, Nat.reduceEqDiff, Int.reduceLE, Int.reduceLT, Int.reduceToNat, Int.reduceNe, Int.reduceEq, not_false_eq_true, Nat.reduceBEq, Nat.reduceDiv, Int.natCast_zero, Int.natCast_one, Int.reduceAdd, Int.reduceSub, reduceIte, ↓reduceIte, Value.oneCell', rowI_length, rowI_take, rowI_splice, rep_all, row_zero, le_nat, Int.toNat_natCast, Nat.zero_add, sok_row, reduceCtorEq]
  refine loop_count 32 (fun k => [(0, Sl 0 o n c), (1, I .i64 at'), (4, Ptr 1 0), (5, Ptr 2 0), (6, I .i64 k)])
    (fun k => [(0, ⟨false, cs⟩), (1, ⟨true, rowI .u8 32 (fun _ => 0)⟩), (2, ⟨true, rowI .u8 32 (fun i => if i < k then f (at' + i) else 0)⟩)]) _ ?_ ?_ ?_
  · simp only [ok1, Nat.not_lt_zero, if_false, sn_upto, sn_from, slN_def, run_cap, rules, rules2, loopRules, Try.facts, base0, Int.toNat_zero, Nat.reduceAdd, Nat.reduceMul, Nat.reduceSub, Nat.reduceLT, Nat.reduceLeDiff, Nat.reduceEqDiff, Int.reduceLE, Int.reduceLT, Int.reduceToNat, Int.reduceNe, Int.reduceEq, not_false_eq_true, Nat.reduceBEq, Nat.reduceDiv, Int.natCast_zero, Int.natCast_one, Int.reduceAdd, Int.reduceSub, reduceIte, ↓reduceIte, Value.oneCell', rowI_length, rowI_take, rowI_splice, rep_all, row_zero, le_nat, Int.toNat_natCast, Nat.zero_add, sok_row, reduceCtorEq]
  · intro k hk
    have a3 : ((k : Int) < 32) = True := lt_nat (m := 32) hk
    have d1 : decide (0 ≤ (at' : Int)) = true := decide_eq_true (by omega)
    have w1 : IntKind.i64.wrap ((at' : Int) + (k : Int)) = ((at' + k : Nat) : Int) := wrapA _ _ (by omega)
    have d2 : decide (((at' + k : Nat) : Int) < (n : Int)) = true := decide_eq_true (by omega)
    have l2 : (((at' + k : Nat) : Int) < (n : Int)) = True := eq_true (by omega)
    have fin : rowI .u8 32 (upd (fun i => if i < k then f (at' + i) else 0) k (f (at' + k))) = rowI .u8 32 (fun i => if i < k + 1 then f (at' + i) else 0) := row_upto (f := fun i => f (at' + i))
    simp only [sn_upto, sn_from, slN_def, run_cap, rules, rules2, loopRules, Try.facts, base0, Int.toNat_zero, Nat.reduceAdd, Nat.reduceMul, Nat.reduceSub, Nat.reduceLT, Nat.reduceLeDiff, Nat.reduceEqDiff, Int.reduceLE, Int.reduceLT, Int.reduceToNat, Int.reduceNe, Int.reduceEq, not_false_eq_true, Nat.reduceBEq, Nat.reduceDiv, Int.natCast_zero, Int.natCast_one, Int.reduceAdd, Int.reduceSub, reduceIte, ↓reduceIte, Value.oneCell', rowI_length, rowI_take, rowI_splice, rep_all, row_zero, le_nat, Int.toNat_natCast, Nat.zero_add, sok_row, reduceCtorEq]
    refine vcIf_yes (by simp; omega) ?_
    simp only [d1, l2, w1, a3, hs (at' + k) (by omega), nat_nn, Nat.mul_one, rowI_splice1 .u8 32 _ k hk, fin, wrapS k (by omega), decide_true, sn_upto, sn_from, slN_def, run_cap, rules, rules2, loopRules, Try.facts, base0, Int.toNat_zero, Nat.reduceAdd, Nat.reduceMul, Nat.reduceSub, Nat.reduceLT, Nat.reduceLeDiff, Nat.reduceEqDiff, Int.reduceLE, Int.reduceLT, Int.reduceToNat, Int.reduceNe, Int.reduceEq, not_false_eq_true, Nat.reduceBEq, Nat.reduceDiv, Int.natCast_zero, Int.natCast_one, Int.reduceAdd, Int.reduceSub, reduceIte, ↓reduceIte, Value.oneCell', rowI_length, rowI_take, rowI_splice, rep_all, row_zero, le_nat, Int.toNat_natCast, Nat.zero_add, sok_row, reduceCtorEq]
    exact ⟨by omega, ok_all hp⟩
  · simp only [sn_upto, sn_from, slN_def, run_cap, rules, rules2, loopRules, Try.facts, base0, Int.toNat_zero, Nat.reduceAdd, Nat.reduceMul, Nat.reduceSub, Nat.reduceLT, Nat.reduceLeDiff, Nat.reduceEqDiff, Int.reduceLE, Int.reduceLT, Int.reduceToNat, Int.reduceNe, Int.reduceEq, not_false_eq_true, Nat.reduceBEq, Nat.reduceDiv, Int.natCast_zero, Int.natCast_one, Int.reduceAdd, Int.reduceSub, reduceIte, ↓reduceIte, Value.oneCell', rowI_length, rowI_take, rowI_splice, rep_all, row_zero, le_nat, Int.toNat_natCast, Nat.zero_add, sok_row, reduceCtorEq]
    refine vcIf_no (by simp) ?_
    simp only [row_all, sn_upto, sn_from, slN_def, run_cap, rules, rules2, loopRules, Try.facts, base0, Int.toNat_zero, Nat.reduceAdd, Nat.reduceMul, Nat.reduceSub, Nat.reduceLT, Nat.reduceLeDiff, Nat.reduceEqDiff, Int.reduceLE, Int.reduceLT, Int.reduceToNat, Int.reduceNe, Int.reduceEq, not_false_eq_true, Nat.reduceBEq, Nat.reduceDiv, Int.natCast_zero, Int.natCast_one, Int.reduceAdd, Int.reduceSub, reduceIte, ↓reduceIte, Value.oneCell', rowI_length, rowI_take, rowI_splice, rep_all, row_zero, le_nat, Int.toNat_natCast, Nat.zero_add, sok_row, reduceCtorEq]
    exact ret_plain (v := Ag (rowI .u8 32 (fun i => f (at' + i)))) plainI ⟨rfl, rfl⟩
theorem keyA_draw {s : AS} {nm t o n c : Nat} {a : Int} {at' : Nat} {rw : Bool} {f : Nat → Int} {cs : List SV} (ha : a = at') (hb : s.box t = some ⟨rw, cs⟩) (hs : Shows cs o n f) (hp : cs.all SV.plain = true) (h : at' + 32 ≤ n) (hn : n < 140737488355328) {ops : Array Oper} {i : Nat} {dst : Option Nat} {K : AS → Prop}
    (hk : K (s.put dst (some (Ag (rowI .u8 32 (fun i => f (at' + i))))))) : vcFun Try.prog ops i nm 33 (some [Sl t o n c, I .i64 a]) dst K s := by
  subst ha
  exact (keyA_m hs hp h hn).drawRead (fun _ => t) (fits1 hb hp) (by simpa [AV.plain, CV.plain] using plainI) rfl (fun M h n _ => h _ (List.Mem.head _)) hk
theorem keyA_call {s : AS} {nm t o n c : Nat} {a : Int} {at' : Nat} {rw : Bool} {f : Nat → Int} {cs : List SV} (ha : a = at') (hb : s.box t = some ⟨rw, cs⟩) (hs : Shows cs o n f) (hp : cs.all SV.plain = true) (h : at' + 32 ≤ n) (hn : n < 140737488355328) {dst : Option Nat} {K : AS → Prop}
    (hk : K (s.put dst (some (Ag (rowI .u8 32 (fun i => f (at' + i))))))) : vcCall Try.prog nm 33 (some [Sl t o n c, I .i64 a]) dst K s := by
  subst ha
  exact (keyA_m hs hp h hn).vcRead (fun _ => t) (fits1 hb hp) (by simpa [AV.plain, CV.plain] using plainI) rfl hk
theorem sum4 {a b c d : Int} (ha : 0 ≤ a ∧ a < 256) (hb : 0 ≤ b ∧ b < 256) (hc : 0 ≤ c ∧ c < 256) (hd : 0 ≤ d ∧ d < 256) :
    IntKind.u32.wrap (IntKind.u32.wrap (IntKind.u32.wrap (shlI .u32 (IntKind.u32.wrap a) 24 + shlI .u32 (IntKind.u32.wrap b) 16) + shlI .u32 (IntKind.u32.wrap c) 8) + IntKind.u32.wrap d) = a * 16777216 + b * 65536 + c * 256 + d := by
  have e1 : IntKind.u32.wrap a = a := wrap_u32_in _ (by omega) (by omega)
  have e2 : IntKind.u32.wrap b = b := wrap_u32_in _ (by omega) (by omega)
  have e3 : IntKind.u32.wrap c = c := wrap_u32_in _ (by omega) (by omega)
  have e4 : IntKind.u32.wrap d = d := wrap_u32_in _ (by omega) (by omega)
  have s1 : shlI .u32 a 24 = a * 16777216 := by
    have := shlI_eq .u32 a 24 (by decide)
    rw [show (24 : Int) = ((24 : Nat) : Int) from rfl, this, wrap_u32]; omega
  have s2 : shlI .u32 b 16 = b * 65536 := by
    have := shlI_eq .u32 b 16 (by decide)
    rw [show (16 : Int) = ((16 : Nat) : Int) from rfl, this, wrap_u32]; omega
  have s3 : shlI .u32 c 8 = c * 256 := by
    have := shlI_eq .u32 c 8 (by decide)
    rw [show (8 : Int) = ((8 : Nat) : Int) from rfl, this, wrap_u32]; omega
  rw [e1, e2, e3, e4, s1, s2, s3]
  rw [wrap_u32_in (a * 16777216 + b * 65536) (by omega) (by omega), wrap_u32_in (a * 16777216 + b * 65536 + c * 256) (by omega) (by omega), wrap_u32_in _ (by omega) (by omega)]
set_option maxHeartbeats 8000000 in
set_option maxRecDepth 20000 in
theorem wordA_m {n : Nat} {f : Nat → Int} {o c : Nat} {cs : List SV} (hf : Byt f) (hc : Shows cs o n f) (hp : cs.all SV.plain = true) (t : Nat) (ht : t + 4 ≤ n) (hn : n < 140737488355328) :
    MFun Try.prog 34 [Sl 0 o n c, I .i64 ((t : Nat) : Int)] 1 (lk [(0, ⟨false, cs⟩)]) (fun v out => v = I .u32 (be4 f t) ∧ out = fun _ => none) := by
  refine mfun_of_vc Try.func34 rfl (by kernel_rfl) (by simp [Try.ntmps34]) Try.callable34 (by simp [AV.ok, CV.ok, SV.names]) all1 (inn1 hp) ?_
  have a0 := hc t (by omega)
  have a1 := hc (t + 1) (by omega)
  have a2 := hc (t + 2) (by omega)
  have a3 := hc (t + 3) (by omega)
  have w1 : IntKind.i64.wrap ((t : Int) + 1) = ((t + 1 : Nat) : Int) := wrap_i64 _ (by omega) (by omega)
  have w2 : IntKind.i64.wrap ((t : Int) + 2) = ((t + 2 : Nat) : Int) := wrap_i64 _ (by omega) (by omega)
  have w3 : IntKind.i64.wrap ((t : Int) + 3) = ((t + 3 : Nat) : Int) := wrap_i64 _ (by omega) (by omega)
  have w4 : IntKind.i64.wrap ((t : Int) + 4) = ((t + 4 : Nat) : Int) := wrap_i64 _ (by omega) (by omega)
  have d1 : decide ((t : Int) < 0) = false := decide_eq_false (by omega)
  have d2 : decide ((n : Int) < ((t + 4 : Nat) : Int)) = false := decide_eq_false (by omega)
  have l0 : ((t : Int) < (n : Int)) = True := eq_true (by omega)
  have l1 : (((t + 1 : Nat) : Int) < (n : Int)) = True := eq_true (by omega)
  have l2 : (((t + 2 : Nat) : Int) < (n : Int)) = True := eq_true (by omega)
  have l3 : (((t + 3 : Nat) : Int) < (n : Int)) = True := eq_true (by omega)
  have e := sum4 (hf t) (hf (t + 1)) (hf (t + 2)) (hf (t + 3))
  simp only [Try.results34, w1, w2, w3, w4, d1, d2, l0, l1, l2, l3, nat_nn, a0, a1, a2, a3, Nat.mul_one, e, sn_upto, sn_from, slN_def, run_cap, rules, rules2, loopRules, Try.facts, base0, Int.toNat_zero, Nat.reduceAdd, Nat.reduceMul, Nat.reduceSub, Nat.reduceLT, Nat.reduceLeDiff, Nat.reduceEqDiff, Int.reduceLE, Int.reduceLT, Int.reduceToNat, Int.reduceNe, Int.reduceEq, not_false_eq_true, Nat.reduceBEq, Nat.reduceDiv, Int.natCast_zero, Int.natCast_one, Int.reduceAdd, Int.reduceSub, reduceIte, ↓reduceIte, Value.oneCell', rowI_length, rowI_take, rowI_splice, rep_all, row_zero, le_nat, Int.toNat_natCast, Nat.zero_add, sok_row, reduceCtorEq]
  exact ⟨by kernel_rfl, ret_plain rfl ⟨rfl, rfl⟩⟩
theorem wordA_draw {s : AS} {nm t o n c : Nat} {a : Int} {at' : Nat} {rw : Bool} {f : Nat → Int} {cs : List SV} (hf : Byt f) (ha : a = at') (hb : s.box t = some ⟨rw, cs⟩) (hs : Shows cs o n f) (hp : cs.all SV.plain = true) (h : at' + 4 ≤ n) (hn : n < 140737488355328) {ops : Array Oper} {i : Nat} {dst : Option Nat} {K : AS → Prop}
    (hk : K (s.put dst (some (I .u32 (be4 f at'))))) : vcFun Try.prog ops i nm 34 (some [Sl t o n c, I .i64 a]) dst K s := by
  subst ha
  exact (wordA_m hf hs hp at' h hn).drawRead (fun _ => t) (fits1 hb hp) rfl rfl (fun M h n _ => h _ (List.Mem.head _)) hk
theorem wordA_call {s : AS} {nm t o n c : Nat} {a : Int} {at' : Nat} {rw : Bool} {f : Nat → Int} {cs : List SV} (hf : Byt f) (ha : a = at') (hb : s.box t = some ⟨rw, cs⟩) (hs : Shows cs o n f) (hp : cs.all SV.plain = true) (h : at' + 4 ≤ n) (hn : n < 140737488355328) {dst : Option Nat} {K : AS → Prop}
    (hk : K (s.put dst (some (I .u32 (be4 f at'))))) : vcCall Try.prog nm 34 (some [Sl t o n c, I .i64 a]) dst K s := by
  subst ha
  exact (wordA_m hf hs hp at' h hn).vcRead (fun _ => t) (fits1 hb hp) rfl rfl hk
theorem eqB_false {n : Nat} {f g : Nat → Int} {j : Nat} (hj : j < n) (h : f j ≠ g j) : eqB n f g = false := by
  rw [Bool.eq_false_iff]; intro e; exact h (eqB_iff.1 e j hj)
set_option maxHeartbeats 4000000 in
set_option maxRecDepth 20000 in
theorem refSame_ss {n : Nat} {f g : Nat → Int} {o o' c c' : Nat} {cs ds : List SV} (hc : Shows cs o n f) (hd : Shows ds o' n g) (hp : cs.all SV.plain = true) (hq : ds.all SV.plain = true) (hn : n < 4611686018427387904) :
    MFun Try.prog 35 [Sl 0 o n c, Sl 1 o' n c'] 2 (lk [(0, ⟨false, cs⟩), (1, ⟨false, ds⟩)]) (fun v out => v = B (eqB n f g) ∧ out = fun _ => none) := by
  refine mfun_of_vc Try.func35 rfl (by kernel_rfl) (by simp [Try.ntmps35]) Try.callable35 (by simp [AV.ok, CV.ok, SV.names]) all2 (inn2 hp hq) ?_
  have ok1 : ∀ {M : Nat → Prop}, (∀ x ∈ cs, SV.ok M x) = True := eq_true (ok_all hp)
  have ok2 : ∀ {M : Nat → Prop}, (∀ x ∈ ds, SV.ok M x) = True := eq_true (ok_all hq)
  simp only [Try.results35, bne_self_eq_false, sn_upto, sn_from, slN_def, run_cap, rules, rules2, loopRules, Try.facts, base0, Int.toNat_zero, Nat.reduceAdd, Nat.reduceMul, Nat.reduceSub, Nat.reduceLT, Nat.reduceLeDiff, Nat.reduceEqDiff, Int.reduceLE, Int.reduceLT, Int.reduceToNat, Int.reduceNe, Int.reduceEq, not_false_eq_true, Nat.reduceBEq, Nat.reduceDiv, Int.natCast_zero, Int.natCast_one, Int.reduceAdd, Int.reduceSub, reduceIte, ↓reduceIte, Value.oneCell', rowI_length, rowI_take, rowI_splice, rep_all, row_zero, le_nat, Int.toNat_natCast, Nat.zero_add, sok_row, reduceCtorEq]
  refine loop_inv n (fun k => ∀ i, i < k → f i = g i) (fun k => [(0, Sl 0 o n c), (1, Sl 1 o' n c'), (5, I .i64 k)])
    (fun k => [(0, ⟨false, cs⟩), (1, ⟨false, ds⟩)]) _ ?_ ?_ ?_
  · refine ⟨fun i hi => by omega, ?_⟩
    simp only [ok1, ok2, sn_upto, sn_from, slN_def, run_cap, rules, rules2, loopRules, Try.facts, base0, Int.toNat_zero, Nat.reduceAdd, Nat.reduceMul, Nat.reduceSub, Nat.reduceLT, Nat.reduceLeDiff, Nat.reduceEqDiff, Int.reduceLE, Int.reduceLT, Int.reduceToNat, Int.reduceNe, Int.reduceEq, not_false_eq_true, Nat.reduceBEq, Nat.reduceDiv, Int.natCast_zero, Int.natCast_one, Int.reduceAdd, Int.reduceSub, reduceIte, ↓reduceIte, Value.oneCell', rowI_length, rowI_take, rowI_splice, rep_all, row_zero, le_nat, Int.toNat_natCast, Nat.zero_add, sok_row, reduceCtorEq]
  · intro j hj hinv
    simp only [sn_upto, sn_from, slN_def, run_cap, rules, rules2, loopRules, Try.facts, base0, Int.toNat_zero, Nat.reduceAdd, Nat.reduceMul, Nat.reduceSub, Nat.reduceLT, Nat.reduceLeDiff, Nat.reduceEqDiff, Int.reduceLE, Int.reduceLT, Int.reduceToNat, Int.reduceNe, Int.reduceEq, not_false_eq_true, Nat.reduceBEq, Nat.reduceDiv, Int.natCast_zero, Int.natCast_one, Int.reduceAdd, Int.reduceSub, reduceIte, ↓reduceIte, Value.oneCell', rowI_length, rowI_take, rowI_splice, rep_all, row_zero, le_nat, Int.toNat_natCast, Nat.zero_add, sok_row, reduceCtorEq]
    refine vcIf_yes (by simp; omega) ?_
    simp only [nat_nn, nat_lt_eq hj, hc j hj, hd j hj, wrapS j (by omega), sn_upto, sn_from, slN_def, run_cap, rules, rules2, loopRules, Try.facts, base0, Int.toNat_zero, Nat.reduceAdd, Nat.reduceMul, Nat.reduceSub, Nat.reduceLT, Nat.reduceLeDiff, Nat.reduceEqDiff, Int.reduceLE, Int.reduceLT, Int.reduceToNat, Int.reduceNe, Int.reduceEq, not_false_eq_true, Nat.reduceBEq, Nat.reduceDiv, Int.natCast_zero, Int.natCast_one, Int.reduceAdd, Int.reduceSub, reduceIte, ↓reduceIte, Value.oneCell', rowI_length, rowI_take, rowI_splice, rep_all, row_zero, le_nat, Int.toNat_natCast, Nat.zero_add, sok_row, reduceCtorEq]
    refine ⟨by kernel_rfl, ?_⟩
    by_cases h : f j = g j
    · have e1 : (f j != g j) = false := by simp [h]
      simp only [e1, wrapS j (by omega), sn_upto, sn_from, slN_def, run_cap, rules, rules2, loopRules, Try.facts, base0, Int.toNat_zero, Nat.reduceAdd, Nat.reduceMul, Nat.reduceSub, Nat.reduceLT, Nat.reduceLeDiff, Nat.reduceEqDiff, Int.reduceLE, Int.reduceLT, Int.reduceToNat, Int.reduceNe, Int.reduceEq, not_false_eq_true, Nat.reduceBEq, Nat.reduceDiv, Int.natCast_zero, Int.natCast_one, Int.reduceAdd, Int.reduceSub, reduceIte, ↓reduceIte, Value.oneCell', rowI_length, rowI_take, rowI_splice, rep_all, row_zero, le_nat, Int.toNat_natCast, Nat.zero_add, sok_row, reduceCtorEq]
      refine ⟨fun i hi => ?_, ok_all hp, ok_all hq⟩
      rcases Nat.lt_or_ge i j with h1 | h1
      · exact hinv i h1
      · rw [show i = j by omega]; exact h
    · have e1 : (f j != g j) = true := by simp [h]
      simp only [e1, sn_upto, sn_from, slN_def, run_cap, rules, rules2, loopRules, Try.facts, base0, Int.toNat_zero, Nat.reduceAdd, Nat.reduceMul, Nat.reduceSub, Nat.reduceLT, Nat.reduceLeDiff, Nat.reduceEqDiff, Int.reduceLE, Int.reduceLT, Int.reduceToNat, Int.reduceNe, Int.reduceEq, not_false_eq_true, Nat.reduceBEq, Nat.reduceDiv, Int.natCast_zero, Int.natCast_one, Int.reduceAdd, Int.reduceSub, reduceIte, ↓reduceIte, Value.oneCell', rowI_length, rowI_take, rowI_splice, rep_all, row_zero, le_nat, Int.toNat_natCast, Nat.zero_add, sok_row, reduceCtorEq]
      exact ret_plain rfl ⟨by rw [eqB_false hj h], rfl⟩
  · intro hinv
    simp only [sn_upto, sn_from, slN_def, run_cap, rules, rules2, loopRules, Try.facts, base0, Int.toNat_zero, Nat.reduceAdd, Nat.reduceMul, Nat.reduceSub, Nat.reduceLT, Nat.reduceLeDiff, Nat.reduceEqDiff, Int.reduceLE, Int.reduceLT, Int.reduceToNat, Int.reduceNe, Int.reduceEq, not_false_eq_true, Nat.reduceBEq, Nat.reduceDiv, Int.natCast_zero, Int.natCast_one, Int.reduceAdd, Int.reduceSub, reduceIte, ↓reduceIte, Value.oneCell', rowI_length, rowI_take, rowI_splice, rep_all, row_zero, le_nat, Int.toNat_natCast, Nat.zero_add, sok_row, reduceCtorEq]
    refine vcIf_no (by simp) ?_
    simp only [sn_upto, sn_from, slN_def, run_cap, rules, rules2, loopRules, Try.facts, base0, Int.toNat_zero, Nat.reduceAdd, Nat.reduceMul, Nat.reduceSub, Nat.reduceLT, Nat.reduceLeDiff, Nat.reduceEqDiff, Int.reduceLE, Int.reduceLT, Int.reduceToNat, Int.reduceNe, Int.reduceEq, not_false_eq_true, Nat.reduceBEq, Nat.reduceDiv, Int.natCast_zero, Int.natCast_one, Int.reduceAdd, Int.reduceSub, reduceIte, ↓reduceIte, Value.oneCell', rowI_length, rowI_take, rowI_splice, rep_all, row_zero, le_nat, Int.toNat_natCast, Nat.zero_add, sok_row, reduceCtorEq]
    exact ret_plain rfl ⟨by rw [eqB_iff.2 hinv], rfl⟩
set_option maxHeartbeats 4000000 in
set_option maxRecDepth 20000 in
theorem refSame_len {n m : Nat} {f g : Nat → Int} {o o' c c' : Nat} {cs ds : List SV} (hp : cs.all SV.plain = true) (hq : ds.all SV.plain = true) (hn : n ≠ m) :
    MFun Try.prog 35 [Sl 0 o n c, Sl 1 o' m c'] 2 (lk [(0, ⟨false, cs⟩), (1, ⟨false, ds⟩)]) (fun v out => v = B false ∧ out = fun _ => none) := by
  refine mfun_of_vc Try.func35 rfl (by kernel_rfl) (by simp [Try.ntmps35]) Try.callable35 (by simp [AV.ok, CV.ok, SV.names]) all2 (inn2 hp hq) ?_
  have e : ((n : Int) != (m : Int)) = true := by simp; omega
  simp only [Try.results35, e, sn_upto, sn_from, slN_def, run_cap, rules, rules2, loopRules, Try.facts, base0, Int.toNat_zero, Nat.reduceAdd, Nat.reduceMul, Nat.reduceSub, Nat.reduceLT, Nat.reduceLeDiff, Nat.reduceEqDiff, Int.reduceLE, Int.reduceLT, Int.reduceToNat, Int.reduceNe, Int.reduceEq, not_false_eq_true, Nat.reduceBEq, Nat.reduceDiv, Int.natCast_zero, Int.natCast_one, Int.reduceAdd, Int.reduceSub, reduceIte, ↓reduceIte, Value.oneCell', rowI_length, rowI_take, rowI_splice, rep_all, row_zero, le_nat, Int.toNat_natCast, Nat.zero_add, sok_row, reduceCtorEq]
  exact ret_plain rfl ⟨rfl, rfl⟩
set_option maxHeartbeats 4000000 in
set_option maxRecDepth 20000 in
theorem refSame_ns {m : Nat} {o' c' : Nat} {ds : List SV} (hq : ds.all SV.plain = true) (hn : 0 < m) :
    MFun Try.prog 35 [V (.slice none 0 0), Sl 0 o' m c'] 1 (lk [(0, ⟨false, ds⟩)]) (fun v out => v = B false ∧ out = fun _ => none) := by
  refine mfun_of_vc Try.func35 rfl (by kernel_rfl) (by simp [Try.ntmps35]) Try.callable35 (by simp [AV.ok, CV.ok, SV.names]) all1 (inn1 hq) ?_
  have e : ((0 : Int) != (m : Int)) = true := by simp; omega
  simp only [Try.results35, e, sn_upto, sn_from, slN_def, run_cap, rules, rules2, loopRules, Try.facts, base0, Int.toNat_zero, Nat.reduceAdd, Nat.reduceMul, Nat.reduceSub, Nat.reduceLT, Nat.reduceLeDiff, Nat.reduceEqDiff, Int.reduceLE, Int.reduceLT, Int.reduceToNat, Int.reduceNe, Int.reduceEq, not_false_eq_true, Nat.reduceBEq, Nat.reduceDiv, Int.natCast_zero, Int.natCast_one, Int.reduceAdd, Int.reduceSub, reduceIte, ↓reduceIte, Value.oneCell', rowI_length, rowI_take, rowI_splice, rep_all, row_zero, le_nat, Int.toNat_natCast, Nat.zero_add, sok_row, reduceCtorEq]
  exact ret_plain rfl ⟨rfl, rfl⟩
end Go.Proofs.Ytikibkboebbdjaa
