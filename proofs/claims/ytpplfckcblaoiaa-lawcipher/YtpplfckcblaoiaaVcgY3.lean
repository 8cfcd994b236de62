/-
  Functions of the cipher, of the program and of the document.
-/
import Derived.Test.YtpplfckcblaoiaaVcgY2
set_option linter.unusedVariables false
set_option linter.unusedSimpArgs false
namespace Go.Proofs.Ytpplfckcblaoiaa
open Go.Vcg
/-! ### Counter mode, of the program -/
theorem rem16 (t : Nat) : (t : Int).tmod 16 = ((t % 16 : Nat) : Int) := (Int.ofNat_tmod t 16).symm
set_option maxHeartbeats 4000000 in
set_option maxRecDepth 20000 in
theorem tooLong_m {n o c : Nat} {cs : List SV} (hp : cs.all SV.plain = true) : MFun Try.prog 27 [Sl 0 o n c] 1 (lk [(0, ⟨false, cs⟩)]) (fun v out => v = B (decide (1048576 < (n : Int))) ∧ out = fun _ => none) := by
  refine mfun_of_vc Try.func27 rfl (by kernel_rfl) (by simp [Try.ntmps27]) Try.callable27 (by simp [AV.ok, CV.ok, SV.names]) all1 (inn1 hp) ?_
  simp only [Try.results27, sn_upto, sn_from, slN_def, run_cap, rules, rules2, loopRules, Try.facts, base0, Int.toNat_zero, Nat.reduceAdd, Nat.reduceMul, Nat.reduceSub, Nat.reduceLT, Nat.reduceLeDiff, Nat.reduceEqDiff, Int.reduceLE, Int.reduceLT, Int.reduceToNat, Int.reduceNe, Int.reduceEq, not_false_eq_true, Nat.reduceBEq, Nat.reduceDiv, Int.natCast_zero, Int.natCast_one, Int.reduceAdd, Int.reduceSub, reduceIte, ↓reduceIte, Value.oneCell', rowI_length, rowI_take, rowI_splice, rep_all, row_zero, le_nat, Int.toNat_natCast, Nat.zero_add, sok_row, reduceCtorEq]
  exact ret_plain rfl ⟨rfl, rfl⟩
/-- The stream at place i. -/
def strB (K J : Nat → Int) (i : Nat) : Int := encB (cipC K) (addC J ((i / 16 : Nat) : Int)) (i % 16)
def ctrB (K J f : Nat → Int) (i : Nat) : Int := bitI .xor .u8 (f i) (strB K J i)
/-- How many counters have been taken ahead of place k. -/
def cntB (k : Nat) : Nat := (k + 15) / 16
def blkB (K J : Nat → Int) (k : Nat) : Nat → Int := if k = 0 then fun _ => 0 else encB (cipC K) (addC J (((k - 1) / 16 : Nat) : Int))
set_option maxHeartbeats 8000000 in
set_option maxRecDepth 20000 in
theorem xor_m {n o c : Nat} {K J f : Nat → Int} {cs : List SV} (hK : Byt K) (hJ : Byt J) (hs : Shows cs o n f) (hp : cs.all SV.plain = true) (hn : n ≤ 140737488355328) :
    MFun Try.prog 28 [Ag (rowI .u8 32 K), Ag (rowI .u8 16 J), Sl 0 o n c] 1 (lk [(0, ⟨false, cs⟩)]) (fun v out => v = Sl 1 0 n n ∧ out = lk [(1, ⟨true, rowI .u8 n (ctrB K J f)⟩)]) := by
  refine mfun_of_vc Try.func28 rfl (by kernel_rfl) (by simp [Try.ntmps28]) Try.callable28 (by simp [AV.ok, CV.ok, SV.names]; exact ⟨ok_all plainI, ok_all plainI⟩) all1 (inn1 hp) ?_
  have ok1 : ∀ {M : Nat → Prop}, (∀ x ∈ cs, SV.ok M x) = True := eq_true (ok_all hp)
  simp only [Try.results28, sn_upto, sn_from, slN_def, run_cap, rules, rules2, loopRules, Try.facts, base0, Int.toNat_zero, Nat.reduceAdd, Nat.reduceMul, Nat.reduceSub, Nat.reduceLT, Nat.reduceLeDiff, Nat.reduceEqDiff, Int.reduceLE, Int.reduceLT, Int.reduceToNat, Int.reduceNe, Int.reduceEq, not_false_eq_true, Nat.reduceBEq, Nat.reduceDiv, Int.natCast_zero, Int.natCast_one, Int.reduceAdd, Int.reduceSub, reduceIte, ↓reduceIte, Value.oneCell', rowI_length, rowI_take, rowI_splice, rep_all, row_zero, le_nat, Int.toNat_natCast, Nat.zero_add, sok_row, reduceCtorEq]
  refine (cipherOf_fun K hK).vcCall ?_
  have hby : (1 * (n : Int) ≤ 281474976710656) = True := eq_true (by omega)
  have h63 : ((n : Int) ≤ 9223372036854775807) = True := eq_true (by omega)
  have hnn : ((n : Int) ≤ (n : Int)) = True := eq_true (by omega)
  simp only [nat_nn, hby, h63, hnn, sn_upto, sn_from, slN_def, run_cap, rules, rules2, loopRules, Try.facts, base0, Int.toNat_zero, Nat.reduceAdd, Nat.reduceMul, Nat.reduceSub, Nat.reduceLT, Nat.reduceLeDiff, Nat.reduceEqDiff, Int.reduceLE, Int.reduceLT, Int.reduceToNat, Int.reduceNe, Int.reduceEq, not_false_eq_true, Nat.reduceBEq, Nat.reduceDiv, Int.natCast_zero, Int.natCast_one, Int.reduceAdd, Int.reduceSub, reduceIte, ↓reduceIte, Value.oneCell', rowI_length, rowI_take, rowI_splice, rep_all, row_zero, le_nat, Int.toNat_natCast, Nat.zero_add, sok_row, reduceCtorEq]
  refine loop_count n (fun k => [(2, Sl 0 o n c), (4, Ptr 2 0), (7, Ptr 6 0), (8, Sl 10 0 n n), (9, Ptr 12 0), (17, I .i64 n), (18, I .i64 k)])
    (fun k => [(0, ⟨false, cs⟩), (2, ⟨true, rowI .u8 16 (addC J (cntB k : Nat))⟩), (6, ⟨true, rowI .u8 496 (cipC K)⟩), (10, ⟨true, rowI .u8 n (fun i => if i < k then ctrB K J f i else 0)⟩), (12, ⟨true, rowI .u8 16 (blkB K J k)⟩)]) _ ?_ ?_ ?_
  · simp only [sok_row, ok1, Nat.not_lt_zero, if_false, blkB, sn_upto, sn_from, slN_def, run_cap, rules, rules2, loopRules, Try.facts, base0, Int.toNat_zero, Nat.reduceAdd, Nat.reduceMul, Nat.reduceSub, Nat.reduceLT, Nat.reduceLeDiff, Nat.reduceEqDiff, Int.reduceLE, Int.reduceLT, Int.reduceToNat, Int.reduceNe, Int.reduceEq, not_false_eq_true, Nat.reduceBEq, Nat.reduceDiv, Int.natCast_zero, Int.natCast_one, Int.reduceAdd, Int.reduceSub, reduceIte, ↓reduceIte, Value.oneCell', rowI_length, rowI_take, rowI_splice, rep_all, row_zero, le_nat, Int.toNat_natCast, Nat.zero_add, sok_row, reduceCtorEq]
    exact congrArg (fun c => some (Box.mk true c)) (rowI_congr fun i hi => (addC_zero J hJ i).symm)
  · intro k hk
    have hk16 : k % 16 < 16 := Nat.mod_lt _ (by decide)
    have l16 : (((k % 16 : Nat) : Int) < 16) = True := eq_true (by omega)
    have eb : blkB K J (k + 1) = encB (cipC K) (addC J ((k / 16 : Nat) : Int)) := by simp only [blkB]; rw [if_neg (by omega), show k + 1 - 1 = k by omega]
    have ec : bitI .xor .u8 (f k) (blkB K J (k + 1) (k % 16)) = ctrB K J f k := by rw [eb]; rfl
    have fin : rowI .u8 n (upd (fun i => if i < k then ctrB K J f i else 0) k (ctrB K J f k)) = rowI .u8 n (fun i => if i < k + 1 then ctrB K J f i else 0) := row_upto
    simp only [sn_upto, sn_from, slN_def, run_cap, rules, rules2, loopRules, Try.facts, base0, Int.toNat_zero, Nat.reduceAdd, Nat.reduceMul, Nat.reduceSub, Nat.reduceLT, Nat.reduceLeDiff, Nat.reduceEqDiff, Int.reduceLE, Int.reduceLT, Int.reduceToNat, Int.reduceNe, Int.reduceEq, not_false_eq_true, Nat.reduceBEq, Nat.reduceDiv, Int.natCast_zero, Int.natCast_one, Int.reduceAdd, Int.reduceSub, reduceIte, ↓reduceIte, Value.oneCell', rowI_length, rowI_take, rowI_splice, rep_all, row_zero, le_nat, Int.toNat_natCast, Nat.zero_add, sok_row, reduceCtorEq]
    refine vcIf_yes (by simp; omega) ?_
    by_cases h0 : k % 16 = 0
    · have e0 : ((((k % 16 : Nat) : Int)) == 0) = true := by rw [h0]; rfl
      have ecn : cntB k = k / 16 := by simp only [cntB]; omega
      have ecn1 : cntB (k + 1) = k / 16 + 1 := by simp only [cntB]; omega
      have ej : rowI .u8 16 (addC (addC J ((k / 16 : Nat) : Int)) 1) = rowI .u8 16 (addC J ((k / 16 + 1 : Nat) : Int)) := rowI_congr fun i hi => addC_succ J _ i hi
      simp only [rem16, e0, sn_upto, sn_from, slN_def, run_cap, rules, rules2, loopRules, Try.facts, base0, Int.toNat_zero, Nat.reduceAdd, Nat.reduceMul, Nat.reduceSub, Nat.reduceLT, Nat.reduceLeDiff, Nat.reduceEqDiff, Int.reduceLE, Int.reduceLT, Int.reduceToNat, Int.reduceNe, Int.reduceEq, not_false_eq_true, Nat.reduceBEq, Nat.reduceDiv, Int.natCast_zero, Int.natCast_one, Int.reduceAdd, Int.reduceSub, reduceIte, ↓reduceIte, Value.oneCell', rowI_length, rowI_take, rowI_splice, rep_all, row_zero, le_nat, Int.toNat_natCast, Nat.zero_add, sok_row, reduceCtorEq]
      refine (encrypt_m (cipC K) (addC J (cntB k : Nat))).vcRead (fun _ => 6) (fits1 (rw := true) (by simp only [upd_apply, sn_upto, sn_from, slN_def, run_cap, rules, rules2, loopRules, Try.facts, base0, Int.toNat_zero, Nat.reduceAdd, Nat.reduceMul, Nat.reduceSub, Nat.reduceLT, Nat.reduceLeDiff, Nat.reduceEqDiff, Int.reduceLE, Int.reduceLT, Int.reduceToNat, Int.reduceNe, Int.reduceEq, not_false_eq_true, Nat.reduceBEq, Nat.reduceDiv, Int.natCast_zero, Int.natCast_one, Int.reduceAdd, Int.reduceSub, reduceIte, ↓reduceIte, Value.oneCell', rowI_length, rowI_take, rowI_splice, rep_all, row_zero, le_nat, Int.toNat_natCast, Nat.zero_add, sok_row, reduceCtorEq]) plainI) plainI (by rfl) ?_
      simp only [ecn, ← eb, sn_upto, sn_from, slN_def, run_cap, rules, rules2, loopRules, Try.facts, base0, Int.toNat_zero, Nat.reduceAdd, Nat.reduceMul, Nat.reduceSub, Nat.reduceLT, Nat.reduceLeDiff, Nat.reduceEqDiff, Int.reduceLE, Int.reduceLT, Int.reduceToNat, Int.reduceNe, Int.reduceEq, not_false_eq_true, Nat.reduceBEq, Nat.reduceDiv, Int.natCast_zero, Int.natCast_one, Int.reduceAdd, Int.reduceSub, reduceIte, ↓reduceIte, Value.oneCell', rowI_length, rowI_take, rowI_splice, rep_all, row_zero, le_nat, Int.toNat_natCast, Nat.zero_add, sok_row, reduceCtorEq]
      refine (following_fun (addC J ((k / 16 : Nat) : Int)) (addC_byt _ _)).vcCall ?_
      simp only [rem16, ej, nat_nn, l16, nat_lt_eq hk, hs k hk, rowI_get .u8 16 _ _ hk16, ec, rowI_splice1 .u8 n _ k hk, wrapS k (by omega), ecn1, fin, sn_upto, sn_from, slN_def, run_cap, rules, rules2, loopRules, Try.facts, base0, Int.toNat_zero, Nat.reduceAdd, Nat.reduceMul, Nat.reduceSub, Nat.reduceLT, Nat.reduceLeDiff, Nat.reduceEqDiff, Int.reduceLE, Int.reduceLT, Int.reduceToNat, Int.reduceNe, Int.reduceEq, not_false_eq_true, Nat.reduceBEq, Nat.reduceDiv, Int.natCast_zero, Int.natCast_one, Int.reduceAdd, Int.reduceSub, reduceIte, ↓reduceIte, Value.oneCell', rowI_length, rowI_take, rowI_splice, rep_all, row_zero, le_nat, Int.toNat_natCast, Nat.zero_add, sok_row, reduceCtorEq]
      exact ⟨by kernel_rfl, by omega, ok_all hp⟩
    · have e0 : ((((k % 16 : Nat) : Int)) == 0) = false := by simp; omega
      have ecn1 : cntB (k + 1) = cntB k := by simp only [cntB]; omega
      have ebk : blkB K J (k + 1) = blkB K J k := by
        rw [eb]; simp only [blkB]; rw [if_neg (by omega), show (k - 1) / 16 = k / 16 by omega]
      rw [ebk] at ec
      simp only [rem16, e0, nat_nn, l16, nat_lt_eq hk, hs k hk, rowI_get .u8 16 _ _ hk16, ec, rowI_splice1 .u8 n _ k hk, wrapS k (by omega), ecn1, ebk, fin, sn_upto, sn_from, slN_def, run_cap, rules, rules2, loopRules, Try.facts, base0, Int.toNat_zero, Nat.reduceAdd, Nat.reduceMul, Nat.reduceSub, Nat.reduceLT, Nat.reduceLeDiff, Nat.reduceEqDiff, Int.reduceLE, Int.reduceLT, Int.reduceToNat, Int.reduceNe, Int.reduceEq, not_false_eq_true, Nat.reduceBEq, Nat.reduceDiv, Int.natCast_zero, Int.natCast_one, Int.reduceAdd, Int.reduceSub, reduceIte, ↓reduceIte, Value.oneCell', rowI_length, rowI_take, rowI_splice, rep_all, row_zero, le_nat, Int.toNat_natCast, Nat.zero_add, sok_row, reduceCtorEq]
      exact ⟨by kernel_rfl, by omega, ok_all hp⟩
  · simp only [sn_upto, sn_from, slN_def, run_cap, rules, rules2, loopRules, Try.facts, base0, Int.toNat_zero, Nat.reduceAdd, Nat.reduceMul, Nat.reduceSub, Nat.reduceLT, Nat.reduceLeDiff, Nat.reduceEqDiff, Int.reduceLE, Int.reduceLT, Int.reduceToNat, Int.reduceNe, Int.reduceEq, not_false_eq_true, Nat.reduceBEq, Nat.reduceDiv, Int.natCast_zero, Int.natCast_one, Int.reduceAdd, Int.reduceSub, reduceIte, ↓reduceIte, Value.oneCell', rowI_length, rowI_take, rowI_splice, rep_all, row_zero, le_nat, Int.toNat_natCast, Nat.zero_add, sok_row, reduceCtorEq]
    refine vcIf_no (by simp) ?_
    simp only [row_all, sn_upto, sn_from, slN_def, run_cap, rules, rules2, loopRules, Try.facts, base0, Int.toNat_zero, Nat.reduceAdd, Nat.reduceMul, Nat.reduceSub, Nat.reduceLT, Nat.reduceLeDiff, Nat.reduceEqDiff, Int.reduceLE, Int.reduceLT, Int.reduceToNat, Int.reduceNe, Int.reduceEq, not_false_eq_true, Nat.reduceBEq, Nat.reduceDiv, Int.natCast_zero, Int.natCast_one, Int.reduceAdd, Int.reduceSub, reduceIte, ↓reduceIte, Value.oneCell', rowI_length, rowI_take, rowI_splice, rep_all, row_zero, le_nat, Int.toNat_natCast, Nat.zero_add, sok_row, reduceCtorEq]
    refine ret_new (k := 1) (q := 10) (cs := rowI .u8 n (ctrB K J f)) (by decide) ?_ plainI ⟨rfl, rfl⟩
    simp only [sn_upto, sn_from, slN_def, run_cap, rules, rules2, loopRules, Try.facts, base0, Int.toNat_zero, Nat.reduceAdd, Nat.reduceMul, Nat.reduceSub, Nat.reduceLT, Nat.reduceLeDiff, Nat.reduceEqDiff, Int.reduceLE, Int.reduceLT, Int.reduceToNat, Int.reduceNe, Int.reduceEq, not_false_eq_true, Nat.reduceBEq, Nat.reduceDiv, Int.natCast_zero, Int.natCast_one, Int.reduceAdd, Int.reduceSub, reduceIte, ↓reduceIte, Value.oneCell', rowI_length, rowI_take, rowI_splice, rep_all, row_zero, le_nat, Int.toNat_natCast, Nat.zero_add, sok_row, reduceCtorEq]
theorem new_call {s : AS} {fn k n nm : Nat} {cs : List SV} {args l : List AV} {ins : Nat → Option Box} (h : MFun Try.prog fn args k ins (fun v out => v = Sl k 0 n n ∧ out = lk [(k, ⟨true, cs⟩)])) (hp : cs.all SV.plain = true) (r : Nat → Nat) (hfit : Fits s r ins none) (hl : l = args.map (AV.ren r)) {dst : Option Nat} {K : AS → Prop}
    (hk : K ((⟨s.env, upd s.box nm (some ⟨true, cs⟩), s.next⟩ : AS).put dst (some (Sl nm 0 n n)))) : vcCall Try.prog nm fn (some l) dst K s := by
  refine h.vcCall r none hfit hl ?_
  rintro v out ⟨rfl, rfl⟩ _
  rw [after_lk hp]
  have e : AV.ren (rnew r k nm) (Sl k 0 n n) = Sl nm 0 n n := by show Sl (rnew r k nm k) 0 n n = _; rw [rnew_k]
  rw [e]
  exact hk
set_option maxHeartbeats 8000000 in
set_option maxRecDepth 20000 in
theorem ctr_m {n o c : Nat} {K J f : Nat → Int} {cs : List SV} (hK : Byt K) (hJ : Byt J) (hs : Shows cs o n f) (hp : cs.all SV.plain = true) (hn : n ≤ 1048576) :
    MFun Try.prog 9 [Ag (rowI .u8 32 K), Ag (rowI .u8 16 J), Sl 0 o n c] 1 (lk [(0, ⟨false, cs⟩)]) (fun v out => v = Sl 1 0 n n ∧ out = lk [(1, ⟨true, rowI .u8 n (ctrB K J f)⟩)]) := by
  refine mfun_of_vc Try.func9 rfl (by kernel_rfl) (by simp [Try.ntmps9]) Try.callable9 (by simp [AV.ok, CV.ok, SV.names]; exact ⟨ok_all plainI, ok_all plainI⟩) all1 (inn1 hp) ?_
  simp only [Try.results9, sn_upto, sn_from, slN_def, run_cap, rules, rules2, loopRules, Try.facts, base0, Int.toNat_zero, Nat.reduceAdd, Nat.reduceMul, Nat.reduceSub, Nat.reduceLT, Nat.reduceLeDiff, Nat.reduceEqDiff, Int.reduceLE, Int.reduceLT, Int.reduceToNat, Int.reduceNe, Int.reduceEq, not_false_eq_true, Nat.reduceBEq, Nat.reduceDiv, Int.natCast_zero, Int.natCast_one, Int.reduceAdd, Int.reduceSub, reduceIte, ↓reduceIte, Value.oneCell', rowI_length, rowI_take, rowI_splice, rep_all, row_zero, le_nat, Int.toNat_natCast, Nat.zero_add, sok_row, reduceCtorEq]
  refine (tooLong_m hp).vcRead (fun _ => 0) (fits1 (rw := false) (by simp only [upd_apply, sn_upto, sn_from, slN_def, run_cap, rules, rules2, loopRules, Try.facts, base0, Int.toNat_zero, Nat.reduceAdd, Nat.reduceMul, Nat.reduceSub, Nat.reduceLT, Nat.reduceLeDiff, Nat.reduceEqDiff, Int.reduceLE, Int.reduceLT, Int.reduceToNat, Int.reduceNe, Int.reduceEq, not_false_eq_true, Nat.reduceBEq, Nat.reduceDiv, Int.natCast_zero, Int.natCast_one, Int.reduceAdd, Int.reduceSub, reduceIte, ↓reduceIte, Value.oneCell', rowI_length, rowI_take, rowI_splice, rep_all, row_zero, le_nat, Int.toNat_natCast, Nat.zero_add, sok_row, reduceCtorEq]) hp) rfl rfl ?_
  simp only [sn_upto, sn_from, slN_def, run_cap, rules, rules2, loopRules, Try.facts, base0, Int.toNat_zero, Nat.reduceAdd, Nat.reduceMul, Nat.reduceSub, Nat.reduceLT, Nat.reduceLeDiff, Nat.reduceEqDiff, Int.reduceLE, Int.reduceLT, Int.reduceToNat, Int.reduceNe, Int.reduceEq, not_false_eq_true, Nat.reduceBEq, Nat.reduceDiv, Int.natCast_zero, Int.natCast_one, Int.reduceAdd, Int.reduceSub, reduceIte, ↓reduceIte, Value.oneCell', rowI_length, rowI_take, rowI_splice, rep_all, row_zero, le_nat, Int.toNat_natCast, Nat.zero_add, sok_row, reduceCtorEq]
  refine vcIf_no (by simp; omega) ?_
  simp only [sn_upto, sn_from, slN_def, run_cap, rules, rules2, loopRules, Try.facts, base0, Int.toNat_zero, Nat.reduceAdd, Nat.reduceMul, Nat.reduceSub, Nat.reduceLT, Nat.reduceLeDiff, Nat.reduceEqDiff, Int.reduceLE, Int.reduceLT, Int.reduceToNat, Int.reduceNe, Int.reduceEq, not_false_eq_true, Nat.reduceBEq, Nat.reduceDiv, Int.natCast_zero, Int.natCast_one, Int.reduceAdd, Int.reduceSub, reduceIte, ↓reduceIte, Value.oneCell', rowI_length, rowI_take, rowI_splice, rep_all, row_zero, le_nat, Int.toNat_natCast, Nat.zero_add, sok_row, reduceCtorEq]
  refine new_call (xor_m hK hJ hs hp (by omega)) plainI (fun _ => 0) (fits1 (rw := false) (by simp only [upd_apply, sn_upto, sn_from, slN_def, run_cap, rules, rules2, loopRules, Try.facts, base0, Int.toNat_zero, Nat.reduceAdd, Nat.reduceMul, Nat.reduceSub, Nat.reduceLT, Nat.reduceLeDiff, Nat.reduceEqDiff, Int.reduceLE, Int.reduceLT, Int.reduceToNat, Int.reduceNe, Int.reduceEq, not_false_eq_true, Nat.reduceBEq, Nat.reduceDiv, Int.natCast_zero, Int.natCast_one, Int.reduceAdd, Int.reduceSub, reduceIte, ↓reduceIte, Value.oneCell', rowI_length, rowI_take, rowI_splice, rep_all, row_zero, le_nat, Int.toNat_natCast, Nat.zero_add, sok_row, reduceCtorEq]) hp) (by rfl) ?_
  simp only [sn_upto, sn_from, slN_def, run_cap, rules, rules2, loopRules, Try.facts, base0, Int.toNat_zero, Nat.reduceAdd, Nat.reduceMul, Nat.reduceSub, Nat.reduceLT, Nat.reduceLeDiff, Nat.reduceEqDiff, Int.reduceLE, Int.reduceLT, Int.reduceToNat, Int.reduceNe, Int.reduceEq, not_false_eq_true, Nat.reduceBEq, Nat.reduceDiv, Int.natCast_zero, Int.natCast_one, Int.reduceAdd, Int.reduceSub, reduceIte, ↓reduceIte, Value.oneCell', rowI_length, rowI_take, rowI_splice, rep_all, row_zero, le_nat, Int.toNat_natCast, Nat.zero_add, sok_row, reduceCtorEq]
  refine ret_new (k := 1) (cs := rowI .u8 n (ctrB K J f)) (by decide) ?_ plainI ⟨rfl, rfl⟩
  simp only [sn_upto, sn_from, slN_def, run_cap, rules, rules2, loopRules, Try.facts, base0, Int.toNat_zero, Nat.reduceAdd, Nat.reduceMul, Nat.reduceSub, Nat.reduceLT, Nat.reduceLeDiff, Nat.reduceEqDiff, Int.reduceLE, Int.reduceLT, Int.reduceToNat, Int.reduceNe, Int.reduceEq, not_false_eq_true, Nat.reduceBEq, Nat.reduceDiv, Int.natCast_zero, Int.natCast_one, Int.reduceAdd, Int.reduceSub, reduceIte, ↓reduceIte, Value.oneCell', rowI_length, rowI_take, rowI_splice, rep_all, row_zero, le_nat, Int.toNat_natCast, Nat.zero_add, sok_row, reduceCtorEq]
set_option maxHeartbeats 8000000 in
set_option maxRecDepth 20000 in
theorem ctr_big {n o c : Nat} {K J : Nat → Int} {cs : List SV} (hp : cs.all SV.plain = true) (hn : 1048576 < n) :
    MFun Try.prog 9 [Ag (rowI .u8 32 K), Ag (rowI .u8 16 J), Sl 0 o n c] 1 (lk [(0, ⟨false, cs⟩)]) (fun v out => v = V (.slice none 0 0) ∧ out = fun _ => none) := by
  refine mfun_of_vc Try.func9 rfl (by kernel_rfl) (by simp [Try.ntmps9]) Try.callable9 (by simp [AV.ok, CV.ok, SV.names]; exact ⟨ok_all plainI, ok_all plainI⟩) all1 (inn1 hp) ?_
  simp only [Try.results9, sn_upto, sn_from, slN_def, run_cap, rules, rules2, loopRules, Try.facts, base0, Int.toNat_zero, Nat.reduceAdd, Nat.reduceMul, Nat.reduceSub, Nat.reduceLT, Nat.reduceLeDiff, Nat.reduceEqDiff, Int.reduceLE, Int.reduceLT, Int.reduceToNat, Int.reduceNe, Int.reduceEq, not_false_eq_true, Nat.reduceBEq, Nat.reduceDiv, Int.natCast_zero, Int.natCast_one, Int.reduceAdd, Int.reduceSub, reduceIte, ↓reduceIte, Value.oneCell', rowI_length, rowI_take, rowI_splice, rep_all, row_zero, le_nat, Int.toNat_natCast, Nat.zero_add, sok_row, reduceCtorEq]
  refine (tooLong_m hp).vcRead (fun _ => 0) (fits1 (rw := false) (by simp only [upd_apply, sn_upto, sn_from, slN_def, run_cap, rules, rules2, loopRules, Try.facts, base0, Int.toNat_zero, Nat.reduceAdd, Nat.reduceMul, Nat.reduceSub, Nat.reduceLT, Nat.reduceLeDiff, Nat.reduceEqDiff, Int.reduceLE, Int.reduceLT, Int.reduceToNat, Int.reduceNe, Int.reduceEq, not_false_eq_true, Nat.reduceBEq, Nat.reduceDiv, Int.natCast_zero, Int.natCast_one, Int.reduceAdd, Int.reduceSub, reduceIte, ↓reduceIte, Value.oneCell', rowI_length, rowI_take, rowI_splice, rep_all, row_zero, le_nat, Int.toNat_natCast, Nat.zero_add, sok_row, reduceCtorEq]) hp) rfl rfl ?_
  simp only [sn_upto, sn_from, slN_def, run_cap, rules, rules2, loopRules, Try.facts, base0, Int.toNat_zero, Nat.reduceAdd, Nat.reduceMul, Nat.reduceSub, Nat.reduceLT, Nat.reduceLeDiff, Nat.reduceEqDiff, Int.reduceLE, Int.reduceLT, Int.reduceToNat, Int.reduceNe, Int.reduceEq, not_false_eq_true, Nat.reduceBEq, Nat.reduceDiv, Int.natCast_zero, Int.natCast_one, Int.reduceAdd, Int.reduceSub, reduceIte, ↓reduceIte, Value.oneCell', rowI_length, rowI_take, rowI_splice, rep_all, row_zero, le_nat, Int.toNat_natCast, Nat.zero_add, sok_row, reduceCtorEq]
  refine vcIf_yes (by simp; omega) ?_
  simp only [sn_upto, sn_from, slN_def, run_cap, rules, rules2, loopRules, Try.facts, base0, Int.toNat_zero, Nat.reduceAdd, Nat.reduceMul, Nat.reduceSub, Nat.reduceLT, Nat.reduceLeDiff, Nat.reduceEqDiff, Int.reduceLE, Int.reduceLT, Int.reduceToNat, Int.reduceNe, Int.reduceEq, not_false_eq_true, Nat.reduceBEq, Nat.reduceDiv, Int.natCast_zero, Int.natCast_one, Int.reduceAdd, Int.reduceSub, reduceIte, ↓reduceIte, Value.oneCell', rowI_length, rowI_take, rowI_splice, rep_all, row_zero, le_nat, Int.toNat_natCast, Nat.zero_add, sok_row, reduceCtorEq]
  exact ret_plain rfl ⟨rfl, rfl⟩
end Go.Proofs.Ytpplfckcblaoiaa
