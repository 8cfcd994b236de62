/-
  The faces of the hash in the document.
-/
import Derived.Test.YtdbaoohbnenopaaDoorVcgH12
set_option linter.unusedSimpArgs false
set_option linter.unusedVariables false
namespace Go.Proofs.YtdbaoohbnenopaaDoor
open Go.Vcg
theorem refDigest_g {s : AS} {nm k n : Nat} {l : List (Nat × Box)} {v : AV} {f : Nat → Int} (hg : Handed k l) (hf : Byt f) (hv : Arg k l v n f) (hs : ∀ t, t < k → s.box t = lk l t) (hn : n < 100000000) {dst : Option Nat} {K : AS → Prop}
    (hk : K (s.put dst (some (Ag (rowI .u8 32 (shaW kW ivW f n)))))) : vcCall Tryd.prog nm 20 (some [v]) dst K s :=
  (refDigest_m hf hv.at_ hn hv.ok hg.all hg.hinn hg.le).vcRead (fun n => n) (fits_good hg hs) plainI (by simp only [List.map_cons, List.map_nil, hv.id]) hk
theorem refMac_g {s : AS} {nm k n m : Nat} {l : List (Nat × Box)} {va vb : AV} {key f : Nat → Int} (hg : Handed k l) (hkey : Byt key) (hf : Byt f) (ha : Arg k l va n key) (hv : Arg k l vb m f) (hs : ∀ t, t < k → s.box t = lk l t) (hn : n < 90000000) (hm : m < 90000000) {dst : Option Nat} {K : AS → Prop}
    (hk : K (s.put dst (some (Ag (rowI .u8 32 (macW kW ivW key n f m)))))) : vcCall Tryd.prog nm 21 (some [va, vb]) dst K s :=
  (refMac_m hkey hf ha.at_ hv.at_ hn hm ha.ok hv.ok hg.inn hg.all hg.le).vcRead (fun n => n) (fits_good hg hs) plainI (by simp only [List.map_cons, List.map_nil, ha.id, hv.id]) hk
set_option maxHeartbeats 8000000 in
set_option maxRecDepth 20000 in
theorem refSha_m {k n : Nat} {l : List (Nat × Box)} {v : AV} {f : Nat → Int} (hg : Handed k l) (hf : Byt f) (hv : Arg k l v n f) :
    MFun Tryd.prog 9 [v] k (lk l) (fun u out => u = Ag (rowI .u8 32 (shaA n f)) ∧ out = fun _ => none) := by
  refine mfun_of_vc Tryd.func9 rfl (by kernel_rfl) (by simp [Tryd.ntmps9]) Tryd.callable9 (fun u hu => by rw [List.mem_singleton.1 hu]; exact hv.ok) hg.all hg.hinn ?_
  have hlen := at_len hv.at_
  by_cases h : 1048576 < n
  · have d1 : decide (1048576 < (n : Int)) = true := decide_eq_true (by omega)
    have eA : shaA n f = fun _ => 0 := if_pos h
    simp only [Tryd.results9, hlen, d1, eA, row_zero2, sn_upto, sn_from, slN_def, run_cap, rules, rules2, loopRules, Tryd.facts, List.size_toArray, List.getElem?_toArray, List.getElem?_cons_zero, List.getElem?_cons_succ, List.getElem?_nil, List.length_cons, List.length_nil, List.length_singleton, Nat.zero_add, Nat.add_zero, Nat.zero_mul, Nat.mul_one, Nat.le_refl, Int.toNat_zero, and_true, true_and, and_self, List.drop_zero, List.take_zero, List.drop_succ_cons, List.take_succ_cons, List.take_nil, List.drop_nil, List.map_cons, List.map_nil, List.all_cons, List.all_nil, Bool.and_true, List.append_nil, List.nil_append, List.cons_append, List.toList_toArray, ne_eq, not_false_eq_true, Bool.false_eq_true, Nat.reduceAdd, Nat.reduceMul, Nat.reduceSub, Nat.reduceLT, Nat.reduceLeDiff, Nat.reduceEqDiff, Int.reduceLE, Int.reduceLT, Int.reduceToNat, Int.reduceNe, Int.reduceEq, not_false_eq_true, Nat.reduceBEq, Nat.reduceDiv, Int.cast_ofNat_Int, Int.natCast_zero, Int.natCast_one, Int.reduceAdd, Int.reduceSub, reduceIte, ↓reduceIte, Option.getD_none, Option.getD_some, eq_self, Value.oneCell', rowI_length, rowI_take, rowI_splice, rep_all, row_zero, le_nat, Int.toNat_natCast, Nat.zero_add, sok_row, reduceCtorEq]
    exact ret_plain (v := Ag (rowI .u8 32 (fun _ => 0))) plainI ⟨rfl, rfl⟩
  · have d1 : decide (1048576 < (n : Int)) = false := decide_eq_false (by omega)
    have eA : shaA n f = shaW kW ivW f n := if_neg h
    simp only [Tryd.results9, hlen, d1, eA, sn_upto, sn_from, slN_def, run_cap, rules, rules2, loopRules, Tryd.facts, List.size_toArray, List.getElem?_toArray, List.getElem?_cons_zero, List.getElem?_cons_succ, List.getElem?_nil, List.length_cons, List.length_nil, List.length_singleton, Nat.zero_add, Nat.add_zero, Nat.zero_mul, Nat.mul_one, Nat.le_refl, Int.toNat_zero, and_true, true_and, and_self, List.drop_zero, List.take_zero, List.drop_succ_cons, List.take_succ_cons, List.take_nil, List.drop_nil, List.map_cons, List.map_nil, List.all_cons, List.all_nil, Bool.and_true, List.append_nil, List.nil_append, List.cons_append, List.toList_toArray, ne_eq, not_false_eq_true, Bool.false_eq_true, Nat.reduceAdd, Nat.reduceMul, Nat.reduceSub, Nat.reduceLT, Nat.reduceLeDiff, Nat.reduceEqDiff, Int.reduceLE, Int.reduceLT, Int.reduceToNat, Int.reduceNe, Int.reduceEq, not_false_eq_true, Nat.reduceBEq, Nat.reduceDiv, Int.cast_ofNat_Int, Int.natCast_zero, Int.natCast_one, Int.reduceAdd, Int.reduceSub, reduceIte, ↓reduceIte, Option.getD_none, Option.getD_some, eq_self, Value.oneCell', rowI_length, rowI_take, rowI_splice, rep_all, row_zero, le_nat, Int.toNat_natCast, Nat.zero_add, sok_row, reduceCtorEq]
    refine refDigest_g hg hf hv (fun t ht => by simp only [upd]; rw [if_neg (by omega)]) (by omega) ?_
    simp only [sn_upto, sn_from, slN_def, run_cap, rules, rules2, loopRules, Tryd.facts, List.size_toArray, List.getElem?_toArray, List.getElem?_cons_zero, List.getElem?_cons_succ, List.getElem?_nil, List.length_cons, List.length_nil, List.length_singleton, Nat.zero_add, Nat.add_zero, Nat.zero_mul, Nat.mul_one, Nat.le_refl, Int.toNat_zero, and_true, true_and, and_self, List.drop_zero, List.take_zero, List.drop_succ_cons, List.take_succ_cons, List.take_nil, List.drop_nil, List.map_cons, List.map_nil, List.all_cons, List.all_nil, Bool.and_true, List.append_nil, List.nil_append, List.cons_append, List.toList_toArray, ne_eq, not_false_eq_true, Bool.false_eq_true, Nat.reduceAdd, Nat.reduceMul, Nat.reduceSub, Nat.reduceLT, Nat.reduceLeDiff, Nat.reduceEqDiff, Int.reduceLE, Int.reduceLT, Int.reduceToNat, Int.reduceNe, Int.reduceEq, not_false_eq_true, Nat.reduceBEq, Nat.reduceDiv, Int.cast_ofNat_Int, Int.natCast_zero, Int.natCast_one, Int.reduceAdd, Int.reduceSub, reduceIte, ↓reduceIte, Option.getD_none, Option.getD_some, eq_self, Value.oneCell', rowI_length, rowI_take, rowI_splice, rep_all, row_zero, le_nat, Int.toNat_natCast, Nat.zero_add, sok_row, reduceCtorEq]
    exact ret_plain plainI ⟨rfl, rfl⟩
set_option maxHeartbeats 8000000 in
set_option maxRecDepth 20000 in
theorem refHmac_m {k nk m : Nat} {l : List (Nat × Box)} {vk vm : AV} {key f : Nat → Int} (hg : Handed k l) (hkb : Byt key) (hf : Byt f) (hk : Arg k l vk nk key) (hm : Arg k l vm m f) :
    MFun Tryd.prog 10 [vk, vm] k (lk l) (fun u out => u = Ag (rowI .u8 32 (macA nk m key f)) ∧ out = fun _ => none) := by
  refine mfun_of_vc Tryd.func10 rfl (by kernel_rfl) (by simp [Tryd.ntmps10]) Tryd.callable10 (fun u hu => by
    simp only [List.mem_cons, List.not_mem_nil, or_false] at hu
    rcases hu with rfl | rfl
    · exact hk.ok
    · exact hm.ok) hg.all hg.hinn ?_
  have l1 := at_len hk.at_
  have l2 := at_len hm.at_
  by_cases h1 : 1048576 < nk
  · have d1 : decide (1048576 < (nk : Int)) = true := decide_eq_true (by omega)
    have eA : macA nk m key f = fun _ => 0 := if_pos (.inl h1)
    simp only [Tryd.results10, l1, d1, eA, row_zero2, sn_upto, sn_from, slN_def, run_cap, rules, rules2, loopRules, Tryd.facts, List.size_toArray, List.getElem?_toArray, List.getElem?_cons_zero, List.getElem?_cons_succ, List.getElem?_nil, List.length_cons, List.length_nil, List.length_singleton, Nat.zero_add, Nat.add_zero, Nat.zero_mul, Nat.mul_one, Nat.le_refl, Int.toNat_zero, and_true, true_and, and_self, List.drop_zero, List.take_zero, List.drop_succ_cons, List.take_succ_cons, List.take_nil, List.drop_nil, List.map_cons, List.map_nil, List.all_cons, List.all_nil, Bool.and_true, List.append_nil, List.nil_append, List.cons_append, List.toList_toArray, ne_eq, not_false_eq_true, Bool.false_eq_true, Nat.reduceAdd, Nat.reduceMul, Nat.reduceSub, Nat.reduceLT, Nat.reduceLeDiff, Nat.reduceEqDiff, Int.reduceLE, Int.reduceLT, Int.reduceToNat, Int.reduceNe, Int.reduceEq, not_false_eq_true, Nat.reduceBEq, Nat.reduceDiv, Int.cast_ofNat_Int, Int.natCast_zero, Int.natCast_one, Int.reduceAdd, Int.reduceSub, reduceIte, ↓reduceIte, Option.getD_none, Option.getD_some, eq_self, Value.oneCell', rowI_length, rowI_take, rowI_splice, rep_all, row_zero, le_nat, Int.toNat_natCast, Nat.zero_add, sok_row, reduceCtorEq]
    exact ret_plain (v := Ag (rowI .u8 32 (fun _ => 0))) plainI ⟨rfl, rfl⟩
  have d1 : decide (1048576 < (nk : Int)) = false := decide_eq_false (by omega)
  by_cases h2 : 1048576 < m
  · have d2 : decide (1048576 < (m : Int)) = true := decide_eq_true (by omega)
    have eA : macA nk m key f = fun _ => 0 := if_pos (.inr h2)
    simp only [Tryd.results10, l1, l2, d1, d2, eA, row_zero2, sn_upto, sn_from, slN_def, run_cap, rules, rules2, loopRules, Tryd.facts, List.size_toArray, List.getElem?_toArray, List.getElem?_cons_zero, List.getElem?_cons_succ, List.getElem?_nil, List.length_cons, List.length_nil, List.length_singleton, Nat.zero_add, Nat.add_zero, Nat.zero_mul, Nat.mul_one, Nat.le_refl, Int.toNat_zero, and_true, true_and, and_self, List.drop_zero, List.take_zero, List.drop_succ_cons, List.take_succ_cons, List.take_nil, List.drop_nil, List.map_cons, List.map_nil, List.all_cons, List.all_nil, Bool.and_true, List.append_nil, List.nil_append, List.cons_append, List.toList_toArray, ne_eq, not_false_eq_true, Bool.false_eq_true, Nat.reduceAdd, Nat.reduceMul, Nat.reduceSub, Nat.reduceLT, Nat.reduceLeDiff, Nat.reduceEqDiff, Int.reduceLE, Int.reduceLT, Int.reduceToNat, Int.reduceNe, Int.reduceEq, not_false_eq_true, Nat.reduceBEq, Nat.reduceDiv, Int.cast_ofNat_Int, Int.natCast_zero, Int.natCast_one, Int.reduceAdd, Int.reduceSub, reduceIte, ↓reduceIte, Option.getD_none, Option.getD_some, eq_self, Value.oneCell', rowI_length, rowI_take, rowI_splice, rep_all, row_zero, le_nat, Int.toNat_natCast, Nat.zero_add, sok_row, reduceCtorEq]
    exact ret_plain (v := Ag (rowI .u8 32 (fun _ => 0))) plainI ⟨rfl, rfl⟩
  have d2 : decide (1048576 < (m : Int)) = false := decide_eq_false (by omega)
  have eA : macA nk m key f = macW kW ivW key nk f m := if_neg (by omega)
  simp only [Tryd.results10, l1, l2, d1, d2, sn_upto, sn_from, slN_def, run_cap, rules, rules2, loopRules, Tryd.facts, List.size_toArray, List.getElem?_toArray, List.getElem?_cons_zero, List.getElem?_cons_succ, List.getElem?_nil, List.length_cons, List.length_nil, List.length_singleton, Nat.zero_add, Nat.add_zero, Nat.zero_mul, Nat.mul_one, Nat.le_refl, Int.toNat_zero, and_true, true_and, and_self, List.drop_zero, List.take_zero, List.drop_succ_cons, List.take_succ_cons, List.take_nil, List.drop_nil, List.map_cons, List.map_nil, List.all_cons, List.all_nil, Bool.and_true, List.append_nil, List.nil_append, List.cons_append, List.toList_toArray, ne_eq, not_false_eq_true, Bool.false_eq_true, Nat.reduceAdd, Nat.reduceMul, Nat.reduceSub, Nat.reduceLT, Nat.reduceLeDiff, Nat.reduceEqDiff, Int.reduceLE, Int.reduceLT, Int.reduceToNat, Int.reduceNe, Int.reduceEq, not_false_eq_true, Nat.reduceBEq, Nat.reduceDiv, Int.cast_ofNat_Int, Int.natCast_zero, Int.natCast_one, Int.reduceAdd, Int.reduceSub, reduceIte, ↓reduceIte, Option.getD_none, Option.getD_some, eq_self, Value.oneCell', rowI_length, rowI_take, rowI_splice, rep_all, row_zero, le_nat, Int.toNat_natCast, Nat.zero_add, sok_row, reduceCtorEq]
  refine refMac_g hg hkb hf hk hm (fun t ht => by simp only [upd]; rw [if_neg (by omega)]) (by omega) (by omega) ?_
  simp only [← eA, sn_upto, sn_from, slN_def, run_cap, rules, rules2, loopRules, Tryd.facts, List.size_toArray, List.getElem?_toArray, List.getElem?_cons_zero, List.getElem?_cons_succ, List.getElem?_nil, List.length_cons, List.length_nil, List.length_singleton, Nat.zero_add, Nat.add_zero, Nat.zero_mul, Nat.mul_one, Nat.le_refl, Int.toNat_zero, and_true, true_and, and_self, List.drop_zero, List.take_zero, List.drop_succ_cons, List.take_succ_cons, List.take_nil, List.drop_nil, List.map_cons, List.map_nil, List.all_cons, List.all_nil, Bool.and_true, List.append_nil, List.nil_append, List.cons_append, List.toList_toArray, ne_eq, not_false_eq_true, Bool.false_eq_true, Nat.reduceAdd, Nat.reduceMul, Nat.reduceSub, Nat.reduceLT, Nat.reduceLeDiff, Nat.reduceEqDiff, Int.reduceLE, Int.reduceLT, Int.reduceToNat, Int.reduceNe, Int.reduceEq, not_false_eq_true, Nat.reduceBEq, Nat.reduceDiv, Int.cast_ofNat_Int, Int.natCast_zero, Int.natCast_one, Int.reduceAdd, Int.reduceSub, reduceIte, ↓reduceIte, Option.getD_none, Option.getD_some, eq_self, Value.oneCell', rowI_length, rowI_take, rowI_splice, rep_all, row_zero, le_nat, Int.toNat_natCast, Nat.zero_add, sok_row, reduceCtorEq]
  exact ret_plain plainI ⟨rfl, rfl⟩
set_option maxHeartbeats 8000000 in
set_option maxRecDepth 20000 in
theorem refHkdf_bad {k nk m q : Nat} {n : Int} {l : List (Nat × Box)} {vk vm vi : AV} {key f info : Nat → Int} (hg : Handed k l) (hk : Arg k l vk nk key) (hm : Arg k l vm m f) (hi : Arg k l vi q info) (hbad : hkBad n nk m q) :
    MFun Tryd.prog 12 [vk, vm, vi, I .i64 n] k (lk l) (fun v out => v = V (.slice none 0 0) ∧ out = fun _ => none) := by
  refine mfun_of_vc Tryd.func12 rfl (by kernel_rfl) (by simp [Tryd.ntmps12]) Tryd.callable12 (fun u hu => by
    simp only [List.mem_cons, List.not_mem_nil, or_false] at hu
    rcases hu with rfl | rfl | rfl | rfl
    · exact hk.ok
    · exact hm.ok
    · exact hi.ok
    · trivial) hg.all hg.hinn ?_
  have l1 := at_len hk.at_
  have l2 := at_len hm.at_
  have l3 := at_len hi.at_
  simp only [hkBad] at hbad
  by_cases h0 : n < 0
  · have d0 : decide (n < 0) = true := decide_eq_true h0
    simp only [Tryd.results12, d0, sn_upto, sn_from, slN_def, run_cap, rules, rules2, loopRules, Tryd.facts, List.size_toArray, List.getElem?_toArray, List.getElem?_cons_zero, List.getElem?_cons_succ, List.getElem?_nil, List.length_cons, List.length_nil, List.length_singleton, Nat.zero_add, Nat.add_zero, Nat.zero_mul, Nat.mul_one, Nat.le_refl, Int.toNat_zero, and_true, true_and, and_self, List.drop_zero, List.take_zero, List.drop_succ_cons, List.take_succ_cons, List.take_nil, List.drop_nil, List.map_cons, List.map_nil, List.all_cons, List.all_nil, Bool.and_true, List.append_nil, List.nil_append, List.cons_append, List.toList_toArray, ne_eq, not_false_eq_true, Bool.false_eq_true, Nat.reduceAdd, Nat.reduceMul, Nat.reduceSub, Nat.reduceLT, Nat.reduceLeDiff, Nat.reduceEqDiff, Int.reduceLE, Int.reduceLT, Int.reduceToNat, Int.reduceNe, Int.reduceEq, not_false_eq_true, Nat.reduceBEq, Nat.reduceDiv, Int.cast_ofNat_Int, Int.natCast_zero, Int.natCast_one, Int.reduceAdd, Int.reduceSub, reduceIte, ↓reduceIte, Option.getD_none, Option.getD_some, eq_self, Value.oneCell', rowI_length, rowI_take, rowI_splice, rep_all, row_zero, le_nat, Int.toNat_natCast, Nat.zero_add, sok_row, reduceCtorEq]
    exact ret_plain rfl ⟨rfl, rfl⟩
  have d0 : decide (n < 0) = false := decide_eq_false h0
  by_cases h1 : 8160 < n
  · have d1 : decide (8160 < n) = true := decide_eq_true h1
    simp only [Tryd.results12, d0, d1, sn_upto, sn_from, slN_def, run_cap, rules, rules2, loopRules, Tryd.facts, List.size_toArray, List.getElem?_toArray, List.getElem?_cons_zero, List.getElem?_cons_succ, List.getElem?_nil, List.length_cons, List.length_nil, List.length_singleton, Nat.zero_add, Nat.add_zero, Nat.zero_mul, Nat.mul_one, Nat.le_refl, Int.toNat_zero, and_true, true_and, and_self, List.drop_zero, List.take_zero, List.drop_succ_cons, List.take_succ_cons, List.take_nil, List.drop_nil, List.map_cons, List.map_nil, List.all_cons, List.all_nil, Bool.and_true, List.append_nil, List.nil_append, List.cons_append, List.toList_toArray, ne_eq, not_false_eq_true, Bool.false_eq_true, Nat.reduceAdd, Nat.reduceMul, Nat.reduceSub, Nat.reduceLT, Nat.reduceLeDiff, Nat.reduceEqDiff, Int.reduceLE, Int.reduceLT, Int.reduceToNat, Int.reduceNe, Int.reduceEq, not_false_eq_true, Nat.reduceBEq, Nat.reduceDiv, Int.cast_ofNat_Int, Int.natCast_zero, Int.natCast_one, Int.reduceAdd, Int.reduceSub, reduceIte, ↓reduceIte, Option.getD_none, Option.getD_some, eq_self, Value.oneCell', rowI_length, rowI_take, rowI_splice, rep_all, row_zero, le_nat, Int.toNat_natCast, Nat.zero_add, sok_row, reduceCtorEq]
    exact ret_plain rfl ⟨rfl, rfl⟩
  have d1 : decide (8160 < n) = false := decide_eq_false h1
  by_cases h2 : 1048576 < nk
  · have d2 : decide (1048576 < (nk : Int)) = true := decide_eq_true (by omega)
    simp only [Tryd.results12, d0, d1, l1, d2, sn_upto, sn_from, slN_def, run_cap, rules, rules2, loopRules, Tryd.facts, List.size_toArray, List.getElem?_toArray, List.getElem?_cons_zero, List.getElem?_cons_succ, List.getElem?_nil, List.length_cons, List.length_nil, List.length_singleton, Nat.zero_add, Nat.add_zero, Nat.zero_mul, Nat.mul_one, Nat.le_refl, Int.toNat_zero, and_true, true_and, and_self, List.drop_zero, List.take_zero, List.drop_succ_cons, List.take_succ_cons, List.take_nil, List.drop_nil, List.map_cons, List.map_nil, List.all_cons, List.all_nil, Bool.and_true, List.append_nil, List.nil_append, List.cons_append, List.toList_toArray, ne_eq, not_false_eq_true, Bool.false_eq_true, Nat.reduceAdd, Nat.reduceMul, Nat.reduceSub, Nat.reduceLT, Nat.reduceLeDiff, Nat.reduceEqDiff, Int.reduceLE, Int.reduceLT, Int.reduceToNat, Int.reduceNe, Int.reduceEq, not_false_eq_true, Nat.reduceBEq, Nat.reduceDiv, Int.cast_ofNat_Int, Int.natCast_zero, Int.natCast_one, Int.reduceAdd, Int.reduceSub, reduceIte, ↓reduceIte, Option.getD_none, Option.getD_some, eq_self, Value.oneCell', rowI_length, rowI_take, rowI_splice, rep_all, row_zero, le_nat, Int.toNat_natCast, Nat.zero_add, sok_row, reduceCtorEq]
    exact ret_plain rfl ⟨rfl, rfl⟩
  have d2 : decide (1048576 < (nk : Int)) = false := decide_eq_false (by omega)
  by_cases h3 : 1048576 < m
  · have d3 : decide (1048576 < (m : Int)) = true := decide_eq_true (by omega)
    simp only [Tryd.results12, d0, d1, l1, d2, l2, d3, sn_upto, sn_from, slN_def, run_cap, rules, rules2, loopRules, Tryd.facts, List.size_toArray, List.getElem?_toArray, List.getElem?_cons_zero, List.getElem?_cons_succ, List.getElem?_nil, List.length_cons, List.length_nil, List.length_singleton, Nat.zero_add, Nat.add_zero, Nat.zero_mul, Nat.mul_one, Nat.le_refl, Int.toNat_zero, and_true, true_and, and_self, List.drop_zero, List.take_zero, List.drop_succ_cons, List.take_succ_cons, List.take_nil, List.drop_nil, List.map_cons, List.map_nil, List.all_cons, List.all_nil, Bool.and_true, List.append_nil, List.nil_append, List.cons_append, List.toList_toArray, ne_eq, not_false_eq_true, Bool.false_eq_true, Nat.reduceAdd, Nat.reduceMul, Nat.reduceSub, Nat.reduceLT, Nat.reduceLeDiff, Nat.reduceEqDiff, Int.reduceLE, Int.reduceLT, Int.reduceToNat, Int.reduceNe, Int.reduceEq, not_false_eq_true, Nat.reduceBEq, Nat.reduceDiv, Int.cast_ofNat_Int, Int.natCast_zero, Int.natCast_one, Int.reduceAdd, Int.reduceSub, reduceIte, ↓reduceIte, Option.getD_none, Option.getD_some, eq_self, Value.oneCell', rowI_length, rowI_take, rowI_splice, rep_all, row_zero, le_nat, Int.toNat_natCast, Nat.zero_add, sok_row, reduceCtorEq]
    exact ret_plain rfl ⟨rfl, rfl⟩
  have d3 : decide (1048576 < (m : Int)) = false := decide_eq_false (by omega)
  have d4 : decide (1048576 < (q : Int)) = true := decide_eq_true (by omega)
  simp only [Tryd.results12, d0, d1, l1, d2, l2, d3, l3, d4, sn_upto, sn_from, slN_def, run_cap, rules, rules2, loopRules, Tryd.facts, List.size_toArray, List.getElem?_toArray, List.getElem?_cons_zero, List.getElem?_cons_succ, List.getElem?_nil, List.length_cons, List.length_nil, List.length_singleton, Nat.zero_add, Nat.add_zero, Nat.zero_mul, Nat.mul_one, Nat.le_refl, Int.toNat_zero, and_true, true_and, and_self, List.drop_zero, List.take_zero, List.drop_succ_cons, List.take_succ_cons, List.take_nil, List.drop_nil, List.map_cons, List.map_nil, List.all_cons, List.all_nil, Bool.and_true, List.append_nil, List.nil_append, List.cons_append, List.toList_toArray, ne_eq, not_false_eq_true, Bool.false_eq_true, Nat.reduceAdd, Nat.reduceMul, Nat.reduceSub, Nat.reduceLT, Nat.reduceLeDiff, Nat.reduceEqDiff, Int.reduceLE, Int.reduceLT, Int.reduceToNat, Int.reduceNe, Int.reduceEq, not_false_eq_true, Nat.reduceBEq, Nat.reduceDiv, Int.cast_ofNat_Int, Int.natCast_zero, Int.natCast_one, Int.reduceAdd, Int.reduceSub, reduceIte, ↓reduceIte, Option.getD_none, Option.getD_some, eq_self, Value.oneCell', rowI_length, rowI_take, rowI_splice, rep_all, row_zero, le_nat, Int.toNat_natCast, Nat.zero_add, sok_row, reduceCtorEq]
  exact ret_plain rfl ⟨rfl, rfl⟩
set_option maxHeartbeats 8000000 in
set_option maxRecDepth 20000 in
theorem refHkdf_m {k nk m q N : Nat} {l : List (Nat × Box)} {vk vm vi : AV} {salt f info : Nat → Int} (hg : Handed k l) (hkb : Byt salt) (hf : Byt f) (hib : Byt info) (hk : Arg k l vk nk salt) (hm : Arg k l vm m f) (hi : Arg k l vi q info) (hbad : ¬ hkBad N nk m q) :
    MFun Tryd.prog 12 [vk, vm, vi, I .i64 N] k (lk l) (Made k N (okmW kW ivW (macW kW ivW salt nk f m) info q)) := by
  refine mfun_of_vc Tryd.func12 rfl (by kernel_rfl) (by simp [Tryd.ntmps12]) Tryd.callable12 (fun u hu => by
    simp only [List.mem_cons, List.not_mem_nil, or_false] at hu
    rcases hu with rfl | rfl | rfl | rfl
    · exact hk.ok
    · exact hm.ok
    · exact hi.ok
    · trivial) hg.all hg.hinn ?_
  have l1 := at_len hk.at_
  have l2 := at_len hm.at_
  have l3 := at_len hi.at_
  simp only [hkBad] at hbad
  have d0 : decide ((N : Int) < 0) = false := decide_eq_false (by omega)
  have d1 : decide (8160 < (N : Int)) = false := decide_eq_false (by omega)
  have d2 : decide (1048576 < (nk : Int)) = false := decide_eq_false (by omega)
  have d3 : decide (1048576 < (m : Int)) = false := decide_eq_false (by omega)
  have d4 : decide (1048576 < (q : Int)) = false := decide_eq_false (by omega)
  simp only [Tryd.results12, d0, d1, l1, d2, l2, d3, l3, d4, sn_upto, sn_from, slN_def, run_cap, rules, rules2, loopRules, Tryd.facts, List.size_toArray, List.getElem?_toArray, List.getElem?_cons_zero, List.getElem?_cons_succ, List.getElem?_nil, List.length_cons, List.length_nil, List.length_singleton, Nat.zero_add, Nat.add_zero, Nat.zero_mul, Nat.mul_one, Nat.le_refl, Int.toNat_zero, and_true, true_and, and_self, List.drop_zero, List.take_zero, List.drop_succ_cons, List.take_succ_cons, List.take_nil, List.drop_nil, List.map_cons, List.map_nil, List.all_cons, List.all_nil, Bool.and_true, List.append_nil, List.nil_append, List.cons_append, List.toList_toArray, ne_eq, not_false_eq_true, Bool.false_eq_true, Nat.reduceAdd, Nat.reduceMul, Nat.reduceSub, Nat.reduceLT, Nat.reduceLeDiff, Nat.reduceEqDiff, Int.reduceLE, Int.reduceLT, Int.reduceToNat, Int.reduceNe, Int.reduceEq, not_false_eq_true, Nat.reduceBEq, Nat.reduceDiv, Int.cast_ofNat_Int, Int.natCast_zero, Int.natCast_one, Int.reduceAdd, Int.reduceSub, reduceIte, ↓reduceIte, Option.getD_none, Option.getD_some, eq_self, Value.oneCell', rowI_length, rowI_take, rowI_splice, rep_all, row_zero, le_nat, Int.toNat_natCast, Nat.zero_add, sok_row, reduceCtorEq]
  refine refMac_g hg hkb hf hk hm (fun t ht => rfl) (by omega) (by omega) ?_
  obtain ⟨p, hpE⟩ : ∃ p, macW kW ivW salt nk f m = p := ⟨_, rfl⟩
  have hpb : Byt p := by rw [← hpE]; exact macW_byt _ _ _ _ _ _
  rw [hpE]
  have w1 : IntKind.i64.wrap ((N : Int) + 31) = ((N + 31 : Nat) : Int) := by rw [wrap_i64 _ (by omega) (by omega)]; omega
  have q1 := quoN (N + 31) 32 (by omega)
  rw [show ((32 : Nat) : Int) = 32 from rfl] at q1
  simp only [w1, q1, sn_upto, sn_from, slN_def, run_cap, rules, rules2, loopRules, Tryd.facts, List.size_toArray, List.getElem?_toArray, List.getElem?_cons_zero, List.getElem?_cons_succ, List.getElem?_nil, List.length_cons, List.length_nil, List.length_singleton, Nat.zero_add, Nat.add_zero, Nat.zero_mul, Nat.mul_one, Nat.le_refl, Int.toNat_zero, and_true, true_and, and_self, List.drop_zero, List.take_zero, List.drop_succ_cons, List.take_succ_cons, List.take_nil, List.drop_nil, List.map_cons, List.map_nil, List.all_cons, List.all_nil, Bool.and_true, List.append_nil, List.nil_append, List.cons_append, List.toList_toArray, ne_eq, not_false_eq_true, Bool.false_eq_true, Nat.reduceAdd, Nat.reduceMul, Nat.reduceSub, Nat.reduceLT, Nat.reduceLeDiff, Nat.reduceEqDiff, Int.reduceLE, Int.reduceLT, Int.reduceToNat, Int.reduceNe, Int.reduceEq, not_false_eq_true, Nat.reduceBEq, Nat.reduceDiv, Int.cast_ofNat_Int, Int.natCast_zero, Int.natCast_one, Int.reduceAdd, Int.reduceSub, reduceIte, ↓reduceIte, Option.getD_none, Option.getD_some, eq_self, Value.oneCell', rowI_length, rowI_take, rowI_splice, rep_all, row_zero, le_nat, Int.toNat_natCast, Nat.zero_add, sok_row, reduceCtorEq]
  have fin : ∀ (c1 : Nat) (tail1 : List SV), 32 * ((N + 31) / 32) ≤ c1 → tail1.length = c1 - 32 * ((N + 31) / 32) → tail1.all SV.plain = true → N ≤ c1 ∧ Grows (rowI .u8 (32 * ((N + 31) / 32)) (okmW kW ivW p info q) ++ tail1) 0 N c1 (okmW kW ivW p info q) := fun c1 tail1 h1 h2 h3 => by
    have hg := Grows.row (f := okmW kW ivW p info q) h1 h2 h3
    exact ⟨by omega, hg.len, by omega, hg.plain, shows_mono hg.shows (by omega)⟩
  rcases hi.at_ with ⟨⟨a, rfl⟩, hq0⟩ | ⟨t, o, c, rw, es, rfl, hb, hr, hs⟩
  · refine made_call (refParts_m (k := 0) (l := []) (vi := V (.slice a 0 0)) hpb hib (.inl ⟨rfl, rfl, ⟨a, rfl⟩, hq0⟩) (by omega) ((N + 31) / 32) (by omega)) (fun n => n) fits0 (by simp only [List.map_cons, List.map_nil, ren_row, ren_i, ren_v]) ?_
    intro c1 tail1 h1 h2 h3
    obtain ⟨hc, hg⟩ := fin c1 tail1 h1 h2 h3
    have a1 : ((N : Int) ≤ (c1 : Int)) = True := eq_true (by omega)
    simp only [a1, nat_nn, sn_upto, sn_from, slN_def, run_cap, rules, rules2, loopRules, Tryd.facts, List.size_toArray, List.getElem?_toArray, List.getElem?_cons_zero, List.getElem?_cons_succ, List.getElem?_nil, List.length_cons, List.length_nil, List.length_singleton, Nat.zero_add, Nat.add_zero, Nat.zero_mul, Nat.mul_one, Nat.le_refl, Int.toNat_zero, and_true, true_and, and_self, List.drop_zero, List.take_zero, List.drop_succ_cons, List.take_succ_cons, List.take_nil, List.drop_nil, List.map_cons, List.map_nil, List.all_cons, List.all_nil, Bool.and_true, List.append_nil, List.nil_append, List.cons_append, List.toList_toArray, ne_eq, not_false_eq_true, Bool.false_eq_true, Nat.reduceAdd, Nat.reduceMul, Nat.reduceSub, Nat.reduceLT, Nat.reduceLeDiff, Nat.reduceEqDiff, Int.reduceLE, Int.reduceLT, Int.reduceToNat, Int.reduceNe, Int.reduceEq, not_false_eq_true, Nat.reduceBEq, Nat.reduceDiv, Int.cast_ofNat_Int, Int.natCast_zero, Int.natCast_one, Int.reduceAdd, Int.reduceSub, reduceIte, ↓reduceIte, Option.getD_none, Option.getD_some, eq_self, Value.oneCell', rowI_length, rowI_take, rowI_splice, rep_all, row_zero, le_nat, Int.toNat_natCast, Nat.zero_add, sok_row, reduceCtorEq]
    exact ret_grows (by omega) hg (by simp only [upd_same]) rfl
  · have ht : t < k := hi.ok
    refine made_call (refParts_m (k := 1) (l := [(0, ⟨false, es⟩)]) (vi := Sl 0 o q c) hpb hib (.inr ⟨rfl, o, c, es, rfl, rfl, hr, hs⟩) (by omega) ((N + 31) / 32) (by omega)) (fun _ => t) (fits1 (rw := rw) (by simp only [upd]; rw [if_neg (by omega), if_neg (by omega)]; exact hb) hr) (by simp only [List.map_cons, List.map_nil, ren_row, ren_i, ren_s]) ?_
    intro c1 tail1 h1 h2 h3
    obtain ⟨hc, hg⟩ := fin c1 tail1 h1 h2 h3
    have a1 : ((N : Int) ≤ (c1 : Int)) = True := eq_true (by omega)
    simp only [a1, nat_nn, sn_upto, sn_from, slN_def, run_cap, rules, rules2, loopRules, Tryd.facts, List.size_toArray, List.getElem?_toArray, List.getElem?_cons_zero, List.getElem?_cons_succ, List.getElem?_nil, List.length_cons, List.length_nil, List.length_singleton, Nat.zero_add, Nat.add_zero, Nat.zero_mul, Nat.mul_one, Nat.le_refl, Int.toNat_zero, and_true, true_and, and_self, List.drop_zero, List.take_zero, List.drop_succ_cons, List.take_succ_cons, List.take_nil, List.drop_nil, List.map_cons, List.map_nil, List.all_cons, List.all_nil, Bool.and_true, List.append_nil, List.nil_append, List.cons_append, List.toList_toArray, ne_eq, not_false_eq_true, Bool.false_eq_true, Nat.reduceAdd, Nat.reduceMul, Nat.reduceSub, Nat.reduceLT, Nat.reduceLeDiff, Nat.reduceEqDiff, Int.reduceLE, Int.reduceLT, Int.reduceToNat, Int.reduceNe, Int.reduceEq, not_false_eq_true, Nat.reduceBEq, Nat.reduceDiv, Int.cast_ofNat_Int, Int.natCast_zero, Int.natCast_one, Int.reduceAdd, Int.reduceSub, reduceIte, ↓reduceIte, Option.getD_none, Option.getD_some, eq_self, Value.oneCell', rowI_length, rowI_take, rowI_splice, rep_all, row_zero, le_nat, Int.toNat_natCast, Nat.zero_add, sok_row, reduceCtorEq]
    exact ret_grows (by omega) hg (by simp only [upd_same]) rfl
end Go.Proofs.YtdbaoohbnenopaaDoor
