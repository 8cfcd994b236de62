/-
  Functions of the cipher, of the program and of the document.
-/
import Derived.Test.YtpplfckcblaoiaaVcgR4
set_option linter.unusedVariables false
set_option linter.unusedSimpArgs false
namespace Go.Proofs.Ytpplfckcblaoiaa
open Go.Vcg
/-! ### Fermat's power and the document's ladder -/
def fermN (z : Nat → Int) : Nat → Nat → Int
  | 0 => oneN
  | n + 1 => if n = 252 ∨ n = 250 then timesN (fermN z n) (fermN z n) else timesN (timesN (fermN z n) (fermN z n)) z
theorem fermN_dig (z : Nat → Int) (hz : Dig z) : ∀ n, Dig (fermN z n)
  | 0 => oneN_dig
  | n + 1 => by
    have ih := fermN_dig z hz n
    rw [fermN]; split
    · exact timesN_dig ih ih
    · exact timesN_dig (timesN_dig ih ih) hz
set_option maxHeartbeats 2000000 in
set_option maxRecDepth 20000 in
theorem fermat_fun (z : Nat → Int) (hz : Dig z) : ∀ n : Nat, n ≤ 255 → Fun Try.prog 23 [Ag (rowI .u64 16 z), I .i64 ((n : Int) - 1)] (Ag (rowI .u64 16 (fermN z n)))
  | 0, _ => by
    refine fun_of_vc Try.func23 rfl (by kernel_rfl) (by simp [Try.ntmps23]) rfl rfl ?_
    simp only [Try.results23, R64_length, R64_take, R64_0, R64_1, R64_2, R64_3, R64_z, R64_s, R64_s0, R64_s1, R64_s2, R64_s3, row_zero2, R64_sok, sn_upto, sn_from, slN_def, run_cap, rules, rules2, loopRules, Try.facts, base0, Int.toNat_zero, Nat.reduceAdd, Nat.reduceMul, Nat.reduceSub, Nat.reduceLT, Nat.reduceLeDiff, Nat.reduceEqDiff, Int.reduceLE, Int.reduceLT, Int.reduceToNat, Int.reduceNe, Int.reduceEq, not_false_eq_true, Nat.reduceBEq, Nat.reduceDiv, Int.natCast_zero, Int.natCast_one, Int.reduceAdd, Int.reduceSub, reduceIte, ↓reduceIte, Value.oneCell', rowI_length, rowI_take, rowI_splice, rep_all, row_zero, le_nat, Int.toNat_natCast, Nat.zero_add, sok_row, reduceCtorEq]
    refine vcIf_yes (by decide) ?_
    simp only [rowI_splice1 .u64 16 _ 0 (by omega), R64_length, R64_take, R64_0, R64_1, R64_2, R64_3, R64_z, R64_s, R64_s0, R64_s1, R64_s2, R64_s3, row_zero2, R64_sok, sn_upto, sn_from, slN_def, run_cap, rules, rules2, loopRules, Try.facts, base0, Int.toNat_zero, Nat.reduceAdd, Nat.reduceMul, Nat.reduceSub, Nat.reduceLT, Nat.reduceLeDiff, Nat.reduceEqDiff, Int.reduceLE, Int.reduceLT, Int.reduceToNat, Int.reduceNe, Int.reduceEq, not_false_eq_true, Nat.reduceBEq, Nat.reduceDiv, Int.natCast_zero, Int.natCast_one, Int.reduceAdd, Int.reduceSub, reduceIte, ↓reduceIte, Value.oneCell', rowI_length, rowI_take, rowI_splice, rep_all, row_zero, le_nat, Int.toNat_natCast, Nat.zero_add, sok_row, reduceCtorEq]
    rfl
  | n + 1, hn => by
    have ih := fermat_fun z hz n (by omega)
    have hd := fermN_dig z hz n
    have hq := timesN_dig hd hd
    have e1 : (((n + 1 : Nat) : Int) - 1) = (n : Int) := by omega
    have e2 : IntKind.i64.wrap ((n : Int) - 1) = (n : Int) - 1 := wrap_i64 _ (by omega) (by omega)
    have e3 : IntKind.i64.wrap ((254 : Int) - n) = (254 : Int) - n := wrap_i64 _ (by omega) (by omega)
    rw [e1]
    refine fun_of_vc Try.func23 rfl (by kernel_rfl) (by simp [Try.ntmps23]) rfl rfl ?_
    simp only [Try.results23, R64_length, R64_take, R64_0, R64_1, R64_2, R64_3, R64_z, R64_s, R64_s0, R64_s1, R64_s2, R64_s3, row_zero2, R64_sok, sn_upto, sn_from, slN_def, run_cap, rules, rules2, loopRules, Try.facts, base0, Int.toNat_zero, Nat.reduceAdd, Nat.reduceMul, Nat.reduceSub, Nat.reduceLT, Nat.reduceLeDiff, Nat.reduceEqDiff, Int.reduceLE, Int.reduceLT, Int.reduceToNat, Int.reduceNe, Int.reduceEq, not_false_eq_true, Nat.reduceBEq, Nat.reduceDiv, Int.natCast_zero, Int.natCast_one, Int.reduceAdd, Int.reduceSub, reduceIte, ↓reduceIte, Value.oneCell', rowI_length, rowI_take, rowI_splice, rep_all, row_zero, le_nat, Int.toNat_natCast, Nat.zero_add, sok_row, reduceCtorEq]
    refine vcIf_no (by simp) ?_
    simp only [e2, R64_length, R64_take, R64_0, R64_1, R64_2, R64_3, R64_z, R64_s, R64_s0, R64_s1, R64_s2, R64_s3, row_zero2, R64_sok, sn_upto, sn_from, slN_def, run_cap, rules, rules2, loopRules, Try.facts, base0, Int.toNat_zero, Nat.reduceAdd, Nat.reduceMul, Nat.reduceSub, Nat.reduceLT, Nat.reduceLeDiff, Nat.reduceEqDiff, Int.reduceLE, Int.reduceLT, Int.reduceToNat, Int.reduceNe, Int.reduceEq, not_false_eq_true, Nat.reduceBEq, Nat.reduceDiv, Int.natCast_zero, Int.natCast_one, Int.reduceAdd, Int.reduceSub, reduceIte, ↓reduceIte, Value.oneCell', rowI_length, rowI_take, rowI_splice, rep_all, row_zero, le_nat, Int.toNat_natCast, Nat.zero_add, sok_row, reduceCtorEq]
    refine ih.vcCall ?_
    simp only [R64_length, R64_take, R64_0, R64_1, R64_2, R64_3, R64_z, R64_s, R64_s0, R64_s1, R64_s2, R64_s3, row_zero2, R64_sok, sn_upto, sn_from, slN_def, run_cap, rules, rules2, loopRules, Try.facts, base0, Int.toNat_zero, Nat.reduceAdd, Nat.reduceMul, Nat.reduceSub, Nat.reduceLT, Nat.reduceLeDiff, Nat.reduceEqDiff, Int.reduceLE, Int.reduceLT, Int.reduceToNat, Int.reduceNe, Int.reduceEq, not_false_eq_true, Nat.reduceBEq, Nat.reduceDiv, Int.natCast_zero, Int.natCast_one, Int.reduceAdd, Int.reduceSub, reduceIte, ↓reduceIte, Value.oneCell', rowI_length, rowI_take, rowI_splice, rep_all, row_zero, le_nat, Int.toNat_natCast, Nat.zero_add, sok_row, reduceCtorEq]
    refine (times_fun _ _ hd hd).vcCall ?_
    by_cases h2 : n = 252
    · have t2 : ((254 : Int) - n == 2) = true := by simp; omega
      simp only [e3, t2, R64_length, R64_take, R64_0, R64_1, R64_2, R64_3, R64_z, R64_s, R64_s0, R64_s1, R64_s2, R64_s3, row_zero2, R64_sok, sn_upto, sn_from, slN_def, run_cap, rules, rules2, loopRules, Try.facts, base0, Int.toNat_zero, Nat.reduceAdd, Nat.reduceMul, Nat.reduceSub, Nat.reduceLT, Nat.reduceLeDiff, Nat.reduceEqDiff, Int.reduceLE, Int.reduceLT, Int.reduceToNat, Int.reduceNe, Int.reduceEq, not_false_eq_true, Nat.reduceBEq, Nat.reduceDiv, Int.natCast_zero, Int.natCast_one, Int.reduceAdd, Int.reduceSub, reduceIte, ↓reduceIte, Value.oneCell', rowI_length, rowI_take, rowI_splice, rep_all, row_zero, le_nat, Int.toNat_natCast, Nat.zero_add, sok_row, reduceCtorEq]
      rw [fermN, if_pos (Or.inl h2)]
    · have t2 : ((254 : Int) - n == 2) = false := by simp; omega
      by_cases h4 : n = 250
      · have t4 : ((254 : Int) - n == 4) = true := by simp; omega
        simp only [e3, t2, t4, R64_length, R64_take, R64_0, R64_1, R64_2, R64_3, R64_z, R64_s, R64_s0, R64_s1, R64_s2, R64_s3, row_zero2, R64_sok, sn_upto, sn_from, slN_def, run_cap, rules, rules2, loopRules, Try.facts, base0, Int.toNat_zero, Nat.reduceAdd, Nat.reduceMul, Nat.reduceSub, Nat.reduceLT, Nat.reduceLeDiff, Nat.reduceEqDiff, Int.reduceLE, Int.reduceLT, Int.reduceToNat, Int.reduceNe, Int.reduceEq, not_false_eq_true, Nat.reduceBEq, Nat.reduceDiv, Int.natCast_zero, Int.natCast_one, Int.reduceAdd, Int.reduceSub, reduceIte, ↓reduceIte, Value.oneCell', rowI_length, rowI_take, rowI_splice, rep_all, row_zero, le_nat, Int.toNat_natCast, Nat.zero_add, sok_row, reduceCtorEq]
        rw [fermN, if_pos (Or.inr h4)]
      · have t4 : ((254 : Int) - n == 4) = false := by simp; omega
        simp only [e3, t2, t4, R64_length, R64_take, R64_0, R64_1, R64_2, R64_3, R64_z, R64_s, R64_s0, R64_s1, R64_s2, R64_s3, row_zero2, R64_sok, sn_upto, sn_from, slN_def, run_cap, rules, rules2, loopRules, Try.facts, base0, Int.toNat_zero, Nat.reduceAdd, Nat.reduceMul, Nat.reduceSub, Nat.reduceLT, Nat.reduceLeDiff, Nat.reduceEqDiff, Int.reduceLE, Int.reduceLT, Int.reduceToNat, Int.reduceNe, Int.reduceEq, not_false_eq_true, Nat.reduceBEq, Nat.reduceDiv, Int.natCast_zero, Int.natCast_one, Int.reduceAdd, Int.reduceSub, reduceIte, ↓reduceIte, Value.oneCell', rowI_length, rowI_take, rowI_splice, rep_all, row_zero, le_nat, Int.toNat_natCast, Nat.zero_add, sok_row, reduceCtorEq]
        refine (times_fun _ _ hq hz).vcCall ?_
        simp only [R64_length, R64_take, R64_0, R64_1, R64_2, R64_3, R64_z, R64_s, R64_s0, R64_s1, R64_s2, R64_s3, row_zero2, R64_sok, sn_upto, sn_from, slN_def, run_cap, rules, rules2, loopRules, Try.facts, base0, Int.toNat_zero, Nat.reduceAdd, Nat.reduceMul, Nat.reduceSub, Nat.reduceLT, Nat.reduceLeDiff, Nat.reduceEqDiff, Int.reduceLE, Int.reduceLT, Int.reduceToNat, Int.reduceNe, Int.reduceEq, not_false_eq_true, Nat.reduceBEq, Nat.reduceDiv, Int.natCast_zero, Int.natCast_one, Int.reduceAdd, Int.reduceSub, reduceIte, ↓reduceIte, Value.oneCell', rowI_length, rowI_take, rowI_splice, rep_all, row_zero, le_nat, Int.toNat_natCast, Nat.zero_add, sok_row, reduceCtorEq]
        rw [fermN, if_neg (by omega)]
theorem bit_ref (K : Nat → Int) (hK : By K) (t : Nat) : ((shrI .u8 (K (t / 8)) ((t % 8 : Nat) : Int)).tmod 2 == 0) = !bitOf K t := by
  have h := hK (t / 8)
  rw [shrI_eq .u8 _ _ (by simp [IntKind.bits]; omega)]
  have hd := div_two_pow h.1 (t % 8)
  rw [Int.tmod_eq_emod_of_nonneg hd.1]
  simp only [bitOf]
  by_cases he : K (t / 8) / 2 ^ (t % 8) % 2 = 1
  · simp [he]
  · have : K (t / 8) / 2 ^ (t % 8) % 2 = 0 := by omega
    simp [this]
structure N4 where
  a : Nat → Int
  b : Nat → Int
  c : Nat → Int
  d : Nat → Int
def N4.l (r : N4) : List SV := R64 r.a r.b r.c r.d
structure N4.Dig (r : N4) : Prop where
  a : Proofs.Ytpplfckcblaoiaa.Dig r.a
  b : Proofs.Ytpplfckcblaoiaa.Dig r.b
  c : Proofs.Ytpplfckcblaoiaa.Dig r.c
  d : Proofs.Ytpplfckcblaoiaa.Dig r.d
def rungS (s : Bool) (u : Nat → Int) (r : N4) : N4 :=
  if s then ⟨timesN (sumX r.a r.b r.c r.d) (sumX r.a r.b r.c r.d), timesN u (timesN (sumZ r.a r.b r.c r.d) (sumZ r.a r.b r.c r.d)), dblX r.c r.d, dblZ r.c r.d⟩
  else ⟨dblX r.a r.b, dblZ r.a r.b, timesN (sumX r.a r.b r.c r.d) (sumX r.a r.b r.c r.d), timesN u (timesN (sumZ r.a r.b r.c r.d) (sumZ r.a r.b r.c r.d))⟩
theorem sumX_dig {a b c d : Nat → Int} (ha : Dig a) (hb : Dig b) (hc : Dig c) (hd : Dig d) : Dig (sumX a b c d) :=
  plusN_dig (timesN_dig (minusN_dig hc hd) (plusN_dig ha hb)) (timesN_dig (plusN_dig hc hd) (minusN_dig ha hb))
theorem sumZ_dig {a b c d : Nat → Int} (ha : Dig a) (hb : Dig b) (hc : Dig c) (hd : Dig d) : Dig (sumZ a b c d) :=
  minusN_dig (timesN_dig (minusN_dig hc hd) (plusN_dig ha hb)) (timesN_dig (plusN_dig hc hd) (minusN_dig ha hb))
theorem dblE_dig {x z : Nat → Int} (hx : Dig x) (hz : Dig z) : Dig (dblE x z) :=
  minusN_dig (timesN_dig (plusN_dig hx hz) (plusN_dig hx hz)) (timesN_dig (minusN_dig hx hz) (minusN_dig hx hz))
theorem dblX_dig {x z : Nat → Int} (hx : Dig x) (hz : Dig z) : Dig (dblX x z) :=
  timesN_dig (timesN_dig (plusN_dig hx hz) (plusN_dig hx hz)) (timesN_dig (minusN_dig hx hz) (minusN_dig hx hz))
theorem dblZ_dig {x z : Nat → Int} (hx : Dig x) (hz : Dig z) : Dig (dblZ x z) :=
  timesN_dig (dblE_dig hx hz) (plusN_dig (timesN_dig (plusN_dig hx hz) (plusN_dig hx hz)) (timesN_dig cN_dig (dblE_dig hx hz)))
theorem rungS_dig (s : Bool) (u : Nat → Int) (r : N4) (hu : Dig u) (h : r.Dig) : (rungS s u r).Dig := by
  obtain ⟨ha, hb, hc, hd⟩ := h
  have hx := sumX_dig ha hb hc hd
  have hz := sumZ_dig ha hb hc hd
  cases s
  · exact ⟨dblX_dig ha hb, dblZ_dig ha hb, timesN_dig hx hx, timesN_dig hu (timesN_dig hz hz)⟩
  · exact ⟨timesN_dig hx hx, timesN_dig hu (timesN_dig hz hz), dblX_dig hc hd, dblZ_dig hc hd⟩
def rungN (K u : Nat → Int) : Nat → N4
  | 0 => ⟨oneN, zN, u, oneN⟩
  | n + 1 => rungS (bitOf K (254 - n)) u (rungN K u n)
theorem rungN_dig (K u : Nat → Int) (hu : Dig u) : ∀ n, (rungN K u n).Dig
  | 0 => ⟨oneN_dig, zN_dig, hu, oneN_dig⟩
  | n + 1 => rungS_dig _ _ _ hu (rungN_dig K u hu n)
set_option maxHeartbeats 2000000 in
set_option maxRecDepth 20000 in
theorem rungs_fun (K u : Nat → Int) (hK : By K) (hu : Dig u) : ∀ n : Nat, n ≤ 255 → Fun Try.prog 22 [Ag (rowI .u64 16 u), Ag (rowI .u8 32 K), I .i64 (255 - (n : Int))] (Ag (rungN K u n).l)
  | 0, _ => by
    simp only [N4.l, rungN]
    refine fun_of_vc Try.func22 rfl (by kernel_rfl) (by simp [Try.ntmps22]) rfl rfl ?_
    simp only [Try.results22, R64_length, R64_take, R64_0, R64_1, R64_2, R64_3, R64_z, R64_s, R64_s0, R64_s1, R64_s2, R64_s3, row_zero2, R64_sok, sn_upto, sn_from, slN_def, run_cap, rules, rules2, loopRules, Try.facts, base0, Int.toNat_zero, Nat.reduceAdd, Nat.reduceMul, Nat.reduceSub, Nat.reduceLT, Nat.reduceLeDiff, Nat.reduceEqDiff, Int.reduceLE, Int.reduceLT, Int.reduceToNat, Int.reduceNe, Int.reduceEq, not_false_eq_true, Nat.reduceBEq, Nat.reduceDiv, Int.natCast_zero, Int.natCast_one, Int.reduceAdd, Int.reduceSub, reduceIte, ↓reduceIte, Value.oneCell', rowI_length, rowI_take, rowI_splice, rep_all, row_zero, le_nat, Int.toNat_natCast, Nat.zero_add, sok_row, reduceCtorEq]
    refine vcIf_yes (by decide) ?_
    simp only [rowI_splice1 .u64 16 _ 0 (by omega), R64_length, R64_take, R64_0, R64_1, R64_2, R64_3, R64_z, R64_s, R64_s0, R64_s1, R64_s2, R64_s3, row_zero2, R64_sok, sn_upto, sn_from, slN_def, run_cap, rules, rules2, loopRules, Try.facts, base0, Int.toNat_zero, Nat.reduceAdd, Nat.reduceMul, Nat.reduceSub, Nat.reduceLT, Nat.reduceLeDiff, Nat.reduceEqDiff, Int.reduceLE, Int.reduceLT, Int.reduceToNat, Int.reduceNe, Int.reduceEq, not_false_eq_true, Nat.reduceBEq, Nat.reduceDiv, Int.natCast_zero, Int.natCast_one, Int.reduceAdd, Int.reduceSub, reduceIte, ↓reduceIte, Value.oneCell', rowI_length, rowI_take, rowI_splice, rep_all, row_zero, le_nat, Int.toNat_natCast, Nat.zero_add, sok_row, reduceCtorEq]
    rfl
  | n + 1, hn => by
    have ih := rungs_fun K u hK hu n (by omega)
    obtain ⟨ha, hb, hc, hd⟩ := rungN_dig K u hu n
    have hsp := sumPoint_fun _ _ _ _ u ha hb hc hd hu
    obtain ⟨t, ht⟩ : ∃ t : Nat, (255 : Int) - ((n + 1 : Nat) : Int) = t := ⟨254 - n, by omega⟩
    have e1 : IntKind.i64.wrap ((t : Int) + 1) = 255 - (n : Int) := by rw [wrap_i64 _ (by omega) (by omega)]; omega
    have hg := rowI_get .u8 32 K (t / 8) (by omega)
    have hq := quo8 t (by omega)
    have hlt : (((t / 8 : Nat) : Int) < 32) = True := lt_nat (m := 32) (by omega)
    have hu8 : IntKind.u64.wrap ((t % 8 : Nat) : Int) = ((t % 8 : Nat) : Int) := wrap_u64_in _ (by omega) (by omega)
    have hs : rungN K u (n + 1) = rungS (bitOf K t) u (rungN K u n) := by rw [rungN, show 254 - n = t from by omega]
    rw [ht, hs]
    simp only [N4.l] at ih ⊢
    refine fun_of_vc Try.func22 rfl (by kernel_rfl) (by simp [Try.ntmps22]) rfl rfl ?_
    simp only [Try.results22, R64_length, R64_take, R64_0, R64_1, R64_2, R64_3, R64_z, R64_s, R64_s0, R64_s1, R64_s2, R64_s3, row_zero2, R64_sok, sn_upto, sn_from, slN_def, run_cap, rules, rules2, loopRules, Try.facts, base0, Int.toNat_zero, Nat.reduceAdd, Nat.reduceMul, Nat.reduceSub, Nat.reduceLT, Nat.reduceLeDiff, Nat.reduceEqDiff, Int.reduceLE, Int.reduceLT, Int.reduceToNat, Int.reduceNe, Int.reduceEq, not_false_eq_true, Nat.reduceBEq, Nat.reduceDiv, Int.natCast_zero, Int.natCast_one, Int.reduceAdd, Int.reduceSub, reduceIte, ↓reduceIte, Value.oneCell', rowI_length, rowI_take, rowI_splice, rep_all, row_zero, le_nat, Int.toNat_natCast, Nat.zero_add, sok_row, reduceCtorEq]
    refine vcIf_no (by simp; omega) ?_
    simp only [e1, R64_length, R64_take, R64_0, R64_1, R64_2, R64_3, R64_z, R64_s, R64_s0, R64_s1, R64_s2, R64_s3, row_zero2, R64_sok, sn_upto, sn_from, slN_def, run_cap, rules, rules2, loopRules, Try.facts, base0, Int.toNat_zero, Nat.reduceAdd, Nat.reduceMul, Nat.reduceSub, Nat.reduceLT, Nat.reduceLeDiff, Nat.reduceEqDiff, Int.reduceLE, Int.reduceLT, Int.reduceToNat, Int.reduceNe, Int.reduceEq, not_false_eq_true, Nat.reduceBEq, Nat.reduceDiv, Int.natCast_zero, Int.natCast_one, Int.reduceAdd, Int.reduceSub, reduceIte, ↓reduceIte, Value.oneCell', rowI_length, rowI_take, rowI_splice, rep_all, row_zero, le_nat, Int.toNat_natCast, Nat.zero_add, sok_row, reduceCtorEq]
    refine ih.vcCall ?_
    simp only [hq, rem8, hg, hlt, hu8, R64_length, R64_take, R64_0, R64_1, R64_2, R64_3, R64_z, R64_s, R64_s0, R64_s1, R64_s2, R64_s3, row_zero2, R64_sok, sn_upto, sn_from, slN_def, run_cap, rules, rules2, loopRules, Try.facts, base0, Int.toNat_zero, Nat.reduceAdd, Nat.reduceMul, Nat.reduceSub, Nat.reduceLT, Nat.reduceLeDiff, Nat.reduceEqDiff, Int.reduceLE, Int.reduceLT, Int.reduceToNat, Int.reduceNe, Int.reduceEq, not_false_eq_true, Nat.reduceBEq, Nat.reduceDiv, Int.natCast_zero, Int.natCast_one, Int.reduceAdd, Int.reduceSub, reduceIte, ↓reduceIte, Value.oneCell', rowI_length, rowI_take, rowI_splice, rep_all, row_zero, le_nat, Int.toNat_natCast, Nat.zero_add, sok_row, reduceCtorEq]
    refine hsp.vcCall ?_
    simp only [R64_length, R64_take, R64_0, R64_1, R64_2, R64_3, R64_z, R64_s, R64_s0, R64_s1, R64_s2, R64_s3, row_zero2, R64_sok, sn_upto, sn_from, slN_def, run_cap, rules, rules2, loopRules, Try.facts, base0, Int.toNat_zero, Nat.reduceAdd, Nat.reduceMul, Nat.reduceSub, Nat.reduceLT, Nat.reduceLeDiff, Nat.reduceEqDiff, Int.reduceLE, Int.reduceLT, Int.reduceToNat, Int.reduceNe, Int.reduceEq, not_false_eq_true, Nat.reduceBEq, Nat.reduceDiv, Int.natCast_zero, Int.natCast_one, Int.reduceAdd, Int.reduceSub, reduceIte, ↓reduceIte, Value.oneCell', rowI_length, rowI_take, rowI_splice, rep_all, row_zero, le_nat, Int.toNat_natCast, Nat.zero_add, sok_row, reduceCtorEq]
    rw [bit_ref K hK t]
    cases bitOf K t
    · refine vcIf_yes rfl ?_
      simp only [R64_length, R64_take, R64_0, R64_1, R64_2, R64_3, R64_z, R64_s, R64_s0, R64_s1, R64_s2, R64_s3, row_zero2, R64_sok, sn_upto, sn_from, slN_def, run_cap, rules, rules2, loopRules, Try.facts, base0, Int.toNat_zero, Nat.reduceAdd, Nat.reduceMul, Nat.reduceSub, Nat.reduceLT, Nat.reduceLeDiff, Nat.reduceEqDiff, Int.reduceLE, Int.reduceLT, Int.reduceToNat, Int.reduceNe, Int.reduceEq, not_false_eq_true, Nat.reduceBEq, Nat.reduceDiv, Int.natCast_zero, Int.natCast_one, Int.reduceAdd, Int.reduceSub, reduceIte, ↓reduceIte, Value.oneCell', rowI_length, rowI_take, rowI_splice, rep_all, row_zero, le_nat, Int.toNat_natCast, Nat.zero_add, sok_row, reduceCtorEq]
      refine (double_fun _ _ ha hb).vcCall ?_
      simp only [R64_length, R64_take, R64_0, R64_1, R64_2, R64_3, R64_z, R64_s, R64_s0, R64_s1, R64_s2, R64_s3, row_zero2, R64_sok, sn_upto, sn_from, slN_def, run_cap, rules, rules2, loopRules, Try.facts, base0, Int.toNat_zero, Nat.reduceAdd, Nat.reduceMul, Nat.reduceSub, Nat.reduceLT, Nat.reduceLeDiff, Nat.reduceEqDiff, Int.reduceLE, Int.reduceLT, Int.reduceToNat, Int.reduceNe, Int.reduceEq, not_false_eq_true, Nat.reduceBEq, Nat.reduceDiv, Int.natCast_zero, Int.natCast_one, Int.reduceAdd, Int.reduceSub, reduceIte, ↓reduceIte, Value.oneCell', rowI_length, rowI_take, rowI_splice, rep_all, row_zero, le_nat, Int.toNat_natCast, Nat.zero_add, sok_row, reduceCtorEq]
      rfl
    · refine vcIf_no rfl ?_
      simp only [R64_length, R64_take, R64_0, R64_1, R64_2, R64_3, R64_z, R64_s, R64_s0, R64_s1, R64_s2, R64_s3, row_zero2, R64_sok, sn_upto, sn_from, slN_def, run_cap, rules, rules2, loopRules, Try.facts, base0, Int.toNat_zero, Nat.reduceAdd, Nat.reduceMul, Nat.reduceSub, Nat.reduceLT, Nat.reduceLeDiff, Nat.reduceEqDiff, Int.reduceLE, Int.reduceLT, Int.reduceToNat, Int.reduceNe, Int.reduceEq, not_false_eq_true, Nat.reduceBEq, Nat.reduceDiv, Int.natCast_zero, Int.natCast_one, Int.reduceAdd, Int.reduceSub, reduceIte, ↓reduceIte, Value.oneCell', rowI_length, rowI_take, rowI_splice, rep_all, row_zero, le_nat, Int.toNat_natCast, Nat.zero_add, sok_row, reduceCtorEq]
      refine (double_fun _ _ hc hd).vcCall ?_
      simp only [R64_length, R64_take, R64_0, R64_1, R64_2, R64_3, R64_z, R64_s, R64_s0, R64_s1, R64_s2, R64_s3, row_zero2, R64_sok, sn_upto, sn_from, slN_def, run_cap, rules, rules2, loopRules, Try.facts, base0, Int.toNat_zero, Nat.reduceAdd, Nat.reduceMul, Nat.reduceSub, Nat.reduceLT, Nat.reduceLeDiff, Nat.reduceEqDiff, Int.reduceLE, Int.reduceLT, Int.reduceToNat, Int.reduceNe, Int.reduceEq, not_false_eq_true, Nat.reduceBEq, Nat.reduceDiv, Int.natCast_zero, Int.natCast_one, Int.reduceAdd, Int.reduceSub, reduceIte, ↓reduceIte, Value.oneCell', rowI_length, rowI_take, rowI_splice, rep_all, row_zero, le_nat, Int.toNat_natCast, Nat.zero_add, sok_row, reduceCtorEq]
      rfl
end Go.Proofs.Ytpplfckcblaoiaa
