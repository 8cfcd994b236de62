/-
  The digest of the document.
-/
import Derived.Test.YtljncmifbncdbaaDoorVcgH7
set_option linter.unusedSimpArgs false
set_option linter.unusedVariables false
namespace Go.Proofs.YtljncmifbncdbaaDoor
open Go.Vcg
def shortB (x : Int) (j : Nat) : Int := IntKind.u8.wrap (shrI .u32 x (24 - 8 * (j : Int)))
theorem shr0 (x : Int) : shrI .u32 x 0 = x := by
  have := shrI_eq .u32 x 0 (by decide)
  simpa using this
set_option maxHeartbeats 8000000 in
set_option maxRecDepth 20000 in
theorem short_m (x : Int) : MFun Tryd.prog 45 [I .u32 x] 0 (fun _ => none) (MadeX 0 4 (shortB x)) := by
  refine mfun_of_vc Tryd.func45 rfl (by kernel_rfl) (by simp [Tryd.ntmps45]) Tryd.callable45 (by simp [AV.ok, CV.ok, SV.names]) all0 inn0 ?_
  simp only [Tryd.results45, sn_upto, sn_from, slN_def, run_cap, rules, rules2, loopRules, Tryd.facts, base0, Int.toNat_zero, Nat.reduceAdd, Nat.reduceMul, Nat.reduceSub, Nat.reduceLT, Nat.reduceLeDiff, Nat.reduceEqDiff, Int.reduceLE, Int.reduceLT, Int.reduceToNat, Int.reduceNe, Int.reduceEq, not_false_eq_true, Nat.reduceBEq, Nat.reduceDiv, Int.natCast_zero, Int.natCast_one, Int.reduceAdd, Int.reduceSub, reduceIte, ↓reduceIte, Value.oneCell', splice, reduceCtorEq]
  have e3 : IntKind.u8.wrap x = shortB x 3 := by simp [shortB, shr0]
  refine ⟨by decide, by decide, by decide, by decide, ?_⟩
  refine ret_new (k := 0) (q := 12) (cs := rowI .u8 4 (shortB x)) (by decide) ?_ plainI ⟨rfl, rfl⟩
  rw [e3]
  simp only [upd_same]
  rfl
set_option maxHeartbeats 8000000 in
set_option maxRecDepth 20000 in
theorem long_m {l : Nat} (hl : l < 140737488355328) : MFun Tryd.prog 30 [I .u64 (IntKind.u64.wrap (IntKind.u64.wrap (l : Int) * 8))] 0 (fun _ => none) (Made 0 8 (lenB l)) := by
  refine mfun_of_vc Tryd.func30 rfl (by kernel_rfl) (by simp [Tryd.ntmps30]) Tryd.callable30 (by simp [AV.ok, CV.ok, SV.names]) all0 inn0 ?_
  simp only [Tryd.results30, sn_upto, sn_from, slN_def, run_cap, rules, rules2, loopRules, Tryd.facts, base0, Int.toNat_zero, Nat.reduceAdd, Nat.reduceMul, Nat.reduceSub, Nat.reduceLT, Nat.reduceLeDiff, Nat.reduceEqDiff, Int.reduceLE, Int.reduceLT, Int.reduceToNat, Int.reduceNe, Int.reduceEq, not_false_eq_true, Nat.reduceBEq, Nat.reduceDiv, Int.natCast_zero, Int.natCast_one, Int.reduceAdd, Int.reduceSub, reduceIte, ↓reduceIte, Value.oneCell', rowI_length, rowI_take, rowI_splice, rep_all, row_zero, le_nat, Int.toNat_natCast, Nat.zero_add, sok_row, reduceCtorEq]
  have e4 : ∀ x : Int, IntKind.u32.wrap x = x % 4294967296 := wrap_u32
  refine madeX_call (short_m _) (fun n => n) fits0 rfl ?_
  simp only [sn_upto, sn_from, slN_def, run_cap, rules, rules2, loopRules, Tryd.facts, base0, Int.toNat_zero, Nat.reduceAdd, Nat.reduceMul, Nat.reduceSub, Nat.reduceLT, Nat.reduceLeDiff, Nat.reduceEqDiff, Int.reduceLE, Int.reduceLT, Int.reduceToNat, Int.reduceNe, Int.reduceEq, not_false_eq_true, Nat.reduceBEq, Nat.reduceDiv, Int.natCast_zero, Int.natCast_one, Int.reduceAdd, Int.reduceSub, reduceIte, ↓reduceIte, Value.oneCell', rowI_length, rowI_take, rowI_splice, rep_all, row_zero, le_nat, Int.toNat_natCast, Nat.zero_add, sok_row, reduceCtorEq]
  refine madeX_call (short_m _) (fun n => n) fits0 rfl ?_
  simp only [sn_upto, sn_from, slN_def, run_cap, rules, rules2, loopRules, Tryd.facts, base0, Int.toNat_zero, Nat.reduceAdd, Nat.reduceMul, Nat.reduceSub, Nat.reduceLT, Nat.reduceLeDiff, Nat.reduceEqDiff, Int.reduceLE, Int.reduceLT, Int.reduceToNat, Int.reduceNe, Int.reduceEq, not_false_eq_true, Nat.reduceBEq, Nat.reduceDiv, Int.natCast_zero, Int.natCast_one, Int.reduceAdd, Int.reduceSub, reduceIte, ↓reduceIte, Value.oneCell', rowI_length, rowI_take, rowI_splice, rep_all, row_zero, le_nat, Int.toNat_natCast, Nat.zero_add, sok_row, reduceCtorEq]
  refine append_b (g := shortB (IntKind.u32.wrap (IntKind.u64.wrap (IntKind.u64.wrap (l : Int) * 8)))) Tryd.mkK24 Tryd.slK24 (f := shortB (IntKind.u32.wrap (shrI .u64 (IntKind.u64.wrap (IntKind.u64.wrap (l : Int) * 8)) 32))) (b := 4) (cs := rowI .u8 4 (shortB (IntKind.u32.wrap (shrI .u64 (IntKind.u64.wrap (IntKind.u64.wrap (l : Int) * 8)) 32)))) (by simp only [upd_apply, sn_upto, sn_from, slN_def, run_cap, rules, rules2, loopRules, Tryd.facts, base0, Int.toNat_zero, Nat.reduceAdd, Nat.reduceMul, Nat.reduceSub, Nat.reduceLT, Nat.reduceLeDiff, Nat.reduceEqDiff, Int.reduceLE, Int.reduceLT, Int.reduceToNat, Int.reduceNe, Int.reduceEq, not_false_eq_true, Nat.reduceBEq, Nat.reduceDiv, Int.natCast_zero, Int.natCast_one, Int.reduceAdd, Int.reduceSub, reduceIte, ↓reduceIte, Value.oneCell', rowI_length, rowI_take, rowI_splice, rep_all, row_zero, le_nat, Int.toNat_natCast, Nat.zero_add, sok_row, reduceCtorEq])
    ⟨by rw [rowI_length], by decide, plainI, shows_row0⟩ (.inr ⟨9, 0, 4, true, rowI .u8 4 (shortB (IntKind.u32.wrap (IntKind.u64.wrap (IntKind.u64.wrap (l : Int) * 8)))), rfl, by simp only [upd_apply, sn_upto, sn_from, slN_def, run_cap, rules, rules2, loopRules, Tryd.facts, base0, Int.toNat_zero, Nat.reduceAdd, Nat.reduceMul, Nat.reduceSub, Nat.reduceLT, Nat.reduceLeDiff, Nat.reduceEqDiff, Int.reduceLE, Int.reduceLT, Int.reduceToNat, Int.reduceNe, Int.reduceEq, not_false_eq_true, Nat.reduceBEq, Nat.reduceDiv, Int.natCast_zero, Int.natCast_one, Int.reduceAdd, Int.reduceSub, reduceIte, ↓reduceIte, Value.oneCell', rowI_length, rowI_take, rowI_splice, rep_all, row_zero, le_nat, Int.toNat_natCast, Nat.zero_add, sok_row, reduceCtorEq], shows_row0, by decide⟩) (by decide) ?_
  intro c2 cs2 hg2
  simp only [sn_upto, sn_from, slN_def, run_cap, rules, rules2, loopRules, Tryd.facts, base0, Int.toNat_zero, Nat.reduceAdd, Nat.reduceMul, Nat.reduceSub, Nat.reduceLT, Nat.reduceLeDiff, Nat.reduceEqDiff, Int.reduceLE, Int.reduceLT, Int.reduceToNat, Int.reduceNe, Int.reduceEq, not_false_eq_true, Nat.reduceBEq, Nat.reduceDiv, Int.natCast_zero, Int.natCast_one, Int.reduceAdd, Int.reduceSub, reduceIte, ↓reduceIte, Value.oneCell', rowI_length, rowI_take, rowI_splice, rep_all, row_zero, le_nat, Int.toNat_natCast, Nat.zero_add, sok_row, reduceCtorEq]
  refine ret_grows (k := 0) (by decide) (hg2.congr (m := 8) rfl fun i hi => ?_) (by simp only [upd_apply, sn_upto, sn_from, slN_def, run_cap, rules, rules2, loopRules, Tryd.facts, base0, Int.toNat_zero, Nat.reduceAdd, Nat.reduceMul, Nat.reduceSub, Nat.reduceLT, Nat.reduceLeDiff, Nat.reduceEqDiff, Int.reduceLE, Int.reduceLT, Int.reduceToNat, Int.reduceNe, Int.reduceEq, not_false_eq_true, Nat.reduceBEq, Nat.reduceDiv, Int.natCast_zero, Int.natCast_one, Int.reduceAdd, Int.reduceSub, reduceIte, ↓reduceIte, Value.oneCell', rowI_length, rowI_take, rowI_splice, rep_all, row_zero, le_nat, Int.toNat_natCast, Nat.zero_add, sok_row, reduceCtorEq]) rfl
  have w1 : IntKind.u64.wrap (IntKind.u64.wrap (l : Int) * 8) = (l : Int) * 8 := by rw [wrap_u64_in (l : Int) (by omega) (by omega), wrap_u64_in _ (by omega) (by omega)]
  have s32 : shrI .u64 ((l : Int) * 8) 32 = (l : Int) * 8 / 4294967296 := shrI_eq .u64 _ 32 (by decide)
  rw [w1, s32]
  have s24 : ∀ x : Int, shrI .u32 x 24 = x / 16777216 := fun x => shrI_eq .u32 x 24 (by decide)
  have s16 : ∀ x : Int, shrI .u32 x 16 = x / 65536 := fun x => shrI_eq .u32 x 16 (by decide)
  have s8 : ∀ x : Int, shrI .u32 x 8 = x / 256 := fun x => shrI_eq .u32 x 8 (by decide)
  have hc : i = 0 ∨ i = 1 ∨ i = 2 ∨ i = 3 ∨ i = 4 ∨ i = 5 ∨ i = 6 ∨ i = 7 := by omega
  rcases hc with rfl | rfl | rfl | rfl | rfl | rfl | rfl | rfl
  · show shortB _ 0 = _
    simp only [shortB, lenB]
    show IntKind.u8.wrap (shrI .u32 _ 24) = ((l * 8 / 72057594037927936 % 256 : Nat) : Int)
    rw [s24, e4, wrap_u8]; omega
  · show shortB _ 1 = _
    simp only [shortB, lenB]
    show IntKind.u8.wrap (shrI .u32 _ 16) = ((l * 8 / 281474976710656 % 256 : Nat) : Int)
    rw [s16, e4, wrap_u8]; omega
  · show shortB _ 2 = _
    simp only [shortB, lenB]
    show IntKind.u8.wrap (shrI .u32 _ 8) = ((l * 8 / 1099511627776 % 256 : Nat) : Int)
    rw [s8, e4, wrap_u8]; omega
  · show shortB _ 3 = _
    simp only [shortB, lenB]
    show IntKind.u8.wrap (shrI .u32 _ 0) = ((l * 8 / 4294967296 % 256 : Nat) : Int)
    rw [shr0, e4, wrap_u8]; omega
  · show shortB _ 0 = _
    simp only [shortB, lenB]
    show IntKind.u8.wrap (shrI .u32 _ 24) = ((l * 8 / 16777216 % 256 : Nat) : Int)
    rw [s24, e4, wrap_u8]; omega
  · show shortB _ 1 = _
    simp only [shortB, lenB]
    show IntKind.u8.wrap (shrI .u32 _ 16) = ((l * 8 / 65536 % 256 : Nat) : Int)
    rw [s16, e4, wrap_u8]; omega
  · show shortB _ 2 = _
    simp only [shortB, lenB]
    show IntKind.u8.wrap (shrI .u32 _ 8) = ((l * 8 / 256 % 256 : Nat) : Int)
    rw [s8, e4, wrap_u8]; omega
  · show shortB _ 3 = _
    simp only [shortB, lenB]
    show IntKind.u8.wrap (shrI .u32 _ 0) = ((l * 8 / 1 % 256 : Nat) : Int)
    rw [shr0, e4, wrap_u8]; omega
end Go.Proofs.YtljncmifbncdbaaDoor
