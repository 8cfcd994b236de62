/-
  The beginning of a state, in the program and in the document.
-/
import Derived.Test.YtlpckbkmmocaaaaDoorVcgK1
import Derived.Test.YtlpckbkmmocaaaaDoorVcgL1
set_option linter.unusedSimpArgs false
set_option linter.unusedVariables false
namespace Go.Proofs.YtlpckbkmmocaaaaDoor
open Go.Vcg
/-- The base point. -/
def nineW : Nat → Int := upd (fun _ => 0) 0 9
theorem nineW_by : By nineW := by
  intro i; simp only [nineW, upd]; split <;> omega
def pubW (k : Nat → Int) : Nat → Int := progB k nineW
set_option maxHeartbeats 2000000 in
theorem publicOf_fun (k : Nat → Int) (hk : By k) : Fun Tryd.prog 16 [Ag (rowI .u8 32 k)] (Ag (rowI .u8 32 (pubW k))) := by
  refine fun_of_vc Tryd.func16 rfl (by kernel_rfl) (by simp [Tryd.ntmps16]) rfl rfl ?_
  simp only [Tryd.results16, sn_upto, sn_from, slN_def, run_cap, rules, rules2, loopRules, Tryd.facts, base0, Int.toNat_zero, Nat.reduceAdd, Nat.reduceMul, Nat.reduceSub, Nat.reduceLT, Nat.reduceLeDiff, Nat.reduceEqDiff, Int.reduceLE, Int.reduceLT, Int.reduceToNat, Int.reduceNe, Int.reduceEq, not_false_eq_true, Nat.reduceBEq, Nat.reduceDiv, Int.natCast_zero, Int.natCast_one, Int.reduceAdd, Int.reduceSub, reduceIte, ↓reduceIte, Value.oneCell', splice, reduceCtorEq]
  have e : splice (rowI .u8 32 fun _ => 0) 0 [Sum.inl (Value.int .u8 9)] = rowI .u8 32 nineW := rowI_splice1 .u8 32 _ 0 (by decide) 9
  simp only [row_zero, row_zero2, e, sn_upto, sn_from, slN_def, run_cap, rules, rules2, loopRules, Tryd.facts, base0, Int.toNat_zero, Nat.reduceAdd, Nat.reduceMul, Nat.reduceSub, Nat.reduceLT, Nat.reduceLeDiff, Nat.reduceEqDiff, Int.reduceLE, Int.reduceLT, Int.reduceToNat, Int.reduceNe, Int.reduceEq, not_false_eq_true, Nat.reduceBEq, Nat.reduceDiv, Int.natCast_zero, Int.natCast_one, Int.reduceAdd, Int.reduceSub, reduceIte, ↓reduceIte, Value.oneCell', rowI_length, rowI_take, rowI_splice, rep_all, row_zero, le_nat, Int.toNat_natCast, Nat.zero_add, sok_row, reduceCtorEq]
  refine (curve_fun k nineW hk nineW_by).vcCall ?_
  simp only [sn_upto, sn_from, slN_def, run_cap, rules, rules2, loopRules, Tryd.facts, base0, Int.toNat_zero, Nat.reduceAdd, Nat.reduceMul, Nat.reduceSub, Nat.reduceLT, Nat.reduceLeDiff, Nat.reduceEqDiff, Int.reduceLE, Int.reduceLT, Int.reduceToNat, Int.reduceNe, Int.reduceEq, not_false_eq_true, Nat.reduceBEq, Nat.reduceDiv, Int.natCast_zero, Int.natCast_one, Int.reduceAdd, Int.reduceSub, reduceIte, ↓reduceIte, Value.oneCell', rowI_length, rowI_take, rowI_splice, rep_all, row_zero, le_nat, Int.toNat_natCast, Nat.zero_add, sok_row, reduceCtorEq]
  rfl
set_option maxHeartbeats 2000000 in
theorem public_fun (k : Nat → Int) (hk : By k) : Fun Tryd.prog 18 [Ag (rowI .u8 32 k)] (Ag (rowI .u8 32 (pubW k))) := by
  refine fun_of_vc Tryd.func18 rfl (by kernel_rfl) (by simp [Tryd.ntmps18]) rfl rfl ?_
  simp only [Tryd.results18, sn_upto, sn_from, slN_def, run_cap, rules, rules2, loopRules, Tryd.facts, base0, Int.toNat_zero, Nat.reduceAdd, Nat.reduceMul, Nat.reduceSub, Nat.reduceLT, Nat.reduceLeDiff, Nat.reduceEqDiff, Int.reduceLE, Int.reduceLT, Int.reduceToNat, Int.reduceNe, Int.reduceEq, not_false_eq_true, Nat.reduceBEq, Nat.reduceDiv, Int.natCast_zero, Int.natCast_one, Int.reduceAdd, Int.reduceSub, reduceIte, ↓reduceIte, Value.oneCell', splice, reduceCtorEq]
  have e : splice (rowI .u8 32 fun _ => 0) 0 [Sum.inl (Value.int .u8 9)] = rowI .u8 32 nineW := rowI_splice1 .u8 32 _ 0 (by decide) 9
  have r := refCurve_fun k nineW hk nineW_by
  rw [← same k nineW nineW_by] at r
  simp only [row_zero, row_zero2, e, sn_upto, sn_from, slN_def, run_cap, rules, rules2, loopRules, Tryd.facts, base0, Int.toNat_zero, Nat.reduceAdd, Nat.reduceMul, Nat.reduceSub, Nat.reduceLT, Nat.reduceLeDiff, Nat.reduceEqDiff, Int.reduceLE, Int.reduceLT, Int.reduceToNat, Int.reduceNe, Int.reduceEq, not_false_eq_true, Nat.reduceBEq, Nat.reduceDiv, Int.natCast_zero, Int.natCast_one, Int.reduceAdd, Int.reduceSub, reduceIte, ↓reduceIte, Value.oneCell', rowI_length, rowI_take, rowI_splice, rep_all, row_zero, le_nat, Int.toNat_natCast, Nat.zero_add, sok_row, reduceCtorEq]
  refine r.vcCall ?_
  simp only [sn_upto, sn_from, slN_def, run_cap, rules, rules2, loopRules, Tryd.facts, base0, Int.toNat_zero, Nat.reduceAdd, Nat.reduceMul, Nat.reduceSub, Nat.reduceLT, Nat.reduceLeDiff, Nat.reduceEqDiff, Int.reduceLE, Int.reduceLT, Int.reduceToNat, Int.reduceNe, Int.reduceEq, not_false_eq_true, Nat.reduceBEq, Nat.reduceDiv, Int.natCast_zero, Int.natCast_one, Int.reduceAdd, Int.reduceSub, reduceIte, ↓reduceIte, Value.oneCell', rowI_length, rowI_take, rowI_splice, rep_all, row_zero, le_nat, Int.toNat_natCast, Nat.zero_add, sok_row, reduceCtorEq]
  rfl

/-- The orders of the two rows with which a state begins. -/
def ordsB0 : Ords :=
  let e0 : Ords := .cons 4 .nil .nil
  let e1 : Ords := .cons 3 e0 .nil
  let e2 : Ords := .cons 0 e1 .nil
  let e3 : Ords := .cons 2 e1 .nil
  let e4 : Ords := .cons 0 e3 (.cons 2 e2 .nil)
  let e5 : Ords := .cons 1 e3 .nil
  let e6 : Ords := .cons 0 e5 (.cons 1 e4 .nil)
  e6
def ordsB1 : Ords :=
  let e0 : Ords := .cons 8 .nil .nil
  let e1 : Ords := .cons 7 e0 .nil
  let e2 : Ords := .cons 6 e1 .nil
  let e3 : Ords := .cons 5 e2 .nil
  let e4 : Ords := .cons 0 e3 .nil
  let e5 : Ords := .cons 4 e3 .nil
  let e6 : Ords := .cons 0 e5 (.cons 4 e4 .nil)
  let e7 : Ords := .cons 2 e5 .nil
  let e8 : Ords := .cons 0 e7 (.cons 2 e6 .nil)
  let e9 : Ords := .cons 1 e7 .nil
  let e10 : Ords := .cons 0 e9 (.cons 1 e8 .nil)
  let e11 : Ords := .cons 3 e5 .nil
  let e12 : Ords := .cons 0 e11 (.cons 3 e6 .nil)
  let e13 : Ords := .cons 2 e11 (.cons 3 e7 .nil)
  let e14 : Ords := .cons 0 e13 (.cons 2 e12 (.cons 3 e8 .nil))
  let e15 : Ords := .cons 1 e13 (.cons 3 e9 .nil)
  let e16 : Ords := .cons 0 e15 (.cons 1 e14 (.cons 3 e10 .nil))
  e16
def begin0 (root key : Nat → Int) (skip room : Int) : St := { stZ with peer := true, root := root, pee := key, skip := skip, room := room }
def begin1 (root key : Nat → Int) (skip room : Int) : St := { stZ with own := true, root := root, priv := key, pub := pubW key, skip := skip, room := room }
def beginS (role : Int) (root key : Nat → Int) (skip room : Int) : St :=
  if skip < 0 ∨ 1000 < skip ∨ room < 0 ∨ 1000 < room then stZ else if role = 0 then begin0 root key skip room else if role = 1 then begin1 root key skip room else stZ
theorem zOkSt : ((List.replicate 3 (Value.bool false) ++ List.replicate 192 (Value.int IntKind.u8 0) ++ List.replicate 5 (Value.int IntKind.u32 0) ++ List.replicate 2 (Value.int IntKind.i64 0) ++ List.replicate 1 (Value.slice none 0 0)).all Value.oneCell' = true) = True := eq_true (by kernel_rfl)
set_option maxHeartbeats 8000000 in
set_option maxRecDepth 20000 in
theorem begin_fun (role skip room : Int) (root key : Nat → Int) (hr : Byt root) (hk : Byt key) : Fun Tryd.prog 8 [I .i64 role, Ag (rowI .u8 32 root), Ag (rowI .u8 32 key), I .i64 skip, I .i64 room] (Ag (stL (beginS role root key skip room))) := by
  refine fun_of_vcX Tryd.func8 rfl (by kernel_rfl) (by simp [Tryd.ntmps8]) rfl (AV_st_plain (by unfold beginS; split <;> (try split) <;> (try split) <;> rfl)) ?_
  have i00 : ((0 : Int) == 0) = true := rfl
  have i11 : ((1 : Int) == 1) = true := rfl
  have i10 : ((1 : Int) == 0) = false := rfl
  by_cases a1 : skip < 0
  · have e : beginS role root key skip room = stZ := by unfold beginS; rw [if_pos (by omega)]
    rw [e]
    simp only [Tryd.results8, a1, decide_true, rulesS, rulesX, rulesL, sn_upto, sn_from, slN_def, run_cap, rules, rules2, loopRules, Tryd.facts, base0, Int.toNat_zero, Nat.reduceAdd, Nat.reduceMul, Nat.reduceSub, Nat.reduceLT, Nat.reduceLeDiff, Nat.reduceEqDiff, Int.reduceLE, Int.reduceLT, Int.reduceToNat, Int.reduceNe, Int.reduceEq, not_false_eq_true, Nat.reduceBEq, Nat.reduceDiv, Int.natCast_zero, Int.natCast_one, Int.reduceAdd, Int.reduceSub, reduceIte, ↓reduceIte, Value.oneCell', rowI_length, rowI_take, rowI_splice, rep_all, row_zero, le_nat, Int.toNat_natCast, Nat.zero_add, sok_row, reduceCtorEq]
    try rfl
  by_cases a2 : 1000 < skip
  · have e : beginS role root key skip room = stZ := by unfold beginS; rw [if_pos (by omega)]
    rw [e]
    simp only [Tryd.results8, a1, a2, decide_true, decide_false, zOkSt, rulesS, rulesX, rulesL, sn_upto, sn_from, slN_def, run_cap, rules, rules2, loopRules, Tryd.facts, base0, Int.toNat_zero, Nat.reduceAdd, Nat.reduceMul, Nat.reduceSub, Nat.reduceLT, Nat.reduceLeDiff, Nat.reduceEqDiff, Int.reduceLE, Int.reduceLT, Int.reduceToNat, Int.reduceNe, Int.reduceEq, not_false_eq_true, Nat.reduceBEq, Nat.reduceDiv, Int.natCast_zero, Int.natCast_one, Int.reduceAdd, Int.reduceSub, reduceIte, ↓reduceIte, Value.oneCell', rowI_length, rowI_take, rowI_splice, rep_all, row_zero, le_nat, Int.toNat_natCast, Nat.zero_add, sok_row, reduceCtorEq]
    try rfl
  by_cases a3 : room < 0
  · have e : beginS role root key skip room = stZ := by unfold beginS; rw [if_pos (by omega)]
    rw [e]
    simp only [Tryd.results8, a1, a2, a3, decide_true, decide_false, zOkSt, rulesS, rulesX, rulesL, sn_upto, sn_from, slN_def, run_cap, rules, rules2, loopRules, Tryd.facts, base0, Int.toNat_zero, Nat.reduceAdd, Nat.reduceMul, Nat.reduceSub, Nat.reduceLT, Nat.reduceLeDiff, Nat.reduceEqDiff, Int.reduceLE, Int.reduceLT, Int.reduceToNat, Int.reduceNe, Int.reduceEq, not_false_eq_true, Nat.reduceBEq, Nat.reduceDiv, Int.natCast_zero, Int.natCast_one, Int.reduceAdd, Int.reduceSub, reduceIte, ↓reduceIte, Value.oneCell', rowI_length, rowI_take, rowI_splice, rep_all, row_zero, le_nat, Int.toNat_natCast, Nat.zero_add, sok_row, reduceCtorEq]
    try rfl
  by_cases a4 : 1000 < room
  · have e : beginS role root key skip room = stZ := by unfold beginS; rw [if_pos (by omega)]
    rw [e]
    simp only [Tryd.results8, a1, a2, a3, a4, decide_true, decide_false, zOkSt, rulesS, rulesX, rulesL, sn_upto, sn_from, slN_def, run_cap, rules, rules2, loopRules, Tryd.facts, base0, Int.toNat_zero, Nat.reduceAdd, Nat.reduceMul, Nat.reduceSub, Nat.reduceLT, Nat.reduceLeDiff, Nat.reduceEqDiff, Int.reduceLE, Int.reduceLT, Int.reduceToNat, Int.reduceNe, Int.reduceEq, not_false_eq_true, Nat.reduceBEq, Nat.reduceDiv, Int.natCast_zero, Int.natCast_one, Int.reduceAdd, Int.reduceSub, reduceIte, ↓reduceIte, Value.oneCell', rowI_length, rowI_take, rowI_splice, rep_all, row_zero, le_nat, Int.toNat_natCast, Nat.zero_add, sok_row, reduceCtorEq]
    try rfl
  by_cases a5 : role = 0
  · have e : beginS role root key skip room = begin0 root key skip room := by unfold beginS; rw [if_neg (by omega), if_pos a5]
    rw [e]
    simp only [Tryd.results8, a1, a2, a3, a4, a5, i00, decide_true, decide_false, zOkSt, rulesS, rulesX, rulesL, sn_upto, sn_from, slN_def, run_cap, rules, rules2, loopRules, Tryd.facts, base0, Int.toNat_zero, Nat.reduceAdd, Nat.reduceMul, Nat.reduceSub, Nat.reduceLT, Nat.reduceLeDiff, Nat.reduceEqDiff, Int.reduceLE, Int.reduceLT, Int.reduceToNat, Int.reduceNe, Int.reduceEq, not_false_eq_true, Nat.reduceBEq, Nat.reduceDiv, Int.natCast_zero, Int.natCast_one, Int.reduceAdd, Int.reduceSub, reduceIte, ↓reduceIte, Value.oneCell', rowI_length, rowI_take, rowI_splice, rep_all, row_zero, le_nat, Int.toNat_natCast, Nat.zero_add, sok_row, reduceCtorEq]
    refine .inr ⟨Tryd.mixed, ordsB0, by kernel_rfl, ?_⟩
    simp only [ordsB0, rulesS, rulesX, rulesL, sn_upto, sn_from, slN_def, run_cap, rules, rules2, loopRules, Tryd.facts, base0, Int.toNat_zero, Nat.reduceAdd, Nat.reduceMul, Nat.reduceSub, Nat.reduceLT, Nat.reduceLeDiff, Nat.reduceEqDiff, Int.reduceLE, Int.reduceLT, Int.reduceToNat, Int.reduceNe, Int.reduceEq, not_false_eq_true, Nat.reduceBEq, Nat.reduceDiv, Int.natCast_zero, Int.natCast_one, Int.reduceAdd, Int.reduceSub, reduceIte, ↓reduceIte, Value.oneCell', rowI_length, rowI_take, rowI_splice, rep_all, row_zero, le_nat, Int.toNat_natCast, Nat.zero_add, sok_row, reduceCtorEq]
    rfl
  by_cases a6 : role = 1
  · have e : beginS role root key skip room = begin1 root key skip room := by unfold beginS; rw [if_neg (by omega), if_neg a5, if_pos a6]
    rw [e]
    simp only [Tryd.results8, a1, a2, a3, a4, a5, a6, i10, i11, decide_true, decide_false, zOkSt, rulesS, rulesX, rulesL, sn_upto, sn_from, slN_def, run_cap, rules, rules2, loopRules, Tryd.facts, base0, Int.toNat_zero, Nat.reduceAdd, Nat.reduceMul, Nat.reduceSub, Nat.reduceLT, Nat.reduceLeDiff, Nat.reduceEqDiff, Int.reduceLE, Int.reduceLT, Int.reduceToNat, Int.reduceNe, Int.reduceEq, not_false_eq_true, Nat.reduceBEq, Nat.reduceDiv, Int.natCast_zero, Int.natCast_one, Int.reduceAdd, Int.reduceSub, reduceIte, ↓reduceIte, Value.oneCell', rowI_length, rowI_take, rowI_splice, rep_all, row_zero, le_nat, Int.toNat_natCast, Nat.zero_add, sok_row, reduceCtorEq]
    refine .inr ⟨Tryd.mixed, ordsB1, by kernel_rfl, ?_⟩
    simp only [ordsB1, rulesS, rulesX, rulesL, sn_upto, sn_from, slN_def, run_cap, rules, rules2, loopRules, Tryd.facts, base0, Int.toNat_zero, Nat.reduceAdd, Nat.reduceMul, Nat.reduceSub, Nat.reduceLT, Nat.reduceLeDiff, Nat.reduceEqDiff, Int.reduceLE, Int.reduceLT, Int.reduceToNat, Int.reduceNe, Int.reduceEq, not_false_eq_true, Nat.reduceBEq, Nat.reduceDiv, Int.natCast_zero, Int.natCast_one, Int.reduceAdd, Int.reduceSub, reduceIte, ↓reduceIte, Value.oneCell', rowI_length, rowI_take, rowI_splice, rep_all, row_zero, le_nat, Int.toNat_natCast, Nat.zero_add, sok_row, reduceCtorEq]
    have call : ∀ {s : AS} {nm : Nat} {dst : Option Nat} {K : AS → Prop}, K (s.put dst (some (Ag (rowI .u8 32 (pubW key))))) → vcCall Tryd.prog nm 16 (some [Ag (rowI .u8 32 key)]) dst K s := fun hk' => (publicOf_fun key hk).vcCall hk'
    repeat' apply And.intro
    all_goals (refine call ?_; simp only [rulesS, rulesX, rulesL, sn_upto, sn_from, slN_def, run_cap, rules, rules2, loopRules, Tryd.facts, base0, Int.toNat_zero, Nat.reduceAdd, Nat.reduceMul, Nat.reduceSub, Nat.reduceLT, Nat.reduceLeDiff, Nat.reduceEqDiff, Int.reduceLE, Int.reduceLT, Int.reduceToNat, Int.reduceNe, Int.reduceEq, not_false_eq_true, Nat.reduceBEq, Nat.reduceDiv, Int.natCast_zero, Int.natCast_one, Int.reduceAdd, Int.reduceSub, reduceIte, ↓reduceIte, Value.oneCell', rowI_length, rowI_take, rowI_splice, rep_all, row_zero, le_nat, Int.toNat_natCast, Nat.zero_add, sok_row, reduceCtorEq]; try (repeat' apply And.intro))
    all_goals rfl
  · have e : beginS role root key skip room = stZ := by unfold beginS; rw [if_neg (by omega), if_neg a5, if_neg a6]
    have b5 : (role == 0) = false := by simpa using a5
    have b6 : (role == 1) = false := by simpa using a6
    rw [e]
    simp only [Tryd.results8, a1, a2, a3, a4, b5, b6, decide_true, decide_false, zOkSt, rulesS, rulesX, rulesL, sn_upto, sn_from, slN_def, run_cap, rules, rules2, loopRules, Tryd.facts, base0, Int.toNat_zero, Nat.reduceAdd, Nat.reduceMul, Nat.reduceSub, Nat.reduceLT, Nat.reduceLeDiff, Nat.reduceEqDiff, Int.reduceLE, Int.reduceLT, Int.reduceToNat, Int.reduceNe, Int.reduceEq, not_false_eq_true, Nat.reduceBEq, Nat.reduceDiv, Int.natCast_zero, Int.natCast_one, Int.reduceAdd, Int.reduceSub, reduceIte, ↓reduceIte, Value.oneCell', rowI_length, rowI_take, rowI_splice, rep_all, row_zero, le_nat, Int.toNat_natCast, Nat.zero_add, sok_row, reduceCtorEq]
    try rfl
set_option maxHeartbeats 8000000 in
set_option maxRecDepth 20000 in
theorem refBegin_fun (role skip room : Int) (root key : Nat → Int) (hr : Byt root) (hk : Byt key) : Fun Tryd.prog 10 [I .i64 role, Ag (rowI .u8 32 root), Ag (rowI .u8 32 key), I .i64 skip, I .i64 room] (Ag (stL (beginS role root key skip room))) := by
  refine fun_of_vc Tryd.func10 rfl (by kernel_rfl) (by simp [Tryd.ntmps10]) rfl (AV_st_plain (by unfold beginS; split <;> (try split) <;> (try split) <;> rfl)) ?_
  have i00 : ((0 : Int) == 0) = true := rfl
  have i11 : ((1 : Int) == 1) = true := rfl
  have i10 : ((1 : Int) == 0) = false := rfl
  by_cases a1 : skip < 0
  · have e : beginS role root key skip room = stZ := by unfold beginS; rw [if_pos (by omega)]
    rw [e]
    simp only [Tryd.results10, a1, decide_true, zOkSt, rulesS, sn_upto, sn_from, slN_def, run_cap, rules, rules2, loopRules, Tryd.facts, base0, Int.toNat_zero, Nat.reduceAdd, Nat.reduceMul, Nat.reduceSub, Nat.reduceLT, Nat.reduceLeDiff, Nat.reduceEqDiff, Int.reduceLE, Int.reduceLT, Int.reduceToNat, Int.reduceNe, Int.reduceEq, not_false_eq_true, Nat.reduceBEq, Nat.reduceDiv, Int.natCast_zero, Int.natCast_one, Int.reduceAdd, Int.reduceSub, reduceIte, ↓reduceIte, Value.oneCell', rowI_length, rowI_take, rowI_splice, rep_all, row_zero, le_nat, Int.toNat_natCast, Nat.zero_add, sok_row, reduceCtorEq]
    try rfl
  by_cases a2 : 1000 < skip
  · have e : beginS role root key skip room = stZ := by unfold beginS; rw [if_pos (by omega)]
    rw [e]
    simp only [Tryd.results10, a1, a2, decide_true, decide_false, zOkSt, rulesS, sn_upto, sn_from, slN_def, run_cap, rules, rules2, loopRules, Tryd.facts, base0, Int.toNat_zero, Nat.reduceAdd, Nat.reduceMul, Nat.reduceSub, Nat.reduceLT, Nat.reduceLeDiff, Nat.reduceEqDiff, Int.reduceLE, Int.reduceLT, Int.reduceToNat, Int.reduceNe, Int.reduceEq, not_false_eq_true, Nat.reduceBEq, Nat.reduceDiv, Int.natCast_zero, Int.natCast_one, Int.reduceAdd, Int.reduceSub, reduceIte, ↓reduceIte, Value.oneCell', rowI_length, rowI_take, rowI_splice, rep_all, row_zero, le_nat, Int.toNat_natCast, Nat.zero_add, sok_row, reduceCtorEq]
    try rfl
  by_cases a3 : room < 0
  · have e : beginS role root key skip room = stZ := by unfold beginS; rw [if_pos (by omega)]
    rw [e]
    simp only [Tryd.results10, a1, a2, a3, decide_true, decide_false, zOkSt, rulesS, sn_upto, sn_from, slN_def, run_cap, rules, rules2, loopRules, Tryd.facts, base0, Int.toNat_zero, Nat.reduceAdd, Nat.reduceMul, Nat.reduceSub, Nat.reduceLT, Nat.reduceLeDiff, Nat.reduceEqDiff, Int.reduceLE, Int.reduceLT, Int.reduceToNat, Int.reduceNe, Int.reduceEq, not_false_eq_true, Nat.reduceBEq, Nat.reduceDiv, Int.natCast_zero, Int.natCast_one, Int.reduceAdd, Int.reduceSub, reduceIte, ↓reduceIte, Value.oneCell', rowI_length, rowI_take, rowI_splice, rep_all, row_zero, le_nat, Int.toNat_natCast, Nat.zero_add, sok_row, reduceCtorEq]
    try rfl
  by_cases a4 : 1000 < room
  · have e : beginS role root key skip room = stZ := by unfold beginS; rw [if_pos (by omega)]
    rw [e]
    simp only [Tryd.results10, a1, a2, a3, a4, decide_true, decide_false, zOkSt, rulesS, sn_upto, sn_from, slN_def, run_cap, rules, rules2, loopRules, Tryd.facts, base0, Int.toNat_zero, Nat.reduceAdd, Nat.reduceMul, Nat.reduceSub, Nat.reduceLT, Nat.reduceLeDiff, Nat.reduceEqDiff, Int.reduceLE, Int.reduceLT, Int.reduceToNat, Int.reduceNe, Int.reduceEq, not_false_eq_true, Nat.reduceBEq, Nat.reduceDiv, Int.natCast_zero, Int.natCast_one, Int.reduceAdd, Int.reduceSub, reduceIte, ↓reduceIte, Value.oneCell', rowI_length, rowI_take, rowI_splice, rep_all, row_zero, le_nat, Int.toNat_natCast, Nat.zero_add, sok_row, reduceCtorEq]
    try rfl
  by_cases a5 : role = 0
  · have e : beginS role root key skip room = begin0 root key skip room := by unfold beginS; rw [if_neg (by omega), if_pos a5]
    rw [e]
    simp only [Tryd.results10, a1, a2, a3, a4, a5, i00, decide_true, decide_false, zOkSt, rulesS, sn_upto, sn_from, slN_def, run_cap, rules, rules2, loopRules, Tryd.facts, base0, Int.toNat_zero, Nat.reduceAdd, Nat.reduceMul, Nat.reduceSub, Nat.reduceLT, Nat.reduceLeDiff, Nat.reduceEqDiff, Int.reduceLE, Int.reduceLT, Int.reduceToNat, Int.reduceNe, Int.reduceEq, not_false_eq_true, Nat.reduceBEq, Nat.reduceDiv, Int.natCast_zero, Int.natCast_one, Int.reduceAdd, Int.reduceSub, reduceIte, ↓reduceIte, Value.oneCell', rowI_length, rowI_take, rowI_splice, rep_all, row_zero, le_nat, Int.toNat_natCast, Nat.zero_add, sok_row, reduceCtorEq]
    rfl
  by_cases a6 : role = 1
  · have e : beginS role root key skip room = begin1 root key skip room := by unfold beginS; rw [if_neg (by omega), if_neg a5, if_pos a6]
    rw [e]
    simp only [Tryd.results10, a1, a2, a3, a4, a5, a6, i10, i11, decide_true, decide_false, zOkSt, rulesS, sn_upto, sn_from, slN_def, run_cap, rules, rules2, loopRules, Tryd.facts, base0, Int.toNat_zero, Nat.reduceAdd, Nat.reduceMul, Nat.reduceSub, Nat.reduceLT, Nat.reduceLeDiff, Nat.reduceEqDiff, Int.reduceLE, Int.reduceLT, Int.reduceToNat, Int.reduceNe, Int.reduceEq, not_false_eq_true, Nat.reduceBEq, Nat.reduceDiv, Int.natCast_zero, Int.natCast_one, Int.reduceAdd, Int.reduceSub, reduceIte, ↓reduceIte, Value.oneCell', rowI_length, rowI_take, rowI_splice, rep_all, row_zero, le_nat, Int.toNat_natCast, Nat.zero_add, sok_row, reduceCtorEq]
    refine ⟨by kernel_rfl, ?_⟩
    refine Fun.draw (public_fun key hk) Tryd.callable18 ?_
    simp only [rulesS, sn_upto, sn_from, slN_def, run_cap, rules, rules2, loopRules, Tryd.facts, base0, Int.toNat_zero, Nat.reduceAdd, Nat.reduceMul, Nat.reduceSub, Nat.reduceLT, Nat.reduceLeDiff, Nat.reduceEqDiff, Int.reduceLE, Int.reduceLT, Int.reduceToNat, Int.reduceNe, Int.reduceEq, not_false_eq_true, Nat.reduceBEq, Nat.reduceDiv, Int.natCast_zero, Int.natCast_one, Int.reduceAdd, Int.reduceSub, reduceIte, ↓reduceIte, Value.oneCell', rowI_length, rowI_take, rowI_splice, rep_all, row_zero, le_nat, Int.toNat_natCast, Nat.zero_add, sok_row, reduceCtorEq]
    try rfl
  · have e : beginS role root key skip room = stZ := by unfold beginS; rw [if_neg (by omega), if_neg a5, if_neg a6]
    have b5 : (role == 0) = false := by simpa using a5
    have b6 : (role == 1) = false := by simpa using a6
    rw [e]
    simp only [Tryd.results10, a1, a2, a3, a4, b5, b6, decide_true, decide_false, zOkSt, rulesS, sn_upto, sn_from, slN_def, run_cap, rules, rules2, loopRules, Tryd.facts, base0, Int.toNat_zero, Nat.reduceAdd, Nat.reduceMul, Nat.reduceSub, Nat.reduceLT, Nat.reduceLeDiff, Nat.reduceEqDiff, Int.reduceLE, Int.reduceLT, Int.reduceToNat, Int.reduceNe, Int.reduceEq, not_false_eq_true, Nat.reduceBEq, Nat.reduceDiv, Int.natCast_zero, Int.natCast_one, Int.reduceAdd, Int.reduceSub, reduceIte, ↓reduceIte, Value.oneCell', rowI_length, rowI_take, rowI_splice, rep_all, row_zero, le_nat, Int.toNat_natCast, Nat.zero_add, sok_row, reduceCtorEq]
    try rfl
end Go.Proofs.YtlpckbkmmocaaaaDoor
