/-
  The key derivations of the machine, in the program and in the document.
-/
import Derived.Test.YtlpckbkmmocaaaaDoorVcgHA
import Derived.Test.YtlpckbkmmocaaaaDoorVcgSt
set_option linter.unusedSimpArgs false
set_option linter.unusedVariables false
namespace Go.Proofs.YtlpckbkmmocaaaaDoor
open Go.Vcg
theorem mfun_mono {P : Program} [Vcg.Tables P] {f k : Nat} {args : List AV} {ins : Nat → Option Box} {Post Post' : AV → (Nat → Option Box) → Prop} (h : MFun P f args k ins Post) (hp : ∀ v out, Post v out → Post' v out) : MFun P f args k ins Post' :=
  ⟨h.body, h.all, h.inn, fun W g w a b c d => (h.call W g w a b c d).mono (by
    rintro e w' ⟨v, out, g', h1, h2, h3⟩
    exact ⟨v, out, g', h1, hp _ _ h2, h3⟩)⟩
theorem row_part {n a m : Nat} {f : Nat → Int} {tail : List SV} (h : a + m ≤ n) : List.take m (List.drop a (rowI .u8 n f ++ tail)) = rowI .u8 m (fun i => f (a + i)) := by
  apply List.ext_getElem?
  intro i
  by_cases hi : i < m
  · rw [List.getElem?_take_of_lt hi, List.getElem?_drop, List.getElem?_append_left (by rw [rowI_length]; omega), rowI_get .u8 n f (a + i) (by omega), rowI_get .u8 m _ i hi]
  · rw [List.getElem?_eq_none (by rw [List.length_take]; omega), List.getElem?_eq_none (by rw [rowI_length]; omega)]
theorem row_part0 {n m : Nat} {f : Nat → Int} {tail : List SV} (h : m ≤ n) : List.take m (rowI .u8 n f ++ tail) = rowI .u8 m f := by
  have := row_part (n := n) (a := 0) (m := m) (f := f) (tail := tail) (by omega)
  rw [List.drop_zero] at this
  rw [this]
  exact rowI_congr fun i _ => by rw [Nat.zero_add]
/-- The label of the root's step. -/
def labelR (i : Nat) : Int := [114, 97, 116, 99, 104, 101, 116, 32, 114, 111, 111, 116].getD i 0
theorem labelR_byt : Byt labelR := fun i => by
  by_cases h : i < 12
  · have : ∀ j, j < 12 → 0 ≤ labelR j ∧ labelR j < 256 := by decide
    exact this i h
  · have : labelR i = 0 := by
      simp only [labelR, List.getD_eq_getElem?_getD]
      rw [List.getElem?_eq_none (by simp; omega)]; rfl
    rw [this]; decide
def okR (root shared : Nat → Int) : Nat → Int := okmW kW ivW (macW kW ivW root 32 shared 32) labelR 12
/-- The orders of the last row of the root's step. -/
def ordsR : Ords :=
  let e0 : Ords := .cons 9 .nil .nil
  let e1 : Ords := .cons 8 e0 .nil
  let e2 : Ords := .cons 3 e1 .nil
  let e3 : Ords := .cons 2 e2 .nil
  let e4 : Ords := .cons 1 e3 .nil
  let e5 : Ords := .cons 0 e4 .nil
  let e6 : Ords := .cons 7 e0 .nil
  let e7 : Ords := .cons 7 e1 (.cons 8 e6 .nil)
  let e8 : Ords := .cons 3 e7 (.cons 7 e2 .nil)
  let e9 : Ords := .cons 2 e8 (.cons 7 e3 .nil)
  let e10 : Ords := .cons 1 e9 (.cons 7 e4 .nil)
  let e11 : Ords := .cons 0 e10 (.cons 7 e5 .nil)
  let e12 : Ords := .cons 6 e6 .nil
  let e13 : Ords := .cons 6 e7 (.cons 8 e12 .nil)
  let e14 : Ords := .cons 3 e13 (.cons 6 e8 .nil)
  let e15 : Ords := .cons 2 e14 (.cons 6 e9 .nil)
  let e16 : Ords := .cons 1 e15 (.cons 6 e10 .nil)
  let e17 : Ords := .cons 0 e16 (.cons 6 e11 .nil)
  let e18 : Ords := .cons 5 e12 .nil
  let e19 : Ords := .cons 5 e13 (.cons 8 e18 .nil)
  let e20 : Ords := .cons 3 e19 (.cons 5 e14 .nil)
  let e21 : Ords := .cons 2 e20 (.cons 5 e15 .nil)
  let e22 : Ords := .cons 1 e21 (.cons 5 e16 .nil)
  let e23 : Ords := .cons 0 e22 (.cons 5 e17 .nil)
  let e24 : Ords := .cons 4 e18 .nil
  let e25 : Ords := .cons 4 e19 (.cons 8 e24 .nil)
  let e26 : Ords := .cons 3 e25 (.cons 4 e20 .nil)
  let e27 : Ords := .cons 2 e26 (.cons 4 e21 .nil)
  let e28 : Ords := .cons 1 e27 (.cons 4 e22 .nil)
  let e29 : Ords := .cons 0 e28 (.cons 4 e23 .nil)
  e29
/-- The orders of the last row of the chain's step. -/
def ordsC : Ords :=
  let e0 : Ords := .cons 3 .nil .nil
  let e1 : Ords := .cons 2 e0 .nil
  let e2 : Ords := .cons 0 e1 .nil
  let e3 : Ords := .cons 1 e0 .nil
  let e4 : Ords := .cons 1 e1 (.cons 2 e3 .nil)
  let e5 : Ords := .cons 0 e4 (.cons 1 e2 .nil)
  e5
def pairV (f g : Nat → Int) : AV := .inr [.inr (rowI .u8 32 f), .inr (rowI .u8 32 g)]
set_option maxHeartbeats 8000000 in
set_option maxRecDepth 20000 in
theorem rootKdf_fun (r x : Nat → Int) (hr : Byt r) (hx : Byt x) : Fun Tryd.prog 4 [Ag (rowI .u8 32 r), Ag (rowI .u8 32 x)] (pairV (okR r x) (fun i => okR r x (32 + i))) := by
  refine fun_of_vcX Tryd.func4 rfl (by kernel_rfl) (by simp [Tryd.ntmps4]) rfl rfl ?_
  simp only [Tryd.results4, rulesX, rulesL, sn_upto, sn_from, slN_def, run_cap, rules, rules2, loopRules, Tryd.facts, base0, Int.toNat_zero, Nat.reduceAdd, Nat.reduceMul, Nat.reduceSub, Nat.reduceLT, Nat.reduceLeDiff, Nat.reduceEqDiff, Int.reduceLE, Int.reduceLT, Int.reduceToNat, Int.reduceNe, Int.reduceEq, not_false_eq_true, Nat.reduceBEq, Nat.reduceDiv, Int.natCast_zero, Int.natCast_one, Int.reduceAdd, Int.reduceSub, reduceIte, ↓reduceIte, Value.oneCell', rowI_length, rowI_take, rowI_splice, rep_all, row_zero, le_nat, Int.toNat_natCast, Nat.zero_add, sok_row, reduceCtorEq]
  refine .inl ?_
  simp only [rulesX, rulesL, sn_upto, sn_from, slN_def, run_cap, rules, rules2, loopRules, Tryd.facts, base0, Int.toNat_zero, Nat.reduceAdd, Nat.reduceMul, Nat.reduceSub, Nat.reduceLT, Nat.reduceLeDiff, Nat.reduceEqDiff, Int.reduceLE, Int.reduceLT, Int.reduceToNat, Int.reduceNe, Int.reduceEq, not_false_eq_true, Nat.reduceBEq, Nat.reduceDiv, Int.natCast_zero, Int.natCast_one, Int.reduceAdd, Int.reduceSub, reduceIte, ↓reduceIte, Value.oneCell', rowI_length, rowI_take, rowI_splice, rep_all, row_zero, le_nat, Int.toNat_natCast, Nat.zero_add, sok_row, reduceCtorEq]
  refine ⟨by kernel_rfl, by decide, by decide, by decide, by decide, by decide, by decide, by decide, by decide, by decide, by decide, by decide, ?_⟩
  refine made_late (mfun_mono (Post' := Made 3 64 (okR r x)) (hkdf_m (ok := 0) (ck := 32) (om := 0) (cm := 32) (oq := 0) (cq := 12) (nk := 32) (m := 32) (q := 12) (n := 64) (salt := r) (f := x) (info := labelR) (cs := rowI .u8 32 r) (ds := rowI .u8 32 x) (es := rowI .u8 12 labelR) hr hx labelR_byt shows_row0 plainI (by decide) shows_row0 plainI shows_row0 plainI (by decide)) (fun v out h => h.resolve_left (fun e => by cases e.1))) (three 0 1 6)
    (fits3 (r0 := true) (r1 := true) (r2 := true) (by simp only [upd_apply, sn_upto, sn_from, slN_def, run_cap, rules, rules2, loopRules, Tryd.facts, base0, Int.toNat_zero, Nat.reduceAdd, Nat.reduceMul, Nat.reduceSub, Nat.reduceLT, Nat.reduceLeDiff, Nat.reduceEqDiff, Int.reduceLE, Int.reduceLT, Int.reduceToNat, Int.reduceNe, Int.reduceEq, not_false_eq_true, Nat.reduceBEq, Nat.reduceDiv, Int.natCast_zero, Int.natCast_one, Int.reduceAdd, Int.reduceSub, reduceIte, ↓reduceIte, Value.oneCell', rowI_length, rowI_take, rowI_splice, rep_all, row_zero, le_nat, Int.toNat_natCast, Nat.zero_add, sok_row, reduceCtorEq]) plainI (by simp only [upd_apply, sn_upto, sn_from, slN_def, run_cap, rules, rules2, loopRules, Tryd.facts, base0, Int.toNat_zero, Nat.reduceAdd, Nat.reduceMul, Nat.reduceSub, Nat.reduceLT, Nat.reduceLeDiff, Nat.reduceEqDiff, Int.reduceLE, Int.reduceLT, Int.reduceToNat, Int.reduceNe, Int.reduceEq, not_false_eq_true, Nat.reduceBEq, Nat.reduceDiv, Int.natCast_zero, Int.natCast_one, Int.reduceAdd, Int.reduceSub, reduceIte, ↓reduceIte, Value.oneCell', rowI_length, rowI_take, rowI_splice, rep_all, row_zero, le_nat, Int.toNat_natCast, Nat.zero_add, sok_row, reduceCtorEq]) plainI (by simp only [upd_same]; rfl) plainI) rfl (fun M h n hn => ?_) (by kernel_rfl) ?_
  · have a := h (Sl 0 0 32 32) (List.Mem.head _)
    have b := h (Sl 1 0 32 32) (List.Mem.tail _ (List.Mem.head _))
    have c := h (Sl 6 0 12 12) (List.Mem.tail _ (List.Mem.tail _ (List.Mem.head _)))
    simp only [three]; split
    · exact a
    · split
      · exact b
      · exact c
  intro c1 tail1 h1 h2 h3
  simp only [rulesX, rulesL, sn_upto, sn_from, slN_def, run_cap, rules, rules2, loopRules, Tryd.facts, base0, Int.toNat_zero, Nat.reduceAdd, Nat.reduceMul, Nat.reduceSub, Nat.reduceLT, Nat.reduceLeDiff, Nat.reduceEqDiff, Int.reduceLE, Int.reduceLT, Int.reduceToNat, Int.reduceNe, Int.reduceEq, not_false_eq_true, Nat.reduceBEq, Nat.reduceDiv, Int.natCast_zero, Int.natCast_one, Int.reduceAdd, Int.reduceSub, reduceIte, ↓reduceIte, Value.oneCell', rowI_length, rowI_take, rowI_splice, rep_all, row_zero, le_nat, Int.toNat_natCast, Nat.zero_add, sok_row, reduceCtorEq]
  refine .inr ⟨Tryd.mixed, ordsR, by kernel_rfl, ?_⟩
  have n1 : (c1 = 32) = False := eq_false (by omega)
  have l1 : (32 ≤ (c1 : Int)) = True := eq_true (by omega)
  have l2 : (64 ≤ (c1 : Int)) = True := eq_true (by omega)
  have len : ∀ m, m ≤ 64 → (m ≤ (rowI .u8 64 (okR r x) ++ tail1).length) = True := fun m hm => eq_true (by rw [List.length_append, rowI_length]; omega)
  have p0 := row_part0 (n := 64) (m := 32) (f := okR r x) (tail := tail1) (by decide)
  have p1 := row_part (n := 64) (a := 32) (m := 32) (f := okR r x) (tail := tail1) (by decide)
  simp only [ordsR, n1, l1, l2, len 32 (by decide), len 64 (by decide), p0, p1, rulesX, rulesL, sn_upto, sn_from, slN_def, run_cap, rules, rules2, loopRules, Tryd.facts, base0, Int.toNat_zero, Nat.reduceAdd, Nat.reduceMul, Nat.reduceSub, Nat.reduceLT, Nat.reduceLeDiff, Nat.reduceEqDiff, Int.reduceLE, Int.reduceLT, Int.reduceToNat, Int.reduceNe, Int.reduceEq, not_false_eq_true, Nat.reduceBEq, Nat.reduceDiv, Int.natCast_zero, Int.natCast_one, Int.reduceAdd, Int.reduceSub, reduceIte, ↓reduceIte, Value.oneCell', rowI_length, rowI_take, rowI_splice, rep_all, row_zero, le_nat, Int.toNat_natCast, Nat.zero_add, sok_row, reduceCtorEq]
  rfl
set_option maxHeartbeats 8000000 in
set_option maxRecDepth 20000 in
theorem keyAt_m {o n c at' : Nat} {f : Nat → Int} {cs : List SV} (hs : Shows cs o n f) (hp : cs.all SV.plain = true) (h : at' + 32 ≤ n) (hn : n < 1000000) :
    MFun Tryd.prog 13 [Sl 0 o n c, I .i64 at'] 1 (lk [(0, ⟨false, cs⟩)]) (fun v out => v = Ag (rowI .u8 32 (fun i => f (at' + i))) ∧ out = fun _ => none) := by
  refine mfun_of_vc Tryd.func13 rfl (by kernel_rfl) (by simp [Tryd.ntmps13]) Tryd.callable13 (by simp [AV.ok, CV.ok, SV.names]) all1 (inn1 hp) ?_
  have ok1 : ∀ {M : Nat → Prop}, (∀ x ∈ cs, SV.ok M x) = True := eq_true (ok_all hp)
  simp only [Tryd.results13, sn_upto, sn_from, slN_def, run_cap, rules, rules2, loopRules, Tryd.facts, base0, Int.toNat_zero, Nat.reduceAdd, Nat.reduceMul, Nat.reduceSub, Nat.reduceLT, Nat.reduceLeDiff, Nat.reduceEqDiff, Int.reduceLE, Int.reduceLT, Int.reduceToNat, Int.reduceNe, Int.reduceEq, not_false_eq_true, Nat.reduceBEq, Nat.reduceDiv, Int.natCast_zero, Int.natCast_one, Int.reduceAdd, Int.reduceSub, reduceIte, ↓reduceIte, Value.oneCell', rowI_length, rowI_take, rowI_splice, rep_all, row_zero, le_nat, Int.toNat_natCast, Nat.zero_add, sok_row, reduceCtorEq]
  refine loop_count 32 (fun k => [(0, Sl 0 o n c), (1, I .i64 at'), (4, Ptr 1 0), (5, Ptr 2 0), (6, I .i64 k)])
    (fun k => [(0, ⟨false, cs⟩), (1, ⟨true, rowI .u8 32 (fun _ => 0)⟩), (2, ⟨true, rowI .u8 32 (fun i => if i < k then f (at' + i) else 0)⟩)]) _ ?_ ?_ ?_
  · simp only [ok1, Nat.not_lt_zero, if_false, sn_upto, sn_from, slN_def, run_cap, rules, rules2, loopRules, Tryd.facts, base0, Int.toNat_zero, Nat.reduceAdd, Nat.reduceMul, Nat.reduceSub, Nat.reduceLT, Nat.reduceLeDiff, Nat.reduceEqDiff, Int.reduceLE, Int.reduceLT, Int.reduceToNat, Int.reduceNe, Int.reduceEq, not_false_eq_true, Nat.reduceBEq, Nat.reduceDiv, Int.natCast_zero, Int.natCast_one, Int.reduceAdd, Int.reduceSub, reduceIte, ↓reduceIte, Value.oneCell', rowI_length, rowI_take, rowI_splice, rep_all, row_zero, le_nat, Int.toNat_natCast, Nat.zero_add, sok_row, reduceCtorEq]
  · intro k hk
    have a3 : ((k : Int) < 32) = True := lt_nat (m := 32) hk
    have d1 : decide (0 ≤ (at' : Int)) = true := decide_eq_true (by omega)
    have w1 : IntKind.i64.wrap ((at' : Int) + (k : Int)) = ((at' + k : Nat) : Int) := wrapA _ _ (by omega)
    have d2 : decide (((at' + k : Nat) : Int) < (n : Int)) = true := decide_eq_true (by omega)
    have l2 : (((at' + k : Nat) : Int) < (n : Int)) = True := eq_true (by omega)
    have fin : rowI .u8 32 (upd (fun i => if i < k then f (at' + i) else 0) k (f (at' + k))) = rowI .u8 32 (fun i => if i < k + 1 then f (at' + i) else 0) := row_upto (f := fun i => f (at' + i))
    simp only [sn_upto, sn_from, slN_def, run_cap, rules, rules2, loopRules, Tryd.facts, base0, Int.toNat_zero, Nat.reduceAdd, Nat.reduceMul, Nat.reduceSub, Nat.reduceLT, Nat.reduceLeDiff, Nat.reduceEqDiff, Int.reduceLE, Int.reduceLT, Int.reduceToNat, Int.reduceNe, Int.reduceEq, not_false_eq_true, Nat.reduceBEq, Nat.reduceDiv, Int.natCast_zero, Int.natCast_one, Int.reduceAdd, Int.reduceSub, reduceIte, ↓reduceIte, Value.oneCell', rowI_length, rowI_take, rowI_splice, rep_all, row_zero, le_nat, Int.toNat_natCast, Nat.zero_add, sok_row, reduceCtorEq]
    refine vcIf_yes (by simp; omega) ?_
    simp only [d1, l2, w1, a3, hs (at' + k) (by omega), nat_nn, Nat.mul_one, rowI_splice1 .u8 32 _ k hk, fin, wrapS k (by omega), decide_true, sn_upto, sn_from, slN_def, run_cap, rules, rules2, loopRules, Tryd.facts, base0, Int.toNat_zero, Nat.reduceAdd, Nat.reduceMul, Nat.reduceSub, Nat.reduceLT, Nat.reduceLeDiff, Nat.reduceEqDiff, Int.reduceLE, Int.reduceLT, Int.reduceToNat, Int.reduceNe, Int.reduceEq, not_false_eq_true, Nat.reduceBEq, Nat.reduceDiv, Int.natCast_zero, Int.natCast_one, Int.reduceAdd, Int.reduceSub, reduceIte, ↓reduceIte, Value.oneCell', rowI_length, rowI_take, rowI_splice, rep_all, row_zero, le_nat, Int.toNat_natCast, Nat.zero_add, sok_row, reduceCtorEq]
    exact ⟨by omega, ok_all hp⟩
  · simp only [sn_upto, sn_from, slN_def, run_cap, rules, rules2, loopRules, Tryd.facts, base0, Int.toNat_zero, Nat.reduceAdd, Nat.reduceMul, Nat.reduceSub, Nat.reduceLT, Nat.reduceLeDiff, Nat.reduceEqDiff, Int.reduceLE, Int.reduceLT, Int.reduceToNat, Int.reduceNe, Int.reduceEq, not_false_eq_true, Nat.reduceBEq, Nat.reduceDiv, Int.natCast_zero, Int.natCast_one, Int.reduceAdd, Int.reduceSub, reduceIte, ↓reduceIte, Value.oneCell', rowI_length, rowI_take, rowI_splice, rep_all, row_zero, le_nat, Int.toNat_natCast, Nat.zero_add, sok_row, reduceCtorEq]
    refine vcIf_no (by simp) ?_
    simp only [row_all, sn_upto, sn_from, slN_def, run_cap, rules, rules2, loopRules, Tryd.facts, base0, Int.toNat_zero, Nat.reduceAdd, Nat.reduceMul, Nat.reduceSub, Nat.reduceLT, Nat.reduceLeDiff, Nat.reduceEqDiff, Int.reduceLE, Int.reduceLT, Int.reduceToNat, Int.reduceNe, Int.reduceEq, not_false_eq_true, Nat.reduceBEq, Nat.reduceDiv, Int.natCast_zero, Int.natCast_one, Int.reduceAdd, Int.reduceSub, reduceIte, ↓reduceIte, Value.oneCell', rowI_length, rowI_take, rowI_splice, rep_all, row_zero, le_nat, Int.toNat_natCast, Nat.zero_add, sok_row, reduceCtorEq]
    exact ret_plain (v := Ag (rowI .u8 32 (fun i => f (at' + i)))) plainI ⟨rfl, rfl⟩
theorem keyAt_call {s : AS} {nm t o n c at' : Nat} {rw : Bool} {f : Nat → Int} {cs : List SV} (hb : s.box t = some ⟨rw, cs⟩) (hs : Shows cs o n f) (hp : cs.all SV.plain = true) (h : at' + 32 ≤ n) (hn : n < 1000000) {dst : Option Nat} {K : AS → Prop}
    (hk : K (s.put dst (some (Ag (rowI .u8 32 (fun i => f (at' + i))))))) : vcCall Tryd.prog nm 13 (some [Sl t o n c, I .i64 at']) dst K s :=
  (keyAt_m hs hp h hn).vcRead (fun _ => t) (fits1 hb hp) plainI rfl hk
set_option maxHeartbeats 8000000 in
set_option maxRecDepth 20000 in
theorem refRootKdf_fun (r x : Nat → Int) (hr : Byt r) (hx : Byt x) : Fun Tryd.prog 5 [Ag (rowI .u8 32 r), Ag (rowI .u8 32 x)] (pairV (okR r x) (fun i => okR r x (32 + i))) := by
  refine fun_of_vc Tryd.func5 rfl (by kernel_rfl) (by simp [Tryd.ntmps5]) rfl rfl ?_
  simp only [Tryd.results5, sn_upto, sn_from, slN_def, run_cap, rules, rules2, loopRules, Tryd.facts, base0, Int.toNat_zero, Nat.reduceAdd, Nat.reduceMul, Nat.reduceSub, Nat.reduceLT, Nat.reduceLeDiff, Nat.reduceEqDiff, Int.reduceLE, Int.reduceLT, Int.reduceToNat, Int.reduceNe, Int.reduceEq, not_false_eq_true, Nat.reduceBEq, Nat.reduceDiv, Int.natCast_zero, Int.natCast_one, Int.reduceAdd, Int.reduceSub, reduceIte, ↓reduceIte, Value.oneCell', rowI_length, rowI_take, rowI_splice, rep_all, row_zero, le_nat, Int.toNat_natCast, Nat.zero_add, sok_row, reduceCtorEq]
  refine ⟨by kernel_rfl, by decide, by decide, by decide, by decide, by decide, by decide, by decide, by decide, by decide, by decide, by decide, ?_⟩
  refine refHkdf_late (t0 := 0) (t1 := 1) (t2 := 6) (nk := 32) (m := 32) (q := 12) (N := 64) (r0 := true) (r1 := true) (r2 := true) (salt := r) (f := x) (info := labelR) (cs := rowI .u8 32 r) (ds := rowI .u8 32 x) (es := rowI .u8 12 labelR)
    hr hx labelR_byt (by simp only [upd_apply, sn_upto, sn_from, slN_def, run_cap, rules, rules2, loopRules, Tryd.facts, base0, Int.toNat_zero, Nat.reduceAdd, Nat.reduceMul, Nat.reduceSub, Nat.reduceLT, Nat.reduceLeDiff, Nat.reduceEqDiff, Int.reduceLE, Int.reduceLT, Int.reduceToNat, Int.reduceNe, Int.reduceEq, not_false_eq_true, Nat.reduceBEq, Nat.reduceDiv, Int.natCast_zero, Int.natCast_one, Int.reduceAdd, Int.reduceSub, reduceIte, ↓reduceIte, Value.oneCell', rowI_length, rowI_take, rowI_splice, rep_all, row_zero, le_nat, Int.toNat_natCast, Nat.zero_add, sok_row, reduceCtorEq]) plainI (by simp only [upd_apply, sn_upto, sn_from, slN_def, run_cap, rules, rules2, loopRules, Tryd.facts, base0, Int.toNat_zero, Nat.reduceAdd, Nat.reduceMul, Nat.reduceSub, Nat.reduceLT, Nat.reduceLeDiff, Nat.reduceEqDiff, Int.reduceLE, Int.reduceLT, Int.reduceToNat, Int.reduceNe, Int.reduceEq, not_false_eq_true, Nat.reduceBEq, Nat.reduceDiv, Int.natCast_zero, Int.natCast_one, Int.reduceAdd, Int.reduceSub, reduceIte, ↓reduceIte, Value.oneCell', rowI_length, rowI_take, rowI_splice, rep_all, row_zero, le_nat, Int.toNat_natCast, Nat.zero_add, sok_row, reduceCtorEq]) plainI (by simp only [upd_same]; rfl) plainI
    (.inr ⟨0, 32, rfl, shows_row0⟩) (.inr ⟨0, 32, rfl, shows_row0⟩) (.inr ⟨0, 12, rfl, shows_row0⟩) (by decide) (by kernel_rfl) ?_
  intro c tail h1 h2 h3
  simp only [sn_upto, sn_from, slN_def, run_cap, rules, rules2, loopRules, Tryd.facts, base0, Int.toNat_zero, Nat.reduceAdd, Nat.reduceMul, Nat.reduceSub, Nat.reduceLT, Nat.reduceLeDiff, Nat.reduceEqDiff, Int.reduceLE, Int.reduceLT, Int.reduceToNat, Int.reduceNe, Int.reduceEq, not_false_eq_true, Nat.reduceBEq, Nat.reduceDiv, Int.natCast_zero, Int.natCast_one, Int.reduceAdd, Int.reduceSub, reduceIte, ↓reduceIte, Value.oneCell', rowI_length, rowI_take, rowI_splice, rep_all, row_zero, le_nat, Int.toNat_natCast, Nat.zero_add, sok_row, reduceCtorEq]
  refine keyAt_call (at' := 0) (rw := true) (f := okR r x) (cs := rowI .u8 64 (okR r x) ++ tail) (by simp only [upd_apply, sn_upto, sn_from, slN_def, run_cap, rules, rules2, loopRules, Tryd.facts, base0, Int.toNat_zero, Nat.reduceAdd, Nat.reduceMul, Nat.reduceSub, Nat.reduceLT, Nat.reduceLeDiff, Nat.reduceEqDiff, Int.reduceLE, Int.reduceLT, Int.reduceToNat, Int.reduceNe, Int.reduceEq, not_false_eq_true, Nat.reduceBEq, Nat.reduceDiv, Int.natCast_zero, Int.natCast_one, Int.reduceAdd, Int.reduceSub, reduceIte, ↓reduceIte, Value.oneCell', rowI_length, rowI_take, rowI_splice, rep_all, row_zero, le_nat, Int.toNat_natCast, Nat.zero_add, sok_row, reduceCtorEq]; rfl) shows_row (plainT h3) (by decide) (by decide) ?_
  simp only [sn_upto, sn_from, slN_def, run_cap, rules, rules2, loopRules, Tryd.facts, base0, Int.toNat_zero, Nat.reduceAdd, Nat.reduceMul, Nat.reduceSub, Nat.reduceLT, Nat.reduceLeDiff, Nat.reduceEqDiff, Int.reduceLE, Int.reduceLT, Int.reduceToNat, Int.reduceNe, Int.reduceEq, not_false_eq_true, Nat.reduceBEq, Nat.reduceDiv, Int.natCast_zero, Int.natCast_one, Int.reduceAdd, Int.reduceSub, reduceIte, ↓reduceIte, Value.oneCell', rowI_length, rowI_take, rowI_splice, rep_all, row_zero, le_nat, Int.toNat_natCast, Nat.zero_add, sok_row, reduceCtorEq]
  refine keyAt_call (at' := 32) (rw := true) (f := okR r x) (cs := rowI .u8 64 (okR r x) ++ tail) (by simp only [upd_apply, sn_upto, sn_from, slN_def, run_cap, rules, rules2, loopRules, Tryd.facts, base0, Int.toNat_zero, Nat.reduceAdd, Nat.reduceMul, Nat.reduceSub, Nat.reduceLT, Nat.reduceLeDiff, Nat.reduceEqDiff, Int.reduceLE, Int.reduceLT, Int.reduceToNat, Int.reduceNe, Int.reduceEq, not_false_eq_true, Nat.reduceBEq, Nat.reduceDiv, Int.natCast_zero, Int.natCast_one, Int.reduceAdd, Int.reduceSub, reduceIte, ↓reduceIte, Value.oneCell', rowI_length, rowI_take, rowI_splice, rep_all, row_zero, le_nat, Int.toNat_natCast, Nat.zero_add, sok_row, reduceCtorEq]; rfl) shows_row (plainT h3) (by decide) (by decide) ?_
  simp only [Nat.zero_add, sn_upto, sn_from, slN_def, run_cap, rules, rules2, loopRules, Tryd.facts, base0, Int.toNat_zero, Nat.reduceAdd, Nat.reduceMul, Nat.reduceSub, Nat.reduceLT, Nat.reduceLeDiff, Nat.reduceEqDiff, Int.reduceLE, Int.reduceLT, Int.reduceToNat, Int.reduceNe, Int.reduceEq, not_false_eq_true, Nat.reduceBEq, Nat.reduceDiv, Int.natCast_zero, Int.natCast_one, Int.reduceAdd, Int.reduceSub, reduceIte, ↓reduceIte, Value.oneCell', rowI_length, rowI_take, rowI_splice, rep_all, row_zero, le_nat, Int.toNat_natCast, Nat.zero_add, sok_row, reduceCtorEq]
  rfl
/-- The two keys of a chain's step. -/
def chW (k : Nat → Int) (x : Int) : Nat → Int := macW kW ivW k 32 (fun _ => x) 1
set_option maxHeartbeats 8000000 in
set_option maxRecDepth 20000 in
theorem chainKdf_fun (k : Nat → Int) (hk : Byt k) : Fun Tryd.prog 6 [Ag (rowI .u8 32 k)] (pairV (chW k 2) (chW k 1)) := by
  refine fun_of_vc Tryd.func6 rfl (by kernel_rfl) (by simp [Tryd.ntmps6]) rfl rfl ?_
  simp only [Tryd.results6, splice_one, sn_upto, sn_from, slN_def, run_cap, rules, rules2, loopRules, Tryd.facts, base0, Int.toNat_zero, Nat.reduceAdd, Nat.reduceMul, Nat.reduceSub, Nat.reduceLT, Nat.reduceLeDiff, Nat.reduceEqDiff, Int.reduceLE, Int.reduceLT, Int.reduceToNat, Int.reduceNe, Int.reduceEq, not_false_eq_true, Nat.reduceBEq, Nat.reduceDiv, Int.natCast_zero, Int.natCast_one, Int.reduceAdd, Int.reduceSub, reduceIte, ↓reduceIte, Value.oneCell', rowI_length, rowI_take, rowI_splice, rep_all, row_zero, le_nat, Int.toNat_natCast, Nat.zero_add, sok_row, reduceCtorEq]
  refine ⟨by kernel_rfl, ?_⟩
  have hb2 : Byt (fun _ => (2 : Int)) := fun i => by show (0 : Int) ≤ 2 ∧ (2 : Int) < 256; decide
  have hb1 : Byt (fun _ => (1 : Int)) := fun i => by show (0 : Int) ≤ 1 ∧ (1 : Int) < 256; decide
  have mac2 : MFun Tryd.prog 14 [Sl 0 0 32 32, Sl 1 0 1 1] 2 (lk [(0, ⟨false, rowI .u8 32 k⟩), (1, ⟨false, [Sum.inl (.int .u8 2)]⟩)]) (fun u out => u = Ag (rowI .u8 32 (chW k 2)) ∧ out = fun _ => none) := hmac_m (nk := 32) (m := 1) hk hb2 shows_row0 plainI (by decide) shows_one rfl
  have mac1 : MFun Tryd.prog 14 [Sl 0 0 32 32, Sl 1 0 1 1] 2 (lk [(0, ⟨false, rowI .u8 32 k⟩), (1, ⟨false, [Sum.inl (.int .u8 1)]⟩)]) (fun u out => u = Ag (rowI .u8 32 (chW k 1)) ∧ out = fun _ => none) := hmac_m (nk := 32) (m := 1) hk hb1 shows_row0 plainI (by decide) shows_one rfl
  refine mac2.drawRead (two 0 4) (fits2 (rw := true) (rw' := true) (by simp only [upd_apply, sn_upto, sn_from, slN_def, run_cap, rules, rules2, loopRules, Tryd.facts, base0, Int.toNat_zero, Nat.reduceAdd, Nat.reduceMul, Nat.reduceSub, Nat.reduceLT, Nat.reduceLeDiff, Nat.reduceEqDiff, Int.reduceLE, Int.reduceLT, Int.reduceToNat, Int.reduceNe, Int.reduceEq, not_false_eq_true, Nat.reduceBEq, Nat.reduceDiv, Int.natCast_zero, Int.natCast_one, Int.reduceAdd, Int.reduceSub, reduceIte, ↓reduceIte, Value.oneCell', rowI_length, rowI_take, rowI_splice, rep_all, row_zero, le_nat, Int.toNat_natCast, Nat.zero_add, sok_row, reduceCtorEq]) plainI (by simp only [upd_apply, sn_upto, sn_from, slN_def, run_cap, rules, rules2, loopRules, Tryd.facts, base0, Int.toNat_zero, Nat.reduceAdd, Nat.reduceMul, Nat.reduceSub, Nat.reduceLT, Nat.reduceLeDiff, Nat.reduceEqDiff, Int.reduceLE, Int.reduceLT, Int.reduceToNat, Int.reduceNe, Int.reduceEq, not_false_eq_true, Nat.reduceBEq, Nat.reduceDiv, Int.natCast_zero, Int.natCast_one, Int.reduceAdd, Int.reduceSub, reduceIte, ↓reduceIte, Value.oneCell', rowI_length, rowI_take, rowI_splice, rep_all, row_zero, le_nat, Int.toNat_natCast, Nat.zero_add, sok_row, reduceCtorEq]) rfl) plainI rfl (fun M h n hn => ?_) ?_
  · have a := h (Sl 0 0 32 32) (List.Mem.head _)
    have b := h (Sl 4 0 1 1) (List.Mem.tail _ (List.Mem.head _))
    simp only [two]; split
    · exact a
    · exact b
  simp only [splice_one, sn_upto, sn_from, slN_def, run_cap, rules, rules2, loopRules, Tryd.facts, base0, Int.toNat_zero, Nat.reduceAdd, Nat.reduceMul, Nat.reduceSub, Nat.reduceLT, Nat.reduceLeDiff, Nat.reduceEqDiff, Int.reduceLE, Int.reduceLT, Int.reduceToNat, Int.reduceNe, Int.reduceEq, not_false_eq_true, Nat.reduceBEq, Nat.reduceDiv, Int.natCast_zero, Int.natCast_one, Int.reduceAdd, Int.reduceSub, reduceIte, ↓reduceIte, Value.oneCell', rowI_length, rowI_take, rowI_splice, rep_all, row_zero, le_nat, Int.toNat_natCast, Nat.zero_add, sok_row, reduceCtorEq]
  refine mac1.drawRead (two 0 7) (fits2 (rw := true) (rw' := true) (by simp only [upd_apply, sn_upto, sn_from, slN_def, run_cap, rules, rules2, loopRules, Tryd.facts, base0, Int.toNat_zero, Nat.reduceAdd, Nat.reduceMul, Nat.reduceSub, Nat.reduceLT, Nat.reduceLeDiff, Nat.reduceEqDiff, Int.reduceLE, Int.reduceLT, Int.reduceToNat, Int.reduceNe, Int.reduceEq, not_false_eq_true, Nat.reduceBEq, Nat.reduceDiv, Int.natCast_zero, Int.natCast_one, Int.reduceAdd, Int.reduceSub, reduceIte, ↓reduceIte, Value.oneCell', rowI_length, rowI_take, rowI_splice, rep_all, row_zero, le_nat, Int.toNat_natCast, Nat.zero_add, sok_row, reduceCtorEq]) plainI (by simp only [upd_apply, sn_upto, sn_from, slN_def, run_cap, rules, rules2, loopRules, Tryd.facts, base0, Int.toNat_zero, Nat.reduceAdd, Nat.reduceMul, Nat.reduceSub, Nat.reduceLT, Nat.reduceLeDiff, Nat.reduceEqDiff, Int.reduceLE, Int.reduceLT, Int.reduceToNat, Int.reduceNe, Int.reduceEq, not_false_eq_true, Nat.reduceBEq, Nat.reduceDiv, Int.natCast_zero, Int.natCast_one, Int.reduceAdd, Int.reduceSub, reduceIte, ↓reduceIte, Value.oneCell', rowI_length, rowI_take, rowI_splice, rep_all, row_zero, le_nat, Int.toNat_natCast, Nat.zero_add, sok_row, reduceCtorEq]) rfl) plainI rfl (fun M h n hn => ?_) ?_
  · have a := h (Sl 0 0 32 32) (List.Mem.head _)
    have b := h (Sl 7 0 1 1) (List.Mem.tail _ (List.Mem.head _))
    simp only [two]; split
    · exact a
    · exact b
  simp only [splice_one, sn_upto, sn_from, slN_def, run_cap, rules, rules2, loopRules, Tryd.facts, base0, Int.toNat_zero, Nat.reduceAdd, Nat.reduceMul, Nat.reduceSub, Nat.reduceLT, Nat.reduceLeDiff, Nat.reduceEqDiff, Int.reduceLE, Int.reduceLT, Int.reduceToNat, Int.reduceNe, Int.reduceEq, not_false_eq_true, Nat.reduceBEq, Nat.reduceDiv, Int.natCast_zero, Int.natCast_one, Int.reduceAdd, Int.reduceSub, reduceIte, ↓reduceIte, Value.oneCell', rowI_length, rowI_take, rowI_splice, rep_all, row_zero, le_nat, Int.toNat_natCast, Nat.zero_add, sok_row, reduceCtorEq]
  rfl
set_option maxHeartbeats 8000000 in
set_option maxRecDepth 20000 in
theorem refChainKdf_fun (k : Nat → Int) (hk : Byt k) : Fun Tryd.prog 7 [Ag (rowI .u8 32 k)] (pairV (chW k 2) (chW k 1)) := by
  refine fun_of_vcX Tryd.func7 rfl (by kernel_rfl) (by simp [Tryd.ntmps7]) rfl rfl ?_
  simp only [Tryd.results7, splice_one, rulesX, rulesL, sn_upto, sn_from, slN_def, run_cap, rules, rules2, loopRules, Tryd.facts, base0, Int.toNat_zero, Nat.reduceAdd, Nat.reduceMul, Nat.reduceSub, Nat.reduceLT, Nat.reduceLeDiff, Nat.reduceEqDiff, Int.reduceLE, Int.reduceLT, Int.reduceToNat, Int.reduceNe, Int.reduceEq, not_false_eq_true, Nat.reduceBEq, Nat.reduceDiv, Int.natCast_zero, Int.natCast_one, Int.reduceAdd, Int.reduceSub, reduceIte, ↓reduceIte, Value.oneCell', rowI_length, rowI_take, rowI_splice, rep_all, row_zero, le_nat, Int.toNat_natCast, Nat.zero_add, sok_row, reduceCtorEq]
  have hb2 : Byt (fun _ => (2 : Int)) := fun i => by show (0 : Int) ≤ 2 ∧ (2 : Int) < 256; decide
  have hb1 : Byt (fun _ => (1 : Int)) := fun i => by show (0 : Int) ≤ 1 ∧ (1 : Int) < 256; decide
  refine refMac_call (ta := 0) (tb := 4) (rwa := true) (rwb := true) (key := k) (f := fun _ => 2) hk hb2 (by simp only [upd_apply, sn_upto, sn_from, slN_def, run_cap, rules, rules2, loopRules, Tryd.facts, base0, Int.toNat_zero, Nat.reduceAdd, Nat.reduceMul, Nat.reduceSub, Nat.reduceLT, Nat.reduceLeDiff, Nat.reduceEqDiff, Int.reduceLE, Int.reduceLT, Int.reduceToNat, Int.reduceNe, Int.reduceEq, not_false_eq_true, Nat.reduceBEq, Nat.reduceDiv, Int.natCast_zero, Int.natCast_one, Int.reduceAdd, Int.reduceSub, reduceIte, ↓reduceIte, Value.oneCell', rowI_length, rowI_take, rowI_splice, rep_all, row_zero, le_nat, Int.toNat_natCast, Nat.zero_add, sok_row, reduceCtorEq]) shows_row0 plainI (by simp only [upd_apply, sn_upto, sn_from, slN_def, run_cap, rules, rules2, loopRules, Tryd.facts, base0, Int.toNat_zero, Nat.reduceAdd, Nat.reduceMul, Nat.reduceSub, Nat.reduceLT, Nat.reduceLeDiff, Nat.reduceEqDiff, Int.reduceLE, Int.reduceLT, Int.reduceToNat, Int.reduceNe, Int.reduceEq, not_false_eq_true, Nat.reduceBEq, Nat.reduceDiv, Int.natCast_zero, Int.natCast_one, Int.reduceAdd, Int.reduceSub, reduceIte, ↓reduceIte, Value.oneCell', rowI_length, rowI_take, rowI_splice, rep_all, row_zero, le_nat, Int.toNat_natCast, Nat.zero_add, sok_row, reduceCtorEq]) shows_one rfl (by decide) (by decide) ?_
  simp only [splice_one, rulesX, rulesL, sn_upto, sn_from, slN_def, run_cap, rules, rules2, loopRules, Tryd.facts, base0, Int.toNat_zero, Nat.reduceAdd, Nat.reduceMul, Nat.reduceSub, Nat.reduceLT, Nat.reduceLeDiff, Nat.reduceEqDiff, Int.reduceLE, Int.reduceLT, Int.reduceToNat, Int.reduceNe, Int.reduceEq, not_false_eq_true, Nat.reduceBEq, Nat.reduceDiv, Int.natCast_zero, Int.natCast_one, Int.reduceAdd, Int.reduceSub, reduceIte, ↓reduceIte, Value.oneCell', rowI_length, rowI_take, rowI_splice, rep_all, row_zero, le_nat, Int.toNat_natCast, Nat.zero_add, sok_row, reduceCtorEq]
  refine refMac_call (ta := 0) (tb := 9) (rwa := true) (rwb := true) (key := k) (f := fun _ => 1) hk hb1 (by simp only [upd_apply, sn_upto, sn_from, slN_def, run_cap, rules, rules2, loopRules, Tryd.facts, base0, Int.toNat_zero, Nat.reduceAdd, Nat.reduceMul, Nat.reduceSub, Nat.reduceLT, Nat.reduceLeDiff, Nat.reduceEqDiff, Int.reduceLE, Int.reduceLT, Int.reduceToNat, Int.reduceNe, Int.reduceEq, not_false_eq_true, Nat.reduceBEq, Nat.reduceDiv, Int.natCast_zero, Int.natCast_one, Int.reduceAdd, Int.reduceSub, reduceIte, ↓reduceIte, Value.oneCell', rowI_length, rowI_take, rowI_splice, rep_all, row_zero, le_nat, Int.toNat_natCast, Nat.zero_add, sok_row, reduceCtorEq]) shows_row0 plainI (by simp only [upd_apply, sn_upto, sn_from, slN_def, run_cap, rules, rules2, loopRules, Tryd.facts, base0, Int.toNat_zero, Nat.reduceAdd, Nat.reduceMul, Nat.reduceSub, Nat.reduceLT, Nat.reduceLeDiff, Nat.reduceEqDiff, Int.reduceLE, Int.reduceLT, Int.reduceToNat, Int.reduceNe, Int.reduceEq, not_false_eq_true, Nat.reduceBEq, Nat.reduceDiv, Int.natCast_zero, Int.natCast_one, Int.reduceAdd, Int.reduceSub, reduceIte, ↓reduceIte, Value.oneCell', rowI_length, rowI_take, rowI_splice, rep_all, row_zero, le_nat, Int.toNat_natCast, Nat.zero_add, sok_row, reduceCtorEq]) shows_one rfl (by decide) (by decide) ?_
  simp only [splice_one, rulesX, rulesL, sn_upto, sn_from, slN_def, run_cap, rules, rules2, loopRules, Tryd.facts, base0, Int.toNat_zero, Nat.reduceAdd, Nat.reduceMul, Nat.reduceSub, Nat.reduceLT, Nat.reduceLeDiff, Nat.reduceEqDiff, Int.reduceLE, Int.reduceLT, Int.reduceToNat, Int.reduceNe, Int.reduceEq, not_false_eq_true, Nat.reduceBEq, Nat.reduceDiv, Int.natCast_zero, Int.natCast_one, Int.reduceAdd, Int.reduceSub, reduceIte, ↓reduceIte, Value.oneCell', rowI_length, rowI_take, rowI_splice, rep_all, row_zero, le_nat, Int.toNat_natCast, Nat.zero_add, sok_row, reduceCtorEq]
  refine .inr ⟨Tryd.mixed, ordsC, by kernel_rfl, ?_⟩
  simp only [ordsC, rulesX, rulesL, sn_upto, sn_from, slN_def, run_cap, rules, rules2, loopRules, Tryd.facts, base0, Int.toNat_zero, Nat.reduceAdd, Nat.reduceMul, Nat.reduceSub, Nat.reduceLT, Nat.reduceLeDiff, Nat.reduceEqDiff, Int.reduceLE, Int.reduceLT, Int.reduceToNat, Int.reduceNe, Int.reduceEq, not_false_eq_true, Nat.reduceBEq, Nat.reduceDiv, Int.natCast_zero, Int.natCast_one, Int.reduceAdd, Int.reduceSub, reduceIte, ↓reduceIte, Value.oneCell', rowI_length, rowI_take, rowI_splice, rep_all, row_zero, le_nat, Int.toNat_natCast, Nat.zero_add, sok_row, reduceCtorEq]
  rfl
end Go.Proofs.YtlpckbkmmocaaaaDoor
