/-
  A state's bytes, in the program.
-/
import Derived.Test.YtikibkboebbdjaaVcgG5
import Derived.Test.YtikibkboebbdjaaVcgBr
set_option linter.unusedSimpArgs false
set_option linter.unusedVariables false
namespace Go.Proofs.Ytikibkboebbdjaa
open Go.Vcg
set_option maxHeartbeats 8000000 in
set_option maxRecDepth 20000 in
theorem appendU32_m {n o c : Nat} {f : Nat → Int} {cs : List SV} {x : Int} (hg : Grows cs o n c f) (hn : n + 4 ≤ 140737488355328) :
    MFun Try.prog 39 [Sl 0 o n c, I .u32 x] 1 (lk [(0, ⟨true, cs⟩)]) (Made 1 (n + 4) (joinB n f (u32B x))) := by
  refine mfun_of_vc Try.func39 rfl (by kernel_rfl) (by simp [Try.ntmps39]) Try.callable39 (by simp [AV.ok, CV.ok, SV.names]) all1 (inn1 hg.plain) ?_
  have e0 : IntKind.u8.wrap (shrI .u32 x 24) = u32B x 0 := rfl
  have e1 : IntKind.u8.wrap (shrI .u32 x 16) = u32B x 1 := rfl
  have e2 : IntKind.u8.wrap (shrI .u32 x 8) = u32B x 2 := rfl
  have e3 : IntKind.u8.wrap x = u32B x 3 := by unfold u32B shrI; simp
  simp only [Try.results39, e0, e1, e2, e3, spl4_0, spl4_1, spl4_2, spl4_3, sn_upto, sn_from, slN_def, run_cap, rules, rules2, loopRules, Try.facts, base0, Int.toNat_zero, Nat.reduceAdd, Nat.reduceMul, Nat.reduceSub, Nat.reduceLT, Nat.reduceLeDiff, Nat.reduceEqDiff, Int.reduceLE, Int.reduceLT, Int.reduceToNat, Int.reduceNe, Int.reduceEq, not_false_eq_true, Nat.reduceBEq, Nat.reduceDiv, Int.natCast_zero, Int.natCast_one, Int.reduceAdd, Int.reduceSub, reduceIte, ↓reduceIte, Value.oneCell', rowI_length, rowI_take, rowI_splice, rep_all, row_zero, le_nat, Int.toNat_natCast, Nat.zero_add, sok_row, reduceCtorEq]
  refine append_b (g := u32B x) Try.mkK28 Try.slK28 (by simp only [upd_apply, sn_upto, sn_from, slN_def, run_cap, rules, rules2, loopRules, Try.facts, base0, Int.toNat_zero, Nat.reduceAdd, Nat.reduceMul, Nat.reduceSub, Nat.reduceLT, Nat.reduceLeDiff, Nat.reduceEqDiff, Int.reduceLE, Int.reduceLT, Int.reduceToNat, Int.reduceNe, Int.reduceEq, not_false_eq_true, Nat.reduceBEq, Nat.reduceDiv, Int.natCast_zero, Int.natCast_one, Int.reduceAdd, Int.reduceSub, reduceIte, ↓reduceIte, Value.oneCell', rowI_length, rowI_take, rowI_splice, rep_all, row_zero, le_nat, Int.toNat_natCast, Nat.zero_add, sok_row, reduceCtorEq]) hg (.inr ⟨14, 0, 4, true, _, rfl, by simp only [upd_apply, sn_upto, sn_from, slN_def, run_cap, rules, rules2, loopRules, Try.facts, base0, Int.toNat_zero, Nat.reduceAdd, Nat.reduceMul, Nat.reduceSub, Nat.reduceLT, Nat.reduceLeDiff, Nat.reduceEqDiff, Int.reduceLE, Int.reduceLT, Int.reduceToNat, Int.reduceNe, Int.reduceEq, not_false_eq_true, Nat.reduceBEq, Nat.reduceDiv, Int.natCast_zero, Int.natCast_one, Int.reduceAdd, Int.reduceSub, reduceIte, ↓reduceIte, Value.oneCell', rowI_length, rowI_take, rowI_splice, rep_all, row_zero, le_nat, Int.toNat_natCast, Nat.zero_add, sok_row, reduceCtorEq], shows4, by decide⟩) (by omega) ?_
  intro c2 cs2 hg2
  simp only [sn_upto, sn_from, slN_def, run_cap, rules, rules2, loopRules, Try.facts, base0, Int.toNat_zero, Nat.reduceAdd, Nat.reduceMul, Nat.reduceSub, Nat.reduceLT, Nat.reduceLeDiff, Nat.reduceEqDiff, Int.reduceLE, Int.reduceLT, Int.reduceToNat, Int.reduceNe, Int.reduceEq, not_false_eq_true, Nat.reduceBEq, Nat.reduceDiv, Int.natCast_zero, Int.natCast_one, Int.reduceAdd, Int.reduceSub, reduceIte, ↓reduceIte, Value.oneCell', rowI_length, rowI_take, rowI_splice, rep_all, row_zero, le_nat, Int.toNat_natCast, Nat.zero_add, sok_row, reduceCtorEq]
  refine ret_new (k := 1) (q := 15) (cs := cs2) (by decide) ?_ hg2.plain hg2.made
  simp only [sn_upto, sn_from, slN_def, run_cap, rules, rules2, loopRules, Try.facts, base0, Int.toNat_zero, Nat.reduceAdd, Nat.reduceMul, Nat.reduceSub, Nat.reduceLT, Nat.reduceLeDiff, Nat.reduceEqDiff, Int.reduceLE, Int.reduceLT, Int.reduceToNat, Int.reduceNe, Int.reduceEq, not_false_eq_true, Nat.reduceBEq, Nat.reduceDiv, Int.natCast_zero, Int.natCast_one, Int.reduceAdd, Int.reduceSub, reduceIte, ↓reduceIte, Value.oneCell', rowI_length, rowI_take, rowI_splice, rep_all, row_zero, le_nat, Int.toNat_natCast, Nat.zero_add, sok_row, reduceCtorEq]
set_option maxHeartbeats 8000000 in
set_option maxRecDepth 20000 in
theorem bitsOf_m {s : St} {n : Nat} {f : Nat → En} {cs : List SV} (h0 : StoreIs 0 s.store n f cs) (hp : cs.all SV.plain = true) :
    MFun Try.prog 36 [Ag (stL s)] 1 (lk [(0, ⟨false, cs⟩)]) (fun v out => v = I .u8 (flB s) ∧ out = fun _ => none) := by
  refine mfun_of_vc Try.func36 rfl (by kernel_rfl) (by simp [Try.ntmps36]) Try.callable36 (fun y hy => by
    obtain rfl := List.mem_singleton.1 hy
    exact stL_ok (h0.ok (by decide))) all1 (inn1 hp) ?_
  rcases Bool.eq_false_or_eq_true s.own with b1 | b1 <;> rcases Bool.eq_false_or_eq_true s.peer with b2 | b2 <;> rcases Bool.eq_false_or_eq_true s.has with b3 | b3
  all_goals
    simp only [Try.results36, b1, b2, b3, rulesS, sn_upto, sn_from, slN_def, run_cap, rules, rules2, loopRules, Try.facts, base0, Int.toNat_zero, Nat.reduceAdd, Nat.reduceMul, Nat.reduceSub, Nat.reduceLT, Nat.reduceLeDiff, Nat.reduceEqDiff, Int.reduceLE, Int.reduceLT, Int.reduceToNat, Int.reduceNe, Int.reduceEq, not_false_eq_true, Nat.reduceBEq, Nat.reduceDiv, Int.natCast_zero, Int.natCast_one, Int.reduceAdd, Int.reduceSub, reduceIte, ↓reduceIte, Value.oneCell', rowI_length, rowI_take, rowI_splice, rep_all, row_zero, le_nat, Int.toNat_natCast, Nat.zero_add, sok_row, reduceCtorEq]
    refine ret_plain rfl ⟨?_, rfl⟩
    unfold flB; rw [b1, b2, b3]; rfl
/-- Pointers to the keys and the counters of a state in box t. -/
def keyP (t : Nat) : List SV := [.inr (.inl (t, 3)), .inr (.inl (t, 35)), .inr (.inl (t, 67)), .inr (.inl (t, 99)), .inr (.inl (t, 131)), .inr (.inl (t, 163))]
def numP (t : Nat) : List SV := [.inr (.inl (t, 195)), .inr (.inl (t, 196)), .inr (.inl (t, 197)), .inr (.inl (t, 198)), .inr (.inl (t, 199))]
set_option maxHeartbeats 8000000 in
set_option maxRecDepth 20000 in
theorem keysOf_m {s : St} {n : Nat} {f : Nat → En} {cs : List SV} (h0 : StoreIs 1 s.store n f cs) (hp : cs.all SV.plain = true) :
    MFun Try.prog 37 [Ptr 0 0] 2 (lk [(0, ⟨false, stL s⟩), (1, ⟨false, cs⟩)]) (fun v out => v = Ag (keyP 0) ∧ out = fun _ => none) := by
  refine mfun_of_vc Try.func37 rfl (by kernel_rfl) (by simp [Try.ntmps37]) Try.callable37 (by simp [AV.ok, CV.ok, SV.names]) all2 (fun m b h => by
    rcases lk2 h with ⟨rfl, rfl⟩ | ⟨rfl, rfl⟩
    · exact ⟨by omega, stL_ok (h0.ok (by decide))⟩
    · exact ⟨by omega, ok_all hp⟩) ?_
  simp only [Try.results37, sn_upto, sn_from, slN_def, run_cap, rules, rules2, loopRules, Try.facts, base0, Int.toNat_zero, Nat.reduceAdd, Nat.reduceMul, Nat.reduceSub, Nat.reduceLT, Nat.reduceLeDiff, Nat.reduceEqDiff, Int.reduceLE, Int.reduceLT, Int.reduceToNat, Int.reduceNe, Int.reduceEq, not_false_eq_true, Nat.reduceBEq, Nat.reduceDiv, Int.natCast_zero, Int.natCast_one, Int.reduceAdd, Int.reduceSub, reduceIte, ↓reduceIte, Value.oneCell', splice, reduceCtorEq]
  refine ⟨by kernel_rfl, ?_⟩
  have hok : AV.ok (fun n => n < 2) (Ag (keyP 0)) := fun y hy => by
    simp only [keyP, List.mem_cons, List.not_mem_nil, or_false] at hy
    rcases hy with rfl | rfl | rfl | rfl | rfl | rfl <;> exact ⟨show 0 < 2 by decide, rfl⟩
  have e : ∀ n, rho 2 2 n = n := fun n => by unfold rho; split <;> omega
  exact ⟨2, Ag (keyP 0), fun _ => none, Nat.le_refl _, (ren_low (k := 2) (fun n _ => e n) hok).symm, AV.ok_mono (fun n hn => by omega) hok, fun m b h => (by cases h), rfl, rfl⟩
set_option maxHeartbeats 8000000 in
set_option maxRecDepth 20000 in
theorem countersOf_m {s : St} {n : Nat} {f : Nat → En} {cs : List SV} (h0 : StoreIs 1 s.store n f cs) (hp : cs.all SV.plain = true) :
    MFun Try.prog 38 [Ptr 0 0] 2 (lk [(0, ⟨false, stL s⟩), (1, ⟨false, cs⟩)]) (fun v out => v = Ag (numP 0) ∧ out = fun _ => none) := by
  refine mfun_of_vc Try.func38 rfl (by kernel_rfl) (by simp [Try.ntmps38]) Try.callable38 (by simp [AV.ok, CV.ok, SV.names]) all2 (fun m b h => by
    rcases lk2 h with ⟨rfl, rfl⟩ | ⟨rfl, rfl⟩
    · exact ⟨by omega, stL_ok (h0.ok (by decide))⟩
    · exact ⟨by omega, ok_all hp⟩) ?_
  simp only [Try.results38, sn_upto, sn_from, slN_def, run_cap, rules, rules2, loopRules, Try.facts, base0, Int.toNat_zero, Nat.reduceAdd, Nat.reduceMul, Nat.reduceSub, Nat.reduceLT, Nat.reduceLeDiff, Nat.reduceEqDiff, Int.reduceLE, Int.reduceLT, Int.reduceToNat, Int.reduceNe, Int.reduceEq, not_false_eq_true, Nat.reduceBEq, Nat.reduceDiv, Int.natCast_zero, Int.natCast_one, Int.reduceAdd, Int.reduceSub, reduceIte, ↓reduceIte, Value.oneCell', splice, reduceCtorEq]
  refine ⟨by kernel_rfl, ?_⟩
  have hok : AV.ok (fun n => n < 2) (Ag (numP 0)) := fun y hy => by
    simp only [numP, List.mem_cons, List.not_mem_nil, or_false] at hy
    rcases hy with rfl | rfl | rfl | rfl | rfl <;> exact ⟨show 0 < 2 by decide, rfl⟩
  have e : ∀ n, rho 2 2 n = n := fun n => by unfold rho; split <;> omega
  exact ⟨2, Ag (numP 0), fun _ => none, Nat.le_refl _, (ren_low (k := 2) (fun n _ => e n) hok).symm, AV.ok_mono (fun n hn => by omega) hok, fun m b h => (by cases h), rfl, rfl⟩
theorem ptrs_call {s : AS} {nm t u n fn : Nat} {x : St} {f : Nat → En} {ra rb : Bool} {cs : List SV} {L : Nat → List SV} (hL : ∀ r : Nat → Nat, AV.ren r (Ag (L 0)) = Ag (L (r 0)))
    (hm : ∀ {y : St}, StoreIs 1 y.store n f cs → MFun Try.prog fn [Ptr 0 0] 2 (lk [(0, ⟨false, stL y⟩), (1, ⟨false, cs⟩)]) (fun v out => v = Ag (L 0) ∧ out = fun _ => none))
    (hb : s.box t = some ⟨ra, stL x⟩) (hb' : s.box u = some ⟨rb, cs⟩) (hp : cs.all SV.plain = true) (hi : StoreIs u x.store n f cs) {dst : Option Nat} {K : AS → Prop} (hk : K (s.put dst (some (Ag (L t))))) : vcCall Try.prog nm fn (some [Ptr t 0]) dst K s := by
  obtain ⟨v0, g0, e0⟩ := hi.name (k := 1)
  refine (hm (y := { x with store := v0 }) g0).vcCall (two t u) none (fitsS hb hb' hp (e0 _ rfl)) rfl ?_
  rintro v out ⟨rfl, rfl⟩ _
  have e : after s (two t u) 2 nm none (fun _ => none) = s.box := by funext x; simp [after]
  rw [e, hL]
  exact hk
theorem keysOf_call {s : AS} {nm t u n : Nat} {x : St} {f : Nat → En} {ra rb : Bool} {cs : List SV} (hb : s.box t = some ⟨ra, stL x⟩) (hb' : s.box u = some ⟨rb, cs⟩) (hp : cs.all SV.plain = true) (hi : StoreIs u x.store n f cs) {dst : Option Nat} {K : AS → Prop} (hk : K (s.put dst (some (Ag (keyP t))))) :
    vcCall Try.prog nm 37 (some [Ptr t 0]) dst K s := ptrs_call (L := keyP) (fun r => rfl) (fun h => keysOf_m h hp) hb hb' hp hi hk
theorem countersOf_call {s : AS} {nm t u n : Nat} {x : St} {f : Nat → En} {ra rb : Bool} {cs : List SV} (hb : s.box t = some ⟨ra, stL x⟩) (hb' : s.box u = some ⟨rb, cs⟩) (hp : cs.all SV.plain = true) (hi : StoreIs u x.store n f cs) {dst : Option Nat} {K : AS → Prop} (hk : K (s.put dst (some (Ag (numP t))))) :
    vcCall Try.prog nm 38 (some [Ptr t 0]) dst K s := ptrs_call (L := numP) (fun r => rfl) (fun h => countersOf_m h hp) hb hb' hp hi hk
set_option maxHeartbeats 8000000 in
set_option maxRecDepth 20000 in
theorem appendEntry_m {n o c : Nat} {f : Nat → Int} {cs : List SV} {e : En} (hg : Grows cs o n c f) (hn : n + 72 ≤ 140737488355328) :
    MFun Try.prog 40 [Sl 0 o n c, Ag (enL e)] 1 (lk [(0, ⟨true, cs⟩)]) (Made 1 (n + 72) (entB2 n f e)) := by
  refine mfun_of_vc Try.func40 rfl (by kernel_rfl) (by simp [Try.ntmps40]) Try.callable40 (fun u hu => by
    simp only [List.mem_cons, List.not_mem_nil, or_false] at hu
    rcases hu with rfl | rfl
    · exact (show 0 < 1 by decide)
    · exact ok_en) all1 (inn1 hg.plain) ?_
  simp only [Try.results40, rulesE, sn_upto, sn_from, slN_def, run_cap, rules, rules2, loopRules, Try.facts, base0, Int.toNat_zero, Nat.reduceAdd, Nat.reduceMul, Nat.reduceSub, Nat.reduceLT, Nat.reduceLeDiff, Nat.reduceEqDiff, Int.reduceLE, Int.reduceLT, Int.reduceToNat, Int.reduceNe, Int.reduceEq, not_false_eq_true, Nat.reduceBEq, Nat.reduceDiv, Int.natCast_zero, Int.natCast_one, Int.reduceAdd, Int.reduceSub, reduceIte, ↓reduceIte, Value.oneCell', rowI_length, rowI_take, rowI_splice, rep_all, row_zero, le_nat, Int.toNat_natCast, Nat.zero_add, sok_row, reduceCtorEq]
  refine made_eat (appendU32_m hg (by omega)) (by simp only [upd_apply, sn_upto, sn_from, slN_def, run_cap, rules, rules2, loopRules, Try.facts, base0, Int.toNat_zero, Nat.reduceAdd, Nat.reduceMul, Nat.reduceSub, Nat.reduceLT, Nat.reduceLeDiff, Nat.reduceEqDiff, Int.reduceLE, Int.reduceLT, Int.reduceToNat, Int.reduceNe, Int.reduceEq, not_false_eq_true, Nat.reduceBEq, Nat.reduceDiv, Int.natCast_zero, Int.natCast_one, Int.reduceAdd, Int.reduceSub, reduceIte, ↓reduceIte, Value.oneCell', rowI_length, rowI_take, rowI_splice, rep_all, row_zero, le_nat, Int.toNat_natCast, Nat.zero_add, sok_row, reduceCtorEq]) hg.plain rfl ?_
  intro c1 cs1 g1
  simp only [rulesE, sn_upto, sn_from, slN_def, run_cap, rules, rules2, loopRules, Try.facts, base0, Int.toNat_zero, Nat.reduceAdd, Nat.reduceMul, Nat.reduceSub, Nat.reduceLT, Nat.reduceLeDiff, Nat.reduceEqDiff, Int.reduceLE, Int.reduceLT, Int.reduceToNat, Int.reduceNe, Int.reduceEq, not_false_eq_true, Nat.reduceBEq, Nat.reduceDiv, Int.natCast_zero, Int.natCast_one, Int.reduceAdd, Int.reduceSub, reduceIte, ↓reduceIte, Value.oneCell', rowI_length, rowI_take, rowI_splice, rep_all, row_zero, le_nat, Int.toNat_natCast, Nat.zero_add, sok_row, reduceCtorEq]
  refine made_eat (appendU32_m g1 (by omega)) (by simp only [upd_apply, sn_upto, sn_from, slN_def, run_cap, rules, rules2, loopRules, Try.facts, base0, Int.toNat_zero, Nat.reduceAdd, Nat.reduceMul, Nat.reduceSub, Nat.reduceLT, Nat.reduceLeDiff, Nat.reduceEqDiff, Int.reduceLE, Int.reduceLT, Int.reduceToNat, Int.reduceNe, Int.reduceEq, not_false_eq_true, Nat.reduceBEq, Nat.reduceDiv, Int.natCast_zero, Int.natCast_one, Int.reduceAdd, Int.reduceSub, reduceIte, ↓reduceIte, Value.oneCell', rowI_length, rowI_take, rowI_splice, rep_all, row_zero, le_nat, Int.toNat_natCast, Nat.zero_add, sok_row, reduceCtorEq]) g1.plain rfl ?_
  intro c2 cs2 g2
  simp only [rulesE, sn_upto, sn_from, slN_def, run_cap, rules, rules2, loopRules, Try.facts, base0, Int.toNat_zero, Nat.reduceAdd, Nat.reduceMul, Nat.reduceSub, Nat.reduceLT, Nat.reduceLeDiff, Nat.reduceEqDiff, Int.reduceLE, Int.reduceLT, Int.reduceToNat, Int.reduceNe, Int.reduceEq, not_false_eq_true, Nat.reduceBEq, Nat.reduceDiv, Int.natCast_zero, Int.natCast_one, Int.reduceAdd, Int.reduceSub, reduceIte, ↓reduceIte, Value.oneCell', rowI_length, rowI_take, rowI_splice, rep_all, row_zero, le_nat, Int.toNat_natCast, Nat.zero_add, sok_row, reduceCtorEq]
  refine append_b (m := 32) (g := e.pub) Try.mkK28 Try.slK28 (by simp only [upd_apply, sn_upto, sn_from, slN_def, run_cap, rules, rules2, loopRules, Try.facts, base0, Int.toNat_zero, Nat.reduceAdd, Nat.reduceMul, Nat.reduceSub, Nat.reduceLT, Nat.reduceLeDiff, Nat.reduceEqDiff, Int.reduceLE, Int.reduceLT, Int.reduceToNat, Int.reduceNe, Int.reduceEq, not_false_eq_true, Nat.reduceBEq, Nat.reduceDiv, Int.natCast_zero, Int.natCast_one, Int.reduceAdd, Int.reduceSub, reduceIte, ↓reduceIte, Value.oneCell', rowI_length, rowI_take, rowI_splice, rep_all, row_zero, le_nat, Int.toNat_natCast, Nat.zero_add, sok_row, reduceCtorEq]) g2 (.inr ⟨1, 2, 32, true, enL e, rfl, by simp only [upd_apply, sn_upto, sn_from, slN_def, run_cap, rules, rules2, loopRules, Try.facts, base0, Int.toNat_zero, Nat.reduceAdd, Nat.reduceMul, Nat.reduceSub, Nat.reduceLT, Nat.reduceLeDiff, Nat.reduceEqDiff, Int.reduceLE, Int.reduceLT, Int.reduceToNat, Int.reduceNe, Int.reduceEq, not_false_eq_true, Nat.reduceBEq, Nat.reduceDiv, Int.natCast_zero, Int.natCast_one, Int.reduceAdd, Int.reduceSub, reduceIte, ↓reduceIte, Value.oneCell', rowI_length, rowI_take, rowI_splice, rep_all, row_zero, le_nat, Int.toNat_natCast, Nat.zero_add, sok_row, reduceCtorEq], enL_h2, by decide⟩) (by omega) ?_
  intro c3 cs3 g3
  simp only [rulesE, sn_upto, sn_from, slN_def, run_cap, rules, rules2, loopRules, Try.facts, base0, Int.toNat_zero, Nat.reduceAdd, Nat.reduceMul, Nat.reduceSub, Nat.reduceLT, Nat.reduceLeDiff, Nat.reduceEqDiff, Int.reduceLE, Int.reduceLT, Int.reduceToNat, Int.reduceNe, Int.reduceEq, not_false_eq_true, Nat.reduceBEq, Nat.reduceDiv, Int.natCast_zero, Int.natCast_one, Int.reduceAdd, Int.reduceSub, reduceIte, ↓reduceIte, Value.oneCell', rowI_length, rowI_take, rowI_splice, rep_all, row_zero, le_nat, Int.toNat_natCast, Nat.zero_add, sok_row, reduceCtorEq]
  refine append_b (m := 32) (g := e.key) Try.mkK28 Try.slK28 (by simp only [upd_apply, sn_upto, sn_from, slN_def, run_cap, rules, rules2, loopRules, Try.facts, base0, Int.toNat_zero, Nat.reduceAdd, Nat.reduceMul, Nat.reduceSub, Nat.reduceLT, Nat.reduceLeDiff, Nat.reduceEqDiff, Int.reduceLE, Int.reduceLT, Int.reduceToNat, Int.reduceNe, Int.reduceEq, not_false_eq_true, Nat.reduceBEq, Nat.reduceDiv, Int.natCast_zero, Int.natCast_one, Int.reduceAdd, Int.reduceSub, reduceIte, ↓reduceIte, Value.oneCell', rowI_length, rowI_take, rowI_splice, rep_all, row_zero, le_nat, Int.toNat_natCast, Nat.zero_add, sok_row, reduceCtorEq]) g3 (.inr ⟨1, 34, 32, true, enL e, rfl, by simp only [upd_apply, sn_upto, sn_from, slN_def, run_cap, rules, rules2, loopRules, Try.facts, base0, Int.toNat_zero, Nat.reduceAdd, Nat.reduceMul, Nat.reduceSub, Nat.reduceLT, Nat.reduceLeDiff, Nat.reduceEqDiff, Int.reduceLE, Int.reduceLT, Int.reduceToNat, Int.reduceNe, Int.reduceEq, not_false_eq_true, Nat.reduceBEq, Nat.reduceDiv, Int.natCast_zero, Int.natCast_one, Int.reduceAdd, Int.reduceSub, reduceIte, ↓reduceIte, Value.oneCell', rowI_length, rowI_take, rowI_splice, rep_all, row_zero, le_nat, Int.toNat_natCast, Nat.zero_add, sok_row, reduceCtorEq], enL_h34, by decide⟩) (by omega) ?_
  intro c4 cs4 g4
  simp only [sn_upto, sn_from, slN_def, run_cap, rules, rules2, loopRules, Try.facts, base0, Int.toNat_zero, Nat.reduceAdd, Nat.reduceMul, Nat.reduceSub, Nat.reduceLT, Nat.reduceLeDiff, Nat.reduceEqDiff, Int.reduceLE, Int.reduceLT, Int.reduceToNat, Int.reduceNe, Int.reduceEq, not_false_eq_true, Nat.reduceBEq, Nat.reduceDiv, Int.natCast_zero, Int.natCast_one, Int.reduceAdd, Int.reduceSub, reduceIte, ↓reduceIte, Value.oneCell', rowI_length, rowI_take, rowI_splice, rep_all, row_zero, le_nat, Int.toNat_natCast, Nat.zero_add, sok_row, reduceCtorEq]
  refine ret_new (k := 1) (cs := cs4) (by decide) ?_ g4.plain g4.made
  simp only [upd_apply, sn_upto, sn_from, slN_def, run_cap, rules, rules2, loopRules, Try.facts, base0, Int.toNat_zero, Nat.reduceAdd, Nat.reduceMul, Nat.reduceSub, Nat.reduceLT, Nat.reduceLeDiff, Nat.reduceEqDiff, Int.reduceLE, Int.reduceLT, Int.reduceToNat, Int.reduceNe, Int.reduceEq, not_false_eq_true, Nat.reduceBEq, Nat.reduceDiv, Int.natCast_zero, Int.natCast_one, Int.reduceAdd, Int.reduceSub, reduceIte, ↓reduceIte, Value.oneCell', rowI_length, rowI_take, rowI_splice, rep_all, row_zero, le_nat, Int.toNat_natCast, Nat.zero_add, sok_row, reduceCtorEq]
end Go.Proofs.Ytikibkboebbdjaa
