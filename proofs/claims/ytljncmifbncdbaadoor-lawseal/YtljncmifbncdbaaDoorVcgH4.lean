/-
  The digest in the program.
-/
import Derived.Test.YtljncmifbncdbaaDoorVcgH3
set_option linter.unusedSimpArgs false
set_option linter.unusedVariables false
namespace Go.Proofs.YtljncmifbncdbaaDoor
open Go.Vcg
set_option maxHeartbeats 8000000 in
set_option maxRecDepth 20000 in
theorem digest_m {n o c : Nat} {f : Nat → Int} {cs : List SV} (hf : Byt f) (hc : Shows cs o n f) (hp : cs.all SV.plain = true) (hn : n < 140737488355328) (hcap : n ≤ c) :
    MFun Tryd.prog 32 [Sl 0 o n c] 1 (lk [(0, ⟨false, cs⟩)]) (fun u out => u = Ag (rowI .u8 32 (shaW kW ivW f n)) ∧ out = fun _ => none) := by
  refine mfun_of_vc Tryd.func32 rfl (by kernel_rfl) (by simp [Tryd.ntmps32]) Tryd.callable32 (by simp [AV.ok, CV.ok, SV.names]) all1 (inn1 hp) ?_
  have ok1 : ∀ {M : Nat → Prop}, (∀ x ∈ cs, SV.ok M x) = True := eq_true (ok_all hp)
  have hr := remN n 64
  rw [show ((64 : Nat) : Int) = 64 from rfl] at hr
  have w1 : IntKind.i64.wrap ((n : Int) - ((n % 64 : Nat) : Int)) = ((64 * (n / 64) : Nat) : Int) := by rw [wrap_i64 _ (by omega) (by omega)]; omega
  have l1 : (((64 * (n / 64) : Nat) : Int) ≤ (c : Int)) = True := eq_true (by omega)
  have l2 : (((64 * (n / 64) : Nat) : Int) ≤ (n : Int)) = True := eq_true (by omega)
  have l3 : ((n : Int) ≤ (c : Int)) = True := eq_true (by omega)
  simp only [Tryd.results32, hr, w1, l1, l2, l3, nat_nn, sn_upto, sn_from, slN_def, run_cap, rules, rules2, loopRules, Tryd.facts, base0, Int.toNat_zero, Nat.reduceAdd, Nat.reduceMul, Nat.reduceSub, Nat.reduceLT, Nat.reduceLeDiff, Nat.reduceEqDiff, Int.reduceLE, Int.reduceLT, Int.reduceToNat, Int.reduceNe, Int.reduceEq, not_false_eq_true, Nat.reduceBEq, Nat.reduceDiv, Int.natCast_zero, Int.natCast_one, Int.reduceAdd, Int.reduceSub, reduceIte, ↓reduceIte, Value.oneCell', splice, reduceCtorEq]
  have ivE : [Sum.inl (Value.int IntKind.u32 1779033703), Sum.inl (Value.int IntKind.u32 3144134277), Sum.inl (Value.int IntKind.u32 1013904242), Sum.inl (Value.int IntKind.u32 2773480762), Sum.inl (Value.int IntKind.u32 1359893119), Sum.inl (Value.int IntKind.u32 2600822924), Sum.inl (Value.int IntKind.u32 528734635), Sum.inl (Value.int IntKind.u32 1541459225)] = rowI .u32 8 ivW := rfl
  have z8 : ∀ r r' : Nat → Int, splice (rowI .u32 8 r') 0 (rowI .u32 8 r) = rowI .u32 8 r := fun r r' => rowI_splice .u32 8 _ _
  refine ⟨rep_all _ _ _, by kernel_rfl, ?_⟩
  simp only [ivE, Int.toNat_natCast]
  refine (absorbed_m (c := c) (m := n / 64) ivW_bd hf (shows_mono hc (by omega)) (by omega) (by omega) hp).drawRead (fun _ => 0) (fits1 (rw := false) (by simp only [upd_apply, sn_upto, sn_from, slN_def, run_cap, rules, rules2, loopRules, Tryd.facts, base0, Int.toNat_zero, Nat.reduceAdd, Nat.reduceMul, Nat.reduceSub, Nat.reduceLT, Nat.reduceLeDiff, Nat.reduceEqDiff, Int.reduceLE, Int.reduceLT, Int.reduceToNat, Int.reduceNe, Int.reduceEq, not_false_eq_true, Nat.reduceBEq, Nat.reduceDiv, Int.natCast_zero, Int.natCast_one, Int.reduceAdd, Int.reduceSub, reduceIte, ↓reduceIte, Value.oneCell', rowI_length, rowI_take, rowI_splice, rep_all, row_zero, le_nat, Int.toNat_natCast, Nat.zero_add, sok_row, reduceCtorEq]) hp) plainI (by rfl) (fun M h _ _ => h (Sl 0 o (64 * (n / 64)) c) (List.Mem.tail _ (List.Mem.head _))) ?_
  have hsh : ∀ o', (o' = o + 64 * (n / 64) ∨ c = 64 * (n / 64)) → Shows cs o' (n - 64 * (n / 64)) (fun i => f (64 * (n / 64) + i)) := fun o' h => by
    rcases h with rfl | h
    · exact shows_sub hc _ _ (by omega)
    · intro i hi; omega
  have ho : (if c = 64 * (n / 64) then o else o + 64 * (n / 64)) = o + 64 * (n / 64) ∨ c = 64 * (n / 64) := by
    split
    · exact .inr ‹_›
    · exact .inl rfl
  have hs := hsh _ ho
  simp only [z8, l1, l2, l3, nat_nn, Nat.mul_one, sn_upto, sn_from, slN_def, run_cap, rules, rules2, loopRules, Tryd.facts, base0, Int.toNat_zero, Nat.reduceAdd, Nat.reduceMul, Nat.reduceSub, Nat.reduceLT, Nat.reduceLeDiff, Nat.reduceEqDiff, Int.reduceLE, Int.reduceLT, Int.reduceToNat, Int.reduceNe, Int.reduceEq, not_false_eq_true, Nat.reduceBEq, Nat.reduceDiv, Int.natCast_zero, Int.natCast_one, Int.reduceAdd, Int.reduceSub, reduceIte, ↓reduceIte, Value.oneCell', rowI_length, rowI_take, rowI_splice, rep_all, row_zero, le_nat, Int.toNat_natCast, Nat.zero_add, sok_row, reduceCtorEq]
  generalize (if c = 64 * (n / 64) then o else o + 64 * (n / 64)) = o' at hs ⊢
  have w2 : IntKind.i64.wrap ((n : Nat) : Int) = (n : Int) := wrapN n (by omega)
  refine ⟨by kernel_rfl, ?_⟩
  refine made_late (padded_m (c := c - 64 * (n / 64)) (l := n) hs hp (by omega) (by omega) (by omega)) (fun _ => 0) (fits1 (rw := false) (by simp only [upd_apply, sn_upto, sn_from, slN_def, run_cap, rules, rules2, loopRules, Tryd.facts, base0, Int.toNat_zero, Nat.reduceAdd, Nat.reduceMul, Nat.reduceSub, Nat.reduceLT, Nat.reduceLeDiff, Nat.reduceEqDiff, Int.reduceLE, Int.reduceLT, Int.reduceToNat, Int.reduceNe, Int.reduceEq, not_false_eq_true, Nat.reduceBEq, Nat.reduceDiv, Int.natCast_zero, Int.natCast_one, Int.reduceAdd, Int.reduceSub, reduceIte, ↓reduceIte, Value.oneCell', rowI_length, rowI_take, rowI_splice, rep_all, row_zero, le_nat, Int.toNat_natCast, Nat.zero_add, sok_row, reduceCtorEq]) hp) rfl (fun M h _ _ => h (Sl 0 o' _ _) (List.Mem.head _)) (by kernel_rfl) ?_
  intro c1 tail1 h1 h2 h3
  simp only [sn_upto, sn_from, slN_def, run_cap, rules, rules2, loopRules, Tryd.facts, base0, Int.toNat_zero, Nat.reduceAdd, Nat.reduceMul, Nat.reduceSub, Nat.reduceLT, Nat.reduceLeDiff, Nat.reduceEqDiff, Int.reduceLE, Int.reduceLT, Int.reduceToNat, Int.reduceNe, Int.reduceEq, not_false_eq_true, Nat.reduceBEq, Nat.reduceDiv, Int.natCast_zero, Int.natCast_one, Int.reduceAdd, Int.reduceSub, reduceIte, ↓reduceIte, Value.oneCell', rowI_length, rowI_take, rowI_splice, rep_all, row_zero, le_nat, Int.toNat_natCast, Nat.zero_add, sok_row, reduceCtorEq]
  have hB : blocks n - n / 64 + n / 64 = blocks n := by simp only [blocks]; omega
  have hb2 : 64 * (blocks n - n / 64) ≤ 128 := by simp only [blocks]; omega
  have hpb : Byt (fun i => padW (fun j => f (64 * (n / 64) + (j - n / 64 * 64))) n (n / 64 * 64 + i)) := fun i => padW_byt (fun j => hf _) n _
  refine (absorbed_m (o := 0) (c := c1) (m := blocks n - n / 64) (absW_bd ivW_bd _) hpb shows_row h1 (by omega) (plainT h3)).drawRead (fun _ => 24) (fits1 (rw := true) (by simp only [upd_apply, sn_upto, sn_from, slN_def, run_cap, rules, rules2, loopRules, Tryd.facts, base0, Int.toNat_zero, Nat.reduceAdd, Nat.reduceMul, Nat.reduceSub, Nat.reduceLT, Nat.reduceLeDiff, Nat.reduceEqDiff, Int.reduceLE, Int.reduceLT, Int.reduceToNat, Int.reduceNe, Int.reduceEq, not_false_eq_true, Nat.reduceBEq, Nat.reduceDiv, Int.natCast_zero, Int.natCast_one, Int.reduceAdd, Int.reduceSub, reduceIte, ↓reduceIte, Value.oneCell', rowI_length, rowI_take, rowI_splice, rep_all, row_zero, le_nat, Int.toNat_natCast, Nat.zero_add, sok_row, reduceCtorEq]) (plainT h3)) plainI (by rfl) (fun M h _ _ => h (Sl 24 0 (64 * (blocks n - n / 64)) c1) (List.Mem.tail _ (List.Mem.head _))) ?_
  have eA : absW kW (absW kW ivW f (n / 64)) (fun i => padW (fun j => f (64 * (n / 64) + (j - n / 64 * 64))) n (n / 64 * 64 + i)) (blocks n - n / 64) = absW kW ivW (padW f n) (blocks n) := by
    have h1 : absW kW ivW f (n / 64) = absW kW ivW (padW f n) (n / 64) := absW_cong _ fun i hi => by simp only [padW]; rw [if_pos (by omega)]
    have h2 := absW_add kW ivW (padW f n) (n / 64) (blocks n - n / 64)
    rw [show n / 64 + (blocks n - n / 64) = blocks n by omega] at h2
    rw [h2, h1]
    refine absW_cong _ fun i hi => ?_
    simp only [padW]
    rw [show n / 64 * 64 + i = 64 * (n / 64) + i by omega, show 64 * (n / 64) + (64 * (n / 64) + i - n / 64 * 64) = 64 * (n / 64) + i by omega]
  rw [eA]
  simp only [z8, sn_upto, sn_from, slN_def, run_cap, rules, rules2, loopRules, Tryd.facts, base0, Int.toNat_zero, Nat.reduceAdd, Nat.reduceMul, Nat.reduceSub, Nat.reduceLT, Nat.reduceLeDiff, Nat.reduceEqDiff, Int.reduceLE, Int.reduceLT, Int.reduceToNat, Int.reduceNe, Int.reduceEq, not_false_eq_true, Nat.reduceBEq, Nat.reduceDiv, Int.natCast_zero, Int.natCast_one, Int.reduceAdd, Int.reduceSub, reduceIte, ↓reduceIte, Value.oneCell', rowI_length, rowI_take, rowI_splice, rep_all, row_zero, le_nat, Int.toNat_natCast, Nat.zero_add, sok_row, reduceCtorEq]
  refine (wordsKey_fun _).vcCall ?_
  simp only [sn_upto, sn_from, slN_def, run_cap, rules, rules2, loopRules, Tryd.facts, base0, Int.toNat_zero, Nat.reduceAdd, Nat.reduceMul, Nat.reduceSub, Nat.reduceLT, Nat.reduceLeDiff, Nat.reduceEqDiff, Int.reduceLE, Int.reduceLT, Int.reduceToNat, Int.reduceNe, Int.reduceEq, not_false_eq_true, Nat.reduceBEq, Nat.reduceDiv, Int.natCast_zero, Int.natCast_one, Int.reduceAdd, Int.reduceSub, reduceIte, ↓reduceIte, Value.oneCell', rowI_length, rowI_take, rowI_splice, rep_all, row_zero, le_nat, Int.toNat_natCast, Nat.zero_add, sok_row, reduceCtorEq]
  exact ret_plain plainI ⟨rfl, rfl⟩
theorem digest_call {s : AS} {nm t o n c : Nat} {rw : Bool} {f : Nat → Int} {cs : List SV} (hf : Byt f) (hb : s.box t = some ⟨rw, cs⟩) (hc : Shows cs o n f) (hp : cs.all SV.plain = true) (hn : n < 140737488355328) (hcap : n ≤ c) {dst : Option Nat} {K : AS → Prop}
    (hk : K (s.put dst (some (Ag (rowI .u8 32 (shaW kW ivW f n)))))) : vcCall Tryd.prog nm 32 (some [Sl t o n c]) dst K s :=
  (digest_m hf hc hp hn hcap).vcRead (fun _ => t) (fits1 hb hp) plainI rfl hk
theorem digest_draw {s : AS} {nm t o n c : Nat} {rw : Bool} {f : Nat → Int} {cs : List SV} (hf : Byt f) (hb : s.box t = some ⟨rw, cs⟩) (hc : Shows cs o n f) (hp : cs.all SV.plain = true) (hn : n < 140737488355328) (hcap : n ≤ c) {ops : Array Oper} {i : Nat} {dst : Option Nat} {K : AS → Prop}
    (hk : K (s.put dst (some (Ag (rowI .u8 32 (shaW kW ivW f n)))))) : vcFun Tryd.prog ops i nm 32 (some [Sl t o n c]) dst K s :=
  (digest_m hf hc hp hn hcap).drawRead (fun _ => t) (fits1 hb hp) plainI rfl (fun M h _ _ => h (Sl t o n c) (List.Mem.head _)) hk
end Go.Proofs.YtljncmifbncdbaaDoor
