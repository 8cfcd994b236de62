/-
  What the faces of the hash lean on in the program.
-/
import Derived.Test.YtlpckbkmmocaaaaDoorVcgH10
set_option linter.unusedSimpArgs false
set_option linter.unusedVariables false
namespace Go.Proofs.YtlpckbkmmocaaaaDoor
open Go.Vcg
theorem mac1_call {s : AS} {nm t0 tk ok nk ck o c : Nat} {rw0 rwk : Bool} {a0 : SV} {csk : List SV} {n0 : Nat} {f0 key : Nat → Int} (h0 : s.box t0 = some ⟨rw0, [a0]⟩) (ho : o = 0)
    (p0 : BytesAt s.box (.inl (.inl a0)) n0 f0) (b0 : Byt f0)
    (hk : s.box tk = some ⟨rwk, csk⟩) (hkp : csk.all SV.plain = true) (hkey : Shows csk ok nk key) (hkb : Byt key) (hnk : nk < 100000000) (hck : nk ≤ ck) (hN : n0 < 100000000) {dst : Option Nat} {K : AS → Prop}
    (hK : K (s.put dst (some (Ag (rowI .u8 32 (macW kW ivW key nk f0 n0)))))) : vcCall Tryd.prog nm 21 (some [Sl tk ok nk ck, Sl t0 o 1 c]) dst K s := by
  subst ho
  obtain ⟨u0, r0, c0, w0, e0, q0, g0, i0, k0, _⟩ := part_own p0 hk hkp
  let l : List (Nat × Box) := [(0, ⟨false, [w0 2]⟩), (1, ⟨false, csk⟩), (2, ⟨false, c0⟩)]
  let nn : Nat → Nat := fun j => n0
  let ff : Nat → Nat → Int := fun j => f0
  have hl : Parts l [w0 2] 3 0 1 nn ff := by
    refine ⟨fun x hx => ?_, fun i hi => ?_, fun x hx => ?_, rfl, fun j hj => ?_⟩
    · simp only [l, List.mem_cons, List.not_mem_nil, or_false] at hx
      rcases hx with rfl | rfl | rfl <;> rfl
    · have : i = 0 ∨ i = 1 ∨ i = 2 := by omega
      rcases this with rfl | rfl | rfl <;> exact ⟨_, rfl⟩
    · simp only [l, List.mem_cons, List.not_mem_nil, or_false] at hx
      rcases hx with rfl | rfl | rfl
      · refine ⟨show (0 : Nat) < 3 by decide, rfl, fun y hy => ?_⟩
        simp only [List.mem_cons, List.not_mem_nil, or_false] at hy
        subst hy
        exact k0 _ _ (by decide)
      · exact ⟨show (1 : Nat) < 3 by decide, rfl, ok_all hkp⟩
      · exact ⟨show (2 : Nat) < 3 by decide, rfl, ok_all q0⟩
    · obtain rfl : j = 0 := by omega
      exact ⟨_, rfl, i0 _ 2 rfl⟩
  have hfit : Fits s (three t0 tk u0) (lk l) none := by
    refine ⟨fun n b hb => ?_, fun n n' b b' hb hrw => ?_, fun n b hb hrw => ?_, fun n hn => (by cases hn)⟩
    · have := lk_mem _ _ _ hb
      simp only [l, List.mem_cons, List.not_mem_nil, or_false, Prod.mk.injEq] at this
      rcases this with ⟨rfl, rfl⟩ | ⟨rfl, rfl⟩ | ⟨rfl, rfl⟩
      · refine ⟨_, h0, fun e => (by cases e), ?_⟩
        simp only [List.map_cons, List.map_nil]
        rw [g0 _ 2 rfl]
      · exact ⟨_, hk, fun e => (by cases e), (ren_all hkp _).symm⟩
      · exact ⟨_, e0, fun e => (by cases e), (ren_all q0 _).symm⟩
    all_goals
      have := hl.ro _ (lk_mem _ _ _ hb)
      simp only at this
      rw [this] at hrw; cases hrw
  have hmac := mac_m (c := c) (tk := 1) (ok := ok) (nk := nk) (ck := ck) (key := key) hl (by decide) (by decide) (by decide) (by show 0 + n0 < _; omega) (fun j hj => b0) rfl hkp hkey hkb hnk hck
  have hcat : macW kW ivW key nk (catN nn ff 1) (totN nn 1) = macW kW ivW key nk f0 n0 := by
    have e1 : totN nn 1 = n0 := by show 0 + n0 = _; omega
    rw [e1]
    refine macW_cong (fun _ _ => rfl) fun i hi => ?_
    show joinB 0 (fun _ => 0) f0 i = _
    simp only [joinB]
    rw [if_neg (by omega), Nat.sub_zero]
  rw [hcat] at hmac
  exact hmac.vcRead (three t0 tk u0) hfit plainI rfl hK
theorem mac1_draw {s : AS} {nm t0 tk ok nk ck o c : Nat} {rw0 rwk : Bool} {a0 : SV} {csk : List SV} {n0 : Nat} {f0 key : Nat → Int} (h0 : s.box t0 = some ⟨rw0, [a0]⟩) (ho : o = 0)
    (p0 : BytesAt s.box (.inl (.inl a0)) n0 f0) (b0 : Byt f0)
    (hk : s.box tk = some ⟨rwk, csk⟩) (hkp : csk.all SV.plain = true) (hkey : Shows csk ok nk key) (hkb : Byt key) (hnk : nk < 100000000) (hck : nk ≤ ck) (hN : n0 < 100000000) {ops : Array Oper} {i : Nat} {dst : Option Nat} {K : AS → Prop}
    (hK : K (s.put dst (some (Ag (rowI .u8 32 (macW kW ivW key nk f0 n0)))))) : vcFun Tryd.prog ops i nm 21 (some [Sl tk ok nk ck, Sl t0 o 1 c]) dst K s := by
  subst ho
  obtain ⟨u0, r0, c0, w0, e0, q0, g0, i0, k0, nm0⟩ := part_own p0 hk hkp
  let l : List (Nat × Box) := [(0, ⟨false, [w0 2]⟩), (1, ⟨false, csk⟩), (2, ⟨false, c0⟩)]
  let nn : Nat → Nat := fun j => n0
  let ff : Nat → Nat → Int := fun j => f0
  have hl : Parts l [w0 2] 3 0 1 nn ff := by
    refine ⟨fun x hx => ?_, fun i hi => ?_, fun x hx => ?_, rfl, fun j hj => ?_⟩
    · simp only [l, List.mem_cons, List.not_mem_nil, or_false] at hx
      rcases hx with rfl | rfl | rfl <;> rfl
    · have : i = 0 ∨ i = 1 ∨ i = 2 := by omega
      rcases this with rfl | rfl | rfl <;> exact ⟨_, rfl⟩
    · simp only [l, List.mem_cons, List.not_mem_nil, or_false] at hx
      rcases hx with rfl | rfl | rfl
      · refine ⟨show (0 : Nat) < 3 by decide, rfl, fun y hy => ?_⟩
        simp only [List.mem_cons, List.not_mem_nil, or_false] at hy
        subst hy
        exact k0 _ _ (by decide)
      · exact ⟨show (1 : Nat) < 3 by decide, rfl, ok_all hkp⟩
      · exact ⟨show (2 : Nat) < 3 by decide, rfl, ok_all q0⟩
    · obtain rfl : j = 0 := by omega
      exact ⟨_, rfl, i0 _ 2 rfl⟩
  have hfit : Fits s (three t0 tk u0) (lk l) none := by
    refine ⟨fun n b hb => ?_, fun n n' b b' hb hrw => ?_, fun n b hb hrw => ?_, fun n hn => (by cases hn)⟩
    · have := lk_mem _ _ _ hb
      simp only [l, List.mem_cons, List.not_mem_nil, or_false, Prod.mk.injEq] at this
      rcases this with ⟨rfl, rfl⟩ | ⟨rfl, rfl⟩ | ⟨rfl, rfl⟩
      · refine ⟨_, h0, fun e => (by cases e), ?_⟩
        simp only [List.map_cons, List.map_nil]
        rw [g0 _ 2 rfl]
      · exact ⟨_, hk, fun e => (by cases e), (ren_all hkp _).symm⟩
      · exact ⟨_, e0, fun e => (by cases e), (ren_all q0 _).symm⟩
    all_goals
      have := hl.ro _ (lk_mem _ _ _ hb)
      simp only at this
      rw [this] at hrw; cases hrw
  have hmac := mac_m (c := c) (tk := 1) (ok := ok) (nk := nk) (ck := ck) (key := key) hl (by decide) (by decide) (by decide) (by show 0 + n0 < _; omega) (fun j hj => b0) rfl hkp hkey hkb hnk hck
  have hcat : macW kW ivW key nk (catN nn ff 1) (totN nn 1) = macW kW ivW key nk f0 n0 := by
    have e1 : totN nn 1 = n0 := by show 0 + n0 = _; omega
    rw [e1]
    refine macW_cong (fun _ _ => rfl) fun i hi => ?_
    show joinB 0 (fun _ => 0) f0 i = _
    simp only [joinB]
    rw [if_neg (by omega), Nat.sub_zero]
  rw [hcat] at hmac
  refine hmac.drawRead2 (three t0 tk u0) hfit plainI rfl (fun M h hcl n hn => ?_) hK
  have mk : M tk := h (Sl tk ok nk ck) (List.Mem.head _)
  have mt : M t0 := h (Sl t0 0 1 c) (List.Mem.tail _ (List.Mem.head _))
  have mu : M u0 := by
    rcases nm0 M (hcl 0 (by decide) mt _ h0 a0 (List.Mem.head _)).1 with e | e
    · rw [e]; exact mk
    · exact e
  have : n = 0 ∨ n = 1 ∨ n = 2 := by omega
  rcases this with rfl | rfl | rfl
  · exact mt
  · exact mk
  · exact mu
def hkBad (n : Int) (a b c : Nat) : Prop := n < 0 ∨ 8160 < n ∨ 1048576 < a ∨ 1048576 < b ∨ 1048576 < c
instance (n : Int) (a b c : Nat) : Decidable (hkBad n a b c) := by unfold hkBad; infer_instance
set_option maxHeartbeats 8000000 in
set_option maxRecDepth 20000 in
theorem tooLong_m {n o c : Nat} {cs : List SV} (hp : cs.all SV.plain = true) : MFun Tryd.prog 19 [Sl 0 o n c] 1 (lk [(0, ⟨false, cs⟩)]) (fun v out => v = B (decide (1048576 < (n : Int))) ∧ out = fun _ => none) := by
  refine mfun_of_vc Tryd.func19 rfl (by kernel_rfl) (by simp [Tryd.ntmps19]) Tryd.callable19 (by simp [AV.ok, CV.ok, SV.names]) all1 (inn1 hp) ?_
  simp only [Tryd.results19, sn_upto, sn_from, slN_def, run_cap, rules, rules2, loopRules, Tryd.facts, base0, Int.toNat_zero, Nat.reduceAdd, Nat.reduceMul, Nat.reduceSub, Nat.reduceLT, Nat.reduceLeDiff, Nat.reduceEqDiff, Int.reduceLE, Int.reduceLT, Int.reduceToNat, Int.reduceNe, Int.reduceEq, not_false_eq_true, Nat.reduceBEq, Nat.reduceDiv, Int.natCast_zero, Int.natCast_one, Int.reduceAdd, Int.reduceSub, reduceIte, ↓reduceIte, Value.oneCell', splice, reduceCtorEq]
  exact ret_plain rfl ⟨rfl, rfl⟩
theorem tooLong_call {s : AS} {nm t o n c : Nat} {rw : Bool} {cs : List SV} (hb : s.box t = some ⟨rw, cs⟩) (hp : cs.all SV.plain = true) {dst : Option Nat} {K : AS → Prop} (hk : K (s.put dst (some (B (decide (1048576 < (n : Int))))))) : vcCall Tryd.prog nm 19 (some [Sl t o n c]) dst K s :=
  (tooLong_m hp).vcRead (fun _ => t) (fits1 hb hp) rfl rfl hk
theorem refDigest_g {s : AS} {nm k n : Nat} {l : List (Nat × Box)} {v : AV} {f : Nat → Int} (hg : Handed k l) (hf : Byt f) (hv : Arg k l v n f) (hs : ∀ t, t < k → s.box t = lk l t) (hn : n < 100000000) {dst : Option Nat} {K : AS → Prop}
    (hk : K (s.put dst (some (Ag (rowI .u8 32 (shaW kW ivW f n)))))) : vcCall Tryd.prog nm 23 (some [v]) dst K s :=
  (refDigest_m hf hv.at_ hn hv.ok hg.all hg.hinn hg.le).vcRead (fun n => n) (fits_good hg hs) plainI (by simp only [List.map_cons, List.map_nil, hv.id]) hk
theorem refMac_g {s : AS} {nm k n m : Nat} {l : List (Nat × Box)} {va vb : AV} {key f : Nat → Int} (hg : Handed k l) (hkey : Byt key) (hf : Byt f) (ha : Arg k l va n key) (hv : Arg k l vb m f) (hs : ∀ t, t < k → s.box t = lk l t) (hn : n < 90000000) (hm : m < 90000000) {dst : Option Nat} {K : AS → Prop}
    (hk : K (s.put dst (some (Ag (rowI .u8 32 (macW kW ivW key n f m)))))) : vcCall Tryd.prog nm 15 (some [va, vb]) dst K s :=
  (refMac_m hkey hf ha.at_ hv.at_ hn hm ha.ok hv.ok hg.inn hg.all hg.le).vcRead (fun n => n) (fits_good hg hs) plainI (by simp only [List.map_cons, List.map_nil, ha.id, hv.id]) hk
set_option maxHeartbeats 8000000 in
set_option maxRecDepth 20000 in
theorem refHkdf_bad {k nk m q : Nat} {n : Int} {l : List (Nat × Box)} {vk vm vi : AV} {key f info : Nat → Int} (hg : Handed k l) (hk : Arg k l vk nk key) (hm : Arg k l vm m f) (hi : Arg k l vi q info) (hbad : hkBad n nk m q) :
    MFun Tryd.prog 12 [vk, vm, vi, I .i64 n] k (lk l) (fun v out => v = V (.slice none 0 0) ∧ out = fun _ => none) := by
  refine mfun_of_vc Tryd.func12 rfl (by kernel_rfl) (by simp [Tryd.ntmps12]) Tryd.callable12 (fun u hu => by
    simp only [List.mem_cons, List.not_mem_nil, or_false] at hu
    rcases hu with rfl | rfl | rfl | rfl
    · exact hk.ok
    · exact hm.ok
    · exact hi.ok
    · trivial) hg.all hg.hinn ?_
  have l1 := at_len hk.at_
  have l2 := at_len hm.at_
  have l3 := at_len hi.at_
  simp only [hkBad] at hbad
  by_cases h0 : n < 0
  · have d0 : decide (n < 0) = true := decide_eq_true h0
    simp only [Tryd.results12, d0, sn_upto, sn_from, slN_def, run_cap, rules, rules2, loopRules, Tryd.facts, base0, Int.toNat_zero, Nat.reduceAdd, Nat.reduceMul, Nat.reduceSub, Nat.reduceLT, Nat.reduceLeDiff, Nat.reduceEqDiff, Int.reduceLE, Int.reduceLT, Int.reduceToNat, Int.reduceNe, Int.reduceEq, not_false_eq_true, Nat.reduceBEq, Nat.reduceDiv, Int.natCast_zero, Int.natCast_one, Int.reduceAdd, Int.reduceSub, reduceIte, ↓reduceIte, Value.oneCell', rowI_length, rowI_take, rowI_splice, rep_all, row_zero, le_nat, Int.toNat_natCast, Nat.zero_add, sok_row, reduceCtorEq]
    exact ret_plain rfl ⟨rfl, rfl⟩
  have d0 : decide (n < 0) = false := decide_eq_false h0
  by_cases h1 : 8160 < n
  · have d1 : decide (8160 < n) = true := decide_eq_true h1
    simp only [Tryd.results12, d0, d1, sn_upto, sn_from, slN_def, run_cap, rules, rules2, loopRules, Tryd.facts, base0, Int.toNat_zero, Nat.reduceAdd, Nat.reduceMul, Nat.reduceSub, Nat.reduceLT, Nat.reduceLeDiff, Nat.reduceEqDiff, Int.reduceLE, Int.reduceLT, Int.reduceToNat, Int.reduceNe, Int.reduceEq, not_false_eq_true, Nat.reduceBEq, Nat.reduceDiv, Int.natCast_zero, Int.natCast_one, Int.reduceAdd, Int.reduceSub, reduceIte, ↓reduceIte, Value.oneCell', rowI_length, rowI_take, rowI_splice, rep_all, row_zero, le_nat, Int.toNat_natCast, Nat.zero_add, sok_row, reduceCtorEq]
    exact ret_plain rfl ⟨rfl, rfl⟩
  have d1 : decide (8160 < n) = false := decide_eq_false h1
  by_cases h2 : 1048576 < nk
  · have d2 : decide (1048576 < (nk : Int)) = true := decide_eq_true (by omega)
    simp only [Tryd.results12, d0, d1, l1, d2, sn_upto, sn_from, slN_def, run_cap, rules, rules2, loopRules, Tryd.facts, base0, Int.toNat_zero, Nat.reduceAdd, Nat.reduceMul, Nat.reduceSub, Nat.reduceLT, Nat.reduceLeDiff, Nat.reduceEqDiff, Int.reduceLE, Int.reduceLT, Int.reduceToNat, Int.reduceNe, Int.reduceEq, not_false_eq_true, Nat.reduceBEq, Nat.reduceDiv, Int.natCast_zero, Int.natCast_one, Int.reduceAdd, Int.reduceSub, reduceIte, ↓reduceIte, Value.oneCell', rowI_length, rowI_take, rowI_splice, rep_all, row_zero, le_nat, Int.toNat_natCast, Nat.zero_add, sok_row, reduceCtorEq]
    exact ret_plain rfl ⟨rfl, rfl⟩
  have d2 : decide (1048576 < (nk : Int)) = false := decide_eq_false (by omega)
  by_cases h3 : 1048576 < m
  · have d3 : decide (1048576 < (m : Int)) = true := decide_eq_true (by omega)
    simp only [Tryd.results12, d0, d1, l1, d2, l2, d3, sn_upto, sn_from, slN_def, run_cap, rules, rules2, loopRules, Tryd.facts, base0, Int.toNat_zero, Nat.reduceAdd, Nat.reduceMul, Nat.reduceSub, Nat.reduceLT, Nat.reduceLeDiff, Nat.reduceEqDiff, Int.reduceLE, Int.reduceLT, Int.reduceToNat, Int.reduceNe, Int.reduceEq, not_false_eq_true, Nat.reduceBEq, Nat.reduceDiv, Int.natCast_zero, Int.natCast_one, Int.reduceAdd, Int.reduceSub, reduceIte, ↓reduceIte, Value.oneCell', rowI_length, rowI_take, rowI_splice, rep_all, row_zero, le_nat, Int.toNat_natCast, Nat.zero_add, sok_row, reduceCtorEq]
    exact ret_plain rfl ⟨rfl, rfl⟩
  have d3 : decide (1048576 < (m : Int)) = false := decide_eq_false (by omega)
  have d4 : decide (1048576 < (q : Int)) = true := decide_eq_true (by omega)
  simp only [Tryd.results12, d0, d1, l1, d2, l2, d3, l3, d4, sn_upto, sn_from, slN_def, run_cap, rules, rules2, loopRules, Tryd.facts, base0, Int.toNat_zero, Nat.reduceAdd, Nat.reduceMul, Nat.reduceSub, Nat.reduceLT, Nat.reduceLeDiff, Nat.reduceEqDiff, Int.reduceLE, Int.reduceLT, Int.reduceToNat, Int.reduceNe, Int.reduceEq, not_false_eq_true, Nat.reduceBEq, Nat.reduceDiv, Int.natCast_zero, Int.natCast_one, Int.reduceAdd, Int.reduceSub, reduceIte, ↓reduceIte, Value.oneCell', rowI_length, rowI_take, rowI_splice, rep_all, row_zero, le_nat, Int.toNat_natCast, Nat.zero_add, sok_row, reduceCtorEq]
  exact ret_plain rfl ⟨rfl, rfl⟩
set_option maxHeartbeats 8000000 in
set_option maxRecDepth 20000 in
theorem refHkdf_m {k nk m q N : Nat} {l : List (Nat × Box)} {vk vm vi : AV} {salt f info : Nat → Int} (hg : Handed k l) (hkb : Byt salt) (hf : Byt f) (hib : Byt info) (hk : Arg k l vk nk salt) (hm : Arg k l vm m f) (hi : Arg k l vi q info) (hbad : ¬ hkBad N nk m q) :
    MFun Tryd.prog 12 [vk, vm, vi, I .i64 N] k (lk l) (Made k N (okmW kW ivW (macW kW ivW salt nk f m) info q)) := by
  refine mfun_of_vc Tryd.func12 rfl (by kernel_rfl) (by simp [Tryd.ntmps12]) Tryd.callable12 (fun u hu => by
    simp only [List.mem_cons, List.not_mem_nil, or_false] at hu
    rcases hu with rfl | rfl | rfl | rfl
    · exact hk.ok
    · exact hm.ok
    · exact hi.ok
    · trivial) hg.all hg.hinn ?_
  have l1 := at_len hk.at_
  have l2 := at_len hm.at_
  have l3 := at_len hi.at_
  simp only [hkBad] at hbad
  have d0 : decide ((N : Int) < 0) = false := decide_eq_false (by omega)
  have d1 : decide (8160 < (N : Int)) = false := decide_eq_false (by omega)
  have d2 : decide (1048576 < (nk : Int)) = false := decide_eq_false (by omega)
  have d3 : decide (1048576 < (m : Int)) = false := decide_eq_false (by omega)
  have d4 : decide (1048576 < (q : Int)) = false := decide_eq_false (by omega)
  simp only [Tryd.results12, d0, d1, l1, d2, l2, d3, l3, d4, sn_upto, sn_from, slN_def, run_cap, rules, rules2, loopRules, Tryd.facts, base0, Int.toNat_zero, Nat.reduceAdd, Nat.reduceMul, Nat.reduceSub, Nat.reduceLT, Nat.reduceLeDiff, Nat.reduceEqDiff, Int.reduceLE, Int.reduceLT, Int.reduceToNat, Int.reduceNe, Int.reduceEq, not_false_eq_true, Nat.reduceBEq, Nat.reduceDiv, Int.natCast_zero, Int.natCast_one, Int.reduceAdd, Int.reduceSub, reduceIte, ↓reduceIte, Value.oneCell', rowI_length, rowI_take, rowI_splice, rep_all, row_zero, le_nat, Int.toNat_natCast, Nat.zero_add, sok_row, reduceCtorEq]
  refine refMac_g hg hkb hf hk hm (fun t ht => rfl) (by omega) (by omega) ?_
  obtain ⟨p, hpE⟩ : ∃ p, macW kW ivW salt nk f m = p := ⟨_, rfl⟩
  have hpb : Byt p := by rw [← hpE]; exact macW_byt _ _ _ _ _ _
  rw [hpE]
  have w1 : IntKind.i64.wrap ((N : Int) + 31) = ((N + 31 : Nat) : Int) := by rw [wrap_i64 _ (by omega) (by omega)]; omega
  have q1 := quoN (N + 31) 32 (by omega)
  rw [show ((32 : Nat) : Int) = 32 from rfl] at q1
  simp only [w1, q1, sn_upto, sn_from, slN_def, run_cap, rules, rules2, loopRules, Tryd.facts, base0, Int.toNat_zero, Nat.reduceAdd, Nat.reduceMul, Nat.reduceSub, Nat.reduceLT, Nat.reduceLeDiff, Nat.reduceEqDiff, Int.reduceLE, Int.reduceLT, Int.reduceToNat, Int.reduceNe, Int.reduceEq, not_false_eq_true, Nat.reduceBEq, Nat.reduceDiv, Int.natCast_zero, Int.natCast_one, Int.reduceAdd, Int.reduceSub, reduceIte, ↓reduceIte, Value.oneCell', rowI_length, rowI_take, rowI_splice, rep_all, row_zero, le_nat, Int.toNat_natCast, Nat.zero_add, sok_row, reduceCtorEq]
  have fin : ∀ (c1 : Nat) (tail1 : List SV), 32 * ((N + 31) / 32) ≤ c1 → tail1.length = c1 - 32 * ((N + 31) / 32) → tail1.all SV.plain = true → N ≤ c1 ∧ Grows (rowI .u8 (32 * ((N + 31) / 32)) (okmW kW ivW p info q) ++ tail1) 0 N c1 (okmW kW ivW p info q) := fun c1 tail1 h1 h2 h3 => by
    have hg := Grows.row (f := okmW kW ivW p info q) h1 h2 h3
    exact ⟨by omega, hg.len, by omega, hg.plain, shows_mono hg.shows (by omega)⟩
  rcases hi.at_ with ⟨⟨a, rfl⟩, hq0⟩ | ⟨t, o, c, rw, es, rfl, hb, hr, hs⟩
  · refine made_call (refParts_m (k := 0) (l := []) (vi := V (.slice a 0 0)) hpb hib (.inl ⟨rfl, rfl, ⟨a, rfl⟩, hq0⟩) (by omega) ((N + 31) / 32) (by omega)) (fun n => n) fits0 (by simp only [List.map_cons, List.map_nil, ren_row, ren_i, ren_v]) ?_
    intro c1 tail1 h1 h2 h3
    obtain ⟨hc, hg⟩ := fin c1 tail1 h1 h2 h3
    have a1 : ((N : Int) ≤ (c1 : Int)) = True := eq_true (by omega)
    simp only [a1, nat_nn, sn_upto, sn_from, slN_def, run_cap, rules, rules2, loopRules, Tryd.facts, base0, Int.toNat_zero, Nat.reduceAdd, Nat.reduceMul, Nat.reduceSub, Nat.reduceLT, Nat.reduceLeDiff, Nat.reduceEqDiff, Int.reduceLE, Int.reduceLT, Int.reduceToNat, Int.reduceNe, Int.reduceEq, not_false_eq_true, Nat.reduceBEq, Nat.reduceDiv, Int.natCast_zero, Int.natCast_one, Int.reduceAdd, Int.reduceSub, reduceIte, ↓reduceIte, Value.oneCell', rowI_length, rowI_take, rowI_splice, rep_all, row_zero, le_nat, Int.toNat_natCast, Nat.zero_add, sok_row, reduceCtorEq]
    exact ret_grows (by omega) hg (by simp only [upd_same]) rfl
  · have ht : t < k := hi.ok
    refine made_call (refParts_m (k := 1) (l := [(0, ⟨false, es⟩)]) (vi := Sl 0 o q c) hpb hib (.inr ⟨rfl, o, c, es, rfl, rfl, hr, hs⟩) (by omega) ((N + 31) / 32) (by omega)) (fun _ => t) (fits1 (rw := rw) (by simp only [upd]; rw [if_neg (by omega), if_neg (by omega)]; exact hb) hr) (by simp only [List.map_cons, List.map_nil, ren_row, ren_i, ren_s]) ?_
    intro c1 tail1 h1 h2 h3
    obtain ⟨hc, hg⟩ := fin c1 tail1 h1 h2 h3
    have a1 : ((N : Int) ≤ (c1 : Int)) = True := eq_true (by omega)
    simp only [a1, nat_nn, sn_upto, sn_from, slN_def, run_cap, rules, rules2, loopRules, Tryd.facts, base0, Int.toNat_zero, Nat.reduceAdd, Nat.reduceMul, Nat.reduceSub, Nat.reduceLT, Nat.reduceLeDiff, Nat.reduceEqDiff, Int.reduceLE, Int.reduceLT, Int.reduceToNat, Int.reduceNe, Int.reduceEq, not_false_eq_true, Nat.reduceBEq, Nat.reduceDiv, Int.natCast_zero, Int.natCast_one, Int.reduceAdd, Int.reduceSub, reduceIte, ↓reduceIte, Value.oneCell', rowI_length, rowI_take, rowI_splice, rep_all, row_zero, le_nat, Int.toNat_natCast, Nat.zero_add, sok_row, reduceCtorEq]
    exact ret_grows (by omega) hg (by simp only [upd_same]) rfl
theorem refHkdf_packs {s : AS} {t0 t1 t2 nk m q : Nat} {vk vm vi : AV} {r0 r1 r2 : Bool} {key f info : Nat → Int} {cs ds es : List SV} (hb0 : s.box t0 = some ⟨r0, cs⟩) (hp : cs.all SV.plain = true) (hb1 : s.box t1 = some ⟨r1, ds⟩) (hq : ds.all SV.plain = true) (hb2 : s.box t2 = some ⟨r2, es⟩) (hr : es.all SV.plain = true)
    (hk : ArgIs t0 vk nk key cs) (hm : ArgIs t1 vm m f ds) (hi : ArgIs t2 vi q info es) : ∃ k l r u0 u1 u2, Packs s k l r [vk, vm, vi] ∧ Arg k l u0 nk key ∧ Arg k l u1 m f ∧ Arg k l u2 q info ∧ AV.ren r u0 = vk ∧ AV.ren r u1 = vm ∧ AV.ren r u2 = vi := by
  obtain ⟨k1, l1, r1, v1, q1, P1, A1, e1, _⟩ := packs_add (s := s) packs_nil (by decide) hi hb2 hr
  obtain ⟨k2, l2, r2, v2, q2, P2, A2, e2, T2⟩ := packs_add P1 (by omega) hm hb1 hq
  obtain ⟨k3, l3, r3, v3, q3, P3, A3, e3, T3⟩ := packs_add P2 (by omega) hk hb0 hp
  obtain ⟨B1, f1⟩ := T2 _ _ _ A1
  obtain ⟨C1, g1⟩ := T3 _ _ _ B1
  obtain ⟨C2, g2⟩ := T3 _ _ _ A2
  exact ⟨k3, l3, r3, v3, v2, v1, P3, A3, C2, C1, e3, by rw [g2, e2], by rw [g1, f1, e1]⟩
theorem after_none {s : AS} {r : Nat → Nat} {k nm : Nat} : after s r k nm none (fun _ => none) = s.box := by funext x; simp [after]
theorem ok3 {M : Nat → Prop} {a b c x : AV} (h : ∀ v ∈ [a, b, c, x], AV.ok M v) : ∀ v ∈ [a, b, c], AV.ok M v := fun v hv => by
  simp only [List.mem_cons, List.not_mem_nil, or_false] at hv
  rcases hv with rfl | rfl | rfl <;> exact h _ (by simp)
theorem refHkdf_draw0 {s : AS} {nm t0 t1 t2 nk m q : Nat} {n : Int} {vk vm vi : AV} {r0 r1 r2 : Bool} {key f info : Nat → Int} {cs ds es : List SV} (hb0 : s.box t0 = some ⟨r0, cs⟩) (hp : cs.all SV.plain = true) (hb1 : s.box t1 = some ⟨r1, ds⟩) (hq : ds.all SV.plain = true) (hb2 : s.box t2 = some ⟨r2, es⟩) (hr : es.all SV.plain = true)
    (hk : ArgIs t0 vk nk key cs) (hm : ArgIs t1 vm m f ds) (hi : ArgIs t2 vi q info es) (hbad : hkBad n nk m q) {ops : Array Oper} {i : Nat} {dst : Option Nat} {K : AS → Prop} (hK : K (s.put dst (some (V (.slice none 0 0))))) : vcFun Tryd.prog ops i nm 12 (some [vk, vm, vi, I .i64 n]) dst K s := by
  obtain ⟨k, l, r, u0, u1, u2, P, A0, A1, A2, x0, x1, x2⟩ := refHkdf_packs hb0 hp hb1 hq hb2 hr hk hm hi
  exact (refHkdf_bad P.good A0 A1 A2 hbad).drawRead r P.fits rfl (by simp only [List.map_cons, List.map_nil, x0, x1, x2, ren_i]) (fun M h => P.named M (ok3 h)) hK
theorem refHkdf_late {s : AS} {nm t0 t1 t2 nk m q N : Nat} {vk vm vi : AV} {r0 r1 r2 : Bool} {salt f info : Nat → Int} {cs ds es : List SV} (hkb : Byt salt) (hf : Byt f) (hib : Byt info) (hb0 : s.box t0 = some ⟨r0, cs⟩) (hp : cs.all SV.plain = true) (hb1 : s.box t1 = some ⟨r1, ds⟩) (hq : ds.all SV.plain = true) (hb2 : s.box t2 = some ⟨r2, es⟩) (hr : es.all SV.plain = true)
    (hk : ArgIs t0 vk nk salt cs) (hm : ArgIs t1 vm m f ds) (hi : ArgIs t2 vi q info es) (hbad : ¬ hkBad N nk m q) {ops : Array Oper} {i : Nat} (hlate : late ops i = true) {dst : Option Nat} {K : AS → Prop}
    (hK : ∀ c tail, N ≤ c → tail.length = c - N → tail.all SV.plain = true → K ((⟨s.env, upd s.box nm (some ⟨true, rowI .u8 N (okmW kW ivW (macW kW ivW salt nk f m) info q) ++ tail⟩), s.next⟩ : AS).put dst (some (Sl nm 0 N c)))) : vcFun Tryd.prog ops i nm 12 (some [vk, vm, vi, I .i64 N]) dst K s := by
  obtain ⟨k, l, r, u0, u1, u2, P, A0, A1, A2, x0, x1, x2⟩ := refHkdf_packs hb0 hp hb1 hq hb2 hr hk hm hi
  exact made_late (refHkdf_m P.good hkb hf hib A0 A1 A2 hbad) r P.fits (by simp only [List.map_cons, List.map_nil, x0, x1, x2, ren_i]) (fun M h => P.named M (ok3 h)) hlate hK
/-- The answers, with their limits. -/
def shaA (n : Nat) (f : Nat → Int) : Nat → Int := if 1048576 < n then fun _ => 0 else shaW kW ivW f n
def macA (nk m : Nat) (key f : Nat → Int) : Nat → Int := if 1048576 < nk ∨ 1048576 < m then fun _ => 0 else macW kW ivW key nk f m
set_option maxHeartbeats 8000000 in
set_option maxRecDepth 20000 in
theorem hmac_m {nk ok ck m o c : Nat} {key f : Nat → Int} {cs ds : List SV} (hkb : Byt key) (hf : Byt f) (hk : Shows cs ok nk key) (hp : cs.all SV.plain = true) (hck : nk ≤ ck) (hc : Shows ds o m f) (hq : ds.all SV.plain = true) :
    MFun Tryd.prog 14 [Sl 0 ok nk ck, Sl 1 o m c] 2 (lk [(0, ⟨false, cs⟩), (1, ⟨false, ds⟩)]) (fun u out => u = Ag (rowI .u8 32 (macA nk m key f)) ∧ out = fun _ => none) := by
  refine mfun_of_vc Tryd.func14 rfl (by kernel_rfl) (by simp [Tryd.ntmps14]) Tryd.callable14 (by simp [AV.ok, CV.ok, SV.names]) all2 (inn2 hp hq) ?_
  simp only [Tryd.results14, sn_upto, sn_from, slN_def, run_cap, rules, rules2, loopRules, Tryd.facts, base0, Int.toNat_zero, Nat.reduceAdd, Nat.reduceMul, Nat.reduceSub, Nat.reduceLT, Nat.reduceLeDiff, Nat.reduceEqDiff, Int.reduceLE, Int.reduceLT, Int.reduceToNat, Int.reduceNe, Int.reduceEq, not_false_eq_true, Nat.reduceBEq, Nat.reduceDiv, Int.natCast_zero, Int.natCast_one, Int.reduceAdd, Int.reduceSub, reduceIte, ↓reduceIte, Value.oneCell', rowI_length, rowI_take, rowI_splice, rep_all, row_zero, le_nat, Int.toNat_natCast, Nat.zero_add, sok_row, reduceCtorEq]
  refine tooLong_call (rw := false) (by simp only [upd_apply, sn_upto, sn_from, slN_def, run_cap, rules, rules2, loopRules, Tryd.facts, base0, Int.toNat_zero, Nat.reduceAdd, Nat.reduceMul, Nat.reduceSub, Nat.reduceLT, Nat.reduceLeDiff, Nat.reduceEqDiff, Int.reduceLE, Int.reduceLT, Int.reduceToNat, Int.reduceNe, Int.reduceEq, not_false_eq_true, Nat.reduceBEq, Nat.reduceDiv, Int.natCast_zero, Int.natCast_one, Int.reduceAdd, Int.reduceSub, reduceIte, ↓reduceIte, Value.oneCell', rowI_length, rowI_take, rowI_splice, rep_all, row_zero, le_nat, Int.toNat_natCast, Nat.zero_add, sok_row, reduceCtorEq]) hp ?_
  by_cases h1 : 1048576 < nk
  · have d1 : decide (1048576 < (nk : Int)) = true := decide_eq_true (by omega)
    have eA : macA nk m key f = fun _ => 0 := if_pos (.inl h1)
    simp only [d1, eA, row_zero2, sn_upto, sn_from, slN_def, run_cap, rules, rules2, loopRules, Tryd.facts, base0, Int.toNat_zero, Nat.reduceAdd, Nat.reduceMul, Nat.reduceSub, Nat.reduceLT, Nat.reduceLeDiff, Nat.reduceEqDiff, Int.reduceLE, Int.reduceLT, Int.reduceToNat, Int.reduceNe, Int.reduceEq, not_false_eq_true, Nat.reduceBEq, Nat.reduceDiv, Int.natCast_zero, Int.natCast_one, Int.reduceAdd, Int.reduceSub, reduceIte, ↓reduceIte, Value.oneCell', rowI_length, rowI_take, rowI_splice, rep_all, row_zero, le_nat, Int.toNat_natCast, Nat.zero_add, sok_row, reduceCtorEq]
    exact ret_plain (v := Ag (rowI .u8 32 (fun _ => 0))) plainI ⟨rfl, rfl⟩
  have d1 : decide (1048576 < (nk : Int)) = false := decide_eq_false (by omega)
  simp only [d1, sn_upto, sn_from, slN_def, run_cap, rules, rules2, loopRules, Tryd.facts, base0, Int.toNat_zero, Nat.reduceAdd, Nat.reduceMul, Nat.reduceSub, Nat.reduceLT, Nat.reduceLeDiff, Nat.reduceEqDiff, Int.reduceLE, Int.reduceLT, Int.reduceToNat, Int.reduceNe, Int.reduceEq, not_false_eq_true, Nat.reduceBEq, Nat.reduceDiv, Int.natCast_zero, Int.natCast_one, Int.reduceAdd, Int.reduceSub, reduceIte, ↓reduceIte, Value.oneCell', rowI_length, rowI_take, rowI_splice, rep_all, row_zero, le_nat, Int.toNat_natCast, Nat.zero_add, sok_row, reduceCtorEq]
  refine tooLong_call (rw := false) (by simp only [upd_apply, sn_upto, sn_from, slN_def, run_cap, rules, rules2, loopRules, Tryd.facts, base0, Int.toNat_zero, Nat.reduceAdd, Nat.reduceMul, Nat.reduceSub, Nat.reduceLT, Nat.reduceLeDiff, Nat.reduceEqDiff, Int.reduceLE, Int.reduceLT, Int.reduceToNat, Int.reduceNe, Int.reduceEq, not_false_eq_true, Nat.reduceBEq, Nat.reduceDiv, Int.natCast_zero, Int.natCast_one, Int.reduceAdd, Int.reduceSub, reduceIte, ↓reduceIte, Value.oneCell', rowI_length, rowI_take, rowI_splice, rep_all, row_zero, le_nat, Int.toNat_natCast, Nat.zero_add, sok_row, reduceCtorEq]) hq ?_
  by_cases h2 : 1048576 < m
  · have d2 : decide (1048576 < (m : Int)) = true := decide_eq_true (by omega)
    have eA : macA nk m key f = fun _ => 0 := if_pos (.inr h2)
    simp only [d2, eA, row_zero2, sn_upto, sn_from, slN_def, run_cap, rules, rules2, loopRules, Tryd.facts, base0, Int.toNat_zero, Nat.reduceAdd, Nat.reduceMul, Nat.reduceSub, Nat.reduceLT, Nat.reduceLeDiff, Nat.reduceEqDiff, Int.reduceLE, Int.reduceLT, Int.reduceToNat, Int.reduceNe, Int.reduceEq, not_false_eq_true, Nat.reduceBEq, Nat.reduceDiv, Int.natCast_zero, Int.natCast_one, Int.reduceAdd, Int.reduceSub, reduceIte, ↓reduceIte, Value.oneCell', rowI_length, rowI_take, rowI_splice, rep_all, row_zero, le_nat, Int.toNat_natCast, Nat.zero_add, sok_row, reduceCtorEq]
    exact ret_plain (v := Ag (rowI .u8 32 (fun _ => 0))) plainI ⟨rfl, rfl⟩
  have d2 : decide (1048576 < (m : Int)) = false := decide_eq_false (by omega)
  have eA : macA nk m key f = macW kW ivW key nk f m := if_neg (by omega)
  simp only [d2, sn_upto, sn_from, slN_def, run_cap, rules, rules2, loopRules, Tryd.facts, base0, Int.toNat_zero, Nat.reduceAdd, Nat.reduceMul, Nat.reduceSub, Nat.reduceLT, Nat.reduceLeDiff, Nat.reduceEqDiff, Int.reduceLE, Int.reduceLT, Int.reduceToNat, Int.reduceNe, Int.reduceEq, not_false_eq_true, Nat.reduceBEq, Nat.reduceDiv, Int.natCast_zero, Int.natCast_one, Int.reduceAdd, Int.reduceSub, reduceIte, ↓reduceIte, Value.oneCell', rowI_length, rowI_take, rowI_splice, rep_all, row_zero, le_nat, Int.toNat_natCast, Nat.zero_add, sok_row, reduceCtorEq]
  refine ⟨show 1 ≤ 1 by decide, ?_⟩
  refine mac1_call (rw0 := true) (rwk := false) (by simp only [upd_same]; rfl) rfl (.inr ⟨1, o, c, false, ds, rfl, by simp only [upd_apply, sn_upto, sn_from, slN_def, run_cap, rules, rules2, loopRules, Tryd.facts, base0, Int.toNat_zero, Nat.reduceAdd, Nat.reduceMul, Nat.reduceSub, Nat.reduceLT, Nat.reduceLeDiff, Nat.reduceEqDiff, Int.reduceLE, Int.reduceLT, Int.reduceToNat, Int.reduceNe, Int.reduceEq, not_false_eq_true, Nat.reduceBEq, Nat.reduceDiv, Int.natCast_zero, Int.natCast_one, Int.reduceAdd, Int.reduceSub, reduceIte, ↓reduceIte, Value.oneCell', rowI_length, rowI_take, rowI_splice, rep_all, row_zero, le_nat, Int.toNat_natCast, Nat.zero_add, sok_row, reduceCtorEq], hq, hc⟩) hf (by simp only [upd_apply, sn_upto, sn_from, slN_def, run_cap, rules, rules2, loopRules, Tryd.facts, base0, Int.toNat_zero, Nat.reduceAdd, Nat.reduceMul, Nat.reduceSub, Nat.reduceLT, Nat.reduceLeDiff, Nat.reduceEqDiff, Int.reduceLE, Int.reduceLT, Int.reduceToNat, Int.reduceNe, Int.reduceEq, not_false_eq_true, Nat.reduceBEq, Nat.reduceDiv, Int.natCast_zero, Int.natCast_one, Int.reduceAdd, Int.reduceSub, reduceIte, ↓reduceIte, Value.oneCell', rowI_length, rowI_take, rowI_splice, rep_all, row_zero, le_nat, Int.toNat_natCast, Nat.zero_add, sok_row, reduceCtorEq]) hp hk hkb (by omega) hck (by omega) ?_
  simp only [← eA, sn_upto, sn_from, slN_def, run_cap, rules, rules2, loopRules, Tryd.facts, base0, Int.toNat_zero, Nat.reduceAdd, Nat.reduceMul, Nat.reduceSub, Nat.reduceLT, Nat.reduceLeDiff, Nat.reduceEqDiff, Int.reduceLE, Int.reduceLT, Int.reduceToNat, Int.reduceNe, Int.reduceEq, not_false_eq_true, Nat.reduceBEq, Nat.reduceDiv, Int.natCast_zero, Int.natCast_one, Int.reduceAdd, Int.reduceSub, reduceIte, ↓reduceIte, Value.oneCell', rowI_length, rowI_take, rowI_splice, rep_all, row_zero, le_nat, Int.toNat_natCast, Nat.zero_add, sok_row, reduceCtorEq]
  exact ret_plain plainI ⟨rfl, rfl⟩
set_option maxHeartbeats 8000000 in
set_option maxRecDepth 20000 in
theorem hkdf_m {nk ok ck m om cm q oq cq : Nat} {n : Int} {salt f info : Nat → Int} {cs ds es : List SV} (hkb : Byt salt) (hf : Byt f) (hib : Byt info) (hk : Shows cs ok nk salt) (hp : cs.all SV.plain = true) (hck : nk ≤ ck) (hc : Shows ds om m f) (hq : ds.all SV.plain = true)
    (hi : Shows es oq q info) (hr : es.all SV.plain = true) (hg : ¬ hkBad n nk m q) :
    MFun Tryd.prog 11 [Sl 0 ok nk ck, Sl 1 om m cm, Sl 2 oq q cq, I .i64 n] 3 (lk [(0, ⟨false, cs⟩), (1, ⟨false, ds⟩), (2, ⟨false, es⟩)]) (Bytes 3 n.toNat (okmW kW ivW (macW kW ivW salt nk f m) info q)) := by
  refine mfun_of_vc Tryd.func11 rfl (by kernel_rfl) (by simp [Tryd.ntmps11]) Tryd.callable11 (by simp [AV.ok, CV.ok, SV.names]) all3 (inn3 hp hq hr) ?_
  simp only [hkBad] at hg
  have d0 : decide (n < 0) = false := decide_eq_false (by omega)
  have d1 : decide (8160 < n) = false := decide_eq_false (by omega)
  have d2 : decide (1048576 < (nk : Int)) = false := decide_eq_false (by omega)
  have d3 : decide (1048576 < (m : Int)) = false := decide_eq_false (by omega)
  have d4 : decide (1048576 < (q : Int)) = false := decide_eq_false (by omega)
  simp only [Tryd.results11, d0, d1, sn_upto, sn_from, slN_def, run_cap, rules, rules2, loopRules, Tryd.facts, base0, Int.toNat_zero, Nat.reduceAdd, Nat.reduceMul, Nat.reduceSub, Nat.reduceLT, Nat.reduceLeDiff, Nat.reduceEqDiff, Int.reduceLE, Int.reduceLT, Int.reduceToNat, Int.reduceNe, Int.reduceEq, not_false_eq_true, Nat.reduceBEq, Nat.reduceDiv, Int.natCast_zero, Int.natCast_one, Int.reduceAdd, Int.reduceSub, reduceIte, ↓reduceIte, Value.oneCell', rowI_length, rowI_take, rowI_splice, rep_all, row_zero, le_nat, Int.toNat_natCast, Nat.zero_add, sok_row, reduceCtorEq]
  refine tooLong_call (rw := false) (by simp only [upd_apply, sn_upto, sn_from, slN_def, run_cap, rules, rules2, loopRules, Tryd.facts, base0, Int.toNat_zero, Nat.reduceAdd, Nat.reduceMul, Nat.reduceSub, Nat.reduceLT, Nat.reduceLeDiff, Nat.reduceEqDiff, Int.reduceLE, Int.reduceLT, Int.reduceToNat, Int.reduceNe, Int.reduceEq, not_false_eq_true, Nat.reduceBEq, Nat.reduceDiv, Int.natCast_zero, Int.natCast_one, Int.reduceAdd, Int.reduceSub, reduceIte, ↓reduceIte, Value.oneCell', rowI_length, rowI_take, rowI_splice, rep_all, row_zero, le_nat, Int.toNat_natCast, Nat.zero_add, sok_row, reduceCtorEq]) hp ?_
  simp only [d2, sn_upto, sn_from, slN_def, run_cap, rules, rules2, loopRules, Tryd.facts, base0, Int.toNat_zero, Nat.reduceAdd, Nat.reduceMul, Nat.reduceSub, Nat.reduceLT, Nat.reduceLeDiff, Nat.reduceEqDiff, Int.reduceLE, Int.reduceLT, Int.reduceToNat, Int.reduceNe, Int.reduceEq, not_false_eq_true, Nat.reduceBEq, Nat.reduceDiv, Int.natCast_zero, Int.natCast_one, Int.reduceAdd, Int.reduceSub, reduceIte, ↓reduceIte, Value.oneCell', rowI_length, rowI_take, rowI_splice, rep_all, row_zero, le_nat, Int.toNat_natCast, Nat.zero_add, sok_row, reduceCtorEq]
  refine tooLong_call (rw := false) (by simp only [upd_apply, sn_upto, sn_from, slN_def, run_cap, rules, rules2, loopRules, Tryd.facts, base0, Int.toNat_zero, Nat.reduceAdd, Nat.reduceMul, Nat.reduceSub, Nat.reduceLT, Nat.reduceLeDiff, Nat.reduceEqDiff, Int.reduceLE, Int.reduceLT, Int.reduceToNat, Int.reduceNe, Int.reduceEq, not_false_eq_true, Nat.reduceBEq, Nat.reduceDiv, Int.natCast_zero, Int.natCast_one, Int.reduceAdd, Int.reduceSub, reduceIte, ↓reduceIte, Value.oneCell', rowI_length, rowI_take, rowI_splice, rep_all, row_zero, le_nat, Int.toNat_natCast, Nat.zero_add, sok_row, reduceCtorEq]) hq ?_
  simp only [d3, sn_upto, sn_from, slN_def, run_cap, rules, rules2, loopRules, Tryd.facts, base0, Int.toNat_zero, Nat.reduceAdd, Nat.reduceMul, Nat.reduceSub, Nat.reduceLT, Nat.reduceLeDiff, Nat.reduceEqDiff, Int.reduceLE, Int.reduceLT, Int.reduceToNat, Int.reduceNe, Int.reduceEq, not_false_eq_true, Nat.reduceBEq, Nat.reduceDiv, Int.natCast_zero, Int.natCast_one, Int.reduceAdd, Int.reduceSub, reduceIte, ↓reduceIte, Value.oneCell', rowI_length, rowI_take, rowI_splice, rep_all, row_zero, le_nat, Int.toNat_natCast, Nat.zero_add, sok_row, reduceCtorEq]
  refine tooLong_call (rw := false) (by simp only [upd_apply, sn_upto, sn_from, slN_def, run_cap, rules, rules2, loopRules, Tryd.facts, base0, Int.toNat_zero, Nat.reduceAdd, Nat.reduceMul, Nat.reduceSub, Nat.reduceLT, Nat.reduceLeDiff, Nat.reduceEqDiff, Int.reduceLE, Int.reduceLT, Int.reduceToNat, Int.reduceNe, Int.reduceEq, not_false_eq_true, Nat.reduceBEq, Nat.reduceDiv, Int.natCast_zero, Int.natCast_one, Int.reduceAdd, Int.reduceSub, reduceIte, ↓reduceIte, Value.oneCell', rowI_length, rowI_take, rowI_splice, rep_all, row_zero, le_nat, Int.toNat_natCast, Nat.zero_add, sok_row, reduceCtorEq]) hr ?_
  simp only [d4, sn_upto, sn_from, slN_def, run_cap, rules, rules2, loopRules, Tryd.facts, base0, Int.toNat_zero, Nat.reduceAdd, Nat.reduceMul, Nat.reduceSub, Nat.reduceLT, Nat.reduceLeDiff, Nat.reduceEqDiff, Int.reduceLE, Int.reduceLT, Int.reduceToNat, Int.reduceNe, Int.reduceEq, not_false_eq_true, Nat.reduceBEq, Nat.reduceDiv, Int.natCast_zero, Int.natCast_one, Int.reduceAdd, Int.reduceSub, reduceIte, ↓reduceIte, Value.oneCell', rowI_length, rowI_take, rowI_splice, rep_all, row_zero, le_nat, Int.toNat_natCast, Nat.zero_add, sok_row, reduceCtorEq]
  refine ⟨show 1 ≤ 1 by decide, ?_⟩
  refine mac1_call (rw0 := true) (rwk := false) (by simp only [upd_same]; rfl) rfl (.inr ⟨1, om, cm, false, ds, rfl, by simp only [upd_apply, sn_upto, sn_from, slN_def, run_cap, rules, rules2, loopRules, Tryd.facts, base0, Int.toNat_zero, Nat.reduceAdd, Nat.reduceMul, Nat.reduceSub, Nat.reduceLT, Nat.reduceLeDiff, Nat.reduceEqDiff, Int.reduceLE, Int.reduceLT, Int.reduceToNat, Int.reduceNe, Int.reduceEq, not_false_eq_true, Nat.reduceBEq, Nat.reduceDiv, Int.natCast_zero, Int.natCast_one, Int.reduceAdd, Int.reduceSub, reduceIte, ↓reduceIte, Value.oneCell', rowI_length, rowI_take, rowI_splice, rep_all, row_zero, le_nat, Int.toNat_natCast, Nat.zero_add, sok_row, reduceCtorEq], hq, hc⟩) hf (by simp only [upd_apply, sn_upto, sn_from, slN_def, run_cap, rules, rules2, loopRules, Tryd.facts, base0, Int.toNat_zero, Nat.reduceAdd, Nat.reduceMul, Nat.reduceSub, Nat.reduceLT, Nat.reduceLeDiff, Nat.reduceEqDiff, Int.reduceLE, Int.reduceLT, Int.reduceToNat, Int.reduceNe, Int.reduceEq, not_false_eq_true, Nat.reduceBEq, Nat.reduceDiv, Int.natCast_zero, Int.natCast_one, Int.reduceAdd, Int.reduceSub, reduceIte, ↓reduceIte, Value.oneCell', rowI_length, rowI_take, rowI_splice, rep_all, row_zero, le_nat, Int.toNat_natCast, Nat.zero_add, sok_row, reduceCtorEq]) hp hk hkb (by omega) hck (by omega) ?_
  simp only [sn_upto, sn_from, slN_def, run_cap, rules, rules2, loopRules, Tryd.facts, base0, Int.toNat_zero, Nat.reduceAdd, Nat.reduceMul, Nat.reduceSub, Nat.reduceLT, Nat.reduceLeDiff, Nat.reduceEqDiff, Int.reduceLE, Int.reduceLT, Int.reduceToNat, Int.reduceNe, Int.reduceEq, not_false_eq_true, Nat.reduceBEq, Nat.reduceDiv, Int.natCast_zero, Int.natCast_one, Int.reduceAdd, Int.reduceSub, reduceIte, ↓reduceIte, Value.oneCell', rowI_length, rowI_take, rowI_splice, rep_all, row_zero, le_nat, Int.toNat_natCast, Nat.zero_add, sok_row, reduceCtorEq]
  obtain ⟨N, rfl⟩ : ∃ N : Nat, n = (N : Int) := ⟨n.toNat, by omega⟩
  rw [Int.toNat_natCast]
  obtain ⟨p, hpE⟩ : ∃ p, macW kW ivW salt nk f m = p := ⟨_, rfl⟩
  have hpb : Byt p := by rw [← hpE]; exact macW_byt _ _ _ _ _ _
  rw [hpE]
  refine (expand_m (o := oq) (m := q) (c := cq) (n := N) hpb hib hi hr (by omega) (by omega)).vcCall (fun _ => 2) none (fits1 (rw := false) (by simp only [upd_apply, sn_upto, sn_from, slN_def, run_cap, rules, rules2, loopRules, Tryd.facts, base0, Int.toNat_zero, Nat.reduceAdd, Nat.reduceMul, Nat.reduceSub, Nat.reduceLT, Nat.reduceLeDiff, Nat.reduceEqDiff, Int.reduceLE, Int.reduceLT, Int.reduceToNat, Int.reduceNe, Int.reduceEq, not_false_eq_true, Nat.reduceBEq, Nat.reduceDiv, Int.natCast_zero, Int.natCast_one, Int.reduceAdd, Int.reduceSub, reduceIte, ↓reduceIte, Value.oneCell', rowI_length, rowI_take, rowI_splice, rep_all, row_zero, le_nat, Int.toNat_natCast, Nat.zero_add, sok_row, reduceCtorEq]) hr) (by simp only [List.map_cons, List.map_nil, ren_row, ren_i, ren_s]) ?_
  rintro v out (⟨h0, rfl, rfl⟩ | ⟨c2, tail2, rfl, rfl, h1, h2, h3⟩) _
  · simp only [sn_upto, sn_from, slN_def, run_cap, rules, rules2, loopRules, Tryd.facts, base0, Int.toNat_zero, Nat.reduceAdd, Nat.reduceMul, Nat.reduceSub, Nat.reduceLT, Nat.reduceLeDiff, Nat.reduceEqDiff, Int.reduceLE, Int.reduceLT, Int.reduceToNat, Int.reduceNe, Int.reduceEq, not_false_eq_true, Nat.reduceBEq, Nat.reduceDiv, Int.natCast_zero, Int.natCast_one, Int.reduceAdd, Int.reduceSub, reduceIte, ↓reduceIte, Value.oneCell', rowI_length, rowI_take, rowI_splice, rep_all, row_zero, le_nat, Int.toNat_natCast, Nat.zero_add, sok_row, reduceCtorEq]
    exact ret_plain (v := V (.slice none 0 0)) rfl (.inl ⟨h0, rfl, rfl⟩)
  · rw [after_lk (plainT h3)]
    simp only [ren_s, rnew_k, sn_upto, sn_from, slN_def, run_cap, rules, rules2, loopRules, Tryd.facts, base0, Int.toNat_zero, Nat.reduceAdd, Nat.reduceMul, Nat.reduceSub, Nat.reduceLT, Nat.reduceLeDiff, Nat.reduceEqDiff, Int.reduceLE, Int.reduceLT, Int.reduceToNat, Int.reduceNe, Int.reduceEq, not_false_eq_true, Nat.reduceBEq, Nat.reduceDiv, Int.natCast_zero, Int.natCast_one, Int.reduceAdd, Int.reduceSub, reduceIte, ↓reduceIte, Value.oneCell', rowI_length, rowI_take, rowI_splice, rep_all, row_zero, le_nat, Int.toNat_natCast, Nat.zero_add, sok_row, reduceCtorEq]
    exact ret_new (k := 3) (q := 28) (cs := rowI .u8 N (okmW kW ivW p info q) ++ tail2) (by decide) (by simp only [upd_same]) (plainT h3) (.inr ⟨c2, tail2, rfl, rfl, h1, h2, h3⟩)
set_option maxHeartbeats 8000000 in
set_option maxRecDepth 20000 in
theorem hkdf_bad {nk ok ck m om cm q oq cq : Nat} {n : Int} {cs ds es : List SV} (hp : cs.all SV.plain = true) (hq : ds.all SV.plain = true) (hr : es.all SV.plain = true) (hg : hkBad n nk m q) :
    MFun Tryd.prog 11 [Sl 0 ok nk ck, Sl 1 om m cm, Sl 2 oq q cq, I .i64 n] 3 (lk [(0, ⟨false, cs⟩), (1, ⟨false, ds⟩), (2, ⟨false, es⟩)]) (fun v out => v = V (.slice none 0 0) ∧ out = fun _ => none) := by
  refine mfun_of_vc Tryd.func11 rfl (by kernel_rfl) (by simp [Tryd.ntmps11]) Tryd.callable11 (by simp [AV.ok, CV.ok, SV.names]) all3 (inn3 hp hq hr) ?_
  simp only [hkBad] at hg
  by_cases h0 : n < 0
  · have d0 : decide (n < 0) = true := decide_eq_true h0
    simp only [Tryd.results11, d0, sn_upto, sn_from, slN_def, run_cap, rules, rules2, loopRules, Tryd.facts, base0, Int.toNat_zero, Nat.reduceAdd, Nat.reduceMul, Nat.reduceSub, Nat.reduceLT, Nat.reduceLeDiff, Nat.reduceEqDiff, Int.reduceLE, Int.reduceLT, Int.reduceToNat, Int.reduceNe, Int.reduceEq, not_false_eq_true, Nat.reduceBEq, Nat.reduceDiv, Int.natCast_zero, Int.natCast_one, Int.reduceAdd, Int.reduceSub, reduceIte, ↓reduceIte, Value.oneCell', rowI_length, rowI_take, rowI_splice, rep_all, row_zero, le_nat, Int.toNat_natCast, Nat.zero_add, sok_row, reduceCtorEq]
    exact ret_plain rfl ⟨rfl, rfl⟩
  have d0 : decide (n < 0) = false := decide_eq_false h0
  by_cases h1 : 8160 < n
  · have d1 : decide (8160 < n) = true := decide_eq_true h1
    simp only [Tryd.results11, d0, d1, sn_upto, sn_from, slN_def, run_cap, rules, rules2, loopRules, Tryd.facts, base0, Int.toNat_zero, Nat.reduceAdd, Nat.reduceMul, Nat.reduceSub, Nat.reduceLT, Nat.reduceLeDiff, Nat.reduceEqDiff, Int.reduceLE, Int.reduceLT, Int.reduceToNat, Int.reduceNe, Int.reduceEq, not_false_eq_true, Nat.reduceBEq, Nat.reduceDiv, Int.natCast_zero, Int.natCast_one, Int.reduceAdd, Int.reduceSub, reduceIte, ↓reduceIte, Value.oneCell', rowI_length, rowI_take, rowI_splice, rep_all, row_zero, le_nat, Int.toNat_natCast, Nat.zero_add, sok_row, reduceCtorEq]
    exact ret_plain rfl ⟨rfl, rfl⟩
  have d1 : decide (8160 < n) = false := decide_eq_false h1
  simp only [Tryd.results11, d0, d1, sn_upto, sn_from, slN_def, run_cap, rules, rules2, loopRules, Tryd.facts, base0, Int.toNat_zero, Nat.reduceAdd, Nat.reduceMul, Nat.reduceSub, Nat.reduceLT, Nat.reduceLeDiff, Nat.reduceEqDiff, Int.reduceLE, Int.reduceLT, Int.reduceToNat, Int.reduceNe, Int.reduceEq, not_false_eq_true, Nat.reduceBEq, Nat.reduceDiv, Int.natCast_zero, Int.natCast_one, Int.reduceAdd, Int.reduceSub, reduceIte, ↓reduceIte, Value.oneCell', rowI_length, rowI_take, rowI_splice, rep_all, row_zero, le_nat, Int.toNat_natCast, Nat.zero_add, sok_row, reduceCtorEq]
  refine tooLong_call (rw := false) (by simp only [upd_apply, sn_upto, sn_from, slN_def, run_cap, rules, rules2, loopRules, Tryd.facts, base0, Int.toNat_zero, Nat.reduceAdd, Nat.reduceMul, Nat.reduceSub, Nat.reduceLT, Nat.reduceLeDiff, Nat.reduceEqDiff, Int.reduceLE, Int.reduceLT, Int.reduceToNat, Int.reduceNe, Int.reduceEq, not_false_eq_true, Nat.reduceBEq, Nat.reduceDiv, Int.natCast_zero, Int.natCast_one, Int.reduceAdd, Int.reduceSub, reduceIte, ↓reduceIte, Value.oneCell', rowI_length, rowI_take, rowI_splice, rep_all, row_zero, le_nat, Int.toNat_natCast, Nat.zero_add, sok_row, reduceCtorEq]) hp ?_
  by_cases h2 : 1048576 < nk
  · have d2 : decide (1048576 < (nk : Int)) = true := decide_eq_true (by omega)
    simp only [d2, sn_upto, sn_from, slN_def, run_cap, rules, rules2, loopRules, Tryd.facts, base0, Int.toNat_zero, Nat.reduceAdd, Nat.reduceMul, Nat.reduceSub, Nat.reduceLT, Nat.reduceLeDiff, Nat.reduceEqDiff, Int.reduceLE, Int.reduceLT, Int.reduceToNat, Int.reduceNe, Int.reduceEq, not_false_eq_true, Nat.reduceBEq, Nat.reduceDiv, Int.natCast_zero, Int.natCast_one, Int.reduceAdd, Int.reduceSub, reduceIte, ↓reduceIte, Value.oneCell', rowI_length, rowI_take, rowI_splice, rep_all, row_zero, le_nat, Int.toNat_natCast, Nat.zero_add, sok_row, reduceCtorEq]
    exact ret_plain rfl ⟨rfl, rfl⟩
  have d2 : decide (1048576 < (nk : Int)) = false := decide_eq_false (by omega)
  simp only [d2, sn_upto, sn_from, slN_def, run_cap, rules, rules2, loopRules, Tryd.facts, base0, Int.toNat_zero, Nat.reduceAdd, Nat.reduceMul, Nat.reduceSub, Nat.reduceLT, Nat.reduceLeDiff, Nat.reduceEqDiff, Int.reduceLE, Int.reduceLT, Int.reduceToNat, Int.reduceNe, Int.reduceEq, not_false_eq_true, Nat.reduceBEq, Nat.reduceDiv, Int.natCast_zero, Int.natCast_one, Int.reduceAdd, Int.reduceSub, reduceIte, ↓reduceIte, Value.oneCell', rowI_length, rowI_take, rowI_splice, rep_all, row_zero, le_nat, Int.toNat_natCast, Nat.zero_add, sok_row, reduceCtorEq]
  refine tooLong_call (rw := false) (by simp only [upd_apply, sn_upto, sn_from, slN_def, run_cap, rules, rules2, loopRules, Tryd.facts, base0, Int.toNat_zero, Nat.reduceAdd, Nat.reduceMul, Nat.reduceSub, Nat.reduceLT, Nat.reduceLeDiff, Nat.reduceEqDiff, Int.reduceLE, Int.reduceLT, Int.reduceToNat, Int.reduceNe, Int.reduceEq, not_false_eq_true, Nat.reduceBEq, Nat.reduceDiv, Int.natCast_zero, Int.natCast_one, Int.reduceAdd, Int.reduceSub, reduceIte, ↓reduceIte, Value.oneCell', rowI_length, rowI_take, rowI_splice, rep_all, row_zero, le_nat, Int.toNat_natCast, Nat.zero_add, sok_row, reduceCtorEq]) hq ?_
  by_cases h3 : 1048576 < m
  · have d3 : decide (1048576 < (m : Int)) = true := decide_eq_true (by omega)
    simp only [d3, sn_upto, sn_from, slN_def, run_cap, rules, rules2, loopRules, Tryd.facts, base0, Int.toNat_zero, Nat.reduceAdd, Nat.reduceMul, Nat.reduceSub, Nat.reduceLT, Nat.reduceLeDiff, Nat.reduceEqDiff, Int.reduceLE, Int.reduceLT, Int.reduceToNat, Int.reduceNe, Int.reduceEq, not_false_eq_true, Nat.reduceBEq, Nat.reduceDiv, Int.natCast_zero, Int.natCast_one, Int.reduceAdd, Int.reduceSub, reduceIte, ↓reduceIte, Value.oneCell', rowI_length, rowI_take, rowI_splice, rep_all, row_zero, le_nat, Int.toNat_natCast, Nat.zero_add, sok_row, reduceCtorEq]
    exact ret_plain rfl ⟨rfl, rfl⟩
  have d3 : decide (1048576 < (m : Int)) = false := decide_eq_false (by omega)
  have d4 : decide (1048576 < (q : Int)) = true := decide_eq_true (by omega)
  simp only [d3, sn_upto, sn_from, slN_def, run_cap, rules, rules2, loopRules, Tryd.facts, base0, Int.toNat_zero, Nat.reduceAdd, Nat.reduceMul, Nat.reduceSub, Nat.reduceLT, Nat.reduceLeDiff, Nat.reduceEqDiff, Int.reduceLE, Int.reduceLT, Int.reduceToNat, Int.reduceNe, Int.reduceEq, not_false_eq_true, Nat.reduceBEq, Nat.reduceDiv, Int.natCast_zero, Int.natCast_one, Int.reduceAdd, Int.reduceSub, reduceIte, ↓reduceIte, Value.oneCell', rowI_length, rowI_take, rowI_splice, rep_all, row_zero, le_nat, Int.toNat_natCast, Nat.zero_add, sok_row, reduceCtorEq]
  refine tooLong_call (rw := false) (by simp only [upd_apply, sn_upto, sn_from, slN_def, run_cap, rules, rules2, loopRules, Tryd.facts, base0, Int.toNat_zero, Nat.reduceAdd, Nat.reduceMul, Nat.reduceSub, Nat.reduceLT, Nat.reduceLeDiff, Nat.reduceEqDiff, Int.reduceLE, Int.reduceLT, Int.reduceToNat, Int.reduceNe, Int.reduceEq, not_false_eq_true, Nat.reduceBEq, Nat.reduceDiv, Int.natCast_zero, Int.natCast_one, Int.reduceAdd, Int.reduceSub, reduceIte, ↓reduceIte, Value.oneCell', rowI_length, rowI_take, rowI_splice, rep_all, row_zero, le_nat, Int.toNat_natCast, Nat.zero_add, sok_row, reduceCtorEq]) hr ?_
  simp only [d4, sn_upto, sn_from, slN_def, run_cap, rules, rules2, loopRules, Tryd.facts, base0, Int.toNat_zero, Nat.reduceAdd, Nat.reduceMul, Nat.reduceSub, Nat.reduceLT, Nat.reduceLeDiff, Nat.reduceEqDiff, Int.reduceLE, Int.reduceLT, Int.reduceToNat, Int.reduceNe, Int.reduceEq, not_false_eq_true, Nat.reduceBEq, Nat.reduceDiv, Int.natCast_zero, Int.natCast_one, Int.reduceAdd, Int.reduceSub, reduceIte, ↓reduceIte, Value.oneCell', rowI_length, rowI_take, rowI_splice, rep_all, row_zero, le_nat, Int.toNat_natCast, Nat.zero_add, sok_row, reduceCtorEq]
  exact ret_plain rfl ⟨rfl, rfl⟩
end Go.Proofs.YtlpckbkmmocaaaaDoor
