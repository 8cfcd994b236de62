/-
  What the faces of the hash lean on in the program.
-/
import Derived.Test.YtljncmifbncdbaaDoorVcgH11
set_option linter.unusedSimpArgs false
set_option linter.unusedVariables false
namespace Go.Proofs.YtljncmifbncdbaaDoor
open Go.Vcg
theorem mac1_call {s : AS} {nm t0 tk ok nk ck o c : Nat} {rw0 rwk : Bool} {a0 : SV} {csk : List SV} {n0 : Nat} {f0 key : Nat → Int} (h0 : s.box t0 = some ⟨rw0, [a0]⟩) (ho : o = 0)
    (p0 : BytesAt s.box (.inl (.inl a0)) n0 f0) (b0 : Byt f0)
    (hk : s.box tk = some ⟨rwk, csk⟩) (hkp : csk.all SV.plain = true) (hkey : Shows csk ok nk key) (hkb : Byt key) (hnk : nk < 100000000) (hck : nk ≤ ck) (hN : n0 < 100000000) {dst : Option Nat} {K : AS → Prop}
    (hK : K (s.put dst (some (Ag (rowI .u8 32 (macW kW ivW key nk f0 n0)))))) : vcCall Tryd.prog nm 23 (some [Sl tk ok nk ck, Sl t0 o 1 c]) dst K s := by
  subst ho
  obtain ⟨u0, r0, c0, w0, e0, q0, g0, i0, k0, _⟩ := part_own p0 hk hkp
  let l : List (Nat × Box) := [(0, ⟨false, [w0 2]⟩), (1, ⟨false, csk⟩), (2, ⟨false, c0⟩)]
  let nn : Nat → Nat := fun j => n0
  let ff : Nat → Nat → Int := fun j => f0
  have hl : Parts l [w0 2] 3 0 1 nn ff := by
    refine ⟨fun x hx => ?_, fun i hi => ?_, fun x hx => ?_, rfl, fun j hj => ?_⟩
    · simp only [l, List.mem_cons, List.not_mem_nil, or_false] at hx
      rcases hx with rfl | rfl | rfl <;> rfl
    · have : i = 0 ∨ i = 1 ∨ i = 2 := by omega
      rcases this with rfl | rfl | rfl <;> exact ⟨_, rfl⟩
    · simp only [l, List.mem_cons, List.not_mem_nil, or_false] at hx
      rcases hx with rfl | rfl | rfl
      · refine ⟨show (0 : Nat) < 3 by decide, rfl, fun y hy => ?_⟩
        simp only [List.mem_cons, List.not_mem_nil, or_false] at hy
        subst hy
        exact k0 _ _ (by decide)
      · exact ⟨show (1 : Nat) < 3 by decide, rfl, ok_all hkp⟩
      · exact ⟨show (2 : Nat) < 3 by decide, rfl, ok_all q0⟩
    · obtain rfl : j = 0 := by omega
      exact ⟨_, rfl, i0 _ 2 rfl⟩
  have hfit : Fits s (three t0 tk u0) (lk l) none := by
    refine ⟨fun n b hb => ?_, fun n n' b b' hb hrw => ?_, fun n b hb hrw => ?_, fun n hn => (by cases hn)⟩
    · have := lk_mem _ _ _ hb
      simp only [l, List.mem_cons, List.not_mem_nil, or_false, Prod.mk.injEq] at this
      rcases this with ⟨rfl, rfl⟩ | ⟨rfl, rfl⟩ | ⟨rfl, rfl⟩
      · refine ⟨_, h0, fun e => (by cases e), ?_⟩
        simp only [List.map_cons, List.map_nil]
        rw [g0 _ 2 rfl]
      · exact ⟨_, hk, fun e => (by cases e), (ren_all hkp _).symm⟩
      · exact ⟨_, e0, fun e => (by cases e), (ren_all q0 _).symm⟩
    all_goals
      have := hl.ro _ (lk_mem _ _ _ hb)
      simp only at this
      rw [this] at hrw; cases hrw
  have hmac := mac_m (c := c) (tk := 1) (ok := ok) (nk := nk) (ck := ck) (key := key) hl (by decide) (by decide) (by decide) (by show 0 + n0 < _; omega) (fun j hj => b0) rfl hkp hkey hkb hnk hck
  have hcat : macW kW ivW key nk (catN nn ff 1) (totN nn 1) = macW kW ivW key nk f0 n0 := by
    have e1 : totN nn 1 = n0 := by show 0 + n0 = _; omega
    rw [e1]
    refine macW_cong (fun _ _ => rfl) fun i hi => ?_
    show joinB 0 (fun _ => 0) f0 i = _
    simp only [joinB]
    rw [if_neg (by omega), Nat.sub_zero]
  rw [hcat] at hmac
  exact hmac.vcRead (three t0 tk u0) hfit plainI rfl hK
theorem mac1_draw {s : AS} {nm t0 tk ok nk ck o c : Nat} {rw0 rwk : Bool} {a0 : SV} {csk : List SV} {n0 : Nat} {f0 key : Nat → Int} (h0 : s.box t0 = some ⟨rw0, [a0]⟩) (ho : o = 0)
    (p0 : BytesAt s.box (.inl (.inl a0)) n0 f0) (b0 : Byt f0)
    (hk : s.box tk = some ⟨rwk, csk⟩) (hkp : csk.all SV.plain = true) (hkey : Shows csk ok nk key) (hkb : Byt key) (hnk : nk < 100000000) (hck : nk ≤ ck) (hN : n0 < 100000000) {ops : Array Oper} {i : Nat} {dst : Option Nat} {K : AS → Prop}
    (hK : K (s.put dst (some (Ag (rowI .u8 32 (macW kW ivW key nk f0 n0)))))) : vcFun Tryd.prog ops i nm 23 (some [Sl tk ok nk ck, Sl t0 o 1 c]) dst K s := by
  subst ho
  obtain ⟨u0, r0, c0, w0, e0, q0, g0, i0, k0, nm0⟩ := part_own p0 hk hkp
  let l : List (Nat × Box) := [(0, ⟨false, [w0 2]⟩), (1, ⟨false, csk⟩), (2, ⟨false, c0⟩)]
  let nn : Nat → Nat := fun j => n0
  let ff : Nat → Nat → Int := fun j => f0
  have hl : Parts l [w0 2] 3 0 1 nn ff := by
    refine ⟨fun x hx => ?_, fun i hi => ?_, fun x hx => ?_, rfl, fun j hj => ?_⟩
    · simp only [l, List.mem_cons, List.not_mem_nil, or_false] at hx
      rcases hx with rfl | rfl | rfl <;> rfl
    · have : i = 0 ∨ i = 1 ∨ i = 2 := by omega
      rcases this with rfl | rfl | rfl <;> exact ⟨_, rfl⟩
    · simp only [l, List.mem_cons, List.not_mem_nil, or_false] at hx
      rcases hx with rfl | rfl | rfl
      · refine ⟨show (0 : Nat) < 3 by decide, rfl, fun y hy => ?_⟩
        simp only [List.mem_cons, List.not_mem_nil, or_false] at hy
        subst hy
        exact k0 _ _ (by decide)
      · exact ⟨show (1 : Nat) < 3 by decide, rfl, ok_all hkp⟩
      · exact ⟨show (2 : Nat) < 3 by decide, rfl, ok_all q0⟩
    · obtain rfl : j = 0 := by omega
      exact ⟨_, rfl, i0 _ 2 rfl⟩
  have hfit : Fits s (three t0 tk u0) (lk l) none := by
    refine ⟨fun n b hb => ?_, fun n n' b b' hb hrw => ?_, fun n b hb hrw => ?_, fun n hn => (by cases hn)⟩
    · have := lk_mem _ _ _ hb
      simp only [l, List.mem_cons, List.not_mem_nil, or_false, Prod.mk.injEq] at this
      rcases this with ⟨rfl, rfl⟩ | ⟨rfl, rfl⟩ | ⟨rfl, rfl⟩
      · refine ⟨_, h0, fun e => (by cases e), ?_⟩
        simp only [List.map_cons, List.map_nil]
        rw [g0 _ 2 rfl]
      · exact ⟨_, hk, fun e => (by cases e), (ren_all hkp _).symm⟩
      · exact ⟨_, e0, fun e => (by cases e), (ren_all q0 _).symm⟩
    all_goals
      have := hl.ro _ (lk_mem _ _ _ hb)
      simp only at this
      rw [this] at hrw; cases hrw
  have hmac := mac_m (c := c) (tk := 1) (ok := ok) (nk := nk) (ck := ck) (key := key) hl (by decide) (by decide) (by decide) (by show 0 + n0 < _; omega) (fun j hj => b0) rfl hkp hkey hkb hnk hck
  have hcat : macW kW ivW key nk (catN nn ff 1) (totN nn 1) = macW kW ivW key nk f0 n0 := by
    have e1 : totN nn 1 = n0 := by show 0 + n0 = _; omega
    rw [e1]
    refine macW_cong (fun _ _ => rfl) fun i hi => ?_
    show joinB 0 (fun _ => 0) f0 i = _
    simp only [joinB]
    rw [if_neg (by omega), Nat.sub_zero]
  rw [hcat] at hmac
  refine hmac.drawRead2 (three t0 tk u0) hfit plainI rfl (fun M h hcl n hn => ?_) hK
  have mk : M tk := h (Sl tk ok nk ck) (List.Mem.head _)
  have mt : M t0 := h (Sl t0 0 1 c) (List.Mem.tail _ (List.Mem.head _))
  have mu : M u0 := by
    rcases nm0 M (hcl 0 (by decide) mt _ h0 a0 (List.Mem.head _)).1 with e | e
    · rw [e]; exact mk
    · exact e
  have : n = 0 ∨ n = 1 ∨ n = 2 := by omega
  rcases this with rfl | rfl | rfl
  · exact mt
  · exact mk
  · exact mu
def hkBad (n : Int) (a b c : Nat) : Prop := n < 0 ∨ 8160 < n ∨ 1048576 < a ∨ 1048576 < b ∨ 1048576 < c
instance (n : Int) (a b c : Nat) : Decidable (hkBad n a b c) := by unfold hkBad; infer_instance
set_option maxHeartbeats 8000000 in
set_option maxRecDepth 20000 in
theorem tooLong_m {n o c : Nat} {cs : List SV} (hp : cs.all SV.plain = true) : MFun Tryd.prog 14 [Sl 0 o n c] 1 (lk [(0, ⟨false, cs⟩)]) (fun v out => v = B (decide (1048576 < (n : Int))) ∧ out = fun _ => none) := by
  refine mfun_of_vc Tryd.func14 rfl (by kernel_rfl) (by simp [Tryd.ntmps14]) Tryd.callable14 (by simp [AV.ok, CV.ok, SV.names]) all1 (inn1 hp) ?_
  simp only [Tryd.results14, sn_upto, sn_from, slN_def, run_cap, rules, rules2, loopRules, Tryd.facts, base0, Int.toNat_zero, Nat.reduceAdd, Nat.reduceMul, Nat.reduceSub, Nat.reduceLT, Nat.reduceLeDiff, Nat.reduceEqDiff, Int.reduceLE, Int.reduceLT, Int.reduceToNat, Int.reduceNe, Int.reduceEq, not_false_eq_true, Nat.reduceBEq, Nat.reduceDiv, Int.natCast_zero, Int.natCast_one, Int.reduceAdd, Int.reduceSub, reduceIte, ↓reduceIte, Value.oneCell', splice, reduceCtorEq]
  exact ret_plain rfl ⟨rfl, rfl⟩
theorem tooLong_call {s : AS} {nm t o n c : Nat} {rw : Bool} {cs : List SV} (hb : s.box t = some ⟨rw, cs⟩) (hp : cs.all SV.plain = true) {dst : Option Nat} {K : AS → Prop} (hk : K (s.put dst (some (B (decide (1048576 < (n : Int))))))) : vcCall Tryd.prog nm 14 (some [Sl t o n c]) dst K s :=
  (tooLong_m hp).vcRead (fun _ => t) (fits1 hb hp) rfl rfl hk
end Go.Proofs.YtljncmifbncdbaaDoor
