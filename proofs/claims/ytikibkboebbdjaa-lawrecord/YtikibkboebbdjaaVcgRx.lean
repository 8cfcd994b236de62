/-
  The calculus: a state's bytes say what the state is. Nothing here speaks of a program's code.
-/
import Derived.Test.YtikibkboebbdjaaVcgRw
namespace Go.Vcg
set_option linter.unusedSectionVars false
set_option linter.unusedSimpArgs false
set_option linter.unusedVariables false
def Eq32 (f g : Nat → Int) : Prop := ∀ i, i < 32 → f i = g i
structure EqS (s t : St) : Prop where
  own : s.own = t.own
  peer : s.peer = t.peer
  has : s.has = t.has
  root : Eq32 s.root t.root
  priv : Eq32 s.priv t.priv
  pub : Eq32 s.pub t.pub
  pee : Eq32 s.pee t.pee
  send : Eq32 s.send t.send
  recv : Eq32 s.recv t.recv
  se : s.se = t.se
  re : s.re = t.re
  ns : s.ns = t.ns
  nr : s.nr = t.nr
  pn : s.pn = t.pn
  skip : s.skip = t.skip
  room : s.room = t.room
structure EqE (d e : En) : Prop where
  ep : d.ep = e.ep
  n : d.n = e.n
  pub : Eq32 d.pub e.pub
  key : Eq32 d.key e.key
theorem stL_eqS {s t : St} (h : EqS s t) (hs : s.store = t.store) : stL s = stL t := by
  unfold stL stT
  rw [h.own, h.peer, h.has, h.se, h.re, h.ns, h.nr, h.pn, h.skip, h.room, hs, rowI_congr h.root, rowI_congr h.priv, rowI_congr h.pub, rowI_congr h.pee, rowI_congr h.send, rowI_congr h.recv]
theorem enL_eqE {d e : En} (h : EqE d e) : enL d = enL e := by
  unfold enL
  rw [h.ep, h.n, rowI_congr h.pub, rowI_congr h.key]
theorem z32_eq {f g : Nat → Int} (h : Eq32 f g) : z32 f = z32 g := by
  unfold z32
  rw [List.map_congr_left fun i hi => h i (List.mem_range.1 hi)]
theorem lim_eqS {s t : St} {n : Nat} (h : EqS s t) : limB s n = limB t n := by unfold limB; rw [h.skip, h.room]
theorem abs_eqS {s t : St} (h : EqS s t) : absB s = absB t := by unfold absB; rw [h.own, h.peer, h.has, z32_eq h.priv, z32_eq h.pub, z32_eq h.pee, z32_eq h.send]
theorem unb_eqS {s t : St} (h : EqS s t) : unbB s = unbB t := by unfold unbB; rw [h.re, h.nr, h.se, h.has, h.ns, h.pn, z32_eq h.recv]
theorem ch_eqS {s t : St} (h : EqS s t) : chB s = chB t := by unfold chB; rw [h.se, h.re, h.own, h.peer]
theorem gro_eqS {s t : St} {f g : Nat → En} (h : EqS s t) : ∀ n, (∀ i, i < n → EqE (f i) (g i)) → groB s f n = groB t g n
  | 0, _ => rfl
  | n + 1, hf => by
    rw [groB, groB, gro_eqS h n fun i hi => hf i (by omega)]
    have a := hf n (by omega)
    have b := hf (n - 1) (by omega)
    congr 1
    unfold entB pasB
    rw [a.ep, a.n, b.ep, b.n, h.re, h.nr]
theorem val_eqS {s t : St} {n : Nat} {f g : Nat → En} (h : EqS s t) (hf : ∀ i, i < n → EqE (f i) (g i)) : valB s n f = valB t n g := by
  unfold valB
  rw [lim_eqS h, abs_eqS h, unb_eqS h, ch_eqS h, gro_eqS h n hf, h.own, h.peer]
theorem keyN_eqS {s t : St} (h : EqS s t) (j : Nat) : Eq32 (keyN s j) (keyN t j) := by
  unfold keyN; repeat' split
  · exact h.root
  · exact h.priv
  · exact h.pub
  · exact h.pee
  · exact h.send
  · exact h.recv
theorem numN_eqS {s t : St} {n : Nat} (h : EqS s t) (j : Nat) : numN s n j = numN t n j := by
  unfold numN; rw [h.se, h.re, h.ns, h.nr, h.pn, h.skip, h.room]
theorem joinB_eq {n m : Nat} {f f' g g' : Nat → Int} (hf : ∀ i, i < n → f i = f' i) (hg : ∀ i, i < m → g i = g' i) : ∀ i, i < n + m → joinB n f g i = joinB n f' g' i := fun i hi => by
  unfold joinB; split
  · exact hf i (by omega)
  · exact hg _ (by omega)
theorem keysB_eqS {s t : St} (h : EqS s t) : ∀ k i, i < 2 + 32 * k → keysB s k i = keysB t k i
  | 0, i, hi => by unfold keysB flB; rw [h.own, h.peer, h.has]
  | k + 1, i, hi => joinB_eq (keysB_eqS h k) (keyN_eqS h k) i (by omega)
theorem numsB_eqS {s t : St} {n : Nat} (h : EqS s t) : ∀ k i, i < 194 + 4 * k → numsB s n k i = numsB t n k i
  | 0, i, hi => keysB_eqS h 6 i (by omega)
  | k + 1, i, hi => joinB_eq (m := 4) (numsB_eqS h k) (fun i _ => by rw [numN_eqS h]) i (by omega)
theorem stateB_eqS {s t : St} {n : Nat} {f g : Nat → En} (h : EqS s t) : ∀ k, (∀ i, i < k → EqE (f i) (g i)) → ∀ i, i < 226 + 72 * k → stateB s n f k i = stateB t n g k i
  | 0, _, i, hi => numsB_eqS h 8 i (by omega)
  | k + 1, hf, i, hi => by
    have e := hf k (by omega)
    exact joinB_eq (m := 32) (joinB_eq (m := 32) (joinB_eq (m := 4) (joinB_eq (m := 4) (stateB_eqS h k fun i hi => hf i (by omega)) (fun i _ => by rw [e.ep])) (fun i _ => by rw [e.n])) e.pub) e.key i (by omega)
/-! ### Where the fields stand -/
theorem keysB_at {s : St} {j i : Nat} (hi : i < 32) : ∀ k, j < k → keysB s k (2 + 32 * j + i) = keyN s j i
  | 0, h => by omega
  | k + 1, h => by
    rw [keysB, joinB]
    by_cases e : j = k
    · subst e; rw [if_neg (by omega), show 2 + 32 * j + i - (2 + 32 * j) = i by omega]
    · rw [if_pos (by omega)]; exact keysB_at hi k (by omega)
theorem numsB_low {s : St} {n i : Nat} (hi : i < 194) : ∀ k, numsB s n k i = keysB s 6 i
  | 0 => rfl
  | k + 1 => by rw [numsB, joinB, if_pos (by omega)]; exact numsB_low hi k
theorem numsB_at {s : St} {n j i : Nat} (hi : i < 4) : ∀ k, j < k → numsB s n k (194 + 4 * j + i) = u32B (numN s n j) i
  | 0, h => by omega
  | k + 1, h => by
    rw [numsB, joinB]
    by_cases e : j = k
    · subst e; rw [if_neg (by omega), show 194 + 4 * j + i - (194 + 4 * j) = i by omega]
    · rw [if_pos (by omega)]; exact numsB_at hi k (by omega)
def enB (e : En) (i : Nat) : Int := if i < 4 then u32B e.ep i else if i < 8 then u32B e.n (i - 4) else if i < 40 then e.pub (i - 8) else e.key (i - 40)
theorem stateB_at {s : St} {n j i : Nat} {f : Nat → En} (hi : i < 72) : ∀ k, j < k → stateB s n f k (226 + 72 * j + i) = enB (f j) i
  | 0, h => by omega
  | k + 1, h => by
    rw [stateB, entB2, joinB]
    by_cases e : j = k
    · subst e
      unfold enB
      by_cases h3 : i < 40
      · rw [if_pos (by omega), joinB]
        by_cases h2 : i < 8
        · rw [if_pos (by omega), entB1, joinB]
          by_cases h1 : i < 4
          · rw [if_pos (by omega), joinB, if_neg (by omega), if_pos h1, show 226 + 72 * j + i - (226 + 72 * j) = i by omega]
          · rw [if_neg (by omega), if_neg h1, if_pos h2, show 226 + 72 * j + i - (226 + 72 * j + 4) = i - 4 by omega]
        · rw [if_neg (by omega), if_neg (by omega), if_neg h2, if_pos h3, show 226 + 72 * j + i - (226 + 72 * j + 8) = i - 8 by omega]
      · rw [if_neg (by omega), if_neg (by omega), if_neg (by omega), if_neg h3, show 226 + 72 * j + i - (226 + 72 * j + 40) = i - 40 by omega]
    · rw [if_pos (by omega), joinB, if_pos (by omega), entB1, joinB, if_pos (by omega), joinB, if_pos (by omega)]
      exact stateB_at hi k (by omega)
theorem be4_u32 {G : Nat → Int} {p : Nat} {x : Int} (h : ∀ i, i < 4 → G (p + i) = u32B x i) (hx : W32 x) : be4 G p = x := by
  have e0 := h 0 (by decide)
  rw [Nat.add_zero] at e0
  rw [be4, e0, h 1 (by decide), h 2 (by decide), h 3 (by decide)]
  exact u32B_sum hx.1 hx.2
section
variable {s : St} {n : Nat} {f : Nat → En}
theorem raw_num {j : Nat} (hj : j < 8) (hx : W32 (numN s n j)) : be4 (stateB s n f n) (194 + 4 * j) = numN s n j :=
  be4_u32 (fun i hi => by rw [stateB_low (by omega), numsB_at hi 8 hj]) hx
theorem raw_key {j : Nat} (hj : j < 6) : Eq32 (fun i => stateB s n f n (2 + 32 * j + i)) (keyN s j) := fun i hi => by
  show stateB s n f n (2 + 32 * j + i) = _
  rw [stateB_low (by omega), numsB_low (by omega), keysB_at hi 6 hj]
theorem raw_flag : stateB s n f n 1 = flB s := by
  rw [stateB_low (by omega), numsB_low (by omega)]; rfl
theorem bt_fl (s : St) : bt 0 (flB s) = s.own ∧ bt 1 (flB s) = s.peer ∧ bt 2 (flB s) = s.has := by
  unfold flB
  cases s.own <;> cases s.peer <;> cases s.has <;> decide
theorem raw_eqS (hs : StOk s) (hk : W32 s.skip) (hr : W32 s.room) : EqS (rawS (stateB s n f n)) s := by
  obtain ⟨b0, b1, b2⟩ := bt_fl s
  refine ⟨?_, ?_, ?_, raw_key (j := 0) (by decide), raw_key (j := 1) (by decide), raw_key (j := 2) (by decide), raw_key (j := 3) (by decide), raw_key (j := 4) (by decide), raw_key (j := 5) (by decide),
    raw_num (j := 0) (by decide) hs.se, raw_num (j := 1) (by decide) hs.re, raw_num (j := 2) (by decide) hs.ns, raw_num (j := 3) (by decide) hs.nr, raw_num (j := 4) (by decide) hs.pn, raw_num (j := 5) (by decide) hk, raw_num (j := 6) (by decide) hr⟩
  · show bt 0 (stateB s n f n 1) = _; rw [raw_flag, b0]
  · show bt 1 (stateB s n f n 1) = _; rw [raw_flag, b1]
  · show bt 2 (stateB s n f n 1) = _; rw [raw_flag, b2]
theorem raw_eqE {j : Nat} (hj : j < n) (he : EnOk (f j)) : EqE (rawE (stateB s n f n) j) (f j) := by
  refine ⟨?_, ?_, fun i hi => ?_, fun i hi => ?_⟩
  · exact be4_u32 (fun i hi => by rw [stateB_at (by omega) n hj, enB, if_pos hi]) he.ep
  · refine be4_u32 (fun i hi => ?_) he.n
    rw [show 230 + 72 * j + i = 226 + 72 * j + (4 + i) by omega, stateB_at (by omega) n hj, enB, if_neg (by omega), if_pos (by omega), show 4 + i - 4 = i by omega]
  · show stateB s n f n (234 + 72 * j + i) = _
    rw [show 234 + 72 * j + i = 226 + 72 * j + (8 + i) by omega, stateB_at (by omega) n hj, enB, if_neg (by omega), if_neg (by omega), if_pos (by omega), show 8 + i - 8 = i by omega]
  · show stateB s n f n (266 + 72 * j + i) = _
    rw [show 266 + 72 * j + i = 226 + 72 * j + (40 + i) by omega, stateB_at (by omega) n hj, enB, if_neg (by omega), if_neg (by omega), if_neg (by omega), show 40 + i - 40 = i by omega]
/-- What is encoded is taken, and is what it was. -/
theorem good_enc (hs : StOk s) (hf : ∀ i, EnOk (f i)) (hv : valB s n f = true) : GoodS (226 + 72 * n) (stateB s n f n) := by
  have hl : 0 ≤ s.skip ∧ s.skip ≤ 1000 ∧ 0 ≤ s.room ∧ s.room ≤ 1000 := by
    simp only [valB, limB, Bool.and_eq_true, decide_eq_true_eq] at hv; omega
  have e : EqS (rawS (stateB s n f n)) s := raw_eqS hs (by unfold W32; omega) (by unfold W32; omega)
  have hc : cntE (226 + 72 * n) = n := cntE_of rfl
  refine ⟨by rw [hc], ?_, ?_⟩
  · rw [hc, val_eqS e fun i hi => raw_eqE hi (hf i)]; exact hv
  · rw [hc]; exact stateB_eqS e n fun i hi => raw_eqE hi (hf i)
end
end Go.Vcg
