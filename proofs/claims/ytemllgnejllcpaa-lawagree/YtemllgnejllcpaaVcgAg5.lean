/-
  The order of the base point; both orders of two ladders come to one coordinate, and it is not nothing. Nothing here speaks of a program.
-/
import Derived.Test.YtemllgnejllcpaaVcgAg4
set_option linter.unusedSimpArgs false
namespace Go.Vcg.Ag
set_option linter.unusedVariables false
set_option maxRecDepth 100000
set_option maxHeartbeats 8000000
theorem kpw_zero : ∀ n, kpw 0 (n + 1) = 0
  | 0 => by decide
  | n + 1 => by show kpw 0 (n + 1) * 0 = 0; grobner
theorem kiv_zero : kiv 0 = 0 := kpw_zero 57896044618658097711785492504343953926634992332820282019728792003956564819946
theorem kpw_mul2 (x y : K) : ∀ n, kpw (x * y) n = kpw x n * kpw y n
  | 0 => by simp only [kpw]; grobner
  | n + 1 => by simp only [kpw]; rw [kpw_mul2 x y n]; grobner
theorem kiv_mul2 (x y : K) : kiv (x * y) = kiv x * kiv y := kpw_mul2 x y _
def uK (a : Pt) : K := (1 + a.y) * kiv (1 - a.y)
theorem out_eq {X Z : K} {a : Pt} (h : Rp X Z a) : X * kiv Z = uK a := by
  obtain ⟨c, hc, rfl, rfl⟩ := h
  have := kiv_mul hc
  unfold uK
  rw [kiv_mul2]
  generalize kiv c = i at *
  generalize kiv (1 - a.y) = j at *
  grobner
def P0 : Pt := ⟨9771384041963202563870679428059935816164187996444183106833894008023910952347, 46316835694926478169428394003475163141307993866256225615783033603165251855960, by unfold On; decide +kernel⟩
theorem base_u : (9 : K) * (1 - P0.y) = 1 + P0.y := by decide +kernel
theorem nine_ne : (9 : K) ≠ 0 := by decide
theorem y_one {a : Pt} (h : a.y = 1) : a = Pt.zero := by
  have ho := on_sq (a := a)
  rw [h] at ho
  have h1 : (1 - dE) * (a.x * a.x) = 0 := by generalize dE = d at *; grobner
  have h2 := (kdiv h1).resolve_left (by decide +kernel)
  exact Pt.ext' ((kdiv h2).elim id id) h
theorem P0_ne : P0 ≠ Pt.zero := fun h => absurd (congrArg Pt.y h) (by decide +kernel)
def bL (k : Nat) : Bool := LN / 2 ^ (252 - k) % 2 == 1
theorem num_L : num bL 253 = LN := by decide +kernel
theorem lad_L : (klad bL 9 253).z2 = 0 := by decide +kernel
theorem order : Pt.mul LN P0 = Pt.zero := by
  obtain ⟨⟨c, hc, _, h⟩, _⟩ := lad_rp bL base_u nine_ne 253
  rw [lad_L, num_L] at h
  refine y_one ?_
  have := (kdiv h.symm).resolve_left hc
  generalize (Pt.mul LN P0).y = y at *
  grobner
theorem mul_ne {n : Nat} (h : ¬ LN ∣ n) : Pt.mul n P0 ≠ Pt.zero := fun e =>
  P0_ne (by
    have := zone (Z := fun n => Pt.mul n P0 = Pt.zero) (fun a b ha hb => by rw [Pt.mul_add, ha, Pt.zero_add] at hb; exact hb) lPrm order e h
    rwa [Pt.mul_one] at this)
theorem y_ne {n : Nat} (h : ¬ LN ∣ 2 * n) : 1 - (Pt.mul n P0).y ≠ 0 ∧ 1 + (Pt.mul n P0).y ≠ 0 := by
  have h2 := mul_ne h
  rw [show 2 * n = n + n by omega, Pt.mul_add] at h2
  generalize Pt.mul n P0 = a at *
  refine ⟨fun e => ?_, fun e => ?_⟩
  · have : a = Pt.zero := y_one (by generalize a.y = y at *; grobner)
    rw [this, Pt.add_zero] at h2
    exact h2 rfl
  · refine h2 (Pt.eq_of ?_ ?_)
    all_goals
      have ho := on_sq (a := a)
      have hy : a.y = -1 := by generalize a.y = y at *; grobner
      rw [hy] at ho
      have h1 : (1 - dE) * (a.x * a.x) = 0 := by generalize dE = d at *; grobner
      have hx2 := (kdiv h1).resolve_left (by decide +kernel)
      have hx : a.x = 0 := (kdiv hx2).elim id id
      simp only [Pt.zero]
      rw [hx, hy]
      generalize dE = d at *
      grobner
/-- Bits as a clamped scalar has them. -/
structure Clamp (b : Nat → Bool) : Prop where
  top : b 0 = true
  l0 : b 252 = false
  l1 : b 253 = false
  l2 : b 254 = false
theorem num_bd (b : Nat → Bool) (h : b 0 = true) : ∀ k, 2 ^ k ≤ num b (k + 1) ∧ num b (k + 1) < 2 ^ (k + 1)
  | 0 => by simp [num, h]
  | k + 1 => by
    have ih := num_bd b h k
    have e1 : 2 ^ (k + 1) = 2 * 2 ^ k := by rw [Nat.pow_succ]; omega
    have e2 : 2 ^ (k + 1 + 1) = 2 * 2 ^ (k + 1) := by rw [Nat.pow_succ]; omega
    rw [show num b (k + 1 + 1) = 2 * num b (k + 1) + (if b (k + 1) then 1 else 0) from rfl]
    split <;> omega
theorem clamp_num {b : Nat → Bool} (h : Clamp b) : ∃ m, num b 255 = 8 * m ∧ 0 < m ∧ m < LN := by
  have hb := num_bd b h.top 251
  refine ⟨num b 252, ?_, ?_, ?_⟩
  · rw [show num b 255 = 2 * num b 254 + (if b 254 then 1 else 0) from rfl, show num b 254 = 2 * num b 253 + (if b 253 then 1 else 0) from rfl, show num b 253 = 2 * num b 252 + (if b 252 then 1 else 0) from rfl, h.l0, h.l1, h.l2]
    simp only [Bool.false_eq_true, if_false]
    omega
  · exact Nat.lt_of_lt_of_le (by decide +kernel) hb.1
  · exact Nat.lt_of_lt_of_le hb.2 (by decide +kernel)
theorem ndvd {n : Nat} (h0 : 0 < n) (h : n < LN) : ¬ LN ∣ n := fun hd => absurd (Nat.le_of_dvd h0 hd) (Nat.not_le.2 h)
theorem ndvd_mul {a b : Nat} (ha : ¬ LN ∣ a) (hb : ¬ LN ∣ b) : ¬ LN ∣ a * b := fun h => (lPrm.mul h).elim ha hb
theorem clamp_nd {b : Nat → Bool} (h : Clamp b) : ¬ LN ∣ num b 255 := by
  obtain ⟨m, hm, h0, h1⟩ := clamp_num h
  rw [hm]
  exact ndvd_mul (by decide +kernel) (ndvd h0 h1)
def cv (b : Nat → Bool) (u : K) : K := (klad b u 255).x2 * kiv (klad b u 255).z2
theorem cv_eq (b : Nat → Bool) {u : K} {p : Pt} (hu : u * (1 - p.y) = 1 + p.y) (hu0 : u ≠ 0) : cv b u = uK (Pt.mul (num b 255) p) := out_eq (lad_rp b hu hu0 255).1
theorem uK_ok {a : Pt} (h1 : 1 - a.y ≠ 0) (h2 : 1 + a.y ≠ 0) : uK a * (1 - a.y) = 1 + a.y ∧ uK a ≠ 0 := by
  have hi := kiv_mul h1
  unfold uK
  refine ⟨by generalize kiv (1 - a.y) = i at *; grobner, kmul_ne h2 fun h0 => ?_⟩
  rw [h0] at hi
  exact absurd (show (0 : K) = 1 by grobner) (by decide)
theorem two_nd {n : Nat} (h : ¬ LN ∣ n) : ¬ LN ∣ 2 * n := ndvd_mul (by decide +kernel) h
theorem cv2 {b c : Nat → Bool} (hb : Clamp b) (hc : Clamp c) : cv b (cv c 9) = uK (Pt.mul (num b 255) (Pt.mul (num c 255) P0)) := by
  obtain ⟨h1, h2⟩ := y_ne (two_nd (clamp_nd hc))
  obtain ⟨h3, h4⟩ := uK_ok h1 h2
  rw [cv_eq c base_u nine_ne]
  exact cv_eq b h3 h4
theorem agree {b c : Nat → Bool} (hb : Clamp b) (hc : Clamp c) : cv b (cv c 9) = cv c (cv b 9) ∧ cv b (cv c 9) ≠ 0 := by
  refine ⟨by rw [cv2 hb hc, cv2 hc hb, Pt.mul_comm2], ?_⟩
  rw [cv2 hb hc, ← Pt.mul_mul]
  obtain ⟨h1, h2⟩ := y_ne (two_nd (ndvd_mul (clamp_nd hb) (clamp_nd hc)))
  exact (uK_ok h1 h2).2
end Go.Vcg.Ag
