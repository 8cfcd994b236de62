/-
  The field of remainders modulo the curve's prime, and the Edwards curve over it: its sums are again points, and they are associative. Nothing here speaks of a program.
-/
import Derived.Test.YtemllgnejllcpaaVcgAg2
set_option linter.unusedSimpArgs false
namespace Go.Vcg.Ag
set_option linter.unusedVariables false
set_option maxRecDepth 100000
set_option maxHeartbeats 8000000
abbrev K := Fin PN
instance : NeZero PN := ⟨by decide⟩
theorem kval (x : K) : x.val < PN := x.isLt
theorem kmul (x y : K) : (x * y).val = x.val * y.val % PN := rfl
theorem kext {x y : K} (h : x.val = y.val) : x = y := Fin.ext h
theorem kzero : (0 : K).val = 0 := rfl
theorem kone : (1 : K).val = 1 := rfl
theorem pos_of_ne {x : K} (h : x ≠ 0) : ¬ PN ∣ x.val := fun hd => by
  have h1 := kval x
  have : x.val = 0 := by
    rcases Nat.eq_zero_or_pos x.val with e | e
    · exact e
    · exact absurd (Nat.le_of_dvd e hd) (Nat.not_le.2 h1)
  exact h (kext this)
theorem kdiv {x y : K} (h : x * y = 0) : x = 0 ∨ y = 0 := by
  have hv : x.val * y.val % PN = 0 := congrArg Fin.val h
  rcases pPrm.mul (Nat.dvd_of_mod_eq_zero hv) with hd | hd
  · exact .inl (Classical.byContradiction fun hn => pos_of_ne hn hd)
  · exact .inr (Classical.byContradiction fun hn => pos_of_ne hn hd)
theorem kmul_ne {x y : K} (hx : x ≠ 0) (hy : y ≠ 0) : x * y ≠ 0 := fun h => (kdiv h).elim hx hy
/-- A power of a remainder, as a number. -/
def kpw (x : K) : Nat → K
  | 0 => 1
  | n + 1 => kpw x n * x
theorem kpw_val (x : K) : ∀ n, (kpw x n).val = x.val ^ n % PN
  | 0 => rfl
  | n + 1 => by rw [kpw, kmul, kpw_val x n, Nat.pow_succ, Nat.mod_mul_mod]
theorem kfermat {x : K} (h : x ≠ 0) : kpw x (PN - 1) = 1 := kext (by rw [kpw_val, fermat1 pPrm (pos_of_ne h)]; rfl)
def kiv (x : K) : K := kpw x 57896044618658097711785492504343953926634992332820282019728792003956564819947
theorem kiv_mul {x : K} (h : x ≠ 0) : x * kiv x = 1 := by
  have := kfermat h
  rw [show PN - 1 = 57896044618658097711785492504343953926634992332820282019728792003956564819947 + 1 from rfl, kpw] at this
  rw [Fin.mul_comm]; exact this
theorem kcan {a x y : K} (h : a ≠ 0) (e : a * x = a * y) : x = y := by
  have : a * (x - y) = 0 := by grobner
  rcases kdiv this with h1 | h1
  · exact absurd h1 h
  · grobner
theorem kpw_mul (x : K) (n : Nat) : ∀ m, kpw (kpw x n) m = kpw x (n * m)
  | 0 => rfl
  | m + 1 => by
    rw [kpw, kpw_mul x n m, Nat.mul_succ]
    have : ∀ k, kpw x (n * m) * kpw x k = kpw x (n * m + k) := fun k => by
      induction k with
      | zero => show kpw x (n * m) * 1 = kpw x (n * m); grobner
      | succ k ih => rw [kpw, ← Nat.add_assoc, kpw, ← ih]; grobner
    exact this n
/-- The curve's number: 121665/121666, no square. -/
def dE : K := 20800338683988658368647408995589388737092878452977063003340006470870624536394
theorem dE_eq : dE * 121666 = 121665 := by decide +kernel
theorem dE_pow : pm 256 dE.val ((PN - 1) / 2) PN = PN - 1 := by decide +kernel
theorem dE_nsq {s : K} : s * s ≠ dE := fun h => by
  have h0 : s ≠ 0 := fun e => by
    subst e
    have : (0 : K) * 0 = 0 := by grobner
    rw [this] at h
    exact absurd (congrArg Fin.val h) (by decide +kernel)
  have h1 := kfermat h0
  have h2 : kpw (kpw s 2) ((PN - 1) / 2) = 1 := by
    rw [kpw_mul]
    rw [show 2 * ((PN - 1) / 2) = PN - 1 by decide]; exact h1
  have h3 : kpw s 2 = dE := by rw [← h]; show 1 * s * s = s * s; grobner
  rw [h3] at h2
  have h4 := congrArg Fin.val h2
  rw [kpw_val, ← pm_eq _ _ 256 _ (by decide), dE_pow] at h4
  exact absurd h4 (by decide)
/-! ### The curve -/
def On (x y : K) : Prop := x * x + y * y = 1 + dE * x * x * y * y
theorem nz_of_sq {a b : K} (h : a * a = dE * (b * b)) : b = 0 := Classical.byContradiction fun hb => by
  have hi := kiv_mul hb
  refine dE_nsq (s := a * kiv b) ?_
  generalize kiv b = c at *
  generalize dE = d at *
  have : a * c * (a * c) = (a * a) * (c * c) := by grobner
  rw [this, h]; grobner
theorem two_ne : (2 : K) ≠ 0 := by decide
/-- No sum's denominator is nothing. -/
theorem den_ne {x1 y1 x2 y2 e : K} (he : e * e = 1) (h1 : On x1 y1) (h2 : On x2 y2) : dE * x1 * x2 * y1 * y2 ≠ e := fun h => by
  have h3 := h1
  have h4 := h2
  unfold On at h3 h4
  have he0 : e ≠ 0 := fun e0 => by
    subst e0
    have : (0 : K) = 1 := by grobner
    exact absurd this (by decide)
  have k1 : (x1 + e * y1) * (x1 + e * y1) = dE * ((x1 * y1 * (x2 + y2)) * (x1 * y1 * (x2 + y2))) := by
    generalize dE = d at *
    grobner
  have k2 : (x1 - e * y1) * (x1 - e * y1) = dE * ((x1 * y1 * (x2 - y2)) * (x1 * y1 * (x2 - y2))) := by
    generalize dE = d at *
    grobner
  have n1 := nz_of_sq k1
  have n2 := nz_of_sq k2
  have hx : x1 * y1 ≠ 0 := fun h0 => he0 (by rw [← h]; generalize dE = d at *; grobner)
  have m1 := (kdiv n1).resolve_left hx
  have m2 := (kdiv n2).resolve_left hx
  have : 2 * x2 = 0 := by grobner
  have hx2 := (kdiv this).resolve_left two_ne
  exact he0 (by rw [← h, hx2]; generalize dE = d at *; grobner)
theorem den_p {x1 y1 x2 y2 : K} (h1 : On x1 y1) (h2 : On x2 y2) : 1 + dE * x1 * x2 * y1 * y2 ≠ 0 := fun h =>
  den_ne (e := -1) (by grobner) h1 h2 (by generalize dE = d at *; grobner)
theorem den_m {x1 y1 x2 y2 : K} (h1 : On x1 y1) (h2 : On x2 y2) : 1 - dE * x1 * x2 * y1 * y2 ≠ 0 := fun h =>
  den_ne (e := 1) (by grobner) h1 h2 (by generalize dE = d at *; grobner)
theorem closure (d x1 y1 x2 y2 : K) (h1 : x1*x1 + y1*y1 = 1 + d*x1*x1*y1*y1) (h2 : x2*x2 + y2*y2 = 1 + d*x2*x2*y2*y2) :
    (x1*y2+y1*x2)*(x1*y2+y1*x2)*((1-d*x1*x2*y1*y2)*(1-d*x1*x2*y1*y2)) + (y1*y2-x1*x2)*(y1*y2-x1*x2)*((1+d*x1*x2*y1*y2)*(1+d*x1*x2*y1*y2))
      = (1-d*x1*x2*y1*y2)*(1-d*x1*x2*y1*y2)*((1+d*x1*x2*y1*y2)*(1+d*x1*x2*y1*y2)) + d*((x1*y2+y1*x2)*(x1*y2+y1*x2))*((y1*y2-x1*x2)*(y1*y2-x1*x2)) := by grobner
theorem assocx (d x1 y1 x2 y2 x3 y3 : K) (h1 : x1*x1 + y1*y1 = 1 + d*x1*x1*y1*y1) (h2 : x2*x2 + y2*y2 = 1 + d*x2*x2*y2*y2) (h3 : x3*x3 + y3*y3 = 1 + d*x3*x3*y3*y3) :
    ((x1*y2+y1*x2)*y3*(1-d*x1*x2*y1*y2) + (y1*y2-x1*x2)*x3*(1+d*x1*x2*y1*y2))*((1+d*x2*x3*y2*y3)*(1-d*x2*x3*y2*y3) + d*x1*(x2*y3+y2*x3)*y1*(y2*y3-x2*x3)) = (x1*(y2*y3-x2*x3)*(1+d*x2*x3*y2*y3) + y1*(x2*y3+y2*x3)*(1-d*x2*x3*y2*y3))*((1+d*x1*x2*y1*y2)*(1-d*x1*x2*y1*y2) + d*(x1*y2+y1*x2)*x3*(y1*y2-x1*x2)*y3) := by grobner
theorem assocy (d x1 y1 x2 y2 x3 y3 : K) (h1 : x1*x1 + y1*y1 = 1 + d*x1*x1*y1*y1) (h2 : x2*x2 + y2*y2 = 1 + d*x2*x2*y2*y2) (h3 : x3*x3 + y3*y3 = 1 + d*x3*x3*y3*y3) :
    ((y1*y2-x1*x2)*y3*(1+d*x1*x2*y1*y2) - (x1*y2+y1*x2)*x3*(1-d*x1*x2*y1*y2))*((1+d*x2*x3*y2*y3)*(1-d*x2*x3*y2*y3) - d*x1*(x2*y3+y2*x3)*y1*(y2*y3-x2*x3)) = (y1*(y2*y3-x2*x3)*(1+d*x2*x3*y2*y3) - x1*(x2*y3+y2*x3)*(1-d*x2*x3*y2*y3))*((1+d*x1*x2*y1*y2)*(1-d*x1*x2*y1*y2) - d*(x1*y2+y1*x2)*x3*(y1*y2-x1*x2)*y3) := by grobner

structure Pt where
  x : K
  y : K
  on : On x y
theorem Pt.ext' {a b : Pt} (hx : a.x = b.x) (hy : a.y = b.y) : a = b := by cases a; cases b; simp_all
theorem on_sum {x1 y1 x2 y2 : K} (h1 : On x1 y1) (h2 : On x2 y2) :
    On ((x1 * y2 + y1 * x2) * kiv (1 + dE * x1 * x2 * y1 * y2)) ((y1 * y2 - x1 * x2) * kiv (1 - dE * x1 * x2 * y1 * y2)) := by
  have hp := kiv_mul (den_p h1 h2)
  have hm := kiv_mul (den_m h1 h2)
  have hc := closure dE x1 y1 x2 y2 h1 h2
  unfold On
  generalize kiv (1 + dE * x1 * x2 * y1 * y2) = i at *
  generalize kiv (1 - dE * x1 * x2 * y1 * y2) = j at *
  generalize (1 + dE * x1 * x2 * y1 * y2) = p at *
  generalize (1 - dE * x1 * x2 * y1 * y2) = m at *
  generalize x1 * y2 + y1 * x2 = n at *
  generalize y1 * y2 - x1 * x2 = q at *
  generalize dE = d at *
  have e1 : n * i * (n * i) = n * n * (m * m) * (i * i * (j * j)) := by grobner
  have e2 : q * j * (q * j) = q * q * (p * p) * (i * i * (j * j)) := by grobner
  have e3 : (1 : K) = m * m * (p * p) * (i * i * (j * j)) := by grobner
  grobner
def Pt.add (a b : Pt) : Pt := ⟨_, _, on_sum a.on b.on⟩
def Pt.zero : Pt := ⟨0, 1, by unfold On; generalize dE = d; grobner⟩
def Pt.neg (a : Pt) : Pt := ⟨-a.x, a.y, by have h := a.on; unfold On at *; generalize dE = d at *; grobner⟩
theorem Pt.add_x (a b : Pt) : (1 + dE * a.x * b.x * a.y * b.y) * (a.add b).x = a.x * b.y + a.y * b.x := by
  have hp := kiv_mul (den_p a.on b.on)
  show _ * ((a.x * b.y + a.y * b.x) * kiv (1 + dE * a.x * b.x * a.y * b.y)) = _
  generalize kiv (1 + dE * a.x * b.x * a.y * b.y) = i at *
  generalize (1 + dE * a.x * b.x * a.y * b.y) = p at *
  grobner
theorem Pt.add_y (a b : Pt) : (1 - dE * a.x * b.x * a.y * b.y) * (a.add b).y = a.y * b.y - a.x * b.x := by
  have hp := kiv_mul (den_m a.on b.on)
  show _ * ((a.y * b.y - a.x * b.x) * kiv (1 - dE * a.x * b.x * a.y * b.y)) = _
  generalize kiv (1 - dE * a.x * b.x * a.y * b.y) = i at *
  generalize (1 - dE * a.x * b.x * a.y * b.y) = p at *
  grobner
theorem Pt.eq_of {a b c : Pt} (hx : (1 + dE * a.x * b.x * a.y * b.y) * c.x = a.x * b.y + a.y * b.x) (hy : (1 - dE * a.x * b.x * a.y * b.y) * c.y = a.y * b.y - a.x * b.x) : a.add b = c :=
  Pt.ext' (kcan (den_p a.on b.on) ((Pt.add_x a b).trans hx.symm)) (kcan (den_m a.on b.on) ((Pt.add_y a b).trans hy.symm))
theorem Pt.comm (a b : Pt) : a.add b = b.add a := by
  have h1 := Pt.add_x b a
  have h2 := Pt.add_y b a
  refine Pt.eq_of ?_ ?_
  · generalize (b.add a).x = z at *; generalize dE = d at *; grobner
  · generalize (b.add a).y = z at *; generalize dE = d at *; grobner
theorem Pt.add_zero (a : Pt) : a.add Pt.zero = a := by
  refine Pt.eq_of ?_ ?_ <;> simp only [Pt.zero] <;> generalize dE = d at * <;> grobner
theorem Pt.zero_add (a : Pt) : Pt.zero.add a = a := (Pt.comm _ _).trans (Pt.add_zero a)
theorem Pt.add_neg (a : Pt) : a.add a.neg = Pt.zero := by
  have h := a.on
  unfold On at h
  refine Pt.eq_of ?_ ?_ <;> simp only [Pt.zero, Pt.neg] <;> generalize dE = d at * <;> grobner
theorem cancel4 {p m p' m' : K} (h1 : p ≠ 0) (h2 : m ≠ 0) (h3 : p' ≠ 0) (h4 : m' ≠ 0) {u v : K} (h : p * m * p' * m' * u = p * m * p' * m' * v) : u = v :=
  kcan (kmul_ne (kmul_ne (kmul_ne h1 h2) h3) h4) h
theorem asx {p m p' m' X Y X' Y' x1 y1 x3 y3 d r : K} (h1 : p ≠ 0) (h2 : m ≠ 0) (h3 : p' ≠ 0) (h4 : m' ≠ 0)
    (t : (p * X * y3 * m + m * Y * x3 * p) * (p' * m' + d * x1 * (p' * X') * y1 * (m' * Y')) = (x1 * (m' * Y') * p' + y1 * (p' * X') * m') * (p * m + d * (p * X) * x3 * (m * Y) * y3))
    (u : (1 + d * x1 * X' * y1 * Y') * r = x1 * Y' + y1 * X') : (1 + d * x1 * X' * y1 * Y') * ((1 + d * X * x3 * Y * y3) * r) = (1 + d * x1 * X' * y1 * Y') * (X * y3 + Y * x3) := by
  have k := cancel4 h1 h2 h3 h4 (u := (X * y3 + Y * x3) * (1 + d * x1 * X' * y1 * Y')) (v := (x1 * Y' + y1 * X') * (1 + d * X * x3 * Y * y3)) (by clear u; grobner)
  clear t
  rw [← u] at k
  clear u
  generalize 1 + d * x1 * X' * y1 * Y' = a at *
  grobner
theorem asy {p m p' m' X Y X' Y' x1 y1 x3 y3 d r : K} (h1 : p ≠ 0) (h2 : m ≠ 0) (h3 : p' ≠ 0) (h4 : m' ≠ 0)
    (t : (m * Y * y3 * p - p * X * x3 * m) * (p' * m' - d * x1 * (p' * X') * y1 * (m' * Y')) = (y1 * (m' * Y') * p' - x1 * (p' * X') * m') * (p * m - d * (p * X) * x3 * (m * Y) * y3))
    (u : (1 - d * x1 * X' * y1 * Y') * r = y1 * Y' - x1 * X') : (1 - d * x1 * X' * y1 * Y') * ((1 - d * X * x3 * Y * y3) * r) = (1 - d * x1 * X' * y1 * Y') * (Y * y3 - X * x3) := by
  have k := cancel4 h1 h2 h3 h4 (u := (Y * y3 - X * x3) * (1 - d * x1 * X' * y1 * Y')) (v := (y1 * Y' - x1 * X') * (1 - d * X * x3 * Y * y3)) (by clear u; grobner)
  clear t
  rw [← u] at k
  clear u
  generalize 1 - d * x1 * X' * y1 * Y' = a at *
  grobner
theorem Pt.assoc (a b c : Pt) : (a.add b).add c = a.add (b.add c) := by
  have t1 := assocx dE a.x a.y b.x b.y c.x c.y a.on b.on c.on
  have t2 := assocy dE a.x a.y b.x b.y c.x c.y a.on b.on c.on
  rw [← Pt.add_x a b, ← Pt.add_y a b, ← Pt.add_x b c, ← Pt.add_y b c] at t1 t2
  exact Pt.eq_of (kcan (den_p a.on (b.add c).on) (asx (den_p a.on b.on) (den_m a.on b.on) (den_p b.on c.on) (den_m b.on c.on) t1 (Pt.add_x a (b.add c))))
    (kcan (den_m a.on (b.add c).on) (asy (den_p a.on b.on) (den_m a.on b.on) (den_p b.on c.on) (den_m b.on c.on) t2 (Pt.add_y a (b.add c))))
end Go.Vcg.Ag
