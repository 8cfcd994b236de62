/-
  Functions of the cipher, of the program and of the document.
-/
import Derived.Test.YtpplfckcblaoiaaVcgR1
set_option linter.unusedVariables false
set_option linter.unusedSimpArgs false
namespace Go.Proofs.Ytpplfckcblaoiaa
open Go.Vcg
/-! ### Products of digits -/
def inL (f : Nat → Int) (x : Int) (b : Nat → Int) (i : Nat) : Nat → Nat → Int
  | 0 => f
  | j + 1 => upd (inL f x b i j) (i + j) (inL f x b i j (i + j) + x * b j)
def inH (f : Nat → Int) (x : Int) (b : Nat → Int) (i : Nat) : Nat → Nat → Int
  | 0 => f
  | m + 1 => upd (inH f x b i m) m (inH f x b i m m + x * b (16 - i + m))
def lowO (a b : Nat → Int) : Nat → Nat → Int
  | 0 => fun _ => 0
  | i + 1 => inL (lowO a b i) (a i) b i (16 - i)
def highO (a b : Nat → Int) : Nat → Nat → Int
  | 0 => fun _ => 0
  | i + 1 => inH (highO a b i) (a i) b i i
theorem inL_eq (f : Nat → Int) (x : Int) (b : Nat → Int) (i : Nat) : ∀ j k, inL f x b i j k = f k + if i ≤ k ∧ k < i + j then x * b (k - i) else 0
  | 0, k => by simp only [inL]; rw [if_neg (by omega)]; omega
  | j + 1, k => by
    simp only [inL, upd]
    by_cases h : k = i + j
    · subst h
      rw [if_pos rfl, inL_eq f x b i j, if_neg (by omega), if_pos (by omega), show i + j - i = j from by omega]; omega
    · rw [if_neg h, inL_eq f x b i j]
      by_cases h2 : i ≤ k ∧ k < i + j
      · rw [if_pos h2, if_pos (by omega)]
      · rw [if_neg h2, if_neg (by omega)]
theorem inH_eq (f : Nat → Int) (x : Int) (b : Nat → Int) (i : Nat) : ∀ m k, inH f x b i m k = f k + if k < m then x * b (16 - i + k) else 0
  | 0, k => by simp only [inH]; rw [if_neg (by omega)]; omega
  | m + 1, k => by
    simp only [inH, upd]
    by_cases h : k = m
    · subst h
      rw [if_pos rfl, inH_eq f x b i k, if_neg (by omega), if_pos (by omega)]; omega
    · rw [if_neg h, inH_eq f x b i m]
      by_cases h2 : k < m
      · rw [if_pos h2, if_pos (by omega)]
      · rw [if_neg h2, if_neg (by omega)]
theorem dd_bd {x y : Int} (hx : 0 ≤ x ∧ x < 65536) (hy : 0 ≤ y ∧ y < 65536) : 0 ≤ x * y ∧ x * y ≤ 4294836225 :=
  mul_bd hx.1 (show x ≤ 65535 by omega) hy.1 (show y ≤ 65535 by omega)
theorem inL_bd {f : Nat → Int} {x : Int} {b : Nat → Int} {B : Int} (hx : 0 ≤ x ∧ x < 65536) (hb : Dig b) (hf : ∀ k, 0 ≤ f k ∧ f k ≤ B) (i j k : Nat) : 0 ≤ inL f x b i j k ∧ inL f x b i j k ≤ B + 4294836225 := by
  rw [inL_eq]
  have := hf k
  have := dd_bd hx (hb (k - i))
  split <;> omega
theorem inH_bd {f : Nat → Int} {x : Int} {b : Nat → Int} {B : Int} (hx : 0 ≤ x ∧ x < 65536) (hb : Dig b) (hf : ∀ k, 0 ≤ f k ∧ f k ≤ B) (i j k : Nat) : 0 ≤ inH f x b i j k ∧ inH f x b i j k ≤ B + 4294836225 := by
  rw [inH_eq]
  have := hf k
  have := dd_bd hx (hb (16 - i + k))
  split <;> omega
theorem lowO_bd (a b : Nat → Int) (ha : Dig a) (hb : Dig b) : ∀ i k, 0 ≤ lowO a b i k ∧ lowO a b i k ≤ i * 4294836225
  | 0, k => by simp [lowO]
  | i + 1, k => by
    have := inL_bd (ha i) hb (lowO_bd a b ha hb i) i (16 - i) k
    simp only [lowO]; omega
theorem highO_bd (a b : Nat → Int) (ha : Dig a) (hb : Dig b) : ∀ i k, 0 ≤ highO a b i k ∧ highO a b i k ≤ i * 4294836225
  | 0, k => by simp [highO]
  | i + 1, k => by
    have := inH_bd (ha i) hb (highO_bd a b ha hb i) i i k
    simp only [highO]; omega
def timesW (a b : Nat → Int) (k : Nat) : Int := lowO a b 16 k + 38 * highO a b 16 k
theorem timesW_bd (a b : Nat → Int) (ha : Dig a) (hb : Dig b) : Bd (timesW a b) := by
  intro i
  have := lowO_bd a b ha hb 16 i
  have := highO_bd a b ha hb 16 i
  simp only [timesW]; omega
def timesN (a b : Nat → Int) : Nat → Int := tidyN (timesW a b)
theorem val_s (N : Nat → Int) (n : Nat) : val N (n + 1) = val N n + N n * 65536 ^ n := rfl
theorem inL_val (f : Nat → Int) (x : Int) (b : Nat → Int) (i : Nat) (hi : i < 16) : ∀ j, i + j ≤ 16 → val (inL f x b i j) 16 = val f 16 + x * 65536 ^ i * val b j
  | 0, _ => by simp only [inL, val]; omega
  | j + 1, h => by
    rw [inL, val_upd _ _ _ 16 (by omega), inL_val f x b i hi j (by omega), val_s b j, Int.pow_add]; grind
theorem inH_val (f : Nat → Int) (x : Int) (b : Nat → Int) (i : Nat) (hi : i < 16) : ∀ m, m ≤ i → 65536 ^ 16 * val (inH f x b i m) 16 + x * 65536 ^ i * val b (16 - i) = 65536 ^ 16 * val f 16 + x * 65536 ^ i * val b (16 - i + m)
  | 0, _ => by simp only [inH, Nat.add_zero]
  | m + 1, h => by
    have ih := inH_val f x b i hi m (by omega)
    have hp : (65536 : Int) ^ 16 = 65536 ^ i * 65536 ^ (16 - i) := by rw [← Int.pow_add, show i + (16 - i) = 16 from by omega]
    rw [inH, val_upd _ _ _ 16 (by omega), show 16 - i + (m + 1) = (16 - i + m) + 1 from by omega, val_s b (16 - i + m), Int.pow_add]
    generalize val (inH f x b i m) 16 = v at *
    rw [hp] at ih ⊢
    grind
theorem prod_val (a b : Nat → Int) : ∀ i, i ≤ 16 → val (lowO a b i) 16 + 65536 ^ 16 * val (highO a b i) 16 = val a i * val b 16
  | 0, _ => by
    have h : ∀ n, val (fun _ => 0) n = 0 := by
      intro n; induction n with
      | zero => rfl
      | succ n ih => rw [val, ih]; omega
    simp only [lowO, highO, h, val]; omega
  | i + 1, h => by
    have ih := prod_val a b i (by omega)
    have h1 := inL_val (lowO a b i) (a i) b i (by omega) (16 - i) (by omega)
    have h2 := inH_val (highO a b i) (a i) b i (by omega) i (Nat.le_refl i)
    rw [show 16 - i + i = 16 from by omega] at h2
    rw [lowO, highO, val_s a i, h1]
    grind
theorem val_add (a b : Nat → Int) : ∀ n, val (fun i => a i + b i) n = val a n + val b n
  | 0 => by simp [val]
  | n + 1 => by rw [val, val, val, val_add a b n]; grind
theorem val_smul (c : Int) (a : Nat → Int) : ∀ n, val (fun i => c * a i) n = c * val a n
  | 0 => by simp [val]
  | n + 1 => by rw [val, val, val_smul c a n]; grind
theorem val_sub (a b : Nat → Int) : ∀ n, val (fun i => a i - b i) n = val a n - val b n
  | 0 => by simp [val]
  | n + 1 => by rw [val, val, val, val_sub a b n]; grind
theorem timesN_spec (a b : Nat → Int) (ha : Dig a) (hb : Dig b) : Dig (timesN a b) ∧ val (timesN a b) 16 % PP = val a 16 * val b 16 % PP := by
  obtain ⟨h1, h2⟩ := tidyN_spec _ (timesW_bd a b ha hb)
  refine ⟨h1, ?_⟩
  rw [timesN, h2]
  have hp := prod_val a b 16 (Nat.le_refl 16)
  have e : val (timesW a b) 16 = val (lowO a b 16) 16 + 38 * val (highO a b 16) 16 := by
    rw [show timesW a b = fun k => lowO a b 16 k + (fun k => 38 * highO a b 16 k) k from rfl, val_add, val_smul]
  rw [e, ← hp]
  refine cg (q := -2 * val (highO a b 16) 16) ?_
  rw [show (65536 : Int) ^ 16 = 115792089237316195423570985008687907853269984665640564039457584007913129639936 from by decide]
  simp only [PP]; omega
theorem plusN_spec (a b : Nat → Int) (ha : Dig a) (hb : Dig b) : Dig (plusN a b) ∧ val (plusN a b) 16 % PP = (val a 16 + val b 16) % PP := by
  obtain ⟨h1, h2⟩ := tidyN_spec _ (plus_bd a b ha hb)
  exact ⟨h1, by rw [plusN, h2, val_add]⟩
theorem minusN_spec (a b : Nat → Int) (ha : Dig a) (hb : Dig b) : Dig (minusN a b) ∧ val (minusN a b) 16 % PP = (val a 16 - val b 16) % PP := by
  obtain ⟨h1, h2⟩ := tidyN_spec _ (minus_bd a b ha hb)
  refine ⟨h1, ?_⟩
  rw [minusN, h2, show (fun i => a i + (offN i - b i)) = fun i => a i + (fun i => offN i - b i) i from rfl, val_add, val_sub]
  refine cg (q := 4) ?_
  have : val offN 16 = 4 * PP := by simp [val, offN, PP]
  omega
end Go.Proofs.Ytpplfckcblaoiaa
