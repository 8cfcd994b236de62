/-
  Functions of the program and numbers that they reckon.
-/
import Derived.Test.YtemllgnejllcpaaVcgU6
set_option linter.unusedVariables false
set_option linter.unusedSimpArgs false
namespace Go.Proofs.Ytemllgnejllcpaa
open Go.Vcg
/-! ### Keys and scalars -/
def clampK (K : Nat → Int) (i : Nat) : Int := if i = 0 then K 0 - K 0 % 8 else if i = 31 then K 31 % 64 + 64 else K i
theorem clamp_low : ((List.range 256).all fun n => bitI .andNot .u8 (n : Int) 7 == (n : Int) - n % 8) = true := by kernel_rfl
theorem clamp_high : ((List.range 256).all fun n => bitI .or .u8 (bitI .andNot .u8 (n : Int) 128) 64 == (n : Int) % 64 + 64) = true := by kernel_rfl
theorem clampK_by (K : Nat → Int) (hK : By K) : By (clampK K) := by
  intro i
  have h0 := hK 0
  have h1 := hK 31
  have h2 := hK i
  simp only [clampK]
  split
  · omega
  · split <;> omega
theorem rep_all (n : Nat) (k : IntKind) (c : Int) : (List.replicate n (Value.int k c)).all Value.oneCell' = true := by
  rw [List.all_eq_true]; intro x hx; rw [List.eq_of_mem_replicate hx]; rfl
theorem row_zero (n : Nat) (k : IntKind) (c : Int) : List.map Sum.inl (List.replicate n (Value.int k c)) = rowI k n (fun _ => c) := by
  rw [rowI, List.map_replicate]
  apply List.ext_getElem?
  intro i
  simp [List.getElem?_replicate]
  split
  · rename_i h; rw [List.getElem?_range h]; rfl
  · rename_i h; rw [List.getElem?_eq_none (by simp; omega)]; rfl
theorem rowI_splice (k : IntKind) (n : Nat) (f g : Nat → Int) : splice (rowI k n f) 0 (rowI k n g) = rowI k n g := by
  rw [splice]; simp [rowI_length]
theorem rowI_take (k : IntKind) (n : Nat) (f : Nat → Int) : List.take n (rowI k n f) = rowI k n f := List.take_of_length_le (by rw [rowI_length]; exact Nat.le_refl n)
theorem ag_congr {k : IntKind} {n : Nat} {f g : Nat → Int} (h : ∀ i, i < n → f i = g i) : Ag (rowI k n f) = Ag (rowI k n g) := by rw [rowI_congr h]
theorem clamped_fun (K : Nat → Int) (hK : By K) : Fun Try.prog 7 [Ag (rowI .u8 32 K)] (Ag (rowI .u8 32 (clampK K))) := by
  refine fun_of_vc Try.func7 rfl (by kernel_rfl) (by simp [Try.ntmps7]) rfl rfl ?_
  simp only [Try.results7, rowI_get .u8 32 _ 0 (by omega), rowI_get .u8 32 _ 31 (by omega), rowI_splice1 .u8 32 _ 0 (by omega), rowI_splice1 .u8 32 _ 31 (by omega), sn_upto, sn_from, slN_def, run_cap, rules, rules2, loopRules, Try.facts, base0, Int.toNat_zero, Nat.reduceAdd, Nat.reduceMul, Nat.reduceSub, Nat.reduceLT, Nat.reduceLeDiff, Nat.reduceEqDiff, Int.reduceLE, Int.reduceLT, Int.reduceToNat, Int.reduceNe, Int.reduceEq, not_false_eq_true, Nat.reduceBEq, Nat.reduceDiv, Int.natCast_zero, Int.natCast_one, Int.reduceAdd, Int.reduceSub, reduceIte, ↓reduceIte, Value.oneCell', rowI_length, rowI_take, rowI_splice, rep_all, row_zero, le_nat, Int.toNat_natCast, Nat.zero_add, sok_row, reduceCtorEq]
  have hlow : bitI .andNot .u8 (K 0) 7 = K 0 - K 0 % 8 := by
    obtain ⟨n, hn⟩ := Int.eq_ofNat_of_zero_le (hK 0).1
    have := List.all_eq_true.mp clamp_low n (List.mem_range.mpr (by have := (hK 0).2; omega))
    rw [hn]; exact eq_of_beq this
  have hhigh : bitI .or .u8 (bitI .andNot .u8 (K 31) 128) 64 = K 31 % 64 + 64 := by
    obtain ⟨n, hn⟩ := Int.eq_ofNat_of_zero_le (hK 31).1
    have := List.all_eq_true.mp clamp_high n (List.mem_range.mpr (by have := (hK 31).2; omega))
    rw [hn]; exact eq_of_beq this
  rw [hlow, hhigh]
  refine ag_congr fun i _ => ?_
  simp only [clampK, upd]
  by_cases h0 : i = 0
  · subst h0; simp
  · by_cases h1 : i = 31
    · subst h1; simp
    · simp [h0, h1]
/-! ### Bytes into limbs -/
def wrd (K : Nat → Int) : Nat → Nat → Int
  | 0 => fun _ => 0
  | n + 1 => upd (wrd K n) (n / 8) (wrd K n (n / 8) + K n * 2 ^ (n % 8 * 8))
theorem wrd_bd (K : Nat → Int) (hK : By K) : ∀ n, (∀ j, 0 ≤ wrd K n j ∧ (n / 8 < j → wrd K n j = 0) ∧ wrd K n j < 18446744073709551616) ∧ wrd K n (n / 8) < 2 ^ (n % 8 * 8)
  | 0 => by simp [wrd]
  | n + 1 => by
    obtain ⟨h1, h2⟩ := wrd_bd K hK n
    have hk := hK n
    have hb : K n * 2 ^ (n % 8 * 8) ≤ 255 * 2 ^ (n % 8 * 8) := Int.mul_le_mul_of_nonneg_right (by omega) (Int.le_of_lt (Int.pow_pos (by decide)))
    have hb0 : 0 ≤ K n * 2 ^ (n % 8 * 8) := Int.mul_nonneg hk.1 (Int.le_of_lt (Int.pow_pos (by decide)))
    have h3 := h1 (n / 8)
    have hm : n % 8 < 8 := Nat.mod_lt _ (by decide)
    have hlt : wrd K n (n / 8) + K n * 2 ^ (n % 8 * 8) < 256 * 2 ^ (n % 8 * 8) := by omega
    have hle : (256 : Int) * 2 ^ (n % 8 * 8) ≤ 18446744073709551616 := by
      generalize n % 8 = m at *
      match m, hm with
      | 0, _ | 1, _ | 2, _ | 3, _ | 4, _ | 5, _ | 6, _ | 7, _ => decide
    refine ⟨fun j => ?_, ?_⟩
    · have hj := h1 j
      simp only [wrd, upd]
      split
      · refine ⟨by omega, fun hc => ?_, by omega⟩
        omega
      · exact ⟨hj.1, fun hc => hj.2.1 (by omega), hj.2.2⟩
    · simp only [wrd, upd]
      by_cases h7 : n % 8 = 7
      · rw [if_neg (by omega)]
        have := (h1 ((n + 1) / 8)).2.1 (by omega)
        rw [this, show (n + 1) % 8 = 0 from by omega]; decide
      · rw [show (n + 1) / 8 = n / 8 from by omega, if_pos rfl, show (n + 1) % 8 * 8 = n % 8 * 8 + 8 from by omega, Int.pow_add]
        omega
end Go.Proofs.Ytemllgnejllcpaa
