/-
  Functions of the cipher, of the program and of the document.
-/
import Derived.Test.YtpplfckcblaoiaaVcgX8
set_option linter.unusedVariables false
set_option linter.unusedSimpArgs false
namespace Go.Proofs.Ytpplfckcblaoiaa
open Go.Vcg
/-! ### The program's block cipher is the document's -/
theorem box_eq {i : Nat} (h : i < 256) : cboxB i = boxB i := by
  have h1 := of_decide_eq_true (List.all_eq_true.1 box_tab i (List.mem_range.2 h))
  have h2 := of_decide_eq_true (List.all_eq_true.1 cbx_tab i (List.mem_range.2 h))
  rw [h1, h2]
theorem boxB_byt : Byt boxB := fun i => by simp only [boxB]; exact wrap_u8_bd _
theorem lok_eq {x : Int} (h : 0 ≤ x ∧ x < 256) : lokB cip0 x = boxB x.toNat := by
  simp only [lokB, cip0]
  rw [if_pos (by omega), Nat.sub_zero, box_eq (by omega)]
def dblN (x : Nat) : Nat := (x <<< 1) % 256 ^^^ (if x.testBit 7 then 27 else 0)
theorem dbl_tab : ((List.range 256).all fun x => decide (dblB (x : Int) = ((dblN x : Nat) : Int)) && (decide (mulB (x : Int) 2 = ((dblN x : Nat) : Int)) && decide (mulB (x : Int) 3 = ((dblN x ^^^ x : Nat) : Int)))) = true := by kernel_rfl
theorem dblN_lt (x : Nat) : dblN x < 256 := by
  unfold dblN
  exact Nat.xor_lt_two_pow (n := 8) (by omega) (by split <;> decide)
theorem dblN_xor (x y : Nat) : dblN (x ^^^ y) = dblN x ^^^ dblN y := by
  have h1 : ((x ^^^ y) <<< 1) % 256 = (x <<< 1) % 256 ^^^ (y <<< 1) % 256 := by
    rw [Nat.shiftLeft_xor_distrib]
    exact Nat.xor_mod_two_pow (n := 8)
  unfold dblN
  rw [h1, Nat.testBit_xor]
  apply Nat.eq_of_testBit_eq
  intro j
  cases x.testBit 7 <;> cases y.testBit 7 <;> simp only [Nat.testBit_xor, Bool.xor_false, Bool.false_xor, Bool.xor_true, Bool.not_true, Bool.not_false, if_true, if_false, Nat.zero_testBit, Bool.false_eq_true] <;>
    cases (x <<< 1 % 256).testBit j <;> cases (y <<< 1 % 256).testBit j <;> cases (27 : Nat).testBit j <;> rfl
theorem of_byt {x : Int} (h : 0 ≤ x ∧ x < 256) : ∃ n : Nat, x = (n : Int) ∧ n < 256 := ⟨x.toNat, by omega, by omega⟩
theorem xorN (x y : Nat) (hx : x < 256) (hy : y < 256) : bitI .xor .u8 (x : Int) (y : Int) = ((x ^^^ y : Nat) : Int) := (bitI_u8 x y hx hy).2.2
theorem xlt {x y : Nat} (hx : x < 256) (hy : y < 256) : x ^^^ y < 256 := Nat.xor_lt_two_pow (n := 8) hx hy
theorem mix_core (a b c d : Nat) (ha : a < 256) (hb : b < 256) (hc : c < 256) (hd : d < 256) (all : Nat) (hall : all = a ^^^ b ^^^ c ^^^ d) :
    bitI .xor .u8 (bitI .xor .u8 (a : Int) (dblB (bitI .xor .u8 (a : Int) (b : Int)))) (all : Int) =
      bitI .xor .u8 (bitI .xor .u8 (IntKind.u8.wrap (mulB (a : Int) 2)) (IntKind.u8.wrap (mulB (b : Int) 3))) (bitI .xor .u8 (c : Int) (d : Int)) := by
  have t := fun (x : Nat) (hx : x < 256) => List.all_eq_true.1 dbl_tab x (List.mem_range.2 hx)
  have t1 : ∀ x : Nat, x < 256 → dblB (x : Int) = ((dblN x : Nat) : Int) := fun x hx => by have := t x hx; simp only [Bool.and_eq_true, decide_eq_true_eq] at this; exact this.1
  have t2 : ∀ x : Nat, x < 256 → mulB (x : Int) 2 = ((dblN x : Nat) : Int) := fun x hx => by have := t x hx; simp only [Bool.and_eq_true, decide_eq_true_eq] at this; exact this.2.1
  have t3 : ∀ x : Nat, x < 256 → mulB (x : Int) 3 = ((dblN x ^^^ x : Nat) : Int) := fun x hx => by have := t x hx; simp only [Bool.and_eq_true, decide_eq_true_eq] at this; exact this.2.2
  have hal : all < 256 := by rw [hall]; exact xlt (xlt (xlt ha hb) hc) hd
  have l1 := dblN_lt a
  have l3 := xlt (dblN_lt b) hb
  rw [xorN a b ha hb, t1 _ (xlt ha hb), xorN _ _ ha (dblN_lt _), xorN _ _ (xlt ha (dblN_lt _)) hal, t2 a ha, t3 b hb, wrap_u8_in _ (by omega) (by omega), wrap_u8_in _ (by omega) (by omega),
    xorN _ _ l1 l3, xorN c d hc hd, xorN _ _ (xlt l1 l3) (xlt hc hd), dblN_xor, hall]
  congr 1
  apply Nat.eq_of_testBit_eq
  intro j
  simp only [Nat.testBit_xor]
  cases a.testBit j <;> cases b.testBit j <;> cases c.testBit j <;> cases d.testBit j <;> cases (dblN a).testBit j <;> cases (dblN b).testBit j <;> rfl
theorem mix_eq (M : Nat → Int) (hM : Byt M) (i : Nat) : mixB M i = mxdB M i := by
  have q := fun m => of_byt (hM m)
  simp only [mixB, mxdB]
  have hi : i = i - i % 4 + i % 4 := by omega
  generalize i - i % 4 = c at *
  obtain ⟨x0, e0, h0⟩ := q c
  obtain ⟨x1, e1, h1⟩ := q (c + 1)
  obtain ⟨x2, e2, h2⟩ := q (c + 2)
  obtain ⟨x3, e3, h3⟩ := q (c + 3)
  have cs : i % 4 = 0 ∨ i % 4 = 1 ∨ i % 4 = 2 ∨ i % 4 = 3 := by omega
  have e4 : bitI .xor .u8 (bitI .xor .u8 (bitI .xor .u8 (M c) (M (c + 1))) (M (c + 2))) (M (c + 3)) = ((x0 ^^^ x1 ^^^ x2 ^^^ x3 : Nat) : Int) := by
    rw [e0, e1, e2, e3, xorN _ _ h0 h1, xorN _ _ (xlt h0 h1) h2, xorN _ _ (xlt (xlt h0 h1) h2) h3]
  rw [e4]
  have ac : ∀ a b c d : Nat, a ^^^ b ^^^ c ^^^ d = b ^^^ c ^^^ d ^^^ a := fun a b c d => by
    apply Nat.eq_of_testBit_eq
    intro j
    simp only [Nat.testBit_xor]
    cases a.testBit j <;> cases b.testBit j <;> cases c.testBit j <;> cases d.testBit j <;> rfl
  rcases cs with r | r | r | r
  · rw [show (i + 1) % 4 = 1 by omega, show (i + 2) % 4 = 2 by omega, show (i + 3) % 4 = 3 by omega, show M i = M c by rw [hi, r]; rfl]
    simp only [e0, e1, e2, e3]
    exact mix_core x0 x1 x2 x3 h0 h1 h2 h3 _ rfl
  · rw [show (i + 1) % 4 = 2 by omega, show (i + 2) % 4 = 3 by omega, show (i + 3) % 4 = 0 by omega, show M i = M (c + 1) by rw [hi, r]]
    simp only [Nat.add_zero, e0, e1, e2, e3]
    exact mix_core x1 x2 x3 x0 h1 h2 h3 h0 _ (ac _ _ _ _)
  · rw [show (i + 1) % 4 = 3 by omega, show (i + 2) % 4 = 0 by omega, show (i + 3) % 4 = 1 by omega, show M i = M (c + 2) by rw [hi, r]]
    simp only [Nat.add_zero, e0, e1, e2, e3]
    exact mix_core x2 x3 x0 x1 h2 h3 h0 h1 _ ((ac _ _ _ _).trans (ac _ _ _ _))
  · rw [show (i + 1) % 4 = 0 by omega, show (i + 2) % 4 = 1 by omega, show (i + 3) % 4 = 2 by omega, show M i = M (c + 3) by rw [hi, r]]
    simp only [Nat.add_zero, e0, e1, e2, e3]
    exact mix_core x3 x0 x1 x2 h3 h0 h1 h2 _ (((ac _ _ _ _).trans (ac _ _ _ _)).trans (ac _ _ _ _))
/-! ### Both schedules are one -/
theorem schW_st (C K : Nat → Int) (k m : Nat) (h : m < 4 * (8 + k)) : ∀ d, schW C K (k + d) m = schW C K k m
  | 0 => rfl
  | d + 1 => by
    have ih := schW_st C K k m h d
    show (if 4 * (8 + (k + d)) ≤ m ∧ m < 4 * (8 + (k + d)) + 4 then _ else schW C K (k + d) m) = _
    rw [if_neg (by omega), ih]
theorem refW_st (S K : Nat → Int) (n m : Nat) (h : m < n) : ∀ d, refW S K (n + d) m = refW S K n m
  | 0 => rfl
  | d + 1 => by
    have ih := refW_st S K n m h d
    show upd (refW S K (n + d)) (n + d) _ m = _
    rw [upd_ne _ _ _ _ (by omega), ih]
theorem dbl_mul {x : Int} (h : 0 ≤ x ∧ x < 256) : dblB x = mulB x 2 := by
  obtain ⟨n, rfl, hn⟩ := of_byt h
  have := List.all_eq_true.1 dbl_tab n (List.mem_range.2 hn)
  simp only [Bool.and_eq_true, decide_eq_true_eq] at this
  rw [this.1, this.2.1]
theorem pw_rp : ∀ k, pwB k = rpB (4 * (8 + k))
  | 0 => by kernel_rfl
  | k + 1 => by
    have ih := pw_rp k
    have e : rpB (4 * (8 + (k + 1))) = if (4 * (8 + k)) % 32 = 0 then mulB (rpB (4 * (8 + k))) 2 else rpB (4 * (8 + k)) := by
      rw [show 4 * (8 + (k + 1)) = 4 * (8 + k) + 1 + 1 + 1 + 1 by omega]
      generalize hq : 4 * (8 + k) = q
      have h4 : q % 4 = 0 := by omega
      have h32 : 32 ≤ q := by omega
      show (if 32 ≤ q + 1 + 1 + 1 ∧ (q + 1 + 1 + 1) % 32 = 0 then _ else (if 32 ≤ q + 1 + 1 ∧ (q + 1 + 1) % 32 = 0 then _ else (if 32 ≤ q + 1 ∧ (q + 1) % 32 = 0 then _ else (if 32 ≤ q ∧ q % 32 = 0 then mulB (rpB q) 2 else rpB q)))) = _
      rw [if_neg (by omega), if_neg (by omega), if_neg (by omega)]
      by_cases hz : q % 32 = 0
      · rw [if_pos ⟨h32, hz⟩, if_pos hz]
      · rw [if_neg (by omega), if_neg hz]
    have hb := rpB_bd (4 * (8 + k))
    rw [e, ← ih]
    rw [← ih] at hb
    simp only [pwB]
    by_cases h : (8 + k) % 8 = 0
    · rw [if_pos h, if_pos (by omega), dbl_mul hb]
    · rw [if_neg h, if_neg (by omega)]
theorem sch_eq (K : Nat → Int) (hK : Byt K) : ∀ m, m < 240 → schW cip0 K 52 m = refW boxB K 240 m := fun m => by
  induction m using Nat.strongRecOn with
  | _ m ih =>
    intro hm
    have hF : refW boxB K 240 m = if m < 32 then K m else rvB boxB (refW boxB K m) (rpB m) m := by
      have := refW_st boxB K (m + 1) m (by omega) (239 - m)
      rw [show m + 1 + (239 - m) = 240 by omega] at this
      rw [this]; exact upd_same _ _ _
    have hFs : ∀ j, j < m → refW boxB K m j = refW boxB K 240 j := fun j hj => by
      have := refW_st boxB K m j hj (240 - m)
      rw [show m + (240 - m) = 240 by omega] at this
      exact this.symm
    have hb := refW_byt (S := boxB) hK 240
    by_cases h32 : m < 32
    · rw [hF, if_pos h32]
      have := schW_st cip0 K 0 m (by omega) 52
      rw [Nat.zero_add] at this
      rw [this]; exact if_pos h32
    · obtain ⟨k, j, hk, hj⟩ : ∃ k j, m = 4 * (8 + k) + j ∧ j < 4 := ⟨m / 4 - 8, m % 4, by omega, by omega⟩
      have hk52 : k < 52 := by omega
      have hGs : ∀ q, q < 4 * (8 + k) → schW cip0 K k q = refW boxB K 240 q := fun q hq => by
        have := schW_st cip0 K k q hq (52 - k)
        rw [show k + (52 - k) = 52 by omega] at this
        rw [← this]; exact ih q (by omega) (by omega)
      have hG : schW cip0 K 52 m = bitI .xor .u8 (schW cip0 K k (m - 32)) (tmpB cip0 (schW cip0 K k) (pwB k) (8 + k) j) := by
        have := schW_st cip0 K (k + 1) m (by omega) (51 - k)
        rw [show k + 1 + (51 - k) = 52 by omega] at this
        rw [this]
        show (if 4 * (8 + k) ≤ m ∧ m < 4 * (8 + k) + 4 then bitI .xor .u8 (schW cip0 K k (m - 32)) (tmpB cip0 (schW cip0 K k) (pwB k) (8 + k) (m - 4 * (8 + k))) else _) = _
        rw [if_pos (by omega), show m - 4 * (8 + k) = j by omega]
      have hfr : frmB m < m := by unfold frmB; split <;> (try split) <;> omega
      rw [hG, hF, if_neg h32, hGs _ (by omega)]
      simp only [rvB]
      rw [hFs (m - 32) (by omega), hFs (frmB m) hfr]
      congr 1
      have hp : IntKind.u8.wrap (rpB m) = rpB m := wrap_u8_in _ (rpB_bd m).1 (rpB_bd m).2
      have hidx : 4 * (8 + k - 1) = 4 * (8 + k) - 4 := by omega
      simp only [tmpB]
      by_cases h0 : (8 + k) % 8 = 0
      · rw [if_pos h0, if_pos (Or.inl (by omega) : m % 32 < 4 ∨ 16 ≤ m % 32 ∧ m % 32 < 20)]
        by_cases hj0 : j = 0
        · rw [if_pos hj0, if_pos (show m % 32 = 0 by omega), hGs _ (by omega), lok_eq (hb _), hp, pw_rp]
          have e1 : frmB m = 4 * (8 + k - 1) + 1 := by unfold frmB; rw [if_pos (by omega), if_neg (by omega)]; omega
          rw [e1, show 4 * (8 + k) = m by omega]
        · rw [if_neg hj0, if_neg (show ¬ m % 32 = 0 by omega), hGs _ (by omega), lok_eq (hb _)]
          have e1 : frmB m = 4 * (8 + k - 1) + (j + 1) % 4 := by
            unfold frmB; rw [if_pos (by omega)]
            by_cases h3 : m % 4 = 3
            · rw [if_pos h3]; omega
            · rw [if_neg h3]; omega
          rw [e1]
      · rw [if_neg h0]
        have e1 : frmB m = 4 * (8 + k - 1) + j := by unfold frmB; rw [if_neg (by omega)]; omega
        rw [if_neg (show ¬ m % 32 = 0 by omega)]
        by_cases h4 : (8 + k) % 8 = 4
        · rw [if_pos h4, if_pos (Or.inr (by omega) : m % 32 < 4 ∨ 16 ≤ m % 32 ∧ m % 32 < 20), hGs _ (by omega), lok_eq (hb _), e1]
        · rw [if_neg h4, if_neg (show ¬ (m % 32 < 4 ∨ 16 ≤ m % 32 ∧ m % 32 < 20) by omega), hGs _ (by omega), e1]
/-! ### A block -/
theorem key_eq (K : Nat → Int) (hK : Byt K) (r i : Nat) (hr : r < 15) (hi : i < 16) : keyB (cipC K) r i = refW boxB K 240 (16 * r + i) := by
  simp only [keyB, cipC, keyedB]
  rw [if_pos (by omega), sch_eq K hK _ (by omega), show 256 + r * 16 + i - 256 = 16 * r + i by omega]
theorem shf_eq (K S : Nat → Int) (hS : Byt S) (i : Nat) : shfB (cipC K) S i = mvdB boxB S i := by
  simp only [shfB, mvdB]
  rw [show i % 4 * 4 = 4 * (i % 4) by omega]
  have := hS ((i + 4 * (i % 4)) % 16)
  generalize S ((i + 4 * (i % 4)) % 16) = x at *
  have e : cipC K x.toNat = cip0 x.toNat := by simp only [cipC, keyedB]; rw [if_neg (by omega)]
  rw [e]; exact lok_eq this
theorem xorB_congr {a b c d : Nat → Int} {i : Nat} (h1 : a i = c i) (h2 : b i = d i) : xorB a b i = xorB c d i := by simp only [xorB, h1, h2]
theorem shf_congr {C S T : Nat → Int} (h : ∀ i, i < 16 → S i = T i) (i : Nat) : shfB C S i = shfB C T i := by
  simp only [shfB, h _ (Nat.mod_lt _ (by decide))]
theorem rnd_eq (K B : Nat → Int) (hK : Byt K) : ∀ k, k < 14 → ∀ i, i < 16 → rndB (cipC K) B k i = refR B (refW boxB K 240) boxB k i
  | 0, _, i, hi => by
    show xorB B (keyB (cipC K) 0) i = xorB B (refW boxB K 240) i
    exact xorB_congr rfl (by rw [key_eq K hK 0 i (by decide) hi, Nat.mul_zero, Nat.zero_add])
  | k + 1, hk, i, hi => by
    have ih := rnd_eq K B hK k (by omega)
    have hb := refR_byt B (refW boxB K 240) boxB k
    have hM : Byt (mvdB boxB (refR B (refW boxB K 240) boxB k)) := fun i => boxB_byt _
    have e1 : shfB (cipC K) (rndB (cipC K) B k) = mvdB boxB (refR B (refW boxB K 240) boxB k) := funext fun j => by
      rw [shf_congr ih j, shf_eq K _ hb j]
    show xorB (mixB (shfB (cipC K) (rndB (cipC K) B k))) (keyB (cipC K) (k + 1)) i = bitI .xor .u8 (if k + 1 = 14 then _ else mxdB (mvdB boxB (refR B (refW boxB K 240) boxB k)) i) (refW boxB K 240 (16 * (k + 1) + i))
    rw [e1, if_neg (by omega), ← mix_eq _ hM i, ← key_eq K hK (k + 1) i (by omega) hi]
    rfl
theorem block_eq (K B : Nat → Int) (hK : Byt K) (i : Nat) (hi : i < 16) : encB (cipC K) B i = refR B (refW boxB K 240) boxB 14 i := by
  have hb := refR_byt B (refW boxB K 240) boxB 13
  have ih := rnd_eq K B hK 13 (by decide)
  have e1 : shfB (cipC K) (rndB (cipC K) B 13) = mvdB boxB (refR B (refW boxB K 240) boxB 13) := funext fun j => by
    rw [shf_congr ih j, shf_eq K _ hb j]
  show xorB (shfB (cipC K) (rndB (cipC K) B 13)) (keyB (cipC K) 14) i = bitI .xor .u8 (if 13 + 1 = 14 then mvdB boxB (refR B (refW boxB K 240) boxB 13) i else _) (refW boxB K 240 (16 * (13 + 1) + i))
  rw [e1, if_pos rfl, ← key_eq K hK 14 i (by decide) hi]
  rfl
end Go.Proofs.Ytpplfckcblaoiaa
