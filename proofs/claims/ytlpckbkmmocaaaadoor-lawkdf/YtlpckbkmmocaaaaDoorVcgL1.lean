/-
  Functions of the cipher, of the program and of the document.
-/
import Derived.Test.YtlpckbkmmocaaaaDoorVcgR4
set_option linter.unusedVariables false
set_option linter.unusedSimpArgs false
namespace Go.Proofs.YtlpckbkmmocaaaaDoor
open Go.Vcg
/-! ### Both count the same number -/
def Eq5 (f : F5) (n : Nat → Int) : Prop := f.v % PP = val n 16 % PP
theorem cmul {a b x y : Int} (h : a % PP = x % PP) (k : b % PP = y % PP) : a * b % PP = x * y % PP := by rw [Int.mul_emod, h, k, ← Int.mul_emod]
theorem cadd {a b x y : Int} (h : a % PP = x % PP) (k : b % PP = y % PP) : (a + b) % PP = (x + y) % PP := by rw [Int.add_emod, h, k, ← Int.add_emod]
theorem csub {a b x y : Int} (h : a % PP = x % PP) (k : b % PP = y % PP) : (a - b) % PP = (x - y) % PP := by rw [Int.sub_emod, h, k, ← Int.sub_emod]
theorem Eq5.mul {f g : F5} {n m : Nat → Int} (h : Eq5 f n) (k : Eq5 g m) (hn : Dig n) (hm : Dig m) : Eq5 (mulF f g) (timesN n m) := by
  rw [Eq5, mulF_v, (timesN_spec n m hn hm).2]; exact cmul h k
theorem Eq5.mulc {f g : F5} {n m : Nat → Int} (h : Eq5 f n) (k : Eq5 g m) (hn : Dig n) (hm : Dig m) : Eq5 (mulF f g) (timesN m n) := by
  rw [Eq5, mulF_v, (timesN_spec m n hm hn).2, Int.mul_comm]; exact cmul k h
theorem Eq5.add {f g : F5} {n m : Nat → Int} (h : Eq5 f n) (k : Eq5 g m) (hn : Dig n) (hm : Dig m) : Eq5 (adF f g) (plusN n m) := by
  rw [Eq5, adF, addF_v, (plusN_spec n m hn hm).2]; exact cadd h k
theorem Eq5.addc {f g : F5} {n m : Nat → Int} (h : Eq5 f n) (k : Eq5 g m) (hn : Dig n) (hm : Dig m) : Eq5 (adF f g) (plusN m n) := by
  rw [Eq5, adF, addF_v, (plusN_spec m n hm hn).2, Int.add_comm]; exact cadd k h
theorem Eq5.sub {f g : F5} {n m : Nat → Int} (h : Eq5 f n) (k : Eq5 g m) (hn : Dig n) (hm : Dig m) : Eq5 (sbF f g) (minusN n m) := by
  rw [Eq5, sbF, subF_v, (minusN_spec n m hn hm).2]; exact csub h k
theorem Eq5.sqc {f g : F5} {n m : Nat → Int} (h : Eq5 f n) (k : Eq5 g m) (hn : Dig n) (hm : Dig m) : Eq5 (mulF (sbF f g) (sbF f g)) (timesN (minusN m n) (minusN m n)) := by
  have hd := minusN_dig hm hn
  have e1 : (sbF f g).v % PP = (val n 16 - val m 16) % PP := by rw [sbF, subF_v]; exact csub h k
  have e2 := (minusN_spec m n hm hn).2
  rw [Eq5, mulF_v, (timesN_spec _ _ hd hd).2, cmul e1 e1, cmul e2 e2]
  congr 1; grind
structure Rel (r : R4) (q : N4) : Prop where
  a : Eq5 r.x2 q.a
  b : Eq5 r.z2 q.b
  c : Eq5 r.x3 q.c
  d : Eq5 r.z3 q.d
theorem c_eq : Eq5 F5.c cN := by
  rw [Eq5]; simp [F5.v, F5.c, val, cN, upd]
theorem one_eq : Eq5 F5.one oneN := by
  rw [Eq5]; simp [F5.v, F5.one, val, oneN, upd]
theorem zero_eq : Eq5 F5.zero zN := by
  rw [Eq5]; simp [F5.v, F5.zero, val, zN]
theorem dbl_eq {x z : F5} {n m : Nat → Int} (hx : Eq5 x n) (hz : Eq5 z m) (hn : Dig n) (hm : Dig m) :
    Eq5 (mulF (mulF (adF x z) (adF x z)) (mulF (sbF x z) (sbF x z))) (dblX n m) ∧
    Eq5 (mulF (sbF (mulF (adF x z) (adF x z)) (mulF (sbF x z) (sbF x z))) (adF (mulF (adF x z) (adF x z)) (mulF F5.c (sbF (mulF (adF x z) (adF x z)) (mulF (sbF x z) (sbF x z)))))) (dblZ n m) := by
  have h1 := plusN_dig hn hm
  have h2 := minusN_dig hn hm
  have p := hx.add hz hn hm
  have s := hx.sub hz hn hm
  have pp := p.mul p h1 h1
  have ss := s.mul s h2 h2
  have d1 := timesN_dig h1 h1
  have d2 := timesN_dig h2 h2
  have e := pp.sub ss d1 d2
  have de := minusN_dig d1 d2
  refine ⟨pp.mul ss d1 d2, e.mul (pp.add (c_eq.mul e cN_dig de) d1 (timesN_dig cN_dig de)) de (plusN_dig d1 (timesN_dig cN_dig de))⟩
theorem step_eq (s : Bool) {r : R4} {q : N4} {u : F5} {n : Nat → Int} (h : Rel r q) (hq : q.Dig) (hu : Eq5 u n) (hn : Dig n) : Rel (exF s (climbF (exF s r) u)) (rungS s n q) := by
  obtain ⟨ha, hb, hc, hd⟩ := h
  obtain ⟨da, db, dc, dd⟩ := hq
  have P := plusN_dig da db
  have M := minusN_dig da db
  have P' := plusN_dig dc dd
  have M' := minusN_dig dc dd
  have T1 := timesN_dig M' P
  have T2 := timesN_dig P' M
  cases s
  · have t1 := (hc.sub hd dc dd).mul (ha.add hb da db) M' P
    have t2 := (hc.add hd dc dd).mul (ha.sub hb da db) P' M
    have x := t1.add t2 T1 T2
    have z := t1.sub t2 T1 T2
    have dx := plusN_dig T1 T2
    have dz := minusN_dig T1 T2
    exact ⟨(dbl_eq ha hb da db).1, (dbl_eq ha hb da db).2, x.mul x dx dx, hu.mul (z.mul z dz dz) hn (timesN_dig dz dz)⟩
  · have t2 := (ha.sub hb da db).mulc (hc.add hd dc dd) M P'
    have t1 := (ha.add hb da db).mulc (hc.sub hd dc dd) P M'
    have x := t2.addc t1 T2 T1
    have zz := t2.sqc t1 T2 T1
    have dx := plusN_dig T1 T2
    have dz := minusN_dig T1 T2
    exact ⟨x.mul x dx dx, hu.mul zz hn (timesN_dig dz dz), (dbl_eq hc hd dc dd).1, (dbl_eq hc hd dc dd).2⟩
theorem lad_eq (K : Nat → Int) {u : F5} {n : Nat → Int} (hu : Eq5 u n) (hn : Dig n) : ∀ k, Rel (ladR K u k) (rungN K n k)
  | 0 => ⟨one_eq, zero_eq, hu, one_eq⟩
  | k + 1 => step_eq _ (lad_eq K hu hn k) (rungN_dig K n hn k) hu hn
theorem inv_eq {f : F5} {n : Nat → Int} (h : Eq5 f n) (hn : Dig n) : ∀ k, Eq5 (invP f k) (fermN n k)
  | 0 => one_eq
  | k + 1 => by
    have ih := inv_eq h hn k
    have hd := fermN_dig n hn k
    have sq := ih.mul ih hd hd
    rw [invP, fermN]
    split
    · exact sq
    · exact sq.mul h (timesN_dig hd hd) hn
theorem lessK_val (n : Nat → Int) (h : Dig n) : val (lessK n 3) 16 = val n 16 % PP := by
  have h16 : (65536 : Int) ^ 16 = 115792089237316195423570985008687907853269984665640564039457584007913129639936 := by decide
  have hv := val_dig _ h 16
  have s1 := (lessN_spec _ h).2
  have s2 := (lessN_spec _ (lessK_dig n h 1)).2
  have s3 := (lessN_spec _ (lessK_dig n h 2)).2
  have e1 : lessK n 1 = lessN n := rfl
  have e2 : lessK n 2 = lessN (lessK n 1) := rfl
  have e3 : lessK n 3 = lessN (lessK n 2) := rfl
  rw [← e1] at s1
  rw [← e2] at s2
  rw [← e3] at s3
  rw [h16] at hv
  have hPP : PP = 57896044618658097711785492504343953926634992332820282019728792003956564819949 := rfl
  generalize val (lessK n 3) 16 = v3 at *
  generalize val (lessK n 2) 16 = v2 at *
  generalize val (lessK n 1) 16 = v1 at *
  generalize val n 16 = v at *
  clear e1 e2 e3
  rw [hPP] at *
  split at s1 <;> split at s2 <;> split at s3 <;> omega
theorem start_eq' (U : Nat → Int) (hU : By U) : Eq5 (fieldW (wrd U 32)) (dgt (topU U) 32) := by
  have h0 : wrd U 32 0 = U 0 + 256 * U 1 + 65536 * U 2 + 16777216 * U 3 + 4294967296 * U 4 + 1099511627776 * U 5 + 281474976710656 * U 6 + 72057594037927936 * U 7 := by
    simp [wrd, upd]; omega
  have h1 : wrd U 32 1 = U 8 + 256 * U 9 + 65536 * U 10 + 16777216 * U 11 + 4294967296 * U 12 + 1099511627776 * U 13 + 281474976710656 * U 14 + 72057594037927936 * U 15 := by
    simp [wrd, upd]; omega
  have h2 : wrd U 32 2 = U 16 + 256 * U 17 + 65536 * U 18 + 16777216 * U 19 + 4294967296 * U 20 + 1099511627776 * U 21 + 281474976710656 * U 22 + 72057594037927936 * U 23 := by
    simp [wrd, upd]; omega
  have h3 : wrd U 32 3 = U 24 + 256 * U 25 + 65536 * U 26 + 16777216 * U 27 + 4294967296 * U 28 + 1099511627776 * U 29 + 281474976710656 * U 30 + 72057594037927936 * U 31 := by
    simp [wrd, upd]; omega
  have b := (wrd_bd U hU 32).1
  have b0 := b 0
  have b1 := b 1
  have b2 := b 2
  have b3 := b 3
  have hv : (fieldW (wrd U 32)).v = wrd U 32 0 + 18446744073709551616 * wrd U 32 1 + 340282366920938463463374607431768211456 * wrd U 32 2 + 6277101735386680763835789423207666416102355444464034512896 * (wrd U 32 3 % 9223372036854775808) := by
    simp only [fieldW, F5.v]; omega
  have ht : wrd U 32 3 % 9223372036854775808 = U 24 + 256 * U 25 + 65536 * U 26 + 16777216 * U 27 + 4294967296 * U 28 + 1099511627776 * U 29 + 281474976710656 * U 30 + 72057594037927936 * (U 31 % 128) := by
    have := hU 24
    have := hU 25
    have := hU 26
    have := hU 27
    have := hU 28
    have := hU 29
    have := hU 30
    have := hU 31
    rw [h3]; omega
  have hd : val (dgt (topU U) 32) 16 = (fieldW (wrd U 32)).v := by
    rw [hv, ht, h0, h1, h2]
    simp [val, dgt_eq, topU, upd]
    omega
  rw [Eq5, hd]
/-! ### Equal numbers have equal bytes -/
theorem words_eq (W m : Nat → Int) (hW : ∀ j, 0 ≤ W j ∧ W j < 18446744073709551616) (hm : Dig m)
    (h : W 0 + 18446744073709551616 * W 1 + 340282366920938463463374607431768211456 * W 2 + 6277101735386680763835789423207666416102355444464034512896 * W 3 = val m 16) :
    (W 0 = m 0 + 65536 * m 1 + 4294967296 * m 2 + 281474976710656 * m 3) ∧ (W 1 = m 4 + 65536 * m 5 + 4294967296 * m 6 + 281474976710656 * m 7) ∧
    (W 2 = m 8 + 65536 * m 9 + 4294967296 * m 10 + 281474976710656 * m 11) ∧ (W 3 = m 12 + 65536 * m 13 + 4294967296 * m 14 + 281474976710656 * m 15) := by
  have e : val m 16 = (m 0 + 65536 * m 1 + 4294967296 * m 2 + 281474976710656 * m 3) + 18446744073709551616 * (m 4 + 65536 * m 5 + 4294967296 * m 6 + 281474976710656 * m 7) + 340282366920938463463374607431768211456 * (m 8 + 65536 * m 9 + 4294967296 * m 10 + 281474976710656 * m 11) + 6277101735386680763835789423207666416102355444464034512896 * (m 12 + 65536 * m 13 + 4294967296 * m 14 + 281474976710656 * m 15) := by
    simp [val]; omega
  rw [e] at h
  have w0 := hW 0
  have w1 := hW 1
  have w2 := hW 2
  have w3 := hW 3
  have q : ∀ a b c d : Nat, 0 ≤ m a + 65536 * m b + 4294967296 * m c + 281474976710656 * m d ∧ m a + 65536 * m b + 4294967296 * m c + 281474976710656 * m d < 18446744073709551616 := by
    intro a b c d
    have := hm a
    have := hm b
    have := hm c
    have := hm d
    omega
  have q0 := q 0 1 2 3
  have q1 := q 4 5 6 7
  have q2 := q 8 9 10 11
  have q3 := q 12 13 14 15
  generalize m 0 + 65536 * m 1 + 4294967296 * m 2 + 281474976710656 * m 3 = d0 at *
  generalize m 4 + 65536 * m 5 + 4294967296 * m 6 + 281474976710656 * m 7 = d1 at *
  generalize m 8 + 65536 * m 9 + 4294967296 * m 10 + 281474976710656 * m 11 = d2 at *
  generalize m 12 + 65536 * m 13 + 4294967296 * m 14 + 281474976710656 * m 15 = d3 at *
  clear e hm hW
  omega
theorem byte_of (w a b c d : Int) (ha : 0 ≤ a ∧ a < 65536) (hb : 0 ≤ b ∧ b < 65536) (hc : 0 ≤ c ∧ c < 65536) (hd : 0 ≤ d ∧ d < 65536) (h : w = a + 65536 * b + 4294967296 * c + 281474976710656 * d) :
    w / 2 ^ 0 % 256 = a % 256 ∧ w / 2 ^ 8 % 256 = a / 256 % 256 ∧ w / 2 ^ 16 % 256 = b % 256 ∧ w / 2 ^ 24 % 256 = b / 256 % 256 ∧
    w / 2 ^ 32 % 256 = c % 256 ∧ w / 2 ^ 40 % 256 = c / 256 % 256 ∧ w / 2 ^ 48 % 256 = d % 256 ∧ w / 2 ^ 56 % 256 = d / 256 % 256 := by
  simp only [Int.reducePow]
  subst h
  refine ⟨?_, ?_, ?_, ?_, ?_, ?_, ?_, ?_⟩ <;> omega
theorem bytes_eq (W m : Nat → Int) (hW : ∀ j, 0 ≤ W j ∧ W j < 18446744073709551616) (hm : Dig m)
    (h : W 0 + 18446744073709551616 * W 1 + 340282366920938463463374607431768211456 * W 2 + 6277101735386680763835789423207666416102355444464034512896 * W 3 = val m 16) :
    ∀ i, i < 32 → byteW W i = undB m i := by
  obtain ⟨e0, e1, e2, e3⟩ := words_eq W m hW hm h
  have b0 := byte_of _ _ _ _ _ (hm 0) (hm 1) (hm 2) (hm 3) e0
  have b1 := byte_of _ _ _ _ _ (hm 4) (hm 5) (hm 6) (hm 7) e1
  have b2 := byte_of _ _ _ _ _ (hm 8) (hm 9) (hm 10) (hm 11) e2
  have b3 := byte_of _ _ _ _ _ (hm 12) (hm 13) (hm 14) (hm 15) e3
  intro i hi
  match i, hi with
  | 0, _ => exact b0.1
  | 1, _ => exact b0.2.1
  | 2, _ => exact b0.2.2.1
  | 3, _ => exact b0.2.2.2.1
  | 4, _ => exact b0.2.2.2.2.1
  | 5, _ => exact b0.2.2.2.2.2.1
  | 6, _ => exact b0.2.2.2.2.2.2.1
  | 7, _ => exact b0.2.2.2.2.2.2.2
  | 8, _ => exact b1.1
  | 9, _ => exact b1.2.1
  | 10, _ => exact b1.2.2.1
  | 11, _ => exact b1.2.2.2.1
  | 12, _ => exact b1.2.2.2.2.1
  | 13, _ => exact b1.2.2.2.2.2.1
  | 14, _ => exact b1.2.2.2.2.2.2.1
  | 15, _ => exact b1.2.2.2.2.2.2.2
  | 16, _ => exact b2.1
  | 17, _ => exact b2.2.1
  | 18, _ => exact b2.2.2.1
  | 19, _ => exact b2.2.2.2.1
  | 20, _ => exact b2.2.2.2.2.1
  | 21, _ => exact b2.2.2.2.2.2.1
  | 22, _ => exact b2.2.2.2.2.2.2.1
  | 23, _ => exact b2.2.2.2.2.2.2.2
  | 24, _ => exact b3.1
  | 25, _ => exact b3.2.1
  | 26, _ => exact b3.2.2.1
  | 27, _ => exact b3.2.2.2.1
  | 28, _ => exact b3.2.2.2.2.1
  | 29, _ => exact b3.2.2.2.2.2.1
  | 30, _ => exact b3.2.2.2.2.2.2.1
  | 31, _ => exact b3.2.2.2.2.2.2.2
  | n + 32, h => omega
theorem same (K U : Nat → Int) (hU : By U) : rowI .u8 32 (progB K U) = rowI .u8 32 (refB K U) := by
  refine rowI_congr fun i hi => ?_
  have hu : (fieldW (wrd U 32)).Ok := fieldW_ok _ fun j => ⟨((wrd_bd U hU 32).1 j).1, ((wrd_bd U hU 32).1 j).2.2⟩
  have hn := dgt_dig _ (topU_by U hU) 32
  have hs := start_eq' U hU
  have hr := ladR_ok (clampK K) _ hu 255
  have hq := rungN_dig (clampK K) _ hn 255
  have hl := lad_eq (clampK K) hs hn 255
  have hi5 := inv_eq hl.b hq.b 255
  have hf := fermN_dig _ hq.b 255
  have hx := hl.a.mul hi5 hq.a hf
  have ok := mulF_ok _ _ hr.x2 (invP_ok _ hr.z2 255)
  obtain ⟨hv, g0, g1, g2, g3, g4⟩ := redF_val _ ok
  have hd := timesN_dig hq.a hf
  have hw := keyW_val _ g0 g1 g2 g3 g4
  exact bytes_eq _ _ (keyW_bd _ g0 g1 g2 g3 g4) (lessK_dig _ hd 3) (by rw [← hw, hv, lessK_val _ hd]; exact hx) i hi
theorem progB_by (K U : Nat → Int) : By (progB K U) := by
  intro i; simp only [progB, byteW]; omega
theorem intsOf_row (k : IntKind) (n : Nat) (f : Nat → Int) : intsOf k (rowI k n f) = some ((List.range n).map f) := by
  rw [rowI]
  generalize List.range n = l
  induction l with
  | nil => rfl
  | cons a l ih => simp only [List.map_cons, intsOf, ih, if_true]
theorem eqL_same {m : Nat} {p : List Int} (h : p.length = m) : eqL .eql m (some p) (some p) = some (some (B true), none) := by
  rw [eqL_eql, if_pos ⟨h, h⟩, decide_eq_true rfl]
theorem eq_row (k : IntKind) (n : Nat) (f : Nat → Int) : eqL .eql n (intsOf k (rowI k n f)) (intsOf k (rowI k n f)) = some (some (B true), none) := by
  rw [intsOf_row]; exact eqL_same (by simp)
end Go.Proofs.YtlpckbkmmocaaaaDoor
