/-
  Functions of the cipher, of the program and of the document.
-/
import Derived.Test.YtpplfckcblaoiaaVcgR6
set_option linter.unusedVariables false
set_option linter.unusedSimpArgs false
namespace Go.Proofs.Ytpplfckcblaoiaa
open Go.Vcg
/-! ### Both count the same number -/
def Eq5 (f : F5) (n : Nat → Int) : Prop := f.v % PP = val n 16 % PP
theorem cmul {a b x y : Int} (h : a % PP = x % PP) (k : b % PP = y % PP) : a * b % PP = x * y % PP := by rw [Int.mul_emod, h, k, ← Int.mul_emod]
theorem cadd {a b x y : Int} (h : a % PP = x % PP) (k : b % PP = y % PP) : (a + b) % PP = (x + y) % PP := by rw [Int.add_emod, h, k, ← Int.add_emod]
theorem csub {a b x y : Int} (h : a % PP = x % PP) (k : b % PP = y % PP) : (a - b) % PP = (x - y) % PP := by rw [Int.sub_emod, h, k, ← Int.sub_emod]
theorem Eq5.mul {f g : F5} {n m : Nat → Int} (h : Eq5 f n) (k : Eq5 g m) (hn : Dig n) (hm : Dig m) : Eq5 (mulF f g) (timesN n m) := by
  rw [Eq5, mulF_v, (timesN_spec n m hn hm).2]; exact cmul h k
theorem Eq5.mulc {f g : F5} {n m : Nat → Int} (h : Eq5 f n) (k : Eq5 g m) (hn : Dig n) (hm : Dig m) : Eq5 (mulF f g) (timesN m n) := by
  rw [Eq5, mulF_v, (timesN_spec m n hm hn).2, Int.mul_comm]; exact cmul k h
theorem Eq5.add {f g : F5} {n m : Nat → Int} (h : Eq5 f n) (k : Eq5 g m) (hn : Dig n) (hm : Dig m) : Eq5 (adF f g) (plusN n m) := by
  rw [Eq5, adF, addF_v, (plusN_spec n m hn hm).2]; exact cadd h k
theorem Eq5.addc {f g : F5} {n m : Nat → Int} (h : Eq5 f n) (k : Eq5 g m) (hn : Dig n) (hm : Dig m) : Eq5 (adF f g) (plusN m n) := by
  rw [Eq5, adF, addF_v, (plusN_spec m n hm hn).2, Int.add_comm]; exact cadd k h
theorem Eq5.sub {f g : F5} {n m : Nat → Int} (h : Eq5 f n) (k : Eq5 g m) (hn : Dig n) (hm : Dig m) : Eq5 (sbF f g) (minusN n m) := by
  rw [Eq5, sbF, subF_v, (minusN_spec n m hn hm).2]; exact csub h k
theorem Eq5.sqc {f g : F5} {n m : Nat → Int} (h : Eq5 f n) (k : Eq5 g m) (hn : Dig n) (hm : Dig m) : Eq5 (mulF (sbF f g) (sbF f g)) (timesN (minusN m n) (minusN m n)) := by
  have hd := minusN_dig hm hn
  have e1 : (sbF f g).v % PP = (val n 16 - val m 16) % PP := by rw [sbF, subF_v]; exact csub h k
  have e2 := (minusN_spec m n hm hn).2
  rw [Eq5, mulF_v, (timesN_spec _ _ hd hd).2, cmul e1 e1, cmul e2 e2]
  congr 1; grind
structure Rel (r : R4) (q : N4) : Prop where
  a : Eq5 r.x2 q.a
  b : Eq5 r.z2 q.b
  c : Eq5 r.x3 q.c
  d : Eq5 r.z3 q.d
theorem c_eq : Eq5 F5.c cN := by
  rw [Eq5]; simp [F5.v, F5.c, val, cN, upd]
theorem one_eq : Eq5 F5.one oneN := by
  rw [Eq5]; simp [F5.v, F5.one, val, oneN, upd]
theorem zero_eq : Eq5 F5.zero zN := by
  rw [Eq5]; simp [F5.v, F5.zero, val, zN]
theorem dbl_eq {x z : F5} {n m : Nat → Int} (hx : Eq5 x n) (hz : Eq5 z m) (hn : Dig n) (hm : Dig m) :
    Eq5 (mulF (mulF (adF x z) (adF x z)) (mulF (sbF x z) (sbF x z))) (dblX n m) ∧
    Eq5 (mulF (sbF (mulF (adF x z) (adF x z)) (mulF (sbF x z) (sbF x z))) (adF (mulF (adF x z) (adF x z)) (mulF F5.c (sbF (mulF (adF x z) (adF x z)) (mulF (sbF x z) (sbF x z)))))) (dblZ n m) := by
  have h1 := plusN_dig hn hm
  have h2 := minusN_dig hn hm
  have p := hx.add hz hn hm
  have s := hx.sub hz hn hm
  have pp := p.mul p h1 h1
  have ss := s.mul s h2 h2
  have d1 := timesN_dig h1 h1
  have d2 := timesN_dig h2 h2
  have e := pp.sub ss d1 d2
  have de := minusN_dig d1 d2
  refine ⟨pp.mul ss d1 d2, e.mul (pp.add (c_eq.mul e cN_dig de) d1 (timesN_dig cN_dig de)) de (plusN_dig d1 (timesN_dig cN_dig de))⟩
theorem step_eq (s : Bool) {r : R4} {q : N4} {u : F5} {n : Nat → Int} (h : Rel r q) (hq : q.Dig) (hu : Eq5 u n) (hn : Dig n) : Rel (exF s (climbF (exF s r) u)) (rungS s n q) := by
  obtain ⟨ha, hb, hc, hd⟩ := h
  obtain ⟨da, db, dc, dd⟩ := hq
  have P := plusN_dig da db
  have M := minusN_dig da db
  have P' := plusN_dig dc dd
  have M' := minusN_dig dc dd
  have T1 := timesN_dig M' P
  have T2 := timesN_dig P' M
  cases s
  · have t1 := (hc.sub hd dc dd).mul (ha.add hb da db) M' P
    have t2 := (hc.add hd dc dd).mul (ha.sub hb da db) P' M
    have x := t1.add t2 T1 T2
    have z := t1.sub t2 T1 T2
    have dx := plusN_dig T1 T2
    have dz := minusN_dig T1 T2
    exact ⟨(dbl_eq ha hb da db).1, (dbl_eq ha hb da db).2, x.mul x dx dx, hu.mul (z.mul z dz dz) hn (timesN_dig dz dz)⟩
  · have t2 := (ha.sub hb da db).mulc (hc.add hd dc dd) M P'
    have t1 := (ha.add hb da db).mulc (hc.sub hd dc dd) P M'
    have x := t2.addc t1 T2 T1
    have zz := t2.sqc t1 T2 T1
    have dx := plusN_dig T1 T2
    have dz := minusN_dig T1 T2
    exact ⟨x.mul x dx dx, hu.mul zz hn (timesN_dig dz dz), (dbl_eq hc hd dc dd).1, (dbl_eq hc hd dc dd).2⟩
theorem lad_eq (K : Nat → Int) {u : F5} {n : Nat → Int} (hu : Eq5 u n) (hn : Dig n) : ∀ k, Rel (ladR K u k) (rungN K n k)
  | 0 => ⟨one_eq, zero_eq, hu, one_eq⟩
  | k + 1 => step_eq _ (lad_eq K hu hn k) (rungN_dig K n hn k) hu hn
theorem inv_eq {f : F5} {n : Nat → Int} (h : Eq5 f n) (hn : Dig n) : ∀ k, Eq5 (invP f k) (fermN n k)
  | 0 => one_eq
  | k + 1 => by
    have ih := inv_eq h hn k
    have hd := fermN_dig n hn k
    have sq := ih.mul ih hd hd
    rw [invP, fermN]
    split
    · exact sq
    · exact sq.mul h (timesN_dig hd hd) hn
theorem lessK_val (n : Nat → Int) (h : Dig n) : val (lessK n 3) 16 = val n 16 % PP := by
  have h16 : (65536 : Int) ^ 16 = 115792089237316195423570985008687907853269984665640564039457584007913129639936 := by decide
  have hv := val_dig _ h 16
  have s1 := (lessN_spec _ h).2
  have s2 := (lessN_spec _ (lessK_dig n h 1)).2
  have s3 := (lessN_spec _ (lessK_dig n h 2)).2
  have e1 : lessK n 1 = lessN n := rfl
  have e2 : lessK n 2 = lessN (lessK n 1) := rfl
  have e3 : lessK n 3 = lessN (lessK n 2) := rfl
  rw [← e1] at s1
  rw [← e2] at s2
  rw [← e3] at s3
  rw [h16] at hv
  have hPP : PP = 57896044618658097711785492504343953926634992332820282019728792003956564819949 := rfl
  generalize val (lessK n 3) 16 = v3 at *
  generalize val (lessK n 2) 16 = v2 at *
  generalize val (lessK n 1) 16 = v1 at *
  generalize val n 16 = v at *
  clear e1 e2 e3
  rw [hPP] at *
  split at s1 <;> split at s2 <;> split at s3 <;> omega
theorem start_eq' (U : Nat → Int) (hU : By U) : Eq5 (fieldW (wrd U 32)) (dgt (topU U) 32) := by
  have h0 : wrd U 32 0 = U 0 + 256 * U 1 + 65536 * U 2 + 16777216 * U 3 + 4294967296 * U 4 + 1099511627776 * U 5 + 281474976710656 * U 6 + 72057594037927936 * U 7 := by
    simp [wrd, upd]; omega
  have h1 : wrd U 32 1 = U 8 + 256 * U 9 + 65536 * U 10 + 16777216 * U 11 + 4294967296 * U 12 + 1099511627776 * U 13 + 281474976710656 * U 14 + 72057594037927936 * U 15 := by
    simp [wrd, upd]; omega
  have h2 : wrd U 32 2 = U 16 + 256 * U 17 + 65536 * U 18 + 16777216 * U 19 + 4294967296 * U 20 + 1099511627776 * U 21 + 281474976710656 * U 22 + 72057594037927936 * U 23 := by
    simp [wrd, upd]; omega
  have h3 : wrd U 32 3 = U 24 + 256 * U 25 + 65536 * U 26 + 16777216 * U 27 + 4294967296 * U 28 + 1099511627776 * U 29 + 281474976710656 * U 30 + 72057594037927936 * U 31 := by
    simp [wrd, upd]; omega
  have b := (wrd_bd U hU 32).1
  have b0 := b 0
  have b1 := b 1
  have b2 := b 2
  have b3 := b 3
  have hv : (fieldW (wrd U 32)).v = wrd U 32 0 + 18446744073709551616 * wrd U 32 1 + 340282366920938463463374607431768211456 * wrd U 32 2 + 6277101735386680763835789423207666416102355444464034512896 * (wrd U 32 3 % 9223372036854775808) := by
    simp only [fieldW, F5.v]; omega
  have ht : wrd U 32 3 % 9223372036854775808 = U 24 + 256 * U 25 + 65536 * U 26 + 16777216 * U 27 + 4294967296 * U 28 + 1099511627776 * U 29 + 281474976710656 * U 30 + 72057594037927936 * (U 31 % 128) := by
    have := hU 24
    have := hU 25
    have := hU 26
    have := hU 27
    have := hU 28
    have := hU 29
    have := hU 30
    have := hU 31
    rw [h3]; omega
  have hd : val (dgt (topU U) 32) 16 = (fieldW (wrd U 32)).v := by
    rw [hv, ht, h0, h1, h2]
    simp [val, dgt_eq, topU, upd]
    omega
  rw [Eq5, hd]
end Go.Proofs.Ytpplfckcblaoiaa
