/-
  Functions of the cipher, of the program and of the document.
-/
import Derived.Test.YtlpckbkmmocaaaaDoorVcgU3
set_option linter.unusedVariables false
set_option linter.unusedSimpArgs false
namespace Go.Proofs.YtlpckbkmmocaaaaDoor
open Go.Vcg
/-! ### Keys and scalars -/
def clampK (K : Nat → Int) (i : Nat) : Int := if i = 0 then K 0 - K 0 % 8 else if i = 31 then K 31 % 64 + 64 else K i
theorem clamp_low : ((List.range 256).all fun n => bitI .andNot .u8 (n : Int) 7 == (n : Int) - n % 8) = true := by kernel_rfl
theorem clamp_high : ((List.range 256).all fun n => bitI .or .u8 (bitI .andNot .u8 (n : Int) 128) 64 == (n : Int) % 64 + 64) = true := by kernel_rfl
theorem clampK_by (K : Nat → Int) (hK : By K) : By (clampK K) := by
  intro i
  have h0 := hK 0
  have h1 := hK 31
  have h2 := hK i
  simp only [clampK]
  split
  · omega
  · split <;> omega
theorem rep_all (n : Nat) (k : IntKind) (c : Int) : (List.replicate n (Value.int k c)).all Value.oneCell' = true := by
  rw [List.all_eq_true]; intro x hx; rw [List.eq_of_mem_replicate hx]; rfl
theorem row_zero (n : Nat) (k : IntKind) (c : Int) : List.map Sum.inl (List.replicate n (Value.int k c)) = rowI k n (fun _ => c) := by
  rw [rowI, List.map_replicate]
  apply List.ext_getElem?
  intro i
  simp [List.getElem?_replicate]
  split
  · rename_i h; rw [List.getElem?_range h]; rfl
  · rename_i h; rw [List.getElem?_eq_none (by simp; omega)]; rfl
theorem rowI_splice (k : IntKind) (n : Nat) (f g : Nat → Int) : splice (rowI k n f) 0 (rowI k n g) = rowI k n g := by
  rw [splice]; simp [rowI_length]
theorem rowI_take (k : IntKind) (n : Nat) (f : Nat → Int) : List.take n (rowI k n f) = rowI k n f := List.take_of_length_le (by rw [rowI_length]; exact Nat.le_refl n)
theorem ag_congr {k : IntKind} {n : Nat} {f g : Nat → Int} (h : ∀ i, i < n → f i = g i) : Ag (rowI k n f) = Ag (rowI k n g) := by rw [rowI_congr h]
theorem clamped_fun (K : Nat → Int) (hK : By K) : Fun Tryd.prog 33 [Ag (rowI .u8 32 K)] (Ag (rowI .u8 32 (clampK K))) := by
  refine fun_of_vc Tryd.func33 rfl (by kernel_rfl) (by simp [Tryd.ntmps33]) rfl rfl ?_
  simp only [Tryd.results33, rowI_get .u8 32 _ 0 (by omega), rowI_get .u8 32 _ 31 (by omega), rowI_splice1 .u8 32 _ 0 (by omega), rowI_splice1 .u8 32 _ 31 (by omega), sn_upto, sn_from, slN_def, run_cap, rules, rules2, loopRules, Tryd.facts, base0, Int.toNat_zero, Nat.reduceAdd, Nat.reduceMul, Nat.reduceSub, Nat.reduceLT, Nat.reduceLeDiff, Nat.reduceEqDiff, Int.reduceLE, Int.reduceLT, Int.reduceToNat, Int.reduceNe, Int.reduceEq, not_false_eq_true, Nat.reduceBEq, Nat.reduceDiv, Int.natCast_zero, Int.natCast_one, Int.reduceAdd, Int.reduceSub, reduceIte, ↓reduceIte, Value.oneCell', rowI_length, rowI_take, rowI_splice, rep_all, row_zero, le_nat, Int.toNat_natCast, Nat.zero_add, sok_row, reduceCtorEq]
  have hlow : bitI .andNot .u8 (K 0) 7 = K 0 - K 0 % 8 := by
    obtain ⟨n, hn⟩ := Int.eq_ofNat_of_zero_le (hK 0).1
    have := List.all_eq_true.mp clamp_low n (List.mem_range.mpr (by have := (hK 0).2; omega))
    rw [hn]; exact eq_of_beq this
  have hhigh : bitI .or .u8 (bitI .andNot .u8 (K 31) 128) 64 = K 31 % 64 + 64 := by
    obtain ⟨n, hn⟩ := Int.eq_ofNat_of_zero_le (hK 31).1
    have := List.all_eq_true.mp clamp_high n (List.mem_range.mpr (by have := (hK 31).2; omega))
    rw [hn]; exact eq_of_beq this
  rw [hlow, hhigh]
  refine ag_congr fun i _ => ?_
  simp only [clampK, upd]
  by_cases h0 : i = 0
  · subst h0; simp
  · by_cases h1 : i = 31
    · subst h1; simp
    · simp [h0, h1]
/-! ### Bytes into limbs -/
def wrd (K : Nat → Int) : Nat → Nat → Int
  | 0 => fun _ => 0
  | n + 1 => upd (wrd K n) (n / 8) (wrd K n (n / 8) + K n * 2 ^ (n % 8 * 8))
theorem wrd_bd (K : Nat → Int) (hK : By K) : ∀ n, (∀ j, 0 ≤ wrd K n j ∧ (n / 8 < j → wrd K n j = 0) ∧ wrd K n j < 18446744073709551616) ∧ wrd K n (n / 8) < 2 ^ (n % 8 * 8)
  | 0 => by simp [wrd]
  | n + 1 => by
    obtain ⟨h1, h2⟩ := wrd_bd K hK n
    have hk := hK n
    have hb : K n * 2 ^ (n % 8 * 8) ≤ 255 * 2 ^ (n % 8 * 8) := Int.mul_le_mul_of_nonneg_right (by omega) (Int.le_of_lt (Int.pow_pos (by decide)))
    have hb0 : 0 ≤ K n * 2 ^ (n % 8 * 8) := Int.mul_nonneg hk.1 (Int.le_of_lt (Int.pow_pos (by decide)))
    have h3 := h1 (n / 8)
    have hm : n % 8 < 8 := Nat.mod_lt _ (by decide)
    have hlt : wrd K n (n / 8) + K n * 2 ^ (n % 8 * 8) < 256 * 2 ^ (n % 8 * 8) := by omega
    have hle : (256 : Int) * 2 ^ (n % 8 * 8) ≤ 18446744073709551616 := by
      generalize n % 8 = m at *
      match m, hm with
      | 0, _ | 1, _ | 2, _ | 3, _ | 4, _ | 5, _ | 6, _ | 7, _ => decide
    refine ⟨fun j => ?_, ?_⟩
    · have hj := h1 j
      simp only [wrd, upd]
      split
      · refine ⟨by omega, fun hc => ?_, by omega⟩
        omega
      · exact ⟨hj.1, fun hc => hj.2.1 (by omega), hj.2.2⟩
    · simp only [wrd, upd]
      by_cases h7 : n % 8 = 7
      · rw [if_neg (by omega)]
        have := (h1 ((n + 1) / 8)).2.1 (by omega)
        rw [this, show (n + 1) % 8 = 0 from by omega]; decide
      · rw [show (n + 1) / 8 = n / 8 from by omega, if_pos rfl, show (n + 1) % 8 * 8 = n % 8 * 8 + 8 from by omega, Int.pow_add]
        omega
def fieldW (W : Nat → Int) : F5 := ⟨W 0 % 2251799813685248, W 1 % 274877906944 * 8192 + W 0 / 2251799813685248, W 2 % 33554432 * 67108864 + W 1 / 274877906944, W 3 % 4096 * 549755813888 + W 2 / 33554432, W 3 / 4096 % 2251799813685248⟩
theorem fieldW_ok (W : Nat → Int) (h : ∀ j, 0 ≤ W j ∧ W j < 18446744073709551616) : (fieldW W).Ok := by
  have h0 := h 0
  have h1 := h 1
  have h2 := h 2
  have h3 := h 3
  constructor <;> simp only [fieldW] <;> constructor <;> omega
theorem or_comm64 (x y : Int) (hx : 0 ≤ x) (hx' : x < 18446744073709551616) (hy : 0 ≤ y) (hy' : y < 18446744073709551616) : bitI .or .u64 x y = bitI .or .u64 y x := by
  obtain ⟨a, rfl⟩ := Int.eq_ofNat_of_zero_le hx
  obtain ⟨b, rfl⟩ := Int.eq_ofNat_of_zero_le hy
  rw [(bitI_u64 a b (by omega) (by omega)).2.1, (bitI_u64 b a (by omega) (by omega)).2.1, Nat.or_comm]
theorem or_step (a b : Int) (n : Nat) (hn : n < 64) (ha : 0 ≤ a) (ha' : a < 2 ^ n) (hb : 0 ≤ b) (hb' : b * 2 ^ n < 18446744073709551616) : bitI .or .u64 a (b * 2 ^ n) = a + b * 2 ^ n := by
  have hp : (0 : Int) < 2 ^ n := Int.pow_pos (by decide)
  have hm : (2 : Int) ^ n ≤ 18446744073709551616 := by
    have : 2 ^ n ≤ 2 ^ 64 := Nat.pow_le_pow_right (by decide) (Nat.le_of_lt hn)
    have e : (2 : Int) ^ n = ((2 ^ n : Nat) : Int) := by simp
    omega
  have h0 : 0 ≤ b * 2 ^ n := Int.mul_nonneg hb (Int.le_of_lt hp)
  rw [or_comm64 _ _ ha (by omega) h0 hb', or_add b a n hn hb hb' ha ha', Int.add_comm]
/-- Joining the top of a word with the foot of the next. -/
theorem join (a b : Int) (n m : Nat) (h : n + m = 64) (hn : n < 64) (N M : Int) (hN : (2 : Int) ^ n = N) (hM : (2 : Int) ^ m = M) (ha : 0 ≤ a) (ha' : a < 18446744073709551616) (hb : 0 ≤ b) (hb' : b < 18446744073709551616) :
    bitI .or .u64 (a / M) (b * N % 18446744073709551616) = b % M * N + a / M := by
  have hNM : N * M = 18446744073709551616 := by rw [← hN, ← hM, ← Int.pow_add, h]; rfl
  have hM0 : 0 < M := by rw [← hM]; exact Int.pow_pos (by decide)
  have hN0 : 0 < N := by rw [← hN]; exact Int.pow_pos (by decide)
  have e : b * N % 18446744073709551616 = b % M * N := by rw [← hNM, Int.mul_comm b N, Int.mul_emod_mul_of_pos _ _ hN0, Int.mul_comm]
  have hbm := Int.emod_nonneg b (Int.ne_of_gt hM0)
  have hbl := Int.emod_lt_of_pos b hM0
  have hle : b % M * N < 18446744073709551616 := by rw [← hNM, Int.mul_comm N M]; exact Int.mul_lt_mul_of_pos_right hbl hN0
  have hd : a / M < N := Int.ediv_lt_of_lt_mul hM0 (by rw [hNM]; exact ha')
  rw [e, ← hN, or_step (a / M) (b % M) n hn (Int.ediv_nonneg ha (Int.le_of_lt hM0)) (by rw [hN]; exact hd) hbm (by rw [hN]; exact hle), Int.add_comm]
theorem shr64 (x : Int) (n : Nat) (h : n ≤ 64) : shrI .u64 x (n : Int) = x / 2 ^ n := shrI_eq .u64 x n h
theorem shl64 (x : Int) (n : Nat) (h : n ≤ 64) : shlI .u64 x (n : Int) = x * 2 ^ n % 18446744073709551616 := (shlI_eq .u64 x n h).trans (wrap_u64 _)
theorem wrapN (n : Nat) (h : n < 9223372036854775808) : IntKind.i64.wrap ((n : Int)) = (n : Int) := wrap_i64 _ (by omega) (by omega)
theorem wrapS (n : Nat) (h : n < 9223372036854775807) : IntKind.i64.wrap ((n : Int) + 1) = ((n + 1 : Nat) : Int) := wrap_i64 _ (by omega) (by omega)
set_option maxHeartbeats 2000000 in
set_option maxRecDepth 20000 in
theorem fieldOf_fun (K : Nat → Int) (hK : By K) : Fun Tryd.prog 34 [Ag (rowI .u8 32 K)] (Ag (fieldW (wrd K 32)).l) := by
  refine fun_of_vc Tryd.func34 rfl (by kernel_rfl) (by simp [Tryd.ntmps34]) rfl rfl ?_
  simp only [Tryd.results34, sn_upto, sn_from, slN_def, run_cap, rules, rules2, loopRules, Tryd.facts, base0, Int.toNat_zero, Nat.reduceAdd, Nat.reduceMul, Nat.reduceSub, Nat.reduceLT, Nat.reduceLeDiff, Nat.reduceEqDiff, Int.reduceLE, Int.reduceLT, Int.reduceToNat, Int.reduceNe, Int.reduceEq, not_false_eq_true, Nat.reduceBEq, Nat.reduceDiv, Int.natCast_zero, Int.natCast_one, Int.reduceAdd, Int.reduceSub, reduceIte, ↓reduceIte, Value.oneCell', rowI_length, rowI_take, rowI_splice, rep_all, row_zero, le_nat, Int.toNat_natCast, Nat.zero_add, sok_row, reduceCtorEq]
  refine loop_count 32 (fun k => [(2, Ptr 1 0), (3, Ptr 2 0), (6, Ag (rowI .u8 32 K)), (7, I .i64 k)])
    (fun k => [(1, ⟨true, [Sum.inl (Value.int IntKind.u64 0), Sum.inl (Value.int IntKind.u64 0), Sum.inl (Value.int IntKind.u64 0), Sum.inl (Value.int IntKind.u64 0), Sum.inl (Value.int IntKind.u64 0)]⟩), (2, ⟨true, rowI .u64 4 (wrd K k)⟩)]) _ ?_ ?_ ?_
  · simp only [sok_row, wrd, sn_upto, sn_from, slN_def, run_cap, rules, rules2, loopRules, Tryd.facts, base0, Int.toNat_zero, Nat.reduceAdd, Nat.reduceMul, Nat.reduceSub, Nat.reduceLT, Nat.reduceLeDiff, Nat.reduceEqDiff, Int.reduceLE, Int.reduceLT, Int.reduceToNat, Int.reduceNe, Int.reduceEq, not_false_eq_true, Nat.reduceBEq, Nat.reduceDiv, Int.natCast_zero, Int.natCast_one, Int.reduceAdd, Int.reduceSub, reduceIte, ↓reduceIte, Value.oneCell', rowI_length, rowI_take, rowI_splice, rep_all, row_zero, le_nat, Int.toNat_natCast, Nat.zero_add, sok_row, reduceCtorEq]
    rfl
  · intro k hk
    have hkk := hK k
    have hb := wrd_bd K hK k
    have hb1 := wrd_bd K hK (k + 1)
    have hm : k % 8 < 8 := Nat.mod_lt _ (by decide)
    have hq := quo8 k (by omega)
    have hmul : IntKind.i64.wrap (((k % 8 : Nat) : Int) * 8) = ((k % 8 * 8 : Nat) : Int) := by rw [wrap_i64 _ (by omega) (by omega)]; omega
    have hu : IntKind.u64.wrap (K k) = K k := wrap_u64_in _ (by omega) (by omega)
    have hv : K k * 2 ^ (k % 8 * 8) < 18446744073709551616 ∧ 0 ≤ K k * 2 ^ (k % 8 * 8) := by
      have h := (hb1.1 (k / 8)).2.2
      have h' := (hb.1 (k / 8)).1
      have hb0 : 0 ≤ K k * 2 ^ (k % 8 * 8) := Int.mul_nonneg hkk.1 (Int.le_of_lt (Int.pow_pos (by decide)))
      simp only [wrd, upd, if_true] at h
      omega
    have hsh : shlI .u64 (K k) ((k % 8 * 8 : Nat) : Int) = K k * 2 ^ (k % 8 * 8) := by
      rw [shl64 _ _ (by omega)]; omega
    have hor := or_step (wrd K k (k / 8)) (K k) (k % 8 * 8) (by omega) (hb.1 (k / 8)).1 hb.2 hkk.1 hv.1
    have hl4 : (((k / 8 : Nat) : Int) < 4) = True := lt_nat (m := 4) (by omega)
    have hl32 : ((k : Int) < 32) = True := lt_nat (m := 32) hk
    simp only [sn_upto, sn_from, slN_def, run_cap, rules, rules2, loopRules, Tryd.facts, base0, Int.toNat_zero, Nat.reduceAdd, Nat.reduceMul, Nat.reduceSub, Nat.reduceLT, Nat.reduceLeDiff, Nat.reduceEqDiff, Int.reduceLE, Int.reduceLT, Int.reduceToNat, Int.reduceNe, Int.reduceEq, not_false_eq_true, Nat.reduceBEq, Nat.reduceDiv, Int.natCast_zero, Int.natCast_one, Int.reduceAdd, Int.reduceSub, reduceIte, ↓reduceIte, Value.oneCell', rowI_length, rowI_take, rowI_splice, rep_all, row_zero, le_nat, Int.toNat_natCast, Nat.zero_add, sok_row, reduceCtorEq]
    refine vcIf_yes (by simp; omega) ?_
    simp only [hl32, rowI_get .u8 32 K k hk, hq, rem8, hmul, hu, hsh, hl4, rowI_get .u64 4 _ (k / 8) (by omega), rowI_splice1 .u64 4 _ (k / 8) (by omega), hor, wrapS k (by omega), sn_upto, sn_from, slN_def, run_cap, rules, rules2, loopRules, Tryd.facts, base0, Int.toNat_zero, Nat.reduceAdd, Nat.reduceMul, Nat.reduceSub, Nat.reduceLT, Nat.reduceLeDiff, Nat.reduceEqDiff, Int.reduceLE, Int.reduceLT, Int.reduceToNat, Int.reduceNe, Int.reduceEq, not_false_eq_true, Nat.reduceBEq, Nat.reduceDiv, Int.natCast_zero, Int.natCast_one, Int.reduceAdd, Int.reduceSub, reduceIte, ↓reduceIte, Value.oneCell', rowI_length, rowI_take, rowI_splice, rep_all, row_zero, le_nat, Int.toNat_natCast, Nat.zero_add, sok_row, reduceCtorEq]
    exact ⟨by kernel_rfl, by omega, rfl⟩
  · simp only [sn_upto, sn_from, slN_def, run_cap, rules, rules2, loopRules, Tryd.facts, base0, Int.toNat_zero, Nat.reduceAdd, Nat.reduceMul, Nat.reduceSub, Nat.reduceLT, Nat.reduceLeDiff, Nat.reduceEqDiff, Int.reduceLE, Int.reduceLT, Int.reduceToNat, Int.reduceNe, Int.reduceEq, not_false_eq_true, Nat.reduceBEq, Nat.reduceDiv, Int.natCast_zero, Int.natCast_one, Int.reduceAdd, Int.reduceSub, reduceIte, ↓reduceIte, Value.oneCell', rowI_length, rowI_take, rowI_splice, rep_all, row_zero, le_nat, Int.toNat_natCast, Nat.zero_add, sok_row, reduceCtorEq]
    refine vcIf_no (by decide) ?_
    have hb := (wrd_bd K hK 32).1
    generalize wrd K 32 = W at *
    have h0 := hb 0
    have h1 := hb 1
    have h2 := hb 2
    have h3 := hb 3
    have j1 := join (W 0) (W 1) 13 51 rfl (by decide) 8192 2251799813685248 rfl rfl h0.1 h0.2.2 h1.1 h1.2.2
    have j2 := join (W 1) (W 2) 26 38 rfl (by decide) 67108864 274877906944 rfl rfl h1.1 h1.2.2 h2.1 h2.2.2
    have j3 := join (W 2) (W 3) 39 25 rfl (by decide) 549755813888 33554432 rfl rfl h2.1 h2.2.2 h3.1 h3.2.2
    simp only [rowI_get .u64 4 _ 0 (by omega), rowI_get .u64 4 _ 1 (by omega), rowI_get .u64 4 _ 2 (by omega), rowI_get .u64 4 _ 3 (by omega), rowI_length, sn_upto, sn_from, slN_def, run_cap, rules, rules2, loopRules, Tryd.facts, base0, Int.toNat_zero, Nat.reduceAdd, Nat.reduceMul, Nat.reduceSub, Nat.reduceLT, Nat.reduceLeDiff, Nat.reduceEqDiff, Int.reduceLE, Int.reduceLT, Int.reduceToNat, Int.reduceNe, Int.reduceEq, not_false_eq_true, Nat.reduceBEq, Nat.reduceDiv, Int.natCast_zero, Int.natCast_one, Int.reduceAdd, Int.reduceSub, reduceIte, ↓reduceIte, Value.oneCell', splice, reduceCtorEq]
    rw [show shlI .u64 (W 1) 13 = W 1 * 8192 % 18446744073709551616 from shl64 _ 13 (by decide), show shlI .u64 (W 2) 26 = W 2 * 67108864 % 18446744073709551616 from shl64 _ 26 (by decide), show shlI .u64 (W 3) 39 = W 3 * 549755813888 % 18446744073709551616 from shl64 _ 39 (by decide),
      show shrI .u64 (W 0) 51 = W 0 / 2251799813685248 from shr64 _ 51 (by decide), show shrI .u64 (W 1) 38 = W 1 / 274877906944 from shr64 _ 38 (by decide), show shrI .u64 (W 2) 25 = W 2 / 33554432 from shr64 _ 25 (by decide), show shrI .u64 (W 3) 12 = W 3 / 4096 from shr64 _ 12 (by decide), j1, j2, j3,
      and51 _ h0.1 h0.2.2, and51 _ (by omega) (by omega), and51 _ (by omega) (by omega), and51 _ (by omega) (by omega), and51 _ (by omega) (by omega)]
    rw [show (W 1 % 2251799813685248 * 8192 + W 0 / 2251799813685248) % 2251799813685248 = W 1 % 274877906944 * 8192 + W 0 / 2251799813685248 from by omega,
      show (W 2 % 274877906944 * 67108864 + W 1 / 274877906944) % 2251799813685248 = W 2 % 33554432 * 67108864 + W 1 / 274877906944 from by omega,
      show (W 3 % 33554432 * 549755813888 + W 2 / 33554432) % 2251799813685248 = W 3 % 4096 * 549755813888 + W 2 / 33554432 from by omega]
    rfl
/-! ### The number below p -/
def F5.at (f : F5) : Nat → Int
  | 0 => f.a0
  | 1 => f.a1
  | 2 => f.a2
  | 3 => f.a3
  | _ => f.a4
def ovr (f : F5) : Nat → Int
  | 0 => 19
  | k + 1 => (f.at k + ovr f k) / 2251799813685248
def cry (f : F5) : Nat → Int
  | 0 => 19 * ovr f 5
  | k + 1 => (f.at k + cry f k) / 2251799813685248
theorem ovr1 (f : F5) : ovr f 1 = (f.a0 + 19) / 2251799813685248 := rfl
theorem ovr2 (f : F5) : ovr f 2 = (f.a1 + ovr f 1) / 2251799813685248 := rfl
theorem ovr3 (f : F5) : ovr f 3 = (f.a2 + ovr f 2) / 2251799813685248 := rfl
theorem ovr4 (f : F5) : ovr f 4 = (f.a3 + ovr f 3) / 2251799813685248 := rfl
theorem ovr5 (f : F5) : ovr f 5 = (f.a4 + ovr f 4) / 2251799813685248 := rfl
theorem cry0 (f : F5) : cry f 0 = 19 * ovr f 5 := rfl
theorem cry1 (f : F5) : cry f 1 = (f.a0 + cry f 0) / 2251799813685248 := rfl
theorem cry2 (f : F5) : cry f 2 = (f.a1 + cry f 1) / 2251799813685248 := rfl
theorem cry3 (f : F5) : cry f 3 = (f.a2 + cry f 2) / 2251799813685248 := rfl
theorem cry4 (f : F5) : cry f 4 = (f.a3 + cry f 3) / 2251799813685248 := rfl
theorem cry5 (f : F5) : cry f 5 = (f.a4 + cry f 4) / 2251799813685248 := rfl
def redF (f : F5) : F5 := ⟨(f.a0 + cry f 0) % 2251799813685248, (f.a1 + cry f 1) % 2251799813685248, (f.a2 + cry f 2) % 2251799813685248, (f.a3 + cry f 3) % 2251799813685248, (f.a4 + cry f 4) % 2251799813685248⟩
def redL (f : F5) (k : Nat) : List SV := [Sum.inl (.int .u64 (selI 0 k (redF f).a0 f.a0)), Sum.inl (.int .u64 (selI 1 k (redF f).a1 f.a1)), Sum.inl (.int .u64 (selI 2 k (redF f).a2 f.a2)), Sum.inl (.int .u64 (selI 3 k (redF f).a3 f.a3)), Sum.inl (.int .u64 (selI 4 k (redF f).a4 f.a4))]
theorem ovr_val (f : F5) (h : f.Ok) : (ovr f 5 = 0 ∧ f.v < PP) ∨ (ovr f 5 = 1 ∧ PP ≤ f.v) := by
  obtain ⟨⟨h0, h0'⟩, ⟨h1, h1'⟩, ⟨h2, h2'⟩, ⟨h3, h3'⟩, ⟨h4, h4'⟩⟩ := h
  have e1 := ovr1 f
  have e2 := ovr2 f
  have e3 := ovr3 f
  have e4 := ovr4 f
  have e5 := ovr5 f
  generalize ovr f 1 = o1 at *
  generalize ovr f 2 = o2 at *
  generalize ovr f 3 = o3 at *
  generalize ovr f 4 = o4 at *
  generalize ovr f 5 = o5 at *
  simp only [F5.v, PP]
  have : o5 = 0 ∨ o5 = 1 := by omega
  rcases this with rfl | rfl
  · left; refine ⟨rfl, ?_⟩; omega
  · right; refine ⟨rfl, ?_⟩; omega
theorem redF_val (f : F5) (h : f.Ok) : (redF f).v = f.v % PP ∧ (0 ≤ (redF f).a0 ∧ (redF f).a0 < 2251799813685248) ∧ (0 ≤ (redF f).a1 ∧ (redF f).a1 < 2251799813685248) ∧ (0 ≤ (redF f).a2 ∧ (redF f).a2 < 2251799813685248) ∧ (0 ≤ (redF f).a3 ∧ (redF f).a3 < 2251799813685248) ∧ (0 ≤ (redF f).a4 ∧ (redF f).a4 < 2251799813685248) := by
  obtain ⟨⟨h0, h0'⟩, ⟨h1, h1'⟩, ⟨h2, h2'⟩, ⟨h3, h3'⟩, ⟨h4, h4'⟩⟩ := h
  refine ⟨?_, ?_⟩
  · have ho := ovr_val f ⟨⟨h0, h0'⟩, ⟨h1, h1'⟩, ⟨h2, h2'⟩, ⟨h3, h3'⟩, ⟨h4, h4'⟩⟩
    have e0 := cry0 f
    have e1 := cry1 f
    have e2 := cry2 f
    have e3 := cry3 f
    have e4 := cry4 f
    have e5 := cry5 f
    simp only [redF]
    generalize cry f 0 = c0 at *
    generalize cry f 1 = c1 at *
    generalize cry f 2 = c2 at *
    generalize cry f 3 = c3 at *
    generalize cry f 4 = c4 at *
    generalize cry f 5 = c5 at *
    generalize ovr f 5 = o at *
    simp only [F5.v, PP] at *
    rcases ho with ⟨rfl, hv⟩ | ⟨rfl, hv⟩
    · have : c5 = 0 := by omega
      omega
    · have : c5 = 1 := by omega
      omega
  · simp only [redF]
    omega
set_option maxHeartbeats 2000000 in
set_option maxRecDepth 20000 in
theorem reduced_fun (f : F5) (h : f.Ok) : Fun Tryd.prog 47 [Ag f.l] (Ag (redF f).l) := by
  obtain ⟨⟨h0, h0'⟩, ⟨h1, h1'⟩, ⟨h2, h2'⟩, ⟨h3, h3'⟩, ⟨h4, h4'⟩⟩ := h
  have o1 : 0 ≤ ovr f 1 ∧ ovr f 1 ≤ 1 := by rw [ovr1]; omega
  have o2 : 0 ≤ ovr f 2 ∧ ovr f 2 ≤ 1 := by rw [ovr2]; omega
  have o3 : 0 ≤ ovr f 3 ∧ ovr f 3 ≤ 1 := by rw [ovr3]; omega
  have o4 : 0 ≤ ovr f 4 ∧ ovr f 4 ≤ 1 := by rw [ovr4]; omega
  have o0 : ovr f 0 = 19 := rfl
  refine fun_of_vc Tryd.func47 rfl (by kernel_rfl) (by simp [Tryd.ntmps47]) rfl rfl ?_
  simp only [F5.l, Tryd.results47, sn_upto, sn_from, slN_def, run_cap, rules, rules2, loopRules, Tryd.facts, base0, Int.toNat_zero, Nat.reduceAdd, Nat.reduceMul, Nat.reduceSub, Nat.reduceLT, Nat.reduceLeDiff, Nat.reduceEqDiff, Int.reduceLE, Int.reduceLT, Int.reduceToNat, Int.reduceNe, Int.reduceEq, not_false_eq_true, Nat.reduceBEq, Nat.reduceDiv, Int.natCast_zero, Int.natCast_one, Int.reduceAdd, Int.reduceSub, reduceIte, ↓reduceIte, Value.oneCell', splice, reduceCtorEq]
  refine loop_count 5 (fun k => [(1, Ptr 0 0), (2, Ptr 1 0), (3, I .u64 (ovr f k)), (8, Ag f.l), (9, I .i64 k)])
    (fun _ => [(0, ⟨true, f.l⟩), (1, ⟨true, [Sum.inl (Value.int IntKind.u64 0), Sum.inl (Value.int IntKind.u64 0), Sum.inl (Value.int IntKind.u64 0), Sum.inl (Value.int IntKind.u64 0), Sum.inl (Value.int IntKind.u64 0)]⟩)]) _ ?_ ?_ ?_
  · simp only [F5.l, sn_upto, sn_from, slN_def, run_cap, rules, rules2, loopRules, Tryd.facts, base0, Int.toNat_zero, Nat.reduceAdd, Nat.reduceMul, Nat.reduceSub, Nat.reduceLT, Nat.reduceLeDiff, Nat.reduceEqDiff, Int.reduceLE, Int.reduceLT, Int.reduceToNat, Int.reduceNe, Int.reduceEq, not_false_eq_true, Nat.reduceBEq, Nat.reduceDiv, Int.natCast_zero, Int.natCast_one, Int.reduceAdd, Int.reduceSub, reduceIte, ↓reduceIte, Value.oneCell', splice, reduceCtorEq]
    rfl
  · intro k hk
    match k, hk with
    | 0, _ =>
      simp only [F5.l, sn_upto, sn_from, slN_def, run_cap, rules, rules2, loopRules, Tryd.facts, base0, Int.toNat_zero, Nat.reduceAdd, Nat.reduceMul, Nat.reduceSub, Nat.reduceLT, Nat.reduceLeDiff, Nat.reduceEqDiff, Int.reduceLE, Int.reduceLT, Int.reduceToNat, Int.reduceNe, Int.reduceEq, not_false_eq_true, Nat.reduceBEq, Nat.reduceDiv, Int.natCast_zero, Int.natCast_one, Int.reduceAdd, Int.reduceSub, reduceIte, ↓reduceIte, Value.oneCell', splice, reduceCtorEq]
      refine vcIf_yes (by decide) ?_
      simp only [shr51, sn_upto, sn_from, slN_def, run_cap, rules, rules2, loopRules, Tryd.facts, base0, Int.toNat_zero, Nat.reduceAdd, Nat.reduceMul, Nat.reduceSub, Nat.reduceLT, Nat.reduceLeDiff, Nat.reduceEqDiff, Int.reduceLE, Int.reduceLT, Int.reduceToNat, Int.reduceNe, Int.reduceEq, not_false_eq_true, Nat.reduceBEq, Nat.reduceDiv, Int.natCast_zero, Int.natCast_one, Int.reduceAdd, Int.reduceSub, reduceIte, ↓reduceIte, Value.oneCell', splice, reduceCtorEq]
      rw [wrap_u64_in _ (by omega) (by omega)]
      exact ⟨rfl, rfl⟩
    | 1, _ =>
      simp only [F5.l, sn_upto, sn_from, slN_def, run_cap, rules, rules2, loopRules, Tryd.facts, base0, Int.toNat_zero, Nat.reduceAdd, Nat.reduceMul, Nat.reduceSub, Nat.reduceLT, Nat.reduceLeDiff, Nat.reduceEqDiff, Int.reduceLE, Int.reduceLT, Int.reduceToNat, Int.reduceNe, Int.reduceEq, not_false_eq_true, Nat.reduceBEq, Nat.reduceDiv, Int.natCast_zero, Int.natCast_one, Int.reduceAdd, Int.reduceSub, reduceIte, ↓reduceIte, Value.oneCell', splice, reduceCtorEq]
      refine vcIf_yes (by decide) ?_
      simp only [shr51, sn_upto, sn_from, slN_def, run_cap, rules, rules2, loopRules, Tryd.facts, base0, Int.toNat_zero, Nat.reduceAdd, Nat.reduceMul, Nat.reduceSub, Nat.reduceLT, Nat.reduceLeDiff, Nat.reduceEqDiff, Int.reduceLE, Int.reduceLT, Int.reduceToNat, Int.reduceNe, Int.reduceEq, not_false_eq_true, Nat.reduceBEq, Nat.reduceDiv, Int.natCast_zero, Int.natCast_one, Int.reduceAdd, Int.reduceSub, reduceIte, ↓reduceIte, Value.oneCell', splice, reduceCtorEq]
      rw [wrap_u64_in _ (by omega) (by omega)]
      exact ⟨rfl, rfl⟩
    | 2, _ =>
      simp only [F5.l, sn_upto, sn_from, slN_def, run_cap, rules, rules2, loopRules, Tryd.facts, base0, Int.toNat_zero, Nat.reduceAdd, Nat.reduceMul, Nat.reduceSub, Nat.reduceLT, Nat.reduceLeDiff, Nat.reduceEqDiff, Int.reduceLE, Int.reduceLT, Int.reduceToNat, Int.reduceNe, Int.reduceEq, not_false_eq_true, Nat.reduceBEq, Nat.reduceDiv, Int.natCast_zero, Int.natCast_one, Int.reduceAdd, Int.reduceSub, reduceIte, ↓reduceIte, Value.oneCell', splice, reduceCtorEq]
      refine vcIf_yes (by decide) ?_
      simp only [shr51, sn_upto, sn_from, slN_def, run_cap, rules, rules2, loopRules, Tryd.facts, base0, Int.toNat_zero, Nat.reduceAdd, Nat.reduceMul, Nat.reduceSub, Nat.reduceLT, Nat.reduceLeDiff, Nat.reduceEqDiff, Int.reduceLE, Int.reduceLT, Int.reduceToNat, Int.reduceNe, Int.reduceEq, not_false_eq_true, Nat.reduceBEq, Nat.reduceDiv, Int.natCast_zero, Int.natCast_one, Int.reduceAdd, Int.reduceSub, reduceIte, ↓reduceIte, Value.oneCell', splice, reduceCtorEq]
      rw [wrap_u64_in _ (by omega) (by omega)]
      exact ⟨rfl, rfl⟩
    | 3, _ =>
      simp only [F5.l, sn_upto, sn_from, slN_def, run_cap, rules, rules2, loopRules, Tryd.facts, base0, Int.toNat_zero, Nat.reduceAdd, Nat.reduceMul, Nat.reduceSub, Nat.reduceLT, Nat.reduceLeDiff, Nat.reduceEqDiff, Int.reduceLE, Int.reduceLT, Int.reduceToNat, Int.reduceNe, Int.reduceEq, not_false_eq_true, Nat.reduceBEq, Nat.reduceDiv, Int.natCast_zero, Int.natCast_one, Int.reduceAdd, Int.reduceSub, reduceIte, ↓reduceIte, Value.oneCell', splice, reduceCtorEq]
      refine vcIf_yes (by decide) ?_
      simp only [shr51, sn_upto, sn_from, slN_def, run_cap, rules, rules2, loopRules, Tryd.facts, base0, Int.toNat_zero, Nat.reduceAdd, Nat.reduceMul, Nat.reduceSub, Nat.reduceLT, Nat.reduceLeDiff, Nat.reduceEqDiff, Int.reduceLE, Int.reduceLT, Int.reduceToNat, Int.reduceNe, Int.reduceEq, not_false_eq_true, Nat.reduceBEq, Nat.reduceDiv, Int.natCast_zero, Int.natCast_one, Int.reduceAdd, Int.reduceSub, reduceIte, ↓reduceIte, Value.oneCell', splice, reduceCtorEq]
      rw [wrap_u64_in _ (by omega) (by omega)]
      exact ⟨rfl, rfl⟩
    | 4, _ =>
      simp only [F5.l, sn_upto, sn_from, slN_def, run_cap, rules, rules2, loopRules, Tryd.facts, base0, Int.toNat_zero, Nat.reduceAdd, Nat.reduceMul, Nat.reduceSub, Nat.reduceLT, Nat.reduceLeDiff, Nat.reduceEqDiff, Int.reduceLE, Int.reduceLT, Int.reduceToNat, Int.reduceNe, Int.reduceEq, not_false_eq_true, Nat.reduceBEq, Nat.reduceDiv, Int.natCast_zero, Int.natCast_one, Int.reduceAdd, Int.reduceSub, reduceIte, ↓reduceIte, Value.oneCell', splice, reduceCtorEq]
      refine vcIf_yes (by decide) ?_
      simp only [shr51, sn_upto, sn_from, slN_def, run_cap, rules, rules2, loopRules, Tryd.facts, base0, Int.toNat_zero, Nat.reduceAdd, Nat.reduceMul, Nat.reduceSub, Nat.reduceLT, Nat.reduceLeDiff, Nat.reduceEqDiff, Int.reduceLE, Int.reduceLT, Int.reduceToNat, Int.reduceNe, Int.reduceEq, not_false_eq_true, Nat.reduceBEq, Nat.reduceDiv, Int.natCast_zero, Int.natCast_one, Int.reduceAdd, Int.reduceSub, reduceIte, ↓reduceIte, Value.oneCell', splice, reduceCtorEq]
      rw [wrap_u64_in _ (by omega) (by omega)]
      exact ⟨rfl, rfl⟩
  · simp only [F5.l, sn_upto, sn_from, slN_def, run_cap, rules, rules2, loopRules, Tryd.facts, base0, Int.toNat_zero, Nat.reduceAdd, Nat.reduceMul, Nat.reduceSub, Nat.reduceLT, Nat.reduceLeDiff, Nat.reduceEqDiff, Int.reduceLE, Int.reduceLT, Int.reduceToNat, Int.reduceNe, Int.reduceEq, not_false_eq_true, Nat.reduceBEq, Nat.reduceDiv, Int.natCast_zero, Int.natCast_one, Int.reduceAdd, Int.reduceSub, reduceIte, ↓reduceIte, Value.oneCell', splice, reduceCtorEq]
    refine vcIf_no (by decide) ?_
    have ho : 0 ≤ ovr f 5 ∧ ovr f 5 ≤ 1 := by rw [ovr5]; omega
    have hc : IntKind.u64.wrap (19 * ovr f 5) = cry f 0 := by rw [wrap_u64_in _ (by omega) (by omega)]; rfl
    simp only [hc, sn_upto, sn_from, slN_def, run_cap, rules, rules2, loopRules, Tryd.facts, base0, Int.toNat_zero, Nat.reduceAdd, Nat.reduceMul, Nat.reduceSub, Nat.reduceLT, Nat.reduceLeDiff, Nat.reduceEqDiff, Int.reduceLE, Int.reduceLT, Int.reduceToNat, Int.reduceNe, Int.reduceEq, not_false_eq_true, Nat.reduceBEq, Nat.reduceDiv, Int.natCast_zero, Int.natCast_one, Int.reduceAdd, Int.reduceSub, reduceIte, ↓reduceIte, Value.oneCell', splice, reduceCtorEq]
    have c0 : 0 ≤ cry f 0 ∧ cry f 0 ≤ 19 := by rw [cry0]; omega
    have c1 : 0 ≤ cry f 1 ∧ cry f 1 ≤ 1 := by rw [cry1]; omega
    have c2 : 0 ≤ cry f 2 ∧ cry f 2 ≤ 1 := by rw [cry2]; omega
    have c3 : 0 ≤ cry f 3 ∧ cry f 3 ≤ 1 := by rw [cry3]; omega
    have c4 : 0 ≤ cry f 4 ∧ cry f 4 ≤ 1 := by rw [cry4]; omega
    refine loop_count 5 (fun k => [(1, Ptr 0 0), (2, Ptr 1 0), (6, I .u64 (cry f k)), (19, I .i64 k)])
      (fun k => [(0, ⟨true, redL f k⟩), (1, ⟨true, [Sum.inl (Value.int IntKind.u64 0), Sum.inl (Value.int IntKind.u64 0), Sum.inl (Value.int IntKind.u64 0), Sum.inl (Value.int IntKind.u64 0), Sum.inl (Value.int IntKind.u64 0)]⟩)]) _ ?_ ?_ ?_
    · simp only [redL, selI, sn_upto, sn_from, slN_def, run_cap, rules, rules2, loopRules, Tryd.facts, base0, Int.toNat_zero, Nat.reduceAdd, Nat.reduceMul, Nat.reduceSub, Nat.reduceLT, Nat.reduceLeDiff, Nat.reduceEqDiff, Int.reduceLE, Int.reduceLT, Int.reduceToNat, Int.reduceNe, Int.reduceEq, not_false_eq_true, Nat.reduceBEq, Nat.reduceDiv, Int.natCast_zero, Int.natCast_one, Int.reduceAdd, Int.reduceSub, reduceIte, ↓reduceIte, Value.oneCell', splice, reduceCtorEq]
    · intro k hk
      match k, hk with
      | 0, _ =>
        simp only [redL, selI, sn_upto, sn_from, slN_def, run_cap, rules, rules2, loopRules, Tryd.facts, base0, Int.toNat_zero, Nat.reduceAdd, Nat.reduceMul, Nat.reduceSub, Nat.reduceLT, Nat.reduceLeDiff, Nat.reduceEqDiff, Int.reduceLE, Int.reduceLT, Int.reduceToNat, Int.reduceNe, Int.reduceEq, not_false_eq_true, Nat.reduceBEq, Nat.reduceDiv, Int.natCast_zero, Int.natCast_one, Int.reduceAdd, Int.reduceSub, reduceIte, ↓reduceIte, Value.oneCell', splice, reduceCtorEq]
        refine vcIf_yes (by decide) ?_
        simp only [shr51, sn_upto, sn_from, slN_def, run_cap, rules, rules2, loopRules, Tryd.facts, base0, Int.toNat_zero, Nat.reduceAdd, Nat.reduceMul, Nat.reduceSub, Nat.reduceLT, Nat.reduceLeDiff, Nat.reduceEqDiff, Int.reduceLE, Int.reduceLT, Int.reduceToNat, Int.reduceNe, Int.reduceEq, not_false_eq_true, Nat.reduceBEq, Nat.reduceDiv, Int.natCast_zero, Int.natCast_one, Int.reduceAdd, Int.reduceSub, reduceIte, ↓reduceIte, Value.oneCell', splice, reduceCtorEq]
        rw [wrap_u64_in (f.a0 + _) (by omega) (by omega), and51 _ (by omega) (by omega)]
        exact ⟨⟨rfl, rfl⟩, rfl⟩
      | 1, _ =>
        simp only [redL, selI, sn_upto, sn_from, slN_def, run_cap, rules, rules2, loopRules, Tryd.facts, base0, Int.toNat_zero, Nat.reduceAdd, Nat.reduceMul, Nat.reduceSub, Nat.reduceLT, Nat.reduceLeDiff, Nat.reduceEqDiff, Int.reduceLE, Int.reduceLT, Int.reduceToNat, Int.reduceNe, Int.reduceEq, not_false_eq_true, Nat.reduceBEq, Nat.reduceDiv, Int.natCast_zero, Int.natCast_one, Int.reduceAdd, Int.reduceSub, reduceIte, ↓reduceIte, Value.oneCell', splice, reduceCtorEq]
        refine vcIf_yes (by decide) ?_
        simp only [shr51, sn_upto, sn_from, slN_def, run_cap, rules, rules2, loopRules, Tryd.facts, base0, Int.toNat_zero, Nat.reduceAdd, Nat.reduceMul, Nat.reduceSub, Nat.reduceLT, Nat.reduceLeDiff, Nat.reduceEqDiff, Int.reduceLE, Int.reduceLT, Int.reduceToNat, Int.reduceNe, Int.reduceEq, not_false_eq_true, Nat.reduceBEq, Nat.reduceDiv, Int.natCast_zero, Int.natCast_one, Int.reduceAdd, Int.reduceSub, reduceIte, ↓reduceIte, Value.oneCell', splice, reduceCtorEq]
        rw [wrap_u64_in (f.a1 + _) (by omega) (by omega), and51 _ (by omega) (by omega)]
        exact ⟨⟨rfl, rfl⟩, rfl⟩
      | 2, _ =>
        simp only [redL, selI, sn_upto, sn_from, slN_def, run_cap, rules, rules2, loopRules, Tryd.facts, base0, Int.toNat_zero, Nat.reduceAdd, Nat.reduceMul, Nat.reduceSub, Nat.reduceLT, Nat.reduceLeDiff, Nat.reduceEqDiff, Int.reduceLE, Int.reduceLT, Int.reduceToNat, Int.reduceNe, Int.reduceEq, not_false_eq_true, Nat.reduceBEq, Nat.reduceDiv, Int.natCast_zero, Int.natCast_one, Int.reduceAdd, Int.reduceSub, reduceIte, ↓reduceIte, Value.oneCell', splice, reduceCtorEq]
        refine vcIf_yes (by decide) ?_
        simp only [shr51, sn_upto, sn_from, slN_def, run_cap, rules, rules2, loopRules, Tryd.facts, base0, Int.toNat_zero, Nat.reduceAdd, Nat.reduceMul, Nat.reduceSub, Nat.reduceLT, Nat.reduceLeDiff, Nat.reduceEqDiff, Int.reduceLE, Int.reduceLT, Int.reduceToNat, Int.reduceNe, Int.reduceEq, not_false_eq_true, Nat.reduceBEq, Nat.reduceDiv, Int.natCast_zero, Int.natCast_one, Int.reduceAdd, Int.reduceSub, reduceIte, ↓reduceIte, Value.oneCell', splice, reduceCtorEq]
        rw [wrap_u64_in (f.a2 + _) (by omega) (by omega), and51 _ (by omega) (by omega)]
        exact ⟨⟨rfl, rfl⟩, rfl⟩
      | 3, _ =>
        simp only [redL, selI, sn_upto, sn_from, slN_def, run_cap, rules, rules2, loopRules, Tryd.facts, base0, Int.toNat_zero, Nat.reduceAdd, Nat.reduceMul, Nat.reduceSub, Nat.reduceLT, Nat.reduceLeDiff, Nat.reduceEqDiff, Int.reduceLE, Int.reduceLT, Int.reduceToNat, Int.reduceNe, Int.reduceEq, not_false_eq_true, Nat.reduceBEq, Nat.reduceDiv, Int.natCast_zero, Int.natCast_one, Int.reduceAdd, Int.reduceSub, reduceIte, ↓reduceIte, Value.oneCell', splice, reduceCtorEq]
        refine vcIf_yes (by decide) ?_
        simp only [shr51, sn_upto, sn_from, slN_def, run_cap, rules, rules2, loopRules, Tryd.facts, base0, Int.toNat_zero, Nat.reduceAdd, Nat.reduceMul, Nat.reduceSub, Nat.reduceLT, Nat.reduceLeDiff, Nat.reduceEqDiff, Int.reduceLE, Int.reduceLT, Int.reduceToNat, Int.reduceNe, Int.reduceEq, not_false_eq_true, Nat.reduceBEq, Nat.reduceDiv, Int.natCast_zero, Int.natCast_one, Int.reduceAdd, Int.reduceSub, reduceIte, ↓reduceIte, Value.oneCell', splice, reduceCtorEq]
        rw [wrap_u64_in (f.a3 + _) (by omega) (by omega), and51 _ (by omega) (by omega)]
        exact ⟨⟨rfl, rfl⟩, rfl⟩
      | 4, _ =>
        simp only [redL, selI, sn_upto, sn_from, slN_def, run_cap, rules, rules2, loopRules, Tryd.facts, base0, Int.toNat_zero, Nat.reduceAdd, Nat.reduceMul, Nat.reduceSub, Nat.reduceLT, Nat.reduceLeDiff, Nat.reduceEqDiff, Int.reduceLE, Int.reduceLT, Int.reduceToNat, Int.reduceNe, Int.reduceEq, not_false_eq_true, Nat.reduceBEq, Nat.reduceDiv, Int.natCast_zero, Int.natCast_one, Int.reduceAdd, Int.reduceSub, reduceIte, ↓reduceIte, Value.oneCell', splice, reduceCtorEq]
        refine vcIf_yes (by decide) ?_
        simp only [shr51, sn_upto, sn_from, slN_def, run_cap, rules, rules2, loopRules, Tryd.facts, base0, Int.toNat_zero, Nat.reduceAdd, Nat.reduceMul, Nat.reduceSub, Nat.reduceLT, Nat.reduceLeDiff, Nat.reduceEqDiff, Int.reduceLE, Int.reduceLT, Int.reduceToNat, Int.reduceNe, Int.reduceEq, not_false_eq_true, Nat.reduceBEq, Nat.reduceDiv, Int.natCast_zero, Int.natCast_one, Int.reduceAdd, Int.reduceSub, reduceIte, ↓reduceIte, Value.oneCell', splice, reduceCtorEq]
        rw [wrap_u64_in (f.a4 + _) (by omega) (by omega), and51 _ (by omega) (by omega)]
        exact ⟨⟨rfl, rfl⟩, rfl⟩
    · simp only [redL, selI, sn_upto, sn_from, slN_def, run_cap, rules, rules2, loopRules, Tryd.facts, base0, Int.toNat_zero, Nat.reduceAdd, Nat.reduceMul, Nat.reduceSub, Nat.reduceLT, Nat.reduceLeDiff, Nat.reduceEqDiff, Int.reduceLE, Int.reduceLT, Int.reduceToNat, Int.reduceNe, Int.reduceEq, not_false_eq_true, Nat.reduceBEq, Nat.reduceDiv, Int.natCast_zero, Int.natCast_one, Int.reduceAdd, Int.reduceSub, reduceIte, ↓reduceIte, Value.oneCell', splice, reduceCtorEq]
      refine vcIf_no (by decide) ?_
      simp only [F5.l, sn_upto, sn_from, slN_def, run_cap, rules, rules2, loopRules, Tryd.facts, base0, Int.toNat_zero, Nat.reduceAdd, Nat.reduceMul, Nat.reduceSub, Nat.reduceLT, Nat.reduceLeDiff, Nat.reduceEqDiff, Int.reduceLE, Int.reduceLT, Int.reduceToNat, Int.reduceNe, Int.reduceEq, not_false_eq_true, Nat.reduceBEq, Nat.reduceDiv, Int.natCast_zero, Int.natCast_one, Int.reduceAdd, Int.reduceSub, reduceIte, ↓reduceIte, Value.oneCell', splice, reduceCtorEq]
/-! ### Limbs into bytes -/
def keyW (g : F5) : Nat → Int
  | 0 => g.a0 + g.a1 * 2251799813685248 % 18446744073709551616
  | 1 => g.a1 / 8192 + g.a2 * 274877906944 % 18446744073709551616
  | 2 => g.a2 / 67108864 + g.a3 * 33554432 % 18446744073709551616
  | _ => g.a3 / 549755813888 + g.a4 * 4096 % 18446744073709551616
def byteW (W : Nat → Int) (i : Nat) : Int := W (i / 8) / 2 ^ (i % 8 * 8) % 256
theorem join2 (x b : Int) (n m : Nat) (h : n + m = 64) (hn : n < 64) (N M : Int) (hN : (2 : Int) ^ n = N) (hM : (2 : Int) ^ m = M) (hx : 0 ≤ x) (hx' : x < N) :
    bitI .or .u64 x (b * N % 18446744073709551616) = x + b * N % 18446744073709551616 := by
  have hNM : N * M = 18446744073709551616 := by rw [← hN, ← hM, ← Int.pow_add, h]; rfl
  have hM0 : 0 < M := by rw [← hM]; exact Int.pow_pos (by decide)
  have hN0 : 0 < N := by rw [← hN]; exact Int.pow_pos (by decide)
  have e : b * N % 18446744073709551616 = b % M * N := by rw [← hNM, Int.mul_comm b N, Int.mul_emod_mul_of_pos _ _ hN0, Int.mul_comm]
  have hbm := Int.emod_nonneg b (Int.ne_of_gt hM0)
  have hbl := Int.emod_lt_of_pos b hM0
  have hle : b % M * N < 18446744073709551616 := by rw [← hNM, Int.mul_comm N M]; exact Int.mul_lt_mul_of_pos_right hbl hN0
  rw [e, ← hN, or_step x (b % M) n hn hx (by rw [hN]; exact hx') hbm (by rw [hN]; exact hle)]
theorem keyW_bd (g : F5) (h0 : 0 ≤ g.a0 ∧ g.a0 < 2251799813685248) (h1 : 0 ≤ g.a1 ∧ g.a1 < 2251799813685248) (h2 : 0 ≤ g.a2 ∧ g.a2 < 2251799813685248) (h3 : 0 ≤ g.a3 ∧ g.a3 < 2251799813685248) (h4 : 0 ≤ g.a4 ∧ g.a4 < 2251799813685248) :
    ∀ j, 0 ≤ keyW g j ∧ keyW g j < 18446744073709551616
  | 0 => by simp only [keyW]; omega
  | 1 => by simp only [keyW]; omega
  | 2 => by simp only [keyW]; omega
  | _ + 3 => by simp only [keyW]; omega
theorem keyW_val (g : F5) (h0 : 0 ≤ g.a0 ∧ g.a0 < 2251799813685248) (h1 : 0 ≤ g.a1 ∧ g.a1 < 2251799813685248) (h2 : 0 ≤ g.a2 ∧ g.a2 < 2251799813685248) (h3 : 0 ≤ g.a3 ∧ g.a3 < 2251799813685248) (h4 : 0 ≤ g.a4 ∧ g.a4 < 2251799813685248) :
    g.v = keyW g 0 + 18446744073709551616 * keyW g 1 + 340282366920938463463374607431768211456 * keyW g 2 + 6277101735386680763835789423207666416102355444464034512896 * keyW g 3 := by
  simp only [keyW, F5.v]; omega
theorem row_upto {k : IntKind} {n m : Nat} {f : Nat → Int} : rowI k n (upd (fun i => if i < m then f i else 0) m (f m)) = rowI k n (fun i => if i < m + 1 then f i else 0) := by
  refine rowI_congr fun i _ => ?_
  simp only [upd]
  by_cases h : i = m
  · subst h; simp
  · rw [if_neg h]
    by_cases h2 : i < m
    · rw [if_pos h2, if_pos (by omega)]
    · rw [if_neg h2, if_neg (by omega)]
set_option maxHeartbeats 2000000 in
set_option maxRecDepth 20000 in
theorem keyOf_fun (f : F5) (hf : f.Ok) : Fun Tryd.prog 31 [Ag f.l] (Ag (rowI .u8 32 (byteW (keyW (redF f))))) := by
  refine fun_of_vc Tryd.func31 rfl (by kernel_rfl) (by simp [Tryd.ntmps31]) rfl rfl ?_
  simp only [F5.l, Tryd.results31, rowI_length, rep_all, row_zero, sn_upto, sn_from, slN_def, run_cap, rules, rules2, loopRules, Tryd.facts, base0, Int.toNat_zero, Nat.reduceAdd, Nat.reduceMul, Nat.reduceSub, Nat.reduceLT, Nat.reduceLeDiff, Nat.reduceEqDiff, Int.reduceLE, Int.reduceLT, Int.reduceToNat, Int.reduceNe, Int.reduceEq, not_false_eq_true, Nat.reduceBEq, Nat.reduceDiv, Int.natCast_zero, Int.natCast_one, Int.reduceAdd, Int.reduceSub, reduceIte, ↓reduceIte, Value.oneCell', splice, reduceCtorEq]
  refine (reduced_fun f hf).vcCall ?_
  obtain ⟨_, h0, h1, h2, h3, h4⟩ := redF_val f hf
  generalize redF f = g at *
  have j0 := join2 g.a0 g.a1 51 13 rfl (by decide) 2251799813685248 8192 rfl rfl h0.1 h0.2
  have j1 := join2 (g.a1 / 8192) g.a2 38 26 rfl (by decide) 274877906944 67108864 rfl rfl (by omega) (by omega)
  have j2 := join2 (g.a2 / 67108864) g.a3 25 39 rfl (by decide) 33554432 549755813888 rfl rfl (by omega) (by omega)
  have j3 := join2 (g.a3 / 549755813888) g.a4 12 52 rfl (by decide) 4096 4503599627370496 rfl rfl (by omega) (by omega)
  simp only [F5.l, rowI_length, rep_all, row_zero, show shlI .u64 g.a1 51 = g.a1 * 2251799813685248 % 18446744073709551616 from shl64 _ 51 (by decide), show shlI .u64 g.a2 38 = g.a2 * 274877906944 % 18446744073709551616 from shl64 _ 38 (by decide), show shlI .u64 g.a3 25 = g.a3 * 33554432 % 18446744073709551616 from shl64 _ 25 (by decide), show shlI .u64 g.a4 12 = g.a4 * 4096 % 18446744073709551616 from shl64 _ 12 (by decide),
    show shrI .u64 g.a1 13 = g.a1 / 8192 from shr64 _ 13 (by decide), show shrI .u64 g.a2 26 = g.a2 / 67108864 from shr64 _ 26 (by decide), show shrI .u64 g.a3 39 = g.a3 / 549755813888 from shr64 _ 39 (by decide), j0, j1, j2, j3, sn_upto, sn_from, slN_def, run_cap, rules, rules2, loopRules, Tryd.facts, base0, Int.toNat_zero, Nat.reduceAdd, Nat.reduceMul, Nat.reduceSub, Nat.reduceLT, Nat.reduceLeDiff, Nat.reduceEqDiff, Int.reduceLE, Int.reduceLT, Int.reduceToNat, Int.reduceNe, Int.reduceEq, not_false_eq_true, Nat.reduceBEq, Nat.reduceDiv, Int.natCast_zero, Int.natCast_one, Int.reduceAdd, Int.reduceSub, reduceIte, ↓reduceIte, Value.oneCell', splice, reduceCtorEq]
  refine loop_count 32 (fun k => [(2, Ptr 1 0), (3, Ptr 33 0), (4, Ptr 35 0), (36, I .i64 k)])
    (fun k => [(1, ⟨true, rowI .u8 32 (fun _ => 0)⟩), (33, ⟨true, rowI .u64 4 (keyW g)⟩), (35, ⟨true, rowI .u8 32 (fun i => if i < k then byteW (keyW g) i else 0)⟩)]) _ ?_ ?_ ?_
  · simp only [sok_row, sn_upto, sn_from, slN_def, run_cap, rules, rules2, loopRules, Tryd.facts, base0, Int.toNat_zero, Nat.reduceAdd, Nat.reduceMul, Nat.reduceSub, Nat.reduceLT, Nat.reduceLeDiff, Nat.reduceEqDiff, Int.reduceLE, Int.reduceLT, Int.reduceToNat, Int.reduceNe, Int.reduceEq, not_false_eq_true, Nat.reduceBEq, Nat.reduceDiv, Int.natCast_zero, Int.natCast_one, Int.reduceAdd, Int.reduceSub, reduceIte, ↓reduceIte, Value.oneCell', rowI_length, rowI_take, rowI_splice, rep_all, row_zero, le_nat, Int.toNat_natCast, Nat.zero_add, sok_row, reduceCtorEq]
    exact ⟨rfl, by simp only [Nat.not_lt_zero, if_false]⟩
  · intro k hk
    have hw := keyW_bd g h0 h1 h2 h3 h4 (k / 8)
    have hm : k % 8 < 8 := Nat.mod_lt _ (by decide)
    have hq := quo8 k (by omega)
    have hmul : IntKind.i64.wrap (((k % 8 : Nat) : Int) * 8) = ((k % 8 * 8 : Nat) : Int) := by rw [wrap_i64 _ (by omega) (by omega)]; omega
    have hsh : IntKind.u8.wrap (shrI .u64 (keyW g (k / 8)) ((k % 8 * 8 : Nat) : Int)) = byteW (keyW g) k := by
      rw [shr64 _ _ (by omega), wrap_u8]; rfl
    have hl4 : (((k / 8 : Nat) : Int) < 4) = True := lt_nat (m := 4) (by omega)
    have hl32 : ((k : Int) < 32) = True := lt_nat (m := 32) hk
    simp only [sn_upto, sn_from, slN_def, run_cap, rules, rules2, loopRules, Tryd.facts, base0, Int.toNat_zero, Nat.reduceAdd, Nat.reduceMul, Nat.reduceSub, Nat.reduceLT, Nat.reduceLeDiff, Nat.reduceEqDiff, Int.reduceLE, Int.reduceLT, Int.reduceToNat, Int.reduceNe, Int.reduceEq, not_false_eq_true, Nat.reduceBEq, Nat.reduceDiv, Int.natCast_zero, Int.natCast_one, Int.reduceAdd, Int.reduceSub, reduceIte, ↓reduceIte, Value.oneCell', rowI_length, rowI_take, rowI_splice, rep_all, row_zero, le_nat, Int.toNat_natCast, Nat.zero_add, sok_row, reduceCtorEq]
    refine vcIf_yes (by simp; omega) ?_
    simp only [hl32, rowI_get .u64 4 _ (k / 8) (by omega), hq, rem8, hmul, hsh, hl4, rowI_splice1 .u8 32 _ k hk, wrapS k (by omega), sn_upto, sn_from, slN_def, run_cap, rules, rules2, loopRules, Tryd.facts, base0, Int.toNat_zero, Nat.reduceAdd, Nat.reduceMul, Nat.reduceSub, Nat.reduceLT, Nat.reduceLeDiff, Nat.reduceEqDiff, Int.reduceLE, Int.reduceLT, Int.reduceToNat, Int.reduceNe, Int.reduceEq, not_false_eq_true, Nat.reduceBEq, Nat.reduceDiv, Int.natCast_zero, Int.natCast_one, Int.reduceAdd, Int.reduceSub, reduceIte, ↓reduceIte, Value.oneCell', rowI_length, rowI_take, rowI_splice, rep_all, row_zero, le_nat, Int.toNat_natCast, Nat.zero_add, sok_row, reduceCtorEq]
    exact ⟨by omega, by rw [row_upto]⟩
  · simp only [sn_upto, sn_from, slN_def, run_cap, rules, rules2, loopRules, Tryd.facts, base0, Int.toNat_zero, Nat.reduceAdd, Nat.reduceMul, Nat.reduceSub, Nat.reduceLT, Nat.reduceLeDiff, Nat.reduceEqDiff, Int.reduceLE, Int.reduceLT, Int.reduceToNat, Int.reduceNe, Int.reduceEq, not_false_eq_true, Nat.reduceBEq, Nat.reduceDiv, Int.natCast_zero, Int.natCast_one, Int.reduceAdd, Int.reduceSub, reduceIte, ↓reduceIte, Value.oneCell', rowI_length, rowI_take, rowI_splice, rep_all, row_zero, le_nat, Int.toNat_natCast, Nat.zero_add, sok_row, reduceCtorEq]
    refine vcIf_no (by decide) ?_
    simp only [sn_upto, sn_from, slN_def, run_cap, rules, rules2, loopRules, Tryd.facts, base0, Int.toNat_zero, Nat.reduceAdd, Nat.reduceMul, Nat.reduceSub, Nat.reduceLT, Nat.reduceLeDiff, Nat.reduceEqDiff, Int.reduceLE, Int.reduceLT, Int.reduceToNat, Int.reduceNe, Int.reduceEq, not_false_eq_true, Nat.reduceBEq, Nat.reduceDiv, Int.natCast_zero, Int.natCast_one, Int.reduceAdd, Int.reduceSub, reduceIte, ↓reduceIte, Value.oneCell', rowI_length, rowI_take, rowI_splice, rep_all, row_zero, le_nat, Int.toNat_natCast, Nat.zero_add, sok_row, reduceCtorEq]
    refine ag_congr fun i hi => ?_
    simp only [hi, if_true]
/-- What the program answers. -/
def progB (K U : Nat → Int) : Nat → Int :=
  byteW (keyW (redF (mulF (ladR (clampK K) (fieldW (wrd U 32)) 255).x2 (invP (ladR (clampK K) (fieldW (wrd U 32)) 255).z2 255))))
theorem curve_fun (K U : Nat → Int) (hK : By K) (hU : By U) : Fun Tryd.prog 24 [Ag (rowI .u8 32 K), Ag (rowI .u8 32 U)] (Ag (rowI .u8 32 (progB K U))) := by
  have hu : (fieldW (wrd U 32)).Ok := fieldW_ok _ fun j => ⟨((wrd_bd U hU 32).1 j).1, ((wrd_bd U hU 32).1 j).2.2⟩
  have hr := ladR_ok (clampK K) _ hu 255
  refine fun_of_vc Tryd.func24 rfl (by kernel_rfl) (by simp [Tryd.ntmps24]) rfl rfl ?_
  simp only [Tryd.results24, sn_upto, sn_from, slN_def, run_cap, rules, rules2, loopRules, Tryd.facts, base0, Int.toNat_zero, Nat.reduceAdd, Nat.reduceMul, Nat.reduceSub, Nat.reduceLT, Nat.reduceLeDiff, Nat.reduceEqDiff, Int.reduceLE, Int.reduceLT, Int.reduceToNat, Int.reduceNe, Int.reduceEq, not_false_eq_true, Nat.reduceBEq, Nat.reduceDiv, Int.natCast_zero, Int.natCast_one, Int.reduceAdd, Int.reduceSub, reduceIte, ↓reduceIte, Value.oneCell', rowI_length, rowI_take, rowI_splice, rep_all, row_zero, le_nat, Int.toNat_natCast, Nat.zero_add, sok_row, reduceCtorEq]
  refine ⟨by kernel_rfl, ?_⟩
  refine Fun.draw (clamped_fun K hK) Tryd.callable33 ?_
  simp only [sn_upto, sn_from, slN_def, run_cap, rules, rules2, loopRules, Tryd.facts, base0, Int.toNat_zero, Nat.reduceAdd, Nat.reduceMul, Nat.reduceSub, Nat.reduceLT, Nat.reduceLeDiff, Nat.reduceEqDiff, Int.reduceLE, Int.reduceLT, Int.reduceToNat, Int.reduceNe, Int.reduceEq, not_false_eq_true, Nat.reduceBEq, Nat.reduceDiv, Int.natCast_zero, Int.natCast_one, Int.reduceAdd, Int.reduceSub, reduceIte, ↓reduceIte, Value.oneCell', rowI_length, rowI_take, rowI_splice, rep_all, row_zero, le_nat, Int.toNat_natCast, Nat.zero_add, sok_row, reduceCtorEq]
  refine Fun.draw (fieldOf_fun U hU) Tryd.callable34 ?_
  simp only [sn_upto, sn_from, slN_def, run_cap, rules, rules2, loopRules, Tryd.facts, base0, Int.toNat_zero, Nat.reduceAdd, Nat.reduceMul, Nat.reduceSub, Nat.reduceLT, Nat.reduceLeDiff, Nat.reduceEqDiff, Int.reduceLE, Int.reduceLT, Int.reduceToNat, Int.reduceNe, Int.reduceEq, not_false_eq_true, Nat.reduceBEq, Nat.reduceDiv, Int.natCast_zero, Int.natCast_one, Int.reduceAdd, Int.reduceSub, reduceIte, ↓reduceIte, Value.oneCell', rowI_length, rowI_take, rowI_splice, rep_all, row_zero, le_nat, Int.toNat_natCast, Nat.zero_add, sok_row, reduceCtorEq]
  refine Fun.draw (ladder_fun _ _ (clampK_by K hK) hu) Tryd.callable32 ?_
  simp only [sn_upto, sn_from, slN_def, run_cap, rules, rules2, loopRules, Tryd.facts, base0, Int.toNat_zero, Nat.reduceAdd, Nat.reduceMul, Nat.reduceSub, Nat.reduceLT, Nat.reduceLeDiff, Nat.reduceEqDiff, Int.reduceLE, Int.reduceLT, Int.reduceToNat, Int.reduceNe, Int.reduceEq, not_false_eq_true, Nat.reduceBEq, Nat.reduceDiv, Int.natCast_zero, Int.natCast_one, Int.reduceAdd, Int.reduceSub, reduceIte, ↓reduceIte, Value.oneCell', rowI_length, rowI_take, rowI_splice, rep_all, row_zero, le_nat, Int.toNat_natCast, Nat.zero_add, sok_row, reduceCtorEq]
  refine Fun.draw (keyOf_fun _ (mulF_ok _ _ hr.x2 (invP_ok _ hr.z2 255))) Tryd.callable31 ?_
  simp only [sn_upto, sn_from, slN_def, run_cap, rules, rules2, loopRules, Tryd.facts, base0, Int.toNat_zero, Nat.reduceAdd, Nat.reduceMul, Nat.reduceSub, Nat.reduceLT, Nat.reduceLeDiff, Nat.reduceEqDiff, Int.reduceLE, Int.reduceLT, Int.reduceToNat, Int.reduceNe, Int.reduceEq, not_false_eq_true, Nat.reduceBEq, Nat.reduceDiv, Int.natCast_zero, Int.natCast_one, Int.reduceAdd, Int.reduceSub, reduceIte, ↓reduceIte, Value.oneCell', rowI_length, rowI_take, rowI_splice, rep_all, row_zero, le_nat, Int.toNat_natCast, Nat.zero_add, sok_row, reduceCtorEq]
  rfl
end Go.Proofs.YtlpckbkmmocaaaaDoor
