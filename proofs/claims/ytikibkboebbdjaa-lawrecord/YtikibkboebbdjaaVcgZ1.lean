/-
  The hash in plain arithmetic: words of 32 bits, the schedule of a block, the rounds, whole messages. Nothing here speaks of a program.
-/
import Derived.Test.YtikibkboebbdjaaVcgK
namespace Go.Vcg
set_option linter.unusedSimpArgs false
set_option linter.unusedVariables false

theorem bit_u32_bd (op : BinOp) (x y : Int) : 0 ≤ bitI op .u32 x y ∧ bitI op .u32 x y < 4294967296 := by
  have h : ∀ z : Int, 0 ≤ IntKind.u32.wrap z ∧ IntKind.u32.wrap z < 4294967296 := fun z => by rw [wrap_u32]; omega
  simp only [bitI]
  split <;> exact h _
theorem wrap_u32_bd (z : Int) : 0 ≤ IntKind.u32.wrap z ∧ IntKind.u32.wrap z < 4294967296 := by rw [wrap_u32]; omega
theorem or_comm' (k : IntKind) (x y : Int) : bitI .or k x y = bitI .or k y x := by simp only [bitI]; rw [BitVec.or_comm]
theorem bitI_u32 (x y : Nat) (hx : x < 4294967296) (hy : y < 4294967296) :
    bitI .and .u32 x y = ((x &&& y : Nat) : Int) ∧ bitI .or .u32 x y = ((x ||| y : Nat) : Int) ∧ bitI .xor .u32 x y = ((x ^^^ y : Nat) : Int) := by
  have h1 : x &&& y < 2 ^ 32 := Nat.and_lt_two_pow x hy
  have h2 : x ||| y < 2 ^ 32 := Nat.or_lt_two_pow hx hy
  have h3 : x ^^^ y < 2 ^ 32 := Nat.xor_lt_two_pow hx hy
  obtain ⟨e1, e2, e3⟩ := bitI_nat .u32 x y hx hy
  refine ⟨e1.trans ?_, e2.trans ?_, e3.trans ?_⟩ <;> rw [wrap_u32] <;> omega
theorem or_add32 (x y : Int) (h0 : 0 ≤ x) (h1 : x < 16777216) (h2 : 0 ≤ y) (h3 : y < 256) : bitI .or .u32 (shlI .u32 x 8) y = x * 256 + y := by
  have e : shlI .u32 x 8 = x * 256 := by
    have := shlI_eq .u32 x 8 (by decide)
    rw [show ((8 : Nat) : Int) = 8 from rfl] at this
    rw [this, wrap_u32]; omega
  rw [e]
  obtain ⟨a, rfl⟩ := Int.eq_ofNat_of_zero_le h0
  obtain ⟨b, rfl⟩ := Int.eq_ofNat_of_zero_le h2
  have e2 : ((a : Int) * 256) = ((a * 256 : Nat) : Int) := by simp
  rw [e2, (bitI_u32 (a * 256) b (by omega) (by omega)).2.1]
  have : a * 256 ||| b = a * 256 + b := by
    rw [show a * 256 = a <<< 8 by rw [Nat.shiftLeft_eq], ← Nat.shiftLeft_add_eq_or_of_lt (by omega)]
  rw [this]; simp
theorem not_u32 (x : Int) (h0 : 0 ≤ x) (h1 : x < 4294967296) : bitI .xor .u32 4294967295 x = 4294967295 - x := by
  obtain ⟨a, rfl⟩ := Int.eq_ofNat_of_zero_le h0
  have := (bitI_u32 4294967295 a (by decide) (by omega)).2.2
  rw [show ((4294967295 : Nat) : Int) = 4294967295 from rfl] at this
  rw [this]
  have e : (4294967295 ^^^ a : Nat) = 4294967295 - a := by
    have h := BitVec.toNat_not (x := BitVec.ofNat 32 a)
    have e2 : (~~~ BitVec.ofNat 32 a) = BitVec.ofNat 32 4294967295 ^^^ BitVec.ofNat 32 a := by
      rw [show BitVec.ofNat 32 4294967295 = BitVec.allOnes 32 from rfl, BitVec.allOnes_xor]
    rw [e2, BitVec.toNat_xor, BitVec.toNat_ofNat, BitVec.toNat_ofNat, Nat.mod_eq_of_lt (a := a) (by omega)] at h
    simpa using h
  rw [e]; omega
def U32 (f : Nat → Int) : Prop := ∀ i, 0 ≤ f i ∧ f i < 4294967296

/-- Turned to the right by n. -/
def rotW (x n : Int) : Int := bitI .or .u32 (shrI .u32 x n) (shlI .u32 x (32 - n))
/-- The first m bytes of word t. -/
def preW (f : Nat → Int) (t : Nat) : Nat → Int
  | 0 => 0
  | m + 1 => preW f t m * 256 + f (4 * t + m)
def wordW (f : Nat → Int) (t : Nat) : Int := preW f t 4
theorem preW_bd {f : Nat → Int} (hf : Byt f) (t : Nat) : ∀ m, m ≤ 3 → 0 ≤ preW f t m ∧ preW f t m < 16777216 := fun m hm => by
  have h0 := hf (4 * t)
  have h1 := hf (4 * t + 1)
  have h2 := hf (4 * t + 2)
  have := (show m = 0 ∨ m = 1 ∨ m = 2 ∨ m = 3 by omega)
  rcases this with rfl | rfl | rfl | rfl <;> simp only [preW, Nat.add_zero] <;> omega
theorem preW_step {f : Nat → Int} (hf : Byt f) (t m : Nat) (hm : m ≤ 3) : bitI .or .u32 (shlI .u32 (preW f t m) 8) (IntKind.u32.wrap (f (4 * t + m))) = preW f t (m + 1) := by
  have h := preW_bd hf t m hm
  have h1 := hf (4 * t + m)
  rw [wrap_u32_in _ h1.1 (by omega), or_add32 _ _ h.1 h.2 h1.1 h1.2]; rfl
theorem preW_cong {f g : Nat → Int} {t : Nat} : ∀ m, (∀ j, j < m → f (4 * t + j) = g (4 * t + j)) → preW f t m = preW g t m
  | 0, _ => rfl
  | m + 1, h => by rw [preW, preW, preW_cong m (fun j hj => h j (by omega)), h m (by omega)]
theorem wordW_sum {f : Nat → Int} (hf : Byt f) (t : Nat) : IntKind.u32.wrap (IntKind.u32.wrap (IntKind.u32.wrap (shlI .u32 (IntKind.u32.wrap (f (4 * t))) 24 + shlI .u32 (IntKind.u32.wrap (f (4 * t + 1))) 16) + shlI .u32 (IntKind.u32.wrap (f (4 * t + 2))) 8) + IntKind.u32.wrap (f (4 * t + 3))) = wordW f t := by
  have h0 := hf (4 * t)
  have h1 := hf (4 * t + 1)
  have h2 := hf (4 * t + 2)
  have h3 := hf (4 * t + 3)
  have s24 : ∀ x : Int, shlI .u32 x 24 = IntKind.u32.wrap (x * 16777216) := fun x => shlI_eq .u32 x 24 (by decide)
  have s16 : ∀ x : Int, shlI .u32 x 16 = IntKind.u32.wrap (x * 65536) := fun x => shlI_eq .u32 x 16 (by decide)
  have s8 : ∀ x : Int, shlI .u32 x 8 = IntKind.u32.wrap (x * 256) := fun x => shlI_eq .u32 x 8 (by decide)
  simp only [s24, s16, s8, wrap_u32, wordW, preW, Nat.add_zero]
  omega
/-- The word that the schedule puts at t, from the words ahead of it. -/
def nextW (W : Nat → Int) (t : Nat) : Int :=
  IntKind.u32.wrap (IntKind.u32.wrap (IntKind.u32.wrap (bitI .xor .u32 (bitI .xor .u32 (rotW (W (t - 2)) 17) (rotW (W (t - 2)) 19)) (shrI .u32 (W (t - 2)) 10) + W (t - 7)) +
    bitI .xor .u32 (bitI .xor .u32 (rotW (W (t - 15)) 7) (rotW (W (t - 15)) 18)) (shrI .u32 (W (t - 15)) 3)) + W (t - 16))
/-- The words of a block, the first k of them. -/
def schF (f : Nat → Int) : Nat → Nat → Int
  | 0 => fun _ => 0
  | k + 1 => upd (schF f k) k (if k < 16 then wordW f k else nextW (schF f k) k)
def schA (f : Nat → Int) (i : Nat) : Int := schF f 64 i
theorem schF_hi (f : Nat → Int) : ∀ k i, k ≤ i → schF f k i = 0
  | 0, _, _ => rfl
  | k + 1, i, h => by rw [schF, upd_ne _ _ _ _ (by omega), schF_hi f k i (by omega)]
theorem schF_cong {f g : Nat → Int} (h : ∀ i, i < 64 → f i = g i) : ∀ k, schF f k = schF g k
  | 0 => rfl
  | k + 1 => by
    rw [schF, schF, schF_cong h k]
    congr 1
    by_cases hk : k < 16
    · rw [if_pos hk, if_pos hk]; exact preW_cong 4 fun j hj => h _ (by omega)
    · rw [if_neg hk, if_neg hk]
theorem schA_cong {f g : Nat → Int} (h : ∀ i, i < 64 → f i = g i) : schA f = schA g := by funext i; simp only [schA, schF_cong h]
/-- One round: r is a b c d e f g h. -/
def t1W (r : Nat → Int) (k w : Int) : Int :=
  IntKind.u32.wrap (IntKind.u32.wrap (IntKind.u32.wrap (IntKind.u32.wrap (r 7 + bitI .xor .u32 (bitI .xor .u32 (rotW (r 4) 6) (rotW (r 4) 11)) (rotW (r 4) 25)) +
    bitI .xor .u32 (bitI .and .u32 (r 4) (r 5)) (bitI .and .u32 (4294967295 - r 4) (r 6))) + k) + w)
def t2W (r : Nat → Int) : Int :=
  IntKind.u32.wrap (bitI .xor .u32 (bitI .xor .u32 (rotW (r 0) 2) (rotW (r 0) 13)) (rotW (r 0) 22) + bitI .xor .u32 (bitI .xor .u32 (bitI .and .u32 (r 0) (r 1)) (bitI .and .u32 (r 0) (r 2))) (bitI .and .u32 (r 1) (r 2)))
def rndW (r : Nat → Int) (k w : Int) (i : Nat) : Int :=
  if i = 0 then IntKind.u32.wrap (t1W r k w + t2W r) else if i = 4 then IntKind.u32.wrap (r 3 + t1W r k w) else r (i - 1)
theorem rndW_bd {r : Nat → Int} (h : U32 r) (k w : Int) : U32 (rndW r k w) := fun i => by
  simp only [rndW]; split
  · exact wrap_u32_bd _
  · split
    · exact wrap_u32_bd _
    · exact h _
def rounds (K v w : Nat → Int) : Nat → Nat → Int
  | 0 => v
  | k + 1 => rndW (rounds K v w k) (K k) (w k)
theorem rounds_bd {K v w : Nat → Int} (h : U32 v) : ∀ k, U32 (rounds K v w k)
  | 0 => h
  | k + 1 => rndW_bd (rounds_bd h k) _ _
/-- A value, and a block behind it. -/
def compW (K v f : Nat → Int) (i : Nat) : Int := IntKind.u32.wrap (v i + rounds K v (schA f) 64 i)
theorem compW_bd {K v f : Nat → Int} : U32 (compW K v f) := fun i => wrap_u32_bd _
theorem compW_cong {K v f g : Nat → Int} (h : ∀ i, i < 64 → f i = g i) : compW K v f = compW K v g := by
  funext i; simp only [compW, schA_cong h]
/-- Whole blocks, one behind the other. -/
def absW (K v f : Nat → Int) : Nat → Nat → Int
  | 0 => v
  | k + 1 => compW K (absW K v f k) (fun i => f (64 * k + i))
theorem absW_bd {K v f : Nat → Int} (h : U32 v) : ∀ k, U32 (absW K v f k)
  | 0 => h
  | k + 1 => compW_bd
theorem absW_cong {K v f g : Nat → Int} : ∀ k, (∀ i, i < 64 * k → f i = g i) → absW K v f k = absW K v g k
  | 0, _ => rfl
  | k + 1, h => by
    rw [absW, absW, absW_cong k (fun i hi => h i (by omega))]
    exact compW_cong fun i hi => h _ (by omega)
theorem absW_add (K v f : Nat → Int) (a : Nat) : ∀ b, absW K v f (a + b) = absW K (absW K v f a) (fun i => f (64 * a + i)) b
  | 0 => rfl
  | b + 1 => by
    rw [← Nat.add_assoc, absW, absW, absW_add K v f a b]
    exact compW_cong fun i hi => by rw [show 64 * (a + b) + i = 64 * a + (64 * b + i) by omega]
/-- The number of blocks of a message of n bytes, and its bytes filled up. -/
def blocks (n : Nat) : Nat := (n + 8) / 64 + 1
def lenB (n j : Nat) : Int := ((n * 8 / 2 ^ (56 - 8 * j) % 256 : Nat) : Int)
def padW (f : Nat → Int) (n i : Nat) : Int := if i < n then f i else if i = n then 128 else if i < 64 * blocks n - 8 then 0 else lenB n (i - (64 * blocks n - 8))
theorem padW_cong {f g : Nat → Int} {n : Nat} (h : ∀ i, i < n → f i = g i) : padW f n = padW g n := by
  funext i; simp only [padW]; split
  · rename_i hi; exact h i hi
  · rfl
/-- Byte i of eight words. -/
def outW (v : Nat → Int) (i : Nat) : Int := IntKind.u8.wrap (shrI .u32 (v (i / 4)) (24 - 8 * ((i % 4 : Nat) : Int)))
theorem outW_byt (v : Nat → Int) : Byt (outW v) := fun i => by simp only [outW, wrap_u8]; omega
/-- The digest. -/
def shaW (K V f : Nat → Int) (n : Nat) : Nat → Int := outW (absW K V (padW f n) (blocks n))
theorem shaW_byt (K V f : Nat → Int) (n : Nat) : Byt (shaW K V f n) := outW_byt _
theorem shaW_cong {K V f g : Nat → Int} {n : Nat} (h : ∀ i, i < n → f i = g i) : shaW K V f n = shaW K V g n := by simp only [shaW, padW_cong h]
theorem padW_byt {f : Nat → Int} (hf : Byt f) (n : Nat) : Byt (padW f n) := fun i => by
  simp only [padW]; split
  · exact hf i
  · split
    · omega
    · split
      · omega
      · simp only [lenB]; omega
/-- The keyed hash: the key of kn bytes, the message of n. -/
def keyW (K V k : Nat → Int) (kn : Nat) (i : Nat) : Int := if kn > 64 then (if i < 32 then shaW K V k kn i else 0) else (if i < kn then k i else 0)
def padK (K V k : Nat → Int) (kn : Nat) (x : Int) (i : Nat) : Int := bitI .xor .u8 (keyW K V k kn i) x
def macW (K V k : Nat → Int) (kn : Nat) (f : Nat → Int) (n : Nat) : Nat → Int :=
  shaW K V (joinB 64 (padK K V k kn 92) (shaW K V (joinB 64 (padK K V k kn 54) f) (64 + n))) 96
theorem macW_byt (K V k : Nat → Int) (kn : Nat) (f : Nat → Int) (n : Nat) : Byt (macW K V k kn f n) := shaW_byt _ _ _ _
theorem joinB_cong {n m : Nat} {f f' g g' : Nat → Int} (h : ∀ i, i < n → f i = f' i) (h' : ∀ i, i < m → g i = g' i) : ∀ i, i < n + m → joinB n f g i = joinB n f' g' i := fun i hi => by
  simp only [joinB]; split
  · exact h i ‹_›
  · exact h' _ (by omega)
theorem joinB_byt {n : Nat} {f g : Nat → Int} (hf : Byt f) (hg : Byt g) : Byt (joinB n f g) := fun i => by
  simp only [joinB]; split
  · exact hf i
  · exact hg _
theorem keyW_cong {K V k k' : Nat → Int} {kn : Nat} (h : ∀ i, i < kn → k i = k' i) : keyW K V k kn = keyW K V k' kn := by
  funext i; simp only [keyW, shaW_cong h]
  split
  · rfl
  · split
    · exact h i ‹_›
    · rfl
theorem macW_cong {K V k k' f f' : Nat → Int} {kn n : Nat} (h : ∀ i, i < kn → k i = k' i) (h' : ∀ i, i < n → f i = f' i) : macW K V k kn f n = macW K V k' kn f' n := by
  have e : ∀ x, padK K V k kn x = padK K V k' kn x := fun x => by funext i; simp only [padK, keyW_cong h]
  simp only [macW, e]
  rw [shaW_cong (joinB_cong (m := n) (f := padK K V k' kn 54) (fun _ _ => rfl) h')]
theorem padK_byt (K V k : Nat → Int) (kn : Nat) (x : Int) : Byt (padK K V k kn x) := fun i => bit_u8_bd _ _ _
/-- The rounds of the expansion: T(1) to T(c), one behind the other. -/
def hkT (K V p info : Nat → Int) (m : Nat) : Nat → Nat → Int
  | 0 => fun _ => 0
  | c + 1 => macW K V p 32 (if c = 0 then joinB m info (fun _ => 1) else joinB 32 (hkT K V p info m c) (joinB m info (fun _ => IntKind.u8.wrap ((c + 1 : Nat) : Int)))) ((if c = 0 then 0 else 32) + (m + 1))
theorem hkT_byt (K V p info : Nat → Int) (m : Nat) : ∀ c, Byt (hkT K V p info m c)
  | 0 => fun i => ⟨Int.le_refl 0, by show (0 : Int) < 256; decide⟩
  | c + 1 => macW_byt _ _ _ _ _ _
def okmW (K V p info : Nat → Int) (m : Nat) (i : Nat) : Int := hkT K V p info m (i / 32 + 1) (i % 32)
/-- The constants of the rounds, and the first value. -/
def kW (i : Nat) : Int := [1116352408, 1899447441, 3049323471, 3921009573, 961987163, 1508970993, 2453635748, 2870763221, 3624381080, 310598401, 607225278, 1426881987, 1925078388, 2162078206, 2614888103, 3248222580, 3835390401, 4022224774, 264347078, 604807628, 770255983, 1249150122, 1555081692, 1996064986, 2554220882, 2821834349, 2952996808, 3210313671, 3336571891, 3584528711, 113926993, 338241895, 666307205, 773529912, 1294757372, 1396182291, 1695183700, 1986661051, 2177026350, 2456956037, 2730485921, 2820302411, 3259730800, 3345764771, 3516065817, 3600352804, 4094571909, 275423344, 430227734, 506948616, 659060556, 883997877, 958139571, 1322822218, 1537002063, 1747873779, 1955562222, 2024104815, 2227730452, 2361852424, 2428436474, 2756734187, 3204031479, 3329325298].getD i 0
def ivW (i : Nat) : Int := [1779033703, 3144134277, 1013904242, 2773480762, 1359893119, 2600822924, 528734635, 1541459225].getD i 0
theorem ivW_bd : U32 ivW := fun i => by
  rcases Nat.lt_or_ge i 8 with h | h
  · have : ((List.range 8).all fun n => decide (0 ≤ ivW n) && decide (ivW n < 4294967296)) = true := by decide
    have := List.all_eq_true.1 this i (List.mem_range.2 h)
    simpa using this
  · have : ivW i = 0 := by simp only [ivW]; rw [List.getD_eq_getElem?_getD, List.getElem?_eq_none (by simpa using h)]; rfl
    omega
end Go.Vcg
