/-
  The calculus: an entry of a store as a value, rows of entries, and what a store looks like in a state. Nothing here speaks of a program's code.
-/
import Derived.Test.YtikibkboebbdjaaVcgSt
namespace Go.Vcg
set_option linter.unusedSectionVars false
set_option linter.unusedSimpArgs false
set_option linter.unusedVariables false
structure En where
  ep : Int
  n : Int
  pub : Nat → Int
  key : Nat → Int
def enL (e : En) : List SV := Sum.inl (.int .u32 e.ep) :: Sum.inl (.int .u32 e.n) :: (rowI .u8 32 e.pub ++ rowI .u8 32 e.key)
def enZ : En := ⟨0, 0, fun _ => 0, fun _ => 0⟩
theorem enL_len {e : En} : (enL e).length = 66 := by simp [enL, rowI_length]
theorem enL_plain {e : En} : (enL e).all SV.plain = true := by
  simp only [enL, List.all_cons, List.all_append, plainI, Bool.and_true]; rfl
theorem enL_all {e : En} : List.take 66 (enL e) = enL e := List.take_of_length_le (by rw [enL_len]; omega)
/-- n entries stand in the cells from o on. -/
def ShowsE (cs : List SV) (o n : Nat) (f : Nat → En) : Prop := ∀ i, i < n → List.take 66 (List.drop (o + i * 66) cs) = enL (f i)
theorem ShowsE.lt {cs : List SV} {o n : Nat} {f : Nat → En} (h : ShowsE cs o n f) {i : Nat} (hi : i < n) : o + i * 66 + 66 ≤ cs.length := by
  have := congrArg List.length (h i hi)
  rw [List.length_take, List.length_drop, enL_len] at this
  omega
/-- A row of n entries. -/
def rowE : Nat → (Nat → En) → List SV
  | 0, _ => []
  | n + 1, f => rowE n f ++ enL (f n)
theorem rowE_len {n : Nat} {f : Nat → En} : (rowE n f).length = n * 66 := by
  induction n with
  | zero => rfl
  | succ n ih => rw [rowE, List.length_append, ih, enL_len]; omega
theorem rowE_plain {n : Nat} {f : Nat → En} : (rowE n f).all SV.plain = true := by
  induction n with
  | zero => rfl
  | succ n ih => rw [rowE, List.all_append, ih, enL_plain]; rfl
theorem rowE_congr {n : Nat} {f g : Nat → En} (h : ∀ i, i < n → f i = g i) : rowE n f = rowE n g := by
  induction n with
  | zero => rfl
  | succ n ih => rw [rowE, rowE, ih fun i hi => h i (by omega), h n (by omega)]
theorem rowE_get {n : Nat} {f : Nat → En} {i : Nat} {tail : List SV} (hi : i < n) : List.take 66 (List.drop (i * 66) (rowE n f ++ tail)) = enL (f i) := by
  induction n generalizing tail with
  | zero => omega
  | succ n ih =>
    rw [rowE, List.append_assoc]
    by_cases h : i < n
    · exact ih h
    · obtain rfl : i = n := by omega
      rw [List.drop_append_of_le_length (by rw [rowE_len]; omega), List.drop_eq_nil_of_le (by rw [rowE_len]; omega), List.nil_append, List.take_append_of_le_length (by rw [enL_len]; omega), enL_all]
theorem showsE_row {n : Nat} {f : Nat → En} {tail : List SV} : ShowsE (rowE n f ++ tail) 0 n f := fun i hi => by
  rw [Nat.zero_add]; exact rowE_get hi
theorem showsE_row0 {n : Nat} {f : Nat → En} : ShowsE (rowE n f) 0 n f := by
  have := showsE_row (n := n) (f := f) (tail := [])
  rwa [List.append_nil] at this
theorem showsE_le {cs : List SV} {o n m : Nat} {f : Nat → En} (h : ShowsE cs o n f) (hm : m ≤ n) : ShowsE cs o m f := fun i hi => h i (by omega)
theorem showsE_congr {cs : List SV} {o n : Nat} {f g : Nat → En} (h : ShowsE cs o n f) (hg : ∀ i, i < n → f i = g i) : ShowsE cs o n g := fun i hi => by rw [h i hi, hg i hi]
theorem showsE_sub {cs : List SV} {o n : Nat} {f : Nat → En} (h : ShowsE cs o n f) (a m : Nat) (hm : a + m ≤ n) : ShowsE cs (o + a * 66) m (fun i => f (a + i)) := fun i hi => by
  have := h (a + i) (by omega)
  rw [← this]; congr 2; rw [Nat.add_mul]; omega
/-- What is read of n entries in a row. -/
theorem showsE_take {cs : List SV} {o n : Nat} {f : Nat → En} (h : ShowsE cs o n f) : List.take (n * 66) (List.drop o cs) = rowE n f := by
  induction n with
  | zero => simp [rowE]
  | succ n ih =>
    rw [rowE, ← ih (showsE_le h (Nat.le_succ n)), ← h n (Nat.lt_succ_self n), Nat.add_mul, Nat.one_mul, List.take_add, List.drop_drop]
theorem row_snocE {n : Nat} {f : Nat → En} {e : En} : rowE n f ++ enL e = rowE (n + 1) (upd f n e) := by
  rw [rowE, upd_same]
  congr 1
  exact rowE_congr fun i hi => (upd_ne _ _ _ _ (by omega)).symm
/-- A store's slice: none of its box, or one of a box whose cells show the entries. -/
def StoreIs (t : Nat) (v : SV) (n : Nat) (f : Nat → En) (cs : List SV) : Prop := ((∃ a, v = .inl (.slice a 0 0)) ∧ n = 0) ∨ ∃ o c, v = .inr (.inr (t, o, n, c)) ∧ n ≤ c ∧ ShowsE cs o n f
theorem StoreIs.ok {t n : Nat} {v : SV} {f : Nat → En} {cs : List SV} (h : StoreIs t v n f cs) {M : Nat → Prop} (ht : M t) : SV.ok M v := by
  rcases h with ⟨⟨a, rfl⟩, h0⟩ | ⟨o, c, rfl, _, hs⟩
  · exact ⟨trivial, rfl⟩
  · exact ⟨ht, rfl⟩
theorem StoreIs.ren {t n : Nat} {v : SV} {f : Nat → En} {cs : List SV} (h : StoreIs t v n f cs) {r : Nat → Nat} (hr : r t = t) : SV.ren r v = v := by
  rcases h with ⟨⟨a, rfl⟩, h0⟩ | ⟨o, c, rfl, _, hs⟩
  · rfl
  · simp only [SV.ren, hr]
theorem StoreIs.name {n t k : Nat} {v : SV} {f : Nat → En} {cs : List SV} (h : StoreIs t v n f cs) : ∃ v0, StoreIs k v0 n f cs ∧ ∀ r : Nat → Nat, r k = t → SV.ren r v0 = v := by
  rcases h with ⟨⟨a, e⟩, h0⟩ | ⟨o, c, e, hc, hs⟩
  · cases e; exact ⟨_, .inl ⟨⟨a, rfl⟩, h0⟩, fun r _ => rfl⟩
  · cases e; exact ⟨_, .inr ⟨o, c, rfl, hc, hs⟩, fun r hr => by simp only [SV.ren, hr]⟩
/-- Its length, and a load of an entry. -/
theorem StoreIs.len {t n : Nat} {v : SV} {f : Nat → En} {cs : List SV} (h : StoreIs t v n f cs) : effLen 1 (some [.inl (.inl v)]) = some (some (I .i64 n), none) := by
  rcases h with ⟨⟨a, rfl⟩, rfl⟩ | ⟨o, c, rfl, _, hs⟩ <;> rfl
section
variable {e : En} {x : Int} {g : Nat → Int}
theorem enL_g0 : (enL e)[0]? = some (Sum.inl (.int .u32 e.ep)) := rfl
theorem enL_g1 : (enL e)[1]? = some (Sum.inl (.int .u32 e.n)) := rfl
theorem enL_k2 : List.take 32 (List.drop 2 (enL e)) = rowI .u8 32 e.pub := by simp [enL, rowI_length, List.take_append, row_takeGe]
theorem enL_k34 : List.take 32 (List.drop 34 (enL e)) = rowI .u8 32 e.key := by simp [enL, rowI_length, List.drop_append, row_takeGe, row_dropGe]
theorem enL_t1 : List.take 1 (enL e) = [Sum.inl (.int .u32 e.ep)] := rfl
theorem enL_t2 : List.take 1 (List.drop 1 (enL e)) = [Sum.inl (.int .u32 e.n)] := rfl
theorem enL_s0 : splice (enL e) 0 [Sum.inl (.int .u32 x)] = enL { e with ep := x } := rfl
theorem enL_s1 : splice (enL e) 1 [Sum.inl (.int .u32 x)] = enL { e with n := x } := rfl
theorem enL_p2 : splice (enL e) 2 (rowI .u8 32 g) = enL { e with pub := g } := by simp [enL, splice, rowI_length, List.drop_append, row_dropGe]
theorem enL_p34 : splice (enL e) 34 (rowI .u8 32 g) = enL { e with key := g } := by simp [enL, splice, rowI_length, List.take_append, row_takeGe, row_dropGe]
theorem enL_w : splice (enL e) 0 (enL { e with ep := x }) = enL { e with ep := x } := by
  unfold splice; rw [List.take_zero, List.nil_append, List.drop_eq_nil_of_le (by rw [enL_len, enL_len]; omega), List.append_nil]
theorem enL_w2 {e' : En} : splice (enL e) 0 (enL e') = enL e' := by
  unfold splice; rw [List.take_zero, List.nil_append, List.drop_eq_nil_of_le (by rw [enL_len, enL_len]; omega), List.append_nil]
theorem enL_h2 : Shows (enL e) 2 32 e.pub := shows_of_take enL_k2 (by rw [enL_len]; omega)
theorem enL_h34 : Shows (enL e) 34 32 e.key := shows_of_take enL_k34 (by rw [enL_len]; omega)
end
theorem zEn2 : (List.replicate 2 (Sum.inl (Value.int IntKind.u32 0)) ++ List.replicate 64 (Sum.inl (Value.int IntKind.u8 0)) : List SV) = enL enZ := by
  have : (List.replicate 64 (Sum.inl (Value.int IntKind.u8 0)) : List SV) = rowI .u8 32 (fun _ => 0) ++ rowI .u8 32 (fun _ => 0) := by
    simp only [← row_zero2, List.replicate_append_replicate]
  rw [this]; rfl
theorem zEn : List.map Sum.inl (List.replicate 2 (Value.int IntKind.u32 0) ++ List.replicate 64 (Value.int IntKind.u8 0)) = enL enZ := by
  rw [← zEn2]; simp only [List.map_append, List.map_replicate]
theorem ints_row (k : IntKind) (n : Nat) (f : Nat → Int) : intsOf k (rowI k n f) = some ((List.range n).map f) := by
  unfold rowI
  induction List.range n with
  | nil => rfl
  | cons a r ih => simp only [List.map_cons, intsOf, if_true, ih]
theorem ints_same (x : Nat → Int) : eqL .eql 32 (intsOf .u8 (rowI .u8 32 x)) (intsOf .u8 (rowI .u8 32 x)) = some (some (B true), none) := by
  rw [ints_row, eqL_eql, if_pos ⟨by simp, by simp⟩]; simp
theorem ints_sameN (x : Nat → Int) : eqL .neq 32 (intsOf .u8 (rowI .u8 32 x)) (intsOf .u8 (rowI .u8 32 x)) = some (some (B false), none) := by
  rw [ints_row, eqL_neq, if_pos ⟨by simp, by simp⟩]; simp
/-- Are all 32 bytes zero? -/
def z32 (f : Nat → Int) : Bool := decide ((List.range 32).map f = (List.range 32).map (fun _ => (0 : Int)))
theorem z32_eql (f : Nat → Int) : eqL .eql 32 (intsOf .u8 (rowI .u8 32 f)) (intsOf .u8 (rowI .u8 32 (fun _ => 0))) = some (some (B (z32 f)), none) := by
  rw [ints_row, ints_row, eqL_eql, if_pos ⟨by simp, by simp⟩]; rfl
theorem z32_neq (f : Nat → Int) : eqL .neq 32 (intsOf .u8 (rowI .u8 32 f)) (intsOf .u8 (rowI .u8 32 (fun _ => 0))) = some (some (B (!z32 f)), none) := by
  rw [ints_row, ints_row, eqL_neq, if_pos ⟨by simp, by simp⟩]; rfl
/-! ### The six rules of a state, as one word -/
def limB (s : St) (n : Nat) : Bool := decide (0 ≤ s.skip) && decide (s.skip ≤ 1000) && decide (0 ≤ s.room) && decide (s.room ≤ 1000) && decide ((n : Int) ≤ s.room)
def absB (s : St) : Bool := (s.own || (z32 s.priv && z32 s.pub)) && (s.peer || z32 s.pee) && (s.has || z32 s.send)
def unbB (s : St) : Bool := (!(s.re == 0) || (z32 s.recv && (s.nr == 0))) && (decide (0 < s.se) || (!s.has && (s.ns == 0) && (s.pn == 0)))
def chB (s : St) : Bool := !(decide (0 < s.se) || decide (0 < s.re)) || (s.own && s.peer)
/-- The place of a position as one number. -/
def plc (e n : Int) : Int := e * 4294967296 + n
def pasB (s : St) (e : En) : Bool := !(e.ep == 0) && decide (plc e.ep e.n < plc s.re s.nr)
def entB (s : St) (f : Nat → En) (i : Nat) : Bool := pasB s (f i) && (decide (i = 0) || decide (plc (f (i - 1)).ep (f (i - 1)).n < plc (f i).ep (f i).n))
def groB (s : St) (f : Nat → En) : Nat → Bool
  | 0 => true
  | n + 1 => groB s f n && entB s f n
def valB (s : St) (n : Nat) (f : Nat → En) : Bool := limB s n && (s.own || s.peer) && absB s && unbB s && chB s && groB s f n
/-- Counters are 32-bit words. -/
def W32 (x : Int) : Prop := 0 ≤ x ∧ x < 4294967296
structure StOk (s : St) : Prop where
  root : Byt s.root
  priv : Byt s.priv
  pub : Byt s.pub
  pee : Byt s.pee
  send : Byt s.send
  recv : Byt s.recv
  se : W32 s.se
  re : W32 s.re
  ns : W32 s.ns
  nr : W32 s.nr
  pn : W32 s.pn
  skip : -9223372036854775808 ≤ s.skip ∧ s.skip < 9223372036854775808
  room : -9223372036854775808 ≤ s.room ∧ s.room < 9223372036854775808
structure EnOk (e : En) : Prop where
  ep : W32 e.ep
  n : W32 e.n
  pub : Byt e.pub
  key : Byt e.key
theorem StOk.ws {s : St} (h : StOk s) (v : SV) : StOk { s with store := v } := ⟨h.root, h.priv, h.pub, h.pee, h.send, h.recv, h.se, h.re, h.ns, h.nr, h.pn, h.skip, h.room⟩
def StoreAt (box : Nat → Option Box) (v : SV) (n : Nat) (f : Nat → En) : Prop := ∃ t rw cs, box t = some ⟨rw, cs⟩ ∧ cs.all SV.plain = true ∧ StoreIs t v n f cs
theorem fds_en (e : En) : eqFC 1 (intsOf IntKind.u32 (List.take 1 (enL e))) (intsOf IntKind.u32 (List.take 1 (enL e)))
    (eqFC 1 (intsOf IntKind.u32 (List.take 1 (List.drop 1 (enL e)))) (intsOf IntKind.u32 (List.take 1 (List.drop 1 (enL e))))
      (eqFC 32 (intsOf IntKind.u8 (List.take 32 (List.drop 2 (enL e)))) (intsOf IntKind.u8 (List.take 32 (List.drop 2 (enL e))))
        (eqFC 32 (intsOf IntKind.u8 (List.take 32 (List.drop 34 (enL e)))) (intsOf IntKind.u8 (List.take 32 (List.drop 34 (enL e)))) (some true)))) = some true := by
  rw [enL_t1, enL_t2, enL_k2, enL_k34, ints_row, ints_row]
  simp [intsOf, eqFC]
theorem zOkEn : ((List.replicate 2 (Value.int IntKind.u32 0) ++ List.replicate 64 (Value.int IntKind.u8 0)).all Value.oneCell' = true) = True := eq_true (by decide)
set_option maxRecDepth 20000 in
theorem zOkSt : ((List.replicate 3 (Value.bool false) ++ List.replicate 192 (Value.int IntKind.u8 0) ++ List.replicate 5 (Value.int IntKind.u32 0) ++ List.replicate 2 (Value.int IntKind.i64 0) ++ List.replicate 1 (Value.slice none 0 0)).all Value.oneCell' = true) = True := eq_true (by simp [List.all_eq_true, List.mem_replicate, Value.oneCell'])
theorem cut_brings {P : Program} [Tables P] {s : AS} {m next : Nat} {env : List (Nat × AV)} {box : List (Nat × Box)} {Mid : AS → Prop} {c : Code} {F : Exit → AS → Prop} (h : Brings s env box next) (hm : m ≤ next) (hMid : Mid (mkS env box next)) : vcCut P m Mid 0 c F s :=
  ⟨mkS env box next, ⟨_, h.refines, fun _ _ => rfl⟩, hm, hMid⟩
theorem rulesE : type_of% @enL_len ∧ type_of% @enL_all ∧ type_of% @enL_g0 ∧ type_of% @enL_g1 ∧ type_of% @enL_k2 ∧ type_of% @enL_k34 ∧ type_of% @enL_s0 ∧ type_of% @enL_s1 ∧ type_of% @enL_p2 ∧ type_of% @enL_p34 ∧ type_of% @enL_w2 ∧ type_of% @zEn ∧ type_of% @zEn2 ∧ type_of% @zOkEn :=
  ⟨@enL_len, @enL_all, @enL_g0, @enL_g1, @enL_k2, @enL_k34, @enL_s0, @enL_s1, @enL_p2, @enL_p34, @enL_w2, @zEn, @zEn2, @zOkEn⟩
end Go.Vcg
