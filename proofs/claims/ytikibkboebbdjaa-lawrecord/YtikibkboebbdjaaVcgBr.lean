/-
  The calculus: loops that make a slice anew each round, beside boxes that stay; calls that are handed a state in a box. Nothing here speaks of a program's code.
-/
import Derived.Test.YtikibkboebbdjaaVcgSk
namespace Go.Vcg
set_option linter.unusedSectionVars false
set_option linter.unusedSimpArgs false
set_option linter.unusedVariables false
/-- The slots and the boxes that stay. -/
def Stay (s : AS) (m : Nat) (env : List (Nat × AV)) (l : List (Nat × Box)) : Prop :=
  (∀ x ∈ env, s.env x.1 = some x.2 ∧ AV.ok (fun n => n < m) x.2) ∧ ∀ x ∈ l, x.1 < m ∧ s.box x.1 = some x.2 ∧ ∀ y ∈ x.2.cells, SV.ok (fun n => n < m) y
theorem bringsTo_go {s : AS} {m p q next d n c : Nat} {env : List (Nat × AV)} {l : List (Nat × Box)} {cs : List SV} (hmp : m ≤ p) (hpn : p < next) (hq : ∀ x ∈ l, x.1 ≠ q)
    (he : s.env d = some (Sl q 0 n c)) (hb : s.box q = some ⟨true, cs⟩) (hp : cs.all SV.plain = true) (hs : Stay s m env l) : BringsTo m p q s ((d, Sl p 0 n c) :: env) ((p, ⟨true, cs⟩) :: l) next := by
  refine ⟨hmp, ?_, fun x hx => ?_, fun x hx => ?_⟩
  · rcases Nat.lt_or_ge q m with h | h
    · refine .inr fun x hx => ?_
      rcases List.mem_cons.1 hx with rfl | hx
      · show p ≠ q; omega
      · exact hq x hx
    · exact .inl h
  · rcases List.mem_cons.1 hx with rfl | hx
    · exact ⟨by rw [ren_s, upd_same]; exact he, hpn⟩
    · obtain ⟨h1, h2⟩ := hs.1 x hx
      have e1 : AV.ren (upd (fun n => n) p q) x.2 = x.2 := ren_low (fun n hn => upd_ne _ _ _ _ (by omega)) h2
      exact ⟨by rw [e1]; exact h1, AV.ok_mono (fun n hn => by omega) h2⟩
  · rcases List.mem_cons.1 hx with rfl | hx
    · exact ⟨.inr rfl, by simpa only [upd_same] using hb, hpn, .inl hp⟩
    · obtain ⟨h1, h2, h3⟩ := hs.2 x hx
      refine ⟨.inl h1, ?_, by omega, .inr fun y hy => SV.ok_mono (fun n hn => ⟨by omega, by omega⟩) (h3 y hy)⟩
      rw [upd_ne _ _ _ _ (by omega)]; exact h2
/-- A call that reads a state in a box. -/
theorem fitsS {s : AS} {t u : Nat} {x : St} {v0 : SV} {ra rb : Bool} {cs : List SV} (hb : s.box t = some ⟨ra, stL x⟩) (hb' : s.box u = some ⟨rb, cs⟩) (hp : cs.all SV.plain = true) (e : SV.ren (two t u) v0 = x.store) :
    Fits s (two t u) (lk [(0, ⟨false, stL { x with store := v0 }⟩), (1, ⟨false, cs⟩)]) none := by
  refine ⟨fun m b hm => ?_, fun m m' b b' hm hrw => ?_, fun m b hm hrw => ?_, fun m hm => (by cases hm)⟩
  · rcases lk2 hm with ⟨rfl, rfl⟩ | ⟨rfl, rfl⟩
    · refine ⟨_, hb, fun h => (by cases h), ?_⟩
      rw [stL_ren, e]
    · exact ⟨_, hb', fun h => (by cases h), (ren_all hp _).symm⟩
  · rcases lk2 hm with ⟨rfl, rfl⟩ | ⟨rfl, rfl⟩ <;> cases hrw
  · rcases lk2 hm with ⟨rfl, rfl⟩ | ⟨rfl, rfl⟩ <;> cases hrw
/-- The keys and the counters of a state, one by one. -/
def keyN (s : St) (i : Nat) : Nat → Int := if i = 0 then s.root else if i = 1 then s.priv else if i = 2 then s.pub else if i = 3 then s.pee else if i = 4 then s.send else s.recv
def numN (s : St) (n i : Nat) : Int := if i = 0 then s.se else if i = 1 then s.re else if i = 2 then s.ns else if i = 3 then s.nr else if i = 4 then s.pn else if i = 5 then s.skip else if i = 6 then s.room else n
theorem stL_key {s : St} {i : Nat} (h : i < 6) : Shows (stL s) (3 + 32 * i) 32 (keyN s i) := by
  have : i = 0 ∨ i = 1 ∨ i = 2 ∨ i = 3 ∨ i = 4 ∨ i = 5 := by omega
  rcases this with rfl | rfl | rfl | rfl | rfl | rfl
  · exact stL_h3
  · exact stL_h35
  · exact stL_h67
  · exact stL_h99
  · exact stL_h131
  · exact stL_h163
theorem stL_num {s : St} {n i : Nat} (h : i < 5) : (stL s)[195 + i]? = some (Sum.inl (.int .u32 (numN s n i))) := by
  have : i = 0 ∨ i = 1 ∨ i = 2 ∨ i = 3 ∨ i = 4 := by omega
  rcases this with rfl | rfl | rfl | rfl | rfl
  · exact stL_g195
  · exact stL_g196
  · exact stL_g197
  · exact stL_g198
  · exact stL_g199
theorem keyN_byt {s : St} (h : StOk s) (i : Nat) : Byt (keyN s i) := by
  unfold keyN; repeat' split
  · exact h.root
  · exact h.priv
  · exact h.pub
  · exact h.pee
  · exact h.send
  · exact h.recv
/-- The four bytes of a word, the greatest first. -/
def u32B (x : Int) (j : Nat) : Int := IntKind.u8.wrap (shrI .u32 x (24 - 8 * (j : Int)))
theorem u32B_byt (x : Int) : Byt (u32B x) := fun i => by simp only [u32B, wrap_u8]; omega
def flB (s : St) : Int := (if s.own then 1 else 0) + (if s.peer then 2 else 0) + (if s.has then 4 else 0)
/-- The bytes of a state. -/
def keysB (s : St) : Nat → (Nat → Int)
  | 0 => fun i => if i = 0 then 1 else flB s
  | k + 1 => joinB (2 + 32 * k) (keysB s k) (keyN s k)
def numsB (s : St) (n : Nat) : Nat → (Nat → Int)
  | 0 => keysB s 6
  | k + 1 => joinB (194 + 4 * k) (numsB s n k) (u32B (numN s n k))
def entB1 (m : Nat) (g : Nat → Int) (e : En) : Nat → Int := joinB (m + 4) (joinB m g (u32B e.ep)) (u32B e.n)
def entB2 (m : Nat) (g : Nat → Int) (e : En) : Nat → Int := joinB (m + 40) (joinB (m + 8) (entB1 m g e) e.pub) e.key
def stateB (s : St) (n : Nat) (f : Nat → En) : Nat → (Nat → Int)
  | 0 => numsB s n 8
  | k + 1 => entB2 (226 + 72 * k) (stateB s n f k) (f k)
theorem row4 {g : Nat → Int} : rowI .u8 4 g = [Sum.inl (.int .u8 (g 0)), Sum.inl (.int .u8 (g 1)), Sum.inl (.int .u8 (g 2)), Sum.inl (.int .u8 (g 3))] := rfl
theorem spl4_0 {g : Nat → Int} {a : SV} : splice (rowI .u8 4 g) 0 [a] = [a, Sum.inl (.int .u8 (g 1)), Sum.inl (.int .u8 (g 2)), Sum.inl (.int .u8 (g 3))] := rfl
theorem spl4_1 {a x b c d : SV} : splice [a, x, c, d] 1 [b] = [a, b, c, d] := rfl
theorem spl4_2 {a b x c d : SV} : splice [a, b, x, d] 2 [c] = [a, b, c, d] := rfl
theorem spl4_3 {a b c x d : SV} : splice [a, b, c, x] 3 [d] = [a, b, c, d] := rfl
theorem shows4 {g : Nat → Int} : Shows [Sum.inl (.int .u8 (g 0)), Sum.inl (.int .u8 (g 1)), Sum.inl (.int .u8 (g 2)), Sum.inl (.int .u8 (g 3))] 0 4 g := fun i hi => by
  rw [← row4]; exact shows_row0 i hi
theorem mem1 {α : Type} {Q : α → Prop} {a0 : α} (h0 : Q a0) : ∀ x ∈ [a0], Q x := fun x hx => by
  simp only [List.mem_cons, List.not_mem_nil, or_false] at hx
  subst hx
  exact h0
theorem mem2 {α : Type} {Q : α → Prop} {a0 a1 : α} (h0 : Q a0) (h1 : Q a1) : ∀ x ∈ [a0, a1], Q x := fun x hx => by
  simp only [List.mem_cons, List.not_mem_nil, or_false] at hx
  rcases hx with rfl | rfl
  · exact h0
  · exact h1
theorem mem3 {α : Type} {Q : α → Prop} {a0 a1 a2 : α} (h0 : Q a0) (h1 : Q a1) (h2 : Q a2) : ∀ x ∈ [a0, a1, a2], Q x := fun x hx => by
  simp only [List.mem_cons, List.not_mem_nil, or_false] at hx
  rcases hx with rfl | rfl | rfl
  · exact h0
  · exact h1
  · exact h2
theorem mem4 {α : Type} {Q : α → Prop} {a0 a1 a2 a3 : α} (h0 : Q a0) (h1 : Q a1) (h2 : Q a2) (h3 : Q a3) : ∀ x ∈ [a0, a1, a2, a3], Q x := fun x hx => by
  simp only [List.mem_cons, List.not_mem_nil, or_false] at hx
  rcases hx with rfl | rfl | rfl | rfl
  · exact h0
  · exact h1
  · exact h2
  · exact h3
theorem mem5 {α : Type} {Q : α → Prop} {a0 a1 a2 a3 a4 : α} (h0 : Q a0) (h1 : Q a1) (h2 : Q a2) (h3 : Q a3) (h4 : Q a4) : ∀ x ∈ [a0, a1, a2, a3, a4], Q x := fun x hx => by
  simp only [List.mem_cons, List.not_mem_nil, or_false] at hx
  rcases hx with rfl | rfl | rfl | rfl | rfl
  · exact h0
  · exact h1
  · exact h2
  · exact h3
  · exact h4
theorem mem6 {α : Type} {Q : α → Prop} {a0 a1 a2 a3 a4 a5 : α} (h0 : Q a0) (h1 : Q a1) (h2 : Q a2) (h3 : Q a3) (h4 : Q a4) (h5 : Q a5) : ∀ x ∈ [a0, a1, a2, a3, a4, a5], Q x := fun x hx => by
  simp only [List.mem_cons, List.not_mem_nil, or_false] at hx
  rcases hx with rfl | rfl | rfl | rfl | rfl | rfl
  · exact h0
  · exact h1
  · exact h2
  · exact h3
  · exact h4
  · exact h5
theorem mem7 {α : Type} {Q : α → Prop} {a0 a1 a2 a3 a4 a5 a6 : α} (h0 : Q a0) (h1 : Q a1) (h2 : Q a2) (h3 : Q a3) (h4 : Q a4) (h5 : Q a5) (h6 : Q a6) : ∀ x ∈ [a0, a1, a2, a3, a4, a5, a6], Q x := fun x hx => by
  simp only [List.mem_cons, List.not_mem_nil, or_false] at hx
  rcases hx with rfl | rfl | rfl | rfl | rfl | rfl | rfl
  · exact h0
  · exact h1
  · exact h2
  · exact h3
  · exact h4
  · exact h5
  · exact h6
theorem mem8 {α : Type} {Q : α → Prop} {a0 a1 a2 a3 a4 a5 a6 a7 : α} (h0 : Q a0) (h1 : Q a1) (h2 : Q a2) (h3 : Q a3) (h4 : Q a4) (h5 : Q a5) (h6 : Q a6) (h7 : Q a7) : ∀ x ∈ [a0, a1, a2, a3, a4, a5, a6, a7], Q x := fun x hx => by
  simp only [List.mem_cons, List.not_mem_nil, or_false] at hx
  rcases hx with rfl | rfl | rfl | rfl | rfl | rfl | rfl | rfl
  · exact h0
  · exact h1
  · exact h2
  · exact h3
  · exact h4
  · exact h5
  · exact h6
  · exact h7
theorem ret_or {s : AS} {k : Nat} {P Q : AV → (Nat → Option Box) → Prop} {v : AV} (h : Ret k P v s) (hi : ∀ v out, P v out → Q v out) : Ret k Q v s := by
  obtain ⟨q, v0, out, h1, h2, h3, h4, h5⟩ := h
  exact ⟨q, v0, out, h1, h2, h3, h4, hi _ _ h5⟩
theorem keysB_ws {s : St} {v : SV} : ∀ k, keysB { s with store := v } k = keysB s k
  | 0 => rfl
  | k + 1 => by rw [keysB, keysB, keysB_ws k]; rfl
theorem numsB_ws {s : St} {v : SV} {n : Nat} : ∀ k, numsB { s with store := v } n k = numsB s n k
  | 0 => keysB_ws 6
  | k + 1 => by rw [numsB, numsB, numsB_ws k]; rfl
theorem stateB_ws {s : St} {v : SV} {n : Nat} {f : Nat → En} : ∀ k, stateB { s with store := v } n f k = stateB s n f k
  | 0 => numsB_ws 8
  | k + 1 => by rw [stateB, stateB, stateB_ws k]
theorem flB_byt (s : St) : 0 ≤ flB s ∧ flB s < 256 := by unfold flB; (repeat' split) <;> omega
theorem keysB_byt {s : St} (h : StOk s) : ∀ k, Byt (keysB s k)
  | 0 => fun i => by
    unfold keysB; split
    · exact ⟨by decide, by decide⟩
    · exact flB_byt s
  | k + 1 => joinB_byt (keysB_byt h k) (keyN_byt h k)
theorem numsB_byt {s : St} {n : Nat} (h : StOk s) : ∀ k, Byt (numsB s n k)
  | 0 => keysB_byt h 6
  | k + 1 => joinB_byt (numsB_byt h k) (u32B_byt _)
theorem stateB_byt {s : St} {n k : Nat} {f : Nat → En} (h : StOk s) (hf : ∀ i, EnOk (f i)) : Byt (stateB s n f k) := by
  induction k with
  | zero => exact numsB_byt h 8
  | succ k ih => exact joinB_byt (joinB_byt (joinB_byt (joinB_byt ih (u32B_byt _)) (u32B_byt _)) (hf k).pub) (hf k).key
theorem ShowsE.cell {cs : List SV} {o n : Nat} {f : Nat → En} (h : ShowsE cs o n f) {i k : Nat} (hi : i < n) (hk : k < 66) : cs[o + i * 66 + k]? = (enL (f i))[k]? := by
  rw [← h i hi, List.getElem?_take_of_lt hk, List.getElem?_drop]
theorem ShowsE.ep {cs : List SV} {o n : Nat} {f : Nat → En} (h : ShowsE cs o n f) {i : Nat} (hi : i < n) : cs[o + i * 66]? = some (Sum.inl (.int .u32 (f i).ep)) := h.cell (k := 0) hi (by decide)
theorem ShowsE.num {cs : List SV} {o n : Nat} {f : Nat → En} (h : ShowsE cs o n f) {i : Nat} (hi : i < n) : cs[o + i * 66 + 1]? = some (Sum.inl (.int .u32 (f i).n)) := h.cell (k := 1) hi (by decide)
theorem ShowsE.pub {cs : List SV} {o n : Nat} {f : Nat → En} (h : ShowsE cs o n f) {i : Nat} (hi : i < n) : Shows cs (o + i * 66 + 2) 32 (f i).pub := fun j hj => by
  have := h.cell (k := 2 + j) hi (by omega)
  rw [enL_h2 j hj] at this
  rw [← this]; congr 1; omega
theorem ShowsE.key {cs : List SV} {o n : Nat} {f : Nat → En} (h : ShowsE cs o n f) {i : Nat} (hi : i < n) : Shows cs (o + i * 66 + 34) 32 (f i).key := fun j hj => by
  have := h.cell (k := 34 + j) hi (by omega)
  rw [enL_h34 j hj] at this
  rw [← this]; congr 1; omega
/-- Six keys in a row. -/
def K6 (a b c d e f : Nat → Int) : List SV := rowI .u8 32 a ++ (rowI .u8 32 b ++ (rowI .u8 32 c ++ (rowI .u8 32 d ++ (rowI .u8 32 e ++ rowI .u8 32 f))))
section
variable {a b c d e f g : Nat → Int}
theorem K6_len : (K6 a b c d e f).length = 192 := by simp [K6, rowI_length]
theorem K6_all : List.take 192 (K6 a b c d e f) = K6 a b c d e f := List.take_of_length_le (by rw [K6_len]; omega)
theorem K6_w {a' b' c' d' e' f' : Nat → Int} : splice (K6 a b c d e f) 0 (K6 a' b' c' d' e' f') = K6 a' b' c' d' e' f' := by
  unfold splice; rw [List.take_zero, List.nil_append, List.drop_eq_nil_of_le (by rw [K6_len, K6_len]; omega), List.append_nil]
theorem K6_wz {h : Nat → Int} : splice (rowI .u8 192 h) 0 (K6 a b c d e f) = K6 a b c d e f := by
  unfold splice; rw [List.take_zero, List.nil_append, List.drop_eq_nil_of_le (by rw [K6_len, rowI_length]; omega), List.append_nil]
theorem K6_0 : splice (K6 a b c d e f) 0 (rowI .u8 32 g) = K6 g b c d e f := by simp [K6, splice, rowI_length, List.take_append, List.drop_append, row_takeGe, row_dropGe]
theorem K6_1 : splice (K6 a b c d e f) 32 (rowI .u8 32 g) = K6 a g c d e f := by simp [K6, splice, rowI_length, List.take_append, List.drop_append, row_takeGe, row_dropGe]
theorem K6_2 : splice (K6 a b c d e f) 64 (rowI .u8 32 g) = K6 a b g d e f := by simp [K6, splice, rowI_length, List.take_append, List.drop_append, row_takeGe, row_dropGe]
theorem K6_3 : splice (K6 a b c d e f) 96 (rowI .u8 32 g) = K6 a b c g e f := by simp [K6, splice, rowI_length, List.take_append, List.drop_append, row_takeGe, row_dropGe]
theorem K6_4 : splice (K6 a b c d e f) 128 (rowI .u8 32 g) = K6 a b c d g f := by simp [K6, splice, rowI_length, List.take_append, List.drop_append, row_takeGe, row_dropGe]
theorem K6_5 : splice (K6 a b c d e f) 160 (rowI .u8 32 g) = K6 a b c d e g := by simp [K6, splice, rowI_length, List.take_append, List.drop_append, row_takeGe, row_dropGe]
theorem K6_plain : (K6 a b c d e f).all SV.plain = true := by simp only [K6, List.all_append, plainI, Bool.and_true]
end
theorem zK6 : List.replicate 192 (Sum.inl (Value.int IntKind.u8 0)) = K6 (fun _ => 0) (fun _ => 0) (fun _ => 0) (fun _ => 0) (fun _ => 0) (fun _ => 0) := by
  unfold K6; simp only [← row_zero2, List.replicate_append_replicate]
theorem zK6b : List.map Sum.inl (List.replicate 192 (Value.int IntKind.u8 0)) = K6 (fun _ => 0) (fun _ => 0) (fun _ => 0) (fun _ => 0) (fun _ => 0) (fun _ => 0) := by
  rw [← zK6, List.map_replicate]
theorem shows_app {l l2 : List SV} {o n : Nat} {f : Nat → Int} (h : Shows l2 o n f) : Shows (l ++ l2) (l.length + o) n f := fun i hi => by
  rw [List.getElem?_append_right (by omega), show l.length + o + i - l.length = o + i by omega]; exact h i hi
theorem K6_key {s : St} {i : Nat} (h : i < 6) : Shows (K6 s.root s.priv s.pub s.pee s.send s.recv) (i * 32) 32 (keyN s i) := by
  have : i = 0 ∨ i = 1 ∨ i = 2 ∨ i = 3 ∨ i = 4 ∨ i = 5 := by omega
  rcases this with rfl | rfl | rfl | rfl | rfl | rfl <;> refine shows_of_take ?_ (by rw [K6_len]; omega) <;> simp [K6, keyN, rowI_length, List.drop_append, row_takeGe, row_dropGe]
def numL (s : St) (n : Nat) : List SV := [Sum.inl (.int .u32 s.se), Sum.inl (.int .u32 s.re), Sum.inl (.int .u32 s.ns), Sum.inl (.int .u32 s.nr), Sum.inl (.int .u32 s.pn), Sum.inl (.int .u32 s.skip), Sum.inl (.int .u32 s.room), Sum.inl (.int .u32 n)]
theorem numL_get {s : St} {n i : Nat} (h : i < 8) : (numL s n)[i]? = some (Sum.inl (.int .u32 (numN s n i))) := by
  have : i = 0 ∨ i = 1 ∨ i = 2 ∨ i = 3 ∨ i = 4 ∨ i = 5 ∨ i = 6 ∨ i = 7 := by omega
  rcases this with rfl | rfl | rfl | rfl | rfl | rfl | rfl | rfl <;> rfl
theorem numL_plain {s : St} {n : Nat} : (numL s n).all SV.plain = true := rfl
theorem rulesK : type_of% @K6_len ∧ type_of% @K6_all ∧ type_of% @K6_w ∧ type_of% @K6_wz ∧ type_of% @K6_0 ∧ type_of% @K6_1 ∧ type_of% @K6_2 ∧ type_of% @K6_3 ∧ type_of% @K6_4 ∧ type_of% @K6_5 ∧ type_of% @zK6 ∧ type_of% @zK6b :=
  ⟨@K6_len, @K6_all, @K6_w, @K6_wz, @K6_0, @K6_1, @K6_2, @K6_3, @K6_4, @K6_5, @zK6, @zK6b⟩
end Go.Vcg
