/-
  The calculus: what a row of bytes says of a state. Nothing here speaks of a program's code.
-/
import Derived.Test.YtikibkboebbdjaaVcgY
namespace Go.Vcg
set_option linter.unusedSectionVars false
set_option linter.unusedSimpArgs false
set_option linter.unusedVariables false
def setKey (s : St) (j : Nat) (g : Nat → Int) : St :=
  if j = 0 then { s with root := g } else if j = 1 then { s with priv := g } else if j = 2 then { s with pub := g } else if j = 3 then { s with pee := g } else if j = 4 then { s with send := g } else { s with recv := g }
def setNum (s : St) (j : Nat) (x : Int) : St :=
  if j = 0 then { s with se := x } else if j = 1 then { s with re := x } else if j = 2 then { s with ns := x } else if j = 3 then { s with nr := x } else { s with pn := x }
theorem stL_pk {s : St} {j : Nat} {g : Nat → Int} (h : j < 6) : splice (stL s) (3 + 32 * j) (rowI .u8 32 g) = stL (setKey s j g) := by
  have : j = 0 ∨ j = 1 ∨ j = 2 ∨ j = 3 ∨ j = 4 ∨ j = 5 := by omega
  rcases this with rfl | rfl | rfl | rfl | rfl | rfl
  · exact stL_p3
  · exact stL_p35
  · exact stL_p67
  · exact stL_p99
  · exact stL_p131
  · exact stL_p163
theorem stL_pn {s : St} {j : Nat} {x : Int} (h : j < 5) : splice (stL s) (195 + j) [Sum.inl (.int .u32 x)] = stL (setNum s j x) := by
  have : j = 0 ∨ j = 1 ∨ j = 2 ∨ j = 3 ∨ j = 4 := by omega
  rcases this with rfl | rfl | rfl | rfl | rfl
  · exact stL_s195
  · exact stL_s196
  · exact stL_s197
  · exact stL_s198
  · exact stL_s199
def bt (k : Nat) (x : Int) : Bool := x / 2 ^ k % 2 == 1
theorem bt_all : (List.range 256).all (fun n => ((bitI .and .u8 (n : Int) 1 != 0) == bt 0 n) && ((bitI .and .u8 (n : Int) 2 != 0) == bt 1 n) && ((bitI .and .u8 (n : Int) 4 != 0) == bt 2 n)) = true := by decide +kernel
theorem bt_and {x : Int} (h : 0 ≤ x ∧ x < 256) : (bitI .and .u8 x 1 != 0) = bt 0 x ∧ (bitI .and .u8 x 2 != 0) = bt 1 x ∧ (bitI .and .u8 x 4 != 0) = bt 2 x := by
  have e := List.all_eq_true.1 bt_all x.toNat (List.mem_range.2 (by omega))
  rw [show ((x.toNat : Nat) : Int) = x by omega] at e
  simp only [Bool.and_eq_true, beq_iff_eq] at e
  exact ⟨e.1.1, e.1.2, e.2⟩
def rawF (G : Nat → Int) : St := { stZ with own := bt 0 (G 1), peer := bt 1 (G 1), has := bt 2 (G 1) }
def rawK (G : Nat → Int) : Nat → St
  | 0 => rawF G
  | j + 1 => setKey (rawK G j) j (fun i => G (2 + 32 * j + i))
def rawN (G : Nat → Int) : Nat → St
  | 0 => rawK G 6
  | j + 1 => setNum (rawN G j) j (be4 G (194 + 4 * j))
def rawS (G : Nat → Int) : St := { rawN G 5 with skip := be4 G 214, room := be4 G 218 }
def rawE (G : Nat → Int) (i : Nat) : En := ⟨be4 G (226 + 72 * i), be4 G (230 + 72 * i), fun k => G (234 + 72 * i + k), fun k => G (266 + 72 * i + k)⟩
theorem be4_w {G : Nat → Int} (h : Byt G) (i : Nat) : W32 (be4 G i) := by
  have h0 := h i; have h1 := h (i + 1); have h2 := h (i + 2); have h3 := h (i + 3)
  unfold be4 W32; omega
theorem be4_shift (G : Nat → Int) (p : Nat) : be4 (fun i => G (p + i)) 0 = be4 G p := by unfold be4; simp
theorem rawE_ok {G : Nat → Int} (h : Byt G) (i : Nat) : EnOk (rawE G i) := ⟨be4_w h _, be4_w h _, fun k => h _, fun k => h _⟩
theorem rawS_ok {G : Nat → Int} (h : Byt G) : StOk (rawS G) :=
  ⟨fun k => h _, fun k => h _, fun k => h _, fun k => h _, fun k => h _, fun k => h _, be4_w h _, be4_w h _, be4_w h _, be4_w h _, be4_w h _, by have := be4_w h 214; unfold W32 at this; show -9223372036854775808 ≤ be4 G 214 ∧ be4 G 214 < 9223372036854775808; omega, by have := be4_w h 218; unfold W32 at this; show -9223372036854775808 ≤ be4 G 218 ∧ be4 G 218 < 9223372036854775808; omega⟩
/-- How many entries L bytes hold. -/
def cntE (L : Nat) : Nat := (L - 226) / 72
def GoodS (L : Nat) (G : Nat → Int) : Prop := L = 226 + 72 * cntE L ∧ valB (rawS G) (cntE L) (rawE G) = true ∧ ∀ i, i < L → stateB (rawS G) (cntE L) (rawE G) (cntE L) i = G i
/-- What is handed back of a store: nothing, or a new box. -/
def KeptE (k N : Nat) (f : Nat → En) (sv : SV) (out : Nat → Option Box) : Prop :=
  (N = 0 ∧ sv = .inl (.slice none 0 0) ∧ out = fun _ => none) ∨ (0 < N ∧ ∃ c cs, sv = .inr (.inr (k, 0, N, c)) ∧ GrowsE cs 0 N c f ∧ out = lk [(k, ⟨true, cs⟩)])
def ReadS (k N : Nat) (G : Nat → Int) (v : AV) (out : Nat → Option Box) : Prop := ∃ sv, v = Ag (stL { rawS G with store := sv }) ∧ KeptE k N (rawE G) sv out
def DecS (k L : Nat) (G : Nat → Int) (v : AV) (out : Nat → Option Box) : Prop :=
  (¬ GoodS L G ∧ v = .inr [.inr (stL stZ), .inl (.inl (.bool false))] ∧ out = fun _ => none) ∨
    (GoodS L G ∧ ∃ sv, v = .inr [.inr (stL { rawS G with store := sv }), .inl (.inl (.bool true))] ∧ KeptE k (cntE L) (rawE G) sv out)
theorem lk_one {k n : Nat} {b b' : Box} (h : lk [(k, b)] n = some b') : n = k ∧ b' = b := by
  simp only [lk] at h
  split at h
  · rename_i e; simp only [Option.some.injEq] at h; exact ⟨e, h.symm⟩
  · cases h
theorem ret_st {s : AS} {k q o n c : Nat} {x : St} {cs : List SV} {Post : AV → (Nat → Option Box) → Prop} (hq : k ≤ q) (hb : s.box q = some ⟨true, cs⟩) (hp : cs.all SV.plain = true)
    (h : Post (Ag (stL { x with store := .inr (.inr (k, o, n, c)) })) (lk [(k, ⟨true, cs⟩)])) : Ret k Post (Ag (stL { x with store := .inr (.inr (q, o, n, c)) })) s := by
  refine ⟨q, Ag (stL { x with store := .inr (.inr (k, o, n, c)) }), lk [(k, ⟨true, cs⟩)], hq, ?_, stL_ok ⟨Nat.lt_succ_self k, rfl⟩, fun m b hm => ?_, h⟩
  · rw [ren_st]; simp only [SV.ren, rho_k]
  · obtain ⟨rfl, rfl⟩ := lk_one hm
    exact ⟨Nat.lt_succ_self _, fun _ => rfl, ok_all hp, ⟨true, cs⟩, by rw [rho_k]; exact hb, fun h => h, (ren_all hp _).symm⟩
theorem ret_stT {s : AS} {k q o n c : Nat} {x : St} {b : Bool} {cs : List SV} {Post : AV → (Nat → Option Box) → Prop} (hq : k ≤ q) (hb : s.box q = some ⟨true, cs⟩) (hp : cs.all SV.plain = true)
    (h : Post (.inr [.inr (stL { x with store := .inr (.inr (k, o, n, c)) }), .inl (.inl (.bool b))]) (lk [(k, ⟨true, cs⟩)])) : Ret k Post (.inr [.inr (stL { x with store := .inr (.inr (q, o, n, c)) }), .inl (.inl (.bool b))]) s := by
  refine ⟨q, .inr [.inr (stL { x with store := .inr (.inr (k, o, n, c)) }), .inl (.inl (.bool b))], lk [(k, ⟨true, cs⟩)], hq, ?_, fun y hy => ?_, fun m b hm => ?_, h⟩
  · simp only [AV.ren, List.map_cons, List.map_nil, CV.ren, SV.ren, stL_ren, rho_k]
  · simp only [List.mem_cons, List.not_mem_nil, or_false] at hy
    rcases hy with rfl | rfl
    · exact stL_ok ⟨Nat.lt_succ_self k, rfl⟩
    · trivial
  · obtain ⟨rfl, rfl⟩ := lk_one hm
    exact ⟨Nat.lt_succ_self _, fun _ => rfl, ok_all hp, ⟨true, cs⟩, by rw [rho_k]; exact hb, fun h => h, (ren_all hp _).symm⟩
theorem ent_raw (G : Nat → Int) (j : Nat) : (⟨be4 G (226 + 72 * j), be4 G (226 + 72 * j + 4), fun i => G (226 + 72 * j + 4 + 4 + i), fun i => G (226 + 72 * j + 4 + 4 + 32 + i)⟩ : En) = rawE G j := by
  unfold rawE
  rw [show 226 + 72 * j + 4 = 230 + 72 * j by omega, show 230 + 72 * j + 4 = 234 + 72 * j by omega, show 234 + 72 * j + 32 = 266 + 72 * j by omega]
theorem zL66 : zerosL (List.replicate 2 (Value.int IntKind.u32 0) ++ List.replicate 64 (Value.int IntKind.u8 0)) 66 = enL enZ := by rfl
theorem zLen : (0 < (List.replicate 2 (Value.int IntKind.u32 0) ++ List.replicate 64 (Value.int IntKind.u8 0)).length) = True := eq_true (by decide)
theorem showsE_one {e : En} : ShowsE (enL e) 0 1 (fun _ => e) := fun i hi => by
  obtain rfl : i = 0 := by omega
  exact enL_all
theorem GrowsE.congr {cs : List SV} {o n m c : Nat} {f g : Nat → En} (h : GrowsE cs o n c f) (e : n = m) (hfg : ∀ i, i < n → f i = g i) : GrowsE cs o m c g :=
  ⟨h.len, e ▸ h.room, h.plain, e ▸ showsE_congr h.shows hfg⟩
theorem u32B_sum {x : Int} (h0 : 0 ≤ x) (h1 : x < 4294967296) : u32B x 0 * 16777216 + u32B x 1 * 65536 + u32B x 2 * 256 + u32B x 3 = x := by
  have e0 : u32B x 0 = x / 16777216 % 256 := by
    show IntKind.u8.wrap (x.fdiv 16777216) = _
    rw [Int.fdiv_eq_ediv_of_nonneg _ (by decide), wrap_u8]
  have e1 : u32B x 1 = x / 65536 % 256 := by
    show IntKind.u8.wrap (x.fdiv 65536) = _
    rw [Int.fdiv_eq_ediv_of_nonneg _ (by decide), wrap_u8]
  have e2 : u32B x 2 = x / 256 % 256 := by
    show IntKind.u8.wrap (x.fdiv 256) = _
    rw [Int.fdiv_eq_ediv_of_nonneg _ (by decide), wrap_u8]
  have e3 : u32B x 3 = x % 256 := by
    show IntKind.u8.wrap (x.fdiv 1) = _
    rw [Int.fdiv_eq_ediv_of_nonneg _ (by decide), wrap_u8, Int.ediv_one]
  rw [e0, e1, e2, e3]; omega
theorem stateB_low {s : St} {n : Nat} {f : Nat → En} {i : Nat} (h : i < 226) : ∀ k, stateB s n f k i = numsB s n 8 i
  | 0 => rfl
  | k + 1 => by
    rw [stateB, entB2, joinB, if_pos (by omega), joinB, if_pos (by omega), entB1, joinB, if_pos (by omega), joinB, if_pos (by omega)]
    exact stateB_low h k
theorem stateB_cnt {s : St} {n : Nat} {f : Nat → En} {k : Nat} (h : n < 4294967296) : be4 (stateB s n f k) 222 = n := by
  have e : ∀ j, j < 4 → stateB s n f k (222 + j) = u32B n j := fun j hj => by
    rw [stateB_low (by omega), numsB, joinB, if_neg (by omega), show 222 + j - (194 + 4 * 7) = j by omega]; rfl
  have e0 := e 0 (by decide)
  rw [Nat.add_zero] at e0
  rw [be4, e0, e 1 (by decide), e 2 (by decide), e 3 (by decide)]
  exact u32B_sum (by omega) (by omega)
theorem good_cnt {L : Nat} {G : Nat → Int} (h : GoodS L G) : 226 ≤ L ∧ be4 G 222 = cntE L ∧ cntE L ≤ 1000 := by
  obtain ⟨h1, h2, h3⟩ := h
  have hl : cntE L ≤ 1000 := by
    simp only [valB, limB, Bool.and_eq_true, decide_eq_true_eq] at h2
    omega
  have e : ∀ j, j < 4 → stateB (rawS G) (cntE L) (rawE G) (cntE L) (222 + j) = G (222 + j) := fun j hj => h3 _ (by omega)
  have := stateB_cnt (s := rawS G) (n := cntE L) (f := rawE G) (k := cntE L) (by omega)
  have e0 := e 0 (by decide)
  rw [Nat.add_zero] at e0
  rw [be4, e0, e 1 (by decide), e 2 (by decide), e 3 (by decide)] at this
  exact ⟨by omega, this, hl⟩
theorem cntE_of {L N : Nat} (h : L = 226 + 72 * N) : cntE L = N := by unfold cntE; omega
/-! ### Stores that are lent -/
abbrev zEs : List Value := List.replicate 2 (Value.int IntKind.u32 0) ++ List.replicate 64 (Value.int IntKind.u8 0)
theorem zL0 : zerosL zEs 0 = [] := rfl
theorem zL132 : zerosL zEs 132 = enL enZ ++ enL enZ := by rfl
theorem z132_len : (enL enZ ++ enL enZ).length = 132 := by rw [List.length_append, enL_len]
theorem z132_0 : splice (enL enZ ++ enL enZ) 0 (enL enZ) = enL enZ ++ enL enZ := by
  unfold splice; rw [List.take_zero, List.nil_append, Nat.zero_add, List.drop_left]
theorem z132_1 : splice (enL enZ ++ enL enZ) 66 (enL enZ) = enL enZ ++ enL enZ := by
  unfold splice; rw [List.take_left' enL_len, List.drop_eq_nil_of_le (by rw [List.length_append, enL_len]; omega), List.append_nil]
theorem z132_shows : ShowsE (enL enZ ++ enL enZ) 0 2 (fun _ => enZ) := fun i hi => by
  have : i = 0 ∨ i = 1 := by omega
  rcases this with rfl | rfl
  · rw [Nat.zero_mul, List.drop_zero, List.take_left' enL_len]
  · show List.take 66 (List.drop 66 _) = _
    rw [List.drop_left' enL_len, enL_all]
theorem z132_plain : (enL enZ ++ enL enZ).all SV.plain = true := by rw [List.all_append, enL_plain]; rfl
def shL (k n c : Nat) : List SV := [.inr (.inr (k, 0, n + 2, c)), .inl (.int .i64 n)]
abbrev shV (k n c : Nat) : AV := Ag (shL k n c)
def lentE (n : Nat) (f : Nat → En) (i : Nat) : En := if i < n then f i else enZ
def LentE (k n : Nat) (f : Nat → En) (v : AV) (out : Nat → Option Box) : Prop := ∃ c cs, v = shV k n c ∧ GrowsE cs 0 (n + 2) c (lentE n f) ∧ out = lk [(k, ⟨true, cs⟩)]
theorem lentE_call {P : Program} [Tables P] {s : AS} {fn t n nm : Nat} {f : Nat → En} {args l : List AV} {rw : Bool} {cs : List SV} (h : MFun P fn args 1 (lk [(0, ⟨false, cs⟩)]) (LentE 1 n f)) (hb : s.box t = some ⟨rw, cs⟩) (hp : cs.all SV.plain = true) (hl : l = args.map (AV.ren fun _ => t)) {dst : Option Nat} {K : AS → Prop}
    (hk : ∀ c ds, GrowsE ds 0 (n + 2) c (lentE n f) → K ((⟨s.env, upd s.box nm (some ⟨true, ds⟩), s.next⟩ : AS).put dst (some (shV nm n c)))) : vcCall P nm fn (some l) dst K s := by
  refine h.vcCall (fun _ => t) none (fits1 hb hp) hl ?_
  rintro v out ⟨c, ds, rfl, hg, rfl⟩ _
  rw [after_lk hg.plain]
  have e : AV.ren (rnew (fun _ => t) 1 nm) (shV 1 n c) = shV nm n c := by
    show AV.ren _ (.inl (.inr _)) = _
    simp only [AV.ren, CV.ren, shL, List.map_cons, List.map_nil, SV.ren, rnew_k]
    rfl
  rw [e]
  exact hk c ds hg
theorem ret_lentE {s : AS} {k q n c : Nat} {f : Nat → En} {cs : List SV} (hq : k ≤ q) (hb : s.box q = some ⟨true, cs⟩) (hg : GrowsE cs 0 (n + 2) c (lentE n f)) : Ret k (LentE k n f) (Ag [.inr (.inr (q, 0, n + 2, c)), .inl (.int .i64 n)]) s := by
  refine ⟨q, shV k n c, lk [(k, ⟨true, cs⟩)], hq, ?_, fun y hy => ?_, fun m b hm => ?_, c, cs, rfl, hg, rfl⟩
  · show _ = AV.ren _ (.inl (.inr _))
    simp only [AV.ren, CV.ren, shL, List.map_cons, List.map_nil, SV.ren, rho_k]
  · simp only [shL, List.mem_cons, List.not_mem_nil, or_false] at hy
    rcases hy with rfl | rfl
    · exact ⟨Nat.lt_succ_self k, rfl⟩
    · exact ⟨trivial, rfl⟩
  · obtain ⟨rfl, rfl⟩ := lk_one hm
    exact ⟨Nat.lt_succ_self _, fun _ => rfl, ok_all hg.plain, ⟨true, cs⟩, by rw [rho_k]; exact hb, fun h => h, (ren_all hg.plain _).symm⟩
theorem splice_at {cs : List SV} {p q : Nat} {x : SV} (hp : p < cs.length) : (splice cs p [x])[q]? = if q = p then some x else cs[q]? := by
  unfold splice
  have l1 : (cs.take p).length = p := by rw [List.length_take]; omega
  rcases Nat.lt_trichotomy q p with h | h | h
  · rw [if_neg (by omega), List.append_assoc, List.getElem?_append_left (by omega), List.getElem?_take_of_lt h]
  · subst h
    rw [if_pos rfl, List.append_assoc, List.getElem?_append_right (by omega), l1, Nat.sub_self]; rfl
  · rw [if_neg (by omega), List.getElem?_append_right (by rw [List.length_append, l1]; simp; omega), List.length_append, l1, List.length_singleton, List.getElem?_drop]
    congr 1; omega
theorem spoilE {cs : List SV} {n j : Nat} {g : Nat → En} {x : Int} (h : ShowsE cs 0 n g) (hj : j < n) : ShowsE (splice cs (j * 66 + 1) [Sum.inl (.int .u32 x)]) 0 n (upd g j { g j with n := x }) := fun i hi => by
  have b := h.lt hj
  apply List.ext_getElem?
  intro q
  by_cases hq : q < 66
  · rw [List.getElem?_take_of_lt hq, List.getElem?_drop, splice_at (by omega)]
    have e := h.cell hi hq
    by_cases e1 : i = j
    · subst e1
      rw [upd_same, ← enL_s1, splice_at (by rw [enL_len]; decide)]
      by_cases e2 : q = 1
      · subst e2; rw [if_pos (by omega), if_pos rfl]
      · rw [if_neg (by omega), if_neg e2]; exact e
    · rw [upd_ne _ _ _ _ e1, if_neg (by omega)]; exact e
  · rw [List.getElem?_eq_none (by rw [List.length_take]; omega), List.getElem?_eq_none (by rw [enL_len]; omega)]
theorem splice_plain {cs : List SV} {p : Nat} {l : List SV} (h : cs.all SV.plain = true) (hl : l.all SV.plain = true) : (splice cs p l).all SV.plain = true := by
  unfold splice
  rw [List.all_append, List.all_append, hl]
  have a : (cs.take p).all SV.plain = true := List.all_eq_true.2 fun x hx => List.all_eq_true.1 h x (List.mem_of_mem_take hx)
  have b : (cs.drop (p + l.length)).all SV.plain = true := List.all_eq_true.2 fun x hx => List.all_eq_true.1 h x (List.mem_of_mem_drop hx)
  rw [a, b]; rfl
theorem splice_len1 {cs : List SV} {p : Nat} {x : SV} (h : p < cs.length) : (splice cs p [x]).length = cs.length := by
  unfold splice; simp; omega
theorem mk2 {nm : Nat} : effMake nm (some (zEs, 66, 72)) (some (I .i64 2)) (some (I .i64 2)) = some (some (Sl nm 0 2 2), some (.inl (enL enZ ++ enL enZ))) := by
  show (if (0 ≤ (2 : Int) ∧ (2 : Int) ≤ 2 ∧ ((72 : Nat) : Int) * 2 ≤ 281474976710656 ∧ (2 : Int) ≤ 9223372036854775807) ∧ (0 < zEs.length ∧ zEs.all Value.oneCell' = true) then some (some (Sl nm 0 2 2), some (Sum.inl (zerosL zEs 132))) else none : Option Eff) = _
  rw [if_pos ⟨by decide, by decide, by decide⟩, zL132]
theorem splb0 {a b x : SV} : splice [a, b] 0 [x] = [x, b] := rfl
theorem splb1 {a b x : SV} : splice [a, b] 1 [x] = [a, x] := rfl
theorem splb2 {a b x y : SV} : splice [a, b] 0 [x, y] = [x, y] := rfl
theorem lentE_shows {n c : Nat} {f : Nat → En} {cs : List SV} (h : GrowsE cs 0 (n + 2) c (lentE n f)) : ShowsE cs 0 n f := fun i hi => by
  rw [h.shows i (by omega), lentE, if_pos hi]
theorem lentE_tail {n c : Nat} {f : Nat → En} {cs : List SV} (h : GrowsE cs 0 (n + 2) c (lentE n f)) : ShowsE cs (n * 66) 2 (fun _ => enZ) := fun i hi => by
  have := h.shows (n + i) (by omega)
  rw [lentE, if_neg (by omega)] at this
  rw [← this]; congr 2; rw [Nat.add_mul]; omega
end Go.Vcg
