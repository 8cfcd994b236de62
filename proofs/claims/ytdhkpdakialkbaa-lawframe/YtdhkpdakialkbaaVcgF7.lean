/-
  The bytes of a frame say what the frame is.
-/
import Derived.Test.YtdhkpdakialkbaaVcgF5
set_option linter.unusedSimpArgs false
set_option linter.unusedVariables false
namespace Go.Proofs.Ytdhkpdakialkbaa
open Go.Vcg
theorem u32B_sum {x : Int} (h0 : 0 ≤ x) (h1 : x < 4294967296) : u32B x 0 * 16777216 + u32B x 1 * 65536 + u32B x 2 * 256 + u32B x 3 = x := by
  have e0 : u32B x 0 = x / 16777216 % 256 := by
    show IntKind.u8.wrap (x.fdiv 16777216) = _
    rw [Int.fdiv_eq_ediv_of_nonneg _ (by decide), wrap_u8]
  have e1 : u32B x 1 = x / 65536 % 256 := by
    show IntKind.u8.wrap (x.fdiv 65536) = _
    rw [Int.fdiv_eq_ediv_of_nonneg _ (by decide), wrap_u8]
  have e2 : u32B x 2 = x / 256 % 256 := by
    show IntKind.u8.wrap (x.fdiv 256) = _
    rw [Int.fdiv_eq_ediv_of_nonneg _ (by decide), wrap_u8]
  have e3 : u32B x 3 = x % 256 := by
    show IntKind.u8.wrap (x.fdiv 1) = _
    rw [Int.fdiv_eq_ediv_of_nonneg _ (by decide), wrap_u8, Int.ediv_one]
  rw [e0, e1, e2, e3]; omega
theorem svIs_n {n t k : Nat} {sv : SV} {f : Nat → Int} {cs : List SV} (h : ArgIs t (.inl (.inl sv)) n f cs) : ∃ sv0, ArgIs k (.inl (.inl sv0)) n f cs ∧ ∀ r : Nat → Nat, r k = t → SV.ren r sv0 = sv := by
  rcases h with ⟨⟨a, e⟩, h0⟩ | ⟨o, c, e, hs⟩
  · cases e; exact ⟨_, .inl ⟨⟨a, rfl⟩, h0⟩, fun r _ => rfl⟩
  · cases e; exact ⟨_, .inr ⟨o, c, rfl, hs⟩, fun r hr => by simp only [SV.ren, hr]⟩
section
variable {pub tag body : Nat → Int} {pn n : Int} {m : Nat}
theorem frB_0 : frB pub pn n m body tag 0 = 210 := by
  simp only [frB, joinB]; rw [if_pos (by omega)]; rfl
theorem frB_pub (i : Nat) (hi : i < 32) : frB pub pn n m body tag (1 + i) = pub i := by
  simp only [frB, joinB]
  rw [if_pos (by omega), if_pos (by omega), if_pos (by omega), if_pos (by omega), if_pos (by omega), if_neg (by omega), show 1 + i - 1 = i by omega]
theorem frB_pn (i : Nat) (hi : i < 4) : frB pub pn n m body tag (33 + i) = u32B pn i := by
  simp only [frB, joinB]
  rw [if_pos (by omega), if_pos (by omega), if_pos (by omega), if_pos (by omega), if_neg (by omega), show 33 + i - 33 = i by omega]
theorem frB_n (i : Nat) (hi : i < 4) : frB pub pn n m body tag (37 + i) = u32B n i := by
  simp only [frB, joinB]
  rw [if_pos (by omega), if_pos (by omega), if_pos (by omega), if_neg (by omega), show 37 + i - 37 = i by omega]
theorem frB_m (i : Nat) (hi : i < 4) : frB pub pn n m body tag (41 + i) = u32B m i := by
  simp only [frB, joinB]
  rw [if_pos (by omega), if_pos (by omega), if_neg (by omega), show 41 + i - 41 = i by omega]
theorem frB_body (i : Nat) (hi : i < m) : frB pub pn n m body tag (45 + i) = body i := by
  simp only [frB, joinB]
  rw [if_pos (by omega), if_neg (by omega), show 45 + i - 45 = i by omega]
theorem frB_tag (i : Nat) (hi : i < 32) : frB pub pn n m body tag (45 + m + i) = tag i := by
  simp only [frB, joinB]
  rw [if_neg (by omega), show 45 + m + i - (45 + m) = i by omega]
theorem frB_33 (h0 : 0 ≤ pn) (h1 : pn < 4294967296) : be4 (frB pub pn n m body tag) 33 = pn := by
  have a0 := frB_pn (pub := pub) (pn := pn) (n := n) (m := m) (body := body) (tag := tag) 0 (by decide)
  have a1 := frB_pn (pub := pub) (pn := pn) (n := n) (m := m) (body := body) (tag := tag) 1 (by decide)
  have a2 := frB_pn (pub := pub) (pn := pn) (n := n) (m := m) (body := body) (tag := tag) 2 (by decide)
  have a3 := frB_pn (pub := pub) (pn := pn) (n := n) (m := m) (body := body) (tag := tag) 3 (by decide)
  simp only [Nat.add_zero] at a0
  simp only [be4, a0, a1, a2, a3]
  exact u32B_sum h0 h1
theorem frB_37 (h0 : 0 ≤ n) (h1 : n < 4294967296) : be4 (frB pub pn n m body tag) 37 = n := by
  have a0 := frB_n (pub := pub) (pn := pn) (n := n) (m := m) (body := body) (tag := tag) 0 (by decide)
  have a1 := frB_n (pub := pub) (pn := pn) (n := n) (m := m) (body := body) (tag := tag) 1 (by decide)
  have a2 := frB_n (pub := pub) (pn := pn) (n := n) (m := m) (body := body) (tag := tag) 2 (by decide)
  have a3 := frB_n (pub := pub) (pn := pn) (n := n) (m := m) (body := body) (tag := tag) 3 (by decide)
  simp only [Nat.add_zero] at a0
  simp only [be4, a0, a1, a2, a3]
  exact u32B_sum h0 h1
theorem frB_41 (h1 : m ≤ 65536) : be4 (frB pub pn n m body tag) 41 = m := by
  have a0 := frB_m (pub := pub) (pn := pn) (n := n) (m := m) (body := body) (tag := tag) 0 (by decide)
  have a1 := frB_m (pub := pub) (pn := pn) (n := n) (m := m) (body := body) (tag := tag) 1 (by decide)
  have a2 := frB_m (pub := pub) (pn := pn) (n := n) (m := m) (body := body) (tag := tag) 2 (by decide)
  have a3 := frB_m (pub := pub) (pn := pn) (n := n) (m := m) (body := body) (tag := tag) 3 (by decide)
  simp only [Nat.add_zero] at a0
  simp only [be4, a0, a1, a2, a3]
  exact u32B_sum (by omega) (by omega)
theorem frB_byt (hpub : Byt pub) (htag : Byt tag) (hbody : Byt body) : Byt (frB pub pn n m body tag) := by
  have h210 : Byt (fun _ => (210 : Int)) := fun i => by show (0 : Int) ≤ 210 ∧ (210 : Int) < 256; decide
  have jb : ∀ {k : Nat} {f g : Nat → Int}, Byt f → Byt g → Byt (joinB k f g) := fun hf hg i => by
    simp only [joinB]; split
    · exact hf i
    · exact hg _
  exact jb (jb (jb (jb (jb (jb h210 hpub) (u32B_byt _)) (u32B_byt _)) (u32B_byt _)) hbody) htag
theorem frB_is (h1 : m ≤ 65536) : isFr (45 + m + 32) (frB pub pn n m body tag) :=
  ⟨by omega, by omega, frB_0, by rw [frB_41 h1]; omega⟩
end
theorem laid_n {o c m N : Nat} {G pub tag body : Nat → Int} {pn n : Int} {sv : SV} {cs ds : List SV} (hN : N = 77 + m) (hG : Byt G) (hs : Shows cs o N G) (hp : cs.all SV.plain = true) (hc : N ≤ c) (hm : m ≤ 65536) (hv : ArgIs 1 (.inl (.inl sv)) m body ds) (hq : ds.all SV.plain = true)
    (e0 : G 0 = 210) (e1 : ∀ i, i < 32 → G (1 + i) = pub i) (e2 : ∀ i, i < 32 → G (45 + m + i) = tag i) (e3 : be4 G 33 = pn) (e4 : be4 G 37 = n) (e5 : be4 G 41 = m) (e6 : ∀ i, i < m → G (45 + i) = body i) :
    MFun Try.prog 8 [Sl 0 o N c, Ag (frL pub pn n sv tag)] 2 (lk [(0, ⟨false, cs⟩), (1, ⟨false, ds⟩)]) (fun v out => v = B true ∧ out = fun _ => none) := by
  subst hN; exact laid_m hG hs hp hc hm hv hq e0 e1 e2 e3 e4 e5 e6
/-- The same, as a caller meets it. -/
theorem laid_call {s : AS} {nm t u o c m N : Nat} {G pub tag body : Nat → Int} {pn n : Int} {sv : SV} {cs ds : List SV} {ra rb : Bool} (hN : N = 77 + m) (hG : Byt G) (hs : Shows cs o N G) (hb : s.box t = some ⟨ra, cs⟩) (hp : cs.all SV.plain = true) (hc : N ≤ c) (hm : m ≤ 65536)
    (hv : ArgIs u (.inl (.inl sv)) m body ds) (hb' : s.box u = some ⟨rb, ds⟩) (hq : ds.all SV.plain = true)
    (e0 : G 0 = 210) (e1 : ∀ i, i < 32 → G (1 + i) = pub i) (e2 : ∀ i, i < 32 → G (45 + m + i) = tag i) (e3 : be4 G 33 = pn) (e4 : be4 G 37 = n) (e5 : be4 G 41 = m) (e6 : ∀ i, i < m → G (45 + i) = body i) {dst : Option Nat} {K : AS → Prop} (hk : K (s.put dst (some (B true)))) :
    vcCall Try.prog nm 8 (some [Sl t o N c, Ag (frL pub pn n sv tag)]) dst K s := by
  obtain ⟨sv0, h0, e⟩ := svIs_n (k := 1) hv
  refine (laid_n (sv := sv0) hN hG hs hp hc hm h0 hq e0 e1 e2 e3 e4 e5 e6).vcRead (two t u) (fits2 hb hp hb' hq) rfl ?_ hk
  simp only [List.map_cons, List.map_nil, ren_fr, ren_s, two0, e (two t u) rfl]
theorem sameFrame_call {s : AS} {nm t u : Nat} {pub tag body : Nat → Int} {pn n : Int} {m : Nat} {sv sw : SV} {cs ds : List SV} {ra rb : Bool} (hb : s.box t = some ⟨ra, cs⟩) (hp : cs.all SV.plain = true) (hb' : s.box u = some ⟨rb, ds⟩) (hq : ds.all SV.plain = true)
    (h0 : ArgIs t (.inl (.inl sv)) m body cs) (h1 : ArgIs u (.inl (.inl sw)) m body ds) (hm : m < 4611686018427387904) {dst : Option Nat} {K : AS → Prop} (hk : K (s.put dst (some (B true)))) :
    vcCall Try.prog nm 9 (some [Ag (frL pub pn n sv tag), Ag (frL pub pn n sw tag)]) dst K s := by
  obtain ⟨sv0, g0, e0⟩ := svIs_n (k := 0) h0
  obtain ⟨sw0, g1, e1⟩ := svIs_n (k := 1) h1
  refine (sameFrame_m (pub := pub) (pn := pn) (n := n) (tag := tag) hp hq g0 g1 hm).vcRead (two t u) (fits2 hb hp hb' hq) rfl ?_ hk
  simp only [List.map_cons, List.map_nil, ren_fr, e0 (two t u) rfl, e1 (two t u) rfl]
theorem u32B_be4 {f : Nat → Int} (hf : Byt f) (a : Nat) : ∀ j, j < 4 → u32B (be4 f a) j = f (a + j) := by
  have h0 := hf a; have h1 := hf (a + 1); have h2 := hf (a + 2); have h3 := hf (a + 3)
  intro j hj
  have : j = 0 ∨ j = 1 ∨ j = 2 ∨ j = 3 := by omega
  rcases this with rfl | rfl | rfl | rfl
  · show IntKind.u8.wrap ((be4 f a).fdiv 16777216) = f a
    rw [Int.fdiv_eq_ediv_of_nonneg _ (by decide), wrap_u8, be4]; omega
  · show IntKind.u8.wrap ((be4 f a).fdiv 65536) = _
    rw [Int.fdiv_eq_ediv_of_nonneg _ (by decide), wrap_u8, be4]; omega
  · show IntKind.u8.wrap ((be4 f a).fdiv 256) = _
    rw [Int.fdiv_eq_ediv_of_nonneg _ (by decide), wrap_u8, be4]; omega
  · show IntKind.u8.wrap ((be4 f a).fdiv 1) = _
    rw [Int.fdiv_eq_ediv_of_nonneg _ (by decide), wrap_u8, Int.ediv_one, be4]; omega
theorem frB_raw {f : Nat → Int} {L : Nat} (hf : Byt f) (h : isFr L f) (i : Nat) (hi : i < L) : frB (fun i => f (1 + i)) (be4 f 33) (be4 f 37) (L - 77) (fun i => f (45 + i)) (fun i => f (45 + (L - 77) + i)) i = f i := by
  obtain ⟨h1, h2, h3, h4⟩ := h
  by_cases a0 : i < 1
  · obtain rfl : i = 0 := by omega
    rw [frB_0, h3]
  by_cases a1 : i < 33
  · have := frB_pub (pub := fun i => f (1 + i)) (pn := be4 f 33) (n := be4 f 37) (m := L - 77) (body := fun i => f (45 + i)) (tag := fun i => f (45 + (L - 77) + i)) (i - 1) (by omega)
    rw [show 1 + (i - 1) = i by omega] at this; exact this
  by_cases a2 : i < 37
  · have := frB_pn (pub := fun i => f (1 + i)) (pn := be4 f 33) (n := be4 f 37) (m := L - 77) (body := fun i => f (45 + i)) (tag := fun i => f (45 + (L - 77) + i)) (i - 33) (by omega)
    rw [u32B_be4 hf 33 _ (by omega), show 33 + (i - 33) = i by omega] at this; exact this
  by_cases a3 : i < 41
  · have := frB_n (pub := fun i => f (1 + i)) (pn := be4 f 33) (n := be4 f 37) (m := L - 77) (body := fun i => f (45 + i)) (tag := fun i => f (45 + (L - 77) + i)) (i - 37) (by omega)
    rw [u32B_be4 hf 37 _ (by omega), show 37 + (i - 37) = i by omega] at this; exact this
  by_cases a4 : i < 45
  · have := frB_m (pub := fun i => f (1 + i)) (pn := be4 f 33) (n := be4 f 37) (m := L - 77) (body := fun i => f (45 + i)) (tag := fun i => f (45 + (L - 77) + i)) (i - 41) (by omega)
    rw [← h4, u32B_be4 hf 41 _ (by omega), show 41 + (i - 41) = i by omega] at this; exact this
  by_cases a5 : i < 45 + (L - 77)
  · have := frB_body (pub := fun i => f (1 + i)) (pn := be4 f 33) (n := be4 f 37) (m := L - 77) (body := fun i => f (45 + i)) (tag := fun i => f (45 + (L - 77) + i)) (i - 45) (by omega)
    rw [show 45 + (i - 45) = i by omega] at this; exact this
  · have := frB_tag (pub := fun i => f (1 + i)) (pn := be4 f 33) (n := be4 f 37) (m := L - 77) (body := fun i => f (45 + i)) (tag := fun i => f (45 + (L - 77) + i)) (i - (45 + (L - 77))) (by omega)
    rw [show 45 + (L - 77) + (i - (45 + (L - 77))) = i by omega] at this; exact this
/-- Scribbling over an answer, as a caller meets it. -/
theorem scribble_call {s : AS} {nm t : Nat} {v : AV} (h : v = V (.slice none 0 0) ∨ ∃ k c cs f, v = Sl t 0 k c ∧ s.box t = some ⟨true, cs⟩ ∧ Grows cs 0 k c f ∧ k < 4611686018427387904) {dst : Option Nat} {K : AS → Prop}
    (hk : ∀ box', (∀ u, u ≠ t → box' u = s.box u) → K ((⟨s.env, box', s.next⟩ : AS).put dst (some (.inr [])))) : vcCall Try.prog nm 12 (some [v]) dst K s := by
  rcases h with rfl | ⟨k, c, cs, f, rfl, hb, hg, hk'⟩
  · exact scribble_n.vcCall (hk s.box fun _ _ => rfl)
  · have e := shows_split hg.shows (by have := hg.len; have := hg.room; omega)
    have ep : (cs.drop k).all SV.plain = true := by
      have := hg.plain
      rw [e, List.all_append] at this
      exact (Bool.and_eq_true _ _ ▸ this).2
    rw [e] at hb
    exact (scribble_m (o := 0) (c := c) ep hk' rfl).vcWrite hb (plainT ep) (plainT ep) rfl rfl (hk _ fun u hu => upd_ne _ _ _ _ hu)
/-- Decoding, as a caller meets it. -/
theorem decode_call {s : AS} {nm t o nn c : Nat} {f : Nat → Int} {cs : List SV} {rw : Bool} (hf : Byt f) (hs : Shows cs o nn f) (hb : s.box t = some ⟨rw, cs⟩) (hp : cs.all SV.plain = true) (hc : nn ≤ c) (hn : nn < 140737488355328) {dst : Option Nat} {K : AS → Prop}
    (hbad : ¬ isFr nn f → K (s.put dst (some shutV)))
    (h0 : isFr nn f → nn - 77 = 0 → K (s.put dst (some (.inr [.inr (frL (fun i => f (1 + i)) (be4 f 33) (be4 f 37) (Sum.inl (.slice none 0 0)) (fun i => f (45 + (nn - 77) + i))), .inl (.inl (.bool true))]))))
    (hk : isFr nn f → 0 < nn - 77 → ∀ q cs', Grows cs' 0 (nn - 77) q (fun i => f (45 + i)) → K ((⟨s.env, upd s.box nm (some ⟨true, cs'⟩), s.next⟩ : AS).put dst (some (.inr [.inr (frL (fun i => f (1 + i)) (be4 f 33) (be4 f 37) (rd nm 0 (nn - 77) q) (fun i => f (45 + (nn - 77) + i))), .inl (.inl (.bool true))])))) :
    vcCall Try.prog nm 7 (some [Sl t o nn c]) dst K s := by
  by_cases hfr : isFr nn f
  · refine (decode_good hf hs hp hc hn hfr).vcCall (fun _ => t) none (fits1 hb hp) rfl ?_
    rintro v out ⟨svx, rfl, ⟨e, rfl, rfl⟩ | ⟨q, tail, hm, rfl, rfl, h1, h2, h3⟩⟩ _
    · rw [AV.ren_plain openV_plain]
      exact h0 hfr e
    · rw [after_lk (plainT h3)]
      have e : SV.ren (rnew (fun _ => t) 1 nm) (Sum.inr (.inr (1, 0, nn - 77, q))) = rd nm 0 (nn - 77) q := by show rd (rnew (fun _ => t) 1 nm 1) 0 (nn - 77) q = _; rw [rnew_k]
      simp only [AV.ren, List.map_cons, List.map_nil, CV.ren, frL_ren, e]
      exact hk hfr hm q _ (Grows.row h1 h2 h3)
  · exact (decode_bad hf hs hp hc hn hfr).vcRead (fun _ => t) (fits1 hb hp) shutV_plain rfl (hbad hfr)
/-- Encoding in a region that draws. -/
theorem encode_draw {s : AS} {nm t o c m : Nat} {pub tag body : Nat → Int} {pn n : Int} {cs : List SV} {rw : Bool} (hb : s.box t = some ⟨rw, cs⟩) (hp : cs.all SV.plain = true) (hv : Shows cs o m body) {ops : Array Oper} {i : Nat} (hlate : late ops i = true) {dst : Option Nat} {K : AS → Prop}
    (hbad : 65536 < m → K (s.put dst (some (V (.slice none 0 0)))))
    (hk : m ≤ 65536 → ∀ c cs', Grows cs' 0 (45 + m + 32) c (frB pub pn n m body tag) → K ((⟨s.env, upd s.box nm (some ⟨true, cs'⟩), s.next⟩ : AS).put dst (some (Sl nm 0 (45 + m + 32) c)))) :
    vcFun Try.prog ops i nm 5 (some [Ag (frL pub pn n (Sum.inr (.inr (t, o, m, c))) tag)]) dst K s := by
  have h0 : ArgIs 0 (.inl (.inl (Sum.inr (.inr (0, o, m, c))))) m body cs := .inr ⟨o, c, rfl, hv⟩
  have nmd : ∀ M : Nat → Prop, (∀ v ∈ [Ag (frL pub pn n (Sum.inr (.inr (t, o, m, c))) tag)], AV.ok M v) → ∀ n, n < 1 → M t := fun M h _ _ => by
    have h1 := h _ (List.Mem.head _)
    have h2 : Sum.inr (.inr (t, o, m, c)) ∈ frL pub pn n (Sum.inr (.inr (t, o, m, c))) tag := by simp [frL]
    exact (h1 _ h2).1
  rcases Nat.lt_or_ge 65536 m with hm | hm
  · exact (encodeFrame_bad (pub := pub) (tag := tag) (pn := pn) (n := n) hp h0 hm).drawRead (fun _ => t) (fits1 hb hp) rfl (by simp only [List.map_cons, List.map_nil, ren_fr]; rfl) nmd (hbad hm)
  · exact made_late (encodeFrame_m (pub := pub) (tag := tag) (pn := pn) (n := n) hp h0 hm) (fun _ => t) (fits1 hb hp) (by simp only [List.map_cons, List.map_nil, ren_fr]; rfl) nmd hlate (fun c tail h1 h2 h3 => hk hm c _ (Grows.row h1 h2 h3))
end Go.Proofs.Ytdhkpdakialkbaa
