/-
  The statement's function on sealing.
-/
import Derived.Test.YtljncmifbncdbaaDoorVcgS5
import Derived.Test.YtljncmifbncdbaaDoorVcgE1
set_option linter.unusedSimpArgs false
set_option linter.unusedVariables false
namespace Go.Proofs.YtljncmifbncdbaaDoor
open Go.Vcg
theorem seal_call {s : AS} {nm ta oa na ca td od n cd : Nat} {mk ad f : Nat → Int} {cs ds : List SV} {ra rd : Bool} (hmk : Byt mk) (ha : Byt ad) (hf : Byt f) (hb : s.box ta = some ⟨ra, cs⟩) (hs : Shows cs oa na ad) (hp : cs.all SV.plain = true) (hb' : s.box td = some ⟨rd, ds⟩) (hs' : Shows ds od n f) (hq : ds.all SV.plain = true) (hg : ¬ (1048576 < na ∨ 1048576 < n)) {dst : Option Nat} {K : AS → Prop}
    (hk : K ((⟨s.env, upd s.box nm (some ⟨true, rowI .u8 n (bodyA mk f)⟩), s.next⟩ : AS).put dst (some (Ag (Sum.inr (Sum.inr (nm, 0, n, n)) :: rowI .u8 32 (sealT mk na n ad (bodyA mk f))))))) :
    vcCall Tryd.prog nm 5 (some [Ag (rowI .u8 32 mk), Sl ta oa na ca, Sl td od n cd]) dst K s := by
  refine (seal_m (ca := ca) (cd := cd) hmk ha hf hs hp hs' hq hg).vcCall (two ta td) none (fits2 hb hp hb' hq) (by simp only [List.map_cons, List.map_nil, ren_row, ren_s]; rfl) ?_
  rintro v out ⟨rfl, rfl⟩ _
  rw [after_lk plainI, ren_sealed, rnew_k]
  exact hk
theorem seal_draw {s : AS} {nm ta oa na ca td od n cd : Nat} {mk ad f : Nat → Int} {cs ds : List SV} {ra rd : Bool} (hmk : Byt mk) (ha : Byt ad) (hf : Byt f) (hb : s.box ta = some ⟨ra, cs⟩) (hs : Shows cs oa na ad) (hp : cs.all SV.plain = true) (hb' : s.box td = some ⟨rd, ds⟩) (hs' : Shows ds od n f) (hq : ds.all SV.plain = true) (hg : ¬ (1048576 < na ∨ 1048576 < n)) {ops : Array Oper} {i : Nat} {dst : Option Nat} {K : AS → Prop}
    (hk : K ((⟨s.env, upd s.box nm (some ⟨true, rowI .u8 n (bodyA mk f)⟩), s.next⟩ : AS).put dst (some (Ag (Sum.inr (Sum.inr (nm, 0, n, n)) :: rowI .u8 32 (sealT mk na n ad (bodyA mk f))))))) :
    vcFun Tryd.prog ops i nm 5 (some [Ag (rowI .u8 32 mk), Sl ta oa na ca, Sl td od n cd]) dst K s := by
  refine .inr (.inl ⟨(some (sealedV nm n n (sealT mk na n ad (bodyA mk f))), some (.inl (rowI .u8 n (bodyA mk f)))), (seal_m (ca := ca) (cd := cd) hmk ha hf hs hp hs' hq hg).reads (two ta td) (fits2 hb hp hb' hq) (by simp only [List.map_cons, List.map_nil, ren_row, ren_s]; rfl) (fun M h m hm => ?_) ?_ ?_, hk⟩)
  · have a := h (Sl ta oa na ca) (List.Mem.tail _ (List.Mem.head _))
    have b := h (Sl td od n cd) (List.Mem.tail _ (List.Mem.tail _ (List.Mem.head _)))
    simp only [two]; split
    · exact a
    · exact b
  · rintro v out ⟨rfl, rfl⟩
    simp only [effM, ren_sealed, rnew_k]
    simp [lk, ren_all plainI]
  · rintro e rfl
    exact .inr ⟨_, rfl⟩
theorem refSeal_call {s : AS} {nm na n : Nat} {va vd : AV} {mk ad f : Nat → Int} (hmk : Byt mk) (ha : Byt ad) (hf : Byt f) (hva : BytesAt s.box va na ad) (hvd : BytesAt s.box vd n f) (hlim : ¬ (1048576 < na ∨ 1048576 < n)) {dst : Option Nat} {K : AS → Prop}
    (hk : ∀ sv box', (∀ t, t ≠ nm → box' t = s.box t) → (∀ b2 : Nat → Option Box, b2 nm = box' nm → BytesAt b2 (.inl (.inl sv)) n (bodyA mk f)) → K ((⟨s.env, box', s.next⟩ : AS).put dst (some (Ag (sv :: rowI .u8 32 (sealT mk na n ad (bodyA mk f))))))) :
    vcCall Tryd.prog nm 7 (some [Ag (rowI .u8 32 mk), va, vd]) dst K s := by
  obtain ⟨k1, l1, r1, v1, q1, P1, A1, e1, _⟩ := packs_at (s := s) packs_nil (by decide) hvd
  obtain ⟨k2, l2, r2, v2, q2, P2, A2, e2, T2⟩ := packs_at P1 (by omega) hva
  obtain ⟨B1, f1⟩ := T2 _ _ _ A1
  refine (refSeal_g P2.good hmk ha hf A2 B1 hlim).vcCall r2 none P2.fits (by simp only [List.map_cons, List.map_nil, ren_row, e2, f1, e1]) ?_
  rintro v out (⟨g0, rfl, rfl⟩ | ⟨c, tail, rfl, rfl, g1, g2, g3⟩) _
  · have e : after s r2 k2 nm none (fun _ => none) = s.box := by funext x; simp [after]
    rw [e]
    have e' : ∀ T : Nat → Int, AV.ren (rnew r2 k2 nm) (Ag (Sum.inl (.slice none 0 0) :: rowI .u8 32 T)) = Ag (Sum.inl (.slice none 0 0) :: rowI .u8 32 T) := fun T => by
      show AV.ren _ (.inl (.inr _)) = _
      simp only [AV.ren, CV.ren, List.map_cons, ren_all plainI]; rfl
    rw [e']
    exact hk (.inl (.slice none 0 0)) s.box (fun _ _ => rfl) (fun _ _ => .inl ⟨⟨none, rfl⟩, g0⟩)
  · rw [after_lk (plainT g3), ren_sealed, rnew_k]
    exact hk (.inr (.inr (nm, 0, n, c))) _ (fun t ht => upd_ne _ _ _ _ ht) (fun b2 hb2 => .inr ⟨nm, 0, c, true, _, rfl, hb2.trans (upd_same _ _ _), plainT g3, shows_row⟩)
theorem open_call {s : AS} {nm ta oa na ca td od n cd : Nat} {mk ad f tag : Nat → Int} {cs ds : List SV} {ra rd : Bool} (hmk : Byt mk) (ha : Byt ad) (hf : Byt f) (ht : Byt tag) (hb : s.box ta = some ⟨ra, cs⟩) (hs : Shows cs oa na ad) (hp : cs.all SV.plain = true) (hb' : s.box td = some ⟨rd, ds⟩) (hs' : Shows ds od n f) (hq : ds.all SV.plain = true) (hg : ¬ (1048576 < na ∨ 1048576 < n)) {dst : Option Nat} {K : AS → Prop}
    (h1 : sameT tag (sealT mk na n ad f) = true → K ((⟨s.env, upd s.box nm (some ⟨true, rowI .u8 n (bodyA mk f)⟩), s.next⟩ : AS).put dst (some (openedV nm n))))
    (h0 : sameT tag (sealT mk na n ad f) = false → K (s.put dst (some closedV))) :
    vcCall Tryd.prog nm 9 (some [Ag (rowI .u8 32 mk), Sl ta oa na ca, Ag (Sum.inr (Sum.inr (td, od, n, cd)) :: rowI .u8 32 tag)]) dst K s := by
  have el : [Ag (rowI .u8 32 mk), Sl ta oa na ca, Ag (Sum.inr (Sum.inr (td, od, n, cd)) :: rowI .u8 32 tag)] = [Ag (rowI .u8 32 mk), Sl 0 oa na ca, Ag (Sum.inr (Sum.inr (1, od, n, cd)) :: rowI .u8 32 tag)].map (AV.ren (two ta td)) := by
    have e3 : AV.ren (two ta td) (Ag (Sum.inr (Sum.inr (1, od, n, cd)) :: rowI .u8 32 tag)) = Ag (Sum.inr (Sum.inr (td, od, n, cd)) :: rowI .u8 32 tag) := by
      show AV.ren _ (.inl (.inr _)) = _
      simp only [AV.ren, CV.ren, List.map_cons, ren_all plainI]; rfl
    simp only [List.map_cons, List.map_nil, ren_row, ren_s, e3]
    rfl
  cases hsame : sameT tag (sealT mk na n ad f) with
  | true =>
    refine (open_m (ca := ca) (cb := cd) hmk ha hf ht hs hp hs' hq hg hsame).vcCall (two ta td) none (fits2 hb hp hb' hq) el ?_
    rintro v out ⟨rfl, rfl⟩ _
    rw [after_lk plainI]
    have e : AV.ren (rnew (two ta td) 2 nm) (openedV 2 n) = openedV nm n := by show openedV (rnew (two ta td) 2 nm 2) n = _; rw [rnew_k]
    rw [e]
    exact h1 hsame
  | false => exact (open_shut (ca := ca) (cb := cd) hmk ha hf ht hs hp hs' hq hg hsame).vcRead (two ta td) (fits2 hb hp hb' hq) rfl el (h0 hsame)
theorem sv_ren {r : Nat → Nat} {v : AV} {sv : SV} {k n : Nat} {l : List (Nat × Box)} {f : Nat → Int} (h : Arg k l v n f) (e : AV.ren r v = .inl (.inl sv)) : ∃ sv', v = .inl (.inl sv') ∧ SV.ren r sv' = sv := by
  rcases v with (x | y) | z
  · simp only [AV.ren, CV.ren] at e
    cases e
    exact ⟨x, rfl, rfl⟩
  · simp [AV.ren, CV.ren] at e
  · simp [AV.ren] at e
theorem refOpen_call {s : AS} {nm na n : Nat} {va : AV} {sv : SV} {mk ad f tag : Nat → Int} (hmk : Byt mk) (ha : Byt ad) (hf : Byt f) (hva : BytesAt s.box va na ad) (hvd : BytesAt s.box (.inl (.inl sv)) n f) (hlim : ¬ (1048576 < na ∨ 1048576 < n)) {dst : Option Nat} {K : AS → Prop}
    (h1 : sameT (sealT mk na n ad f) tag = true → ∀ sw box', (∀ t, t ≠ nm → box' t = s.box t) → (∀ b2 : Nat → Option Box, b2 nm = box' nm → BytesAt b2 (.inl (.inl sw)) n (bodyA mk f)) → K ((⟨s.env, box', s.next⟩ : AS).put dst (some (.inr [.inl sw, .inl (.inl (.bool true))]))))
    (h0 : sameT (sealT mk na n ad f) tag = false → K (s.put dst (some closedV))) :
    vcCall Tryd.prog nm 10 (some [Ag (rowI .u8 32 mk), va, Ag (sv :: rowI .u8 32 tag)]) dst K s := by
  obtain ⟨k1, l1, r1, v1, q1, P1, A1, e1, _⟩ := packs_at (s := s) packs_nil (by decide) hvd
  obtain ⟨k2, l2, r2, v2, q2, P2, A2, e2, T2⟩ := packs_at P1 (by omega) hva
  obtain ⟨B1, f1⟩ := T2 _ _ _ A1
  rw [e1] at f1
  obtain ⟨sv', rfl, es⟩ := sv_ren B1 f1
  have el : [Ag (rowI .u8 32 mk), va, Ag (sv :: rowI .u8 32 tag)] = [Ag (rowI .u8 32 mk), v2, Ag (sv' :: rowI .u8 32 tag)].map (AV.ren r2) := by
    simp only [List.map_cons, List.map_nil, ren_row, e2]
    congr 1
    congr 1
    congr 1
    show _ = AV.ren _ (.inl (.inr _))
    simp only [AV.ren, CV.ren, List.map_cons, ren_all plainI, es]
  cases hsame : sameT (sealT mk na n ad f) tag with
  | true =>
    refine (refOpen_g P2.good hmk ha hf A2 B1 hlim hsame).vcCall r2 none P2.fits el ?_
    rintro v out (⟨g0, rfl, rfl⟩ | ⟨c, tail, rfl, rfl, g1, g2, g3⟩) _
    · have e : after s r2 k2 nm none (fun _ => none) = s.box := by funext x; simp [after]
      rw [e]
      exact h1 hsame (.inl (.slice none 0 0)) s.box (fun _ _ => rfl) (fun _ _ => .inl ⟨⟨none, rfl⟩, g0⟩)
    · rw [after_lk (plainT g3)]
      have e : AV.ren (rnew r2 k2 nm) (.inr [.inl (.inr (.inr (k2, 0, n, c))), .inl (.inl (.bool true))]) = .inr [.inl (.inr (.inr (nm, 0, n, c))), .inl (.inl (.bool true))] := by
        show (Sum.inr [Sum.inl (Sum.inr (Sum.inr (rnew r2 k2 nm k2, 0, n, c))), Sum.inl (Sum.inl (Value.bool true))] : AV) = _
        rw [rnew_k]
      rw [e]
      exact h1 hsame (.inr (.inr (nm, 0, n, c))) _ (fun t ht => upd_ne _ _ _ _ ht) (fun b2 hb2 => .inr ⟨nm, 0, c, true, _, rfl, hb2.trans (upd_same _ _ _), plainT g3, shows_row⟩)
  | false => exact (refOpen_shut P2.good hmk ha hf A2 B1 hlim hsame).vcRead r2 P2.fits rfl el (h0 hsame)
end Go.Proofs.YtljncmifbncdbaaDoor
