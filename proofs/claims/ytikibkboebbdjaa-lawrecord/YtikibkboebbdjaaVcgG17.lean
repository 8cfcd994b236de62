/-
  Calls in the statement on states.
-/
import Derived.Test.YtikibkboebbdjaaVcgG16
import Derived.Test.YtikibkboebbdjaaVcgRx
set_option linter.unusedSimpArgs false
set_option linter.unusedVariables false
namespace Go.Proofs.Ytikibkboebbdjaa
open Go.Vcg
section
variable {s : AS} {nm : Nat} {dst : Option Nat} {K : AS → Prop}
theorem lendStore_call {t n : Nat} {f : Nat → En} {v : SV} {rw : Bool} {cs : List SV} (hb : s.box t = some ⟨rw, cs⟩) (hp : cs.all SV.plain = true) (hi : StoreIs t v n f cs) (hn : (n + 2) * 72 ≤ 140737488355328)
    (hk : ∀ c ds, GrowsE ds 0 (n + 2) c (lentE n f) → K ((⟨s.env, upd s.box nm (some ⟨true, ds⟩), s.next⟩ : AS).put dst (some (shV nm n c)))) : vcCall Try.prog nm 4 (some [.inl (.inl v)]) dst K s := by
  obtain ⟨v0, g0, e0⟩ := hi.name (k := 0)
  exact lentE_call (lendStore_m g0 hp hn) hb hp (by simp only [List.map_cons, List.map_nil, AV.ren, CV.ren, e0 (fun _ => t) rfl]) hk
theorem shelfIn_call {t u n m c : Nat} {x : St} {f : Nat → En} {ra rb : Bool} {cs ds : List SV} (hb : s.box t = some ⟨ra, cs⟩) (hp : cs.all SV.plain = true) (hb' : s.box u = some ⟨rb, ds⟩) (hq : ds.all SV.plain = true) (hi : StoreIs u x.store m f ds) (hn : n + 2 ≤ c)
    (hk : K (s.put dst (some (Ag (stL { x with store := .inr (.inr (t, 0, n, c)) }))))) : vcCall Try.prog nm 7 (some [shV t n c, Ag (stL x)]) dst K s := by
  obtain ⟨v0, g0, e0⟩ := hi.name (k := 1)
  refine (shelfIn_m (x := { x with store := v0 }) g0 hp hq hn).vcCall (two t u) none (fits2 hb hp hb' hq) ?_ ?_
  · simp only [List.map_cons, List.map_nil, ren_st, e0 (two t u) rfl]
    rfl
  · rintro v out ⟨rfl, rfl⟩ _
    have e : after s (two t u) 2 nm none (fun _ => none) = s.box := by funext x; simp [after]
    have e2 : AV.ren (rnew (two t u) 2 nm) (Ag (stL { x with store := .inr (.inr (0, 0, n, c)) })) = Ag (stL { x with store := .inr (.inr (t, 0, n, c)) }) := by rw [ren_st]; rfl
    rw [e, e2]; exact hk
theorem sameState_call {t u n : Nat} {x : St} {f : Nat → En} {v w : SV} {ra rb : Bool} {cs ds : List SV} (hb : s.box t = some ⟨ra, cs⟩) (hp : cs.all SV.plain = true) (hb' : s.box u = some ⟨rb, ds⟩) (hq : ds.all SV.plain = true) (h0 : StoreIs t v n f cs) (h1 : StoreIs u w n f ds) (hn : n < 4611686018427387904)
    (hk : K (s.put dst (some (B true)))) : vcCall Try.prog nm 13 (some [Ag (stL { x with store := v }), Ag (stL { x with store := w })]) dst K s := by
  obtain ⟨v0, g0, e0⟩ := h0.name (k := 0)
  obtain ⟨w0, g1, e1⟩ := h1.name (k := 1)
  refine (sameState_m (x := x) g0 g1 hp hq hn).vcRead (two t u) (fits2 hb hp hb' hq) rfl ?_ hk
  simp only [List.map_cons, List.map_nil, ren_st, e0 (two t u) rfl, e1 (two t u) rfl]
theorem sameState_call2 {t u n : Nat} {x : St} {f : Nat → En} {v : SV} {ra rb : Bool} {cs ds : List SV} (hb : s.box t = some ⟨ra, cs⟩) (hp : cs.all SV.plain = true) (hb' : s.box u = some ⟨rb, ds⟩) (hq : ds.all SV.plain = true) (h0 : StoreIs t v n f cs) (h1 : StoreIs u x.store n f ds) (hn : n < 4611686018427387904)
    (hk : K (s.put dst (some (B true)))) : vcCall Try.prog nm 13 (some [Ag (stL { x with store := v }), Ag (stL x)]) dst K s :=
  sameState_call (x := x) (w := x.store) hb hp hb' hq h0 h1 hn hk
theorem shelfBack_call {t u n c : Nat} {f : Nat → En} {v : SV} {ra rb : Bool} {cs ds : List SV} (hb : s.box t = some ⟨ra, cs⟩) (hg : GrowsE cs 0 (n + 2) c (lentE n f)) (hb' : s.box u = some ⟨rb, ds⟩) (hq : ds.all SV.plain = true) (h1 : StoreIs u v n f ds) (hn : n < 4611686018427387904)
    (hk : K (s.put dst (some (B true)))) : vcCall Try.prog nm 18 (some [shV t n c, .inl (.inl v)]) dst K s := by
  obtain ⟨v0, g0, e0⟩ := h1.name (k := 1)
  refine (shelfBack_m hg g0 hq hn).vcRead (two t u) (fits2 hb hg.plain hb' hq) rfl ?_ hk
  simp only [List.map_cons, List.map_nil, AV.ren, CV.ren, e0 (two t u) rfl]
  rfl
theorem spoil_call {t n c : Nat} {f : Nat → En} {cs : List SV} (hb : s.box t = some ⟨true, cs⟩) (hg : GrowsE cs 0 n c f) (hn : n < 4611686018427387904)
    (hk : ∀ ds, ds.all SV.plain = true → K ((⟨s.env, upd s.box t (some ⟨true, ds⟩), s.next⟩ : AS).put dst (some (.inr [])))) : vcCall Try.prog nm 17 (some [Sl t 0 n c]) dst K s := by
  refine (spoil_m hg hn).vcCall (fun _ => t) (some 0) (fits1w hb hg.plain) rfl ?_
  rintro v out ⟨rfl, ds, hd, rfl⟩ _
  have e : after s (fun _ => t) 1 nm (some 0) (lk [(0, ⟨true, ds⟩)]) = upd s.box t (some ⟨true, ds⟩) := by
    simp [after, lk, Box.ren, ren_all hd]
  rw [e]; exact hk ds hd
end
set_option maxHeartbeats 4000000 in
set_option maxRecDepth 20000 in
theorem spoil_n : Fun Try.prog 17 [V (.slice none 0 0)] (.inr []) := by
  refine fun_of_vc Try.func17 rfl (by kernel_rfl) (by simp [Try.ntmps17]) rfl rfl ?_
  simp only [Try.results17, sn_upto, sn_from, slN_def, run_cap, rules, rules2, loopRules, Try.facts, base0, Int.toNat_zero, Nat.reduceAdd, Nat.reduceMul, Nat.reduceSub, Nat.reduceLT, Nat.reduceLeDiff, Nat.reduceEqDiff, Int.reduceLE, Int.reduceLT, Int.reduceToNat, Int.reduceNe, Int.reduceEq, not_false_eq_true, Nat.reduceBEq, Nat.reduceDiv, Int.natCast_zero, Int.natCast_one, Int.reduceAdd, Int.reduceSub, reduceIte, ↓reduceIte, Value.oneCell', rowI_length, rowI_take, rowI_splice, rep_all, row_zero, le_nat, Int.toNat_natCast, Nat.zero_add, sok_row, reduceCtorEq]
  refine loop_count 0 (fun k => [(4, I .i64 0), (5, I .i64 k)]) (fun k => []) _ ?_ ?_ ?_
  · simp only [sn_upto, sn_from, slN_def, run_cap, rules, rules2, loopRules, Try.facts, base0, Int.toNat_zero, Nat.reduceAdd, Nat.reduceMul, Nat.reduceSub, Nat.reduceLT, Nat.reduceLeDiff, Nat.reduceEqDiff, Int.reduceLE, Int.reduceLT, Int.reduceToNat, Int.reduceNe, Int.reduceEq, not_false_eq_true, Nat.reduceBEq, Nat.reduceDiv, Int.natCast_zero, Int.natCast_one, Int.reduceAdd, Int.reduceSub, reduceIte, ↓reduceIte, Value.oneCell', rowI_length, rowI_take, rowI_splice, rep_all, row_zero, le_nat, Int.toNat_natCast, Nat.zero_add, sok_row, reduceCtorEq]
  · intro j hj; omega
  · simp only [sn_upto, sn_from, slN_def, run_cap, rules, rules2, loopRules, Try.facts, base0, Int.toNat_zero, Nat.reduceAdd, Nat.reduceMul, Nat.reduceSub, Nat.reduceLT, Nat.reduceLeDiff, Nat.reduceEqDiff, Int.reduceLE, Int.reduceLT, Int.reduceToNat, Int.reduceNe, Int.reduceEq, not_false_eq_true, Nat.reduceBEq, Nat.reduceDiv, Int.natCast_zero, Int.natCast_one, Int.reduceAdd, Int.reduceSub, reduceIte, ↓reduceIte, Value.oneCell', rowI_length, rowI_take, rowI_splice, rep_all, row_zero, le_nat, Int.toNat_natCast, Nat.zero_add, sok_row, reduceCtorEq]
    refine vcIf_no (by simp) ?_
    simp only [sn_upto, sn_from, slN_def, run_cap, rules, rules2, loopRules, Try.facts, base0, Int.toNat_zero, Nat.reduceAdd, Nat.reduceMul, Nat.reduceSub, Nat.reduceLT, Nat.reduceLeDiff, Nat.reduceEqDiff, Int.reduceLE, Int.reduceLT, Int.reduceToNat, Int.reduceNe, Int.reduceEq, not_false_eq_true, Nat.reduceBEq, Nat.reduceDiv, Int.natCast_zero, Int.natCast_one, Int.reduceAdd, Int.reduceSub, reduceIte, ↓reduceIte, Value.oneCell', rowI_length, rowI_take, rowI_splice, rep_all, row_zero, le_nat, Int.toNat_natCast, Nat.zero_add, sok_row, reduceCtorEq]
def shutS : AV := .inr [.inr (stL stZ), .inl (.inl (.bool false))]
theorem measures_n {a : Option Addr} : Fun Try.prog 22 [V (.slice a 0 0)] (B false) := by
  refine fun_of_vc Try.func22 rfl (by kernel_rfl) (by simp [Try.ntmps22]) rfl rfl ?_
  have d1 : decide ((0 : Int) < 226) = true := rfl
  simp only [Try.results22, d1, decide_true, sn_upto, sn_from, slN_def, run_cap, rules, rules2, loopRules, Try.facts, base0, Int.toNat_zero, Nat.reduceAdd, Nat.reduceMul, Nat.reduceSub, Nat.reduceLT, Nat.reduceLeDiff, Nat.reduceEqDiff, Int.reduceLE, Int.reduceLT, Int.reduceToNat, Int.reduceNe, Int.reduceEq, not_false_eq_true, Nat.reduceBEq, Nat.reduceDiv, Int.natCast_zero, Int.natCast_one, Int.reduceAdd, Int.reduceSub, reduceIte, ↓reduceIte, Value.oneCell', rowI_length, rowI_take, rowI_splice, rep_all, row_zero, le_nat, Int.toNat_natCast, Nat.zero_add, sok_row, reduceCtorEq]
theorem decode_n {a : Option Addr} : Fun Try.prog 8 [V (.slice a 0 0)] shutS := by
  refine fun_of_vc Try.func8 rfl (by kernel_rfl) (by simp [Try.ntmps8]) rfl rfl ?_
  simp only [Try.results8, zOkSt, rulesS, sn_upto, sn_from, slN_def, run_cap, rules, rules2, loopRules, Try.facts, base0, Int.toNat_zero, Nat.reduceAdd, Nat.reduceMul, Nat.reduceSub, Nat.reduceLT, Nat.reduceLeDiff, Nat.reduceEqDiff, Int.reduceLE, Int.reduceLT, Int.reduceToNat, Int.reduceNe, Int.reduceEq, not_false_eq_true, Nat.reduceBEq, Nat.reduceDiv, Int.natCast_zero, Int.natCast_one, Int.reduceAdd, Int.reduceSub, reduceIte, ↓reduceIte, Value.oneCell', rowI_length, rowI_take, rowI_splice, rep_all, row_zero, le_nat, Int.toNat_natCast, Nat.zero_add, sok_row, reduceCtorEq]
  refine measures_n.vcCall ?_
  simp only [Bool.not_false, zOkSt, rulesS, sn_upto, sn_from, slN_def, run_cap, rules, rules2, loopRules, Try.facts, base0, Int.toNat_zero, Nat.reduceAdd, Nat.reduceMul, Nat.reduceSub, Nat.reduceLT, Nat.reduceLeDiff, Nat.reduceEqDiff, Int.reduceLE, Int.reduceLT, Int.reduceToNat, Int.reduceNe, Int.reduceEq, not_false_eq_true, Nat.reduceBEq, Nat.reduceDiv, Int.natCast_zero, Int.natCast_one, Int.reduceAdd, Int.reduceSub, reduceIte, ↓reduceIte, Value.oneCell', rowI_length, rowI_take, rowI_splice, rep_all, row_zero, le_nat, Int.toNat_natCast, Nat.zero_add, sok_row, reduceCtorEq]
  rfl
theorem refDecode_n {a : Option Addr} : Fun Try.prog 15 [V (.slice a 0 0)] shutS := by
  refine fun_of_vcX Try.func15 rfl (by kernel_rfl) (by simp [Try.ntmps15]) rfl rfl ?_
  have d1 : decide ((0 : Int) < 226) = true := rfl
  simp only [Try.results15, d1, decide_true, zOkSt, rulesS, rulesX, rulesL, sn_upto, sn_from, slN_def, run_cap, rules, rules2, loopRules, Try.facts, base0, Int.toNat_zero, Nat.reduceAdd, Nat.reduceMul, Nat.reduceSub, Nat.reduceLT, Nat.reduceLeDiff, Nat.reduceEqDiff, Int.reduceLE, Int.reduceLT, Int.reduceToNat, Int.reduceNe, Int.reduceEq, not_false_eq_true, Nat.reduceBEq, Nat.reduceDiv, Int.natCast_zero, Int.natCast_one, Int.reduceAdd, Int.reduceSub, reduceIte, ↓reduceIte, Value.oneCell', rowI_length, rowI_take, rowI_splice, rep_all, row_zero, le_nat, Int.toNat_natCast, Nat.zero_add, sok_row, reduceCtorEq]
  rfl
/-- Bytes are taken as a state, or not. -/
theorem dec_call {s : AS} {nm fn t L : Nat} {G : Nat → Int} {args l : List AV} {rw : Bool} {cs : List SV} (hm : MFun Try.prog fn args 1 (lk [(0, ⟨false, cs⟩)]) (DecS 1 L G)) (hb : s.box t = some ⟨rw, cs⟩) (hp : cs.all SV.plain = true) (hl : l = args.map (AV.ren fun _ => t)) {dst : Option Nat} {K : AS → Prop}
    (h0 : ¬ GoodS L G → K (s.put dst (some shutS)))
    (h1 : GoodS L G → cntE L = 0 → K (s.put dst (some (.inr [.inr (stL { rawS G with store := .inl (.slice none 0 0) }), .inl (.inl (.bool true))]))))
    (h2 : GoodS L G → 0 < cntE L → ∀ c ds, GrowsE ds 0 (cntE L) c (rawE G) → K ((⟨s.env, upd s.box nm (some ⟨true, ds⟩), s.next⟩ : AS).put dst (some (.inr [.inr (stL { rawS G with store := .inr (.inr (nm, 0, cntE L, c)) }), .inl (.inl (.bool true))])))) : vcCall Try.prog nm fn (some l) dst K s := by
  refine hm.vcCall (fun _ => t) none (fits1 hb hp) hl ?_
  have e : after s (fun _ => t) 1 nm none (fun _ => none) = s.box := by funext x; simp [after]
  rintro v out (⟨hg, rfl, rfl⟩ | ⟨hg, sv, rfl, (⟨hn, rfl, rfl⟩ | ⟨hn, c, ds, rfl, hgr, rfl⟩)⟩) _
  · rw [e]
    have e2 : AV.ren (rnew (fun _ => t) 1 nm) (.inr [.inr (stL stZ), .inl (.inl (.bool false))]) = shutS := AV.ren_plain (show AV.plain shutS = true from rfl) _
    rw [e2]; exact h0 hg
  · rw [e]
    have e2 : AV.ren (rnew (fun _ => t) 1 nm) (.inr [.inr (stL { rawS G with store := .inl (.slice none 0 0) }), .inl (.inl (.bool true))]) = .inr [.inr (stL { rawS G with store := .inl (.slice none 0 0) }), .inl (.inl (.bool true))] := by
      simp only [AV.ren, List.map_cons, List.map_nil, CV.ren, SV.ren, stL_ren]
    rw [e2]; exact h1 hg hn
  · rw [after_lk hgr.plain]
    have e2 : AV.ren (rnew (fun _ => t) 1 nm) (.inr [.inr (stL { rawS G with store := .inr (.inr (1, 0, cntE L, c)) }), .inl (.inl (.bool true))]) = .inr [.inr (stL { rawS G with store := .inr (.inr (nm, 0, cntE L, c)) }), .inl (.inl (.bool true))] := by
      simp only [AV.ren, List.map_cons, List.map_nil, CV.ren, SV.ren, stL_ren, rnew_k]
    rw [e2]; exact h2 hg hn c ds hgr
/-- The bytes of a state are taken as that state. -/
theorem decB_call {s : AS} {nm t n c : Nat} {x : St} {f : Nat → En} {rw : Bool} {cs : List SV} (hx : StOk x) (hf : ∀ i, EnOk (f i)) (hv : valB x n f = true) (hb : s.box t = some ⟨rw, cs⟩) (hg : Grows cs 0 (226 + 72 * n) c (stateB x n f n)) {dst : Option Nat} {K : AS → Prop}
    (h1 : n = 0 → K (s.put dst (some (.inr [.inr (stL { x with store := .inl (.slice none 0 0) }), .inl (.inl (.bool true))]))))
    (h2 : 0 < n → ∀ c ds, GrowsE ds 0 n c f → K ((⟨s.env, upd s.box nm (some ⟨true, ds⟩), s.next⟩ : AS).put dst (some (.inr [.inr (stL { x with store := .inr (.inr (nm, 0, n, c)) }), .inl (.inl (.bool true))])))) : vcCall Try.prog nm 8 (some [Sl t 0 (226 + 72 * n) c]) dst K s := by
  have hl := val_lim hv
  have e : EqS (rawS (stateB x n f n)) x := raw_eqS hx (by unfold W32; omega) (by unfold W32; omega)
  have hc : cntE (226 + 72 * n) = n := cntE_of rfl
  have es : ∀ v, stL { rawS (stateB x n f n) with store := v } = stL { x with store := v } := fun v => stL_eqS ⟨e.own, e.peer, e.has, e.root, e.priv, e.pub, e.pee, e.send, e.recv, e.se, e.re, e.ns, e.nr, e.pn, e.skip, e.room⟩ rfl
  refine dec_call (decode_m (stateB_byt hx hf) hg.shows hg.plain hg.room (by omega)) hb hg.plain rfl (fun h => absurd (good_enc hx hf hv) h) (fun _ h0 => ?_) (fun _ h0 c2 ds hd => ?_)
  · rw [es]; exact h1 (by omega)
  · rw [hc] at h0 hd
    rw [es, hc]
    refine h2 h0 c2 ds ⟨hd.len, hd.room, hd.plain, fun i hi => ?_⟩
    rw [hd.shows i hi, enL_eqE (raw_eqE hi (hf i))]
theorem scribble_call {s : AS} {nm t n c : Nat} {f : Nat → Int} {cs : List SV} (hb : s.box t = some ⟨true, cs⟩) (hg : Grows cs 0 n c f) (hn : n < 4611686018427387904) {dst : Option Nat} {K : AS → Prop}
    (hk : ∀ ds, ds.all SV.plain = true → K ((⟨s.env, upd s.box t (some ⟨true, ds⟩), s.next⟩ : AS).put dst (some (.inr [])))) : vcCall Try.prog nm 16 (some [Sl t 0 n c]) dst K s := by
  obtain ⟨c2, tail, h1, h2, h3, h4, h5⟩ := hg.made (k := t)
  obtain rfl : c = c2 := by cases h1; rfl
  have e : cs = rowI .u8 n f ++ tail := by
    have := congrFun h2 t
    simpa [lk] using this
  subst e
  refine (scribble_m (o := 0) (c := c) h5 hn rfl).vcCall (fun _ => t) (some 0) (fits1w hb hg.plain) rfl ?_
  rintro v out ⟨rfl, rfl⟩ _
  have e2 : after s (fun _ => t) 1 nm (some 0) (lk [(0, ⟨true, rowI .u8 n (fun i => bitI .xor .u8 (f i) 165) ++ tail⟩)]) = upd s.box t (some ⟨true, rowI .u8 n (fun i => bitI .xor .u8 (f i) 165) ++ tail⟩) := by
    simp [after, lk, Box.ren, ren_all (plainT (n := n) (f := fun i => bitI .xor .u8 (f i) 165) h5)]
  rw [e2]; exact hk _ (plainT h5)
end Go.Proofs.Ytikibkboebbdjaa
