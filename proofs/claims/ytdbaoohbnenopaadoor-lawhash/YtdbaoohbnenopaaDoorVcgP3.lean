/-
  The statement on hashing, whole: for all keys, messages, infos and lengths the program's digests, keyed hashes and expansions are the document's, and the lists that were lent come back as they were. The row's own conditions: the listed tables hold what the program's text lays in them.
-/
import Derived.Test.YtdbaoohbnenopaaDoorRows
import Derived.WalkKit
import Derived.ProofKit
import Derived.OpenShut
import Derived.ShutString
import Derived.ChangeOld
import Derived.Below
import Derived.SizedLaws
import Derived.LaidMore
import Derived.Handed
import Derived.Stop.Joined
import Derived.Test.YtdbaoohbnenopaaDoorVcgH14
namespace Go.Proofs.YtdbaoohbnenopaaDoor.lawHashDone
open Go.ChangeShapes Go.WideShapes Go.ChangeAt Go.RowKit
open Go.Vcg
set_option linter.unusedVariables false
set_option linter.unusedSimpArgs false

theorem own : ownKnob Tryd.prog.godebug = none := by kernel_rfl
theorem laidOut : laidOutB Tryd.prog = true := by kernel_rfl
theorem bytes5 : Tryd.prog.bytesOf 5 = 1 := by kernel_rfl
theorem cells39 : Tryd.prog.cellsOf 39 = 1 := by kernel_rfl
theorem g0 : Tryd.prog.globalNamed "ratchet/ratchetref.firstValue" = some 0 := by kernel_rfl
theorem g1 : Tryd.prog.globalNamed "ratchet/ratchetref.rootsOfPrimes" = some 1 := by kernel_rfl
theorem g2 : Tryd.prog.globalNamed "ratchet/prim.roundConstants" = some 2 := by kernel_rfl
theorem t0 : (Tryd.prog.globals[0]?).map (·.type) = some 40 := by kernel_rfl
theorem t1 : (Tryd.prog.globals[1]?).map (·.type) = some 51 := by kernel_rfl
theorem t2 : (Tryd.prog.globals[2]?).map (·.type) = some 51 := by kernel_rfl
/-- The listed tables, with what they hold. -/
def tabs : List (String × DataW Unit) := [("ratchet/ratchetref.firstValue", Rows.laid_ratchet_ratchetref_firstValue), ("ratchet/ratchetref.rootsOfPrimes", Rows.laid_ratchet_ratchetref_rootsOfPrimes), ("ratchet/prim.roundConstants", Rows.laid_ratchet_prim_roundConstants)]
theorem d0 : (Rows.laid_ratchet_ratchetref_firstValue : DataW Unit) = .agg ((List.range 8).map fun i => .lit (.int .u32 (ivW i))) := by kernel_rfl
theorem d1 : (Rows.laid_ratchet_ratchetref_rootsOfPrimes : DataW Unit) = .agg ((List.range 64).map fun i => .lit (.int .u32 (kW i))) := by kernel_rfl
theorem d2 : (Rows.laid_ratchet_prim_roundConstants : DataW Unit) = .agg ((List.range 64).map fun i => .lit (.int .u32 (kW i))) := by kernel_rfl

/-- The cells of a table of words, out of its datum. -/
theorem tab_cells {W : World} {t n fuel : Nat} {f : Nat → Int} {cs : List Value} {p : List MemPlace} {sp : Nat → Bool} {held : Bool} (ht : Tryd.prog.underlying t = some (.array n 39))
    (h : DataW.trod (fun _ => ()) Tryd.prog W 0 sp held fuel t cs = some (.agg ((List.range n).map fun i => .lit (.int .u32 (f i))), p)) : ∀ i, i < n → cs[i]? = some (.int .u32 (f i)) := by
  intro i hi
  obtain ⟨xs, m, rfl, hx, hlen, hxl, hel⟩ := DataW.trod_array ht h
  have he := hel i hi
  rw [cells39, Nat.mul_one] at he
  have hxi : i < xs.length := by omega
  rw [List.getElem?_eq_getElem hxi] at he
  obtain ⟨z, hc, hz, hw⟩ := DataW.trod_int Tryd.underlying39 he
  have e1 : (xs.map (·.1))[i]? = ((List.range n).map fun i => (DataW.lit (.int .u32 (f i)) : DataW Unit))[i]? := by
    have := congrArg Prod.fst hx
    simp only [DataW.agg.injEq] at this
    rw [this]
  rw [List.getElem?_map, List.getElem?_map, List.getElem?_range hi, List.getElem?_eq_getElem hxi] at e1
  simp only [Option.map_some, Option.some.injEq] at e1
  rw [hz] at e1
  simp only [DataW.lit.injEq, Lit.int.injEq, true_and] at e1
  subst e1
  have : ((cs.drop i).take 1)[0]? = some (.int .u32 (f i)) := by rw [hc]; rfl
  rw [List.getElem?_take_of_lt (by decide), List.getElem?_drop] at this
  simpa using this

theorem cell_block {W : World} {b i : Nat} {v : Value} (h : W.cell? ⟨b, i, none⟩ = some v) : b < W.heap.size := by
  rcases Nat.lt_or_ge b W.heap.size with hb | hb
  · exact hb
  · have hn : W.heap[b]? = none := Array.getElem?_eq_none hb
    simp [World.cell?, hn] at h

/-- What the row's condition gives: the tables lie as the calculus asks. -/
theorem of_laid {W : World} (h : laidMetH Tryd.prog tabs W) : Laid Tryd.prog W := by
  rw [MakeChecks.laidMetH_plain _ _ _ (by kernel_rfl)] at h
  obtain ⟨ps, ⟨a0, u0, cs0, f0, p0, q0, ha0, hu0, hv0, hd0, ⟨a1, u1, cs1, f1, p1, q1, ha1, hu1, hv1, hd1, ⟨a2, u2, cs2, f2, p2, q2, ha2, hu2, hv2, hd2, _, _⟩, _⟩, _⟩, _, _⟩ := h
  obtain rfl := Option.some.inj (g0.symm.trans ha0)
  obtain rfl := Option.some.inj (g1.symm.trans ha1)
  obtain rfl := Option.some.inj (g2.symm.trans ha2)
  obtain rfl := Option.some.inj (t0.symm.trans hu0)
  obtain rfl := Option.some.inj (t1.symm.trans hu1)
  obtain rfl := Option.some.inj (t2.symm.trans hu2)
  rw [d0] at hd0
  rw [d1] at hd1
  rw [d2] at hd2
  have c0 := tab_cells Tryd.underlying40 hd0
  have c1 := tab_cells Tryd.underlying51 hd1
  have c2 := tab_cells Tryd.underlying51 hd2
  have fin : ∀ (b n : Nat) (f : Nat → Int), 0 < n → (∀ i, i < n → W.cell? ⟨b, i, none⟩ = some (.int .u32 (f i))) → b < W.heap.size ∧ ∀ i v, (rowI .u32 n f)[i]? = some v → SV.one v = true ∧ ∃ u, v = .inl u ∧ W.cell? ⟨b, i, none⟩ = some u := fun b n f hn hc => by
    refine ⟨cell_block (hc 0 hn), fun i v hv => ?_⟩
    by_cases hi : i < n
    · rw [rowI_get .u32 n f i hi] at hv
      obtain rfl := Option.some.inj hv
      exact ⟨rfl, _, rfl, hc i hi⟩
    · rw [List.getElem?_eq_none (by rw [rowI_length]; omega)] at hv; cases hv
  have w0 : ∀ i, i < 8 → W.cell? ⟨0, i, none⟩ = some (.int .u32 (ivW i)) := fun i hi => by
    rw [World.var?_cell ha0 hv0 i]; simpa using c0 i hi
  have w1 : ∀ i, i < 64 → W.cell? ⟨1, i, none⟩ = some (.int .u32 (kW i)) := fun i hi => by
    rw [World.var?_cell ha1 hv1 i]; simpa using c1 i hi
  have w2 : ∀ i, i < 64 → W.cell? ⟨2, i, none⟩ = some (.int .u32 (kW i)) := fun i hi => by
    rw [World.var?_cell ha2 hv2 i]; simpa using c2 i hi
  intro b bx hb
  by_cases e0 : b = 0
  · subst e0; cases hb; exact fin 0 8 ivW (by decide) w0
  by_cases e1 : b = 1
  · subst e1; cases hb; exact fin 1 64 kW (by decide) w1
  by_cases e2 : b = 2
  · subst e2; cases hb; exact fin 2 64 kW (by decide) w2
  · exfalso
    have : (if b = 0 then some ⟨false, rowI .u32 8 ivW⟩ else if b = 1 then some ⟨false, rowI .u32 64 kW⟩ else if b = 2 then some ⟨false, rowI .u32 64 kW⟩ else none : Option Box) = some bx := hb
    rw [if_neg e0, if_neg e1, if_neg e2] at this
    cases this

/-- A list that is handed in: an empty slice, or one whose bytes stand in memory. -/
def IsData (w : World) (v : Value) (n : Nat) (f : Nat → Int) : Prop :=
  (∃ a, v = .slice a 0 0 ∧ n = 0) ∨ ∃ b o c, v = .slice (some ⟨b, o, none⟩) n c ∧ b < w.heap.size ∧ ∀ i, i < n → w.cell? ⟨b, o + i, none⟩ = some (.int .u8 (f i))
/-- The same as a box, wherever it is to be named. -/
theorem boxed {w : World} {v : Value} {n : Nat} {f : Nat → Int} (h0 : 0 < w.heap.size) (h : IsData w v n f) (j : Nat) :
    ∃ (b o : Nat) (cs : List SV) (u : AV), b < w.heap.size ∧ cs.all SV.plain = true ∧ (∀ (g : Where) (i : Nat) x, cs[i]? = some x → w.cell? ⟨b, o + i, none⟩ = some (SV.conc g x)) ∧ ArgIs j u n f cs ∧ ∀ g : Where, g j = (b, o) → AV.conc g u = v := by
  rcases h with ⟨a, rfl, rfl⟩ | ⟨b, o, c, rfl, hb, hc⟩
  · exact ⟨0, 0, [], V (.slice a 0 0), h0, rfl, fun g i x hx => by simp at hx, .inl ⟨⟨a, rfl⟩, rfl⟩, fun g _ => rfl⟩
  · refine ⟨b, o, rowI .u8 n f, Sl j 0 n c, hb, plainI, fun g i x hx => ?_, .inr ⟨0, c, rfl, shows_row0⟩, fun g e => ?_⟩
    · by_cases hi : i < n
      · rw [rowI_get .u8 n f i hi] at hx
        obtain rfl := Option.some.inj hx
        exact hc i hi
      · rw [List.getElem?_eq_none (by rw [rowI_length]; omega)] at hx; cases hx
    · show Value.slice (some ⟨(g j).1, (g j).2 + 0, none⟩) n c = _
      rw [e, Nat.add_zero]

/-! ### STEP 1: the law returns true and writes nothing that was there -/
theorem walk {w : World} {v0 v1 v2 : Value} {n0 n1 n2 : Nat} {f0 f1 f2 : Nat → Int} (n : Int) (hl : Laid Tryd.prog w) (b0 : Byt f0) (b1 : Byt f1) (b2 : Byt f2) (m0 : n0 + 64 ≤ 140737488355328) (m1 : n1 + 64 ≤ 140737488355328) (m2 : n2 + 64 ≤ 140737488355328) (h0 : IsData w v0 n0 f0) (h1 : IsData w v1 n1 f1) (h2 : IsData w v2 n2 f2) :
    Calls Tryd.prog 3 #[v0, v1, v2, .int .i64 n] w fun e w' => e = .returned (.bool true) ∧ Below w.heap.size w w' := by
  have hs : 0 < w.heap.size := (hl 0 _ rfl).1
  obtain ⟨x0, o0, cs, u0, lt0, p0, cell0, a0, e0⟩ := boxed hs h0 0
  obtain ⟨x1, o1, ds, u1, lt1, p1, cell1, a1, e1⟩ := boxed hs h1 1
  obtain ⟨x2, o2, es, u2, lt2, p2, cell2, a2, e2⟩ := boxed hs h2 2
  have h := law_m (n := n) b0 b1 b2 p0 p1 p2 a0 a1 a2 m0 m1 m2
  let g : Where := fun t => if t = 0 then (x0, o0) else if t = 1 then (x1, o1) else (x2, o2)
  have hmem : MemRep g (mem0 (lk [(0, ⟨false, cs⟩), (1, ⟨false, ds⟩), (2, ⟨false, es⟩)])) w := by
    refine ⟨fun t bx ht => ?_, fun t bx ht i x hx => ?_, fun t bx ht hrw => ?_, fun t t' bx bx' ht hrw => ?_⟩
    · rcases lk3 ht with ⟨rfl, rfl⟩ | ⟨rfl, rfl⟩ | ⟨rfl, rfl⟩
      · exact lt0
      · exact lt1
      · exact lt2
    · rcases lk3 ht with ⟨rfl, rfl⟩ | ⟨rfl, rfl⟩ | ⟨rfl, rfl⟩
      · exact cell0 g i x hx
      · exact cell1 g i x hx
      · exact cell2 g i x hx
    · rcases lk3 ht with ⟨rfl, rfl⟩ | ⟨rfl, rfl⟩ | ⟨rfl, rfl⟩ <;> cases hrw
    · rcases lk3 ht with ⟨rfl, rfl⟩ | ⟨rfl, rfl⟩ | ⟨rfl, rfl⟩ <;> cases hrw
  have hc := h.call (fun _ => False) g w hl (fun _ _ _ hf => hf) hmem (fun t bx ht hrw => by rcases lk3 ht with ⟨rfl, rfl⟩ | ⟨rfl, rfl⟩ | ⟨rfl, rfl⟩ <;> cases hrw)
  simp only [List.map_cons, List.map_nil, e0 g rfl, e1 g rfl, e2 g rfl] at hc
  refine hc.mono ?_
  rintro e w' ⟨r, out, g', rfl, ⟨rfl, rfl⟩, _, _, _, _, _, hfr⟩
  exact ⟨rfl, Kept.below hfr⟩

/-- A list argument, opened. -/
theorem open_data {H : Type} {enc : TypeId × Value → H} {W : World} {a : Option Addr} {len cap : Nat} {d : DataW H} {p : List MemPlace} (h : DataW.Trod enc Tryd.prog W 0 (fun _ => true) true 22 (.slice a len cap) d p)
    (hw : ∀ l r, d = .slice l r → (l.length + r.length) * 1 ≤ reachBytes) : ∃ f, Byt f ∧ len + 64 ≤ 140737488355328 ∧ IsData W (.slice a len cap) len f := by
  obtain ⟨fuel, hfu⟩ := h
  rcases open_ints Tryd.underlying22 Tryd.underlying5 (by kernel_rfl) hfu with ⟨hcs, _⟩ | ⟨x, l, c, zs, hcs, _, hl, hm, hz, hd, hcell, hwz⟩
  · simp [Value.cells] at hcs
    obtain ⟨rfl, rfl, rfl⟩ := hcs
    exact ⟨fun _ => 0, fun _ => ⟨by simp, by simp⟩, by decide, .inl ⟨none, rfl, rfl⟩⟩
  · simp [Value.cells] at hcs
    obtain ⟨rfl, rfl, rfl⟩ := hcs
    simp only [if_true] at hz
    have hd2 : d = .slice (lits .u8 (zs.take len)) (lits .u8 (zs.drop len)) := by
      have := congrArg Prod.fst hd
      simpa using this
    have hw2 := hw _ _ hd2
    simp only [lits, List.length_map, List.length_take, List.length_drop, reachBytes] at hw2
    have hb : ∀ i, 0 ≤ zs.getD i 0 ∧ zs.getD i 0 < 256 := fun i => by
      by_cases hi : i < zs.length
      · have hmz : zs.getD i 0 ∈ zs := by
          rw [List.getD_eq_getElem?_getD, List.getElem?_eq_getElem hi]; exact List.getElem_mem hi
        have := bounds_u8 (hwz _ hmz)
        exact ⟨this.1, by omega⟩
      · rw [List.getD_eq_getElem?_getD, List.getElem?_eq_none (by omega)]; decide
    refine ⟨fun i => zs.getD i 0, hb, by omega, ?_⟩
    by_cases hc0 : cap = 0
    · subst hc0
      obtain rfl : len = 0 := by omega
      exact .inl ⟨_, rfl, rfl⟩
    · obtain ⟨b, off, spot⟩ := x
      have hc := hcell 0 (by omega)
      have hspot : spot = none := by simpa [Addr.add] using World.cell?_spot hc
      subst hspot
      rw [add_eq] at hc
      refine .inr ⟨b, off, cap, rfl, cell_block hc, fun i hi => ?_⟩
      have := hcell i (by omega)
      rwa [add_eq] at this

/-- The door's own heap meets the condition. -/
theorem door_met (os : Os) (args : Array Value) : laidMetH Tryd.prog tabs ((World.doorLaid Tryd.prog 4000 os).forCall (fun _ _ => 0) ⟨#[], args, []⟩).memory :=
  laidMetH_of_parts3 (fuel := 8) (laidMet_of_run' 8 (by kernel_rfl) (by kernel_rfl)) (by kernel_rfl) (by kernel_rfl)

set_option maxRecDepth 100000 in
theorem lifted (os : Os) (started : os.Started) (H : Type) (enc : TypeId × Value → H) :
    ReturnsInHanded {} Tryd.checked os 3 .any (fun w args => (Rows.lawHashSpec.pre enc Tryd.prog Tryd.f3 [] false w args ∧ laidMetH Tryd.prog tabs w) ∧ sizedMet enc Tryd.prog Tryd.f3 (OpenSpec.ofChange Rows.lawHashSpec) false w args)
      (Rows.lawHashSpec.post enc Tryd.prog Tryd.f3 false true false false) := by
  refine returnsInHanded_of_change_and (C := Tryd.checked) (X := fun w _ => laidMetH Tryd.prog tabs w) (fun _ _ _ hh h => h.of_heap hh) own started (by kernel_rfl) Tryd.func3
    (ChangeSpec.witness_shaped (enc := enc) (C := Tryd.checked) (os := os) (X := fun w _ => laidMetH Tryd.prog tabs w) false (World.doorLaid Tryd.prog 4000 os) #[.slice none 0 0, .slice none 0 0, .slice none 0 0, .int .i64 0] 40 rfl (World.shaped_of_RefB (by kernel_rfl) (by kernel_rfl)) (by kernel_rfl) (by kernel_rfl) (by kernel_rfl) (door_met os _)) ?_
  intro W base args ds gs before hval0 hW _ hsz0 hL _
  have hval : ∀ (j : Nat) t v, Tryd.f3.params[j]? = some t → args[j]? = some v → Value.okWide Tryd.prog W .any base t v := hval0
  have hW' := hW
  have hsz : (DataW.weightsEach Tryd.prog (Tryd.f3.params.toList ++ Rows.lawHashSpec.plain.varTypes Tryd.prog) (ds ++ gs)).all (· ≤ reachBytes) = true := hsz0
  obtain ⟨p, q, hA0, hV, rfl, hfz, hnd⟩ := hW
  have hA : DataW.TrodAll enc Tryd.prog W 0 (fun _ => true) true Tryd.f3.params.toList args.toList ds p := hA0
  rw [Tryd.params3] at hA hval hsz
  obtain ⟨v0, vs0, e0, ds0, p0, q0, hargs, rfl, rfl, h0, r0⟩ := trodAll_cons hA
  obtain ⟨v1, vs1, e1, ds1, p1, q1, rfl, rfl, rfl, h1, r1⟩ := trodAll_cons r0
  obtain ⟨v2, vs2, e2, ds2, p2, q2, rfl, rfl, rfl, h2, r2⟩ := trodAll_cons r1
  obtain ⟨v3, vs3, e3, ds3, p3, q3, rfl, rfl, rfl, h3, r3⟩ := trodAll_cons r2
  obtain ⟨rfl, rfl, rfl⟩ := trodAll_nil r3
  obtain rfl : args = #[v0, v1, v2, v3] := by cases args; simp_all
  obtain ⟨rfl, rfl⟩ := trodVars_none hV
  obtain ⟨a0, len0, cap0, rfl⟩ := okWide_slice Tryd.underlying22 (hval 0 22 v0 rfl rfl)
  obtain ⟨a1, len1, cap1, rfl⟩ := okWide_slice Tryd.underlying22 (hval 1 22 v1 rfl rfl)
  obtain ⟨a2, len2, cap2, rfl⟩ := okWide_slice Tryd.underlying22 (hval 2 22 v2 rfl rfl)
  obtain ⟨n, rfl⟩ := okWide_int Tryd.underlying3 (hval 3 3 v3 rfl rfl)
  have lt0 : ∀ x ∈ p0, x.block < W.heap.size := by obtain ⟨m, hm⟩ := h0; exact DataW.trod_lt m _ _ _ hm
  have lt1 : ∀ x ∈ p1, x.block < W.heap.size := by obtain ⟨m, hm⟩ := h1; exact DataW.trod_lt m _ _ _ hm
  have lt2 : ∀ x ∈ p2, x.block < W.heap.size := by obtain ⟨m, hm⟩ := h2; exact DataW.trod_lt m _ _ _ hm
  have lt3 : ∀ x ∈ p3, x.block < W.heap.size := by obtain ⟨m, hm⟩ := h3; exact DataW.trod_lt m _ _ _ hm
  obtain ⟨f0, b0, m0, i0⟩ := open_data h0 (fun l r e => by
    subst e
    have hw := sized_slice hsz (j := 0) (t := 22) (e := 5) rfl rfl Tryd.underlying22
    rwa [bytes5] at hw)
  obtain ⟨f1, b1, m1, i1⟩ := open_data h1 (fun l r e => by
    subst e
    have hw := sized_slice hsz (j := 1) (t := 22) (e := 5) rfl rfl Tryd.underlying22
    rwa [bytes5] at hw)
  obtain ⟨f2, b2, m2, i2⟩ := open_data h2 (fun l r e => by
    subst e
    have hw := sized_slice hsz (j := 2) (t := 22) (e := 5) rfl rfl Tryd.underlying22
    rwa [bytes5] at hw)
  clear hA0 hval0
  refine (walk n (of_laid hL) b0 b1 b2 m0 m1 m2 i0 i1 i2).mono fun e W' ⟨he, bel⟩ => ?_
  subst he
  exact ⟨_, rfl, _, _, _, [], _, [], hW', trodAll_mk1 (shut_bool Tryd.underlying4 _),
    (trodAll_cons_mk (Below.trod laidOut (by kernel_rfl) (of_decide_eq_true (by kernel_rfl)) h0 bel lt0) (trodAll_cons_mk (Below.trod laidOut (by kernel_rfl) (of_decide_eq_true (by kernel_rfl)) h1 bel lt1)
      (trodAll_cons_mk (Below.trod laidOut (by kernel_rfl) (of_decide_eq_true (by kernel_rfl)) h2 bel lt2) (trodAll_cons_mk (Below.trod laidOut (by kernel_rfl) (of_decide_eq_true (by kernel_rfl)) h3 bel lt3) trodAll_mk0)))), rfl, bel.frame _, fun h => by cases h⟩

theorem over : Rows.LawHashSaid :=
  OpenClaim.holds_of_wide 3 Tryd.f3 rfl rfl rfl rfl rfl rfl rfl ⟨rfl, rfl, rfl, rfl, rfl⟩ rfl rfl rfl rfl rfl (by kernel_rfl) Tryd.func3 (by kernel_rfl)
    (of_decide_eq_true (by kernel_rfl)) (by unfold Func.isWrapper; first | (rw [if_pos (by decide +kernel)]; kernel_rfl) | (rw [if_neg (by decide +kernel)]; exact ⟨rfl, rfl⟩))
    (fun os started H enc _ => lifted os started H enc)
end Go.Proofs.YtdbaoohbnenopaaDoor.lawHashDone
