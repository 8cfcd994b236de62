/-
  The statement on frames, whole: for every frame and all bytes the program's encoding stands as the document says and is read back, and nothing else is taken as a frame; the lists that were lent come back as they were.
-/
import Derived.Test.YtdhkpdakialkbaaRows
import Derived.WalkKit
import Derived.ProofKit
import Derived.OpenShut
import Derived.ShutString
import Derived.ChangeOld
import Derived.Below
import Derived.SizedLaws
import Derived.Deep.Strs
import Derived.Test.YtdhkpdakialkbaaVcgF8
namespace Go.Proofs.Ytdhkpdakialkbaa.lawFrameDone
open Go.ChangeShapes Go.WideShapes Go.ChangeAt Go.RowKit
open Go.Vcg
set_option linter.unusedVariables false
set_option linter.unusedSimpArgs false

theorem own : ownKnob Try.prog.godebug = none := by kernel_rfl
theorem laidOut : laidOutB Try.prog = true := by kernel_rfl
theorem bytes5 : Try.prog.bytesOf 5 = 1 := by kernel_rfl
theorem cellsByte : Try.prog.cellsOf 5 = 1 := by kernel_rfl
theorem cellsKey : Try.prog.cellsOf 23 = 32 := by kernel_rfl
theorem cellsWord : Try.prog.cellsOf 24 = 1 := by kernel_rfl
theorem cellsHead : Try.prog.cellsOf 26 = 34 := by kernel_rfl
theorem cellsFrame : Try.prog.cellsOf 29 = 67 := by kernel_rfl
theorem cellsList : Try.prog.cellsOf 27 = 1 := by kernel_rfl
theorem cell_block {W : World} {b i : Nat} {v : Value} (h : W.cell? ⟨b, i, none⟩ = some v) : b < W.heap.size := by
  rcases Nat.lt_or_ge b W.heap.size with hb | hb
  · exact hb
  · have hn : W.heap[b]? = none := Array.getElem?_eq_none hb
    simp [World.cell?, hn] at h
/-- A list that is handed in: an empty slice, or one whose bytes stand in memory. -/
def IsData (w : World) (v : Value) (n : Nat) (f : Nat → Int) : Prop :=
  (∃ a, v = .slice a 0 0 ∧ n = 0) ∨ ∃ b o c, v = .slice (some ⟨b, o, none⟩) n c ∧ b < w.heap.size ∧ n ≤ c ∧ ∀ i, i < n → w.cell? ⟨b, o + i, none⟩ = some (.int .u8 (f i))
/-- The bytes of 32 cells. -/
def bytesOf (cs : List Value) (i : Nat) : Int := match cs[i]? with
  | some (.int _ x) => x
  | _ => 0
theorem row_of (cs : List Value) (hl : cs.length = 32) (h : ∀ i, i < 32 → ∃ x, cs[i]? = some (.int .u8 x) ∧ 0 ≤ x ∧ x < 256) : Byt (bytesOf cs) ∧ cs = (List.range 32).map fun i => .int .u8 (bytesOf cs i) := by
  refine ⟨fun i => ?_, ?_⟩
  · by_cases hi : i < 32
    · obtain ⟨x, hx, h0, h1⟩ := h i hi
      simp only [bytesOf, hx]; exact ⟨h0, h1⟩
    · rw [bytesOf, List.getElem?_eq_none (by omega)]; simp
  · apply List.ext_getElem?
    intro i
    by_cases hi : i < 32
    · obtain ⟨x, hx, _⟩ := h i hi
      rw [List.getElem?_map, List.getElem?_range hi, hx]
      simp only [Option.map_some, bytesOf, hx]
    · rw [List.getElem?_eq_none (show cs.length ≤ i by omega), List.getElem?_eq_none (by rw [List.length_map, List.length_range]; omega)]
/-- A key's cells, opened. -/
theorem open_key {H : Type} {enc : TypeId × Value → H} {W : World} {fuel : Nat} {l : List Value} {x : DataW H × List MemPlace}
    (hf : DataW.trod enc Try.prog W 0 (fun _ => true) true fuel 23 l = some x) (hl : l.length = 32) : ∃ K, Byt K ∧ l = (List.range 32).map fun i => .int .u8 (K i) := by
  obtain ⟨xs, m, rfl, hx, hlen, hxl, hel⟩ := DataW.trod_array Try.underlying23 hf
  have hrow : ∀ i, i < 32 → ∃ x, l[i]? = some (.int .u8 x) ∧ 0 ≤ x ∧ x < 256 := by
    intro i hi
    have he := hel i hi
    rw [cellsByte, Nat.mul_one] at he
    have hxi : i < xs.length := by omega
    rw [List.getElem?_eq_getElem hxi] at he
    obtain ⟨n, hc, _, hw⟩ := DataW.trod_int Try.underlying5 he
    have hb := bounds_u8 hw
    refine ⟨n, ?_, hb.1, by omega⟩
    have : ((l.drop i).take 1)[0]? = some (.int .u8 n) := by rw [hc]; rfl
    rw [List.getElem?_take_of_lt (by decide), List.getElem?_drop] at this
    simpa using this
  obtain ⟨hb, he⟩ := row_of l hl hrow
  exact ⟨bytesOf l, hb, he⟩
/-- A list's cell, opened. -/
theorem open_data {H : Type} {enc : TypeId × Value → H} {W : World} {fuel : Nat} {cs : List Value} {d : DataW H} {p : List MemPlace} (hfu : DataW.trod enc Try.prog W 0 (fun _ => true) true fuel 27 cs = some (d, p))
    (hw : ∀ l r, d = .slice l r → (l.length + r.length) * 1 ≤ reachBytes) : ∃ v n f, cs = [v] ∧ Byt f ∧ n + 64 ≤ 140737488355328 ∧ IsData W v n f := by
  rcases open_ints Try.underlying27 Try.underlying5 (by kernel_rfl) hfu with ⟨hcs, _⟩ | ⟨x, len, cap, zs, hcs, _, hl, hm, hz, hd, hcell, hwz⟩
  · exact ⟨_, 0, fun _ => 0, hcs, fun _ => ⟨by simp, by simp⟩, by decide, .inl ⟨none, rfl, rfl⟩⟩
  · simp only [if_true] at hz
    have hd2 : d = .slice (lits .u8 (zs.take len)) (lits .u8 (zs.drop len)) := by
      have := congrArg Prod.fst hd
      simpa using this
    have hw2 := hw _ _ hd2
    simp only [lits, List.length_map, List.length_take, List.length_drop, reachBytes] at hw2
    have hb : ∀ i, 0 ≤ zs.getD i 0 ∧ zs.getD i 0 < 256 := fun i => by
      by_cases hi : i < zs.length
      · have hmz : zs.getD i 0 ∈ zs := by
          rw [List.getD_eq_getElem?_getD, List.getElem?_eq_getElem hi]; exact List.getElem_mem hi
        have := bounds_u8 (hwz _ hmz)
        exact ⟨this.1, by omega⟩
      · rw [List.getD_eq_getElem?_getD, List.getElem?_eq_none (by omega)]; decide
    refine ⟨_, len, fun i => zs.getD i 0, hcs, hb, by omega, ?_⟩
    by_cases hc0 : cap = 0
    · subst hc0
      obtain rfl : len = 0 := by omega
      exact .inl ⟨_, rfl, rfl⟩
    · obtain ⟨b, off, spot⟩ := x
      have hc := hcell 0 (by omega)
      have hspot : spot = none := by simpa [Addr.add] using World.cell?_spot hc
      subst hspot
      rw [add_eq] at hc
      refine .inr ⟨b, off, cap, rfl, cell_block hc, hl, fun i hi => ?_⟩
      have := hcell i (by omega)
      rwa [add_eq] at this
/-- A frame's cells. -/
def frC (K : Nat → Int) (a b : Int) (v : Value) (T : Nat → Int) : List Value := ((List.range 32).map fun i => .int .u8 (K i)) ++ (.int .u32 a :: .int .u32 b :: v :: ((List.range 32).map fun i => .int .u8 (T i)))
/-- A frame, opened. -/
theorem open_frame {H : Type} {enc : TypeId × Value → H} {W : World} {base : Nat} {v : Value} {d : DataW H} {p : List MemPlace} {ts : List TypeId} {ds : List (DataW H)}
    (hv : Value.okWide Try.prog W .any base 29 v) (h : DataW.Trod enc Try.prog W 0 (fun _ => true) true 29 v d p) (hsz : (DataW.weightsEach Try.prog (29 :: ts) (d :: ds)).all (· ≤ reachBytes) = true) :
    ∃ K a b u T n f, v = .agg (frC K a b u T).toArray ∧ Byt K ∧ Byt T ∧ (0 ≤ a ∧ a < 4294967296) ∧ (0 ≤ b ∧ b < 4294967296) ∧ Byt f ∧ n + 64 ≤ 140737488355328 ∧ IsData W u n f := by
  obtain ⟨cs, rfl, hcs, _⟩ : ∃ cs, v = .agg cs ∧ cs.size = Try.prog.cellsOf 29 ∧ Row.okWide Try.prog W .any base 29 cs := by
    simpa [Value.okWide, Try.underlying29] using hv
  rw [cellsFrame] at hcs
  obtain ⟨l⟩ := cs
  obtain ⟨fuel, hf⟩ := h
  have hl : l.length = 67 := by simpa using hcs
  have hf : DataW.trod enc Try.prog W 0 (fun _ => true) true fuel 29 l = some (d, p) := by simpa [Value.cells] using hf
  obtain ⟨y0, y1, y2, m, hy, _, g0, g1, g2⟩ := Go.Deep.trod_struct3 Try.underlying29 hf
  simp only [Prod.mk.injEq] at hy
  obtain ⟨rfl, rfl⟩ := hy
  simp only [cellsHead, cellsList, cellsKey, List.drop_zero] at g0 g1 g2
  obtain ⟨z0, z1, z2, m2, hz, _, k0, k1, k2⟩ := Go.Deep.trod_struct3 Try.underlying26 g0
  simp only [cellsKey, cellsWord, List.drop_zero] at k0 k1 k2
  obtain ⟨K, hK, eK⟩ := open_key k0 (by simp; omega)
  obtain ⟨a, ea, _, wa⟩ := DataW.trod_int Try.underlying24 k1
  obtain ⟨b, eb, _, wb⟩ := DataW.trod_int Try.underlying24 k2
  obtain ⟨T, hT, eT⟩ := open_key g2 (by simp; omega)
  obtain ⟨u, n, f, eu, hfb, hn, hdat⟩ := open_data (d := y1.1) (p := y1.2) g1 (fun q r e => by
    have h1 : ((q.length + r.length) * 1) ∈ DataW.weightsEach Try.prog (29 :: ts) (DataW.agg [y0.1, y1.1, y2.1] :: ds) := by
      refine DataW.weights_mem_each (j := 0) rfl rfl _ ?_
      rw [e]
      have hb := bytes5
      simp only [DataW.weights, Try.underlying29, DataW.weightsEach, Try.underlying27, hb, List.map_cons, List.map_nil]
      simp
    have := List.all_eq_true.1 hsz _ h1
    simpa using this)
  have ba := bounds_u32 wa
  have bb := bounds_u32 wb
  refine ⟨K, a, b, u, T, n, f, ?_, hK, hT, ⟨ba.1, by omega⟩, ⟨bb.1, by omega⟩, hfb, hn, hdat⟩
  have e1 : List.take 32 l = (List.range 32).map fun i => Value.int .u8 (K i) := by
    rw [← eK, List.take_take]; rfl
  have e2 : List.take 1 (List.drop 32 l) = [Value.int .u32 a] := by
    rw [← ea, List.drop_take, List.take_take]; rfl
  have e3 : List.take 1 (List.drop 33 l) = [Value.int .u32 b] := by
    rw [← eb, List.drop_take, List.take_take]; rfl
  have e5 : List.drop 35 l = (List.range 32).map fun i => Value.int .u8 (T i) := by
    rw [← eT]; exact (List.take_of_length_le (by rw [List.length_drop]; omega)).symm
  have : l = frC K a b u T := by
    have s1 : l = List.take 32 l ++ (List.take 1 (List.drop 32 l) ++ (List.take 1 (List.drop 33 l) ++ (List.take 1 (List.drop 34 l) ++ List.drop 35 l))) := by
      have h34 : List.take 1 (List.drop 34 l) ++ List.drop 35 l = List.drop 34 l := by
        have := List.take_append_drop 1 (List.drop 34 l); rwa [List.drop_drop] at this
      have h33 : List.take 1 (List.drop 33 l) ++ List.drop 34 l = List.drop 33 l := by
        have := List.take_append_drop 1 (List.drop 33 l); rwa [List.drop_drop] at this
      have h32 : List.take 1 (List.drop 32 l) ++ List.drop 33 l = List.drop 32 l := by
        have := List.take_append_drop 1 (List.drop 32 l); rwa [List.drop_drop] at this
      rw [h34, h33, h32, List.take_append_drop]
    rw [s1, e1, e2, e3, eu, e5]; rfl
  rw [this]
theorem frL_conc {g : Where} {K T : Nat → Int} {a b : Int} {sv : SV} {v : Value} (h : SV.conc g sv = v) : AV.conc g (Ag (frL K a b sv T)) = .agg (frC K a b v T).toArray := by
  have hr : ∀ f : Nat → Int, (rowI .u8 32 f).map (SV.conc g) = (List.range 32).map fun i => Value.int .u8 (f i) := fun f => by
    rw [rowI, List.map_map]; rfl
  show Value.agg ((frL K a b sv T).map (SV.conc g)).toArray = _
  unfold frL frC
  rw [List.map_append, hr, List.map_cons, List.map_cons, List.map_cons, hr, h]; rfl

/-! ### STEP 1: the law returns true and writes nothing that was there -/
theorem mem1 {w : World} {b o n : Nat} {f : Nat → Int} (hb : b < w.heap.size) (hc : ∀ i, i < n → w.cell? ⟨b, o + i, none⟩ = some (.int .u8 (f i))) : MemRep (fun _ => (b, o)) (mem0 (lk [(0, ⟨false, rowI .u8 n f⟩)])) w := by
  refine ⟨fun t bx ht => hb, fun t bx ht i x hx => ?_, fun t bx ht hrw => ?_, fun t t' bx bx' ht hrw => ?_⟩
  · obtain ⟨rfl, rfl⟩ := lk1 ht
    by_cases hi : i < n
    · simp only [rowI_get .u8 n f i hi, Option.some.injEq] at hx; subst hx
      exact hc i hi
    · simp only [List.getElem?_eq_none (show (rowI .u8 n f).length ≤ i by rw [rowI_length]; omega)] at hx; cases hx
  · obtain ⟨rfl, rfl⟩ := lk1 ht; cases hrw
  · obtain ⟨rfl, rfl⟩ := lk1 ht; cases hrw
theorem mem2 {w : World} {b o n b' o' n' : Nat} {f f' : Nat → Int} (hb : b < w.heap.size) (hc : ∀ i, i < n → w.cell? ⟨b, o + i, none⟩ = some (.int .u8 (f i))) (hb' : b' < w.heap.size) (hc' : ∀ i, i < n' → w.cell? ⟨b', o' + i, none⟩ = some (.int .u8 (f' i))) :
    MemRep (fun t => if t = 0 then (b, o) else (b', o')) (mem0 (lk [(0, ⟨false, rowI .u8 n f⟩), (1, ⟨false, rowI .u8 n' f'⟩)])) w := by
  have m := mem1 hb hc
  have m' := mem1 hb' hc'
  refine ⟨fun t bx ht => ?_, fun t bx ht i x hx => ?_, fun t bx ht hrw => ?_, fun t t' bx bx' ht hrw => ?_⟩
  · rcases lk2 ht with ⟨rfl, rfl⟩ | ⟨rfl, rfl⟩
    · exact hb
    · exact hb'
  · rcases lk2 ht with ⟨rfl, rfl⟩ | ⟨rfl, rfl⟩
    · by_cases hi : i < n
      · simp only [rowI_get .u8 n f i hi, Option.some.injEq] at hx; subst hx
        exact hc i hi
      · simp only [List.getElem?_eq_none (show (rowI .u8 n f).length ≤ i by rw [rowI_length]; omega)] at hx; cases hx
    · by_cases hi : i < n'
      · simp only [rowI_get .u8 n' f' i hi, Option.some.injEq] at hx; subst hx
        exact hc' i hi
      · simp only [List.getElem?_eq_none (show (rowI .u8 n' f').length ≤ i by rw [rowI_length]; omega)] at hx; cases hx
  · rcases lk2 ht with ⟨rfl, rfl⟩ | ⟨rfl, rfl⟩ <;> cases hrw
  · rcases lk2 ht with ⟨rfl, rfl⟩ | ⟨rfl, rfl⟩ <;> cases hrw
theorem walk {w : World} {u v2 : Value} {n1 n2 : Nat} {f1 f2 K T : Nat → Int} {a b : Int} (hK : Byt K) (hT : Byt T) (ha : 0 ≤ a ∧ a < 4294967296) (hb : 0 ≤ b ∧ b < 4294967296) (b1 : Byt f1) (b2 : Byt f2) (m1 : n1 + 64 ≤ 140737488355328) (m2 : n2 + 64 ≤ 140737488355328) (h1 : IsData w u n1 f1) (h2 : IsData w v2 n2 f2) :
    Calls Try.prog 3 #[.agg (frC K a b u T).toArray, v2] w fun e w' => e = .returned (.bool true) ∧ Below w.heap.size w w' := by
  rcases h1 with ⟨a1, rfl, rfl⟩ | ⟨x1, o1, c1, rfl, lt1, _, cell1⟩ <;> rcases h2 with ⟨a2, rfl, rfl⟩ | ⟨x2, o2, c2, rfl, lt2, cp2, cell2⟩
  · have hc := (law_nn (a := a1) (a' := a2) hK hT b1 b2 ha hb).call (fun _ => False) (fun _ => (0, 0)) w (fun _ _ h => nomatch h) (fun _ _ h => nomatch h) ⟨fun t bx ht => by simp [mem0] at ht, fun t bx ht => by simp [mem0] at ht, fun t bx ht => by simp [mem0] at ht, fun t t' bx bx' ht => by simp [mem0] at ht⟩ (fun t bx ht => by simp at ht)
    simp only [List.map_cons, List.map_nil, frL_conc (g := fun _ => (0, 0)) (sv := Sum.inl (.slice a1 0 0)) rfl] at hc
    refine hc.mono ?_
    rintro e w' ⟨r, out, g', rfl, ⟨rfl, rfl⟩, _, _, _, _, _, hfr⟩
    exact ⟨rfl, Kept.below hfr⟩
  · have hc := (law_ns (a := a1) (c := c2) hK hT b1 b2 ha hb plainI shows_row0 m2 cp2).call (fun _ => False) (fun _ => (x2, o2)) w (fun _ _ h => nomatch h) (fun _ _ h => nomatch h) (mem1 lt2 cell2) (fun t bx ht hrw => by obtain ⟨rfl, rfl⟩ := lk1 ht; cases hrw)
    simp only [List.map_cons, List.map_nil, frL_conc (g := fun _ => (x2, o2)) (sv := Sum.inl (.slice a1 0 0)) rfl] at hc
    refine hc.mono ?_
    rintro e w' ⟨r, out, g', rfl, ⟨rfl, rfl⟩, _, _, _, _, _, hfr⟩
    exact ⟨rfl, Kept.below hfr⟩
  · have hc := (law_sn (a := a2) (c := c1) hK hT b1 b2 ha hb plainI shows_row0 m1).call (fun _ => False) (fun _ => (x1, o1)) w (fun _ _ h => nomatch h) (fun _ _ h => nomatch h) (mem1 lt1 cell1) (fun t bx ht hrw => by obtain ⟨rfl, rfl⟩ := lk1 ht; cases hrw)
    simp only [List.map_cons, List.map_nil, frL_conc (g := fun _ => (x1, o1)) (sv := Sum.inr (.inr (0, 0, n1, c1))) (v := .slice (some ⟨x1, o1, none⟩) n1 c1) rfl] at hc
    refine hc.mono ?_
    rintro e w' ⟨r, out, g', rfl, ⟨rfl, rfl⟩, _, _, _, _, _, hfr⟩
    exact ⟨rfl, Kept.below hfr⟩
  · have hc := (law_ss (c := c1) (c' := c2) hK hT b1 b2 ha hb plainI plainI shows_row0 shows_row0 m1 m2 cp2).call (fun _ => False) (fun t => if t = 0 then (x1, o1) else (x2, o2)) w (fun _ _ h => nomatch h) (fun _ _ h => nomatch h) (mem2 lt1 cell1 lt2 cell2) (fun t bx ht hrw => by rcases lk2 ht with ⟨rfl, rfl⟩ | ⟨rfl, rfl⟩ <;> cases hrw)
    simp only [List.map_cons, List.map_nil, frL_conc (g := fun t => if t = 0 then (x1, o1) else (x2, o2)) (sv := Sum.inr (.inr (0, 0, n1, c1))) (v := .slice (some ⟨x1, o1, none⟩) n1 c1) rfl] at hc
    refine hc.mono ?_
    rintro e w' ⟨r, out, g', rfl, ⟨rfl, rfl⟩, _, _, _, _, _, hfr⟩
    exact ⟨rfl, Kept.below hfr⟩

set_option maxRecDepth 100000 in
theorem lifted (os : Os) (started : os.Started) (H : Type) (enc : TypeId × Value → H) :
    ReturnsInHanded {} Try.checked os 3 .any (Rows.lawFrameSpec.pre6 enc Try.prog Try.f3 Rows.lawFrameRow.domain false) (Rows.lawFrameSpec.post enc Try.prog Try.f3 false true false false) := by
  refine returnsInHanded_of_change_sized (C := Try.checked) own started (by kernel_rfl) Try.func3
    (ChangeSpec.witness6 (enc := enc) (C := Try.checked) false ⟨#[], #[.agg (List.replicate 32 (Value.int .u8 0) ++ [Value.int .u32 0, Value.int .u32 0, .slice none 0 0] ++ List.replicate 32 (Value.int .u8 0)).toArray, .slice none 0 0], []⟩ 40 (by kernel_rfl) (by kernel_rfl) (by kernel_rfl) (by kernel_rfl)) ?_
  intro W base args ds gs before hval0 hW hcnd hsz0 _
  have hval : ∀ (j : Nat) t v, Try.f3.params[j]? = some t → args[j]? = some v → Value.okWide Try.prog W .any base t v := hval0
  have hW' := hW
  have hsz : (DataW.weightsEach Try.prog (Try.f3.params.toList ++ Rows.lawFrameSpec.plain.varTypes Try.prog) (ds ++ gs)).all (· ≤ reachBytes) = true := hsz0
  obtain ⟨p, q, hA0, hV, rfl, hfz, hnd⟩ := hW
  have hA : DataW.TrodAll enc Try.prog W 0 (fun _ => true) true Try.f3.params.toList args.toList ds p := hA0
  rw [Try.params3] at hA hval hsz
  obtain ⟨v0, vs0, d0, ds0, p0, q0, hargs, rfl, rfl, h0, r0⟩ := trodAll_cons hA
  obtain ⟨v1, vs1, d1, ds1, p1, q1, rfl, rfl, rfl, h1, r1⟩ := trodAll_cons r0
  obtain ⟨rfl, rfl, rfl⟩ := trodAll_nil r1
  obtain rfl : args = #[v0, v1] := by cases args; simp_all
  obtain ⟨rfl, rfl⟩ := trodVars_none hV
  obtain ⟨K, a, b, u, T, n1, f1, rfl, hK, hT, ha, hb, b1, m1, i1⟩ := open_frame (hval 0 29 v0 rfl rfl) h0 hsz
  have lt0 : ∀ x ∈ p0, x.block < W.heap.size := by obtain ⟨m, hm⟩ := h0; exact DataW.trod_lt m _ _ _ hm
  have lt1 : ∀ x ∈ p1, x.block < W.heap.size := by obtain ⟨m, hm⟩ := h1; exact DataW.trod_lt m _ _ _ hm
  obtain ⟨a2, len2, cap2, rfl⟩ := okWide_slice Try.underlying27 (hval 1 27 v1 rfl rfl)
  obtain ⟨n2, f2, b2, m2, i2⟩ : ∃ n f, Byt f ∧ n + 64 ≤ 140737488355328 ∧ IsData W (.slice a2 len2 cap2) n f := by
    have h1' := h1
    obtain ⟨fuel, hfu⟩ := h1'
    obtain ⟨v, n, f, e, g1, g2, g3⟩ := open_data hfu (fun l r e => by
      subst e
      have hw := sized_slice hsz (j := 1) (t := 27) (e := 5) rfl rfl Try.underlying27
      rwa [bytes5] at hw)
    obtain rfl : Value.slice a2 len2 cap2 = v := by simpa [Value.cells] using e
    exact ⟨n, f, g1, g2, g3⟩
  clear hA0 hval0
  refine (walk hK hT ha hb b1 b2 m1 m2 i1 i2).mono fun e W' ⟨he, bel⟩ => ?_
  subst he
  exact ⟨_, rfl, _, _, _, [], _, [], hW', trodAll_mk1 (shut_bool Try.underlying4 _),
    (trodAll_cons_mk (Below.trod laidOut (by kernel_rfl) (of_decide_eq_true (by kernel_rfl)) h0 bel lt0) (trodAll_cons_mk (Below.trod laidOut (by kernel_rfl) (of_decide_eq_true (by kernel_rfl)) h1 bel lt1) trodAll_mk0)), rfl, bel.frame _, fun h => by cases h⟩

theorem over : Rows.lawFrameRow.holds Try.pinned (OpenSpec.ofChange Rows.lawFrameSpec) :=
  OpenClaim.holds_of_wide 3 Try.f3 rfl rfl rfl rfl rfl rfl rfl ⟨rfl, rfl, rfl, rfl, rfl⟩ rfl rfl rfl rfl rfl (by kernel_rfl) Try.func3 (by kernel_rfl)
    (of_decide_eq_true (by kernel_rfl)) (by unfold Func.isWrapper; first | (rw [if_pos (by decide +kernel)]; kernel_rfl) | (rw [if_neg (by decide +kernel)]; exact ⟨rfl, rfl⟩))
    (fun os started H enc _ => lifted os started H enc)

/-- The statement. -/
theorem proved : Rows.LawFrameSaid := over
#print axioms proved
end Go.Proofs.Ytdhkpdakialkbaa.lawFrameDone
