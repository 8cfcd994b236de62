/-
  The statement on key derivations, whole: for every role, all keys and all limits the program's Begin, RootKdf and ChainKdf answer as the document's. The row's own conditions: the listed tables hold what the program's text lays in them.
-/
import Derived.Test.YtlpckbkmmocaaaaDoorRows
import Derived.WalkKit
import Derived.ProofKit
import Derived.OpenShut
import Derived.ShutString
import Derived.ChangeOld
import Derived.Below
import Derived.SizedLaws
import Derived.LaidMore
import Derived.Handed
import Derived.Stop.Joined
import Derived.Test.YtlpckbkmmocaaaaDoorVcgK3
namespace Go.Proofs.YtlpckbkmmocaaaaDoor.lawKdfDone
open Go.ChangeShapes Go.WideShapes Go.ChangeAt Go.RowKit
open Go.Vcg
set_option linter.unusedVariables false
set_option linter.unusedSimpArgs false

theorem own : ownKnob Tryd.prog.godebug = none := by kernel_rfl
theorem laidOut : laidOutB Tryd.prog = true := by kernel_rfl
theorem bytes5 : Tryd.prog.bytesOf 5 = 1 := by kernel_rfl
theorem cells39 : Tryd.prog.cellsOf 27 = 1 := by kernel_rfl
theorem g0 : Tryd.prog.globalNamed "ratchet/ratchetref.firstValue" = some 0 := by kernel_rfl
theorem g1 : Tryd.prog.globalNamed "ratchet/ratchetref.rootsOfPrimes" = some 1 := by kernel_rfl
theorem g2 : Tryd.prog.globalNamed "ratchet/prim.roundConstants" = some 2 := by kernel_rfl
theorem t0 : (Tryd.prog.globals[0]?).map (·.type) = some 52 := by kernel_rfl
theorem t1 : (Tryd.prog.globals[1]?).map (·.type) = some 72 := by kernel_rfl
theorem t2 : (Tryd.prog.globals[2]?).map (·.type) = some 72 := by kernel_rfl
/-- The listed tables, with what they hold. -/
def tabs : List (String × DataW Unit) := [("ratchet/ratchetref.firstValue", Rows.laid_ratchet_ratchetref_firstValue), ("ratchet/ratchetref.rootsOfPrimes", Rows.laid_ratchet_ratchetref_rootsOfPrimes), ("ratchet/prim.roundConstants", Rows.laid_ratchet_prim_roundConstants)]
theorem d0 : (Rows.laid_ratchet_ratchetref_firstValue : DataW Unit) = .agg ((List.range 8).map fun i => .lit (.int .u32 (ivW i))) := by kernel_rfl
theorem d1 : (Rows.laid_ratchet_ratchetref_rootsOfPrimes : DataW Unit) = .agg ((List.range 64).map fun i => .lit (.int .u32 (kW i))) := by kernel_rfl
theorem d2 : (Rows.laid_ratchet_prim_roundConstants : DataW Unit) = .agg ((List.range 64).map fun i => .lit (.int .u32 (kW i))) := by kernel_rfl

/-- The cells of a table of words, out of its datum. -/
theorem tab_cells {W : World} {t n fuel : Nat} {f : Nat → Int} {cs : List Value} {p : List MemPlace} {sp : Nat → Bool} {held : Bool} (ht : Tryd.prog.underlying t = some (.array n 27))
    (h : DataW.trod (fun _ => ()) Tryd.prog W 0 sp held fuel t cs = some (.agg ((List.range n).map fun i => .lit (.int .u32 (f i))), p)) : ∀ i, i < n → cs[i]? = some (.int .u32 (f i)) := by
  intro i hi
  obtain ⟨xs, m, rfl, hx, hlen, hxl, hel⟩ := DataW.trod_array ht h
  have he := hel i hi
  rw [cells39, Nat.mul_one] at he
  have hxi : i < xs.length := by omega
  rw [List.getElem?_eq_getElem hxi] at he
  obtain ⟨z, hc, hz, hw⟩ := DataW.trod_int Tryd.underlying27 he
  have e1 : (xs.map (·.1))[i]? = ((List.range n).map fun i => (DataW.lit (.int .u32 (f i)) : DataW Unit))[i]? := by
    have := congrArg Prod.fst hx
    simp only [DataW.agg.injEq] at this
    rw [this]
  rw [List.getElem?_map, List.getElem?_map, List.getElem?_range hi, List.getElem?_eq_getElem hxi] at e1
  simp only [Option.map_some, Option.some.injEq] at e1
  rw [hz] at e1
  simp only [DataW.lit.injEq, Lit.int.injEq, true_and] at e1
  subst e1
  have : ((cs.drop i).take 1)[0]? = some (.int .u32 (f i)) := by rw [hc]; rfl
  rw [List.getElem?_take_of_lt (by decide), List.getElem?_drop] at this
  simpa using this

theorem cell_block {W : World} {b i : Nat} {v : Value} (h : W.cell? ⟨b, i, none⟩ = some v) : b < W.heap.size := by
  rcases Nat.lt_or_ge b W.heap.size with hb | hb
  · exact hb
  · have hn : W.heap[b]? = none := Array.getElem?_eq_none hb
    simp [World.cell?, hn] at h

/-- What the row's condition gives: the tables lie as the calculus asks. -/
theorem of_laid {W : World} (h : laidMetH Tryd.prog tabs W) : Laid Tryd.prog W := by
  rw [MakeChecks.laidMetH_plain _ _ _ (by kernel_rfl)] at h
  obtain ⟨ps, ⟨a0, u0, cs0, f0, p0, q0, ha0, hu0, hv0, hd0, ⟨a1, u1, cs1, f1, p1, q1, ha1, hu1, hv1, hd1, ⟨a2, u2, cs2, f2, p2, q2, ha2, hu2, hv2, hd2, _, _⟩, _⟩, _⟩, _, _⟩ := h
  obtain rfl := Option.some.inj (g0.symm.trans ha0)
  obtain rfl := Option.some.inj (g1.symm.trans ha1)
  obtain rfl := Option.some.inj (g2.symm.trans ha2)
  obtain rfl := Option.some.inj (t0.symm.trans hu0)
  obtain rfl := Option.some.inj (t1.symm.trans hu1)
  obtain rfl := Option.some.inj (t2.symm.trans hu2)
  rw [d0] at hd0
  rw [d1] at hd1
  rw [d2] at hd2
  have c0 := tab_cells Tryd.underlying52 hd0
  have c1 := tab_cells Tryd.underlying72 hd1
  have c2 := tab_cells Tryd.underlying72 hd2
  have fin : ∀ (b n : Nat) (f : Nat → Int), 0 < n → (∀ i, i < n → W.cell? ⟨b, i, none⟩ = some (.int .u32 (f i))) → b < W.heap.size ∧ ∀ i v, (rowI .u32 n f)[i]? = some v → SV.one v = true ∧ ∃ u, v = .inl u ∧ W.cell? ⟨b, i, none⟩ = some u := fun b n f hn hc => by
    refine ⟨cell_block (hc 0 hn), fun i v hv => ?_⟩
    by_cases hi : i < n
    · rw [rowI_get .u32 n f i hi] at hv
      obtain rfl := Option.some.inj hv
      exact ⟨rfl, _, rfl, hc i hi⟩
    · rw [List.getElem?_eq_none (by rw [rowI_length]; omega)] at hv; cases hv
  have w0 : ∀ i, i < 8 → W.cell? ⟨0, i, none⟩ = some (.int .u32 (ivW i)) := fun i hi => by
    rw [World.var?_cell ha0 hv0 i]; simpa using c0 i hi
  have w1 : ∀ i, i < 64 → W.cell? ⟨1, i, none⟩ = some (.int .u32 (kW i)) := fun i hi => by
    rw [World.var?_cell ha1 hv1 i]; simpa using c1 i hi
  have w2 : ∀ i, i < 64 → W.cell? ⟨2, i, none⟩ = some (.int .u32 (kW i)) := fun i hi => by
    rw [World.var?_cell ha2 hv2 i]; simpa using c2 i hi
  intro b bx hb
  by_cases e0 : b = 0
  · subst e0; cases hb; exact fin 0 8 ivW (by decide) w0
  by_cases e1 : b = 1
  · subst e1; cases hb; exact fin 1 64 kW (by decide) w1
  by_cases e2 : b = 2
  · subst e2; cases hb; exact fin 2 64 kW (by decide) w2
  · exfalso
    have : (if b = 0 then some ⟨false, rowI .u32 8 ivW⟩ else if b = 1 then some ⟨false, rowI .u32 64 kW⟩ else if b = 2 then some ⟨false, rowI .u32 64 kW⟩ else none : Option Box) = some bx := hb
    rw [if_neg e0, if_neg e1, if_neg e2] at this
    cases this

theorem cellsByte : Tryd.prog.cellsOf 5 = 1 := by kernel_rfl
theorem cellsKey : Tryd.prog.cellsOf 23 = 32 := by kernel_rfl
/-- The bytes of 32 cells. -/
def bytesOf (cs : List Value) (i : Nat) : Int := match cs[i]? with
  | some (.int _ x) => x
  | _ => 0
theorem row_of (cs : List Value) (hl : cs.length = 32) (h : ∀ i, i < 32 → ∃ x, cs[i]? = some (.int .u8 x) ∧ 0 ≤ x ∧ x < 256) : Byt (bytesOf cs) ∧ (rowI .u8 32 (bytesOf cs)).map (SV.conc (fun _ => (0, 0))) = cs := by
  refine ⟨fun i => ?_, ?_⟩
  · by_cases hi : i < 32
    · obtain ⟨x, hx, h0, h1⟩ := h i hi
      simp only [bytesOf, hx]; exact ⟨h0, h1⟩
    · rw [bytesOf, List.getElem?_eq_none (by omega)]; simp
  · apply List.ext_getElem?
    intro i
    by_cases hi : i < 32
    · obtain ⟨x, hx, _⟩ := h i hi
      rw [List.getElem?_map, rowI_get .u8 32 _ i hi, hx]
      simp only [Option.map_some, SV.conc, bytesOf, hx]
    · rw [List.getElem?_eq_none (by rw [List.length_map, rowI_length]; omega), List.getElem?_eq_none (by omega)]
theorem open_key {H : Type} {enc : TypeId × Value → H} {W : World} {base : Nat} {v : Value} {d : DataW H} {p : List MemPlace}
    (hv : Value.okWide Tryd.prog W .any base 23 v) (h : DataW.Trod enc Tryd.prog W 0 (fun _ => true) true 23 v d p) : ∃ K, Byt K ∧ v = AV.val (Ag (rowI .u8 32 K)) := by
  obtain ⟨cs, rfl, hsz, _⟩ : ∃ cs, v = .agg cs ∧ cs.size = Tryd.prog.cellsOf 23 ∧ Row.okWide Tryd.prog W .any base 23 cs := by
    simpa [Value.okWide, Tryd.underlying23] using hv
  rw [cellsKey] at hsz
  obtain ⟨l⟩ := cs
  obtain ⟨fuel, hf⟩ := h
  obtain ⟨xs, m, rfl, hx, hlen, hxl, hel⟩ := DataW.trod_array Tryd.underlying23 hf
  have hl : l.length = 32 := by simpa using hsz
  have hrow : ∀ i, i < 32 → ∃ x, l[i]? = some (.int .u8 x) ∧ 0 ≤ x ∧ x < 256 := by
    intro i hi
    have he := hel i hi
    rw [cellsByte, Nat.mul_one] at he
    have hxi : i < xs.length := by omega
    rw [List.getElem?_eq_getElem hxi] at he
    obtain ⟨n, hc, _, hw⟩ := DataW.trod_int Tryd.underlying5 he
    have hb := bounds_u8 hw
    refine ⟨n, ?_, hb.1, by omega⟩
    have hc' : (l.drop i).take 1 = [.int .u8 n] := by simpa [Value.cells] using hc
    have : ((l.drop i).take 1)[0]? = some (.int .u8 n) := by rw [hc']; rfl
    rw [List.getElem?_take_of_lt (by decide), List.getElem?_drop] at this
    simpa using this
  obtain ⟨hb, he⟩ := row_of l hl hrow
  refine ⟨bytesOf l, hb, ?_⟩
  show Value.agg ⟨l⟩ = .agg ((rowI .u8 32 (bytesOf l)).map (SV.conc (fun _ => (0, 0)))).toArray
  rw [he]

/-! ### STEP 1: the law returns true and writes nothing that was there -/
theorem walk {w : World} {role skip room : Int} {K T : Nat → Int} (hl : Laid Tryd.prog w) (bK : Byt K) (bT : Byt T) :
    Calls Tryd.prog 3 #[.int .i64 role, AV.val (Ag (rowI .u8 32 K)), AV.val (Ag (rowI .u8 32 T)), .int .i64 skip, .int .i64 room] w fun e w' => e = .returned (.bool true) ∧ Below w.heap.size w w' := by
  refine ((lawKdf_fun role skip room K T bK bT).call w hl).mono ?_
  rintro e w' ⟨r, rfl, rfl, hk⟩
  exact ⟨rfl, hk.below⟩

/-- The door's own heap meets the condition. -/
theorem door_met (os : Os) (args : Array Value) : laidMetH Tryd.prog tabs ((World.doorLaid Tryd.prog 4000 os).forCall (fun _ _ => 0) ⟨#[], args, []⟩).memory :=
  laidMetH_of_parts3 (fuel := 8) (laidMet_of_run' 8 (by kernel_rfl) (by kernel_rfl)) (by kernel_rfl) (by kernel_rfl)

set_option maxRecDepth 100000 in
theorem lifted (os : Os) (started : os.Started) (H : Type) (enc : TypeId × Value → H) :
    ReturnsInHanded {} Tryd.checked os 3 .any (fun w args => (Rows.lawKdfSpec.pre enc Tryd.prog Tryd.f3 [] false w args ∧ laidMetH Tryd.prog tabs w) ∧ sizedMet enc Tryd.prog Tryd.f3 (OpenSpec.ofChange Rows.lawKdfSpec) false w args)
      (Rows.lawKdfSpec.post enc Tryd.prog Tryd.f3 false true false false) := by
  refine returnsInHanded_of_change_and (C := Tryd.checked) (X := fun w _ => laidMetH Tryd.prog tabs w) (fun _ _ _ hh h => h.of_heap hh) own started (by kernel_rfl) Tryd.func3
    (ChangeSpec.witness_shaped (enc := enc) (C := Tryd.checked) (os := os) (X := fun w _ => laidMetH Tryd.prog tabs w) false (World.doorLaid Tryd.prog 4000 os) #[.int .i64 0, .agg ((List.replicate 32 (Value.int .u8 0)).toArray), .agg ((List.replicate 32 (Value.int .u8 0)).toArray), .int .i64 0, .int .i64 0] 40 rfl (World.shaped_of_RefB (by kernel_rfl) (by kernel_rfl)) (by kernel_rfl) (by kernel_rfl) (by kernel_rfl) (door_met os _)) ?_
  intro W base args ds gs before hval0 hW _ hsz0 hL _
  have hval : ∀ (j : Nat) t v, Tryd.f3.params[j]? = some t → args[j]? = some v → Value.okWide Tryd.prog W .any base t v := hval0
  have hW' := hW
  have hsz : (DataW.weightsEach Tryd.prog (Tryd.f3.params.toList ++ Rows.lawKdfSpec.plain.varTypes Tryd.prog) (ds ++ gs)).all (· ≤ reachBytes) = true := hsz0
  obtain ⟨p, q, hA0, hV, rfl, hfz, hnd⟩ := hW
  have hA : DataW.TrodAll enc Tryd.prog W 0 (fun _ => true) true Tryd.f3.params.toList args.toList ds p := hA0
  rw [Tryd.params3] at hA hval hsz
  obtain ⟨v0, vs0, e0, ds0, p0, q0, hargs, rfl, rfl, h0, r0⟩ := trodAll_cons hA
  obtain ⟨v1, vs1, e1, ds1, p1, q1, rfl, rfl, rfl, h1, r1⟩ := trodAll_cons r0
  obtain ⟨v2, vs2, e2, ds2, p2, q2, rfl, rfl, rfl, h2, r2⟩ := trodAll_cons r1
  obtain ⟨v3, vs3, e3, ds3, p3, q3, rfl, rfl, rfl, h3, r3⟩ := trodAll_cons r2
  obtain ⟨v4, vs4, e4, ds4, p4, q4, rfl, rfl, rfl, h4, r4⟩ := trodAll_cons r3
  obtain ⟨rfl, rfl, rfl⟩ := trodAll_nil r4
  obtain rfl : args = #[v0, v1, v2, v3, v4] := by cases args; simp_all
  obtain ⟨rfl, rfl⟩ := trodVars_none hV
  obtain ⟨role, rfl⟩ := okWide_int Tryd.underlying3 (hval 0 3 v0 rfl rfl)
  obtain ⟨K, bK, rfl⟩ := open_key (hval 1 23 v1 rfl rfl) h1
  obtain ⟨T, bT, rfl⟩ := open_key (hval 2 23 v2 rfl rfl) h2
  obtain ⟨skip, rfl⟩ := okWide_int Tryd.underlying3 (hval 3 3 v3 rfl rfl)
  obtain ⟨room, rfl⟩ := okWide_int Tryd.underlying3 (hval 4 3 v4 rfl rfl)
  have lt0 : ∀ x ∈ p0, x.block < W.heap.size := by obtain ⟨m, hm⟩ := h0; exact DataW.trod_lt m _ _ _ hm
  have lt1 : ∀ x ∈ p1, x.block < W.heap.size := by obtain ⟨m, hm⟩ := h1; exact DataW.trod_lt m _ _ _ hm
  have lt2 : ∀ x ∈ p2, x.block < W.heap.size := by obtain ⟨m, hm⟩ := h2; exact DataW.trod_lt m _ _ _ hm
  have lt3 : ∀ x ∈ p3, x.block < W.heap.size := by obtain ⟨m, hm⟩ := h3; exact DataW.trod_lt m _ _ _ hm
  have lt4 : ∀ x ∈ p4, x.block < W.heap.size := by obtain ⟨m, hm⟩ := h4; exact DataW.trod_lt m _ _ _ hm
  clear hA0 hval0
  refine (walk (of_laid hL) bK bT).mono fun e W' ⟨he, bel⟩ => ?_
  subst he
  exact ⟨_, rfl, _, _, _, [], _, [], hW', trodAll_mk1 (shut_bool Tryd.underlying4 _),
    (trodAll_cons_mk (Below.trod laidOut (by kernel_rfl) (of_decide_eq_true (by kernel_rfl)) h0 bel lt0) (trodAll_cons_mk (Below.trod laidOut (by kernel_rfl) (of_decide_eq_true (by kernel_rfl)) h1 bel lt1) (trodAll_cons_mk (Below.trod laidOut (by kernel_rfl) (of_decide_eq_true (by kernel_rfl)) h2 bel lt2) (trodAll_cons_mk (Below.trod laidOut (by kernel_rfl) (of_decide_eq_true (by kernel_rfl)) h3 bel lt3) (trodAll_cons_mk (Below.trod laidOut (by kernel_rfl) (of_decide_eq_true (by kernel_rfl)) h4 bel lt4) trodAll_mk0))))), rfl, bel.frame _, fun h => by cases h⟩

theorem over : Rows.LawKdfSaid :=
  OpenClaim.holds_of_wide 3 Tryd.f3 rfl rfl rfl rfl rfl rfl rfl ⟨rfl, rfl, rfl, rfl, rfl⟩ rfl rfl rfl rfl rfl (by kernel_rfl) Tryd.func3 (by kernel_rfl)
    (of_decide_eq_true (by kernel_rfl)) (by unfold Func.isWrapper; first | (rw [if_pos (by decide +kernel)]; kernel_rfl) | (rw [if_neg (by decide +kernel)]; exact ⟨rfl, rfl⟩))
    (fun os started H enc _ => lifted os started H enc)
end Go.Proofs.YtlpckbkmmocaaaaDoor.lawKdfDone
