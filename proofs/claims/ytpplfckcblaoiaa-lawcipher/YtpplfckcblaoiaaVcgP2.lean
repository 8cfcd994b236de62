/-
  The statement on AES and counter mode, whole: the program's answers are the document's for every key, every counter and all data.
-/
import Derived.Test.YtpplfckcblaoiaaRows
import Derived.WalkKit
import Derived.ProofKit
import Derived.OpenShut
import Derived.ShutString
import Derived.ChangeOld
import Derived.Below
import Derived.SizedLaws
import Derived.Test.YtpplfckcblaoiaaVcgY5
set_option linter.unusedSimpArgs false
namespace Go.Proofs.Ytpplfckcblaoiaa.lawCipherDone
open Go.ChangeShapes Go.WideShapes Go.ChangeAt Go.RowKit
open Go.Vcg
set_option linter.unusedVariables false

theorem own : ownKnob Try.prog.godebug = none := by kernel_rfl
theorem laidOut : laidOutB Try.prog = true := by kernel_rfl
theorem cells5 : Try.prog.cellsOf 5 = 1 := by kernel_rfl
theorem bytes5 : Try.prog.bytesOf 5 = 1 := by kernel_rfl
theorem cells23 : Try.prog.cellsOf 23 = 32 := by kernel_rfl
theorem cells27 : Try.prog.cellsOf 27 = 16 := by kernel_rfl
/-- The bytes of 32 cells. -/
def bytesOf (cs : List Value) (i : Nat) : Int := match cs[i]? with
  | some (.int _ x) => x
  | _ => 0
theorem row_of (cs : List Value) (hl : cs.length = 32) (h : ∀ i, i < 32 → ∃ x, cs[i]? = some (.int .u8 x) ∧ 0 ≤ x ∧ x < 256) : By (bytesOf cs) ∧ (rowI .u8 32 (bytesOf cs)).map (SV.conc (fun _ => (0, 0))) = cs := by
  refine ⟨fun i => ?_, ?_⟩
  · by_cases hi : i < 32
    · obtain ⟨x, hx, h0, h1⟩ := h i hi
      simp only [bytesOf, hx]; exact ⟨h0, h1⟩
    · rw [bytesOf, List.getElem?_eq_none (by omega)]; simp
  · apply List.ext_getElem?
    intro i
    by_cases hi : i < 32
    · obtain ⟨x, hx, _⟩ := h i hi
      rw [List.getElem?_map, rowI_get .u8 32 _ i hi, hx]
      simp only [Option.map_some, SV.conc, bytesOf, hx]
    · rw [List.getElem?_eq_none (by rw [List.length_map, rowI_length]; omega), List.getElem?_eq_none (by omega)]
theorem open_key {H : Type} {enc : TypeId × Value → H} {W : World} {base : Nat} {v : Value} {d : DataW H} {p : List MemPlace}
    (hv : Value.okWide Try.prog W .any base 23 v) (h : DataW.Trod enc Try.prog W 0 (fun _ => true) true 23 v d p) : ∃ K, By K ∧ v = AV.val (Ag (rowI .u8 32 K)) := by
  obtain ⟨cs, rfl, hsz, _⟩ : ∃ cs, v = .agg cs ∧ cs.size = Try.prog.cellsOf 23 ∧ Row.okWide Try.prog W .any base 23 cs := by
    simpa [Value.okWide, Try.underlying23] using hv
  rw [cells23] at hsz
  obtain ⟨l⟩ := cs
  obtain ⟨fuel, hf⟩ := h
  obtain ⟨xs, m, rfl, hx, hlen, hxl, hel⟩ := DataW.trod_array Try.underlying23 hf
  have hl : l.length = 32 := by simpa using hsz
  have hrow : ∀ i, i < 32 → ∃ x, l[i]? = some (.int .u8 x) ∧ 0 ≤ x ∧ x < 256 := by
    intro i hi
    have he := hel i hi
    rw [cells5, Nat.mul_one] at he
    have hxi : i < xs.length := by omega
    rw [List.getElem?_eq_getElem hxi] at he
    obtain ⟨n, hc, _, hw⟩ := DataW.trod_int Try.underlying5 he
    have hb := bounds_u8 hw
    refine ⟨n, ?_, hb.1, by omega⟩
    have hc' : (l.drop i).take 1 = [.int .u8 n] := by simpa [Value.cells] using hc
    have : ((l.drop i).take 1)[0]? = some (.int .u8 n) := by rw [hc']; rfl
    rw [List.getElem?_take_of_lt (by decide), List.getElem?_drop] at this
    simpa using this
  obtain ⟨hb, he⟩ := row_of l hl hrow
  refine ⟨bytesOf l, hb, ?_⟩
  show Value.agg ⟨l⟩ = .agg ((rowI .u8 32 (bytesOf l)).map (SV.conc (fun _ => (0, 0)))).toArray
  rw [he]

theorem row_of16 (cs : List Value) (hl : cs.length = 16) (h : ∀ i, i < 16 → ∃ x, cs[i]? = some (.int .u8 x) ∧ 0 ≤ x ∧ x < 256) : By (bytesOf cs) ∧ (rowI .u8 16 (bytesOf cs)).map (SV.conc (fun _ => (0, 0))) = cs := by
  refine ⟨fun i => ?_, ?_⟩
  · by_cases hi : i < 16
    · obtain ⟨x, hx, h0, h1⟩ := h i hi
      simp only [bytesOf, hx]; exact ⟨h0, h1⟩
    · rw [bytesOf, List.getElem?_eq_none (by omega)]; simp
  · apply List.ext_getElem?
    intro i
    by_cases hi : i < 16
    · obtain ⟨x, hx, _⟩ := h i hi
      rw [List.getElem?_map, rowI_get .u8 16 _ i hi, hx]
      simp only [Option.map_some, SV.conc, bytesOf, hx]
    · rw [List.getElem?_eq_none (by rw [List.length_map, rowI_length]; omega), List.getElem?_eq_none (by omega)]
theorem open_blk {H : Type} {enc : TypeId × Value → H} {W : World} {base : Nat} {v : Value} {d : DataW H} {p : List MemPlace}
    (hv : Value.okWide Try.prog W .any base 27 v) (h : DataW.Trod enc Try.prog W 0 (fun _ => true) true 27 v d p) : ∃ K, By K ∧ v = AV.val (Ag (rowI .u8 16 K)) := by
  obtain ⟨cs, rfl, hsz, _⟩ : ∃ cs, v = .agg cs ∧ cs.size = Try.prog.cellsOf 27 ∧ Row.okWide Try.prog W .any base 27 cs := by
    simpa [Value.okWide, Try.underlying27] using hv
  rw [cells27] at hsz
  obtain ⟨l⟩ := cs
  obtain ⟨fuel, hf⟩ := h
  obtain ⟨xs, m, rfl, hx, hlen, hxl, hel⟩ := DataW.trod_array Try.underlying27 hf
  have hl : l.length = 16 := by simpa using hsz
  have hrow : ∀ i, i < 16 → ∃ x, l[i]? = some (.int .u8 x) ∧ 0 ≤ x ∧ x < 256 := by
    intro i hi
    have he := hel i hi
    rw [cells5, Nat.mul_one] at he
    have hxi : i < xs.length := by omega
    rw [List.getElem?_eq_getElem hxi] at he
    obtain ⟨n, hc, _, hw⟩ := DataW.trod_int Try.underlying5 he
    have hb := bounds_u8 hw
    refine ⟨n, ?_, hb.1, by omega⟩
    have hc' : (l.drop i).take 1 = [.int .u8 n] := by simpa [Value.cells] using hc
    have : ((l.drop i).take 1)[0]? = some (.int .u8 n) := by rw [hc']; rfl
    rw [List.getElem?_take_of_lt (by decide), List.getElem?_drop] at this
    simpa using this
  obtain ⟨hb, he⟩ := row_of16 l hl hrow
  refine ⟨bytesOf l, hb, ?_⟩
  show Value.agg ⟨l⟩ = .agg ((rowI .u8 16 (bytesOf l)).map (SV.conc (fun _ => (0, 0)))).toArray
  rw [he]


/-- The data: an empty slice, or one whose bytes stand in memory. -/
def IsData (w : World) (v : Value) (n : Nat) (f : Nat → Int) : Prop :=
  (∃ a, v = .slice a 0 0 ∧ n = 0) ∨ ∃ b o c, v = .slice (some ⟨b, o, none⟩) n c ∧ b < w.heap.size ∧ ∀ i, i < n → w.cell? ⟨b, o + i, none⟩ = some (.int .u8 (f i))
theorem law_all {n o c : Nat} {K J f : Nat → Int} {cs : List SV} (hK : Byt K) (hJ : Byt J) (hf : Byt f) (hs : Shows cs o n f) (hp : cs.all SV.plain = true) (hm : n + 64 ≤ 140737488355328) :
    MFun Try.prog 5 [Ag (rowI .u8 32 K), Ag (rowI .u8 16 J), Sl 0 o n c] 1 (lk [(0, ⟨false, cs⟩)]) (fun v out => v = B true ∧ out = fun _ => none) := by
  by_cases h : 1048576 < n
  · exact law_big hK hs hp h hm
  · by_cases h0 : n = 0
    · subst h0; exact law_0 hK hJ hf hp
    · exact law_s hK hJ hf hs hp (by omega) (by omega)

/-! ### STEP 1: the law returns true and writes nothing that was there -/
theorem walk (K J f : Nat → Int) (hK : By K) (hJ : By J) (hf : Byt f) (v : Value) (n : Nat) (hm : n + 64 ≤ 140737488355328) (w : World) (hv : IsData w v n f) :
    Calls Try.prog 5 #[AV.val (Ag (rowI .u8 32 K)), AV.val (Ag (rowI .u8 16 J)), v] w fun e w' => e = .returned (.bool true) ∧ Below w.heap.size w w' := by
  rcases hv with ⟨a, rfl, rfl⟩ | ⟨b, o, c, rfl, hb, hc⟩
  · refine ((law_n (a := a) hK hJ hf).call w (fun _ _ h => nomatch h)).mono ?_
    rintro e w' ⟨r, rfl, rfl, hk⟩
    exact ⟨rfl, hk.below⟩
  · have h := law_all (o := 0) (c := c) (cs := rowI .u8 n f) hK hJ hf shows_row0 plainI hm
    have hmem : MemRep (fun _ => (b, o)) (mem0 (lk [(0, ⟨false, rowI .u8 n f⟩)])) w := by
      refine ⟨fun t bx ht => hb, fun t bx ht i x hx => ?_, fun t bx ht hrw => ?_, fun t t' bx bx' ht hrw => ?_⟩
      · obtain ⟨rfl, rfl⟩ := lk1 ht
        by_cases hi : i < n
        · simp only [rowI_get .u8 n f i hi, Option.some.injEq] at hx; subst hx
          exact hc i hi
        · simp only [List.getElem?_eq_none (show (rowI .u8 n f).length ≤ i by rw [rowI_length]; omega)] at hx; cases hx
      · obtain ⟨rfl, rfl⟩ := lk1 ht; cases hrw
      · obtain ⟨rfl, rfl⟩ := lk1 ht; cases hrw
    refine (h.call (fun _ => False) (fun _ => (b, o)) w (fun _ _ h => nomatch h) (fun _ _ h => nomatch h) hmem (fun t bx ht hrw => by obtain ⟨rfl, rfl⟩ := lk1 ht; cases hrw)).mono ?_
    rintro e w' ⟨r, out, g', rfl, ⟨rfl, rfl⟩, _, _, _, _, _, hfr⟩
    exact ⟨rfl, Kept.below hfr⟩

set_option maxRecDepth 100000 in
theorem lifted (os : Os) (started : os.Started) (H : Type) (enc : TypeId × Value → H) :
    ReturnsInHanded {} Try.checked os 5 .any (Rows.lawCipherSpec.pre6 enc Try.prog Try.f5 Rows.lawCipherRow.domain false) (Rows.lawCipherSpec.post enc Try.prog Try.f5 false true false false) := by
  refine returnsInHanded_of_change_sized (C := Try.checked) own started (by kernel_rfl) Try.func5
    (ChangeSpec.witness6 (enc := enc) (C := Try.checked) false ⟨#[], #[.agg ((List.replicate 32 (Value.int .u8 0)).toArray), .agg ((List.replicate 16 (Value.int .u8 0)).toArray), .slice none 0 0], []⟩ 40 (by kernel_rfl) (by kernel_rfl) (by kernel_rfl) (by kernel_rfl)) ?_
  intro W base args ds gs before hval0 hW hcnd hsz0 _
  have hval : ∀ (j : Nat) t v, Try.f5.params[j]? = some t → args[j]? = some v → Value.okWide Try.prog W .any base t v := hval0
  have hW' := hW
  have hsz : (DataW.weightsEach Try.prog (Try.f5.params.toList ++ Rows.lawCipherSpec.plain.varTypes Try.prog) (ds ++ gs)).all (· ≤ reachBytes) = true := hsz0
  obtain ⟨p, q, hA0, hV, rfl, hfz, hnd⟩ := hW
  have hA : DataW.TrodAll enc Try.prog W 0 (fun _ => true) true Try.f5.params.toList args.toList ds p := hA0
  rw [Try.params5] at hA hval hsz
  obtain ⟨v0, vs0, d0, ds0, p0, q0, hargs, rfl, rfl, h0, r0⟩ := trodAll_cons hA
  obtain ⟨v1, vs1, d1, ds1, p1, q1, rfl, rfl, rfl, h1, r1⟩ := trodAll_cons r0
  obtain ⟨v2, vs2, d2, ds2, p2, q2, rfl, rfl, rfl, h2, r2⟩ := trodAll_cons r1
  obtain ⟨rfl, rfl, rfl⟩ := trodAll_nil r2
  obtain rfl : args = #[v0, v1, v2] := by cases args; simp_all
  obtain ⟨rfl, rfl⟩ := trodVars_none hV
  obtain ⟨K, hK, rfl⟩ := open_key (hval 0 23 v0 rfl rfl) h0
  obtain ⟨J, hJ, rfl⟩ := open_blk (hval 1 27 v1 rfl rfl) h1
  obtain ⟨a2, len2, cap2, rfl⟩ := okWide_slice Try.underlying28 (hval 2 28 v2 rfl rfl)
  have lt0 : ∀ x ∈ p0, x.block < W.heap.size := by obtain ⟨m, hm⟩ := h0; exact DataW.trod_lt m _ _ _ hm
  have lt1 : ∀ x ∈ p1, x.block < W.heap.size := by obtain ⟨m, hm⟩ := h1; exact DataW.trod_lt m _ _ _ hm
  have lt2 : ∀ x ∈ p2, x.block < W.heap.size := by obtain ⟨m, hm⟩ := h2; exact DataW.trod_lt m _ _ _ hm
  obtain ⟨f, hf, hlen, hdata⟩ : ∃ f, Byt f ∧ len2 + 64 ≤ 140737488355328 ∧ IsData W (.slice a2 len2 cap2) len2 f := by
    obtain ⟨fuel, hfu⟩ := h2
    rcases open_ints Try.underlying28 Try.underlying5 (by kernel_rfl) hfu with ⟨hcs, _⟩ | ⟨x, l, c, zs, hcs, _, hl, hm, hz, hd, hcell, hwz⟩
    · simp [Value.cells] at hcs
      obtain ⟨rfl, rfl, rfl⟩ := hcs
      exact ⟨fun _ => 0, fun _ => ⟨by simp, by simp⟩, by decide, .inl ⟨none, rfl, rfl⟩⟩
    · simp [Value.cells] at hcs
      obtain ⟨rfl, rfl, rfl⟩ := hcs
      simp only [if_true] at hz
      have hd2 : d2 = .slice (lits .u8 (zs.take len2)) (lits .u8 (zs.drop len2)) := by
        have := congrArg Prod.fst hd
        simpa using this
      subst hd2
      have hw := sized_slice hsz (j := 2) (t := 28) (e := 5) rfl rfl Try.underlying28
      rw [bytes5] at hw
      simp only [lits, List.length_map, List.length_take, List.length_drop, reachBytes] at hw
      have hb : ∀ i, 0 ≤ zs.getD i 0 ∧ zs.getD i 0 < 256 := fun i => by
        by_cases hi : i < zs.length
        · have hmz : zs.getD i 0 ∈ zs := by
            rw [List.getD_eq_getElem?_getD, List.getElem?_eq_getElem hi]; exact List.getElem_mem hi
          have := bounds_u8 (hwz _ hmz)
          exact ⟨this.1, by omega⟩
        · rw [List.getD_eq_getElem?_getD, List.getElem?_eq_none (by omega)]; decide
      refine ⟨fun i => zs.getD i 0, hb, by omega, ?_⟩
      by_cases hc0 : cap2 = 0
      · subst hc0
        obtain rfl : len2 = 0 := by omega
        exact .inl ⟨_, rfl, rfl⟩
      · obtain ⟨b, off, spot⟩ := x
        have hc := hcell 0 (by omega)
        have hspot : spot = none := by simpa [Addr.add] using World.cell?_spot hc
        subst hspot
        have hblk : b < W.heap.size := by
          rcases Nat.lt_or_ge b W.heap.size with h | h
          · exact h
          · exfalso
            have hn : W.heap[b]? = none := Array.getElem?_eq_none h
            rw [add_eq] at hc
            simp [World.cell?, hn] at hc
        refine .inr ⟨b, off, cap2, rfl, hblk, fun i hi => ?_⟩
        have := hcell i (by omega)
        rwa [add_eq] at this
  clear hA0 hval0
  refine (walk K J f hK hJ hf _ len2 hlen W hdata).mono fun e W' ⟨he, bel⟩ => ?_
  subst he
  exact ⟨_, rfl, _, _, _, [], _, [], hW', trodAll_mk1 (shut_bool Try.underlying4 _),
    (trodAll_cons_mk (Below.trod laidOut (by kernel_rfl) (of_decide_eq_true (by kernel_rfl)) h0 bel lt0) (trodAll_cons_mk (Below.trod laidOut (by kernel_rfl) (of_decide_eq_true (by kernel_rfl)) h1 bel lt1)
      (trodAll_cons_mk (Below.trod laidOut (by kernel_rfl) (of_decide_eq_true (by kernel_rfl)) h2 bel lt2) trodAll_mk0))), rfl, bel.frame _, fun h => by cases h⟩

theorem over : Rows.lawCipherRow.holds Try.pinned (OpenSpec.ofChange Rows.lawCipherSpec) :=
  OpenClaim.holds_of_wide 5 Try.f5 rfl rfl rfl rfl rfl rfl rfl ⟨rfl, rfl, rfl, rfl, rfl⟩ rfl rfl rfl rfl rfl (by kernel_rfl) Try.func5 (by kernel_rfl)
    (of_decide_eq_true (by kernel_rfl)) (by unfold Func.isWrapper; first | (rw [if_pos (by decide +kernel)]; kernel_rfl) | (rw [if_neg (by decide +kernel)]; exact ⟨rfl, rfl⟩))
    (fun os started H enc _ => lifted os started H enc)

/-- The statement. -/
theorem proved : Rows.LawCipherSaid := over
#print axioms proved
end Go.Proofs.Ytpplfckcblaoiaa.lawCipherDone
