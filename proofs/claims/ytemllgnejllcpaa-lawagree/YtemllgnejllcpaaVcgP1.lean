/-
  The statement on two parties, whole: for every two secrets both come to one shared secret, and it is not zero.
-/
import Derived.Test.YtemllgnejllcpaaRows
import Derived.WalkKit
import Derived.ProofKit
import Derived.OpenShut
import Derived.ShutString
import Derived.ChangeOld
import Derived.Below
import Derived.Test.YtemllgnejllcpaaVcgB2
set_option linter.unusedSimpArgs false
namespace Go.Proofs.Ytemllgnejllcpaa.lawAgreeDone
open Go.ChangeShapes Go.WideShapes Go.ChangeAt Go.RowKit
open Go.Vcg
set_option linter.unusedVariables false

theorem own : ownKnob Try.prog.godebug = none := by kernel_rfl
theorem laidOut : laidOutB Try.prog = true := by kernel_rfl
theorem cells5 : Try.prog.cellsOf 5 = 1 := by kernel_rfl
theorem cells23 : Try.prog.cellsOf 23 = 32 := by kernel_rfl
/-- The bytes of 32 cells. -/
def bytesOf (cs : List Value) (i : Nat) : Int := match cs[i]? with
  | some (.int _ x) => x
  | _ => 0
theorem row_of (cs : List Value) (hl : cs.length = 32) (h : ∀ i, i < 32 → ∃ x, cs[i]? = some (.int .u8 x) ∧ 0 ≤ x ∧ x < 256) : By (bytesOf cs) ∧ (rowI .u8 32 (bytesOf cs)).map (SV.conc (fun _ => (0, 0))) = cs := by
  refine ⟨fun i => ?_, ?_⟩
  · by_cases hi : i < 32
    · obtain ⟨x, hx, h0, h1⟩ := h i hi
      simp only [bytesOf, hx]; exact ⟨h0, h1⟩
    · rw [bytesOf, List.getElem?_eq_none (by omega)]; simp
  · apply List.ext_getElem?
    intro i
    by_cases hi : i < 32
    · obtain ⟨x, hx, _⟩ := h i hi
      rw [List.getElem?_map, rowI_get .u8 32 _ i hi, hx]
      simp only [Option.map_some, SV.conc, bytesOf, hx]
    · rw [List.getElem?_eq_none (by rw [List.length_map, rowI_length]; omega), List.getElem?_eq_none (by omega)]
theorem open_key {H : Type} {enc : TypeId × Value → H} {W : World} {base : Nat} {v : Value} {d : DataW H} {p : List MemPlace}
    (hv : Value.okWide Try.prog W .any base 23 v) (h : DataW.Trod enc Try.prog W 0 (fun _ => true) true 23 v d p) : ∃ K, By K ∧ v = AV.val (Ag (rowI .u8 32 K)) := by
  obtain ⟨cs, rfl, hsz, _⟩ : ∃ cs, v = .agg cs ∧ cs.size = Try.prog.cellsOf 23 ∧ Row.okWide Try.prog W .any base 23 cs := by
    simpa [Value.okWide, Try.underlying23] using hv
  rw [cells23] at hsz
  obtain ⟨l⟩ := cs
  obtain ⟨fuel, hf⟩ := h
  obtain ⟨xs, m, rfl, hx, hlen, hxl, hel⟩ := DataW.trod_array Try.underlying23 hf
  have hl : l.length = 32 := by simpa using hsz
  have hrow : ∀ i, i < 32 → ∃ x, l[i]? = some (.int .u8 x) ∧ 0 ≤ x ∧ x < 256 := by
    intro i hi
    have he := hel i hi
    rw [cells5, Nat.mul_one] at he
    have hxi : i < xs.length := by omega
    rw [List.getElem?_eq_getElem hxi] at he
    obtain ⟨n, hc, _, hw⟩ := DataW.trod_int Try.underlying5 he
    have hb := bounds_u8 hw
    refine ⟨n, ?_, hb.1, by omega⟩
    have hc' : (l.drop i).take 1 = [.int .u8 n] := by simpa [Value.cells] using hc
    have : ((l.drop i).take 1)[0]? = some (.int .u8 n) := by rw [hc']; rfl
    rw [List.getElem?_take_of_lt (by decide), List.getElem?_drop] at this
    simpa using this
  obtain ⟨hb, he⟩ := row_of l hl hrow
  refine ⟨bytesOf l, hb, ?_⟩
  show Value.agg ⟨l⟩ = .agg ((rowI .u8 32 (bytesOf l)).map (SV.conc (fun _ => (0, 0)))).toArray
  rw [he]

/-! ### STEP 1: the law returns true and writes nothing that was there -/
theorem walk (K U : Nat → Int) (hK : By K) (hU : By U) (w : World) :
    Calls Try.prog 3 #[AV.val (Ag (rowI .u8 32 K)), AV.val (Ag (rowI .u8 32 U))] w fun e w' => e = .returned (.bool true) ∧ Below w.heap.size w w' := by
  refine ((law_fun K U hK hU).call w (fun _ _ h => nomatch h)).mono ?_
  rintro e w' ⟨r, rfl, rfl, hk⟩
  exact ⟨rfl, hk.below⟩

set_option maxRecDepth 100000 in
theorem lifted (os : Os) (started : os.Started) (H : Type) (enc : TypeId × Value → H) :
    ReturnsInHanded {} Try.checked os 3 .any (Rows.lawAgreeSpec.pre6 enc Try.prog Try.f3 Rows.lawAgreeRow.domain false) (Rows.lawAgreeSpec.post enc Try.prog Try.f3 false true false false) := by
  refine returnsInHanded_of_change (C := Try.checked) own started (by kernel_rfl) Try.func3
    (ChangeSpec.witness6 (enc := enc) (C := Try.checked) false ⟨#[], #[.agg ((List.replicate 32 (Value.int .u8 0)).toArray), .agg ((List.replicate 32 (Value.int .u8 0)).toArray)], []⟩ 40 (by kernel_rfl) (by kernel_rfl) (by kernel_rfl) (by kernel_rfl)) ?_
  intro W base args ds gs before hval0 hW hcnd _
  have hval : ∀ (j : Nat) t v, Try.f3.params[j]? = some t → args[j]? = some v → Value.okWide Try.prog W .any base t v := hval0
  have hW' := hW
  obtain ⟨p, q, hA0, hV, rfl, hfz, hnd⟩ := hW
  have hA : DataW.TrodAll enc Try.prog W 0 (fun _ => true) true Try.f3.params.toList args.toList ds p := hA0
  rw [Try.params3] at hA hval
  obtain ⟨v0, vs0, d0, ds0, p0, q0, hargs, rfl, rfl, h0, r0⟩ := trodAll_cons hA
  obtain ⟨v1, vs1, d1, ds1, p1, q1, rfl, rfl, rfl, h1, r1⟩ := trodAll_cons r0
  obtain ⟨rfl, rfl, rfl⟩ := trodAll_nil r1
  obtain rfl : args = #[v0, v1] := by cases args; simp_all
  obtain ⟨rfl, rfl⟩ := trodVars_none hV
  obtain ⟨K, hK, rfl⟩ := open_key (hval 0 23 v0 rfl rfl) h0
  obtain ⟨U, hU, rfl⟩ := open_key (hval 1 23 v1 rfl rfl) h1
  have lt0 : ∀ x ∈ p0, x.block < W.heap.size := by obtain ⟨m, hm⟩ := h0; exact DataW.trod_lt m _ _ _ hm
  have lt1 : ∀ x ∈ p1, x.block < W.heap.size := by obtain ⟨m, hm⟩ := h1; exact DataW.trod_lt m _ _ _ hm
  clear hA0 hval0
  refine (walk K U hK hU W).mono fun e W' ⟨he, bel⟩ => ?_
  subst he
  exact ⟨_, rfl, _, _, _, [], _, [], hW', trodAll_mk1 (shut_bool Try.underlying4 _),
    (trodAll_cons_mk (Below.trod laidOut (by kernel_rfl) (of_decide_eq_true (by kernel_rfl)) h0 bel lt0) (trodAll_cons_mk (Below.trod laidOut (by kernel_rfl) (of_decide_eq_true (by kernel_rfl)) h1 bel lt1) trodAll_mk0)), rfl, bel.frame _, fun h => by cases h⟩

theorem over : Rows.lawAgreeRow.holds Try.pinned (OpenSpec.ofChange Rows.lawAgreeSpec) :=
  OpenClaim.holds_of_wide 3 Try.f3 rfl rfl rfl rfl rfl rfl rfl ⟨rfl, rfl, rfl, rfl, rfl⟩ rfl rfl rfl rfl rfl (by kernel_rfl) Try.func3 (by kernel_rfl)
    (of_decide_eq_true (by kernel_rfl)) (by unfold Func.isWrapper; first | (rw [if_pos (by decide +kernel)]; kernel_rfl) | (rw [if_neg (by decide +kernel)]; exact ⟨rfl, rfl⟩))
    (fun os started H enc _ => lifted os started H enc)

/-- The statement. -/
theorem proved : Rows.LawAgreeSaid := over
#print axioms proved
end Go.Proofs.Ytemllgnejllcpaa.lawAgreeDone
