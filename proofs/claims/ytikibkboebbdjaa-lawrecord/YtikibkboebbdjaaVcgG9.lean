/-
  Bytes held against each other by the library's function.
-/
import Derived.Test.YtikibkboebbdjaaVcgG8
import Derived.Laws.BytesArg
import Derived.Lib.Walk
import Derived.Lib.Bytes
set_option linter.unusedSimpArgs false
set_option linter.unusedVariables false
namespace Go.Proofs.Ytikibkboebbdjaa
open Go.Vcg
set_option maxHeartbeats 1000000 in
theorem bytesEqual_calls (v1 v2 : Value) (s1 s2 : ByteArray) (w : World) (h1 : (convert 28 9 v1).run Try.prog w = .ok (.string s1) w) (h2 : (convert 28 9 v2).run Try.prog w = .ok (.string s2) w) :
    Calls Try.prog 24 #[v1, v2] w fun e w' => e = .returned (.bool (s1.toList == s2.toList)) ∧ w' = w := by
  go_enter Try.func24, Try.ntmps24
  go_wp2
  go_ret
  exact ⟨rfl, rfl⟩
/-- Are n bytes the same? -/
def eqB (n : Nat) (f g : Nat → Int) : Bool := decide ((List.range n).map f = (List.range n).map g)
theorem eqB_iff {n : Nat} {f g : Nat → Int} : eqB n f g = true ↔ ∀ i, i < n → f i = g i := by
  unfold eqB
  rw [decide_eq_true_eq]
  constructor
  · intro h i hi
    have := congrArg (fun l : List Int => l[i]?) h
    simpa [List.getElem?_range hi] using this
  · intro h
    exact List.map_congr_left fun i hi => h i (List.mem_range.1 hi)
theorem bytes_eq {n : Nat} {f g : Nat → Int} (hf : Byt f) (hg : Byt g) : ((strOfNums ((List.range n).map f)).toList == (strOfNums ((List.range n).map g)).toList) = eqB n f g := by
  rw [Lib.strOfNums_toList, Lib.strOfNums_toList]
  rw [Bool.eq_iff_iff, eqB_iff, beq_iff_eq]
  constructor
  · intro h i hi
    have := congrArg (fun l : List UInt8 => l[i]?) h
    simp only [Lib.bytesOf, List.map_map, List.getElem?_map, List.getElem?_range hi, Option.map_some, Option.some.injEq, Function.comp] at this
    have h1 := hf i; have h2 := hg i
    have t := congrArg UInt8.toNat this
    simp only [UInt8.toNat_ofNat'] at t
    omega
  · intro h
    simp only [Lib.bytesOf, List.map_map]
    exact List.map_congr_left fun i hi => by simp only [Function.comp, h i (List.mem_range.1 hi)]
theorem conv_shows {g : Where} {w : World} {s : AS} {t o n c : Nat} {b : Box} {f : Nat → Int} (hm : MemRep g s w) (hb : s.box t = some b) (hs : Shows b.cells o n f) :
    (convert 28 9 (AV.conc g (Sl t o n c))).run Try.prog w = .ok (.string (strOfNums ((List.range n).map f))) w := by
  refine run_convert_bytes_arg (P := Try.prog) w 28 5 Try.underlying28 Try.underlying5 (g t).1 ((g t).2 + o) n c _ (by simp) (fun i hi => ?_) 9 Try.underlying9
  have := hm.cell t b hb (o + i) _ (hs i hi)
  rw [← Nat.add_assoc] at this
  rw [this]
  simp [SV.conc, List.getElem?_range hi]
theorem bytesEqual_ss {n o o' c c' : Nat} {f g : Nat → Int} {cs ds : List SV} (hf : Byt f) (hg : Byt g) (hs : Shows cs o n f) (hd : Shows ds o' n g) :
    MFun Try.prog 24 [Sl 0 o n c, Sl 1 o' n c'] 2 (lk [(0, ⟨false, cs⟩), (1, ⟨false, ds⟩)]) (fun v out => v = B (eqB n f g) ∧ out = fun _ => none) := by
  refine ⟨Try.callable24, all2, fun m b h => ?_, fun W gw w hl ht hm ho => ?_⟩
  · rcases lk2 h with ⟨rfl, rfl⟩ | ⟨rfl, rfl⟩ <;> omega
  · refine (bytesEqual_calls _ _ _ _ w (conv_shows hm (b := ⟨false, cs⟩) rfl hs) (conv_shows hm (b := ⟨false, ds⟩) rfl hd)).mono ?_
    rintro e w' ⟨rfl, rfl⟩
    refine ⟨B (eqB n f g), fun _ => none, gw, by rw [bytes_eq hf hg]; rfl, ⟨rfl, rfl⟩, fun _ _ => rfl, trivial, fun m b h => (by cases h), ⟨fun t b h => (by cases h), fun t b h => (by cases h), fun t b h => (by cases h), fun t t' b b' h => (by cases h)⟩, fun t b h => (by cases h), Frame.refl _ _⟩
theorem bytesEqual_ns {n o c : Nat} {g : Nat → Int} {ds : List SV} (hd : Shows ds o n g) (hn : 0 < n) :
    MFun Try.prog 24 [V (.slice none 0 0), Sl 0 o n c] 1 (lk [(0, ⟨false, ds⟩)]) (fun v out => v = B false ∧ out = fun _ => none) := by
  refine ⟨Try.callable24, all1, fun m b h => ?_, fun W gw w hl ht hm ho => ?_⟩
  · obtain ⟨rfl, rfl⟩ := lk1 h; omega
  · have c0 : (convert 28 9 (AV.conc gw (V (.slice none 0 0)))).run Try.prog w = .ok (.string ByteArray.empty) w := by
      show (convert 28 9 (.slice none 0 0)).run Try.prog w = _
      rw [run_convert_bytes_string w 28 9 5 none 0 0 Try.underlying28 Try.underlying5 Try.underlying9]
      simp [Conv.bytesToString]
    refine (bytesEqual_calls _ _ _ _ w c0 (conv_shows hm (b := ⟨false, ds⟩) rfl hd)).mono ?_
    rintro e w' ⟨rfl, rfl⟩
    have ne : (ByteArray.empty.toList == (strOfNums ((List.range n).map g)).toList) = false := by
      rw [Lib.strOfNums_toList]
      have : (Lib.bytesOf ((List.range n).map g)).length = n := by simp [Lib.bytesOf]
      rw [Bool.eq_false_iff]
      intro h
      have h2 := congrArg List.length (beq_iff_eq.1 h)
      rw [this] at h2
      have h3 : ByteArray.empty.toList.length = 0 := by rw [Lib.toList_data]; rfl
      omega
    exact ⟨B false, fun _ => none, gw, by rw [ne]; rfl, ⟨rfl, rfl⟩, fun _ _ => rfl, trivial, fun m b h => (by cases h), ⟨fun t b h => (by cases h), fun t b h => (by cases h), fun t b h => (by cases h), fun t t' b b' h => (by cases h)⟩, fun t b h => (by cases h), Frame.refl _ _⟩
end Go.Proofs.Ytikibkboebbdjaa
