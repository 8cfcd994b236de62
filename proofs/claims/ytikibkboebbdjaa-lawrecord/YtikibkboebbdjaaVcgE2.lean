/-
  What the statement lends, whatever of its lists is nothing.
-/
import Derived.Test.YtikibkboebbdjaaVcgE1
set_option linter.unusedSimpArgs false
set_option linter.unusedVariables false
namespace Go.Proofs.Ytikibkboebbdjaa
open Go.Vcg
theorem lend_at {s : AS} {nm t n : Nat} {v : AV} {rw : Bool} {f : Nat → Int} {cs : List SV} (hb : s.box t = some ⟨rw, cs⟩) (hp : cs.all SV.plain = true) (hv : ArgIs t v n f cs) (hn : n + 64 ≤ 140737488355328) {dst : Option Nat} {K : AS → Prop}
    (hk : ∀ c tail, n + 64 ≤ c → tail.length = c - (n + 64) → tail.all SV.plain = true → K ((⟨s.env, upd s.box nm (some ⟨true, rowI .u8 n f ++ (rowI .u8 64 (fun _ => 0) ++ tail)⟩), s.next⟩ : AS).put dst (some (lentV nm n c)))) : vcCall Try.prog nm 5 (some [v]) dst K s := by
  rcases hv with ⟨⟨a, rfl⟩, rfl⟩ | ⟨o, c, rfl, hs⟩
  · exact lent_call lend_n (fun n => n) fits0 rfl hk
  · exact lent_call (lend_s hs hp hn) (fun _ => t) (fits1 hb hp) rfl hk
theorem back_at {s : AS} {nm t u n c : Nat} {v : AV} {rw rw' : Bool} {f : Nat → Int} {tail cs : List SV} (hb : s.box u = some ⟨rw, rowI .u8 n f ++ (rowI .u8 64 (fun _ => 0) ++ tail)⟩) (ht : tail.all SV.plain = true) (hc : n + 64 ≤ c) (hb' : s.box t = some ⟨rw', cs⟩) (hp : cs.all SV.plain = true) (hv : ArgIs t v n f cs) (hn : n < 4611686018427387904) {dst : Option Nat} {K : AS → Prop}
    (hk : K (s.put dst (some (B true)))) : vcCall Try.prog nm 19 (some [lentV u n c, v]) dst K s := by
  rcases hv with ⟨⟨a, rfl⟩, rfl⟩ | ⟨o, c', rfl, hs⟩
  · exact (back_n hc ht).vcRead (fun _ => u) (fits1 hb (plainL ht)) rfl rfl hk
  · exact (back_s hc hn ht hs hp).vcRead (two u t) (fits2 hb (plainL ht) hb' hp) rfl rfl hk
theorem spl2 (a b : SV) : splice [Sum.inl (Value.slice none 0 0), Sum.inl (Value.int IntKind.i64 0)] 0 [a, b] = [a, b] := rfl
theorem list_call {s : AS} {nm t n c : Nat} {rw : Bool} {cs : List SV} (hn : n + 64 ≤ c) (hb : s.box t = some ⟨rw, cs⟩) (hp : cs.all SV.plain = true) {dst : Option Nat} {K : AS → Prop} (hk : K (s.put dst (some (Sl t 0 n c)))) :
    vcCall Try.prog nm 14 (some [lentV t n c]) dst K s := by
  refine (list_m hn hp).vcCall (fun _ => t) none (fits1 hb hp) rfl ?_
  rintro v out ⟨rfl, rfl⟩ _
  have e : after s (fun _ => t) 1 nm none (fun _ => none) = s.box := by funext x; simp [after]
  rw [e]
  exact hk
end Go.Proofs.Ytikibkboebbdjaa
