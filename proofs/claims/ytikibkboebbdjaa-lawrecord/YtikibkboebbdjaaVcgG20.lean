/-
  The statement's function on states, whatever is nothing.
-/
import Derived.Test.YtikibkboebbdjaaVcgG19
set_option linter.unusedSimpArgs false
set_option linter.unusedVariables false
namespace Go.Proofs.Ytikibkboebbdjaa
open Go.Vcg
theorem rest_m {s : St} {n L : Nat} {f : Nat → En} {raw : Nat → Int} {vr : AV} {cs ds : List SV} (hp : cs.all SV.plain = true) (hq : ds.all SV.plain = true) (hv : StoreIs 0 s.store n f cs) (hr : ArgIs 1 vr L raw ds)
    (hs : StOk s) (hf : ∀ i, EnOk (f i)) (hraw : Byt raw) (hn : (n + 2) * 72 ≤ 140737488355328) (hL : L + 64 ≤ 140737488355328) (hcap : ∀ o c, vr = Sl 1 o L c → L ≤ c) (k : Nat) (hk : k ≤ 2) :
    vcL Try.prog k [6] restC (retK Try.prog Try.f3.results.toList (Ret k (fun v out => v = B true ∧ out = fun _ => none))) (st0 s cs ds vr) := by
  refine ⟨_, first_m hp hq hv hr hs hf hraw hn hL k hk, fun s2 h => ?_⟩
  obtain ⟨c1, c2, es, tail2, vb, lb, hg1, g1, g3, hB, rfl⟩ := h
  exact second_m hp hq hv hr hraw hn hL hcap hg1 g1 g3 hB k
set_option maxHeartbeats 8000000 in
set_option maxRecDepth 20000 in
theorem law_v {s : St} {n L k : Nat} {f : Nat → En} {raw : Nat → Int} {sv' : SV} {vr vr' : AV} {cs ds : List SV} {ins : Nat → Option Box} (hk : k ≤ 2) (r : Nat → Nat) (hr0 : ∀ j, j < k → r j = j) (hall : ∀ n, n < k → ∃ b, ins n = some b) (hinn : ∀ n b, ins n = some b → n < k ∧ ∀ x ∈ b.cells, SV.ok (fun n => n < k) x)
    (hsv : SV.ren r s.store = sv') (hvr : AV.ren r vr = vr') (h2 : r 2 = k) (ok1 : SV.ok (fun n => n < k) sv') (ok2 : AV.ok (fun n => n < k) vr')
    (h0 : ∃ b', upd ins k (some ⟨true, stL { s with store := sv' }⟩) (r 0) = some b' ∧ b'.cells = cs) (h1 : ∃ b', upd ins k (some ⟨true, stL { s with store := sv' }⟩) (r 1) = some b' ∧ b'.cells = ds)
    (hp : cs.all SV.plain = true) (hq : ds.all SV.plain = true) (hv : StoreIs 0 s.store n f cs) (hr : ArgIs 1 vr L raw ds)
    (hs : StOk s) (hf : ∀ i, EnOk (f i)) (hraw : Byt raw) (hn : (n + 2) * 72 ≤ 140737488355328) (hL : L + 64 ≤ 140737488355328) (hcap : ∀ o c, vr = Sl 1 o L c → L ≤ c) :
    MFun Try.prog 3 [Ag (stL { s with store := sv' }), vr'] k ins (fun v out => v = B true ∧ out = fun _ => none) := by
  refine mfun_of_vcL Try.func3 rfl (by kernel_rfl) [1, 6] (by simp [Try.ntmps3]) Try.callable3 (fun u hu => by
    simp only [List.mem_cons, List.not_mem_nil, or_false] at hu
    rcases hu with rfl | rfl
    · exact stL_ok ok1
    · exact ok2) hall hinn ?_
  refine ⟨fun s2 => s2 = st0 s cs ds vr, ?_, fun s2 h => ?_⟩
  · simp only [Try.results3, rulesS, rulesX, rulesL, sn_upto, sn_from, slN_def, run_cap, rules, rules2, loopRules, Try.facts, base0, Int.toNat_zero, Nat.reduceAdd, Nat.reduceMul, Nat.reduceSub, Nat.reduceLT, Nat.reduceLeDiff, Nat.reduceEqDiff, Int.reduceLE, Int.reduceLT, Int.reduceToNat, Int.reduceNe, Int.reduceEq, not_false_eq_true, Nat.reduceBEq, Nat.reduceDiv, Int.natCast_zero, Int.natCast_one, Int.reduceAdd, Int.reduceSub, reduceIte, ↓reduceIte, Value.oneCell', rowI_length, rowI_take, rowI_splice, rep_all, row_zero, le_nat, Int.toNat_natCast, Nat.zero_add, sok_row, reduceCtorEq]
    refine ⟨_, ?_, ?_, rfl⟩
    · refine brings_g r hr0 ?_ ?_ (fun x hx hrw => ?_)
      · intro x hx
        simp only [List.mem_cons, List.not_mem_nil, or_false] at hx
        rcases hx with rfl | rfl
        · exact ⟨by rw [hvr]; rfl, hr.ok (by decide)⟩
        · exact ⟨by rw [ren_p, h2]; rfl, show (2 : Nat) < 4 by decide⟩
      · intro x hx
        simp only [List.mem_cons, List.not_mem_nil, or_false] at hx
        rcases hx with rfl | rfl | rfl
        · obtain ⟨b', e1, e2⟩ := h0
          exact ⟨⟨b', e1, fun h => (by cases h), by rw [e2]; exact (ren_all hp _).symm⟩, show (0 : Nat) < 4 by decide, ok_all hp⟩
        · obtain ⟨b', e1, e2⟩ := h1
          exact ⟨⟨b', e1, fun h => (by cases h), by rw [e2]; exact (ren_all hq _).symm⟩, show (1 : Nat) < 4 by decide, ok_all hq⟩
        · exact ⟨⟨⟨true, stL { s with store := sv' }⟩, by show upd ins k _ (r 2) = _; rw [h2]; exact upd_same _ _ _, fun h => (by cases h), by rw [stL_ren, hsv]⟩, show (2 : Nat) < 4 by decide, stL_ok (hv.ok (by decide))⟩
      · simp only [List.mem_cons, List.not_mem_nil, or_false] at hx
        rcases hx with rfl | rfl | rfl <;> cases hrw
    · show k ≤ 4; omega
  · subst h
    exact rest_m hp hq hv hr hs hf hraw hn hL hcap k hk
section
variable {s : St} {n L : Nat} {f : Nat → En} {raw : Nat → Int} (hs : StOk s) (hf : ∀ i, EnOk (f i)) (hraw : Byt raw)
include hs hf hraw
theorem law_ss {o c o' c' : Nat} {cs ds : List SV} (hp : cs.all SV.plain = true) (hq : ds.all SV.plain = true) (hsh : ShowsE cs o n f) (hc0 : n ≤ c) (hs' : Shows ds o' L raw) (hn : (n + 2) * 72 ≤ 140737488355328) (hL : L + 64 ≤ 140737488355328) (hc : L ≤ c') :
    MFun Try.prog 3 [Ag (stL { s with store := .inr (.inr (0, o, n, c)) }), Sl 1 o' L c'] 2 (lk [(0, ⟨false, cs⟩), (1, ⟨false, ds⟩)]) (fun v out => v = B true ∧ out = fun _ => none) :=
  law_v (s := { s with store := .inr (.inr (0, o, n, c)) }) (sv' := .inr (.inr (0, o, n, c))) (Nat.le_refl 2) (fun n => n) (fun _ _ => rfl) all2 (inn2 hp hq) (vr := Sl 1 o' L c') rfl rfl rfl ⟨show (0 : Nat) < 2 by decide, rfl⟩ (show (1 : Nat) < 2 by decide) ⟨_, rfl, rfl⟩ ⟨_, rfl, rfl⟩ hp hq (.inr ⟨o, c, rfl, hc0, hsh⟩) (.inr ⟨o', c', rfl, hs'⟩) (hs.ws _) hf hraw hn hL (fun o2 c2 e => by cases e; exact hc)
theorem law_sn {o c : Nat} {a : Option Addr} {cs : List SV} (hp : cs.all SV.plain = true) (hsh : ShowsE cs o n f) (hc0 : n ≤ c) (hn : (n + 2) * 72 ≤ 140737488355328) :
    MFun Try.prog 3 [Ag (stL { s with store := .inr (.inr (0, o, n, c)) }), V (.slice a 0 0)] 1 (lk [(0, ⟨false, cs⟩)]) (fun v out => v = B true ∧ out = fun _ => none) :=
  law_v (s := { s with store := .inr (.inr (0, o, n, c)) }) (sv' := .inr (.inr (0, o, n, c))) (L := 0) (by decide) (fun n => if n = 2 then 1 else 0) (fun j hj => by show (if j = 2 then 1 else 0) = j; rw [if_neg (by omega)]; omega) all1 (inn1 hp) (vr := V (.slice a 0 0)) rfl rfl rfl ⟨show (0 : Nat) < 1 by decide, rfl⟩ trivial ⟨_, rfl, rfl⟩ ⟨_, rfl, rfl⟩ hp hp (.inr ⟨o, c, rfl, hc0, hsh⟩) (.inl ⟨⟨a, rfl⟩, rfl⟩) (hs.ws _) hf hraw hn (by decide) (fun o2 c2 e => by cases e)
theorem law_ns {o c : Nat} {a : Option Addr} {ds : List SV} (hp : ds.all SV.plain = true) (hs' : Shows ds o L raw) (hL : L + 64 ≤ 140737488355328) (hc : L ≤ c) :
    MFun Try.prog 3 [Ag (stL { s with store := .inl (.slice a 0 0) }), Sl 0 o L c] 1 (lk [(0, ⟨false, ds⟩)]) (fun v out => v = B true ∧ out = fun _ => none) :=
  law_v (s := { s with store := .inl (.slice a 0 0) }) (sv' := .inl (.slice a 0 0)) (n := 0) (by decide) (fun n => if n = 2 then 1 else 0) (fun j hj => by show (if j = 2 then 1 else 0) = j; rw [if_neg (by omega)]; omega) all1 (inn1 hp) (vr := Sl 1 o L c) rfl rfl rfl ⟨trivial, rfl⟩ (show (0 : Nat) < 1 by decide) ⟨_, rfl, rfl⟩ ⟨_, rfl, rfl⟩ hp hp (.inl ⟨⟨a, rfl⟩, rfl⟩) (.inr ⟨o, c, rfl, hs'⟩) (hs.ws _) hf hraw (by decide) hL (fun o2 c2 e => by cases e; exact hc)
theorem law_nn {a a' : Option Addr} :
    MFun Try.prog 3 [Ag (stL { s with store := .inl (.slice a 0 0) }), V (.slice a' 0 0)] 0 (fun _ => none) (fun v out => v = B true ∧ out = fun _ => none) :=
  law_v (s := { s with store := .inl (.slice a 0 0) }) (sv' := .inl (.slice a 0 0)) (n := 0) (L := 0) (by decide) (fun _ => 0) (fun j hj => by omega) all0 inn0 (vr := V (.slice a' 0 0)) rfl rfl rfl ⟨trivial, rfl⟩ trivial ⟨_, rfl, rfl⟩ ⟨_, rfl, rfl⟩ (stL_plain rfl) (stL_plain rfl) (.inl ⟨⟨a, rfl⟩, rfl⟩) (.inl ⟨⟨a', rfl⟩, rfl⟩) (hs.ws _) hf hraw (by decide) (by decide) (fun o2 c2 e => by cases e)
end
end Go.Proofs.Ytikibkboebbdjaa
