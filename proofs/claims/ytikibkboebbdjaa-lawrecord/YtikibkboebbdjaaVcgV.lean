/-
  The calculus: a long row of code cut in parts: behind each part the state is brought to a written-out one, of which some facts are kept, and the rest is walked from there. Nothing here speaks of a program.
-/
import Derived.Test.YtikibkboebbdjaaVcgI
namespace Go.Vcg
set_option linter.unusedSectionVars false
set_option linter.unusedSimpArgs false
set_option linter.unusedVariables false
/-- What is left of a row of code behind its first n parts. -/
def tailC : Nat → Code → Code
  | 0, c => c
  | n + 1, .seq _ b => tailC n b
  | _ + 1, c => c
/-- The first n parts, and behind them a written-out state. -/
def vcCut (P : Program) [Tables P] (m : Nat) (Mid : AS → Prop) : Nat → Code → (Exit → AS → Prop) → AS → Prop
  | 0, _, _, s => ∃ s2, RefN m s s2 ∧ m ≤ s2.next ∧ Mid s2
  | n + 1, .seq a b, F, s => vcX P a (seqK (vcCut P m Mid n b F) F) s
  | _ + 1, _, _, _ => False
def vcL (P : Program) [Tables P] (m : Nat) : List Nat → Code → (Exit → AS → Prop) → AS → Prop
  | [], c, F, s => vcX P c F s
  | n :: r, c, F, s => ∃ Mid : AS → Prop, vcCut P m Mid n c F s ∧ ∀ s2, Mid s2 → vcL P m r (tailC n c) F s2
section
variable {P : Program} [Tables P] {W : Nat → Prop} {N : Nat} {w0 : Base P} {g : Where} {s : AS} {a : Act} {w : World}
theorem tailC_ok : ∀ (n : Nat) (c : Code), codeOk N c = true → codeOk N (tailC n c) = true
  | 0, c, h => h
  | n + 1, .seq a b, h => by
    simp only [codeOk, Bool.and_eq_true] at h
    exact tailC_ok n b h.2
  | n + 1, .skip, h => h
  | n + 1, .region .., h => h
  | n + 1, .cond .., h => h
  | n + 1, .block .., h => h
  | n + 1, .loop _, h => h
  | n + 1, .exit _, h => h
  | n + 1, .ret, h => h
  | n + 1, .rangeFunc .., h => h
  | n + 1, .scope _, h => h
  | n + 1, .label _, h => h
  | n + 1, .goto _, h => h
  | n + 1, .refuse _, h => h
/-- What the walk over a code shows. -/
def Sound (P : Program) [Tables P] (W : Nat → Prop) (N : Nat) (w0 : Base P) (c : Code) (F : Exit → AS → Prop) (s : AS) : Prop :=
  ∀ (g : Where) (a : Act) (w : World) (Q : Exit → Act → World → Prop), Rep W N w0 (fun n => n < s.next) g s a w →
    (∀ e g' s' a' w', Rep W N w0 (fun n => n < s'.next) g' s' a' w' → F e s' → Q e a' w') → c.wp P Q a w
theorem vcCut_sound {m : Nat} (hm : w0.pn ≤ m) {Mid : AS → Prop} : ∀ (n : Nat) (c : Code) (F : Exit → AS → Prop) (s : AS), codeOk N c = true → vcCut P m Mid n c F s → (∀ s2, Mid s2 → Sound P W N w0 (tailC n c) F s2) → Sound P W N w0 c F s
  | 0, c, F, s, hok, hv, ht, g, a, w, Q, h, hQ => by
    obtain ⟨s2, ⟨r, hr, hr0⟩, hn, hmid⟩ := hv
    exact ht s2 hmid _ a w Q (h.refines hr fun n hn' => ⟨hr0 n (by omega), by omega⟩) hQ
  | n + 1, .seq x y, F, s, hok, hv, ht, g, a, w, Q, h, hQ => by
    simp only [codeOk, Bool.and_eq_true] at hok
    refine wp_seq (vcX_sound x _ s hok.1 hv g a w _ h fun e g' s' a' w' h' hk => ?_)
    cases e with
    | normal => exact vcCut_sound hm n y F s' hok.2 hk ht g' a' w' Q h' hQ
    | _ => exact hQ _ _ _ _ _ h' hk
theorem vcL_sound {m : Nat} (hm : w0.pn ≤ m) : ∀ (cuts : List Nat) (c : Code) (F : Exit → AS → Prop) (s : AS), codeOk N c = true → vcL P m cuts c F s → Sound P W N w0 c F s
  | [], c, F, s, hok, hv => fun g a w Q h hQ => vcX_sound c F s hok hv g a w Q h hQ
  | n :: r, c, F, s, hok, hv => by
    obtain ⟨Mid, h1, h2⟩ := hv
    exact vcCut_sound hm n c F s hok h1 fun s2 hs => vcL_sound hm r _ F s2 (tailC_ok n c hok) (h2 s2 hs)
theorem calls_of_vcL {f : Nat} {fn : Func} {c : Code} (hf : P.funcs[f]? = some fn) (hb : fn.body = some c) (hok : codeOk fn.ntmps c = true) {args : List AV} {box : Nat → Option Box} {n : Nat} (cuts : List Nat)
    (hlen : args.length ≤ fn.ntmps) (hlaid : Laid P w) (htabs : ∀ b bx, Tables.row P b = some bx → ¬ W b) (hn : Names (fun k => k < n) (start args box n)) (hm : MemRep g (start args box n) w) (hown : ∀ t b, box t = some b → b.rw = true → W (g t).1)
    {Post : AV → AS → Prop} (hv : vcL P n cuts c (retK P fn.results.toList Post) (start args box n)) :
    Calls P f (args.map (AV.conc g)).toArray w fun e w' => ∃ v g' s', e = .returned (AV.conc g' v) ∧ Post v s' ∧ AV.ok (fun k => k < s'.next) v ∧ (∀ k, k < n → k < s'.next ∧ g' k = g k) ∧ MemRep g' s' w' ∧ Names (fun k => k < s'.next) s' ∧
      (∀ t b, s'.box t = some b → b.rw = true → w.heap.size ≤ (g' t).1 ∨ W (g' t).1) ∧ Frame W w w' := by
  refine calls_of_wp hf hb ?_
  refine vcL_sound (N := fn.ntmps) (W := W) (w0 := ⟨w, n, g, hlaid⟩) (m := n) (Nat.le_refl n) cuts c _ _ hok hv g _ w _ ⟨?_, rfl, ?_, hn, hm, fun t b hb hrw => Or.inr (hown t b hb hrw), Frame.refl _ _, fun k hk => ⟨hk, rfl⟩, htabs⟩ ?_
  · simp; omega
  · intro d v hd
    simp only [start] at hd
    have hlt : d < args.length := (List.getElem?_eq_some_iff.1 hd).1
    rw [Array.getElem?_append_left (by simpa using hlt)]
    simp [hd]
  · intro e g' s' a' w' h' hk
    have fin : retV (resAV (resAll P s' fn.results.toList)) Post s' → ∃ v, (results fn a'.tmps).run P w' = .ok (AV.conc g' v) w' ∧ Post v s' ∧ AV.ok (fun k => k < s'.next) v := fun hr => by
      unfold retV at hr
      split at hr
      · rename_i v hv
        obtain ⟨h1, h2⟩ := results_spec h' hv
        exact ⟨v, h1, hr, h2⟩
      · exact hr.elim
    cases e <;> simp only [retK] at hk
    · obtain ⟨v, h1, h2, h3⟩ := fin hk
      exact ⟨h'.defers, _, h1, v, g', s', rfl, h2, h3, h'.pin, h'.mem, h'.names, h'.own, h'.frame⟩
    · obtain ⟨v, h1, h2, h3⟩ := fin hk
      exact ⟨h'.defers, _, h1, v, g', s', rfl, h2, h3, h'.pin, h'.mem, h'.names, h'.own, h'.frame⟩
theorem mfun_of_vcL {f : Nat} {fn : Func} {c : Code} (hf : P.funcs[f]? = some fn) (hb : fn.body = some c) (hok : codeOk fn.ntmps c = true) (cuts : List Nat) {args : List AV} {k : Nat} {ins : Nat → Option Box}
    (hlen : args.length ≤ fn.ntmps) (hc : callable P f = true) (hargs : ∀ v ∈ args, AV.ok (fun n => n < k) v) (hall : ∀ n, n < k → ∃ b, ins n = some b) (hinn : ∀ n b, ins n = some b → n < k ∧ ∀ x ∈ b.cells, SV.ok (fun n => n < k) x)
    {Post : AV → (Nat → Option Box) → Prop} (hv : vcL P k cuts c (retK P fn.results.toList (Ret k Post)) (start args ins k)) : MFun P f args k ins Post := by
  refine ⟨hc, hall, fun n b hb => (hinn n b hb).1, fun W g w hlaid htabs hm hown => ?_⟩
  refine (calls_of_vcL (cuts := cuts) (W := W) (g := g) (w := w) hf hb hok hlen hlaid htabs ⟨fun d v hd => ?_, fun t b ht => hinn t b ht⟩ ⟨hm.lt, hm.cell, hm.free, hm.sep⟩ hown hv).mono ?_
  · simp only [start] at hd
    exact hargs v (List.mem_of_getElem? hd)
  · rintro e w' ⟨v, g', s', rfl, ⟨q, v0, out, hq, rfl, hv0, hout, hpost⟩, _, hpin, hmem, hnames, hown', hfr⟩
    have hr : ∀ n, n < k → rho k q n = n := fun n hn => by unfold rho; rw [if_neg (by omega)]
    have hinj : ∀ n n', n < k + 1 → n' < k + 1 → rho k q n = rho k q n' → n = n' := fun n n' h1 h2 e => by
      unfold rho at e
      split at e <;> split at e <;> omega
    refine ⟨v0, out, fun n => g' (rho k q n), by rw [AV.conc_ren], hpost, fun n hn => ?_, hv0, fun n b hb => ?_, ⟨fun t b hb => ?_, fun t b hb i v hv => ?_, fun t b hb hrw i hi => ?_, fun t t' b b' hb hrw hb' hne => ?_⟩, fun t b hb hrw => ?_, hfr⟩
    · show g' (rho k q n) = _
      rw [hr n hn]; exact (hpin n hn).2
    · obtain ⟨h1, h2, h3, _⟩ := hout n b hb
      exact ⟨h1, h2, h3⟩
    · obtain ⟨h1, _, _, b', h2, _⟩ := hout t b hb
      exact hmem.lt _ b' h2
    · obtain ⟨h1, _, _, b', h2, _, h4⟩ := hout t b hb
      have := hmem.cell _ b' h2 i (SV.ren (rho k q) v) (by rw [h4]; simp [hv])
      rw [this, SV.conc_ren]
    · obtain ⟨h1, _, _, b', h2, h3, h4⟩ := hout t b hb
      exact hmem.free _ b' h2 (h3 hrw) i (by rw [h4]; simpa using hi)
    · obtain ⟨h1, _, _, c1, h2, h3, _⟩ := hout t b hb
      obtain ⟨h1', _, _, c2, h2', _, _⟩ := hout t' b' hb'
      exact hmem.sep _ _ c1 c2 h2 (h3 hrw) h2' (fun e => hne (hinj _ _ h1 h1' e))
    · obtain ⟨h1, _, _, b', h2, h3, _⟩ := hout t b hb
      exact hown' _ b' h2 (h3 hrw)


end
/-- How a state is brought to the written-out one. -/
theorem brings_g {s : AS} {m next : Nat} {env : List (Nat × AV)} {box : List (Nat × Box)} (r : Nat → Nat) (hm : ∀ n, n < m → r n = n) (he : ∀ x ∈ env, s.env x.1 = some (AV.ren r x.2) ∧ AV.ok (fun n => n < next) x.2)
    (hb : ∀ x ∈ box, (∃ b', s.box (r x.1) = some b' ∧ (x.2.rw = true → b'.rw = true) ∧ b'.cells = x.2.cells.map (SV.ren r)) ∧ x.1 < next ∧ ∀ y ∈ x.2.cells, SV.ok (fun n => n < next) y)
    (hi : ∀ x ∈ box, x.2.rw = true → ∀ y ∈ box, r x.1 = r y.1 → x.1 = y.1) : RefN m s (mkS env box next) := by
  refine ⟨r, ⟨fun d v hv => (he _ (lk_mem _ _ _ hv)).1, fun n b hn => (hb _ (lk_mem _ _ _ hn)).1, fun n n' b b' hn hrw hn' e => hi _ (lk_mem _ _ _ hn) hrw _ (lk_mem _ _ _ hn') e, fun d v hv => (he _ (lk_mem _ _ _ hv)).2, fun t b ht => ?_⟩, hm⟩
  have := hb _ (lk_mem _ _ _ ht)
  exact ⟨this.2.1, this.2.2⟩
theorem brings_1 {s : AS} {m next p q : Nat} {env : List (Nat × AV)} {box : List (Nat × Box)} (hmp : m ≤ p) (hne : p = q ∨ ∀ x ∈ box, x.1 ≠ q) (he : ∀ x ∈ env, s.env x.1 = some (AV.ren (upd (fun n => n) p q) x.2) ∧ AV.ok (fun n => n < next) x.2)
    (hb : ∀ x ∈ box, (∃ b', s.box (upd (fun n => n) p q x.1) = some b' ∧ (x.2.rw = true → b'.rw = true) ∧ b'.cells = x.2.cells.map (SV.ren (upd (fun n => n) p q))) ∧ x.1 < next ∧ ∀ y ∈ x.2.cells, SV.ok (fun n => n < next) y) : RefN m s (mkS env box next) := by
  refine brings_g _ (fun n hn => upd_ne _ _ _ _ (by omega)) he hb fun x hx _ y hy e => ?_
  rcases hne with rfl | hne
  · simp only [upd] at e
    split at e <;> split at e <;> omega
  have h1 := hne x hx
  have h2 := hne y hy
  simp only [upd] at e
  split at e <;> split at e <;> omega
theorem brings_0 {s : AS} {m next : Nat} {env : List (Nat × AV)} {box : List (Nat × Box)} (he : ∀ x ∈ env, s.env x.1 = some (AV.ren (fun n => n) x.2) ∧ AV.ok (fun n => n < next) x.2)
    (hb : ∀ x ∈ box, (∃ b', s.box x.1 = some b' ∧ (x.2.rw = true → b'.rw = true) ∧ b'.cells = x.2.cells.map (SV.ren (fun n => n))) ∧ x.1 < next ∧ ∀ y ∈ x.2.cells, SV.ok (fun n => n < next) y) : RefN m s (mkS env box next) :=
  brings_g _ (fun n hn => rfl) he hb fun x hx _ y hy e => e
theorem ArgIs.ren {t n : Nat} {v : AV} {f : Nat → Int} {cs : List SV} (h : ArgIs t v n f cs) {r : Nat → Nat} (hr : r t = t) : AV.ren r v = v := by
  rcases h with ⟨⟨a, rfl⟩, h0⟩ | ⟨o, c, rfl, hs⟩
  · rfl
  · rw [ren_s, hr]
theorem ArgIs.svRen {t n : Nat} {sv : SV} {f : Nat → Int} {cs : List SV} (h : ArgIs t (.inl (.inl sv)) n f cs) {r : Nat → Nat} (hr : r t = t) : SV.ren r sv = sv := by
  rcases h with ⟨⟨a, e⟩, h0⟩ | ⟨o, c, e, hs⟩
  · cases e; rfl
  · cases e; simp only [SV.ren, hr]
section
variable {P : Program} [Tables P] {s : AS} {m : Nat} {Mid : AS → Prop}
theorem vcCut_zero {c : Code} {F : Exit → AS → Prop} : vcCut P m Mid 0 c F s = ∃ s2, RefN m s s2 ∧ m ≤ s2.next ∧ Mid s2 := rfl
theorem vcCut_succ {n : Nat} {a b : Code} {F : Exit → AS → Prop} : vcCut P m Mid (n + 1) (.seq a b) F s = vcX P a (seqK (vcCut P m Mid n b F) F) s := rfl
theorem vcL_nil {c : Code} {F : Exit → AS → Prop} : vcL P m [] c F s = vcX P c F s := rfl
theorem tailC_zero {c : Code} : tailC 0 c = c := rfl
theorem tailC_succ {n : Nat} {a b : Code} : tailC (n + 1) (.seq a b) = tailC n b := rfl
end
theorem rulesL : type_of% @vcCut_succ ∧ type_of% @vcL_nil ∧ type_of% @tailC_zero ∧ type_of% @tailC_succ := ⟨@vcCut_succ, @vcL_nil, @tailC_zero, @tailC_succ⟩
end Go.Vcg
