/-
  The calculus: rows drawn in any order within loops; loops over any set of written-out states; entries appended. Nothing here speaks of a program's code.
-/
import Derived.Test.YtikibkboebbdjaaVcgBr
namespace Go.Vcg
set_option linter.unusedSectionVars false
set_option linter.unusedSimpArgs false
set_option linter.unusedVariables false
section
variable {P : Program} [Tables P] {W : Nat → Prop} {N : Nat} {w0 : Base P} {g : Where} {s : AS} {a : Act} {w : World}
def vcY (P : Program) [Tables P] : Code → (Exit → AS → Prop) → AS → Prop
  | .seq a b, F, s => vcY P a (seqK (vcY P b F) F) s
  | .cond c a b, F, s => vcIf (s.opnd c) (vcY P a F) (vcY P b F) s
  | .block id c, F, s => vcY P c (blockK id F) s
  | .loop c, F, s => vcLoop (vcY P c) F s
  | c, F, s => vcX P c F s
theorem vcY_sound : ∀ (c : Code) (F : Exit → AS → Prop) (s : AS), codeOk N c = true → vcY P c F s → Sound P W N w0 c F s
  | .seq x y, F, s, hok, hv, g, a, w, Q, h, hQ => by
    simp only [codeOk, Bool.and_eq_true] at hok
    simp only [vcY] at hv
    refine wp_seq (vcY_sound x _ s hok.1 hv g a w _ h fun e g' s' a' w' h' hk => ?_)
    cases e with
    | normal => exact vcY_sound y F s' hok.2 hk g' a' w' Q h' hQ
    | _ => exact hQ _ _ _ _ _ h' hk
  | .cond c x y, F, s, hok, hv, g, a, w, Q, h, hQ => by
    simp only [codeOk, Bool.and_eq_true] at hok
    simp only [vcY, vcIf] at hv
    split at hv
    · rename_i b hb
      refine wp_cond_split (t := b) (by rw [h.eval hb]; rfl) (fun ht => ?_) (fun hf => ?_)
      · exact vcY_sound x F s hok.1 (hv.1 ht) g a w Q h hQ
      · exact vcY_sound y F s hok.2 (hv.2 hf) g a w Q h hQ
    · exact hv.elim
  | .block id c, F, s, hok, hv, g, a, w, Q, h, hQ => by
    simp only [codeOk] at hok
    simp only [vcY] at hv
    refine wp_block (vcY_sound c _ s hok hv g a w _ h fun e g' s' a' w' h' hk => ?_)
    cases e with
    | exit id' =>
      simp only [blockK] at hk
      simp only [Exit.inBlock]
      split
      · rename_i e; rw [if_pos e] at hk; exact hQ _ _ _ _ _ h' hk
      · rename_i e; rw [if_neg e] at hk; exact hQ _ _ _ _ _ h' hk
    | _ => exact hQ _ _ _ _ _ h' hk
  | .loop c, F, s, hok, hv, g, a, w, Q, h, hQ => by
    simp only [codeOk] at hok
    simp only [vcY] at hv
    obtain ⟨ι, st, μ, i₀, ⟨r, hr, hid⟩, hnx, hbody⟩ := hv
    have hpn : ∀ (r : Nat → Nat), (∀ n, n < s.next → r n = n) → ∀ i n, n < w0.pn → r n = n ∧ n < (st i).next := fun r hid i n hn => ⟨hid n (h.pin n hn).1, Nat.lt_of_lt_of_le (h.pin n hn).1 (hnx i)⟩
    let p : Act → World → Nat → Prop := fun a w n => ∃ i g, μ i = n ∧ Rep W N w0 (fun n => n < (st i).next) g (st i) a w
    have hmin : ∀ a w, (∃ n, p a w n) → ∃ n, p a w n ∧ ∀ k, p a w k → n ≤ k := fun a w hx => exists_least _ hx
    have hm : ∃ m : Act → World → Nat, ∀ a w, (∃ n, p a w n) → p a w (m a w) ∧ ∀ k, p a w k → m a w ≤ k := by
      refine ⟨fun a w => Classical.epsilon (fun n => p a w n ∧ ∀ k, p a w k → n ≤ k), fun a w hx => ?_⟩
      exact Classical.epsilon_spec (hmin a w hx)
    obtain ⟨m, hm⟩ := hm
    refine wp_loop (fun a w => ∃ n, p a w n) m ⟨_, i₀, _, rfl, h.refines hr (hpn r hid i₀)⟩ (fun a1 w1 hI => ?_)
    obtain ⟨⟨i, g1, hmu, h1⟩, hleast⟩ := hm a1 w1 hI
    refine vcY_sound c _ (st i) hok (hbody i) g1 a1 w1 _ h1 fun e g' s' a' w' h' hk => ?_
    cases e with
    | normal =>
      obtain ⟨j, hlt, r', hr', hid'⟩ := hk
      have hp : p a' w' (μ j) := ⟨j, _, rfl, h'.refines hr' (hpn r' hid' j)⟩
      refine ⟨⟨_, hp⟩, ?_⟩
      have := (hm a' w' ⟨_, hp⟩).2 _ hp
      omega
    | _ => exact hQ _ _ _ _ _ h' hk
  | .skip, F, s, hok, hv, g, a, w, Q, h, hQ => vcX_sound _ F s hok hv g a w Q h hQ
  | .region id ops b, F, s, hok, hv, g, a, w, Q, h, hQ => vcX_sound _ F s hok hv g a w Q h hQ
  | .exit id, F, s, hok, hv, g, a, w, Q, h, hQ => vcX_sound _ F s hok hv g a w Q h hQ
  | .ret, F, s, hok, hv, g, a, w, Q, h, hQ => vcX_sound _ F s hok hv g a w Q h hQ
  | .rangeFunc .., F, s, hok, hv, g, a, w, Q, h, hQ => vcX_sound _ F s hok hv g a w Q h hQ
  | .scope _, F, s, hok, hv, g, a, w, Q, h, hQ => vcX_sound _ F s hok hv g a w Q h hQ
  | .label _, F, s, hok, hv, g, a, w, Q, h, hQ => vcX_sound _ F s hok hv g a w Q h hQ
  | .goto _, F, s, hok, hv, g, a, w, Q, h, hQ => vcX_sound _ F s hok hv g a w Q h hQ
  | .refuse _, F, s, hok, hv, g, a, w, Q, h, hQ => vcX_sound _ F s hok hv g a w Q h hQ
/-! ### One walk says no more than another -/
theorem vcAt_mono {ops : Array Oper} {nm i : Nat} {K K' : AS → Prop} (h : ∀ s, K s → K' s) (hv : vcAt P ops nm i K s) : vcAt P ops nm i K' s := by
  unfold vcAt at hv ⊢
  split at hv
  · exact vcOp_mono h hv
  · exact hv
theorem vcT_mono {ops : Array Oper} {base : Nat} {K K' : AS → Prop} (h : ∀ s, K s → K' s) : ∀ (t : Ords) (k : Nat) (s : AS), vcT P ops base K t k s → vcT P ops base K' t k s
  | .nil, k, s, hv => h _ hv
  | .cons i t .nil, k, s, hv => vcAt_mono (fun s hs => vcT_mono h t (k + 1) s hs) hv
  | .cons i t (.cons j u r), k, s, hv => ⟨vcAt_mono (fun s hs => vcT_mono h t (k + 1) s hs) hv.1, vcT_mono h (.cons j u r) k s hv.2⟩
theorem vcX_mono : ∀ (c : Code) (F F' : Exit → AS → Prop), (∀ e s, F e s → F' e s) → ∀ s, vcX P c F s → vcX P c F' s
  | .region id ops true, F, F', h, s, hv => by
    simp only [vcX] at hv ⊢
    rcases hv with hv | ⟨hm, t, ht, hv⟩
    · exact .inl (vc_mono _ _ _ h s hv)
    · exact .inr ⟨hm, t, ht, vcT_mono (h _) t 0 s hv⟩
  | .seq x y, F, F', h, s, hv => vcX_mono x _ _ (fun e s hs => by
      cases e with
      | normal => exact vcX_mono y _ _ h s hs
      | _ => exact h _ _ hs) s hv
  | .cond c x y, F, F', h, s, hv => by
    simp only [vcX, vcIf] at hv ⊢
    split at hv
    · exact ⟨fun ht => vcX_mono x _ _ h s (hv.1 ht), fun hf => vcX_mono y _ _ h s (hv.2 hf)⟩
    · exact hv
  | .block id c, F, F', h, s, hv => vcX_mono c _ _ (fun e s hs => by
      cases e with
      | exit id' =>
        simp only [blockK] at hs ⊢
        split
        · rename_i e; rw [if_pos e] at hs; exact h _ _ hs
        · rename_i e; rw [if_neg e] at hs; exact h _ _ hs
      | _ => exact h _ _ hs) s hv
  | .skip, F, F', h, s, hv => vc_mono _ _ _ h s hv
  | .region id ops false, F, F', h, s, hv => vc_mono _ _ _ h s hv
  | .loop c, F, F', h, s, hv => vc_mono (.loop c) _ _ h s hv
  | .exit id, F, F', h, s, hv => vc_mono (.exit id) _ _ h s hv
  | .ret, F, F', h, s, hv => vc_mono .ret _ _ h s hv
  | .rangeFunc .., _, _, _, _, hv => hv.elim
  | .scope _, _, _, _, _, hv => hv.elim
  | .label _, _, _, _, _, hv => hv.elim
  | .goto _, _, _, _, _, hv => hv.elim
  | .refuse _, _, _, _, _, hv => hv.elim
theorem vcY_mono : ∀ (c : Code) (F F' : Exit → AS → Prop), (∀ e s, F e s → F' e s) → ∀ s, vcY P c F s → vcY P c F' s
  | .seq x y, F, F', h, s, hv => vcY_mono x _ _ (fun e s hs => by
      cases e with
      | normal => exact vcY_mono y _ _ h s hs
      | _ => exact h _ _ hs) s hv
  | .cond c x y, F, F', h, s, hv => by
    simp only [vcY, vcIf] at hv ⊢
    split at hv
    · exact ⟨fun ht => vcY_mono x _ _ h s (hv.1 ht), fun hf => vcY_mono y _ _ h s (hv.2 hf)⟩
    · exact hv
  | .block id c, F, F', h, s, hv => vcY_mono c _ _ (fun e s hs => by
      cases e with
      | exit id' =>
        simp only [blockK] at hs ⊢
        split
        · rename_i e; rw [if_pos e] at hs; exact h _ _ hs
        · rename_i e; rw [if_neg e] at hs; exact h _ _ hs
      | _ => exact h _ _ hs) s hv
  | .loop c, F, F', h, s, hv => by
    obtain ⟨ι, st, μ, i₀, h0, hnx, hb⟩ := hv
    refine ⟨ι, st, μ, i₀, h0, hnx, fun i => vcY_mono c _ _ (fun e s hs => ?_) _ (hb i)⟩
    cases e with
    | normal => exact hs
    | _ => exact h _ _ hs
  | .skip, F, F', h, s, hv => vcX_mono .skip _ _ h s hv
  | .region id ops b, F, F', h, s, hv => vcX_mono (.region id ops b) _ _ h s hv
  | .exit id, F, F', h, s, hv => vcX_mono (.exit id) _ _ h s hv
  | .ret, F, F', h, s, hv => vcX_mono .ret _ _ h s hv
  | .rangeFunc .., _, _, _, _, hv => hv.elim
  | .scope _, _, _, _, _, hv => hv.elim
  | .label _, _, _, _, _, hv => hv.elim
  | .goto _, _, _, _, _, hv => hv.elim
  | .refuse _, _, _, _, _, hv => hv.elim
/-! ### Loops over any set of written-out states -/
theorem loop_body {body : (Exit → AS → Prop) → AS → Prop} {F : Exit → AS → Prop} (hmono : ∀ (K K' : AS → Prop) t, (∀ s, K s → K' s) → body (seqK K F) t → body (seqK K' F) t) (n : Nat) (Inv : Nat → AS → Prop) (hnext : ∀ k t, Inv k t → s.next ≤ t.next)
    (h0 : ∃ t, Inv 0 t ∧ RefN s.next s t) (hstep : ∀ k t, k < n → Inv k t → body (seqK (fun s' => ∃ t', Inv (k + 1) t' ∧ RefN s.next s' t') F) t) (hend : ∀ t, Inv n t → body (seqK (fun _ => False) F) t) : vcLoop body F s := by
  obtain ⟨t0, hi0, hr0⟩ := h0
  refine ⟨{ y : Nat × AS // y.1 ≤ n ∧ Inv y.1 y.2 }, fun y => y.1.2, fun y => n - y.1.1, ⟨(0, t0), Nat.zero_le _, hi0⟩, hr0, fun y => hnext _ _ y.2.2, fun y => ?_⟩
  obtain ⟨⟨k, t⟩, h1, h2⟩ := y
  rcases Nat.lt_or_ge k n with h | h
  · refine hmono _ _ _ (fun s' hs => ?_) (hstep k t h h2)
    obtain ⟨t', hi, hr⟩ := hs
    exact ⟨⟨(k + 1, t'), h, hi⟩, by show n - (k + 1) < n - k; omega, hr⟩
  · have e : k = n := Nat.le_antisymm h1 h
    subst e
    exact hmono (fun _ => False) _ _ (fun s' hs => False.elim hs) (hend t h2)
theorem loop_p {c : Code} {F : Exit → AS → Prop} (n : Nat) (Inv : Nat → AS → Prop) (hnext : ∀ k t, Inv k t → s.next ≤ t.next)
    (h0 : ∃ t, Inv 0 t ∧ RefN s.next s t) (hstep : ∀ k t, k < n → Inv k t → vc P c (seqK (fun s' => ∃ t', Inv (k + 1) t' ∧ RefN s.next s' t') F) t) (hend : ∀ t, Inv n t → vc P c (seqK (fun _ => False) F) t) : vcLoop (vc P c) F s :=
  loop_body (fun K K' t h hv => vc_mono c _ _ (fun e s hs => by
    cases e with
    | normal => exact h s hs
    | _ => exact hs) t hv) n Inv hnext h0 hstep hend
theorem loop_y {c : Code} {F : Exit → AS → Prop} (n : Nat) (Inv : Nat → AS → Prop) (hnext : ∀ k t, Inv k t → s.next ≤ t.next)
    (h0 : ∃ t, Inv 0 t ∧ RefN s.next s t) (hstep : ∀ k t, k < n → Inv k t → vcY P c (seqK (fun s' => ∃ t', Inv (k + 1) t' ∧ RefN s.next s' t') F) t) (hend : ∀ t, Inv n t → vcY P c (seqK (fun _ => False) F) t) : vcLoop (vcY P c) F s :=
  loop_body (fun K K' t h hv => vcY_mono c _ _ (fun e s hs => by
    cases e with
    | normal => exact h s hs
    | _ => exact hs) t hv) n Inv hnext h0 hstep hend
/-! ### The way in -/
def vcLY (P : Program) [Tables P] (m : Nat) : List Nat → Code → (Exit → AS → Prop) → AS → Prop
  | [], c, F, s => vcY P c F s
  | n :: r, c, F, s => ∃ Mid : AS → Prop, vcCut P m Mid n c F s ∧ ∀ s2, Mid s2 → vcLY P m r (tailC n c) F s2
theorem vcLY_sound {m : Nat} (hm : w0.pn ≤ m) : ∀ (cuts : List Nat) (c : Code) (F : Exit → AS → Prop) (s : AS), codeOk N c = true → vcLY P m cuts c F s → Sound P W N w0 c F s
  | [], c, F, s, hok, hv => vcY_sound c F s hok hv
  | n :: r, c, F, s, hok, hv => by
    obtain ⟨Mid, h1, h2⟩ := hv
    exact vcCut_sound hm n c F s hok h1 fun s2 hs => vcLY_sound hm r _ F s2 (tailC_ok n c hok) (h2 s2 hs)
theorem calls_of_sound {f : Nat} {fn : Func} {c : Code} (hf : P.funcs[f]? = some fn) (hb : fn.body = some c) {args : List AV} {box : Nat → Option Box} {n : Nat}
    (hlen : args.length ≤ fn.ntmps) (hlaid : Laid P w) (htabs : ∀ b bx, Tables.row P b = some bx → ¬ W b) (hn : Names (fun k => k < n) (start args box n)) (hm : MemRep g (start args box n) w) (hown : ∀ t b, box t = some b → b.rw = true → W (g t).1)
    {Post : AV → AS → Prop} (hv : ∀ (w0 : Base P), w0.pn ≤ n → Sound P W fn.ntmps w0 c (retK P fn.results.toList Post) (start args box n)) :
    Calls P f (args.map (AV.conc g)).toArray w fun e w' => ∃ v g' s', e = .returned (AV.conc g' v) ∧ Post v s' ∧ AV.ok (fun k => k < s'.next) v ∧ (∀ k, k < n → k < s'.next ∧ g' k = g k) ∧ MemRep g' s' w' ∧ Names (fun k => k < s'.next) s' ∧
      (∀ t b, s'.box t = some b → b.rw = true → w.heap.size ≤ (g' t).1 ∨ W (g' t).1) ∧ Frame W w w' := by
  refine calls_of_wp hf hb ?_
  refine hv ⟨w, n, g, hlaid⟩ (Nat.le_refl n) g _ w _ ⟨?_, rfl, ?_, hn, hm, fun t b hb hrw => Or.inr (hown t b hb hrw), Frame.refl _ _, fun k hk => ⟨hk, rfl⟩, htabs⟩ ?_
  · simp; omega
  · intro d v hd
    simp only [start] at hd
    have hlt : d < args.length := (List.getElem?_eq_some_iff.1 hd).1
    rw [Array.getElem?_append_left (by simpa using hlt)]
    simp [hd]
  · intro e g' s' a' w' h' hk
    have fin : retV (resAV (resAll P s' fn.results.toList)) Post s' → ∃ v, (results fn a'.tmps).run P w' = .ok (AV.conc g' v) w' ∧ Post v s' ∧ AV.ok (fun k => k < s'.next) v := fun hr => by
      unfold retV at hr
      split at hr
      · rename_i v hv
        obtain ⟨h1, h2⟩ := results_spec h' hv
        exact ⟨v, h1, hr, h2⟩
      · exact hr.elim
    cases e <;> simp only [retK] at hk
    · obtain ⟨v, h1, h2, h3⟩ := fin hk
      exact ⟨h'.defers, _, h1, v, g', s', rfl, h2, h3, h'.pin, h'.mem, h'.names, h'.own, h'.frame⟩
    · obtain ⟨v, h1, h2, h3⟩ := fin hk
      exact ⟨h'.defers, _, h1, v, g', s', rfl, h2, h3, h'.pin, h'.mem, h'.names, h'.own, h'.frame⟩
theorem mfun_of_sound {f : Nat} {fn : Func} {c : Code} (hf : P.funcs[f]? = some fn) (hb : fn.body = some c) {args : List AV} {k : Nat} {ins : Nat → Option Box}
    (hlen : args.length ≤ fn.ntmps) (hc : callable P f = true) (hargs : ∀ v ∈ args, AV.ok (fun n => n < k) v) (hall : ∀ n, n < k → ∃ b, ins n = some b) (hinn : ∀ n b, ins n = some b → n < k ∧ ∀ x ∈ b.cells, SV.ok (fun n => n < k) x)
    {Post : AV → (Nat → Option Box) → Prop} (hv : ∀ (W : Nat → Prop) (w0 : Base P), w0.pn ≤ k → Sound P W fn.ntmps w0 c (retK P fn.results.toList (Ret k Post)) (start args ins k)) : MFun P f args k ins Post := by
  refine ⟨hc, hall, fun n b hb => (hinn n b hb).1, fun W g w hlaid htabs hm hown => ?_⟩
  refine (calls_of_sound (W := W) (g := g) (w := w) hf hb hlen hlaid htabs ⟨fun d v hd => ?_, fun t b ht => hinn t b ht⟩ ⟨hm.lt, hm.cell, hm.free, hm.sep⟩ hown (hv W)).mono ?_
  · simp only [start] at hd
    exact hargs v (List.mem_of_getElem? hd)
  · rintro e w' ⟨v, g', s', rfl, ⟨q, v0, out, hq, rfl, hv0, hout, hpost⟩, _, hpin, hmem, hnames, hown', hfr⟩
    have hr : ∀ n, n < k → rho k q n = n := fun n hn => by unfold rho; rw [if_neg (by omega)]
    have hinj : ∀ n n', n < k + 1 → n' < k + 1 → rho k q n = rho k q n' → n = n' := fun n n' h1 h2 e => by
      unfold rho at e
      split at e <;> split at e <;> omega
    refine ⟨v0, out, fun n => g' (rho k q n), by rw [AV.conc_ren], hpost, fun n hn => ?_, hv0, fun n b hb => ?_, ⟨fun t b hb => ?_, fun t b hb i v hv => ?_, fun t b hb hrw i hi => ?_, fun t t' b b' hb hrw hb' hne => ?_⟩, fun t b hb hrw => ?_, hfr⟩
    · show g' (rho k q n) = _
      rw [hr n hn]; exact (hpin n hn).2
    · obtain ⟨h1, h2, h3, _⟩ := hout n b hb
      exact ⟨h1, h2, h3⟩
    · obtain ⟨h1, _, _, b', h2, _⟩ := hout t b hb
      exact hmem.lt _ b' h2
    · obtain ⟨h1, _, _, b', h2, _, h4⟩ := hout t b hb
      have := hmem.cell _ b' h2 i (SV.ren (rho k q) v) (by rw [h4]; simp [hv])
      rw [this, SV.conc_ren]
    · obtain ⟨h1, _, _, b', h2, h3, h4⟩ := hout t b hb
      exact hmem.free _ b' h2 (h3 hrw) i (by rw [h4]; simpa using hi)
    · obtain ⟨h1, _, _, c1, h2, h3, _⟩ := hout t b hb
      obtain ⟨h1', _, _, c2, h2', _, _⟩ := hout t' b' hb'
      exact hmem.sep _ _ c1 c2 h2 (h3 hrw) h2' (fun e => hne (hinj _ _ h1 h1' e))
    · obtain ⟨h1, _, _, b', h2, h3, _⟩ := hout t b hb
      exact hown' _ b' h2 (h3 hrw)
theorem mfun_of_vcLY {f : Nat} {fn : Func} {c : Code} (hf : P.funcs[f]? = some fn) (hb : fn.body = some c) (hok : codeOk fn.ntmps c = true) (cuts : List Nat) {args : List AV} {k : Nat} {ins : Nat → Option Box}
    (hlen : args.length ≤ fn.ntmps) (hc : callable P f = true) (hargs : ∀ v ∈ args, AV.ok (fun n => n < k) v) (hall : ∀ n, n < k → ∃ b, ins n = some b) (hinn : ∀ n b, ins n = some b → n < k ∧ ∀ x ∈ b.cells, SV.ok (fun n => n < k) x)
    {Post : AV → (Nat → Option Box) → Prop} (hv : vcLY P k cuts c (retK P fn.results.toList (Ret k Post)) (start args ins k)) : MFun P f args k ins Post :=
  mfun_of_sound hf hb hlen hc hargs hall hinn fun W w0 hp => vcLY_sound hp cuts c _ _ hok hv
theorem vcY_seq {a b : Code} {F : Exit → AS → Prop} : vcY P (.seq a b) F s = vcY P a (seqK (vcY P b F) F) s := rfl
theorem vcY_cond {c : Operand} {a b : Code} {F : Exit → AS → Prop} : vcY P (.cond c a b) F s = vcIf (s.opnd c) (vcY P a F) (vcY P b F) s := rfl
theorem vcY_block {id : Nat} {c : Code} {F : Exit → AS → Prop} : vcY P (.block id c) F s = vcY P c (blockK id F) s := rfl
theorem vcY_loop {c : Code} {F : Exit → AS → Prop} : vcY P (.loop c) F s = vcLoop (vcY P c) F s := rfl
theorem vcY_region {id : Nat} {ops : Array Oper} {b : Bool} {F : Exit → AS → Prop} : vcY P (.region id ops b) F s = vcX P (.region id ops b) F s := rfl
theorem vcY_skip {F : Exit → AS → Prop} : vcY P .skip F s = vc P .skip F s := rfl
theorem vcY_ret {F : Exit → AS → Prop} : vcY P .ret F s = vc P .ret F s := rfl
theorem vcY_exit {id : Nat} {F : Exit → AS → Prop} : vcY P (.exit id) F s = vc P (.exit id) F s := rfl
theorem vcLY_nil {m : Nat} {c : Code} {F : Exit → AS → Prop} : vcLY P m [] c F s = vcY P c F s := rfl
end
theorem rulesY : type_of% @vcY_seq ∧ type_of% @vcY_cond ∧ type_of% @vcY_block ∧ type_of% @vcY_loop ∧ type_of% @vcY_region ∧ type_of% @vcY_skip ∧ type_of% @vcY_ret ∧ type_of% @vcY_exit ∧ type_of% @vcLY_nil :=
  ⟨@vcY_seq, @vcY_cond, @vcY_block, @vcY_loop, @vcY_region, @vcY_skip, @vcY_ret, @vcY_exit, @vcLY_nil⟩
/-! ### Entries appended -/
structure GrowsE (cs : List SV) (o n c : Nat) (f : Nat → En) : Prop where
  len : cs.length = o + c * 66
  room : n ≤ c
  plain : cs.all SV.plain = true
  shows : ShowsE cs o n f
theorem GrowsE.row {n c : Nat} {f : Nat → En} {tail : List SV} (hc : n ≤ c) (hl : tail.length = (c - n) * 66) (hp : tail.all SV.plain = true) : GrowsE (rowE n f ++ tail) 0 n c f :=
  ⟨by rw [List.length_append, rowE_len, hl, ← Nat.add_mul]; congr 1; omega, hc, by rw [List.all_append, rowE_plain, hp]; rfl, showsE_row⟩
theorem showsE_src {cs : List SV} {o n : Nat} {f : Nat → En} (h : ShowsE cs o n f) : ∀ j u, (rowE n f)[j]? = some u → cs[o + j]? = some u := fun j u hj => by
  rw [← showsE_take h] at hj
  rw [List.getElem?_take] at hj
  split at hj
  · rwa [List.getElem?_drop] at hj
  · cases hj
theorem rowE_join {n m : Nat} {f g : Nat → En} : rowE n f ++ rowE m g = rowE (n + m) (fun i => if i < n then f i else g (i - n)) := by
  induction m with
  | zero => rw [rowE, List.append_nil, Nat.add_zero]; exact rowE_congr fun i hi => by rw [if_pos hi]
  | succ m ih => rw [rowE, ← List.append_assoc, ih, ← Nat.add_assoc, rowE, if_neg (by omega), show n + m - n = m by omega]
section
variable {P : Program} [Tables P]
def skZ : List Value := List.replicate 2 (Value.int IntKind.u32 0) ++ List.replicate 64 (Value.int IntKind.u8 0)
theorem skZ_ok : skZ.all Value.oneCell' = true := by decide
/-- Entries appended to nothing. -/
theorem append_en {t tx by' : Nat} (hk : mkK P t = some (skZ, 66, by')) (hx : slK P tx = some (none, 66)) {s : AS} {nm u o m c : Nat} {g : Nat → En} {rw : Bool} {cs : List SV} (hb : s.box u = some ⟨rw, cs⟩) (hs : ShowsE cs o m g) (hm : 0 < m) (hby : m * by' ≤ 140737488355328) (h63 : m ≤ 9223372036854775807) {ty : TypeId} {ct : Array Bool} {dst : Option Nat} {K : AS → Prop}
    (hK : ∀ c' cs', GrowsE cs' 0 m c' g → K ((⟨s.env, upd s.box nm (some ⟨true, cs'⟩), s.next⟩ : AS).put dst (some (Sl nm 0 m c')))) :
    vcBuiltin P nm .append #[t, tx] ty ct (some [V (.slice none 0 0), Sl u o m c]) dst K s := by
  refine vc_append_nil (news := rowE m g) (sz := 66) hk hx rfl (by decide) skZ_ok (.inl ⟨u, o, c, _, rfl, hb, rowE_len, showsE_src hs, by simp⟩) h63 hby (fun h => absurd h (by omega)) (fun _ c' tail h1 h2 h3 => hK c' _ (GrowsE.row h1 h2 h3))
/-- Entries appended to a slice of its own box. -/
theorem append_e {t tx by' : Nat} (hk : mkK P t = some (skZ, 66, by')) (hx : slK P tx = some (none, 66)) {s : AS} {nm b u o o' n c m c0 : Nat} {f g : Nat → En} {rw : Bool} {cs ds : List SV} (hb : s.box b = some ⟨true, cs⟩) (hg : GrowsE cs o n c f) (hb' : s.box u = some ⟨rw, ds⟩) (hne : b ≠ u) (hs : ShowsE ds o' m g)
    (hby : (n + m) * by' ≤ 140737488355328) (h63 : n + m ≤ 9223372036854775807) {ty : TypeId} {ct : Array Bool} {dst : Option Nat} {K : AS → Prop}
    (hK : ∀ c' cs', GrowsE cs' 0 (n + m) c' (fun i => if i < n then f i else g (i - n)) → K ((⟨s.env, upd (upd s.box b none) nm (some ⟨true, cs'⟩), s.next⟩ : AS).put dst (some (Sl nm 0 (n + m) c')))) :
    vcBuiltin P nm .append #[t, tx] ty ct (some [Sl b o n c, Sl u o' m c0]) dst K s := by
  refine vc_append (olds := rowE n f) (news := rowE m g) (sz := 66) hk hx rfl (by decide) skZ_ok hb hg.len hg.room rowE_len (showsE_src hg.shows) hg.plain (.inl ⟨u, o', c0, _, rfl, hb', rowE_len, showsE_src hs, by simpa using hne⟩) h63 hby (fun c' tail h1 h2 h3 => ?_)
  rw [rowE_join]
  exact hK c' _ (GrowsE.row h1 h2 h3)
/-- Nothing appended to a slice of its own box. -/
theorem append_e0 {t tx by' : Nat} (hk : mkK P t = some (skZ, 66, by')) (hx : slK P tx = some (none, 66)) {s : AS} {nm b o n c : Nat} {f : Nat → En} {ad : Option Addr} {cs : List SV} (hb : s.box b = some ⟨true, cs⟩) (hg : GrowsE cs o n c f)
    (hby : n * by' ≤ 140737488355328) (h63 : n ≤ 9223372036854775807) {ty : TypeId} {ct : Array Bool} {dst : Option Nat} {K : AS → Prop}
    (hK : ∀ c' cs', GrowsE cs' 0 n c' f → K ((⟨s.env, upd (upd s.box b none) nm (some ⟨true, cs'⟩), s.next⟩ : AS).put dst (some (Sl nm 0 n c')))) :
    vcBuiltin P nm .append #[t, tx] ty ct (some [Sl b o n c, V (.slice ad 0 0)]) dst K s := by
  refine vc_append (m := 0) (olds := rowE n f) (news := []) (sz := 66) hk hx rfl (by decide) skZ_ok hb hg.len hg.room rowE_len (showsE_src hg.shows) hg.plain (.inr ⟨⟨ad, rfl⟩, rfl, rfl⟩) (by omega) (by omega) (fun c' tail h1 h2 h3 => ?_)
  rw [List.append_nil]
  exact hK c' _ (GrowsE.row h1 h2 h3)
end
end Go.Vcg
