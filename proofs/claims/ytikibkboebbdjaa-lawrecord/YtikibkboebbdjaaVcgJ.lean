/-
  The calculus: a region whose order Go leaves open, walked in each of its orders (a tree of them), for regions where what comes in another order is not independent by the region's text alone. Nothing here speaks of a program.
-/
import Derived.Test.YtikibkboebbdjaaVcgK
namespace Go.Vcg
set_option linter.unusedSectionVars false
set_option linter.unusedSimpArgs false
set_option linter.unusedVariables false

/-- The orders of a region: at each place the operations that may come next, and what follows each. -/
inductive Ords where
  | nil : Ords
  | cons (i : Nat) (next : Ords) (rest : Ords) : Ords

def Ords.heads : Ords → List Nat
  | .nil => []
  | .cons i _ r => i :: r.heads
/-- A place's list is right: all that may come next, and nothing where nothing is left. -/
def Ords.here (ops : Array Oper) (fuel : Nat) (listed : Array Bool) (t : Ords) : Bool :=
  (t.heads == Region.ready .any ops listed) && (fuel != 0 || (Region.ready .any ops listed).isEmpty)
def Ords.all (ops : Array Oper) : Nat → Array Bool → Ords → Bool
  | _, _, .nil => true
  | fuel, listed, .cons i t r => (match fuel with
    | 0 => false
    | f + 1 => Ords.here ops f (listed.setIfInBounds i true) t && Ords.all ops f (listed.setIfInBounds i true) t) && Ords.all ops fuel listed r
def Ords.good (ops : Array Oper) (t : Ords) : Bool := Ords.here ops ops.size (Array.replicate ops.size false) t && Ords.all ops ops.size (Array.replicate ops.size false) t

def vcAt (P : Program) [Tables P] (ops : Array Oper) (nm i : Nat) (K : AS → Prop) (s : AS) : Prop := match ops[i]? with
  | some o => vcOp P ops nm o K s
  | none => False
def vcO (P : Program) [Tables P] (ops : Array Oper) (nm : Nat) (o : Option Oper) (K : AS → Prop) (s : AS) : Prop := match o with
  | some o => vcOp P ops nm o K s
  | none => False
def vcT (P : Program) [Tables P] (ops : Array Oper) (base : Nat) (K : AS → Prop) : Ords → Nat → AS → Prop
  | .nil, k, s => K { s with next := base + k }
  | .cons i t .nil, k, s => vcAt P ops (base + k) i (vcT P ops base K t (k + 1)) s
  | .cons i t (.cons j u r), k, s => vcAt P ops (base + k) i (vcT P ops base K t (k + 1)) s ∧ vcT P ops base K (.cons j u r) k s

section
variable {P : Program} [Tables P] {W : Nat → Prop} {N : Nat} {w0 : Base P} {g : Where} {s : AS} {a : Act} {w : World}
theorem vcAt_sound {ops : Array Oper} {nm i : Nat} {K : AS → Prop} (hok : ops.toList.all (opOk N) = true) {next : Act → World → Prop} {Q : Exit → Act → World → Prop} (h : Rep W N w0 (fun n => n < nm) g s a w) (hv : vcAt P ops nm i K s)
    (hK : ∀ g' s' a' w', Rep W N w0 (fun n => n < nm + 1) g' s' a' w' → K s' → next a' w') : wpOp P ops Q i next a w := by
  unfold vcAt at hv
  unfold wpOp
  split at hv
  · rename_i o ho
    simp only [ho]
    have hd : ∀ d, o.dst = some d → d < N := fun d hd => by
      have := List.all_eq_true.1 hok o (by simpa using Array.mem_of_getElem? ho)
      unfold opOk at this; rw [hd] at this; simpa using this
    have go : vcRun P nm o K s → o.wp P a w next Q := fun hr => run_sound h hd hr hK
    unfold vcOp at hv
    cases hg : o.guard with
    | none =>
      rw [hg] at hv
      rw [if_pos (by simp [Region.wanted, hg])]
      exact .inl (go hv)
    | some p =>
      obtain ⟨j, want⟩ := p
      rw [hg] at hv
      simp only [vcGuard] at hv
      split at hv
      · rename_i b hb
        have hy := wanted_guard h hg hb
        by_cases hbw : b = want
        · rw [if_pos (by rw [hy]; simp [hbw])]
          exact .inl (go (hv.1 hbw))
        · rw [if_neg (by rw [hy]; simp [hbw])]
          exact hK _ _ _ _ ((h.put hd (v := V undef) trivial).mono (fun n hn => by omega)) (hv.2 hbw)
      · exact hv.elim
  · exact hv.elim

theorem heads_kid {ops : Array Oper} {base fuel : Nat} {K : AS → Prop} {listed : Array Bool} : ∀ (t : Ords) (k : Nat) (s : AS), Ords.all ops (fuel + 1) listed t = true → vcT P ops base K t k s → ∀ i ∈ t.heads,
    ∃ u, Ords.here ops fuel (listed.setIfInBounds i true) u = true ∧ Ords.all ops fuel (listed.setIfInBounds i true) u = true ∧ vcAt P ops (base + k) i (vcT P ops base K u (k + 1)) s
  | .nil, _, _, _, _, i, hi => by cases hi
  | .cons j u .nil, k, s, ha, hv, i, hi => by
    simp only [Ords.heads, List.mem_singleton] at hi
    subst hi
    simp only [Ords.all, Bool.and_eq_true] at ha
    exact ⟨u, ha.1.1, ha.1.2, hv⟩
  | .cons j u (.cons j' u' r), k, s, ha, hv, i, hi => by
    rw [Ords.all] at ha
    simp only [Bool.and_eq_true] at ha
    rcases List.mem_cons.1 hi with rfl | hi
    · exact ⟨u, ha.1.1, ha.1.2, hv.1⟩
    · exact heads_kid (.cons j' u' r) k s ha.2 hv.2 i hi

theorem ords_go {ops : Array Oper} {base : Nat} {K : AS → Prop} {Q : Exit → Act → World → Prop} (hok : ops.toList.all (opOk N) = true) (hK : ∀ g' s' a' w', Rep W N w0 (fun n => n < s'.next) g' s' a' w' → K s' → Q .normal a' w') :
    ∀ (fuel : Nat) (listed : Array Bool) (t : Ords) (k : Nat) (g : Where) (s : AS) (a : Act) (w : World), Ords.here ops fuel listed t = true → Ords.all ops fuel listed t = true →
      Rep W N w0 (fun n => n < base + k) g s a w → vcT P ops base K t k s → wpAny P .any ops Q fuel listed a w
  | 0, listed, t, k, g, s, a, w, hh, ha, h, hv => by
    simp only [Ords.here, Bool.and_eq_true, beq_iff_eq, bne_self_eq_false, Bool.false_or, List.isEmpty_iff] at hh
    obtain ⟨h1, h2⟩ := hh
    rw [h2] at h1
    cases t with
    | nil => exact ⟨h2, hK _ _ _ _ (h.next _) hv⟩
    | cons i u r => simp [Ords.heads] at h1
  | fuel + 1, listed, t, k, g, s, a, w, hh, ha, h, hv => by
    simp only [Ords.here, Bool.and_eq_true, beq_iff_eq] at hh
    obtain ⟨h1, _⟩ := hh
    refine ⟨fun hr => ?_, fun i hi => ?_⟩
    · rw [hr] at h1
      cases t with
      | nil => exact hK _ _ _ _ (h.next _) hv
      | cons i u r => simp [Ords.heads] at h1
    · rw [← h1] at hi
      obtain ⟨u, hu1, hu2, hat⟩ := heads_kid t k s ha hv i hi
      exact vcAt_sound hok h hat fun g' s' a' w' h' hk => ords_go hok hK fuel _ u (k + 1) g' s' a' w' hu1 hu2 (h'.mono fun n hn => by omega) hk
theorem ords_sound {ops : Array Oper} {base : Nat} {K : AS → Prop} {Q : Exit → Act → World → Prop} {t : Ords} (hK : ∀ g' s' a' w', Rep W N w0 (fun n => n < s'.next) g' s' a' w' → K s' → Q .normal a' w')
    (ht : Ords.good ops t = true) (hok : ops.toList.all (opOk N) = true) (h : Rep W N w0 (fun n => n < base) g s a w) (hv : vcT P ops base K t 0 s) :
    wpAny P .any ops Q ops.size (Array.replicate ops.size false) a w := by
  simp only [Ords.good, Bool.and_eq_true] at ht
  exact ords_go hok hK _ _ t 0 g s a w ht.1 ht.2 (by simpa using h) hv

/-! ### The walk over a code with such regions -/
def vcX (P : Program) [Tables P] : Code → (Exit → AS → Prop) → AS → Prop
  | .region id ops true, F, s => vc P (.region id ops true) F s ∨ (P.follows .mixedOrders = true ∧ ∃ t, Ords.good ops t = true ∧ vcT P ops s.next (F .normal) t 0 s)
  | .seq a b, F, s => vcX P a (seqK (vcX P b F) F) s
  | .cond c a b, F, s => vcIf (s.opnd c) (vcX P a F) (vcX P b F) s
  | .block id c, F, s => vcX P c (blockK id F) s
  | c, F, s => vc P c F s

theorem vcX_sound : ∀ (c : Code) (F : Exit → AS → Prop) (s : AS), codeOk N c = true → vcX P c F s → ∀ (g : Where) (a : Act) (w : World) (Q : Exit → Act → World → Prop), Rep W N w0 (fun n => n < s.next) g s a w →
    (∀ e g' s' a' w', Rep W N w0 (fun n => n < s'.next) g' s' a' w' → F e s' → Q e a' w') → c.wp P Q a w
  | .region id ops true, F, s, hok, hv, g, a, w, Q, h, hQ => by
    simp only [vcX] at hv
    rcases hv with hv | ⟨hm, t, ht, hv⟩
    · exact vc_sound _ F s hok hv g a w Q h hQ
    · exact wp_region_any hm (ords_sound (K := F .normal) (base := s.next) (fun g' s' a' w' h' hk => hQ _ _ _ _ _ h' hk) ht hok h.drew hv)
  | .seq x y, F, s, hok, hv, g, a, w, Q, h, hQ => by
    simp only [codeOk, Bool.and_eq_true] at hok
    simp only [vcX] at hv
    refine wp_seq (vcX_sound x _ s hok.1 hv g a w _ h fun e g' s' a' w' h' hk => ?_)
    cases e with
    | normal => exact vcX_sound y F s' hok.2 hk g' a' w' Q h' hQ
    | _ => exact hQ _ _ _ _ _ h' hk
  | .cond c x y, F, s, hok, hv, g, a, w, Q, h, hQ => by
    simp only [codeOk, Bool.and_eq_true] at hok
    simp only [vcX, vcIf] at hv
    split at hv
    · rename_i b hb
      refine wp_cond_split (t := b) (by rw [h.eval hb]; rfl) (fun ht => ?_) (fun hf => ?_)
      · exact vcX_sound x F s hok.1 (hv.1 ht) g a w Q h hQ
      · exact vcX_sound y F s hok.2 (hv.2 hf) g a w Q h hQ
    · exact hv.elim
  | .block id c, F, s, hok, hv, g, a, w, Q, h, hQ => by
    simp only [codeOk] at hok
    simp only [vcX] at hv
    refine wp_block (vcX_sound c _ s hok hv g a w _ h fun e g' s' a' w' h' hk => ?_)
    cases e with
    | exit id' =>
      simp only [blockK] at hk
      simp only [Exit.inBlock]
      split
      · rename_i e; rw [if_pos e] at hk; exact hQ _ _ _ _ _ h' hk
      · rename_i e; rw [if_neg e] at hk; exact hQ _ _ _ _ _ h' hk
    | _ => exact hQ _ _ _ _ _ h' hk
  | .skip, F, s, hok, hv, g, a, w, Q, h, hQ => vc_sound _ F s hok hv g a w Q h hQ
  | .region id ops false, F, s, hok, hv, g, a, w, Q, h, hQ => vc_sound _ F s hok hv g a w Q h hQ
  | .loop c, F, s, hok, hv, g, a, w, Q, h, hQ => vc_sound _ F s hok hv g a w Q h hQ
  | .exit id, F, s, hok, hv, g, a, w, Q, h, hQ => vc_sound _ F s hok hv g a w Q h hQ
  | .ret, F, s, hok, hv, g, a, w, Q, h, hQ => vc_sound _ F s hok hv g a w Q h hQ
  | .rangeFunc .., F, s, hok, hv, g, a, w, Q, h, hQ => vc_sound _ F s hok hv g a w Q h hQ
  | .scope _, F, s, hok, hv, g, a, w, Q, h, hQ => vc_sound _ F s hok hv g a w Q h hQ
  | .label _, F, s, hok, hv, g, a, w, Q, h, hQ => vc_sound _ F s hok hv g a w Q h hQ
  | .goto _, F, s, hok, hv, g, a, w, Q, h, hQ => vc_sound _ F s hok hv g a w Q h hQ
  | .refuse _, F, s, hok, hv, g, a, w, Q, h, hQ => vc_sound _ F s hok hv g a w Q h hQ
theorem calls_of_vcX {f : Nat} {fn : Func} {c : Code} (hf : P.funcs[f]? = some fn) (hb : fn.body = some c) (hok : codeOk fn.ntmps c = true) {args : List AV} {box : Nat → Option Box} {n : Nat}
    (hlen : args.length ≤ fn.ntmps) (hlaid : Laid P w) (htabs : ∀ b bx, Tables.row P b = some bx → ¬ W b) (hn : Names (fun k => k < n) (start args box n)) (hm : MemRep g (start args box n) w) (hown : ∀ t b, box t = some b → b.rw = true → W (g t).1)
    {Post : AV → AS → Prop} (hv : vcX P c (retK P fn.results.toList Post) (start args box n)) :
    Calls P f (args.map (AV.conc g)).toArray w fun e w' => ∃ v g' s', e = .returned (AV.conc g' v) ∧ Post v s' ∧ AV.ok (fun k => k < s'.next) v ∧ (∀ k, k < n → k < s'.next ∧ g' k = g k) ∧ MemRep g' s' w' ∧ Names (fun k => k < s'.next) s' ∧
      (∀ t b, s'.box t = some b → b.rw = true → w.heap.size ≤ (g' t).1 ∨ W (g' t).1) ∧ Frame W w w' := by
  refine calls_of_wp hf hb ?_
  refine vcX_sound (N := fn.ntmps) (W := W) (w0 := ⟨w, n, g, hlaid⟩) c _ _ hok hv g _ w _ ⟨?_, rfl, ?_, hn, hm, fun t b hb hrw => Or.inr (hown t b hb hrw), Frame.refl _ _, fun k hk => ⟨hk, rfl⟩, htabs⟩ ?_
  · simp; omega
  · intro d v hd
    simp only [start] at hd
    have hlt : d < args.length := (List.getElem?_eq_some_iff.1 hd).1
    rw [Array.getElem?_append_left (by simpa using hlt)]
    simp [hd]
  · intro e g' s' a' w' h' hk
    have fin : retV (resAV (resAll P s' fn.results.toList)) Post s' → ∃ v, (results fn a'.tmps).run P w' = .ok (AV.conc g' v) w' ∧ Post v s' ∧ AV.ok (fun k => k < s'.next) v := fun hr => by
      unfold retV at hr
      split at hr
      · rename_i v hv
        obtain ⟨h1, h2⟩ := results_spec h' hv
        exact ⟨v, h1, hr, h2⟩
      · exact hr.elim
    cases e <;> simp only [retK] at hk
    · obtain ⟨v, h1, h2, h3⟩ := fin hk
      exact ⟨h'.defers, _, h1, v, g', s', rfl, h2, h3, h'.pin, h'.mem, h'.names, h'.own, h'.frame⟩
    · obtain ⟨v, h1, h2, h3⟩ := fin hk
      exact ⟨h'.defers, _, h1, v, g', s', rfl, h2, h3, h'.pin, h'.mem, h'.names, h'.own, h'.frame⟩
theorem pure_of_vcX {f : Nat} {fn : Func} {c : Code} (hf : P.funcs[f]? = some fn) (hb : fn.body = some c) (hok : codeOk fn.ntmps c = true) {l : List AV} {Post : AV → Prop}
    (hlen : l.length ≤ fn.ntmps) (hl : l.all AV.plain = true) (hr : ∀ r, Post r → AV.plain r = true) (hv : vcX P c (retK P fn.results.toList (fun v _ => Post v)) (start l (fun _ => none) 0)) : Pure P f l Post := by
  refine ⟨hl, hr, fun w hlaid => ?_⟩
  have hM : l.map AV.val = l.map (AV.conc fun _ => (0, 0)) := rfl
  rw [hM]
  refine (calls_of_vcX (W := fun _ => False) (g := fun _ => (0, 0)) hf hb hok hlen hlaid (fun _ _ _ => id) ⟨fun d v hd => ?_, fun t b hb => ?_⟩ ⟨fun t b hb => ?_, fun t b hb => ?_, fun t b hb => ?_, fun t t' b b' hb => ?_⟩ (fun t b hb => ?_) hv).mono ?_
  · simp only [start] at hd
    exact AV.plain_ok (List.all_eq_true.1 hl v (List.mem_of_getElem? hd))
  · simp [start] at hb
  · simp [start] at hb
  · simp [start] at hb
  · simp [start] at hb
  · simp [start] at hb
  · simp at hb
  · rintro e w' ⟨v, g', s', rfl, hpost, hokv, hpin, hm, hn, hown, hfr⟩
    exact ⟨v, hpost, by rw [AV.plain_conc (hr v hpost)], hfr⟩
theorem fun_of_vcX {f : Nat} {fn : Func} {c : Code} (hf : P.funcs[f]? = some fn) (hb : fn.body = some c) (hok : codeOk fn.ntmps c = true) {l : List AV} {r : AV}
    (hlen : l.length ≤ fn.ntmps) (hl : l.all AV.plain = true) (hr : AV.plain r = true) (hv : vcX P c (retK P fn.results.toList (fun v _ => v = r)) (start l (fun _ => none) 0)) : Fun P f l r :=
  pure_of_vcX hf hb hok hlen hl (fun _ hv => hv ▸ hr) hv

theorem mfun_of_vcX {f : Nat} {fn : Func} {c : Code} (hf : P.funcs[f]? = some fn) (hb : fn.body = some c) (hok : codeOk fn.ntmps c = true) {args : List AV} {k : Nat} {ins : Nat → Option Box}
    (hlen : args.length ≤ fn.ntmps) (hc : callable P f = true) (hargs : ∀ v ∈ args, AV.ok (fun n => n < k) v) (hall : ∀ n, n < k → ∃ b, ins n = some b) (hinn : ∀ n b, ins n = some b → n < k ∧ ∀ x ∈ b.cells, SV.ok (fun n => n < k) x)
    {Post : AV → (Nat → Option Box) → Prop} (hv : vcX P c (retK P fn.results.toList (Ret k Post)) (start args ins k)) : MFun P f args k ins Post := by
  refine ⟨hc, hall, fun n b hb => (hinn n b hb).1, fun W g w hlaid htabs hm hown => ?_⟩
  refine (calls_of_vcX (W := W) (g := g) (w := w) hf hb hok hlen hlaid htabs ⟨fun d v hd => ?_, fun t b ht => hinn t b ht⟩ ⟨hm.lt, hm.cell, hm.free, hm.sep⟩ hown hv).mono ?_
  · simp only [start] at hd
    exact hargs v (List.mem_of_getElem? hd)
  · rintro e w' ⟨v, g', s', rfl, ⟨q, v0, out, hq, rfl, hv0, hout, hpost⟩, _, hpin, hmem, hnames, hown', hfr⟩
    have hr : ∀ n, n < k → rho k q n = n := fun n hn => by unfold rho; rw [if_neg (by omega)]
    have hinj : ∀ n n', n < k + 1 → n' < k + 1 → rho k q n = rho k q n' → n = n' := fun n n' h1 h2 e => by
      unfold rho at e
      split at e <;> split at e <;> omega
    refine ⟨v0, out, fun n => g' (rho k q n), by rw [AV.conc_ren], hpost, fun n hn => ?_, hv0, fun n b hb => ?_, ⟨fun t b hb => ?_, fun t b hb i v hv => ?_, fun t b hb hrw i hi => ?_, fun t t' b b' hb hrw hb' hne => ?_⟩, fun t b hb hrw => ?_, hfr⟩
    · show g' (rho k q n) = _
      rw [hr n hn]; exact (hpin n hn).2
    · obtain ⟨h1, h2, h3, _⟩ := hout n b hb
      exact ⟨h1, h2, h3⟩
    · obtain ⟨h1, _, _, b', h2, _⟩ := hout t b hb
      exact hmem.lt _ b' h2
    · obtain ⟨h1, _, _, b', h2, _, h4⟩ := hout t b hb
      have := hmem.cell _ b' h2 i (SV.ren (rho k q) v) (by rw [h4]; simp [hv])
      rw [this, SV.conc_ren]
    · obtain ⟨h1, _, _, b', h2, h3, h4⟩ := hout t b hb
      exact hmem.free _ b' h2 (h3 hrw) i (by rw [h4]; simpa using hi)
    · obtain ⟨h1, _, _, c1, h2, h3, _⟩ := hout t b hb
      obtain ⟨h1', _, _, c2, h2', _, _⟩ := hout t' b' hb'
      exact hmem.sep _ _ c1 c2 h2 (h3 hrw) h2' (fun e => hne (hinj _ _ h1 h1' e))
    · obtain ⟨h1, _, _, b', h2, h3, _⟩ := hout t b hb
      exact hown' _ b' h2 (h3 hrw)


theorem vcX_seq {a b : Code} {F : Exit → AS → Prop} : vcX P (.seq a b) F s = vcX P a (seqK (vcX P b F) F) s := rfl
theorem vcX_cond {c : Operand} {a b : Code} {F : Exit → AS → Prop} : vcX P (.cond c a b) F s = vcIf (s.opnd c) (vcX P a F) (vcX P b F) s := rfl
theorem vcX_block {id : Nat} {c : Code} {F : Exit → AS → Prop} : vcX P (.block id c) F s = vcX P c (blockK id F) s := rfl
theorem vcX_region {id : Nat} {ops : Array Oper} {F : Exit → AS → Prop} : vcX P (.region id ops false) F s = vc P (.region id ops false) F s := rfl
theorem vcX_skip {F : Exit → AS → Prop} : vcX P .skip F s = vc P .skip F s := rfl
theorem vcX_ret {F : Exit → AS → Prop} : vcX P .ret F s = vc P .ret F s := rfl
theorem vcX_exit {id : Nat} {F : Exit → AS → Prop} : vcX P (.exit id) F s = vc P (.exit id) F s := rfl
theorem vcX_loop {c : Code} {F : Exit → AS → Prop} : vcX P (.loop c) F s = vc P (.loop c) F s := rfl
theorem vcT_nil {ops : Array Oper} {base k : Nat} {K : AS → Prop} {e : Nat → Option AV} {b : Nat → Option Box} {n : Nat} : vcT P ops base K .nil k ⟨e, b, n⟩ = K ⟨e, b, base + k⟩ := rfl
theorem vcT_one {ops : Array Oper} {base k i : Nat} {t : Ords} {K : AS → Prop} : vcT P ops base K (.cons i t .nil) k s = vcAt P ops (base + k) i (vcT P ops base K t (k + 1)) s := rfl
theorem vcT_more {ops : Array Oper} {base k i j : Nat} {t u r : Ords} {K : AS → Prop} : vcT P ops base K (.cons i t (.cons j u r)) k s = (vcAt P ops (base + k) i (vcT P ops base K t (k + 1)) s ∧ vcT P ops base K (.cons j u r) k s) := rfl
theorem vcAt_eq {l : List Oper} {nm i : Nat} {K : AS → Prop} : vcAt P l.toArray nm i K s = vcO P l.toArray nm l[i]? K s := by unfold vcAt vcO; simp
theorem vcO_some {ops : Array Oper} {nm : Nat} {dst : Option Nat} {op : Op} {ty : TypeId} {pos : String} {after : Array Edge} {K : AS → Prop} : vcO P ops nm (some ⟨dst, op, ty, pos, after, none⟩) K s = vcRun P nm ⟨dst, op, ty, pos, after, none⟩ K s := rfl
end
theorem rulesX : type_of% @vcX_seq ∧ type_of% @vcX_cond ∧ type_of% @vcX_block ∧ type_of% @vcX_region ∧ type_of% @vcX_skip ∧ type_of% @vcX_ret ∧ type_of% @vcX_exit ∧ type_of% @vcX_loop ∧ type_of% @vcT_nil ∧ type_of% @vcT_one ∧ type_of% @vcT_more ∧ type_of% @vcAt_eq ∧ type_of% @vcO_some :=
  ⟨@vcX_seq, @vcX_cond, @vcX_block, @vcX_region, @vcX_skip, @vcX_ret, @vcX_exit, @vcX_loop, @vcT_nil, @vcT_one, @vcT_more, @vcAt_eq, @vcO_some⟩
end Go.Vcg
