/-
  The calculus: a region whose order Go leaves open. One walk in the text's order serves every order, where a check on the region's own text says that what may come up in another order is independent. Nothing here speaks of a program.
-/
import Derived.Test.YtemllgnejllcpaaVcgD
import Derived.Orders
set_option linter.unusedVariables false
set_option linter.unusedSimpArgs false
namespace Go.Vcg
set_option linter.unusedSectionVars false

/-- A call that hands back one plain value, whatever the world, and turns nothing that was there. -/
def Quiet (P : Program) [Tables P] (f : Nat) (l : List AV) (r : AV) : Prop :=
  (callable P f = true ∧ Fun P f l r) ∨ (AV.ok (fun _ => False) r ∧ ∀ g w, (callFunc f (l.map (AV.conc g)).toArray).run P w = .ok (.value (AV.conc g r)) w)
/-- What a call that reads boxes, and writes none of them, hands on. -/
def Hands (P : Program) [Tables P] (f : Nat) (l : List AV) (nm : Nat) (D : Eff → Prop) (W : Nat → Prop) (N : Nat) (w0 : Base P) (M : Nat → Prop) (g : Where) (s : AS) (a : Act) (w : World) : Prop :=
  Calls P f (l.map (AV.conc g)).toArray w fun ex w' => ∃ e v g', D e ∧ e.1 = some v ∧ ex = .returned (AV.conc g' v) ∧ (∀ n, M n → g' n = g n) ∧
    Rep W N w0 (fun n => M n ∨ n = nm) g' (s.mem nm e.2) a w' ∧ AV.ok (fun n => M n ∨ n = nm) v
structure Reader (P : Program) [Tables P] (f : Nat) (l : List AV) (need : List (Nat × Box)) (nm : Nat) (D : Eff → Prop) : Prop where
  body : callable P f = true
  named : ∀ M : Nat → Prop, (∀ v ∈ l, AV.ok M v) → (∀ p ∈ need, M p.1 → ∀ x ∈ p.2.cells, SV.ok M x) → ∀ p ∈ need, M p.1
  mem : ∀ e, D e → e.2 = none ∨ ∃ cs, e.2 = some (.inl cs)
  call : ∀ (W : Nat → Prop) (N : Nat) (w0 : Base P) (M : Nat → Prop) (g : Where) (s : AS) (a : Act) (w : World), Rep W N w0 M g s a w → ¬ M nm → (∀ v ∈ l, AV.ok M v) → (∀ p ∈ need, s.box p.1 = some p.2) →
    Hands P f l nm D W N w0 M g s a w
/-- A call by such a contract, in a state. -/
def Reads (P : Program) [Tables P] (nm f : Nat) (xs : Option (List AV)) (s : AS) (D : Eff → Prop) : Prop :=
  ∃ l need, xs = some l ∧ (∀ p ∈ need, s.box p.1 = some p.2) ∧ Reader P f l need nm D
def DoesRun (P : Program) [Tables P] (nm : Nat) (o : Oper) (s : AS) (e : Eff) : Prop := match o.op with
  | .call ⟨.value (.func f), xs, _⟩ => (∃ l r, argsOf s xs.toList = some l ∧ Quiet P f l r ∧ e = (some r, none)) ∨ Reads P nm f (argsOf s xs.toList) s (fun d => d = e)
  | .call ⟨.builtin .len, xs, tys⟩ => effLen (lenK P tys.toList) (argsOf s xs.toList) = some e
  | .call ⟨.builtin _, _, _⟩ => False
  | op => effOf P nm s op = some e
/-- The same where the call may hand on one of several. -/
def DoesRunS (P : Program) [Tables P] (nm : Nat) (o : Oper) (s : AS) (D : Eff → Prop) : Prop := match o.op with
  | .call ⟨.value (.func f), xs, _⟩ => Reads P nm f (argsOf s xs.toList) s D
  | _ => False
def Does (P : Program) [Tables P] (ops : Array Oper) (nm : Nat) (o : Oper) (s : AS) (e : Eff) : Prop := match o.guard with
  | none => DoesRun P nm o s e
  | some (j, want) => match gnorm (guardAV ops s j) want with
    | some (.inl (.inl (.inl (.bool b)))) => (b = want → DoesRun P nm o s e) ∧ (b ≠ want → e = (some (V undef), none))
    | _ => False
def DoesS (P : Program) [Tables P] (ops : Array Oper) (nm : Nat) (o : Oper) (s : AS) (D : Eff → Prop) : Prop := match o.guard with
  | none => DoesRunS P nm o s D
  | some (j, want) => match gnorm (guardAV ops s j) want with
    | some (.inl (.inl (.inl (.bool b)))) => (b = want → DoesRunS P nm o s D) ∧ (b ≠ want → D = fun e => e = (some (V undef), none))
    | _ => False
def app (nm : Nat) (o : Oper) (e : Eff) (s : AS) : AS := (s.mem nm e.2).put o.dst e.1
/-- Does operation i wait for operation j, at once or by others? -/
def waits (ops : Array Oper) (fuel : Nat) (i j : Nat) : Bool := match fuel with
  | 0 => false
  | fuel + 1 => match ops[i]? with
    | some o => o.after.toList.any fun e => Region.binds .any e && (e.on == j || waits ops fuel e.on j)
    | none => false
/-- All behind it wait for it; and it waits for all ahead of it. -/
def late (ops : Array Oper) (i : Nat) : Bool := (List.range ops.size).all fun k => decide (k ≤ i) || waits ops ops.size k i
def bar (ops : Array Oper) (i : Nat) : Bool := late ops i && (List.range i).all fun j => waits ops ops.size i j
def vcOpD (P : Program) [Tables P] (ops : Array Oper) (i nm : Nat) (o : Oper) (K : AS → Prop) (s : AS) : Prop :=
  (∃ e, Does P ops nm o s e ∧ K (app nm o e s)) ∨ (late ops i = true ∧ ∃ D, DoesS P ops nm o s D ∧ ∀ e, D e → K (app nm o e s)) ∨ (bar ops i = true ∧ vcOp P ops nm o K s)
def vcOpsD (P : Program) [Tables P] (ops : Array Oper) (base : Nat) (l : List Oper) (i : Nat) (K : AS → Prop) (s : AS) : Prop := match l with
  | [] => K { s with next := base + i }
  | o :: rest => vcOpD P ops i (base + i) o (vcOpsD P ops base rest (i + 1) K) s

/-- The same without a guard; and what is then asked of a call. -/
def vcD (P : Program) [Tables P] (ops : Array Oper) (i nm : Nat) (o : Oper) (K : AS → Prop) (s : AS) : Prop :=
  (∃ e, DoesRun P nm o s e ∧ K (app nm o e s)) ∨ (late ops i = true ∧ ∃ D, DoesRunS P nm o s D ∧ ∀ e, D e → K (app nm o e s)) ∨ (bar ops i = true ∧ vcRun P nm o K s)
def gOpsD (P : Program) [Tables P] (ops : Array Oper) (i : Nat) (c : Option AV) (want : Bool) (nm : Nat) (o : Oper) (K : AS → Prop) (s : AS) : Prop := vcGuard c want (vcD P ops i nm o K s) (K (s.put o.dst (some (V undef))))
def vcFun (P : Program) [Tables P] (ops : Array Oper) (i nm : Nat) (f : Nat) (xs : Option (List AV)) (dst : Option Nat) (K : AS → Prop) (s : AS) : Prop :=
  (∃ l r, xs = some l ∧ Quiet P f l r ∧ K (s.put dst (some r))) ∨ (∃ e, Reads P nm f xs s (fun d => d = e) ∧ K ((s.mem nm e.2).put dst e.1)) ∨
    (late ops i = true ∧ ∃ D, Reads P nm f xs s D ∧ ∀ e : Eff, D e → K ((s.mem nm e.2).put dst e.1)) ∨ (bar ops i = true ∧ if callable P f = true then vcCall P nm f xs dst K s else vcExt P f xs dst K s)

/-! ### The check -/
def isStore (o : Op) : Bool := match o with
  | .store .. => true
  | _ => false
def isLoad (o : Op) : Bool := match o with
  | .load .. => true
  | .convert a b _ => a == b
  | .call ⟨.value (.func _), _, _⟩ => true
  | _ => false
def apartB (ops : Array Oper) (x y : Oper) : Bool :=
  (match x.dst with
    | some d => !(y.looksAt ops).contains d && y.dst != some d
    | none => true) &&
  (match y.dst with
    | some d => !(x.looksAt ops).contains d
    | none => true) &&
  !(isStore x.op && (isStore y.op || isLoad y.op)) && !(isStore y.op && isLoad x.op)
def drawOk (ops : Array Oper) : Bool :=
  (List.range ops.size).all fun i => (match ops[i]? with
    | some o => (o.after.toList.all fun e => !Region.binds .any e || decide (e.on < i)) &&
        (List.range i).all fun j => match ops[j]? with
          | some p => apartB ops p o || waits ops ops.size i j
          | none => true
    | none => true)

section
variable {P : Program} [Tables P] {W : Nat → Prop} {N : Nat} {w0 : Base P} {M : Nat → Prop} {g : Where} {s s' : AS} {a : Act} {w : World} {ops : Array Oper} {nm : Nat} {o : Oper}

theorem vcCall_mono {nm f : Nat} {xs : Option (List AV)} {dst : Option Nat} {K K' : AS → Prop} (h : ∀ s, K s → K' s) {s : AS} (hv : vcCall P nm f xs dst K s) : vcCall P nm f xs dst K' s := by
  unfold vcCall at hv ⊢
  split at hv
  · exact hv
  · intro W N w0 g a w hr
    refine (hv W N w0 g a w hr).mono ?_
    rintro e w' ⟨v, g', s', h1, h2, h3, h4⟩
    exact ⟨v, g', s', h1, h2, h3, h _ h4⟩
theorem vcExt_mono {f : Nat} {xs : Option (List AV)} {dst : Option Nat} {K K' : AS → Prop} (h : ∀ s, K s → K' s) {s : AS} (hv : vcExt P f xs dst K s) : vcExt P f xs dst K' s := by
  unfold vcExt at hv ⊢
  split at hv
  · exact hv
  · obtain ⟨v, h1, h2, h3⟩ := hv
    exact ⟨v, h1, h2, h _ h3⟩
theorem vcBuiltin_mono {nm : Nat} {b : Builtin} {tys : Array TypeId} {type : TypeId} {cs : Array Bool} {xs : Option (List AV)} {dst : Option Nat} {K K' : AS → Prop} (h : ∀ s, K s → K' s) {s : AS} (hv : vcBuiltin P nm b tys type cs xs dst K s) : vcBuiltin P nm b tys type cs xs dst K' s := by
  unfold vcBuiltin at hv ⊢
  split at hv
  · exact hv
  · intro W N w0 g a w hr
    obtain ⟨v, g', s', w', h1, h2, h3, h4⟩ := hv W N w0 g a w hr
    exact ⟨v, g', s', w', h1, h2, h3, h _ h4⟩
theorem vcEff_mono {e : Option Eff} {nm : Nat} {dst : Option Nat} {K K' : AS → Prop} (h : ∀ s, K s → K' s) {s : AS} (hv : vcEff e nm dst K s) : vcEff e nm dst K' s := by
  unfold vcEff at hv ⊢
  split at hv
  · exact h _ hv
  · exact hv
theorem vcRun_mono {nm : Nat} {o : Oper} {K K' : AS → Prop} (h : ∀ s, K s → K' s) {s : AS} (hv : vcRun P nm o K s) : vcRun P nm o K' s := by
  obtain ⟨dst, op, type, pos, after, guard⟩ := o
  cases op
  case call c =>
    obtain ⟨callee, xs, tys⟩ := c
    cases callee with
    | value f =>
      cases f with
      | func f =>
        have hv' : if callable P f = true then vcCall P nm f (argsOf s xs.toList) dst K s else vcExt P f (argsOf s xs.toList) dst K s := hv
        show if callable P f = true then vcCall P nm f (argsOf s xs.toList) dst K' s else vcExt P f (argsOf s xs.toList) dst K' s
        by_cases hc : callable P f = true
        · rw [if_pos hc] at hv' ⊢; exact vcCall_mono h hv'
        · rw [if_neg hc] at hv' ⊢; exact vcExt_mono h hv'
      | _ => exact False.elim hv
    | builtin b => cases b <;> first | exact vcBuiltin_mono h hv | exact vcEff_mono h hv
    | invoke r m => exact False.elim hv
  all_goals first | exact vcEff_mono h hv | exact False.elim hv
theorem vcOp_mono {nm : Nat} {o : Oper} {K K' : AS → Prop} (h : ∀ s, K s → K' s) {s : AS} (hv : vcOp P ops nm o K s) : vcOp P ops nm o K' s := by
  unfold vcOp at hv ⊢
  cases hg : o.guard with
  | none => rw [hg] at hv; exact vcRun_mono h hv
  | some p =>
    obtain ⟨j, want⟩ := p
    rw [hg] at hv
    simp only [vcGuard] at hv ⊢
    split at hv
    · exact ⟨fun hw => vcRun_mono h (hv.1 hw), fun hw => h _ (hv.2 hw)⟩
    · exact hv
theorem opnd_congr {x : Operand} (h : ∀ t, x = .tmp t → s.env t = s'.env t) : s.opnd x = s'.opnd x := by
  cases x with
  | tmp t => exact h t rfl
  | const v => cases v <;> rfl
  | global n => rfl
  | func f => rfl
theorem argsOf_congr : ∀ (xs : List Operand), (∀ x ∈ xs, s.opnd x = s'.opnd x) → argsOf s xs = argsOf s' xs
  | [], _ => rfl
  | x :: r, h => by
    simp only [argsOf, h x (by simp), argsOf_congr r (fun y hy => h y (by simp [hy]))]
theorem fill_congr {t : TypeId} : ∀ (parts : List (Nat × Operand)) (cs : List SV), (∀ p ∈ parts, s.opnd p.2 = s'.opnd p.2) → effFill P t s cs parts = effFill P t s' cs parts
  | [], _, _ => rfl
  | (i, x) :: r, cs, h => by
    simp only [effFill, h (i, x) (by simp)]
    cases placeOf P t i with
    | none => rfl
    | some p =>
      cases cellsOf (s'.opnd x) with
      | none => rfl
      | some new =>
        simp only
        split
        · exact fill_congr r _ (fun p hp => h p (by simp [hp]))
        · rfl
theorem fillS_congr {z : Nat} : ∀ (parts : List (Nat × Operand)) (cs : List SV), (∀ p ∈ parts, s.opnd p.2 = s'.opnd p.2) → effFillS z s cs parts = effFillS z s' cs parts
  | [], _, _ => rfl
  | (i, x) :: r, cs, h => by
    simp only [effFillS, h (i, x) (by simp)]
    cases cellsOf (s'.opnd x) with
    | none => rfl
    | some new =>
      simp only
      split
      · exact fillS_congr r _ (fun p hp => h p (by simp [hp]))
      · rfl
/-- An operation looks at its operands' slots and, a load and a store, at a box that is named there. -/
theorem effOf_congr (hop : ∀ x ∈ o.op.operands, s.opnd x = s'.opnd x) (hM : ∀ x ∈ o.op.operands, ∀ v, s.opnd x = some v → AV.ok M v)
    (hbox : isLoad o.op = true ∨ isStore o.op = true → ∀ t, M t → s.box t = s'.box t) : effOf P nm s o.op = effOf P nm s' o.op := by
  obtain ⟨dst, op, type, pos, after, guard⟩ := o
  simp only at hop hM hbox ⊢
  cases op <;> simp only [effOf] <;> simp only [Op.operands] at hop hM
  case move x => rw [hop x (by simp)]
  case assign x => rw [hop x (by simp)]
  case box t x => rw [hop x (by simp)]
  case build t parts =>
    unfold effBuild
    cases blankOf P t with
    | none => rfl
    | some z => simp only; rw [fill_congr parts.toList z (fun p hp => hop p.2 (by simp only [List.mem_toArray, List.mem_map]; exact ⟨p, hp, rfl⟩))]
  case load t x =>
    rw [← hop x (by simp)]
    cases hx : s.opnd x with
    | none => rfl
    | some v =>
      have hv := hM x (by simp) v hx
      rcases v with ((v | ⟨b, k⟩ | v) | l) | l <;> try rfl
      · rcases v with _ | _ | _ | _ | _ | p | _ | _ | _ | _ | _ | _ | _ | _ | _ <;> try rfl
        all_goals (rcases p with _ | ⟨b, k, sp⟩ <;> first | rfl | (cases sp <;> rfl))
      · have : s.box b = s'.box b := hbox (Or.inl rfl) b hv
        simp only [effLoad, this]
  case store t x y =>
    rw [← hop x (by simp), ← hop y (by simp)]
    cases hx : s.opnd x with
    | none => rfl
    | some v =>
      have hv := hM x (by simp) v hx
      rcases v with ((v | ⟨b, k⟩ | v) | l) | l <;> try rfl
      have : s.box b = s'.box b := hbox (Or.inr rfl) b hv
      unfold effStore
      cases cellsOf (s.opnd y) <;> cases tyOf P t <;> simp only [this]
  case binOp op t x y u => rw [hop x (by simp), hop y (by simp)]
  case unOp op t x => rw [hop x (by simp)]
  case convert t u x =>
    rw [← hop x (by simp)]
    cases hx : s.opnd x with
    | none => rfl
    | some v =>
      have hv := hM x (by simp) v hx
      rcases v with ((v | ⟨b, k⟩ | ⟨b, k, n, c⟩) | l) | l <;> try rfl
      simp only [effConvS]
      by_cases htu : t = u
      · have : s.box b = s'.box b := hbox (Or.inl (by simp [isLoad, htu])) b hv
        rw [if_pos htu, if_pos htu, this]
      · rw [if_neg htu, if_neg htu]
  case sliceToArrayPointer t x => rw [hop x (by simp)]
  case fieldAddr t x f => rw [hop x (by simp)]
  case field t x f => rw [hop x (by simp)]
  case indexAddr t x i => rw [hop x (by simp), hop i (by simp)]
  case index t x i => rw [hop x (by simp), hop i (by simp)]
  case extract x i => rw [hop x (by simp)]
  case pick c x y => rw [hop c (by simp), hop x (by simp), hop y (by simp)]
  case slice t x lo hi mx =>
    cases mx with
    | some _ => rfl
    | none =>
      simp only
      have hb : ∀ y : Option Operand, (∀ z, y = some z → s.opnd z = s'.opnd z) → bndOf s y = bndOf s' y := fun y hy => by
        cases y with
        | none => rfl
        | some z => simp only [bndOf, hy z rfl]
      rw [hop x (by simp), hb lo (fun z hz => hop z (by simp [hz])), hb hi (fun z hz => hop z (by simp [hz]))]
  case makeSlice t l c => rw [hop l (by simp), hop c (by simp)]
  case buildSlice t n parts =>
    unfold effBuildS
    cases mkK P t with
    | none => rfl
    | some k =>
      obtain ⟨z, sz, by'⟩ := k
      simp only
      rw [fillS_congr parts.toList _ (fun p hp => hop p.2 (by simp only [List.mem_toArray, List.mem_map]; exact ⟨p, hp, rfl⟩))]
  case nilCheck x => rw [hop x (by simp)]

theorem mem_looksAt {x : Operand} {t : Nat} (hx : x ∈ o.op.operands) (ht : x = .tmp t) : t ∈ o.looksAt ops := by
  subst ht
  exact List.mem_append_left _ (List.mem_filterMap.2 ⟨.tmp t, by simpa using hx, rfl⟩)
theorem guard_looksAt {j : Nat} {want : Bool} (hg : o.guard = some (j, want)) {p : Oper} {d : Nat} (hp : ops[j]? = some p) (hd : p.dst = some d) : d ∈ o.looksAt ops := by
  refine List.mem_append_right _ ?_
  rw [hg]; simp [hp, hd]

theorem argsOf_ok {M : Nat → Prop} {s : AS} : ∀ {xs : List Operand}, (∀ x ∈ xs, ∀ v, s.opnd x = some v → AV.ok M v) → ∀ l, argsOf s xs = some l → ∀ v ∈ l, AV.ok M v
  | [], _, l, h => by simp only [argsOf, Option.some.injEq] at h; subst h; simp
  | x :: r, hx, l, h => by
    unfold argsOf at h
    split at h
    · rename_i v l' hv hl
      simp only [Option.some.injEq] at h; subst h
      intro u hu
      rcases List.mem_cons.1 hu with rfl | hu
      · exact hx x (by simp) _ hv
      · exact argsOf_ok (fun y hy => hx y (by simp [hy])) l' hl u hu
    · simp at h
theorem reads_congr {M : Nat → Prop} {s s' : AS} {nm f : Nat} {xs xs' : Option (List AV)} {D : Eff → Prop} (hx : xs = xs') (hok : ∀ l, xs = some l → ∀ v ∈ l, AV.ok M v) (hbox : ∀ t, M t → s.box t = s'.box t)
    (hcl : ∀ t b, M t → s.box t = some b → ∀ x ∈ b.cells, SV.ok M x) (h : Reads P nm f xs s D) : Reads P nm f xs' s' D := by
  obtain ⟨l, need, h1, h2, h3⟩ := h
  refine ⟨l, need, hx ▸ h1, fun p hp => ?_, h3⟩
  rw [← hbox p.1 (h3.named M (hok l h1) (fun q hq hMq => hcl q.1 q.2 hMq (h2 q hq)) p hp)]
  exact h2 p hp
theorem does_congr' (henv : ∀ d ∈ o.looksAt ops, s.env d = s'.env d) (hM : ∀ x ∈ o.op.operands, ∀ v, s.opnd x = some v → AV.ok M v)
    (hbox : isLoad o.op = true ∨ isStore o.op = true → ∀ t, M t → s.box t = s'.box t) (hcl : isLoad o.op = true ∨ isStore o.op = true → ∀ t b, M t → s.box t = some b → ∀ x ∈ b.cells, SV.ok M x) {e : Eff} (h : Does P ops nm o s e) : Does P ops nm o s' e := by
  have hop : ∀ x ∈ o.op.operands, s.opnd x = s'.opnd x := fun x hx => opnd_congr fun t ht => henv t (mem_looksAt hx ht)
  have hrun : DoesRun P nm o s e → DoesRun P nm o s' e := fun hr => by
    have heff := effOf_congr (P := P) (nm := nm) hop hM hbox
    obtain ⟨dst, op, type, pos, after, guard⟩ := o
    cases op
    case call c =>
      obtain ⟨callee, xs, tys⟩ := c
      cases callee with
      | value f =>
        cases f with
        | func f =>
          have hxs : argsOf s xs.toList = argsOf s' xs.toList := argsOf_congr xs.toList (fun x hx => hop x (by simp [Op.operands, Call.operands]; exact Or.inr (by simpa using hx)))
          rcases hr with ⟨l, r, h1, h2, h3⟩ | hr
          · exact .inl ⟨l, r, hxs ▸ h1, h2, h3⟩
          · exact .inr (reads_congr hxs (argsOf_ok (fun x hx => hM x (by simp [Op.operands, Call.operands]; exact Or.inr (by simpa using hx)))) (hbox (Or.inl rfl)) (hcl (Or.inl rfl)) hr)
        | _ => exact heff.symm.trans hr
      | builtin b =>
        have hxs : argsOf s xs.toList = argsOf s' xs.toList := argsOf_congr xs.toList (fun x hx => hop x (by simpa [Op.operands, Call.operands] using hx))
        cases b <;> first
          | exact hr.elim
          | exact (congrArg (effLen (lenK P tys.toList)) hxs.symm).trans hr
      | invoke r m => exact heff.symm.trans hr
    all_goals exact heff.symm.trans hr
  unfold Does at h ⊢
  cases hg : o.guard with
  | none => rw [hg] at h; exact hrun h
  | some p =>
    obtain ⟨j, want⟩ := p
    rw [hg] at h
    simp only at h ⊢
    have hgv : guardAV ops s j = guardAV ops s' j := by
      unfold guardAV
      cases hp : ops[j]? with
      | none => rfl
      | some p =>
        simp only
        cases hd : p.dst with
        | none => rfl
        | some d => exact henv d (guard_looksAt hg hp hd)
    rw [← hgv]
    split at h
    · rename_i b hb
      exact ⟨fun hw => hrun (h.1 hw), h.2⟩
    · exact h.elim

theorem does_congr (henv : ∀ d ∈ o.looksAt ops, s.env d = s'.env d) (hn : ∀ d v, s.env d = some v → AV.ok M v)
    (hbox : isLoad o.op = true ∨ isStore o.op = true → ∀ t, M t → s.box t = s'.box t) (hcl : isLoad o.op = true ∨ isStore o.op = true → ∀ t b, M t → s.box t = some b → ∀ x ∈ b.cells, SV.ok M x) {e : Eff} (h : Does P ops nm o s e) : Does P ops nm o s' e :=
  does_congr' henv (fun x _ v hv => by
    cases x with
    | tmp t => exact hn t v hv
    | const c =>
      cases c <;> simp only [AS.opnd, Option.some.injEq, Option.ite_none_right_eq_some] at hv <;> try (subst hv; trivial)
      rename_i cs
      obtain ⟨hall, rfl⟩ := hv
      intro x hx
      simp only [List.mem_map] at hx
      obtain ⟨v, hv, rfl⟩ := hx
      exact ⟨trivial, List.all_eq_true.1 hall v hv⟩
    | global n => simp only [AS.opnd, Option.some.injEq] at hv; subst hv; trivial
    | func f => simp only [AS.opnd, Option.some.injEq] at hv; subst hv; trivial) hbox hcl h

theorem doesS_congr (henv : ∀ d ∈ o.looksAt ops, s.env d = s'.env d) (hM : ∀ x ∈ o.op.operands, ∀ v, s.opnd x = some v → AV.ok M v)
    (hbox : isLoad o.op = true ∨ isStore o.op = true → ∀ t, M t → s.box t = s'.box t) (hcl : isLoad o.op = true ∨ isStore o.op = true → ∀ t b, M t → s.box t = some b → ∀ x ∈ b.cells, SV.ok M x) {D : Eff → Prop} (h : DoesS P ops nm o s D) : DoesS P ops nm o s' D := by
  have hop : ∀ x ∈ o.op.operands, s.opnd x = s'.opnd x := fun x hx => opnd_congr fun t ht => henv t (mem_looksAt hx ht)
  have hrun : DoesRunS P nm o s D → DoesRunS P nm o s' D := fun hr => by
    obtain ⟨dst, op, type, pos, after, guard⟩ := o
    cases op
    case call c =>
      obtain ⟨callee, xs, tys⟩ := c
      cases callee with
      | value f =>
        cases f with
        | func f =>
          have hxs : argsOf s xs.toList = argsOf s' xs.toList := argsOf_congr xs.toList (fun x hx => hop x (by simp [Op.operands, Call.operands]; exact Or.inr (by simpa using hx)))
          exact reads_congr hxs (argsOf_ok (fun x hx => hM x (by simp [Op.operands, Call.operands]; exact Or.inr (by simpa using hx)))) (hbox (Or.inl rfl)) (hcl (Or.inl rfl)) hr
        | _ => exact hr.elim
      | _ => exact hr.elim
    all_goals exact hr.elim
  unfold DoesS at h ⊢
  cases hg : o.guard with
  | none => rw [hg] at h; exact hrun h
  | some p =>
    obtain ⟨j, want⟩ := p
    rw [hg] at h
    simp only at h ⊢
    have hgv : guardAV ops s j = guardAV ops s' j := by
      unfold guardAV
      cases hp : ops[j]? with
      | none => rfl
      | some p =>
        simp only
        cases hd : p.dst with
        | none => rfl
        | some d => exact henv d (guard_looksAt hg hp hd)
    rw [← hgv]
    split at h
    · rename_i b hb
      exact ⟨fun hw => hrun (h.1 hw), h.2⟩
    · exact h.elim

/-- What such an operation comes to in the model: it runs by itself, or it enters a function whose contract is known. -/
theorem does_exec (h : Rep W N w0 M g s a w) (hnm : ¬ M nm) {e : Eff} (hd : DoesRun P nm o s e) :
    Runs P W N w0 M g s a nm (execOp a.eval o) w e ∨
    ∃ f l, (execOp a.eval o).run P w = .ok (.enter f (l.map (AV.conc g)).toArray) w ∧ Hands P f l nm (fun d => d = e) W N w0 M g s a w := by
  obtain ⟨dst, op, type, pos, after, guard⟩ := o
  cases op
  case call c =>
    obtain ⟨callee, xs, tys⟩ := c
    have hargs : ∀ l, argsOf s xs.toList = some l → xs.map a.eval = (l.map (AV.conc g)).toArray := fun l hl => by
      apply Array.ext'
      rw [Array.toList_map, (argsOf_eval h _ _ hl).1]
    cases callee with
    | value f =>
      cases f with
      | func f =>
        rcases hd with ⟨l, r, h1, h2, rfl⟩ | ⟨l, need, h1, h2, h3⟩
        · rcases h2 with ⟨hc, hf⟩ | ⟨hok, hrun⟩
          · right
            refine ⟨f, l, ?_, ?_⟩
            · rw [run_call f xs tys dst type pos after guard a.eval rfl w, callFunc_enter hc, hargs l h1]
            · unfold Hands
              rw [show l.map (AV.conc g) = l.map AV.val from List.map_congr_left fun x hx => AV.plain_conc (List.all_eq_true.1 hf.args x hx) g]
              refine (hf.call w h.laid).mono ?_
              rintro ex w' ⟨v, rfl, rfl, hkept⟩
              exact ⟨_, v, g, rfl, rfl, by rw [AV.plain_conc (hf.res v rfl)], fun _ _ => rfl, (h.kept hkept).mono (fun _ hn => Or.inl hn), AV.plain_ok (hf.res v rfl)⟩
          · left
            refine ⟨g, w, _, ?_, fun _ _ => rfl, h.mono fun _ hn => Or.inl hn, rfl, AV.ok_mono (fun _ h => h.elim) hok⟩
            rw [run_call f xs tys dst type pos after guard a.eval rfl w, hargs l h1, hrun]
        · right
          exact ⟨f, l, by rw [run_call f xs tys dst type pos after guard a.eval rfl w, callFunc_enter h3.body, hargs l h1], h3.call W N w0 M g s a w h hnm (argsOf_eval h _ _ h1).2 h2⟩
      | _ => exact .inl (eff_sound h hnm hd)
    | builtin b =>
      by_cases hb : b = .len
      · subst hb
        have hd' : effLen (lenK P tys.toList) (argsOf s xs.toList) = some e := hd
        cases hl : argsOf s xs.toList with
        | none => rw [hl] at hd'; simp [effLen] at hd'
        | some l =>
          rw [hl] at hd'
          obtain ⟨n, rfl, hrun⟩ := run_len (type := type) (cs := xs.map isConst) hd'
          left
          refine ⟨g, w, _, ?_, fun _ _ => rfl, h.mono fun _ hn => Or.inl hn, rfl, trivial⟩
          simp only [execOp, resolve, Sem.run_bind, Sem.run_pure, Result.andThen_ok, invoke]
          refine Eq.trans (congrArg (fun c => Sem.run P (builtin .len tys type c (xs.map a.eval)) w) (?_ : _ = xs.map isConst)) ?_
          · apply Array.map_congr_left; intro x _; cases x <;> rfl
          · rw [hargs l hl]; exact hrun g w
      · cases b <;> first
          | exact hd.elim
          | exact absurd rfl hb
    | invoke r m => exact .inl (eff_sound h hnm hd)
  all_goals exact .inl (eff_sound h hnm hd)

theorem doesS_exec (h : Rep W N w0 M g s a w) (hnm : ¬ M nm) {D : Eff → Prop} (hd : DoesRunS P nm o s D) :
    ∃ f l, (execOp a.eval o).run P w = .ok (.enter f (l.map (AV.conc g)).toArray) w ∧ Hands P f l nm D W N w0 M g s a w := by
  obtain ⟨dst, op, type, pos, after, guard⟩ := o
  cases op
  case call c =>
    obtain ⟨callee, xs, tys⟩ := c
    have hargs : ∀ l, argsOf s xs.toList = some l → xs.map a.eval = (l.map (AV.conc g)).toArray := fun l hl => by
      apply Array.ext'
      rw [Array.toList_map, (argsOf_eval h _ _ hl).1]
    cases callee with
    | value f =>
      cases f with
      | func f =>
        obtain ⟨l, need, h1, h2, h3⟩ := hd
        exact ⟨f, l, by rw [run_call f xs tys dst type pos after guard a.eval rfl w, callFunc_enter h3.body, hargs l h1], h3.call W N w0 M g s a w h hnm (argsOf_eval h _ _ h1).2 h2⟩
      | _ => exact hd.elim
    | _ => exact hd.elim
  all_goals exact hd.elim

theorem does_guard (h : Rep W N w0 M g s a w) {e : Eff} (hd : Does P ops nm o s e) :
    (Region.wanted o (yielded ops a.tmps) = true ∧ DoesRun P nm o s e) ∨ (Region.wanted o (yielded ops a.tmps) = false ∧ e = (some (V undef), none)) := by
  unfold Does at hd
  cases hg : o.guard with
  | none => rw [hg] at hd; exact .inl ⟨by simp [Region.wanted, hg], hd⟩
  | some p =>
    obtain ⟨j, want⟩ := p
    rw [hg] at hd
    simp only at hd
    split at hd
    · rename_i b hb
      have hy := wanted_guard h hg hb
      by_cases hbw : b = want
      · exact .inl ⟨by rw [hy]; simp [hbw], hd.1 hbw⟩
      · exact .inr ⟨by rw [hy]; simp [hbw], hd.2 hbw⟩
    · exact hd.elim

theorem doesS_guard (h : Rep W N w0 M g s a w) {D : Eff → Prop} (hd : DoesS P ops nm o s D) :
    (Region.wanted o (yielded ops a.tmps) = true ∧ DoesRunS P nm o s D) ∨ (Region.wanted o (yielded ops a.tmps) = false ∧ D = fun e => e = (some (V undef), none)) := by
  unfold DoesS at hd
  cases hg : o.guard with
  | none => rw [hg] at hd; exact .inl ⟨by simp [Region.wanted, hg], hd⟩
  | some p =>
    obtain ⟨j, want⟩ := p
    rw [hg] at hd
    simp only at hd
    split at hd
    · rename_i b hb
      have hy := wanted_guard h hg hb
      by_cases hbw : b = want
      · exact .inl ⟨by rw [hy]; simp [hbw], hd.1 hbw⟩
      · exact .inr ⟨by rw [hy]; simp [hbw], hd.2 hbw⟩
    · exact hd.elim

theorem runs_app (hn : ¬ M nm) (hd : ∀ d, o.dst = some d → d < N) {e : Eff} {g' : Where} {w' : World} {r : Next} {sem : Sem Next} (hr : RunsTo P W N w0 M g g' s a nm sem w w' r e) :
    ∃ u, (r = .value u ∨ (r = .skip ∧ u = undef)) ∧ Rep W N w0 (fun n => M n ∨ n = nm) g' (app nm o e s) (a.put o.dst u) w' := by
  have hval := hr.val
  unfold app
  cases h1 : e.1 with
  | none => rw [h1] at hval; simp only at hval; exact ⟨undef, .inr ⟨hval, rfl⟩, hr.rep.putNone undef⟩
  | some v => rw [h1] at hval; simp only at hval; exact ⟨_, .inl hval.1, hr.rep.put hd hval.2⟩

theorem hands_wp {f : Nat} {l : List AV} {D : Eff → Prop} {Q : Exit → Act → World → Prop} (hnm : ¬ M nm) (hdst : ∀ d, o.dst = some d → d < N)
    (hrun : (execOp a.eval o).run P w = .ok (.enter f (l.map (AV.conc g)).toArray) w) (hh : Hands P f l nm D W N w0 M g s a w)
    {next : Act → World → Prop} (hK : ∀ e g' a' w', D e → Rep W N w0 (fun n => M n ∨ n = nm) g' (app nm o e s) a' w' → next a' w') : o.wp P a w next Q := by
  unfold Oper.wp
  rw [hrun]
  simp only [Oper.upon]
  refine Calls.mono hh ?_
  rintro ex w' ⟨e, v, g', hD, hv, rfl, hsame, hrep, hok⟩
  refine hK e g' _ w' hD ?_
  have := hrep.put hdst hok
  unfold app
  rw [hv]
  exact this
theorem does_wp {Q : Exit → Act → World → Prop} {i : Nat} (hi : ops[i]? = some o) (h : Rep W N w0 M g s a w) (hnm : ¬ M nm) (hdst : ∀ d, o.dst = some d → d < N) {e : Eff} (hd : Does P ops nm o s e)
    {next : Act → World → Prop} (hK : ∀ g' a' w', Rep W N w0 (fun n => M n ∨ n = nm) g' (app nm o e s) a' w' → next a' w') : wpOp P ops Q i next a w := by
  unfold wpOp
  simp only [hi]
  rcases does_guard h hd with ⟨hw, hr⟩ | ⟨hw, rfl⟩
  · rw [if_pos hw]
    left
    rcases does_exec h hnm hr with ⟨g', w', r, hrun⟩ | ⟨f, l, hrun, hf⟩
    · obtain ⟨u, hu, hrep⟩ := runs_app (o := o) hnm hdst hrun
      unfold Oper.wp
      rw [hrun.run]
      rcases hu with rfl | ⟨rfl, rfl⟩
      · exact hK _ _ _ hrep
      · exact hK _ _ _ hrep
    · exact hands_wp hnm hdst hrun hf (fun e' g' a' w' he hrep => by subst he; exact hK _ _ _ hrep)
  · rw [if_neg (by simp [hw])]
    exact hK _ _ _ ((h.mono (M' := fun n => M n ∨ n = nm) fun _ hn => Or.inl hn).put hdst (v := V undef) trivial)
theorem doesS_wp {Q : Exit → Act → World → Prop} {i : Nat} (hi : ops[i]? = some o) (h : Rep W N w0 M g s a w) (hnm : ¬ M nm) (hdst : ∀ d, o.dst = some d → d < N) {D : Eff → Prop} (hd : DoesS P ops nm o s D)
    {next : Act → World → Prop} (hK : ∀ e g' a' w', D e → Rep W N w0 (fun n => M n ∨ n = nm) g' (app nm o e s) a' w' → next a' w') : wpOp P ops Q i next a w := by
  unfold wpOp
  simp only [hi]
  rcases doesS_guard h hd with ⟨hw, hr⟩ | ⟨hw, rfl⟩
  · rw [if_pos hw]
    left
    obtain ⟨f, l, hrun, hf⟩ := doesS_exec h hnm hr
    exact hands_wp hnm hdst hrun hf hK
  · rw [if_neg (by simp [hw])]
    exact hK _ _ _ _ rfl ((h.mono (M' := fun n => M n ∨ n = nm) fun _ hn => Or.inl hn).put hdst (v := V undef) trivial)

theorem does_rep (h : Rep W N w0 M g s a w) (hnm : ¬ M nm) (hdst : ∀ d, o.dst = some d → d < N) {e : Eff} (hd : Does P ops nm o s e) :
    ∃ g' a' w', Rep W N w0 (fun n => M n ∨ n = nm) g' (app nm o e s) a' w' := by
  rcases does_guard h hd with ⟨_, hr⟩ | ⟨_, rfl⟩
  · rcases does_exec h hnm hr with ⟨g', w', r, hrun⟩ | ⟨f, l, hrun, hf⟩
    · obtain ⟨u, _, hrep⟩ := runs_app (o := o) hnm hdst hrun
      exact ⟨_, _, _, hrep⟩
    · obtain ⟨ex, w', fr, ⟨e', v, g', rfl, hv, rfl, hsame, hrep, hok⟩, _⟩ := hf []
      have := hrep.put hdst hok
      unfold app
      rw [hv]
      exact ⟨_, _, _, this⟩
  · exact ⟨_, _, _, (h.mono (M' := fun n => M n ∨ n = nm) fun _ hn => Or.inl hn).put hdst (v := V undef) trivial⟩

/-- What an operation does to memory: a store alone writes a box, one that is named. -/
theorem eff_mem {op : Op} {e : Eff} (he : effOf P nm s op = some e) :
    (isStore op = false ∧ (e.2 = none ∨ ∃ cs, e.2 = some (.inl cs))) ∨
    (isStore op = true ∧ ∃ t u x y b k bx, op = .store t x y ∧ s.opnd x = some (Ptr b k) ∧ u = b ∧ e.2 = some (.inr (u, bx))) := by
  cases op <;> simp only [effOf, reduceCtorEq] at he
  case store t x y =>
    right
    refine ⟨rfl, ?_⟩
    unfold effStore at he
    split at he
    · rename_i b k new ag n hx hc ht
      split at he
      · split at he
        · simp only [Option.some.injEq] at he; subst he
          exact ⟨t, b, x, y, b, k, _, rfl, hx, rfl, rfl⟩
        · simp at he
      · simp at he
    · simp at he
  case alloc t =>
    left; refine ⟨rfl, ?_⟩
    unfold effAlloc at he
    split at he
    · split at he
      · simp only [Option.some.injEq] at he; subst he; exact .inr ⟨_, rfl⟩
      · simp at he
    · simp at he
  case box t x =>
    left; refine ⟨rfl, ?_⟩
    unfold effBox at he
    split at he
    · simp only [Option.some.injEq] at he; subst he; exact .inr ⟨_, rfl⟩
    · simp at he
  case move x => left; refine ⟨rfl, .inl ?_⟩; split at he <;> simp at he; subst he; rfl
  case assign x => left; refine ⟨rfl, .inl ?_⟩; split at he <;> simp at he; subst he; rfl
  case build t l =>
    left; refine ⟨rfl, .inl ?_⟩
    unfold effBuild at he
    split at he
    · split at he
      · simp only [Option.some.injEq] at he; subst he; rfl
      · simp at he
    · simp at he
  case load t x =>
    left; refine ⟨rfl, .inl ?_⟩
    unfold effLoad at he
    split at he
    · split at he
      · split at he
        · simp only [Option.some.injEq] at he; subst he; rfl
        · simp at he
      · split at he
        · simp only [Option.some.injEq] at he; subst he; rfl
        · simp at he
      · simp at he
    · split at he
      · split at he
        · simp only [Option.some.injEq] at he; subst he; rfl
        · simp at he
      · split at he
        · simp only [Option.some.injEq] at he; subst he; rfl
        · simp at he
      · simp at he
    · simp at he
  case binOp o t x y u =>
    left; refine ⟨rfl, .inl ?_⟩
    cases hx : s.opnd x with
    | none => rw [hx] at he; simp [effB2, effBin] at he
    | some v =>
      cases hy : s.opnd y with
      | none => rw [hx, hy] at he; simp [effB2, effBin] at he
      | some u' =>
        rw [hx, hy] at he
        obtain ⟨r, rfl, _, _⟩ := run_b2 (M := fun _ => True) (g := fun _ => (0, 0)) (w := default) (P := P) (t := t) (x := x) (y := y) he rfl rfl
        rfl
  case unOp o t x =>
    left; refine ⟨rfl, .inl ?_⟩
    unfold effUn at he
    split at he <;> simp at he <;> subst he <;> rfl
  case convert t u x =>
    left; refine ⟨rfl, .inl ?_⟩
    unfold effConvS at he
    split at he
    · split at he
      · unfold convB at he
        split at he
        · simp only [Option.some.injEq] at he; subst he; rfl
        · simp at he
      · simp at he
    · unfold effConvert at he
      split at he <;> simp at he; subst he; rfl
  case sliceToArrayPointer t x =>
    left; refine ⟨rfl, .inl ?_⟩
    unfold effArrAt at he
    split at he
    · split at he
      · simp only [Option.some.injEq] at he; subst he; rfl
      · simp at he
    · simp at he
  case fieldAddr t x f =>
    left; refine ⟨rfl, .inl ?_⟩
    unfold effFieldAddr at he
    split at he <;> simp at he; subst he; rfl
  case field t x f =>
    left; refine ⟨rfl, .inl ?_⟩
    unfold effField at he
    split at he
    · simp only [Option.some.injEq] at he; subst he; rfl
    · split at he
      · simp only [Option.some.injEq] at he; subst he; rfl
      · simp at he
    · simp at he
  case indexAddr t x i =>
    left; refine ⟨rfl, .inl ?_⟩
    unfold effIndexAddr at he
    split at he
    · split at he
      · split at he
        · simp only [Option.some.injEq] at he; subst he; rfl
        · simp at he
      · simp at he
    · split at he
      · split at he
        · simp only [Option.some.injEq] at he; subst he; rfl
        · simp at he
      · simp at he
    · split at he
      · split at he
        · simp only [Option.some.injEq] at he; subst he; rfl
        · simp at he
      · simp at he
    · simp at he
  case index t x i =>
    left; refine ⟨rfl, .inl ?_⟩
    unfold effIndex at he
    split at he
    · split at he
      · split at he
        · simp only [Option.some.injEq] at he; subst he; rfl
        · simp at he
      · simp at he
    · split at he
      · simp only [Option.some.injEq] at he; subst he; rfl
      · simp at he
    · simp at he
  case slice t x lo hi mx =>
    left; refine ⟨rfl, .inl ?_⟩
    cases mx with
    | some _ => simp [effOf] at he
    | none =>
      simp only [effOf] at he
      unfold effSlice at he
      split at he
      · unfold slB at he
        split at he
        · simp only [Option.some.injEq] at he; subst he; rfl
        · simp at he
      · unfold slB at he
        split at he
        · simp only [Option.some.injEq] at he; subst he; rfl
        · simp at he
      · unfold slN at he
        split at he
        · simp only [Option.some.injEq] at he; subst he; rfl
        · simp at he
      · simp at he
  case makeSlice t l c =>
    left; refine ⟨rfl, .inr ?_⟩
    unfold effMake at he
    split at he
    · split at he
      · simp only [Option.some.injEq] at he; subst he; exact ⟨_, rfl⟩
      · simp at he
    · simp at he
  case buildSlice t n parts =>
    left; refine ⟨rfl, .inr ?_⟩
    unfold effBuildS at he
    split at he
    · split at he
      · split at he
        · simp only [Option.some.injEq] at he; subst he; exact ⟨_, rfl⟩
        · simp at he
      · simp at he
    · simp at he
  case nilCheck x =>
    left; refine ⟨rfl, .inl ?_⟩
    unfold effNil at he
    split at he
    · simp only [Option.some.injEq] at he; subst he; rfl
    · simp at he
  case pick c x y =>
    left; refine ⟨rfl, .inl ?_⟩
    unfold effPick at he
    split at he
    · unfold pickO at he
      split at he
      · simp only [Option.some.injEq] at he; subst he; rfl
      · simp at he
    · simp at he
  case extract x i =>
    left; refine ⟨rfl, .inl ?_⟩
    unfold effExtract at he
    split at he
    · split at he
      · simp only [Option.some.injEq] at he; subst he; rfl
      · simp at he
    · simp at he
theorem doesRun_mem {e : Eff} (hd : DoesRun P nm o s e) (hn : Names M s) :
    (isStore o.op = false ∧ (e.2 = none ∨ ∃ cs, e.2 = some (.inl cs))) ∨ (isStore o.op = true ∧ ∃ u bx, M u ∧ e.2 = some (.inr (u, bx))) := by
  obtain ⟨dst, op, type, pos, after, guard⟩ := o
  have key : effOf P nm s op = some e → (isStore op = false ∧ (e.2 = none ∨ ∃ cs, e.2 = some (.inl cs))) ∨ (isStore op = true ∧ ∃ u bx, M u ∧ e.2 = some (.inr (u, bx))) := fun he => by
    rcases eff_mem he with h | ⟨h, t, u, x, y, b, k, bx, rfl, hx, rfl, he2⟩
    · exact .inl h
    · exact .inr ⟨h, u, bx, hn.opnd hx, he2⟩
  cases op
  case call c =>
    obtain ⟨callee, xs, tys⟩ := c
    cases callee with
    | value f =>
      cases f with
      | func f =>
        rcases hd with ⟨l, r, _, _, rfl⟩ | ⟨l, need, _, _, h3⟩
        · exact .inl ⟨rfl, .inl rfl⟩
        · exact .inl ⟨rfl, h3.mem e rfl⟩
      | _ => exact key hd
    | builtin b =>
      by_cases hb : b = .len
      · subst hb
        have hd' : effLen (lenK P tys.toList) (argsOf s xs.toList) = some e := hd
        cases hl : argsOf s xs.toList with
        | none => rw [hl] at hd'; simp [effLen] at hd'
        | some l =>
          rw [hl] at hd'
          obtain ⟨n, rfl, _⟩ := run_len (type := type) (cs := xs.map isConst) hd'
          exact .inl ⟨rfl, .inl rfl⟩
      · cases b <;> first
          | exact hd.elim
          | exact absurd rfl hb
    | invoke r m => exact key hd
  all_goals exact key hd
theorem does_mem {e : Eff} (hd : Does P ops nm o s e) (hn : Names M s) :
    (e.2 = none ∨ ∃ cs, e.2 = some (.inl cs)) ∨ (isStore o.op = true ∧ ∃ u bx, M u ∧ e.2 = some (.inr (u, bx))) := by
  have key : DoesRun P nm o s e → (e.2 = none ∨ ∃ cs, e.2 = some (.inl cs)) ∨ (isStore o.op = true ∧ ∃ u bx, M u ∧ e.2 = some (.inr (u, bx))) := fun hr => by
    rcases doesRun_mem hr hn with h | h
    · exact .inl h.2
    · exact .inr h
  unfold Does at hd
  split at hd
  · exact key hd
  · split at hd
    · exact (Decidable.em _).elim (fun hbw => key (hd.1 hbw)) (fun hbw => by rw [hd.2 hbw]; exact .inl (.inl rfl))
    · exact hd.elim

theorem doesS_mem {D : Eff → Prop} (hd : DoesS P ops nm o s D) {e : Eff} (he : D e) : e.2 = none ∨ ∃ cs, e.2 = some (.inl cs) := by
  have key : DoesRunS P nm o s D → e.2 = none ∨ ∃ cs, e.2 = some (.inl cs) := fun hr => by
    obtain ⟨dst, op, type, pos, after, guard⟩ := o
    cases op
    case call c =>
      obtain ⟨callee, xs, tys⟩ := c
      cases callee with
      | value f =>
        cases f with
        | func f => obtain ⟨l, need, _, _, h3⟩ := hr; exact h3.mem e he
        | _ => exact hr.elim
      | _ => exact hr.elim
    all_goals exact hr.elim
  unfold DoesS at hd
  split at hd
  · exact key hd
  · split at hd
    · exact (Decidable.em _).elim (fun hbw => key (hd.1 hbw)) (fun hbw => by rw [hd.2 hbw] at he; rw [he]; exact .inl rfl)
    · exact hd.elim

/-! ### Two independent operations change places -/
theorem apartB_spec {x y : Oper} (h : apartB ops x y = true) :
    (∀ d, x.dst = some d → d ∉ y.looksAt ops) ∧ (∀ d, x.dst = some d → y.dst ≠ some d) ∧ (∀ d, y.dst = some d → d ∉ x.looksAt ops) ∧
      (isStore x.op = true → isStore y.op = false ∧ isLoad y.op = false) ∧ (isStore y.op = true → isLoad x.op = false) := by
  simp only [apartB, Bool.and_eq_true, Bool.not_eq_true', Bool.and_eq_false_iff, Bool.or_eq_false_iff] at h
  obtain ⟨⟨⟨h1, h2⟩, h3⟩, h4⟩ := h
  refine ⟨fun d hd => ?_, fun d hd => ?_, fun d hd => ?_, fun hx => ?_, fun hy => ?_⟩
  · rw [hd] at h1; simp at h1; exact h1.1
  · rw [hd] at h1; simp at h1; exact h1.2
  · rw [hd] at h2; simp at h2; exact h2
  · rcases h3 with h3 | h3
    · rw [hx] at h3; simp at h3
    · exact h3
  · rcases h4 with h4 | h4
    · rw [hy] at h4; simp at h4
    · exact h4

theorem app_env_of {x : Oper} {e : Eff} {d : Nat} (hd : ∀ k, x.dst = some k → d ≠ k) : (app nm x e s).env d = s.env d := by
  unfold app AS.put
  have hm : (s.mem nm e.2).env = s.env := by unfold AS.mem; split <;> rfl
  cases hx : x.dst with
  | none => simp only [hm]
  | some k => simp only [hm]; exact upd_ne _ _ _ _ (hd k hx)
theorem app_box {x : Oper} {e : Eff} : (app nm x e s).box = (s.mem nm e.2).box := by
  unfold app AS.put; split <;> rfl

/-- An effect that writes at most a box that is named, and that only where the operation is a store. -/
def MemOk (M : Nat → Prop) (x : Oper) (ex : Eff) : Prop := (ex.2 = none ∨ ∃ cs, ex.2 = some (.inl cs)) ∨ (isStore x.op = true ∧ ∃ u bx, M u ∧ ex.2 = some (.inr (u, bx)))
/-- What x does leaves alone what y looks at. -/
theorem does_past {x y : Oper} {n1 n2 : Nat} {ex ey : Eff} (hxy : ∀ d, x.dst = some d → d ∉ y.looksAt ops) (hst : isStore x.op = true → isStore y.op = false ∧ isLoad y.op = false)
    (hn : Names M s) (h1 : ¬ M n1) (hx : MemOk M x ex) : (Does P ops n2 y s ey → Does P ops n2 y (app n1 x ex s) ey) ∧ (Does P ops n2 y (app n1 x ex s) ey → Does P ops n2 y s ey) ∧
      ∀ D, DoesS P ops n2 y (app n1 x ex s) D → DoesS P ops n2 y s D := by
  have henv : ∀ d ∈ y.looksAt ops, s.env d = (app n1 x ex s).env d := fun d hd => (app_env_of fun k hk e => hxy k hk (e ▸ hd)).symm
  have hbox : isLoad y.op = true ∨ isStore y.op = true → ∀ t, M t → s.box t = (app n1 x ex s).box t := fun hy t ht => by
    rw [app_box]
    rcases hx with (h | ⟨cs, h⟩) | ⟨hs, u, bx, hu, h⟩
    · rw [h]; rfl
    · rw [h]; simp only [AS.mem]; exact (upd_ne _ _ _ _ (fun e => h1 (by rw [← e]; exact ht))).symm
    · have := hst hs
      rcases hy with hy | hy <;> simp_all
  have hop : ∀ z ∈ y.op.operands, ∀ v, s.opnd z = some v → AV.ok M v := fun z _ v hv => hn.opnd hv
  have hback : ∀ z ∈ y.op.operands, ∀ v, (app n1 x ex s).opnd z = some v → AV.ok M v := fun z hz v hv => by
    have : s.opnd z = (app n1 x ex s).opnd z := opnd_congr fun t ht => henv t (mem_looksAt hz ht)
    rw [← this] at hv; exact hn.opnd hv
  have hcl : isLoad y.op = true ∨ isStore y.op = true → ∀ t b, M t → (app n1 x ex s).box t = some b → ∀ x ∈ b.cells, SV.ok M x := fun hy t b ht hb => (hn.box t b ((hbox hy t ht).trans hb)).2
  exact ⟨fun h => does_congr henv (hn.env) hbox (fun _ t b _ hb => (hn.box t b hb).2) h, fun h => does_congr' (fun d hd => (henv d hd).symm) hback (fun hy t ht => (hbox hy t ht).symm) hcl h,
    fun D h => doesS_congr (fun d hd => (henv d hd).symm) hback (fun hy t ht => (hbox hy t ht).symm) hcl h⟩
theorem app_comm {x y : Oper} {n1 n2 : Nat} {ex ey : Eff} (hd : ∀ d, x.dst = some d → y.dst ≠ some d) (hne : n1 ≠ n2) (h1 : ¬ M n1) (h2 : ¬ M n2)
    (hst : isStore x.op = true → isStore y.op = false) (hx : MemOk M x ex) (hy : MemOk M y ey) :
    app n2 y ey (app n1 x ex s) = app n1 x ex (app n2 y ey s) := by
  have hmem : ∀ (s : AS) (n : Nat) (m : Mem), (s.mem n m).env = s.env ∧ (s.mem n m).next = s.next := fun s n m => by unfold AS.mem; split <;> exact ⟨rfl, rfl⟩
  have henv : ∀ (s : AS) (n : Nat) (z : Oper) (e : Eff), (app n z e s).env = (match z.dst with | none => s.env | some d => upd s.env d e.1) := fun s n z e => by
    unfold app AS.put; cases z.dst <;> simp [(hmem s n e.2).1]
  have hnext : ∀ (s : AS) (n : Nat) (z : Oper) (e : Eff), (app n z e s).next = s.next := fun s n z e => by
    unfold app AS.put; cases z.dst <;> simp [(hmem s n e.2).2]
  have hbx : ∀ (s : AS) (n : Nat) (m : Mem), (s.mem n m).box = (match m with | none => s.box | some (.inl cs) => upd s.box n (some ⟨true, cs⟩) | some (.inr (t, b)) => upd s.box t (some b)) := fun s n m => by
    unfold AS.mem; split <;> rfl
  have hext : ∀ (p q : AS), p.env = q.env → p.box = q.box → p.next = q.next → p = q := fun p q h1 h2 h3 => by cases p; cases q; simp_all
  apply hext
  · rw [henv, henv, henv, henv]
    cases hx' : x.dst with
    | none => rfl
    | some d =>
      cases hy' : y.dst with
      | none => rfl
      | some d' => exact upd_comm _ _ _ _ _ (fun e => hd d hx' (by rw [hy', e]))
  · rw [app_box, app_box, hbx, hbx, app_box, app_box, hbx, hbx]
    rcases hx with (h | ⟨cs, h⟩) | ⟨hs, u, bx, hu, h⟩ <;> rcases hy with (k | ⟨cs', k⟩) | ⟨hs', u', bx', hu', k⟩ <;> rw [h, k] <;> simp only
    · exact upd_comm _ _ _ _ _ hne
    · exact upd_comm _ _ _ _ _ (fun e => h1 (by rw [e]; exact hu'))
    · exact upd_comm _ _ _ _ _ (fun e => h2 (by rw [← e]; exact hu))
    · have := hst hs; rw [hs'] at this; simp at this
  · rw [hnext, hnext, hnext, hnext]

/-! ### Any operation that waits for none of those ahead of it may come first -/
def vcRem (P : Program) [Tables P] (ops : Array Oper) (base : Nat) (l : List (Nat × Oper)) (K : AS → Prop) (s : AS) : Prop := match l with
  | [] => K s
  | (i, o) :: rest => vcOpD P ops i (base + i) o (vcRem P ops base rest K) s
theorem late_of_bar {i : Nat} (h : bar ops i = true) : late ops i = true := by
  unfold bar at h; simp only [Bool.and_eq_true] at h; exact h.1
theorem front {base : Nat} {K : AS → Prop} {i : Nat} {oi : Oper} : ∀ (pre post : List (Nat × Oper)) (M : Nat → Prop) (g : Where) (s : AS) (a : Act) (w : World),
    (∀ p ∈ pre, apartB ops p.2 oi = true ∧ p.1 ≠ i ∧ ∀ d, p.2.dst = some d → d < N) → (∀ p ∈ pre, late ops p.1 = false) → (pre ≠ [] → bar ops i = false) → (∀ p ∈ pre, ¬ M (base + p.1)) → ¬ M (base + i) → (pre.map Prod.fst).Nodup →
    Rep W N w0 M g s a w → vcRem P ops base (pre ++ (i, oi) :: post) K s → vcOpD P ops i (base + i) oi (vcRem P ops base (pre ++ post) K) s
  | [], post, M, g, s, a, w, _, _, _, _, _, _, _, h => h
  | (j, oj) :: pre, post, M, g, s, a, w, hap, hlate, hbar, hfresh, hi, hnd, hrep, h => by
    have hjl : late ops j = false := hlate (j, oj) (by simp)
    have hib : bar ops i = false := hbar (by simp)
    rcases h with ⟨ej, hdj, hrest⟩ | ⟨hl, _⟩ | ⟨hb, _⟩
    · have hj := hap (j, oj) (by simp)
      have hjf : ¬ M (base + j) := hfresh (j, oj) (by simp)
      obtain ⟨g', a', w', hrep'⟩ := does_rep (nm := base + j) hrep hjf hj.2.2 hdj
      simp only [List.map_cons, List.nodup_cons] at hnd
      have ih := front pre post (fun n => M n ∨ n = base + j) g' _ a' w' (fun p hp => hap p (by simp [hp])) (fun p hp => hlate p (by simp [hp])) (fun _ => hib)
        (fun p hp hM => by
          rcases hM with hM | hM
          · exact hfresh p (by simp [hp]) hM
          · have : p.1 = j := by omega
            exact hnd.1 (this ▸ List.mem_map_of_mem hp))
        (fun hM => by rcases hM with hM | hM; exact hi hM; exact hj.2.1 (by omega)) hnd.2 hrep' hrest
      obtain ⟨a1, a2, a3, a4, a5⟩ := apartB_spec hj.1
      have a6 : isStore oi.op = true → isStore oj.op = false ∧ isLoad oj.op = false := fun hs => by
        refine ⟨?_, a5 hs⟩
        cases hsj : isStore oj.op with
        | false => rfl
        | true => have := (a4 hsj).1; rw [hs] at this; simp at this
      have mj : MemOk M oj ej := does_mem hdj hrep.names
      rcases ih with ⟨ei, hdi, hk⟩ | ⟨hl, D, hD, hk⟩ | ⟨hb, _⟩
      · have hdi' : Does P ops (base + i) oi s ei := (does_past (ey := ei) (n2 := base + i) a1 a4 hrep.names hjf mj).2.1 hdi
        have mi : MemOk M oi ei := does_mem hdi' hrep.names
        have hdj' : Does P ops (base + j) oj (app (base + i) oi ei s) ej := (does_past (ey := ej) (n2 := base + j) a3 a6 hrep.names hi mi).1 hdj
        refine .inl ⟨ei, hdi', .inl ⟨ej, hdj', ?_⟩⟩
        rw [← app_comm (n1 := base + j) (n2 := base + i) (x := oj) (y := oi) a2 (fun e => hj.2.1 (by omega)) hjf hi (fun hs => (a4 hs).1) mj mi]
        exact hk
      · have hD' : DoesS P ops (base + i) oi s D := (does_past (ey := ej) (n2 := base + i) a1 a4 hrep.names hjf mj).2.2 D hD
        refine .inr (.inl ⟨hl, D, hD', fun ei hei => ?_⟩)
        have mi : MemOk M oi ei := .inl (doesS_mem hD' hei)
        have hdj' : Does P ops (base + j) oj (app (base + i) oi ei s) ej := (does_past (ey := ej) (n2 := base + j) a3 a6 hrep.names hi mi).1 hdj
        refine .inl ⟨ej, hdj', ?_⟩
        rw [← app_comm (n1 := base + j) (n2 := base + i) (x := oj) (y := oi) a2 (fun e => hj.2.1 (by omega)) hjf hi (fun hs => (a4 hs).1) mj mi]
        exact hk ei hei
      · rw [hib] at hb; cases hb
    · rw [hjl] at hl; cases hl
    · have := late_of_bar hb
      rw [hjl] at this; cases this

/-! ### The walk in the text's order serves every order -/
def remF (listed : Array Bool) (l : List Oper) (k : Nat) : List (Nat × Oper) := match l with
  | [] => []
  | o :: r => if listed.getD k true = true then remF listed r (k + 1) else (k, o) :: remF listed r (k + 1)
theorem remF_start {n : Nat} : ∀ (l : List Oper) (k : Nat), k + l.length ≤ n → ∀ {base : Nat} {K : AS → Prop} {s : AS}, vcOpsD P ops base l k K s →
    vcRem P ops base (remF (Array.replicate n false) l k) (fun s => K { s with next := base + (k + l.length) }) s
  | [], k, _, base, K, s, h => h
  | o :: r, k, hk, base, K, s, h => by
    simp only [List.length_cons] at hk
    have : (Array.replicate n false).getD k true = false := by
      simp [Array.getD_eq_getD_getElem?, show k < n by omega]
    simp only [remF, this, Bool.false_eq_true, if_false, vcRem]
    have step : ∀ s', vcOpsD P ops base r (k + 1) K s' → vcRem P ops base (remF (Array.replicate n false) r (k + 1)) (fun s => K { s with next := base + (k + (r.length + 1)) }) s' := fun s' hr => by
      have := remF_start (n := n) r (k + 1) (by omega) hr
      simpa only [List.length_cons, Nat.add_assoc, Nat.add_comm 1] using this
    rcases h with ⟨e, hd, hr⟩ | ⟨hl, D, hD, hr⟩ | ⟨hb, hr⟩
    · exact .inl ⟨e, hd, step _ hr⟩
    · exact .inr (.inl ⟨hl, D, hD, fun e he => step _ (hr e he)⟩)
    · exact .inr (.inr ⟨hb, vcOp_mono step hr⟩)
theorem remF_mem {listed : Array Bool} : ∀ (l : List Oper) (k : Nat) (p : Nat × Oper), p ∈ remF listed l k → k ≤ p.1 ∧ listed.getD p.1 true = false ∧ l[p.1 - k]? = some p.2
  | [], _, _, h => by simp [remF] at h
  | o :: r, k, p, h => by
    unfold remF at h
    have rest : p ∈ remF listed r (k + 1) → k ≤ p.1 ∧ listed.getD p.1 true = false ∧ (o :: r)[p.1 - k]? = some p.2 := fun h => by
      obtain ⟨h1, h2, h3⟩ := remF_mem r (k + 1) p h
      refine ⟨by omega, h2, ?_⟩
      rw [show p.1 - k = (p.1 - (k + 1)) + 1 by omega]
      simpa using h3
    split at h
    · exact rest h
    · rename_i hl
      rcases List.mem_cons.1 h with rfl | h
      · exact ⟨Nat.le_refl _, by simpa using hl, by simp⟩
      · exact rest h
theorem remF_same {listed : Array Bool} {i : Nat} : ∀ (l : List Oper) (k : Nat), i < k → remF (listed.setIfInBounds i true) l k = remF listed l k
  | [], _, _ => rfl
  | o :: r, k, h => by
    have : (listed.setIfInBounds i true).getD k true = listed.getD k true := by
      simp [Array.getD_eq_getD_getElem?, Array.getElem?_setIfInBounds_ne (show i ≠ k by omega)]
    simp only [remF, this, remF_same (listed := listed) (i := i) r (k + 1) (by omega)]
theorem remF_split {listed : Array Bool} {i : Nat} {o : Oper} (hi : listed.getD i true = false) : ∀ (l : List Oper) (k : Nat), k ≤ i → l[i - k]? = some o →
    ∃ pre post, remF listed l k = pre ++ (i, o) :: post ∧ remF (listed.setIfInBounds i true) l k = pre ++ post ∧ (∀ p ∈ pre, p.1 < i) ∧ (pre.map Prod.fst).Nodup ∧ (∀ p ∈ pre, p ∈ remF listed l k)
  | [], _, _, h => by simp at h
  | x :: r, k, hk, h => by
    by_cases e : i = k
    · subst e
      simp only [Nat.sub_self, List.getElem?_cons_zero, Option.some.injEq] at h; subst h
      have hsz : i < listed.size := by
        rcases Nat.lt_or_ge i listed.size with h | h
        · exact h
        · simp [Array.getD_eq_getD_getElem?, Array.getElem?_eq_none h] at hi
      refine ⟨[], remF listed r (i + 1), ?_, ?_, by simp, by simp, by simp⟩
      · simp only [remF, hi, Bool.false_eq_true, if_false, List.nil_append]
      · have : (listed.setIfInBounds i true).getD i true = true := by
          simp [Array.getD_eq_getD_getElem?, Array.getElem?_setIfInBounds_self_of_lt hsz]
        simp only [remF, this, if_true, List.nil_append]
        exact remF_same r (i + 1) (by omega)
    · have hk' : k + 1 ≤ i := by omega
      have h' : r[i - (k + 1)]? = some o := by
        rw [show i - k = (i - (k + 1)) + 1 by omega] at h
        simpa using h
      obtain ⟨pre, post, h1, h2, h3, h4, h5⟩ := remF_split hi r (k + 1) hk' h'
      have hne : (listed.setIfInBounds i true).getD k true = listed.getD k true := by
        simp [Array.getD_eq_getD_getElem?, Array.getElem?_setIfInBounds_ne e]
      by_cases hl : listed.getD k true = true
      · refine ⟨pre, post, ?_, ?_, h3, h4, ?_⟩
        · simp only [remF, hl, if_true, h1]
        · simp only [remF, hne, hl, if_true, h2]
        · simpa only [remF, hl, if_true] using h5
      · refine ⟨(k, x) :: pre, post, ?_, ?_, ?_, ?_, ?_⟩
        · simp only [remF, hl, Bool.false_eq_true, if_false, h1, List.cons_append]
        · simp only [remF, hne, hl, Bool.false_eq_true, if_false, h2, List.cons_append]
        · intro p hp
          rcases List.mem_cons.1 hp with rfl | hp
          · exact hk'
          · exact h3 p hp
        · simp only [List.map_cons, List.nodup_cons]
          refine ⟨fun hm => ?_, h4⟩
          obtain ⟨p, hp, he⟩ := List.mem_map.1 hm
          have := (remF_mem r (k + 1) p (h5 p hp)).1
          omega
        · intro p hp
          simp only [remF, hl, Bool.false_eq_true, if_false]
          rcases List.mem_cons.1 hp with rfl | hp
          · simp
          · exact List.mem_cons_of_mem _ (h5 p hp)
theorem remF_head {listed : Array Bool} {i : Nat} {o : Oper} {rest : List (Nat × Oper)} : ∀ (l : List Oper) (k : Nat), remF listed l k = (i, o) :: rest → ∀ j, k ≤ j → j < i → listed.getD j true = true
  | [], _, h => by simp [remF] at h
  | x :: r, k, h => by
    intro j hj hlt
    unfold remF at h
    split at h
    · rename_i hl
      by_cases e : j = k
      · rw [e]; exact hl
      · exact remF_head r (k + 1) h j (by omega) hlt
    · simp only [List.cons.injEq, Prod.mk.injEq] at h
      omega

theorem getD_true_of {listed : Array Bool} {n j : Nat} (hs : listed.size = n) (hj : j < n) (h : listed.getD j true = true) : listed.getD j false = true := by
  simp only [Array.getD_eq_getD_getElem?] at h ⊢
  rw [Array.getElem?_eq_getElem (by omega)] at h ⊢
  simpa using h
theorem waits_listed {listed : Array Bool} (hdown : ∀ (i : Nat) o, ops[i]? = some o → listed.getD i false = true → ∀ e ∈ o.after, Region.binds .any e = true → listed.getD e.on false = true) :
    ∀ (fuel i j : Nat) o, ops[i]? = some o → (∀ e ∈ o.after, Region.binds .any e = true → listed.getD e.on false = true) → waits ops fuel i j = true → listed.getD j false = true
  | 0, _, _, _, _, _, h => by simp [waits] at h
  | fuel + 1, i, j, o, ho, he, h => by
    simp only [waits, ho, List.any_eq_true, Bool.and_eq_true, Bool.or_eq_true, beq_iff_eq] at h
    obtain ⟨e, hmem, hb, h⟩ := h
    have hl := he e (by simpa using hmem) hb
    rcases h with h | h
    · rw [← h]; exact hl
    · cases fuel with
      | zero => simp [waits] at h
      | succ f =>
        cases ho' : ops[e.on]? with
        | none => simp [waits, ho'] at h
        | some o' => exact waits_listed hdown (f + 1) e.on j o' ho' (hdown e.on o' ho' hl) h

theorem draw_go {base : Nat} {K : AS → Prop} {Q : Exit → Act → World → Prop} (hchk : drawOk ops = true) (hok : ops.toList.all (opOk N) = true)
    (hK : ∀ g' s' a' w', Rep W N w0 (fun n => n < base + ops.size) g' s' a' w' → K s' → Q .normal a' w') :
    ∀ (fuel : Nat) (listed : Array Bool) (g : Where) (s : AS) (a : Act) (w : World), listed.size = ops.size → (remF listed ops.toList 0).length = fuel →
      (∀ (i : Nat) o, ops[i]? = some o → listed.getD i false = true → ∀ e ∈ o.after, Region.binds .any e = true → listed.getD e.on false = true) →
      Rep W N w0 (fun n => n < base ∨ ∃ i, i < ops.size ∧ listed.getD i false = true ∧ n = base + i) g s a w → vcRem P ops base (remF listed ops.toList 0) K s → wpAny P .any ops Q fuel listed a w := by
  have hM : ∀ listed : Array Bool, ∀ n, (n < base ∨ ∃ i, i < ops.size ∧ listed.getD i false = true ∧ n = base + i) → n < base + ops.size := by
    intro listed n hn
    rcases hn with hn | ⟨i, hi, _, rfl⟩ <;> omega
  have hchk' : ∀ (i : Nat) o, ops[i]? = some o → (∀ e ∈ o.after, Region.binds .any e = true → e.on < i) ∧ ∀ j, j < i → ∀ p, ops[j]? = some p → apartB ops p o = true ∨ waits ops ops.size i j = true := by
    intro i o ho
    have hlt : i < ops.size := (Array.getElem?_eq_some_iff.1 ho).1
    have := List.all_eq_true.1 hchk i (List.mem_range.2 hlt)
    simp only [ho, Bool.and_eq_true, List.all_eq_true, Bool.or_eq_true, Bool.not_eq_true', decide_eq_true_eq, List.mem_range] at this
    refine ⟨fun e he hb => ?_, fun j hj p hp => ?_⟩
    · rcases this.1 e (by simpa using he) with h | h
      · rw [hb] at h; simp at h
      · exact h
    · have := this.2 j hj
      simp only [hp, Bool.or_eq_true] at this
      exact this
  have hready : ∀ listed : Array Bool, listed.size = ops.size → Region.ready .any ops listed = [] → remF listed ops.toList 0 = [] := by
    intro listed hs hr
    cases hrem : remF listed ops.toList 0 with
    | nil => rfl
    | cons p rest =>
      obtain ⟨i, o⟩ := p
      obtain ⟨_, h2, h3⟩ := remF_mem ops.toList 0 (i, o) (by rw [hrem]; simp)
      have ho : ops[i]? = some o := by simpa using h3
      have hlt : i < ops.size := (Array.getElem?_eq_some_iff.1 ho).1
      have : i ∈ Region.ready .any ops listed := mem_ready.2 ⟨h2, o, ho, fun e he hb => by
        have hlt' := (hchk' i o ho).1 e he hb
        exact getD_true_of hs (by omega) (remF_head ops.toList 0 hrem e.on (Nat.zero_le _) hlt')⟩
      rw [hr] at this; cases this
  intro fuel
  induction fuel with
  | zero =>
    intro listed g s a w hs hf hdown hrep hv
    have hnil : remF listed ops.toList 0 = [] := List.length_eq_zero_iff.1 hf
    rw [hnil] at hv
    refine ⟨?_, hK g s a w (hrep.mono (hM listed)) hv⟩
    cases hr : Region.ready .any ops listed with
    | nil => rfl
    | cons i r =>
      exfalso
      have hi : i ∈ Region.ready .any ops listed := by rw [hr]; simp
      obtain ⟨h1, o, ho, _⟩ := mem_ready.1 hi
      obtain ⟨pre, post, h, _⟩ := remF_split h1 ops.toList 0 (Nat.zero_le _) (o := o) (by simpa using ho)
      rw [hnil] at h; simp at h
  | succ fuel ih =>
    intro listed g s a w hs hf hdown hrep hv
    refine ⟨fun hr => ?_, fun i hi => ?_⟩
    · rw [hready listed hs hr] at hf; simp at hf
    · obtain ⟨h1, o, ho, hedge⟩ := mem_ready.1 hi
      have hlt : i < ops.size := (Array.getElem?_eq_some_iff.1 ho).1
      obtain ⟨pre, post, hrem, hrem', hpre, hnd, hmem⟩ := remF_split h1 ops.toList 0 (Nat.zero_le _) (o := o) (by simpa using ho)
      have hopok : ∀ (j : Nat) p, ops[j]? = some p → ∀ d, p.dst = some d → d < N := fun j p hp d hd => by
        have := List.all_eq_true.1 hok p (by simpa using Array.mem_of_getElem? hp)
        unfold opOk at this; rw [hd] at this; simpa using this
      have hfresh : ∀ j, listed.getD j true = false → ¬ (base + j < base ∨ ∃ i, i < ops.size ∧ listed.getD i false = true ∧ base + j = base + i) := by
        intro j hj hx
        rcases hx with hx | ⟨k, hk, hkt, he⟩
        · omega
        · have : k = j := by omega
          subst this
          have hlt : k < listed.size := by omega
          simp only [Array.getD_eq_getD_getElem?, Array.getElem?_eq_getElem hlt, Option.getD_some] at hj hkt
          rw [hkt] at hj; simp at hj
      rw [hrem] at hv
      have hunl : ∀ j, listed.getD j true = false → listed.getD j false = true → False := fun j h1 h2 => by
        by_cases hlt : j < listed.size
        · simp only [Array.getD_eq_getD_getElem?, Array.getElem?_eq_getElem hlt, Option.getD_some] at h1 h2
          rw [h2] at h1; cases h1
        · simp only [Array.getD_eq_getD_getElem?, Array.getElem?_eq_none (Nat.le_of_not_lt hlt), Option.getD_none] at h1
          cases h1
      have hwl : ∀ j, listed.getD j true = false → waits ops ops.size i j = true → False := fun j hj hw => hunl j hj (waits_listed hdown ops.size i j o ho hedge hw)
      have hlt' : ∀ {k j : Nat}, late ops k = true → j < ops.size → k < j → waits ops ops.size j k = true := fun hl hj hkj => by
        have := List.all_eq_true.1 hl _ (List.mem_range.2 hj)
        simp only [Bool.or_eq_true, decide_eq_true_eq] at this
        rcases this with h | h
        · omega
        · exact h
      have hbw : ∀ j, bar ops i = true → j < i → waits ops ops.size i j = true := fun j hb hj => by
        unfold bar at hb
        simp only [Bool.and_eq_true] at hb
        exact List.all_eq_true.1 hb.2 _ (List.mem_range.2 hj)
      have hfront := front (N := N) (W := W) (w0 := w0) pre post _ g s a w (fun p hp => by
          obtain ⟨_, p2, p3⟩ := remF_mem ops.toList 0 p (hmem p hp)
          have hop : ops[p.1]? = some p.2 := by simpa using p3
          refine ⟨?_, Nat.ne_of_lt (hpre p hp), hopok _ _ hop⟩
          rcases (hchk' i o ho).2 p.1 (hpre p hp) p.2 hop with h | h
          · exact h
          · exact (hwl p.1 p2 h).elim)
        (fun p hp => by
          cases hl : late ops p.1 with
          | false => rfl
          | true => exact (hwl p.1 (remF_mem ops.toList 0 p (hmem p hp)).2.1 (hlt' hl hlt (hpre p hp))).elim)
        (fun hne => by
          cases hb : bar ops i with
          | false => rfl
          | true =>
            obtain ⟨p, hp⟩ := List.exists_mem_of_ne_nil pre hne
            exact (hwl p.1 (remF_mem ops.toList 0 p (hmem p hp)).2.1 (hbw p.1 hb (hpre p hp))).elim)
        (fun p hp => hfresh p.1 (remF_mem ops.toList 0 p (hmem p hp)).2.1) (hfresh i h1) hnd hrep hv
      have hset : ∀ j, (listed.setIfInBounds i true).getD j false = true ↔ j = i ∨ listed.getD j false = true := by
        intro j
        by_cases e : i = j
        · subst e
          simp [Array.getD_eq_getD_getElem?, Array.getElem?_setIfInBounds_self_of_lt (show i < listed.size by omega)]
        · simp only [Array.getD_eq_getD_getElem?, Array.getElem?_setIfInBounds_ne e]
          constructor
          · exact Or.inr
          · rintro (h | h)
            · exact absurd h.symm e
            · exact h
      have hgo : ∀ (g' : Where) (s' : AS) (a' : Act) (w' : World), Rep W N w0 (fun n => (n < base ∨ ∃ i, i < ops.size ∧ listed.getD i false = true ∧ n = base + i) ∨ n = base + i) g' s' a' w' →
          vcRem P ops base (pre ++ post) K s' → wpAny P .any ops Q fuel (listed.setIfInBounds i true) a' w' := fun g' s' a' w' hrep' hk => by
        refine ih (listed.setIfInBounds i true) g' s' a' w' (by simpa using hs) ?_ ?_ (hrep'.mono fun n hn => ?_) (by rw [hrem']; exact hk)
        · rw [hrem'] ; rw [hrem] at hf; simp at hf ⊢; omega
        · intro j p hp hj ed hed hb
          rw [hset] at hj ⊢
          rcases hj with rfl | hj
          · rw [ho] at hp; simp only [Option.some.injEq] at hp; subst hp
            exact Or.inr (hedge ed hed hb)
          · exact Or.inr (hdown j p hp hj ed hed hb)
        · rcases hn with (hn | ⟨j, hj, hjt, rfl⟩) | rfl
          · exact Or.inl hn
          · exact Or.inr ⟨j, hj, (hset j).2 (Or.inr hjt), rfl⟩
          · exact Or.inr ⟨i, hlt, (hset i).2 (Or.inl rfl), rfl⟩
      rcases hfront with ⟨e, hd, hk⟩ | ⟨_, D, hd, hk⟩ | ⟨hb, hk⟩
      · exact does_wp ho hrep (hfresh i h1) (hopok i o ho) hd (fun g' a' w' hrep' => hgo g' _ a' w' hrep' hk)
      · exact doesS_wp ho hrep (hfresh i h1) (hopok i o ho) hd (fun e g' a' w' he hrep' => hgo g' _ a' w' hrep' (hk e he))
      · have hbelow : ∀ j, j < ops.size → listed.getD j false = true → j < i := fun j hj hjt => by
          rcases Nat.lt_trichotomy j i with h | h | h
          · exact h
          · subst h; exact (hunl j h1 hjt).elim
          · exfalso
            cases hoj : ops[j]? with
            | none => rw [Array.getElem?_eq_none_iff] at hoj; omega
            | some oj => exact hunl i h1 (waits_listed hdown ops.size j i oj hoj (hdown j oj hoj hjt) (hlt' (late_of_bar hb) hj h))
        have hrepI : Rep W N w0 (fun n => n < base + i) g s a w := hrep.mono fun n hn => by
          rcases hn with hn | ⟨j, hj, hjt, rfl⟩
          · omega
          · have := hbelow j hj hjt; omega
        have hM' : ∀ n, n < base + i + 1 → ((n < base ∨ ∃ i, i < ops.size ∧ listed.getD i false = true ∧ n = base + i) ∨ n = base + i) := fun n hn => by
          rcases Nat.lt_or_ge n base with h | h
          · exact .inl (.inl h)
          · rcases Nat.lt_or_ge (n - base) i with h2 | h2
            · exact .inl (.inr ⟨n - base, by omega, waits_listed hdown ops.size i (n - base) o ho hedge (hbw _ hb h2), by omega⟩)
            · exact .inr (by omega)
        have hrun : vcRun P (base + i) o (vcRem P ops base (pre ++ post) K) s → o.wp P a w (fun a' w' => wpAny P .any ops Q fuel (listed.setIfInBounds i true) a' w') Q := fun hr =>
          run_sound hrepI (hopok i o ho) hr (fun g' s' a' w' h' hk' => hgo g' s' a' w' (h'.mono fun n hn => hM' n hn) hk')
        unfold wpOp
        simp only [ho]
        unfold vcOp at hk
        cases hg : o.guard with
        | none =>
          rw [hg] at hk
          rw [if_pos (by simp [Region.wanted, hg])]
          exact .inl (hrun hk)
        | some q =>
          obtain ⟨j, want⟩ := q
          rw [hg] at hk
          simp only [vcGuard] at hk
          split at hk
          · rename_i b hbv
            have hy := wanted_guard hrep hg hbv
            by_cases hbw' : b = want
            · rw [if_pos (by rw [hy]; simp [hbw'])]
              exact .inl (hrun (hk.1 hbw'))
            · rw [if_neg (by rw [hy]; simp [hbw'])]
              exact hgo _ _ _ _ ((hrep.mono (fun n hn => Or.inl hn)).put (hopok i o ho) (v := V undef) trivial) (hk.2 hbw')
          · exact hk.elim
theorem draw_sound {base : Nat} {K : AS → Prop} {Q : Exit → Act → World → Prop} (hK : ∀ g' s' a' w', Rep W N w0 (fun n => n < s'.next) g' s' a' w' → K s' → Q .normal a' w')
    (hchk : drawOk ops = true) (hok : ops.toList.all (opOk N) = true) (h : Rep W N w0 (fun n => n < base) g s a w) (hv : vcOpsD P ops base ops.toList 0 K s) :
    wpAny P .any ops Q ops.size (Array.replicate ops.size false) a w := by
  have hlen : ∀ (l : List Oper) (k n : Nat), k + l.length ≤ n → (remF (Array.replicate n false) l k).length = l.length := by
    intro l
    induction l with
    | nil => intro k n _; rfl
    | cons o r ih =>
      intro k n hk
      simp only [List.length_cons] at hk
      have : (Array.replicate n false).getD k true = false := by
        simp [Array.getD_eq_getD_getElem?, show k < n by omega]
      simp only [remF, this, Bool.false_eq_true, if_false, List.length_cons]
      rw [ih (k + 1) n (by omega)]
  refine draw_go (base := base) (K := fun s => K { s with next := base + (0 + ops.toList.length) }) hchk hok (fun g' s' a' w' h' hk => hK g' _ a' w' ((h'.next _).mono fun n hn => by simpa using hn) hk) ops.size _ g s a w (by simp) ?_ ?_ (h.mono fun n hn => Or.inl hn) (remF_start ops.toList 0 (by simp) hv)
  · rw [hlen _ _ _ (by simp)]; simp
  · intro i o _ hi
    simp [Array.getD_eq_getD_getElem?, Array.getElem?_replicate] at hi
    by_cases hlt : i < ops.size <;> simp [hlt] at hi
end
end Go.Vcg
