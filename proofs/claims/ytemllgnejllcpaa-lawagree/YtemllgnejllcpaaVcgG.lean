/-
  The calculus: loops. Nothing here speaks of a program.
-/
import Derived.Test.YtemllgnejllcpaaVcgE
set_option linter.unusedVariables false
set_option linter.unusedSimpArgs false
namespace Go.Vcg
set_option linter.unusedSectionVars false

def lk {α : Type} (l : List (Nat × α)) (x : Nat) : Option α := match l with
  | [] => none
  | (k, v) :: r => if x = k then some v else lk r x
theorem lk_nil {α : Type} (x : Nat) : lk ([] : List (Nat × α)) x = none := rfl
theorem lk_cons {α : Type} (k : Nat) (v : α) (r : List (Nat × α)) (x : Nat) : lk ((k, v) :: r) x = if x = k then some v else lk r x := rfl
theorem lk_mem {α : Type} : ∀ (l : List (Nat × α)) (x : Nat) (v : α), lk l x = some v → (x, v) ∈ l
  | [], x, v, h => by simp [lk] at h
  | (k, u) :: r, x, v, h => by
    simp only [lk] at h
    split at h
    · rename_i e; simp only [Option.some.injEq] at h; subst e h; simp
    · exact List.mem_cons_of_mem _ (lk_mem r x v h)
/-- A state written out: the slots and the boxes that are still of use. -/
def mkS (env : List (Nat × AV)) (box : List (Nat × Box)) (next : Nat) : AS := ⟨lk env, lk box, next⟩
theorem mkS_eq (env : List (Nat × AV)) (box : List (Nat × Box)) (next : Nat) : mkS env box next = ⟨lk env, lk box, next⟩ := rfl

/-- What must be shown where a state is brought to the written-out one. -/
def Brings (s : AS) (env : List (Nat × AV)) (box : List (Nat × Box)) (next : Nat) : Prop :=
  (∀ p ∈ env, s.env p.1 = some p.2 ∧ AV.ok (fun n => n < next) p.2) ∧ (∀ p ∈ box, s.box p.1 = some p.2 ∧ p.1 < next ∧ ∀ x ∈ p.2.cells, SV.ok (fun n => n < next) x)

theorem AV.ren_id (v : AV) : AV.ren (fun n => n) v = v := by
  have h1 : ∀ x : SV, SV.ren (fun n => n) x = x := fun x => by rcases x with v | ⟨t, o⟩ | ⟨t, o, n, c⟩ <;> rfl
  have h1' : SV.ren (fun n => n) = id := funext h1
  have h2 : ∀ x : CV, CV.ren (fun n => n) x = x := fun x => by
    rcases x with x | l
    · simp [CV.ren, h1]
    · simp [CV.ren, h1']
  have h2' : CV.ren (fun n => n) = id := funext h2
  rcases v with x | l
  · simp [AV.ren, h2]
  · simp [AV.ren, h2']
theorem Brings.refines {s : AS} {env : List (Nat × AV)} {box : List (Nat × Box)} {next : Nat} (h : Brings s env box next) : Refines s (mkS env box next) := by
  refine ⟨fun d v hv => ?_, fun n b hb => ?_, fun n n' b b' _ _ _ e => e, fun d v hv => ?_, fun t b hb => ?_⟩
  · rw [AV.ren_id]; exact (h.1 _ (lk_mem _ _ _ hv)).1
  · have h1 : (fun x : SV => SV.ren (fun n => n) x) = id := funext fun x => by rcases x with v | ⟨t, o⟩ | ⟨t, o, n, c⟩ <;> rfl
    refine ⟨b, (h.2 _ (lk_mem _ _ _ hb)).1, fun x => x, ?_⟩
    show b.cells = b.cells.map (fun x : SV => SV.ren (fun n => n) x)
    rw [h1, List.map_id]
  · exact (h.1 _ (lk_mem _ _ _ hv)).2
  · exact (h.2 _ (lk_mem _ _ _ hb)).2

/-- A loop that counts to n: its state at each head, written out. -/
theorem vcLoop_count {body : (Exit → AS → Prop) → AS → Prop} {F : Exit → AS → Prop} {s : AS} (n : Nat) (env : Nat → List (Nat × AV)) (box : Nat → List (Nat × Box)) (next : Nat)
    (h0 : Brings s (env 0) (box 0) next) (hmono : ∀ (K K' : AS → Prop) t, (∀ s, K s → K' s) → body (seqK K F) t → body (seqK K' F) t)
    (hstep : ∀ k, k < n → body (seqK (fun s' => Brings s' (env (k + 1)) (box (k + 1)) next) F) (mkS (env k) (box k) next))
    (hend : body (seqK (fun _ => False) F) (mkS (env n) (box n) next)) (hn : s.next ≤ next) : vcLoop body F s := by
  refine ⟨{ k : Nat // k ≤ n }, fun k => mkS (env k.1) (box k.1) next, fun k => n - k.1, ⟨0, Nat.zero_le _⟩, ⟨_, h0.refines, fun _ _ => rfl⟩, fun _ => hn, fun k => ?_⟩
  rcases Nat.lt_or_ge k.1 n with h | h
  · exact hmono _ _ _ (fun s hs => ⟨⟨k.1 + 1, h⟩, by show n - (k.1 + 1) < n - k.1; omega, _, hs.refines, fun _ _ => rfl⟩) (hstep k.1 h)
  · have e : k.1 = n := Nat.le_antisymm k.2 h
    exact hmono _ _ _ (fun s hs => hs.elim) (e ▸ hend)

section
variable {P : Program} [Tables P] {W : Nat → Prop} {N : Nat} {w0 : Base P} {g : Where} {s : AS} {a : Act} {w : World}
theorem vcOps_mono {ops : Array Oper} {base : Nat} {K K' : AS → Prop} (h : ∀ s, K s → K' s) : ∀ (l : List Oper) (i : Nat) (s : AS), vcOps P ops base l i K s → vcOps P ops base l i K' s
  | [], _, _, hv => h _ hv
  | o :: rest, i, s, hv => by
    unfold vcOps vcOp at hv ⊢
    have ih := fun s hs => vcOps_mono (ops := ops) (base := base) h rest (i + 1) s hs
    cases hg : o.guard with
    | none => rw [hg] at hv; exact vcRun_mono ih hv
    | some p =>
      obtain ⟨j, want⟩ := p
      rw [hg] at hv
      simp only [vcGuard] at hv ⊢
      split at hv
      · exact ⟨fun hw => vcRun_mono ih (hv.1 hw), fun hw => ih _ (hv.2 hw)⟩
      · exact hv
theorem vcOpsD_mono {ops : Array Oper} {base : Nat} {K K' : AS → Prop} (h : ∀ s, K s → K' s) : ∀ (l : List Oper) (i : Nat) (s : AS), vcOpsD P ops base l i K s → vcOpsD P ops base l i K' s
  | [], _, _, hv => h _ hv
  | _ :: rest, i, _, hv => by
    have ih := fun s hs => vcOpsD_mono (ops := ops) (base := base) h rest (i + 1) s hs
    rcases hv with ⟨e, h1, h2⟩ | ⟨hl, D, hD, h2⟩ | ⟨hb, h2⟩
    · exact .inl ⟨e, h1, ih _ h2⟩
    · exact .inr (.inl ⟨hl, D, hD, fun e he => ih _ (h2 e he)⟩)
    · exact .inr (.inr ⟨hb, vcOp_mono ih h2⟩)
theorem vc_mono : ∀ (c : Code) (F F' : Exit → AS → Prop), (∀ e s, F e s → F' e s) → ∀ s, vc P c F s → vc P c F' s
  | .skip, _, _, h, s, hv => h _ _ hv
  | .region _ ops false, _, _, h, s, hv => vcOps_mono (h _) _ _ _ hv
  | .region _ ops true, _, _, h, s, hv => ⟨hv.1, vcOpsD_mono (h _) _ _ _ hv.2⟩
  | .seq x y, F, F', h, s, hv => vc_mono x _ _ (fun e s hs => by
      cases e with
      | normal => exact vc_mono y _ _ h s hs
      | _ => exact h _ _ hs) s hv
  | .cond c x y, F, F', h, s, hv => by
    simp only [vc, vcIf] at hv ⊢
    split at hv
    · exact ⟨fun ht => vc_mono x _ _ h s (hv.1 ht), fun hf => vc_mono y _ _ h s (hv.2 hf)⟩
    · exact hv
  | .block id c, F, F', h, s, hv => vc_mono c _ _ (fun e s hs => by
      cases e with
      | exit id' =>
        simp only [blockK] at hs ⊢
        split
        · rename_i e; rw [if_pos e] at hs; exact h _ _ hs
        · rename_i e; rw [if_neg e] at hs; exact h _ _ hs
      | _ => exact h _ _ hs) s hv
  | .loop c, F, F', h, s, hv => by
    obtain ⟨ι, st, μ, i₀, h0, hnx, hb⟩ := hv
    refine ⟨ι, st, μ, i₀, h0, hnx, fun i => vc_mono c _ _ (fun e s hs => ?_) _ (hb i)⟩
    cases e with
    | normal => exact hs
    | _ => exact h _ _ hs
  | .exit id, _, _, h, s, hv => h _ _ hv
  | .ret, _, _, h, s, hv => h _ _ hv
  | .rangeFunc .., _, _, _, _, hv => hv.elim
  | .scope _, _, _, _, _, hv => hv.elim
  | .label _, _, _, _, _, hv => hv.elim
  | .goto _, _, _, _, _, hv => hv.elim
  | .refuse _, _, _, _, _, hv => hv.elim

theorem loop_count {c : Code} {F : Exit → AS → Prop} {s : AS} (n : Nat) (env : Nat → List (Nat × AV)) (box : Nat → List (Nat × Box)) (next : Nat)
    (h0 : Brings s (env 0) (box 0) next)
    (hstep : ∀ k, k < n → vc P c (seqK (fun s' => Brings s' (env (k + 1)) (box (k + 1)) next) F) (mkS (env k) (box k) next))
    (hend : vc P c (seqK (fun _ => False) F) (mkS (env n) (box n) next)) (hn : s.next ≤ next := by first | exact Nat.le_refl _ | decide | simp) : vcLoop (vc P c) F s :=
  vcLoop_count n env box next h0 (fun K K' t h hv => vc_mono c _ _ (fun e s hs => by
    cases e with
    | normal => exact h s hs
    | _ => exact hs) t hv) hstep hend hn
end

/-! ### Rules for what a written-out state asks -/
theorem brings_eq {s : AS} {env : List (Nat × AV)} {box : List (Nat × Box)} {next : Nat} : Brings s env box next =
    ((∀ p ∈ env, s.env p.1 = some p.2 ∧ AV.ok (fun n => n < next) p.2) ∧ (∀ p ∈ box, s.box p.1 = some p.2 ∧ p.1 < next ∧ ∀ x ∈ p.2.cells, SV.ok (fun n => n < next) x)) := rfl
theorem ok_int {M : Nat → Prop} {k : IntKind} {x : Int} : AV.ok M (I k x) = True := rfl
theorem ok_bool {M : Nat → Prop} {x : Bool} : AV.ok M (B x) = True := rfl
theorem ok_ptr {M : Nat → Prop} {t o : Nat} : AV.ok M (Ptr t o) = M t := rfl
theorem ok_sl {M : Nat → Prop} {t o n c : Nat} : AV.ok M (Sl t o n c) = M t := rfl
theorem ok_ag {M : Nat → Prop} {l : List SV} : AV.ok M (Ag l) = ∀ x ∈ l, SV.ok M x := rfl
theorem sok_int {M : Nat → Prop} {k : IntKind} {x : Int} : SV.ok M (Sum.inl (.int k x)) = True := by simp [SV.ok, SV.names, SV.one, Value.oneCell']
theorem sok_bool {M : Nat → Prop} {x : Bool} : SV.ok M (Sum.inl (.bool x)) = True := by simp [SV.ok, SV.names, SV.one, Value.oneCell']
theorem sok_row {M : Nat → Prop} {k : IntKind} {n : Nat} {f : Nat → Int} : (∀ x ∈ rowI k n f, SV.ok M x) = True := by
  rw [eq_iff_iff]
  refine ⟨fun _ => trivial, fun _ x hx => SV.plain_ok (List.all_eq_true.1 (rowI_plain k n f) x hx)⟩
theorem all_nil' {α : Type} {p : α → Prop} : (∀ x ∈ ([] : List α), p x) = True := by simp
theorem all_cons' {α : Type} {p : α → Prop} {a : α} {l : List α} : (∀ x ∈ a :: l, p x) = (p a ∧ ∀ x ∈ l, p x) := by simp
theorem loopRules : type_of% @all_nil' ∧ type_of% @all_cons' ∧ type_of% @lk_nil ∧ type_of% @lk_cons ∧ type_of% @mkS_eq ∧ type_of% @brings_eq ∧ type_of% @ok_int ∧ type_of% @ok_bool ∧ type_of% @ok_ptr ∧ type_of% @ok_sl ∧ type_of% @ok_ag ∧ type_of% @sok_int ∧ type_of% @sok_bool ∧ type_of% @sok_row :=
  ⟨@all_nil', @all_cons', @lk_nil, @lk_cons, @mkS_eq, @brings_eq, @ok_int, @ok_bool, @ok_ptr, @ok_sl, @ok_ag, @sok_int, @sok_bool, @sok_row⟩
end Go.Vcg
