/-
  The calculus: contracts of functions of plain data (no pointer, no slice), rows of numbers, and what a proof's simp needs. Nothing here speaks of a program.
-/
import Derived.Test.YtemllgnejllcpaaVcgC
import Derived.Below
set_option linter.unusedVariables false
set_option linter.unusedSimpArgs false
namespace Go.Vcg
set_option linter.unusedSectionVars false

def SV.plain (x : SV) : Bool := match x with
  | .inl v => v.oneCell'
  | .inr _ => false
def CV.plain (x : CV) : Bool := match x with
  | .inl (.inl _) => true
  | .inl (.inr _) => false
  | .inr l => l.all SV.plain
def AV.plain (x : AV) : Bool := match x with
  | .inl c => CV.plain c
  | .inr l => l.all CV.plain
/-- A plain value. -/
def AV.val (x : AV) : Value := AV.conc (fun _ => (0, 0)) x

theorem SV.plain_ok {M : Nat → Prop} {x : SV} (h : SV.plain x = true) : SV.ok M x := by
  rcases x with v | v
  · exact ⟨trivial, h⟩
  · simp [SV.plain] at h
theorem CV.plain_ok {M : Nat → Prop} {x : CV} (h : CV.plain x = true) : CV.ok M x := by
  rcases x with (v | v) | l
  · trivial
  · simp [CV.plain] at h
  · intro y hy; exact SV.plain_ok (List.all_eq_true.1 h y hy)
theorem AV.plain_ok {M : Nat → Prop} {x : AV} (h : AV.plain x = true) : AV.ok M x := by
  rcases x with c | l
  · exact CV.plain_ok h
  · intro y hy; exact CV.plain_ok (List.all_eq_true.1 h y hy)
theorem AV.plain_conc {x : AV} (h : AV.plain x = true) (g : Where) : AV.conc g x = AV.val x :=
  AV.conc_congr (AV.plain_ok h)

abbrev Kept (w w' : World) : Prop := Frame (fun _ => False) w w'

section
variable {P : Program} [Tables P] {W : Nat → Prop} {N : Nat} {w0 : Base P} {g : Where} {s : AS} {a : Act} {w : World}

theorem Kept.heap {w w' : World} (h : Kept w w') {k : Nat} (hk : k < w.heap.size) : w'.heap[k]? = w.heap[k]? := h.block k hk (fun x => x)
theorem Kept.cell {w w' : World} (h : Kept w w') {x : Addr} (hk : x.block < w.heap.size) : w'.cell? x = w.cell? x := by
  unfold World.cell?; rw [h.heap hk]
theorem Kept.frozen {w w' : World} (h : Kept w w') {x : Addr} (hk : x.block < w.heap.size) : clearAt w' x = clearAt w x := by
  unfold clearAt; rw [h.heap hk]
theorem Kept.below {w w' : World} (h : Kept w w') : RowKit.Below w.heap.size w w' := ⟨h.os, h.tape, h.output, h.size, fun _ hk => h.heap hk⟩
theorem MemRep.kept (h : MemRep g s w) {w' : World} (hk : Kept w w') : MemRep g s w' :=
  ⟨fun t b hb => Nat.lt_of_lt_of_le (h.lt t b hb) hk.size, fun t b hb i v hv => by rw [hk.cell (h.lt t b hb)]; exact h.cell t b hb i v hv,
   fun t b hb hrw i hi => by rw [hk.frozen (h.lt t b hb)]; exact h.free t b hb hrw i hi, h.sep⟩
theorem Rep.kept {M : Nat → Prop} (h : Rep W N w0 M g s a w) {w' : World} (hk : Kept w w') : Rep W N w0 M g s a w' :=
  ⟨h.size, h.defers, h.env, h.names, h.mem.kept hk, h.own,
   h.frame.trans ⟨hk.os, hk.tape, hk.output, hk.size, fun _ hlt _ => hk.heap hlt⟩, h.pin, h.tabs⟩

/-- A contract over plain data: some plain result that meets 'Post'; nothing that was there has turned. -/
structure Pure (P : Program) [Tables P] (f : Nat) (l : List AV) (Post : AV → Prop) : Prop where
  args : l.all AV.plain = true
  res : ∀ r, Post r → AV.plain r = true
  call : ∀ w, Laid P w → Calls P f (l.map AV.val).toArray w fun e w' => ∃ r, Post r ∧ e = .returned (AV.val r) ∧ Kept w w'
/-- The same with its result written out. -/
abbrev Fun (P : Program) [Tables P] (f : Nat) (l : List AV) (r : AV) : Prop := Pure P f l (fun v => v = r)

theorem Pure.vcCall {f : Nat} {l : List AV} {Post : AV → Prop} (h : Pure P f l Post) {nm : Nat} {dst : Option Nat} {K : AS → Prop} (hk : ∀ r, Post r → K (s.put dst (some r))) :
    vcCall P nm f (some l) dst K s := by
  intro W N w0 g a w hrep
  have hl : l.map (AV.conc g) = l.map AV.val := List.map_congr_left fun x hx => AV.plain_conc (List.all_eq_true.1 h.args x hx) g
  rw [hl]
  refine (h.call w hrep.laid).mono ?_
  rintro e w' ⟨r, hr, rfl, hkept⟩
  exact ⟨r, g, s, by rw [AV.plain_conc (h.res r hr)], AV.plain_ok (h.res r hr), (hrep.kept hkept).mono (fun n hn => by omega), hk r hr⟩
theorem Fun.vcCall {f : Nat} {l : List AV} {r : AV} (h : Fun P f l r) {nm : Nat} {dst : Option Nat} {K : AS → Prop} (hk : K (s.put dst (some r))) :
    vcCall P nm f (some l) dst K s := Pure.vcCall h (fun _ hv => hv ▸ hk)

theorem vcIf_true (X Y : AS → Prop) (s : AS) : vcIf (some (B true)) X Y s = X s := by simp [vcIf]
theorem vcIf_false (X Y : AS → Prop) (s : AS) : vcIf (some (B false)) X Y s = Y s := by simp [vcIf]
theorem vcIf_split {b : Bool} {X Y : AS → Prop} {s : AS} (h1 : b = true → X s) (h2 : b = false → Y s) : vcIf (some (B b)) X Y s := ⟨h1, h2⟩
theorem vcIf_yes {b : Bool} {X Y : AS → Prop} {s : AS} (h : b = true) (hk : X s) : vcIf (some (B b)) X Y s := ⟨fun _ => hk, fun h' => absurd (h ▸ h') (by decide)⟩
theorem vcIf_no {b : Bool} {X Y : AS → Prop} {s : AS} (h : b = false) (hk : Y s) : vcIf (some (B b)) X Y s := ⟨fun h' => absurd (h ▸ h') (by decide), fun _ => hk⟩
theorem vcGuard_y {b w : Bool} {X Y : Prop} (h : b = w) (hk : X) : vcGuard (some (B b)) w X Y := ⟨fun _ => hk, fun h' => absurd h h'⟩
theorem vcGuard_n {b w : Bool} {X Y : Prop} (h : b ≠ w) (hk : Y) : vcGuard (some (B b)) w X Y := ⟨fun h' => absurd h' h, fun _ => hk⟩
theorem vcGuard_yes (X Y : Prop) : vcGuard (some (B true)) true X Y = X := by simp [vcGuard]
theorem vcGuard_no (X Y : Prop) : vcGuard (some (B false)) true X Y = Y := by simp [vcGuard]
theorem vcGuard_yes' (X Y : Prop) : vcGuard (some (B false)) false X Y = X := by simp [vcGuard]
theorem vcGuard_no' (X Y : Prop) : vcGuard (some (B true)) false X Y = Y := by simp [vcGuard]
end

/-! ### Small steps, for the rules by which a proof's simp reckons -/
def oneC (v : Option AV) : Option CV := match v with
  | some (.inl c) => some c
  | _ => none
def oneE (v : Option Eff) : Option CV := match v with
  | some (some (.inl c), _) => some c
  | _ => none
def consO (c : Option CV) (l : Option (List CV)) : Option (List CV) := match c, l with
  | some c, some l => some (c :: l)
  | _, _ => none
def consA (c : Option AV) (l : Option (List AV)) : Option (List AV) := match c, l with
  | some c, some l => some (c :: l)
  | _, _ => none
/-- A guarded operation, till its guard is decided. -/
def gOps (P : Program) [Tables P] (c : Option AV) (want : Bool) (nm : Nat) (o : Oper) (K : AS → Prop) (s : AS) : Prop := vcGuard c want (vcRun P nm o K s) (K (s.put o.dst (some (V undef))))
def gdO (e : Nat → Option AV) (o : Option Oper) : Option AV := match o with
  | some o => match o.dst with
    | some d => e d
    | none => none
  | none => none
def vcMove (v : Option AV) (dst : Option Nat) (K : AS → Prop) (s : AS) : Prop := match v with
  | some v => K (s.put dst (some v))
  | none => False
def ldC (v : Option SV) : Option Eff := match v with
  | some v => some (some (.inl (.inl v)), none)
  | none => none
def ldB (t : Option (Bool × Nat)) (b : Option Box) (o : Nat) : Option Eff := match t, b with
  | some (true, n), some bx => if o + n ≤ bx.cells.length then some (some (Ag ((bx.cells.drop o).take n)), none) else none
  | some (false, _), some bx => match bx.cells[o]? with
    | some v => some (some (.inl (.inl v)), none)
    | none => none
  | _, _ => none
def stB (b o : Nat) (new : Option (List SV)) (t : Option (Bool × Nat)) (bx : Option Box) : Option Eff := match new, t, bx with
  | some new, some (_, n), some bx => if bx.rw = true ∧ o + new.length ≤ bx.cells.length ∧ new.length = n then some (none, some (.inr (b, ⟨bx.rw, splice bx.cells o new⟩))) else none
  | _, _, _ => none
def bxC (nm : Nat) (l : Option (List SV)) : Option Eff := match l with
  | some l => some (some (Ptr nm 0), some (.inl l))
  | none => none
def faP (b o : Nat) (f : Option (Nat × Bool × Nat)) : Option Eff := match f with
  | some (fo, _, _ + 1) => some (some (Ptr b (o + fo)), none)
  | _ => none
def fdP (l : List SV) (f : Option (Nat × Bool × Nat)) : Option Eff := match f with
  | some (o, true, n) => some (some (Ag ((l.drop o).take n)), none)
  | some (o, false, _) => match l[o]? with
    | some v => some (some (.inl (.inl v)), none)
    | none => none
  | _ => none
def iaP (b o : Nat) (j : Int) (t : Option (Nat × Nat)) : Option Eff := match t with
  | some (n, z) => if 0 ≤ j ∧ j < n then some (some (Ptr b (o + j.toNat * z)), none) else none
  | none => none
def isP (b o n : Nat) (j : Int) (t : Option Nat) : Option Eff := match t with
  | some z => if 0 ≤ j ∧ j < n then some (some (Ptr b (o + j.toNat * z)), none) else none
  | none => none
def ixP (l : List SV) (j : Int) (t : Option (Nat × Bool × Nat)) : Option Eff := match t with
  | some (n, false, z) => if 0 ≤ j ∧ j < n then match l[j.toNat * z]? with
      | some v => some (some (.inl (.inl v)), none)
      | none => none
    else none
  | some (n, true, z) => if 0 ≤ j ∧ j < n then some (some (Ag ((l.drop (j.toNat * z)).take z)), none) else none
  | none => none
def exC (v : Option CV) : Option Eff := match v with
  | some v => some (some (.inl v), none)
  | none => none
def bdF (l : Option (List SV)) : Option Eff := match l with
  | some l => some (some (Ag l), none)
  | none => none
def alZ (nm : Nat) (z : Option (List Value)) : Option Eff := match z with
  | some z => if z.all Value.oneCell' then some (some (Ptr nm 0), some (.inl (z.map .inl))) else none
  | none => none
def cvK (x : Int) (k : Option IntKind) (k' : Option IntKind) : Option Eff := match k, k' with
  | some _, some k => some (some (I k (k.wrap x)), none)
  | _, _ => none
def bdB (P : Program) (t : TypeId) (s : AS) (parts : List (Nat × Operand)) (z : Option (List SV)) : Option Eff := match z with
  | some z => bdF (effFill P t s z parts)
  | none => none
def fiP (P : Program) (t : TypeId) (s : AS) (cs : List SV) (rest : List (Nat × Operand)) (new : Option (List SV)) (p : Option (Nat × Nat)) : Option (List SV) := match p, new with
  | some (o, n), some new => if new.length = n ∧ o + n ≤ cs.length then effFill P t s (splice cs o new) rest else none
  | _, _ => none
def ixC (j : Int) (n : Nat) (v : Option SV) : Option Eff := match v with
  | some v => if 0 ≤ j ∧ j < n then some (some (.inl (.inl v)), none) else none
  | none => none
def fiC (P : Program) (t : TypeId) (s : AS) (cs : List SV) (o n : Nat) (rest : List (Nat × Operand)) (new : Option (List SV)) : Option (List SV) := match new with
  | some new => if new.length = n ∧ o + n ≤ cs.length then effFill P t s (splice cs o new) rest else none
  | none => none

/-! ### Rows of numbers -/
/-- n cells of one kind, by a function. -/
def rowI (k : IntKind) (n : Nat) (f : Nat → Int) : List SV := (List.range n).map fun i => Sum.inl (Value.int k (f i))
theorem rowI_length (k : IntKind) (n : Nat) (f : Nat → Int) : (rowI k n f).length = n := by simp [rowI]
theorem rowI_get (k : IntKind) (n : Nat) (f : Nat → Int) (i : Nat) (h : i < n) : (rowI k n f)[i]? = some (Sum.inl (Value.int k (f i))) := by
  simp [rowI, h]
theorem rowI_plain (k : IntKind) (n : Nat) (f : Nat → Int) : (rowI k n f).all SV.plain = true := by
  simp [rowI, SV.plain, Value.oneCell']
theorem rowI_congr {k : IntKind} {n : Nat} {f g : Nat → Int} (h : ∀ i, i < n → f i = g i) : rowI k n f = rowI k n g := by
  unfold rowI; apply List.map_congr_left; intro i hi; rw [h i (by simpa using hi)]
theorem rowI_splice1 (k : IntKind) (n : Nat) (f : Nat → Int) (i : Nat) (h : i < n) (v : Int) : splice (rowI k n f) i [Sum.inl (Value.int k v)] = rowI k n (upd f i v) := by
  apply List.ext_getElem?
  intro j
  rw [splice_getElem? _ _ _ (by simp [rowI_length]; omega)]
  by_cases hj : j < n
  · rw [rowI_get k n (upd f i v) j hj]
    simp only [List.length_singleton]
    by_cases h1 : j < i
    · rw [if_pos h1, upd_ne _ _ _ _ (by omega), rowI_get k n f j hj]
    · by_cases h2 : j = i
      · subst h2; rw [if_neg h1, if_pos (by omega), upd_same]; simp
      · rw [if_neg h1, if_neg (by omega), upd_ne _ _ _ _ h2, rowI_get k n f j hj]
  · have e1 : (rowI k n f)[j]? = none := by simp [rowI]; omega
    have e2 : (rowI k n (upd f i v))[j]? = none := by simp [rowI]; omega
    rw [if_neg (by omega), if_neg (by simp; omega), e1, e2]
theorem rowI_slice (k : IntKind) (n : Nat) (f : Nat → Int) (o m : Nat) (h : o + m ≤ n) : ((rowI k n f).drop o).take m = rowI k m (fun i => f (o + i)) := by
  apply List.ext_getElem?
  intro j
  rw [List.getElem?_take]
  by_cases hj : j < m
  · rw [if_pos hj, List.getElem?_drop, rowI_get k n f _ (by omega), rowI_get k m _ j hj]
  · have : (rowI k m (fun i => f (o + i)))[j]? = none := by simp [rowI]; omega
    rw [if_neg hj, this]
end Go.Vcg
