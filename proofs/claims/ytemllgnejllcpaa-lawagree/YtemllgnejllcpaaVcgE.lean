/-
  The calculus: the rules by which a proof's simp reckons a state, each fired by what has been reckoned already. Nothing here speaks of a program.
-/
import Derived.Test.YtemllgnejllcpaaVcgH
set_option linter.unusedVariables false
set_option linter.unusedSimpArgs false
namespace Go.Vcg
set_option linter.unusedSectionVars false
section
variable {P : Program} [Tables P] {K : AS → Prop} {F : Exit → AS → Prop} {s : AS} {e : Nat → Option AV} {b : Nat → Option Box} {n nm : Nat} {dst : Option Tmp} {ty : TypeId} {pos : String} {after : Array Edge} {gd : Option (Nat × Bool)}

def bndV (v : Option AV) : Option (Option Int) := match v with
  | some (.inl (.inl (.inl (.int _ j)))) => some (some j)
  | _ => none
def iaT (m o : Nat) (j : Int) (t : Option (Nat × Nat)) : Option Eff := match t with
  | some (l, z) => if 0 ≤ j ∧ j < l then some (some (V (.pointer (some ⟨m, o + j.toNat * z, none⟩))), none) else none
  | none => none
def slU (b o c : Nat) (h : Int) : Option Eff := if 0 ≤ h ∧ h ≤ c then some (some (Sl b o h.toNat c), none) else none
theorem slB_zero {b o c z : Nat} {h : Int} : slB b o c z 0 h = slU b o c h := by
  unfold slB slU
  simp
def bsF (nm len : Nat) (l : Option (List SV)) : Option Eff := match l with
  | some l => some (some (Sl nm 0 len len), some (.inl l))
  | none => none
def fsP (z : Nat) (s : AS) (cs : List SV) (j : Nat) (rest : List (Nat × Operand)) (new : Option (List SV)) : Option (List SV) := match new with
  | some new => if new.length = z ∧ j * z + z ≤ cs.length then effFillS z s (splice cs (j * z) new) rest else none
  | none => none
theorem zerosL_int {k : IntKind} {n : Nat} : zerosL [Value.int k 0] n = rowI k n fun _ => 0 := by
  unfold zerosL rowI
  apply List.map_congr_left
  intro i _
  simp [Nat.mod_one]
theorem upd_apply {α : Type} (f : Nat → α) (d x : Nat) (v : α) : upd f d v x = if x = d then v else f x := rfl
theorem start_eq (l : List AV) : start l b n = ⟨fun d => l[d]?, b, n⟩ := rfl

-- code
theorem vc_skip : vc P .skip F s = F .normal s := rfl
theorem vc_region {id : Nat} {ops : Array Oper} : vc P (.region id ops false) F ⟨e, b, n⟩ = vcOps P ops n ops.toList 0 (F .normal) ⟨e, b, n⟩ := rfl
theorem vc_seq {x y : Code} : vc P (.seq x y) F s = vc P x (seqK (vc P y F) F) s := rfl
theorem vc_cond {c : Operand} {x y : Code} : vc P (.cond c x y) F s = vcIf (s.opnd c) (vc P x F) (vc P y F) s := rfl
theorem vc_block {id : Nat} {c : Code} : vc P (.block id c) F s = vc P c (blockK id F) s := rfl
theorem vc_loop {c : Code} : vc P (.loop c) F s = vcLoop (vc P c) F s := rfl
theorem vc_exit {id : Nat} : vc P (.exit id) F s = F (.exit id) s := rfl
theorem vc_ret : vc P .ret F s = F .ret s := rfl
theorem seqK_normal {K : AS → Prop} : seqK K F .normal s = K s := rfl
theorem seqK_exit {K : AS → Prop} {id : Nat} : seqK K F (.exit id) s = F (.exit id) s := rfl
theorem seqK_ret {K : AS → Prop} : seqK K F .ret s = F .ret s := rfl
theorem blockK_exit {id id' : Nat} : blockK id F (.exit id') s = if id' = id then F .normal s else F (.exit id') s := rfl
theorem blockK_normal {id : Nat} : blockK id F .normal s = F .normal s := rfl
theorem blockK_ret {id : Nat} : blockK id F .ret s = F .ret s := rfl
theorem retK_ret {rs : List ResultVar} {Post : AV → AS → Prop} : retK P rs Post .ret s = retV (resAV (resAll P s rs)) Post s := rfl
theorem retK_normal {rs : List ResultVar} {Post : AV → AS → Prop} : retK P rs Post .normal s = retV (resAV (resAll P s rs)) Post s := rfl
theorem resAll_nil : resAll P s [] = some [] := rfl
theorem resAll_cons {r : ResultVar} {rs : List ResultVar} : resAll P s (r :: rs) = consO (resOne P s r) (resAll P s rs) := by
  unfold consO; rfl
theorem resOne_tmp {t : Nat} : resOne P ⟨e, b, n⟩ (.tmp t) = oneC (e t) := rfl
theorem resOne_cell {t ty : Nat} : resOne P ⟨e, b, n⟩ (.cell t ty) = oneE (effLoad P ⟨e, b, n⟩ ty (e t)) := rfl
theorem oneC_some {c : CV} : oneC (some (.inl c)) = some c := rfl
theorem oneE_some {c : CV} {m : Mem} : oneE (some (some (.inl c), m)) = some c := rfl
theorem consO_some {c : CV} {l : List CV} : consO (some c) (some l) = some (c :: l) := rfl
theorem resAV_one {c : CV} : resAV (some [c]) = some (.inl c) := rfl
theorem resAV_two {c d : CV} {l : List CV} : resAV (some (c :: d :: l)) = some (.inr (c :: d :: l)) := rfl
theorem resAV_zero : resAV (some []) = some (.inr []) := rfl
theorem retV_some {v : AV} {Post : AV → AS → Prop} : retV (some v) Post s = Post v s := rfl

-- operations
variable {ops : Array Oper} {base i : Nat} {rest : List Oper} {op : Op}
theorem ops_nil : vcOps P ops base [] i K ⟨e, b, n⟩ = K ⟨e, b, base + i⟩ := rfl
theorem ops_cons : vcOps P ops base (⟨dst, op, ty, pos, after, none⟩ :: rest) i K s = vcRun P (base + i) ⟨dst, op, ty, pos, after, none⟩ (vcOps P ops base rest (i + 1) K) s := rfl
theorem ops_guard {j : Nat} {want : Bool} : vcOps P ops base (⟨dst, op, ty, pos, after, some (j, want)⟩ :: rest) i K s =
    gOps P (gnorm (guardAV ops s j) want) want (base + i) ⟨dst, op, ty, pos, after, some (j, want)⟩ (vcOps P ops base rest (i + 1) K) s := rfl
variable {o : Oper}
theorem g_tt : gOps P (some (B true)) true nm o K s = vcRun P nm o K s := by simp [gOps, vcGuard]
theorem g_ff : gOps P (some (B false)) false nm o K s = vcRun P nm o K s := by simp [gOps, vcGuard]
theorem g_tf : gOps P (some (B true)) false nm ⟨dst, op, ty, pos, after, gd⟩ K s = K (s.put dst (some (V undef))) := by simp [gOps, vcGuard]
theorem g_ft : gOps P (some (B false)) true nm ⟨dst, op, ty, pos, after, gd⟩ K s = K (s.put dst (some (V undef))) := by simp [gOps, vcGuard]
theorem gD_tt : gOpsD P ops i (some (B true)) true nm o K s = vcD P ops i nm o K s := by simp [gOpsD, vcGuard]
theorem gD_ff : gOpsD P ops i (some (B false)) false nm o K s = vcD P ops i nm o K s := by simp [gOpsD, vcGuard]
theorem gD_tf : gOpsD P ops i (some (B true)) false nm ⟨dst, op, ty, pos, after, gd⟩ K s = K (s.put dst (some (V undef))) := by simp [gOpsD, vcGuard]
theorem gD_ft : gOpsD P ops i (some (B false)) true nm ⟨dst, op, ty, pos, after, gd⟩ K s = K (s.put dst (some (V undef))) := by simp [gOpsD, vcGuard]
theorem gn_b {want x : Bool} : gnorm (some (B x)) want = some (B x) := rfl
theorem gn_ut : gnorm (some (V undef)) true = some (B false) := rfl
theorem gn_uf : gnorm (some (V undef)) false = some (B true) := rfl
theorem run_move {x : Operand} : vcRun P nm ⟨dst, .move x, ty, pos, after, gd⟩ K s = vcMove (s.opnd x) dst K s := by
  simp only [vcRun, effOf, vcMove]; cases s.opnd x <;> rfl
theorem run_assign {x : Operand} : vcRun P nm ⟨dst, .assign x, ty, pos, after, gd⟩ K s = vcMove (s.opnd x) dst K s := by
  simp only [vcRun, effOf, vcMove]; cases s.opnd x <;> rfl
theorem run_alloc {t : Nat} : vcRun P nm ⟨dst, .alloc t, ty, pos, after, gd⟩ K s = vcEff (effAlloc P nm t) nm dst K s := rfl
theorem run_box {t : Nat} {x : Operand} : vcRun P nm ⟨dst, .box t x, ty, pos, after, gd⟩ K s = vcEff (effBox nm (s.opnd x)) nm dst K s := rfl
theorem run_build {t : Nat} {l : List (Nat × Operand)} : vcRun P nm ⟨dst, .build t l.toArray, ty, pos, after, gd⟩ K s = vcEff (effBuild P t s l) nm dst K s := rfl
theorem run_load {t : Nat} {x : Operand} : vcRun P nm ⟨dst, .load t x, ty, pos, after, gd⟩ K s = vcEff (effLoad P s t (s.opnd x)) nm dst K s := rfl
theorem run_store {t : Nat} {x y : Operand} : vcRun P nm ⟨dst, .store t x y, ty, pos, after, gd⟩ K s = vcEff (effStore P s t (s.opnd x) (s.opnd y)) nm dst K s := rfl
theorem run_binOp {o : BinOp} {t u : Nat} {x y : Operand} : vcRun P nm ⟨dst, .binOp o t x y u, ty, pos, after, gd⟩ K s = vcEff (effB2 P o t (s.opnd x) (s.opnd y)) nm dst K s := rfl
theorem run_lenF {xs : List Operand} {tys : List TypeId} : vcRun P nm ⟨dst, .call ⟨.builtin .len, xs.toArray, tys.toArray⟩, ty, pos, after, gd⟩ K s = vcEff (effLen (lenK P tys) (argsOf s xs)) nm dst K s := rfl
theorem run_unOp {o : UnOp} {t : Nat} {x : Operand} : vcRun P nm ⟨dst, .unOp o t x, ty, pos, after, gd⟩ K s = vcEff (effUn o (s.opnd x)) nm dst K s := rfl
theorem run_convert {t u : Nat} {x : Operand} : vcRun P nm ⟨dst, .convert t u x, ty, pos, after, gd⟩ K s = vcEff (effConvS P s t u (s.opnd x)) nm dst K s := rfl
theorem run_fieldAddr {t f : Nat} {x : Operand} : vcRun P nm ⟨dst, .fieldAddr t x f, ty, pos, after, gd⟩ K s = vcEff (effFieldAddr P t f (s.opnd x)) nm dst K s := rfl
theorem run_arrAt {t : Nat} {x : Operand} : vcRun P nm ⟨dst, .sliceToArrayPointer t x, ty, pos, after, gd⟩ K s = vcEff (effArrAt (arrOf P t) (s.opnd x)) nm dst K s := rfl
theorem run_field {t f : Nat} {x : Operand} : vcRun P nm ⟨dst, .field t x f, ty, pos, after, gd⟩ K s = vcEff (effField P t f (s.opnd x)) nm dst K s := rfl
theorem run_indexAddr {t : Nat} {x y : Operand} : vcRun P nm ⟨dst, .indexAddr t x y, ty, pos, after, gd⟩ K s = vcEff (effIndexAddr P t (s.opnd x) (s.opnd y)) nm dst K s := rfl
theorem run_index {t : Nat} {x y : Operand} : vcRun P nm ⟨dst, .index t x y, ty, pos, after, gd⟩ K s = vcEff (effIndex P t (s.opnd x) (s.opnd y)) nm dst K s := rfl
theorem run_extract {x : Operand} {k : Nat} : vcRun P nm ⟨dst, .extract x k, ty, pos, after, gd⟩ K s = vcEff (effExtract (s.opnd x) k) nm dst K s := rfl
theorem run_pick {x y z : Operand} : vcRun P nm ⟨dst, .pick x y z, ty, pos, after, gd⟩ K s = vcEff (effPick (s.opnd x) (s.opnd y) (s.opnd z)) nm dst K s := rfl
theorem pick_true {x y : Option AV} : effPick (some (B true)) x y = pickO x := rfl
theorem pick_false {x y : Option AV} : effPick (some (B false)) x y = pickO y := rfl
theorem pickO_some {v : AV} : pickO (some v) = some (some v, none) := rfl
theorem run_callF {f : Nat} {xs : List Operand} {tys : Array TypeId} : vcRun P nm ⟨dst, .call ⟨.value (.func f), xs.toArray, tys⟩, ty, pos, after, gd⟩ K s =
    if callable P f = true then vcCall P nm f (argsOf s xs) dst K s else vcExt P f (argsOf s xs) dst K s := rfl
theorem run_append {xs : List Operand} {tys : Array TypeId} : vcRun P nm ⟨dst, .call ⟨.builtin .append, xs.toArray, tys⟩, ty, pos, after, gd⟩ K s =
    vcBuiltin P nm .append tys ty (xs.toArray.map isConst) (argsOf s xs) dst K s := rfl
theorem run_copy {xs : List Operand} {tys : Array TypeId} : vcRun P nm ⟨dst, .call ⟨.builtin .copy, xs.toArray, tys⟩, ty, pos, after, gd⟩ K s =
    vcBuiltin P nm .copy tys ty (xs.toArray.map isConst) (argsOf s xs) dst K s := rfl
theorem args_nil : argsOf s [] = some [] := rfl
theorem args_cons {x : Operand} {xs : List Operand} : argsOf s (x :: xs) = consA (s.opnd x) (argsOf s xs) := rfl
theorem consA_some {v : AV} {l : List AV} : consA (some v) (some l) = some (v :: l) := rfl

-- operands
theorem opnd_tmp {t : Nat} : AS.opnd ⟨e, b, n⟩ (.tmp t) = e t := rfl
theorem opnd_int {k : IntKind} {x : Int} : AS.opnd s (.const (.int k x)) = some (I k x) := rfl
theorem opnd_bool {x : Bool} : AS.opnd s (.const (.bool x)) = some (B x) := rfl
theorem opnd_slice {a : Option Addr} {l c : Nat} : AS.opnd s (.const (.slice a l c)) = some (V (.slice a l c)) := rfl
theorem opnd_string {x : ByteArray} : AS.opnd s (.const (.string x)) = some (V (.string x)) := rfl
theorem opnd_func {f : Nat} : AS.opnd s (.func f) = some (V (.func (.func f) #[] #[])) := rfl

-- what an effect does
theorem move_some {v : AV} : vcMove (some v) dst K s = K (s.put dst (some v)) := rfl
theorem eff_val {v : Option AV} : vcEff (some (v, none)) nm dst K s = K (s.put dst v) := rfl
theorem eff_new {v : Option AV} {cs : List SV} : vcEff (some (v, some (.inl cs))) nm dst K ⟨e, b, n⟩ = K (AS.put ⟨e, upd b nm (some ⟨true, cs⟩), n⟩ dst v) := rfl
theorem eff_wr {v : Option AV} {t : Nat} {bx : Box} : vcEff (some (v, some (.inr (t, bx)))) nm dst K ⟨e, b, n⟩ = K (AS.put ⟨e, upd b t (some bx), n⟩ dst v) := rfl
theorem eff_ite {c : Prop} [Decidable c] {ef : Eff} : vcEff (if c then some ef else none) nm dst K s = (c ∧ vcEff (some ef) nm dst K s) := by
  split <;> simp_all [vcEff]
theorem put_some {t : Nat} {v : Option AV} : AS.put ⟨e, b, n⟩ (some t) v = ⟨upd e t v, b, n⟩ := rfl
theorem put_none {v : Option AV} : AS.put s none v = s := rfl

-- numbers
variable {k k' : IntKind} {x y : Int}
theorem bin_add : effBin .add (some (I k x)) (some (I k y)) = some (some (I k (k.wrap (x + y))), none) := by simp [effBin, binI]
theorem bin_sub : effBin .sub (some (I k x)) (some (I k y)) = some (some (I k (k.wrap (x - y))), none) := by simp [effBin, binI]
theorem bin_mul : effBin .mul (some (I k x)) (some (I k y)) = some (some (I k (k.wrap (x * y))), none) := by simp [effBin, binI]
theorem bin_quo : effBin .quo (some (I k x)) (some (I k y)) = if y ≠ 0 then some (some (I k (k.wrap (x.tdiv y))), none) else none := by
  simp only [effBin, binI]; by_cases h : y = 0 <;> simp [h]
theorem bin_rem : effBin .rem (some (I k x)) (some (I k y)) = if y ≠ 0 then some (some (I k (x.tmod y)), none) else none := by
  simp only [effBin, binI]; by_cases h : y = 0 <;> simp [h]
theorem bin_and : effBin .and (some (I k x)) (some (I k y)) = some (some (I k (bitI .and k x y)), none) := by simp [effBin, binI]
theorem bin_or : effBin .or (some (I k x)) (some (I k y)) = some (some (I k (bitI .or k x y)), none) := by simp [effBin, binI]
theorem bin_xor : effBin .xor (some (I k x)) (some (I k y)) = some (some (I k (bitI .xor k x y)), none) := by simp [effBin, binI]
theorem bin_andNot : effBin .andNot (some (I k x)) (some (I k y)) = some (some (I k (bitI .andNot k x y)), none) := by simp [effBin, binI]
theorem bin_eql : effBin .eql (some (I k x)) (some (I k y)) = some (some (B (x == y)), none) := by simp [effBin, binI]
theorem bin_neq : effBin .neq (some (I k x)) (some (I k y)) = some (some (B (x != y)), none) := by simp [effBin, binI]
theorem bin_lss : effBin .lss (some (I k x)) (some (I k y)) = some (some (B (decide (x < y))), none) := by simp [effBin, binI]
theorem bin_leq : effBin .leq (some (I k x)) (some (I k y)) = some (some (B (decide (x ≤ y))), none) := by simp [effBin, binI]
theorem bin_gtr : effBin .gtr (some (I k x)) (some (I k y)) = some (some (B (decide (y < x))), none) := by simp [effBin, binI]
theorem bin_geq : effBin .geq (some (I k x)) (some (I k y)) = some (some (B (decide (y ≤ x))), none) := by simp [effBin, binI]
theorem bin_shl : effBin .shl (some (I k x)) (some (I k' y)) = if 0 ≤ y then some (some (I k (shlI k x y)), none) else none := by
  simp only [effBin, binI, true_or, or_true, if_true]; by_cases h : 0 ≤ y <;> simp [h]
theorem bin_shr : effBin .shr (some (I k x)) (some (I k' y)) = if 0 ≤ y then some (some (I k (shrI k x y)), none) else none := by
  simp only [effBin, binI, or_true, if_true]; by_cases h : 0 ≤ y <;> simp [h]
theorem un_not {x : Bool} : effUn .not (some (B x)) = some (some (B (!x)), none) := rfl
theorem un_neg : effUn .neg (some (I k x)) = some (some (I k (k.wrap (0 - x))), none) := rfl
theorem un_xor : effUn .xor (some (I k x)) = some (some (I k (bitI .xor k (if k.signed then -1 else k.max) x)), none) := rfl
theorem convS_sl {t b o n c : Nat} : effConvS P s t t (some (Sl b o n c)) = convB (bytK P t) (s.box b) (Sl b o n c) := by
  show (if t = t then _ else _) = _
  rw [if_pos rfl]
theorem convB_some {cs : List SV} {v : AV} : convB true (some ⟨true, cs⟩) v = some (some v, none) := rfl
theorem conv_int {t u : Nat} : effConvS P s t u (some (I k' x)) = cvK x (kindOf P t) (kindOf P u) := by
  show effConvert P t u (some (I k' x)) = _
  cases h1 : kindOf P t <;> cases h2 : kindOf P u <;> simp [effConvert, cvK, h1, h2]
theorem cvK_some : cvK x (some k') (some k) = some (some (I k (k.wrap x)), none) := rfl

-- memory
theorem load_ptr {t bx o : Nat} : effLoad P ⟨e, b, n⟩ t (some (Ptr bx o)) = ldB (tyOf P t) (b bx) o := rfl
theorem ldB_agg {m : Nat} {rw : Bool} {cs : List SV} {o : Nat} : ldB (some (true, m)) (some ⟨rw, cs⟩) o = if o + m ≤ cs.length then some (some (Ag ((cs.drop o).take m)), none) else none := rfl
theorem ldB_one {m : Nat} {rw : Bool} {cs : List SV} {o : Nat} : ldB (some (false, m)) (some ⟨rw, cs⟩) o = ldC cs[o]? := rfl
theorem ldC_some {v : SV} : ldC (some v) = some (some (.inl (.inl v)), none) := rfl
theorem cells_int {k : IntKind} {x : Int} : cellsOf (some (I k x)) = some [Sum.inl (.int k x)] := rfl
theorem cells_bool {x : Bool} : cellsOf (some (B x)) = some [Sum.inl (.bool x)] := rfl
theorem cells_slice {a : Option Addr} {l c : Nat} : cellsOf (some (V (.slice a l c))) = some [Sum.inl (.slice a l c)] := rfl
theorem cells_ptr {t o : Nat} : cellsOf (some (Ptr t o)) = some [Sum.inr (.inl (t, o))] := rfl
theorem cells_sl {t o l c : Nat} : cellsOf (some (Sl t o l c)) = some [Sum.inr (.inr (t, o, l, c))] := rfl
theorem cells_agg {l : List SV} : cellsOf (some (Ag l)) = some l := rfl
theorem store_ptr {t bx o : Nat} {v : Option AV} : effStore P ⟨e, b, n⟩ t (some (Ptr bx o)) v = stB bx o (cellsOf v) (tyOf P t) (b bx) := by
  cases h1 : cellsOf v with
  | none => simp [effStore, stB, h1]
  | some new =>
    cases h2 : tyOf P t with
    | none => simp [effStore, stB, h1, h2]
    | some p =>
      cases h3 : b bx with
      | none => simp [effStore, stB, h1, h2, h3]
      | some x => simp [effStore, stB, h1, h2, h3]
theorem stB_some {bx o m : Nat} {new cs : List SV} {ag : Bool} : stB bx o (some new) (some (ag, m)) (some ⟨true, cs⟩) =
    if o + new.length ≤ cs.length ∧ new.length = m then some (none, some (.inr (bx, ⟨true, splice cs o new⟩))) else none := by
  simp [stB]
theorem alloc_zero {t : Nat} : effAlloc P nm t = alZ nm (zeroOf P t) := rfl
theorem alZ_some {z : List Value} : alZ nm (some z) = if z.all Value.oneCell' = true then some (some (Ptr nm 0), some (.inl (z.map .inl))) else none := rfl
theorem box_cells {v : AV} : effBox nm (some v) = bxC nm (cellsOf (some v)) := rfl
theorem bxC_some {l : List SV} : bxC nm (some l) = some (some (Ptr nm 0), some (.inl l)) := rfl
theorem fieldAddr_ptr {t f bx o : Nat} : effFieldAddr P t f (some (Ptr bx o)) = faP bx o (fieldOf P t f) := by
  unfold effFieldAddr faP; split <;> simp_all
theorem faP_some {bx o fo m : Nat} {ag : Bool} : faP bx o (some (fo, ag, m + 1)) = some (some (Ptr bx (o + fo)), none) := rfl
theorem field_agg {t f : Nat} {l : List SV} : effField P t f (some (Ag l)) = fdP l (fieldOf P t f) := by
  cases h : fieldOf P t f with
  | none => simp [effField, fdP, h]
  | some p =>
    obtain ⟨o, ag, m⟩ := p
    cases ag
    · simp only [effField, fdP, h]; cases l[o]? <;> rfl
    · simp [effField, fdP, h]
theorem fdP_agg {l : List SV} {o m : Nat} : fdP l (some (o, true, m)) = some (some (Ag ((l.drop o).take m)), none) := rfl
theorem fdP_one {l : List SV} {o m : Nat} : fdP l (some (o, false, m)) = ldC l[o]? := by
  unfold fdP ldC; rfl
theorem ixAddr_arr {t bx o : Nat} {j : Int} : effIndexAddr P t (some (Ptr bx o)) (some (I k j)) = iaP bx o j (arrOf P t) := by
  unfold effIndexAddr iaP; rfl
theorem iaP_some {bx o m z : Nat} {j : Int} : iaP bx o j (some (m, z)) = if 0 ≤ j ∧ j < m then some (some (Ptr bx (o + j.toNat * z)), none) else none := rfl
theorem ixAddr_sl {t bx o m c : Nat} {j : Int} : effIndexAddr P t (some (Sl bx o m c)) (some (I k j)) = isP bx o m j (Vcg.elemOf P t) := by
  unfold effIndexAddr isP; rfl
theorem isP_some {bx o m z : Nat} {j : Int} : isP bx o m j (some z) = if 0 ≤ j ∧ j < m then some (some (Ptr bx (o + j.toNat * z)), none) else none := rfl
theorem ix_agg {t : Nat} {l : List SV} {j : Int} : effIndex P t (some (Ag l)) (some (I k j)) = ixP l j (arrEl P t) := by
  unfold effIndex ixP
  cases h : arrEl P t with
  | none => rfl
  | some p => obtain ⟨m, ag, z⟩ := p; cases ag <;> rfl
theorem ixP_agg {l : List SV} {j : Int} {m z : Nat} : ixP l j (some (m, true, z)) = if 0 ≤ j ∧ j < m then some (some (Ag ((l.drop (j.toNat * z)).take z)), none) else none := rfl
theorem ixP_one {l : List SV} {j : Int} {m z : Nat} : ixP l j (some (m, false, z)) = ixC j m l[j.toNat * z]? := by
  cases h : l[j.toNat * z]? <;> simp [ixP, ixC, h]
theorem ixC_some {j : Int} {m : Nat} {v : SV} : ixC j m (some v) = if 0 ≤ j ∧ j < m then some (some (.inl (.inl v)), none) else none := rfl
theorem extract_tup {l : List CV} {k : Nat} : effExtract (some (.inr l)) k = exC l[k]? := rfl
theorem exC_some {c : CV} : exC (some c) = some (some (.inl c), none) := rfl
theorem build_blank {t : Nat} {l : List (Nat × Operand)} : effBuild P t s l = bdB P t s l (blankOf P t) := by
  cases h : blankOf P t with
  | none => simp [effBuild, bdB, h]
  | some z => simp only [effBuild, bdB, h]; cases effFill P t s z l <;> rfl
theorem bdB_some {t : Nat} {l : List (Nat × Operand)} {z : List SV} : bdB P t s l (some z) = bdF (effFill P t s z l) := rfl
theorem bdF_some {l : List SV} : bdF (some l) = some (some (Ag l), none) := rfl
theorem bdF_ite {c : Prop} [Decidable c] {x : Option (List SV)} {K : AS → Prop} : vcEff (bdF (if c then x else none)) nm dst K s = (c ∧ vcEff (bdF x) nm dst K s) := by
  split <;> simp_all [vcEff, bdF]
theorem fill_nil {t : Nat} {cs : List SV} : effFill P t s cs [] = some cs := rfl
theorem fill_cons {t j : Nat} {x : Operand} {cs : List SV} {l : List (Nat × Operand)} : effFill P t s cs ((j, x) :: l) = fiP P t s cs l (cellsOf (s.opnd x)) (placeOf P t j) := by
  cases h : placeOf P t j with
  | none => simp [effFill, fiP, h]
  | some p => obtain ⟨o, m⟩ := p; simp only [effFill, fiP, h]; cases cellsOf (s.opnd x) <;> rfl
theorem fiP_some {t : Nat} {cs new : List SV} {o m : Nat} {l : List (Nat × Operand)} : fiP P t s cs l (some new) (some (o, m)) = if new.length = m ∧ o + m ≤ cs.length then effFill P t s (splice cs o new) l else none := rfl

theorem guard_some {l : List Oper} {j : Nat} : guardAV l.toArray ⟨e, b, n⟩ j = gdO e l[j]? := by
  unfold guardAV gdO
  simp only [List.getElem?_toArray]
  cases l[j]? <;> rfl
theorem gdO_some {d : Nat} : gdO e (some ⟨some d, op, ty, pos, after, gd⟩) = e d := rfl
-- regions that draw
theorem vc_draw {id : Nat} {ops : Array Oper} : vc P (.region id ops true) F ⟨e, b, n⟩ = ((P.follows .mixedOrders = true ∧ drawOk ops = true) ∧ vcOpsD P ops n ops.toList 0 (F .normal) ⟨e, b, n⟩) := rfl
theorem opsD_nil : vcOpsD P ops base [] i K ⟨e, b, n⟩ = K ⟨e, b, base + i⟩ := rfl
theorem opsD_cons : vcOpsD P ops base (⟨dst, op, ty, pos, after, none⟩ :: rest) i K s = vcD P ops i (base + i) ⟨dst, op, ty, pos, after, none⟩ (vcOpsD P ops base rest (i + 1) K) s := rfl
theorem opsD_guard {j : Nat} {want : Bool} : vcOpsD P ops base (⟨dst, op, ty, pos, after, some (j, want)⟩ :: rest) i K s =
    gOpsD P ops i (gnorm (guardAV ops s j) want) want (base + i) ⟨dst, op, ty, pos, after, some (j, want)⟩ (vcOpsD P ops base rest (i + 1) K) s := by
  show vcOpD P ops i (base + i) ⟨dst, op, ty, pos, after, some (j, want)⟩ (vcOpsD P ops base rest (i + 1) K) s = _
  generalize vcOpsD P ops base rest (i + 1) K = K'
  simp only [vcOpD, Does, DoesS, vcOp, gOpsD, vcGuard, vcD]
  generalize gnorm (guardAV ops s j) want = q
  have none : ∀ (X : Eff → Prop) (Y : (Eff → Prop) → Prop) (c d : Prop), ((∃ ef, False ∧ X ef) ∨ (c ∧ ∃ D, False ∧ Y D) ∨ (d ∧ False)) = False := fun X Y c d => by simp
  rcases q with _ | (((v | v) | l) | l) <;> try exact none _ _ _ _
  cases v <;> try exact none _ _ _ _
  rename_i x
  rw [eq_iff_iff]
  constructor
  · rintro (⟨ef, ⟨h1, h2⟩, hk⟩ | ⟨hl, D, ⟨h1, h2⟩, hk⟩ | ⟨hb, h1, h2⟩)
    · refine ⟨fun hw => .inl ⟨ef, h1 hw, hk⟩, fun hw => ?_⟩
      rw [h2 hw] at hk
      exact hk
    · refine ⟨fun hw => .inr (.inl ⟨hl, D, h1 hw, hk⟩), fun hw => ?_⟩
      exact hk (some (V undef), Option.none) (by rw [h2 hw])
    · exact ⟨fun hw => .inr (.inr ⟨hb, h1 hw⟩), h2⟩
  · rintro ⟨h1, h2⟩
    by_cases hw : x = want
    · rcases h1 hw with ⟨ef, hd, hk⟩ | ⟨hl, D, hd, hk⟩ | ⟨hb, hk⟩
      · exact .inl ⟨ef, ⟨fun _ => hd, fun hx => absurd hw hx⟩, hk⟩
      · exact .inr (.inl ⟨hl, D, ⟨fun _ => hd, fun hx => absurd hw hx⟩, hk⟩)
      · exact .inr (.inr ⟨hb, fun _ => hk, fun hx => absurd hw hx⟩)
    · exact .inl ⟨(some (V undef), Option.none), ⟨fun hx => absurd hx hw, fun _ => rfl⟩, h2 hw⟩
theorem vcD_eff {o : Oper} {ef : Option Eff} (h1 : ∀ x, DoesRun P nm o s x = (ef = some x)) (h2 : ∀ D, ¬ DoesRunS P nm o s D) (h3 : vcRun P nm o K s = vcEff ef nm o.dst K s) : vcD P ops i nm o K s = vcEff ef nm o.dst K s := by
  unfold vcD
  rw [h3]
  simp only [h1, h2, false_and, exists_false, and_false, false_or]
  cases ef with
  | none => simp [vcEff]
  | some x => simp [vcEff, app]
theorem vcD_alloc {t : Nat} : vcD P ops i nm ⟨dst, .alloc t, ty, pos, after, gd⟩ K s = vcEff (effAlloc P nm t) nm dst K s := vcD_eff (fun _ => rfl) (fun _ h => h) rfl
theorem vcD_box {t : Nat} {x : Operand} : vcD P ops i nm ⟨dst, .box t x, ty, pos, after, gd⟩ K s = vcEff (effBox nm (s.opnd x)) nm dst K s := vcD_eff (fun _ => rfl) (fun _ h => h) rfl
theorem vcD_build {t : Nat} {l : List (Nat × Operand)} : vcD P ops i nm ⟨dst, .build t l.toArray, ty, pos, after, gd⟩ K s = vcEff (effBuild P t s l) nm dst K s := vcD_eff (fun _ => rfl) (fun _ h => h) rfl
theorem vcD_load {t : Nat} {x : Operand} : vcD P ops i nm ⟨dst, .load t x, ty, pos, after, gd⟩ K s = vcEff (effLoad P s t (s.opnd x)) nm dst K s := vcD_eff (fun _ => rfl) (fun _ h => h) rfl
theorem vcD_store {t : Nat} {x y : Operand} : vcD P ops i nm ⟨dst, .store t x y, ty, pos, after, gd⟩ K s = vcEff (effStore P s t (s.opnd x) (s.opnd y)) nm dst K s := vcD_eff (fun _ => rfl) (fun _ h => h) rfl
theorem vcD_binOp {o : BinOp} {t u : Nat} {x y : Operand} : vcD P ops i nm ⟨dst, .binOp o t x y u, ty, pos, after, gd⟩ K s = vcEff (effB2 P o t (s.opnd x) (s.opnd y)) nm dst K s := vcD_eff (fun _ => rfl) (fun _ h => h) rfl
theorem vcD_unOp {o : UnOp} {t : Nat} {x : Operand} : vcD P ops i nm ⟨dst, .unOp o t x, ty, pos, after, gd⟩ K s = vcEff (effUn o (s.opnd x)) nm dst K s := vcD_eff (fun _ => rfl) (fun _ h => h) rfl
theorem vcD_convert {t u : Nat} {x : Operand} : vcD P ops i nm ⟨dst, .convert t u x, ty, pos, after, gd⟩ K s = vcEff (effConvS P s t u (s.opnd x)) nm dst K s := vcD_eff (fun _ => rfl) (fun _ h => h) rfl
theorem vcD_fieldAddr {t f : Nat} {x : Operand} : vcD P ops i nm ⟨dst, .fieldAddr t x f, ty, pos, after, gd⟩ K s = vcEff (effFieldAddr P t f (s.opnd x)) nm dst K s := vcD_eff (fun _ => rfl) (fun _ h => h) rfl
theorem vcD_arrAt {t : Nat} {x : Operand} : vcD P ops i nm ⟨dst, .sliceToArrayPointer t x, ty, pos, after, gd⟩ K s = vcEff (effArrAt (arrOf P t) (s.opnd x)) nm dst K s := vcD_eff (fun _ => rfl) (fun _ h => h) rfl
theorem arrAt_sl {m z b o n c : Nat} : effArrAt (some (m, z)) (some (Sl b o n c)) = if m ≤ n then some (some (Ptr b o), none) else none := rfl
theorem vcD_field {t f : Nat} {x : Operand} : vcD P ops i nm ⟨dst, .field t x f, ty, pos, after, gd⟩ K s = vcEff (effField P t f (s.opnd x)) nm dst K s := vcD_eff (fun _ => rfl) (fun _ h => h) rfl
theorem vcD_indexAddr {t : Nat} {x y : Operand} : vcD P ops i nm ⟨dst, .indexAddr t x y, ty, pos, after, gd⟩ K s = vcEff (effIndexAddr P t (s.opnd x) (s.opnd y)) nm dst K s := vcD_eff (fun _ => rfl) (fun _ h => h) rfl
theorem vcD_index {t : Nat} {x y : Operand} : vcD P ops i nm ⟨dst, .index t x y, ty, pos, after, gd⟩ K s = vcEff (effIndex P t (s.opnd x) (s.opnd y)) nm dst K s := vcD_eff (fun _ => rfl) (fun _ h => h) rfl
theorem vcD_extract {x : Operand} {k : Nat} : vcD P ops i nm ⟨dst, .extract x k, ty, pos, after, gd⟩ K s = vcEff (effExtract (s.opnd x) k) nm dst K s := vcD_eff (fun _ => rfl) (fun _ h => h) rfl
theorem vcD_len {xs : List Operand} {tys : List TypeId} : vcD P ops i nm ⟨dst, .call ⟨.builtin .len, xs.toArray, tys.toArray⟩, ty, pos, after, gd⟩ K s = vcEff (effLen (lenK P tys) (argsOf s xs)) nm dst K s := vcD_eff (fun _ => rfl) (fun _ h => h) rfl
theorem vcD_pick {x y z : Operand} : vcD P ops i nm ⟨dst, .pick x y z, ty, pos, after, gd⟩ K s = vcEff (effPick (s.opnd x) (s.opnd y) (s.opnd z)) nm dst K s := vcD_eff (fun _ => rfl) (fun _ h => h) rfl
theorem vcD_move {x : Operand} : vcD P ops i nm ⟨dst, .move x, ty, pos, after, gd⟩ K s = vcMove (s.opnd x) dst K s := by
  refine Eq.trans (b := vcEff (effOf P nm s (.move x)) nm dst K s) (vcD_eff (fun _ => rfl) (fun _ h => h) rfl) ?_
  simp only [effOf, vcMove]; cases s.opnd x <;> rfl
theorem vcD_assign {x : Operand} : vcD P ops i nm ⟨dst, .assign x, ty, pos, after, gd⟩ K s = vcMove (s.opnd x) dst K s := by
  refine Eq.trans (b := vcEff (effOf P nm s (.assign x)) nm dst K s) (vcD_eff (fun _ => rfl) (fun _ h => h) rfl) ?_
  simp only [effOf, vcMove]; cases s.opnd x <;> rfl
theorem vcD_slice {t : Nat} {x : Operand} {lo hi : Option Operand} : vcD P ops i nm ⟨dst, .slice t x lo hi none, ty, pos, after, gd⟩ K s = vcEff (effSlice (slK P t) (s.opnd x) (bndOf s lo) (bndOf s hi)) nm dst K s := vcD_eff (fun _ => rfl) (fun _ h => h) rfl
theorem vcD_make {t : Nat} {x y : Operand} : vcD P ops i nm ⟨dst, .makeSlice t x y, ty, pos, after, gd⟩ K s = vcEff (effMake nm (mkK P t) (s.opnd x) (s.opnd y)) nm dst K s := vcD_eff (fun _ => rfl) (fun _ h => h) rfl
theorem vcD_buildS {t n : Nat} {l : List (Nat × Operand)} : vcD P ops i nm ⟨dst, .buildSlice t n l.toArray, ty, pos, after, gd⟩ K s = vcEff (effBuildS nm (mkK P t) n s l) nm dst K s := vcD_eff (fun _ => rfl) (fun _ h => h) rfl
theorem vcD_nil {x : Operand} : vcD P ops i nm ⟨dst, .nilCheck x, ty, pos, after, gd⟩ K s = vcEff (effNil (s.opnd x)) nm dst K s := vcD_eff (fun _ => rfl) (fun _ h => h) rfl
theorem vcD_append {xs : List Operand} {tys : Array TypeId} : vcD P ops i nm ⟨dst, .call ⟨.builtin .append, xs.toArray, tys⟩, ty, pos, after, gd⟩ K s =
    (bar ops i = true ∧ vcBuiltin P nm .append tys ty (xs.toArray.map isConst) (argsOf s xs) dst K s) := by
  rw [eq_iff_iff]
  constructor
  · rintro (⟨e, h, _⟩ | ⟨_, D, h, _⟩ | h)
    · exact h.elim
    · exact h.elim
    · exact h
  · exact fun h => .inr (.inr h)
theorem vcD_copy {xs : List Operand} {tys : Array TypeId} : vcD P ops i nm ⟨dst, .call ⟨.builtin .copy, xs.toArray, tys⟩, ty, pos, after, gd⟩ K s =
    (bar ops i = true ∧ vcBuiltin P nm .copy tys ty (xs.toArray.map isConst) (argsOf s xs) dst K s) := by
  rw [eq_iff_iff]
  constructor
  · rintro (⟨e, h, _⟩ | ⟨_, D, h, _⟩ | h)
    · exact h.elim
    · exact h.elim
    · exact h
  · exact fun h => .inr (.inr h)
theorem vcD_call {f : Nat} {xs : List Operand} {tys : Array TypeId} : vcD P ops i nm ⟨dst, .call ⟨.value (.func f), xs.toArray, tys⟩, ty, pos, after, gd⟩ K s = vcFun P ops i nm f (argsOf s xs) dst K s := by
  rw [eq_iff_iff]
  constructor
  · rintro (⟨ef, ⟨l, r, h1, h2, rfl⟩ | h, hk⟩ | ⟨hl, D, hD, hk⟩ | ⟨hb, hk⟩)
    · exact .inl ⟨l, r, h1, h2, hk⟩
    · exact .inr (.inl ⟨ef, h, hk⟩)
    · exact .inr (.inr (.inl ⟨hl, D, hD, hk⟩))
    · exact .inr (.inr (.inr ⟨hb, hk⟩))
  · rintro (⟨l, r, h1, h2, hk⟩ | ⟨e, h, hk⟩ | ⟨hl, D, hD, hk⟩ | ⟨hb, hk⟩)
    · exact .inl ⟨_, .inl ⟨l, r, h1, h2, rfl⟩, hk⟩
    · exact .inl ⟨e, .inr h, hk⟩
    · exact .inr (.inl ⟨hl, D, hD, hk⟩)
    · exact .inr (.inr ⟨hb, hk⟩)
-- slices
theorem run_slice {t : Nat} {x : Operand} {lo hi : Option Operand} : vcRun P nm ⟨dst, .slice t x lo hi none, ty, pos, after, gd⟩ K s = vcEff (effSlice (slK P t) (s.opnd x) (bndOf s lo) (bndOf s hi)) nm dst K s := rfl
theorem run_make' {t : Nat} {x y : Operand} : vcRun P nm ⟨dst, .makeSlice t x y, ty, pos, after, gd⟩ K s = vcEff (effMake nm (mkK P t) (s.opnd x) (s.opnd y)) nm dst K s := rfl
theorem run_buildS {t n : Nat} {l : List (Nat × Operand)} : vcRun P nm ⟨dst, .buildSlice t n l.toArray, ty, pos, after, gd⟩ K s = vcEff (effBuildS nm (mkK P t) n s l) nm dst K s := rfl
theorem run_nil {x : Operand} : vcRun P nm ⟨dst, .nilCheck x, ty, pos, after, gd⟩ K s = vcEff (effNil (s.opnd x)) nm dst K s := rfl
theorem nil_ptr {b' o' : Nat} : effNil (some (Ptr b' o')) = some (some (Ptr b' o'), none) := rfl
theorem bnd_none : bndOf s none = some none := rfl
theorem bnd_some {x : Operand} : bndOf s (some x) = bndV (s.opnd x) := by
  unfold bndOf bndV; rfl
theorem bndV_int {x : Int} : bndV (some (I k x)) = some (some x) := rfl
theorem sl_from {b' o' n' c z : Nat} {l : Int} {hi : Option Int} : effSlice (some (none, z)) (some (Sl b' o' n' c)) (some (some l)) (some hi) = slB b' o' c z l (hi.getD n') := rfl
theorem sl_upto {b' o' n' c z : Nat} {hi : Option Int} : effSlice (some (none, z)) (some (Sl b' o' n' c)) (some none) (some hi) = slU b' o' c (hi.getD n') := slB_zero
theorem sa_from {b' o' m z : Nat} {l : Int} {hi : Option Int} : effSlice (some (some m, z)) (some (Ptr b' o')) (some (some l)) (some hi) = slB b' o' m z l (hi.getD m) := rfl
theorem sa_upto {b' o' m z : Nat} {hi : Option Int} : effSlice (some (some m, z)) (some (Ptr b' o')) (some none) (some hi) = slU b' o' m (hi.getD m) := slB_zero
theorem slB_def {b' o' c z : Nat} {l h : Int} : slB b' o' c z l h = if 0 ≤ l ∧ l ≤ h ∧ h ≤ c then some (some (Sl b' (if c = l.toNat then o' else o' + l.toNat * z) (h.toNat - l.toNat) (c - l.toNat)), none) else none := rfl
theorem slU_def {b' o' c : Nat} {h : Int} : slU b' o' c h = if 0 ≤ h ∧ h ≤ c then some (some (Sl b' o' h.toNat c), none) else none := rfl
theorem make_int {by' : Nat} {k k1 k2 : IntKind} {l c : Int} : effMake nm (some ([Value.int k 0], 1, by')) (some (I k1 l)) (some (I k2 c)) =
    if 0 ≤ l ∧ l ≤ c ∧ (by' : Int) * c ≤ 281474976710656 ∧ c ≤ 9223372036854775807 then some (some (Sl nm 0 l.toNat c.toNat), some (.inl (rowI k c.toNat fun _ => 0))) else none := by
  simp only [effMake, Nat.mul_one, zerosL_int]
  congr 1
  simp [Value.oneCell']
theorem buildS_some {z : List Value} {sz by' len : Nat} {l : List (Nat × Operand)} : effBuildS nm (some (z, sz, by')) len s l =
    if len * sz ≤ 16777216 ∧ 0 < z.length ∧ z.all Value.oneCell' = true then bsF nm len (effFillS sz s (zerosL z (len * sz)) l) else none := by
  simp only [effBuildS]
  congr 1
theorem bsF_some {len : Nat} {l : List SV} : bsF nm len (some l) = some (some (Sl nm 0 len len), some (.inl l)) := rfl
theorem bsF_ite {c : Prop} [Decidable c] {x : Option (List SV)} {len nm' : Nat} {K : AS → Prop} : vcEff (bsF nm len (if c then x else none)) nm' dst K s = (c ∧ vcEff (bsF nm len x) nm' dst K s) := by
  split <;> simp_all [vcEff, bsF]
theorem fillS_nil {z : Nat} {cs : List SV} : effFillS z s cs [] = some cs := rfl
theorem fillS_cons {z j : Nat} {x : Operand} {cs : List SV} {l : List (Nat × Operand)} : effFillS z s cs ((j, x) :: l) = fsP z s cs j l (cellsOf (s.opnd x)) := by
  simp only [effFillS, fsP]; cases cellsOf (s.opnd x) <;> rfl
theorem fsP_some {z j : Nat} {cs new : List SV} {l : List (Nat × Operand)} : fsP z s cs j l (some new) = if new.length = z ∧ j * z + z ≤ cs.length then effFillS z s (splice cs (j * z) new) l else none := rfl
theorem vcIf_cond {c : Prop} [Decidable c] {ef : Option Eff} : vcEff (if c then ef else none) nm dst K s = (c ∧ vcEff ef nm dst K s) := by
  split <;> simp_all [vcEff]
-- tables
theorem opnd_global {m : Nat} : AS.opnd s (.global m) = some (V (.pointer (some ⟨m, 0, none⟩))) := rfl
theorem load_tab {t m o : Nat} : effLoad P ⟨e, b, n⟩ t (some (V (.pointer (some ⟨m, o, none⟩)))) = ldB (tyOf P t) (Tables.row P m) o := rfl
theorem ixAddr_tab {t m o : Nat} {j : Int} : effIndexAddr P t (some (V (.pointer (some ⟨m, o, none⟩)))) (some (I k j)) = iaT m o j (arrOf P t) := by
  unfold effIndexAddr iaT; rfl
theorem iaT_some {m o l z : Nat} {j : Int} : iaT m o j (some (l, z)) = if 0 ≤ j ∧ j < l then some (some (V (.pointer (some ⟨m, o + j.toNat * z, none⟩))), none) else none := rfl
-- the way out of equalities
theorem b2_int {o : BinOp} {t : Nat} : effB2 P o t (some (I k x)) (some (I k' y)) = effBin o (some (I k x)) (some (I k' y)) := rfl
theorem b2_bool {o : BinOp} {t : Nat} {p q : Bool} : effB2 P o t (some (B p)) (some (B q)) = eqB o (isBool P t) p q := rfl
theorem b2_agg {o : BinOp} {t : Nat} {l l' : List SV} : effB2 P o t (some (Ag l)) (some (Ag l')) = eqA o (arrIntOf P t) (fdsOf P t) l l' := rfl
theorem eqA_some {o : BinOp} {m : Nat} {q : Option (List (Nat × Nat × IntKind))} {l l' : List SV} : eqA o (some (m, k)) q l l' = eqL o m (intsOf k l) (intsOf k l') := rfl
theorem eqA_none {o : BinOp} {q : List (Nat × Nat × IntKind)} {l l' : List SV} : eqA o none (some q) l l' = eqFB o (eqFL q l l') := rfl
theorem eqFL_nil {l l' : List SV} : eqFL [] l l' = some true := rfl
theorem eqFL_cons {o n : Nat} {r : List (Nat × Nat × IntKind)} {l l' : List SV} : eqFL ((o, n, k) :: r) l l' = eqFC n (intsOf k ((l.drop o).take n)) (intsOf k ((l'.drop o).take n)) (eqFL r l l') := rfl
theorem eqFC_some {n : Nat} {a b : List Int} {c : Bool} : eqFC n (some a) (some b) (some c) = if a.length = n ∧ b.length = n then some (decide (a = b) && c) else none := rfl
theorem eqFB_eql {b : Bool} : eqFB .eql (some b) = some (some (B b), none) := rfl
theorem eqFB_neq {b : Bool} : eqFB .neq (some b) = some (some (B (!b)), none) := rfl
theorem eqL_eql {m : Nat} {p q : List Int} : eqL .eql m (some p) (some q) = if p.length = m ∧ q.length = m then some (some (B (decide (p = q))), none) else none := rfl
theorem eqL_neq {m : Nat} {p q : List Int} : eqL .neq m (some p) (some q) = if p.length = m ∧ q.length = m then some (some (B (!decide (p = q))), none) else none := rfl
theorem eqB_eql {p q : Bool} : eqB .eql true p q = some (some (B (p == q)), none) := rfl
theorem eqB_neq {p q : Bool} : eqB .neq true p q = some (some (B (!(p == q))), none) := rfl
theorem len_sl {t o m c : Nat} : effLen 1 (some [Sl t o m c]) = some (some (I .i64 m), none) := rfl
theorem len_slice {a : Option Addr} {m c : Nat} : effLen 1 (some [V (.slice a m c)]) = some (some (I .i64 m), none) := rfl
theorem len_string {x : ByteArray} : effLen 2 (some [V (.string x)]) = some (some (I .i64 x.size), none) := rfl
end

/-! ### All rules, under one name -/
theorem rules : type_of% @upd_apply ∧ type_of% @start_eq ∧ type_of% @vc_skip ∧ type_of% @vc_region ∧ type_of% @vc_seq ∧ type_of% @vc_cond ∧ type_of% @vc_block ∧ type_of% @vc_loop ∧ type_of% @vc_exit ∧ type_of% @vc_ret ∧ type_of% @seqK_normal ∧ type_of% @seqK_exit ∧ type_of% @seqK_ret ∧ type_of% @blockK_exit ∧ type_of% @blockK_normal ∧ type_of% @blockK_ret ∧ type_of% @retK_ret ∧ type_of% @retK_normal ∧ type_of% @resAll_nil ∧ type_of% @resAll_cons ∧ type_of% @resOne_tmp ∧ type_of% @resOne_cell ∧ type_of% @oneC_some ∧ type_of% @oneE_some ∧ type_of% @consO_some ∧ type_of% @resAV_one ∧ type_of% @resAV_two ∧ type_of% @resAV_zero ∧ type_of% @retV_some ∧ type_of% @ops_nil ∧ type_of% @ops_cons ∧ type_of% @ops_guard ∧ type_of% @run_move ∧ type_of% @run_assign ∧ type_of% @run_alloc ∧ type_of% @run_box ∧ type_of% @run_build ∧ type_of% @run_load ∧ type_of% @run_store ∧ type_of% @run_binOp ∧ type_of% @run_lenF ∧ type_of% @run_unOp ∧ type_of% @run_convert ∧ type_of% @run_fieldAddr ∧ type_of% @run_field ∧ type_of% @run_indexAddr ∧ type_of% @run_index ∧ type_of% @run_extract ∧ type_of% @run_callF ∧ type_of% @run_append ∧ type_of% @run_copy ∧ type_of% @args_nil ∧ type_of% @args_cons ∧ type_of% @consA_some ∧ type_of% @opnd_tmp ∧ type_of% @opnd_int ∧ type_of% @opnd_bool ∧ type_of% @opnd_slice ∧ type_of% @opnd_string ∧ type_of% @opnd_func ∧ type_of% @move_some ∧ type_of% @eff_val ∧ type_of% @eff_new ∧ type_of% @eff_wr ∧ type_of% @eff_ite ∧ type_of% @put_some ∧ type_of% @put_none ∧ type_of% @bin_add ∧ type_of% @bin_sub ∧ type_of% @bin_mul ∧ type_of% @bin_quo ∧ type_of% @bin_rem ∧ type_of% @bin_and ∧ type_of% @bin_or ∧ type_of% @bin_xor ∧ type_of% @bin_andNot ∧ type_of% @bin_eql ∧ type_of% @bin_neq ∧ type_of% @bin_lss ∧ type_of% @bin_leq ∧ type_of% @bin_gtr ∧ type_of% @bin_geq ∧ type_of% @bin_shl ∧ type_of% @bin_shr ∧ type_of% @un_not ∧ type_of% @un_neg ∧ type_of% @un_xor ∧ type_of% @conv_int ∧ type_of% @cvK_some ∧ type_of% @load_ptr ∧ type_of% @ldB_agg ∧ type_of% @ldB_one ∧ type_of% @ldC_some ∧ type_of% @cells_int ∧ type_of% @cells_bool ∧ type_of% @cells_slice ∧ type_of% @cells_ptr ∧ type_of% @cells_sl ∧ type_of% @cells_agg ∧ type_of% @store_ptr ∧ type_of% @stB_some ∧ type_of% @alloc_zero ∧ type_of% @alZ_some ∧ type_of% @box_cells ∧ type_of% @bxC_some ∧ type_of% @fieldAddr_ptr ∧ type_of% @faP_some ∧ type_of% @field_agg ∧ type_of% @fdP_agg ∧ type_of% @fdP_one ∧ type_of% @ixAddr_arr ∧ type_of% @iaP_some ∧ type_of% @ixAddr_sl ∧ type_of% @isP_some ∧ type_of% @ix_agg ∧ type_of% @ixP_agg ∧ type_of% @ixP_one ∧ type_of% @ixC_some ∧ type_of% @extract_tup ∧ type_of% @exC_some ∧ type_of% @build_blank ∧ type_of% @bdB_some ∧ type_of% @bdF_some ∧ type_of% @bdF_ite ∧ type_of% @fill_nil ∧ type_of% @fill_cons ∧ type_of% @fiP_some ∧ type_of% @vc_draw ∧ type_of% @opsD_nil ∧ type_of% @opsD_cons ∧ type_of% @opsD_guard ∧ type_of% @vcD_alloc ∧ type_of% @vcD_box ∧ type_of% @vcD_build ∧ type_of% @vcD_load ∧ type_of% @vcD_store ∧ type_of% @vcD_binOp ∧ type_of% @vcD_unOp ∧ type_of% @vcD_convert ∧ type_of% @vcD_fieldAddr ∧ type_of% @vcD_field ∧ type_of% @vcD_indexAddr ∧ type_of% @vcD_index ∧ type_of% @vcD_extract ∧ type_of% @vcD_len ∧ type_of% @vcD_move ∧ type_of% @vcD_assign ∧ type_of% @vcD_call ∧ type_of% @b2_int ∧ type_of% @b2_bool ∧ type_of% @b2_agg ∧ type_of% @eqA_some ∧ type_of% @eqA_none ∧ type_of% @eqFL_nil ∧ type_of% @eqFL_cons ∧ type_of% @eqFC_some ∧ type_of% @eqFB_eql ∧ type_of% @eqFB_neq ∧ type_of% @eqL_eql ∧ type_of% @eqL_neq ∧ type_of% @eqB_eql ∧ type_of% @eqB_neq ∧ type_of% @len_sl ∧ type_of% @len_slice ∧ type_of% @len_string ∧ type_of% @vcIf_true ∧ type_of% @vcIf_false ∧ type_of% @vcGuard_yes ∧ type_of% @vcGuard_no ∧ type_of% @vcGuard_yes' ∧ type_of% @vcGuard_no' ∧ type_of% @run_pick ∧ type_of% @pick_true ∧ type_of% @pick_false ∧ type_of% @pickO_some ∧ type_of% @vcD_pick ∧ type_of% @guard_some ∧ type_of% @gdO_some ∧ type_of% @g_tt ∧ type_of% @g_ff ∧ type_of% @g_tf ∧ type_of% @g_ft ∧ type_of% @gD_tt ∧ type_of% @gD_ff ∧ type_of% @gD_tf ∧ type_of% @gD_ft :=
  ⟨@upd_apply, @start_eq, @vc_skip, @vc_region, @vc_seq, @vc_cond, @vc_block, @vc_loop, @vc_exit, @vc_ret, @seqK_normal, @seqK_exit, @seqK_ret, @blockK_exit, @blockK_normal, @blockK_ret, @retK_ret, @retK_normal, @resAll_nil, @resAll_cons, @resOne_tmp, @resOne_cell, @oneC_some, @oneE_some, @consO_some, @resAV_one, @resAV_two, @resAV_zero, @retV_some, @ops_nil, @ops_cons, @ops_guard, @run_move, @run_assign, @run_alloc, @run_box, @run_build, @run_load, @run_store, @run_binOp, @run_lenF, @run_unOp, @run_convert, @run_fieldAddr, @run_field, @run_indexAddr, @run_index, @run_extract, @run_callF, @run_append, @run_copy, @args_nil, @args_cons, @consA_some, @opnd_tmp, @opnd_int, @opnd_bool, @opnd_slice, @opnd_string, @opnd_func, @move_some, @eff_val, @eff_new, @eff_wr, @eff_ite, @put_some, @put_none, @bin_add, @bin_sub, @bin_mul, @bin_quo, @bin_rem, @bin_and, @bin_or, @bin_xor, @bin_andNot, @bin_eql, @bin_neq, @bin_lss, @bin_leq, @bin_gtr, @bin_geq, @bin_shl, @bin_shr, @un_not, @un_neg, @un_xor, @conv_int, @cvK_some, @load_ptr, @ldB_agg, @ldB_one, @ldC_some, @cells_int, @cells_bool, @cells_slice, @cells_ptr, @cells_sl, @cells_agg, @store_ptr, @stB_some, @alloc_zero, @alZ_some, @box_cells, @bxC_some, @fieldAddr_ptr, @faP_some, @field_agg, @fdP_agg, @fdP_one, @ixAddr_arr, @iaP_some, @ixAddr_sl, @isP_some, @ix_agg, @ixP_agg, @ixP_one, @ixC_some, @extract_tup, @exC_some, @build_blank, @bdB_some, @bdF_some, @bdF_ite, @fill_nil, @fill_cons, @fiP_some, @vc_draw, @opsD_nil, @opsD_cons, @opsD_guard, @vcD_alloc, @vcD_box, @vcD_build, @vcD_load, @vcD_store, @vcD_binOp, @vcD_unOp, @vcD_convert, @vcD_fieldAddr, @vcD_field, @vcD_indexAddr, @vcD_index, @vcD_extract, @vcD_len, @vcD_move, @vcD_assign, @vcD_call, @b2_int, @b2_bool, @b2_agg, @eqA_some, @eqA_none, @eqFL_nil, @eqFL_cons, @eqFC_some, @eqFB_eql, @eqFB_neq, @eqL_eql, @eqL_neq, @eqB_eql, @eqB_neq, @len_sl, @len_slice, @len_string, @vcIf_true, @vcIf_false, @vcGuard_yes, @vcGuard_no, @vcGuard_yes', @vcGuard_no', @run_pick, @pick_true, @pick_false, @pickO_some, @vcD_pick, @guard_some, @gdO_some, @g_tt, @g_ff, @g_tf, @g_ft, @gD_tt, @gD_ff, @gD_tf, @gD_ft⟩
/-- The rules on slices. -/
theorem rules2 : type_of% @gn_b ∧ type_of% @gn_ut ∧ type_of% @gn_uf ∧ type_of% @vcD_slice ∧ type_of% @vcD_make ∧ type_of% @vcD_buildS ∧ type_of% @vcD_nil ∧ type_of% @vcD_append ∧ type_of% @vcD_copy ∧ type_of% @run_slice ∧ type_of% @run_make' ∧ type_of% @run_buildS ∧ type_of% @run_nil ∧ type_of% @nil_ptr ∧ type_of% @bnd_none ∧ type_of% @bnd_some ∧ type_of% @bndV_int ∧ type_of% @sl_from ∧ type_of% @sl_upto ∧ type_of% @sa_from ∧ type_of% @sa_upto ∧ type_of% @slB_def ∧ type_of% @slU_def ∧ type_of% @make_int ∧ type_of% @buildS_some ∧ type_of% @bsF_some ∧ type_of% @bsF_ite ∧ type_of% @fillS_nil ∧ type_of% @fillS_cons ∧ type_of% @fsP_some ∧ type_of% @zerosL_int ∧ type_of% @vcIf_cond ∧ type_of% @opnd_global ∧ type_of% @load_tab ∧ type_of% @ixAddr_tab ∧ type_of% @iaT_some ∧ type_of% @run_arrAt ∧ type_of% @vcD_arrAt ∧ type_of% @arrAt_sl ∧ type_of% @convS_sl ∧ type_of% @convB_some :=
  ⟨@gn_b, @gn_ut, @gn_uf, @vcD_slice, @vcD_make, @vcD_buildS, @vcD_nil, @vcD_append, @vcD_copy, @run_slice, @run_make', @run_buildS, @run_nil, @nil_ptr, @bnd_none, @bnd_some, @bndV_int, @sl_from, @sl_upto, @sa_from, @sa_upto, @slB_def, @slU_def, @make_int, @buildS_some, @bsF_some, @bsF_ite, @fillS_nil, @fillS_cons, @fsP_some, @zerosL_int, @vcIf_cond, @opnd_global, @load_tab, @ixAddr_tab, @iaT_some, @run_arrAt, @vcD_arrAt, @arrAt_sl, @convS_sl, @convB_some⟩
end Go.Vcg
