/-
  A small calculus of our own over the kit's wp: states that name the blocks of a call by numbers of their own, so that no address and no order of allocation is seen. Nothing here speaks of a program.
-/
import Derived.WalkKit
set_option linter.unusedVariables false
set_option linter.unusedSimpArgs false
namespace Go.cA
set_option linter.unusedSectionVars false
abbrev SV:=Value ⊕ ((Nat×Nat) ⊕ (Nat×Nat×Nat×Nat))
abbrev CV:=SV ⊕ List SV
abbrev AV:=CV ⊕ List CV
abbrev V (v:Value):AV:=Sum.inl (Sum.inl (Sum.inl v))
abbrev Ptr (t o:Nat):AV:=Sum.inl (Sum.inl (Sum.inr (Sum.inl (t,o))))
abbrev Sl (t o n c:Nat):AV:=Sum.inl (Sum.inl (Sum.inr (Sum.inr (t,o,n,c))))
abbrev Ag (l:List SV):AV:=Sum.inl (Sum.inr l)
abbrev I (k:IntKind) (n:Int):AV:=Sum.inl (Sum.inl (Sum.inl (Value.int k n)))
abbrev B (b:Bool):AV:=Sum.inl (Sum.inl (Sum.inl (Value.bool b)))
abbrev bG:=Nat→Nat×Nat
def SV.av (g:bG):SV→Value
 | .inl v=>v
 | .inr (.inl (t,o))=> .pointer (some ⟨(g t).1,(g t).2+o,none⟩)
 | .inr (.inr (t,o,n,c))=> .slice (some ⟨(g t).1,(g t).2+o,none⟩) n c
def CV.av (g:bG):CV→Value
 | .inl s=>SV.av g s
 | .inr l=> .agg (l.map (SV.av g)).toArray
def AV.av (g:bG):AV→Value
 | .inl c=>CV.av g c
 | .inr l=> .tuple (l.map (CV.av g)).toArray
def SV.names (M:Nat→Prop):SV→Prop
 | .inl _=>True
 | .inr (.inl (t,_))=>M t
 | .inr (.inr (t,_,_,_))=>M t
def SV.one:SV→Bool
 | .inl v=>v.oneCell'
 | .inr _=>true
def SV.ok (M:Nat→Prop) (s:SV):Prop:=SV.names M s∧SV.one s=true
def CV.ok (M:Nat→Prop):CV→Prop
 | .inl s=>SV.names M s
 | .inr l=> ∀ x ∈ l,SV.ok M x
def AV.ok (M:Nat→Prop):AV→Prop
 | .inl c=>CV.ok M c
 | .inr l=> ∀ x ∈ l,CV.ok M x
structure aW where
 rw:Bool
 cells:List SV
structure AS where
 env:Nat→Option AV
 box:Nat→Option aW
 next:Nat
def upd {α:Type} (f:Nat→α) (d:Nat) (v:α):Nat→α:=fun x=>if x=d then v else f x
theorem ax {α:Type} (f:Nat→α) (d:Nat) (v:α):upd f d v d=v:=by simp[upd]
theorem bg {α:Type} (f:Nat→α) (d x:Nat) (v:α) (h:x≠d):upd f d v x=f x:=by simp[upd,h]
theorem lp {α:Type} (f:Nat→α) (d e:Nat) (v u:α) (h:d≠e):upd (upd f d v) e u=upd (upd f e u) d v:=by
 funext x;simp only[upd];split<;>split<;>simp_all
def AS.put (s:AS) (d:Option Nat) (v:Option AV):AS:=match d with
 | none=>s
 | some d=>{ s with env:=upd s.env d v }
abbrev Mem:=Option (List SV ⊕ (Nat×aW))
def splice (cs:List SV) (o:Nat) (new:List SV):List SV:=cs.take o++new++cs.drop (o+new.length)
def AS.mem (s:AS) (nm:Nat) (m:Mem):AS:=match m with
 | none=>s
 | some (.inl cs)=>{ s with box:=upd s.box nm (some ⟨true,cs⟩) }
 | some (.inr (t,b))=>{ s with box:=upd s.box t (some b) }
def AS.aQ (s:AS) (x:Operand):Option AV:=match x with
 | .tmp t=>s.env t
 | .const (.agg cs)=>if cs.toList.all Value.oneCell' then some (Ag (cs.toList.map .inl)) else none
 | .const v=>some (V v)
 | .global n=>some (V (.pointer (some ⟨n,0,none⟩)))
 | .func f=>some (V (.func (.func f) #[] #[]))
structure Frame (W:Nat→Prop) (w0 w:World):Prop where
 os:w.os=w0.os
 tape:w.tape=w0.tape
 output:w.output=w0.output
 size:w0.heap.size≤w.heap.size
 block: ∀ k,k < w0.heap.size→ ¬ W k→w.heap[k]? =w0.heap[k]?
def dq (w:World) (a:Addr):Bool:=match w.heap[a.block]? with
 | some (.cells _ _ (lo,hi))=>lo==hi||decide (a.off < lo)
 | _=>true
theorem lO {w:World} {a:Addr} (h:dq w a=true):w.frozen? a=false:=by
 unfold dq at h
 unfold World.frozen?
 split at h
 ·rename_i c e lo hi he
  simp only[he]
  simp only[Bool.or_eq_true,beq_iff_eq,decide_eq_true_eq]at h
  rcases h with h | h
  ·subst h;simp
  ·simp;omega
 ·rename_i he
  split
  ·rename_i c e lo hi he'
   exact absurd he' (he c e lo hi)
  ·rfl
theorem wq {w:World} {o:Obj} {x:Addr} (h:x.block < w.heap.size):dq (w.alloc o) x=dq w x:=by
 have e:(w.alloc o).heap[x.block]? =w.heap[x.block]? :=by
  show (w.heap.push o)[x.block]? =_
  rw[Array.getElem?_push,if_neg (by omega)]
 unfold dq;rw[e]
theorem Vm {w:World} {c:Array Value} {t:TypeId} {x:Addr} (h:x.block=w.heap.size):dq (w.alloc (.cells c t)) x=true:=by
 have e:(w.alloc (.cells c t)).heap[x.block]? =some (.cells c t (0,0)):=by
  show (w.heap.push _)[x.block]? =_
  rw[h];simp
 unfold dq;rw[e];rfl
theorem Cp (w:World) (a:Addr) (v:Value) (x:Addr):dq (w.setCell a v) x=dq w x:=by
 unfold dq World.setCell
 simp only[Array.getElem?_modify]
 by_cases h:a.block=x.block
 ·rw[if_pos h]
  rcases w.heap[x.block]? with _ | o
  ·rfl
  ·rcases o with ⟨c,e,lo,hi⟩ | _ | _ | _ | _ | _<;>rfl
 ·rw[if_neg h]
theorem mY (b:Nat): ∀ (vs:List Value) (o:Nat) (w:World) (x:Addr),dq (w.setCells b o vs) x=dq w x
 | [],_,_,_=>rfl
 | v::r,o,w,x=>by rw[World.setCells,mY b r,Cp]
structure eX (g:bG) (s:AS) (w:World):Prop where
 lt: ∀ t b,s.box t=some b→(g t).1 < w.heap.size
 cell: ∀ t b,s.box t=some b→ ∀ (i:Nat) v,b.cells[i]? =some v→w.cell? ⟨(g t).1,(g t).2+i,none⟩=some (SV.av g v)
 free: ∀ t b,s.box t=some b→b.rw=true→ ∀ i,i < b.cells.length→dq w ⟨(g t).1,(g t).2+i,none⟩=true
 sep: ∀ t t' b b',s.box t=some b→b.rw=true→s.box t'=some b'→t≠t'→(g t).1≠(g t').1
structure Names (M:Nat→Prop) (s:AS):Prop where
 env: ∀ d v,s.env d=some v→AV.ok M v
 box: ∀ t b,s.box t=some b→M t∧ ∀ x ∈ b.cells,SV.ok M x
class Tables (P:Program) where
 row:Nat→Option aW
 blk:Nat→Option Obj:=fun _=>none
 sub: ∀ b o,blk b=some o→ ∃ bx,row b=some bx:=by intro b o h;cases h
structure Laid (P:Program) [Tables P] (w:World):Prop where
 rows: ∀ b bx,Tables.row P b=some bx→b < w.heap.size∧ ∀ i v,bx.cells[i]? =some v→SV.one v=true∧ ∃ u,v= .inl u∧w.cell? ⟨b,i,none⟩=some u
 aft: ∀ b o,Tables.blk P b=some o→w.heap[b]? =some o
structure gF (P:Program) [Tables P] extends World where
 pn:Nat
 pg:bG
 laid:Laid P toWorld
structure cE {P:Program} [Tables P] (W:Nat→Prop) (N:Nat) (w0:gF P) (M:Nat→Prop) (g:bG) (s:AS) (a:Act) (w:World):Prop where
 size:a.tmps.size=N
 defers:a.defers=[]
 env: ∀ d v,s.env d=some v→a.tmps[d]? =some (AV.av g v)
 names:Names M s
 mem:eX g s w
 own: ∀ t b,s.box t=some b→b.rw=true→w0.heap.size≤(g t).1∨W (g t).1
 frame:Frame W w0.toWorld w
 kJ: ∀ n,n < w0.pn→M n∧g n=w0.pg n
 tabs: ∀ b bx,Tables.row P b=some bx→ ¬ W b
theorem Frame.refl (W:Nat→Prop) (w:World):Frame W w w:=⟨rfl,rfl,rfl,Nat.le_refl _,fun _ _ _=>rfl⟩
theorem Frame.trans {W:Nat→Prop} {a b c:World} (h:Frame W a b) (k:Frame W b c):Frame W a c:=
 ⟨k.os.trans h.os,k.tape.trans h.tape,k.output.trans h.output,Nat.le_trans h.size k.size,
  fun i hi hw=>(k.block i (Nat.lt_of_lt_of_le hi h.size) hw).trans (h.block i hi hw)⟩
theorem Frame.drew {W:Nat→Prop} {a w:World} (h:Frame W a w):Frame W a { w with drawn:=w.drawn+1 }:=
 ⟨h.os,h.tape,h.output,h.size,h.block⟩
theorem eX.drew {g:bG} {s:AS} {w:World} (h:eX g s w):eX g s { w with drawn:=w.drawn+1 }:=
 ⟨h.lt,h.cell,h.free,h.sep⟩
section
variable {P:Program} [Tables P] {W:Nat→Prop} {N:Nat} {w0:gF P} {M:Nat→Prop} {g:bG} {s:AS} {a:Act} {w:World}
theorem cE.drew (h:cE W N w0 M g s a w):
  cE W N w0 M g s a { w with drawn:=w.drawn+1 }:=⟨h.size,h.defers,h.env,h.names,h.mem.drew,h.own,h.frame.drew,h.kJ,h.tabs⟩
theorem cE.laid (h:cE W N w0 M g s a w):Laid P w:=by
 refine ⟨fun b bx hb=> ?_,fun b o hb=> ?_⟩
 ·obtain ⟨h1,h2⟩:=w0.laid.rows b bx hb
  refine ⟨Nat.lt_of_lt_of_le h1 h.frame.size,fun i v hv=> ?_⟩
  obtain ⟨h3,u,h4,h5⟩:=h2 i v hv
  refine ⟨h3,u,h4, ?_⟩
  rw[← h5]
  show w.cell? _=w0.toWorld.cell? _
  unfold World.cell?
  rw[h.frame.block b h1 (h.tabs b bx hb)]
 ·obtain ⟨bx,hr⟩:=Tables.sub b o hb
  exact (h.frame.block b (w0.laid.rows b bx hr).1 (h.tabs b bx hr)).trans (w0.laid.aft b o hb)
theorem SV.eY {M M':Nat→Prop} (hM: ∀ n,M n→M' n) {x:SV} (h:SV.names M x):SV.names M' x:=by
 rcases x with v | ⟨t,o⟩ | ⟨t,o,n,c⟩
 ·trivial
 ·exact hM _ h
 ·exact hM _ h
theorem SV.bA {M M':Nat→Prop} (hM: ∀ n,M n→M' n) {x:SV} (h:SV.ok M x):SV.ok M' x:=⟨SV.eY hM h.1,h.2⟩
theorem CV.bA {M M':Nat→Prop} (hM: ∀ n,M n→M' n) {x:CV} (h:CV.ok M x):CV.ok M' x:=by
 rcases x with x | l
 ·exact SV.eY hM h
 ·exact fun x hx=>SV.bA hM (h x hx)
theorem AV.bA {M M':Nat→Prop} (hM: ∀ n,M n→M' n) {x:AV} (h:AV.ok M x):AV.ok M' x:=by
 rcases x with x | l
 ·exact CV.bA hM h
 ·exact fun x hx=>CV.bA hM (h x hx)
theorem Names.mono {M M':Nat→Prop} (hM: ∀ n,M n→M' n) (h:Names M s):Names M' s:=
 ⟨fun d v hv=>AV.bA hM (h.env d v hv),fun t b hb=>⟨hM _ (h.box t b hb).1,fun x hx=>SV.bA hM ((h.box t b hb).2 x hx)⟩⟩
theorem cE.mono {M':Nat→Prop} (hM: ∀ n,M n→M' n) (h:cE W N w0 M g s a w):cE W N w0 M' g s a w:=
 ⟨h.size,h.defers,h.env,h.names.mono hM,h.mem,h.own,h.frame,fun n hn=>⟨hM _ (h.kJ n hn).1,(h.kJ n hn).2⟩,h.tabs⟩
theorem SV.bX {g g':bG} {x:SV} (hx:SV.names (fun n=>g n=g' n) x):SV.av g x=SV.av g' x:=by
 rcases x with v | ⟨t,o⟩ | ⟨t,o,n,c⟩
 ·rfl
 ·have:g t=g' t:=hx
  simp only[SV.av,this]
 ·have:g t=g' t:=hx
  simp only[SV.av,this]
theorem CV.bX {g g':bG} {x:CV} (hx:CV.ok (fun n=>g n=g' n) x):CV.av g x=CV.av g' x:=by
 rcases x with x | l
 ·exact SV.bX hx
 ·simp only[CV.av]
  rw[List.map_congr_left fun x hx'=>SV.bX (hx x hx').1]
theorem AV.bX {g g':bG} {x:AV} (hx:AV.ok (fun n=>g n=g' n) x):AV.av g x=AV.av g' x:=by
 rcases x with x | l
 ·exact CV.bX hx
 ·simp only[AV.av]
  rw[List.map_congr_left fun x hx'=>CV.bX (hx x hx')]
theorem cE.eval (h:cE W N w0 M g s a w) {x:Operand} {v:AV} (hx:s.aQ x=some v):a.eval x=AV.av g v:=by
 cases x with
 | tmp t=>
  have:=h.env t v hx
  simp[Act.eval,Array.getD_eq_getD_getElem?,this]
 | const c=>
  cases c<;>simp only[AS.aQ,Option.some.injEq,Option.ite_none_right_eq_some]at hx<;>try (subst hx;rfl)
  rename_i cs
  obtain ⟨_,rfl⟩:=hx
  simp only[Act.eval,AV.av,CV.av,List.map_map]
  congr 1
  apply Array.ext'
  simp[Function.comp_def,SV.av]
 | global n=>simp only[AS.aQ,Option.some.injEq]at hx;subst hx;rfl
 | func f=>simp only[AS.aQ,Option.some.injEq]at hx;subst hx;rfl
theorem Names.aQ (h:Names M s) {x:Operand} {v:AV} (hx:s.aQ x=some v):AV.ok M v:=by
 cases x with
 | tmp t=>exact h.env t v hx
 | const c=>
  cases c<;>simp only[AS.aQ,Option.some.injEq,Option.ite_none_right_eq_some]at hx<;>try (subst hx;trivial)
  rename_i cs
  obtain ⟨hall,rfl⟩:=hx
  intro x hx
  simp only[List.mem_map]at hx
  obtain ⟨v,hv,rfl⟩:=hx
  exact ⟨trivial,List.all_eq_true.1 hall v hv⟩
 | global n=>simp only[AS.aQ,Option.some.injEq]at hx;subst hx;trivial
 | func f=>simp only[AS.aQ,Option.some.injEq]at hx;subst hx;trivial
theorem cE.put (h:cE W N w0 M g s a w) {d:Option Nat} (hd: ∀ x,d=some x→x < N) {v:AV} (hv:AV.ok M v):
  cE W N w0 M g (s.put d (some v)) (a.put d (AV.av g v)) w:=by
 cases d with
 | none=>exact h
 | some d=>
  have hd':=hd d rfl
  refine ⟨by simp[Act.put,h.size],h.defers,fun e u he=> ?_,⟨fun e u he=> ?_,h.names.box⟩,⟨h.mem.lt,h.mem.cell,h.mem.free,h.mem.sep⟩,h.own,h.frame,h.kJ,h.tabs⟩
  ·simp only[AS.put,upd]at he
   simp only[Act.put]
   split at he
   ·rename_i WG;subst WG
    simp only[Option.some.injEq]at he;subst he
    rw[Array.getElem?_setIfInBounds_self_of_lt (by rw[h.size];exact hd')]
   ·rename_i WG
    rw[Array.getElem?_setIfInBounds_ne (fun x=>WG x.symm)]
    exact h.env e u he
  ·simp only[AS.put,upd]at he
   split at he
   ·simp only[Option.some.injEq]at he;subst he;exact hv
   ·exact h.names.env e u he
theorem cE.Gc (h:cE W N w0 M g s a w) {d:Option Nat} (u:Value):cE W N w0 M g (s.put d none) (a.put d u) w:=by
 cases d with
 | none=>exact h
 | some d=>
  refine ⟨by simp[Act.put,h.size],h.defers,fun e v he=> ?_,⟨fun e v he=> ?_,h.names.box⟩,⟨h.mem.lt,h.mem.cell,h.mem.free,h.mem.sep⟩,h.own,h.frame,h.kJ,h.tabs⟩
  ·simp only[AS.put,upd]at he
   simp only[Act.put]
   split at he
   ·simp at he
   ·rename_i WG
    rw[Array.getElem?_setIfInBounds_ne (fun x=>WG x.symm)]
    exact h.env e v he
  ·simp only[AS.put,upd]at he
   split at he
   ·simp at he
   ·exact h.names.env e v he
theorem cE.sQ (h:cE W N w0 M g s a w) {nm:Nat} (hnm: ¬ M nm) {cs:List SV} (hcs: ∀ x ∈ cs,SV.ok M x) (e:TypeId):
  cE W N w0 (fun n=>M n∨n=nm) (upd g nm (w.heap.size,0)) (s.mem nm (some (.inl cs))) a (w.alloc (.cells (cs.map (SV.av g)).toArray e)):=by
 have hg: ∀ n,M n→g n=upd g nm (w.heap.size,0) n:=fun n hn=>(bg _ _ _ _ (fun e=>hnm (by rw[← e];exact hn))).symm
 have hM: ∀ n,M n→M n∨n=nm:=fun n hn=>Or.inl hn
 have jX: ∀ t b,s.box t=some b→t≠nm:=fun t b hb e=>by have:=(h.names.box t b hb).1;rw[e]at this;exact hnm this
 have hold: ∀ t b,s.box t=some b→upd g nm (w.heap.size,0) t=g t:=fun t b hb=>bg _ _ _ _ (jX t b hb)
 refine ⟨h.size,h.defers,fun d v hv=> ?_,⟨fun d v hv=> ?_,fun t b hb=> ?_⟩,⟨fun t b hb=> ?_,fun t b hb i v hv=> ?_,fun t b hb hrw i hi=> ?_,fun t t' b b' hb hrw hb' hne=> ?_⟩,fun t b hb hrw=> ?_, ?_,fun n hn=>⟨Or.inl (h.kJ n hn).1,(hg n (h.kJ n hn).1).symm.trans (h.kJ n hn).2⟩,h.tabs⟩
 ·rw[h.env d v hv,AV.bX (AV.bA hg (h.names.env d v hv))]
 ·exact AV.bA hM (h.names.env d v hv)
 ·simp only[AS.mem,upd]at hb
  split at hb
  ·rename_i e;subst e;simp only[Option.some.injEq]at hb;subst hb
   exact ⟨Or.inr rfl,fun x hx=>SV.bA hM (hcs x hx)⟩
  ·exact ⟨Or.inl (h.names.box t b hb).1,fun x hx=>SV.bA hM ((h.names.box t b hb).2 x hx)⟩
 ·simp only[AS.mem]at hb
  by_cases e:t=nm
  ·subst e;rw[ax];simp
  ·rw[bg _ _ _ _ e]at hb ⊢
   have:=h.mem.lt t b hb
   simp;omega
 ·simp only[AS.mem]at hb
  by_cases e:t=nm
  ·subst e;rw[ax]at hb ⊢
   simp only[Option.some.injEq]at hb;subst hb
   simp only[Nat.zero_add]
   rw[World.cell?_alloc_new]
   simp only[List.getElem?_toArray,List.getElem?_map,hv,Option.map_some]
   rw[SV.bX (SV.eY hg (hcs v (List.mem_of_getElem? hv)).1)]
  ·rw[bg _ _ _ _ e]at hb ⊢
   rw[World.cell?_alloc_lt _ _ _ (h.mem.lt t b hb),h.mem.cell t b hb i v hv]
   rw[SV.bX (SV.eY hg ((h.names.box t b hb).2 v (List.mem_of_getElem? hv)).1)]
 ·simp only[AS.mem]at hb
  by_cases e:t=nm
  ·subst e;rw[ax]at hb ⊢
   exact Vm rfl
  ·rw[bg _ _ _ _ e]at hb ⊢
   rw[wq (h.mem.lt t b hb)]
   exact h.mem.free t b hb hrw i hi
 ·simp only[AS.mem]at hb hb'
  by_cases e:t=nm
  ·by_cases e':t'=nm
   ·exact absurd (e.trans e'.symm) hne
   ·subst e
    rw[bg _ _ _ _ e']at hb' ⊢
    rw[ax]
    exact Nat.ne_of_gt (h.mem.lt t' b' hb')
  ·rw[bg _ _ _ _ e]at hb ⊢
   by_cases e':t'=nm
   ·subst e'
    rw[ax]
    exact Nat.ne_of_lt (h.mem.lt t b hb)
   ·rw[bg _ _ _ _ e']at hb' ⊢
    exact h.mem.sep t t' b b' hb hrw hb' hne
 ·simp only[AS.mem]at hb
  by_cases e:t=nm
  ·subst e;rw[ax];exact Or.inl h.frame.size
  ·rw[bg _ _ _ _ e]at hb ⊢
   exact h.own t b hb hrw
 ·refine h.frame.trans ⟨rfl,rfl,rfl,by simp,fun k hk _=> ?_⟩
  show (w.heap.push _)[k]? =_
  rw[Array.getElem?_push,if_neg (by omega)]
theorem fN (cs:List SV) (o:Nat) (new:List SV) (ho:o+new.length≤cs.length) (i:Nat):
  (splice cs o new)[i]? =if i < o then cs[i]? else if i < o+new.length then new[i - o]? else cs[i]? :=by
 unfold splice
 have hl:(cs.take o).length=o:=by simp;omega
 rw[List.getElem?_append,List.getElem?_append]
 simp only[List.length_append,hl]
 split
 ·split
  ·rw[List.getElem?_take];simp_all
  ·rfl
 ·rename_i hge
  rw[if_neg (by omega),List.getElem?_drop]
  congr 1;omega
theorem oZ (cs:List SV) (o:Nat) (new:List SV) (ho:o+new.length≤cs.length):(splice cs o new).length=cs.length:=by
 simp[splice];omega
theorem cE.write (h:cE W N w0 M g s a w) {t o:Nat} {new:List SV} {b:aW} (hb:s.box t=some b) (hrw:b.rw=true) (ho:o+new.length≤b.cells.length)
  (hnew: ∀ x ∈ new,SV.ok M x) (nm:Nat):
  cE W N w0 M g (s.mem nm (some (.inr (t,⟨b.rw,splice b.cells o new⟩)))) a (w.setCells (g t).1 ((g t).2+o) (new.map (SV.av g))):=by
 have hmem:s.mem nm (some (.inr (t,⟨b.rw,splice b.cells o new⟩)))={ s with box:=upd s.box t (some ⟨b.rw,splice b.cells o new⟩) }:=rfl
 rw[hmem]
 have hsize: ∀ (vs:List Value) (k:Nat) (w:World),(w.setCells (g t).1 k vs).heap.size=w.heap.size:=by
  intro vs;induction vs with
  | nil=>intro k w;rfl
  | cons v r ih=>intro k w;rw[World.setCells,ih];simp
 have Vn: ∀ (vs:List Value) (k:Nat) (w:World) (j:Nat),j≠(g t).1→(w.setCells (g t).1 k vs).heap[j]? =w.heap[j]? :=by
  intro vs;induction vs with
  | nil=>intro k w j _;rfl
  | cons v r ih=>
   intro k w j hj
   rw[World.setCells,ih _ _ _ hj]
   simp only[World.setCell,Array.getElem?_modify]
   rw[if_neg (fun e=>hj e.symm)]
 have hos: ∀ (vs:List Value) (k:Nat) (w:World),(w.setCells (g t).1 k vs).os=w.os∧(w.setCells (g t).1 k vs).tape=w.tape∧(w.setCells (g t).1 k vs).output=w.output:=by
  intro vs;induction vs with
  | nil=>intro k w;exact ⟨rfl,rfl,rfl⟩
  | cons v r ih=>intro k w;rw[World.setCells];exact ih _ _
 have hsome: ∀ j,j < new.length→(w.cell? ⟨(g t).1,(g t).2+o+j,none⟩).isSome=true:=by
  intro j hj
  have:=h.mem.cell t b hb (o+j) _ (List.getElem?_eq_getElem (by omega))
  rw[Nat.add_assoc,this];rfl
 refine ⟨h.size,h.defers,h.env,⟨h.names.env,fun t' b' hb'=> ?_⟩,⟨fun t' b' hb'=> ?_,fun t' b' hb' i v hv=> ?_,fun t' b' hb' Cq i hi=> ?_,fun t' t'' b' b'' hb' Cq aa9 hne=> ?_⟩,fun t' b' hb' Cq=> ?_, ?_,h.kJ,h.tabs⟩
 ·simp only[upd]at hb'
  split at hb'
  ·rename_i e;subst e;simp only[Option.some.injEq]at hb';subst hb'
   refine ⟨(h.names.box _ b hb).1,fun x hx=> ?_⟩
   simp only[splice,List.mem_append]at hx
   rcases hx with (hx | hx) | hx
   ·exact (h.names.box _ b hb).2 x (List.mem_of_mem_take hx)
   ·exact hnew x hx
   ·exact (h.names.box _ b hb).2 x (List.mem_of_mem_drop hx)
  ·exact h.names.box t' b' hb'
 ·rw[hsize]
  simp only[upd]at hb'
  split at hb'
  ·rename_i e;subst e;exact h.mem.lt _ b hb
  ·exact h.mem.lt _ _ hb'
 ·simp only[upd]at hb'
  split at hb'
  ·rename_i e;subst e;simp only[Option.some.injEq]at hb';subst hb'
   simp only at hv
   rw[fN _ _ _ ho]at hv
   by_cases h1:i < o
   ·rw[if_pos h1]at hv
    rw[World.cell?_setCells_out _ _ _ _ _ (fun _ _=>Or.inl (by simp;omega))]
    exact h.mem.cell _ b hb i v hv
   ·rw[if_neg h1]at hv
    by_cases h2:i < o+new.length
    ·rw[if_pos h2]at hv
     have hj:i - o < (new.map (SV.av g)).length:=by simp;omega
     have:=World.cell?_setCells_in (g t').1 (new.map (SV.av g)) ((g t').2+o) w (fun j hj=>hsome j (by simpa using hj)) (i - o) hj
     rw[show (g t').2+i=(g t').2+o+(i - o) by omega,this]
     simp only[List.getElem_map,Option.some.injEq]
     have:new[i - o]=v:=by
      have:=List.getElem?_eq_getElem (l:=new) (i:=i - o) (by omega)
      rw[this]at hv;simpa using hv
     rw[this]
    ·rw[if_neg h2]at hv
     rw[World.cell?_setCells_out _ _ _ _ _ (fun _ _=>Or.inr (by simp;omega))]
     exact h.mem.cell _ b hb i v hv
  ·rename_i e
   rw[World.cell?_setCells_out _ _ _ _ _ (fun hh _=>absurd hh (fun e2=>h.mem.sep t t' b b' hb hrw hb' (fun e3=>e e3.symm) e2.symm))]
   exact h.mem.cell t' b' hb' i v hv
 ·rw[mY]
  simp only[upd]at hb'
  split at hb'
  ·rename_i e;subst e;simp only[Option.some.injEq]at hb';subst hb'
   exact h.mem.free _ b hb hrw i (by simpa[oZ _ _ _ ho] using hi)
  ·exact h.mem.free t' b' hb' Cq i hi
 ·simp only[upd]at hb' aa9
  have key: ∀ t b1,(if t=t then some (⟨b.rw,splice b.cells o new⟩:aW) else s.box t)=some b1→True:=fun _ _ _=>trivial
  split at hb'<;>split at aa9
  ·rename_i e e2;exact absurd (e.trans e2.symm) hne
  ·rename_i e e2;subst e;exact h.mem.sep _ _ b b'' hb hrw aa9 hne
  ·rename_i e e2;subst e2;exact h.mem.sep _ _ b' b hb' Cq hb hne
  ·exact h.mem.sep _ _ b' b'' hb' Cq aa9 hne
 ·simp only[upd]at hb'
  split at hb'
  ·rename_i e;subst e;exact h.own _ b hb hrw
  ·exact h.own t' b' hb' Cq
 ·have hf:=h.frame
  refine ⟨(hos _ _ _).1.trans hf.os,(hos _ _ _).2.1.trans hf.tape,(hos _ _ _).2.2.trans hf.output,by rw[hsize];exact hf.size,fun k hk hW=> ?_⟩
  have hne:k≠(g t).1:=fun e=>by
   rcases h.own t b hb hrw with h1 | h1
   ·omega
   ·exact hW (e▸h1)
  rw[Vn _ _ _ _ hne]
  exact hf.block k hk hW
end
end Go.cA
