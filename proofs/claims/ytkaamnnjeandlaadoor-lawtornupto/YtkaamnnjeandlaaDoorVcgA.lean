/-
  A small calculus of our own over the kit's wp: states that name the blocks of a call by numbers of their own, so that no address and no order of allocation is seen. Nothing here speaks of a program.
-/
import Derived.WalkKit
set_option linter.unusedVariables false
set_option linter.unusedSimpArgs false
namespace Go.bM
set_option linter.unusedSectionVars false
abbrev SV:=Value ⊕ ((Nat×Nat) ⊕ (Nat×Nat×Nat×Nat))
abbrev CV:=SV ⊕ List SV
abbrev AV:=CV ⊕ List CV
abbrev V (v:Value):AV:=Sum.inl (Sum.inl (Sum.inl v))
abbrev Ptr (t o:Nat):AV:=Sum.inl (Sum.inl (Sum.inr (Sum.inl (t,o))))
abbrev Sl (t o n c:Nat):AV:=Sum.inl (Sum.inl (Sum.inr (Sum.inr (t,o,n,c))))
abbrev Ag (l:List SV):AV:=Sum.inl (Sum.inr l)
abbrev I (k:IntKind) (n:Int):AV:=Sum.inl (Sum.inl (Sum.inl (Value.int k n)))
abbrev B (b:Bool):AV:=Sum.inl (Sum.inl (Sum.inl (Value.bool b)))
abbrev Where:=Nat→Nat×Nat
def jS (g:Where):Value→Value
 | .pointer (some ⟨b,o,none⟩)=> .pointer (some ⟨(g b).1,(g b).2+o,none⟩)
 | v=>v
def iQ (g:Where):Value→Value
 | .func f as cs=> .func f as ⟨cs.toList.map (jS g)⟩
 | v=>v
def xQ (M:Nat→Prop):Value→Prop
 | .pointer (some ⟨b,_,none⟩)=>M b
 | _=>True
def ld (M:Nat→Prop):Value→Prop
 | .func _ _ cs=> ∀ c ∈ cs.toList,xQ M c
 | _=>True
def gx:Value→Bool
 | .func _ _ cs=>cs.toList.isEmpty
 | _=>true
theorem SU {M:Nat→Prop}:(∀ b,ld M (.bool b)=True)∧(∀ k n,ld M (.int k n)=True)∧(∀ s,ld M (.string s)=True)∧(∀ a,ld M (.pointer a)=True)∧(∀ a n c,ld M (.slice a n c)=True)∧(∀ t v,ld M (.iface t v)=True)∧ld M .nilIface=True∧ld M .nilFunc=True∧(∀ c,ld M (.agg c)=True)∧ ∀ c,ld M (.tuple c)=True:=
 ⟨fun _=>rfl,fun _ _=>rfl,fun _=>rfl,fun _=>rfl,fun _ _ _=>rfl,fun _ _=>rfl,rfl,rfl,fun _=>rfl,fun _=>rfl⟩
attribute [simp] SU
theorem SW:(∀ b,gx (.bool b)=true)∧(∀ k n,gx (.int k n)=true)∧(∀ s,gx (.string s)=true)∧(∀ a,gx (.pointer a)=true)∧(∀ a n c,gx (.slice a n c)=true)∧(∀ t v,gx (.iface t v)=true)∧gx .nilIface=true∧gx .nilFunc=true∧(∀ c,gx (.agg c)=true)∧(∀ c,gx (.tuple c)=true)∧ ∀ f as,gx (.func f as #[])=true:=
 ⟨fun _=>rfl,fun _ _=>rfl,fun _=>rfl,fun _=>rfl,fun _ _ _=>rfl,fun _ _=>rfl,rfl,rfl,fun _=>rfl,fun _=>rfl,fun _ _=>rfl⟩
attribute [simp] SW
theorem jx {g:Where} {v:Value} (h:gx v=true):iQ g v=v:=by
 cases v<;>try rfl
 rename_i f as cs
 obtain ⟨l⟩:=cs
 cases l with
 | nil=>rfl
 | cons=>simp[gx]at h
theorem dY {M:Nat→Prop} {v:Value} (h:gx v=true):ld M v:=by
 cases v<;>try trivial
 rename_i f as cs
 obtain ⟨l⟩:=cs
 cases l with
 | nil=>intro c hc;cases hc
 | cons=>simp[gx]at h
theorem cu {g:Where}:(∀ b,iQ g (.bool b)= .bool b)∧(∀ k n,iQ g (.int k n)= .int k n)∧(∀ s,iQ g (.string s)= .string s)∧(∀ a,iQ g (.pointer a)= .pointer a)∧(∀ a n c,iQ g (.slice a n c)= .slice a n c)∧(∀ t v,iQ g (.iface t v)= .iface t v)∧iQ g .nilIface= .nilIface∧iQ g .nilFunc= .nilFunc∧(∀ c,iQ g (.agg c)= .agg c)∧(∀ c,iQ g (.tuple c)= .tuple c)∧(∀ k b,iQ g (.float k b)= .float k b)∧(∀ k a b,iQ g (.complex k a b)= .complex k a b)∧(∀ r,iQ g (.map r)= .map r)∧(∀ r,iQ g (.chan r)= .chan r)∧ ∀ f as,iQ g (.func f as #[])= .func f as #[]:=
 ⟨fun _=>rfl,fun _ _=>rfl,fun _=>rfl,fun _=>rfl,fun _ _ _=>rfl,fun _ _=>rfl,rfl,rfl,fun _=>rfl,fun _=>rfl,fun _ _=>rfl,fun _ _ _=>rfl,fun _=>rfl,fun _=>rfl,fun _ _=>rfl⟩
attribute [simp] cu
theorem qR {g:Where} {l:List Value} (h:l.all gx=true):l.map (iQ g)=l:=by
 have: ∀ x ∈ l,iQ g x=id x:=fun x hx=>jx (List.all_eq_true.1 h x hx)
 rw[List.map_congr_left this,List.map_id]
theorem Fb {g g':Where} {v:Value} (h:xQ (fun n=>g n=g' n) v):jS g v=jS g' v:=by
 unfold jS
 split
 ·rename_i b o
  have:g b=g' b:=h
  rw[this]
 ·rfl
theorem Fc {g g':Where} {v:Value} (h:ld (fun n=>g n=g' n) v):iQ g v=iQ g' v:=by
 cases v<;>try rfl
 simp only[iQ]
 rw[List.map_congr_left fun c hc=>Fb (h c hc)]
theorem Jp {M M':Nat→Prop} (hM: ∀ n,M n→M' n) {v:Value} (h:xQ M v):xQ M' v:=by
 unfold xQ at h ⊢
 split
 ·exact hM _ h
 ·trivial
theorem Jq {M M':Nat→Prop} (hM: ∀ n,M n→M' n) {v:Value} (h:ld M v):ld M' v:=by
 cases v<;>try trivial
 exact fun c hc=>Jp hM (h c hc)
def SV.ah (g:Where):SV→Value
 | .inl v=>iQ g v
 | .inr (.inl (t,o))=> .pointer (some ⟨(g t).1,(g t).2+o,none⟩)
 | .inr (.inr (t,o,n,c))=> .slice (some ⟨(g t).1,(g t).2+o,none⟩) n c
def CV.ah (g:Where):CV→Value
 | .inl s=>SV.ah g s
 | .inr l=> .agg (l.map (SV.ah g)).toArray
def AV.ah (g:Where):AV→Value
 | .inl c=>CV.ah g c
 | .inr l=> .tuple (l.map (CV.ah g)).toArray
def SV.names (M:Nat→Prop):SV→Prop
 | .inl v=>ld M v
 | .inr (.inl (t,_))=>M t
 | .inr (.inr (t,_,_,_))=>M t
def SV.one:SV→Bool
 | .inl v=>v.oneCell'
 | .inr _=>true
def SV.ok (M:Nat→Prop) (s:SV):Prop:=SV.names M s∧SV.one s=true
def CV.ok (M:Nat→Prop):CV→Prop
 | .inl s=>SV.names M s
 | .inr l=> ∀ x ∈ l,SV.ok M x
def AV.ok (M:Nat→Prop):AV→Prop
 | .inl c=>CV.ok M c
 | .inr l=> ∀ x ∈ l,CV.ok M x
structure aG where
 rw:Bool
 cells:List SV
structure AS where
 env:Nat→Option AV
 box:Nat→Option aG
 next:Nat
def upd {α:Type} (f:Nat→α) (d:Nat) (v:α):Nat→α:=fun x=>if x=d then v else f x
theorem aT {α:Type} (f:Nat→α) (d:Nat) (v:α):upd f d v d=v:=by simp[upd]
theorem aW {α:Type} (f:Nat→α) (d x:Nat) (v:α) (h:x≠d):upd f d v x=f x:=by simp[upd,h]
theorem nK {α:Type} (f:Nat→α) (d e:Nat) (v u:α) (h:d≠e):upd (upd f d v) e u=upd (upd f e u) d v:=by
 funext x;simp only[upd];split<;>split<;>simp_all
def AS.put (s:AS) (d:Option Nat) (v:Option AV):AS:=match d with
 | none=>s
 | some d=>{ s with env:=upd s.env d v }
abbrev Mem:=Option (List SV ⊕ (Nat×aG))
def splice (cs:List SV) (o:Nat) (new:List SV):List SV:=cs.take o++new++cs.drop (o+new.length)
def AS.mem (s:AS) (nm:Nat) (m:Mem):AS:=match m with
 | none=>s
 | some (.inl cs)=>{ s with box:=upd s.box nm (some ⟨true,cs⟩) }
 | some (.inr (t,b))=>{ s with box:=upd s.box t (some b) }
def AS.aK (s:AS) (x:Operand):Option AV:=match x with
 | .tmp t=>s.env t
 | .const (.agg cs)=>if cs.toList.all Value.oneCell'=true∧cs.toList.all gx=true then some (Ag (cs.toList.map .inl)) else none
 | .const (.func ..)=>none
 | .const v=>some (V v)
 | .global n=>some (V (.pointer (some ⟨n,0,none⟩)))
 | .func f=>some (V (.func (.func f) #[] #[]))
structure Frame (W:Nat→Prop) (w0 w:World):Prop where
 os:w.os=w0.os
 tape:w.tape=w0.tape
 output:w.output=w0.output
 size:w0.heap.size≤w.heap.size
 block: ∀ k,k < w0.heap.size→ ¬ W k→w.heap[k]? =w0.heap[k]?
def bN (w:World) (a:Addr):Bool:=match w.heap[a.block]? with
 | some (.cells _ _ (lo,hi))=>lo==hi||decide (a.off < lo)
 | _=>true
theorem pK {w:World} {a:Addr} (h:bN w a=true):w.frozen? a=false:=by
 unfold bN at h
 unfold World.frozen?
 split at h
 ·rename_i c e lo hi he
  simp only[he]
  simp only[Bool.or_eq_true,beq_iff_eq,decide_eq_true_eq]at h
  rcases h with h | h
  ·subst h;simp
  ·simp;omega
 ·rename_i he
  split
  ·rename_i c e lo hi he'
   exact absurd he' (he c e lo hi)
  ·rfl
theorem tY {w:World} {o:Obj} {x:Addr} (h:x.block < w.heap.size):bN (w.alloc o) x=bN w x:=by
 have e:(w.alloc o).heap[x.block]? =w.heap[x.block]? :=by
  show (w.heap.push o)[x.block]? =_
  rw[Array.getElem?_push,if_neg (by omega)]
 unfold bN;rw[e]
theorem Jr {w:World} {c:Array Value} {t:TypeId} {x:Addr} (h:x.block=w.heap.size):bN (w.alloc (.cells c t)) x=true:=by
 have e:(w.alloc (.cells c t)).heap[x.block]? =some (.cells c t (0,0)):=by
  show (w.heap.push _)[x.block]? =_
  rw[h];simp
 unfold bN;rw[e];rfl
theorem xR (w:World) (a:Addr) (v:Value) (x:Addr):bN (w.setCell a v) x=bN w x:=by
 unfold bN World.setCell
 simp only[Array.getElem?_modify]
 by_cases h:a.block=x.block
 ·rw[if_pos h]
  rcases w.heap[x.block]? with _ | o
  ·rfl
  ·rcases o with ⟨c,e,lo,hi⟩ | _ | _ | _ | _ | _<;>rfl
 ·rw[if_neg h]
theorem nL (b:Nat): ∀ (vs:List Value) (o:Nat) (w:World) (x:Addr),bN (w.setCells b o vs) x=bN w x
 | [],_,_,_=>rfl
 | v::r,o,w,x=>by rw[World.setCells,nL b r,xR]
structure cw (g:Where) (s:AS) (w:World):Prop where
 lt: ∀ t b,s.box t=some b→(g t).1 < w.heap.size
 cell: ∀ t b,s.box t=some b→ ∀ (i:Nat) v,b.cells[i]? =some v→w.cell? ⟨(g t).1,(g t).2+i,none⟩=some (SV.ah g v)
 free: ∀ t b,s.box t=some b→b.rw=true→ ∀ i,i < b.cells.length→bN w ⟨(g t).1,(g t).2+i,none⟩=true
 sep: ∀ t t' b b',s.box t=some b→b.rw=true→s.box t'=some b'→t≠t'→(g t).1≠(g t').1
structure Names (M:Nat→Prop) (s:AS):Prop where
 env: ∀ d v,s.env d=some v→AV.ok M v
 box: ∀ t b,s.box t=some b→M t∧ ∀ x ∈ b.cells,SV.ok M x
class Tables (P:Program) where
 row:Nat→Option aG
 Ob:Nat→Option Obj:=fun _=>none
 sub: ∀ b o,Ob b=some o→ ∃ bx,row b=some bx:=by intro b o h;cases h
structure Laid (P:Program) [Tables P] (w:World):Prop where
 rows: ∀ b bx,Tables.row P b=some bx→b < w.heap.size∧ ∀ i v,bx.cells[i]? =some v→SV.one v=true∧ ∃ u,v= .inl u∧gx u=true∧w.cell? ⟨b,i,none⟩=some u
 Ra: ∀ b o,Tables.Ob P b=some o→w.heap[b]? =some o
structure Base (P:Program) [Tables P] extends World where
 pn:Nat
 pg:Where
 laid:Laid P toWorld
structure br {P:Program} [Tables P] (W:Nat→Prop) (N:Nat) (w0:Base P) (M:Nat→Prop) (g:Where) (s:AS) (a:Act) (w:World):Prop where
 size:a.tmps.size=N
 defers:a.defers=[]
 env: ∀ d v,s.env d=some v→a.tmps[d]? =some (AV.ah g v)
 names:Names M s
 mem:cw g s w
 own: ∀ t b,s.box t=some b→b.rw=true→w0.heap.size≤(g t).1∨W (g t).1
 frame:Frame W w0.toWorld w
 pin: ∀ n,n < w0.pn→M n∧g n=w0.pg n
 tabs: ∀ b bx,Tables.row P b=some bx→ ¬ W b
theorem Frame.refl (W:Nat→Prop) (w:World):Frame W w w:=⟨rfl,rfl,rfl,Nat.le_refl _,fun _ _ _=>rfl⟩
theorem Frame.trans {W:Nat→Prop} {a b c:World} (h:Frame W a b) (k:Frame W b c):Frame W a c:=
 ⟨k.os.trans h.os,k.tape.trans h.tape,k.output.trans h.output,Nat.le_trans h.size k.size,
  fun i hi hw=>(k.block i (Nat.lt_of_lt_of_le hi h.size) hw).trans (h.block i hi hw)⟩
theorem Frame.drew {W:Nat→Prop} {a w:World} (h:Frame W a w):Frame W a { w with drawn:=w.drawn+1 }:=
 ⟨h.os,h.tape,h.output,h.size,h.block⟩
theorem cw.drew {g:Where} {s:AS} {w:World} (h:cw g s w):cw g s { w with drawn:=w.drawn+1 }:=
 ⟨h.lt,h.cell,h.free,h.sep⟩
section
variable {P:Program} [Tables P] {W:Nat→Prop} {N:Nat} {w0:Base P} {M:Nat→Prop} {g:Where} {s:AS} {a:Act} {w:World}
theorem br.drew (h:br W N w0 M g s a w):
  br W N w0 M g s a { w with drawn:=w.drawn+1 }:=⟨h.size,h.defers,h.env,h.names,h.mem.drew,h.own,h.frame.drew,h.pin,h.tabs⟩
theorem br.laid (h:br W N w0 M g s a w):Laid P w:=by
 refine ⟨fun b bx hb=> ?_,fun b o hb=> ?_⟩
 ·obtain ⟨h1,h2⟩:=w0.laid.rows b bx hb
  refine ⟨Nat.lt_of_lt_of_le h1 h.frame.size,fun i v hv=> ?_⟩
  obtain ⟨h3,u,h4,h6,h5⟩:=h2 i v hv
  refine ⟨h3,u,h4,h6, ?_⟩
  rw[← h5]
  show w.cell? _=w0.toWorld.cell? _
  unfold World.cell?
  rw[h.frame.block b h1 (h.tabs b bx hb)]
 ·obtain ⟨bx,hr⟩:=Tables.sub b o hb
  exact (h.frame.block b (w0.laid.rows b bx hr).1 (h.tabs b bx hr)).trans (w0.laid.Ra b o hb)
theorem SV.aY {M M':Nat→Prop} (hM: ∀ n,M n→M' n) {x:SV} (h:SV.names M x):SV.names M' x:=by
 rcases x with v | ⟨t,o⟩ | ⟨t,o,n,c⟩
 ·exact Jq hM h
 ·exact hM _ h
 ·exact hM _ h
theorem SV.aI {M M':Nat→Prop} (hM: ∀ n,M n→M' n) {x:SV} (h:SV.ok M x):SV.ok M' x:=⟨SV.aY hM h.1,h.2⟩
theorem CV.aI {M M':Nat→Prop} (hM: ∀ n,M n→M' n) {x:CV} (h:CV.ok M x):CV.ok M' x:=by
 rcases x with x | l
 ·exact SV.aY hM h
 ·exact fun x hx=>SV.aI hM (h x hx)
theorem AV.aI {M M':Nat→Prop} (hM: ∀ n,M n→M' n) {x:AV} (h:AV.ok M x):AV.ok M' x:=by
 rcases x with x | l
 ·exact CV.aI hM h
 ·exact fun x hx=>CV.aI hM (h x hx)
theorem Names.mono {M M':Nat→Prop} (hM: ∀ n,M n→M' n) (h:Names M s):Names M' s:=
 ⟨fun d v hv=>AV.aI hM (h.env d v hv),fun t b hb=>⟨hM _ (h.box t b hb).1,fun x hx=>SV.aI hM ((h.box t b hb).2 x hx)⟩⟩
theorem br.mono {M':Nat→Prop} (hM: ∀ n,M n→M' n) (h:br W N w0 M g s a w):br W N w0 M' g s a w:=
 ⟨h.size,h.defers,h.env,h.names.mono hM,h.mem,h.own,h.frame,fun n hn=>⟨hM _ (h.pin n hn).1,(h.pin n hn).2⟩,h.tabs⟩
theorem SV.aZ {g g':Where} {x:SV} (hx:SV.names (fun n=>g n=g' n) x):SV.ah g x=SV.ah g' x:=by
 rcases x with v | ⟨t,o⟩ | ⟨t,o,n,c⟩
 ·exact Fc hx
 ·have:g t=g' t:=hx
  simp only[SV.ah,cu,this]
 ·have:g t=g' t:=hx
  simp only[SV.ah,cu,this]
theorem CV.aZ {g g':Where} {x:CV} (hx:CV.ok (fun n=>g n=g' n) x):CV.ah g x=CV.ah g' x:=by
 rcases x with x | l
 ·exact SV.aZ hx
 ·simp only[CV.ah]
  rw[List.map_congr_left fun x hx'=>SV.aZ (hx x hx').1]
theorem AV.aZ {g g':Where} {x:AV} (hx:AV.ok (fun n=>g n=g' n) x):AV.ah g x=AV.ah g' x:=by
 rcases x with x | l
 ·exact CV.aZ hx
 ·simp only[AV.ah]
  rw[List.map_congr_left fun x hx'=>CV.aZ (hx x hx')]
theorem br.eval (h:br W N w0 M g s a w) {x:Operand} {v:AV} (hx:s.aK x=some v):a.eval x=AV.ah g v:=by
 cases x with
 | tmp t=>
  have:=h.env t v hx
  simp[Act.eval,Array.getD_eq_getD_getElem?,this]
 | const c=>
  cases c<;>simp only[AS.aK,Option.some.injEq,Option.ite_none_right_eq_some,reduceCtorEq]at hx<;>try (subst hx;rfl)
  rename_i cs
  obtain ⟨⟨_,ky⟩,rfl⟩:=hx
  simp only[Act.eval,AV.ah,CV.ah,List.map_map]
  congr 1
  apply Array.ext'
  have: ∀ x ∈ cs.toList,(SV.ah g∘Sum.inl) x=id x:=fun x hx=>jx (List.all_eq_true.1 ky x hx)
  simp only[List.map_congr_left this,List.map_id]
 | global n=>simp only[AS.aK,Option.some.injEq]at hx;subst hx;rfl
 | func f=>simp only[AS.aK,Option.some.injEq]at hx;subst hx;rfl
theorem Names.aK (h:Names M s) {x:Operand} {v:AV} (hx:s.aK x=some v):AV.ok M v:=by
 cases x with
 | tmp t=>exact h.env t v hx
 | const c=>
  cases c<;>simp only[AS.aK,Option.some.injEq,Option.ite_none_right_eq_some,reduceCtorEq]at hx<;>try (subst hx;trivial)
  rename_i cs
  obtain ⟨⟨hall,ky⟩,rfl⟩:=hx
  intro x hx
  simp only[List.mem_map]at hx
  obtain ⟨v,hv,rfl⟩:=hx
  exact ⟨dY (List.all_eq_true.1 ky v hv),List.all_eq_true.1 hall v hv⟩
 | global n=>simp only[AS.aK,Option.some.injEq]at hx;subst hx;trivial
 | func f=>simp only[AS.aK,Option.some.injEq]at hx;subst hx;exact (dY (v:= .func (.func f) #[] #[]) rfl)
theorem br.put (h:br W N w0 M g s a w) {d:Option Nat} (hd: ∀ x,d=some x→x < N) {v:AV} (hv:AV.ok M v):
  br W N w0 M g (s.put d (some v)) (a.put d (AV.ah g v)) w:=by
 cases d with
 | none=>exact h
 | some d=>
  have hd':=hd d rfl
  refine ⟨by simp[Act.put,h.size],h.defers,fun e u he=> ?_,⟨fun e u he=> ?_,h.names.box⟩,⟨h.mem.lt,h.mem.cell,h.mem.free,h.mem.sep⟩,h.own,h.frame,h.pin,h.tabs⟩
  ·simp only[AS.put,upd]at he
   simp only[Act.put]
   split at he
   ·rename_i K1;subst K1
    simp only[Option.some.injEq]at he;subst he
    rw[Array.getElem?_setIfInBounds_self_of_lt (by rw[h.size];exact hd')]
   ·rename_i K1
    rw[Array.getElem?_setIfInBounds_ne (fun x=>K1 x.symm)]
    exact h.env e u he
  ·simp only[AS.put,upd]at he
   split at he
   ·simp only[Option.some.injEq]at he;subst he;exact hv
   ·exact h.names.env e u he
theorem br.Ap (h:br W N w0 M g s a w) {d:Option Nat} (u:Value):br W N w0 M g (s.put d none) (a.put d u) w:=by
 cases d with
 | none=>exact h
 | some d=>
  refine ⟨by simp[Act.put,h.size],h.defers,fun e v he=> ?_,⟨fun e v he=> ?_,h.names.box⟩,⟨h.mem.lt,h.mem.cell,h.mem.free,h.mem.sep⟩,h.own,h.frame,h.pin,h.tabs⟩
  ·simp only[AS.put,upd]at he
   simp only[Act.put]
   split at he
   ·simp at he
   ·rename_i K1
    rw[Array.getElem?_setIfInBounds_ne (fun x=>K1 x.symm)]
    exact h.env e v he
  ·simp only[AS.put,upd]at he
   split at he
   ·simp at he
   ·exact h.names.env e v he
theorem br.uH (h:br W N w0 M g s a w) {nm:Nat} (hnm: ¬ M nm) {cs:List SV} (hcs: ∀ x ∈ cs,SV.ok M x) (e:TypeId):
  br W N w0 (fun n=>M n∨n=nm) (upd g nm (w.heap.size,0)) (s.mem nm (some (.inl cs))) a (w.alloc (.cells (cs.map (SV.ah g)).toArray e)):=by
 have hg: ∀ n,M n→g n=upd g nm (w.heap.size,0) n:=fun n hn=>(aW _ _ _ _ (fun e=>hnm (by rw[← e];exact hn))).symm
 have hM: ∀ n,M n→M n∨n=nm:=fun n hn=>Or.inl hn
 have iR: ∀ t b,s.box t=some b→t≠nm:=fun t b hb e=>by have:=(h.names.box t b hb).1;rw[e]at this;exact hnm this
 have hold: ∀ t b,s.box t=some b→upd g nm (w.heap.size,0) t=g t:=fun t b hb=>aW _ _ _ _ (iR t b hb)
 refine ⟨h.size,h.defers,fun d v hv=> ?_,⟨fun d v hv=> ?_,fun t b hb=> ?_⟩,⟨fun t b hb=> ?_,fun t b hb i v hv=> ?_,fun t b hb hrw i hi=> ?_,fun t t' b b' hb hrw hb' hne=> ?_⟩,fun t b hb hrw=> ?_, ?_,fun n hn=>⟨Or.inl (h.pin n hn).1,(hg n (h.pin n hn).1).symm.trans (h.pin n hn).2⟩,h.tabs⟩
 ·rw[h.env d v hv,AV.aZ (AV.aI hg (h.names.env d v hv))]
 ·exact AV.aI hM (h.names.env d v hv)
 ·simp only[AS.mem,upd]at hb
  split at hb
  ·rename_i e;subst e;simp only[Option.some.injEq]at hb;subst hb
   exact ⟨Or.inr rfl,fun x hx=>SV.aI hM (hcs x hx)⟩
  ·exact ⟨Or.inl (h.names.box t b hb).1,fun x hx=>SV.aI hM ((h.names.box t b hb).2 x hx)⟩
 ·simp only[AS.mem]at hb
  by_cases e:t=nm
  ·subst e;rw[aT];simp
  ·rw[aW _ _ _ _ e]at hb ⊢
   have:=h.mem.lt t b hb
   simp;omega
 ·simp only[AS.mem]at hb
  by_cases e:t=nm
  ·subst e;rw[aT]at hb ⊢
   simp only[Option.some.injEq]at hb;subst hb
   simp only[Nat.zero_add]
   rw[World.cell?_alloc_new]
   simp only[List.getElem?_toArray,List.getElem?_map,hv,Option.map_some]
   rw[SV.aZ (SV.aY hg (hcs v (List.mem_of_getElem? hv)).1)]
  ·rw[aW _ _ _ _ e]at hb ⊢
   rw[World.cell?_alloc_lt _ _ _ (h.mem.lt t b hb),h.mem.cell t b hb i v hv]
   rw[SV.aZ (SV.aY hg ((h.names.box t b hb).2 v (List.mem_of_getElem? hv)).1)]
 ·simp only[AS.mem]at hb
  by_cases e:t=nm
  ·subst e;rw[aT]at hb ⊢
   exact Jr rfl
  ·rw[aW _ _ _ _ e]at hb ⊢
   rw[tY (h.mem.lt t b hb)]
   exact h.mem.free t b hb hrw i hi
 ·simp only[AS.mem]at hb hb'
  by_cases e:t=nm
  ·by_cases e':t'=nm
   ·exact absurd (e.trans e'.symm) hne
   ·subst e
    rw[aW _ _ _ _ e']at hb' ⊢
    rw[aT]
    exact Nat.ne_of_gt (h.mem.lt t' b' hb')
  ·rw[aW _ _ _ _ e]at hb ⊢
   by_cases e':t'=nm
   ·subst e'
    rw[aT]
    exact Nat.ne_of_lt (h.mem.lt t b hb)
   ·rw[aW _ _ _ _ e']at hb' ⊢
    exact h.mem.sep t t' b b' hb hrw hb' hne
 ·simp only[AS.mem]at hb
  by_cases e:t=nm
  ·subst e;rw[aT];exact Or.inl h.frame.size
  ·rw[aW _ _ _ _ e]at hb ⊢
   exact h.own t b hb hrw
 ·refine h.frame.trans ⟨rfl,rfl,rfl,by simp,fun k hk _=> ?_⟩
  show (w.heap.push _)[k]? =_
  rw[Array.getElem?_push,if_neg (by omega)]
theorem gW (cs:List SV) (o:Nat) (new:List SV) (ho:o+new.length≤cs.length) (i:Nat):
  (splice cs o new)[i]? =if i < o then cs[i]? else if i < o+new.length then new[i - o]? else cs[i]? :=by
 unfold splice
 have hl:(cs.take o).length=o:=by simp;omega
 rw[List.getElem?_append,List.getElem?_append]
 simp only[List.length_append,hl]
 split
 ·split
  ·rw[List.getElem?_take];simp_all
  ·rfl
 ·rename_i hge
  rw[if_neg (by omega),List.getElem?_drop]
  congr 1;omega
theorem xS (cs:List SV) (o:Nat) (new:List SV) (ho:o+new.length≤cs.length):(splice cs o new).length=cs.length:=by
 simp[splice];omega
theorem br.write (h:br W N w0 M g s a w) {t o:Nat} {new:List SV} {b:aG} (hb:s.box t=some b) (hrw:b.rw=true) (ho:o+new.length≤b.cells.length)
  (hnew: ∀ x ∈ new,SV.ok M x) (nm:Nat):
  br W N w0 M g (s.mem nm (some (.inr (t,⟨b.rw,splice b.cells o new⟩)))) a (w.setCells (g t).1 ((g t).2+o) (new.map (SV.ah g))):=by
 have hmem:s.mem nm (some (.inr (t,⟨b.rw,splice b.cells o new⟩)))={ s with box:=upd s.box t (some ⟨b.rw,splice b.cells o new⟩) }:=rfl
 rw[hmem]
 have hsize: ∀ (vs:List Value) (k:Nat) (w:World),(w.setCells (g t).1 k vs).heap.size=w.heap.size:=by
  intro vs;induction vs with
  | nil=>intro k w;rfl
  | cons v r ih=>intro k w;rw[World.setCells,ih];simp
 have Js: ∀ (vs:List Value) (k:Nat) (w:World) (j:Nat),j≠(g t).1→(w.setCells (g t).1 k vs).heap[j]? =w.heap[j]? :=by
  intro vs;induction vs with
  | nil=>intro k w j _;rfl
  | cons v r ih=>
   intro k w j hj
   rw[World.setCells,ih _ _ _ hj]
   simp only[World.setCell,Array.getElem?_modify]
   rw[if_neg (fun e=>hj e.symm)]
 have hos: ∀ (vs:List Value) (k:Nat) (w:World),(w.setCells (g t).1 k vs).os=w.os∧(w.setCells (g t).1 k vs).tape=w.tape∧(w.setCells (g t).1 k vs).output=w.output:=by
  intro vs;induction vs with
  | nil=>intro k w;exact ⟨rfl,rfl,rfl⟩
  | cons v r ih=>intro k w;rw[World.setCells];exact ih _ _
 have hsome: ∀ j,j < new.length→(w.cell? ⟨(g t).1,(g t).2+o+j,none⟩).isSome=true:=by
  intro j hj
  have:=h.mem.cell t b hb (o+j) _ (List.getElem?_eq_getElem (by omega))
  rw[Nat.add_assoc,this];rfl
 refine ⟨h.size,h.defers,h.env,⟨h.names.env,fun t' b' hb'=> ?_⟩,⟨fun t' b' hb'=> ?_,fun t' b' hb' i v hv=> ?_,fun t' b' hb' xU i hi=> ?_,fun t' t'' b' b'' hb' xU Oi hne=> ?_⟩,fun t' b' hb' xU=> ?_, ?_,h.pin,h.tabs⟩
 ·simp only[upd]at hb'
  split at hb'
  ·rename_i e;subst e;simp only[Option.some.injEq]at hb';subst hb'
   refine ⟨(h.names.box _ b hb).1,fun x hx=> ?_⟩
   simp only[splice,List.mem_append]at hx
   rcases hx with (hx | hx) | hx
   ·exact (h.names.box _ b hb).2 x (List.mem_of_mem_take hx)
   ·exact hnew x hx
   ·exact (h.names.box _ b hb).2 x (List.mem_of_mem_drop hx)
  ·exact h.names.box t' b' hb'
 ·rw[hsize]
  simp only[upd]at hb'
  split at hb'
  ·rename_i e;subst e;exact h.mem.lt _ b hb
  ·exact h.mem.lt _ _ hb'
 ·simp only[upd]at hb'
  split at hb'
  ·rename_i e;subst e;simp only[Option.some.injEq]at hb';subst hb'
   simp only at hv
   rw[gW _ _ _ ho]at hv
   by_cases h1:i < o
   ·rw[if_pos h1]at hv
    rw[World.cell?_setCells_out _ _ _ _ _ (fun _ _=>Or.inl (by simp;omega))]
    exact h.mem.cell _ b hb i v hv
   ·rw[if_neg h1]at hv
    by_cases h2:i < o+new.length
    ·rw[if_pos h2]at hv
     have hj:i - o < (new.map (SV.ah g)).length:=by simp;omega
     have:=World.cell?_setCells_in (g t').1 (new.map (SV.ah g)) ((g t').2+o) w (fun j hj=>hsome j (by simpa using hj)) (i - o) hj
     rw[show (g t').2+i=(g t').2+o+(i - o) by omega,this]
     simp only[List.getElem_map,Option.some.injEq]
     have:new[i - o]=v:=by
      have:=List.getElem?_eq_getElem (l:=new) (i:=i - o) (by omega)
      rw[this]at hv;simpa using hv
     rw[this]
    ·rw[if_neg h2]at hv
     rw[World.cell?_setCells_out _ _ _ _ _ (fun _ _=>Or.inr (by simp;omega))]
     exact h.mem.cell _ b hb i v hv
  ·rename_i e
   rw[World.cell?_setCells_out _ _ _ _ _ (fun hh _=>absurd hh (fun e2=>h.mem.sep t t' b b' hb hrw hb' (fun e3=>e e3.symm) e2.symm))]
   exact h.mem.cell t' b' hb' i v hv
 ·rw[nL]
  simp only[upd]at hb'
  split at hb'
  ·rename_i e;subst e;simp only[Option.some.injEq]at hb';subst hb'
   exact h.mem.free _ b hb hrw i (by simpa[xS _ _ _ ho] using hi)
  ·exact h.mem.free t' b' hb' xU i hi
 ·simp only[upd]at hb' Oi
  have key: ∀ t b1,(if t=t then some (⟨b.rw,splice b.cells o new⟩:aG) else s.box t)=some b1→True:=fun _ _ _=>trivial
  split at hb'<;>split at Oi
  ·rename_i e e2;exact absurd (e.trans e2.symm) hne
  ·rename_i e e2;subst e;exact h.mem.sep _ _ b b'' hb hrw Oi hne
  ·rename_i e e2;subst e2;exact h.mem.sep _ _ b' b hb' xU hb hne
  ·exact h.mem.sep _ _ b' b'' hb' xU Oi hne
 ·simp only[upd]at hb'
  split at hb'
  ·rename_i e;subst e;exact h.own _ b hb hrw
  ·exact h.own t' b' hb' xU
 ·have hf:=h.frame
  refine ⟨(hos _ _ _).1.trans hf.os,(hos _ _ _).2.1.trans hf.tape,(hos _ _ _).2.2.trans hf.output,by rw[hsize];exact hf.size,fun k hk hW=> ?_⟩
  have hne:k≠(g t).1:=fun e=>by
   rcases h.own t b hb hrw with h1 | h1
   ·omega
   ·exact hW (e▸h1)
  rw[Js _ _ _ _ hne]
  exact hf.block k hk hW
end
end Go.bM
