/-
  The calculus: contracts of functions of plain data (no pointer, no slice), rows of numbers, and what a proof's simp needs. Nothing here speaks of a program.
-/
import Derived.Test.YtkaamnnjeandlaaDoorVcgC
import Derived.Below
set_option linter.unusedVariables false
set_option linter.unusedSimpArgs false
namespace Go.bM
set_option linter.unusedSectionVars false
def SV.plain (x:SV):Bool:=match x with
 | .inl v=>v.oneCell'&&gx v
 | .inr _=>false
def CV.plain (x:CV):Bool:=match x with
 | .inl (.inl v)=>gx v
 | .inl (.inr _)=>false
 | .inr l=>l.all SV.plain
def AV.plain (x:AV):Bool:=match x with
 | .inl c=>CV.plain c
 | .inr l=>l.all CV.plain
def AV.val (x:AV):Value:=AV.ah (fun _=>(0,0)) x
theorem SV.dq {M:Nat→Prop} {x:SV} (h:SV.plain x=true):SV.ok M x:=by
 rcases x with v | v
 ·obtain ⟨h1,h2⟩:=Bool.and_eq_true_iff.1 h
  exact ⟨dY h2,h1⟩
 ·simp[SV.plain]at h
theorem CV.dq {M:Nat→Prop} {x:CV} (h:CV.plain x=true):CV.ok M x:=by
 rcases x with (v | v) | l
 ·exact dY (by simpa[CV.plain] using h)
 ·simp[CV.plain]at h
 ·intro y hy;exact SV.dq (List.all_eq_true.1 h y hy)
theorem AV.dq {M:Nat→Prop} {x:AV} (h:AV.plain x=true):AV.ok M x:=by
 rcases x with c | l
 ·exact CV.dq h
 ·intro y hy;exact CV.dq (List.all_eq_true.1 h y hy)
theorem AV.gj {x:AV} (h:AV.plain x=true) (g:Where):AV.ah g x=AV.val x:=
 AV.aZ (AV.dq h)
abbrev Kept (w w':World):Prop:=Frame (fun _=>False) w w'
section
variable {P:Program} [Tables P] {W:Nat→Prop} {N:Nat} {w0:Base P} {g:Where} {s:AS} {a:Act} {w:World}
theorem Kept.heap {w w':World} (h:Kept w w') {k:Nat} (hk:k < w.heap.size):w'.heap[k]? =w.heap[k]? :=h.block k hk (fun x=>x)
theorem Kept.cell {w w':World} (h:Kept w w') {x:Addr} (hk:x.block < w.heap.size):w'.cell? x=w.cell? x:=by
 unfold World.cell?;rw[h.heap hk]
theorem Kept.frozen {w w':World} (h:Kept w w') {x:Addr} (hk:x.block < w.heap.size):bN w' x=bN w x:=by
 unfold bN;rw[h.heap hk]
theorem Kept.below {w w':World} (h:Kept w w'):RowKit.Below w.heap.size w w':=⟨h.os,h.tape,h.output,h.size,fun _ hk=>h.heap hk⟩
theorem cw.kept (h:cw g s w) {w':World} (hk:Kept w w'):cw g s w':=
 ⟨fun t b hb=>Nat.lt_of_lt_of_le (h.lt t b hb) hk.size,fun t b hb i v hv=>by rw[hk.cell (h.lt t b hb)];exact h.cell t b hb i v hv,
  fun t b hb hrw i hi=>by rw[hk.frozen (h.lt t b hb)];exact h.free t b hb hrw i hi,h.sep⟩
theorem br.kept {M:Nat→Prop} (h:br W N w0 M g s a w) {w':World} (hk:Kept w w'):br W N w0 M g s a w':=
 ⟨h.size,h.defers,h.env,h.names,h.mem.kept hk,h.own,
  h.frame.trans ⟨hk.os,hk.tape,hk.output,hk.size,fun _ hlt _=>hk.heap hlt⟩,h.pin,h.tabs⟩
structure Pure (P:Program) [Tables P] (f:Nat) (l:List AV) (Post:AV→Prop):Prop where
 args:l.all AV.plain=true
 res: ∀ r,Post r→AV.plain r=true
 call: ∀ w,Laid P w→Calls P f (l.map AV.val).toArray w fun e w'=> ∃ r,Post r∧e= .returned (AV.val r)∧Kept w w'
abbrev sM (P:Program) [Tables P] (f:Nat) (l:List AV) (r:AV):Prop:=Pure P f l (fun v=>v=r)
theorem Pure.aB {f:Nat} {l:List AV} {Post:AV→Prop} (h:Pure P f l Post) {nm:Nat} {dst:Option Nat} {K:AS→Prop} (hk: ∀ r,Post r→K (s.put dst (some r))):
  aB P nm f (some l) dst K s:=by
 intro W N w0 g a w bh
 have hl:l.map (AV.ah g)=l.map AV.val:=List.map_congr_left fun x hx=>AV.gj (List.all_eq_true.1 h.args x hx) g
 rw[hl]
 refine (h.call w bh.laid).mono ?_
 rintro e w' ⟨r,hr,rfl,qV⟩
 exact ⟨r,g,s,by rw[AV.gj (h.res r hr)],AV.dq (h.res r hr),(bh.kept qV).mono (fun n hn=>by omega),hk r hr⟩
theorem sM.aB {f:Nat} {l:List AV} {r:AV} (h:sM P f l r) {nm:Nat} {dst:Option Nat} {K:AS→Prop} (hk:K (s.put dst (some r))):
  aB P nm f (some l) dst K s:=Pure.aB h (fun _ hv=>hv▸hk)
theorem yr (X Y:AS→Prop) (s:AS):lN (some (B true)) X Y s=X s:=by simp[lN]
theorem uO (X Y:AS→Prop) (s:AS):lN (some (B false)) X Y s=Y s:=by simp[lN]
theorem fh {b:Bool} {X Y:AS→Prop} {s:AS} (h:b=true) (hk:X s):lN (some (B b)) X Y s:=⟨fun _=>hk,fun h'=>absurd (h▸h') (by decide)⟩
theorem cy {b:Bool} {X Y:AS→Prop} {s:AS} (h:b=false) (hk:Y s):lN (some (B b)) X Y s:=⟨fun h'=>absurd (h▸h') (by decide),fun _=>hk⟩
end
def S5 (v:Option AV):Option CV:=match v with
 | some (.inl c)=>some c
 | _=>none
def S6 (v:Option c6):Option CV:=match v with
 | some (some (.inl c),_)=>some c
 | _=>none
def Lf (c:Option CV) (l:Option (List CV)):Option (List CV):=match c,l with
 | some c,some l=>some (c::l)
 | _,_=>none
def P0 (c:Option AV) (l:Option (List AV)):Option (List AV):=match c,l with
 | some c,some l=>some (c::l)
 | _,_=>none
def Az (P:Program) [Tables P] (c:Option AV) (want:Bool) (nm:Nat) (o:Oper) (K:AS→Prop) (s:AS):Prop:=fL c want (bK P nm o K s) (K (s.put o.dst (some (V undef))))
def VB (e:Nat→Option AV) (o:Option Oper):Option AV:=match o with
 | some o=>match o.dst with
  | some d=>e d
  | none=>none
 | none=>none
def mD (v:Option AV) (dst:Option Nat) (K:AS→Prop) (s:AS):Prop:=match v with
 | some v=>K (s.put dst (some v))
 | none=>False
def U6 (v:Option SV):Option c6:=match v with
 | some v=>some (some (.inl (.inl v)),none)
 | none=>none
def U7 (t:Option (Bool×Nat)) (b:Option aG) (o:Nat):Option c6:=match t,b with
 | some (true,n),some bx=>if o+n≤bx.cells.length then some (some (Ag ((bx.cells.drop o).take n)),none) else none
 | some (false,_),some bx=>match bx.cells[o]? with
  | some v=>some (some (.inl (.inl v)),none)
  | none=>none
 | _,_=>none
def Ri (b o:Nat) (new:Option (List SV)) (t:Option (Bool×Nat)) (bx:Option aG):Option c6:=match new,t,bx with
 | some new,some (_,n),some bx=>if bx.rw=true∧o+new.length≤bx.cells.length∧new.length=n then some (none,some (.inr (b,⟨bx.rw,splice bx.cells o new⟩))) else none
 | _,_,_=>none
def Xc (nm:Nat) (l:Option (List SV)):Option c6:=match l with
 | some l=>some (some (Ptr nm 0),some (.inl l))
 | none=>none
def VD (b o:Nat) (f:Option (Nat×Bool×Nat)):Option c6:=match f with
 | some (fo,_,_+1)=>some (some (Ptr b (o+fo)),none)
 | _=>none
def SA (l:List SV) (f:Option (Nat×Bool×Nat)):Option c6:=match f with
 | some (o,true,n)=>some (some (Ag ((l.drop o).take n)),none)
 | some (o,false,_)=>match l[o]? with
  | some v=>some (some (.inl (.inl v)),none)
  | none=>none
 | _=>none
def VE (b o:Nat) (j:Int) (t:Option (Nat×Nat)):Option c6:=match t with
 | some (n,z)=>if 0≤j∧j < n then some (some (Ptr b (o+j.toNat*z)),none) else none
 | none=>none
def VF (b o n:Nat) (j:Int) (t:Option Nat):Option c6:=match t with
 | some z=>if 0≤j∧j < n then some (some (Ptr b (o+j.toNat*z)),none) else none
 | none=>none
def U8 (l:List SV) (j:Int) (t:Option (Nat×Bool×Nat)):Option c6:=match t with
 | some (n,false,z)=>if 0≤j∧j < n then match l[j.toNat*z]? with
   | some v=>some (some (.inl (.inl v)),none)
   | none=>none
  else none
 | some (n,true,z)=>if 0≤j∧j < n then some (some (Ag ((l.drop (j.toNat*z)).take z)),none) else none
 | none=>none
def Xd (v:Option CV):Option c6:=match v with
 | some v=>some (some (.inl v),none)
 | none=>none
def VG (l:Option (List SV)):Option c6:=match l with
 | some l=>some (some (Ag l),none)
 | none=>none
def Xe (nm:Nat) (z:Option (List Value)):Option c6:=match z with
 | some z=>if z.all Value.oneCell' then some (some (Ptr nm 0),some (.inl (z.map .inl))) else none
 | none=>none
def VH (x:Int) (k:Option IntKind) (k':Option IntKind):Option c6:=match k,k' with
 | some _,some k=>some (some (I k (k.wrap x)),none)
 | _,_=>none
def U9 (P:Program) (t:TypeId) (s:AS) (parts:List (Nat×Operand)) (z:Option (List SV)):Option c6:=match z with
 | some z=>VG (fe P t s z parts)
 | none=>none
def Va (P:Program) (t:TypeId) (s:AS) (cs:List SV) (rest:List (Nat×Operand)) (new:Option (List SV)) (p:Option (Nat×Nat)):Option (List SV):=match p,new with
 | some (o,n),some new=>if new.length=n∧o+n≤cs.length then fe P t s (splice cs o new) rest else none
 | _,_=>none
def VI (j:Int) (n:Nat) (v:Option SV):Option c6:=match v with
 | some v=>if 0≤j∧j < n then some (some (.inl (.inl v)),none) else none
 | none=>none
def aA (k:IntKind) (n:Nat) (f:Nat→Int):List SV:=(List.range n).map fun i=>Sum.inl (Value.int k (f i))
theorem aH (k:IntKind) (n:Nat) (f:Nat→Int):(aA k n f).length=n:=by simp[aA]
theorem bI (k:IntKind) (n:Nat) (f:Nat→Int) (i:Nat) (h:i < n):(aA k n f)[i]? =some (Sum.inl (Value.int k (f i))):=by
 simp[aA,h]
theorem uP (k:IntKind) (n:Nat) (f:Nat→Int):(aA k n f).all SV.plain=true:=by
 simp[aA,SV.plain,Value.oneCell']
theorem c7 {k:IntKind} {n:Nat} {f g:Nat→Int} (h: ∀ i,i < n→f i=g i):aA k n f=aA k n g:=by
 unfold aA;apply List.map_congr_left;intro i hi;rw[h i (by simpa using hi)]
theorem fM (k:IntKind) (n:Nat) (f:Nat→Int) (i:Nat) (h:i < n) (v:Int):splice (aA k n f) i [Sum.inl (Value.int k v)]=aA k n (upd f i v):=by
 apply List.ext_getElem?
 intro j
 rw[gW _ _ _ (by simp[aH];omega)]
 by_cases hj:j < n
 ·rw[bI k n (upd f i v) j hj]
  simp only[List.length_singleton]
  by_cases h1:j < i
  ·rw[if_pos h1,aW _ _ _ _ (by omega),bI k n f j hj]
  ·by_cases h2:j=i
   ·subst h2;rw[if_neg h1,if_pos (by omega),aT];simp
   ·rw[if_neg h1,if_neg (by omega),aW _ _ _ _ h2,bI k n f j hj]
 ·have e1:(aA k n f)[j]? =none:=by simp[aA];omega
  have e2:(aA k n (upd f i v))[j]? =none:=by simp[aA];omega
  rw[if_neg (by omega),if_neg (by simp;omega),e1,e2]
theorem kE (k:IntKind) (n:Nat) (f:Nat→Int) (o m:Nat) (h:o+m≤n):((aA k n f).drop o).take m=aA k m (fun i=>f (o+i)):=by
 apply List.ext_getElem?
 intro j
 rw[List.getElem?_take]
 by_cases hj:j < m
 ·rw[if_pos hj,List.getElem?_drop,bI k n f _ (by omega),bI k m _ j hj]
 ·have:(aA k m (fun i=>f (o+i)))[j]? =none:=by simp[aA];omega
  rw[if_neg hj,this]
end Go.bM
