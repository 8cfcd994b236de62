/-
  The calculus: calls that make several boxes; and regions whose order Go leaves open that hold such calls: what only looks may be walked first, new variables last. Nothing here speaks of a program.
-/
import Derived.Test.YtkaamnnjeandlaaDoorVcgZ1
namespace Go.bM
set_option linter.unusedSectionVars false
set_option linter.unusedSimpArgs false
set_option linter.unusedVariables false
def bD (P:Program) [Tables P] (nm f:Nat) (xs:Option (List AV)) (dst:Option Nat) (K:AS→Prop) (s:AS):Prop:=match xs with
 | none=>False
 | some l=> ∀ (W:Nat→Prop) (N:Nat) (w0:Base P) (g:Where) (a:Act) (w:World),br W N w0 (fun n=>n < nm) g s a w→
   Calls P f (l.map (AV.ah g)).toArray w fun e w'=> ∃ v g' bx,e= .returned (AV.ah g' v)∧AV.ok (fun n=>n < nm+4) v∧br W N w0 (fun n=>n < nm+4) g' { s with box:=bx } a w'∧
    (∀ t b,bx t=some b→b.rw=true∨ ∃ b0,s.box t=some b0∧g' t=g t)∧K (({ s with box:=bx }:AS).put dst (some v))
def pU (P:Program) [Tables P] (nm:Nat) (b:Builtin) (tys:Array TypeId) (type:TypeId) (consts:Array Bool) (xs:Option (List AV)) (dst:Option Nat) (K:AS→Prop) (s:AS):Prop:=match xs with
 | none=>False
 | some l=>kF P nm b tys type consts l dst K s
def DA (P:Program) [Tables P] (nm:Nat) (fv:Option AV) (xs:Option (List AV)) (dst:Option Nat) (K:AS→Prop) (s:AS):Prop:=match fv with
 | some (.inl (.inl (.inl (.func (.func f) ⟨[]⟩ caps))))=>au P f=true∧bD P nm f (uN xs (kB caps.toList)) dst K s
 | _=>False
def jI (P:Program) [Tables P] (nm:Nat) (o:Oper) (K:AS→Prop) (s:AS):Prop:=match o.op with
 | .call ⟨.value (.func f),xs,_⟩=>if au P f=true then bD P nm f (bb s xs.toList) o.dst K s else nU P f (bb s xs.toList) o.dst K s
 | .call ⟨.value (.tmp d),xs,_⟩=>DA P nm (s.env d) (bb s xs.toList) o.dst K s
 | .call ⟨.builtin .append,xs,tys⟩=>pU P nm .append tys o.type (xs.map isConst) (bb s xs.toList) o.dst K s
 | _=>bK P nm o K s
def cm (P:Program) [Tables P] (ops:Array Oper) (base:Nat) (K:AS→Prop):List Nat→Nat→AS→Prop
 | [],k,s=>K { s with next:=base+4*(k+1) }
 | i::r,k,s=>match ops[i]? with
  | some o=>jI P (base+4*(k+1)) o (cm P ops base K r (k+1)) s
  | none=>False
def isPure (o:Op):Bool:=match o with
 | .move _ | .load .. | .fieldAddr .. | .nilCheck _ | .field .. | .index .. | .indexAddr .. | .build .. | .extract .. | .binOp .. | .unOp .. =>true
 | .slice _ _ _ _ none=>true
 | .convert .. =>true
 | _=>false
def vK (o:Op):Bool:=match o with
 | .call ⟨.value (.func _),_,_⟩=>true
 | .call ⟨.value (.tmp _),_,_⟩=>true
 | .call ⟨.builtin .append,_,_⟩=>true
 | .buildSlice .. =>true
 | .build .. =>true
 | _=>false
def mM (o:Oper):Bool:=vK o.op||isPure o.op||(bV o.op&&o.dst.isNone)
def zy (o:Op):Bool:=match o with
 | .alloc _=>true
 | _=>false
def gp (P:Program) [Tables P] (ops:Array Oper) (nm:Nat) (K:AS→Prop):List Nat→AS→Prop
 | [],s=>K s
 | i::r,s=>match ops[i]? with
  | some o=>bK P nm o (gp P ops nm K r) s
  | none=>False
def E5 (b:Option aG):Option aG:=match b with
 | some ⟨false,cs⟩=>some ⟨false,cs⟩
 | _=>none
def kI (dm:List Nat) (box:Nat→Option aG) (t:Nat):Option aG:=if dm.contains t=true then (match box t with
 | some b=>some ⟨false,b.cells⟩
 | none=>none) else box t
def E6 (pm:List Nat) (b0 b:Nat→Option aG) (t:Nat):Option aG:=if pm.contains t=true then b0 t else b t
def vN (D:List Nat) (env:Nat→Option AV) (d:Nat):Option AV:=if D.contains d=true then none else env d
def JV (ops:Array Oper) (i:Nat) (p:Oper→Bool):Bool:=match ops[i]? with
 | some o=>p o
 | none=>false
def fk (ops:Array Oper) (i:Nat):List Nat:=match ops[i]? with
 | some o=>o.dst.toList
 | none=>[]
def dstsOf (ops:Array Oper):List Nat→List Nat
 | []=>[]
 | i::r=>fk ops i++dstsOf ops r
def H4 (ops:Array Oper) (i:Nat):List Nat:=match ops[i]? with
 | some o=>o.looksAt ops
 | none=>[]
def hU (l m:List Nat):Bool:=l.all fun x=> !m.contains x
def iF (ops:Array Oper):List Nat→Bool
 | []=>true
 | i::r=>r.all (fun j=>waits ops ops.size j i)&&iF ops r
def Mj (ops:Array Oper):List Nat→Bool
 | []=>true
 | i::r=>hU (H4 ops i) (dstsOf ops (i::r))&&hU (fk ops i) (dstsOf ops r)&&Mj ops r
def jr (ops:Array Oper) (A R Z F:List Nat):Bool:=
 (List.range ops.size).all (fun i=>A.contains i||R.contains i||Z.contains i||F.contains i)&&
 (List.range ops.size).all (fun i=>JV ops i fun o=>o.guard.isNone&&o.after.toList.all fun e=> !Region.binds .any e||decide (e.on < i))&&
 A.all (fun i=>JV ops i fun o=>isPure o.op&&o.dst.isSome&&o.after.toList.all (fun e=> !Region.binds .any e||A.contains e.on)&&hU (o.looksAt ops) (dstsOf ops (R++Z))&&A.all fun j=>hU (fk ops j) (o.looksAt ops)||waits ops ops.size i j)&&
 Mj ops A&&hU (dstsOf ops A) (dstsOf ops (R++Z++F))&&hU A (R++Z++F)&&hU R (Z++F)&&hU Z F&&
 R.all (fun i=>JV ops i fun o=>mM o&&hU (o.looksAt ops) (dstsOf ops Z)&&A.all fun j=>hU (fk ops j) (o.looksAt ops)||waits ops ops.size i j)&&
 iF ops R&&hU (dstsOf ops R) (dstsOf ops Z)&&OV ops Z&&
 Z.all (fun i=>JV ops i fun o=>zy o.op&&o.dst.isSome)&&
 F.all (fun i=>(A++R++Z).all fun j=>waits ops ops.size i j)&&F.all (fun i=>decide (i < ops.size))
where
 OV (ops:Array Oper):List Nat→Bool
  | []=>true
  | i::r=>hU (fk ops i) (dstsOf ops r)&& !r.contains i&&OV ops r
def kJ (ops:Array Oper) (A R Z F:List Nat):Bool:=jr ops A R Z F&&iF ops F
def Mk (P:Program) [Tables P] (ops:Array Oper) (A R Z F dm:List Nat) (K:AS→Prop) (s:AS):Prop:=
 ∃ H:List Nat,(∀ d ∈ dstsOf ops (A++R++Z),d ∈ H)∧gp P ops s.next (fun sr=>cm P ops s.next K (R++Z++F) 0 ⟨sr.env,kI dm s.box,s.next⟩) A ⟨vN H s.env,fun t=>E5 (kI dm s.box t),s.next⟩
def H5 (P:Program) [Tables P] (ops:Array Oper) (A R Z F dm pm:List Nat) (K:AS→Prop) (s:AS):Prop:=
 (∀ t ∈ pm,dm.contains t=true∧ ∃ cs,s.box t=some ⟨true,cs⟩)∧gp P ops s.next (fun sr=>cm P ops s.next (fun s1=>cm P ops s.next K (Z++F) R.length ⟨s1.env,E6 pm s.box s1.box,s1.next⟩) R 0 ⟨sr.env,kI dm s.box,s.next⟩) A ⟨vN (dstsOf ops (A++R++Z++F)) s.env,fun t=>E5 (kI dm s.box t),s.next⟩
def tw (ops:Array Oper) (F:List Nat):Array Bool:=⟨(List.range ops.size).map fun i=> !F.contains i⟩
def AQ (ops:Array Oper) (F:List Nat) (t:cp):Bool:=cp.here ops (df (tw ops F) ops.toList 0).length (tw ops F) t&&cp.all ops (df (tw ops F) ops.toList 0).length (tw ops F) t
def H6 (P:Program) [Tables P] (ops:Array Oper) (A R Z F dm pm:List Nat) (tr:cp) (K:AS→Prop) (s:AS):Prop:=
 (∀ t ∈ pm,dm.contains t=true∧ ∃ cs,s.box t=some ⟨true,cs⟩)∧gp P ops s.next (fun sr=>cm P ops s.next (fun s1=>cm P ops s.next (fun s2=>xZ P ops (s.next+4*(R.length+Z.length+1)) K tr 0 s2) Z R.length ⟨s1.env,E6 pm s.box s1.box,s1.next⟩) R 0 ⟨sr.env,kI dm s.box,s.next⟩) A ⟨vN (dstsOf ops (A++R++Z++F)) s.env,fun t=>E5 (kI dm s.box t),s.next⟩
section
variable {P:Program} [Tables P] {W:Nat→Prop} {N:Nat} {w0:Base P} {M:Nat→Prop} {g:Where} {s:AS} {a:Act} {w:World} {ops:Array Oper} {nm:Nat} {o:Oper}
def kK (g:Where) (s:AS) (b:Nat):Prop:= ∃ t bx,s.box t=some bx∧bx.rw=true∧(g t).1=b
theorem br.kL (h:br W N w0 M g s a w) {pn:Nat} (JB: ∀ n,n < pn→M n):br (kK g s) N ⟨w,pn,g,h.laid⟩ M g s a w:=
 ⟨h.size,h.defers,h.env,h.names,h.mem,fun t b hb hrw=>Or.inr ⟨t,b,hb,hrw,rfl⟩,Frame.refl _ _,fun n hn=>⟨JB n hn,rfl⟩,fun b bx hb=>by
  rintro ⟨t,c,hc,hrw,rfl⟩
  rcases h.own t c hc hrw with h3 | h3
  ·have:=(w0.laid.rows _ bx hb).1;omega
  ·exact h.tabs _ bx hb h3⟩
theorem br.kM (h:br W N w0 M g s a w) {pn:Nat} {hl:Laid P w} {M':Nat→Prop} {g':Where} {s':AS} {a':Act} {w':World} (hM: ∀ n,M n→n < pn)
  (h':br (kK g s) N ⟨w,pn,g,hl⟩ M' g' s' a' w'):br W N w0 M' g' s' a' w':=by
 have ho: ∀ b,kK g s b→w0.heap.size≤b∨W b:=fun b hb=>by
  obtain ⟨t,c,hc,hrw,rfl⟩:=hb
  exact h.own t c hc hrw
 have hf:=h'.frame
 refine ⟨h'.size,h'.defers,h'.env,h'.names,h'.mem,fun t b hb hrw=> ?_, ?_,fun n hn=> ?_,h.tabs⟩
 ·rcases h'.own t b hb hrw with h1 | h1
  ·exact .inl (Nat.le_trans h.frame.size h1)
  ·exact ho _ h1
 ·refine ⟨hf.os.trans h.frame.os,hf.tape.trans h.frame.tape,hf.output.trans h.frame.output,Nat.le_trans h.frame.size hf.size,fun k hk hW=> ?_⟩
  have:=hf.block k (Nat.lt_of_lt_of_le hk h.frame.size) fun hO=>(ho k hO).elim (fun h1=>by omega) hW
  exact this.trans (h.frame.block k hk hW)
 ·obtain ⟨h1,h2⟩:=h.pin n hn
  obtain ⟨h3,h4⟩:=h'.pin n (hM n h1)
  exact ⟨h3,h4.trans h2⟩
theorem zz {f:Nat} {l:List AV} {dst:Option Nat} {K:AS→Prop} (hv:bD P nm f (some l) dst K s) (h:br W N w0 (fun n=>n < nm) g s a w):
  Calls P f (l.map (AV.ah g)).toArray w fun e w'=> ∃ v g' bx,e= .returned (AV.ah g' v)∧AV.ok (fun n=>n < nm+4) v∧br W N w0 (fun n=>n < nm+4) g' { s with box:=bx } a w'∧
   (∀ β,β < w.heap.size→(∀ t b,s.box t=some b→(g t).1≠β)→w'.heap[β]? =w.heap[β]? ∧ ∀ t b,bx t=some b→(g' t).1≠β)∧(∀ t b,bx t=some b→b.rw=true∨ ∃ b0,s.box t=some b0∧g' t=g t)∧K (({ s with box:=bx }:AS).put dst (some v)):=by
 refine (hv _ N _ g a w (h.kL (pn:=nm) fun n hn=>hn)).mono ?_
 rintro e w' ⟨v,g',bx,rfl,hok,bh,hnew,hk⟩
 refine ⟨v,g',bx,rfl,hok,h.kM (fun n hn=>hn) bh,fun β hβ hno=>⟨?_,fun t b hb=> ?_⟩,hnew,hk⟩
 ·exact bh.frame.block β hβ fun ⟨t,c,hc,_,e⟩=>hno t c hc e
 ·rcases hnew t b hb with hrw | ⟨b0,hb0,e⟩
  ·rcases bh.own t b hb hrw with h1 | ⟨t',c,hc,_,e⟩
   ·have h1':w.heap.size≤(g' t).1:=h1
    omega
   ·rw[← e];exact hno t' c hc
  ·rw[e];exact hno t b0 hb0
theorem q8 {bx:Nat→Option aG} {g':Where} {w':World} {a:Act} {k:Nat} (h:br W N w0 (fun n=>n < nm) g s a w) (bh:br (kK g s) N ⟨w,nm,g,h.laid⟩ (fun n=>n < k) g' { s with box:=bx } a w')
  (hnew: ∀ t b,bx t=some b→b.rw=true∨ ∃ b0,s.box t=some b0∧g' t=g t): ∀ β,β < w.heap.size→(∀ t b,s.box t=some b→(g t).1≠β)→w'.heap[β]? =w.heap[β]? ∧ ∀ t b,bx t=some b→(g' t).1≠β:=fun β hβ hno=>⟨
 bh.frame.block β hβ fun ⟨t,c,hc,_,e⟩=>hno t c hc e,fun t b hb=>by
  rcases hnew t b hb with hrw | ⟨b0,hb0,e⟩
  ·rcases bh.own t b hb hrw with h1 | ⟨t',c,hc,_,e⟩
   ·have h1':w.heap.size≤(g' t).1:=h1
    omega
   ·rw[← e];exact hno t' c hc
  ·rw[e];exact hno t b0 hb0⟩
theorem pure_run {K:AS→Prop} (h:isPure o.op=true):bK P nm o K s=bH (dS P nm s o.op) nm o.dst K s:=by
 obtain ⟨dst,op,type,pos,after,guard⟩:=o
 cases op<;>first | rfl | (simp[isPure]at h)
theorem DB {op:BinOp} {x y:Option AV} {e:c6} (h:bX op x y=some e): ∃ v,e=(some v,none):=by
 unfold bX at h
 split at h
 ·split at h
  ·simp only[Option.some.injEq]at h;exact ⟨_,h.symm⟩
  ·cases h
 ·cases h
theorem zA {e:c6} (h:isPure o.op=true) (he:dS P nm s o.op=some e): ∃ v,e=(some v,none):=by
 obtain ⟨dst,op,type,pos,after,guard⟩:=o
 cases op<;>simp only[isPure,Bool.false_eq_true]at h<;>simp only[dS]at he
 case move x=>
  split at he
  ·simp only[Option.some.injEq]at he;exact ⟨_,he.symm⟩
  ·cases he
 case load t x=>
  unfold dG at he
  (repeat' split at he)<;>first | (simp only[Option.some.injEq]at he;exact ⟨_,he.symm⟩) | cases he
 case fieldAddr t x f=>
  unfold dH at he
  (repeat' split at he)<;>first | (simp only[Option.some.injEq]at he;exact ⟨_,he.symm⟩) | cases he
 case nilCheck x=>
  unfold Ar at he
  (repeat' split at he)<;>first | (simp only[Option.some.injEq]at he;exact ⟨_,he.symm⟩) | cases he
 case field t x f=>
  unfold ga at he
  (repeat' split at he)<;>first | (simp only[Option.some.injEq]at he;exact ⟨_,he.symm⟩) | cases he
 case index t x i=>
  unfold gO at he
  (repeat' split at he)<;>first | (simp only[Option.some.injEq]at he;exact ⟨_,he.symm⟩) | cases he
 case indexAddr t x i=>
  unfold cj at he
  (repeat' split at he)<;>first | (simp only[Option.some.injEq]at he;exact ⟨_,he.symm⟩) | cases he
 case build t parts=>
  unfold fA at he
  (repeat' split at he)<;>first | (simp only[Option.some.injEq]at he;exact ⟨_,he.symm⟩) | cases he
 case extract x i=>
  unfold gb at he
  (repeat' split at he)<;>first | (simp only[Option.some.injEq]at he;exact ⟨_,he.symm⟩) | cases he
 case binOp op t x y p=>
  unfold qT at he
  split at he
  ·unfold o8 at he
   (repeat' split at he)<;>first | (simp only[Option.some.injEq]at he;exact ⟨_,he.symm⟩) | cases he
  unfold ni at he
  split at he
  ·unfold SY at he
   split at he
   ·unfold PZ at he
    (repeat' split at he)<;>first | (simp only[Option.some.injEq]at he;exact ⟨_,he.symm⟩) | cases he
   ·unfold U4 at he
    split at he
    ·unfold Rc at he
     (repeat' split at he)<;>first | (simp only[Option.some.injEq]at he;exact ⟨_,he.symm⟩) | cases he
    ·cases he
  ·unfold Vv at he
   (repeat' split at he)<;>first | (simp only[Option.some.injEq]at he;exact ⟨_,he.symm⟩) | cases he
  ·exact DB he
 case unOp op t x=>
  unfold nN at he
  (repeat' split at he)<;>first | (simp only[Option.some.injEq]at he;exact ⟨_,he.symm⟩) | cases he
 case convert t u x=>
  unfold gP G1 gg at he
  (repeat' split at he)<;>first | (simp only[Option.some.injEq]at he;exact ⟨_,he.symm⟩) | cases he
 case slice t x lo hi mx=>
  cases mx with
  | some m=>cases h
  | none=>
   simp only at he
   unfold fB KR Sx at he
   (repeat' split at he)<;>first | (simp only[Option.some.injEq]at he;exact ⟨_,he.symm⟩) | cases he
theorem Ml {K:AS→Prop} {ap:Act} (hop:mM o=true) (Rx: ∀ f xs tys,o.op= .call ⟨.value (.func f),xs,tys⟩→au P f=true) (hv:jI P nm o K s) (h:br W N w0 (fun n=>n < nm) g s ap w)
  (heq: ∀ x ∈ o.op.operands,a.eval x=ap.eval x) {next:Act→World→Prop} {Q:Exit→Act→World→Prop}
  (hN: ∀ v g' bx w',AV.ok (fun n=>n < nm+4) v→br W N w0 (fun n=>n < nm+4) g' { s with box:=bx } ap w'→
   (∀ β,β < w.heap.size→(∀ t b,s.box t=some b→(g t).1≠β)→w'.heap[β]? =w.heap[β]? ∧ ∀ t b,bx t=some b→(g' t).1≠β)→(∀ t b,bx t=some b→b.rw=true∨ ∃ b0,s.box t=some b0∧g' t=g t)→K (({ s with box:=bx }:AS).put o.dst (some v))→next (a.put o.dst (AV.ah g' v)) w'):o.wp P a w next Q:=by
 have hsel: ∀ cs b,o.op≠ .select cs b:=fun cs b e=>by unfold mM at hop;rw[e]at hop;cases hop
 have hex:=execOp_congr o hsel heq
 unfold Oper.wp
 rw[hex]
 obtain ⟨dst,op,type,pos,after,guard⟩:=o
 simp only at hop Rx hN hv
 unfold jI at hv
 simp only at hv
 split at hv
 ·rename_i f xs tys
  rw[if_pos (Rx f xs tys rfl)]at hv
  cases hargs:bb s xs.toList with
  | none=>rw[hargs]at hv;exact hv.elim
  | some l=>
   rw[hargs]at hv
   have hx1:xs.map ap.eval=(l.map (AV.ah g)).toArray:=by
    apply Array.ext'
    rw[Array.toList_map,(cB h _ _ hargs).1]
   rw[iy f xs tys dst type pos after guard ap.eval rfl w,cq (Rx f xs tys rfl),hx1]
   simp only[Oper.upon]
   refine (zz hv h).mono ?_
   rintro e w' ⟨v,g',bx,rfl,hok,bh,hkeep,hnew,hk⟩
   exact hN v g' bx w' hok bh hkeep hnew hk
 ·rename_i d xs tys
  unfold DA at hv
  split at hv
  ·rename_i f caps S4
   obtain ⟨hc,hv⟩:=hv
   cases hl:uN (bb s xs.toList) (kB caps.toList) with
   | none=>rw[hl]at hv;exact hv.elim
   | some l=>
    rw[hl]at hv
    unfold uN at hl
    split at hl
    ·rename_i l1 l2 h1 h2
     cases hl
     have hargs:xs.map ap.eval++(⟨caps.toList.map (jS g)⟩:Array Value)=((l1++l2).map (AV.ah g)).toArray:=by
      apply Array.ext'
      rw[Array.toList_append,Array.toList_map,(cB h _ _ h1).1, ← kD _ _ h2,List.map_append]
     rw[rN d xs tys dst type pos after guard ap.eval (f:=f) (cs:=⟨caps.toList.map (jS g)⟩) (h.eval (x:= .tmp d) S4) w,cq hc,hargs]
     simp only[Oper.upon]
     refine (zz hv h).mono ?_
     rintro e w' ⟨v,g',bx,rfl,hok,bh,hkeep,hnew,hk⟩
     exact hN v g' bx w' hok bh hkeep hnew hk
    ·cases hl
  ·exact hv.elim
 ·rename_i xs tys
  unfold pU at hv
  split at hv
  ·exact hv.elim
  ·rename_i l hl
   have hargs:xs.map ap.eval=(l.map (AV.ah g)).toArray:=by
    apply Array.ext'
    rw[Array.toList_map,(cB h _ _ hl).1]
   obtain ⟨v,g',bx,w',hrun,hok,bh,hnew,hk⟩:=hv _ N _ g ap w (h.kL (pn:=nm) fun n hn=>hn)
   have:(execOp ap.eval { dst,op:= .call ⟨.builtin .append,xs,tys⟩,type,pos,after,guard }).run P w= .ok (.value (AV.ah g' v)) w':=by
    simp only[execOp,resolve,Sem.run_bind,Sem.run_pure,Result.andThen_ok,invoke]
    refine Eq.trans (congrArg (fun c=>Sem.run P (builtin .append tys type c (xs.map ap.eval)) w) (?_:_=xs.map isConst)) ?_
    ·apply Array.map_congr_left;intro x _;cases x<;>rfl
    ·rw[hargs,hrun]
   rw[this]
   simp only[Oper.upon]
   exact hN v g' bx w' (AV.aI (fun n hn=>by omega) hok) ((h.kM (fun n hn=>hn) bh).mono (fun n hn=>by omega)) (q8 h bh hnew) hnew hk
 ·rename_i hn1 hn2 Xm
  by_cases V0:isPure op=true
  ·rw[pure_run (o:=⟨dst,op,type,pos,after,guard⟩) V0]at hv
   unfold bH at hv
   split at hv
   ·rename_i e he
    obtain ⟨v,rfl⟩:=zA (o:=⟨dst,op,type,pos,after,guard⟩) V0 he
    obtain ⟨g',w',r,hr⟩:=fD (P:=P) (o:=⟨dst,op,type,pos,after,guard⟩) (h.kL (pn:=nm) fun n hn=>hn) (Nat.lt_irrefl nm) he
    obtain ⟨OW,hok⟩:=hr.val
    rw[hr.run,OW]
    simp only[Oper.upon]
    have cM:br (kK g s) N ⟨w,nm,g,h.laid⟩ (fun k=>k < nm+1) g' { s with box:=s.box } ap w':=hr.rep.mono (fun k hk=>by rcases hk with h | h<;>omega)
    have hnew: ∀ t b,s.box t=some b→b.rw=true∨ ∃ b0,s.box t=some b0∧g' t=g t:=fun t b hb=> .inr ⟨b,hb,hr.same t (h.names.box t b hb).1⟩
    exact hN v g' _ w' (AV.aI (fun k hk=>by rcases hk with h | h<;>omega) hok) ((h.kM (fun n hn=>hn) cM).mono (fun k hk=>by omega)) (q8 h cM hnew) hnew hv
   ·exact hv.elim
  by_cases hst:bV op=true
  ·obtain ⟨t,x,y,rfl⟩: ∃ t x y,op= .store t x y:=by
    cases op<;>first | exact ⟨_,_,_,rfl⟩ | (cases hst;done)
   have hdn:dst=none:=by
    unfold mM at hop
    simpa[vK,isPure,bV] using hop
   subst hdn
   replace hv:bH (dS P nm s (.store t x y)) nm none K s:=hv
   unfold bH at hv
   split at hv
   ·rename_i e he
    have he':=he
    replace he':ea P s t (s.aK x) (s.aK y)=some e:=he'
    obtain ⟨b,bx,rfl,V1⟩: ∃ b bx,e=(none,some (.inr (b,bx)))∧bx.rw=true:=by
     unfold ea at he'
     split at he'
     ·split at he'
      ·split at he'
       ·rename_i hc
        simp only[Option.some.injEq]at he'
        exact ⟨_,_,he'.symm,hc.1⟩
       ·cases he'
      ·cases he'
     ·cases he'
    obtain ⟨g',w',r,hr⟩:=fD (P:=P) (o:=⟨none, .store t x y,type,pos,after,guard⟩) (h.kL (pn:=nm) fun n hn=>hn) (Nat.lt_irrefl nm) he
    have OW:r= .skip:=hr.val
    rw[hr.run,OW]
    simp only[Oper.upon]
    have cM:br (kK g s) N ⟨w,nm,g,h.laid⟩ (fun k=>k < nm+1) g' { s with box:=upd s.box b (some bx) } ap w':=hr.rep.mono (fun k hk=>by rcases hk with h | h<;>omega)
    have hnew: ∀ t b',upd s.box b (some bx) t=some b'→b'.rw=true∨ ∃ b0,s.box t=some b0∧g' t=g t:=fun t b' hb=>by
     unfold upd at hb
     split at hb
     ·cases hb;exact .inl V1
     ·exact .inr ⟨b',hb,hr.same t (h.names.box t b' hb).1⟩
    exact hN (.inr []) g' _ w' (fun x hx=>nomatch hx) ((h.kM (fun n hn=>hn) cM).mono (fun k hk=>by omega)) (q8 h cM hnew) hnew hv
   ·exact hv.elim
  replace hop:vK op=true:=by
   unfold mM at hop
   simpa[V0,hst] using hop
  cases op<;>try (cases hop;done)
  case call c=>
   obtain ⟨Yz,xs,tys⟩:=c
   cases Yz with
   | value x=>cases x<;>first | exact absurd rfl (hn1 _ _ _) | exact absurd rfl (hn2 _ _ _) | cases hop
   | builtin b=>cases b<;>first | exact absurd rfl (Xm _ _) | cases hop
   | invoke=>cases hop
  case build t parts=>
   replace hv:bH (dS P nm s (.build t parts)) nm dst K s:=hv
   unfold bH at hv
   split at hv
   ·rename_i e he
    have he':=he
    replace he':fA P t s parts.toList=some e:=he'
    obtain ⟨v,rfl⟩: ∃ v,e=(some v,none):=by
     unfold fA at he'
     (repeat' split at he')<;>first | (simp only[Option.some.injEq]at he';exact ⟨_,he'.symm⟩) | cases he'
    obtain ⟨g',w',r,hr⟩:=fD (P:=P) (o:=⟨dst, .build t parts,type,pos,after,guard⟩) (h.kL (pn:=nm) fun n hn=>hn) (Nat.lt_irrefl nm) he
    obtain ⟨OW,hok⟩:=hr.val
    rw[hr.run,OW]
    simp only[Oper.upon]
    have cM:br (kK g s) N ⟨w,nm,g,h.laid⟩ (fun k=>k < nm+1) g' { s with box:=s.box } ap w':=hr.rep.mono (fun k hk=>by rcases hk with h | h<;>omega)
    have hnew: ∀ t b,s.box t=some b→b.rw=true∨ ∃ b0,s.box t=some b0∧g' t=g t:=fun t b hb=> .inr ⟨b,hb,hr.same t (h.names.box t b hb).1⟩
    exact hN v g' _ w' (AV.aI (fun k hk=>by rcases hk with h | h<;>omega) hok) ((h.kM (fun n hn=>hn) cM).mono (fun k hk=>by omega)) (q8 h cM hnew) hnew hv
   ·exact hv.elim
  case buildSlice t n parts=>
   replace hv:bH (dS P nm s (.buildSlice t n parts)) nm dst K s:=hv
   unfold bH at hv
   split at hv
   ·rename_i e he
    have he':=he
    replace he':fC nm (qU P t) n s parts.toList=some e:=he'
    obtain ⟨l,rfl⟩: ∃ l,e=(some (Sl nm 0 n n),some (.inl l)):=by
     unfold fC at he'
     split at he'
     ·split at he'
      ·split at he'
       ·cases he';exact ⟨_,rfl⟩
       ·cases he'
      ·cases he'
     ·cases he'
    obtain ⟨g',w',r,hr⟩:=fD (P:=P) (o:=⟨dst, .buildSlice t n parts,type,pos,after,guard⟩) (h.kL (pn:=nm) fun n hn=>hn) (Nat.lt_irrefl nm) he
    obtain ⟨OW,hok⟩:=hr.val
    rw[hr.run,OW]
    simp only[Oper.upon]
    have cM:br (kK g s) N ⟨w,nm,g,h.laid⟩ (fun k=>k < nm+1) g' { s with box:=upd s.box nm (some ⟨true,l⟩) } ap w':=hr.rep.mono (fun k hk=>by rcases hk with h | h<;>omega)
    have hnew: ∀ t b,upd s.box nm (some ⟨true,l⟩) t=some b→b.rw=true∨ ∃ b0,s.box t=some b0∧g' t=g t:=fun t b hb=>by
     unfold upd at hb
     split at hb
     ·cases hb;exact .inl rfl
     ·rename_i e
      exact .inr ⟨b,hb,hr.same t (h.names.box t b hb).1⟩
    exact hN (Sl nm 0 n n) g' _ w' (AV.aI (fun k hk=>by rcases hk with h | h<;>omega) hok) ((h.kM (fun n hn=>hn) cM).mono (fun k hk=>by omega)) (q8 h cM hnew) hnew hv
   ·exact hv.elim
theorem vO {K:AS→Prop} (h:br W N w0 (fun n=>n < nm) g s a w) (hd: ∀ d,o.dst=some d→d < N) (hv:jI P nm o K s)
  {next:Act→World→Prop} {Q:Exit→Act→World→Prop} (hK: ∀ g' s' a' w',br W N w0 (fun n=>n < nm+4) g' s' a' w'→K s'→next a' w'):o.wp P a w next Q:=by
 unfold jI at hv
 obtain ⟨dst,op,type,pos,after,guard⟩:=o
 simp only at hv hd
 split at hv
 ·rename_i f xs tys
  have hargs: ∀ l,bb s xs.toList=some l→xs.map a.eval=(l.map (AV.ah g)).toArray:=fun l hl=>by
   apply Array.ext'
   rw[Array.toList_map,(cB h _ _ hl).1]
  split at hv
  ·rename_i hc
   unfold bD at hv
   split at hv
   ·exact hv.elim
   ·rename_i l hl
    unfold Oper.wp
    rw[iy f xs tys dst type pos after guard a.eval rfl w,cq hc,hargs l hl]
    simp only[Oper.upon]
    refine (hv W N w0 g a w h).mono ?_
    rintro e w' ⟨v,g',bx,rfl,hok,bh,_,hk⟩
    exact hK g' _ _ _ (bh.put hd hok) hk
  ·exact kt (o:=⟨dst, .call ⟨.value (.func f),xs,tys⟩,type,pos,after,guard⟩) h hd (by unfold bK;simp only;rw[if_neg (by assumption)];exact hv) fun g' s' a' w' hr hk=>hK g' s' a' w' (hr.mono fun n hn=>by omega) hk
 ·rename_i d xs tys
  refine Ml (o:=⟨dst, .call ⟨.value (.tmp d),xs,tys⟩,type,pos,after,guard⟩) rfl (fun f xs tys e=>by cases e) (K:=K) (by unfold jI;exact hv) h (fun _ _=>rfl) fun v g' bx w' hok bh _ _ hk=> ?_
  exact hK g' _ _ _ (bh.put hd hok) hk
 ·rename_i xs tys
  refine Ml (o:=⟨dst, .call ⟨.builtin .append,xs,tys⟩,type,pos,after,guard⟩) rfl (fun f xs tys e=>by cases e) (K:=K) (by unfold jI;exact hv) h (fun _ _=>rfl) fun v g' bx w' hok bh _ _ hk=> ?_
  exact hK g' _ _ _ (bh.put hd hok) hk
 ·exact kt h hd hv fun g' s' a' w' hr hk=>hK g' s' a' w' (hr.mono fun n hn=>by omega) hk
end
end Go.bM
