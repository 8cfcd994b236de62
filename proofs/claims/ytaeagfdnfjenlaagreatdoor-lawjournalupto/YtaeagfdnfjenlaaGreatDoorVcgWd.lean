/-
  The calculus: calls that make several boxes; and regions whose order Go leaves open that hold such calls: what only looks may be walked first, new variables last. Nothing here speaks of a program.
-/
import Derived.Test.YtaeagfdnfjenlaaGreatDoorVcgZ1
namespace Go.cn
set_option linter.unusedSectionVars false
set_option linter.unusedSimpArgs false
set_option linter.unusedVariables false
def cq (P:Program) [Tables P] (nm f:Nat) (xs:Option (List AV)) (dst:Option Nat) (K:AS→Prop) (s:AS):Prop:=match xs with
 | none=>False
 | some l=> ∀ (W:Nat→Prop) (N:Nat) (w0:Base P) (g:Where) (a:Act) (w:World),bF W N w0 (fun n=>n < nm) g s a w→
   Calls P f (l.map (AV.ah g)).toArray w fun e w'=> ∃ v g' bx,e= .returned (AV.ah g' v)∧AV.ok (fun n=>n < nm+4) v∧bF W N w0 (fun n=>n < nm+4) g' { s with box:=bx } a w'∧
    (∀ t b,bx t=some b→b.rw=true∨ ∃ b0,s.box t=some b0∧g' t=g t)∧K (({ s with box:=bx }:AS).put dst (some v))
def jF (P:Program) [Tables P] (nm:Nat) (b:Builtin) (tys:Array TypeId) (type:TypeId) (consts:Array Bool) (xs:Option (List AV)) (dst:Option Nat) (K:AS→Prop) (s:AS):Prop:=match xs with
 | none=>False
 | some l=>fY P nm b tys type consts l dst K s
def HY (P:Program) [Tables P] (nm:Nat) (fv:Option AV) (xs:Option (List AV)) (dst:Option Nat) (K:AS→Prop) (s:AS):Prop:=match fv with
 | some (.inl (.inl (.inl (.func (.func f) ⟨[]⟩ caps))))=>ak P f=true∧cq P nm f (uC xs (lh caps.toList)) dst K s
 | _=>False
def lB (P:Program) [Tables P] (nm:Nat) (o:Oper) (K:AS→Prop) (s:AS):Prop:=match o.op with
 | .call ⟨.value (.func f),xs,_⟩=>if ak P f=true then cq P nm f (bq s xs.toList) o.dst K s else n6 P f (bq s xs.toList) o.dst K s
 | .call ⟨.value (.tmp d),xs,_⟩=>HY P nm (s.env d) (bq s xs.toList) o.dst K s
 | .call ⟨.builtin .append,xs,tys⟩=>jF P nm .append tys o.type (xs.map isConst) (bq s xs.toList) o.dst K s
 | _=>cw P nm o K s
def da (P:Program) [Tables P] (ops:Array Oper) (base:Nat) (K:AS→Prop):List Nat→Nat→AS→Prop
 | [],k,s=>K { s with next:=base+4*(k+1) }
 | i::r,k,s=>match ops[i]? with
  | some o=>lB P (base+4*(k+1)) o (da P ops base K r (k+1)) s
  | none=>False
def isPure (o:Op):Bool:=match o with
 | .move _ | .load .. | .fieldAddr .. | .nilCheck _ | .field .. | .index .. | .indexAddr .. | .build .. | .extract .. | .binOp .. | .unOp .. =>true
 | .slice _ _ _ _ none=>true
 | .convert .. =>true
 | _=>false
def qw (o:Op):Bool:=match o with
 | .call ⟨.value (.func _),_,_⟩=>true
 | .call ⟨.value (.tmp _),_,_⟩=>true
 | .call ⟨.builtin .append,_,_⟩=>true
 | .buildSlice .. =>true
 | .build .. =>true
 | _=>false
def j3 (o:Oper):Bool:=qw o.op||isPure o.op||(cB o.op&&o.dst.isNone)
def DK (o:Op):Bool:=match o with
 | .alloc _=>true
 | _=>false
def ij (P:Program) [Tables P] (ops:Array Oper) (nm:Nat) (K:AS→Prop):List Nat→AS→Prop
 | [],s=>K s
 | i::r,s=>match ops[i]? with
  | some o=>cw P nm o (ij P ops nm K r) s
  | none=>False
def DL (b:Option aI):Option aI:=match b with
 | some ⟨false,cs⟩=>some ⟨false,cs⟩
 | _=>none
def nO (dm:List Nat) (box:Nat→Option aI) (t:Nat):Option aI:=if dm.contains t=true then (match box t with
 | some b=>some ⟨false,b.cells⟩
 | none=>none) else box t
def J3 (pm:List Nat) (b0 b:Nat→Option aI) (t:Nat):Option aI:=if pm.contains t=true then b0 t else b t
def uL (D:List Nat) (env:Nat→Option AV) (d:Nat):Option AV:=if D.contains d=true then none else env d
def Pv (ops:Array Oper) (i:Nat) (p:Oper→Bool):Bool:=match ops[i]? with
 | some o=>p o
 | none=>false
def fm (ops:Array Oper) (i:Nat):List Nat:=match ops[i]? with
 | some o=>o.dst.toList
 | none=>[]
def dstsOf (ops:Array Oper):List Nat→List Nat
 | []=>[]
 | i::r=>fm ops i++dstsOf ops r
def Ng (ops:Array Oper) (i:Nat):List Nat:=match ops[i]? with
 | some o=>o.looksAt ops
 | none=>[]
def jG (l m:List Nat):Bool:=l.all fun x=> !m.contains x
def gG (ops:Array Oper):List Nat→Bool
 | []=>true
 | i::r=>r.all (fun j=>waits ops ops.size j i)&&gG ops r
def RE (ops:Array Oper):List Nat→Bool
 | []=>true
 | i::r=>jG (Ng ops i) (dstsOf ops (i::r))&&jG (fm ops i) (dstsOf ops r)&&RE ops r
def j4 (ops:Array Oper) (A R Z F:List Nat):Bool:=
 (List.range ops.size).all (fun i=>A.contains i||R.contains i||Z.contains i||F.contains i)&&
 (List.range ops.size).all (fun i=>Pv ops i fun o=>o.guard.isNone&&o.after.toList.all fun e=> !Region.binds .any e||decide (e.on < i))&&
 A.all (fun i=>Pv ops i fun o=>isPure o.op&&o.dst.isSome&&o.after.toList.all (fun e=> !Region.binds .any e||A.contains e.on)&&jG (o.looksAt ops) (dstsOf ops (R++Z++F))&&A.all fun j=>jG (fm ops j) (o.looksAt ops)||waits ops ops.size i j)&&
 RE ops A&&jG (dstsOf ops A) (dstsOf ops (R++Z++F))&&jG A (R++Z++F)&&jG R (Z++F)&&jG Z F&&
 R.all (fun i=>Pv ops i fun o=>j3 o&&jG (o.looksAt ops) (dstsOf ops Z)&&A.all fun j=>jG (fm ops j) (o.looksAt ops)||waits ops ops.size i j)&&
 gG ops R&&jG (dstsOf ops R) (dstsOf ops Z)&&Vo ops Z&&
 Z.all (fun i=>Pv ops i fun o=>DK o.op&&o.dst.isSome)&&
 F.all (fun i=>(A++R++Z).all fun j=>waits ops ops.size i j)&&F.all (fun i=>decide (i < ops.size))
where
 Vo (ops:Array Oper):List Nat→Bool
  | []=>true
  | i::r=>jG (fm ops i) (dstsOf ops r)&& !r.contains i&&Vo ops r
def iH (ops:Array Oper) (A R Z F:List Nat):Bool:=j4 ops A R Z F&&gG ops F
def RF (P:Program) [Tables P] (ops:Array Oper) (A R Z F dm:List Nat) (K:AS→Prop) (s:AS):Prop:=
 ij P ops s.next (fun sr=>da P ops s.next K (R++Z++F) 0 ⟨sr.env,nO dm s.box,s.next⟩) A ⟨uL (dstsOf ops (A++R++Z++F)) s.env,fun t=>DL (nO dm s.box t),s.next⟩
def Nh (P:Program) [Tables P] (ops:Array Oper) (A R Z F dm pm:List Nat) (K:AS→Prop) (s:AS):Prop:=
 (∀ t ∈ pm,dm.contains t=true∧ ∃ cs,s.box t=some ⟨true,cs⟩)∧ij P ops s.next (fun sr=>da P ops s.next (fun s1=>da P ops s.next K (Z++F) R.length ⟨s1.env,J3 pm s.box s1.box,s1.next⟩) R 0 ⟨sr.env,nO dm s.box,s.next⟩) A ⟨uL (dstsOf ops (A++R++Z++F)) s.env,fun t=>DL (nO dm s.box t),s.next⟩
def xA (ops:Array Oper) (F:List Nat):Array Bool:=⟨(List.range ops.size).map fun i=> !F.contains i⟩
def EY (ops:Array Oper) (F:List Nat) (t:dc):Bool:=dc.here ops (dF (xA ops F) ops.toList 0).length (xA ops F) t&&dc.all ops (dF (xA ops F) ops.toList 0).length (xA ops F) t
def Ni (P:Program) [Tables P] (ops:Array Oper) (A R Z F dm pm:List Nat) (tr:dc) (K:AS→Prop) (s:AS):Prop:=
 (∀ t ∈ pm,dm.contains t=true∧ ∃ cs,s.box t=some ⟨true,cs⟩)∧ij P ops s.next (fun sr=>da P ops s.next (fun s1=>da P ops s.next (fun s2=>Ck P ops (s.next+4*(R.length+Z.length+1)) K tr 0 s2) Z R.length ⟨s1.env,J3 pm s.box s1.box,s1.next⟩) R 0 ⟨sr.env,nO dm s.box,s.next⟩) A ⟨uL (dstsOf ops (A++R++Z++F)) s.env,fun t=>DL (nO dm s.box t),s.next⟩
section
variable {P:Program} [Tables P] {W:Nat→Prop} {N:Nat} {w0:Base P} {M:Nat→Prop} {g:Where} {s:AS} {a:Act} {w:World} {ops:Array Oper} {nm:Nat} {o:Oper}
def jc (g:Where) (s:AS) (b:Nat):Prop:= ∃ t bx,s.box t=some bx∧bx.rw=true∧(g t).1=b
theorem bF.ik (h:bF W N w0 M g s a w) {pn:Nat} (Gc: ∀ n,n < pn→M n):bF (jc g s) N ⟨w,pn,g,h.laid⟩ M g s a w:=
 ⟨h.size,h.defers,h.env,h.names,h.mem,fun t b hb hrw=>Or.inr ⟨t,b,hb,hrw,rfl⟩,Frame.refl _ _,fun n hn=>⟨Gc n hn,rfl⟩,fun b bx hb=>by
  rintro ⟨t,c,hc,hrw,rfl⟩
  rcases h.own t c hc hrw with h3 | h3
  ·have:=(w0.laid.rows _ bx hb).1;omega
  ·exact h.tabs _ bx hb h3⟩
theorem bF.il (h:bF W N w0 M g s a w) {pn:Nat} {hl:Laid P w} {M':Nat→Prop} {g':Where} {s':AS} {a':Act} {w':World} (hM: ∀ n,M n→n < pn)
  (h':bF (jc g s) N ⟨w,pn,g,hl⟩ M' g' s' a' w'):bF W N w0 M' g' s' a' w':=by
 have ho: ∀ b,jc g s b→w0.heap.size≤b∨W b:=fun b hb=>by
  obtain ⟨t,c,hc,hrw,rfl⟩:=hb
  exact h.own t c hc hrw
 have hf:=h'.frame
 refine ⟨h'.size,h'.defers,h'.env,h'.names,h'.mem,fun t b hb hrw=> ?_, ?_,fun n hn=> ?_,h.tabs⟩
 ·rcases h'.own t b hb hrw with h1 | h1
  ·exact .inl (Nat.le_trans h.frame.size h1)
  ·exact ho _ h1
 ·refine ⟨hf.os.trans h.frame.os,hf.tape.trans h.frame.tape,hf.output.trans h.frame.output,Nat.le_trans h.frame.size hf.size,fun k hk hW=> ?_⟩
  have:=hf.block k (Nat.lt_of_lt_of_le hk h.frame.size) fun hO=>(ho k hO).elim (fun h1=>by omega) hW
  exact this.trans (h.frame.block k hk hW)
 ·obtain ⟨h1,h2⟩:=h.pin n hn
  obtain ⟨h3,h4⟩:=h'.pin n (hM n h1)
  exact ⟨h3,h4.trans h2⟩
theorem DM {f:Nat} {l:List AV} {dst:Option Nat} {K:AS→Prop} (hv:cq P nm f (some l) dst K s) (h:bF W N w0 (fun n=>n < nm) g s a w):
  Calls P f (l.map (AV.ah g)).toArray w fun e w'=> ∃ v g' bx,e= .returned (AV.ah g' v)∧AV.ok (fun n=>n < nm+4) v∧bF W N w0 (fun n=>n < nm+4) g' { s with box:=bx } a w'∧
   (∀ β,β < w.heap.size→(∀ t b,s.box t=some b→(g t).1≠β)→w'.heap[β]? =w.heap[β]? ∧ ∀ t b,bx t=some b→(g' t).1≠β)∧(∀ t b,bx t=some b→b.rw=true∨ ∃ b0,s.box t=some b0∧g' t=g t)∧K (({ s with box:=bx }:AS).put dst (some v)):=by
 refine (hv _ N _ g a w (h.ik (pn:=nm) fun n hn=>hn)).mono ?_
 rintro e w' ⟨v,g',bx,rfl,hok,bk,hnew,hk⟩
 refine ⟨v,g',bx,rfl,hok,h.il (fun n hn=>hn) bk,fun β hβ hno=>⟨?_,fun t b hb=> ?_⟩,hnew,hk⟩
 ·exact bk.frame.block β hβ fun ⟨t,c,hc,_,e⟩=>hno t c hc e
 ·rcases hnew t b hb with hrw | ⟨b0,hb0,e⟩
  ·rcases bk.own t b hb hrw with h1 | ⟨t',c,hc,_,e⟩
   ·have h1':w.heap.size≤(g' t).1:=h1
    omega
   ·rw[← e];exact hno t' c hc
  ·rw[e];exact hno t b0 hb0
theorem kR {bx:Nat→Option aI} {g':Where} {w':World} {a:Act} {k:Nat} (h:bF W N w0 (fun n=>n < nm) g s a w) (bk:bF (jc g s) N ⟨w,nm,g,h.laid⟩ (fun n=>n < k) g' { s with box:=bx } a w')
  (hnew: ∀ t b,bx t=some b→b.rw=true∨ ∃ b0,s.box t=some b0∧g' t=g t): ∀ β,β < w.heap.size→(∀ t b,s.box t=some b→(g t).1≠β)→w'.heap[β]? =w.heap[β]? ∧ ∀ t b,bx t=some b→(g' t).1≠β:=fun β hβ hno=>⟨
 bk.frame.block β hβ fun ⟨t,c,hc,_,e⟩=>hno t c hc e,fun t b hb=>by
  rcases hnew t b hb with hrw | ⟨b0,hb0,e⟩
  ·rcases bk.own t b hb hrw with h1 | ⟨t',c,hc,_,e⟩
   ·have h1':w.heap.size≤(g' t).1:=h1
    omega
   ·rw[← e];exact hno t' c hc
  ·rw[e];exact hno t b0 hb0⟩
theorem pure_run {K:AS→Prop} (h:isPure o.op=true):cw P nm o K s=bL (ea P nm s o.op) nm o.dst K s:=by
 obtain ⟨dst,op,type,pos,after,guard⟩:=o
 cases op<;>first | rfl | (simp[isPure]at h)
theorem HZ {op:BinOp} {x y:Option AV} {e:dU} (h:cJ op x y=some e): ∃ v,e=(some v,none):=by
 unfold cJ at h
 split at h
 ·split at h
  ·simp only[Option.some.injEq]at h;exact ⟨_,h.symm⟩
  ·cases h
 ·cases h
theorem vK {e:dU} (h:isPure o.op=true) (he:ea P nm s o.op=some e): ∃ v,e=(some v,none):=by
 obtain ⟨dst,op,type,pos,after,guard⟩:=o
 cases op<;>simp only[isPure,Bool.false_eq_true]at h<;>simp only[ea]at he
 case move x=>
  split at he
  ·simp only[Option.some.injEq]at he;exact ⟨_,he.symm⟩
  ·cases he
 case load t x=>
  unfold fe at he
  (repeat' split at he)<;>first | (simp only[Option.some.injEq]at he;exact ⟨_,he.symm⟩) | cases he
 case fieldAddr t x f=>
  unfold fg at he
  (repeat' split at he)<;>first | (simp only[Option.some.injEq]at he;exact ⟨_,he.symm⟩) | cases he
 case nilCheck x=>
  unfold EF at he
  (repeat' split at he)<;>first | (simp only[Option.some.injEq]at he;exact ⟨_,he.symm⟩) | cases he
 case field t x f=>
  unfold nW at he
  (repeat' split at he)<;>first | (simp only[Option.some.injEq]at he;exact ⟨_,he.symm⟩) | cases he
 case index t x i=>
  unfold jk at he
  (repeat' split at he)<;>first | (simp only[Option.some.injEq]at he;exact ⟨_,he.symm⟩) | cases he
 case indexAddr t x i=>
  unfold c9 at he
  (repeat' split at he)<;>first | (simp only[Option.some.injEq]at he;exact ⟨_,he.symm⟩) | cases he
 case build t parts=>
  unfold fW at he
  (repeat' split at he)<;>first | (simp only[Option.some.injEq]at he;exact ⟨_,he.symm⟩) | cases he
 case extract x i=>
  unfold iB at he
  (repeat' split at he)<;>first | (simp only[Option.some.injEq]at he;exact ⟨_,he.symm⟩) | cases he
 case binOp op t x y p=>
  unfold uA at he
  split at he
  ·unfold rR at he
   (repeat' split at he)<;>first | (simp only[Option.some.injEq]at he;exact ⟨_,he.symm⟩) | cases he
  unfold nV at he
  split at he
  ·unfold eqA at he
   split at he
   ·unfold Wr at he
    (repeat' split at he)<;>first | (simp only[Option.some.injEq]at he;exact ⟨_,he.symm⟩) | cases he
   ·unfold eqF at he
    split at he
    ·unfold YP at he
     (repeat' split at he)<;>first | (simp only[Option.some.injEq]at he;exact ⟨_,he.symm⟩) | cases he
    ·cases he
  ·unfold QG at he
   (repeat' split at he)<;>first | (simp only[Option.some.injEq]at he;exact ⟨_,he.symm⟩) | cases he
  ·exact HZ he
 case unOp op t x=>
  unfold qf at he
  (repeat' split at he)<;>first | (simp only[Option.some.injEq]at he;exact ⟨_,he.symm⟩) | cases he
 case convert t u x=>
  unfold jm L9 iC at he
  (repeat' split at he)<;>first | (simp only[Option.some.injEq]at he;exact ⟨_,he.symm⟩) | cases he
 case slice t x lo hi mx=>
  cases mx with
  | some m=>cases h
  | none=>
   simp only at he
   unfold gD Qw slN at he
   (repeat' split at he)<;>first | (simp only[Option.some.injEq]at he;exact ⟨_,he.symm⟩) | cases he
theorem RG {K:AS→Prop} {ap:Act} (hop:j3 o=true) (KK: ∀ f xs tys,o.op= .call ⟨.value (.func f),xs,tys⟩→ak P f=true) (hv:lB P nm o K s) (h:bF W N w0 (fun n=>n < nm) g s ap w)
  (heq: ∀ x ∈ o.op.operands,a.eval x=ap.eval x) {next:Act→World→Prop} {Q:Exit→Act→World→Prop}
  (hN: ∀ v g' bx w',AV.ok (fun n=>n < nm+4) v→bF W N w0 (fun n=>n < nm+4) g' { s with box:=bx } ap w'→
   (∀ β,β < w.heap.size→(∀ t b,s.box t=some b→(g t).1≠β)→w'.heap[β]? =w.heap[β]? ∧ ∀ t b,bx t=some b→(g' t).1≠β)→(∀ t b,bx t=some b→b.rw=true∨ ∃ b0,s.box t=some b0∧g' t=g t)→K (({ s with box:=bx }:AS).put o.dst (some v))→next (a.put o.dst (AV.ah g' v)) w'):o.wp P a w next Q:=by
 have hsel: ∀ cs b,o.op≠ .select cs b:=fun cs b e=>by unfold j3 at hop;rw[e]at hop;cases hop
 have hex:=execOp_congr o hsel heq
 unfold Oper.wp
 rw[hex]
 obtain ⟨dst,op,type,pos,after,guard⟩:=o
 simp only at hop KK hN hv
 unfold lB at hv
 simp only at hv
 split at hv
 ·rename_i f xs tys
  rw[if_pos (KK f xs tys rfl)]at hv
  cases hargs:bq s xs.toList with
  | none=>rw[hargs]at hv;exact hv.elim
  | some l=>
   rw[hargs]at hv
   have hx1:xs.map ap.eval=(l.map (AV.ah g)).toArray:=by
    apply Array.ext'
    rw[Array.toList_map,(cE h _ _ hargs).1]
   rw[iD f xs tys dst type pos after guard ap.eval rfl w,cx (KK f xs tys rfl),hx1]
   simp only[Oper.upon]
   refine (DM hv h).mono ?_
   rintro e w' ⟨v,g',bx,rfl,hok,bk,hkeep,hnew,hk⟩
   exact hN v g' bx w' hok bk hkeep hnew hk
 ·rename_i d xs tys
  unfold HY at hv
  split at hv
  ·rename_i f caps YW
   obtain ⟨hc,hv⟩:=hv
   cases hl:uC (bq s xs.toList) (lh caps.toList) with
   | none=>rw[hl]at hv;exact hv.elim
   | some l=>
    rw[hl]at hv
    unfold uC at hl
    split at hl
    ·rename_i l1 l2 h1 h2
     cases hl
     have hargs:xs.map ap.eval++(⟨caps.toList.map (kZ g)⟩:Array Value)=((l1++l2).map (AV.ah g)).toArray:=by
      apply Array.ext'
      rw[Array.toList_append,Array.toList_map,(cE h _ _ h1).1, ← ky _ _ h2,List.map_append]
     rw[qV d xs tys dst type pos after guard ap.eval (f:=f) (cs:=⟨caps.toList.map (kZ g)⟩) (h.eval (x:= .tmp d) YW) w,cx hc,hargs]
     simp only[Oper.upon]
     refine (DM hv h).mono ?_
     rintro e w' ⟨v,g',bx,rfl,hok,bk,hkeep,hnew,hk⟩
     exact hN v g' bx w' hok bk hkeep hnew hk
    ·cases hl
  ·exact hv.elim
 ·rename_i xs tys
  unfold jF at hv
  split at hv
  ·exact hv.elim
  ·rename_i l hl
   have hargs:xs.map ap.eval=(l.map (AV.ah g)).toArray:=by
    apply Array.ext'
    rw[Array.toList_map,(cE h _ _ hl).1]
   obtain ⟨v,g',bx,w',hrun,hok,bk,hnew,hk⟩:=hv _ N _ g ap w (h.ik (pn:=nm) fun n hn=>hn)
   have:(execOp ap.eval { dst,op:= .call ⟨.builtin .append,xs,tys⟩,type,pos,after,guard }).run P w= .ok (.value (AV.ah g' v)) w':=by
    simp only[execOp,resolve,Sem.run_bind,Sem.run_pure,Result.andThen_ok,invoke]
    refine Eq.trans (congrArg (fun c=>Sem.run P (builtin .append tys type c (xs.map ap.eval)) w) (?_:_=xs.map isConst)) ?_
    ·apply Array.map_congr_left;intro x _;cases x<;>rfl
    ·rw[hargs,hrun]
   rw[this]
   simp only[Oper.upon]
   exact hN v g' bx w' (AV.aL (fun n hn=>by omega) hok) ((h.il (fun n hn=>hn) bk).mono (fun n hn=>by omega)) (kR h bk hnew) hnew hk
 ·rename_i hn1 hn2 Vp
  by_cases Zf:isPure op=true
  ·rw[pure_run (o:=⟨dst,op,type,pos,after,guard⟩) Zf]at hv
   unfold bL at hv
   split at hv
   ·rename_i e he
    obtain ⟨v,rfl⟩:=vK (o:=⟨dst,op,type,pos,after,guard⟩) Zf he
    obtain ⟨g',w',r,hr⟩:=eH (P:=P) (o:=⟨dst,op,type,pos,after,guard⟩) (h.ik (pn:=nm) fun n hn=>hn) (Nat.lt_irrefl nm) he
    obtain ⟨H0,hok⟩:=hr.val
    rw[hr.run,H0]
    simp only[Oper.upon]
    have cF:bF (jc g s) N ⟨w,nm,g,h.laid⟩ (fun k=>k < nm+1) g' { s with box:=s.box } ap w':=hr.rep.mono (fun k hk=>by rcases hk with h | h<;>omega)
    have hnew: ∀ t b,s.box t=some b→b.rw=true∨ ∃ b0,s.box t=some b0∧g' t=g t:=fun t b hb=> .inr ⟨b,hb,hr.same t (h.names.box t b hb).1⟩
    exact hN v g' _ w' (AV.aL (fun k hk=>by rcases hk with h | h<;>omega) hok) ((h.il (fun n hn=>hn) cF).mono (fun k hk=>by omega)) (kR h cF hnew) hnew hv
   ·exact hv.elim
  by_cases hst:cB op=true
  ·obtain ⟨t,x,y,rfl⟩: ∃ t x y,op= .store t x y:=by
    cases op<;>first | exact ⟨_,_,_,rfl⟩ | (cases hst;done)
   have hdn:dst=none:=by
    unfold j3 at hop
    simpa[qw,isPure,cB] using hop
   subst hdn
   replace hv:bL (ea P nm s (.store t x y)) nm none K s:=hv
   unfold bL at hv
   split at hv
   ·rename_i e he
    have he':=he
    replace he':eU P s t (s.aS x) (s.aS y)=some e:=he'
    obtain ⟨b,bx,rfl,Zg⟩: ∃ b bx,e=(none,some (.inr (b,bx)))∧bx.rw=true:=by
     unfold eU at he'
     split at he'
     ·split at he'
      ·split at he'
       ·rename_i hc
        simp only[Option.some.injEq]at he'
        exact ⟨_,_,he'.symm,hc.1⟩
       ·cases he'
      ·cases he'
     ·cases he'
    obtain ⟨g',w',r,hr⟩:=eH (P:=P) (o:=⟨none, .store t x y,type,pos,after,guard⟩) (h.ik (pn:=nm) fun n hn=>hn) (Nat.lt_irrefl nm) he
    have H0:r= .skip:=hr.val
    rw[hr.run,H0]
    simp only[Oper.upon]
    have cF:bF (jc g s) N ⟨w,nm,g,h.laid⟩ (fun k=>k < nm+1) g' { s with box:=upd s.box b (some bx) } ap w':=hr.rep.mono (fun k hk=>by rcases hk with h | h<;>omega)
    have hnew: ∀ t b',upd s.box b (some bx) t=some b'→b'.rw=true∨ ∃ b0,s.box t=some b0∧g' t=g t:=fun t b' hb=>by
     unfold upd at hb
     split at hb
     ·cases hb;exact .inl Zg
     ·exact .inr ⟨b',hb,hr.same t (h.names.box t b' hb).1⟩
    exact hN (.inr []) g' _ w' (fun x hx=>nomatch hx) ((h.il (fun n hn=>hn) cF).mono (fun k hk=>by omega)) (kR h cF hnew) hnew hv
   ·exact hv.elim
  replace hop:qw op=true:=by
   unfold j3 at hop
   simpa[Zf,hst] using hop
  cases op<;>try (cases hop;done)
  case call c=>
   obtain ⟨cal,xs,tys⟩:=c
   cases cal with
   | value x=>cases x<;>first | exact absurd rfl (hn1 _ _ _) | exact absurd rfl (hn2 _ _ _) | cases hop
   | builtin b=>cases b<;>first | exact absurd rfl (Vp _ _) | cases hop
   | invoke=>cases hop
  case build t parts=>
   replace hv:bL (ea P nm s (.build t parts)) nm dst K s:=hv
   unfold bL at hv
   split at hv
   ·rename_i e he
    have he':=he
    replace he':fW P t s parts.toList=some e:=he'
    obtain ⟨v,rfl⟩: ∃ v,e=(some v,none):=by
     unfold fW at he'
     (repeat' split at he')<;>first | (simp only[Option.some.injEq]at he';exact ⟨_,he'.symm⟩) | cases he'
    obtain ⟨g',w',r,hr⟩:=eH (P:=P) (o:=⟨dst, .build t parts,type,pos,after,guard⟩) (h.ik (pn:=nm) fun n hn=>hn) (Nat.lt_irrefl nm) he
    obtain ⟨H0,hok⟩:=hr.val
    rw[hr.run,H0]
    simp only[Oper.upon]
    have cF:bF (jc g s) N ⟨w,nm,g,h.laid⟩ (fun k=>k < nm+1) g' { s with box:=s.box } ap w':=hr.rep.mono (fun k hk=>by rcases hk with h | h<;>omega)
    have hnew: ∀ t b,s.box t=some b→b.rw=true∨ ∃ b0,s.box t=some b0∧g' t=g t:=fun t b hb=> .inr ⟨b,hb,hr.same t (h.names.box t b hb).1⟩
    exact hN v g' _ w' (AV.aL (fun k hk=>by rcases hk with h | h<;>omega) hok) ((h.il (fun n hn=>hn) cF).mono (fun k hk=>by omega)) (kR h cF hnew) hnew hv
   ·exact hv.elim
  case buildSlice t n parts=>
   replace hv:bL (ea P nm s (.buildSlice t n parts)) nm dst K s:=hv
   unfold bL at hv
   split at hv
   ·rename_i e he
    have he':=he
    replace he':eZ nm (pT P t) n s parts.toList=some e:=he'
    obtain ⟨l,rfl⟩: ∃ l,e=(some (Sl nm 0 n n),some (.inl l)):=by
     unfold eZ at he'
     split at he'
     ·split at he'
      ·split at he'
       ·cases he';exact ⟨_,rfl⟩
       ·cases he'
      ·cases he'
     ·cases he'
    obtain ⟨g',w',r,hr⟩:=eH (P:=P) (o:=⟨dst, .buildSlice t n parts,type,pos,after,guard⟩) (h.ik (pn:=nm) fun n hn=>hn) (Nat.lt_irrefl nm) he
    obtain ⟨H0,hok⟩:=hr.val
    rw[hr.run,H0]
    simp only[Oper.upon]
    have cF:bF (jc g s) N ⟨w,nm,g,h.laid⟩ (fun k=>k < nm+1) g' { s with box:=upd s.box nm (some ⟨true,l⟩) } ap w':=hr.rep.mono (fun k hk=>by rcases hk with h | h<;>omega)
    have hnew: ∀ t b,upd s.box nm (some ⟨true,l⟩) t=some b→b.rw=true∨ ∃ b0,s.box t=some b0∧g' t=g t:=fun t b hb=>by
     unfold upd at hb
     split at hb
     ·cases hb;exact .inl rfl
     ·rename_i e
      exact .inr ⟨b,hb,hr.same t (h.names.box t b hb).1⟩
    exact hN (Sl nm 0 n n) g' _ w' (AV.aL (fun k hk=>by rcases hk with h | h<;>omega) hok) ((h.il (fun n hn=>hn) cF).mono (fun k hk=>by omega)) (kR h cF hnew) hnew hv
   ·exact hv.elim
theorem zT {K:AS→Prop} (h:bF W N w0 (fun n=>n < nm) g s a w) (hd: ∀ d,o.dst=some d→d < N) (hv:lB P nm o K s)
  {next:Act→World→Prop} {Q:Exit→Act→World→Prop} (hK: ∀ g' s' a' w',bF W N w0 (fun n=>n < nm+4) g' s' a' w'→K s'→next a' w'):o.wp P a w next Q:=by
 unfold lB at hv
 obtain ⟨dst,op,type,pos,after,guard⟩:=o
 simp only at hv hd
 split at hv
 ·rename_i f xs tys
  have hargs: ∀ l,bq s xs.toList=some l→xs.map a.eval=(l.map (AV.ah g)).toArray:=fun l hl=>by
   apply Array.ext'
   rw[Array.toList_map,(cE h _ _ hl).1]
  split at hv
  ·rename_i hc
   unfold cq at hv
   split at hv
   ·exact hv.elim
   ·rename_i l hl
    unfold Oper.wp
    rw[iD f xs tys dst type pos after guard a.eval rfl w,cx hc,hargs l hl]
    simp only[Oper.upon]
    refine (hv W N w0 g a w h).mono ?_
    rintro e w' ⟨v,g',bx,rfl,hok,bk,_,hk⟩
    exact hK g' _ _ _ (bk.put hd hok) hk
  ·exact jJ (o:=⟨dst, .call ⟨.value (.func f),xs,tys⟩,type,pos,after,guard⟩) h hd (by unfold cw;simp only;rw[if_neg (by assumption)];exact hv) fun g' s' a' w' hr hk=>hK g' s' a' w' (hr.mono fun n hn=>by omega) hk
 ·rename_i d xs tys
  refine RG (o:=⟨dst, .call ⟨.value (.tmp d),xs,tys⟩,type,pos,after,guard⟩) rfl (fun f xs tys e=>by cases e) (K:=K) (by unfold lB;exact hv) h (fun _ _=>rfl) fun v g' bx w' hok bk _ _ hk=> ?_
  exact hK g' _ _ _ (bk.put hd hok) hk
 ·rename_i xs tys
  refine RG (o:=⟨dst, .call ⟨.builtin .append,xs,tys⟩,type,pos,after,guard⟩) rfl (fun f xs tys e=>by cases e) (K:=K) (by unfold lB;exact hv) h (fun _ _=>rfl) fun v g' bx w' hok bk _ _ hk=> ?_
  exact hK g' _ _ _ (bk.put hd hok) hk
 ·exact jJ h hd hv fun g' s' a' w' hr hk=>hK g' s' a' w' (hr.mono fun n hn=>by omega) hk
end
end Go.cn
