/-
  The calculus: calls that make several boxes; and regions whose order Go leaves open that hold such calls: what only looks may be walked first, new variables last. Nothing here speaks of a program.
-/
import Derived.Test.YtoakenpcooglpaaGreatDoorVcgY
set_option linter.unusedVariables false
set_option linter.unusedSimpArgs false
namespace Go.cA
set_option linter.unusedSectionVars false
def bZ (P:Program) [Tables P] (nm f:Nat) (xs:Option (List AV)) (dst:Option Nat) (K:AS→Prop) (s:AS):Prop:=match xs with
 | none=>False
 | some l=> ∀ (W:Nat→Prop) (N:Nat) (w0:gF P) (g:bG) (a:Act) (w:World),cE W N w0 (fun n=>n < nm) g s a w→
   Calls P f (l.map (AV.av g)).toArray w fun e w'=> ∃ v g' bx,e= .returned (AV.av g' v)∧AV.ok (fun n=>n < nm+4) v∧cE W N w0 (fun n=>n < nm+4) g' { s with box:=bx } a w'∧
    (∀ t b,bx t=some b→b.rw=true∨ ∃ b0,s.box t=some b0∧g' t=g t)∧K (({ s with box:=bx }:AS).put dst (some v))
def Bi (P:Program) [Tables P] (nm:Nat) (o:Oper) (K:AS→Prop) (s:AS):Prop:=match o.op with
 | .call ⟨.value (.func f),xs,_⟩=>if ai P f=true then bZ P nm f (bN s xs.toList) o.dst K s else mF P f (bN s xs.toList) o.dst K s
 | _=>cv P nm o K s
def fL (P:Program) [Tables P] (ops:Array Oper) (base:Nat) (K:AS→Prop):List Nat→Nat→AS→Prop
 | [],k,s=>K { s with next:=base+4*(k+1) }
 | i::r,k,s=>match ops[i]? with
  | some o=>Bi P (base+4*(k+1)) o (fL P ops base K r (k+1)) s
  | none=>False
def isPure (o:Op):Bool:=match o with
 | .move _ | .load .. | .fieldAddr .. | .nilCheck _ | .field .. | .index .. | .indexAddr .. | .build .. | .extract .. | .binOp .. | .unOp .. =>true
 | _=>false
def LV (o:Op):Bool:=match o with
 | .call ⟨.value (.func _),_,_⟩=>true
 | _=>false
def Fw (o:Op):Bool:=match o with
 | .alloc _=>true
 | _=>false
def mv (P:Program) [Tables P] (ops:Array Oper) (nm:Nat) (K:AS→Prop):List Nat→AS→Prop
 | [],s=>K s
 | i::r,s=>match ops[i]? with
  | some o=>cv P nm o (mv P ops nm K r) s
  | none=>False
def ZG (b:Option aW):Option aW:=match b with
 | some ⟨false,cs⟩=>some ⟨false,cs⟩
 | _=>none
def WA (dm:List Nat) (box:Nat→Option aW) (t:Nat):Option aW:=if dm.contains t=true then (match box t with
 | some b=>some ⟨false,b.cells⟩
 | none=>none) else box t
def roE (D:List Nat) (env:Nat→Option AV) (d:Nat):Option AV:=if D.contains d=true then none else env d
def VJ (ops:Array Oper) (i:Nat) (p:Oper→Bool):Bool:=match ops[i]? with
 | some o=>p o
 | none=>false
def fv (ops:Array Oper) (i:Nat):List Nat:=match ops[i]? with
 | some o=>o.dst.toList
 | none=>[]
def dstsOf (ops:Array Oper):List Nat→List Nat
 | []=>[]
 | i::r=>fv ops i++dstsOf ops r
def Uh (ops:Array Oper) (i:Nat):List Nat:=match ops[i]? with
 | some o=>o.looksAt ops
 | none=>[]
def gY (l m:List Nat):Bool:=l.all fun x=> !m.contains x
def jK (ops:Array Oper):List Nat→Bool
 | []=>true
 | i::r=>r.all (fun j=>waits ops ops.size j i)&&jK ops r
def ZH (ops:Array Oper):List Nat→Bool
 | []=>true
 | i::r=>gY (Uh ops i) (dstsOf ops (i::r))&&gY (fv ops i) (dstsOf ops r)&&ZH ops r
def qV (ops:Array Oper) (A R Z F:List Nat):Bool:=
 (List.range ops.size).all (fun i=>A.contains i||R.contains i||Z.contains i||F.contains i)&&
 (List.range ops.size).all (fun i=>VJ ops i fun o=>o.guard.isNone&&o.after.toList.all fun e=> !Region.binds .any e||decide (e.on < i))&&
 A.all (fun i=>VJ ops i fun o=>isPure o.op&&o.dst.isSome&&o.after.toList.all (fun e=> !Region.binds .any e||A.contains e.on)&&gY (o.looksAt ops) (dstsOf ops (R++Z++F))&&A.all fun j=>gY (fv ops j) (o.looksAt ops)||waits ops ops.size i j)&&
 ZH ops A&&gY (dstsOf ops A) (dstsOf ops (R++Z++F))&&gY A (R++Z++F)&&gY R (Z++F)&&gY Z F&&
 R.all (fun i=>VJ ops i fun o=>LV o.op&&gY (o.looksAt ops) (dstsOf ops Z)&&A.all fun j=>gY (fv ops j) (o.looksAt ops)||waits ops ops.size i j)&&
 jK ops R&&gY (dstsOf ops R) (dstsOf ops Z)&&abJ ops Z&&
 Z.all (fun i=>VJ ops i fun o=>Fw o.op&&o.dst.isSome)&&
 F.all (fun i=>(A++R++Z).all fun j=>waits ops ops.size i j)&&jK ops F&&F.all (fun i=>decide (i < ops.size))
where
 abJ (ops:Array Oper):List Nat→Bool
  | []=>true
  | i::r=>gY (fv ops i) (dstsOf ops r)&& !r.contains i&&abJ ops r
def ZI (P:Program) [Tables P] (ops:Array Oper) (A R Z F dm:List Nat) (K:AS→Prop) (s:AS):Prop:=
 mv P ops s.next (fun sr=>fL P ops s.next K (R++Z++F) 0 ⟨sr.env,WA dm s.box,s.next⟩) A ⟨roE (dstsOf ops (A++R++Z++F)) s.env,fun t=>ZG (WA dm s.box t),s.next⟩
section
variable {P:Program} [Tables P] {W:Nat→Prop} {N:Nat} {w0:gF P} {M:Nat→Prop} {g:bG} {s:AS} {a:Act} {w:World} {ops:Array Oper} {nm:Nat} {o:Oper}
def Fy (g:bG) (s:AS) (b:Nat):Prop:= ∃ t bx,s.box t=some bx∧bx.rw=true∧(g t).1=b
theorem cE.ZJ (h:cE W N w0 M g s a w) {pn:Nat} (WU: ∀ n,n < pn→M n):cE (Fy g s) N ⟨w,pn,g,h.laid⟩ M g s a w:=
 ⟨h.size,h.defers,h.env,h.names,h.mem,fun t b hb hrw=>Or.inr ⟨t,b,hb,hrw,rfl⟩,Frame.refl _ _,fun n hn=>⟨WU n hn,rfl⟩,fun b bx hb=>by
  rintro ⟨t,c,hc,hrw,rfl⟩
  rcases h.own t c hc hrw with h3 | h3
  ·have:=(w0.laid.rows _ bx hb).1;omega
  ·exact h.tabs _ bx hb h3⟩
theorem cE.ZK (h:cE W N w0 M g s a w) {pn:Nat} {hl:Laid P w} {M':Nat→Prop} {g':bG} {s':AS} {a':Act} {w':World} (hM: ∀ n,M n→n < pn)
  (h':cE (Fy g s) N ⟨w,pn,g,hl⟩ M' g' s' a' w'):cE W N w0 M' g' s' a' w':=by
 have ho: ∀ b,Fy g s b→w0.heap.size≤b∨W b:=fun b hb=>by
  obtain ⟨t,c,hc,hrw,rfl⟩:=hb
  exact h.own t c hc hrw
 have hf:=h'.frame
 refine ⟨h'.size,h'.defers,h'.env,h'.names,h'.mem,fun t b hb hrw=> ?_, ?_,fun n hn=> ?_,h.tabs⟩
 ·rcases h'.own t b hb hrw with h1 | h1
  ·exact .inl (Nat.le_trans h.frame.size h1)
  ·exact ho _ h1
 ·refine ⟨hf.os.trans h.frame.os,hf.tape.trans h.frame.tape,hf.output.trans h.frame.output,Nat.le_trans h.frame.size hf.size,fun k hk hW=> ?_⟩
  have:=hf.block k (Nat.lt_of_lt_of_le hk h.frame.size) fun hO=>(ho k hO).elim (fun h1=>by omega) hW
  exact this.trans (h.frame.block k hk hW)
 ·obtain ⟨h1,h2⟩:=h.kJ n hn
  obtain ⟨h3,h4⟩:=h'.kJ n (hM n h1)
  exact ⟨h3,h4.trans h2⟩
theorem VK {f:Nat} {l:List AV} {dst:Option Nat} {K:AS→Prop} (hv:bZ P nm f (some l) dst K s) (h:cE W N w0 (fun n=>n < nm) g s a w):
  Calls P f (l.map (AV.av g)).toArray w fun e w'=> ∃ v g' bx,e= .returned (AV.av g' v)∧AV.ok (fun n=>n < nm+4) v∧cE W N w0 (fun n=>n < nm+4) g' { s with box:=bx } a w'∧
   (∀ β,β < w.heap.size→(∀ t b,s.box t=some b→(g t).1≠β)→w'.heap[β]? =w.heap[β]? ∧ ∀ t b,bx t=some b→(g' t).1≠β)∧K (({ s with box:=bx }:AS).put dst (some v)):=by
 refine (hv _ N _ g a w (h.ZJ (pn:=nm) fun n hn=>hn)).mono ?_
 rintro e w' ⟨v,g',bx,rfl,hok,dr,hnew,hk⟩
 refine ⟨v,g',bx,rfl,hok,h.ZK (fun n hn=>hn) dr,fun β hβ hno=>⟨?_,fun t b hb=> ?_⟩,hk⟩
 ·exact dr.frame.block β hβ fun ⟨t,c,hc,_,e⟩=>hno t c hc e
 ·rcases hnew t b hb with hrw | ⟨b0,hb0,e⟩
  ·rcases dr.own t b hb hrw with h1 | ⟨t',c,hc,_,e⟩
   ·have h1':w.heap.size≤(g' t).1:=h1
    omega
   ·rw[← e];exact hno t' c hc
  ·rw[e];exact hno t b0 hb0
theorem Bj {K:AS→Prop} (h:cE W N w0 (fun n=>n < nm) g s a w) (hd: ∀ d,o.dst=some d→d < N) (hv:Bi P nm o K s)
  {next:Act→World→Prop} {Q:Exit→Act→World→Prop} (hK: ∀ g' s' a' w',cE W N w0 (fun n=>n < nm+4) g' s' a' w'→K s'→next a' w'):o.wp P a w next Q:=by
 unfold Bi at hv
 obtain ⟨dst,op,type,pos,after,guard⟩:=o
 simp only at hv hd
 split at hv
 ·rename_i f xs tys
  have hargs: ∀ l,bN s xs.toList=some l→xs.map a.eval=(l.map (AV.av g)).toArray:=fun l hl=>by
   apply Array.ext'
   rw[Array.toList_map,(eN h _ _ hl).1]
  split at hv
  ·rename_i hc
   unfold bZ at hv
   split at hv
   ·exact hv.elim
   ·rename_i l hl
    unfold Oper.wp
    rw[jx f xs tys dst type pos after guard a.eval rfl w,fD hc,hargs l hl]
    simp only[Oper.upon]
    refine (hv W N w0 g a w h).mono ?_
    rintro e w' ⟨v,g',bx,rfl,hok,dr,_,hk⟩
    exact hK g' _ _ _ (dr.put hd hok) hk
  ·exact lu (o:=⟨dst, .call ⟨.value (.func f),xs,tys⟩,type,pos,after,guard⟩) h hd (by unfold cv;simp only;rw[if_neg (by assumption)];exact hv) fun g' s' a' w' hr hk=>hK g' s' a' w' (hr.mono fun n hn=>by omega) hk
 ·exact lu h hd hv fun g' s' a' w' hr hk=>hK g' s' a' w' (hr.mono fun n hn=>by omega) hk
end
end Go.cA
