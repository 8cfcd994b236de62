/-
  The calculus: a region by a plan serves every order: the induction. Nothing here speaks of a program.
-/
import Derived.Test.YtkaamnnjeandlaaDoorVcgWe
namespace Go.bM
set_option linter.unusedSectionVars false
set_option linter.unusedSimpArgs false
set_option linter.unusedVariables false
section
variable {P:Program} [Tables P] {W:Nat→Prop} {N:Nat} {w0:Base P} {M:Nat→Prop} {g:Where} {s:AS} {a:Act} {w:World} {ops:Array Oper} {nm:Nat} {o:Oper}
theorem q9 (hlt: ∀ (i:Nat) o,ops[i]? =some o→ ∀ e ∈ o.after,Region.binds .any e=true→e.on < i): ∀ (fuel i j:Nat),waits ops fuel i j=true→j < i
 | 0,_,_,h=>by simp[waits]at h
 | fuel+1,i,j,h=>by
  unfold waits at h
  split at h
  ·rename_i o ho
   obtain ⟨e,he,h2⟩:=List.any_eq_true.1 h
   simp only[Bool.and_eq_true,Bool.or_eq_true,beq_iff_eq]at h2
   have h3:=hlt i o ho e (by simpa using he) h2.1
   rcases h2.2 with h4 | h4
   ·omega
   ·have:=q9 hlt fuel e.on j h4;omega
  ·cases h
theorem Mq {L:Array Bool} {i:Nat} (hi:i < L.size) (j:Nat):(L.setIfInBounds i true).getD j false=true↔j=i∨L.getD j false=true:=by
 by_cases e:i=j
 ·subst e
  simp[Array.getD_eq_getD_getElem?,Array.getElem?_setIfInBounds_self_of_lt hi]
 ·simp only[Array.getD_eq_getD_getElem?,Array.getElem?_setIfInBounds_ne e]
  constructor
  ·exact Or.inr
  ·rintro (h | h)
   ·exact absurd h.symm e
   ·exact h
theorem Ts {L:Array Bool} {j:Nat} (h1:L.getD j true=false) (h2:L.getD j false=true):False:=by
 by_cases hlt:j < L.size
 ·simp only[Array.getD_eq_getD_getElem?,Array.getElem?_eq_getElem hlt,Option.getD_some]at h1 h2
  rw[h2]at h1;cases h1
 ·simp only[Array.getD_eq_getD_getElem?,Array.getElem?_eq_none (Nat.le_of_not_lt hlt),Option.getD_none]at h1
  cases h1
theorem Rz {L:Array Bool} {j:Nat} (hj:j < L.size) (h: ¬ L.getD j false=true):L.getD j true=false:=by
 simp only[Array.getD_eq_getD_getElem?,Array.getElem?_eq_getElem hj,Option.getD_some]at h ⊢
 simpa using h
theorem H8 {L:Array Bool} (h: ∀ i,i < ops.size→L.getD i false=true):df L ops.toList 0=[]:=by
 cases hr:df L ops.toList 0 with
 | nil=>rfl
 | cons p r=>
  obtain ⟨i,o⟩:=p
  obtain ⟨_,h2,h3⟩:=gQ ops.toList 0 (i,o) (by rw[hr];simp)
  have ho:ops[i]? =some o:=by simpa using h3
  exact (Ts h2 (h i (Array.getElem?_eq_some_iff.1 ho).1)).elim
theorem om {L:Array Bool} {i:Nat} (hi:L.getD i true=false) (ho:ops[i]? =some o):(df L ops.toList 0).length=(df (L.setIfInBounds i true) ops.toList 0).length+1:=by
 obtain ⟨pre,post,h1,h2,_⟩:=mF hi ops.toList 0 (Nat.zero_le _) (o:=o) (by simpa using ho)
 rw[h1,h2];simp;omega
structure Static (ops:Array Oper) (N:Nat):Prop where
 lt: ∀ (i:Nat) o,ops[i]? =some o→ ∀ e ∈ o.after,Region.binds .any e=true→e.on < i
 gd: ∀ (i:Nat) o,ops[i]? =some o→o.guard=none
 dN: ∀ (i:Nat) o,ops[i]? =some o→ ∀ d,o.dst=some d→d < N
def Down (ops:Array Oper) (L:Array Bool):Prop:= ∀ (i:Nat) o,ops[i]? =some o→L.getD i false=true→ ∀ e ∈ o.after,Region.binds .any e=true→L.getD e.on false=true
theorem Down.set {L:Array Bool} (h:Down ops L) {i:Nat} (hi:i < L.size) (ho:ops[i]? =some o) (he: ∀ e ∈ o.after,Region.binds .any e=true→L.getD e.on false=true):Down ops (L.setIfInBounds i true):=fun j p hp hj e K1 hb=>by
 rw[Mq hi]at hj ⊢
 rcases hj with rfl | hj
 ·rw[ho]at hp;cases hp;exact .inr (he e K1 hb)
 ·exact .inr (h j p hp hj e K1 hb)
theorem ra {Q:Exit→Act→World→Prop} {i:Nat} (ho:ops[i]? =some o) (hg:o.guard=none) {next:Act→World→Prop} (h:o.wp P a w next Q):wpOp P ops Q i next a w:=by
 unfold wpOp
 simp only[ho]
 rw[if_pos (by simp[Region.wanted,hg])]
 exact .inl h
theorem FQ {base:Nat} {K:AS→Prop} {Q:Exit→Act→World→Prop} (hs:Static ops N) (hK: ∀ g' s' a' w',br W N w0 (fun n=>n < s'.next) g' s' a' w'→K s'→Q .normal a' w'):
  ∀ (F:List Nat) (k fuel:Nat) (L:Array Bool) (g:Where) (s:AS) (a:Act) (w:World),iF ops F=true→L.size=ops.size→(df L ops.toList 0).length=fuel→(∀ i,i < ops.size→(L.getD i false=true↔i ∉ F))→(∀ i ∈ F,i < ops.size)→Down ops L→
   br W N w0 (fun n=>n < base+4*(k+1)) g s a w→cm P ops base K F k s→wpAny P .any ops Q fuel L a w
 | [],k,fuel,L,g,s,a,w,_,hsz,hf,hl,_,_,h,hv=>by
  rw[H8 fun i hi=>(hl i hi).2 (by simp)]at hf
  subst hf
  have hr:Region.ready .any ops L=[]:=by
   cases hr:Region.ready .any ops L with
   | nil=>rfl
   | cons i r=>
    exfalso
    obtain ⟨h1,o,ho,_⟩:=mem_ready.1 (show i ∈ Region.ready .any ops L by rw[hr];simp)
    exact Ts h1 ((hl i (Array.getElem?_eq_some_iff.1 ho).1).2 (by simp))
  exact ⟨hr,hK _ _ _ _ (h.next _) hv⟩
 | i::r,k,fuel,L,g,s,a,w,hc,hsz,hf,hl,hF,ic,h,hv=>by
  simp only[iF,Bool.and_eq_true]at hc
  have V2: ∀ j ∈ r,waits ops ops.size j i=true:=List.all_eq_true.1 hc.1
  have hin:i ∉ r:=fun hm=>by have:=q9 hs.lt _ _ _ (V2 i hm);omega
  have RA:=hF i (by simp)
  have hiu:L.getD i true=false:=Rz (by omega) fun hx=>(hl i RA).1 hx (by simp)
  cases Oe:ops[i]? with
  | none=>rw[Array.getElem?_eq_none_iff]at Oe;omega
  | some o=>
   have DC: ∀ e ∈ o.after,Region.binds .any e=true→L.getD e.on false=true:=fun e he hb=>by
    have hlt:=hs.lt i o Oe e he hb
    refine (hl e.on (by omega)).2 fun hm=> ?_
    rcases List.mem_cons.1 hm with h1 | h1
    ·omega
    ·have:=q9 hs.lt _ _ _ (V2 e.on h1);omega
   rw[om hiu Oe]at hf
   subst hf
   refine ⟨fun hr=> ?_,fun j hj=> ?_⟩
   ·have:i ∈ Region.ready .any ops L:=mem_ready.2 ⟨hiu,o,Oe,DC⟩
    rw[hr]at this;cases this
   ·obtain ⟨h1,oj,P7,YC⟩:=mem_ready.1 hj
    have YD:j ∈ i::r:=Classical.byContradiction fun hx=>Ts h1 ((hl j (Array.getElem?_eq_some_iff.1 P7).1).2 hx)
    have hji:j=i:=by
     rcases List.mem_cons.1 YD with h2 | h2
     ·exact h2
     ·exact absurd (fN ic ops.size j i oj P7 YC (V2 j h2)) fun hx=>Ts hiu hx
    subst hji
    rw[Oe]at P7;cases P7
    unfold cm at hv
    rw[Oe]at hv
    simp only at hv
    refine ra Oe (hs.gd j o Oe) (vO h (hs.dN j o Oe) hv fun g' s' a' w' bh hk=> ?_)
    refine FQ hs hK r (k+1) _ _ g' s' a' w' hc.2 (by simpa using hsz) rfl (fun x hx=> ?_) (fun x hx=>hF x (by simp[hx])) (ic.set (by omega) Oe DC) (bh.mono fun n hn=>by omega) hk
    rw[Mq (by omega),hl x hx]
    constructor
    ·rintro (rfl | h2)
     ·exact hin
     ·exact fun h3=>h2 (by simp[h3])
    ·intro h2
     by_cases e:x=j
     ·exact .inl e
     ·exact .inr fun h3=>(List.mem_cons.1 h3).elim e h2
structure Qr (P:Program) [Tables P] (ops:Array Oper) (lo:Nat) (g:Where) (s:AS) (a:Act) (w:World) (i β:Nat):Prop where
 ex: ∃ o t d zl,ops[i]? =some o∧o.op= .alloc t∧o.dst=some d∧zeroOf P t=some zl∧a.tmps[d]? =some (.pointer (some ⟨β,0,none⟩))∧w.heap[β]? =some (.cells zl.toArray t (0,0))
 lo:lo≤β
 hi:β < w.heap.size
 no: ∀ t b,s.box t=some b→(g t).1≠β
theorem H9 {base:Nat} {K:AS→Prop} {F:List Nat} {βf:Nat→Nat}: ∀ (Z:List Nat) (k:Nat) (g:Where) (s:AS),Z.Nodup→(∀ i ∈ Z,Qr P ops w0.heap.size g s a w i (βf i))→(∀ i ∈ Z, ∀ j ∈ Z,i≠j→βf i≠βf j)→
   br W N w0 (fun n=>n < base+4*(k+1)) g s a w→cm P ops base K (Z++F) k s→ ∃ g' s',br W N w0 (fun n=>n < base+4*(k+Z.length+1)) g' s' a w∧cm P ops base K F (k+Z.length) s'
 | [],k,g,s,_,_,_,h,hv=>⟨g,s,h,hv⟩
 | i::r,k,g,s,hnd,hm,hi,h,hv=>by
  obtain ⟨⟨o,t,d,zl,ho,hop,hd,hz,Tt,hcell⟩,hlo,hhi,hno⟩:=hm i (by simp)
  rw[List.nodup_cons]at hnd
  simp only[List.cons_append,cm,ho]at hv
  have OZ:bH (iq P (base+4*(k+1)) t) (base+4*(k+1)) o.dst (cm P ops base K (r++F) (k+1)) s:=by
   obtain ⟨dst,op,type,pos,after,guard⟩:=o
   simp only at hop;subst hop
   exact hv
  unfold iq at OZ
  rw[hz]at OZ
  simp only at OZ
  split at OZ
  ·rename_i hall
   rw[hd]at OZ
   have bh:=h.Tr (nm:=base+4*(k+1)) (Nat.lt_irrefl _) hall (Fk hz) hlo hhi hcell hno Tt
   obtain ⟨g',s',h1,h2⟩:=H9 r (k+1) _ _ hnd.2 (fun j hj=>by
     obtain ⟨e1,e2,e3,e4⟩:=hm j (by simp[hj])
     refine ⟨e1,e2,e3,fun t' b hb=> ?_⟩
     have hne:=hi i (by simp) j (by simp[hj]) (fun e=>hnd.1 (e▸hj))
     have hb':upd s.box (base+4*(k+1)) (some (⟨true,zl.map Sum.inl⟩:aG)) t'=some b:=hb
     by_cases et:t'=base+4*(k+1)
     ·subst et;rw[aT];exact hne
     ·rw[aW _ _ _ _ et]at hb' ⊢;exact e4 t' b hb') (fun x hx y hy=>hi x (by simp[hx]) y (by simp[hy])) (bh.mono fun n hn=>by omega) OZ
   exact ⟨g',s',by rw[show k+(i::r).length=k+1+r.length by simp;omega];exact h1,by rw[show k+(i::r).length=k+1+r.length by simp;omega];exact h2⟩
  ·exact OZ.elim
theorem br.act (h:br W N w0 M g s a w) {a':Act} (h1:a'.tmps.size=N) (h2:a'.defers=[]) (h3: ∀ d:Nat,a'.tmps[d]? =a.tmps[d]?):br W N w0 M g s a' w:=
 ⟨h1,h2,fun d v hv=>(h3 d).trans (h.env d v hv),h.names,h.mem,h.own,h.frame,h.pin,h.tabs⟩
theorem br.O1 (h:br W N w0 M g s a w) {d:Nat} (hd:s.env d=none) (u:Value):br W N w0 M g s (a.put (some d) u) w:=by
 have:=h.Ap (d:=some d) u
 have e:s.put (some d) none=s:=by
  cases s
  simp only[AS.put,AS.mk.injEq,and_true]
  funext x
  simp only[upd]
  split
  ·rename_i e;subst e;exact hd.symm
  ·rfl
 rwa [e]at this
structure Inv (P:Program) [Tables P] (W1:Nat→Prop) (N:Nat) (w1:Base P) (ops:Array Oper) (base:Nat) (A R Z F:List Nat) (env:Nat→Option AV) (g0:Where) (pm:List Nat) (L:Array Bool) (done rem:List Nat) (g:Where) (sp:AS) (ap a:Act) (w:World) (βf:Nat→Nat):Prop where
 main:br W1 N w1 (fun n=>n < base+4*(done.length+1)) g sp ap w
 link: ∀ d:Nat,(∀ i ∈ A, ¬ L.getD i false=true→d ∉ fk ops i)→ap.tmps[d]? =a.tmps[d]?
 KT:a.tmps.size=N
 RB:a.defers=[]
 O2: ∀ d ∈ dstsOf ops A,sp.env d=env d
 O4: ∀ d ∈ dstsOf ops Z,sp.env d=none
 ro: ∀ d v,env d=some v→(∀ i ∈ A, ¬ L.getD i false=true→d ∉ fk ops i)→a.tmps[d]? =some (AV.ah g0 v)
 zs: ∀ i ∈ Z,L.getD i false=true→Qr P ops w1.heap.size g sp a w i (βf i)
 zi: ∀ i ∈ Z, ∀ j ∈ Z,L.getD i false=true→L.getD j false=true→i≠j→βf i≠βf j
 lD: ∀ i ∈ done,L.getD i false=true
 lR: ∀ i ∈ rem, ¬ L.getD i false=true
 lF: ∀ i ∈ F, ¬ L.getD i false=true
 ap: ∀ p ∈ pm, ∀ t b,sp.box t=some b→t≠p→(g t).1≠(g0 p).1
structure FR (P:Program) (ops:Array Oper) (A R Z F:List Nat):Prop where
 all: ∀ i,i < ops.size→i ∈ A∨i ∈ R∨i ∈ Z∨i ∈ F
 Tv: ∀ i ∈ A, ∃ o d,ops[i]? =some o∧isPure o.op=true∧o.dst=some d∧(∀ x ∈ o.looksAt ops,x ∉ dstsOf ops (R++Z))∧ ∀ j ∈ A, ∀ x ∈ fk ops j,x ∈ o.looksAt ops→waits ops ops.size i j=true
 dA: ∀ x ∈ dstsOf ops A,x ∉ dstsOf ops (R++Z++F)
 rA:Mj ops A=true
 jA: ∀ i ∈ A,i ∉ R++Z++F
 jR: ∀ i ∈ R,i ∉ Z++F
 jZ: ∀ i ∈ Z,i ∉ F
 Xn: ∀ i ∈ R, ∃ o,ops[i]? =some o∧mM o=true∧(∀ f xs tys,o.op= .call ⟨.value (.func f),xs,tys⟩→au P f=true)∧ ∀ j ∈ A, ∀ x ∈ fk ops j,x ∈ o.looksAt ops→waits ops ops.size i j=true
 cR:iF ops R=true
 dR: ∀ x ∈ dstsOf ops R,x ∉ dstsOf ops Z
 Xo: ∀ i ∈ Z, ∃ o t d,ops[i]? =some o∧o.op= .alloc t∧o.dst=some d
 dZ: ∀ i ∈ Z, ∀ j ∈ Z,i≠j→ ∀ x ∈ fk ops i,x ∉ fk ops j
 nZ:Z.Nodup
 zero: ∀ i ∈ Z, ∀ o t,ops[i]? =some o→o.op= .alloc t→ ∃ zl,zeroOf P t=some zl
 V3: ∀ i ∈ F,i < ops.size∧ ∀ j ∈ A++R++Z,waits ops ops.size i j=true
theorem JX {a ap:Act} {x:Operand} (h: ∀ t,x= .tmp t→ap.tmps[t]? =a.tmps[t]?):ap.eval x=a.eval x:=by
 cases x with
 | tmp t=>simp[Act.eval,Array.getD_eq_getD_getElem?,h t rfl]
 | const c=>rfl
 | global n=>rfl
 | func f=>rfl
theorem oQ {a:Act} {d:Nat} {u:Value} {x:Nat} (hd:d < a.tmps.size):(a.put (some d) u).tmps[x]? =if x=d then some u else a.tmps[x]? :=by
 simp only[Act.put]
 by_cases e:x=d
 ·subst e;rw[if_pos rfl,Array.getElem?_setIfInBounds_self_of_lt hd]
 ·rw[if_neg e,Array.getElem?_setIfInBounds_ne (fun x=>e x.symm)]
theorem iG {a:Act} {d:Option Nat} {u:Value}:(a.put d u).tmps.size=a.tmps.size:=by cases d<;>simp[Act.put]
theorem put_defers {a:Act} {d:Option Nat} {u:Value}:(a.put d u).defers=a.defers:=by cases d<;>rfl
theorem jB {i d:Nat} (ho:ops[i]? =some o) (hd:o.dst=some d):d ∈ fk ops i:=by rw[kN ho,hd];simp
theorem dst_eq {i d x:Nat} (ho:ops[i]? =some o) (hd:o.dst=some d) (hx:x ∈ fk ops i):x=d:=by rw[kN ho,hd]at hx;simpa using hx
theorem AW {i x:Nat} {l:List Nat} (hi:i ∈ l) (hx:x ∈ fk ops i):x ∈ dstsOf ops l:=by
 cases ho:ops[i]? with
 | none=>unfold fk at hx;rw[ho]at hx;simp at hx
 | some o=>
  rw[kN ho]at hx
  exact fm ho (by simpa using hx) hi
end
end Go.bM
