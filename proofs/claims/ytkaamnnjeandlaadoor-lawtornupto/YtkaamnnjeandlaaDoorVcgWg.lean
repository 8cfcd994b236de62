/-
  The calculus: a region by a plan serves every order: all together. Nothing here speaks of a program.
-/
import Derived.Test.YtkaamnnjeandlaaDoorVcgWf
namespace Go.bM
set_option linter.unusedSectionVars false
set_option linter.unusedSimpArgs false
set_option linter.unusedVariables false
section
variable {P:Program} [Tables P] {W:Nat→Prop} {N:Nat} {w0:Base P} {M:Nat→Prop} {g:Where} {s:AS} {a:Act} {w:World} {ops:Array Oper} {nm:Nat} {o:Oper}
theorem JY {l m:List Nat} (h:iF ops (l++m)=true):iF ops m=true:=by
 induction l with
 | nil=>exact h
 | cons i r ih=>simp only[List.cons_append,iF,Bool.and_eq_true]at h;exact ih h.2
def opened (ops:Array Oper) (A:List Nat) (L:Array Bool) (env:Nat→Option AV) (x:Nat):Option AV:=if A.all (fun j=>L.getD j false|| !(fk ops j).contains x)=true then env x else none
theorem FT {A:List Nat} {L:Array Bool} {env:Nat→Option AV} {x:Nat} (h: ∀ j ∈ A, ¬ L.getD j false=true→x ∉ fk ops j):opened ops A L env x=env x:=by
 unfold opened
 rw[if_pos (List.all_eq_true.2 fun j hj=>by
  by_cases hl:L.getD j false=true
  ·simp[hl]
  ·have:=h j hj hl
   simp[this])]
theorem oo {A:List Nat} {L:Array Bool} {env:Nat→Option AV} {x:Nat} {v:AV} (h:opened ops A L env x=some v):env x=some v∧ ∀ j ∈ A, ¬ L.getD j false=true→x ∉ fk ops j:=by
 unfold opened at h
 split at h
 ·rename_i hall
  refine ⟨h,fun j hj hl hx=> ?_⟩
  have:=List.all_eq_true.1 hall j hj
  simp only[Bool.or_eq_true,Bool.not_eq_true',List.contains_eq_mem,decide_eq_false_iff_not]at this
  rcases this with h1 | h1
  ·exact hl h1
  ·exact h1 hx
 ·cases h
theorem AX {α:Type} {x:α} {l m n:List α} (h:x ∈ l∨x ∈ m∨x ∈ n):x ∈ l++m++n:=by simp only[List.mem_append];rcases h with h | h | h<;>simp[h]
theorem FU {L:Array Bool} (hsz:L.size=ops.size) (h:df L ops.toList 0=[]) {i:Nat} (hi:i < ops.size):L.getD i false=true:=Classical.byContradiction fun hx=>by
 cases ho:ops[i]? with
 | none=>rw[Array.getElem?_eq_none_iff]at ho;omega
 | some o=>
  have:=om (Rz (by omega) hx) ho
  rw[h]at this;simp at this
theorem FV (hs:Static ops N) {L:Array Bool} (hsz:L.size=ops.size) (h:df L ops.toList 0≠[]):Region.ready .any ops L≠[]:=by
 cases mH:df L ops.toList 0 with
 | nil=>exact absurd mH h
 | cons p rest=>
  obtain ⟨i,o⟩:=p
  obtain ⟨_,h2,h3⟩:=gQ ops.toList 0 (i,o) (by rw[mH];simp)
  have ho:ops[i]? =some o:=by simpa using h3
  have hlt:i < ops.size:=(Array.getElem?_eq_some_iff.1 ho).1
  have:i ∈ Region.ready .any ops L:=mem_ready.2 ⟨h2,o,ho,fun e he hb=>by
   have hlt':=hs.lt i o ho e he hb
   exact mG hsz (by omega) (oJ ops.toList 0 mH e.on (Nat.zero_le _) hlt')⟩
  exact fun h=>by rw[h]at this;cases this
theorem AY {A R Z F:List Nat} {base:Nat} {Q:Exit→Act→World→Prop} {s0 sr:AS} {g0:Where} {a0:Act} {wS:World} {hl:Laid P wS} {pm:List Nat} {V:List Nat→Nat→AS→Prop} (hs:Static ops N) (hp:FR P ops A R Z F)
  (h0:br W N w0 (fun n=>n < base) g0 s0 a0 wS)
  (zm: ∀ i ∈ A, ∃ o d v,ops[i]? =some o∧o.dst=some d∧sr.env d=some v∧dS P base sr o.op=some (some v,none)∧AV.ok (fun n=>n < base) v) (RD:Names (fun n=>n < base) sr) (hsb:sr.box=fun t=>E5 (s0.box t))
  (Xp: ∀ d ∈ dstsOf ops (R++Z),sr.env d=none) (JZ: ∀ p ∈ pm,(g0 p).1 < wS.heap.size∧ ¬ kK g0 s0 (g0 p).1)
  (hV: ∀ i r k s o,V (i::r) k s→ops[i]? =some o→jI P (base+4*(k+1)) o (V r (k+1)) s)
  (hend: ∀ (fuel:Nat) (L:Array Bool) (done rem:List Nat) (g:Where) (sp:AS) (ap a:Act) (w:World) (βf:Nat→Nat),R=done++rem→L.size=ops.size→(df L ops.toList 0).length=fuel→Down ops L→
   Inv P (kK g0 s0) N ⟨wS,base,g0,hl⟩ ops base A R Z F sr.env g0 pm L done rem g sp ap a w βf→V rem done.length sp→(∀ i,i ∈ A∨i ∈ R∨i ∈ Z→L.getD i false=true)→wpAny P .any ops Q fuel L a w):
  ∀ (fuel:Nat) (L:Array Bool) (done rem:List Nat) (g:Where) (sp:AS) (ap a:Act) (w:World) (βf:Nat→Nat),R=done++rem→L.size=ops.size→(df L ops.toList 0).length=fuel→Down ops L→
   Inv P (kK g0 s0) N ⟨wS,base,g0,hl⟩ ops base A R Z F sr.env g0 pm L done rem g sp ap a w βf→V rem done.length sp→wpAny P .any ops Q fuel L a w:=by
 intro fuel
 induction fuel with
 | zero=>
  intro L done rem g sp ap a w βf hR hsz hf ic hI hv
  exact hend 0 L done rem g sp ap a w βf hR hsz hf ic hI hv (fun i hi=>by
   refine FU hsz (List.length_eq_zero_iff.1 hf) ?_
   rcases hi with h | h | h
   ·obtain ⟨o,d,ho,_⟩:=hp.Tv i h
    exact (Array.getElem?_eq_some_iff.1 ho).1
   ·obtain ⟨o,ho,_⟩:=hp.Xn i h
    exact (Array.getElem?_eq_some_iff.1 ho).1
   ·obtain ⟨o,t,d,ho,_⟩:=hp.Xo i h
    exact (Array.getElem?_eq_some_iff.1 ho).1)
 | succ fuel ih=>
  intro L done rem g sp ap a w βf hR hsz hf ic hI hv
  by_cases hall: ∀ i,i ∈ A∨i ∈ R∨i ∈ Z→L.getD i false=true
  ·exact hend _ L done rem g sp ap a w βf hR hsz hf ic hI hv hall
  refine ⟨fun hr=>absurd hr (FV hs hsz fun h=>by rw[h]at hf;simp at hf),fun i hi=> ?_⟩
  obtain ⟨hun,o,ho,DC⟩:=mem_ready.1 hi
  have RA:i < ops.size:=(Array.getElem?_eq_some_iff.1 ho).1
  have Vg:i < L.size:=by omega
  have Sz: ¬ L.getD i false=true:=fun h=>Ts hun h
  have hw: ∀ j,waits ops ops.size i j=true→L.getD j false=true:=fun j h=>fN ic ops.size i j o ho DC h
  have hfuel:(df (L.setIfInBounds i true) ops.toList 0).length=fuel:=by have:=om hun ho;omega
  have FW:=ic.set Vg ho DC
  have hsz':(L.setIfInBounds i true).size=ops.size:=by simpa using hsz
  have keep: ∀ j,L.getD j false=true→(L.setIfInBounds i true).getD j false=true:=fun j h=>(Mq Vg j).2 (.inr h)
  have back: ∀ j,j≠i→(L.setIfInBounds i true).getD j false=true→L.getD j false=true:=fun j hj h=>((Mq Vg j).1 h).resolve_left hj
  have Xq: ∀ j ∈ A, ∀ x,(∀ j ∈ A, ¬ (L.setIfInBounds i true).getD j false=true→x ∉ fk ops j)→x ∉ fk ops i→ ¬ L.getD j false=true→x ∉ fk ops j:=fun j hj x h1 h2 h3=>by
   by_cases e:j=i
   ·rw[e];exact h2
   ·exact h1 j hj fun h4=>h3 (back j e h4)
  rcases hp.all i RA with hA | KU | hZ | hF
  ·
   obtain ⟨o',d,v,ho',hd,SD,Lh,Mn⟩:=zm i hA
   rw[ho]at ho';cases ho'
   obtain ⟨o',d',ho',hpure,hd',Qq,FX⟩:=hp.Tv i hA
   rw[ho]at ho';cases ho'
   rw[hd]at hd';cases hd'
   have hop: ∀ x ∈ o.looksAt ops,opened ops A L sr.env x=sr.env x:=fun x hx=>FT fun j hj DE RE=>DE (hw j (FX j hj x RE hx))
   have hro:=AU h0 hI.main (env:=opened ops A L sr.env) hI.KT hI.RB (fun x u hu=>hI.ro x u (oo hu).1 (oo hu).2) (fun x u hu=>RD.env x u (oo hu).1) 0
   have VK:dS P base ⟨opened ops A L sr.env,fun t=>E5 (s0.box t),0⟩ o.op=some (some v,none):=by
    rw[← Lh]
    exact (H7 RD (fun x hx=>(hop x hx).symm) hsb).symm
   obtain ⟨g',w',r,hrun,hsame,bh,hval,_⟩:=fD (o:=o) hro (Nat.lt_irrefl base) VK
   have qV:Kept w w':=bh.frame
   have Tw:AV.ah g' v=AV.ah g0 v:=AV.aZ (AV.aI (fun n hn=>hsame n hn) Mn)
   have Mp:d < N:=hs.dN i o ho d hd
   refine ra ho (hs.gd i o ho) ?_
   unfold Oper.wp
   rw[hrun,hval]
   simp only[Oper.upon]
   rw[hd,Tw]
   have Qs:=fun x=>oQ (a:=a) (u:=AV.ah g0 v) (x:=x) (d:=d) (by rw[hI.KT];exact Mp)
   have hap:ap.tmps[d]? =some (AV.ah g0 v):=by
    have h1:=hI.main.env d v (by rw[hI.O2 d (fm ho hd hA)];exact SD)
    rw[h1]
    exact congrArg some (AV.aZ (AV.aI (fun n hn=>(hI.main.pin n hn).2) Mn))
   refine ih _ done rem g sp ap _ w' βf hR hsz' hfuel FW ⟨hI.main.kept qV,fun x hx=> ?_,by rw[iG];exact hI.KT,by rw[put_defers];exact hI.RB,hI.O2,hI.O4,fun x u hu hx=> ?_,fun j hj DE=> ?_,fun j hj k hk h1 h2=> ?_,fun j hj=>keep j (hI.lD j hj),fun j hj h=> ?_,fun j hj h=> ?_,hI.ap⟩ hv
   ·rw[Qs]
    split
    ·rename_i e;subst e;exact hap
    ·rename_i e
     exact hI.link x fun j hj=>Xq j hj x hx fun h=>e (dst_eq ho hd h)
   ·rw[Qs]
    split
    ·rename_i e;subst e;rw[SD]at hu;cases hu;rfl
    ·rename_i e
     exact hI.ro x u hu fun j hj=>Xq j hj x hx fun h=>e (dst_eq ho hd h)
   ·have hji:j≠i:=fun e=>hp.jA i hA (AX (.inr (.inl (e▸hj))))
    obtain ⟨⟨oj,t,dj,zl,k1,k2,k3,k4,k5,k6⟩,k7,k8,k9⟩:=hI.zs j hj (back j hji DE)
    have P4:dj≠d:=fun e=>hp.dA d (fm ho hd hA) (by rw[c9,c9];exact List.mem_append_left _ (List.mem_append_right _ (e▸fm k1 k3 hj)))
    exact ⟨⟨oj,t,dj,zl,k1,k2,k3,k4,by rw[Qs,if_neg P4];exact k5,by rw[qV.heap k8];exact k6⟩,k7,Nat.lt_of_lt_of_le k8 qV.size,k9⟩
   ·have e1:j≠i:=fun e=>hp.jA i hA (AX (.inr (.inl (e▸hj))))
    have e2:k≠i:=fun e=>hp.jA i hA (AX (.inr (.inl (e▸hk))))
    exact hI.zi j hj k hk (back j e1 h1) (back k e2 h2)
   ·have e1:j≠i:=fun e=>hp.jA i hA (AX (.inl (by rw[hR, ← e];simp[hj])))
    exact hI.lR j hj (back j e1 h)
   ·have e1:j≠i:=fun e=>hp.jA i hA (AX (.inr (.inr (e▸hj))))
    exact hI.lF j hj (back j e1 h)
  ·
   have hnd:i ∉ done:=fun h=>Sz (hI.lD i h)
   have Qt:i ∈ rem:=by rw[hR]at KU;exact (List.mem_append.1 KU).resolve_left hnd
   cases rem with
   | nil=>cases Qt
   | cons r0 rest=>
    have hc:=JY (hR▸hp.cR:iF ops (done++r0::rest)=true)
    simp only[iF,Bool.and_eq_true]at hc
    have hi0:i=r0:=by
     rcases List.mem_cons.1 Qt with h | h
     ·exact h
     ·exact absurd (hw r0 (List.all_eq_true.1 hc.1 i h)) (hI.lR r0 (by simp))
    subst hi0
    obtain ⟨o',ho',hop,vU,FX⟩:=hp.Xn i KU
    rw[ho]at ho';cases ho'
    replace hv:=hV _ _ _ _ _ hv ho
    ·have hx1: ∀ x ∈ o.op.operands,a.eval x=ap.eval x:=fun x hx=>(JX fun t ht=>hI.link t fun j hj DE RE=>DE (hw j (FX j hj t RE (jy hx ht)))).symm
     refine ra ho (hs.gd i _ ho) ?_
     refine Ml hop vU hv hI.main hx1 fun v g' bx w' hok bh hkeep hnew hk=> ?_
     obtain ⟨dst,op,type,pos,after,guard⟩:=o
     simp only
     have Mp: ∀ x,dst=some x→x < N:=fun x hx=>hs.dN i _ ho x hx
     have o5: ∀ (b:Act) (x:Nat),b.tmps.size=N→(b.put dst (AV.ah g' v)).tmps[x]? =if dst=some x then some (AV.ah g' v) else b.tmps[x]? :=fun b x hb=>by
      cases dst with
      | none=>simp[Act.put]
      | some d=>
       rw[oQ (by rw[hb];exact Mp d rfl)]
       by_cases e:x=d
       ·subst e;simp
       ·rw[if_neg e,if_neg (fun h=>e (Option.some.inj h).symm)]
     have jW: ∀ x,dst≠some x→(({ sp with box:=bx }:AS).put dst (some v)).env x=sp.env x:=fun x hx=>by
      cases dst with
      | none=>rfl
      | some d=>exact aW _ _ _ _ fun e=>hx (by rw[e])
     have hnd: ∀ x,x ∈ dstsOf ops A→dst≠some x:=fun x hx e=>hp.dA x hx (by rw[c9,c9];exact List.mem_append_left _ (List.mem_append_left _ (fm ho e KU)))
     have Tx: ∀ x,x ∈ dstsOf ops Z→dst≠some x:=fun x hx e=>hp.dR x (fm ho e KU) hx
     have hlen:(done++[i]).length=done.length+1:=by simp
     refine ih _ (done++[i]) rest g' _ _ _ w' βf (by rw[hR];simp) hsz' hfuel FW ⟨(bh.put Mp hok).mono (fun n hn=>by rw[hlen];omega),fun x hx=> ?_,by rw[iG];exact hI.KT,by rw[put_defers];exact hI.RB,fun x hx=> ?_,fun x hx=> ?_,fun x u hu hx=> ?_,fun j hj DE=> ?_,fun j hj k hk h1 h2=> ?_,fun j hj=> ?_,fun j hj h=> ?_,fun j hj h=> ?_,fun p U5 t b hb hne=> ?_⟩ (by rw[hlen];exact hk)
     ·rw[o5 ap x hI.main.size,o5 a x hI.KT]
      split
      ·rfl
      ·exact hI.link x fun j hj DE=>hx j hj fun h=>DE (back j (fun e=>hp.jA j hj (AX (.inl (e▸KU)))) h)
     ·rw[jW x (hnd x hx)];exact hI.O2 x hx
     ·rw[jW x (Tx x hx)];exact hI.O4 x hx
     ·rw[o5 a x hI.KT]
      split
      ·rename_i e
       have:=Xp x (by rw[c9];exact List.mem_append_left _ (fm ho e KU))
       rw[this]at hu;cases hu
      ·exact hI.ro x u hu fun j hj DE=>hx j hj fun h=>DE (back j (fun e=>hp.jA j hj (AX (.inl (e▸KU)))) h)
     ·have hji:j≠i:=fun e=>hp.jR i KU (by simp[← e,hj])
      obtain ⟨⟨oj,t,dj,zl,k1,k2,k3,k4,k5,k6⟩,k7,k8,k9⟩:=hI.zs j hj (back j hji DE)
      obtain ⟨m1,m2⟩:=hkeep _ k8 k9
      have V4:βf j < w'.heap.size:=by
       have:w'.heap[βf j]? =some (.cells zl.toArray t (0,0)):=m1.trans k6
       exact (Array.getElem?_eq_some_iff.1 this).1
      refine ⟨⟨oj,t,dj,zl,k1,k2,k3,k4, ?_,m1.trans k6⟩,k7,V4,fun t' b hb=> ?_⟩
      ·rw[o5 a dj hI.KT,if_neg (Tx dj (fm k1 k3 hj))];exact k5
      ·refine m2 t' b ?_
       cases dst<;>exact hb
     ·have e1:j≠i:=fun e=>hp.jR i KU (by simp[← e,hj])
      have e2:k≠i:=fun e=>hp.jR i KU (by simp[← e,hk])
      exact hI.zi j hj k hk (back j e1 h1) (back k e2 h2)
     ·rcases List.mem_append.1 hj with h | h
      ·exact keep j (hI.lD j h)
      ·rw[List.mem_singleton.1 h];exact (Mq Vg i).2 (.inl rfl)
     ·by_cases e:j=i
      ·subst e
       have:=q9 hs.lt _ _ _ (List.all_eq_true.1 hc.1 j hj)
       omega
      ·exact hI.lR j (by simp[hj]) (back j e h)
     ·have e1:j≠i:=fun e=>hp.jR i KU (by simp[← e,hj])
      exact hI.lF j hj (back j e1 h)
     ·have hb':bx t=some b:=by cases dst<;>exact hb
      obtain ⟨Z7,VX⟩:=JZ p U5
      rcases hnew t b hb' with hrw | ⟨b0,hb0,e⟩
      ·rcases bh.own t b hb' hrw with h1 | h1
       ·have h1':wS.heap.size≤(g' t).1:=h1
        omega
       ·exact fun e=>VX (e▸h1)
      ·rw[e];exact hI.ap p U5 t b0 hb0 hne
  ·
   obtain ⟨o',t,d,ho',hop,hd⟩:=hp.Xo i hZ
   rw[ho]at ho';cases ho'
   obtain ⟨zl,hz⟩:=hp.zero i hZ o t ho hop
   have Mp:d < N:=hs.dN i o ho d hd
   refine ra ho (hs.gd i o ho) ?_
   unfold Oper.wp
   rw[JW hz hop]
   simp only[Oper.upon]
   rw[hd]
   have hk:=FP w (.cells zl.toArray t)
   have Qs:=fun x=>oQ (a:=a) (u:=Value.pointer (some ⟨w.heap.size,0,none⟩)) (x:=x) (d:=d) (by rw[hI.KT];exact Mp)
   have Xr:=fun x=>oQ (a:=ap) (u:=Value.pointer (some ⟨w.heap.size,0,none⟩)) (x:=x) (d:=d) (by rw[hI.main.size];exact Mp)
   have Z8: ∀ j ∈ A,d ∉ fk ops j:=fun j hj h=>hp.dA d (AW hj h) (by rw[c9,c9];exact List.mem_append_left _ (List.mem_append_right _ (fm ho hd hZ)))
   have Xs: ∀ j ∈ A,j≠i:=fun j hj e=>hp.jA j hj (AX (.inr (.inl (e▸hZ))))
   refine ih _ done rem g sp (ap.put (some d) (Value.pointer (some ⟨w.heap.size,0,none⟩))) _ _ (fun j=>if j=i then w.heap.size else βf j) hR hsz' hfuel FW ⟨(hI.main.O1 (hI.O4 d (fm ho hd hZ)) _).kept hk,fun x hx=> ?_,by rw[iG];exact hI.KT,by rw[put_defers];exact hI.RB,hI.O2,hI.O4,fun x u hu hx=> ?_,fun j hj DE=> ?_,fun j hj k hk' h1 h2 hne=> ?_,fun j hj=>keep j (hI.lD j hj),fun j hj h=> ?_,fun j hj h=> ?_,hI.ap⟩ hv
   ·rw[Qs,Xr]
    split
    ·rfl
    ·exact hI.link x fun j hj DE=>hx j hj fun h=>DE (back j (Xs j hj) h)
   ·rw[Qs]
    split
    ·rename_i e;subst e
     have:=Xp x (by rw[c9];exact List.mem_append_right _ (fm ho hd hZ))
     rw[this]at hu;cases hu
    ·exact hI.ro x u hu fun j hj DE=>hx j hj fun h=>DE (back j (Xs j hj) h)
   ·by_cases e:j=i
    ·subst e
     simp only[if_true]
     refine ⟨⟨o,t,d,zl,ho,hop,hd,hz,by rw[Qs,if_pos rfl], ?_⟩,hI.main.frame.size, ?_,fun t' b hb e=> ?_⟩
     ·show (w.heap.push _)[w.heap.size]? =_
      simp
     ·show w.heap.size < (w.heap.push _).size
      simp
     ·have:=hI.main.mem.lt t' b hb;omega
    ·simp only[if_neg e]
     obtain ⟨⟨oj,t',dj,YE,k1,k2,k3,k4,k5,k6⟩,k7,k8,k9⟩:=hI.zs j hj (back j e DE)
     have P4:dj≠d:=fun e2=>hp.dZ j hj i hZ e dj (jB k1 k3) (e2▸jB ho hd)
     exact ⟨⟨oj,t',dj,YE,k1,k2,k3,k4,by rw[Qs,if_neg P4];exact k5,by rw[hk.heap k8];exact k6⟩,k7,Nat.lt_of_lt_of_le k8 hk.size,k9⟩
   ·by_cases e1:j=i
    ·have e2:k≠i:=fun e=>hne (e1.trans e.symm)
     simp only[if_pos e1,if_neg e2]
     have:=(hI.zs k hk' (back k e2 h2)).hi
     omega
    ·simp only[if_neg e1]
     by_cases e2:k=i
     ·simp only[if_pos e2]
      have:=(hI.zs j hj (back j e1 h1)).hi
      omega
     ·simp only[if_neg e2]
      exact hI.zi j hj k hk' (back j e1 h1) (back k e2 h2) hne
   ·have e1:j≠i:=fun e=>hp.jR j (by rw[hR];simp[hj]) (by simp[e,hZ])
    exact hI.lR j hj (back j e1 h)
   ·have e1:j≠i:=fun e=>hp.jZ i hZ (e▸hj)
    exact hI.lF j hj (back j e1 h)
  ·
   refine absurd (fun j hj=> ?_) hall
   refine hw j ((hp.V3 i hF).2 j ?_)
   exact AX hj
theorem Mr {A R Z F:List Nat} {base:Nat} {K:AS→Prop} {Q:Exit→Act→World→Prop} {W1:Nat→Prop} {w1:Base P} {env:Nat→Option AV} {g0:Where} {pm:List Nat} (hs:Static ops N) (hp:FR P ops A R Z F)
   (hK: ∀ g' s' a' w',br W1 N w1 (fun n=>n < s'.next) g' s' a' w'→K s'→Q .normal a' w')
   (fuel:Nat) (L:Array Bool) (done rem:List Nat) (g:Where) (sp:AS) (ap a:Act) (w:World) (βf:Nat→Nat) (hR:R=done++rem) (hsz:L.size=ops.size) (hf:(df L ops.toList 0).length=fuel) (ic:Down ops L)
   (hI:Inv P W1 N w1 ops base A R Z F env g0 pm L done rem g sp ap a w βf) (hv:cm P ops base K (rem++(Z++F)) done.length sp)
   (hall: ∀ i,i ∈ A∨i ∈ R∨i ∈ Z→L.getD i false=true) (Tz:iF ops F=true):wpAny P .any ops Q fuel L a w:=by
  have mH:rem=[]:=by
   cases rem with
   | nil=>rfl
   | cons r rest=>exact absurd (hall r (.inr (.inl (by rw[hR];simp)))) (hI.lR r (by simp))
  subst mH
  have bh:=hI.main.act hI.KT hI.RB fun d=>(hI.link d fun i hi hn=>absurd (hall i (.inl hi)) hn).symm
  obtain ⟨g',s',h1,h2⟩:=H9 (w0:=w1) Z done.length g sp hp.nZ (fun i hi=>hI.zs i hi (hall i (.inr (.inr hi)))) (fun i hi j hj=>hI.zi i hi j hj (hall i (.inr (.inr hi))) (hall j (.inr (.inr hj)))) bh hv
  refine FQ hs hK F (done.length+Z.length) fuel L g' s' a w Tz hsz hf (fun i hi=> ?_) (fun i hi=>(hp.V3 i hi).1) ic h1 h2
  constructor
  ·exact fun h hF=>hI.lF i hF h
  ·intro hF
   rcases hp.all i hi with h | h | h | h
   ·exact hall i (.inl h)
   ·exact hall i (.inr (.inl h))
   ·exact hall i (.inr (.inr h))
   ·exact absurd h hF
def iH (P:Program) (ops:Array Oper) (i:Nat):Bool:=match ops[i]? with
 | some o=>(match o.op with
  | .call ⟨.value (.func f),_,_⟩=>au P f
  | .alloc t=>(zeroOf P t).isSome
  | _=>mM o)
 | none=>false
theorem oR {i:Nat} {p:Oper→Bool} (h:JV ops i p=true): ∃ o,ops[i]? =some o∧p o=true:=by
 unfold JV at h
 split at h
 ·rename_i o ho;exact ⟨o,ho,h⟩
 ·cases h
theorem j7 {l m:List Nat} (h:hU l m=true): ∀ x ∈ l,x ∉ m:=fun x hx=>FM h hx
theorem DF {i j:Nat} {l:List Nat} (h:(hU (fk ops j) l||waits ops ops.size i j)=true): ∀ x ∈ fk ops j,x ∈ l→waits ops ops.size i j=true:=fun x hx hl=>by
 rcases Bool.or_eq_true_iff.1 h with h | h
 ·exact absurd hl (j7 h x hx)
 ·exact h
theorem zC: ∀ {Z:List Nat},jr.OV ops Z=true→Z.Nodup∧ ∀ i ∈ Z, ∀ j ∈ Z,i≠j→ ∀ x ∈ fk ops i,x ∉ fk ops j
 | [],_=>⟨List.nodup_nil,fun i hi=>nomatch hi⟩
 | k::r,h=>by
  unfold jr.OV at h
  simp only[Bool.and_eq_true,Bool.not_eq_true',List.contains_eq_mem,decide_eq_false_iff_not]at h
  obtain ⟨⟨h1,h2⟩,h3⟩:=h
  obtain ⟨k1,k2⟩:=zC h3
  refine ⟨List.nodup_cons.2 ⟨h2,k1⟩,fun i hi j hj hne x hx=> ?_⟩
  rcases List.mem_cons.1 hi with h4 | h4<;>rcases List.mem_cons.1 hj with h5 | h5
  ·exact absurd (h4.trans h5.symm) hne
  ·subst h4;exact fun RE=>j7 h1 x hx (AW h5 RE)
  ·subst h5;exact fun RE=>j7 h1 x RE (AW h4 hx)
  ·exact k2 i h4 j h5 hne x hx
theorem oq {A R Z F:List Nat} (hok:ops.toList.all (lO N)=true) (h:jr ops A R Z F=true) (hc:(R++Z).all (iH P ops)=true):Static ops N∧FR P ops A R Z F:=by
 unfold jr at h
 simp only[Bool.and_eq_true,List.all_eq_true]at h
 obtain ⟨⟨⟨⟨⟨⟨⟨⟨⟨⟨⟨⟨⟨⟨h1,h2⟩,h3⟩,h4⟩,h5⟩,h6⟩,h7⟩,h8⟩,h9⟩,h10⟩,h11⟩,h12⟩,V5⟩,V6⟩,YF⟩:=h
 have iw: ∀ i ∈ R++Z,iH P ops i=true:=List.all_eq_true.1 hc
 obtain ⟨hnz,YG⟩:=zC h12
 have hst: ∀ (i:Nat) o,ops[i]? =some o→o.guard=none∧ ∀ e ∈ o.after,Region.binds .any e=true→e.on < i:=fun i o ho=>by
  obtain ⟨o',ho',hp⟩:=oR (h2 i (List.mem_range.2 (Array.getElem?_eq_some_iff.1 ho).1))
  rw[ho]at ho';cases ho'
  simp only[Bool.and_eq_true,Option.isNone_iff_eq_none,List.all_eq_true,Bool.or_eq_true,Bool.not_eq_true',decide_eq_true_eq]at hp
  exact ⟨hp.1,fun e he hb=>(hp.2 e (by simpa using he)).resolve_left (by rw[hb];simp)⟩
 refine ⟨⟨fun i o ho=>(hst i o ho).2,fun i o ho=>(hst i o ho).1,fun i o ho d hd=> ?_⟩,⟨fun i hi=> ?_,fun i hi=> ?_,j7 h5,h4,j7 h6,j7 h7,j7 h8,fun i hi=> ?_,h10,j7 h11,fun i hi=> ?_,YG,hnz,fun i hi o t ho hop=> ?_,fun i hi=> ?_⟩⟩
 ·have:=List.all_eq_true.1 hok o (by simpa using Array.mem_of_getElem? ho)
  unfold lO at this;rw[hd]at this;simpa using this
 ·have:=h1 i (List.mem_range.2 hi)
  simp only[Bool.or_eq_true,List.contains_eq_mem,decide_eq_true_eq]at this
  rcases this with ((h | h) | h) | h
  ·exact .inl h
  ·exact .inr (.inl h)
  ·exact .inr (.inr (.inl h))
  ·exact .inr (.inr (.inr h))
 ·obtain ⟨o,ho,hp⟩:=oR (h3 i hi)
  simp only[Bool.and_eq_true,List.all_eq_true]at hp
  obtain ⟨⟨⟨⟨p1,p2⟩,p3⟩,p4⟩,p5⟩:=hp
  obtain ⟨d,hd⟩:=Option.isSome_iff_exists.1 p2
  exact ⟨o,d,ho,p1,hd,j7 p4,fun j hj=>DF (p5 j hj)⟩
 ·obtain ⟨o,ho,hp⟩:=oR (h9 i hi)
  simp only[Bool.and_eq_true,List.all_eq_true]at hp
  obtain ⟨⟨p1,p2⟩,p3⟩:=hp
  have O5:=iw i (List.mem_append_left _ hi)
  unfold iH at O5
  rw[ho]at O5
  exact ⟨o,ho,p1,fun f xs tys e=>by simp only[e]at O5;exact O5,fun j hj=>DF (p3 j hj)⟩
 ·obtain ⟨o,ho,hp⟩:=oR (V5 i hi)
  simp only[Bool.and_eq_true]at hp
  obtain ⟨p1,p2⟩:=hp
  obtain ⟨d,hd⟩:=Option.isSome_iff_exists.1 p2
  unfold zy at p1
  split at p1
  ·rename_i t e
   exact ⟨o,t,d,ho,e,hd⟩
  ·cases p1
 ·have O5:=iw i (List.mem_append_right _ hi)
  unfold iH at O5
  rw[ho]at O5
  simp only[hop]at O5
  exact Option.isSome_iff_exists.1 O5
 ·have hw:=V6 i hi
  exact ⟨by simpa using YF i hi,fun j hj=>hw j hj⟩
theorem br.restore {M0:Nat→Prop} {g0:Where} {s0:AS} {a0:Act} {wS:World} {pm:List Nat} (hr:br W N w0 M g s a w) (h:br W N w0 M0 g0 s0 a0 wS) (hg: ∀ n,M0 n→M n∧g n=g0 n) (hb: ∀ p ∈ pm, ∃ cs,s0.box p=some ⟨true,cs⟩)
  (hk: ∀ p ∈ pm,w.heap[(g0 p).1]? =wS.heap[(g0 p).1]?) (hsz:wS.heap.size≤w.heap.size) (hap: ∀ p ∈ pm, ∀ t b,s.box t=some b→t≠p→(g t).1≠(g0 p).1):br W N w0 M g { s with box:=E6 pm s0.box s.box } a w:=by
 have key: ∀ {t b},E6 pm s0.box s.box t=some b→(t ∈ pm∧s0.box t=some b∧g t=g0 t∧M t)∨(t ∉ pm∧s.box t=some b):=fun {t b} h1=>by
  unfold E6 at h1
  split at h1
  ·rename_i ht
   exact .inl ⟨by simpa using ht,h1,(hg t (h.names.box t b h1).1).2,(hg t (h.names.box t b h1).1).1⟩
  ·rename_i ht
   exact .inr ⟨by simpa using ht,h1⟩
 refine ⟨hr.size,hr.defers,hr.env,⟨hr.names.env,fun t b h1=> ?_⟩,⟨fun t b h1=> ?_,fun t b h1 i v hv=> ?_,fun t b h1 hrw i hi=> ?_,fun t t' b b' h1 hrw h1' hne=> ?_⟩,fun t b h1 hrw=> ?_,hr.frame,hr.pin,hr.tabs⟩
 ·rcases key h1 with ⟨_,h2,_,h4⟩ | ⟨_,h2⟩
  ·exact ⟨h4,fun x hx=>SV.aI (fun n hn=>(hg n hn).1) ((h.names.box t b h2).2 x hx)⟩
  ·exact hr.names.box t b h2
 ·rcases key h1 with ⟨_,h2,h3,_⟩ | ⟨_,h2⟩
  ·rw[h3];exact Nat.lt_of_lt_of_le (h.mem.lt t b h2) hsz
  ·exact hr.mem.lt t b h2
 ·rcases key h1 with ⟨hp,h2,h3,_⟩ | ⟨_,h2⟩
  ·rw[h3]
   have e:=h.mem.cell t b h2 i v hv
   have e2:w.cell? ⟨(g0 t).1,(g0 t).2+i,none⟩=wS.cell? ⟨(g0 t).1,(g0 t).2+i,none⟩:=by
    unfold World.cell?;simp only[hk t hp]
   rw[e2,e]
   exact congrArg some (SV.aZ (SV.aY (fun n hn=>(hg n hn).2.symm) ((h.names.box t b h2).2 v (List.mem_of_getElem? hv)).1))
  ·exact hr.mem.cell t b h2 i v hv
 ·rcases key h1 with ⟨hp,h2,h3,_⟩ | ⟨_,h2⟩
  ·rw[h3]
   have e2:bN w ⟨(g0 t).1,(g0 t).2+i,none⟩=bN wS ⟨(g0 t).1,(g0 t).2+i,none⟩:=by
    unfold bN;simp only[hk t hp]
   rw[e2];exact h.mem.free t b h2 hrw i hi
  ·exact hr.mem.free t b h2 hrw i hi
 ·rcases key h1 with ⟨hp,h2,h3,_⟩ | ⟨hp,h2⟩<;>rcases key h1' with ⟨hp',h2',h3',_⟩ | ⟨hp',h2'⟩
  ·rw[h3,h3'];exact h.mem.sep t t' b b' h2 hrw h2' hne
  ·rw[h3];exact fun e=>hap t hp t' b' h2' (fun e2=>hne e2.symm) e.symm
  ·rw[h3'];exact hap t' hp' t b h2 hne
  ·exact hr.mem.sep t t' b b' h2 hrw h2' hne
 ·rcases key h1 with ⟨_,h2,h3,_⟩ | ⟨_,h2⟩
  ·rw[h3];exact h.own t b h2 hrw
  ·exact hr.own t b h2 hrw
theorem vV {A R Z F dm:List Nat} {K:AS→Prop} {Q:Exit→Act→World→Prop} (hok:ops.toList.all (lO N)=true) (hp:kJ ops A R Z F=true) (hc:(R++Z).all (iH P ops)=true)
  (hK: ∀ g' s' a' w',br W N w0 (fun n=>n < s'.next) g' s' a' w'→K s'→Q .normal a' w') (h:br W N w0 (fun n=>n < s.next) g s a w) (hv:Mk P ops A R Z F dm K s):
  wpAny P .any ops Q ops.size (Array.replicate ops.size false) a w:=by
 have Tz:iF ops F=true:=by unfold kJ at hp;simp only[Bool.and_eq_true]at hp;exact hp.2
 have hp:jr ops A R Z F=true:=by unfold kJ at hp;simp only[Bool.and_eq_true]at hp;exact hp.1
 obtain ⟨H,hH,hv⟩:=hv
 obtain ⟨hs,lx⟩:=oq (P:=P) hok hp hc
 have h0:=h.FN dm
 have hb:=h0.kL (pn:=s.next) fun n hn=>hn
 have hro:=AU h0 hb (env:=vN H s.env) (a':=a) h.size h.defers (fun d v hd=>by
  unfold vN at hd;split at hd
  ·cases hd
  ·exact h.env d v hd) (fun d v hd=>by
  unfold vN at hd;split at hd
  ·cases hd
  ·exact h.names.env d v hd) s.next
 obtain ⟨sr,ar,hk,uj,uk,bh,hoff,zm⟩:=oO (M:=fun n=>n < s.next) (nm:=s.next) (Nat.lt_irrefl _) (fun h:s.next+1 < s.next=>by omega) hok (fun i hi=>by
  obtain ⟨o,d,h1,h2,h3,_⟩:=lx.Tv i hi
  exact ⟨o,h1,h2,d,h3⟩) lx.rA hro hv
 have hlen:(df (Array.replicate ops.size false) ops.toList 0).length=ops.size:=by
  have key: ∀ (l:List Oper) (k n:Nat),k+l.length≤n→(df (Array.replicate n false) l k).length=l.length:=by
   intro l
   induction l with
   | nil=>intro k n _;rfl
   | cons o r ih=>
    intro k n hk
    simp only[List.length_cons]at hk
    have:(Array.replicate n false).getD k true=false:=by
     simp[Array.getD_eq_getD_getElem?,show k < n by omega]
    simp only[df,this,Bool.false_eq_true,if_false,List.length_cons]
    rw[ih (k+1) n (by omega)]
  rw[key _ _ _ (by simp)];simp
 have hfalse: ∀ i, ¬ (Array.replicate ops.size false).getD i false=true:=fun i hi=>by
  simp only[Array.getD_eq_getD_getElem?,Array.getElem?_replicate]at hi
  by_cases hlt:i < ops.size<;>simp[hlt]at hi
 have hnone: ∀ d,d ∈ dstsOf ops (R++Z)→sr.env d=none:=fun d hd=>by
  have hA:d ∉ dstsOf ops A:=fun h=>lx.dA d h (by rw[c9];exact List.mem_append_left _ hd)
  rw[(hoff d hA).1]
  show vN _ _ d=none
  unfold vN
  rw[if_pos]
  simp only[List.contains_eq_mem,decide_eq_true_eq]
  refine hH d ?_
  rw[show A++R++Z=A++(R++Z) by simp,c9]
  exact List.mem_append_right _ hd
 have iR:sr.box=fun t=>E5 (({ s with box:=kI dm s.box }:AS).box t):=uj
 refine AY (hl:=h0.laid) (s0:={ s with box:=kI dm s.box }) (sr:=sr) (base:=s.next) (pm:=[]) (V:=fun l k s'=>cm P ops s.next K (l++(Z++F)) k s') hs lx h0 zm bh.names iR hnone (fun p hp=>nomatch hp) (fun i r k s' o hv ho=>by simp only[List.cons_append,cm,ho]at hv;exact hv)
  (fun fuel L done rem g sp ap a w βf hR hsz hf hd hI hv hall=>Mr hs lx (fun g' s' a' w' hr hk'=>hK g' s' a' w' (h0.kM (pn:=s.next) (fun n hn=>hn) hr) hk') fuel L done rem g sp ap a w βf hR hsz hf hd hI hv hall Tz) ops.size _ [] R g ⟨sr.env,kI dm s.box,s.next⟩ ar a w (fun _=>0) rfl (by simp) hlen
  (fun i o ho hi=>absurd hi (hfalse i)) ⟨?_,fun d hd=> ?_,h.size,h.defers,fun d hd=>rfl,fun d hd=> ?_,fun d v hd hx=> ?_,fun i hi hl=>absurd hl (hfalse i),fun i hi j hj hl=>absurd hl (hfalse i),(fun i hi=>nomatch hi),fun i hi=>hfalse i,fun i hi=>hfalse i,fun p hp=>nomatch hp⟩ (by simpa using hk)
 ·refine br.mono (M:=fun n=>n < s.next) (fun n hn=>by simp;omega) ⟨bh.size,bh.defers,bh.env,⟨bh.names.env,h0.names.box⟩,⟨h0.mem.lt,h0.mem.cell,h0.mem.free,h0.mem.sep⟩,hb.own,hb.frame,hb.pin,hb.tabs⟩
 ·refine (hoff d fun Ms=> ?_).2
  obtain ⟨i,hi,o,ho,Mt⟩:=kO Ms
  exact hd i hi (hfalse i) (jB ho Mt)
 ·exact hnone d (by rw[c9];exact List.mem_append_right _ hd)
 ·have hA:d ∉ dstsOf ops A:=fun Ms=>by
   obtain ⟨i,hi,o,ho,Mt⟩:=kO Ms
   exact hx i hi (hfalse i) (jB ho Mt)
  rw[← (hoff d hA).2]
  exact bh.env d v hd
theorem tA {A R Z F dm pm:List Nat} {K:AS→Prop} {Q:Exit→Act→World→Prop} (hok:ops.toList.all (lO N)=true) (hp:kJ ops A R Z F=true) (hc:(R++Z).all (iH P ops)=true)
  (hK: ∀ g' s' a' w',br W N w0 (fun n=>n < s'.next) g' s' a' w'→K s'→Q .normal a' w') (h:br W N w0 (fun n=>n < s.next) g s a w) (hv:H5 P ops A R Z F dm pm K s):
  wpAny P .any ops Q ops.size (Array.replicate ops.size false) a w:=by
 have Tz:iF ops F=true:=by unfold kJ at hp;simp only[Bool.and_eq_true]at hp;exact hp.2
 have hp:jr ops A R Z F=true:=by unfold kJ at hp;simp only[Bool.and_eq_true]at hp;exact hp.1
 obtain ⟨hs,lx⟩:=oq (P:=P) hok hp hc
 obtain ⟨J0,hv⟩:=hv
 have h0:=h.FN dm
 have hb:=h0.kL (pn:=s.next) fun n hn=>hn
 have hro:=AU h0 hb (env:=vN (dstsOf ops (A++R++Z++F)) s.env) (a':=a) h.size h.defers (fun d v hd=>by
  unfold vN at hd;split at hd
  ·cases hd
  ·exact h.env d v hd) (fun d v hd=>by
  unfold vN at hd;split at hd
  ·cases hd
  ·exact h.names.env d v hd) s.next
 obtain ⟨sr,ar,hk,uj,uk,bh,hoff,zm⟩:=oO (M:=fun n=>n < s.next) (nm:=s.next) (Nat.lt_irrefl _) (fun h:s.next+1 < s.next=>by omega) hok (fun i hi=>by
  obtain ⟨o,d,h1,h2,h3,_⟩:=lx.Tv i hi
  exact ⟨o,h1,h2,d,h3⟩) lx.rA hro hv
 have hlen:(df (Array.replicate ops.size false) ops.toList 0).length=ops.size:=by
  have key: ∀ (l:List Oper) (k n:Nat),k+l.length≤n→(df (Array.replicate n false) l k).length=l.length:=by
   intro l
   induction l with
   | nil=>intro k n _;rfl
   | cons o r ih=>
    intro k n hk
    simp only[List.length_cons]at hk
    have:(Array.replicate n false).getD k true=false:=by
     simp[Array.getD_eq_getD_getElem?,show k < n by omega]
    simp only[df,this,Bool.false_eq_true,if_false,List.length_cons]
    rw[ih (k+1) n (by omega)]
  rw[key _ _ _ (by simp)];simp
 have hfalse: ∀ i, ¬ (Array.replicate ops.size false).getD i false=true:=fun i hi=>by
  simp only[Array.getD_eq_getD_getElem?,Array.getElem?_replicate]at hi
  by_cases hlt:i < ops.size<;>simp[hlt]at hi
 have hnone: ∀ d,d ∈ dstsOf ops (R++Z++F)→sr.env d=none:=fun d hd=>by
  have hA:d ∉ dstsOf ops A:=fun h=>lx.dA d h hd
  rw[(hoff d hA).1]
  show vN _ _ d=none
  unfold vN
  rw[if_pos]
  simp only[List.contains_eq_mem,decide_eq_true_eq]
  rw[show A++R++Z++F=A++(R++Z++F) by simp,c9]
  exact List.mem_append_right _ hd
 have iR:sr.box=fun t=>E5 (({ s with box:=kI dm s.box }:AS).box t):=uj
 have JZ: ∀ p ∈ pm,(g p).1 < w.heap.size∧ ¬ kK g { s with box:=kI dm s.box } (g p).1:=fun p hp=>by
  obtain ⟨h1,cs,h2⟩:=J0 p hp
  refine ⟨h.mem.lt p _ h2,fun ⟨t,c,hc,hrw,e⟩=> ?_⟩
  have nB:kI dm s.box t=some c:=hc
  unfold kI at nB
  split at nB
  ·split at nB
   ·cases nB;cases hrw
   ·cases nB
  ·rename_i hn
   exact h.mem.sep t p c _ nB hrw h2 (fun e2=>hn (e2▸h1)) e
 refine AY (hl:=h0.laid) (s0:={ s with box:=kI dm s.box }) (sr:=sr) (base:=s.next) (pm:=pm) (V:=fun l k s'=>cm P ops s.next (fun s1=>cm P ops s.next K (Z++F) R.length ⟨s1.env,E6 pm s.box s1.box,s1.next⟩) l k s') hs lx h0 zm bh.names iR (fun d hd=>hnone d (by rw[c9];exact List.mem_append_left _ hd)) JZ (fun i r k s' o hv ho=>by simp only[cm,ho]at hv;exact hv)
  (fun fuel L done rem g1 sp ap a1 w1 βf hR hsz hf hd hI hv hall=>by
   have mH:rem=[]:=by
    cases rem with
    | nil=>rfl
    | cons r rest=>exact absurd (hall r (.inr (.inl (by rw[hR];simp)))) (hI.lR r (by simp))
   subst mH
   have V7:done.length=R.length:=by rw[hR];simp
   have Mu:=h0.kM (pn:=s.next) (fun n hn=>hn) (hI.main.act hI.KT hI.RB fun d=>(hI.link d fun i hi hn=>absurd (hall i (.inl hi)) hn).symm)
   have pE:=Mu.restore (pm:=pm) h (fun n hn=>⟨by have:n < s.next:=hn;omega,(hI.main.pin n hn).2⟩) (fun p hp=>(J0 p hp).2) (fun p hp=>hI.main.frame.block _ (JZ p hp).1 (JZ p hp).2) hI.main.frame.size hI.ap
   rw[V7]at pE
   have Jz:cm P ops s.next K (Z++F) R.length ⟨sp.env,E6 pm s.box sp.box,s.next+4*(done.length+1)⟩:=hv
   obtain ⟨g',s',h1,h2⟩:=H9 (w0:=w0) Z R.length g1 _ lx.nZ (fun i hi=>by
    obtain ⟨ex,lo,hi',no⟩:=hI.zs i hi (hall i (.inr (.inr hi)))
    refine ⟨ex,Nat.le_trans h.frame.size lo,hi',fun t b hb=> ?_⟩
    have hb':E6 pm s.box sp.box t=some b:=hb
    unfold E6 at hb'
    split at hb'
    ·rename_i ht
     have hp:t ∈ pm:=by simpa using ht
     obtain ⟨_,cs,h3⟩:=J0 t hp
     have:=(JZ t hp).1
     have e:g1 t=g t:=(hI.main.pin t (h.names.box t _ h3).1).2
     have lo':w.heap.size≤βf i:=lo
     rw[e];omega
    ·exact no t b hb') (fun i hi j hj=>hI.zi i hi j hj (hall i (.inr (.inr hi))) (hall j (.inr (.inr hj)))) (pE.next _) Jz
   refine FQ hs hK F (R.length+Z.length) fuel L g' s' a1 w1 Tz hsz hf (fun i hi=> ?_) (fun i hi=>(lx.V3 i hi).1) hd h1 h2
   constructor
   ·exact fun h hF=>hI.lF i hF h
   ·intro hF
    rcases lx.all i hi with h | h | h | h
    ·exact hall i (.inl h)
    ·exact hall i (.inr (.inl h))
    ·exact hall i (.inr (.inr h))
    ·exact absurd h hF) ops.size _ [] R g ⟨sr.env,kI dm s.box,s.next⟩ ar a w (fun _=>0) rfl (by simp) hlen
  (fun i o ho hi=>absurd hi (hfalse i)) ⟨?_,fun d hd=> ?_,h.size,h.defers,fun d hd=>rfl,fun d hd=> ?_,fun d v hd hx=> ?_,fun i hi hl=>absurd hl (hfalse i),fun i hi j hj hl=>absurd hl (hfalse i),(fun i hi=>nomatch hi),fun i hi=>hfalse i,fun i hi=>hfalse i,fun p hp t b hb hne=> ?_⟩ hk
 ·refine br.mono (M:=fun n=>n < s.next) (fun n hn=>by simp;omega) ⟨bh.size,bh.defers,bh.env,⟨bh.names.env,h0.names.box⟩,⟨h0.mem.lt,h0.mem.cell,h0.mem.free,h0.mem.sep⟩,hb.own,hb.frame,hb.pin,hb.tabs⟩
 ·refine (hoff d fun Ms=> ?_).2
  obtain ⟨i,hi,o,ho,Mt⟩:=kO Ms
  exact hd i hi (hfalse i) (jB ho Mt)
 ·exact hnone d (by rw[c9,c9];exact List.mem_append_left _ (List.mem_append_right _ hd))
 ·have hA:d ∉ dstsOf ops A:=fun Ms=>by
   obtain ⟨i,hi,o,ho,Mt⟩:=kO Ms
   exact hx i hi (hfalse i) (jB ho Mt)
  rw[← (hoff d hA).2]
  exact bh.env d v hd
 ·obtain ⟨h1,cs,h2⟩:=J0 p hp
  have hb':kI dm s.box t=some b:=hb
  unfold kI at hb'
  split at hb'
  ·split at hb'
   ·rename_i b0 h3
    exact fun e=>h.mem.sep p t _ b0 h2 rfl h3 (fun e2=>hne e2.symm) e.symm
   ·cases hb'
  ·exact fun e=>h.mem.sep p t _ b h2 rfl hb' (fun e2=>hne e2.symm) e.symm
theorem tB {A R Z F dm pm:List Nat} {tr:cp} {K:AS→Prop} {Q:Exit→Act→World→Prop} (hok:ops.toList.all (lO N)=true) (hp:jr ops A R Z F=true) (ht:AQ ops F tr=true) (hc:(R++Z).all (iH P ops)=true)
  (hK: ∀ g' s' a' w',br W N w0 (fun n=>n < s'.next) g' s' a' w'→K s'→Q .normal a' w') (h:br W N w0 (fun n=>n < s.next) g s a w) (hv:H6 P ops A R Z F dm pm tr K s):
  wpAny P .any ops Q ops.size (Array.replicate ops.size false) a w:=by
 obtain ⟨hs,lx⟩:=oq (P:=P) hok hp hc
 obtain ⟨J0,hv⟩:=hv
 have h0:=h.FN dm
 have hb:=h0.kL (pn:=s.next) fun n hn=>hn
 have hro:=AU h0 hb (env:=vN (dstsOf ops (A++R++Z++F)) s.env) (a':=a) h.size h.defers (fun d v hd=>by
  unfold vN at hd;split at hd
  ·cases hd
  ·exact h.env d v hd) (fun d v hd=>by
  unfold vN at hd;split at hd
  ·cases hd
  ·exact h.names.env d v hd) s.next
 obtain ⟨sr,ar,hk,uj,uk,bh,hoff,zm⟩:=oO (M:=fun n=>n < s.next) (nm:=s.next) (Nat.lt_irrefl _) (fun h:s.next+1 < s.next=>by omega) hok (fun i hi=>by
  obtain ⟨o,d,h1,h2,h3,_⟩:=lx.Tv i hi
  exact ⟨o,h1,h2,d,h3⟩) lx.rA hro hv
 have hlen:(df (Array.replicate ops.size false) ops.toList 0).length=ops.size:=by
  have key: ∀ (l:List Oper) (k n:Nat),k+l.length≤n→(df (Array.replicate n false) l k).length=l.length:=by
   intro l
   induction l with
   | nil=>intro k n _;rfl
   | cons o r ih=>
    intro k n hk
    simp only[List.length_cons]at hk
    have:(Array.replicate n false).getD k true=false:=by
     simp[Array.getD_eq_getD_getElem?,show k < n by omega]
    simp only[df,this,Bool.false_eq_true,if_false,List.length_cons]
    rw[ih (k+1) n (by omega)]
  rw[key _ _ _ (by simp)];simp
 have hfalse: ∀ i, ¬ (Array.replicate ops.size false).getD i false=true:=fun i hi=>by
  simp only[Array.getD_eq_getD_getElem?,Array.getElem?_replicate]at hi
  by_cases hlt:i < ops.size<;>simp[hlt]at hi
 have hnone: ∀ d,d ∈ dstsOf ops (R++Z++F)→sr.env d=none:=fun d hd=>by
  have hA:d ∉ dstsOf ops A:=fun h=>lx.dA d h hd
  rw[(hoff d hA).1]
  show vN _ _ d=none
  unfold vN
  rw[if_pos]
  simp only[List.contains_eq_mem,decide_eq_true_eq]
  rw[show A++R++Z++F=A++(R++Z++F) by simp,c9]
  exact List.mem_append_right _ hd
 have iR:sr.box=fun t=>E5 (({ s with box:=kI dm s.box }:AS).box t):=uj
 have JZ: ∀ p ∈ pm,(g p).1 < w.heap.size∧ ¬ kK g { s with box:=kI dm s.box } (g p).1:=fun p hp=>by
  obtain ⟨h1,cs,h2⟩:=J0 p hp
  refine ⟨h.mem.lt p _ h2,fun ⟨t,c,hc,hrw,e⟩=> ?_⟩
  have nB:kI dm s.box t=some c:=hc
  unfold kI at nB
  split at nB
  ·split at nB
   ·cases nB;cases hrw
   ·cases nB
  ·rename_i hn
   exact h.mem.sep t p c _ nB hrw h2 (fun e2=>hn (e2▸h1)) e
 refine AY (hl:=h0.laid) (s0:={ s with box:=kI dm s.box }) (sr:=sr) (base:=s.next) (pm:=pm) (V:=fun l k s'=>cm P ops s.next (fun s1=>cm P ops s.next (fun s2=>xZ P ops (s.next+4*(R.length+Z.length+1)) K tr 0 s2) Z R.length ⟨s1.env,E6 pm s.box s1.box,s1.next⟩) l k s') hs lx h0 zm bh.names iR (fun d hd=>hnone d (by rw[c9];exact List.mem_append_left _ hd)) JZ (fun i r k s' o hv ho=>by simp only[cm,ho]at hv;exact hv)
  (fun fuel L done rem g1 sp ap a1 w1 βf hR hsz hf hd hI hv hall=>by
   have mH:rem=[]:=by
    cases rem with
    | nil=>rfl
    | cons r rest=>exact absurd (hall r (.inr (.inl (by rw[hR];simp)))) (hI.lR r (by simp))
   subst mH
   have V7:done.length=R.length:=by rw[hR];simp
   have Mu:=h0.kM (pn:=s.next) (fun n hn=>hn) (hI.main.act hI.KT hI.RB fun d=>(hI.link d fun i hi hn=>absurd (hall i (.inl hi)) hn).symm)
   have pE:=Mu.restore (pm:=pm) h (fun n hn=>⟨by have:n < s.next:=hn;omega,(hI.main.pin n hn).2⟩) (fun p hp=>(J0 p hp).2) (fun p hp=>hI.main.frame.block _ (JZ p hp).1 (JZ p hp).2) hI.main.frame.size hI.ap
   rw[V7]at pE
   have Jz:cm P ops s.next (fun s2=>xZ P ops (s.next+4*(R.length+Z.length+1)) K tr 0 s2) Z R.length ⟨sp.env,E6 pm s.box sp.box,s.next+4*(done.length+1)⟩:=hv
   obtain ⟨g',s',h1,h2⟩:=H9 (w0:=w0) (F:=[]) (K:=fun s2=>xZ P ops (s.next+4*(R.length+Z.length+1)) K tr 0 s2) Z R.length g1 _ lx.nZ (fun i hi=>by
    obtain ⟨ex,lo,hi',no⟩:=hI.zs i hi (hall i (.inr (.inr hi)))
    refine ⟨ex,Nat.le_trans h.frame.size lo,hi',fun t b hb=> ?_⟩
    have hb':E6 pm s.box sp.box t=some b:=hb
    unfold E6 at hb'
    split at hb'
    ·rename_i ht
     have hp:t ∈ pm:=by simpa using ht
     obtain ⟨_,cs,h3⟩:=J0 t hp
     have:=(JZ t hp).1
     have e:g1 t=g t:=(hI.main.pin t (h.names.box t _ h3).1).2
     have lo':w.heap.size≤βf i:=lo
     rw[e];omega
    ·exact no t b hb') (fun i hi j hj=>hI.zi i hi j hj (hall i (.inr (.inr hi))) (hall j (.inr (.inr hj)))) (pE.next _) (by rw[List.append_nil];exact Jz)
   have hiff: ∀ i,i < ops.size→(L.getD i false=true↔i ∉ F):=fun i hi=>by
    constructor
    ·exact fun h hF=>hI.lF i hF h
    ·intro hF
     rcases lx.all i hi with h | h | h | h
     ·exact hall i (.inl h)
     ·exact hall i (.inr (.inl h))
     ·exact hall i (.inr (.inr h))
     ·exact absurd h hF
   have hL:L=tw ops F:=Array.ext (by simp[tw,hsz]) fun i e1 e2=>by
    have hi:i < ops.size:=by rw[← hsz];exact e1
    have:=hiff i hi
    rw[Array.getD_eq_getD_getElem?,Array.getElem?_eq_getElem e1,Option.getD_some]at this
    have e3:(tw ops F)[i]= !F.contains i:=by simp[tw]
    rw[e3,Bool.eq_iff_iff,this];simp
   have ht':=ht
   unfold AQ at ht'
   rw[Bool.and_eq_true, ← hL,hf]at ht'
   exact AJ hok hK fuel L tr 0 g' _ a1 w1 ht'.1 ht'.2 (h1.next _) h2) ops.size _ [] R g ⟨sr.env,kI dm s.box,s.next⟩ ar a w (fun _=>0) rfl (by simp) hlen
  (fun i o ho hi=>absurd hi (hfalse i)) ⟨?_,fun d hd=> ?_,h.size,h.defers,fun d hd=>rfl,fun d hd=> ?_,fun d v hd hx=> ?_,fun i hi hl=>absurd hl (hfalse i),fun i hi j hj hl=>absurd hl (hfalse i),(fun i hi=>nomatch hi),fun i hi=>hfalse i,fun i hi=>hfalse i,fun p hp t b hb hne=> ?_⟩ hk
 ·refine br.mono (M:=fun n=>n < s.next) (fun n hn=>by simp;omega) ⟨bh.size,bh.defers,bh.env,⟨bh.names.env,h0.names.box⟩,⟨h0.mem.lt,h0.mem.cell,h0.mem.free,h0.mem.sep⟩,hb.own,hb.frame,hb.pin,hb.tabs⟩
 ·refine (hoff d fun Ms=> ?_).2
  obtain ⟨i,hi,o,ho,Mt⟩:=kO Ms
  exact hd i hi (hfalse i) (jB ho Mt)
 ·exact hnone d (by rw[c9,c9];exact List.mem_append_left _ (List.mem_append_right _ hd))
 ·have hA:d ∉ dstsOf ops A:=fun Ms=>by
   obtain ⟨i,hi,o,ho,Mt⟩:=kO Ms
   exact hx i hi (hfalse i) (jB ho Mt)
  rw[← (hoff d hA).2]
  exact bh.env d v hd
 ·obtain ⟨h1,cs,h2⟩:=J0 p hp
  have hb':kI dm s.box t=some b:=hb
  unfold kI at hb'
  split at hb'
  ·split at hb'
   ·rename_i b0 h3
    exact fun e=>h.mem.sep p t _ b0 h2 rfl h3 (fun e2=>hne e2.symm) e.symm
   ·cases hb'
  ·exact fun e=>h.mem.sep p t _ b h2 rfl hb' (fun e2=>hne e2.symm) e.symm
end
end Go.bM
