/-
  The calculus: a region by a plan serves every order: all together. Nothing here speaks of a program.
-/
import Derived.Test.YtaeagfdnfjenlaaGreatDoorVcgWf
namespace Go.cn
set_option linter.unusedSectionVars false
set_option linter.unusedSimpArgs false
set_option linter.unusedVariables false
section
variable {P:Program} [Tables P] {W:Nat→Prop} {N:Nat} {w0:Base P} {M:Nat→Prop} {g:Where} {s:AS} {a:Act} {w:World} {ops:Array Oper} {nm:Nat} {o:Oper}
theorem DR {l m:List Nat} (h:gG ops (l++m)=true):gG ops m=true:=by
 induction l with
 | nil=>exact h
 | cons i r ih=>simp only[List.cons_append,gG,Bool.and_eq_true]at h;exact ih h.2
def opened (ops:Array Oper) (A:List Nat) (L:Array Bool) (env:Nat→Option AV) (x:Nat):Option AV:=if A.all (fun j=>L.getD j false|| !(fm ops j).contains x)=true then env x else none
theorem zY {A:List Nat} {L:Array Bool} {env:Nat→Option AV} {x:Nat} (h: ∀ j ∈ A, ¬ L.getD j false=true→x ∉ fm ops j):opened ops A L env x=env x:=by
 unfold opened
 rw[if_pos (List.all_eq_true.2 fun j hj=>by
  by_cases hl:L.getD j false=true
  ·simp[hl]
  ·have:=h j hj hl
   simp[this])]
theorem jO {A:List Nat} {L:Array Bool} {env:Nat→Option AV} {x:Nat} {v:AV} (h:opened ops A L env x=some v):env x=some v∧ ∀ j ∈ A, ¬ L.getD j false=true→x ∉ fm ops j:=by
 unfold opened at h
 split at h
 ·rename_i hall
  refine ⟨h,fun j hj hl hx=> ?_⟩
  have:=List.all_eq_true.1 hall j hj
  simp only[Bool.or_eq_true,Bool.not_eq_true',List.contains_eq_mem,decide_eq_false_iff_not]at this
  rcases this with h1 | h1
  ·exact hl h1
  ·exact h1 hx
 ·cases h
theorem p8 {α:Type} {x:α} {l m n:List α} (h:x ∈ l∨x ∈ m∨x ∈ n):x ∈ l++m++n:=by simp only[List.mem_append];rcases h with h | h | h<;>simp[h]
theorem zZ {L:Array Bool} (hsz:L.size=ops.size) (h:dF L ops.toList 0=[]) {i:Nat} (hi:i < ops.size):L.getD i false=true:=Classical.byContradiction fun hx=>by
 cases ho:ops[i]? with
 | none=>rw[Array.getElem?_eq_none_iff]at ho;omega
 | some o=>
  have:=mI (Vu (by omega) hx) ho
  rw[h]at this;simp at this
theorem Aa (hs:Static ops N) {L:Array Bool} (hsz:L.size=ops.size) (h:dF L ops.toList 0≠[]):Region.ready .any ops L≠[]:=by
 cases nM:dF L ops.toList 0 with
 | nil=>exact absurd nM h
 | cons p rest=>
  obtain ⟨i,o⟩:=p
  obtain ⟨_,h2,h3⟩:=jo ops.toList 0 (i,o) (by rw[nM];simp)
  have ho:ops[i]? =some o:=by simpa using h3
  have hlt:i < ops.size:=(Array.getElem?_eq_some_iff.1 ho).1
  have:i ∈ Region.ready .any ops L:=mem_ready.2 ⟨h2,o,ho,fun e he hb=>by
   have hlt':=hs.lt i o ho e he hb
   exact oK hsz (by omega) (qX ops.toList 0 nM e.on (Nat.zero_le _) hlt')⟩
  exact fun h=>by rw[h]at this;cases this
theorem E9 {A R Z F:List Nat} {base:Nat} {Q:Exit→Act→World→Prop} {s0 sr:AS} {g0:Where} {a0:Act} {wS:World} {hl:Laid P wS} {pm:List Nat} {V:List Nat→Nat→AS→Prop} (hs:Static ops N) (hp:zX P ops A R Z F)
  (h0:bF W N w0 (fun n=>n < base) g0 s0 a0 wS)
  (qZ: ∀ i ∈ A, ∃ o d v,ops[i]? =some o∧o.dst=some d∧sr.env d=some v∧ea P base sr o.op=some (some v,none)∧AV.ok (fun n=>n < base) v) (UU:Names (fun n=>n < base) sr) (hsb:sr.box=fun t=>DL (s0.box t))
  (hsD: ∀ d ∈ dstsOf ops (R++Z++F),sr.env d=none) (KO: ∀ p ∈ pm,(g0 p).1 < wS.heap.size∧ ¬ jc g0 s0 (g0 p).1)
  (hV: ∀ i r k s o,V (i::r) k s→ops[i]? =some o→lB P (base+4*(k+1)) o (V r (k+1)) s)
  (hend: ∀ (fuel:Nat) (L:Array Bool) (done rem:List Nat) (g:Where) (sp:AS) (ap a:Act) (w:World) (βf:Nat→Nat),R=done++rem→L.size=ops.size→(dF L ops.toList 0).length=fuel→Down ops L→
   Inv P (jc g0 s0) N ⟨wS,base,g0,hl⟩ ops base A R Z F sr.env g0 pm L done rem g sp ap a w βf→V rem done.length sp→(∀ i,i ∈ A∨i ∈ R∨i ∈ Z→L.getD i false=true)→wpAny P .any ops Q fuel L a w):
  ∀ (fuel:Nat) (L:Array Bool) (done rem:List Nat) (g:Where) (sp:AS) (ap a:Act) (w:World) (βf:Nat→Nat),R=done++rem→L.size=ops.size→(dF L ops.toList 0).length=fuel→Down ops L→
   Inv P (jc g0 s0) N ⟨wS,base,g0,hl⟩ ops base A R Z F sr.env g0 pm L done rem g sp ap a w βf→V rem done.length sp→wpAny P .any ops Q fuel L a w:=by
 intro fuel
 induction fuel with
 | zero=>
  intro L done rem g sp ap a w βf hR hsz hf fX hI hv
  exact hend 0 L done rem g sp ap a w βf hR hsz hf fX hI hv (fun i hi=>by
   refine zZ hsz (List.length_eq_zero_iff.1 hf) ?_
   rcases hi with h | h | h
   ·obtain ⟨o,d,ho,_⟩:=hp.WR i h
    exact (Array.getElem?_eq_some_iff.1 ho).1
   ·obtain ⟨o,ho,_⟩:=hp.inR i h
    exact (Array.getElem?_eq_some_iff.1 ho).1
   ·obtain ⟨o,t,d,ho,_⟩:=hp.inZ i h
    exact (Array.getElem?_eq_some_iff.1 ho).1)
 | succ fuel ih=>
  intro L done rem g sp ap a w βf hR hsz hf fX hI hv
  by_cases hall: ∀ i,i ∈ A∨i ∈ R∨i ∈ Z→L.getD i false=true
  ·exact hend _ L done rem g sp ap a w βf hR hsz hf fX hI hv hall
  refine ⟨fun hr=>absurd hr (Aa hs hsz fun h=>by rw[h]at hf;simp at hf),fun i hi=> ?_⟩
  obtain ⟨hun,o,ho,qx⟩:=mem_ready.1 hi
  have KN:i < ops.size:=(Array.getElem?_eq_some_iff.1 ho).1
  have Vv:i < L.size:=by omega
  have QS: ¬ L.getD i false=true:=fun h=>Vt hun h
  have hw: ∀ j,waits ops ops.size i j=true→L.getD j false=true:=fun j h=>fN fX ops.size i j o ho qx h
  have hfuel:(dF (L.setIfInBounds i true) ops.toList 0).length=fuel:=by have:=mI hun ho;omega
  have sI:=fX.set Vv ho qx
  have hsz':(L.setIfInBounds i true).size=ops.size:=by simpa using hsz
  have keep: ∀ j,L.getD j false=true→(L.setIfInBounds i true).getD j false=true:=fun j h=>(E5 Vv j).2 (.inr h)
  have back: ∀ j,j≠i→(L.setIfInBounds i true).getD j false=true→L.getD j false=true:=fun j hj h=>((E5 Vv j).1 h).resolve_left hj
  have unl: ∀ j ∈ A, ∀ x,(∀ j ∈ A, ¬ (L.setIfInBounds i true).getD j false=true→x ∉ fm ops j)→x ∉ fm ops i→ ¬ L.getD j false=true→x ∉ fm ops j:=fun j hj x h1 h2 h3=>by
   by_cases e:j=i
   ·rw[e];exact h2
   ·exact h1 j hj fun h4=>h3 (back j e h4)
  rcases hp.all i KN with hA | yg | hZ | hF
  ·
   obtain ⟨o',d,v,ho',hd,Vw,Km,H2⟩:=qZ i hA
   rw[ho]at ho';cases ho'
   obtain ⟨o',d',ho',hpure,hd',RI,sJ⟩:=hp.WR i hA
   rw[ho]at ho';cases ho'
   rw[hd]at hd';cases hd'
   have hop: ∀ x ∈ o.looksAt ops,opened ops A L sr.env x=sr.env x:=fun x hx=>zY fun j hj qy yh=>qy (hw j (sJ j hj x yh hx))
   have hro:=vM h0 hI.main (env:=opened ops A L sr.env) hI.zW hI.Pw (fun x u hu=>hI.ro x u (jO hu).1 (jO hu).2) (fun x u hu=>UU.env x u (jO hu).1) 0
   have he2:ea P base ⟨opened ops A L sr.env,fun t=>DL (s0.box t),0⟩ o.op=some (some v,none):=by
    rw[← Km]
    exact (EZ UU (fun x hx=>(hop x hx).symm) hsb).symm
   obtain ⟨g',w',r,hrun,hsame,bk,hval,_⟩:=eH (o:=o) hro (Nat.lt_irrefl base) he2
   have n8:Kept w w':=bk.frame
   have RK:AV.ah g' v=AV.ah g0 v:=AV.bu (AV.aL (fun n hn=>hsame n hn) H2)
   have E0:d < N:=hs.dN i o ho d hd
   refine lT ho (hs.gd i o ho) ?_
   unfold Oper.wp
   rw[hrun,hval]
   simp only[Oper.upon]
   rw[hd,RK]
   have H4:=fun x=>kS (a:=a) (u:=AV.ah g0 v) (x:=x) (d:=d) (by rw[hI.zW];exact E0)
   have hap:ap.tmps[d]? =some (AV.ah g0 v):=by
    have h1:=hI.main.env d v (by rw[hI.E7 d (dw ho hd hA)];exact Vw)
    rw[h1]
    exact congrArg some (AV.bu (AV.aL (fun n hn=>(hI.main.pin n hn).2) H2))
   refine ih _ done rem g sp ap _ w' βf hR hsz' hfuel sI ⟨hI.main.kept n8,fun x hx=> ?_,by rw[gZ];exact hI.zW,by rw[put_defers];exact hI.Pw,hI.E7,hI.E8,fun x u hu hx=> ?_,fun j hj qy=> ?_,fun j hj k hk h1 h2=> ?_,fun j hj=>keep j (hI.lD j hj),fun j hj h=> ?_,fun j hj h=> ?_,hI.ap⟩ hv
   ·rw[H4]
    split
    ·rename_i e;subst e;exact hap
    ·rename_i e
     exact hI.link x fun j hj=>unl j hj x hx fun h=>e (dst_eq ho hd h)
   ·rw[H4]
    split
    ·rename_i e;subst e;rw[Vw]at hu;cases hu;rfl
    ·rename_i e
     exact hI.ro x u hu fun j hj=>unl j hj x hx fun h=>e (dst_eq ho hd h)
   ·have hji:j≠i:=fun e=>hp.jA i hA (p8 (.inr (.inl (e▸hj))))
    obtain ⟨⟨oj,t,dj,zl,k1,k2,k3,k4,k5,k6⟩,k7,k8,k9⟩:=hI.zs j hj (back j hji qy)
    have Qy:dj≠d:=fun e=>hp.dA d (dw ho hd hA) (by rw[cu,cu];exact List.mem_append_left _ (List.mem_append_right _ (e▸dw k1 k3 hj)))
    exact ⟨⟨oj,t,dj,zl,k1,k2,k3,k4,by rw[H4,if_neg Qy];exact k5,by rw[n8.heap k8];exact k6⟩,k7,Nat.lt_of_lt_of_le k8 n8.size,k9⟩
   ·have e1:j≠i:=fun e=>hp.jA i hA (p8 (.inr (.inl (e▸hj))))
    have e2:k≠i:=fun e=>hp.jA i hA (p8 (.inr (.inl (e▸hk))))
    exact hI.zi j hj k hk (back j e1 h1) (back k e2 h2)
   ·have e1:j≠i:=fun e=>hp.jA i hA (p8 (.inl (by rw[hR, ← e];simp[hj])))
    exact hI.lR j hj (back j e1 h)
   ·have e1:j≠i:=fun e=>hp.jA i hA (p8 (.inr (.inr (e▸hj))))
    exact hI.lF j hj (back j e1 h)
  ·
   have hnd:i ∉ done:=fun h=>QS (hI.lD i h)
   have H5:i ∈ rem:=by rw[hR]at yg;exact (List.mem_append.1 yg).resolve_left hnd
   cases rem with
   | nil=>cases H5
   | cons r0 rest=>
    have hc:=DR (hR▸hp.cR:gG ops (done++r0::rest)=true)
    simp only[gG,Bool.and_eq_true]at hc
    have hi0:i=r0:=by
     rcases List.mem_cons.1 H5 with h | h
     ·exact h
     ·exact absurd (hw r0 (List.all_eq_true.1 hc.1 i h)) (hI.lR r0 (by simp))
    subst hi0
    obtain ⟨o',ho',hop,uM,sJ⟩:=hp.inR i yg
    rw[ho]at ho';cases ho'
    replace hv:=hV _ _ _ _ _ hv ho
    ·have hx1: ∀ x ∈ o.op.operands,a.eval x=ap.eval x:=fun x hx=>(DQ fun t ht=>hI.link t fun j hj qy yh=>qy (hw j (sJ j hj t yh (jK hx ht)))).symm
     refine lT ho (hs.gd i _ ho) ?_
     refine RG hop uM hv hI.main hx1 fun v g' bx w' hok bk hkeep hnew hk=> ?_
     obtain ⟨dst,op,type,pos,after,guard⟩:=o
     simp only
     have E0: ∀ x,dst=some x→x < N:=fun x hx=>hs.dN i _ ho x hx
     have vN: ∀ (b:Act) (x:Nat),b.tmps.size=N→(b.put dst (AV.ah g' v)).tmps[x]? =if dst=some x then some (AV.ah g' v) else b.tmps[x]? :=fun b x hb=>by
      cases dst with
      | none=>simp[Act.put]
      | some d=>
       rw[kS (by rw[hb];exact E0 d rfl)]
       by_cases e:x=d
       ·subst e;simp
       ·rw[if_neg e,if_neg (fun h=>e (Option.some.inj h).symm)]
     have jX: ∀ x,dst≠some x→(({ sp with box:=bx }:AS).put dst (some v)).env x=sp.env x:=fun x hx=>by
      cases dst with
      | none=>rfl
      | some d=>exact bh _ _ _ _ fun e=>hx (by rw[e])
     have hnd: ∀ x,x ∈ dstsOf ops A→dst≠some x:=fun x hx e=>hp.dA x hx (by rw[cu,cu];exact List.mem_append_left _ (List.mem_append_left _ (dw ho e yg)))
     have RL: ∀ x,x ∈ dstsOf ops Z→dst≠some x:=fun x hx e=>hp.dR x (dw ho e yg) hx
     have hlen:(done++[i]).length=done.length+1:=by simp
     refine ih _ (done++[i]) rest g' _ _ _ w' βf (by rw[hR];simp) hsz' hfuel sI ⟨(bk.put E0 hok).mono (fun n hn=>by rw[hlen];omega),fun x hx=> ?_,by rw[gZ];exact hI.zW,by rw[put_defers];exact hI.Pw,fun x hx=> ?_,fun x hx=> ?_,fun x u hu hx=> ?_,fun j hj qy=> ?_,fun j hj k hk h1 h2=> ?_,fun j hj=> ?_,fun j hj h=> ?_,fun j hj h=> ?_,fun p YR t b hb hne=> ?_⟩ (by rw[hlen];exact hk)
     ·rw[vN ap x hI.main.size,vN a x hI.zW]
      split
      ·rfl
      ·exact hI.link x fun j hj qy=>hx j hj fun h=>qy (back j (fun e=>hp.jA j hj (p8 (.inl (e▸yg)))) h)
     ·rw[jX x (hnd x hx)];exact hI.E7 x hx
     ·rw[jX x (RL x hx)];exact hI.E8 x hx
     ·rw[vN a x hI.zW]
      split
      ·rename_i e
       have:=hsD x (by rw[cu,cu];exact List.mem_append_left _ (List.mem_append_left _ (dw ho e yg)))
       rw[this]at hu;cases hu
      ·exact hI.ro x u hu fun j hj qy=>hx j hj fun h=>qy (back j (fun e=>hp.jA j hj (p8 (.inl (e▸yg)))) h)
     ·have hji:j≠i:=fun e=>hp.jR i yg (by simp[← e,hj])
      obtain ⟨⟨oj,t,dj,zl,k1,k2,k3,k4,k5,k6⟩,k7,k8,k9⟩:=hI.zs j hj (back j hji qy)
      obtain ⟨m1,m2⟩:=hkeep _ k8 k9
      have Zj:βf j < w'.heap.size:=by
       have:w'.heap[βf j]? =some (.cells zl.toArray t (0,0)):=m1.trans k6
       exact (Array.getElem?_eq_some_iff.1 this).1
      refine ⟨⟨oj,t,dj,zl,k1,k2,k3,k4, ?_,m1.trans k6⟩,k7,Zj,fun t' b hb=> ?_⟩
      ·rw[vN a dj hI.zW,if_neg (RL dj (dw k1 k3 hj))];exact k5
      ·refine m2 t' b ?_
       cases dst<;>exact hb
     ·have e1:j≠i:=fun e=>hp.jR i yg (by simp[← e,hj])
      have e2:k≠i:=fun e=>hp.jR i yg (by simp[← e,hk])
      exact hI.zi j hj k hk (back j e1 h1) (back k e2 h2)
     ·rcases List.mem_append.1 hj with h | h
      ·exact keep j (hI.lD j h)
      ·rw[List.mem_singleton.1 h];exact (E5 Vv i).2 (.inl rfl)
     ·by_cases e:j=i
      ·subst e
       have:=mH hs.lt _ _ _ (List.all_eq_true.1 hc.1 j hj)
       omega
      ·exact hI.lR j (by simp[hj]) (back j e h)
     ·have e1:j≠i:=fun e=>hp.jR i yg (by simp[← e,hj])
      exact hI.lF j hj (back j e1 h)
     ·have hb':bx t=some b:=by cases dst<;>exact hb
      obtain ⟨hp1,hp2⟩:=KO p YR
      rcases hnew t b hb' with hrw | ⟨b0,hb0,e⟩
      ·rcases bk.own t b hb' hrw with h1 | h1
       ·have h1':wS.heap.size≤(g' t).1:=h1
        omega
       ·exact fun e=>hp2 (e▸h1)
      ·rw[e];exact hI.ap p YR t b0 hb0 hne
  ·
   obtain ⟨o',t,d,ho',hop,hd⟩:=hp.inZ i hZ
   rw[ho]at ho';cases ho'
   obtain ⟨zl,hz⟩:=hp.zero i hZ o t ho hop
   have E0:d < N:=hs.dN i o ho d hd
   refine lT ho (hs.gd i o ho) ?_
   unfold Oper.wp
   rw[DP hz hop]
   simp only[Oper.upon]
   rw[hd]
   have hk:=zV w (.cells zl.toArray t)
   have H4:=fun x=>kS (a:=a) (u:=Value.pointer (some ⟨w.heap.size,0,none⟩)) (x:=x) (d:=d) (by rw[hI.zW];exact E0)
   have B6:=fun x=>kS (a:=ap) (u:=Value.pointer (some ⟨w.heap.size,0,none⟩)) (x:=x) (d:=d) (by rw[hI.main.size];exact E0)
   have hnA: ∀ j ∈ A,d ∉ fm ops j:=fun j hj h=>hp.dA d (yn hj h) (by rw[cu,cu];exact List.mem_append_left _ (List.mem_append_right _ (dw ho hd hZ)))
   have hAi: ∀ j ∈ A,j≠i:=fun j hj e=>hp.jA j hj (p8 (.inr (.inl (e▸hZ))))
   refine ih _ done rem g sp (ap.put (some d) (Value.pointer (some ⟨w.heap.size,0,none⟩))) _ _ (fun j=>if j=i then w.heap.size else βf j) hR hsz' hfuel sI ⟨(hI.main.Nl (hI.E8 d (dw ho hd hZ)) _).kept hk,fun x hx=> ?_,by rw[gZ];exact hI.zW,by rw[put_defers];exact hI.Pw,hI.E7,hI.E8,fun x u hu hx=> ?_,fun j hj qy=> ?_,fun j hj k hk' h1 h2 hne=> ?_,fun j hj=>keep j (hI.lD j hj),fun j hj h=> ?_,fun j hj h=> ?_,hI.ap⟩ hv
   ·rw[H4,B6]
    split
    ·rfl
    ·exact hI.link x fun j hj qy=>hx j hj fun h=>qy (back j (hAi j hj) h)
   ·rw[H4]
    split
    ·rename_i e;subst e
     have:=hsD x (by rw[cu,cu];exact List.mem_append_left _ (List.mem_append_right _ (dw ho hd hZ)))
     rw[this]at hu;cases hu
    ·exact hI.ro x u hu fun j hj qy=>hx j hj fun h=>qy (back j (hAi j hj) h)
   ·by_cases e:j=i
    ·subst e
     simp only[if_true]
     refine ⟨⟨o,t,d,zl,ho,hop,hd,hz,by rw[H4,if_pos rfl], ?_⟩,hI.main.frame.size, ?_,fun t' b hb e=> ?_⟩
     ·show (w.heap.push _)[w.heap.size]? =_
      simp
     ·show w.heap.size < (w.heap.push _).size
      simp
     ·have:=hI.main.mem.lt t' b hb;omega
    ·simp only[if_neg e]
     obtain ⟨⟨oj,t',dj,zl',k1,k2,k3,k4,k5,k6⟩,k7,k8,k9⟩:=hI.zs j hj (back j e qy)
     have Qy:dj≠d:=fun e2=>hp.dZ j hj i hZ e dj (hH k1 k3) (e2▸hH ho hd)
     exact ⟨⟨oj,t',dj,zl',k1,k2,k3,k4,by rw[H4,if_neg Qy];exact k5,by rw[hk.heap k8];exact k6⟩,k7,Nat.lt_of_lt_of_le k8 hk.size,k9⟩
   ·by_cases e1:j=i
    ·have e2:k≠i:=fun e=>hne (e1.trans e.symm)
     simp only[if_pos e1,if_neg e2]
     have:=(hI.zs k hk' (back k e2 h2)).hi
     omega
    ·simp only[if_neg e1]
     by_cases e2:k=i
     ·simp only[if_pos e2]
      have:=(hI.zs j hj (back j e1 h1)).hi
      omega
     ·simp only[if_neg e2]
      exact hI.zi j hj k hk' (back j e1 h1) (back k e2 h2) hne
   ·have e1:j≠i:=fun e=>hp.jR j (by rw[hR];simp[hj]) (by simp[e,hZ])
    exact hI.lR j hj (back j e1 h)
   ·have e1:j≠i:=fun e=>hp.jZ i hZ (e▸hj)
    exact hI.lF j hj (back j e1 h)
  ·
   refine absurd (fun j hj=> ?_) hall
   refine hw j ((hp.inF i hF).2 j ?_)
   exact p8 hj
theorem RM {A R Z F:List Nat} {base:Nat} {K:AS→Prop} {Q:Exit→Act→World→Prop} {W1:Nat→Prop} {w1:Base P} {env:Nat→Option AV} {g0:Where} {pm:List Nat} (hs:Static ops N) (hp:zX P ops A R Z F)
   (hK: ∀ g' s' a' w',bF W1 N w1 (fun n=>n < s'.next) g' s' a' w'→K s'→Q .normal a' w')
   (fuel:Nat) (L:Array Bool) (done rem:List Nat) (g:Where) (sp:AS) (ap a:Act) (w:World) (βf:Nat→Nat) (hR:R=done++rem) (hsz:L.size=ops.size) (hf:(dF L ops.toList 0).length=fuel) (fX:Down ops L)
   (hI:Inv P W1 N w1 ops base A R Z F env g0 pm L done rem g sp ap a w βf) (hv:da P ops base K (rem++(Z++F)) done.length sp)
   (hall: ∀ i,i ∈ A∨i ∈ R∨i ∈ Z→L.getD i false=true) (Vx:gG ops F=true):wpAny P .any ops Q fuel L a w:=by
  have nM:rem=[]:=by
   cases rem with
   | nil=>rfl
   | cons r rest=>exact absurd (hall r (.inr (.inl (by rw[hR];simp)))) (hI.lR r (by simp))
  subst nM
  have bk:=hI.main.act hI.zW hI.Pw fun d=>(hI.link d fun i hi hn=>absurd (hall i (.inl hi)) hn).symm
  obtain ⟨g',s',h1,h2⟩:=Nk (w0:=w1) Z done.length g sp hp.nZ (fun i hi=>hI.zs i hi (hall i (.inr (.inr hi)))) (fun i hi j hj=>hI.zi i hi j hj (hall i (.inr (.inr hi))) (hall j (.inr (.inr hj)))) bk hv
  refine KM hs hK F (done.length+Z.length) fuel L g' s' a w Vx hsz hf (fun i hi=> ?_) (fun i hi=>(hp.inF i hi).1) fX h1 h2
  constructor
  ·exact fun h hF=>hI.lF i hF h
  ·intro hF
   rcases hp.all i hi with h | h | h | h
   ·exact hall i (.inl h)
   ·exact hall i (.inr (.inl h))
   ·exact hall i (.inr (.inr h))
   ·exact absurd h hF
def iq (P:Program) (ops:Array Oper) (i:Nat):Bool:=match ops[i]? with
 | some o=>(match o.op with
  | .call ⟨.value (.func f),_,_⟩=>ak P f
  | .alloc t=>(zeroOf P t).isSome
  | _=>j3 o)
 | none=>false
theorem rh {i:Nat} {p:Oper→Bool} (h:Pv ops i p=true): ∃ o,ops[i]? =some o∧p o=true:=by
 unfold Pv at h
 split at h
 ·rename_i o ho;exact ⟨o,ho,h⟩
 ·cases h
theorem lU {l m:List Nat} (h:jG l m=true): ∀ x ∈ l,x ∉ m:=fun x hx=>KL h hx
theorem H6 {i j:Nat} {l:List Nat} (h:(jG (fm ops j) l||waits ops ops.size i j)=true): ∀ x ∈ fm ops j,x ∈ l→waits ops ops.size i j=true:=fun x hx hl=>by
 rcases Bool.or_eq_true_iff.1 h with h | h
 ·exact absurd hl (lU h x hx)
 ·exact h
theorem DS: ∀ {Z:List Nat},j4.Vo ops Z=true→Z.Nodup∧ ∀ i ∈ Z, ∀ j ∈ Z,i≠j→ ∀ x ∈ fm ops i,x ∉ fm ops j
 | [],_=>⟨List.nodup_nil,fun i hi=>nomatch hi⟩
 | k::r,h=>by
  unfold j4.Vo at h
  simp only[Bool.and_eq_true,Bool.not_eq_true',List.contains_eq_mem,decide_eq_false_iff_not]at h
  obtain ⟨⟨h1,h2⟩,h3⟩:=h
  obtain ⟨k1,k2⟩:=DS h3
  refine ⟨List.nodup_cons.2 ⟨h2,k1⟩,fun i hi j hj hne x hx=> ?_⟩
  rcases List.mem_cons.1 hi with h4 | h4<;>rcases List.mem_cons.1 hj with h5 | h5
  ·exact absurd (h4.trans h5.symm) hne
  ·subst h4;exact fun yh=>lU h1 x hx (yn h5 yh)
  ·subst h5;exact fun yh=>lU h1 x yh (yn h4 hx)
  ·exact k2 i h4 j h5 hne x hx
theorem ny {A R Z F:List Nat} (hok:ops.toList.all (ng N)=true) (h:j4 ops A R Z F=true) (hc:(R++Z).all (iq P ops)=true):Static ops N∧zX P ops A R Z F:=by
 unfold j4 at h
 simp only[Bool.and_eq_true,List.all_eq_true]at h
 obtain ⟨⟨⟨⟨⟨⟨⟨⟨⟨⟨⟨⟨⟨⟨h1,h2⟩,h3⟩,h4⟩,h5⟩,h6⟩,h7⟩,h8⟩,h9⟩,h10⟩,h11⟩,h12⟩,h13⟩,h14⟩,h16⟩:=h
 have oF: ∀ i ∈ R++Z,iq P ops i=true:=List.all_eq_true.1 hc
 obtain ⟨hnz,hdz⟩:=DS h12
 have hst: ∀ (i:Nat) o,ops[i]? =some o→o.guard=none∧ ∀ e ∈ o.after,Region.binds .any e=true→e.on < i:=fun i o ho=>by
  obtain ⟨o',ho',hp⟩:=rh (h2 i (List.mem_range.2 (Array.getElem?_eq_some_iff.1 ho).1))
  rw[ho]at ho';cases ho'
  simp only[Bool.and_eq_true,Option.isNone_iff_eq_none,List.all_eq_true,Bool.or_eq_true,Bool.not_eq_true',decide_eq_true_eq]at hp
  exact ⟨hp.1,fun e he hb=>(hp.2 e (by simpa using he)).resolve_left (by rw[hb];simp)⟩
 refine ⟨⟨fun i o ho=>(hst i o ho).2,fun i o ho=>(hst i o ho).1,fun i o ho d hd=> ?_⟩,⟨fun i hi=> ?_,fun i hi=> ?_,lU h5,h4,lU h6,lU h7,lU h8,fun i hi=> ?_,h10,lU h11,fun i hi=> ?_,hdz,hnz,fun i hi o t ho hop=> ?_,fun i hi=> ?_⟩⟩
 ·have:=List.all_eq_true.1 hok o (by simpa using Array.mem_of_getElem? ho)
  unfold ng at this;rw[hd]at this;simpa using this
 ·have:=h1 i (List.mem_range.2 hi)
  simp only[Bool.or_eq_true,List.contains_eq_mem,decide_eq_true_eq]at this
  rcases this with ((h | h) | h) | h
  ·exact .inl h
  ·exact .inr (.inl h)
  ·exact .inr (.inr (.inl h))
  ·exact .inr (.inr (.inr h))
 ·obtain ⟨o,ho,hp⟩:=rh (h3 i hi)
  simp only[Bool.and_eq_true,List.all_eq_true]at hp
  obtain ⟨⟨⟨⟨p1,p2⟩,p3⟩,p4⟩,p5⟩:=hp
  obtain ⟨d,hd⟩:=Option.isSome_iff_exists.1 p2
  exact ⟨o,d,ho,p1,hd,lU p4,fun j hj=>H6 (p5 j hj)⟩
 ·obtain ⟨o,ho,hp⟩:=rh (h9 i hi)
  simp only[Bool.and_eq_true,List.all_eq_true]at hp
  obtain ⟨⟨p1,p2⟩,p3⟩:=hp
  have Vy:=oF i (List.mem_append_left _ hi)
  unfold iq at Vy
  rw[ho]at Vy
  exact ⟨o,ho,p1,fun f xs tys e=>by simp only[e]at Vy;exact Vy,fun j hj=>H6 (p3 j hj)⟩
 ·obtain ⟨o,ho,hp⟩:=rh (h13 i hi)
  simp only[Bool.and_eq_true]at hp
  obtain ⟨p1,p2⟩:=hp
  obtain ⟨d,hd⟩:=Option.isSome_iff_exists.1 p2
  unfold DK at p1
  split at p1
  ·rename_i t e
   exact ⟨o,t,d,ho,e,hd⟩
  ·cases p1
 ·have Vy:=oF i (List.mem_append_right _ hi)
  unfold iq at Vy
  rw[ho]at Vy
  simp only[hop]at Vy
  exact Option.isSome_iff_exists.1 Vy
 ·have hw:=h14 i hi
  exact ⟨by simpa using h16 i hi,fun j hj=>hw j hj⟩
theorem bF.restore {M0:Nat→Prop} {g0:Where} {s0:AS} {a0:Act} {wS:World} {pm:List Nat} (hr:bF W N w0 M g s a w) (h:bF W N w0 M0 g0 s0 a0 wS) (hg: ∀ n,M0 n→M n∧g n=g0 n) (hb: ∀ p ∈ pm, ∃ cs,s0.box p=some ⟨true,cs⟩)
  (hk: ∀ p ∈ pm,w.heap[(g0 p).1]? =wS.heap[(g0 p).1]?) (hsz:wS.heap.size≤w.heap.size) (hap: ∀ p ∈ pm, ∀ t b,s.box t=some b→t≠p→(g t).1≠(g0 p).1):bF W N w0 M g { s with box:=J3 pm s0.box s.box } a w:=by
 have key: ∀ {t b},J3 pm s0.box s.box t=some b→(t ∈ pm∧s0.box t=some b∧g t=g0 t∧M t)∨(t ∉ pm∧s.box t=some b):=fun {t b} h1=>by
  unfold J3 at h1
  split at h1
  ·rename_i ht
   exact .inl ⟨by simpa using ht,h1,(hg t (h.names.box t b h1).1).2,(hg t (h.names.box t b h1).1).1⟩
  ·rename_i ht
   exact .inr ⟨by simpa using ht,h1⟩
 refine ⟨hr.size,hr.defers,hr.env,⟨hr.names.env,fun t b h1=> ?_⟩,⟨fun t b h1=> ?_,fun t b h1 i v hv=> ?_,fun t b h1 hrw i hi=> ?_,fun t t' b b' h1 hrw h1' hne=> ?_⟩,fun t b h1 hrw=> ?_,hr.frame,hr.pin,hr.tabs⟩
 ·rcases key h1 with ⟨_,h2,_,h4⟩ | ⟨_,h2⟩
  ·exact ⟨h4,fun x hx=>SV.aL (fun n hn=>(hg n hn).1) ((h.names.box t b h2).2 x hx)⟩
  ·exact hr.names.box t b h2
 ·rcases key h1 with ⟨_,h2,h3,_⟩ | ⟨_,h2⟩
  ·rw[h3];exact Nat.lt_of_lt_of_le (h.mem.lt t b h2) hsz
  ·exact hr.mem.lt t b h2
 ·rcases key h1 with ⟨hp,h2,h3,_⟩ | ⟨_,h2⟩
  ·rw[h3]
   have e:=h.mem.cell t b h2 i v hv
   have e2:w.cell? ⟨(g0 t).1,(g0 t).2+i,none⟩=wS.cell? ⟨(g0 t).1,(g0 t).2+i,none⟩:=by
    unfold World.cell?;simp only[hk t hp]
   rw[e2,e]
   exact congrArg some (SV.bu (SV.br (fun n hn=>(hg n hn).2.symm) ((h.names.box t b h2).2 v (List.mem_of_getElem? hv)).1))
  ·exact hr.mem.cell t b h2 i v hv
 ·rcases key h1 with ⟨hp,h2,h3,_⟩ | ⟨_,h2⟩
  ·rw[h3]
   have e2:cC w ⟨(g0 t).1,(g0 t).2+i,none⟩=cC wS ⟨(g0 t).1,(g0 t).2+i,none⟩:=by
    unfold cC;simp only[hk t hp]
   rw[e2];exact h.mem.free t b h2 hrw i hi
  ·exact hr.mem.free t b h2 hrw i hi
 ·rcases key h1 with ⟨hp,h2,h3,_⟩ | ⟨hp,h2⟩<;>rcases key h1' with ⟨hp',h2',h3',_⟩ | ⟨hp',h2'⟩
  ·rw[h3,h3'];exact h.mem.sep t t' b b' h2 hrw h2' hne
  ·rw[h3];exact fun e=>hap t hp t' b' h2' (fun e2=>hne e2.symm) e.symm
  ·rw[h3'];exact hap t' hp' t b h2 hne
  ·exact hr.mem.sep t t' b b' h2 hrw h2' hne
 ·rcases key h1 with ⟨_,h2,h3,_⟩ | ⟨_,h2⟩
  ·rw[h3];exact h.own t b h2 hrw
  ·exact hr.own t b h2 hrw
theorem Ab {A R Z F dm:List Nat} {K:AS→Prop} {Q:Exit→Act→World→Prop} (hok:ops.toList.all (ng N)=true) (hp:iH ops A R Z F=true) (hc:(R++Z).all (iq P ops)=true)
  (hK: ∀ g' s' a' w',bF W N w0 (fun n=>n < s'.next) g' s' a' w'→K s'→Q .normal a' w') (h:bF W N w0 (fun n=>n < s.next) g s a w) (hv:RF P ops A R Z F dm K s):
  wpAny P .any ops Q ops.size (Array.replicate ops.size false) a w:=by
 have Vx:gG ops F=true:=by unfold iH at hp;simp only[Bool.and_eq_true]at hp;exact hp.2
 have hp:j4 ops A R Z F=true:=by unfold iH at hp;simp only[Bool.and_eq_true]at hp;exact hp.1
 obtain ⟨hs,gx⟩:=ny (P:=P) hok hp hc
 have h0:=h.E4 dm
 have hb:=h0.ik (pn:=s.next) fun n hn=>hn
 have hro:=vM h0 hb (env:=uL (dstsOf ops (A++R++Z++F)) s.env) (a':=a) h.size h.defers (fun d v hd=>by
  unfold uL at hd;split at hd
  ·cases hd
  ·exact h.env d v hd) (fun d v hd=>by
  unfold uL at hd;split at hd
  ·cases hd
  ·exact h.names.env d v hd) s.next
 obtain ⟨sr,ar,hk,iR,rJ,bk,hoff,qZ⟩:=og (M:=fun n=>n < s.next) (nm:=s.next) (Nat.lt_irrefl _) (fun h:s.next+1 < s.next=>by omega) hok (fun i hi=>by
  obtain ⟨o,d,h1,h2,h3,_⟩:=gx.WR i hi
  exact ⟨o,h1,h2,d,h3⟩) gx.rA hro hv
 have hlen:(dF (Array.replicate ops.size false) ops.toList 0).length=ops.size:=by
  have key: ∀ (l:List Oper) (k n:Nat),k+l.length≤n→(dF (Array.replicate n false) l k).length=l.length:=by
   intro l
   induction l with
   | nil=>intro k n _;rfl
   | cons o r ih=>
    intro k n hk
    simp only[List.length_cons]at hk
    have:(Array.replicate n false).getD k true=false:=by
     simp[Array.getD_eq_getD_getElem?,show k < n by omega]
    simp only[dF,this,Bool.false_eq_true,if_false,List.length_cons]
    rw[ih (k+1) n (by omega)]
  rw[key _ _ _ (by simp)];simp
 have hfalse: ∀ i, ¬ (Array.replicate ops.size false).getD i false=true:=fun i hi=>by
  simp only[Array.getD_eq_getD_getElem?,Array.getElem?_replicate]at hi
  by_cases hlt:i < ops.size<;>simp[hlt]at hi
 have hnone: ∀ d,d ∈ dstsOf ops (R++Z++F)→sr.env d=none:=fun d hd=>by
  have hA:d ∉ dstsOf ops A:=fun h=>gx.dA d h hd
  rw[(hoff d hA).1]
  show uL _ _ d=none
  unfold uL
  rw[if_pos]
  simp only[List.contains_eq_mem,decide_eq_true_eq]
  rw[show A++R++Z++F=A++(R++Z++F) by simp,cu]
  exact List.mem_append_right _ hd
 have jS:sr.box=fun t=>DL (({ s with box:=nO dm s.box }:AS).box t):=iR
 refine E9 (hl:=h0.laid) (s0:={ s with box:=nO dm s.box }) (sr:=sr) (base:=s.next) (pm:=[]) (V:=fun l k s'=>da P ops s.next K (l++(Z++F)) k s') hs gx h0 qZ bk.names jS hnone (fun p hp=>nomatch hp) (fun i r k s' o hv ho=>by simp only[List.cons_append,da,ho]at hv;exact hv)
  (fun fuel L done rem g sp ap a w βf hR hsz hf hd hI hv hall=>RM hs gx (fun g' s' a' w' hr hk'=>hK g' s' a' w' (h0.il (pn:=s.next) (fun n hn=>hn) hr) hk') fuel L done rem g sp ap a w βf hR hsz hf hd hI hv hall Vx) ops.size _ [] R g ⟨sr.env,nO dm s.box,s.next⟩ ar a w (fun _=>0) rfl (by simp) hlen
  (fun i o ho hi=>absurd hi (hfalse i)) ⟨?_,fun d hd=> ?_,h.size,h.defers,fun d hd=>rfl,fun d hd=> ?_,fun d v hd hx=> ?_,fun i hi hl=>absurd hl (hfalse i),fun i hi j hj hl=>absurd hl (hfalse i),(fun i hi=>nomatch hi),fun i hi=>hfalse i,fun i hi=>hfalse i,fun p hp=>nomatch hp⟩ (by simpa using hk)
 ·refine bF.mono (M:=fun n=>n < s.next) (fun n hn=>by simp;omega) ⟨bk.size,bk.defers,bk.env,⟨bk.names.env,h0.names.box⟩,⟨h0.mem.lt,h0.mem.cell,h0.mem.free,h0.mem.sep⟩,hb.own,hb.frame,hb.pin,hb.tabs⟩
 ·refine (hoff d fun KP=> ?_).2
  obtain ⟨i,hi,o,ho,KQ⟩:=j5 KP
  exact hd i hi (hfalse i) (hH ho KQ)
 ·exact hnone d (by rw[cu,cu];exact List.mem_append_left _ (List.mem_append_right _ hd))
 ·have hA:d ∉ dstsOf ops A:=fun KP=>by
   obtain ⟨i,hi,o,ho,KQ⟩:=j5 KP
   exact hx i hi (hfalse i) (hH ho KQ)
  rw[← (hoff d hA).2]
  exact bk.env d v hd
theorem xB {A R Z F dm pm:List Nat} {K:AS→Prop} {Q:Exit→Act→World→Prop} (hok:ops.toList.all (ng N)=true) (hp:iH ops A R Z F=true) (hc:(R++Z).all (iq P ops)=true)
  (hK: ∀ g' s' a' w',bF W N w0 (fun n=>n < s'.next) g' s' a' w'→K s'→Q .normal a' w') (h:bF W N w0 (fun n=>n < s.next) g s a w) (hv:Nh P ops A R Z F dm pm K s):
  wpAny P .any ops Q ops.size (Array.replicate ops.size false) a w:=by
 have Vx:gG ops F=true:=by unfold iH at hp;simp only[Bool.and_eq_true]at hp;exact hp.2
 have hp:j4 ops A R Z F=true:=by unfold iH at hp;simp only[Bool.and_eq_true]at hp;exact hp.1
 obtain ⟨hs,gx⟩:=ny (P:=P) hok hp hc
 obtain ⟨Px,hv⟩:=hv
 have h0:=h.E4 dm
 have hb:=h0.ik (pn:=s.next) fun n hn=>hn
 have hro:=vM h0 hb (env:=uL (dstsOf ops (A++R++Z++F)) s.env) (a':=a) h.size h.defers (fun d v hd=>by
  unfold uL at hd;split at hd
  ·cases hd
  ·exact h.env d v hd) (fun d v hd=>by
  unfold uL at hd;split at hd
  ·cases hd
  ·exact h.names.env d v hd) s.next
 obtain ⟨sr,ar,hk,iR,rJ,bk,hoff,qZ⟩:=og (M:=fun n=>n < s.next) (nm:=s.next) (Nat.lt_irrefl _) (fun h:s.next+1 < s.next=>by omega) hok (fun i hi=>by
  obtain ⟨o,d,h1,h2,h3,_⟩:=gx.WR i hi
  exact ⟨o,h1,h2,d,h3⟩) gx.rA hro hv
 have hlen:(dF (Array.replicate ops.size false) ops.toList 0).length=ops.size:=by
  have key: ∀ (l:List Oper) (k n:Nat),k+l.length≤n→(dF (Array.replicate n false) l k).length=l.length:=by
   intro l
   induction l with
   | nil=>intro k n _;rfl
   | cons o r ih=>
    intro k n hk
    simp only[List.length_cons]at hk
    have:(Array.replicate n false).getD k true=false:=by
     simp[Array.getD_eq_getD_getElem?,show k < n by omega]
    simp only[dF,this,Bool.false_eq_true,if_false,List.length_cons]
    rw[ih (k+1) n (by omega)]
  rw[key _ _ _ (by simp)];simp
 have hfalse: ∀ i, ¬ (Array.replicate ops.size false).getD i false=true:=fun i hi=>by
  simp only[Array.getD_eq_getD_getElem?,Array.getElem?_replicate]at hi
  by_cases hlt:i < ops.size<;>simp[hlt]at hi
 have hnone: ∀ d,d ∈ dstsOf ops (R++Z++F)→sr.env d=none:=fun d hd=>by
  have hA:d ∉ dstsOf ops A:=fun h=>gx.dA d h hd
  rw[(hoff d hA).1]
  show uL _ _ d=none
  unfold uL
  rw[if_pos]
  simp only[List.contains_eq_mem,decide_eq_true_eq]
  rw[show A++R++Z++F=A++(R++Z++F) by simp,cu]
  exact List.mem_append_right _ hd
 have jS:sr.box=fun t=>DL (({ s with box:=nO dm s.box }:AS).box t):=iR
 have KO: ∀ p ∈ pm,(g p).1 < w.heap.size∧ ¬ jc g { s with box:=nO dm s.box } (g p).1:=fun p hp=>by
  obtain ⟨h1,cs,h2⟩:=Px p hp
  refine ⟨h.mem.lt p _ h2,fun ⟨t,c,hc,hrw,e⟩=> ?_⟩
  have pV:nO dm s.box t=some c:=hc
  unfold nO at pV
  split at pV
  ·split at pV
   ·cases pV;cases hrw
   ·cases pV
  ·rename_i hn
   exact h.mem.sep t p c _ pV hrw h2 (fun e2=>hn (e2▸h1)) e
 refine E9 (hl:=h0.laid) (s0:={ s with box:=nO dm s.box }) (sr:=sr) (base:=s.next) (pm:=pm) (V:=fun l k s'=>da P ops s.next (fun s1=>da P ops s.next K (Z++F) R.length ⟨s1.env,J3 pm s.box s1.box,s1.next⟩) l k s') hs gx h0 qZ bk.names jS hnone KO (fun i r k s' o hv ho=>by simp only[da,ho]at hv;exact hv)
  (fun fuel L done rem g1 sp ap a1 w1 βf hR hsz hf hd hI hv hall=>by
   have nM:rem=[]:=by
    cases rem with
    | nil=>rfl
    | cons r rest=>exact absurd (hall r (.inr (.inl (by rw[hR];simp)))) (hI.lR r (by simp))
   subst nM
   have hdl:done.length=R.length:=by rw[hR];simp
   have RN:=h0.il (pn:=s.next) (fun n hn=>hn) (hI.main.act hI.zW hI.Pw fun d=>(hI.link d fun i hi hn=>absurd (hall i (.inl hi)) hn).symm)
   have sj:=RN.restore (pm:=pm) h (fun n hn=>⟨by have:n < s.next:=hn;omega,(hI.main.pin n hn).2⟩) (fun p hp=>(Px p hp).2) (fun p hp=>hI.main.frame.block _ (KO p hp).1 (KO p hp).2) hI.main.frame.size hI.ap
   rw[hdl]at sj
   have JZ:da P ops s.next K (Z++F) R.length ⟨sp.env,J3 pm s.box sp.box,s.next+4*(done.length+1)⟩:=hv
   obtain ⟨g',s',h1,h2⟩:=Nk (w0:=w0) Z R.length g1 _ gx.nZ (fun i hi=>by
    obtain ⟨ex,lo,hi',no⟩:=hI.zs i hi (hall i (.inr (.inr hi)))
    refine ⟨ex,Nat.le_trans h.frame.size lo,hi',fun t b hb=> ?_⟩
    have hb':J3 pm s.box sp.box t=some b:=hb
    unfold J3 at hb'
    split at hb'
    ·rename_i ht
     have hp:t ∈ pm:=by simpa using ht
     obtain ⟨_,cs,h3⟩:=Px t hp
     have:=(KO t hp).1
     have e:g1 t=g t:=(hI.main.pin t (h.names.box t _ h3).1).2
     have lo':w.heap.size≤βf i:=lo
     rw[e];omega
    ·exact no t b hb') (fun i hi j hj=>hI.zi i hi j hj (hall i (.inr (.inr hi))) (hall j (.inr (.inr hj)))) (sj.next _) JZ
   refine KM hs hK F (R.length+Z.length) fuel L g' s' a1 w1 Vx hsz hf (fun i hi=> ?_) (fun i hi=>(gx.inF i hi).1) hd h1 h2
   constructor
   ·exact fun h hF=>hI.lF i hF h
   ·intro hF
    rcases gx.all i hi with h | h | h | h
    ·exact hall i (.inl h)
    ·exact hall i (.inr (.inl h))
    ·exact hall i (.inr (.inr h))
    ·exact absurd h hF) ops.size _ [] R g ⟨sr.env,nO dm s.box,s.next⟩ ar a w (fun _=>0) rfl (by simp) hlen
  (fun i o ho hi=>absurd hi (hfalse i)) ⟨?_,fun d hd=> ?_,h.size,h.defers,fun d hd=>rfl,fun d hd=> ?_,fun d v hd hx=> ?_,fun i hi hl=>absurd hl (hfalse i),fun i hi j hj hl=>absurd hl (hfalse i),(fun i hi=>nomatch hi),fun i hi=>hfalse i,fun i hi=>hfalse i,fun p hp t b hb hne=> ?_⟩ hk
 ·refine bF.mono (M:=fun n=>n < s.next) (fun n hn=>by simp;omega) ⟨bk.size,bk.defers,bk.env,⟨bk.names.env,h0.names.box⟩,⟨h0.mem.lt,h0.mem.cell,h0.mem.free,h0.mem.sep⟩,hb.own,hb.frame,hb.pin,hb.tabs⟩
 ·refine (hoff d fun KP=> ?_).2
  obtain ⟨i,hi,o,ho,KQ⟩:=j5 KP
  exact hd i hi (hfalse i) (hH ho KQ)
 ·exact hnone d (by rw[cu,cu];exact List.mem_append_left _ (List.mem_append_right _ hd))
 ·have hA:d ∉ dstsOf ops A:=fun KP=>by
   obtain ⟨i,hi,o,ho,KQ⟩:=j5 KP
   exact hx i hi (hfalse i) (hH ho KQ)
  rw[← (hoff d hA).2]
  exact bk.env d v hd
 ·obtain ⟨h1,cs,h2⟩:=Px p hp
  have hb':nO dm s.box t=some b:=hb
  unfold nO at hb'
  split at hb'
  ·split at hb'
   ·rename_i b0 h3
    exact fun e=>h.mem.sep p t _ b0 h2 rfl h3 (fun e2=>hne e2.symm) e.symm
   ·cases hb'
  ·exact fun e=>h.mem.sep p t _ b h2 rfl hb' (fun e2=>hne e2.symm) e.symm
theorem xC {A R Z F dm pm:List Nat} {tr:dc} {K:AS→Prop} {Q:Exit→Act→World→Prop} (hok:ops.toList.all (ng N)=true) (hp:j4 ops A R Z F=true) (ht:EY ops F tr=true) (hc:(R++Z).all (iq P ops)=true)
  (hK: ∀ g' s' a' w',bF W N w0 (fun n=>n < s'.next) g' s' a' w'→K s'→Q .normal a' w') (h:bF W N w0 (fun n=>n < s.next) g s a w) (hv:Ni P ops A R Z F dm pm tr K s):
  wpAny P .any ops Q ops.size (Array.replicate ops.size false) a w:=by
 obtain ⟨hs,gx⟩:=ny (P:=P) hok hp hc
 obtain ⟨Px,hv⟩:=hv
 have h0:=h.E4 dm
 have hb:=h0.ik (pn:=s.next) fun n hn=>hn
 have hro:=vM h0 hb (env:=uL (dstsOf ops (A++R++Z++F)) s.env) (a':=a) h.size h.defers (fun d v hd=>by
  unfold uL at hd;split at hd
  ·cases hd
  ·exact h.env d v hd) (fun d v hd=>by
  unfold uL at hd;split at hd
  ·cases hd
  ·exact h.names.env d v hd) s.next
 obtain ⟨sr,ar,hk,iR,rJ,bk,hoff,qZ⟩:=og (M:=fun n=>n < s.next) (nm:=s.next) (Nat.lt_irrefl _) (fun h:s.next+1 < s.next=>by omega) hok (fun i hi=>by
  obtain ⟨o,d,h1,h2,h3,_⟩:=gx.WR i hi
  exact ⟨o,h1,h2,d,h3⟩) gx.rA hro hv
 have hlen:(dF (Array.replicate ops.size false) ops.toList 0).length=ops.size:=by
  have key: ∀ (l:List Oper) (k n:Nat),k+l.length≤n→(dF (Array.replicate n false) l k).length=l.length:=by
   intro l
   induction l with
   | nil=>intro k n _;rfl
   | cons o r ih=>
    intro k n hk
    simp only[List.length_cons]at hk
    have:(Array.replicate n false).getD k true=false:=by
     simp[Array.getD_eq_getD_getElem?,show k < n by omega]
    simp only[dF,this,Bool.false_eq_true,if_false,List.length_cons]
    rw[ih (k+1) n (by omega)]
  rw[key _ _ _ (by simp)];simp
 have hfalse: ∀ i, ¬ (Array.replicate ops.size false).getD i false=true:=fun i hi=>by
  simp only[Array.getD_eq_getD_getElem?,Array.getElem?_replicate]at hi
  by_cases hlt:i < ops.size<;>simp[hlt]at hi
 have hnone: ∀ d,d ∈ dstsOf ops (R++Z++F)→sr.env d=none:=fun d hd=>by
  have hA:d ∉ dstsOf ops A:=fun h=>gx.dA d h hd
  rw[(hoff d hA).1]
  show uL _ _ d=none
  unfold uL
  rw[if_pos]
  simp only[List.contains_eq_mem,decide_eq_true_eq]
  rw[show A++R++Z++F=A++(R++Z++F) by simp,cu]
  exact List.mem_append_right _ hd
 have jS:sr.box=fun t=>DL (({ s with box:=nO dm s.box }:AS).box t):=iR
 have KO: ∀ p ∈ pm,(g p).1 < w.heap.size∧ ¬ jc g { s with box:=nO dm s.box } (g p).1:=fun p hp=>by
  obtain ⟨h1,cs,h2⟩:=Px p hp
  refine ⟨h.mem.lt p _ h2,fun ⟨t,c,hc,hrw,e⟩=> ?_⟩
  have pV:nO dm s.box t=some c:=hc
  unfold nO at pV
  split at pV
  ·split at pV
   ·cases pV;cases hrw
   ·cases pV
  ·rename_i hn
   exact h.mem.sep t p c _ pV hrw h2 (fun e2=>hn (e2▸h1)) e
 refine E9 (hl:=h0.laid) (s0:={ s with box:=nO dm s.box }) (sr:=sr) (base:=s.next) (pm:=pm) (V:=fun l k s'=>da P ops s.next (fun s1=>da P ops s.next (fun s2=>Ck P ops (s.next+4*(R.length+Z.length+1)) K tr 0 s2) Z R.length ⟨s1.env,J3 pm s.box s1.box,s1.next⟩) l k s') hs gx h0 qZ bk.names jS hnone KO (fun i r k s' o hv ho=>by simp only[da,ho]at hv;exact hv)
  (fun fuel L done rem g1 sp ap a1 w1 βf hR hsz hf hd hI hv hall=>by
   have nM:rem=[]:=by
    cases rem with
    | nil=>rfl
    | cons r rest=>exact absurd (hall r (.inr (.inl (by rw[hR];simp)))) (hI.lR r (by simp))
   subst nM
   have hdl:done.length=R.length:=by rw[hR];simp
   have RN:=h0.il (pn:=s.next) (fun n hn=>hn) (hI.main.act hI.zW hI.Pw fun d=>(hI.link d fun i hi hn=>absurd (hall i (.inl hi)) hn).symm)
   have sj:=RN.restore (pm:=pm) h (fun n hn=>⟨by have:n < s.next:=hn;omega,(hI.main.pin n hn).2⟩) (fun p hp=>(Px p hp).2) (fun p hp=>hI.main.frame.block _ (KO p hp).1 (KO p hp).2) hI.main.frame.size hI.ap
   rw[hdl]at sj
   have JZ:da P ops s.next (fun s2=>Ck P ops (s.next+4*(R.length+Z.length+1)) K tr 0 s2) Z R.length ⟨sp.env,J3 pm s.box sp.box,s.next+4*(done.length+1)⟩:=hv
   obtain ⟨g',s',h1,h2⟩:=Nk (w0:=w0) (F:=[]) (K:=fun s2=>Ck P ops (s.next+4*(R.length+Z.length+1)) K tr 0 s2) Z R.length g1 _ gx.nZ (fun i hi=>by
    obtain ⟨ex,lo,hi',no⟩:=hI.zs i hi (hall i (.inr (.inr hi)))
    refine ⟨ex,Nat.le_trans h.frame.size lo,hi',fun t b hb=> ?_⟩
    have hb':J3 pm s.box sp.box t=some b:=hb
    unfold J3 at hb'
    split at hb'
    ·rename_i ht
     have hp:t ∈ pm:=by simpa using ht
     obtain ⟨_,cs,h3⟩:=Px t hp
     have:=(KO t hp).1
     have e:g1 t=g t:=(hI.main.pin t (h.names.box t _ h3).1).2
     have lo':w.heap.size≤βf i:=lo
     rw[e];omega
    ·exact no t b hb') (fun i hi j hj=>hI.zi i hi j hj (hall i (.inr (.inr hi))) (hall j (.inr (.inr hj)))) (sj.next _) (by rw[List.append_nil];exact JZ)
   have hiff: ∀ i,i < ops.size→(L.getD i false=true↔i ∉ F):=fun i hi=>by
    constructor
    ·exact fun h hF=>hI.lF i hF h
    ·intro hF
     rcases gx.all i hi with h | h | h | h
     ·exact hall i (.inl h)
     ·exact hall i (.inr (.inl h))
     ·exact hall i (.inr (.inr h))
     ·exact absurd h hF
   have hL:L=xA ops F:=Array.ext (by simp[xA,hsz]) fun i e1 e2=>by
    have hi:i < ops.size:=by rw[← hsz];exact e1
    have:=hiff i hi
    rw[Array.getD_eq_getD_getElem?,Array.getElem?_eq_getElem e1,Option.getD_some]at this
    have e3:(xA ops F)[i]= !F.contains i:=by simp[xA]
    rw[e3,Bool.eq_iff_iff,this];simp
   have ht':=ht
   unfold EY at ht'
   rw[Bool.and_eq_true, ← hL,hf]at ht'
   exact ET hok hK fuel L tr 0 g' _ a1 w1 ht'.1 ht'.2 (h1.next _) h2) ops.size _ [] R g ⟨sr.env,nO dm s.box,s.next⟩ ar a w (fun _=>0) rfl (by simp) hlen
  (fun i o ho hi=>absurd hi (hfalse i)) ⟨?_,fun d hd=> ?_,h.size,h.defers,fun d hd=>rfl,fun d hd=> ?_,fun d v hd hx=> ?_,fun i hi hl=>absurd hl (hfalse i),fun i hi j hj hl=>absurd hl (hfalse i),(fun i hi=>nomatch hi),fun i hi=>hfalse i,fun i hi=>hfalse i,fun p hp t b hb hne=> ?_⟩ hk
 ·refine bF.mono (M:=fun n=>n < s.next) (fun n hn=>by simp;omega) ⟨bk.size,bk.defers,bk.env,⟨bk.names.env,h0.names.box⟩,⟨h0.mem.lt,h0.mem.cell,h0.mem.free,h0.mem.sep⟩,hb.own,hb.frame,hb.pin,hb.tabs⟩
 ·refine (hoff d fun KP=> ?_).2
  obtain ⟨i,hi,o,ho,KQ⟩:=j5 KP
  exact hd i hi (hfalse i) (hH ho KQ)
 ·exact hnone d (by rw[cu,cu];exact List.mem_append_left _ (List.mem_append_right _ hd))
 ·have hA:d ∉ dstsOf ops A:=fun KP=>by
   obtain ⟨i,hi,o,ho,KQ⟩:=j5 KP
   exact hx i hi (hfalse i) (hH ho KQ)
  rw[← (hoff d hA).2]
  exact bk.env d v hd
 ·obtain ⟨h1,cs,h2⟩:=Px p hp
  have hb':nO dm s.box t=some b:=hb
  unfold nO at hb'
  split at hb'
  ·split at hb'
   ·rename_i b0 h3
    exact fun e=>h.mem.sep p t _ b0 h2 rfl h3 (fun e2=>hne e2.symm) e.symm
   ·cases hb'
  ·exact fun e=>h.mem.sep p t _ b h2 rfl hb' (fun e2=>hne e2.symm) e.symm
end
end Go.cn
