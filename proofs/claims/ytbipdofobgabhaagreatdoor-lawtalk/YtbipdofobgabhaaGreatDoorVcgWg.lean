/-
  The calculus: a region by a plan serves every order: all together. Nothing here speaks of a program.
-/
import Derived.Test.YtbipdofobgabhaaGreatDoorVcgWf
namespace Go.bA
set_option linter.unusedSectionVars false
set_option linter.unusedSimpArgs false
set_option linter.unusedVariables false
section
variable {P:Program} [Tables P] {W:Nat→Prop} {N:Nat} {w0:Base P} {M:Nat→Prop} {g:Where} {s:AS} {a:Act} {w:World} {ops:Array Oper} {nm:Nat} {o:Oper}
theorem Og {l m:List Nat} (h:jg ops (l++m)=true):jg ops m=true:=by
 induction l with
 | nil=>exact h
 | cons i r ih=>simp only[List.cons_append,jg,Bool.and_eq_true]at h;exact ih h.2
def opened (ops:Array Oper) (A:List Nat) (L:Array Bool) (env:Nat→Option AV) (x:Nat):Option AV:=if A.all (fun j=>L.getD j false|| !(fe ops j).contains x)=true then env x else none
theorem Js {A:List Nat} {L:Array Bool} {env:Nat→Option AV} {x:Nat} (h: ∀ j ∈ A, ¬ L.getD j false=true→x ∉ fe ops j):opened ops A L env x=env x:=by
 unfold opened
 rw[if_pos (List.all_eq_true.2 fun j hj=>by
  by_cases hl:L.getD j false=true
  ·simp[hl]
  ·have:=h j hj hl
   simp[this])]
theorem o7 {A:List Nat} {L:Array Bool} {env:Nat→Option AV} {x:Nat} {v:AV} (h:opened ops A L env x=some v):env x=some v∧ ∀ j ∈ A, ¬ L.getD j false=true→x ∉ fe ops j:=by
 unfold opened at h
 split at h
 ·rename_i hall
  refine ⟨h,fun j hj hl hx=> ?_⟩
  have:=List.all_eq_true.1 hall j hj
  simp only[Bool.or_eq_true,Bool.not_eq_true',List.contains_eq_mem,decide_eq_false_iff_not]at this
  rcases this with h1 | h1
  ·exact hl h1
  ·exact h1 hx
 ·cases h
theorem Db {α:Type} {x:α} {l m n:List α} (h:x ∈ l∨x ∈ m∨x ∈ n):x ∈ l++m++n:=by simp only[List.mem_append];rcases h with h | h | h<;>simp[h]
theorem Jt {L:Array Bool} (hsz:L.size=ops.size) (h:dn L ops.toList 0=[]) {i:Nat} (hi:i < ops.size):L.getD i false=true:=Classical.byContradiction fun hx=>by
 cases ho:ops[i]? with
 | none=>rw[Array.getElem?_eq_none_iff]at ho;omega
 | some o=>
  have:=yH (aad (by omega) hx) ho
  rw[h]at this;simp at this
theorem Ju (hs:Static ops N) {L:Array Bool} (hsz:L.size=ops.size) (h:dn L ops.toList 0≠[]):Region.ready .any ops L≠[]:=by
 cases qW:dn L ops.toList 0 with
 | nil=>exact absurd qW h
 | cons p rest=>
  obtain ⟨i,o⟩:=p
  obtain ⟨_,h2,h3⟩:=jd ops.toList 0 (i,o) (by rw[qW];simp)
  have ho:ops[i]? =some o:=by simpa using h3
  have hlt:i < ops.size:=(Array.getElem?_eq_some_iff.1 ho).1
  have:i ∈ Region.ready .any ops L:=mem_ready.2 ⟨h2,o,ho,fun e he hb=>by
   have hlt':=hs.lt i o ho e he hb
   exact tv hsz (by omega) (uB ops.toList 0 qW e.on (Nat.zero_le _) hlt')⟩
  exact fun h=>by rw[h]at this;cases this
theorem Dc {A R Z F:List Nat} {base:Nat} {Q:Exit→Act→World→Prop} {s0 sr:AS} {g0:Where} {a0:Act} {wS:World} {hl:Laid P wS} {pm:List Nat} {V:List Nat→Nat→AS→Prop} (hs:Static ops N) (hp:Jr P ops A R Z F)
  (h0:bP W N w0 (fun n=>n < base) g0 s0 a0 wS)
  (zH: ∀ i ∈ A, ∃ o d v,ops[i]? =some o∧o.dst=some d∧sr.env d=some v∧dT P base sr o.op=some (some v,none)∧AV.ok (fun n=>n < base) v) (hsn:Names (fun n=>n < base) sr) (hsb:sr.box=fun t=>Jm (s0.box t))
  (hsD: ∀ d ∈ dstsOf ops (R++Z++F),sr.env d=none) (Q9: ∀ p ∈ pm,(g0 p).1 < wS.heap.size∧ ¬ oB g0 s0 (g0 p).1)
  (hV: ∀ i r k s o,V (i::r) k s→ops[i]? =some o→kv P (base+4*(k+1)) o (V r (k+1)) s)
  (hend: ∀ (fuel:Nat) (L:Array Bool) (done rem:List Nat) (g:Where) (sp:AS) (ap a:Act) (w:World) (βf:Nat→Nat),R=done++rem→L.size=ops.size→(dn L ops.toList 0).length=fuel→Down ops L→
   Inv P (oB g0 s0) N ⟨wS,base,g0,hl⟩ ops base A R Z F sr.env g0 pm L done rem g sp ap a w βf→V rem done.length sp→(∀ i,i ∈ A∨i ∈ R∨i ∈ Z→L.getD i false=true)→wpAny P .any ops Q fuel L a w):
  ∀ (fuel:Nat) (L:Array Bool) (done rem:List Nat) (g:Where) (sp:AS) (ap a:Act) (w:World) (βf:Nat→Nat),R=done++rem→L.size=ops.size→(dn L ops.toList 0).length=fuel→Down ops L→
   Inv P (oB g0 s0) N ⟨wS,base,g0,hl⟩ ops base A R Z F sr.env g0 pm L done rem g sp ap a w βf→V rem done.length sp→wpAny P .any ops Q fuel L a w:=by
 intro fuel
 induction fuel with
 | zero=>
  intro L done rem g sp ap a w βf hR hsz hf iI hI hv
  exact hend 0 L done rem g sp ap a w βf hR hsz hf iI hI hv (fun i hi=>by
   refine Jt hsz (List.length_eq_zero_iff.1 hf) ?_
   rcases hi with h | h | h
   ·obtain ⟨o,d,ho,_⟩:=hp.inA i h
    exact (Array.getElem?_eq_some_iff.1 ho).1
   ·obtain ⟨o,ho,_⟩:=hp.inR i h
    exact (Array.getElem?_eq_some_iff.1 ho).1
   ·obtain ⟨o,t,d,ho,_⟩:=hp.inZ i h
    exact (Array.getElem?_eq_some_iff.1 ho).1)
 | succ fuel ih=>
  intro L done rem g sp ap a w βf hR hsz hf iI hI hv
  by_cases hall: ∀ i,i ∈ A∨i ∈ R∨i ∈ Z→L.getD i false=true
  ·exact hend _ L done rem g sp ap a w βf hR hsz hf iI hI hv hall
  refine ⟨fun hr=>absurd hr (Ju hs hsz fun h=>by rw[h]at hf;simp at hf),fun i hi=> ?_⟩
  obtain ⟨hun,o,ho,Gt⟩:=mem_ready.1 hi
  have XW:i < ops.size:=(Array.getElem?_eq_some_iff.1 ho).1
  have hiL:i < L.size:=by omega
  have KY: ¬ L.getD i false=true:=fun h=>lun hun h
  have hw: ∀ j,waits ops ops.size i j=true→L.getD j false=true:=fun j h=>gU iI ops.size i j o ho Gt h
  have hfuel:(dn (L.setIfInBounds i true) ops.toList 0).length=fuel:=by have:=yH hun ho;omega
  have Jv:=iI.set hiL ho Gt
  have hsz':(L.setIfInBounds i true).size=ops.size:=by simpa using hsz
  have keep: ∀ j,L.getD j false=true→(L.setIfInBounds i true).getD j false=true:=fun j h=>(Q8 hiL j).2 (.inr h)
  have back: ∀ j,j≠i→(L.setIfInBounds i true).getD j false=true→L.getD j false=true:=fun j hj h=>((Q8 hiL j).1 h).resolve_left hj
  have unl: ∀ j ∈ A, ∀ x,(∀ j ∈ A, ¬ (L.setIfInBounds i true).getD j false=true→x ∉ fe ops j)→x ∉ fe ops i→ ¬ L.getD j false=true→x ∉ fe ops j:=fun j hj x h1 h2 h3=>by
   by_cases e:j=i
   ·rw[e];exact h2
   ·exact h1 j hj fun h4=>h3 (back j e h4)
  rcases hp.all i XW with hA | Mk | hZ | hF
  ·
   obtain ⟨o',d,v,ho',hd,hv1,P4,Q7⟩:=zH i hA
   rw[ho]at ho';cases ho'
   obtain ⟨o',d',ho',hpure,hd',Wm,Jw⟩:=hp.inA i hA
   rw[ho]at ho';cases ho'
   rw[hd]at hd';cases hd'
   have hop: ∀ x ∈ o.looksAt ops,opened ops A L sr.env x=sr.env x:=fun x hx=>Js fun j hj Gu XY=>Gu (hw j (Jw j hj x XY hx))
   have hro:=C9 h0 hI.main (env:=opened ops A L sr.env) hI.Pz hI.XX (fun x u hu=>hI.ro x u (o7 hu).1 (o7 hu).2) (fun x u hu=>hsn.env x u (o7 hu).1) 0
   have he2:dT P base ⟨opened ops A L sr.env,fun t=>Jm (s0.box t),0⟩ o.op=some (some v,none):=by
    rw[← P4]
    exact (Mi hsn (fun x hx=>(hop x hx).symm) hsb).symm
   obtain ⟨g',w',r,hrun,hsame,bH,hval,_⟩:=gT (o:=o) hro (Nat.lt_irrefl base) he2
   have tj:Kept w w':=bH.frame
   have aag:AV.aq g' v=AV.aq g0 v:=AV.bu (AV.aY (fun n hn=>hsame n hn) Q7)
   have Uz:d < N:=hs.dN i o ho d hd
   refine xc ho (hs.gd i o ho) ?_
   unfold Oper.wp
   rw[hrun,hval]
   simp only[Oper.upon]
   rw[hd,aag]
   have Wo:=fun x=>xd (a:=a) (u:=AV.aq g0 v) (x:=x) (d:=d) (by rw[hI.Pz];exact Uz)
   have hap:ap.tmps[d]? =some (AV.aq g0 v):=by
    have h1:=hI.main.env d v (by rw[hI.UD d (fg ho hd hA)];exact hv1)
    rw[h1]
    exact congrArg some (AV.bu (AV.aY (fun n hn=>(hI.main.pin n hn).2) Q7))
   refine ih _ done rem g sp ap _ w' βf hR hsz' hfuel Jv ⟨hI.main.kept tj,fun x hx=> ?_,by rw[yI];exact hI.Pz,by rw[put_defers];exact hI.XX,hI.UD,hI.UE,fun x u hu hx=> ?_,fun j hj Gu=> ?_,fun j hj k hk h1 h2=> ?_,fun j hj=>keep j (hI.lD j hj),fun j hj h=> ?_,fun j hj h=> ?_,hI.ap⟩ hv
   ·rw[Wo]
    split
    ·rename_i e;subst e;exact hap
    ·rename_i e
     exact hI.link x fun j hj=>unl j hj x hx fun h=>e (dst_eq ho hd h)
   ·rw[Wo]
    split
    ·rename_i e;subst e;rw[hv1]at hu;cases hu;rfl
    ·rename_i e
     exact hI.ro x u hu fun j hj=>unl j hj x hx fun h=>e (dst_eq ho hd h)
   ·have hji:j≠i:=fun e=>hp.jA i hA (Db (.inr (.inl (e▸hj))))
    obtain ⟨⟨oj,t,dj,zl,k1,k2,k3,k4,k5,k6⟩,k7,k8,k9⟩:=hI.zs j hj (back j hji Gu)
    have V1:dj≠d:=fun e=>hp.dA d (fg ho hd hA) (by rw[df,df];exact List.mem_append_left _ (List.mem_append_right _ (e▸fg k1 k3 hj)))
    exact ⟨⟨oj,t,dj,zl,k1,k2,k3,k4,by rw[Wo,if_neg V1];exact k5,by rw[tj.heap k8];exact k6⟩,k7,Nat.lt_of_lt_of_le k8 tj.size,k9⟩
   ·have e1:j≠i:=fun e=>hp.jA i hA (Db (.inr (.inl (e▸hj))))
    have e2:k≠i:=fun e=>hp.jA i hA (Db (.inr (.inl (e▸hk))))
    exact hI.zi j hj k hk (back j e1 h1) (back k e2 h2)
   ·have e1:j≠i:=fun e=>hp.jA i hA (Db (.inl (by rw[hR, ← e];simp[hj])))
    exact hI.lR j hj (back j e1 h)
   ·have e1:j≠i:=fun e=>hp.jA i hA (Db (.inr (.inr (e▸hj))))
    exact hI.lF j hj (back j e1 h)
  ·
   have hnd:i ∉ done:=fun h=>KY (hI.lD i h)
   have Wp:i ∈ rem:=by rw[hR]at Mk;exact (List.mem_append.1 Mk).resolve_left hnd
   cases rem with
   | nil=>cases Wp
   | cons r0 rest=>
    have hc:=Og (hR▸hp.cR:jg ops (done++r0::rest)=true)
    simp only[jg,Bool.and_eq_true]at hc
    have hi0:i=r0:=by
     rcases List.mem_cons.1 Wp with h | h
     ·exact h
     ·exact absurd (hw r0 (List.all_eq_true.1 hc.1 i h)) (hI.lR r0 (by simp))
    subst hi0
    obtain ⟨o',ho',hop,aah,Jw⟩:=hp.inR i Mk
    rw[ho]at ho';cases ho'
    replace hv:=hV _ _ _ _ _ hv ho
    ·have hx1: ∀ x ∈ o.op.operands,a.eval x=ap.eval x:=fun x hx=>(Oe fun t ht=>hI.link t fun j hj Gu XY=>Gu (hw j (Jw j hj t XY (kh hx ht)))).symm
     refine xc ho (hs.gd i _ ho) ?_
     refine Q5 hop aah hv hI.main hx1 fun v g' bx w' hok bH hkeep hnew hk=> ?_
     obtain ⟨dst,op,type,pos,after,guard⟩:=o
     simp only
     have Uz: ∀ x,dst=some x→x < N:=fun x hx=>hs.dN i _ ho x hx
     have Gv: ∀ (b:Act) (x:Nat),b.tmps.size=N→(b.put dst (AV.aq g' v)).tmps[x]? =if dst=some x then some (AV.aq g' v) else b.tmps[x]? :=fun b x hb=>by
      cases dst with
      | none=>simp[Act.put]
      | some d=>
       rw[xd (by rw[hb];exact Uz d rfl)]
       by_cases e:x=d
       ·subst e;simp
       ·rw[if_neg e,if_neg (fun h=>e (Option.some.inj h).symm)]
     have kJ: ∀ x,dst≠some x→(({ sp with box:=bx }:AS).put dst (some v)).env x=sp.env x:=fun x hx=>by
      cases dst with
      | none=>rfl
      | some d=>exact bI _ _ _ _ fun e=>hx (by rw[e])
     have hnd: ∀ x,x ∈ dstsOf ops A→dst≠some x:=fun x hx e=>hp.dA x hx (by rw[df,df];exact List.mem_append_left _ (List.mem_append_left _ (fg ho e Mk)))
     have aai: ∀ x,x ∈ dstsOf ops Z→dst≠some x:=fun x hx e=>hp.dR x (fg ho e Mk) hx
     have hlen:(done++[i]).length=done.length+1:=by simp
     refine ih _ (done++[i]) rest g' _ _ _ w' βf (by rw[hR];simp) hsz' hfuel Jv ⟨(bH.put Uz hok).mono (fun n hn=>by rw[hlen];omega),fun x hx=> ?_,by rw[yI];exact hI.Pz,by rw[put_defers];exact hI.XX,fun x hx=> ?_,fun x hx=> ?_,fun x u hu hx=> ?_,fun j hj Gu=> ?_,fun j hj k hk h1 h2=> ?_,fun j hj=> ?_,fun j hj h=> ?_,fun j hj h=> ?_,fun p ZJ t b hb hne=> ?_⟩ (by rw[hlen];exact hk)
     ·rw[Gv ap x hI.main.size,Gv a x hI.Pz]
      split
      ·rfl
      ·exact hI.link x fun j hj Gu=>hx j hj fun h=>Gu (back j (fun e=>hp.jA j hj (Db (.inl (e▸Mk)))) h)
     ·rw[kJ x (hnd x hx)];exact hI.UD x hx
     ·rw[kJ x (aai x hx)];exact hI.UE x hx
     ·rw[Gv a x hI.Pz]
      split
      ·rename_i e
       have:=hsD x (by rw[df,df];exact List.mem_append_left _ (List.mem_append_left _ (fg ho e Mk)))
       rw[this]at hu;cases hu
      ·exact hI.ro x u hu fun j hj Gu=>hx j hj fun h=>Gu (back j (fun e=>hp.jA j hj (Db (.inl (e▸Mk)))) h)
     ·have hji:j≠i:=fun e=>hp.jR i Mk (by simp[← e,hj])
      obtain ⟨⟨oj,t,dj,zl,k1,k2,k3,k4,k5,k6⟩,k7,k8,k9⟩:=hI.zs j hj (back j hji Gu)
      obtain ⟨m1,m2⟩:=hkeep _ k8 k9
      have acO:βf j < w'.heap.size:=by
       have:w'.heap[βf j]? =some (.cells zl.toArray t (0,0)):=m1.trans k6
       exact (Array.getElem?_eq_some_iff.1 this).1
      refine ⟨⟨oj,t,dj,zl,k1,k2,k3,k4, ?_,m1.trans k6⟩,k7,acO,fun t' b hb=> ?_⟩
      ·rw[Gv a dj hI.Pz,if_neg (aai dj (fg k1 k3 hj))];exact k5
      ·refine m2 t' b ?_
       cases dst<;>exact hb
     ·have e1:j≠i:=fun e=>hp.jR i Mk (by simp[← e,hj])
      have e2:k≠i:=fun e=>hp.jR i Mk (by simp[← e,hk])
      exact hI.zi j hj k hk (back j e1 h1) (back k e2 h2)
     ·rcases List.mem_append.1 hj with h | h
      ·exact keep j (hI.lD j h)
      ·rw[List.mem_singleton.1 h];exact (Q8 hiL i).2 (.inl rfl)
     ·by_cases e:j=i
      ·subst e
       have:=tJ hs.lt _ _ _ (List.all_eq_true.1 hc.1 j hj)
       omega
      ·exact hI.lR j (by simp[hj]) (back j e h)
     ·have e1:j≠i:=fun e=>hp.jR i Mk (by simp[← e,hj])
      exact hI.lF j hj (back j e1 h)
     ·have hb':bx t=some b:=by cases dst<;>exact hb
      obtain ⟨Zf,Up⟩:=Q9 p ZJ
      rcases hnew t b hb' with hrw | ⟨b0,hb0,e⟩
      ·rcases bH.own t b hb' hrw with h1 | h1
       ·have h1':wS.heap.size≤(g' t).1:=h1
        omega
       ·exact fun e=>Up (e▸h1)
      ·rw[e];exact hI.ap p ZJ t b0 hb0 hne
  ·
   obtain ⟨o',t,d,ho',hop,hd⟩:=hp.inZ i hZ
   rw[ho]at ho';cases ho'
   obtain ⟨zl,hz⟩:=hp.zero i hZ o t ho hop
   have Uz:d < N:=hs.dN i o ho d hd
   refine xc ho (hs.gd i o ho) ?_
   unfold Oper.wp
   rw[Od hz hop]
   simp only[Oper.upon]
   rw[hd]
   have hk:=Jp w (.cells zl.toArray t)
   have Wo:=fun x=>xd (a:=a) (u:=Value.pointer (some ⟨w.heap.size,0,none⟩)) (x:=x) (d:=d) (by rw[hI.Pz];exact Uz)
   have hpp:=fun x=>xd (a:=ap) (u:=Value.pointer (some ⟨w.heap.size,0,none⟩)) (x:=x) (d:=d) (by rw[hI.main.size];exact Uz)
   have hnA: ∀ j ∈ A,d ∉ fe ops j:=fun j hj h=>hp.dA d (Da hj h) (by rw[df,df];exact List.mem_append_left _ (List.mem_append_right _ (fg ho hd hZ)))
   have hAi: ∀ j ∈ A,j≠i:=fun j hj e=>hp.jA j hj (Db (.inr (.inl (e▸hZ))))
   refine ih _ done rem g sp (ap.put (some d) (Value.pointer (some ⟨w.heap.size,0,none⟩))) _ _ (fun j=>if j=i then w.heap.size else βf j) hR hsz' hfuel Jv ⟨(hI.main.UC (hI.UE d (fg ho hd hZ)) _).kept hk,fun x hx=> ?_,by rw[yI];exact hI.Pz,by rw[put_defers];exact hI.XX,hI.UD,hI.UE,fun x u hu hx=> ?_,fun j hj Gu=> ?_,fun j hj k hk' h1 h2 hne=> ?_,fun j hj=>keep j (hI.lD j hj),fun j hj h=> ?_,fun j hj h=> ?_,hI.ap⟩ hv
   ·rw[Wo,hpp]
    split
    ·rfl
    ·exact hI.link x fun j hj Gu=>hx j hj fun h=>Gu (back j (hAi j hj) h)
   ·rw[Wo]
    split
    ·rename_i e;subst e
     have:=hsD x (by rw[df,df];exact List.mem_append_left _ (List.mem_append_right _ (fg ho hd hZ)))
     rw[this]at hu;cases hu
    ·exact hI.ro x u hu fun j hj Gu=>hx j hj fun h=>Gu (back j (hAi j hj) h)
   ·by_cases e:j=i
    ·subst e
     simp only[if_true]
     refine ⟨⟨o,t,d,zl,ho,hop,hd,hz,by rw[Wo,if_pos rfl], ?_⟩,hI.main.frame.size, ?_,fun t' b hb e=> ?_⟩
     ·show (w.heap.push _)[w.heap.size]? =_
      simp
     ·show w.heap.size < (w.heap.push _).size
      simp
     ·have:=hI.main.mem.lt t' b hb;omega
    ·simp only[if_neg e]
     obtain ⟨⟨oj,t',dj,zl',k1,k2,k3,k4,k5,k6⟩,k7,k8,k9⟩:=hI.zs j hj (back j e Gu)
     have V1:dj≠d:=fun e2=>hp.dZ j hj i hZ e dj (kr k1 k3) (e2▸kr ho hd)
     exact ⟨⟨oj,t',dj,zl',k1,k2,k3,k4,by rw[Wo,if_neg V1];exact k5,by rw[hk.heap k8];exact k6⟩,k7,Nat.lt_of_lt_of_le k8 hk.size,k9⟩
   ·by_cases e1:j=i
    ·have e2:k≠i:=fun e=>hne (e1.trans e.symm)
     simp only[if_pos e1,if_neg e2]
     have:=(hI.zs k hk' (back k e2 h2)).hi
     omega
    ·simp only[if_neg e1]
     by_cases e2:k=i
     ·simp only[if_pos e2]
      have:=(hI.zs j hj (back j e1 h1)).hi
      omega
     ·simp only[if_neg e2]
      exact hI.zi j hj k hk' (back j e1 h1) (back k e2 h2) hne
   ·have e1:j≠i:=fun e=>hp.jR j (by rw[hR];simp[hj]) (by simp[e,hZ])
    exact hI.lR j hj (back j e1 h)
   ·have e1:j≠i:=fun e=>hp.jZ i hZ (e▸hj)
    exact hI.lF j hj (back j e1 h)
  ·
   refine absurd (fun j hj=> ?_) hall
   refine hw j ((hp.inF i hF).2 j ?_)
   exact Db hj
theorem Q' {A R Z F:List Nat} {base:Nat} {K:AS→Prop} {Q:Exit→Act→World→Prop} {W1:Nat→Prop} {w1:Base P} {env:Nat→Option AV} {g0:Where} {pm:List Nat} (hs:Static ops N) (hp:Jr P ops A R Z F)
   (hK: ∀ g' s' a' w',bP W1 N w1 (fun n=>n < s'.next) g' s' a' w'→K s'→Q .normal a' w')
   (fuel:Nat) (L:Array Bool) (done rem:List Nat) (g:Where) (sp:AS) (ap a:Act) (w:World) (βf:Nat→Nat) (hR:R=done++rem) (hsz:L.size=ops.size) (hf:(dn L ops.toList 0).length=fuel) (iI:Down ops L)
   (hI:Inv P W1 N w1 ops base A R Z F env g0 pm L done rem g sp ap a w βf) (hv:cr P ops base K (rem++(Z++F)) done.length sp)
   (hall: ∀ i,i ∈ A∨i ∈ R∨i ∈ Z→L.getD i false=true) (hcF:jg ops F=true):wpAny P .any ops Q fuel L a w:=by
  have qW:rem=[]:=by
   cases rem with
   | nil=>rfl
   | cons r rest=>exact absurd (hall r (.inr (.inl (by rw[hR];simp)))) (hI.lR r (by simp))
  subst qW
  have bH:=hI.main.act hI.Pz hI.XX fun d=>(hI.link d fun i hi hn=>absurd (hall i (.inl hi)) hn).symm
  obtain ⟨g',s',h1,h2⟩:=Mj (w0:=w1) Z done.length g sp hp.nZ (fun i hi=>hI.zs i hi (hall i (.inr (.inr hi)))) (fun i hi j hj=>hI.zi i hi j hj (hall i (.inr (.inr hi))) (hall j (.inr (.inr hj)))) bH hv
  refine Jq hs hK F (done.length+Z.length) fuel L g' s' a w hcF hsz hf (fun i hi=> ?_) (fun i hi=>(hp.inF i hi).1) iI h1 h2
  constructor
  ·exact fun h hF=>hI.lF i hF h
  ·intro hF
   rcases hp.all i hi with h | h | h | h
   ·exact hall i (.inl h)
   ·exact hall i (.inr (.inl h))
   ·exact hall i (.inr (.inr h))
   ·exact absurd h hF
def jN (P:Program) (ops:Array Oper) (i:Nat):Bool:=match ops[i]? with
 | some o=>(match o.op with
  | .call ⟨.value (.func f),_,_⟩=>au P f
  | .alloc t=>(zeroOf P t).isSome
  | op=>tI op)
 | none=>false
theorem pW {i:Nat} {p:Oper→Bool} (h:Ob ops i p=true): ∃ o,ops[i]? =some o∧p o=true:=by
 unfold Ob at h
 split at h
 ·rename_i o ho;exact ⟨o,ho,h⟩
 ·cases h
theorem kK {l m:List Nat} (h:iG l m=true): ∀ x ∈ l,x ∉ m:=fun x hx=>Jn h hx
theorem Gw {i j:Nat} {l:List Nat} (h:(iG (fe ops j) l||waits ops ops.size i j)=true): ∀ x ∈ fe ops j,x ∈ l→waits ops ops.size i j=true:=fun x hx hl=>by
 rcases Bool.or_eq_true_iff.1 h with h | h
 ·exact absurd hl (kK h x hx)
 ·exact h
theorem BH: ∀ {Z:List Nat},j5.Uw ops Z=true→Z.Nodup∧ ∀ i ∈ Z, ∀ j ∈ Z,i≠j→ ∀ x ∈ fe ops i,x ∉ fe ops j
 | [],_=>⟨List.nodup_nil,fun i hi=>nomatch hi⟩
 | k::r,h=>by
  unfold j5.Uw at h
  simp only[Bool.and_eq_true,Bool.not_eq_true',List.contains_eq_mem,decide_eq_false_iff_not]at h
  obtain ⟨⟨h1,h2⟩,h3⟩:=h
  obtain ⟨k1,k2⟩:=BH h3
  refine ⟨List.nodup_cons.2 ⟨h2,k1⟩,fun i hi j hj hne x hx=> ?_⟩
  rcases List.mem_cons.1 hi with h4 | h4<;>rcases List.mem_cons.1 hj with h5 | h5
  ·exact absurd (h4.trans h5.symm) hne
  ·subst h4;exact fun XY=>kK h1 x hx (Da h5 XY)
  ·subst h5;exact fun XY=>kK h1 x XY (Da h4 hx)
  ·exact k2 i h4 j h5 hne x hx
theorem o8 {A R Z F:List Nat} (hok:ops.toList.all (nj N)=true) (h:j5 ops A R Z F=true) (hc:(R++Z).all (jN P ops)=true):Static ops N∧Jr P ops A R Z F:=by
 unfold j5 at h
 simp only[Bool.and_eq_true,List.all_eq_true]at h
 obtain ⟨⟨⟨⟨⟨⟨⟨⟨⟨⟨⟨⟨⟨⟨h1,h2⟩,h3⟩,h4⟩,h5⟩,h6⟩,h7⟩,h8⟩,h9⟩,h10⟩,h11⟩,h12⟩,PA⟩,PB⟩,Zg⟩:=h
 have oI: ∀ i ∈ R++Z,jN P ops i=true:=List.all_eq_true.1 hc
 obtain ⟨hnz,hdz⟩:=BH h12
 have hst: ∀ (i:Nat) o,ops[i]? =some o→o.guard=none∧ ∀ e ∈ o.after,Region.binds .any e=true→e.on < i:=fun i o ho=>by
  obtain ⟨o',ho',hp⟩:=pW (h2 i (List.mem_range.2 (Array.getElem?_eq_some_iff.1 ho).1))
  rw[ho]at ho';cases ho'
  simp only[Bool.and_eq_true,Option.isNone_iff_eq_none,List.all_eq_true,Bool.or_eq_true,Bool.not_eq_true',decide_eq_true_eq]at hp
  exact ⟨hp.1,fun e he hb=>(hp.2 e (by simpa using he)).resolve_left (by rw[hb];simp)⟩
 refine ⟨⟨fun i o ho=>(hst i o ho).2,fun i o ho=>(hst i o ho).1,fun i o ho d hd=> ?_⟩,⟨fun i hi=> ?_,fun i hi=> ?_,kK h5,h4,kK h6,kK h7,kK h8,fun i hi=> ?_,h10,kK h11,fun i hi=> ?_,hdz,hnz,fun i hi o t ho hop=> ?_,fun i hi=> ?_⟩⟩
 ·have:=List.all_eq_true.1 hok o (by simpa using Array.mem_of_getElem? ho)
  unfold nj at this;rw[hd]at this;simpa using this
 ·have:=h1 i (List.mem_range.2 hi)
  simp only[Bool.or_eq_true,List.contains_eq_mem,decide_eq_true_eq]at this
  rcases this with ((h | h) | h) | h
  ·exact .inl h
  ·exact .inr (.inl h)
  ·exact .inr (.inr (.inl h))
  ·exact .inr (.inr (.inr h))
 ·obtain ⟨o,ho,hp⟩:=pW (h3 i hi)
  simp only[Bool.and_eq_true,List.all_eq_true]at hp
  obtain ⟨⟨⟨⟨p1,p2⟩,p3⟩,p4⟩,p5⟩:=hp
  obtain ⟨d,hd⟩:=Option.isSome_iff_exists.1 p2
  exact ⟨o,d,ho,p1,hd,kK p4,fun j hj=>Gw (p5 j hj)⟩
 ·obtain ⟨o,ho,hp⟩:=pW (h9 i hi)
  simp only[Bool.and_eq_true,List.all_eq_true]at hp
  obtain ⟨⟨p1,p2⟩,p3⟩:=hp
  have UF:=oI i (List.mem_append_left _ hi)
  unfold jN at UF
  rw[ho]at UF
  exact ⟨o,ho,p1,fun f xs tys e=>by simp only[e]at UF;exact UF,fun j hj=>Gw (p3 j hj)⟩
 ·obtain ⟨o,ho,hp⟩:=pW (PA i hi)
  simp only[Bool.and_eq_true]at hp
  obtain ⟨p1,p2⟩:=hp
  obtain ⟨d,hd⟩:=Option.isSome_iff_exists.1 p2
  unfold BD at p1
  split at p1
  ·rename_i t e
   exact ⟨o,t,d,ho,e,hd⟩
  ·cases p1
 ·have UF:=oI i (List.mem_append_right _ hi)
  unfold jN at UF
  rw[ho]at UF
  simp only[hop]at UF
  exact Option.isSome_iff_exists.1 UF
 ·have hw:=PB i hi
  exact ⟨by simpa using Zg i hi,fun j hj=>hw j hj⟩
theorem bP.restore {M0:Nat→Prop} {g0:Where} {s0:AS} {a0:Act} {wS:World} {pm:List Nat} (hr:bP W N w0 M g s a w) (h:bP W N w0 M0 g0 s0 a0 wS) (hg: ∀ n,M0 n→M n∧g n=g0 n) (hb: ∀ p ∈ pm, ∃ cs,s0.box p=some ⟨true,cs⟩)
  (hk: ∀ p ∈ pm,w.heap[(g0 p).1]? =wS.heap[(g0 p).1]?) (hsz:wS.heap.size≤w.heap.size) (hap: ∀ p ∈ pm, ∀ t b,s.box t=some b→t≠p→(g t).1≠(g0 p).1):bP W N w0 M g { s with box:=zU pm s0.box s.box } a w:=by
 have key: ∀ {t b},zU pm s0.box s.box t=some b→(t ∈ pm∧s0.box t=some b∧g t=g0 t∧M t)∨(t ∉ pm∧s.box t=some b):=fun {t b} h1=>by
  unfold zU at h1
  split at h1
  ·rename_i ht
   exact .inl ⟨by simpa using ht,h1,(hg t (h.names.box t b h1).1).2,(hg t (h.names.box t b h1).1).1⟩
  ·rename_i ht
   exact .inr ⟨by simpa using ht,h1⟩
 refine ⟨hr.size,hr.defers,hr.env,⟨hr.names.env,fun t b h1=> ?_⟩,⟨fun t b h1=> ?_,fun t b h1 i v hv=> ?_,fun t b h1 hrw i hi=> ?_,fun t t' b b' h1 hrw h1' hne=> ?_⟩,fun t b h1 hrw=> ?_,hr.frame,hr.pin,hr.tabs⟩
 ·rcases key h1 with ⟨_,h2,_,h4⟩ | ⟨_,h2⟩
  ·exact ⟨h4,fun x hx=>SV.aY (fun n hn=>(hg n hn).1) ((h.names.box t b h2).2 x hx)⟩
  ·exact hr.names.box t b h2
 ·rcases key h1 with ⟨_,h2,h3,_⟩ | ⟨_,h2⟩
  ·rw[h3];exact Nat.lt_of_lt_of_le (h.mem.lt t b h2) hsz
  ·exact hr.mem.lt t b h2
 ·rcases key h1 with ⟨hp,h2,h3,_⟩ | ⟨_,h2⟩
  ·rw[h3]
   have e:=h.mem.cell t b h2 i v hv
   have e2:w.cell? ⟨(g0 t).1,(g0 t).2+i,none⟩=wS.cell? ⟨(g0 t).1,(g0 t).2+i,none⟩:=by
    unfold World.cell?;simp only[hk t hp]
   rw[e2,e]
   exact congrArg some (SV.bu (SV.bK (fun n hn=>(hg n hn).2.symm) ((h.names.box t b h2).2 v (List.mem_of_getElem? hv)).1))
  ·exact hr.mem.cell t b h2 i v hv
 ·rcases key h1 with ⟨hp,h2,h3,_⟩ | ⟨_,h2⟩
  ·rw[h3]
   have e2:bU w ⟨(g0 t).1,(g0 t).2+i,none⟩=bU wS ⟨(g0 t).1,(g0 t).2+i,none⟩:=by
    unfold bU;simp only[hk t hp]
   rw[e2];exact h.mem.free t b h2 hrw i hi
  ·exact hr.mem.free t b h2 hrw i hi
 ·rcases key h1 with ⟨hp,h2,h3,_⟩ | ⟨hp,h2⟩<;>rcases key h1' with ⟨hp',h2',h3',_⟩ | ⟨hp',h2'⟩
  ·rw[h3,h3'];exact h.mem.sep t t' b b' h2 hrw h2' hne
  ·rw[h3];exact fun e=>hap t hp t' b' h2' (fun e2=>hne e2.symm) e.symm
  ·rw[h3'];exact hap t' hp' t b h2 hne
  ·exact hr.mem.sep t t' b b' h2 hrw h2' hne
 ·rcases key h1 with ⟨_,h2,h3,_⟩ | ⟨_,h2⟩
  ·rw[h3];exact h.own t b h2 hrw
  ·exact hr.own t b h2 hrw
theorem Jx {A R Z F dm:List Nat} {K:AS→Prop} {Q:Exit→Act→World→Prop} (hok:ops.toList.all (nj N)=true) (hp:mq ops A R Z F=true) (hc:(R++Z).all (jN P ops)=true)
  (hK: ∀ g' s' a' w',bP W N w0 (fun n=>n < s'.next) g' s' a' w'→K s'→Q .normal a' w') (h:bP W N w0 (fun n=>n < s.next) g s a w) (hv:Q0 P ops A R Z F dm K s):
  wpAny P .any ops Q ops.size (Array.replicate ops.size false) a w:=by
 have hcF:jg ops F=true:=by unfold mq at hp;simp only[Bool.and_eq_true]at hp;exact hp.2
 have hp:j5 ops A R Z F=true:=by unfold mq at hp;simp only[Bool.and_eq_true]at hp;exact hp.1
 obtain ⟨hs,tg⟩:=o8 (P:=P) hok hp hc
 have h0:=h.Jo dm
 have hb:=h0.ru (pn:=s.next) fun n hn=>hn
 have hro:=C9 h0 hb (env:=zI (dstsOf ops (A++R++Z++F)) s.env) (a':=a) h.size h.defers (fun d v hd=>by
  unfold zI at hd;split at hd
  ·cases hd
  ·exact h.env d v hd) (fun d v hd=>by
  unfold zI at hd;split at hd
  ·cases hd
  ·exact h.names.env d v hd) s.next
 obtain ⟨sr,ar,hk,ke,TR,bH,hoff,zH⟩:=pU (M:=fun n=>n < s.next) (nm:=s.next) (Nat.lt_irrefl _) (fun h:s.next+1 < s.next=>by omega) hok (fun i hi=>by
  obtain ⟨o,d,h1,h2,h3,_⟩:=tg.inA i hi
  exact ⟨o,h1,h2,d,h3⟩) tg.rA hro hv
 have hlen:(dn (Array.replicate ops.size false) ops.toList 0).length=ops.size:=by
  have key: ∀ (l:List Oper) (k n:Nat),k+l.length≤n→(dn (Array.replicate n false) l k).length=l.length:=by
   intro l
   induction l with
   | nil=>intro k n _;rfl
   | cons o r ih=>
    intro k n hk
    simp only[List.length_cons]at hk
    have:(Array.replicate n false).getD k true=false:=by
     simp[Array.getD_eq_getD_getElem?,show k < n by omega]
    simp only[dn,this,Bool.false_eq_true,if_false,List.length_cons]
    rw[ih (k+1) n (by omega)]
  rw[key _ _ _ (by simp)];simp
 have hfalse: ∀ i, ¬ (Array.replicate ops.size false).getD i false=true:=fun i hi=>by
  simp only[Array.getD_eq_getD_getElem?,Array.getElem?_replicate]at hi
  by_cases hlt:i < ops.size<;>simp[hlt]at hi
 have hnone: ∀ d,d ∈ dstsOf ops (R++Z++F)→sr.env d=none:=fun d hd=>by
  have hA:d ∉ dstsOf ops A:=fun h=>tg.dA d h hd
  rw[(hoff d hA).1]
  show zI _ _ d=none
  unfold zI
  rw[if_pos]
  simp only[List.contains_eq_mem,decide_eq_true_eq]
  rw[show A++R++Z++F=A++(R++Z++F) by simp,df]
  exact List.mem_append_right _ hd
 have jw:sr.box=fun t=>Jm (({ s with box:=mC dm s.box }:AS).box t):=ke
 refine Dc (hl:=h0.laid) (s0:={ s with box:=mC dm s.box }) (sr:=sr) (base:=s.next) (pm:=[]) (V:=fun l k s'=>cr P ops s.next K (l++(Z++F)) k s') hs tg h0 zH bH.names jw hnone (fun p hp=>nomatch hp) (fun i r k s' o hv ho=>by simp only[List.cons_append,cr,ho]at hv;exact hv)
  (fun fuel L done rem g sp ap a w βf hR hsz hf hd hI hv hall=>Q' hs tg (fun g' s' a' w' hr hk'=>hK g' s' a' w' (h0.rv (pn:=s.next) (fun n hn=>hn) hr) hk') fuel L done rem g sp ap a w βf hR hsz hf hd hI hv hall hcF) ops.size _ [] R g ⟨sr.env,mC dm s.box,s.next⟩ ar a w (fun _=>0) rfl (by simp) hlen
  (fun i o ho hi=>absurd hi (hfalse i)) ⟨?_,fun d hd=> ?_,h.size,h.defers,fun d hd=>rfl,fun d hd=> ?_,fun d v hd hx=> ?_,fun i hi hl=>absurd hl (hfalse i),fun i hi j hj hl=>absurd hl (hfalse i),(fun i hi=>nomatch hi),fun i hi=>hfalse i,fun i hi=>hfalse i,fun p hp=>nomatch hp⟩ (by simpa using hk)
 ·refine bP.mono (M:=fun n=>n < s.next) (fun n hn=>by simp;omega) ⟨bH.size,bH.defers,bH.env,⟨bH.names.env,h0.names.box⟩,⟨h0.mem.lt,h0.mem.cell,h0.mem.free,h0.mem.sep⟩,hb.own,hb.frame,hb.pin,hb.tabs⟩
 ·refine (hoff d fun Ra=> ?_).2
  obtain ⟨i,hi,o,ho,Rb⟩:=lq Ra
  exact hd i hi (hfalse i) (kr ho Rb)
 ·exact hnone d (by rw[df,df];exact List.mem_append_left _ (List.mem_append_right _ hd))
 ·have hA:d ∉ dstsOf ops A:=fun Ra=>by
   obtain ⟨i,hi,o,ho,Rb⟩:=lq Ra
   exact hx i hi (hfalse i) (kr ho Rb)
  rw[← (hoff d hA).2]
  exact bH.env d v hd
theorem Gx {A R Z F dm pm:List Nat} {K:AS→Prop} {Q:Exit→Act→World→Prop} (hok:ops.toList.all (nj N)=true) (hp:mq ops A R Z F=true) (hc:(R++Z).all (jN P ops)=true)
  (hK: ∀ g' s' a' w',bP W N w0 (fun n=>n < s'.next) g' s' a' w'→K s'→Q .normal a' w') (h:bP W N w0 (fun n=>n < s.next) g s a w) (hv:Mg P ops A R Z F dm pm K s):
  wpAny P .any ops Q ops.size (Array.replicate ops.size false) a w:=by
 have hcF:jg ops F=true:=by unfold mq at hp;simp only[Bool.and_eq_true]at hp;exact hp.2
 have hp:j5 ops A R Z F=true:=by unfold mq at hp;simp only[Bool.and_eq_true]at hp;exact hp.1
 obtain ⟨hs,tg⟩:=o8 (P:=P) hok hp hc
 obtain ⟨Eb,hv⟩:=hv
 have h0:=h.Jo dm
 have hb:=h0.ru (pn:=s.next) fun n hn=>hn
 have hro:=C9 h0 hb (env:=zI (dstsOf ops (A++R++Z++F)) s.env) (a':=a) h.size h.defers (fun d v hd=>by
  unfold zI at hd;split at hd
  ·cases hd
  ·exact h.env d v hd) (fun d v hd=>by
  unfold zI at hd;split at hd
  ·cases hd
  ·exact h.names.env d v hd) s.next
 obtain ⟨sr,ar,hk,ke,TR,bH,hoff,zH⟩:=pU (M:=fun n=>n < s.next) (nm:=s.next) (Nat.lt_irrefl _) (fun h:s.next+1 < s.next=>by omega) hok (fun i hi=>by
  obtain ⟨o,d,h1,h2,h3,_⟩:=tg.inA i hi
  exact ⟨o,h1,h2,d,h3⟩) tg.rA hro hv
 have hlen:(dn (Array.replicate ops.size false) ops.toList 0).length=ops.size:=by
  have key: ∀ (l:List Oper) (k n:Nat),k+l.length≤n→(dn (Array.replicate n false) l k).length=l.length:=by
   intro l
   induction l with
   | nil=>intro k n _;rfl
   | cons o r ih=>
    intro k n hk
    simp only[List.length_cons]at hk
    have:(Array.replicate n false).getD k true=false:=by
     simp[Array.getD_eq_getD_getElem?,show k < n by omega]
    simp only[dn,this,Bool.false_eq_true,if_false,List.length_cons]
    rw[ih (k+1) n (by omega)]
  rw[key _ _ _ (by simp)];simp
 have hfalse: ∀ i, ¬ (Array.replicate ops.size false).getD i false=true:=fun i hi=>by
  simp only[Array.getD_eq_getD_getElem?,Array.getElem?_replicate]at hi
  by_cases hlt:i < ops.size<;>simp[hlt]at hi
 have hnone: ∀ d,d ∈ dstsOf ops (R++Z++F)→sr.env d=none:=fun d hd=>by
  have hA:d ∉ dstsOf ops A:=fun h=>tg.dA d h hd
  rw[(hoff d hA).1]
  show zI _ _ d=none
  unfold zI
  rw[if_pos]
  simp only[List.contains_eq_mem,decide_eq_true_eq]
  rw[show A++R++Z++F=A++(R++Z++F) by simp,df]
  exact List.mem_append_right _ hd
 have jw:sr.box=fun t=>Jm (({ s with box:=mC dm s.box }:AS).box t):=ke
 have Q9: ∀ p ∈ pm,(g p).1 < w.heap.size∧ ¬ oB g { s with box:=mC dm s.box } (g p).1:=fun p hp=>by
  obtain ⟨h1,cs,h2⟩:=Eb p hp
  refine ⟨h.mem.lt p _ h2,fun ⟨t,c,hc,hrw,e⟩=> ?_⟩
  have mY:mC dm s.box t=some c:=hc
  unfold mC at mY
  split at mY
  ·split at mY
   ·cases mY;cases hrw
   ·cases mY
  ·rename_i hn
   exact h.mem.sep t p c _ mY hrw h2 (fun e2=>hn (e2▸h1)) e
 refine Dc (hl:=h0.laid) (s0:={ s with box:=mC dm s.box }) (sr:=sr) (base:=s.next) (pm:=pm) (V:=fun l k s'=>cr P ops s.next (fun s1=>cr P ops s.next K (Z++F) R.length ⟨s1.env,zU pm s.box s1.box,s1.next⟩) l k s') hs tg h0 zH bH.names jw hnone Q9 (fun i r k s' o hv ho=>by simp only[cr,ho]at hv;exact hv)
  (fun fuel L done rem g1 sp ap a1 w1 βf hR hsz hf hd hI hv hall=>by
   have qW:rem=[]:=by
    cases rem with
    | nil=>rfl
    | cons r rest=>exact absurd (hall r (.inr (.inl (by rw[hR];simp)))) (hI.lR r (by simp))
   subst qW
   have hdl:done.length=R.length:=by rw[hR];simp
   have Rc:=h0.rv (pn:=s.next) (fun n hn=>hn) (hI.main.act hI.Pz hI.XX fun d=>(hI.link d fun i hi hn=>absurd (hall i (.inl hi)) hn).symm)
   have Gy:=Rc.restore (pm:=pm) h (fun n hn=>⟨by have:n < s.next:=hn;omega,(hI.main.pin n hn).2⟩) (fun p hp=>(Eb p hp).2) (fun p hp=>hI.main.frame.block _ (Q9 p hp).1 (Q9 p hp).2) hI.main.frame.size hI.ap
   rw[hdl]at Gy
   have NP:cr P ops s.next K (Z++F) R.length ⟨sp.env,zU pm s.box sp.box,s.next+4*(done.length+1)⟩:=hv
   obtain ⟨g',s',h1,h2⟩:=Mj (w0:=w0) Z R.length g1 _ tg.nZ (fun i hi=>by
    obtain ⟨ex,lo,hi',no⟩:=hI.zs i hi (hall i (.inr (.inr hi)))
    refine ⟨ex,Nat.le_trans h.frame.size lo,hi',fun t b hb=> ?_⟩
    have hb':zU pm s.box sp.box t=some b:=hb
    unfold zU at hb'
    split at hb'
    ·rename_i ht
     have hp:t ∈ pm:=by simpa using ht
     obtain ⟨_,cs,h3⟩:=Eb t hp
     have:=(Q9 t hp).1
     have e:g1 t=g t:=(hI.main.pin t (h.names.box t _ h3).1).2
     have lo':w.heap.size≤βf i:=lo
     rw[e];omega
    ·exact no t b hb') (fun i hi j hj=>hI.zi i hi j hj (hall i (.inr (.inr hi))) (hall j (.inr (.inr hj)))) (Gy.next _) NP
   refine Jq hs hK F (R.length+Z.length) fuel L g' s' a1 w1 hcF hsz hf (fun i hi=> ?_) (fun i hi=>(tg.inF i hi).1) hd h1 h2
   constructor
   ·exact fun h hF=>hI.lF i hF h
   ·intro hF
    rcases tg.all i hi with h | h | h | h
    ·exact hall i (.inl h)
    ·exact hall i (.inr (.inl h))
    ·exact hall i (.inr (.inr h))
    ·exact absurd h hF) ops.size _ [] R g ⟨sr.env,mC dm s.box,s.next⟩ ar a w (fun _=>0) rfl (by simp) hlen
  (fun i o ho hi=>absurd hi (hfalse i)) ⟨?_,fun d hd=> ?_,h.size,h.defers,fun d hd=>rfl,fun d hd=> ?_,fun d v hd hx=> ?_,fun i hi hl=>absurd hl (hfalse i),fun i hi j hj hl=>absurd hl (hfalse i),(fun i hi=>nomatch hi),fun i hi=>hfalse i,fun i hi=>hfalse i,fun p hp t b hb hne=> ?_⟩ hk
 ·refine bP.mono (M:=fun n=>n < s.next) (fun n hn=>by simp;omega) ⟨bH.size,bH.defers,bH.env,⟨bH.names.env,h0.names.box⟩,⟨h0.mem.lt,h0.mem.cell,h0.mem.free,h0.mem.sep⟩,hb.own,hb.frame,hb.pin,hb.tabs⟩
 ·refine (hoff d fun Ra=> ?_).2
  obtain ⟨i,hi,o,ho,Rb⟩:=lq Ra
  exact hd i hi (hfalse i) (kr ho Rb)
 ·exact hnone d (by rw[df,df];exact List.mem_append_left _ (List.mem_append_right _ hd))
 ·have hA:d ∉ dstsOf ops A:=fun Ra=>by
   obtain ⟨i,hi,o,ho,Rb⟩:=lq Ra
   exact hx i hi (hfalse i) (kr ho Rb)
  rw[← (hoff d hA).2]
  exact bH.env d v hd
 ·obtain ⟨h1,cs,h2⟩:=Eb p hp
  have hb':mC dm s.box t=some b:=hb
  unfold mC at hb'
  split at hb'
  ·split at hb'
   ·rename_i b0 h3
    exact fun e=>h.mem.sep p t _ b0 h2 rfl h3 (fun e2=>hne e2.symm) e.symm
   ·cases hb'
  ·exact fun e=>h.mem.sep p t _ b h2 rfl hb' (fun e2=>hne e2.symm) e.symm
theorem Gz {A R Z F dm pm:List Nat} {tr:aT} {K:AS→Prop} {Q:Exit→Act→World→Prop} (hok:ops.toList.all (nj N)=true) (hp:j5 ops A R Z F=true) (ht:C6 ops F tr=true) (hc:(R++Z).all (jN P ops)=true)
  (hK: ∀ g' s' a' w',bP W N w0 (fun n=>n < s'.next) g' s' a' w'→K s'→Q .normal a' w') (h:bP W N w0 (fun n=>n < s.next) g s a w) (hv:Mh P ops A R Z F dm pm tr K s):
  wpAny P .any ops Q ops.size (Array.replicate ops.size false) a w:=by
 obtain ⟨hs,tg⟩:=o8 (P:=P) hok hp hc
 obtain ⟨Eb,hv⟩:=hv
 have h0:=h.Jo dm
 have hb:=h0.ru (pn:=s.next) fun n hn=>hn
 have hro:=C9 h0 hb (env:=zI (dstsOf ops (A++R++Z++F)) s.env) (a':=a) h.size h.defers (fun d v hd=>by
  unfold zI at hd;split at hd
  ·cases hd
  ·exact h.env d v hd) (fun d v hd=>by
  unfold zI at hd;split at hd
  ·cases hd
  ·exact h.names.env d v hd) s.next
 obtain ⟨sr,ar,hk,ke,TR,bH,hoff,zH⟩:=pU (M:=fun n=>n < s.next) (nm:=s.next) (Nat.lt_irrefl _) (fun h:s.next+1 < s.next=>by omega) hok (fun i hi=>by
  obtain ⟨o,d,h1,h2,h3,_⟩:=tg.inA i hi
  exact ⟨o,h1,h2,d,h3⟩) tg.rA hro hv
 have hlen:(dn (Array.replicate ops.size false) ops.toList 0).length=ops.size:=by
  have key: ∀ (l:List Oper) (k n:Nat),k+l.length≤n→(dn (Array.replicate n false) l k).length=l.length:=by
   intro l
   induction l with
   | nil=>intro k n _;rfl
   | cons o r ih=>
    intro k n hk
    simp only[List.length_cons]at hk
    have:(Array.replicate n false).getD k true=false:=by
     simp[Array.getD_eq_getD_getElem?,show k < n by omega]
    simp only[dn,this,Bool.false_eq_true,if_false,List.length_cons]
    rw[ih (k+1) n (by omega)]
  rw[key _ _ _ (by simp)];simp
 have hfalse: ∀ i, ¬ (Array.replicate ops.size false).getD i false=true:=fun i hi=>by
  simp only[Array.getD_eq_getD_getElem?,Array.getElem?_replicate]at hi
  by_cases hlt:i < ops.size<;>simp[hlt]at hi
 have hnone: ∀ d,d ∈ dstsOf ops (R++Z++F)→sr.env d=none:=fun d hd=>by
  have hA:d ∉ dstsOf ops A:=fun h=>tg.dA d h hd
  rw[(hoff d hA).1]
  show zI _ _ d=none
  unfold zI
  rw[if_pos]
  simp only[List.contains_eq_mem,decide_eq_true_eq]
  rw[show A++R++Z++F=A++(R++Z++F) by simp,df]
  exact List.mem_append_right _ hd
 have jw:sr.box=fun t=>Jm (({ s with box:=mC dm s.box }:AS).box t):=ke
 have Q9: ∀ p ∈ pm,(g p).1 < w.heap.size∧ ¬ oB g { s with box:=mC dm s.box } (g p).1:=fun p hp=>by
  obtain ⟨h1,cs,h2⟩:=Eb p hp
  refine ⟨h.mem.lt p _ h2,fun ⟨t,c,hc,hrw,e⟩=> ?_⟩
  have mY:mC dm s.box t=some c:=hc
  unfold mC at mY
  split at mY
  ·split at mY
   ·cases mY;cases hrw
   ·cases mY
  ·rename_i hn
   exact h.mem.sep t p c _ mY hrw h2 (fun e2=>hn (e2▸h1)) e
 refine Dc (hl:=h0.laid) (s0:={ s with box:=mC dm s.box }) (sr:=sr) (base:=s.next) (pm:=pm) (V:=fun l k s'=>cr P ops s.next (fun s1=>cr P ops s.next (fun s2=>zR P ops (s.next+4*(R.length+Z.length+1)) K tr 0 s2) Z R.length ⟨s1.env,zU pm s.box s1.box,s1.next⟩) l k s') hs tg h0 zH bH.names jw hnone Q9 (fun i r k s' o hv ho=>by simp only[cr,ho]at hv;exact hv)
  (fun fuel L done rem g1 sp ap a1 w1 βf hR hsz hf hd hI hv hall=>by
   have qW:rem=[]:=by
    cases rem with
    | nil=>rfl
    | cons r rest=>exact absurd (hall r (.inr (.inl (by rw[hR];simp)))) (hI.lR r (by simp))
   subst qW
   have hdl:done.length=R.length:=by rw[hR];simp
   have Rc:=h0.rv (pn:=s.next) (fun n hn=>hn) (hI.main.act hI.Pz hI.XX fun d=>(hI.link d fun i hi hn=>absurd (hall i (.inl hi)) hn).symm)
   have Gy:=Rc.restore (pm:=pm) h (fun n hn=>⟨by have:n < s.next:=hn;omega,(hI.main.pin n hn).2⟩) (fun p hp=>(Eb p hp).2) (fun p hp=>hI.main.frame.block _ (Q9 p hp).1 (Q9 p hp).2) hI.main.frame.size hI.ap
   rw[hdl]at Gy
   have NP:cr P ops s.next (fun s2=>zR P ops (s.next+4*(R.length+Z.length+1)) K tr 0 s2) Z R.length ⟨sp.env,zU pm s.box sp.box,s.next+4*(done.length+1)⟩:=hv
   obtain ⟨g',s',h1,h2⟩:=Mj (w0:=w0) (F:=[]) (K:=fun s2=>zR P ops (s.next+4*(R.length+Z.length+1)) K tr 0 s2) Z R.length g1 _ tg.nZ (fun i hi=>by
    obtain ⟨ex,lo,hi',no⟩:=hI.zs i hi (hall i (.inr (.inr hi)))
    refine ⟨ex,Nat.le_trans h.frame.size lo,hi',fun t b hb=> ?_⟩
    have hb':zU pm s.box sp.box t=some b:=hb
    unfold zU at hb'
    split at hb'
    ·rename_i ht
     have hp:t ∈ pm:=by simpa using ht
     obtain ⟨_,cs,h3⟩:=Eb t hp
     have:=(Q9 t hp).1
     have e:g1 t=g t:=(hI.main.pin t (h.names.box t _ h3).1).2
     have lo':w.heap.size≤βf i:=lo
     rw[e];omega
    ·exact no t b hb') (fun i hi j hj=>hI.zi i hi j hj (hall i (.inr (.inr hi))) (hall j (.inr (.inr hj)))) (Gy.next _) (by rw[List.append_nil];exact NP)
   have hiff: ∀ i,i < ops.size→(L.getD i false=true↔i ∉ F):=fun i hi=>by
    constructor
    ·exact fun h hF=>hI.lF i hF h
    ·intro hF
     rcases tg.all i hi with h | h | h | h
     ·exact hall i (.inl h)
     ·exact hall i (.inr (.inl h))
     ·exact hall i (.inr (.inr h))
     ·exact absurd h hF
   have hL:L=wb ops F:=Array.ext (by simp[wb,hsz]) fun i e1 e2=>by
    have hi:i < ops.size:=by rw[← hsz];exact e1
    have:=hiff i hi
    rw[Array.getD_eq_getD_getElem?,Array.getElem?_eq_getElem e1,Option.getD_some]at this
    have e3:(wb ops F)[i]= !F.contains i:=by simp[wb]
    rw[e3,Bool.eq_iff_iff,this];simp
   have ht':=ht
   unfold C6 at ht'
   rw[Bool.and_eq_true, ← hL,hf]at ht'
   exact CQ hok hK fuel L tr 0 g' _ a1 w1 ht'.1 ht'.2 (h1.next _) h2) ops.size _ [] R g ⟨sr.env,mC dm s.box,s.next⟩ ar a w (fun _=>0) rfl (by simp) hlen
  (fun i o ho hi=>absurd hi (hfalse i)) ⟨?_,fun d hd=> ?_,h.size,h.defers,fun d hd=>rfl,fun d hd=> ?_,fun d v hd hx=> ?_,fun i hi hl=>absurd hl (hfalse i),fun i hi j hj hl=>absurd hl (hfalse i),(fun i hi=>nomatch hi),fun i hi=>hfalse i,fun i hi=>hfalse i,fun p hp t b hb hne=> ?_⟩ hk
 ·refine bP.mono (M:=fun n=>n < s.next) (fun n hn=>by simp;omega) ⟨bH.size,bH.defers,bH.env,⟨bH.names.env,h0.names.box⟩,⟨h0.mem.lt,h0.mem.cell,h0.mem.free,h0.mem.sep⟩,hb.own,hb.frame,hb.pin,hb.tabs⟩
 ·refine (hoff d fun Ra=> ?_).2
  obtain ⟨i,hi,o,ho,Rb⟩:=lq Ra
  exact hd i hi (hfalse i) (kr ho Rb)
 ·exact hnone d (by rw[df,df];exact List.mem_append_left _ (List.mem_append_right _ hd))
 ·have hA:d ∉ dstsOf ops A:=fun Ra=>by
   obtain ⟨i,hi,o,ho,Rb⟩:=lq Ra
   exact hx i hi (hfalse i) (kr ho Rb)
  rw[← (hoff d hA).2]
  exact bH.env d v hd
 ·obtain ⟨h1,cs,h2⟩:=Eb p hp
  have hb':mC dm s.box t=some b:=hb
  unfold mC at hb'
  split at hb'
  ·split at hb'
   ·rename_i b0 h3
    exact fun e=>h.mem.sep p t _ b0 h2 rfl h3 (fun e2=>hne e2.symm) e.symm
   ·cases hb'
  ·exact fun e=>h.mem.sep p t _ b h2 rfl hb' (fun e2=>hne e2.symm) e.symm
end
end Go.bA
