/-
  The calculus: a region by a plan serves every order: all together. Nothing here speaks of a program.
-/
import Derived.Test.YtoakenpcooglpaaGreatDoorVcgWf
set_option linter.unusedVariables false
set_option linter.unusedSimpArgs false
namespace Go.cA
set_option linter.unusedSectionVars false
section
variable {P:Program} [Tables P] {W:Nat→Prop} {N:Nat} {w0:gF P} {M:Nat→Prop} {g:bG} {s:AS} {a:Act} {w:World} {ops:Array Oper} {nm:Nat} {o:Oper}
theorem VO {l m:List Nat} (h:jK ops (l++m)=true):jK ops m=true:=by
 induction l with
 | nil=>exact h
 | cons i r ih=>simp only[List.cons_append,jK,Bool.and_eq_true]at h;exact ih h.2
def opened (ops:Array Oper) (A:List Nat) (L:Array Bool) (env:Nat→Option AV) (x:Nat):Option AV:=if A.all (fun j=>L.getD j false|| !(fv ops j).contains x)=true then env x else none
theorem OE {A:List Nat} {L:Array Bool} {env:Nat→Option AV} {x:Nat} (h: ∀ j ∈ A, ¬ L.getD j false=true→x ∉ fv ops j):opened ops A L env x=env x:=by
 unfold opened
 rw[if_pos (List.all_eq_true.2 fun j hj=>by
  by_cases hl:L.getD j false=true
  ·simp[hl]
  ·have:=h j hj hl
   simp[this])]
theorem nU {A:List Nat} {L:Array Bool} {env:Nat→Option AV} {x:Nat} {v:AV} (h:opened ops A L env x=some v):env x=some v∧ ∀ j ∈ A, ¬ L.getD j false=true→x ∉ fv ops j:=by
 unfold opened at h
 split at h
 ·rename_i hall
  refine ⟨h,fun j hj hl hx=> ?_⟩
  have:=List.all_eq_true.1 hall j hj
  simp only[Bool.or_eq_true,Bool.not_eq_true',List.contains_eq_mem,decide_eq_false_iff_not]at this
  rcases this with h1 | h1
  ·exact hl h1
  ·exact h1 hx
 ·cases h
theorem GY {α:Type} {x:α} {l m n:List α} (h:x ∈ l∨x ∈ m∨x ∈ n):x ∈ l++m++n:=by simp only[List.mem_append];rcases h with h | h | h<;>simp[h]
theorem OF {L:Array Bool} (hsz:L.size=ops.size) (h:eP L ops.toList 0=[]) {i:Nat} (hi:i < ops.size):L.getD i false=true:=Classical.byContradiction fun hx=>by
 cases ho:ops[i]? with
 | none=>rw[Array.getElem?_eq_none_iff]at ho;omega
 | some o=>
  have:=Bm (ajo (by omega) hx) ho
  rw[h]at this;simp at this
theorem OG (hs:Static ops N) {L:Array Bool} (hsz:L.size=ops.size) (h:eP L ops.toList 0≠[]):Region.ready .any ops L≠[]:=by
 cases xk:eP L ops.toList 0 with
 | nil=>exact absurd xk h
 | cons p rest=>
  obtain ⟨i,o⟩:=p
  obtain ⟨_,h2,h3⟩:=iA ops.toList 0 (i,o) (by rw[xk];simp)
  have ho:ops[i]? =some o:=by simpa using h3
  have hlt:i < ops.size:=(Array.getElem?_eq_some_iff.1 ho).1
  have:i ∈ Region.ready .any ops L:=mem_ready.2 ⟨h2,o,ho,fun e he hb=>by
   have hlt':=hs.lt i o ho e he hb
   exact rE hsz (by omega) (sT ops.toList 0 xk e.on (Nat.zero_le _) hlt')⟩
  exact fun h=>by rw[h]at this;cases this
theorem abR {A R Z F:List Nat} {base:Nat} {K:AS→Prop} {Q:Exit→Act→World→Prop} {s0 sr:AS} {g0:bG} {a0:Act} {wS:World} {hl:Laid P wS} (hs:Static ops N) (hp:OD P ops A R Z F)
  (h0:cE W N w0 (fun n=>n < base) g0 s0 a0 wS)
  (Wx: ∀ i ∈ A, ∃ o d v,ops[i]? =some o∧o.dst=some d∧sr.env d=some v∧fa P base sr o.op=some (some v,none)∧AV.ok (fun n=>n < base) v) (hsn:Names (fun n=>n < base) sr) (hsb:sr.box=fun t=>ZG (s0.box t))
  (hsD: ∀ d ∈ dstsOf ops (R++Z++F),sr.env d=none)
  (hK: ∀ g' s' a' w',cE (Fy g0 s0) N ⟨wS,base,g0,hl⟩ (fun n=>n < s'.next) g' s' a' w'→K s'→Q .normal a' w'):
  ∀ (fuel:Nat) (L:Array Bool) (done rem:List Nat) (g:bG) (sp:AS) (ap a:Act) (w:World) (βf:Nat→Nat),R=done++rem→L.size=ops.size→(eP L ops.toList 0).length=fuel→Down ops L→
   Inv P (Fy g0 s0) N ⟨wS,base,g0,hl⟩ ops base A R Z F sr.env g0 L done rem g sp ap a w βf→fL P ops base K (rem++(Z++F)) done.length sp→wpAny P .any ops Q fuel L a w:=by
 intro fuel
 induction fuel with
 | zero=>
  intro L done rem g sp ap a w βf hR hsz hf g8 hI hv
  exact LY hs hp hK 0 L done rem g sp ap a w βf hR hsz hf g8 hI hv (fun i hi=>by
   refine OF hsz (List.length_eq_zero_iff.1 hf) ?_
   rcases hi with h | h | h
   ·obtain ⟨o,d,ho,_⟩:=hp.inA i h
    exact (Array.getElem?_eq_some_iff.1 ho).1
   ·obtain ⟨o,f,xs,tys,ho,_⟩:=hp.inR i h
    exact (Array.getElem?_eq_some_iff.1 ho).1
   ·obtain ⟨o,t,d,ho,_⟩:=hp.inZ i h
    exact (Array.getElem?_eq_some_iff.1 ho).1)
 | succ fuel ih=>
  intro L done rem g sp ap a w βf hR hsz hf g8 hI hv
  by_cases hall: ∀ i,i ∈ A∨i ∈ R∨i ∈ Z→L.getD i false=true
  ·exact LY hs hp hK _ L done rem g sp ap a w βf hR hsz hf g8 hI hv hall
  refine ⟨fun hr=>absurd hr (OG hs hsz fun h=>by rw[h]at hf;simp at hf),fun i hi=> ?_⟩
  obtain ⟨hun,o,ho,LX⟩:=mem_ready.1 hi
  have agi:i < ops.size:=(Array.getElem?_eq_some_iff.1 ho).1
  have hiL:i < L.size:=by omega
  have hnl: ¬ L.getD i false=true:=fun h=>lun hun h
  have hw: ∀ j,waits ops ops.size i j=true→L.getD j false=true:=fun j h=>gp g8 ops.size i j o ho LX h
  have hfuel:(eP (L.setIfInBounds i true) ops.toList 0).length=fuel:=by have:=Bm hun ho;omega
  have OH:=g8.set hiL ho LX
  have hsz':(L.setIfInBounds i true).size=ops.size:=by simpa using hsz
  have keep: ∀ j,L.getD j false=true→(L.setIfInBounds i true).getD j false=true:=fun j h=>(ZO hiL j).2 (.inr h)
  have back: ∀ j,j≠i→(L.setIfInBounds i true).getD j false=true→L.getD j false=true:=fun j hj h=>((ZO hiL j).1 h).resolve_left hj
  have unl: ∀ j ∈ A, ∀ x,(∀ j ∈ A, ¬ (L.setIfInBounds i true).getD j false=true→x ∉ fv ops j)→x ∉ fv ops i→ ¬ L.getD j false=true→x ∉ fv ops j:=fun j hj x h1 h2 h3=>by
   by_cases e:j=i
   ·rw[e];exact h2
   ·exact h1 j hj fun h4=>h3 (back j e h4)
  rcases hp.all i agi with hA | WB | hZ | hF
  ·
   obtain ⟨o',d,v,ho',hd,hv1,WQ,ZM⟩:=Wx i hA
   rw[ho]at ho';cases ho'
   obtain ⟨o',d',ho',hpure,hd',aeM,OI⟩:=hp.inA i hA
   rw[ho]at ho';cases ho'
   rw[hd]at hd';cases hd'
   have hop: ∀ x ∈ o.looksAt ops,opened ops A L sr.env x=sr.env x:=fun x hx=>OE fun j hj Cy hxj=>Cy (hw j (OI j hj x hxj hx))
   have hro:=ZN h0 hI.main (env:=opened ops A L sr.env) hI.asz hI.adf (fun x u hu=>hI.ro x u (nU hu).1 (nU hu).2) (fun x u hu=>hsn.env x u (nU hu).1) 0
   have he2:fa P base ⟨opened ops A L sr.env,fun t=>ZG (s0.box t),0⟩ o.op=some (some v,none):=by
    rw[← WQ]
    exact (Ui hsn (fun x hx=>(hop x hx).symm) hsb).symm
   obtain ⟨g',w',r,hrun,hsame,dr,hval,_⟩:=iX (o:=o) hro (Nat.lt_irrefl base) he2
   have rz:Kept w w':=dr.frame
   have ZQ:AV.av g' v=AV.av g0 v:=AV.bX (AV.bA (fun n hn=>hsame n hn) ZM)
   have hdN:d < N:=hs.dN i o ho d hd
   refine wN ho (hs.gd i o ho) ?_
   unfold Oper.wp
   rw[hrun,hval]
   simp only[Oper.upon]
   rw[hd,ZQ]
   have hpg:=fun x=>wO (a:=a) (u:=AV.av g0 v) (x:=x) (d:=d) (by rw[hI.asz];exact hdN)
   have hap:ap.tmps[d]? =some (AV.av g0 v):=by
    have h1:=hI.main.env d v (by rw[hI.abP d (fw ho hd hA)];exact hv1)
    rw[h1]
    exact congrArg some (AV.bX (AV.bA (fun n hn=>(hI.main.kJ n hn).2) ZM))
   refine ih _ done rem g sp ap _ w' βf hR hsz' hfuel OH ⟨hI.main.kept rz,fun x hx=> ?_,by rw[Bn];exact hI.asz,by rw[put_defers];exact hI.adf,hI.abP,hI.abQ,fun x u hu hx=> ?_,fun j hj Cy=> ?_,fun j hj k hk h1 h2=> ?_,fun j hj=>keep j (hI.lD j hj),fun j hj h=> ?_,fun j hj h=> ?_⟩ hv
   ·rw[hpg]
    split
    ·rename_i e;subst e;exact hap
    ·rename_i e
     exact hI.link x fun j hj=>unl j hj x hx fun h=>e (dst_eq ho hd h)
   ·rw[hpg]
    split
    ·rename_i e;subst e;rw[hv1]at hu;cases hu;rfl
    ·rename_i e
     exact hI.ro x u hu fun j hj=>unl j hj x hx fun h=>e (dst_eq ho hd h)
   ·have hji:j≠i:=fun e=>hp.jA i hA (GY (.inr (.inl (e▸hj))))
    obtain ⟨⟨oj,t,dj,zl,k1,k2,k3,k4,k5,k6⟩,k7,k8,k9⟩:=hI.zs j hj (back j hji Cy)
    have hdj:dj≠d:=fun e=>hp.dA d (fw ho hd hA) (by rw[fF,fF];exact List.mem_append_left _ (List.mem_append_right _ (e▸fw k1 k3 hj)))
    exact ⟨⟨oj,t,dj,zl,k1,k2,k3,k4,by rw[hpg,if_neg hdj];exact k5,by rw[rz.heap k8];exact k6⟩,k7,Nat.lt_of_lt_of_le k8 rz.size,k9⟩
   ·have e1:j≠i:=fun e=>hp.jA i hA (GY (.inr (.inl (e▸hj))))
    have e2:k≠i:=fun e=>hp.jA i hA (GY (.inr (.inl (e▸hk))))
    exact hI.zi j hj k hk (back j e1 h1) (back k e2 h2)
   ·have e1:j≠i:=fun e=>hp.jA i hA (GY (.inl (by rw[hR, ← e];simp[hj])))
    exact hI.lR j hj (back j e1 h)
   ·have e1:j≠i:=fun e=>hp.jA i hA (GY (.inr (.inr (e▸hj))))
    exact hI.lF j hj (back j e1 h)
  ·
   have hnd:i ∉ done:=fun h=>hnl (hI.lD i h)
   have aeQ:i ∈ rem:=by rw[hR]at WB;exact (List.mem_append.1 WB).resolve_left hnd
   cases rem with
   | nil=>cases aeQ
   | cons r0 rest=>
    have hc:=VO (hR▸hp.cR:jK ops (done++r0::rest)=true)
    simp only[jK,Bool.and_eq_true]at hc
    have wH:i=r0:=by
     rcases List.mem_cons.1 aeQ with h | h
     ·exact h
     ·exact absurd (hw r0 (List.all_eq_true.1 hc.1 i h)) (hI.lR r0 (by simp))
    subst wH
    obtain ⟨o',f,xs,tys,ho',hop,aeR,OI⟩:=hp.inR i WB
    rw[ho]at ho';cases ho'
    simp only[List.cons_append,fL,ho]at hv
    obtain ⟨dst,op,type,pos,after,guard⟩:=o
    simp only at hop;subst hop
    unfold Bi at hv
    simp only at hv
    rw[if_pos aeR]at hv
    cases hargs:bN sp xs.toList with
    | none=>rw[hargs]at hv;exact hv.elim
    | some l=>
     rw[hargs]at hv
     have hx1:xs.map a.eval=(l.map (AV.av g)).toArray:=by
      apply Array.ext'
      rw[Array.toList_map, ← (eN hI.main _ _ hargs).1]
      refine List.map_congr_left fun x hx=>(VN fun t ht=> ?_).symm
      refine hI.link t fun j hj Cy hxj=>Cy (hw j (OI j hj t hxj ?_))
      exact jy (o:=⟨dst, .call ⟨.value (.func f),xs,tys⟩,type,pos,after,guard⟩) (x:=x) (by show x ∈ (Op.call ⟨.value (.func f),xs,tys⟩).operands;simp[Op.operands,Call.operands];exact Or.inr (by simpa using hx)) ht
     refine wN ho (hs.gd i _ ho) ?_
     unfold Oper.wp
     rw[jx f xs tys dst type pos after guard a.eval rfl w,fD aeR,hx1]
     simp only[Oper.upon]
     refine (VK hv hI.main).mono ?_
     rintro e w' ⟨v,g',bx,rfl,hok,dr,hkeep,hk⟩
     simp only
     have hdN: ∀ x,dst=some x→x < N:=fun x hx=>hs.dN i _ ho x hx
     have Lz: ∀ (b:Act) (x:Nat),b.tmps.size=N→(b.put dst (AV.av g' v)).tmps[x]? =if dst=some x then some (AV.av g' v) else b.tmps[x]? :=fun b x hb=>by
      cases dst with
      | none=>simp[Act.put]
      | some d=>
       rw[wO (by rw[hb];exact hdN d rfl)]
       by_cases e:x=d
       ·subst e;simp
       ·rw[if_neg e,if_neg (fun h=>e (Option.some.inj h).symm)]
     have gH: ∀ x,dst≠some x→(({ sp with box:=bx }:AS).put dst (some v)).env x=sp.env x:=fun x hx=>by
      cases dst with
      | none=>rfl
      | some d=>exact bg _ _ _ _ fun e=>hx (by rw[e])
     have hnd: ∀ x,x ∈ dstsOf ops A→dst≠some x:=fun x hx e=>hp.dA x hx (by rw[fF,fF];exact List.mem_append_left _ (List.mem_append_left _ (fw ho e WB)))
     have ajr: ∀ x,x ∈ dstsOf ops Z→dst≠some x:=fun x hx e=>hp.dR x (fw ho e WB) hx
     have hlen:(done++[i]).length=done.length+1:=by simp
     refine ih _ (done++[i]) rest g' _ _ _ w' βf (by rw[hR];simp) hsz' hfuel OH ⟨(dr.put hdN hok).mono (fun n hn=>by rw[hlen];omega),fun x hx=> ?_,by rw[Bn];exact hI.asz,by rw[put_defers];exact hI.adf,fun x hx=> ?_,fun x hx=> ?_,fun x u hu hx=> ?_,fun j hj Cy=> ?_,fun j hj k hk h1 h2=> ?_,fun j hj=> ?_,fun j hj h=> ?_,fun j hj h=> ?_⟩ (by rw[hlen];exact hk)
     ·rw[Lz ap x hI.main.size,Lz a x hI.asz]
      split
      ·rfl
      ·exact hI.link x fun j hj Cy=>hx j hj fun h=>Cy (back j (fun e=>hp.jA j hj (GY (.inl (e▸WB)))) h)
     ·rw[gH x (hnd x hx)];exact hI.abP x hx
     ·rw[gH x (ajr x hx)];exact hI.abQ x hx
     ·rw[Lz a x hI.asz]
      split
      ·rename_i e
       have:=hsD x (by rw[fF,fF];exact List.mem_append_left _ (List.mem_append_left _ (fw ho e WB)))
       rw[this]at hu;cases hu
      ·exact hI.ro x u hu fun j hj Cy=>hx j hj fun h=>Cy (back j (fun e=>hp.jA j hj (GY (.inl (e▸WB)))) h)
     ·have hji:j≠i:=fun e=>hp.jR i WB (by simp[← e,hj])
      obtain ⟨⟨oj,t,dj,zl,k1,k2,k3,k4,k5,k6⟩,k7,k8,k9⟩:=hI.zs j hj (back j hji Cy)
      obtain ⟨m1,m2⟩:=hkeep _ k8 k9
      have alC:βf j < w'.heap.size:=by
       have:w'.heap[βf j]? =some (.cells zl.toArray t (0,0)):=m1.trans k6
       exact (Array.getElem?_eq_some_iff.1 this).1
      refine ⟨⟨oj,t,dj,zl,k1,k2,k3,k4, ?_,m1.trans k6⟩,k7,alC,fun t' b hb=> ?_⟩
      ·rw[Lz a dj hI.asz,if_neg (ajr dj (fw k1 k3 hj))];exact k5
      ·refine m2 t' b ?_
       cases dst<;>exact hb
     ·have e1:j≠i:=fun e=>hp.jR i WB (by simp[← e,hj])
      have e2:k≠i:=fun e=>hp.jR i WB (by simp[← e,hk])
      exact hI.zi j hj k hk (back j e1 h1) (back k e2 h2)
     ·rcases List.mem_append.1 hj with h | h
      ·exact keep j (hI.lD j h)
      ·rw[List.mem_singleton.1 h];exact (ZO hiL i).2 (.inl rfl)
     ·by_cases e:j=i
      ·subst e
       have:=rZ hs.lt _ _ _ (List.all_eq_true.1 hc.1 j hj)
       omega
      ·exact hI.lR j (by simp[hj]) (back j e h)
     ·have e1:j≠i:=fun e=>hp.jR i WB (by simp[← e,hj])
      exact hI.lF j hj (back j e1 h)
  ·
   obtain ⟨o',t,d,ho',hop,hd⟩:=hp.inZ i hZ
   rw[ho]at ho';cases ho'
   obtain ⟨zl,hz⟩:=hp.zero i hZ o t ho hop
   have hdN:d < N:=hs.dN i o ho d hd
   refine wN ho (hs.gd i o ho) ?_
   unfold Oper.wp
   rw[VM hz hop]
   simp only[Oper.upon]
   rw[hd]
   have hk:=OC w (.cells zl.toArray t)
   have hpg:=fun x=>wO (a:=a) (u:=Value.pointer (some ⟨w.heap.size,0,none⟩)) (x:=x) (d:=d) (by rw[hI.asz];exact hdN)
   have hpp:=fun x=>wO (a:=ap) (u:=Value.pointer (some ⟨w.heap.size,0,none⟩)) (x:=x) (d:=d) (by rw[hI.main.size];exact hdN)
   have hnA: ∀ j ∈ A,d ∉ fv ops j:=fun j hj h=>hp.dA d (GX hj h) (by rw[fF,fF];exact List.mem_append_left _ (List.mem_append_right _ (fw ho hd hZ)))
   have hAi: ∀ j ∈ A,j≠i:=fun j hj e=>hp.jA j hj (GY (.inr (.inl (e▸hZ))))
   refine ih _ done rem g sp (ap.put (some d) (Value.pointer (some ⟨w.heap.size,0,none⟩))) _ _ (fun j=>if j=i then w.heap.size else βf j) hR hsz' hfuel OH ⟨(hI.main.abO (hI.abQ d (fw ho hd hZ)) _).kept hk,fun x hx=> ?_,by rw[Bn];exact hI.asz,by rw[put_defers];exact hI.adf,hI.abP,hI.abQ,fun x u hu hx=> ?_,fun j hj Cy=> ?_,fun j hj k hk' h1 h2 hne=> ?_,fun j hj=>keep j (hI.lD j hj),fun j hj h=> ?_,fun j hj h=> ?_⟩ hv
   ·rw[hpg,hpp]
    split
    ·rfl
    ·exact hI.link x fun j hj Cy=>hx j hj fun h=>Cy (back j (hAi j hj) h)
   ·rw[hpg]
    split
    ·rename_i e;subst e
     have:=hsD x (by rw[fF,fF];exact List.mem_append_left _ (List.mem_append_right _ (fw ho hd hZ)))
     rw[this]at hu;cases hu
    ·exact hI.ro x u hu fun j hj Cy=>hx j hj fun h=>Cy (back j (hAi j hj) h)
   ·by_cases e:j=i
    ·subst e
     simp only[if_true]
     refine ⟨⟨o,t,d,zl,ho,hop,hd,hz,by rw[hpg,if_pos rfl], ?_⟩,hI.main.frame.size, ?_,fun t' b hb e=> ?_⟩
     ·show (w.heap.push _)[w.heap.size]? =_
      simp
     ·show w.heap.size < (w.heap.push _).size
      simp
     ·have:=hI.main.mem.lt t' b hb;omega
    ·simp only[if_neg e]
     obtain ⟨⟨oj,t',dj,zl',k1,k2,k3,k4,k5,k6⟩,k7,k8,k9⟩:=hI.zs j hj (back j e Cy)
     have hdj:dj≠d:=fun e2=>hp.dZ j hj i hZ e dj (sa k1 k3) (e2▸sa ho hd)
     exact ⟨⟨oj,t',dj,zl',k1,k2,k3,k4,by rw[hpg,if_neg hdj];exact k5,by rw[hk.heap k8];exact k6⟩,k7,Nat.lt_of_lt_of_le k8 hk.size,k9⟩
   ·by_cases e1:j=i
    ·have e2:k≠i:=fun e=>hne (e1.trans e.symm)
     simp only[if_pos e1,if_neg e2]
     have:=(hI.zs k hk' (back k e2 h2)).hi
     omega
    ·simp only[if_neg e1]
     by_cases e2:k=i
     ·simp only[if_pos e2]
      have:=(hI.zs j hj (back j e1 h1)).hi
      omega
     ·simp only[if_neg e2]
      exact hI.zi j hj k hk' (back j e1 h1) (back k e2 h2) hne
   ·have e1:j≠i:=fun e=>hp.jR j (by rw[hR];simp[hj]) (by simp[e,hZ])
    exact hI.lR j hj (back j e1 h)
   ·have e1:j≠i:=fun e=>hp.jZ i hZ (e▸hj)
    exact hI.lF j hj (back j e1 h)
  ·
   refine absurd (fun j hj=> ?_) hall
   refine hw j ((hp.inF i hF).2 j ?_)
   exact GY hj
where
 LY {A R Z F:List Nat} {base:Nat} {K:AS→Prop} {Q:Exit→Act→World→Prop} {W1:Nat→Prop} {w1:gF P} {env:Nat→Option AV} {g0:bG} (hs:Static ops N) (hp:OD P ops A R Z F)
   (hK: ∀ g' s' a' w',cE W1 N w1 (fun n=>n < s'.next) g' s' a' w'→K s'→Q .normal a' w')
   (fuel:Nat) (L:Array Bool) (done rem:List Nat) (g:bG) (sp:AS) (ap a:Act) (w:World) (βf:Nat→Nat) (hR:R=done++rem) (hsz:L.size=ops.size) (hf:(eP L ops.toList 0).length=fuel) (g8:Down ops L)
   (hI:Inv P W1 N w1 ops base A R Z F env g0 L done rem g sp ap a w βf) (hv:fL P ops base K (rem++(Z++F)) done.length sp)
   (hall: ∀ i,i ∈ A∨i ∈ R∨i ∈ Z→L.getD i false=true):wpAny P .any ops Q fuel L a w:=by
  have xk:rem=[]:=by
   cases rem with
   | nil=>rfl
   | cons r rest=>exact absurd (hall r (.inr (.inl (by rw[hR];simp)))) (hI.lR r (by simp))
  subst xk
  have dr:=hI.main.act hI.asz hI.adf fun d=>(hI.link d fun i hi hn=>absurd (hall i (.inl hi)) hn).symm
  obtain ⟨g',s',h1,h2⟩:=aeO (w0:=w1) Z done.length g sp hp.nZ (fun i hi=>hI.zs i hi (hall i (.inr (.inr hi)))) (fun i hi j hj=>hI.zi i hi j hj (hall i (.inr (.inr hi))) (hall j (.inr (.inr hj)))) dr hv
  refine ZP hs hK F (done.length+Z.length) fuel L g' s' a w hp.cF hsz hf (fun i hi=> ?_) (fun i hi=>(hp.inF i hi).1) g8 h1 h2
  constructor
  ·exact fun h hF=>hI.lF i hF h
  ·intro hF
   rcases hp.all i hi with h | h | h | h
   ·exact hall i (.inl h)
   ·exact hall i (.inr (.inl h))
   ·exact hall i (.inr (.inr h))
   ·exact absurd h hF
def qW (P:Program) (ops:Array Oper) (i:Nat):Bool:=match ops[i]? with
 | some o=>(match o.op with
  | .call ⟨.value (.func f),_,_⟩=>ai P f
  | .alloc t=>(zeroOf P t).isSome
  | _=>false)
 | none=>false
theorem oG {i:Nat} {p:Oper→Bool} (h:VJ ops i p=true): ∃ o,ops[i]? =some o∧p o=true:=by
 unfold VJ at h
 split at h
 ·rename_i o ho;exact ⟨o,ho,h⟩
 ·cases h
theorem j8 {l m:List Nat} (h:gY l m=true): ∀ x ∈ l,x ∉ m:=fun x hx=>OB h hx
theorem LZ {i j:Nat} {l:List Nat} (h:(gY (fv ops j) l||waits ops ops.size i j)=true): ∀ x ∈ fv ops j,x ∈ l→waits ops ops.size i j=true:=fun x hx hl=>by
 rcases Bool.or_eq_true_iff.1 h with h | h
 ·exact absurd hl (j8 h x hx)
 ·exact h
theorem FB: ∀ {Z:List Nat},qV.abJ ops Z=true→Z.Nodup∧ ∀ i ∈ Z, ∀ j ∈ Z,i≠j→ ∀ x ∈ fv ops i,x ∉ fv ops j
 | [],_=>⟨List.nodup_nil,fun i hi=>nomatch hi⟩
 | k::r,h=>by
  unfold qV.abJ at h
  simp only[Bool.and_eq_true,Bool.not_eq_true',List.contains_eq_mem,decide_eq_false_iff_not]at h
  obtain ⟨⟨h1,h2⟩,h3⟩:=h
  obtain ⟨k1,k2⟩:=FB h3
  refine ⟨List.nodup_cons.2 ⟨h2,k1⟩,fun i hi j hj hne x hx=> ?_⟩
  rcases List.mem_cons.1 hi with h4 | h4<;>rcases List.mem_cons.1 hj with h5 | h5
  ·exact absurd (h4.trans h5.symm) hne
  ·subst h4;exact fun hxj=>j8 h1 x hx (GX h5 hxj)
  ·subst h5;exact fun hxj=>j8 h1 x hxj (GX h4 hx)
  ·exact k2 i h4 j h5 hne x hx
theorem L0 {A R Z F:List Nat} (hok:ops.toList.all (nj N)=true) (h:qV ops A R Z F=true) (hc:(R++Z).all (qW P ops)=true):Static ops N∧OD P ops A R Z F:=by
 unfold qV at h
 simp only[Bool.and_eq_true,List.all_eq_true]at h
 obtain ⟨⟨⟨⟨⟨⟨⟨⟨⟨⟨⟨⟨⟨⟨⟨h1,h2⟩,h3⟩,h4⟩,h5⟩,h6⟩,h7⟩,h8⟩,h9⟩,h10⟩,h11⟩,h12⟩,h13⟩,h14⟩,h15⟩,FC⟩:=h
 have sL: ∀ i ∈ R++Z,qW P ops i=true:=List.all_eq_true.1 hc
 obtain ⟨hnz,hdz⟩:=FB h12
 have hst: ∀ (i:Nat) o,ops[i]? =some o→o.guard=none∧ ∀ e ∈ o.after,Region.binds .any e=true→e.on < i:=fun i o ho=>by
  obtain ⟨o',ho',hp⟩:=oG (h2 i (List.mem_range.2 (Array.getElem?_eq_some_iff.1 ho).1))
  rw[ho]at ho';cases ho'
  simp only[Bool.and_eq_true,Option.isNone_iff_eq_none,List.all_eq_true,Bool.or_eq_true,Bool.not_eq_true',decide_eq_true_eq]at hp
  exact ⟨hp.1,fun e he hb=>(hp.2 e (by simpa using he)).resolve_left (by rw[hb];simp)⟩
 refine ⟨⟨fun i o ho=>(hst i o ho).2,fun i o ho=>(hst i o ho).1,fun i o ho d hd=> ?_⟩,⟨fun i hi=> ?_,fun i hi=> ?_,j8 h5,h4,j8 h6,j8 h7,j8 h8,fun i hi=> ?_,h10,j8 h11,fun i hi=> ?_,hdz,hnz,fun i hi o t ho hop=> ?_,fun i hi=> ?_,h15⟩⟩
 ·have:=List.all_eq_true.1 hok o (by simpa using Array.mem_of_getElem? ho)
  unfold nj at this;rw[hd]at this;simpa using this
 ·have:=h1 i (List.mem_range.2 hi)
  simp only[Bool.or_eq_true,List.contains_eq_mem,decide_eq_true_eq]at this
  rcases this with ((h | h) | h) | h
  ·exact .inl h
  ·exact .inr (.inl h)
  ·exact .inr (.inr (.inl h))
  ·exact .inr (.inr (.inr h))
 ·obtain ⟨o,ho,hp⟩:=oG (h3 i hi)
  simp only[Bool.and_eq_true,List.all_eq_true]at hp
  obtain ⟨⟨⟨⟨p1,p2⟩,p3⟩,p4⟩,p5⟩:=hp
  obtain ⟨d,hd⟩:=Option.isSome_iff_exists.1 p2
  exact ⟨o,d,ho,p1,hd,j8 p4,fun j hj=>LZ (p5 j hj)⟩
 ·obtain ⟨o,ho,hp⟩:=oG (h9 i hi)
  simp only[Bool.and_eq_true,List.all_eq_true]at hp
  obtain ⟨⟨p1,p2⟩,p3⟩:=hp
  have GZ:=sL i (List.mem_append_left _ hi)
  unfold qW at GZ
  rw[ho]at GZ
  obtain ⟨dst,op,type,pos,after,guard⟩:=o
  simp only at GZ p1
  unfold LV at p1
  split at p1
  ·rename_i f xs tys
   exact ⟨_,f,xs,tys,ho,rfl,GZ,fun j hj=>LZ (p3 j hj)⟩
  ·cases p1
 ·obtain ⟨o,ho,hp⟩:=oG (h13 i hi)
  simp only[Bool.and_eq_true]at hp
  obtain ⟨p1,p2⟩:=hp
  obtain ⟨d,hd⟩:=Option.isSome_iff_exists.1 p2
  unfold Fw at p1
  split at p1
  ·rename_i t e
   exact ⟨o,t,d,ho,e,hd⟩
  ·cases p1
 ·have GZ:=sL i (List.mem_append_right _ hi)
  unfold qW at GZ
  rw[ho]at GZ
  simp only[hop]at GZ
  exact Option.isSome_iff_exists.1 GZ
 ·have hw:=h14 i hi
  exact ⟨by simpa using FC i hi,fun j hj=>hw j hj⟩
theorem OJ {A R Z F dm:List Nat} {K:AS→Prop} {Q:Exit→Act→World→Prop} (hok:ops.toList.all (nj N)=true) (hp:qV ops A R Z F=true) (hc:(R++Z).all (qW P ops)=true)
  (hK: ∀ g' s' a' w',cE W N w0 (fun n=>n < s'.next) g' s' a' w'→K s'→Q .normal a' w') (h:cE W N w0 (fun n=>n < s.next) g s a w) (hv:ZI P ops A R Z F dm K s):
  wpAny P .any ops Q ops.size (Array.replicate ops.size false) a w:=by
 obtain ⟨hs,Vp⟩:=L0 (P:=P) hok hp hc
 have h0:=h.agh dm
 have hb:=h0.ZJ (pn:=s.next) fun n hn=>hn
 have hro:=ZN h0 hb (env:=roE (dstsOf ops (A++R++Z++F)) s.env) (a':=a) h.size h.defers (fun d v hd=>by
  unfold roE at hd;split at hd
  ·cases hd
  ·exact h.env d v hd) (fun d v hd=>by
  unfold roE at hd;split at hd
  ·cases hd
  ·exact h.names.env d v hd) s.next
 obtain ⟨sr,ar,hk,lT,hnx,dr,hoff,Wx⟩:=FA (M:=fun n=>n < s.next) (nm:=s.next) (Nat.lt_irrefl _) (fun h:s.next+1 < s.next=>by omega) hok (fun i hi=>by
  obtain ⟨o,d,h1,h2,h3,_⟩:=Vp.inA i hi
  exact ⟨o,h1,h2,d,h3⟩) Vp.rA hro hv
 have hlen:(eP (Array.replicate ops.size false) ops.toList 0).length=ops.size:=by
  have key: ∀ (l:List Oper) (k n:Nat),k+l.length≤n→(eP (Array.replicate n false) l k).length=l.length:=by
   intro l
   induction l with
   | nil=>intro k n _;rfl
   | cons o r ih=>
    intro k n hk
    simp only[List.length_cons]at hk
    have:(Array.replicate n false).getD k true=false:=by
     simp[Array.getD_eq_getD_getElem?,show k < n by omega]
    simp only[eP,this,Bool.false_eq_true,if_false,List.length_cons]
    rw[ih (k+1) n (by omega)]
  rw[key _ _ _ (by simp)];simp
 have hfalse: ∀ i, ¬ (Array.replicate ops.size false).getD i false=true:=fun i hi=>by
  simp only[Array.getD_eq_getD_getElem?,Array.getElem?_replicate]at hi
  by_cases hlt:i < ops.size<;>simp[hlt]at hi
 have hnone: ∀ d,d ∈ dstsOf ops (R++Z++F)→sr.env d=none:=fun d hd=>by
  have hA:d ∉ dstsOf ops A:=fun h=>Vp.dA d h hd
  rw[(hoff d hA).1]
  show roE _ _ d=none
  unfold roE
  rw[if_pos]
  simp only[List.contains_eq_mem,decide_eq_true_eq]
  rw[show A++R++Z++F=A++(R++Z++F) by simp,fF]
  exact List.mem_append_right _ hd
 have jX:sr.box=fun t=>ZG (({ s with box:=WA dm s.box }:AS).box t):=lT
 refine abR (hl:=h0.laid) (s0:={ s with box:=WA dm s.box }) (sr:=sr) (base:=s.next) (K:=K) hs Vp h0 Wx dr.names jX hnone (fun g' s' a' w' hr hk'=>hK g' s' a' w' (h0.ZK (pn:=s.next) (fun n hn=>hn) hr) hk') ops.size _ [] R g ⟨sr.env,WA dm s.box,s.next⟩ ar a w (fun _=>0) rfl (by simp) hlen
  (fun i o ho hi=>absurd hi (hfalse i)) ⟨?_,fun d hd=> ?_,h.size,h.defers,fun d hd=>rfl,fun d hd=> ?_,fun d v hd hx=> ?_,fun i hi hl=>absurd hl (hfalse i),fun i hi j hj hl=>absurd hl (hfalse i),(fun i hi=>nomatch hi),fun i hi=>hfalse i,fun i hi=>hfalse i⟩ (by simpa using hk)
 ·refine cE.mono (M:=fun n=>n < s.next) (fun n hn=>by simp;omega) ⟨dr.size,dr.defers,dr.env,⟨dr.names.env,h0.names.box⟩,⟨h0.mem.lt,h0.mem.cell,h0.mem.free,h0.mem.sep⟩,hb.own,hb.frame,hb.kJ,hb.tabs⟩
 ·refine (hoff d fun hdA=> ?_).2
  obtain ⟨i,hi,o,ho,hdo⟩:=Bk hdA
  exact hd i hi (hfalse i) (sa ho hdo)
 ·exact hnone d (by rw[fF,fF];exact List.mem_append_left _ (List.mem_append_right _ hd))
 ·have hA:d ∉ dstsOf ops A:=fun hdA=>by
   obtain ⟨i,hi,o,ho,hdo⟩:=Bk hdA
   exact hx i hi (hfalse i) (sa ho hdo)
  rw[← (hoff d hA).2]
  exact dr.env d v hd
end
end Go.cA
