/-
  The calculus: a region by a plan serves every order: all together. Nothing here speaks of a program.
-/
import Derived.Test.YtoakenpcooglpaaGreatDoorVcgG2
import Derived.Test.YtoakenpcooglpaaGreatDoorVcgPL
set_option linter.unusedVariables false
set_option linter.unusedSimpArgs false
namespace Go.cA
set_option linter.unusedSectionVars false
section
variable {P:Program} [Tables P] {W:Nat→Prop} {N:Nat} {w0:gF P} {M:Nat→Prop} {g:bG} {s:AS} {a:Act} {w:World} {ops:Array Oper} {nm:Nat} {o:Oper}
theorem VO {l m:List Nat} (h:jK ops (l++m)=true):jK ops m=true:=by
 induction l with
 | nil=>exact h
 | cons i r ih=>simp only[List.cons_append,jK,Bool.and_eq_true]at h;exact ih h.2
def opened (ops:Array Oper) (A:List Nat) (L:Array Bool) (env:Nat→Option AV) (x:Nat):Option AV:=if A.all (fun j=>L.getD j false|| !(fv ops j).contains x)=true then env x else none
theorem OE {A:List Nat} {L:Array Bool} {env:Nat→Option AV} {x:Nat} (h: ∀ j ∈ A, ¬ L.getD j false=true→x ∉ fv ops j):opened ops A L env x=env x:=by
 unfold opened
 rw[if_pos (List.all_eq_true.2 fun j hj=>by
  by_cases hl:L.getD j false=true
  ·simp[hl]
  ·have:=h j hj hl
   simp[this])]
theorem nU {A:List Nat} {L:Array Bool} {env:Nat→Option AV} {x:Nat} {v:AV} (h:opened ops A L env x=some v):env x=some v∧ ∀ j ∈ A, ¬ L.getD j false=true→x ∉ fv ops j:=by
 unfold opened at h
 split at h
 ·rename_i hall
  refine ⟨h,fun j hj hl hx=> ?_⟩
  have:=List.all_eq_true.1 hall j hj
  simp only[Bool.or_eq_true,Bool.not_eq_true',List.contains_eq_mem,decide_eq_false_iff_not]at this
  rcases this with h1 | h1
  ·exact hl h1
  ·exact h1 hx
 ·cases h
theorem GY {α:Type} {x:α} {l m n:List α} (h:x ∈ l∨x ∈ m∨x ∈ n):x ∈ l++m++n:=by simp only[List.mem_append];rcases h with h | h | h<;>simp[h]
theorem OF {L:Array Bool} (hsz:L.size=ops.size) (h:eP L ops.toList 0=[]) {i:Nat} (hi:i < ops.size):L.getD i false=true:=Classical.byContradiction fun hx=>by
 cases ho:ops[i]? with
 | none=>rw[Array.getElem?_eq_none_iff]at ho;omega
 | some o=>
  have:=Bm (ajo (by omega) hx) ho
  rw[h]at this;simp at this
theorem OG (hs:Static ops N) {L:Array Bool} (hsz:L.size=ops.size) (h:eP L ops.toList 0≠[]):Region.ready .any ops L≠[]:=by
 cases xk:eP L ops.toList 0 with
 | nil=>exact absurd xk h
 | cons p rest=>
  obtain ⟨i,o⟩:=p
  obtain ⟨_,h2,h3⟩:=iA ops.toList 0 (i,o) (by rw[xk];simp)
  have ho:ops[i]? =some o:=by simpa using h3
  have hlt:i < ops.size:=(Array.getElem?_eq_some_iff.1 ho).1
  have:i ∈ Region.ready .any ops L:=mem_ready.2 ⟨h2,o,ho,fun e he hb=>by
   have hlt':=hs.lt i o ho e he hb
   exact rE hsz (by omega) (sT ops.toList 0 xk e.on (Nat.zero_le _) hlt')⟩
  exact fun h=>by rw[h]at this;cases this
theorem abR {A R Z F:List Nat} {base:Nat} {K:AS→Prop} {Q:Exit→Act→World→Prop} {s0 sr:AS} {g0:bG} {a0:Act} {wS:World} {hl:Laid P wS} (hs:Static ops N) (hp:OD P ops A R Z F)
  (h0:cE W N w0 (fun n=>n < base) g0 s0 a0 wS)
  (Wx: ∀ i ∈ A, ∃ o d v,ops[i]? =some o∧o.dst=some d∧sr.env d=some v∧fa P base sr o.op=some (some v,none)∧AV.ok (fun n=>n < base) v) (hsn:Names (fun n=>n < base) sr) (hsb:sr.box=fun t=>ZG (s0.box t))
  (hsD: ∀ d ∈ dstsOf ops (R++Z++F),sr.env d=none)
  (hK: ∀ g' s' a' w',cE (Fy g0 s0) N ⟨wS,base,g0,hl⟩ (fun n=>n < s'.next) g' s' a' w'→K s'→Q .normal a' w'):
  ∀ (fuel:Nat) (L:Array Bool) (done rem:List Nat) (g:bG) (sp:AS) (ap a:Act) (w:World) (βf:Nat→Nat),R=done++rem→L.size=ops.size→(eP L ops.toList 0).length=fuel→Down ops L→
   Inv P (Fy g0 s0) N ⟨wS,base,g0,hl⟩ ops base A R Z F sr.env g0 L done rem g sp ap a w βf→fL P ops base K (rem++(Z++F)) done.length sp→wpAny P .any ops Q fuel L a w:=by
 intro fuel
 induction fuel with
 | zero=>
  intro L done rem g sp ap a w βf hR hsz hf g8 hI hv
  exact LY hs hp hK 0 L done rem g sp ap a w βf hR hsz hf g8 hI hv (fun i hi=>by
   refine OF hsz (List.length_eq_zero_iff.1 hf) ?_
   rcases hi with h | h | h
   ·obtain ⟨o,d,ho,_⟩:=hp.inA i h
    exact (Array.getElem?_eq_some_iff.1 ho).1
   ·obtain ⟨o,f,xs,tys,ho,_⟩:=hp.inR i h
    exact (Array.getElem?_eq_some_iff.1 ho).1
   ·obtain ⟨o,t,d,ho,_⟩:=hp.inZ i h
    exact (Array.getElem?_eq_some_iff.1 ho).1)
 | succ fuel ih=>
  intro L done rem g sp ap a w βf hR hsz hf g8 hI hv
  by_cases hall: ∀ i,i ∈ A∨i ∈ R∨i ∈ Z→L.getD i false=true
  ·exact LY hs hp hK _ L done rem g sp ap a w βf hR hsz hf g8 hI hv hall
  refine ⟨fun hr=>absurd hr (OG hs hsz fun h=>by rw[h]at hf;simp at hf),fun i hi=> ?_⟩
  obtain ⟨hun,o,ho,LX⟩:=mem_ready.1 hi
  have agi:i < ops.size:=(Array.getElem?_eq_some_iff.1 ho).1
  have hiL:i < L.size:=by omega
  have hnl: ¬ L.getD i false=true:=fun h=>lun hun h
  have hw: ∀ j,waits ops ops.size i j=true→L.getD j false=true:=fun j h=>gp g8 ops.size i j o ho LX h
  have hfuel:(eP (L.setIfInBounds i true) ops.toList 0).length=fuel:=by have:=Bm hun ho;omega
  have OH:=g8.set hiL ho LX
  have hsz':(L.setIfInBounds i true).size=ops.size:=by simpa using hsz
  have keep: ∀ j,L.getD j false=true→(L.setIfInBounds i true).getD j false=true:=fun j h=>(ZO hiL j).2 (.inr h)
  have back: ∀ j,j≠i→(L.setIfInBounds i true).getD j false=true→L.getD j false=true:=fun j hj h=>((ZO hiL j).1 h).resolve_left hj
  have unl: ∀ j ∈ A, ∀ x,(∀ j ∈ A, ¬ (L.setIfInBounds i true).getD j false=true→x ∉ fv ops j)→x ∉ fv ops i→ ¬ L.getD j false=true→x ∉ fv ops j:=fun j hj x h1 h2 h3=>by
   by_cases e:j=i
   ·rw[e];exact h2
   ·exact h1 j hj fun h4=>h3 (back j e h4)
  rcases hp.all i agi with hA | WB | hZ | hF
  ·
   obtain ⟨o',d,v,ho',hd,hv1,WQ,ZM⟩:=Wx i hA
   rw[ho]at ho';cases ho'
   obtain ⟨o',d',ho',hpure,hd',aeM,OI⟩:=hp.inA i hA
   rw[ho]at ho';cases ho'
   rw[hd]at hd';cases hd'
   have hop: ∀ x ∈ o.looksAt ops,opened ops A L sr.env x=sr.env x:=fun x hx=>OE fun j hj Cy hxj=>Cy (hw j (OI j hj x hxj hx))
   have hro:=ZN h0 hI.main (env:=opened ops A L sr.env) hI.asz hI.adf (fun x u hu=>hI.ro x u (nU hu).1 (nU hu).2) (fun x u hu=>hsn.env x u (nU hu).1) 0
   have he2:fa P base ⟨opened ops A L sr.env,fun t=>ZG (s0.box t),0⟩ o.op=some (some v,none):=by
    rw[← WQ]
    exact (Ui hsn (fun x hx=>(hop x hx).symm) hsb).symm
   obtain ⟨g',w',r,hrun,hsame,dr,hval,_⟩:=iX (o:=o) hro (Nat.lt_irrefl base) he2
   have rz:Kept w w':=dr.frame
   have ZQ:AV.av g' v=AV.av g0 v:=AV.bX (AV.bA (fun n hn=>hsame n hn) ZM)
   have hdN:d < N:=hs.dN i o ho d hd
   refine wN ho (hs.gd i o ho) ?_
   unfold Oper.wp
   rw[hrun,hval]
   simp only[Oper.upon]
   rw[hd,ZQ]
   have hpg:=fun x=>wO (a:=a) (u:=AV.av g0 v) (x:=x) (d:=d) (by rw[hI.asz];exact hdN)
   have hap:ap.tmps[d]? =some (AV.av g0 v):=by
    have h1:=hI.main.env d v (by rw[hI.abP d (fw ho hd hA)];exact hv1)
    rw[h1]
    exact congrArg some (AV.bX (AV.bA (fun n hn=>(hI.main.kJ n hn).2) ZM))
   refine ih _ done rem g sp ap _ w' βf hR hsz' hfuel OH ⟨hI.main.kept rz,fun x hx=> ?_,by rw[Bn];exact hI.asz,by rw[put_defers];exact hI.adf,hI.abP,hI.abQ,fun x u hu hx=> ?_,fun j hj Cy=> ?_,fun j hj k hk h1 h2=> ?_,fun j hj=>keep j (hI.lD j hj),fun j hj h=> ?_,fun j hj h=> ?_⟩ hv
   ·rw[hpg]
    split
    ·rename_i e;subst e;exact hap
    ·rename_i e
     exact hI.link x fun j hj=>unl j hj x hx fun h=>e (dst_eq ho hd h)
   ·rw[hpg]
    split
    ·rename_i e;subst e;rw[hv1]at hu;cases hu;rfl
    ·rename_i e
     exact hI.ro x u hu fun j hj=>unl j hj x hx fun h=>e (dst_eq ho hd h)
   ·have hji:j≠i:=fun e=>hp.jA i hA (GY (.inr (.inl (e▸hj))))
    obtain ⟨⟨oj,t,dj,zl,k1,k2,k3,k4,k5,k6⟩,k7,k8,k9⟩:=hI.zs j hj (back j hji Cy)
    have hdj:dj≠d:=fun e=>hp.dA d (fw ho hd hA) (by rw[fF,fF];exact List.mem_append_left _ (List.mem_append_right _ (e▸fw k1 k3 hj)))
    exact ⟨⟨oj,t,dj,zl,k1,k2,k3,k4,by rw[hpg,if_neg hdj];exact k5,by rw[rz.heap k8];exact k6⟩,k7,Nat.lt_of_lt_of_le k8 rz.size,k9⟩
   ·have e1:j≠i:=fun e=>hp.jA i hA (GY (.inr (.inl (e▸hj))))
    have e2:k≠i:=fun e=>hp.jA i hA (GY (.inr (.inl (e▸hk))))
    exact hI.zi j hj k hk (back j e1 h1) (back k e2 h2)
   ·have e1:j≠i:=fun e=>hp.jA i hA (GY (.inl (by rw[hR, ← e];simp[hj])))
    exact hI.lR j hj (back j e1 h)
   ·have e1:j≠i:=fun e=>hp.jA i hA (GY (.inr (.inr (e▸hj))))
    exact hI.lF j hj (back j e1 h)
  ·
   have hnd:i ∉ done:=fun h=>hnl (hI.lD i h)
   have aeQ:i ∈ rem:=by rw[hR]at WB;exact (List.mem_append.1 WB).resolve_left hnd
   cases rem with
   | nil=>cases aeQ
   | cons r0 rest=>
    have hc:=VO (hR▸hp.cR:jK ops (done++r0::rest)=true)
    simp only[jK,Bool.and_eq_true]at hc
    have wH:i=r0:=by
     rcases List.mem_cons.1 aeQ with h | h
     ·exact h
     ·exact absurd (hw r0 (List.all_eq_true.1 hc.1 i h)) (hI.lR r0 (by simp))
    subst wH
    obtain ⟨o',f,xs,tys,ho',hop,aeR,OI⟩:=hp.inR i WB
    rw[ho]at ho';cases ho'
    simp only[List.cons_append,fL,ho]at hv
    obtain ⟨dst,op,type,pos,after,guard⟩:=o
    simp only at hop;subst hop
    unfold Bi at hv
    simp only at hv
    rw[if_pos aeR]at hv
    cases hargs:bN sp xs.toList with
    | none=>rw[hargs]at hv;exact hv.elim
    | some l=>
     rw[hargs]at hv
     have hx1:xs.map a.eval=(l.map (AV.av g)).toArray:=by
      apply Array.ext'
      rw[Array.toList_map, ← (eN hI.main _ _ hargs).1]
      refine List.map_congr_left fun x hx=>(VN fun t ht=> ?_).symm
      refine hI.link t fun j hj Cy hxj=>Cy (hw j (OI j hj t hxj ?_))
      exact jy (o:=⟨dst, .call ⟨.value (.func f),xs,tys⟩,type,pos,after,guard⟩) (x:=x) (by show x ∈ (Op.call ⟨.value (.func f),xs,tys⟩).operands;simp[Op.operands,Call.operands];exact Or.inr (by simpa using hx)) ht
     refine wN ho (hs.gd i _ ho) ?_
     unfold Oper.wp
     rw[jx f xs tys dst type pos after guard a.eval rfl w,fD aeR,hx1]
     simp only[Oper.upon]
     refine (VK hv hI.main).mono ?_
     rintro e w' ⟨v,g',bx,rfl,hok,dr,hkeep,hk⟩
     simp only
     have hdN: ∀ x,dst=some x→x < N:=fun x hx=>hs.dN i _ ho x hx
     have Lz: ∀ (b:Act) (x:Nat),b.tmps.size=N→(b.put dst (AV.av g' v)).tmps[x]? =if dst=some x then some (AV.av g' v) else b.tmps[x]? :=fun b x hb=>by
      cases dst with
      | none=>simp[Act.put]
      | some d=>
       rw[wO (by rw[hb];exact hdN d rfl)]
       by_cases e:x=d
       ·subst e;simp
       ·rw[if_neg e,if_neg (fun h=>e (Option.some.inj h).symm)]
     have gH: ∀ x,dst≠some x→(({ sp with box:=bx }:AS).put dst (some v)).env x=sp.env x:=fun x hx=>by
      cases dst with
      | none=>rfl
      | some d=>exact bg _ _ _ _ fun e=>hx (by rw[e])
     have hnd: ∀ x,x ∈ dstsOf ops A→dst≠some x:=fun x hx e=>hp.dA x hx (by rw[fF,fF];exact List.mem_append_left _ (List.mem_append_left _ (fw ho e WB)))
     have ajr: ∀ x,x ∈ dstsOf ops Z→dst≠some x:=fun x hx e=>hp.dR x (fw ho e WB) hx
     have hlen:(done++[i]).length=done.length+1:=by simp
     refine ih _ (done++[i]) rest g' _ _ _ w' βf (by rw[hR];simp) hsz' hfuel OH ⟨(dr.put hdN hok).mono (fun n hn=>by rw[hlen];omega),fun x hx=> ?_,by rw[Bn];exact hI.asz,by rw[put_defers];exact hI.adf,fun x hx=> ?_,fun x hx=> ?_,fun x u hu hx=> ?_,fun j hj Cy=> ?_,fun j hj k hk h1 h2=> ?_,fun j hj=> ?_,fun j hj h=> ?_,fun j hj h=> ?_⟩ (by rw[hlen];exact hk)
     ·rw[Lz ap x hI.main.size,Lz a x hI.asz]
      split
      ·rfl
      ·exact hI.link x fun j hj Cy=>hx j hj fun h=>Cy (back j (fun e=>hp.jA j hj (GY (.inl (e▸WB)))) h)
     ·rw[gH x (hnd x hx)];exact hI.abP x hx
     ·rw[gH x (ajr x hx)];exact hI.abQ x hx
     ·rw[Lz a x hI.asz]
      split
      ·rename_i e
       have:=hsD x (by rw[fF,fF];exact List.mem_append_left _ (List.mem_append_left _ (fw ho e WB)))
       rw[this]at hu;cases hu
      ·exact hI.ro x u hu fun j hj Cy=>hx j hj fun h=>Cy (back j (fun e=>hp.jA j hj (GY (.inl (e▸WB)))) h)
     ·have hji:j≠i:=fun e=>hp.jR i WB (by simp[← e,hj])
      obtain ⟨⟨oj,t,dj,zl,k1,k2,k3,k4,k5,k6⟩,k7,k8,k9⟩:=hI.zs j hj (back j hji Cy)
      obtain ⟨m1,m2⟩:=hkeep _ k8 k9
      have alC:βf j < w'.heap.size:=by
       have:w'.heap[βf j]? =some (.cells zl.toArray t (0,0)):=m1.trans k6
       exact (Array.getElem?_eq_some_iff.1 this).1
      refine ⟨⟨oj,t,dj,zl,k1,k2,k3,k4, ?_,m1.trans k6⟩,k7,alC,fun t' b hb=> ?_⟩
      ·rw[Lz a dj hI.asz,if_neg (ajr dj (fw k1 k3 hj))];exact k5
      ·refine m2 t' b ?_
       cases dst<;>exact hb
     ·have e1:j≠i:=fun e=>hp.jR i WB (by simp[← e,hj])
      have e2:k≠i:=fun e=>hp.jR i WB (by simp[← e,hk])
      exact hI.zi j hj k hk (back j e1 h1) (back k e2 h2)
     ·rcases List.mem_append.1 hj with h | h
      ·exact keep j (hI.lD j h)
      ·rw[List.mem_singleton.1 h];exact (ZO hiL i).2 (.inl rfl)
     ·by_cases e:j=i
      ·subst e
       have:=rZ hs.lt _ _ _ (List.all_eq_true.1 hc.1 j hj)
       omega
      ·exact hI.lR j (by simp[hj]) (back j e h)
     ·have e1:j≠i:=fun e=>hp.jR i WB (by simp[← e,hj])
      exact hI.lF j hj (back j e1 h)
  ·
   obtain ⟨o',t,d,ho',hop,hd⟩:=hp.inZ i hZ
   rw[ho]at ho';cases ho'
   obtain ⟨zl,hz⟩:=hp.zero i hZ o t ho hop
   have hdN:d < N:=hs.dN i o ho d hd
   refine wN ho (hs.gd i o ho) ?_
   unfold Oper.wp
   rw[VM hz hop]
   simp only[Oper.upon]
   rw[hd]
   have hk:=OC w (.cells zl.toArray t)
   have hpg:=fun x=>wO (a:=a) (u:=Value.pointer (some ⟨w.heap.size,0,none⟩)) (x:=x) (d:=d) (by rw[hI.asz];exact hdN)
   have hpp:=fun x=>wO (a:=ap) (u:=Value.pointer (some ⟨w.heap.size,0,none⟩)) (x:=x) (d:=d) (by rw[hI.main.size];exact hdN)
   have hnA: ∀ j ∈ A,d ∉ fv ops j:=fun j hj h=>hp.dA d (GX hj h) (by rw[fF,fF];exact List.mem_append_left _ (List.mem_append_right _ (fw ho hd hZ)))
   have hAi: ∀ j ∈ A,j≠i:=fun j hj e=>hp.jA j hj (GY (.inr (.inl (e▸hZ))))
   refine ih _ done rem g sp (ap.put (some d) (Value.pointer (some ⟨w.heap.size,0,none⟩))) _ _ (fun j=>if j=i then w.heap.size else βf j) hR hsz' hfuel OH ⟨(hI.main.abO (hI.abQ d (fw ho hd hZ)) _).kept hk,fun x hx=> ?_,by rw[Bn];exact hI.asz,by rw[put_defers];exact hI.adf,hI.abP,hI.abQ,fun x u hu hx=> ?_,fun j hj Cy=> ?_,fun j hj k hk' h1 h2 hne=> ?_,fun j hj=>keep j (hI.lD j hj),fun j hj h=> ?_,fun j hj h=> ?_⟩ hv
   ·rw[hpg,hpp]
    split
    ·rfl
    ·exact hI.link x fun j hj Cy=>hx j hj fun h=>Cy (back j (hAi j hj) h)
   ·rw[hpg]
    split
    ·rename_i e;subst e
     have:=hsD x (by rw[fF,fF];exact List.mem_append_left _ (List.mem_append_right _ (fw ho hd hZ)))
     rw[this]at hu;cases hu
    ·exact hI.ro x u hu fun j hj Cy=>hx j hj fun h=>Cy (back j (hAi j hj) h)
   ·by_cases e:j=i
    ·subst e
     simp only[if_true]
     refine ⟨⟨o,t,d,zl,ho,hop,hd,hz,by rw[hpg,if_pos rfl], ?_⟩,hI.main.frame.size, ?_,fun t' b hb e=> ?_⟩
     ·show (w.heap.push _)[w.heap.size]? =_
      simp
     ·show w.heap.size < (w.heap.push _).size
      simp
     ·have:=hI.main.mem.lt t' b hb;omega
    ·simp only[if_neg e]
     obtain ⟨⟨oj,t',dj,zl',k1,k2,k3,k4,k5,k6⟩,k7,k8,k9⟩:=hI.zs j hj (back j e Cy)
     have hdj:dj≠d:=fun e2=>hp.dZ j hj i hZ e dj (sa k1 k3) (e2▸sa ho hd)
     exact ⟨⟨oj,t',dj,zl',k1,k2,k3,k4,by rw[hpg,if_neg hdj];exact k5,by rw[hk.heap k8];exact k6⟩,k7,Nat.lt_of_lt_of_le k8 hk.size,k9⟩
   ·by_cases e1:j=i
    ·have e2:k≠i:=fun e=>hne (e1.trans e.symm)
     simp only[if_pos e1,if_neg e2]
     have:=(hI.zs k hk' (back k e2 h2)).hi
     omega
    ·simp only[if_neg e1]
     by_cases e2:k=i
     ·simp only[if_pos e2]
      have:=(hI.zs j hj (back j e1 h1)).hi
      omega
     ·simp only[if_neg e2]
      exact hI.zi j hj k hk' (back j e1 h1) (back k e2 h2) hne
   ·have e1:j≠i:=fun e=>hp.jR j (by rw[hR];simp[hj]) (by simp[e,hZ])
    exact hI.lR j hj (back j e1 h)
   ·have e1:j≠i:=fun e=>hp.jZ i hZ (e▸hj)
    exact hI.lF j hj (back j e1 h)
  ·
   refine absurd (fun j hj=> ?_) hall
   refine hw j ((hp.inF i hF).2 j ?_)
   exact GY hj
where
 LY {A R Z F:List Nat} {base:Nat} {K:AS→Prop} {Q:Exit→Act→World→Prop} {W1:Nat→Prop} {w1:gF P} {env:Nat→Option AV} {g0:bG} (hs:Static ops N) (hp:OD P ops A R Z F)
   (hK: ∀ g' s' a' w',cE W1 N w1 (fun n=>n < s'.next) g' s' a' w'→K s'→Q .normal a' w')
   (fuel:Nat) (L:Array Bool) (done rem:List Nat) (g:bG) (sp:AS) (ap a:Act) (w:World) (βf:Nat→Nat) (hR:R=done++rem) (hsz:L.size=ops.size) (hf:(eP L ops.toList 0).length=fuel) (g8:Down ops L)
   (hI:Inv P W1 N w1 ops base A R Z F env g0 L done rem g sp ap a w βf) (hv:fL P ops base K (rem++(Z++F)) done.length sp)
   (hall: ∀ i,i ∈ A∨i ∈ R∨i ∈ Z→L.getD i false=true):wpAny P .any ops Q fuel L a w:=by
  have xk:rem=[]:=by
   cases rem with
   | nil=>rfl
   | cons r rest=>exact absurd (hall r (.inr (.inl (by rw[hR];simp)))) (hI.lR r (by simp))
  subst xk
  have dr:=hI.main.act hI.asz hI.adf fun d=>(hI.link d fun i hi hn=>absurd (hall i (.inl hi)) hn).symm
  obtain ⟨g',s',h1,h2⟩:=aeO (w0:=w1) Z done.length g sp hp.nZ (fun i hi=>hI.zs i hi (hall i (.inr (.inr hi)))) (fun i hi j hj=>hI.zi i hi j hj (hall i (.inr (.inr hi))) (hall j (.inr (.inr hj)))) dr hv
  refine ZP hs hK F (done.length+Z.length) fuel L g' s' a w hp.cF hsz hf (fun i hi=> ?_) (fun i hi=>(hp.inF i hi).1) g8 h1 h2
  constructor
  ·exact fun h hF=>hI.lF i hF h
  ·intro hF
   rcases hp.all i hi with h | h | h | h
   ·exact hall i (.inl h)
   ·exact hall i (.inr (.inl h))
   ·exact hall i (.inr (.inr h))
   ·exact absurd h hF
def qW (P:Program) (ops:Array Oper) (i:Nat):Bool:=match ops[i]? with
 | some o=>(match o.op with
  | .call ⟨.value (.func f),_,_⟩=>ai P f
  | .alloc t=>(zeroOf P t).isSome
  | _=>false)
 | none=>false
theorem oG {i:Nat} {p:Oper→Bool} (h:VJ ops i p=true): ∃ o,ops[i]? =some o∧p o=true:=by
 unfold VJ at h
 split at h
 ·rename_i o ho;exact ⟨o,ho,h⟩
 ·cases h
theorem j8 {l m:List Nat} (h:gY l m=true): ∀ x ∈ l,x ∉ m:=fun x hx=>OB h hx
theorem LZ {i j:Nat} {l:List Nat} (h:(gY (fv ops j) l||waits ops ops.size i j)=true): ∀ x ∈ fv ops j,x ∈ l→waits ops ops.size i j=true:=fun x hx hl=>by
 rcases Bool.or_eq_true_iff.1 h with h | h
 ·exact absurd hl (j8 h x hx)
 ·exact h
theorem FB: ∀ {Z:List Nat},qV.abJ ops Z=true→Z.Nodup∧ ∀ i ∈ Z, ∀ j ∈ Z,i≠j→ ∀ x ∈ fv ops i,x ∉ fv ops j
 | [],_=>⟨List.nodup_nil,fun i hi=>nomatch hi⟩
 | k::r,h=>by
  unfold qV.abJ at h
  simp only[Bool.and_eq_true,Bool.not_eq_true',List.contains_eq_mem,decide_eq_false_iff_not]at h
  obtain ⟨⟨h1,h2⟩,h3⟩:=h
  obtain ⟨k1,k2⟩:=FB h3
  refine ⟨List.nodup_cons.2 ⟨h2,k1⟩,fun i hi j hj hne x hx=> ?_⟩
  rcases List.mem_cons.1 hi with h4 | h4<;>rcases List.mem_cons.1 hj with h5 | h5
  ·exact absurd (h4.trans h5.symm) hne
  ·subst h4;exact fun hxj=>j8 h1 x hx (GX h5 hxj)
  ·subst h5;exact fun hxj=>j8 h1 x hxj (GX h4 hx)
  ·exact k2 i h4 j h5 hne x hx
theorem L0 {A R Z F:List Nat} (hok:ops.toList.all (nj N)=true) (h:qV ops A R Z F=true) (hc:(R++Z).all (qW P ops)=true):Static ops N∧OD P ops A R Z F:=by
 unfold qV at h
 simp only[Bool.and_eq_true,List.all_eq_true]at h
 obtain ⟨⟨⟨⟨⟨⟨⟨⟨⟨⟨⟨⟨⟨⟨⟨h1,h2⟩,h3⟩,h4⟩,h5⟩,h6⟩,h7⟩,h8⟩,h9⟩,h10⟩,h11⟩,h12⟩,h13⟩,h14⟩,h15⟩,FC⟩:=h
 have sL: ∀ i ∈ R++Z,qW P ops i=true:=List.all_eq_true.1 hc
 obtain ⟨hnz,hdz⟩:=FB h12
 have hst: ∀ (i:Nat) o,ops[i]? =some o→o.guard=none∧ ∀ e ∈ o.after,Region.binds .any e=true→e.on < i:=fun i o ho=>by
  obtain ⟨o',ho',hp⟩:=oG (h2 i (List.mem_range.2 (Array.getElem?_eq_some_iff.1 ho).1))
  rw[ho]at ho';cases ho'
  simp only[Bool.and_eq_true,Option.isNone_iff_eq_none,List.all_eq_true,Bool.or_eq_true,Bool.not_eq_true',decide_eq_true_eq]at hp
  exact ⟨hp.1,fun e he hb=>(hp.2 e (by simpa using he)).resolve_left (by rw[hb];simp)⟩
 refine ⟨⟨fun i o ho=>(hst i o ho).2,fun i o ho=>(hst i o ho).1,fun i o ho d hd=> ?_⟩,⟨fun i hi=> ?_,fun i hi=> ?_,j8 h5,h4,j8 h6,j8 h7,j8 h8,fun i hi=> ?_,h10,j8 h11,fun i hi=> ?_,hdz,hnz,fun i hi o t ho hop=> ?_,fun i hi=> ?_,h15⟩⟩
 ·have:=List.all_eq_true.1 hok o (by simpa using Array.mem_of_getElem? ho)
  unfold nj at this;rw[hd]at this;simpa using this
 ·have:=h1 i (List.mem_range.2 hi)
  simp only[Bool.or_eq_true,List.contains_eq_mem,decide_eq_true_eq]at this
  rcases this with ((h | h) | h) | h
  ·exact .inl h
  ·exact .inr (.inl h)
  ·exact .inr (.inr (.inl h))
  ·exact .inr (.inr (.inr h))
 ·obtain ⟨o,ho,hp⟩:=oG (h3 i hi)
  simp only[Bool.and_eq_true,List.all_eq_true]at hp
  obtain ⟨⟨⟨⟨p1,p2⟩,p3⟩,p4⟩,p5⟩:=hp
  obtain ⟨d,hd⟩:=Option.isSome_iff_exists.1 p2
  exact ⟨o,d,ho,p1,hd,j8 p4,fun j hj=>LZ (p5 j hj)⟩
 ·obtain ⟨o,ho,hp⟩:=oG (h9 i hi)
  simp only[Bool.and_eq_true,List.all_eq_true]at hp
  obtain ⟨⟨p1,p2⟩,p3⟩:=hp
  have GZ:=sL i (List.mem_append_left _ hi)
  unfold qW at GZ
  rw[ho]at GZ
  obtain ⟨dst,op,type,pos,after,guard⟩:=o
  simp only at GZ p1
  unfold LV at p1
  split at p1
  ·rename_i f xs tys
   exact ⟨_,f,xs,tys,ho,rfl,GZ,fun j hj=>LZ (p3 j hj)⟩
  ·cases p1
 ·obtain ⟨o,ho,hp⟩:=oG (h13 i hi)
  simp only[Bool.and_eq_true]at hp
  obtain ⟨p1,p2⟩:=hp
  obtain ⟨d,hd⟩:=Option.isSome_iff_exists.1 p2
  unfold Fw at p1
  split at p1
  ·rename_i t e
   exact ⟨o,t,d,ho,e,hd⟩
  ·cases p1
 ·have GZ:=sL i (List.mem_append_right _ hi)
  unfold qW at GZ
  rw[ho]at GZ
  simp only[hop]at GZ
  exact Option.isSome_iff_exists.1 GZ
 ·have hw:=h14 i hi
  exact ⟨by simpa using FC i hi,fun j hj=>hw j hj⟩
theorem OJ {A R Z F dm:List Nat} {K:AS→Prop} {Q:Exit→Act→World→Prop} (hok:ops.toList.all (nj N)=true) (hp:qV ops A R Z F=true) (hc:(R++Z).all (qW P ops)=true)
  (hK: ∀ g' s' a' w',cE W N w0 (fun n=>n < s'.next) g' s' a' w'→K s'→Q .normal a' w') (h:cE W N w0 (fun n=>n < s.next) g s a w) (hv:ZI P ops A R Z F dm K s):
  wpAny P .any ops Q ops.size (Array.replicate ops.size false) a w:=by
 obtain ⟨hs,Vp⟩:=L0 (P:=P) hok hp hc
 have h0:=h.agh dm
 have hb:=h0.ZJ (pn:=s.next) fun n hn=>hn
 have hro:=ZN h0 hb (env:=roE (dstsOf ops (A++R++Z++F)) s.env) (a':=a) h.size h.defers (fun d v hd=>by
  unfold roE at hd;split at hd
  ·cases hd
  ·exact h.env d v hd) (fun d v hd=>by
  unfold roE at hd;split at hd
  ·cases hd
  ·exact h.names.env d v hd) s.next
 obtain ⟨sr,ar,hk,lT,hnx,dr,hoff,Wx⟩:=FA (M:=fun n=>n < s.next) (nm:=s.next) (Nat.lt_irrefl _) (fun h:s.next+1 < s.next=>by omega) hok (fun i hi=>by
  obtain ⟨o,d,h1,h2,h3,_⟩:=Vp.inA i hi
  exact ⟨o,h1,h2,d,h3⟩) Vp.rA hro hv
 have hlen:(eP (Array.replicate ops.size false) ops.toList 0).length=ops.size:=by
  have key: ∀ (l:List Oper) (k n:Nat),k+l.length≤n→(eP (Array.replicate n false) l k).length=l.length:=by
   intro l
   induction l with
   | nil=>intro k n _;rfl
   | cons o r ih=>
    intro k n hk
    simp only[List.length_cons]at hk
    have:(Array.replicate n false).getD k true=false:=by
     simp[Array.getD_eq_getD_getElem?,show k < n by omega]
    simp only[eP,this,Bool.false_eq_true,if_false,List.length_cons]
    rw[ih (k+1) n (by omega)]
  rw[key _ _ _ (by simp)];simp
 have hfalse: ∀ i, ¬ (Array.replicate ops.size false).getD i false=true:=fun i hi=>by
  simp only[Array.getD_eq_getD_getElem?,Array.getElem?_replicate]at hi
  by_cases hlt:i < ops.size<;>simp[hlt]at hi
 have hnone: ∀ d,d ∈ dstsOf ops (R++Z++F)→sr.env d=none:=fun d hd=>by
  have hA:d ∉ dstsOf ops A:=fun h=>Vp.dA d h hd
  rw[(hoff d hA).1]
  show roE _ _ d=none
  unfold roE
  rw[if_pos]
  simp only[List.contains_eq_mem,decide_eq_true_eq]
  rw[show A++R++Z++F=A++(R++Z++F) by simp,fF]
  exact List.mem_append_right _ hd
 have jX:sr.box=fun t=>ZG (({ s with box:=WA dm s.box }:AS).box t):=lT
 refine abR (hl:=h0.laid) (s0:={ s with box:=WA dm s.box }) (sr:=sr) (base:=s.next) (K:=K) hs Vp h0 Wx dr.names jX hnone (fun g' s' a' w' hr hk'=>hK g' s' a' w' (h0.ZK (pn:=s.next) (fun n hn=>hn) hr) hk') ops.size _ [] R g ⟨sr.env,WA dm s.box,s.next⟩ ar a w (fun _=>0) rfl (by simp) hlen
  (fun i o ho hi=>absurd hi (hfalse i)) ⟨?_,fun d hd=> ?_,h.size,h.defers,fun d hd=>rfl,fun d hd=> ?_,fun d v hd hx=> ?_,fun i hi hl=>absurd hl (hfalse i),fun i hi j hj hl=>absurd hl (hfalse i),(fun i hi=>nomatch hi),fun i hi=>hfalse i,fun i hi=>hfalse i⟩ (by simpa using hk)
 ·refine cE.mono (M:=fun n=>n < s.next) (fun n hn=>by simp;omega) ⟨dr.size,dr.defers,dr.env,⟨dr.names.env,h0.names.box⟩,⟨h0.mem.lt,h0.mem.cell,h0.mem.free,h0.mem.sep⟩,hb.own,hb.frame,hb.kJ,hb.tabs⟩
 ·refine (hoff d fun hdA=> ?_).2
  obtain ⟨i,hi,o,ho,hdo⟩:=Bk hdA
  exact hd i hi (hfalse i) (sa ho hdo)
 ·exact hnone d (by rw[fF,fF];exact List.mem_append_left _ (List.mem_append_right _ hd))
 ·have hA:d ∉ dstsOf ops A:=fun hdA=>by
   obtain ⟨i,hi,o,ho,hdo⟩:=Bk hdA
   exact hx i hi (hfalse i) (sa ho hdo)
  rw[← (hoff d hA).2]
  exact dr.env d v hd
end
end Go.cA
namespace Go.cA
set_option linter.unusedSectionVars false
def gM (k:Nat) (q:Nat→Nat) (n:Nat):Nat:=if n < k then n else q (n - k)
def dt (r:Nat→Nat) (k nm:Nat) (n:Nat):Nat:=if n < k then r n else nm+(n - k)
structure mL (P:Program) [Tables P] (f:Nat) (args:List AV) (k m:Nat) (ins:Nat→Option aW) (Post:AV→(Nat→Option aW)→Prop):Prop where
 body:ai P f=true
 le:m≤4
 all: ∀ n,n < k→ ∃ b,ins n=some b
 np: ∀ n b,ins n=some b→n < k
 call: ∀ (W:Nat→Prop) (g:bG) (w:World),Laid P w→(∀ b bx,Tables.row P b=some bx→ ¬ W b)→eX g (wz ins) w→(∀ t b,ins t=some b→b.rw=true→W (g t).1)→
  Calls P f (args.map (AV.av g)).toArray w fun e w'=> ∃ v out g',e= .returned (AV.av g' v)∧Post v out∧(∀ n,n < k→g' n=g n)∧AV.ok (fun n=>n < k+m) v∧
   (∀ n b,out n=some b→n < k+m∧(k≤n→b.rw=true)∧ ∀ x ∈ b.cells,SV.ok (fun n=>n < k+m) x)∧eX g' (wz out) w'∧
   (∀ t b,out t=some b→b.rw=true→w.heap.size≤(g' t).1∨W (g' t).1)∧Frame W w w'
def Cz (k m:Nat) (Post:AV→(Nat→Option aW)→Prop) (v:AV) (s:AS):Prop:=
 ∃ (q:Nat→Nat) (v0:AV) (out:Nat→Option aW),(∀ j,j < m→k≤q j)∧(∀ i j,i < m→j < m→q i=q j→i=j)∧v=AV.bh (gM k q) v0∧AV.ok (fun n=>n < k+m) v0∧
  (∀ n b,out n=some b→n < k+m∧(k≤n→b.rw=true)∧(∀ x ∈ b.cells,SV.ok (fun n=>n < k+m) x)∧ ∃ b',s.box (gM k q n)=some b'∧(b.rw=true→b'.rw=true)∧b'.cells=b.cells.map (SV.bh (gM k q)))∧Post v0 out
def ky (s:AS) (r:Nat→Nat) (k m nm:Nat) (wr:Option Nat) (out:Nat→Option aW) (t:Nat):Option aW:=
 if nm≤t∧t < nm+m then (out (k+(t - nm))).map (aW.bh (dt r k nm)) else match wr with
  | none=>s.box t
  | some n=>if t=r n then (out n).map (aW.bh (dt r k nm)) else s.box t
section
variable {P:Program} [Tables P] {W:Nat→Prop} {N:Nat} {w0:gF P} {M:Nat→Prop} {g:bG} {s:AS} {a:Act} {w:World} {nm:Nat}
theorem bt.wide {f k:Nat} {args:List AV} {ins:Nat→Option aW} {Post:AV→(Nat→Option aW)→Prop} (h:bt P f args k ins Post):mL P f args k 1 ins Post:=
 ⟨h.body,by decide,h.all,h.np,fun W g w h1 h2 h3 h4=>(h.call W g w h1 h2 h3 h4).mono (by
  rintro e w' ⟨v,out,g',k1,k2,k3,k4,k5,k6,k7,k8⟩
  exact ⟨v,out,g',k1,k2,k3,k4,fun n b hb=>⟨(k5 n b hb).1,fun hn=>(k5 n b hb).2.1 (by have:=(k5 n b hb).1;omega),(k5 n b hb).2.2⟩,k6,k7,k8⟩)⟩
theorem Bo {f:Nat} {fn:Func} {c:Code} (hf:P.funcs[f]? =some fn) (hb:fn.body=some c) {args:List AV} {k m:Nat} {ins:Nat→Option aW}
  (hlen:args.length≤fn.ntmps) (hc:ai P f=true) (hm4:m≤4) (hargs: ∀ v ∈ args,AV.ok (fun n=>n < k) v) (hall: ∀ n,n < k→ ∃ b,ins n=some b) (j6: ∀ n b,ins n=some b→n < k∧ ∀ x ∈ b.cells,SV.ok (fun n=>n < k) x)
  {Post:AV→(Nat→Option aW)→Prop} (hv: ∀ (W:Nat→Prop) (w0:gF P),w0.pn≤k→Sound P W fn.ntmps w0 c (kY P fn.results.toList (Cz k m Post)) (start args ins k)):mL P f args k m ins Post:=by
 refine ⟨hc,hm4,hall,fun n b hb=>(j6 n b hb).1,fun W g w hlaid ko hm hown=> ?_⟩
 refine (nS (W:=W) (g:=g) (w:=w) hf hb hlen hlaid ko ⟨fun d v hd=> ?_,fun t b ht=>j6 t b ht⟩ ⟨hm.lt,hm.cell,hm.free,hm.sep⟩ hown (hv W)).mono ?_
 ·simp only[start]at hd
  exact hargs v (List.mem_of_getElem? hd)
 ·rintro e w' ⟨v,g',s',rfl,⟨q,v0,out,hq,hqi,rfl,Vs,hout,hpost⟩,_,Gl,hmem,NH,xN,hfr⟩
  have hr: ∀ n,n < k→gM k q n=n:=fun n hn=>by unfold gM;rw[if_pos hn]
  have hinj: ∀ n n',n < k+m→n' < k+m→gM k q n=gM k q n'→n=n':=fun n n' h1 h2 e=>by
   unfold gM at e
   split at e<;>split at e
   ·exact e
   ·have:=hq (n' - k) (by omega);omega
   ·have:=hq (n - k) (by omega);omega
   ·have:=hqi (n - k) (n' - k) (by omega) (by omega) e;omega
  refine ⟨v0,out,fun n=>g' (gM k q n),by rw[AV.cP],hpost,fun n hn=> ?_,Vs,fun n b hb=> ?_,⟨fun t b hb=> ?_,fun t b hb i v hv=> ?_,fun t b hb hrw i hi=> ?_,fun t t' b b' hb hrw hb' hne=> ?_⟩,fun t b hb hrw=> ?_,hfr⟩
  ·show g' (gM k q n)=_
   rw[hr n hn];exact (Gl n hn).2
  ·obtain ⟨h1,h2,h3,_⟩:=hout n b hb
   exact ⟨h1,h2,h3⟩
  ·obtain ⟨h1,_,_,b',h2,_⟩:=hout t b hb
   exact hmem.lt _ b' h2
  ·obtain ⟨h1,_,_,b',h2,_,h4⟩:=hout t b hb
   have:=hmem.cell _ b' h2 i (SV.bh (gM k q) v) (by rw[h4];simp[hv])
   rw[this,SV.cP]
  ·obtain ⟨h1,_,_,b',h2,h3,h4⟩:=hout t b hb
   exact hmem.free _ b' h2 (h3 hrw) i (by rw[h4];simpa using hi)
  ·obtain ⟨h1,_,_,c1,h2,h3,_⟩:=hout t b hb
   obtain ⟨h1',_,_,c2,h2',_,_⟩:=hout t' b' hb'
   exact hmem.sep _ _ c1 c2 h2 (h3 hrw) h2' (fun e=>hne (hinj _ _ h1 h1' e))
  ·obtain ⟨h1,_,_,b',h2,h3,_⟩:=hout t b hb
   exact xN _ b' h2 (h3 hrw)
theorem gl {r:Nat→Nat} {k m:Nat} {wr:Option Nat} {out:Nat→Option aW} {t:Nat} {b:aW} (h:ky s r k m nm wr out t=some b):
  (∃ j c,j < m∧t=nm+j∧out (k+j)=some c∧b=aW.bh (dt r k nm) c)∨(¬ (nm≤t∧t < nm+m)∧((∃ n c,wr=some n∧t=r n∧out n=some c∧b=aW.bh (dt r k nm) c)∨((∀ n,wr=some n→t≠r n)∧s.box t=some b))):=by
 unfold ky at h
 split at h
 ·rename_i hr
  left
  cases ho:out (k+(t - nm)) with
  | none=>rw[ho]at h;cases h
  | some c=>
   rw[ho]at h
   simp only[Option.map_some,Option.some.injEq]at h
   exact ⟨t - nm,c,by omega,by omega,ho,h.symm⟩
 ·rename_i hr
  refine .inr ⟨hr, ?_⟩
  cases wr with
  | none=>exact .inr ⟨fun n e=>(by cases e),h⟩
  | some n=>
   simp only at h
   split at h
   ·rename_i e
    left
    cases ho:out n with
    | none=>rw[ho]at h;cases h
    | some c=>
     rw[ho]at h
     simp only[Option.map_some,Option.some.injEq]at h
     exact ⟨n,c,rfl,e,ho,h.symm⟩
   ·rename_i e
    exact .inr ⟨fun n' e'=>(by cases e';exact e),h⟩
theorem mL.rep {f k m:Nat} {args:List AV} {ins:Nat→Option aW} {Post:AV→(Nat→Option aW)→Prop} (h:mL P f args k m ins Post) (hs:cE W N w0 (fun n=>n < nm) g s a w)
  {r:Nat→Nat} {wr:Option Nat} (hfit:Fits s r ins wr):
  Calls P f ((args.map (AV.bh r)).map (AV.av g)).toArray w fun e w'=> ∃ v out g',e= .returned (AV.av g' (AV.bh (dt r k nm) v))∧Post v out∧(∀ n,n < nm→g' n=g n)∧
   cE W N w0 (fun n=>n < nm+m) g' { s with box:=ky s r k m nm wr out } a w'∧AV.ok (fun n=>n < nm+m) (AV.bh (dt r k nm) v)∧
   (∀ t b,ky s r k m nm wr out t=some b→b.rw=true∨ ∃ b0,s.box t=some b0∧g' t=g t):=by
 have wJ: ∀ n,n < k→r n < nm:=fun n hn=>by
  obtain ⟨b,hb⟩:=h.all n hn
  obtain ⟨b',hb',_⟩:=hfit.box n b hb
  exact (hs.names.box _ b' hb').1
 have hargs:(args.map (AV.bh r)).map (AV.av g)=args.map (AV.av fun n=>g (r n)):=by
  rw[List.map_map];exact List.map_congr_left fun x _=>AV.cP g r x
 rw[hargs]
 have hm0:eX (fun n=>g (r n)) (wz ins) w:=by
  refine ⟨fun t b hb=> ?_,fun t b hb i v hv=> ?_,fun t b hb hrw i hi=> ?_,fun t t' b b' hb hrw hb' hne=> ?_⟩
  ·obtain ⟨b',h1,_⟩:=hfit.box t b hb
   exact hs.mem.lt _ b' h1
  ·obtain ⟨b',h1,_,h3⟩:=hfit.box t b hb
   have:=hs.mem.cell _ b' h1 i (SV.bh r v) (by rw[h3];simp[hv])
   rw[this,SV.cP]
  ·obtain ⟨b',h1,h2,h3⟩:=hfit.box t b hb
   exact hs.mem.free _ b' h1 (h2 hrw) i (by rw[h3];simpa using hi)
  ·obtain ⟨c,h1,h2,_⟩:=hfit.box t b hb
   obtain ⟨c',h1',_,_⟩:=hfit.box t' b' hb'
   exact hs.mem.sep _ _ c c' h1 (h2 hrw) h1' (fun e=>hne (hfit.inj _ _ b b' hb hrw hb' e))
 have htb: ∀ b bx,Tables.row P b=some bx→ ¬ ∃ n,wr=some n∧b=(g (r n)).1:=fun b bx hb=>by
  rintro ⟨n,hn,rfl⟩
  obtain ⟨c,hc,hrw⟩:=hfit.Xh n hn
  obtain ⟨b',h1,h2,_⟩:=hfit.box n c hc
  rcases hs.own _ b' h1 (h2 hrw) with h3 | h3
  ·have:=(w0.laid.rows _ bx hb).1;omega
  ·exact hs.tabs _ bx hb h3
 refine (h.call (fun blk=> ∃ n,wr=some n∧blk=(g (r n)).1) (fun n=>g (r n)) w hs.laid htb hm0 (fun t b hb hrw=>⟨t,hfit.only t b hb hrw,rfl⟩)).mono ?_
 rintro e w' ⟨v,out,gc,rfl,hpost,hsame,hv,hout,hmem,hown,hfr⟩
 let G:bG:=fun n=>if nm≤n then gc (k+(n - nm)) else g n
 have gx: ∀ n,n < nm→G n=g n:=fun n hn=>if_neg (by omega)
 have gC: ∀ j,G (nm+j)=gc (k+j):=fun j=>by show (if nm≤nm+j then gc (k+(nm+j - nm)) else _)=_;rw[if_pos (by omega)];congr 1;omega
 have hgr: ∀ n,n < k+m→G (dt r k nm n)=gc n:=fun n hn=>by
  unfold dt
  split
  ·rename_i e;rw[gx _ (wJ n e),hsame n e]
  ·rename_i e;rw[gC];congr 1;omega
 have Gq: ∀ x:SV,SV.names (fun n=>n < k+m) x→SV.av gc x=SV.av G (SV.bh (dt r k nm) x):=fun x hx=>by
  rw[SV.cP];exact SV.bX (SV.eY (fun n hn=>(hgr n hn).symm) hx)
 have NI:AV.av gc v=AV.av G (AV.bh (dt r k nm) v):=by
  rw[AV.cP];exact AV.bX (AV.bA (fun n hn=>(hgr n hn).symm) hv)
 have hMn: ∀ n,n < k+m→dt r k nm n < nm+m:=fun n hn=>by
  unfold dt
  split
  ·rename_i e;have:=wJ n e;omega
  ·omega
 have NJ: ∀ x:SV,SV.ok (fun n=>n < k+m) x→SV.ok (fun n=>n < nm+m) (SV.bh (dt r k nm) x):=fun x hx=>by
  rcases x with v | ⟨t,o⟩ | ⟨t,o,n,c⟩
  ·exact ⟨trivial,hx.2⟩
  ·exact ⟨hMn _ hx.1,rfl⟩
  ·exact ⟨hMn _ hx.1,rfl⟩
 have Xi: ∀ x:CV,CV.ok (fun n=>n < k+m) x→CV.ok (fun n=>n < nm+m) (CV.bh (dt r k nm) x):=fun x hx=>by
  rcases x with x | l
  ·rcases x with v | ⟨t,o⟩ | ⟨t,o,n,c⟩
   ·trivial
   ·exact hMn _ hx
   ·exact hMn _ hx
  ·intro y hy
   simp only[List.mem_map]at hy
   obtain ⟨z,hz,rfl⟩:=hy
   exact NJ z (hx z hz)
 have afO:AV.ok (fun n=>n < nm+m) (AV.bh (dt r k nm) v):=by
  rcases v with x | l
  ·exact Xi x hv
  ·intro y hy
   simp only[List.mem_map]at hy
   obtain ⟨z,hz,rfl⟩:=hy
   exact Xi z (hv z hz)
 have mV: ∀ n,wr=some n→n < k∧ ∃ b',s.box (r n)=some b'∧b'.rw=true:=fun n hn=>by
  obtain ⟨b,hb,hrw⟩:=hfit.Xh n hn
  obtain ⟨b',h1,h2,_⟩:=hfit.box n b hb
  exact ⟨h.np n b hb,b',h1,h2 hrw⟩
 have hWc: ∀ t b,s.box t=some b→(∀ n,wr=some n→t≠r n)→ ¬ ∃ n,wr=some n∧(g t).1=(g (r n)).1:=fun t b hb hne=>by
  rintro ⟨n,hn,e⟩
  obtain ⟨_,b',h1,h2⟩:=mV n hn
  exact hs.mem.sep _ _ b' b h1 h2 hb (fun e=>hne n hn e.symm) e.symm
 have hkeep: ∀ t b,s.box t=some b→(∀ n,wr=some n→t≠r n)→w'.heap[(g t).1]? =w.heap[(g t).1]? :=fun t b hb hne=>
  hfr.block _ (hs.mem.lt t b hb) (hWc t b hb hne)
 have sM: ∀ t b,s.box t=some b→t < nm:=fun t b hb=>(hs.names.box t b hb).1
 have xO: ∀ j t b c,j < m→s.box t=some b→(∀ n,wr=some n→t≠r n)→out (k+j)=some c→(gc (k+j)).1≠(g t).1:=fun j t b c hj hb hne hc=>by
  rcases hown (k+j) c hc ((hout (k+j) c hc).2.1 (by omega)) with h1 | ⟨n,hn,h1⟩
  ·have:=hs.mem.lt t b hb;omega
  ·rw[h1]
   intro e
   exact hWc t b hb hne ⟨n,hn,e.symm⟩
 have rG: ∀ j n c c',j < m→wr=some n→out (k+j)=some c→out n=some c'→(gc (k+j)).1≠(g (r n)).1:=fun j n c c' hj hn hc Cm=>by
  have hlt:=(mV n hn).1
  have:=hmem.sep (k+j) n c c' hc ((hout (k+j) c hc).2.1 (by omega)) Cm (by omega)
  rwa [hsame n hlt]at this
 have hcell: ∀ n c i x,out n=some c→n < k+m→(aW.bh (dt r k nm) c).cells[i]? =some x→w'.cell? ⟨(gc n).1,(gc n).2+i,none⟩=some (SV.av G x):=fun n c i x hc hn hx=>by
  simp only[aW.bh,List.getElem?_map]at hx
  cases hz:c.cells[i]? with
  | none=>rw[hz]at hx;cases hx
  | some z=>
   rw[hz]at hx
   simp only[Option.map_some,Option.some.injEq]at hx;subst hx
   rw[hmem.cell n c hc i z hz,Gq z ((hout n c hc).2.2 z (List.mem_of_getElem? hz)).1]
 refine ⟨v,out,G,by rw[NI],hpost,gx,⟨hs.size,hs.defers,fun d x hd=> ?_,⟨fun d x hd=> ?_,fun t b hb=> ?_⟩,⟨fun t b hb=> ?_,fun t b hb i x hx=> ?_,fun t b hb hrw i hi=> ?_,fun t t' b b' hb hrw hb' hne=> ?_⟩,fun t b hb hrw=> ?_, ?_,fun n hn=>⟨Nat.lt_of_lt_of_le (hs.kJ n hn).1 (Nat.le_add_right _ _),(gx n (hs.kJ n hn).1).trans (hs.kJ n hn).2⟩,hs.tabs⟩,afO,fun t b hb=> ?_⟩
 ·rw[hs.env d x hd]
  rw[AV.bX (AV.bA (fun n hn=>(gx n hn).symm) (hs.names.env d x hd))]
 ·exact AV.bA (fun _ hn=>Nat.lt_of_lt_of_le hn (Nat.le_add_right _ _)) (hs.names.env d x hd)
 ·rcases gl hb with ⟨j,c,hj,rfl,hc,rfl⟩ | ⟨_,⟨n,c,hn,rfl,hc,rfl⟩ | ⟨_,hb'⟩⟩
  ·refine ⟨by omega,fun x hx=> ?_⟩
   simp only[aW.bh,List.mem_map]at hx
   obtain ⟨z,hz,rfl⟩:=hx
   exact NJ z ((hout _ c hc).2.2 z hz)
  ·refine ⟨by have:=wJ n (mV n hn).1;omega,fun x hx=> ?_⟩
   simp only[aW.bh,List.mem_map]at hx
   obtain ⟨z,hz,rfl⟩:=hx
   exact NJ z ((hout n c hc).2.2 z hz)
  ·exact ⟨Nat.lt_of_lt_of_le (sM t b hb') (Nat.le_add_right _ _),fun x hx=>SV.bA (fun _ hn=>Nat.lt_of_lt_of_le hn (Nat.le_add_right _ _)) ((hs.names.box t b hb').2 x hx)⟩
 ·rcases gl hb with ⟨j,c,hj,rfl,hc,rfl⟩ | ⟨_,⟨n,c,hn,rfl,hc,rfl⟩ | ⟨_,hb'⟩⟩
  ·rw[gC];exact hmem.lt _ c hc
  ·have:=hmem.lt n c hc
   rw[gx _ (wJ n (mV n hn).1), ← hsame n (mV n hn).1];exact this
  ·rw[gx t (sM t b hb')];exact Nat.lt_of_lt_of_le (hs.mem.lt t b hb') hfr.size
 ·rcases gl hb with ⟨j,c,hj,rfl,hc,rfl⟩ | ⟨_,⟨n,c,hn,rfl,hc,rfl⟩ | ⟨hne,hb'⟩⟩
  ·rw[gC];exact hcell _ c i x hc (by omega) hx
  ·rw[gx _ (wJ n (mV n hn).1), ← hsame n (mV n hn).1]
   exact hcell n c i x hc (by have:=(mV n hn).1;omega) hx
  ·have h1:=hs.mem.cell t b hb' i x hx
   rw[gx t (sM t b hb')]
   have h2:w'.cell? ⟨(g t).1,(g t).2+i,none⟩=w.cell? ⟨(g t).1,(g t).2+i,none⟩:=by
    unfold World.cell?;simp only[hkeep t b hb' hne]
   rw[h2,h1]
   rw[SV.bX (SV.eY (fun n hn=>(gx n hn).symm) ((hs.names.box t b hb').2 x (List.mem_of_getElem? hx)).1)]
 ·rcases gl hb with ⟨j,c,hj,rfl,hc,rfl⟩ | ⟨_,⟨n,c,hn,rfl,hc,rfl⟩ | ⟨hne,hb'⟩⟩
  ·rw[gC];exact hmem.free _ c hc hrw i (by simpa[aW.bh] using hi)
  ·have:=hmem.free n c hc hrw i (by simpa[aW.bh] using hi)
   rw[gx _ (wJ n (mV n hn).1), ← hsame n (mV n hn).1];exact this
  ·rw[gx t (sM t b hb')]
   have h2:dq w' ⟨(g t).1,(g t).2+i,none⟩=dq w ⟨(g t).1,(g t).2+i,none⟩:=by
    unfold dq;simp only[hkeep t b hb' hne]
   rw[h2];exact hs.mem.free t b hb' hrw i hi
 ·rcases gl hb with ⟨j,c,hj,rfl,hc,rfl⟩ | ⟨hz1,⟨n,c,hn,rfl,hc,rfl⟩ | ⟨afP,ux⟩⟩<;>rcases gl hb' with ⟨j',c',hj',rfl,Cm,rfl⟩ | ⟨hz2,⟨n',c',hn',rfl,Cm,rfl⟩ | ⟨afQ,sW⟩⟩
  ·rw[gC,gC]
   exact hmem.sep _ _ c c' hc hrw Cm (by omega)
  ·rw[gC,gx _ (wJ n' (mV n' hn').1)]
   exact rG j n' c c' hj hn' hc Cm
  ·rw[gC,gx _ (sM _ _ sW)]
   exact xO j t' b' c hj sW afQ hc
  ·rw[gC,gx _ (wJ n (mV n hn).1)]
   exact fun e=>rG j' n c' c hj' hn Cm hc e.symm
  ·rw[hn]at hn';cases hn';exact absurd rfl hne
  ·obtain ⟨hlt,b0,h1,h2⟩:=mV n hn
   rw[gx _ (wJ n hlt),gx _ (sM _ _ sW)]
   exact hs.mem.sep _ _ b0 b' h1 h2 sW hne
  ·rw[gC,gx _ (sM _ _ ux)]
   exact fun e=>xO j' t b c' hj' ux afP Cm e.symm
  ·obtain ⟨hlt,b0,h1,h2⟩:=mV n' hn'
   rw[gx _ (wJ n' hlt),gx _ (sM _ _ ux)]
   exact hs.mem.sep _ _ b b0 ux hrw h1 hne
  ·rw[gx _ (sM _ _ ux),gx _ (sM _ _ sW)]
   exact hs.mem.sep _ _ b b' ux hrw sW hne
 ·have hW0: ∀ x,(w.heap.size≤x∨ ∃ n,wr=some n∧x=(g (r n)).1)→w0.heap.size≤x∨W x:=fun x hx=>by
   rcases hx with hx | ⟨n,hn,rfl⟩
   ·exact .inl (Nat.le_trans hs.frame.size hx)
   ·obtain ⟨_,b0,h1,h2⟩:=mV n hn
    exact hs.own _ b0 h1 h2
  rcases gl hb with ⟨j,c,hj,rfl,hc,rfl⟩ | ⟨_,⟨n,c,hn,rfl,hc,rfl⟩ | ⟨_,hb'⟩⟩
  ·rw[gC];exact hW0 _ (hown _ c hc hrw)
  ·rw[gx _ (wJ n (mV n hn).1)]
   exact hW0 _ (.inr ⟨n,hn,rfl⟩)
  ·rw[gx _ (sM _ _ hb')];exact hs.own t b hb' hrw
 ·have hf:=hs.frame
  refine ⟨hfr.os.trans hf.os,hfr.tape.trans hf.tape,hfr.output.trans hf.output,Nat.le_trans hf.size hfr.size,fun x hx hW=> ?_⟩
  rw[hfr.block x (Nat.lt_of_lt_of_le hx hf.size) ?_]
  ·exact hf.block x hx hW
  ·rintro ⟨n,hn,rfl⟩
   obtain ⟨_,b0,h1,h2⟩:=mV n hn
   rcases hs.own _ b0 h1 h2 with h3 | h3
   ·exact absurd hx (Nat.not_lt.2 h3)
   ·exact hW h3
 ·rcases gl hb with ⟨j,c,hj,rfl,hc,rfl⟩ | ⟨_,⟨n,c,hn,rfl,hc,rfl⟩ | ⟨_,hb'⟩⟩
  ·exact .inl ((hout _ c hc).2.1 (by omega))
  ·obtain ⟨_,b0,h1,h2⟩:=mV n hn
   exact .inr ⟨b0,h1,gx _ (wJ n (mV n hn).1)⟩
  ·exact .inr ⟨b,hb',gx t (sM t b hb')⟩
theorem mL.aB {f k m:Nat} {args l:List AV} {ins:Nat→Option aW} {Post:AV→(Nat→Option aW)→Prop} (h:mL P f args k m ins Post) (r:Nat→Nat) (wr:Option Nat) (hfit:Fits s r ins wr) (hl:l=args.map (AV.bh r))
  {dst:Option Nat} {K:AS→Prop} (hk: ∀ v out,Post v out→K (({ s with box:=ky s r k m nm wr out }:AS).put dst (some (AV.bh (dt r k nm) v)))):bZ P nm f (some l) dst K s:=by
 intro W N w0 g a w dr
 rw[hl]
 refine (h.rep dr hfit).mono ?_
 rintro e w' ⟨v,out,g',rfl,hpost,hsame,ly,hok,hnew⟩
 have hle:=h.le
 exact ⟨_,g',_,rfl,AV.bA (fun n hn=>by omega) hok,ly.mono (fun n hn=>by omega),hnew,hk v out hpost⟩
end
end Go.cA
namespace Go.cA
set_option linter.unusedSectionVars false
section
variable {P:Program} [Tables P] {W:Nat→Prop} {N:Nat} {w0:gF P} {g:bG} {s:AS} {a:Act} {w:World}
def ZR (P:Program) [Tables P] (ops:Array Oper) (K:AS→Prop) (s:AS):Prop:=
 P.follows .mixedOrders=true∧ ∃ A R Z F dm,qV ops A R Z F=true∧(R++Z).all (qW P ops)=true∧ZI P ops A R Z F dm K s
def ajs (P:Program) [Tables P] (ops:Array Oper) (K:AS→Prop) (s:AS):Prop:=
 ops.toList.all (fun o=>o.guard.isNone)=true∧fL P ops s.next K (List.range' 0 ops.size) 0 s
def pr (P:Program) [Tables P] (wd:List Nat):Code→(Exit→AS→Prop)→AS→Prop
 | .region id ops true,F,s=>if wd.contains id=true then ZR P ops (F .normal) s else oR P (.region id ops true) F s
 | .region id ops false,F,s=>if wd.contains id=true then ajs P ops (F .normal) s else vc P (.region id ops false) F s
 | .seq a b,F,s=>pr P wd a (fi (pr P wd b F) F) s
 | .cond c a b,F,s=>mP (s.aQ c) (pr P wd a F) (pr P wd b F) s
 | .block id c,F,s=>pr P wd c (iY id F) s
 | .loop c,F,s=>jJ (pr P wd c) F s
 | c,F,s=>oR P c F s
theorem FD {ops:Array Oper} {base:Nat} {K:AS→Prop} {Q:Exit→Act→World→Prop} (hok:ops.toList.all (nj N)=true) (hg:ops.toList.all (fun o=>o.guard.isNone)=true)
  (hK: ∀ g' s' a' w',cE W N w0 (fun n=>n < s'.next) g' s' a' w'→K s'→Q .normal a' w'): ∀ (n i k:Nat) (g:bG) (s:AS) (a:Act) (w:World),i+n=ops.size→cE W N w0 (fun n=>n < base+4*(k+1)) g s a w→
   fL P ops base K (List.range' i n) k s→wpList P ops Q (ops.toList.drop i) a w
 | 0,i,k,g,s,a,w,hi,h,hv=>by
  rw[List.drop_eq_nil_of_le (by simp;omega)]
  exact hK _ _ _ _ (h.next _) hv
 | n+1,i,k,g,s,a,w,hi,h,hv=>by
  have hlt:i < ops.size:=by omega
  have hd:ops.toList.drop i=ops[i]::ops.toList.drop (i+1):=by rw[List.drop_eq_getElem_cons (by simpa using hlt)];simp
  rw[hd]
  simp only[List.range'_succ,fL,Array.getElem?_eq_getElem hlt]at hv
  have hmem:ops[i] ∈ ops.toList:=by simp
  have hgn:(ops[i]).guard=none:=by simpa using List.all_eq_true.1 hg _ hmem
  unfold wpList
  rw[if_pos (by simp[Region.wanted,hgn])]
  refine .inl (Bj h (fun d hd=> ?_) hv fun g' s' a' w' hr hk=>FD hok hg hK n (i+1) (k+1) g' s' a' w' (by omega) (hr.mono fun n hn=>by omega) hk)
  have:=List.all_eq_true.1 hok _ hmem
  unfold nj at this;rw[hd]at this;simpa using this
theorem ij {wd:List Nat}: ∀ (c:Code) (F:Exit→AS→Prop) (s:AS),codeOk N c=true→pr P wd c F s→Sound P W N w0 c F s
 | .seq x y,F,s,hok,hv,g,a,w,Q,h,hQ=>by
  simp only[codeOk,Bool.and_eq_true]at hok
  simp only[pr]at hv
  refine wp_seq (ij x _ s hok.1 hv g a w _ h fun e g' s' a' w' h' hk=> ?_)
  cases e with
  | normal=>exact ij y F s' hok.2 hk g' a' w' Q h' hQ
  | _=>exact hQ _ _ _ _ _ h' hk
 | .cond c x y,F,s,hok,hv,g,a,w,Q,h,hQ=>by
  simp only[codeOk,Bool.and_eq_true]at hok
  simp only[pr,mP]at hv
  split at hv
  ·rename_i b hb
   refine wp_cond_split (t:=b) (by rw[h.eval hb];rfl) (fun ht=> ?_) (fun hf=> ?_)
   ·exact ij x F s hok.1 (hv.1 ht) g a w Q h hQ
   ·exact ij y F s hok.2 (hv.2 hf) g a w Q h hQ
  ·exact hv.elim
 | .block id c,F,s,hok,hv,g,a,w,Q,h,hQ=>by
  simp only[codeOk]at hok
  simp only[pr]at hv
  refine wp_block (ij c _ s hok hv g a w _ h fun e g' s' a' w' h' hk=> ?_)
  cases e with
  | exit id'=>
   simp only[iY]at hk
   simp only[Exit.inBlock]
   split
   ·rename_i e;rw[if_pos e]at hk;exact hQ _ _ _ _ _ h' hk
   ·rename_i e;rw[if_neg e]at hk;exact hQ _ _ _ _ _ h' hk
  | _=>exact hQ _ _ _ _ _ h' hk
 | .loop c,F,s,hok,hv,g,a,w,Q,h,hQ=>by
  simp only[codeOk]at hok
  simp only[pr]at hv
  obtain ⟨ι,st,μ,i₀,⟨r,hr,hid⟩,hnx,hbody⟩:=hv
  have WU: ∀ (r:Nat→Nat),(∀ n,n < s.next→r n=n)→ ∀ i n,n < w0.pn→r n=n∧n < (st i).next:=fun r hid i n hn=>⟨hid n (h.kJ n hn).1,Nat.lt_of_lt_of_le (h.kJ n hn).1 (hnx i)⟩
  let p:Act→World→Nat→Prop:=fun a w n=> ∃ i g,μ i=n∧cE W N w0 (fun n=>n < (st i).next) g (st i) a w
  have hmin: ∀ a w,(∃ n,p a w n)→ ∃ n,p a w n∧ ∀ k,p a w k→n≤k:=fun a w hx=>rF _ hx
  have hm: ∃ m:Act→World→Nat, ∀ a w,(∃ n,p a w n)→p a w (m a w)∧ ∀ k,p a w k→m a w≤k:=by
   refine ⟨fun a w=>Classical.epsilon (fun n=>p a w n∧ ∀ k,p a w k→n≤k),fun a w hx=> ?_⟩
   exact Classical.epsilon_spec (hmin a w hx)
  obtain ⟨m,hm⟩:=hm
  refine wp_loop (fun a w=> ∃ n,p a w n) m ⟨_,i₀,_,rfl,h.dv hr (WU r hid i₀)⟩ (fun a1 w1 hI=> ?_)
  obtain ⟨⟨i,g1,hmu,h1⟩,afJ⟩:=hm a1 w1 hI
  refine ij c _ (st i) hok (hbody i) g1 a1 w1 _ h1 fun e g' s' a' w' h' hk=> ?_
  cases e with
  | normal=>
   obtain ⟨j,hlt,r',hr',afK⟩:=hk
   have hp:p a' w' (μ j):=⟨j,_,rfl,h'.dv hr' (WU r' afK j)⟩
   refine ⟨⟨_,hp⟩, ?_⟩
   have:=(hm a' w' ⟨_,hp⟩).2 _ hp
   omega
  | _=>exact hQ _ _ _ _ _ h' hk
 | .region id ops true,F,s,hok,hv,g,a,w,Q,h,hQ=>by
  simp only[pr]at hv
  split at hv
  ·obtain ⟨hm,A,R,Z,F',dm,h1,h2,hv⟩:=hv
   exact wp_region_any hm (OJ (K:=F .normal) hok h1 h2 (fun g' s' a' w' h' hk=>hQ _ _ _ _ _ h' hk) h.drew hv)
  ·exact dF _ F s hok hv g a w Q h hQ
 | .region id ops false,F,s,hok,hv,g,a,w,Q,h,hQ=>by
  simp only[pr]at hv
  split at hv
  ·obtain ⟨h1,hv⟩:=hv
   refine wp_region_list ?_
   have:=FD (base:=s.next) (K:=F .normal) (Q:=Q) hok h1 (fun g' s' a' w' h' hk=>hQ _ _ _ _ _ h' hk) ops.size 0 0 g s a w (by omega) (h.mono fun n hn=>by omega) hv
   simpa using this
  ·exact dI _ F s hok hv g a w Q h hQ
 | .skip,F,s,hok,hv,g,a,w,Q,h,hQ=>dF _ F s hok hv g a w Q h hQ
 | .exit id,F,s,hok,hv,g,a,w,Q,h,hQ=>dF _ F s hok hv g a w Q h hQ
 | .ret,F,s,hok,hv,g,a,w,Q,h,hQ=>dF _ F s hok hv g a w Q h hQ
 | .rangeFunc .., F,s,hok,hv,g,a,w,Q,h,hQ=>dF _ F s hok hv g a w Q h hQ
 | .scope _,F,s,hok,hv,g,a,w,Q,h,hQ=>dF _ F s hok hv g a w Q h hQ
 | .label _,F,s,hok,hv,g,a,w,Q,h,hQ=>dF _ F s hok hv g a w Q h hQ
 | .goto _,F,s,hok,hv,g,a,w,Q,h,hQ=>dF _ F s hok hv g a w Q h hQ
 | .refuse _,F,s,hok,hv,g,a,w,Q,h,hQ=>dF _ F s hok hv g a w Q h hQ
def Bp (P:Program) [Tables P] (wd:List Nat) (m:Nat) (oO:AS→Prop):Nat→Code→(Exit→AS→Prop)→AS→Prop
 | 0,_,_,s=> ∃ s2,wv m s s2∧m≤s2.next∧oO s2
 | n+1, .seq a b,F,s=>pr P wd a (fi (Bp P wd m oO n b F) F) s
 | _+1,_,_,_=>False
def VP (P:Program) [Tables P] (wd:List Nat) (m:Nat):List Nat→Code→(Exit→AS→Prop)→AS→Prop
 | [],c,F,s=>pr P wd c F s
 | n::r,c,F,s=> ∃ oO:AS→Prop,Bp P wd m oO n c F s∧ ∀ s2,oO s2→VP P wd m r (kR n c) F s2
theorem sb {wd:List Nat} {m:Nat} (hm:w0.pn≤m) {oO:AS→Prop}: ∀ (n:Nat) (c:Code) (F:Exit→AS→Prop) (s:AS),codeOk N c=true→Bp P wd m oO n c F s→(∀ s2,oO s2→Sound P W N w0 (kR n c) F s2)→Sound P W N w0 c F s
 | 0,c,F,s,hok,hv,ht,g,a,w,Q,h,hQ=>by
  obtain ⟨s2,⟨r,hr,Zp⟩,hn,hmid⟩:=hv
  exact ht s2 hmid _ a w Q (h.dv hr fun n hn'=>⟨Zp n (by omega),by omega⟩) hQ
 | n+1, .seq x y,F,s,hok,hv,ht,g,a,w,Q,h,hQ=>by
  simp only[codeOk,Bool.and_eq_true]at hok
  refine wp_seq (ij x _ s hok.1 hv g a w _ h fun e g' s' a' w' h' hk=> ?_)
  cases e with
  | normal=>exact sb hm n y F s' hok.2 hk ht g' a' w' Q h' hQ
  | _=>exact hQ _ _ _ _ _ h' hk
theorem qX {wd:List Nat} {m:Nat} (hm:w0.pn≤m): ∀ (oS:List Nat) (c:Code) (F:Exit→AS→Prop) (s:AS),codeOk N c=true→VP P wd m oS c F s→Sound P W N w0 c F s
 | [],c,F,s,hok,hv=>ij c F s hok hv
 | n::r,c,F,s,hok,hv=>by
  obtain ⟨oO,h1,h2⟩:=hv
  exact sb hm n c F s hok h1 fun s2 hs=>qX hm r _ F s2 (AI n c hok) (h2 s2 hs)
theorem jr {f:Nat} {fn:Func} {c:Code} (hf:P.funcs[f]? =some fn) (hb:fn.body=some c) (hok:codeOk fn.ntmps c=true) (wd oS:List Nat) {args:List AV} {k m:Nat} {ins:Nat→Option aW}
  (hlen:args.length≤fn.ntmps) (hc:ai P f=true) (hm4:m≤4) (hargs: ∀ v ∈ args,AV.ok (fun n=>n < k) v) (hall: ∀ n,n < k→ ∃ b,ins n=some b) (j6: ∀ n b,ins n=some b→n < k∧ ∀ x ∈ b.cells,SV.ok (fun n=>n < k) x)
  {Post:AV→(Nat→Option aW)→Prop} (hv:VP P wd k oS c (kY P fn.results.toList (Cz k m Post)) (start args ins k)):mL P f args k m ins Post:=
 Bo hf hb hlen hc hm4 hargs hall j6 fun W w0 hp=>qX hp oS c _ _ hok hv
theorem j9 {f:Nat} {fn:Func} {c:Code} (hf:P.funcs[f]? =some fn) (hb:fn.body=some c) (hok:codeOk fn.ntmps c=true) (wd oS:List Nat) {args:List AV} {k:Nat} {ins:Nat→Option aW}
  (hlen:args.length≤fn.ntmps) (hc:ai P f=true) (hargs: ∀ v ∈ args,AV.ok (fun n=>n < k) v) (hall: ∀ n,n < k→ ∃ b,ins n=some b) (j6: ∀ n b,ins n=some b→n < k∧ ∀ x ∈ b.cells,SV.ok (fun n=>n < k) x)
  {Post:AV→(Nat→Option aW)→Prop} (hv:VP P wd k oS c (kY P fn.results.toList (Ct k Post)) (start args ins k)):bt P f args k ins Post:=
 Cx hf hb hlen hc hargs hall j6 fun W w0 hp=>qX hp oS c _ _ hok hv
variable {wd:List Nat} {F:Exit→AS→Prop}
theorem Uj {a b:Code}:pr P wd (.seq a b) F s=pr P wd a (fi (pr P wd b F) F) s:=rfl
theorem L1 {c:Operand} {a b:Code}:pr P wd (.cond c a b) F s=mP (s.aQ c) (pr P wd a F) (pr P wd b F) s:=rfl
theorem FE {id:Nat} {c:Code}:pr P wd (.block id c) F s=pr P wd c (iY id F) s:=rfl
theorem L2 {c:Code}:pr P wd (.loop c) F s=jJ (pr P wd c) F s:=rfl
theorem aeU {id:Nat} {ops:Array Oper}:pr P wd (.region id ops true) F s=if wd.contains id=true then ZR P ops (F .normal) s else oR P (.region id ops true) F s:=rfl
theorem aeV {id:Nat} {ops:Array Oper}:pr P wd (.region id ops false) F s=if wd.contains id=true then ajs P ops (F .normal) s else vc P (.region id ops false) F s:=rfl
theorem L3:pr P wd .skip F s=vc P .skip F s:=rfl
theorem Uk:pr P wd .ret F s=vc P .ret F s:=rfl
theorem L4 {id:Nat}:pr P wd (.exit id) F s=vc P (.exit id) F s:=rfl
theorem v7 {m:Nat} {oO:AS→Prop} {n:Nat} {a b:Code}:Bp P wd m oO (n+1) (.seq a b) F s=pr P wd a (fi (Bp P wd m oO n b F) F) s:=rfl
theorem L5 {m:Nat} {c:Code}:VP P wd m [] c F s=pr P wd c F s:=rfl
def tz (P:Program) [Tables P] (nm:Nat) (o:Option Oper) (K:AS→Prop) (s:AS):Prop:=match o with
 | some o=>Bi P nm o K s
 | none=>False
def ZS (P:Program) [Tables P] (nm:Nat) (o:Option Oper) (K:AS→Prop) (s:AS):Prop:=match o with
 | some o=>cv P nm o K s
 | none=>False
theorem Ul {ops:Array Oper} {base k:Nat} {K:AS→Prop} {e:Nat→Option AV} {b:Nat→Option aW} {n:Nat}:fL P ops base K [] k ⟨e,b,n⟩=K ⟨e,b,base+4*(k+1)⟩:=rfl
theorem L6 {l:List Oper} {base k i:Nat} {r:List Nat} {K:AS→Prop}:fL P l.toArray base K (i::r) k s=tz P (base+4*(k+1)) l[i]? (fL P l.toArray base K r (k+1)) s:=by
 unfold fL tz;rw[List.getElem?_toArray];cases l[i]? <;>rfl
theorem pure_nil {ops:Array Oper} {nm:Nat} {K:AS→Prop}:mv P ops nm K [] s=K s:=rfl
theorem pure_cons {l:List Oper} {nm i:Nat} {r:List Nat} {K:AS→Prop}:mv P l.toArray nm K (i::r) s=ZS P nm l[i]? (mv P l.toArray nm K r) s:=by
 unfold mv ZS;rw[List.getElem?_toArray];cases l[i]? <;>rfl
theorem Bq {nm:Nat} {o:Oper} {K:AS→Prop}:ZS P nm (some o) K s=cv P nm o K s:=rfl
theorem FF {nm f:Nat} {xs:Array Operand} {tys:Array TypeId} {dst:Option Nat} {ty:TypeId} {pos:String} {after:Array Edge} {K:AS→Prop}:
  tz P nm (some ⟨dst, .call ⟨.value (.func f),xs,tys⟩,ty,pos,after,none⟩) K s=if ai P f=true then bZ P nm f (bN s xs.toList) dst K s else mF P f (bN s xs.toList) dst K s:=rfl
theorem FG {nm:Nat} {x:Operand} {dst:Option Nat} {ty:TypeId} {pos:String} {after:Array Edge} {K:AS→Prop}:tz P nm (some ⟨dst, .move x,ty,pos,after,none⟩) K s=cv P nm ⟨dst, .move x,ty,pos,after,none⟩ K s:=rfl
theorem v8 {nm:Nat} {x:Operand} {dst:Option Nat} {ty:TypeId} {pos:String} {after:Array Edge} {K:AS→Prop}:tz P nm (some ⟨dst, .assign x,ty,pos,after,none⟩) K s=cv P nm ⟨dst, .assign x,ty,pos,after,none⟩ K s:=rfl
theorem Br {nm:Nat} {t:TypeId} {dst:Option Nat} {ty:TypeId} {pos:String} {after:Array Edge} {K:AS→Prop}:tz P nm (some ⟨dst, .alloc t,ty,pos,after,none⟩) K s=cv P nm ⟨dst, .alloc t,ty,pos,after,none⟩ K s:=rfl
theorem L7 {nm:Nat} {t:TypeId} {x:Operand} {dst:Option Nat} {ty:TypeId} {pos:String} {after:Array Edge} {K:AS→Prop}:tz P nm (some ⟨dst, .box t x,ty,pos,after,none⟩) K s=cv P nm ⟨dst, .box t x,ty,pos,after,none⟩ K s:=rfl
theorem Bs {nm:Nat} {t:TypeId} {ps:Array (Nat×Operand)} {dst:Option Nat} {ty:TypeId} {pos:String} {after:Array Edge} {K:AS→Prop}:tz P nm (some ⟨dst, .build t ps,ty,pos,after,none⟩) K s=cv P nm ⟨dst, .build t ps,ty,pos,after,none⟩ K s:=rfl
theorem FH {nm:Nat} {t:TypeId} {x:Operand} {dst:Option Nat} {ty:TypeId} {pos:String} {after:Array Edge} {K:AS→Prop}:tz P nm (some ⟨dst, .load t x,ty,pos,after,none⟩) K s=cv P nm ⟨dst, .load t x,ty,pos,after,none⟩ K s:=rfl
theorem Bt {nm:Nat} {t:TypeId} {x y:Operand} {dst:Option Nat} {ty:TypeId} {pos:String} {after:Array Edge} {K:AS→Prop}:tz P nm (some ⟨dst, .store t x y,ty,pos,after,none⟩) K s=cv P nm ⟨dst, .store t x y,ty,pos,after,none⟩ K s:=rfl
theorem nV {nm:Nat} {t:TypeId} {x:Operand} {f:Nat} {dst:Option Nat} {ty:TypeId} {pos:String} {after:Array Edge} {K:AS→Prop}:tz P nm (some ⟨dst, .fieldAddr t x f,ty,pos,after,none⟩) K s=cv P nm ⟨dst, .fieldAddr t x f,ty,pos,after,none⟩ K s:=rfl
theorem pv {nm:Nat} {x:Operand} {dst:Option Nat} {ty:TypeId} {pos:String} {after:Array Edge} {K:AS→Prop}:tz P nm (some ⟨dst, .nilCheck x,ty,pos,after,none⟩) K s=cv P nm ⟨dst, .nilCheck x,ty,pos,after,none⟩ K s:=rfl
theorem FI {nm:Nat} {op:UnOp} {t:TypeId} {x:Operand} {dst:Option Nat} {ty:TypeId} {pos:String} {after:Array Edge} {K:AS→Prop}:tz P nm (some ⟨dst, .unOp op t x,ty,pos,after,none⟩) K s=cv P nm ⟨dst, .unOp op t x,ty,pos,after,none⟩ K s:=rfl
theorem abS {cs:List SV}:ZG (some ⟨true,cs⟩)=none:=rfl
theorem abT {cs:List SV}:ZG (some ⟨false,cs⟩)=some ⟨false,cs⟩:=rfl
theorem abU:ZG none=none:=rfl
theorem aO:type_of% @Uj∧type_of% @L1∧type_of% @FE∧type_of% @L2∧type_of% @aeU∧type_of% @aeV∧type_of% @L3∧type_of% @Uk∧type_of% @L4∧type_of% @v7∧type_of% @L5∧type_of% @Ul∧type_of% @L6∧type_of% @pure_nil∧type_of% @pure_cons∧type_of% @Bq∧type_of% @FF∧type_of% @FG∧
  type_of% @v8∧type_of% @Br∧type_of% @L7∧type_of% @Bs∧type_of% @FH∧type_of% @Bt∧type_of% @nV∧type_of% @pv∧type_of% @FI∧type_of% @abS∧type_of% @abT∧type_of% @abU:=
 ⟨@Uj, @L1, @FE, @L2, @aeU, @aeV, @L3, @Uk, @L4, @v7, @L5, @Ul, @L6, @pure_nil, @pure_cons, @Bq, @FF, @FG, @v8, @Br, @L7, @Bs, @FH, @Bt, @nV, @pv, @FI, @abS, @abT, @abU⟩
end
end Go.cA
set_option maxHeartbeats 8000000
set_option maxRecDepth 20000
namespace Go.Proofs.YtoakenpcooglpaaGreatDoor
open Go.cA
set_option linter.unusedSectionVars false
variable [aX]
def pw (i:Nat):Int:=if i=4 then 2 else if i=5 then 3 else if i=6 then 4 else if i=7 then 5 else if i=3 then 6 else if i=8 then 8 else if i=2 then 9 else if i=1 then 10 else 1
theorem OL {i:Nat} (hi:i < 9):cB Tryz.prog 33 [V (mS i)] (I .i64 (pw i)):=by
 refine aK Tryz.func33 rfl (by kernel_rfl) (by simp[Tryz.ntmps33]) rfl rfl ?_
 simp only[Tryz.results33,Tryz.vs,Value.oneCell',simprocAttr, -List.reduceReplicate]
 refine (mq (j:=4) hi (by decide)).aB ?_
 simp only[Tryz.vr,Value.oneCell',simprocAttr, -List.reduceReplicate]
 refine dC (fun h=> ?_) (fun h4=> ?_)
 ·obtain rfl:i=4:=by simpa using h
  simp only[Tryz.vr,Value.oneCell',simprocAttr, -List.reduceReplicate];rfl
 simp only[Tryz.vr,Value.oneCell',simprocAttr, -List.reduceReplicate]
 refine (mq (j:=5) hi (by decide)).aB ?_
 simp only[Tryz.vr,Value.oneCell',simprocAttr, -List.reduceReplicate]
 refine dC (fun h=> ?_) (fun h5=> ?_)
 ·obtain rfl:i=5:=by simpa using h
  simp only[Tryz.vr,Value.oneCell',simprocAttr, -List.reduceReplicate];rfl
 simp only[Tryz.vr,Value.oneCell',simprocAttr, -List.reduceReplicate]
 refine (mq (j:=6) hi (by decide)).aB ?_
 simp only[Tryz.vr,Value.oneCell',simprocAttr, -List.reduceReplicate]
 refine dC (fun h=> ?_) (fun h6=> ?_)
 ·obtain rfl:i=6:=by simpa using h
  simp only[Tryz.vr,Value.oneCell',simprocAttr, -List.reduceReplicate];rfl
 simp only[Tryz.vr,Value.oneCell',simprocAttr, -List.reduceReplicate]
 refine (mq (j:=7) hi (by decide)).aB ?_
 simp only[Tryz.vr,Value.oneCell',simprocAttr, -List.reduceReplicate]
 refine dC (fun h=> ?_) (fun h7=> ?_)
 ·obtain rfl:i=7:=by simpa using h
  simp only[Tryz.vr,Value.oneCell',simprocAttr, -List.reduceReplicate];rfl
 simp only[Tryz.vr,Value.oneCell',simprocAttr, -List.reduceReplicate]
 refine (mq (j:=3) hi (by decide)).aB ?_
 simp only[Tryz.vr,Value.oneCell',simprocAttr, -List.reduceReplicate]
 refine dC (fun h=> ?_) (fun h3=> ?_)
 ·obtain rfl:i=3:=by simpa using h
  simp only[Tryz.vr,Value.oneCell',simprocAttr, -List.reduceReplicate];rfl
 simp only[Tryz.vr,Value.oneCell',simprocAttr, -List.reduceReplicate]
 refine (mq (j:=8) hi (by decide)).aB ?_
 simp only[Tryz.vr,Value.oneCell',simprocAttr, -List.reduceReplicate]
 refine dC (fun h=> ?_) (fun h8=> ?_)
 ·obtain rfl:i=8:=by simpa using h
  simp only[Tryz.vr,Value.oneCell',simprocAttr, -List.reduceReplicate];rfl
 simp only[Tryz.vr,Value.oneCell',simprocAttr, -List.reduceReplicate]
 refine (mq (j:=2) hi (by decide)).aB ?_
 simp only[Tryz.vr,Value.oneCell',simprocAttr, -List.reduceReplicate]
 refine dC (fun h=> ?_) (fun h2=> ?_)
 ·obtain rfl:i=2:=by simpa using h
  simp only[Tryz.vr,Value.oneCell',simprocAttr, -List.reduceReplicate];rfl
 simp only[Tryz.vr,Value.oneCell',simprocAttr, -List.reduceReplicate]
 refine (mq (j:=1) hi (by decide)).aB ?_
 simp only[Tryz.vr,Value.oneCell',simprocAttr, -List.reduceReplicate]
 refine dC (fun h=> ?_) (fun h1=> ?_)
 ·obtain rfl:i=1:=by simpa using h
  simp only[Tryz.vr,Value.oneCell',simprocAttr, -List.reduceReplicate];rfl
 simp only[Tryz.vr,Value.oneCell',simprocAttr, -List.reduceReplicate]
 have e:pw i=1:=by
  simp only[beq_eq_false_iff_ne,ne_eq]at h4 h5 h6 h7 h3 h8 h2 h1
  simp only[pw,h4,h5,h6,h7,h3,h8,h2,h1,if_false]
 rw[e]
theorem VQ {P:Program} [cA.Tables P] {t tx lM:Nat} (hk:ru P t=some (skZ,66,lM)) (hx:ln P tx=some (none,66)) {s:AS} {nm u m:Nat} {v:SV} {g:Nat→En} {rw:Bool} {cs:List SV} (hb:s.box u=some ⟨rw,cs⟩) (hv:aY u v m g cs) (hby:m*lM≤140737488355328) (h63:m≤9223372036854775807) {ty:TypeId} {ct:Array Bool} {dst:Option Nat} {K:AS→Prop}
  (h0:m=0→K (s.put dst (some (V (.slice none 0 0)))))
  (hK:0 < m→ ∀ c' cs',df cs' 0 m c' g→K ((⟨s.env,upd s.box nm (some ⟨true,cs'⟩),s.next⟩:AS).put dst (some (Sl nm 0 m c')))):
  cC P nm .append #[t,tx] ty ct (some [V (.slice none 0 0), .inl (.inl v)]) dst K s:=by
 rcases hv with ⟨⟨a,rfl⟩,rfl⟩ | ⟨o,c,rfl,hc,hs⟩
 ·exact gJ (m:=0) (news:=[]) (sz:=66) hk hx rfl (by decide) GU (.inr ⟨⟨a,rfl⟩,rfl,rfl⟩) h63 hby h0 (fun h=>absurd h (by decide))
 ·exact gJ (news:=iG m g) (sz:=66) hk hx rfl (by decide) GU (.inl ⟨u,o,c,_,rfl,hb,jD,mr hs,by simp⟩) h63 hby h0 (fun hm c' tail h1 h2 h3=>hK hm c' _ (df.row h1 h2 h3))
def alH (k n:Nat) (s:St) (f:Nat→En) (v:AV) (out:Nat→Option aW):Prop:= ∃ sv,v=Ag (bO { s with store:=sv })∧LQ k n f sv out
theorem ZT {s:St} {n:Nat} {f:Nat→En} {cs:List SV} (h0:aY 0 s.store n f cs) (hp:cs.all SV.plain=true) (hn:n*72≤140737488355328):
  bt Tryz.prog 34 [Ag (bO s)] 1 (lk [(0,⟨false,cs⟩)]) (alH 1 n s f):=by
 refine aE Tryz.func34 rfl (by kernel_rfl) (by simp[Tryz.ntmps34]) Tryz.qh (fun y hy=>by
  obtain rfl:=List.mem_singleton.1 hy
  exact cO (h0.ok (by decide))) eG (eH hp) ?_
 simp only[Tryz.results34,bL,aq,Tryz.vr,Value.oneCell',simprocAttr, -List.reduceReplicate]
 refine VQ (lM:=72) (rw:=false) (cs:=cs) Tryz.rT Tryz.rS (by simp only[af,Tryz.vr,Value.oneCell',simprocAttr, -List.reduceReplicate]) h0 hn (by omega) (fun h=> ?_) (fun h c1 mT g1=> ?_)
 ·simp only[bL,aq,Tryz.vr,Value.oneCell',simprocAttr, -List.reduceReplicate]
  exact aC (LM rfl) ⟨_,rfl, .inl ⟨h,rfl,rfl⟩⟩
 ·simp only[bL,aq,Tryz.vr,Value.oneCell',simprocAttr, -List.reduceReplicate]
  exact agd (by decide) (by simp only[af,Tryz.vr,Value.oneCell',simprocAttr, -List.reduceReplicate]) g1.plain ⟨_,rfl, .inr ⟨h,_,_,rfl,g1,rfl⟩⟩
end Go.Proofs.YtoakenpcooglpaaGreatDoor
set_option maxHeartbeats 8000000
set_option maxRecDepth 20000
namespace Go.Proofs.YtoakenpcooglpaaGreatDoor
open Go.cA
set_option linter.unusedSectionVars false
variable [aX]
def iJ (s:St) (n:Nat) (f:Nat→En) (m:Nat):Option Nat:=
 if iq s n f=false then some 0 else if 65536 < m then some 1 else if s.peer=false then some 2
 else if s.has=true∧s.ns=4294967295∨s.has=false∧s.se=4294967295 then some 3 else none
def Bu (o:Option Nat):AV:=match o with
 | none=>V .nilIface
 | some i=>V (mS i)
theorem OM (o:Option Nat):AV.plain (Bu o)=true:=by cases o<;>rfl
theorem Um {s:St} {n m i:Nat} {f:Nat→En} (h:iJ s n f m=some i):i < 4:=by
 unfold iJ at h
 repeat' split at h
 all_goals first | (cases h;decide) | cases h
theorem VR {s:St} {n m:Nat} {f:Nat→En} {g:Nat→Int} {vp:AV} {cs ds:List SV} (h0:aY 0 s.store n f cs) (hp:cs.all SV.plain=true) (hs:iH s) (hf: ∀ i,la (f i)) (hn:n < 4611686018427387904) (hv:eD 1 vp m g ds) (hq:ds.all SV.plain=true):
  bt Tryz.prog 16 [Ag (bO s),vp] 2 (lk [(0,⟨false,cs⟩),(1,⟨false,ds⟩)]) (fun v out=>v=Bu (iJ s n f m)∧out=fun _=>none):=by
 have hok:AV.ok (fun n=>n < 2) vp:=by
  rcases hv with ⟨⟨a,rfl⟩,_⟩ | ⟨o,c,rfl,_⟩
  ·trivial
  ·exact (show 1 < 2 by decide)
 refine aE Tryz.func16 rfl (by kernel_rfl) (by simp[Tryz.ntmps16]) Tryz.pW (fun y hy=>by
  simp only[List.mem_cons,List.not_mem_nil,or_false]at hy
  rcases hy with rfl | rfl
  ·exact cO (h0.ok (by decide))
  ·exact hok) nq (rI hp hq) ?_
 have Co: ∀ {box:Nat→Option aW},box 0=some ⟨false,cs⟩→gS box s.store n f:=fun hb=>⟨0,false,cs,hb,hp,h0⟩
 have hl:fB 1 (some [vp])=some (some (I .i64 m),none):=by
  rcases hv with ⟨⟨a,rfl⟩,rfl⟩ | ⟨o,c,rfl,_⟩<;>rfl
 simp only[Tryz.results16,aq,Tryz.vr,Value.oneCell',simprocAttr, -List.reduceReplicate]
 refine gS.calls (n:=n) (f:=f) (w:=B (iq s n f)) (Co (by simp only[af,Tryz.vr,Value.oneCell',simprocAttr, -List.reduceReplicate])) rfl (fun v cs hv hp=>by have:=abF (s:={ s with store:=v }) hv hp (hs.ws v) hf hn;rwa [Ox]at this) ?_
 simp only[Tryz.vr,Value.oneCell',simprocAttr, -List.reduceReplicate]
 rcases Bool.eq_false_or_eq_true (iq s n f) with hb | hb
 rotate_left 1
 ·simp only[hb,Bool.not_false,Tryz.vr,Value.oneCell',simprocAttr, -List.reduceReplicate]
  exact aC rfl ⟨by simp[iJ,hb,Bu],rfl⟩
 simp only[hb,Bool.not_true,hl,Tryz.vr,Value.oneCell',simprocAttr, -List.reduceReplicate]
 refine dC (fun h=> ?_) (fun h=> ?_)
 ·have h':65536 < m:=by have:=of_decide_eq_true h;omega
  simp only[Tryz.vr,Value.oneCell',simprocAttr, -List.reduceReplicate]
  exact aC rfl ⟨by simp[iJ,hb,h',Bu],rfl⟩
 have h1: ¬ 65536 < m:=by have:=of_decide_eq_false h;omega
 simp only[aq,Tryz.vr,Value.oneCell',simprocAttr, -List.reduceReplicate]
 rcases Bool.eq_false_or_eq_true s.peer with L8 | L8
 rotate_left 1
 ·simp only[L8,Bool.not_false,Tryz.vr,Value.oneCell',simprocAttr, -List.reduceReplicate]
  exact aC rfl ⟨by simp[iJ,hb,h1,L8,Bu],rfl⟩
 simp only[L8,Bool.not_true,aq,Tryz.vr,Value.oneCell',simprocAttr, -List.reduceReplicate]
 rcases Bool.eq_false_or_eq_true s.has with hh | hh
 ·simp only[hh,aq,Tryz.vr,Value.oneCell',simprocAttr, -List.reduceReplicate]
  refine dC (fun h=> ?_) (fun h=> ?_)
  ·have h2:s.ns=4294967295:=by simpa using h
   simp only[h,Tryz.vr,Value.oneCell',simprocAttr, -List.reduceReplicate]
   exact aC rfl ⟨by simp[iJ,hb,h1,L8,hh,h2,Bu],rfl⟩
  ·have h2: ¬ s.ns=4294967295:=by simpa using h
   simp only[hh,Bool.not_true,aq,Tryz.vr,Value.oneCell',simprocAttr, -List.reduceReplicate]
   exact aC rfl ⟨by simp[iJ,hb,h1,L8,hh,h2,Bu],rfl⟩
 ·simp only[hh,Bool.not_false,aq,Tryz.vr,Value.oneCell',simprocAttr, -List.reduceReplicate]
  refine dC (fun h=> ?_) (fun h=> ?_)
  ·have h2:s.se=4294967295:=by simpa using h
   simp only[Tryz.vr,Value.oneCell',simprocAttr, -List.reduceReplicate]
   exact aC rfl ⟨by simp[iJ,hb,h1,L8,hh,h2,Bu],rfl⟩
  ·have h2: ¬ s.se=4294967295:=by simpa using h
   simp only[Tryz.vr,Value.oneCell',simprocAttr, -List.reduceReplicate]
   exact aC rfl ⟨by simp[iJ,hb,h1,L8,hh,h2,Bu],rfl⟩
end Go.Proofs.YtoakenpcooglpaaGreatDoor
namespace Go.cA
set_option linter.unusedSectionVars false
section
variable {P:Program} [Tables P] {s:AS} {nm:Nat}
theorem js {r:Nat→Nat} {k nm:Nat}:dt r k nm k=nm:=by unfold dt;rw[if_neg (by omega)];omega
theorem Bv {r:Nat→Nat} {k nm:Nat}:dt r k nm (k+1)=nm+1:=by unfold dt;rw[if_neg (by omega)];omega
theorem ZU {r:Nat→Nat} {k:Nat} {out:Nat→Option aW}:ky s r k 1 nm none out=upd s.box nm ((out k).map (aW.bh (dt r k nm))):=by
 funext t
 unfold ky upd
 by_cases h:t=nm
 ·subst h;simp
 ·rw[if_neg (by omega)];simp[h]
theorem Bw {r:Nat→Nat} {k:Nat} {out:Nat→Option aW}:ky s r k 2 nm none out=upd (upd s.box nm ((out k).map (aW.bh (dt r k nm)))) (nm+1) ((out (k+1)).map (aW.bh (dt r k nm))):=by
 funext t
 unfold ky upd
 by_cases h:t=nm
 ·subst h;simp
 by_cases h1:t=nm+1
 ·subst h1;simp
 ·rw[if_neg (by omega)];simp[h,h1]
theorem G0 {r:Nat→Nat} {rw:Bool} {cs:List SV} (hp:cs.all SV.plain=true):aW.bh r ⟨rw,cs⟩=⟨rw,cs⟩:=by unfold aW.bh;rw[bj hp]
theorem ek {r:Nat→Nat} {rw:Bool} {cs:List SV} (hp:cs.all SV.plain=true):(some (⟨rw,cs⟩:aW)).map (aW.bh r)=some ⟨rw,cs⟩:=by rw[Option.map_some,G0 hp]
theorem Pure.bZ {f:Nat} {l:List AV} {Post:AV→Prop} (h:Pure P f l Post) {dst:Option Nat} {K:AS→Prop} (hk: ∀ r,Post r→K (s.put dst (some r))):
  bZ P nm f (some l) dst K s:=by
 intro W N w0 g a w dr
 have hl:l.map (AV.av g)=l.map AV.val:=List.map_congr_left fun x hx=>AV.fI (List.all_eq_true.1 h.args x hx) g
 rw[hl]
 refine (h.call w dr.laid).mono ?_
 rintro e w' ⟨r,hr,rfl,rz⟩
 exact ⟨r,g,s.box,by rw[AV.fI (h.res r hr)],AV.bH (h.res r hr),(dr.kept rz).mono (fun n hn=>by omega),fun t b hb=> .inr ⟨b,hb,rfl⟩,hk r hr⟩
theorem cB.bZ {f:Nat} {l:List AV} {r:AV} (h:cB P f l r) {dst:Option Nat} {K:AS→Prop} (hk:K (s.put dst (some r))):
  bZ P nm f (some l) dst K s:=Pure.bZ h (fun _ hv=>hv▸hk)
theorem bt.bZ {f k:Nat} {args l:List AV} {ins:Nat→Option aW} {Post:AV→(Nat→Option aW)→Prop} (h:bt P f args k ins Post) (r:Nat→Nat) (hfit:Fits s r ins none) (hl:l=args.map (AV.bh r))
  {dst:Option Nat} {K:AS→Prop} (hk: ∀ v out,Post v out→K ((⟨s.env,upd s.box nm ((out k).map (aW.bh (dt r k nm))),s.next⟩:AS).put dst (some (AV.bh (dt r k nm) v)))):Go.cA.bZ P nm f (some l) dst K s:=
 h.wide.aB r none hfit hl fun v out hp=>by rw[ZU];exact hk v out hp
theorem bt.abV {f k:Nat} {args l:List AV} {ins:Nat→Option aW} {v:AV} (h:bt P f args k ins (fun x out=>x=v∧out=fun _=>none)) (r:Nat→Nat) (hfit:Fits s r ins none) (hv:AV.plain v=true) (hl:l=args.map (AV.bh r))
  {dst:Option Nat} {K:AS→Prop} (hk:K ((⟨s.env,upd s.box nm none,s.next⟩:AS).put dst (some v))):Go.cA.bZ P nm f (some l) dst K s:=
 h.bZ r hfit hl fun x out ⟨hx,ho⟩=>by
  subst hx ho
  rw[AV.cw hv]
  exact hk
theorem iK {ops:Array Oper} {K:AS→Prop} {s:AS} (hm:P.follows .mixedOrders=true) (A R Z F dm D:List Nat) (h1:qV ops A R Z F=true) (h2:(R++Z).all (qW P ops)=true) (hD:dstsOf ops (A++R++Z++F)=D)
  (hv:mv P ops s.next (fun sr=>fL P ops s.next K (R++Z++F) 0 ⟨sr.env,WA dm s.box,s.next⟩) A ⟨roE D s.env,fun t=>ZG (WA dm s.box t),s.next⟩):ZR P ops K s:=
 ⟨hm,A,R,Z,F,dm,h1,h2,by subst hD;exact hv⟩
theorem ZV {D:List Nat} {env:Nat→Option AV} {d:Nat}:roE D env d=if D.contains d=true then none else env d:=rfl
def dmO (b:Option aW):Option aW:=b.map fun b=>⟨false,b.cells⟩
theorem ZW {D:List Nat} {box:Nat→Option aW} {t:Nat}:WA D box t=if D.contains t=true then dmO (box t) else box t:=by
 unfold WA dmO
 split
 ·cases box t<;>rfl
 ·rfl
theorem L9 {rw:Bool} {cs:List SV}:dmO (some ⟨rw,cs⟩)=some ⟨false,cs⟩:=rfl
theorem L':dmO none=none:=rfl
theorem Un {d:Nat}:([]:List Nat).contains d=false:=rfl
theorem Ma {a d:Nat} {l:List Nat}:(a::l).contains d=(d==a||l.contains d):=List.contains_cons
theorem Mb {nm:Nat}:AS.mem s nm none=s:=rfl
theorem rg1:List.range' 0 1=[0]:=rfl
theorem rg2:List.range' 0 2=[0,1]:=rfl
theorem rg3:List.range' 0 3=[0,1,2]:=rfl
theorem rg4:List.range' 0 4=[0,1,2,3]:=rfl
theorem rg5:List.range' 0 5=[0,1,2,3,4]:=rfl
theorem rg6:List.range' 0 6=[0,1,2,3,4,5]:=rfl
theorem rg7:List.range' 0 7=[0,1,2,3,4,5,6]:=rfl
theorem rg8:List.range' 0 8=[0,1,2,3,4,5,6,7]:=rfl
theorem rg9:List.range' 0 9=[0,1,2,3,4,5,6,7,8]:=rfl
theorem ajt:List.range' 0 10=[0,1,2,3,4,5,6,7,8,9]:=rfl
theorem az:type_of% @rg1∧type_of% @rg2∧type_of% @rg3∧type_of% @rg4∧type_of% @rg5∧type_of% @rg6∧type_of% @rg7∧type_of% @rg8∧type_of% @rg9∧type_of% @ajt∧type_of% @Mb∧type_of% @ZV∧type_of% @ZW∧type_of% @L9∧type_of% @L'∧type_of% @abS∧type_of% @abT∧type_of% @abU∧  type_of% @Ma∧type_of% @Un∧type_of% @Bool.or_false∧type_of% @Bool.or_true∧type_of% @Bool.false_or∧type_of% @Bool.true_or∧type_of% @Bool.false_eq_true:=
 ⟨@rg1, @rg2, @rg3, @rg4, @rg5, @rg6, @rg7, @rg8, @rg9, @ajt, @Mb, @ZV, @ZW, @L9, @L', @abS, @abT, @abU, @Ma, @Un, @Bool.or_false, @Bool.or_true, @Bool.false_or, @Bool.true_or, @Bool.false_eq_true⟩
end
end Go.cA
set_option maxRecDepth 20000
namespace Go.cA
def dD (c:Int) (s:St) (o:SV) (ep n:Int):List SV:=Sum.inl (.int .i64 c)::(bO s++[o,Sum.inl (.int .u32 ep),Sum.inl (.int .u32 n)])
section
variable {c c' ep n ep' n' x:Int} {s s':St} {o o':SV} {b:Bool} {g:Nat→Int}
theorem Bx:(dD c s o ep n).length=207:=by simp[dD,fJ]
theorem ZX:List.take 207 (dD c s o ep n)=dD c s o ep n:=List.take_of_length_le (by rw[Bx];omega)
theorem aju:splice (dD c s o ep n) 0 (dD c' s' o' ep' n')=dD c' s' o' ep' n':=by
 unfold splice
 rw[List.take_zero,List.nil_append,List.drop_eq_nil_of_le (by rw[Bx,Bx];omega),List.append_nil]
theorem nW {p:Nat} (h:p < 203):(dD c s o ep n)[1+p]? =(bO s)[p]? :=by
 rw[Nat.add_comm,dD,List.getElem?_cons_succ,List.getElem?_append_left (by rw[fJ];exact h)]
theorem my {p m:Nat} (h:p+m≤203):List.take m (List.drop (1+p) (dD c s o ep n))=List.take m (List.drop p (bO s)):=by
 rw[Nat.add_comm,dD,List.drop_succ_cons,List.drop_append_of_le_length (by rw[fJ];omega),List.take_append_of_le_length (by rw[List.length_drop,fJ];omega)]
theorem iV {p:Nat} {l:List SV} (h:splice (bO s) p l=bO s') (hl:p+l.length≤203):splice (dD c s o ep n) (1+p) l=dD c s' o ep n:=by
 unfold splice at h ⊢
 rw[Nat.add_comm,dD,List.take_succ_cons,List.take_append_of_le_length (by rw[fJ];omega),show p+1+l.length=(p+l.length)+1 by omega,List.drop_succ_cons,List.drop_append_of_le_length (by rw[fJ];omega),dD, ← h]
 simp only[List.cons_append,List.append_assoc]
theorem aeW:(dD c s o ep n)[0]? =some (Sum.inl (.int .i64 c)):=rfl
theorem aeX:splice (dD c s o ep n) 0 [Sum.inl (.int .i64 x)]=dD x s o ep n:=rfl
theorem aeY:List.take 203 (List.drop 1 (dD c s o ep n))=bO s:=by
 have:=my (c:=c) (s:=s) (o:=o) (ep:=ep) (n:=n) (p:=0) (m:=203) (by omega)
 rw[this];exact GF
theorem aeZ:splice (dD c s o ep n) 1 (bO s')=dD c s' o ep n:=iV (p:=0) Zr (by rw[fJ];omega)
theorem ON {k:Nat} {l:List SV} (h:204≤k):splice (dD c s o ep n) k l=(Sum.inl (.int .i64 c)::bO s)++splice [o,Sum.inl (.int .u32 ep),Sum.inl (.int .u32 n)] (k - 204) l:=by
 obtain ⟨j,rfl⟩: ∃ j,k=204+j:=⟨k - 204,by omega⟩
 have e:(Sum.inl (.int .i64 c)::bO s:List SV).length=204:=by simp[fJ]
 have e2:dD c s o ep n=(Sum.inl (.int .i64 c)::bO s)++[o,Sum.inl (.int .u32 ep),Sum.inl (.int .u32 n)]:=rfl
 rw[e2,splice,splice, ← e,List.take_length_add_append,Nat.add_assoc,List.drop_length_add_append,Nat.add_sub_cancel_left]
 simp only[List.append_assoc]
theorem Uo:splice (dD c s o ep n) 204 [o']=dD c s o' ep n:=ON (by omega)
theorem Up:splice (dD c s o ep n) 205 [Sum.inl (.int .u32 x)]=dD c s o x n:=ON (by omega)
theorem Uq:splice (dD c s o ep n) 206 [Sum.inl (.int .u32 x)]=dD c s o ep x:=ON (by omega)
theorem OO {k:Nat} (h:204≤k):(dD c s o ep n)[k]? =[o,Sum.inl (.int .u32 ep),Sum.inl (.int .u32 n)][k - 204]? :=by
 have e2:dD c s o ep n=(Sum.inl (.int .i64 c)::bO s)++[o,Sum.inl (.int .u32 ep),Sum.inl (.int .u32 n)]:=rfl
 rw[e2,List.getElem?_append_right (by simp[fJ];omega)]
 simp[fJ]
theorem Ur:(dD c s o ep n)[204]? =some o:=OO (by omega)
theorem Us:(dD c s o ep n)[205]? =some (Sum.inl (.int .u32 ep)):=OO (by omega)
theorem Ut:(dD c s o ep n)[206]? =some (Sum.inl (.int .u32 n)):=OO (by omega)
theorem ae0:(dD c s o ep n)[1]? =some (Sum.inl (.bool s.own)):=(nW (p:=0) (by omega)).trans Oe
theorem ae1:splice (dD c s o ep n) 1 [Sum.inl (.bool b)]=dD c { s with own:=b } o ep n:=iV (p:=0) Og (by simp)
theorem ae2:(dD c s o ep n)[2]? =some (Sum.inl (.bool s.peer)):=(nW (p:=1) (by omega)).trans Oh
theorem ae3:splice (dD c s o ep n) 2 [Sum.inl (.bool b)]=dD c { s with peer:=b } o ep n:=iV (p:=1) Oi (by simp)
theorem ae4:(dD c s o ep n)[3]? =some (Sum.inl (.bool s.has)):=(nW (p:=2) (by omega)).trans Oj
theorem ae5:splice (dD c s o ep n) 3 [Sum.inl (.bool b)]=dD c { s with has:=b } o ep n:=iV (p:=2) Ol (by simp)
theorem Uu:(dD c s o ep n)[196]? =some (Sum.inl (.int .u32 s.se)):=(nW (p:=195) (by omega)).trans AK
theorem Uv:splice (dD c s o ep n) 196 [Sum.inl (.int .u32 x)]=dD c { s with se:=x } o ep n:=iV (p:=195) AL (by simp)
theorem Uw:(dD c s o ep n)[197]? =some (Sum.inl (.int .u32 s.re)):=(nW (p:=196) (by omega)).trans AN
theorem Ux:splice (dD c s o ep n) 197 [Sum.inl (.int .u32 x)]=dD c { s with re:=x } o ep n:=iV (p:=196) AO (by simp)
theorem Uy:(dD c s o ep n)[198]? =some (Sum.inl (.int .u32 s.ns)):=(nW (p:=197) (by omega)).trans AP
theorem Uz:splice (dD c s o ep n) 198 [Sum.inl (.int .u32 x)]=dD c { s with ns:=x } o ep n:=iV (p:=197) AQ (by simp)
theorem UA:(dD c s o ep n)[199]? =some (Sum.inl (.int .u32 s.nr)):=(nW (p:=198) (by omega)).trans AR
theorem UB:splice (dD c s o ep n) 199 [Sum.inl (.int .u32 x)]=dD c { s with nr:=x } o ep n:=iV (p:=198) AT (by simp)
theorem UC:(dD c s o ep n)[200]? =some (Sum.inl (.int .u32 s.pn)):=(nW (p:=199) (by omega)).trans AU
theorem UD:splice (dD c s o ep n) 200 [Sum.inl (.int .u32 x)]=dD c { s with pn:=x } o ep n:=iV (p:=199) AW (by simp)
theorem UE:(dD c s o ep n)[201]? =some (Sum.inl (.int .i64 s.skip)):=(nW (p:=200) (by omega)).trans AX
theorem UF:splice (dD c s o ep n) 201 [Sum.inl (.int .i64 x)]=dD c { s with skip:=x } o ep n:=iV (p:=200) AY (by simp)
theorem UG:(dD c s o ep n)[202]? =some (Sum.inl (.int .i64 s.room)):=(nW (p:=201) (by omega)).trans AZ
theorem UH:splice (dD c s o ep n) 202 [Sum.inl (.int .i64 x)]=dD c { s with room:=x } o ep n:=iV (p:=201) A4 (by simp)
theorem UI:(dD c s o ep n)[203]? =some s.store:=(nW (p:=202) (by omega)).trans A5
theorem UJ:splice (dD c s o ep n) 203 [o']=dD c { s with store:=o' } o ep n:=iV (p:=202) A6 (by simp)
theorem ae6:List.take 32 (List.drop 4 (dD c s o ep n))=ae .u8 32 s.root:=(my (p:=3) (by omega)).trans Om
theorem ae7:splice (dD c s o ep n) 4 (ae .u8 32 g)=dD c { s with root:=g } o ep n:=iV (p:=3) On (by rw[ah];omega)
theorem ZY:List.take 32 (List.drop 36 (dD c s o ep n))=ae .u8 32 s.priv:=(my (p:=35) (by omega)).trans GG
theorem ZZ:splice (dD c s o ep n) 36 (ae .u8 32 g)=dD c { s with priv:=g } o ep n:=iV (p:=35) GH (by rw[ah];omega)
theorem Z1:List.take 32 (List.drop 68 (dD c s o ep n))=ae .u8 32 s.cQ:=(my (p:=67) (by omega)).trans GI
theorem Z2:splice (dD c s o ep n) 68 (ae .u8 32 g)=dD c { s with cQ:=g } o ep n:=iV (p:=67) GJ (by rw[ah];omega)
theorem UK:List.take 32 (List.drop 100 (dD c s o ep n))=ae .u8 32 s.rU:=(my (p:=99) (by omega)).trans GK
theorem UL:splice (dD c s o ep n) 100 (ae .u8 32 g)=dD c { s with rU:=g } o ep n:=iV (p:=99) GL (by rw[ah];omega)
theorem UM:List.take 32 (List.drop 132 (dD c s o ep n))=ae .u8 32 s.send:=(my (p:=131) (by omega)).trans A7
theorem UN:splice (dD c s o ep n) 132 (ae .u8 32 g)=dD c { s with send:=g } o ep n:=iV (p:=131) A8 (by rw[ah];omega)
theorem UO:List.take 32 (List.drop 164 (dD c s o ep n))=ae .u8 32 s.recv:=(my (p:=163) (by omega)).trans A'
theorem UP:splice (dD c s o ep n) 164 (ae .u8 32 g)=dD c { s with recv:=g } o ep n:=iV (p:=163) Ba (by rw[ah];omega)
theorem cU:(List.replicate 1 (Sum.inl (Value.int IntKind.i64 0))++List.replicate 3 (Sum.inl (Value.bool false))++List.replicate 192 (Sum.inl (Value.int IntKind.u8 0))++List.replicate 5 (Sum.inl (Value.int IntKind.u32 0))++List.replicate 2 (Sum.inl (Value.int IntKind.i64 0))++List.replicate 2 (Sum.inl (Value.slice none 0 0))++List.replicate 2 (Sum.inl (Value.int IntKind.u32 0)):List SV)=dD 0 stZ (Sum.inl (.slice none 0 0)) 0 0:=by
 rw[dD, ← af2]
 have e:(List.replicate 2 (Sum.inl (Value.slice none 0 0)):List SV)=List.replicate 1 (Sum.inl (Value.slice none 0 0))++List.replicate 1 (Sum.inl (Value.slice none 0 0)):=rfl
 rw[e]
 simp only[List.append_assoc,List.replicate_one,List.cons_append,List.nil_append]
 rfl
theorem fW:List.map Sum.inl (List.replicate 1 (Value.int IntKind.i64 0)++List.replicate 3 (Value.bool false)++List.replicate 192 (Value.int IntKind.u8 0)++List.replicate 5 (Value.int IntKind.u32 0)++List.replicate 2 (Value.int IntKind.i64 0)++List.replicate 2 (Value.slice none 0 0)++List.replicate 2 (Value.int IntKind.u32 0))=dD 0 stZ (Sum.inl (.slice none 0 0)) 0 0:=by
 rw[← cU];simp only[List.map_append,List.map_replicate]
theorem bP:((List.replicate 1 (Value.int IntKind.i64 0)++List.replicate 3 (Value.bool false)++List.replicate 192 (Value.int IntKind.u8 0)++List.replicate 5 (Value.int IntKind.u32 0)++List.replicate 2 (Value.int IntKind.i64 0)++List.replicate 2 (Value.slice none 0 0)++List.replicate 2 (Value.int IntKind.u32 0)).all Value.oneCell'=true)=True:=eq_true (by decide+kernel)
theorem Z3 {y:SV} (h:y ∈ dD c s o ep n):y=s.store∨y=o∨SV.plain y=true:=by
 simp only[dD,List.mem_cons,List.mem_append,List.not_mem_nil,or_false]at h
 rcases h with rfl | h | rfl | rfl | rfl
 ·exact .inr (.inr rfl)
 ·rcases GM h with h | h
  ·exact .inl h
  ·exact .inr (.inr h)
 ·exact .inr (.inl rfl)
 ·exact .inr (.inr rfl)
 ·exact .inr (.inr rfl)
theorem Z4 (h:SV.plain s.store=true) (ho:SV.plain o=true):(dD c s o ep n).all SV.plain=true:=List.all_eq_true.2 fun y hy=>by
 rcases Z3 hy with rfl | rfl | h'<;>assumption
theorem v9 {M:Nat→Prop} (h:SV.ok M s.store) (ho:SV.ok M o): ∀ y ∈ dD c s o ep n,SV.ok M y:=fun y hy=>by
 rcases Z3 hy with rfl | rfl | h'
 ·exact h
 ·exact ho
 ·exact SV.bH h'
theorem ik (h:SV.plain s.store=true) (ho:SV.plain o=true):AV.plain (Ag (dD c s o ep n))=true:=by
 have:=Z4 (c:=c) (ep:=ep) (n:=n) h ho
 simpa[AV.plain,CV.plain] using this
theorem agl {r:Nat→Nat}:(dD c s o ep n).map (SV.bh r)=dD c { s with store:=SV.bh r s.store } (SV.bh r o) ep n:=by
 simp only[dD,List.map_cons,List.map_append,j7,List.map_nil]
 rfl
theorem kz {r:Nat→Nat}:AV.bh r (Ag (dD c s o ep n))=Ag (dD c { s with store:=SV.bh r s.store } (SV.bh r o) ep n):=by
 rw[← agl];rfl
theorem aI:type_of% @Bx∧type_of% @ZX∧type_of% @aju∧type_of% @aeW∧type_of% @aeX∧type_of% @aeY∧type_of% @aeZ∧type_of% @Uo∧type_of% @Up∧type_of% @Uq∧type_of% @Ur∧type_of% @Us∧type_of% @Ut∧type_of% @ae0∧type_of% @ae1∧type_of% @ae2∧type_of% @ae3∧type_of% @ae4∧type_of% @ae5∧type_of% @Uu∧type_of% @Uv∧type_of% @Uw∧type_of% @Ux∧type_of% @Uy∧type_of% @Uz∧type_of% @UA∧type_of% @UB∧type_of% @UC∧type_of% @UD∧type_of% @UE∧type_of% @UF∧type_of% @UG∧type_of% @UH∧type_of% @UI∧type_of% @UJ∧type_of% @ae6∧type_of% @ae7∧type_of% @ZY∧type_of% @ZZ∧type_of% @Z1∧type_of% @Z2∧type_of% @UK∧type_of% @UL∧type_of% @UM∧type_of% @UN∧type_of% @UO∧type_of% @UP∧type_of% @fW∧type_of% @cU∧type_of% @bP:=
 ⟨@Bx, @ZX, @aju, @aeW, @aeX, @aeY, @aeZ, @Uo, @Up, @Uq, @Ur, @Us, @Ut, @ae0, @ae1, @ae2, @ae3, @ae4, @ae5, @Uu, @Uv, @Uw, @Ux, @Uy, @Uz, @UA, @UB, @UC, @UD, @UE, @UF, @UG, @UH, @UI, @UJ, @ae6, @ae7, @ZY, @ZZ, @Z1, @Z2, @UK, @UL, @UM, @UN, @UO, @UP, @fW, @cU, @bP⟩
end
end Go.cA
set_option maxHeartbeats 8000000
set_option maxRecDepth 20000
namespace Go.Proofs.YtoakenpcooglpaaGreatDoor
open Go.cA
set_option linter.unusedSectionVars false
variable [aX]
theorem Tryz.pz:bu Tryz.prog 50=some (false,1):=by kernel_rfl
def ajv (k n:Nat) (s:St) (f:Nat→En) (i:Nat) (v:AV) (out:Nat→Option aW):Prop:=
 (i=0∧v=Ag (dD 1 stZ (.inl (.slice none 0 0)) 0 0)∧out=fun _=>none)∨(i≠0∧ ∃ sv,v=Ag (dD (pw i) { s with store:=sv } (.inl (.slice none 0 0)) 0 0)∧LQ k n f sv out)
def il (nm n:Nat) (f:Nat→En) (sv:SV) (bx:Option aW):Prop:=
 (n=0∧sv= .inl (.slice none 0 0)∧bx=none)∨(0 < n∧ ∃ c cs,sv= .inr (.inr (nm,0,n,c))∧df cs 0 n c f∧bx=some ⟨true,cs⟩)
theorem UQ {k n nm:Nat} {f:Nat→En} {sv:SV} {out:Nat→Option aW} {r:Nat→Nat} (h:LQ k n f sv out) (hr:r k=nm):il nm n f (SV.bh r sv) ((out k).map (aW.bh r)):=by
 rcases h with ⟨h0,rfl,rfl⟩ | ⟨h0,c,cs,rfl,hg,rfl⟩
 ·exact .inl ⟨h0,rfl,rfl⟩
 ·refine .inr ⟨h0,c,cs,by simp only[SV.bh,hr],hg, ?_⟩
  have e:lk [(k,(⟨true,cs⟩:aW))] k=some ⟨true,cs⟩:=by simp[lk]
  rw[e];exact ek hg.plain
theorem Z5 {s:AS} {k q n:Nat} {f:Nat→En} {sv:SV} {bx:Option aW} {Post:AV→(Nat→Option aW)→Prop} (mk:SV→AV) (Z6: ∀ r v,AV.bh r (mk v)=mk (SV.bh r v)) (hok: ∀ (M:Nat→Prop) v,SV.ok M v→AV.ok M (mk v))
  (hq:k≤q) (hb:s.box q=bx) (hK:il q n f sv bx) (h: ∀ wA out,LQ k n f wA out→Post (mk wA) out):Ct k Post (mk sv) s:=by
 rcases hK with ⟨h0,rfl,rfl⟩ | ⟨h0,c,cs,rfl,hg,rfl⟩
 ·refine ⟨q,mk (.inl (.slice none 0 0)),fun _=>none,hq,by rw[Z6];rfl,hok _ _ (SV.bH rfl),fun m b hm=>(by simp at hm),h _ _ (.inl ⟨h0,rfl,rfl⟩)⟩
 ·refine ⟨q,mk (.inr (.inr (k,0,n,c))),lk [(k,⟨true,cs⟩)],hq, ?_,hok _ _ ⟨Nat.lt_succ_self k,rfl⟩,fun m b hm=> ?_,h _ _ (.inr ⟨h0,c,cs,rfl,hg,rfl⟩)⟩
  ·rw[Z6];simp only[SV.bh,kM]
  ·obtain ⟨rfl,rfl⟩:=tw hm
   exact ⟨Nat.lt_succ_self _,fun _=>rfl,aJ hg.plain,⟨true,cs⟩,by rw[kM];exact hb,fun h=>h,(bj hg.plain _).symm⟩
theorem sc {s:AS} {nm t n:Nat} {x:St} {f:Nat→En} {rw:Bool} {cs:List SV} (hb:s.box t=some ⟨rw,cs⟩) (hp:cs.all SV.plain=true) (hi:aY t x.store n f cs) (hn:n*72≤140737488355328) {dst:Option Nat} {K:AS→Prop}
  (hk: ∀ sv bx,il nm n f sv bx→K ((⟨s.env,upd s.box nm bx,s.next⟩:AS).put dst (some (Ag (bO { x with store:=sv }))))):bZ Tryz.prog nm 34 (some [Ag (bO x)]) dst K s:=by
 obtain ⟨v0,g0,e0⟩:=hi.name (k:=0)
 refine (ZT (s:={ x with store:=v0 }) g0 hp hn).bZ (fun _=>t) (dp hb hp) ?_ ?_
 ·simp only[List.map_cons,List.map_nil,gX,e0 (fun _=>t) rfl]
 ·rintro v out ⟨sv,rfl,hK⟩
  rw[gX]
  exact hk _ _ (UQ hK js)
theorem VS {s:St} {n i:Nat} {f:Nat→En} {cs:List SV} (h0:aY 0 s.store n f cs) (hp:cs.all SV.plain=true) (hi:i < 9) (hn:i≠0→n*72≤140737488355328):
  bt Tryz.prog 17 [Ag (bO s),V (mS i)] 1 (lk [(0,⟨false,cs⟩)]) (ajv 1 n s f i):=by
 refine j9 Tryz.func17 rfl (by kernel_rfl) [3] [] (by simp[Tryz.ntmps17]) Tryz.pX (fun y hy=>by
  simp only[Tryz.pz,List.mem_cons,List.not_mem_nil,or_false]at hy
  rcases hy with rfl | rfl
  ·exact cO (h0.ok (by decide))
  ·trivial) eG (eH hp) ?_
 simp only[Tryz.pz,Tryz.results17,bL,bP,fW,cU,aq,aI,az,aO,Tryz.vr,Value.oneCell',simprocAttr, -List.reduceReplicate]
 refine (mq (j:=0) hi (by decide)).aB ?_
 simp only[Tryz.pz,az,aO,Tryz.vr,Value.oneCell',simprocAttr, -List.reduceReplicate]
 refine dC (fun h=> ?_) (fun h=> ?_)
 ·obtain rfl:i=0:=by simpa using h
  simp only[Tryz.pz,bL,bP,fW,cU,aq,aI,az,aO,Tryz.vr,Value.oneCell',simprocAttr, -List.reduceReplicate]
  exact aC (ik rfl rfl) (.inl ⟨rfl,rfl,rfl⟩)
 have wH:i≠0:=by simpa using h
 simp only[Tryz.pz,az,aO,Tryz.vr,Value.oneCell',simprocAttr, -List.reduceReplicate]
 refine iK (by kernel_rfl) [0,2] [1,3] [] [4,5] [1] [9,11,10,12,13] (by kernel_rfl) (by kernel_rfl) (by kernel_rfl) ?_
 simp only[Tryz.pz,bL,bP,fW,cU,aq,aI,az,aO,Tryz.vr,Value.oneCell',simprocAttr, -List.reduceReplicate]
 refine (OL hi).bZ ?_
 simp only[Tryz.pz,bL,bP,fW,cU,aq,aI,az,aO,Tryz.vr,Value.oneCell',simprocAttr, -List.reduceReplicate]
 refine sc (t:=0) (rw:=false) (by simp only[Tryz.pz,az,Tryz.vr,Value.oneCell',simprocAttr, -List.reduceReplicate]) hp h0 (hn wH) ?_
 intro sv bx hK
 simp only[Tryz.pz,bL,bP,fW,cU,aq,aI,az,aO,Tryz.vr,Value.oneCell',simprocAttr, -List.reduceReplicate]
 exact Z5 (fun v=>Ag (dD (pw i) { s with store:=v } (.inl (.slice none 0 0)) 0 0)) (fun r v=>kz) (fun M v hv=>v9 hv (SV.bH rfl)) (q:=14) (by decide) (by simp only[Tryz.pz,az,Tryz.vr,Value.oneCell',simprocAttr, -List.reduceReplicate]) hK fun wA out h=> .inr ⟨wH,wA,rfl,h⟩
end Go.Proofs.YtoakenpcooglpaaGreatDoor
