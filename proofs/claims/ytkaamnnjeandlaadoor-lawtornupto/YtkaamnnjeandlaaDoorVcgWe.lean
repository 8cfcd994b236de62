/-
  The calculus: a region by a plan serves every order. Nothing here speaks of a program.
-/
import Derived.Test.YtkaamnnjeandlaaDoorVcgWd
namespace Go.bM
set_option linter.unusedSectionVars false
set_option linter.unusedSimpArgs false
set_option linter.unusedVariables false
section
variable {P:Program} [Tables P] {W:Nat→Prop} {N:Nat} {w0:Base P} {M:Nat→Prop} {g:Where} {s:AS} {a:Act} {w:World} {ops:Array Oper} {nm:Nat} {o:Oper}
theorem OX {nm':Nat} (h:isPure o.op=true):dS P nm s o.op=dS P nm' s o.op:=by
 obtain ⟨dst,op,type,pos,after,guard⟩:=o
 cases op
 case slice t x lo hi mx=>cases mx<;>first | rfl | (simp[isPure]at h)
 all_goals first | rfl | (simp[isPure]at h)
theorem SV.zB {M1 M2:Nat→Prop} {x:SV} (h1:SV.names M1 x) (h2:SV.names M2 x):SV.names (fun n=>M1 n∧M2 n) x:=by
 rcases x with v | ⟨t,o⟩ | ⟨t,o,n,c⟩
 ·exact Ld h1 h2
 ·exact ⟨h1,h2⟩
 ·exact ⟨h1,h2⟩
theorem AV.Ry {M1 M2:Nat→Prop} {v:AV} (h1:AV.ok M1 v) (h2:AV.ok M2 v):AV.ok (fun n=>M1 n∧M2 n) v:=by
 have hc: ∀ c:CV,CV.ok M1 c→CV.ok M2 c→CV.ok (fun n=>M1 n∧M2 n) c:=fun c k1 k2=>by
  rcases c with x | l
  ·exact SV.zB k1 k2
  ·exact fun y hy=>⟨SV.zB (k1 y hy).1 (k2 y hy).1,(k1 y hy).2⟩
 rcases v with c | l
 ·exact hc c h1 h2
 ·exact fun y hy=>hc y (h1 y hy) (h2 y hy)
theorem OY {v:AV} (h:br W N w0 M g s a w) (h1: ¬ M nm) (h2: ¬ M (nm+1)) (hp:isPure o.op=true) (he:dS P nm s o.op=some (some v,none)):AV.ok M v:=by
 obtain ⟨g1,w1,r1,k1⟩:=fD (o:=o) h h1 he
 obtain ⟨g2,w2,r2,k2⟩:=fD (o:=o) (nm:=nm+1) h h2 ((OX hp).symm.trans he)
 refine AV.aI (fun n hn=> ?_) (AV.Ry k1.val.2 k2.val.2)
 rcases hn with ⟨h3 | h3,h4 | h4⟩
 ·exact h3
 ·exact h3
 ·exact h4
 ·omega
theorem FM {l m:List Nat} (h:hU l m=true) {x:Nat} (hx:x ∈ l):x ∉ m:=fun hm=>by
 have:=List.all_eq_true.1 h x hx
 simp only[Bool.not_eq_true',List.contains_eq_mem,decide_eq_false_iff_not]at this
 exact this hm
theorem kN {i:Nat} (ho:ops[i]? =some o):fk ops i=o.dst.toList:=by unfold fk;rw[ho]
theorem fm {i d:Nat} (ho:ops[i]? =some o) (hd:o.dst=some d): ∀ {l:List Nat},i ∈ l→d ∈ dstsOf ops l
 | j::r,h=>by
  unfold dstsOf
  rcases List.mem_cons.1 h with rfl | h
  ·exact List.mem_append_left _ (by rw[kN ho,hd];simp)
  ·exact List.mem_append_right _ (fm ho hd h)
theorem kO {d:Nat}: ∀ {l:List Nat},d ∈ dstsOf ops l→ ∃ i ∈ l, ∃ o,ops[i]? =some o∧o.dst=some d
 | [],h=>by simp[dstsOf]at h
 | j::r,h=>by
  unfold dstsOf at h
  rcases List.mem_append.1 h with h | h
  ·unfold fk at h
   split at h
   ·rename_i o ho
    exact ⟨j,by simp,o,ho,by simpa using h⟩
   ·simp at h
  ·obtain ⟨i,hi,o,ho,hd⟩:=kO h
   exact ⟨i,by simp[hi],o,ho,hd⟩
theorem c9 {l m:List Nat}:dstsOf ops (l++m)=dstsOf ops l++dstsOf ops m:=by
 induction l with
 | nil=>rfl
 | cons i r ih=>simp only[List.cons_append,dstsOf,ih,List.append_assoc]
theorem Mm {s s':AS} (h: ∀ d ∈ o.looksAt ops,s.env d=s'.env d): ∀ x ∈ o.op.operands,s.aK x=s'.aK x:=fun x hx=>
 mE fun t ht=>h t (jy hx ht)
theorem H7 {s s':AS} (hn:Names M s) (h: ∀ d ∈ o.looksAt ops,s.env d=s'.env d) (hb:s.box=s'.box):dS P nm s o.op=dS P nm s' o.op:=
 sQ (M:=M) (Mm h) (fun x _ v hv=>hn.aK hv) (fun _ t _=>by rw[hb])
theorem oO {K:AS→Prop} (h1: ¬ M nm) (h2: ¬ M (nm+1)) (hok:ops.toList.all (lO N)=true): ∀ {A:List Nat} {s:AS} {a:Act},(∀ i ∈ A, ∃ o,ops[i]? =some o∧isPure o.op=true∧ ∃ d,o.dst=some d)→Mj ops A=true→
  br W N w0 M g s a w→gp P ops nm K A s→ ∃ sr ar,K sr∧sr.box=s.box∧sr.next=s.next∧br W N w0 M g sr ar w∧(∀ d,d ∉ dstsOf ops A→sr.env d=s.env d∧ar.tmps[d]? =a.tmps[d]?)∧
   ∀ i ∈ A, ∃ o d v,ops[i]? =some o∧o.dst=some d∧sr.env d=some v∧dS P nm sr o.op=some (some v,none)∧AV.ok M v
 | [],s,a,_,_,h,hv=>⟨s,a,hv,rfl,rfl,h,fun _ _=>⟨rfl,rfl⟩,fun i hi=>nomatch hi⟩
 | i::r,s,a,hA,hrow,h,hv=>by
  obtain ⟨o,ho,hp,d,hd⟩:=hA i (by simp)
  simp only[Mj,Bool.and_eq_true]at hrow
  obtain ⟨⟨hr1,Tq⟩,YA⟩:=hrow
  unfold gp at hv
  rw[ho]at hv
  simp only at hv
  rw[pure_run hp]at hv
  unfold bH at hv
  split at hv
  ·rename_i e he
   obtain ⟨v,rfl⟩:=zA hp he
   have Mn:=OY h h1 h2 hp he
   rw[hd]at hv
   have Mp:d < N:=by
    have:=List.all_eq_true.1 hok o (by simpa using Array.mem_of_getElem? ho)
    unfold lO at this;rw[hd]at this;simpa using this
   obtain ⟨sr,ar,k1,k2,k3,k4,k5,k6⟩:=oO h1 h2 hok (fun j hj=>hA j (by simp[hj])) YA (h.put (d:=some d) (fun x hx=>by cases hx;exact Mp) Mn) hv
   have YB:d ∉ dstsOf ops r:=FM Tq (by rw[kN ho,hd];simp)
   have Qq: ∀ x ∈ o.looksAt ops,s.env x=sr.env x:=fun x hx=>by
    have hx1:x ∉ dstsOf ops (i::r):=FM hr1 (by unfold H4;rw[ho];exact hx)
    have Ve:x≠d:=fun e=>hx1 (e▸fm ho hd (by simp))
    have Vf:x ∉ dstsOf ops r:=fun hm=>hx1 (by unfold dstsOf;exact List.mem_append_right _ hm)
    rw[(k5 x Vf).1]
    exact (aW _ _ _ _ Ve).symm
   refine ⟨sr,ar,k1,k2,k3,k4,fun x hx=> ?_,fun j hj=> ?_⟩
   ·have Ve:x≠d:=fun e=>hx (e▸fm ho hd (by simp))
    have Vf:x ∉ dstsOf ops r:=fun hm=>hx (by unfold dstsOf;exact List.mem_append_right _ hm)
    rw[(k5 x Vf).1,(k5 x Vf).2]
    exact ⟨aW _ _ _ _ Ve,by simp only[Act.put];rw[Array.getElem?_setIfInBounds_ne (fun e=>Ve e.symm)]⟩
   ·rcases List.mem_cons.1 hj with rfl | hj
    ·refine ⟨o,d,v,ho,hd, ?_, ?_,Mn⟩
     ·rw[(k5 d YB).1];exact aT _ _ _
     ·rw[← he]
      exact (H7 h.names Qq k2.symm).symm
    ·exact k6 j hj
  ·exact hv.elim
theorem vT {dm:List Nat} {box:Nat→Option aG} {t:Nat} {b:aG} (h:kI dm box t=some b): ∃ b0,box t=some b0∧b.cells=b0.cells∧(b.rw=true→b0.rw=true):=by
 unfold kI at h
 split at h
 ·split at h
  ·rename_i b0 hb
   simp only[Option.some.injEq]at h;subst h
   exact ⟨b0,hb,rfl,fun h=>by cases h⟩
  ·cases h
 ·exact ⟨b,h,rfl,id⟩
theorem br.FN (h:br W N w0 M g s a w) (dm:List Nat):br W N w0 M g { s with box:=kI dm s.box } a w:=by
 refine ⟨h.size,h.defers,h.env,⟨h.names.env,fun t b hb=> ?_⟩,⟨fun t b hb=> ?_,fun t b hb i v hv=> ?_,fun t b hb hrw i hi=> ?_,fun t t' b b' hb hrw hb' hne=> ?_⟩,fun t b hb hrw=> ?_,h.frame,h.pin,h.tabs⟩
 ·obtain ⟨b0,h1,h2,_⟩:=vT hb
  rw[h2];exact h.names.box t b0 h1
 ·obtain ⟨b0,h1,_,_⟩:=vT hb
  exact h.mem.lt t b0 h1
 ·obtain ⟨b0,h1,h2,_⟩:=vT hb
  rw[h2]at hv;exact h.mem.cell t b0 h1 i v hv
 ·obtain ⟨b0,h1,h2,h3⟩:=vT hb
  rw[h2]at hi;exact h.mem.free t b0 h1 (h3 hrw) i hi
 ·obtain ⟨b0,h1,_,h3⟩:=vT hb
  obtain ⟨b1,k1,_,_⟩:=vT hb'
  exact h.mem.sep t t' b0 b1 h1 (h3 hrw) k1 hne
 ·obtain ⟨b0,h1,_,h3⟩:=vT hb
  exact h.own t b0 h1 (h3 hrw)
theorem oP {b:Option aG} {c:aG} (h:E5 b=some c):b=some c∧c.rw=false:=by
 unfold E5 at h
 split at h
 ·simp only[Option.some.injEq]at h;subst h;exact ⟨rfl,rfl⟩
 ·cases h
theorem AU {pn:Nat} {hl:Laid P w} {N':Nat} {M':Nat→Prop} {g':Where} {s':AS} {a' a1:Act} {w':World} (h:br W N w0 M g s a w) (hM:br (kK g s) N' ⟨w,pn,g,hl⟩ M' g' s' a1 w') {env:Nat→Option AV}
  (hsz:a'.tmps.size=N) (hdf:a'.defers=[]) (jW: ∀ d v,env d=some v→a'.tmps[d]? =some (AV.ah g v)) (hn: ∀ d v,env d=some v→AV.ok M v) (nx:Nat):
  br (fun _=>False) N ⟨w',0,g,hM.laid⟩ M g ⟨env,fun t=>E5 (s.box t),nx⟩ a' w':=by
 have Js: ∀ t c,s.box t=some c→c.rw=false→w'.heap[(g t).1]? =w.heap[(g t).1]? :=fun t c hc hrw=>by
  refine hM.frame.block _ (h.mem.lt t c hc) fun ⟨u,d,hd,xU,e⟩=> ?_
  by_cases e2:u=t
  ·subst e2;rw[hc]at hd;cases hd;rw[hrw]at xU;cases xU
  ·exact h.mem.sep u t d c hd xU hc e2 e
 refine ⟨hsz,hdf,jW,⟨hn,fun t b hb=> ?_⟩,⟨fun t b hb=> ?_,fun t b hb i v hv=> ?_,fun t b hb hrw i hi=> ?_,fun t t' b b' hb hrw hb' hne=> ?_⟩,fun t b hb hrw=> ?_,Frame.refl _ _,fun n hn=>absurd hn (Nat.not_lt_zero n),fun _ _ _=>id⟩
 ·exact h.names.box t b (oP hb).1
 ·exact Nat.lt_of_lt_of_le (h.mem.lt t b (oP hb).1) hM.frame.size
 ·obtain ⟨h1,h2⟩:=oP hb
  have:=h.mem.cell t b h1 i v hv
  unfold World.cell? at this ⊢
  simp only[Js t b h1 h2]
  exact this
 ·rw[(oP hb).2]at hrw;cases hrw
 ·rw[(oP hb).2]at hrw;cases hrw
 ·rw[(oP hb).2]at hrw;cases hrw
theorem br.Tr (h:br W N w0 M g s a w) (hnm: ¬ M nm) {β d:Nat} {e:TypeId} {zs:List Value} (hz:zs.all Value.oneCell'=true) (ky:zs.all gx=true) (hβ:w0.heap.size≤β) (hlt:β < w.heap.size) (iw:w.heap[β]? =some (.cells zs.toArray e (0,0)))
  (hno: ∀ t b,s.box t=some b→(g t).1≠β) (hd:a.tmps[d]? =some (.pointer (some ⟨β,0,none⟩))):
  br W N w0 (fun n=>M n∨n=nm) (upd g nm (β,0)) ((s.mem nm (some (.inl (zs.map .inl)))).put (some d) (some (Ptr nm 0))) a w:=by
 have hg: ∀ n,M n→g n=upd g nm (β,0) n:=fun n hn=>(aW _ _ _ _ (fun e=>hnm (by rw[← e];exact hn))).symm
 have hM: ∀ n,M n→M n∨n=nm:=fun n hn=>Or.inl hn
 have iR: ∀ t b,s.box t=some b→t≠nm:=fun t b hb e=>by have:=(h.names.box t b hb).1;rw[e]at this;exact hnm this
 have hold: ∀ t b,s.box t=some b→upd g nm (β,0) t=g t:=fun t b hb=>aW _ _ _ _ (iR t b hb)
 have uj: ∀ t b,upd s.box nm (some (⟨true,zs.map Sum.inl⟩:aG)) t=some b→(t=nm∧b=⟨true,zs.map .inl⟩)∨(t≠nm∧s.box t=some b):=fun t b hb=>by
  by_cases e:t=nm
  ·subst e;rw[aT]at hb;simp only[Option.some.injEq]at hb;exact .inl ⟨rfl,hb.symm⟩
  ·rw[aW _ _ _ _ e]at hb;exact .inr ⟨e,hb⟩
 refine ⟨h.size,h.defers,fun x v hv=> ?_,⟨fun x v hv=> ?_,fun t b hb=> ?_⟩,⟨fun t b hb=> ?_,fun t b hb i v hv=> ?_,fun t b hb hrw i hi=> ?_,fun t t' b b' hb hrw hb' hne=> ?_⟩,fun t b hb hrw=> ?_,h.frame,fun n hn=>⟨Or.inl (h.pin n hn).1,(hg n (h.pin n hn).1).symm.trans (h.pin n hn).2⟩,h.tabs⟩
 ·by_cases ex:x=d
  ·subst ex
   have:some (Ptr nm 0)=some v:=by rw[← hv];exact (aT _ _ _).symm
   cases this
   rw[hd];simp[AV.ah,CV.ah,SV.ah,cu,aT]
  ·have Jz:s.env x=some v:=by rw[← hv];exact (aW _ _ _ _ ex).symm
   rw[h.env x v Jz,AV.aZ (AV.aI hg (h.names.env x v Jz))]
 ·by_cases ex:x=d
  ·subst ex
   have:some (Ptr nm 0)=some v:=by rw[← hv];exact (aT _ _ _).symm
   cases this
   exact Or.inr rfl
  ·have Jz:s.env x=some v:=by rw[← hv];exact (aW _ _ _ _ ex).symm
   exact AV.aI hM (h.names.env x v Jz)
 ·rcases uj t b hb with ⟨rfl,rfl⟩ | ⟨_,hb'⟩
  ·refine ⟨Or.inr rfl,fun x hx=> ?_⟩
   simp only[List.mem_map]at hx
   obtain ⟨u,hu,rfl⟩:=hx
   exact ⟨dY (List.all_eq_true.1 ky u hu),List.all_eq_true.1 hz u hu⟩
  ·exact ⟨Or.inl (h.names.box t b hb').1,fun x hx=>SV.aI hM ((h.names.box t b hb').2 x hx)⟩
 ·rcases uj t b hb with ⟨rfl,rfl⟩ | ⟨e,hb'⟩
  ·rw[aT];exact hlt
  ·rw[aW _ _ _ _ e];exact h.mem.lt t b hb'
 ·rcases uj t b hb with ⟨rfl,rfl⟩ | ⟨e,hb'⟩
  ·rw[aT]
   simp only[List.getElem?_map]at hv
   cases hi:zs[i]? with
   | none=>rw[hi]at hv;cases hv
   | some u=>
    rw[hi]at hv
    simp only[Option.map_some,Option.some.injEq]at hv;subst hv
    unfold World.cell?
    simp only[iw,Nat.zero_add,List.getElem?_toArray,hi,SV.ah,jx (List.all_eq_true.1 ky u (List.mem_of_getElem? hi))];rfl
  ·rw[aW _ _ _ _ e,h.mem.cell t b hb' i v hv,SV.aZ (SV.aY hg ((h.names.box t b hb').2 v (List.mem_of_getElem? hv)).1)]
 ·rcases uj t b hb with ⟨rfl,rfl⟩ | ⟨e,hb'⟩
  ·rw[aT]
   unfold bN
   simp only[iw]
   rfl
  ·rw[aW _ _ _ _ e];exact h.mem.free t b hb' hrw i hi
 ·rcases uj t b hb with ⟨rfl,rfl⟩ | ⟨e,h1⟩<;>rcases uj t' b' hb' with ⟨rfl,rfl⟩ | ⟨e',h2⟩
  ·exact absurd rfl hne
  ·rw[aT,aW _ _ _ _ e'];exact fun e3=>hno t' b' h2 e3.symm
  ·rw[aT,aW _ _ _ _ e];exact hno t b h1
  ·rw[aW _ _ _ _ e,aW _ _ _ _ e'];exact h.mem.sep t t' b b' h1 hrw h2 hne
 ·rcases uj t b hb with ⟨rfl,rfl⟩ | ⟨e,hb'⟩
  ·rw[aT];exact Or.inl hβ
  ·rw[aW _ _ _ _ e];exact h.own t b hb' hrw
theorem JW {t:TypeId} {zs:List Value} (h:zeroOf P t=some zs) (hp:o.op= .alloc t) (r:Operand→Value) (w:World):
  (execOp r o).run P w= .ok (.value (.pointer (some ⟨w.heap.size,0,none⟩))) (w.alloc (.cells zs.toArray t)):=by
 obtain ⟨dst,op,type,pos,after,guard⟩:=o
 simp only at hp
 subst hp
 unfold zeroOf at h
 split at h
 ·rename_i i hi
  split at h
  ·rename_i v hv
   split at h
   ·simp only[Option.some.injEq]at h;subst h
    simp[execOp,Instr.alloc,zeroValue,typeInfo,hi,hv,newVar,newRow]
   ·cases h
  ·cases h
 ·cases h
theorem FP (w:World) (x:Obj):Kept w (w.alloc x):=⟨rfl,rfl,rfl,by simp,fun k hk _=>by
 show (w.heap.push x)[k]? =_
 rw[Array.getElem?_push,if_neg (by omega)]⟩
end
end Go.bM
