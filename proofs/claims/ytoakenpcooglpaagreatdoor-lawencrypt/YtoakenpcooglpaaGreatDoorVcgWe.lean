/-
  The calculus: a region by a plan serves every order. Nothing here speaks of a program.
-/
import Derived.Test.YtoakenpcooglpaaGreatDoorVcgWd
set_option linter.unusedVariables false
set_option linter.unusedSimpArgs false
namespace Go.cA
set_option linter.unusedSectionVars false
section
variable {P:Program} [Tables P] {W:Nat→Prop} {N:Nat} {w0:gF P} {M:Nat→Prop} {g:bG} {s:AS} {a:Act} {w:World} {ops:Array Oper} {nm:Nat} {o:Oper}
theorem pure_run {K:AS→Prop} (h:isPure o.op=true):cv P nm o K s=bQ (fa P nm s o.op) nm o.dst K s:=by
 obtain ⟨dst,op,type,pos,after,guard⟩:=o
 cases op<;>first | rfl | (simp[isPure]at h)
theorem abK {nm':Nat} (h:isPure o.op=true):fa P nm s o.op=fa P nm' s o.op:=by
 obtain ⟨dst,op,type,pos,after,guard⟩:=o
 cases op<;>first | rfl | (simp[isPure]at h)
theorem LW {op:BinOp} {x y:Option AV} {e:dE} (h:cx op x y=some e): ∃ v,e=(some v,none):=by
 unfold cx at h
 split at h
 ·split at h
  ·simp only[Option.some.injEq]at h;exact ⟨_,h.symm⟩
  ·cases h
 ·cases h
theorem VL {e:dE} (h:isPure o.op=true) (he:fa P nm s o.op=some e): ∃ v,e=(some v,none):=by
 obtain ⟨dst,op,type,pos,after,guard⟩:=o
 cases op<;>simp only[isPure,Bool.false_eq_true]at h<;>simp only[fa]at he
 case move x=>
  split at he
  ·simp only[Option.some.injEq]at he;exact ⟨_,he.symm⟩
  ·cases he
 case load t x=>
  unfold eg at he
  (repeat' split at he)<;>first | (simp only[Option.some.injEq]at he;exact ⟨_,he.symm⟩) | cases he
 case fieldAddr t x f=>
  unfold eh at he
  (repeat' split at he)<;>first | (simp only[Option.some.injEq]at he;exact ⟨_,he.symm⟩) | cases he
 case nilCheck x=>
  unfold pJ at he
  (repeat' split at he)<;>first | (simp only[Option.some.injEq]at he;exact ⟨_,he.symm⟩) | cases he
 case field t x f=>
  unfold fO at he
  (repeat' split at he)<;>first | (simp only[Option.some.injEq]at he;exact ⟨_,he.symm⟩) | cases he
 case index t x i=>
  unfold fX at he
  (repeat' split at he)<;>first | (simp only[Option.some.injEq]at he;exact ⟨_,he.symm⟩) | cases he
 case indexAddr t x i=>
  unfold cI at he
  (repeat' split at he)<;>first | (simp only[Option.some.injEq]at he;exact ⟨_,he.symm⟩) | cases he
 case build t parts=>
  unfold fY at he
  (repeat' split at he)<;>first | (simp only[Option.some.injEq]at he;exact ⟨_,he.symm⟩) | cases he
 case extract x i=>
  unfold fH at he
  (repeat' split at he)<;>first | (simp only[Option.some.injEq]at he;exact ⟨_,he.symm⟩) | cases he
 case binOp op t x y p=>
  unfold nc at he
  split at he
  ·unfold o6 at he
   (repeat' split at he)<;>first | (simp only[Option.some.injEq]at he;exact ⟨_,he.symm⟩) | cases he
  unfold kj at he
  split at he
  ·unfold eqA at he
   split at he
   ·unfold eqL at he
    (repeat' split at he)<;>first | (simp only[Option.some.injEq]at he;exact ⟨_,he.symm⟩) | cases he
   ·unfold eqF at he
    split at he
    ·unfold Vo at he
     (repeat' split at he)<;>first | (simp only[Option.some.injEq]at he;exact ⟨_,he.symm⟩) | cases he
    ·cases he
  ·unfold eqB at he
   (repeat' split at he)<;>first | (simp only[Option.some.injEq]at he;exact ⟨_,he.symm⟩) | cases he
  ·exact LW he
 case unOp op t x=>
  unfold mZ at he
  (repeat' split at he)<;>first | (simp only[Option.some.injEq]at he;exact ⟨_,he.symm⟩) | cases he
theorem SV.Fz {M1 M2:Nat→Prop} {x:SV} (h1:SV.names M1 x) (h2:SV.names M2 x):SV.names (fun n=>M1 n∧M2 n) x:=by
 rcases x with v | ⟨t,o⟩ | ⟨t,o,n,c⟩
 ·trivial
 ·exact ⟨h1,h2⟩
 ·exact ⟨h1,h2⟩
theorem AV.agf {M1 M2:Nat→Prop} {v:AV} (h1:AV.ok M1 v) (h2:AV.ok M2 v):AV.ok (fun n=>M1 n∧M2 n) v:=by
 have hc: ∀ c:CV,CV.ok M1 c→CV.ok M2 c→CV.ok (fun n=>M1 n∧M2 n) c:=fun c k1 k2=>by
  rcases c with x | l
  ·exact SV.Fz k1 k2
  ·exact fun y hy=>⟨SV.Fz (k1 y hy).1 (k2 y hy).1,(k1 y hy).2⟩
 rcases v with c | l
 ·exact hc c h1 h2
 ·exact fun y hy=>hc y (h1 y hy) (h2 y hy)
theorem abL {v:AV} (h:cE W N w0 M g s a w) (h1: ¬ M nm) (h2: ¬ M (nm+1)) (hp:isPure o.op=true) (he:fa P nm s o.op=some (some v,none)):AV.ok M v:=by
 obtain ⟨g1,w1,r1,k1⟩:=iX (o:=o) h h1 he
 obtain ⟨g2,w2,r2,k2⟩:=iX (o:=o) (nm:=nm+1) h h2 ((abK hp).symm.trans he)
 refine AV.bA (fun n hn=> ?_) (AV.agf k1.val.2 k2.val.2)
 rcases hn with ⟨h3 | h3,h4 | h4⟩
 ·exact h3
 ·exact h3
 ·exact h4
 ·omega
theorem OB {l m:List Nat} (h:gY l m=true) {x:Nat} (hx:x ∈ l):x ∉ m:=fun hm=>by
 have:=List.all_eq_true.1 h x hx
 simp only[Bool.not_eq_true',List.contains_eq_mem,decide_eq_false_iff_not]at this
 exact this hm
theorem kx {i:Nat} (ho:ops[i]? =some o):fv ops i=o.dst.toList:=by unfold fv;rw[ho]
theorem fw {i d:Nat} (ho:ops[i]? =some o) (hd:o.dst=some d): ∀ {l:List Nat},i ∈ l→d ∈ dstsOf ops l
 | j::r,h=>by
  unfold dstsOf
  rcases List.mem_cons.1 h with rfl | h
  ·exact List.mem_append_left _ (by rw[kx ho,hd];simp)
  ·exact List.mem_append_right _ (fw ho hd h)
theorem Bk {d:Nat}: ∀ {l:List Nat},d ∈ dstsOf ops l→ ∃ i ∈ l, ∃ o,ops[i]? =some o∧o.dst=some d
 | [],h=>by simp[dstsOf]at h
 | j::r,h=>by
  unfold dstsOf at h
  rcases List.mem_append.1 h with h | h
  ·unfold fv at h
   split at h
   ·rename_i o ho
    exact ⟨j,by simp,o,ho,by simpa using h⟩
   ·simp at h
  ·obtain ⟨i,hi,o,ho,hd⟩:=Bk h
   exact ⟨i,by simp[hi],o,ho,hd⟩
theorem fF {l m:List Nat}:dstsOf ops (l++m)=dstsOf ops l++dstsOf ops m:=by
 induction l with
 | nil=>rfl
 | cons i r ih=>simp only[List.cons_append,dstsOf,ih,List.append_assoc]
theorem ZL {s s':AS} (h: ∀ d ∈ o.looksAt ops,s.env d=s'.env d): ∀ x ∈ o.op.operands,s.aQ x=s'.aQ x:=fun x hx=>
 lW fun t ht=>h t (jy hx ht)
theorem Ui {s s':AS} (hn:Names M s) (h: ∀ d ∈ o.looksAt ops,s.env d=s'.env d) (hb:s.box=s'.box):fa P nm s o.op=fa P nm s' o.op:=
 tU (M:=M) (ZL h) (fun x _ v hv=>hn.aQ hv) (fun _ t _=>by rw[hb])
theorem FA {K:AS→Prop} (h1: ¬ M nm) (h2: ¬ M (nm+1)) (hok:ops.toList.all (nj N)=true): ∀ {A:List Nat} {s:AS} {a:Act},(∀ i ∈ A, ∃ o,ops[i]? =some o∧isPure o.op=true∧ ∃ d,o.dst=some d)→ZH ops A=true→
  cE W N w0 M g s a w→mv P ops nm K A s→ ∃ sr ar,K sr∧sr.box=s.box∧sr.next=s.next∧cE W N w0 M g sr ar w∧(∀ d,d ∉ dstsOf ops A→sr.env d=s.env d∧ar.tmps[d]? =a.tmps[d]?)∧
   ∀ i ∈ A, ∃ o d v,ops[i]? =some o∧o.dst=some d∧sr.env d=some v∧fa P nm sr o.op=some (some v,none)∧AV.ok M v
 | [],s,a,_,_,h,hv=>⟨s,a,hv,rfl,rfl,h,fun _ _=>⟨rfl,rfl⟩,fun i hi=>nomatch hi⟩
 | i::r,s,a,hA,hrow,h,hv=>by
  obtain ⟨o,ho,hp,d,hd⟩:=hA i (by simp)
  simp only[ZH,Bool.and_eq_true]at hrow
  obtain ⟨⟨hr1,hr2⟩,hr3⟩:=hrow
  unfold mv at hv
  rw[ho]at hv
  simp only at hv
  rw[pure_run hp]at hv
  unfold bQ at hv
  split at hv
  ·rename_i e he
   obtain ⟨v,rfl⟩:=VL hp he
   have ZM:=abL h h1 h2 hp he
   rw[hd]at hv
   have hdN:d < N:=by
    have:=List.all_eq_true.1 hok o (by simpa using Array.mem_of_getElem? ho)
    unfold nj at this;rw[hd]at this;simpa using this
   obtain ⟨sr,ar,k1,k2,k3,k4,k5,k6⟩:=FA h1 h2 hok (fun j hj=>hA j (by simp[hj])) hr3 (h.put (d:=some d) (fun x hx=>by cases hx;exact hdN) ZM) hv
   have hdr:d ∉ dstsOf ops r:=OB hr2 (by rw[kx ho,hd];simp)
   have aeM: ∀ x ∈ o.looksAt ops,s.env x=sr.env x:=fun x hx=>by
    have hx1:x ∉ dstsOf ops (i::r):=OB hr1 (by unfold Uh;rw[ho];exact hx)
    have hxd:x≠d:=fun e=>hx1 (e▸fw ho hd (by simp))
    have hxr:x ∉ dstsOf ops r:=fun hm=>hx1 (by unfold dstsOf;exact List.mem_append_right _ hm)
    rw[(k5 x hxr).1]
    exact (bg _ _ _ _ hxd).symm
   refine ⟨sr,ar,k1,k2,k3,k4,fun x hx=> ?_,fun j hj=> ?_⟩
   ·have hxd:x≠d:=fun e=>hx (e▸fw ho hd (by simp))
    have hxr:x ∉ dstsOf ops r:=fun hm=>hx (by unfold dstsOf;exact List.mem_append_right _ hm)
    rw[(k5 x hxr).1,(k5 x hxr).2]
    exact ⟨bg _ _ _ _ hxd,by simp only[Act.put];rw[Array.getElem?_setIfInBounds_ne (fun e=>hxd e.symm)]⟩
   ·rcases List.mem_cons.1 hj with rfl | hj
    ·refine ⟨o,d,v,ho,hd, ?_, ?_,ZM⟩
     ·rw[(k5 d hdr).1];exact ax _ _ _
     ·rw[← he]
      exact (Ui h.names aeM k2.symm).symm
    ·exact k6 j hj
  ·exact hv.elim
theorem Bl {dm:List Nat} {box:Nat→Option aW} {t:Nat} {b:aW} (h:WA dm box t=some b): ∃ b0,box t=some b0∧b.cells=b0.cells∧(b.rw=true→b0.rw=true):=by
 unfold WA at h
 split at h
 ·split at h
  ·rename_i b0 hb
   simp only[Option.some.injEq]at h;subst h
   exact ⟨b0,hb,rfl,fun h=>by cases h⟩
  ·cases h
 ·exact ⟨b,h,rfl,id⟩
theorem cE.agh (h:cE W N w0 M g s a w) (dm:List Nat):cE W N w0 M g { s with box:=WA dm s.box } a w:=by
 refine ⟨h.size,h.defers,h.env,⟨h.names.env,fun t b hb=> ?_⟩,⟨fun t b hb=> ?_,fun t b hb i v hv=> ?_,fun t b hb hrw i hi=> ?_,fun t t' b b' hb hrw hb' hne=> ?_⟩,fun t b hb hrw=> ?_,h.frame,h.kJ,h.tabs⟩
 ·obtain ⟨b0,h1,h2,_⟩:=Bl hb
  rw[h2];exact h.names.box t b0 h1
 ·obtain ⟨b0,h1,_,_⟩:=Bl hb
  exact h.mem.lt t b0 h1
 ·obtain ⟨b0,h1,h2,_⟩:=Bl hb
  rw[h2]at hv;exact h.mem.cell t b0 h1 i v hv
 ·obtain ⟨b0,h1,h2,h3⟩:=Bl hb
  rw[h2]at hi;exact h.mem.free t b0 h1 (h3 hrw) i hi
 ·obtain ⟨b0,h1,_,h3⟩:=Bl hb
  obtain ⟨b1,k1,_,_⟩:=Bl hb'
  exact h.mem.sep t t' b0 b1 h1 (h3 hrw) k1 hne
 ·obtain ⟨b0,h1,_,h3⟩:=Bl hb
  exact h.own t b0 h1 (h3 hrw)
theorem oF {b:Option aW} {c:aW} (h:ZG b=some c):b=some c∧c.rw=false:=by
 unfold ZG at h
 split at h
 ·simp only[Option.some.injEq]at h;subst h;exact ⟨rfl,rfl⟩
 ·cases h
theorem ZN {pn:Nat} {hl:Laid P w} {N':Nat} {M':Nat→Prop} {g':bG} {s':AS} {a' a1:Act} {w':World} (h:cE W N w0 M g s a w) (hM:cE (Fy g s) N' ⟨w,pn,g,hl⟩ M' g' s' a1 w') {env:Nat→Option AV}
  (hsz:a'.tmps.size=N) (hdf:a'.defers=[]) (gH: ∀ d v,env d=some v→a'.tmps[d]? =some (AV.av g v)) (hn: ∀ d v,env d=some v→AV.ok M v) (nx:Nat):
  cE (fun _=>False) N ⟨w',0,g,hM.laid⟩ M g ⟨env,fun t=>ZG (s.box t),nx⟩ a' w':=by
 have Vn: ∀ t c,s.box t=some c→c.rw=false→w'.heap[(g t).1]? =w.heap[(g t).1]? :=fun t c hc hrw=>by
  refine hM.frame.block _ (h.mem.lt t c hc) fun ⟨u,d,hd,Cq,e⟩=> ?_
  by_cases e2:u=t
  ·subst e2;rw[hc]at hd;cases hd;rw[hrw]at Cq;cases Cq
  ·exact h.mem.sep u t d c hd Cq hc e2 e
 refine ⟨hsz,hdf,gH,⟨hn,fun t b hb=> ?_⟩,⟨fun t b hb=> ?_,fun t b hb i v hv=> ?_,fun t b hb hrw i hi=> ?_,fun t t' b b' hb hrw hb' hne=> ?_⟩,fun t b hb hrw=> ?_,Frame.refl _ _,fun n hn=>absurd hn (Nat.not_lt_zero n),fun _ _ _=>id⟩
 ·exact h.names.box t b (oF hb).1
 ·exact Nat.lt_of_lt_of_le (h.mem.lt t b (oF hb).1) hM.frame.size
 ·obtain ⟨h1,h2⟩:=oF hb
  have:=h.mem.cell t b h1 i v hv
  unfold World.cell? at this ⊢
  simp only[Vn t b h1 h2]
  exact this
 ·rw[(oF hb).2]at hrw;cases hrw
 ·rw[(oF hb).2]at hrw;cases hrw
 ·rw[(oF hb).2]at hrw;cases hrw
theorem cE.ajm (h:cE W N w0 M g s a w) (hnm: ¬ M nm) {β d:Nat} {e:TypeId} {zs:List Value} (hz:zs.all Value.oneCell'=true) (hβ:w0.heap.size≤β) (hlt:β < w.heap.size) (sL:w.heap[β]? =some (.cells zs.toArray e (0,0)))
  (hno: ∀ t b,s.box t=some b→(g t).1≠β) (hd:a.tmps[d]? =some (.pointer (some ⟨β,0,none⟩))):
  cE W N w0 (fun n=>M n∨n=nm) (upd g nm (β,0)) ((s.mem nm (some (.inl (zs.map .inl)))).put (some d) (some (Ptr nm 0))) a w:=by
 have hg: ∀ n,M n→g n=upd g nm (β,0) n:=fun n hn=>(bg _ _ _ _ (fun e=>hnm (by rw[← e];exact hn))).symm
 have hM: ∀ n,M n→M n∨n=nm:=fun n hn=>Or.inl hn
 have jX: ∀ t b,s.box t=some b→t≠nm:=fun t b hb e=>by have:=(h.names.box t b hb).1;rw[e]at this;exact hnm this
 have hold: ∀ t b,s.box t=some b→upd g nm (β,0) t=g t:=fun t b hb=>bg _ _ _ _ (jX t b hb)
 have lT: ∀ t b,upd s.box nm (some (⟨true,zs.map Sum.inl⟩:aW)) t=some b→(t=nm∧b=⟨true,zs.map .inl⟩)∨(t≠nm∧s.box t=some b):=fun t b hb=>by
  by_cases e:t=nm
  ·subst e;rw[ax]at hb;simp only[Option.some.injEq]at hb;exact .inl ⟨rfl,hb.symm⟩
  ·rw[bg _ _ _ _ e]at hb;exact .inr ⟨e,hb⟩
 refine ⟨h.size,h.defers,fun x v hv=> ?_,⟨fun x v hv=> ?_,fun t b hb=> ?_⟩,⟨fun t b hb=> ?_,fun t b hb i v hv=> ?_,fun t b hb hrw i hi=> ?_,fun t t' b b' hb hrw hb' hne=> ?_⟩,fun t b hb hrw=> ?_,h.frame,fun n hn=>⟨Or.inl (h.kJ n hn).1,(hg n (h.kJ n hn).1).symm.trans (h.kJ n hn).2⟩,h.tabs⟩
 ·by_cases ex:x=d
  ·subst ex
   have:some (Ptr nm 0)=some v:=by rw[← hv];exact (ax _ _ _).symm
   cases this
   rw[hd];simp[AV.av,CV.av,SV.av,ax]
  ·have hv':s.env x=some v:=by rw[← hv];exact (bg _ _ _ _ ex).symm
   rw[h.env x v hv',AV.bX (AV.bA hg (h.names.env x v hv'))]
 ·by_cases ex:x=d
  ·subst ex
   have:some (Ptr nm 0)=some v:=by rw[← hv];exact (ax _ _ _).symm
   cases this
   exact Or.inr rfl
  ·have hv':s.env x=some v:=by rw[← hv];exact (bg _ _ _ _ ex).symm
   exact AV.bA hM (h.names.env x v hv')
 ·rcases lT t b hb with ⟨rfl,rfl⟩ | ⟨_,hb'⟩
  ·refine ⟨Or.inr rfl,fun x hx=> ?_⟩
   simp only[List.mem_map]at hx
   obtain ⟨u,hu,rfl⟩:=hx
   exact ⟨trivial,List.all_eq_true.1 hz u hu⟩
  ·exact ⟨Or.inl (h.names.box t b hb').1,fun x hx=>SV.bA hM ((h.names.box t b hb').2 x hx)⟩
 ·rcases lT t b hb with ⟨rfl,rfl⟩ | ⟨e,hb'⟩
  ·rw[ax];exact hlt
  ·rw[bg _ _ _ _ e];exact h.mem.lt t b hb'
 ·rcases lT t b hb with ⟨rfl,rfl⟩ | ⟨e,hb'⟩
  ·rw[ax]
   simp only[List.getElem?_map]at hv
   cases hi:zs[i]? with
   | none=>rw[hi]at hv;cases hv
   | some u=>
    rw[hi]at hv
    simp only[Option.map_some,Option.some.injEq]at hv;subst hv
    unfold World.cell?
    simp only[sL,Nat.zero_add,List.getElem?_toArray,hi,SV.av];rfl
  ·rw[bg _ _ _ _ e,h.mem.cell t b hb' i v hv,SV.bX (SV.eY hg ((h.names.box t b hb').2 v (List.mem_of_getElem? hv)).1)]
 ·rcases lT t b hb with ⟨rfl,rfl⟩ | ⟨e,hb'⟩
  ·rw[ax]
   unfold dq
   simp only[sL]
   rfl
  ·rw[bg _ _ _ _ e];exact h.mem.free t b hb' hrw i hi
 ·rcases lT t b hb with ⟨rfl,rfl⟩ | ⟨e,h1⟩<;>rcases lT t' b' hb' with ⟨rfl,rfl⟩ | ⟨e',h2⟩
  ·exact absurd rfl hne
  ·rw[ax,bg _ _ _ _ e'];exact fun e3=>hno t' b' h2 e3.symm
  ·rw[ax,bg _ _ _ _ e];exact hno t b h1
  ·rw[bg _ _ _ _ e,bg _ _ _ _ e'];exact h.mem.sep t t' b b' h1 hrw h2 hne
 ·rcases lT t b hb with ⟨rfl,rfl⟩ | ⟨e,hb'⟩
  ·rw[ax];exact Or.inl hβ
  ·rw[bg _ _ _ _ e];exact h.own t b hb' hrw
theorem VM {t:TypeId} {zs:List Value} (h:zeroOf P t=some zs) (hp:o.op= .alloc t) (r:Operand→Value) (w:World):
  (execOp r o).run P w= .ok (.value (.pointer (some ⟨w.heap.size,0,none⟩))) (w.alloc (.cells zs.toArray t)):=by
 obtain ⟨dst,op,type,pos,after,guard⟩:=o
 simp only at hp
 subst hp
 unfold zeroOf at h
 split at h
 ·rename_i i hi
  split at h
  ·rename_i v hv
   simp only[Option.some.injEq]at h;subst h
   simp[execOp,Instr.alloc,zeroValue,typeInfo,hi,hv,newVar,newRow]
  ·cases h
 ·cases h
theorem OC (w:World) (x:Obj):Kept w (w.alloc x):=⟨rfl,rfl,rfl,by simp,fun k hk _=>by
 show (w.heap.push x)[k]? =_
 rw[Array.getElem?_push,if_neg (by omega)]⟩
end
end Go.cA
