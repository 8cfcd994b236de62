/-
  The calculus: a region by a plan serves every order. Nothing here speaks of a program.
-/
import Derived.Test.YtpnehhpadofcbaaGreatDoorVcgWd
namespace Go.bU
set_option linter.unusedSectionVars false
set_option linter.unusedSimpArgs false
set_option linter.unusedVariables false
section
variable {P:Program} [Tables P] {W:Nat→Prop} {N:Nat} {w0:iH P} {M:Nat→Prop} {g:Where} {s:AS} {a:Act} {w:World} {ops:Array Oper} {nm:Nat} {o:Oper}
theorem pure_run {K:AS→Prop} (h:isPure o.op=true):cl P nm o K s=bO (fy P nm s o.op) nm o.dst K s:=by
 obtain ⟨dst,op,type,pos,after,guard⟩:=o
 cases op<;>first | rfl | (simp[isPure]at h)
theorem Wb {nm':Nat} (h:isPure o.op=true):fy P nm s o.op=fy P nm' s o.op:=by
 obtain ⟨dst,op,type,pos,after,guard⟩:=o
 cases op
 case slice t x lo hi mx=>cases mx<;>first | rfl | (simp[isPure]at h)
 all_goals first | rfl | (simp[isPure]at h)
theorem Jc {op:BinOp} {x y:Option AV} {e:dP} (h:cG op x y=some e): ∃ v,e=(some v,none):=by
 unfold cG at h
 split at h
 ·split at h
  ·simp only[Option.some.injEq]at h;exact ⟨_,h.symm⟩
  ·cases h
 ·cases h
theorem Q8 {e:dP} (h:isPure o.op=true) (he:fy P nm s o.op=some e): ∃ v,e=(some v,none):=by
 obtain ⟨dst,op,type,pos,after,guard⟩:=o
 cases op<;>simp only[isPure,Bool.false_eq_true]at h<;>simp only[fy]at he
 case move x=>
  split at he
  ·simp only[Option.some.injEq]at he;exact ⟨_,he.symm⟩
  ·cases he
 case load t x=>
  unfold fb at he
  (repeat' split at he)<;>first | (simp only[Option.some.injEq]at he;exact ⟨_,he.symm⟩) | cases he
 case fieldAddr t x f=>
  unfold fc at he
  (repeat' split at he)<;>first | (simp only[Option.some.injEq]at he;exact ⟨_,he.symm⟩) | cases he
 case nilCheck x=>
  unfold sX at he
  (repeat' split at he)<;>first | (simp only[Option.some.injEq]at he;exact ⟨_,he.symm⟩) | cases he
 case field t x f=>
  unfold oe at he
  (repeat' split at he)<;>first | (simp only[Option.some.injEq]at he;exact ⟨_,he.symm⟩) | cases he
 case index t x i=>
  unfold je at he
  (repeat' split at he)<;>first | (simp only[Option.some.injEq]at he;exact ⟨_,he.symm⟩) | cases he
 case indexAddr t x i=>
  unfold cU at he
  (repeat' split at he)<;>first | (simp only[Option.some.injEq]at he;exact ⟨_,he.symm⟩) | cases he
 case build t parts=>
  unfold gD at he
  (repeat' split at he)<;>first | (simp only[Option.some.injEq]at he;exact ⟨_,he.symm⟩) | cases he
 case extract x i=>
  unfold gq at he
  (repeat' split at he)<;>first | (simp only[Option.some.injEq]at he;exact ⟨_,he.symm⟩) | cases he
 case binOp op t x y p=>
  unfold vn at he
  split at he
  ·unfold lZ at he
   (repeat' split at he)<;>first | (simp only[Option.some.injEq]at he;exact ⟨_,he.symm⟩) | cases he
  unfold oc at he
  split at he
  ·unfold eqA at he
   split at he
   ·unfold R' at he
    (repeat' split at he)<;>first | (simp only[Option.some.injEq]at he;exact ⟨_,he.symm⟩) | cases he
   ·unfold eqF at he
    split at he
    ·unfold Sr at he
     (repeat' split at he)<;>first | (simp only[Option.some.injEq]at he;exact ⟨_,he.symm⟩) | cases he
    ·cases he
  ·unfold QJ at he
   (repeat' split at he)<;>first | (simp only[Option.some.injEq]at he;exact ⟨_,he.symm⟩) | cases he
  ·exact Jc he
 case unOp op t x=>
  unfold qv at he
  (repeat' split at he)<;>first | (simp only[Option.some.injEq]at he;exact ⟨_,he.symm⟩) | cases he
 case convert t u x=>
  unfold ik Dx ij at he
  (repeat' split at he)<;>first | (simp only[Option.some.injEq]at he;exact ⟨_,he.symm⟩) | cases he
 case slice t x lo hi mx=>
  cases mx with
  | some m=>cases h
  | none=>
   simp only at he
   unfold gE Sb slN at he
   (repeat' split at he)<;>first | (simp only[Option.some.injEq]at he;exact ⟨_,he.symm⟩) | cases he
theorem SV.EE {M1 M2:Nat→Prop} {x:SV} (h1:SV.names M1 x) (h2:SV.names M2 x):SV.names (fun n=>M1 n∧M2 n) x:=by
 rcases x with v | ⟨t,o⟩ | ⟨t,o,n,c⟩
 ·exact SD h1 h2
 ·exact ⟨h1,h2⟩
 ·exact ⟨h1,h2⟩
theorem AV.Zn {M1 M2:Nat→Prop} {v:AV} (h1:AV.ok M1 v) (h2:AV.ok M2 v):AV.ok (fun n=>M1 n∧M2 n) v:=by
 have hc: ∀ c:CV,CV.ok M1 c→CV.ok M2 c→CV.ok (fun n=>M1 n∧M2 n) c:=fun c k1 k2=>by
  rcases c with x | l
  ·exact SV.EE k1 k2
  ·exact fun y hy=>⟨SV.EE (k1 y hy).1 (k2 y hy).1,(k1 y hy).2⟩
 rcases v with c | l
 ·exact hc c h1 h2
 ·exact fun y hy=>hc y (h1 y hy) (h2 y hy)
theorem Wc {v:AV} (h:cx W N w0 M g s a w) (h1: ¬ M nm) (h2: ¬ M (nm+1)) (hp:isPure o.op=true) (he:fy P nm s o.op=some (some v,none)):AV.ok M v:=by
 obtain ⟨g1,w1,r1,k1⟩:=iI (o:=o) h h1 he
 obtain ⟨g2,w2,r2,k2⟩:=iI (o:=o) (nm:=nm+1) h h2 ((Wb hp).symm.trans he)
 refine AV.bm (fun n hn=> ?_) (AV.Zn k1.val.2 k2.val.2)
 rcases hn with ⟨h3 | h3,h4 | h4⟩
 ·exact h3
 ·exact h3
 ·exact h4
 ·omega
theorem Mg {l m:List Nat} (h:jE l m=true) {x:Nat} (hx:x ∈ l):x ∉ m:=fun hm=>by
 have:=List.all_eq_true.1 h x hx
 simp only[Bool.not_eq_true',List.contains_eq_mem,decide_eq_false_iff_not]at this
 exact this hm
theorem mQ {i:Nat} (ho:ops[i]? =some o):gb ops i=o.dst.toList:=by unfold gb;rw[ho]
theorem gf {i d:Nat} (ho:ops[i]? =some o) (hd:o.dst=some d): ∀ {l:List Nat},i ∈ l→d ∈ dstsOf ops l
 | j::r,h=>by
  unfold dstsOf
  rcases List.mem_cons.1 h with rfl | h
  ·exact List.mem_append_left _ (by rw[mQ ho,hd];simp)
  ·exact List.mem_append_right _ (gf ho hd h)
theorem mS {d:Nat}: ∀ {l:List Nat},d ∈ dstsOf ops l→ ∃ i ∈ l, ∃ o,ops[i]? =some o∧o.dst=some d
 | [],h=>by simp[dstsOf]at h
 | j::r,h=>by
  unfold dstsOf at h
  rcases List.mem_append.1 h with h | h
  ·unfold gb at h
   split at h
   ·rename_i o ho
    exact ⟨j,by simp,o,ho,by simpa using h⟩
   ·simp at h
  ·obtain ⟨i,hi,o,ho,hd⟩:=mS h
   exact ⟨i,by simp[hi],o,ho,hd⟩
theorem eI {l m:List Nat}:dstsOf ops (l++m)=dstsOf ops l++dstsOf ops m:=by
 induction l with
 | nil=>rfl
 | cons i r ih=>simp only[List.cons_append,dstsOf,ih,List.append_assoc]
theorem TI {s s':AS} (h: ∀ d ∈ o.looksAt ops,s.env d=s'.env d): ∀ x ∈ o.op.operands,s.aT x=s'.aT x:=fun x hx=>
 oX fun t ht=>h t (lz hx ht)
theorem Pv {s s':AS} (hn:Names M s) (h: ∀ d ∈ o.looksAt ops,s.env d=s'.env d) (hb:s.box=s'.box):fy P nm s o.op=fy P nm s' o.op:=
 yr (M:=M) (TI h) (fun x _ v hv=>hn.aT hv) (fun _ t _=>by rw[hb])
theorem rN {K:AS→Prop} (h1: ¬ M nm) (h2: ¬ M (nm+1)) (hok:ops.toList.all (oV N)=true): ∀ {A:List Nat} {s:AS} {a:Act},(∀ i ∈ A, ∃ o,ops[i]? =some o∧isPure o.op=true∧ ∃ d,o.dst=some d)→TF ops A=true→
  cx W N w0 M g s a w→iX P ops nm K A s→ ∃ sr ar,K sr∧sr.box=s.box∧sr.next=s.next∧cx W N w0 M g sr ar w∧(∀ d,d ∉ dstsOf ops A→sr.env d=s.env d∧ar.tmps[d]? =a.tmps[d]?)∧
   ∀ i ∈ A, ∃ o d v,ops[i]? =some o∧o.dst=some d∧sr.env d=some v∧fy P nm sr o.op=some (some v,none)∧AV.ok M v
 | [],s,a,_,_,h,hv=>⟨s,a,hv,rfl,rfl,h,fun _ _=>⟨rfl,rfl⟩,fun i hi=>nomatch hi⟩
 | i::r,s,a,hA,hrow,h,hv=>by
  obtain ⟨o,ho,hp,d,hd⟩:=hA i (by simp)
  simp only[TF,Bool.and_eq_true]at hrow
  obtain ⟨⟨hr1,hr2⟩,Zo⟩:=hrow
  unfold iX at hv
  rw[ho]at hv
  simp only at hv
  rw[pure_run hp]at hv
  unfold bO at hv
  split at hv
  ·rename_i e he
   obtain ⟨v,rfl⟩:=Q8 hp he
   have TJ:=Wc h h1 h2 hp he
   rw[hd]at hv
   have Wd:d < N:=by
    have:=List.all_eq_true.1 hok o (by simpa using Array.mem_of_getElem? ho)
    unfold oV at this;rw[hd]at this;simpa using this
   obtain ⟨sr,ar,k1,k2,k3,k4,k5,k6⟩:=rN h1 h2 hok (fun j hj=>hA j (by simp[hj])) Zo (h.put (d:=some d) (fun x hx=>by cases hx;exact Wd) TJ) hv
   have hdr:d ∉ dstsOf ops r:=Mg hr2 (by rw[mQ ho,hd];simp)
   have X3: ∀ x ∈ o.looksAt ops,s.env x=sr.env x:=fun x hx=>by
    have hx1:x ∉ dstsOf ops (i::r):=Mg hr1 (by unfold Ps;rw[ho];exact hx)
    have hxd:x≠d:=fun e=>hx1 (e▸gf ho hd (by simp))
    have hxr:x ∉ dstsOf ops r:=fun hm=>hx1 (by unfold dstsOf;exact List.mem_append_right _ hm)
    rw[(k5 x hxr).1]
    exact (bj _ _ _ _ hxd).symm
   refine ⟨sr,ar,k1,k2,k3,k4,fun x hx=> ?_,fun j hj=> ?_⟩
   ·have hxd:x≠d:=fun e=>hx (e▸gf ho hd (by simp))
    have hxr:x ∉ dstsOf ops r:=fun hm=>hx (by unfold dstsOf;exact List.mem_append_right _ hm)
    rw[(k5 x hxr).1,(k5 x hxr).2]
    exact ⟨bj _ _ _ _ hxd,by simp only[Act.put];rw[Array.getElem?_setIfInBounds_ne (fun e=>hxd e.symm)]⟩
   ·rcases List.mem_cons.1 hj with rfl | hj
    ·refine ⟨o,d,v,ho,hd, ?_, ?_,TJ⟩
     ·rw[(k5 d hdr).1];exact ay _ _ _
     ·rw[← he]
      exact (Pv h.names X3 k2.symm).symm
    ·exact k6 j hj
  ·exact hv.elim
theorem Bw {dm:List Nat} {box:Nat→Option aN} {t:Nat} {b:aN} (h:qp dm box t=some b): ∃ b0,box t=some b0∧b.cells=b0.cells∧(b.rw=true→b0.rw=true):=by
 unfold qp at h
 split at h
 ·split at h
  ·rename_i b0 hb
   simp only[Option.some.injEq]at h;subst h
   exact ⟨b0,hb,rfl,fun h=>by cases h⟩
  ·cases h
 ·exact ⟨b,h,rfl,id⟩
theorem cx.Mh (h:cx W N w0 M g s a w) (dm:List Nat):cx W N w0 M g { s with box:=qp dm s.box } a w:=by
 refine ⟨h.size,h.defers,h.env,⟨h.names.env,fun t b hb=> ?_⟩,⟨fun t b hb=> ?_,fun t b hb i v hv=> ?_,fun t b hb hrw i hi=> ?_,fun t t' b b' hb hrw hb' hne=> ?_⟩,fun t b hb hrw=> ?_,h.frame,h.pin,h.tabs⟩
 ·obtain ⟨b0,h1,h2,_⟩:=Bw hb
  rw[h2];exact h.names.box t b0 h1
 ·obtain ⟨b0,h1,_,_⟩:=Bw hb
  exact h.mem.lt t b0 h1
 ·obtain ⟨b0,h1,h2,_⟩:=Bw hb
  rw[h2]at hv;exact h.mem.cell t b0 h1 i v hv
 ·obtain ⟨b0,h1,h2,h3⟩:=Bw hb
  rw[h2]at hi;exact h.mem.free t b0 h1 (h3 hrw) i hi
 ·obtain ⟨b0,h1,_,h3⟩:=Bw hb
  obtain ⟨b1,k1,_,_⟩:=Bw hb'
  exact h.mem.sep t t' b0 b1 h1 (h3 hrw) k1 hne
 ·obtain ⟨b0,h1,_,h3⟩:=Bw hb
  exact h.own t b0 h1 (h3 hrw)
theorem rO {b:Option aN} {c:aN} (h:Mf b=some c):b=some c∧c.rw=false:=by
 unfold Mf at h
 split at h
 ·simp only[Option.some.injEq]at h;subst h;exact ⟨rfl,rfl⟩
 ·cases h
theorem F3 {pn:Nat} {hl:Laid P w} {N':Nat} {M':Nat→Prop} {g':Where} {s':AS} {a' a1:Act} {w':World} (h:cx W N w0 M g s a w) (hM:cx (pY g s) N' ⟨w,pn,g,hl⟩ M' g' s' a1 w') {env:Nat→Option AV}
  (hsz:a'.tmps.size=N) (hdf:a'.defers=[]) (jf: ∀ d v,env d=some v→a'.tmps[d]? =some (AV.aq g v)) (hn: ∀ d v,env d=some v→AV.ok M v) (nx:Nat):
  cx (fun _=>False) N ⟨w',0,g,hM.laid⟩ M g ⟨env,fun t=>Mf (s.box t),nx⟩ a' w':=by
 have QI: ∀ t c,s.box t=some c→c.rw=false→w'.heap[(g t).1]? =w.heap[(g t).1]? :=fun t c hc hrw=>by
  refine hM.frame.block _ (h.mem.lt t c hc) fun ⟨u,d,hd,C6,e⟩=> ?_
  by_cases e2:u=t
  ·subst e2;rw[hc]at hd;cases hd;rw[hrw]at C6;cases C6
  ·exact h.mem.sep u t d c hd C6 hc e2 e
 refine ⟨hsz,hdf,jf,⟨hn,fun t b hb=> ?_⟩,⟨fun t b hb=> ?_,fun t b hb i v hv=> ?_,fun t b hb hrw i hi=> ?_,fun t t' b b' hb hrw hb' hne=> ?_⟩,fun t b hb hrw=> ?_,Frame.refl _ _,fun n hn=>absurd hn (Nat.not_lt_zero n),fun _ _ _=>id⟩
 ·exact h.names.box t b (rO hb).1
 ·exact Nat.lt_of_lt_of_le (h.mem.lt t b (rO hb).1) hM.frame.size
 ·obtain ⟨h1,h2⟩:=rO hb
  have:=h.mem.cell t b h1 i v hv
  unfold World.cell? at this ⊢
  simp only[QI t b h1 h2]
  exact this
 ·rw[(rO hb).2]at hrw;cases hrw
 ·rw[(rO hb).2]at hrw;cases hrw
 ·rw[(rO hb).2]at hrw;cases hrw
theorem cx.abx (h:cx W N w0 M g s a w) (hnm: ¬ M nm) {β d:Nat} {e:TypeId} {zs:List Value} (hz:zs.all Value.oneCell'=true) (j5:zs.all iG=true) (hβ:w0.heap.size≤β) (hlt:β < w.heap.size) (xe:w.heap[β]? =some (.cells zs.toArray e (0,0)))
  (hno: ∀ t b,s.box t=some b→(g t).1≠β) (hd:a.tmps[d]? =some (.pointer (some ⟨β,0,none⟩))):
  cx W N w0 (fun n=>M n∨n=nm) (upd g nm (β,0)) ((s.mem nm (some (.inl (zs.map .inl)))).put (some d) (some (Ptr nm 0))) a w:=by
 have hg: ∀ n,M n→g n=upd g nm (β,0) n:=fun n hn=>(bj _ _ _ _ (fun e=>hnm (by rw[← e];exact hn))).symm
 have hM: ∀ n,M n→M n∨n=nm:=fun n hn=>Or.inl hn
 have kC: ∀ t b,s.box t=some b→t≠nm:=fun t b hb e=>by have:=(h.names.box t b hb).1;rw[e]at this;exact hnm this
 have hold: ∀ t b,s.box t=some b→upd g nm (β,0) t=g t:=fun t b hb=>bj _ _ _ _ (kC t b hb)
 have l6: ∀ t b,upd s.box nm (some (⟨true,zs.map Sum.inl⟩:aN)) t=some b→(t=nm∧b=⟨true,zs.map .inl⟩)∨(t≠nm∧s.box t=some b):=fun t b hb=>by
  by_cases e:t=nm
  ·subst e;rw[ay]at hb;simp only[Option.some.injEq]at hb;exact .inl ⟨rfl,hb.symm⟩
  ·rw[bj _ _ _ _ e]at hb;exact .inr ⟨e,hb⟩
 refine ⟨h.size,h.defers,fun x v hv=> ?_,⟨fun x v hv=> ?_,fun t b hb=> ?_⟩,⟨fun t b hb=> ?_,fun t b hb i v hv=> ?_,fun t b hb hrw i hi=> ?_,fun t t' b b' hb hrw hb' hne=> ?_⟩,fun t b hb hrw=> ?_,h.frame,fun n hn=>⟨Or.inl (h.pin n hn).1,(hg n (h.pin n hn).1).symm.trans (h.pin n hn).2⟩,h.tabs⟩
 ·by_cases ex:x=d
  ·subst ex
   have:some (Ptr nm 0)=some v:=by rw[← hv];exact (ay _ _ _).symm
   cases this
   rw[hd];simp[AV.aq,CV.aq,SV.aq,cP,ay]
  ·have QM:s.env x=some v:=by rw[← hv];exact (bj _ _ _ _ ex).symm
   rw[h.env x v QM,AV.bE (AV.bm hg (h.names.env x v QM))]
 ·by_cases ex:x=d
  ·subst ex
   have:some (Ptr nm 0)=some v:=by rw[← hv];exact (ay _ _ _).symm
   cases this
   exact Or.inr rfl
  ·have QM:s.env x=some v:=by rw[← hv];exact (bj _ _ _ _ ex).symm
   exact AV.bm hM (h.names.env x v QM)
 ·rcases l6 t b hb with ⟨rfl,rfl⟩ | ⟨_,hb'⟩
  ·refine ⟨Or.inr rfl,fun x hx=> ?_⟩
   simp only[List.mem_map]at hx
   obtain ⟨u,hu,rfl⟩:=hx
   exact ⟨fK (List.all_eq_true.1 j5 u hu),List.all_eq_true.1 hz u hu⟩
  ·exact ⟨Or.inl (h.names.box t b hb').1,fun x hx=>SV.bm hM ((h.names.box t b hb').2 x hx)⟩
 ·rcases l6 t b hb with ⟨rfl,rfl⟩ | ⟨e,hb'⟩
  ·rw[ay];exact hlt
  ·rw[bj _ _ _ _ e];exact h.mem.lt t b hb'
 ·rcases l6 t b hb with ⟨rfl,rfl⟩ | ⟨e,hb'⟩
  ·rw[ay]
   simp only[List.getElem?_map]at hv
   cases hi:zs[i]? with
   | none=>rw[hi]at hv;cases hv
   | some u=>
    rw[hi]at hv
    simp only[Option.map_some,Option.some.injEq]at hv;subst hv
    unfold World.cell?
    simp only[xe,Nat.zero_add,List.getElem?_toArray,hi,SV.aq,lr (List.all_eq_true.1 j5 u (List.mem_of_getElem? hi))];rfl
  ·rw[bj _ _ _ _ e,h.mem.cell t b hb' i v hv,SV.bE (SV.cn hg ((h.names.box t b hb').2 v (List.mem_of_getElem? hv)).1)]
 ·rcases l6 t b hb with ⟨rfl,rfl⟩ | ⟨e,hb'⟩
  ·rw[ay]
   unfold cJ
   simp only[xe]
   rfl
  ·rw[bj _ _ _ _ e];exact h.mem.free t b hb' hrw i hi
 ·rcases l6 t b hb with ⟨rfl,rfl⟩ | ⟨e,h1⟩<;>rcases l6 t' b' hb' with ⟨rfl,rfl⟩ | ⟨e',h2⟩
  ·exact absurd rfl hne
  ·rw[ay,bj _ _ _ _ e'];exact fun e3=>hno t' b' h2 e3.symm
  ·rw[ay,bj _ _ _ _ e];exact hno t b h1
  ·rw[bj _ _ _ _ e,bj _ _ _ _ e'];exact h.mem.sep t t' b b' h1 hrw h2 hne
 ·rcases l6 t b hb with ⟨rfl,rfl⟩ | ⟨e,hb'⟩
  ·rw[ay];exact Or.inl hβ
  ·rw[bj _ _ _ _ e];exact h.own t b hb' hrw
theorem Q9 {t:TypeId} {zs:List Value} (h:zeroOf P t=some zs) (hp:o.op= .alloc t) (r:Operand→Value) (w:World):
  (execOp r o).run P w= .ok (.value (.pointer (some ⟨w.heap.size,0,none⟩))) (w.alloc (.cells zs.toArray t)):=by
 obtain ⟨dst,op,type,pos,after,guard⟩:=o
 simp only at hp
 subst hp
 unfold zeroOf at h
 split at h
 ·rename_i i hi
  split at h
  ·rename_i v hv
   split at h
   ·simp only[Option.some.injEq]at h;subst h
    simp[execOp,Instr.alloc,zeroValue,typeInfo,hi,hv,newVar,newRow]
   ·cases h
  ·cases h
 ·cases h
theorem Mi (w:World) (x:Obj):Kept w (w.alloc x):=⟨rfl,rfl,rfl,by simp,fun k hk _=>by
 show (w.heap.push x)[k]? =_
 rw[Array.getElem?_push,if_neg (by omega)]⟩
end
end Go.bU
