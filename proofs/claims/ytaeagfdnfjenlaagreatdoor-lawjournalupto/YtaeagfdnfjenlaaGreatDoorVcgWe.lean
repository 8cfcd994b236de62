/-
  The calculus: a region by a plan serves every order. Nothing here speaks of a program.
-/
import Derived.Test.YtaeagfdnfjenlaaGreatDoorVcgWd
namespace Go.cn
set_option linter.unusedSectionVars false
set_option linter.unusedSimpArgs false
set_option linter.unusedVariables false
section
variable {P:Program} [Tables P] {W:Nat→Prop} {N:Nat} {w0:Base P} {M:Nat→Prop} {g:Where} {s:AS} {a:Act} {w:World} {ops:Array Oper} {nm:Nat} {o:Oper}
theorem Vq {nm':Nat} (h:isPure o.op=true):ea P nm s o.op=ea P nm' s o.op:=by
 obtain ⟨dst,op,type,pos,after,guard⟩:=o
 cases op
 case slice t x lo hi mx=>cases mx<;>first | rfl | (simp[isPure]at h)
 all_goals first | rfl | (simp[isPure]at h)
theorem SV.DN {M1 M2:Nat→Prop} {x:SV} (h1:SV.names M1 x) (h2:SV.names M2 x):SV.names (fun n=>M1 n∧M2 n) x:=by
 rcases x with v | ⟨t,o⟩ | ⟨t,o,n,c⟩
 ·exact QQ h1 h2
 ·exact ⟨h1,h2⟩
 ·exact ⟨h1,h2⟩
theorem AV.Zh {M1 M2:Nat→Prop} {v:AV} (h1:AV.ok M1 v) (h2:AV.ok M2 v):AV.ok (fun n=>M1 n∧M2 n) v:=by
 have hc: ∀ c:CV,CV.ok M1 c→CV.ok M2 c→CV.ok (fun n=>M1 n∧M2 n) c:=fun c k1 k2=>by
  rcases c with x | l
  ·exact SV.DN k1 k2
  ·exact fun y hy=>⟨SV.DN (k1 y hy).1 (k2 y hy).1,(k1 y hy).2⟩
 rcases v with c | l
 ·exact hc c h1 h2
 ·exact fun y hy=>hc y (h1 y hy) (h2 y hy)
theorem Vr {v:AV} (h:bF W N w0 M g s a w) (h1: ¬ M nm) (h2: ¬ M (nm+1)) (hp:isPure o.op=true) (he:ea P nm s o.op=some (some v,none)):AV.ok M v:=by
 obtain ⟨g1,w1,r1,k1⟩:=eH (o:=o) h h1 he
 obtain ⟨g2,w2,r2,k2⟩:=eH (o:=o) (nm:=nm+1) h h2 ((Vq hp).symm.trans he)
 refine AV.aL (fun n hn=> ?_) (AV.Zh k1.val.2 k2.val.2)
 rcases hn with ⟨h3 | h3,h4 | h4⟩
 ·exact h3
 ·exact h3
 ·exact h4
 ·omega
theorem KL {l m:List Nat} (h:jG l m=true) {x:Nat} (hx:x ∈ l):x ∉ m:=fun hm=>by
 have:=List.all_eq_true.1 h x hx
 simp only[Bool.not_eq_true',List.contains_eq_mem,decide_eq_false_iff_not]at this
 exact this hm
theorem mG {i:Nat} (ho:ops[i]? =some o):fm ops i=o.dst.toList:=by unfold fm;rw[ho]
theorem dw {i d:Nat} (ho:ops[i]? =some o) (hd:o.dst=some d): ∀ {l:List Nat},i ∈ l→d ∈ dstsOf ops l
 | j::r,h=>by
  unfold dstsOf
  rcases List.mem_cons.1 h with rfl | h
  ·exact List.mem_append_left _ (by rw[mG ho,hd];simp)
  ·exact List.mem_append_right _ (dw ho hd h)
theorem j5 {d:Nat}: ∀ {l:List Nat},d ∈ dstsOf ops l→ ∃ i ∈ l, ∃ o,ops[i]? =some o∧o.dst=some d
 | [],h=>by simp[dstsOf]at h
 | j::r,h=>by
  unfold dstsOf at h
  rcases List.mem_append.1 h with h | h
  ·unfold fm at h
   split at h
   ·rename_i o ho
    exact ⟨j,by simp,o,ho,by simpa using h⟩
   ·simp at h
  ·obtain ⟨i,hi,o,ho,hd⟩:=j5 h
   exact ⟨i,by simp[hi],o,ho,hd⟩
theorem cu {l m:List Nat}:dstsOf ops (l++m)=dstsOf ops l++dstsOf ops m:=by
 induction l with
 | nil=>rfl
 | cons i r ih=>simp only[List.cons_append,dstsOf,ih,List.append_assoc]
theorem RH {s s':AS} (h: ∀ d ∈ o.looksAt ops,s.env d=s'.env d): ∀ x ∈ o.op.operands,s.aS x=s'.aS x:=fun x hx=>
 oI fun t ht=>h t (jK hx ht)
theorem EZ {s s':AS} (hn:Names M s) (h: ∀ d ∈ o.looksAt ops,s.env d=s'.env d) (hb:s.box=s'.box):ea P nm s o.op=ea P nm s' o.op:=
 wX (M:=M) (RH h) (fun x _ v hv=>hn.aS hv) (fun _ t _=>by rw[hb])
theorem og {K:AS→Prop} (h1: ¬ M nm) (h2: ¬ M (nm+1)) (hok:ops.toList.all (ng N)=true): ∀ {A:List Nat} {s:AS} {a:Act},(∀ i ∈ A, ∃ o,ops[i]? =some o∧isPure o.op=true∧ ∃ d,o.dst=some d)→RE ops A=true→
  bF W N w0 M g s a w→ij P ops nm K A s→ ∃ sr ar,K sr∧sr.box=s.box∧sr.next=s.next∧bF W N w0 M g sr ar w∧(∀ d,d ∉ dstsOf ops A→sr.env d=s.env d∧ar.tmps[d]? =a.tmps[d]?)∧
   ∀ i ∈ A, ∃ o d v,ops[i]? =some o∧o.dst=some d∧sr.env d=some v∧ea P nm sr o.op=some (some v,none)∧AV.ok M v
 | [],s,a,_,_,h,hv=>⟨s,a,hv,rfl,rfl,h,fun _ _=>⟨rfl,rfl⟩,fun i hi=>nomatch hi⟩
 | i::r,s,a,hA,hrow,h,hv=>by
  obtain ⟨o,ho,hp,d,hd⟩:=hA i (by simp)
  simp only[RE,Bool.and_eq_true]at hrow
  obtain ⟨⟨hr1,Vs⟩,hr3⟩:=hrow
  unfold ij at hv
  rw[ho]at hv
  simp only at hv
  rw[pure_run hp]at hv
  unfold bL at hv
  split at hv
  ·rename_i e he
   obtain ⟨v,rfl⟩:=vK hp he
   have H2:=Vr h h1 h2 hp he
   rw[hd]at hv
   have E0:d < N:=by
    have:=List.all_eq_true.1 hok o (by simpa using Array.mem_of_getElem? ho)
    unfold ng at this;rw[hd]at this;simpa using this
   obtain ⟨sr,ar,k1,k2,k3,k4,k5,k6⟩:=og h1 h2 hok (fun j hj=>hA j (by simp[hj])) hr3 (h.put (d:=some d) (fun x hx=>by cases hx;exact E0) H2) hv
   have hdr:d ∉ dstsOf ops r:=KL Vs (by rw[mG ho,hd];simp)
   have RI: ∀ x ∈ o.looksAt ops,s.env x=sr.env x:=fun x hx=>by
    have hx1:x ∉ dstsOf ops (i::r):=KL hr1 (by unfold Ng;rw[ho];exact hx)
    have hxd:x≠d:=fun e=>hx1 (e▸dw ho hd (by simp))
    have hxr:x ∉ dstsOf ops r:=fun hm=>hx1 (by unfold dstsOf;exact List.mem_append_right _ hm)
    rw[(k5 x hxr).1]
    exact (bh _ _ _ _ hxd).symm
   refine ⟨sr,ar,k1,k2,k3,k4,fun x hx=> ?_,fun j hj=> ?_⟩
   ·have hxd:x≠d:=fun e=>hx (e▸dw ho hd (by simp))
    have hxr:x ∉ dstsOf ops r:=fun hm=>hx (by unfold dstsOf;exact List.mem_append_right _ hm)
    rw[(k5 x hxr).1,(k5 x hxr).2]
    exact ⟨bh _ _ _ _ hxd,by simp only[Act.put];rw[Array.getElem?_setIfInBounds_ne (fun e=>hxd e.symm)]⟩
   ·rcases List.mem_cons.1 hj with rfl | hj
    ·refine ⟨o,d,v,ho,hd, ?_, ?_,H2⟩
     ·rw[(k5 d hdr).1];exact aQ _ _ _
     ·rw[← he]
      exact (EZ h.names RI k2.symm).symm
    ·exact k6 j hj
  ·exact hv.elim
theorem zU {dm:List Nat} {box:Nat→Option aI} {t:Nat} {b:aI} (h:nO dm box t=some b): ∃ b0,box t=some b0∧b.cells=b0.cells∧(b.rw=true→b0.rw=true):=by
 unfold nO at h
 split at h
 ·split at h
  ·rename_i b0 hb
   simp only[Option.some.injEq]at h;subst h
   exact ⟨b0,hb,rfl,fun h=>by cases h⟩
  ·cases h
 ·exact ⟨b,h,rfl,id⟩
theorem bF.E4 (h:bF W N w0 M g s a w) (dm:List Nat):bF W N w0 M g { s with box:=nO dm s.box } a w:=by
 refine ⟨h.size,h.defers,h.env,⟨h.names.env,fun t b hb=> ?_⟩,⟨fun t b hb=> ?_,fun t b hb i v hv=> ?_,fun t b hb hrw i hi=> ?_,fun t t' b b' hb hrw hb' hne=> ?_⟩,fun t b hb hrw=> ?_,h.frame,h.pin,h.tabs⟩
 ·obtain ⟨b0,h1,h2,_⟩:=zU hb
  rw[h2];exact h.names.box t b0 h1
 ·obtain ⟨b0,h1,_,_⟩:=zU hb
  exact h.mem.lt t b0 h1
 ·obtain ⟨b0,h1,h2,_⟩:=zU hb
  rw[h2]at hv;exact h.mem.cell t b0 h1 i v hv
 ·obtain ⟨b0,h1,h2,h3⟩:=zU hb
  rw[h2]at hi;exact h.mem.free t b0 h1 (h3 hrw) i hi
 ·obtain ⟨b0,h1,_,h3⟩:=zU hb
  obtain ⟨b1,k1,_,_⟩:=zU hb'
  exact h.mem.sep t t' b0 b1 h1 (h3 hrw) k1 hne
 ·obtain ⟨b0,h1,_,h3⟩:=zU hb
  exact h.own t b0 h1 (h3 hrw)
theorem rb {b:Option aI} {c:aI} (h:DL b=some c):b=some c∧c.rw=false:=by
 unfold DL at h
 split at h
 ·simp only[Option.some.injEq]at h;subst h;exact ⟨rfl,rfl⟩
 ·cases h
theorem vM {pn:Nat} {hl:Laid P w} {N':Nat} {M':Nat→Prop} {g':Where} {s':AS} {a' a1:Act} {w':World} (h:bF W N w0 M g s a w) (hM:bF (jc g s) N' ⟨w,pn,g,hl⟩ M' g' s' a1 w') {env:Nat→Option AV}
  (hsz:a'.tmps.size=N) (hdf:a'.defers=[]) (jX: ∀ d v,env d=some v→a'.tmps[d]? =some (AV.ah g v)) (hn: ∀ d v,env d=some v→AV.ok M v) (nx:Nat):
  bF (fun _=>False) N ⟨w',0,g,hM.laid⟩ M g ⟨env,fun t=>DL (s.box t),nx⟩ a' w':=by
 have O7: ∀ t c,s.box t=some c→c.rw=false→w'.heap[(g t).1]? =w.heap[(g t).1]? :=fun t c hc hrw=>by
  refine hM.frame.block _ (h.mem.lt t c hc) fun ⟨u,d,hd,Ci,e⟩=> ?_
  by_cases e2:u=t
  ·subst e2;rw[hc]at hd;cases hd;rw[hrw]at Ci;cases Ci
  ·exact h.mem.sep u t d c hd Ci hc e2 e
 refine ⟨hsz,hdf,jX,⟨hn,fun t b hb=> ?_⟩,⟨fun t b hb=> ?_,fun t b hb i v hv=> ?_,fun t b hb hrw i hi=> ?_,fun t t' b b' hb hrw hb' hne=> ?_⟩,fun t b hb hrw=> ?_,Frame.refl _ _,fun n hn=>absurd hn (Nat.not_lt_zero n),fun _ _ _=>id⟩
 ·exact h.names.box t b (rb hb).1
 ·exact Nat.lt_of_lt_of_le (h.mem.lt t b (rb hb).1) hM.frame.size
 ·obtain ⟨h1,h2⟩:=rb hb
  have:=h.mem.cell t b h1 i v hv
  unfold World.cell? at this ⊢
  simp only[O7 t b h1 h2]
  exact this
 ·rw[(rb hb).2]at hrw;cases hrw
 ·rw[(rb hb).2]at hrw;cases hrw
 ·rw[(rb hb).2]at hrw;cases hrw
theorem bF.WQ (h:bF W N w0 M g s a w) (hnm: ¬ M nm) {β d:Nat} {e:TypeId} {zs:List Value} (hz:zs.all Value.oneCell'=true) (jj:zs.all iP=true) (hβ:w0.heap.size≤β) (hlt:β < w.heap.size) (oF:w.heap[β]? =some (.cells zs.toArray e (0,0)))
  (hno: ∀ t b,s.box t=some b→(g t).1≠β) (hd:a.tmps[d]? =some (.pointer (some ⟨β,0,none⟩))):
  bF W N w0 (fun n=>M n∨n=nm) (upd g nm (β,0)) ((s.mem nm (some (.inl (zs.map .inl)))).put (some d) (some (Ptr nm 0))) a w:=by
 have hg: ∀ n,M n→g n=upd g nm (β,0) n:=fun n hn=>(bh _ _ _ _ (fun e=>hnm (by rw[← e];exact hn))).symm
 have hM: ∀ n,M n→M n∨n=nm:=fun n hn=>Or.inl hn
 have jS: ∀ t b,s.box t=some b→t≠nm:=fun t b hb e=>by have:=(h.names.box t b hb).1;rw[e]at this;exact hnm this
 have hold: ∀ t b,s.box t=some b→upd g nm (β,0) t=g t:=fun t b hb=>bh _ _ _ _ (jS t b hb)
 have iR: ∀ t b,upd s.box nm (some (⟨true,zs.map Sum.inl⟩:aI)) t=some b→(t=nm∧b=⟨true,zs.map .inl⟩)∨(t≠nm∧s.box t=some b):=fun t b hb=>by
  by_cases e:t=nm
  ·subst e;rw[aQ]at hb;simp only[Option.some.injEq]at hb;exact .inl ⟨rfl,hb.symm⟩
  ·rw[bh _ _ _ _ e]at hb;exact .inr ⟨e,hb⟩
 refine ⟨h.size,h.defers,fun x v hv=> ?_,⟨fun x v hv=> ?_,fun t b hb=> ?_⟩,⟨fun t b hb=> ?_,fun t b hb i v hv=> ?_,fun t b hb hrw i hi=> ?_,fun t t' b b' hb hrw hb' hne=> ?_⟩,fun t b hb hrw=> ?_,h.frame,fun n hn=>⟨Or.inl (h.pin n hn).1,(hg n (h.pin n hn).1).symm.trans (h.pin n hn).2⟩,h.tabs⟩
 ·by_cases ex:x=d
  ·subst ex
   have:some (Ptr nm 0)=some v:=by rw[← hv];exact (aQ _ _ _).symm
   cases this
   rw[hd];simp[AV.ah,CV.ah,SV.ah,cW,aQ]
  ·have JZ:s.env x=some v:=by rw[← hv];exact (bh _ _ _ _ ex).symm
   rw[h.env x v JZ,AV.bu (AV.aL hg (h.names.env x v JZ))]
 ·by_cases ex:x=d
  ·subst ex
   have:some (Ptr nm 0)=some v:=by rw[← hv];exact (aQ _ _ _).symm
   cases this
   exact Or.inr rfl
  ·have JZ:s.env x=some v:=by rw[← hv];exact (bh _ _ _ _ ex).symm
   exact AV.aL hM (h.names.env x v JZ)
 ·rcases iR t b hb with ⟨rfl,rfl⟩ | ⟨_,hb'⟩
  ·refine ⟨Or.inr rfl,fun x hx=> ?_⟩
   simp only[List.mem_map]at hx
   obtain ⟨u,hu,rfl⟩:=hx
   exact ⟨fH (List.all_eq_true.1 jj u hu),List.all_eq_true.1 hz u hu⟩
  ·exact ⟨Or.inl (h.names.box t b hb').1,fun x hx=>SV.aL hM ((h.names.box t b hb').2 x hx)⟩
 ·rcases iR t b hb with ⟨rfl,rfl⟩ | ⟨e,hb'⟩
  ·rw[aQ];exact hlt
  ·rw[bh _ _ _ _ e];exact h.mem.lt t b hb'
 ·rcases iR t b hb with ⟨rfl,rfl⟩ | ⟨e,hb'⟩
  ·rw[aQ]
   simp only[List.getElem?_map]at hv
   cases hi:zs[i]? with
   | none=>rw[hi]at hv;cases hv
   | some u=>
    rw[hi]at hv
    simp only[Option.map_some,Option.some.injEq]at hv;subst hv
    unfold World.cell?
    simp only[oF,Nat.zero_add,List.getElem?_toArray,hi,SV.ah,ld (List.all_eq_true.1 jj u (List.mem_of_getElem? hi))];rfl
  ·rw[bh _ _ _ _ e,h.mem.cell t b hb' i v hv,SV.bu (SV.br hg ((h.names.box t b hb').2 v (List.mem_of_getElem? hv)).1)]
 ·rcases iR t b hb with ⟨rfl,rfl⟩ | ⟨e,hb'⟩
  ·rw[aQ]
   unfold cC
   simp only[oF]
   rfl
  ·rw[bh _ _ _ _ e];exact h.mem.free t b hb' hrw i hi
 ·rcases iR t b hb with ⟨rfl,rfl⟩ | ⟨e,h1⟩<;>rcases iR t' b' hb' with ⟨rfl,rfl⟩ | ⟨e',h2⟩
  ·exact absurd rfl hne
  ·rw[aQ,bh _ _ _ _ e'];exact fun e3=>hno t' b' h2 e3.symm
  ·rw[aQ,bh _ _ _ _ e];exact hno t b h1
  ·rw[bh _ _ _ _ e,bh _ _ _ _ e'];exact h.mem.sep t t' b b' h1 hrw h2 hne
 ·rcases iR t b hb with ⟨rfl,rfl⟩ | ⟨e,hb'⟩
  ·rw[aQ];exact Or.inl hβ
  ·rw[bh _ _ _ _ e];exact h.own t b hb' hrw
theorem DP {t:TypeId} {zs:List Value} (h:zeroOf P t=some zs) (hp:o.op= .alloc t) (r:Operand→Value) (w:World):
  (execOp r o).run P w= .ok (.value (.pointer (some ⟨w.heap.size,0,none⟩))) (w.alloc (.cells zs.toArray t)):=by
 obtain ⟨dst,op,type,pos,after,guard⟩:=o
 simp only at hp
 subst hp
 unfold zeroOf at h
 split at h
 ·rename_i i hi
  split at h
  ·rename_i v hv
   split at h
   ·simp only[Option.some.injEq]at h;subst h
    simp[execOp,Instr.alloc,zeroValue,typeInfo,hi,hv,newVar,newRow]
   ·cases h
  ·cases h
 ·cases h
theorem zV (w:World) (x:Obj):Kept w (w.alloc x):=⟨rfl,rfl,rfl,by simp,fun k hk _=>by
 show (w.heap.push x)[k]? =_
 rw[Array.getElem?_push,if_neg (by omega)]⟩
end
end Go.cn
