/-
  The calculus: a region by a plan serves every order. Nothing here speaks of a program.
-/
import Derived.Test.YtbipdofobgabhaaGreatDoorVcgWd
namespace Go.bA
set_option linter.unusedSectionVars false
set_option linter.unusedSimpArgs false
set_option linter.unusedVariables false
section
variable {P:Program} [Tables P] {W:Nat→Prop} {N:Nat} {w0:Base P} {M:Nat→Prop} {g:Where} {s:AS} {a:Act} {w:World} {ops:Array Oper} {nm:Nat} {o:Oper}
theorem pure_run {K:AS→Prop} (h:isPure o.op=true):bM P nm o K s=bD (dT P nm s o.op) nm o.dst K s:=by
 obtain ⟨dst,op,type,pos,after,guard⟩:=o
 cases op<;>first | rfl | (simp[isPure]at h)
theorem Ux {nm':Nat} (h:isPure o.op=true):dT P nm s o.op=dT P nm' s o.op:=by
 obtain ⟨dst,op,type,pos,after,guard⟩:=o
 cases op
 case slice t x lo hi mx=>cases mx<;>first | rfl | (simp[isPure]at h)
 all_goals first | rfl | (simp[isPure]at h)
theorem Gs {op:BinOp} {x y:Option AV} {e:cS} (h:bQ op x y=some e): ∃ v,e=(some v,none):=by
 unfold bQ at h
 split at h
 ·split at h
  ·simp only[Option.some.injEq]at h;exact ⟨_,h.symm⟩
  ·cases h
 ·cases h
theorem Oc {e:cS} (h:isPure o.op=true) (he:dT P nm s o.op=some e): ∃ v,e=(some v,none):=by
 obtain ⟨dst,op,type,pos,after,guard⟩:=o
 cases op<;>simp only[isPure,Bool.false_eq_true]at h<;>simp only[dT]at he
 case move x=>
  split at he
  ·simp only[Option.some.injEq]at he;exact ⟨_,he.symm⟩
  ·cases he
 case load t x=>
  unfold dH at he
  (repeat' split at he)<;>first | (simp only[Option.some.injEq]at he;exact ⟨_,he.symm⟩) | cases he
 case fieldAddr t x f=>
  unfold dI at he
  (repeat' split at he)<;>first | (simp only[Option.some.injEq]at he;exact ⟨_,he.symm⟩) | cases he
 case nilCheck x=>
  unfold qR at he
  (repeat' split at he)<;>first | (simp only[Option.some.injEq]at he;exact ⟨_,he.symm⟩) | cases he
 case field t x f=>
  unfold mG at he
  (repeat' split at he)<;>first | (simp only[Option.some.injEq]at he;exact ⟨_,he.symm⟩) | cases he
 case index t x i=>
  unfold ig at he
  (repeat' split at he)<;>first | (simp only[Option.some.injEq]at he;exact ⟨_,he.symm⟩) | cases he
 case indexAddr t x i=>
  unfold cn at he
  (repeat' split at he)<;>first | (simp only[Option.some.injEq]at he;exact ⟨_,he.symm⟩) | cases he
 case build t parts=>
  unfold fF at he
  (repeat' split at he)<;>first | (simp only[Option.some.injEq]at he;exact ⟨_,he.symm⟩) | cases he
 case extract x i=>
  unfold fu at he
  (repeat' split at he)<;>first | (simp only[Option.some.injEq]at he;exact ⟨_,he.symm⟩) | cases he
 case binOp op t x y p=>
  unfold sY at he
  split at he
  ·unfold kc at he
   (repeat' split at he)<;>first | (simp only[Option.some.injEq]at he;exact ⟨_,he.symm⟩) | cases he
  unfold mF at he
  split at he
  ·unfold Y8 at he
   split at he
   ·unfold Pr at he
    (repeat' split at he)<;>first | (simp only[Option.some.injEq]at he;exact ⟨_,he.symm⟩) | cases he
   ·unfold eqF at he
    split at he
    ·unfold PQ at he
     (repeat' split at he)<;>first | (simp only[Option.some.injEq]at he;exact ⟨_,he.symm⟩) | cases he
    ·cases he
  ·unfold Y9 at he
   (repeat' split at he)<;>first | (simp only[Option.some.injEq]at he;exact ⟨_,he.symm⟩) | cases he
  ·exact Gs he
 case unOp op t x=>
  unfold oO at he
  (repeat' split at he)<;>first | (simp only[Option.some.injEq]at he;exact ⟨_,he.symm⟩) | cases he
 case convert t u x=>
  unfold gI Af gH at he
  (repeat' split at he)<;>first | (simp only[Option.some.injEq]at he;exact ⟨_,he.symm⟩) | cases he
 case slice t x lo hi mx=>
  cases mx with
  | some m=>cases h
  | none=>
   simp only at he
   unfold fG Ps Za at he
   (repeat' split at he)<;>first | (simp only[Option.some.injEq]at he;exact ⟨_,he.symm⟩) | cases he
theorem SV.BG {M1 M2:Nat→Prop} {x:SV} (h1:SV.names M1 x) (h2:SV.names M2 x):SV.names (fun n=>M1 n∧M2 n) x:=by
 rcases x with v | ⟨t,o⟩ | ⟨t,o,n,c⟩
 ·exact P2 h1 h2
 ·exact ⟨h1,h2⟩
 ·exact ⟨h1,h2⟩
theorem AV.XU {M1 M2:Nat→Prop} {v:AV} (h1:AV.ok M1 v) (h2:AV.ok M2 v):AV.ok (fun n=>M1 n∧M2 n) v:=by
 have hc: ∀ c:CV,CV.ok M1 c→CV.ok M2 c→CV.ok (fun n=>M1 n∧M2 n) c:=fun c k1 k2=>by
  rcases c with x | l
  ·exact SV.BG k1 k2
  ·exact fun y hy=>⟨SV.BG (k1 y hy).1 (k2 y hy).1,(k1 y hy).2⟩
 rcases v with c | l
 ·exact hc c h1 h2
 ·exact fun y hy=>hc y (h1 y hy) (h2 y hy)
theorem Uy {v:AV} (h:bP W N w0 M g s a w) (h1: ¬ M nm) (h2: ¬ M (nm+1)) (hp:isPure o.op=true) (he:dT P nm s o.op=some (some v,none)):AV.ok M v:=by
 obtain ⟨g1,w1,r1,k1⟩:=gT (o:=o) h h1 he
 obtain ⟨g2,w2,r2,k2⟩:=gT (o:=o) (nm:=nm+1) h h2 ((Ux hp).symm.trans he)
 refine AV.aY (fun n hn=> ?_) (AV.XU k1.val.2 k2.val.2)
 rcases hn with ⟨h3 | h3,h4 | h4⟩
 ·exact h3
 ·exact h3
 ·exact h4
 ·omega
theorem Jn {l m:List Nat} (h:iG l m=true) {x:Nat} (hx:x ∈ l):x ∉ m:=fun hm=>by
 have:=List.all_eq_true.1 h x hx
 simp only[Bool.not_eq_true',List.contains_eq_mem,decide_eq_false_iff_not]at this
 exact this hm
theorem lp {i:Nat} (ho:ops[i]? =some o):fe ops i=o.dst.toList:=by unfold fe;rw[ho]
theorem fg {i d:Nat} (ho:ops[i]? =some o) (hd:o.dst=some d): ∀ {l:List Nat},i ∈ l→d ∈ dstsOf ops l
 | j::r,h=>by
  unfold dstsOf
  rcases List.mem_cons.1 h with rfl | h
  ·exact List.mem_append_left _ (by rw[lp ho,hd];simp)
  ·exact List.mem_append_right _ (fg ho hd h)
theorem lq {d:Nat}: ∀ {l:List Nat},d ∈ dstsOf ops l→ ∃ i ∈ l, ∃ o,ops[i]? =some o∧o.dst=some d
 | [],h=>by simp[dstsOf]at h
 | j::r,h=>by
  unfold dstsOf at h
  rcases List.mem_append.1 h with h | h
  ·unfold fe at h
   split at h
   ·rename_i o ho
    exact ⟨j,by simp,o,ho,by simpa using h⟩
   ·simp at h
  ·obtain ⟨i,hi,o,ho,hd⟩:=lq h
   exact ⟨i,by simp[hi],o,ho,hd⟩
theorem df {l m:List Nat}:dstsOf ops (l++m)=dstsOf ops l++dstsOf ops m:=by
 induction l with
 | nil=>rfl
 | cons i r ih=>simp only[List.cons_append,dstsOf,ih,List.append_assoc]
theorem Q6 {s s':AS} (h: ∀ d ∈ o.looksAt ops,s.env d=s'.env d): ∀ x ∈ o.op.operands,s.aL x=s'.aL x:=fun x hx=>
 nq fun t ht=>h t (kh hx ht)
theorem Mi {s s':AS} (hn:Names M s) (h: ∀ d ∈ o.looksAt ops,s.env d=s'.env d) (hb:s.box=s'.box):dT P nm s o.op=dT P nm s' o.op:=
 vz (M:=M) (Q6 h) (fun x _ v hv=>hn.aL hv) (fun _ t _=>by rw[hb])
theorem pU {K:AS→Prop} (h1: ¬ M nm) (h2: ¬ M (nm+1)) (hok:ops.toList.all (nj N)=true): ∀ {A:List Nat} {s:AS} {a:Act},(∀ i ∈ A, ∃ o,ops[i]? =some o∧isPure o.op=true∧ ∃ d,o.dst=some d)→QZ ops A=true→
  bP W N w0 M g s a w→hY P ops nm K A s→ ∃ sr ar,K sr∧sr.box=s.box∧sr.next=s.next∧bP W N w0 M g sr ar w∧(∀ d,d ∉ dstsOf ops A→sr.env d=s.env d∧ar.tmps[d]? =a.tmps[d]?)∧
   ∀ i ∈ A, ∃ o d v,ops[i]? =some o∧o.dst=some d∧sr.env d=some v∧dT P nm sr o.op=some (some v,none)∧AV.ok M v
 | [],s,a,_,_,h,hv=>⟨s,a,hv,rfl,rfl,h,fun _ _=>⟨rfl,rfl⟩,fun i hi=>nomatch hi⟩
 | i::r,s,a,hA,hrow,h,hv=>by
  obtain ⟨o,ho,hp,d,hd⟩:=hA i (by simp)
  simp only[QZ,Bool.and_eq_true]at hrow
  obtain ⟨⟨hr1,Wk⟩,XV⟩:=hrow
  unfold hY at hv
  rw[ho]at hv
  simp only at hv
  rw[pure_run hp]at hv
  unfold bD at hv
  split at hv
  ·rename_i e he
   obtain ⟨v,rfl⟩:=Oc hp he
   have Q7:=Uy h h1 h2 hp he
   rw[hd]at hv
   have Uz:d < N:=by
    have:=List.all_eq_true.1 hok o (by simpa using Array.mem_of_getElem? ho)
    unfold nj at this;rw[hd]at this;simpa using this
   obtain ⟨sr,ar,k1,k2,k3,k4,k5,k6⟩:=pU h1 h2 hok (fun j hj=>hA j (by simp[hj])) XV (h.put (d:=some d) (fun x hx=>by cases hx;exact Uz) Q7) hv
   have hdr:d ∉ dstsOf ops r:=Jn Wk (by rw[lp ho,hd];simp)
   have Wm: ∀ x ∈ o.looksAt ops,s.env x=sr.env x:=fun x hx=>by
    have hx1:x ∉ dstsOf ops (i::r):=Jn hr1 (by unfold Mf;rw[ho];exact hx)
    have hxd:x≠d:=fun e=>hx1 (e▸fg ho hd (by simp))
    have hxr:x ∉ dstsOf ops r:=fun hm=>hx1 (by unfold dstsOf;exact List.mem_append_right _ hm)
    rw[(k5 x hxr).1]
    exact (bI _ _ _ _ hxd).symm
   refine ⟨sr,ar,k1,k2,k3,k4,fun x hx=> ?_,fun j hj=> ?_⟩
   ·have hxd:x≠d:=fun e=>hx (e▸fg ho hd (by simp))
    have hxr:x ∉ dstsOf ops r:=fun hm=>hx (by unfold dstsOf;exact List.mem_append_right _ hm)
    rw[(k5 x hxr).1,(k5 x hxr).2]
    exact ⟨bI _ _ _ _ hxd,by simp only[Act.put];rw[Array.getElem?_setIfInBounds_ne (fun e=>hxd e.symm)]⟩
   ·rcases List.mem_cons.1 hj with rfl | hj
    ·refine ⟨o,d,v,ho,hd, ?_, ?_,Q7⟩
     ·rw[(k5 d hdr).1];exact aJ _ _ _
     ·rw[← he]
      exact (Mi h.names Wm k2.symm).symm
    ·exact k6 j hj
  ·exact hv.elim
theorem yG {dm:List Nat} {box:Nat→Option aI} {t:Nat} {b:aI} (h:mC dm box t=some b): ∃ b0,box t=some b0∧b.cells=b0.cells∧(b.rw=true→b0.rw=true):=by
 unfold mC at h
 split at h
 ·split at h
  ·rename_i b0 hb
   simp only[Option.some.injEq]at h;subst h
   exact ⟨b0,hb,rfl,fun h=>by cases h⟩
  ·cases h
 ·exact ⟨b,h,rfl,id⟩
theorem bP.Jo (h:bP W N w0 M g s a w) (dm:List Nat):bP W N w0 M g { s with box:=mC dm s.box } a w:=by
 refine ⟨h.size,h.defers,h.env,⟨h.names.env,fun t b hb=> ?_⟩,⟨fun t b hb=> ?_,fun t b hb i v hv=> ?_,fun t b hb hrw i hi=> ?_,fun t t' b b' hb hrw hb' hne=> ?_⟩,fun t b hb hrw=> ?_,h.frame,h.pin,h.tabs⟩
 ·obtain ⟨b0,h1,h2,_⟩:=yG hb
  rw[h2];exact h.names.box t b0 h1
 ·obtain ⟨b0,h1,_,_⟩:=yG hb
  exact h.mem.lt t b0 h1
 ·obtain ⟨b0,h1,h2,_⟩:=yG hb
  rw[h2]at hv;exact h.mem.cell t b0 h1 i v hv
 ·obtain ⟨b0,h1,h2,h3⟩:=yG hb
  rw[h2]at hi;exact h.mem.free t b0 h1 (h3 hrw) i hi
 ·obtain ⟨b0,h1,_,h3⟩:=yG hb
  obtain ⟨b1,k1,_,_⟩:=yG hb'
  exact h.mem.sep t t' b0 b1 h1 (h3 hrw) k1 hne
 ·obtain ⟨b0,h1,_,h3⟩:=yG hb
  exact h.own t b0 h1 (h3 hrw)
theorem pV {b:Option aI} {c:aI} (h:Jm b=some c):b=some c∧c.rw=false:=by
 unfold Jm at h
 split at h
 ·simp only[Option.some.injEq]at h;subst h;exact ⟨rfl,rfl⟩
 ·cases h
theorem C9 {pn:Nat} {hl:Laid P w} {N':Nat} {M':Nat→Prop} {g':Where} {s':AS} {a' a1:Act} {w':World} (h:bP W N w0 M g s a w) (hM:bP (oB g s) N' ⟨w,pn,g,hl⟩ M' g' s' a1 w') {env:Nat→Option AV}
  (hsz:a'.tmps.size=N) (hdf:a'.defers=[]) (kJ: ∀ d v,env d=some v→a'.tmps[d]? =some (AV.aq g v)) (hn: ∀ d v,env d=some v→AV.ok M v) (nx:Nat):
  bP (fun _=>False) N ⟨w',0,g,hM.laid⟩ M g ⟨env,fun t=>Jm (s.box t),nx⟩ a' w':=by
 have NJ: ∀ t c,s.box t=some c→c.rw=false→w'.heap[(g t).1]? =w.heap[(g t).1]? :=fun t c hc hrw=>by
  refine hM.frame.block _ (h.mem.lt t c hc) fun ⟨u,d,hd,zO,e⟩=> ?_
  by_cases e2:u=t
  ·subst e2;rw[hc]at hd;cases hd;rw[hrw]at zO;cases zO
  ·exact h.mem.sep u t d c hd zO hc e2 e
 refine ⟨hsz,hdf,kJ,⟨hn,fun t b hb=> ?_⟩,⟨fun t b hb=> ?_,fun t b hb i v hv=> ?_,fun t b hb hrw i hi=> ?_,fun t t' b b' hb hrw hb' hne=> ?_⟩,fun t b hb hrw=> ?_,Frame.refl _ _,fun n hn=>absurd hn (Nat.not_lt_zero n),fun _ _ _=>id⟩
 ·exact h.names.box t b (pV hb).1
 ·exact Nat.lt_of_lt_of_le (h.mem.lt t b (pV hb).1) hM.frame.size
 ·obtain ⟨h1,h2⟩:=pV hb
  have:=h.mem.cell t b h1 i v hv
  unfold World.cell? at this ⊢
  simp only[NJ t b h1 h2]
  exact this
 ·rw[(pV hb).2]at hrw;cases hrw
 ·rw[(pV hb).2]at hrw;cases hrw
 ·rw[(pV hb).2]at hrw;cases hrw
theorem bP.Z9 (h:bP W N w0 M g s a w) (hnm: ¬ M nm) {β d:Nat} {e:TypeId} {zs:List Value} (hz:zs.all Value.oneCell'=true) (jD:zs.all gS=true) (hβ:w0.heap.size≤β) (hlt:β < w.heap.size) (oI:w.heap[β]? =some (.cells zs.toArray e (0,0)))
  (hno: ∀ t b,s.box t=some b→(g t).1≠β) (hd:a.tmps[d]? =some (.pointer (some ⟨β,0,none⟩))):
  bP W N w0 (fun n=>M n∨n=nm) (upd g nm (β,0)) ((s.mem nm (some (.inl (zs.map .inl)))).put (some d) (some (Ptr nm 0))) a w:=by
 have hg: ∀ n,M n→g n=upd g nm (β,0) n:=fun n hn=>(bI _ _ _ _ (fun e=>hnm (by rw[← e];exact hn))).symm
 have hM: ∀ n,M n→M n∨n=nm:=fun n hn=>Or.inl hn
 have jw: ∀ t b,s.box t=some b→t≠nm:=fun t b hb e=>by have:=(h.names.box t b hb).1;rw[e]at this;exact hnm this
 have hold: ∀ t b,s.box t=some b→upd g nm (β,0) t=g t:=fun t b hb=>bI _ _ _ _ (jw t b hb)
 have ke: ∀ t b,upd s.box nm (some (⟨true,zs.map Sum.inl⟩:aI)) t=some b→(t=nm∧b=⟨true,zs.map .inl⟩)∨(t≠nm∧s.box t=some b):=fun t b hb=>by
  by_cases e:t=nm
  ·subst e;rw[aJ]at hb;simp only[Option.some.injEq]at hb;exact .inl ⟨rfl,hb.symm⟩
  ·rw[bI _ _ _ _ e]at hb;exact .inr ⟨e,hb⟩
 refine ⟨h.size,h.defers,fun x v hv=> ?_,⟨fun x v hv=> ?_,fun t b hb=> ?_⟩,⟨fun t b hb=> ?_,fun t b hb i v hv=> ?_,fun t b hb hrw i hi=> ?_,fun t t' b b' hb hrw hb' hne=> ?_⟩,fun t b hb hrw=> ?_,h.frame,fun n hn=>⟨Or.inl (h.pin n hn).1,(hg n (h.pin n hn).1).symm.trans (h.pin n hn).2⟩,h.tabs⟩
 ·by_cases ex:x=d
  ·subst ex
   have:some (Ptr nm 0)=some v:=by rw[← hv];exact (aJ _ _ _).symm
   cases this
   rw[hd];simp[AV.aq,CV.aq,SV.aq,bX,aJ]
  ·have NP:s.env x=some v:=by rw[← hv];exact (bI _ _ _ _ ex).symm
   rw[h.env x v NP,AV.bu (AV.aY hg (h.names.env x v NP))]
 ·by_cases ex:x=d
  ·subst ex
   have:some (Ptr nm 0)=some v:=by rw[← hv];exact (aJ _ _ _).symm
   cases this
   exact Or.inr rfl
  ·have NP:s.env x=some v:=by rw[← hv];exact (bI _ _ _ _ ex).symm
   exact AV.aY hM (h.names.env x v NP)
 ·rcases ke t b hb with ⟨rfl,rfl⟩ | ⟨_,hb'⟩
  ·refine ⟨Or.inr rfl,fun x hx=> ?_⟩
   simp only[List.mem_map]at hx
   obtain ⟨u,hu,rfl⟩:=hx
   exact ⟨ea (List.all_eq_true.1 jD u hu),List.all_eq_true.1 hz u hu⟩
  ·exact ⟨Or.inl (h.names.box t b hb').1,fun x hx=>SV.aY hM ((h.names.box t b hb').2 x hx)⟩
 ·rcases ke t b hb with ⟨rfl,rfl⟩ | ⟨e,hb'⟩
  ·rw[aJ];exact hlt
  ·rw[bI _ _ _ _ e];exact h.mem.lt t b hb'
 ·rcases ke t b hb with ⟨rfl,rfl⟩ | ⟨e,hb'⟩
  ·rw[aJ]
   simp only[List.getElem?_map]at hv
   cases hi:zs[i]? with
   | none=>rw[hi]at hv;cases hv
   | some u=>
    rw[hi]at hv
    simp only[Option.map_some,Option.some.injEq]at hv;subst hv
    unfold World.cell?
    simp only[oI,Nat.zero_add,List.getElem?_toArray,hi,SV.aq,ka (List.all_eq_true.1 jD u (List.mem_of_getElem? hi))];rfl
  ·rw[bI _ _ _ _ e,h.mem.cell t b hb' i v hv,SV.bu (SV.bK hg ((h.names.box t b hb').2 v (List.mem_of_getElem? hv)).1)]
 ·rcases ke t b hb with ⟨rfl,rfl⟩ | ⟨e,hb'⟩
  ·rw[aJ]
   unfold bU
   simp only[oI]
   rfl
  ·rw[bI _ _ _ _ e];exact h.mem.free t b hb' hrw i hi
 ·rcases ke t b hb with ⟨rfl,rfl⟩ | ⟨e,h1⟩<;>rcases ke t' b' hb' with ⟨rfl,rfl⟩ | ⟨e',h2⟩
  ·exact absurd rfl hne
  ·rw[aJ,bI _ _ _ _ e'];exact fun e3=>hno t' b' h2 e3.symm
  ·rw[aJ,bI _ _ _ _ e];exact hno t b h1
  ·rw[bI _ _ _ _ e,bI _ _ _ _ e'];exact h.mem.sep t t' b b' h1 hrw h2 hne
 ·rcases ke t b hb with ⟨rfl,rfl⟩ | ⟨e,hb'⟩
  ·rw[aJ];exact Or.inl hβ
  ·rw[bI _ _ _ _ e];exact h.own t b hb' hrw
theorem Od {t:TypeId} {zs:List Value} (h:zeroOf P t=some zs) (hp:o.op= .alloc t) (r:Operand→Value) (w:World):
  (execOp r o).run P w= .ok (.value (.pointer (some ⟨w.heap.size,0,none⟩))) (w.alloc (.cells zs.toArray t)):=by
 obtain ⟨dst,op,type,pos,after,guard⟩:=o
 simp only at hp
 subst hp
 unfold zeroOf at h
 split at h
 ·rename_i i hi
  split at h
  ·rename_i v hv
   split at h
   ·simp only[Option.some.injEq]at h;subst h
    simp[execOp,Instr.alloc,zeroValue,typeInfo,hi,hv,newVar,newRow]
   ·cases h
  ·cases h
 ·cases h
theorem Jp (w:World) (x:Obj):Kept w (w.alloc x):=⟨rfl,rfl,rfl,by simp,fun k hk _=>by
 show (w.heap.push x)[k]? =_
 rw[Array.getElem?_push,if_neg (by omega)]⟩
end
end Go.bA
