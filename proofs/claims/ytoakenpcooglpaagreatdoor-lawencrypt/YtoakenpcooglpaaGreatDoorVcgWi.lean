/-
  The calculus: the walk over a code with regions by a plan, in parts. Nothing here speaks of a program.
-/
import Derived.Test.YtoakenpcooglpaaGreatDoorVcgWh
set_option linter.unusedVariables false
set_option linter.unusedSimpArgs false
namespace Go.cA
set_option linter.unusedSectionVars false
section
variable {P:Program} [Tables P] {W:Nat→Prop} {N:Nat} {w0:gF P} {g:bG} {s:AS} {a:Act} {w:World}
def ZR (P:Program) [Tables P] (ops:Array Oper) (K:AS→Prop) (s:AS):Prop:=
 P.follows .mixedOrders=true∧ ∃ A R Z F dm,qV ops A R Z F=true∧(R++Z).all (qW P ops)=true∧ZI P ops A R Z F dm K s
def ajs (P:Program) [Tables P] (ops:Array Oper) (K:AS→Prop) (s:AS):Prop:=
 ops.toList.all (fun o=>o.guard.isNone)=true∧fL P ops s.next K (List.range' 0 ops.size) 0 s
def pr (P:Program) [Tables P] (wd:List Nat):Code→(Exit→AS→Prop)→AS→Prop
 | .region id ops true,F,s=>if wd.contains id=true then ZR P ops (F .normal) s else oR P (.region id ops true) F s
 | .region id ops false,F,s=>if wd.contains id=true then ajs P ops (F .normal) s else vc P (.region id ops false) F s
 | .seq a b,F,s=>pr P wd a (fi (pr P wd b F) F) s
 | .cond c a b,F,s=>mP (s.aQ c) (pr P wd a F) (pr P wd b F) s
 | .block id c,F,s=>pr P wd c (iY id F) s
 | .loop c,F,s=>jJ (pr P wd c) F s
 | c,F,s=>oR P c F s
theorem FD {ops:Array Oper} {base:Nat} {K:AS→Prop} {Q:Exit→Act→World→Prop} (hok:ops.toList.all (nj N)=true) (hg:ops.toList.all (fun o=>o.guard.isNone)=true)
  (hK: ∀ g' s' a' w',cE W N w0 (fun n=>n < s'.next) g' s' a' w'→K s'→Q .normal a' w'): ∀ (n i k:Nat) (g:bG) (s:AS) (a:Act) (w:World),i+n=ops.size→cE W N w0 (fun n=>n < base+4*(k+1)) g s a w→
   fL P ops base K (List.range' i n) k s→wpList P ops Q (ops.toList.drop i) a w
 | 0,i,k,g,s,a,w,hi,h,hv=>by
  rw[List.drop_eq_nil_of_le (by simp;omega)]
  exact hK _ _ _ _ (h.next _) hv
 | n+1,i,k,g,s,a,w,hi,h,hv=>by
  have hlt:i < ops.size:=by omega
  have hd:ops.toList.drop i=ops[i]::ops.toList.drop (i+1):=by rw[List.drop_eq_getElem_cons (by simpa using hlt)];simp
  rw[hd]
  simp only[List.range'_succ,fL,Array.getElem?_eq_getElem hlt]at hv
  have hmem:ops[i] ∈ ops.toList:=by simp
  have hgn:(ops[i]).guard=none:=by simpa using List.all_eq_true.1 hg _ hmem
  unfold wpList
  rw[if_pos (by simp[Region.wanted,hgn])]
  refine .inl (Bj h (fun d hd=> ?_) hv fun g' s' a' w' hr hk=>FD hok hg hK n (i+1) (k+1) g' s' a' w' (by omega) (hr.mono fun n hn=>by omega) hk)
  have:=List.all_eq_true.1 hok _ hmem
  unfold nj at this;rw[hd]at this;simpa using this
theorem ij {wd:List Nat}: ∀ (c:Code) (F:Exit→AS→Prop) (s:AS),codeOk N c=true→pr P wd c F s→Sound P W N w0 c F s
 | .seq x y,F,s,hok,hv,g,a,w,Q,h,hQ=>by
  simp only[codeOk,Bool.and_eq_true]at hok
  simp only[pr]at hv
  refine wp_seq (ij x _ s hok.1 hv g a w _ h fun e g' s' a' w' h' hk=> ?_)
  cases e with
  | normal=>exact ij y F s' hok.2 hk g' a' w' Q h' hQ
  | _=>exact hQ _ _ _ _ _ h' hk
 | .cond c x y,F,s,hok,hv,g,a,w,Q,h,hQ=>by
  simp only[codeOk,Bool.and_eq_true]at hok
  simp only[pr,mP]at hv
  split at hv
  ·rename_i b hb
   refine wp_cond_split (t:=b) (by rw[h.eval hb];rfl) (fun ht=> ?_) (fun hf=> ?_)
   ·exact ij x F s hok.1 (hv.1 ht) g a w Q h hQ
   ·exact ij y F s hok.2 (hv.2 hf) g a w Q h hQ
  ·exact hv.elim
 | .block id c,F,s,hok,hv,g,a,w,Q,h,hQ=>by
  simp only[codeOk]at hok
  simp only[pr]at hv
  refine wp_block (ij c _ s hok hv g a w _ h fun e g' s' a' w' h' hk=> ?_)
  cases e with
  | exit id'=>
   simp only[iY]at hk
   simp only[Exit.inBlock]
   split
   ·rename_i e;rw[if_pos e]at hk;exact hQ _ _ _ _ _ h' hk
   ·rename_i e;rw[if_neg e]at hk;exact hQ _ _ _ _ _ h' hk
  | _=>exact hQ _ _ _ _ _ h' hk
 | .loop c,F,s,hok,hv,g,a,w,Q,h,hQ=>by
  simp only[codeOk]at hok
  simp only[pr]at hv
  obtain ⟨ι,st,μ,i₀,⟨r,hr,hid⟩,hnx,hbody⟩:=hv
  have WU: ∀ (r:Nat→Nat),(∀ n,n < s.next→r n=n)→ ∀ i n,n < w0.pn→r n=n∧n < (st i).next:=fun r hid i n hn=>⟨hid n (h.kJ n hn).1,Nat.lt_of_lt_of_le (h.kJ n hn).1 (hnx i)⟩
  let p:Act→World→Nat→Prop:=fun a w n=> ∃ i g,μ i=n∧cE W N w0 (fun n=>n < (st i).next) g (st i) a w
  have hmin: ∀ a w,(∃ n,p a w n)→ ∃ n,p a w n∧ ∀ k,p a w k→n≤k:=fun a w hx=>rF _ hx
  have hm: ∃ m:Act→World→Nat, ∀ a w,(∃ n,p a w n)→p a w (m a w)∧ ∀ k,p a w k→m a w≤k:=by
   refine ⟨fun a w=>Classical.epsilon (fun n=>p a w n∧ ∀ k,p a w k→n≤k),fun a w hx=> ?_⟩
   exact Classical.epsilon_spec (hmin a w hx)
  obtain ⟨m,hm⟩:=hm
  refine wp_loop (fun a w=> ∃ n,p a w n) m ⟨_,i₀,_,rfl,h.dv hr (WU r hid i₀)⟩ (fun a1 w1 hI=> ?_)
  obtain ⟨⟨i,g1,hmu,h1⟩,afJ⟩:=hm a1 w1 hI
  refine ij c _ (st i) hok (hbody i) g1 a1 w1 _ h1 fun e g' s' a' w' h' hk=> ?_
  cases e with
  | normal=>
   obtain ⟨j,hlt,r',hr',afK⟩:=hk
   have hp:p a' w' (μ j):=⟨j,_,rfl,h'.dv hr' (WU r' afK j)⟩
   refine ⟨⟨_,hp⟩, ?_⟩
   have:=(hm a' w' ⟨_,hp⟩).2 _ hp
   omega
  | _=>exact hQ _ _ _ _ _ h' hk
 | .region id ops true,F,s,hok,hv,g,a,w,Q,h,hQ=>by
  simp only[pr]at hv
  split at hv
  ·obtain ⟨hm,A,R,Z,F',dm,h1,h2,hv⟩:=hv
   exact wp_region_any hm (OJ (K:=F .normal) hok h1 h2 (fun g' s' a' w' h' hk=>hQ _ _ _ _ _ h' hk) h.drew hv)
  ·exact dF _ F s hok hv g a w Q h hQ
 | .region id ops false,F,s,hok,hv,g,a,w,Q,h,hQ=>by
  simp only[pr]at hv
  split at hv
  ·obtain ⟨h1,hv⟩:=hv
   refine wp_region_list ?_
   have:=FD (base:=s.next) (K:=F .normal) (Q:=Q) hok h1 (fun g' s' a' w' h' hk=>hQ _ _ _ _ _ h' hk) ops.size 0 0 g s a w (by omega) (h.mono fun n hn=>by omega) hv
   simpa using this
  ·exact dI _ F s hok hv g a w Q h hQ
 | .skip,F,s,hok,hv,g,a,w,Q,h,hQ=>dF _ F s hok hv g a w Q h hQ
 | .exit id,F,s,hok,hv,g,a,w,Q,h,hQ=>dF _ F s hok hv g a w Q h hQ
 | .ret,F,s,hok,hv,g,a,w,Q,h,hQ=>dF _ F s hok hv g a w Q h hQ
 | .rangeFunc .., F,s,hok,hv,g,a,w,Q,h,hQ=>dF _ F s hok hv g a w Q h hQ
 | .scope _,F,s,hok,hv,g,a,w,Q,h,hQ=>dF _ F s hok hv g a w Q h hQ
 | .label _,F,s,hok,hv,g,a,w,Q,h,hQ=>dF _ F s hok hv g a w Q h hQ
 | .goto _,F,s,hok,hv,g,a,w,Q,h,hQ=>dF _ F s hok hv g a w Q h hQ
 | .refuse _,F,s,hok,hv,g,a,w,Q,h,hQ=>dF _ F s hok hv g a w Q h hQ
def Bp (P:Program) [Tables P] (wd:List Nat) (m:Nat) (oO:AS→Prop):Nat→Code→(Exit→AS→Prop)→AS→Prop
 | 0,_,_,s=> ∃ s2,wv m s s2∧m≤s2.next∧oO s2
 | n+1, .seq a b,F,s=>pr P wd a (fi (Bp P wd m oO n b F) F) s
 | _+1,_,_,_=>False
def VP (P:Program) [Tables P] (wd:List Nat) (m:Nat):List Nat→Code→(Exit→AS→Prop)→AS→Prop
 | [],c,F,s=>pr P wd c F s
 | n::r,c,F,s=> ∃ oO:AS→Prop,Bp P wd m oO n c F s∧ ∀ s2,oO s2→VP P wd m r (kR n c) F s2
theorem sb {wd:List Nat} {m:Nat} (hm:w0.pn≤m) {oO:AS→Prop}: ∀ (n:Nat) (c:Code) (F:Exit→AS→Prop) (s:AS),codeOk N c=true→Bp P wd m oO n c F s→(∀ s2,oO s2→Sound P W N w0 (kR n c) F s2)→Sound P W N w0 c F s
 | 0,c,F,s,hok,hv,ht,g,a,w,Q,h,hQ=>by
  obtain ⟨s2,⟨r,hr,Zp⟩,hn,hmid⟩:=hv
  exact ht s2 hmid _ a w Q (h.dv hr fun n hn'=>⟨Zp n (by omega),by omega⟩) hQ
 | n+1, .seq x y,F,s,hok,hv,ht,g,a,w,Q,h,hQ=>by
  simp only[codeOk,Bool.and_eq_true]at hok
  refine wp_seq (ij x _ s hok.1 hv g a w _ h fun e g' s' a' w' h' hk=> ?_)
  cases e with
  | normal=>exact sb hm n y F s' hok.2 hk ht g' a' w' Q h' hQ
  | _=>exact hQ _ _ _ _ _ h' hk
theorem qX {wd:List Nat} {m:Nat} (hm:w0.pn≤m): ∀ (oS:List Nat) (c:Code) (F:Exit→AS→Prop) (s:AS),codeOk N c=true→VP P wd m oS c F s→Sound P W N w0 c F s
 | [],c,F,s,hok,hv=>ij c F s hok hv
 | n::r,c,F,s,hok,hv=>by
  obtain ⟨oO,h1,h2⟩:=hv
  exact sb hm n c F s hok h1 fun s2 hs=>qX hm r _ F s2 (AI n c hok) (h2 s2 hs)
theorem jr {f:Nat} {fn:Func} {c:Code} (hf:P.funcs[f]? =some fn) (hb:fn.body=some c) (hok:codeOk fn.ntmps c=true) (wd oS:List Nat) {args:List AV} {k m:Nat} {ins:Nat→Option aW}
  (hlen:args.length≤fn.ntmps) (hc:ai P f=true) (hm4:m≤4) (hargs: ∀ v ∈ args,AV.ok (fun n=>n < k) v) (hall: ∀ n,n < k→ ∃ b,ins n=some b) (j6: ∀ n b,ins n=some b→n < k∧ ∀ x ∈ b.cells,SV.ok (fun n=>n < k) x)
  {Post:AV→(Nat→Option aW)→Prop} (hv:VP P wd k oS c (kY P fn.results.toList (Cz k m Post)) (start args ins k)):mL P f args k m ins Post:=
 Bo hf hb hlen hc hm4 hargs hall j6 fun W w0 hp=>qX hp oS c _ _ hok hv
theorem j9 {f:Nat} {fn:Func} {c:Code} (hf:P.funcs[f]? =some fn) (hb:fn.body=some c) (hok:codeOk fn.ntmps c=true) (wd oS:List Nat) {args:List AV} {k:Nat} {ins:Nat→Option aW}
  (hlen:args.length≤fn.ntmps) (hc:ai P f=true) (hargs: ∀ v ∈ args,AV.ok (fun n=>n < k) v) (hall: ∀ n,n < k→ ∃ b,ins n=some b) (j6: ∀ n b,ins n=some b→n < k∧ ∀ x ∈ b.cells,SV.ok (fun n=>n < k) x)
  {Post:AV→(Nat→Option aW)→Prop} (hv:VP P wd k oS c (kY P fn.results.toList (Ct k Post)) (start args ins k)):bt P f args k ins Post:=
 Cx hf hb hlen hc hargs hall j6 fun W w0 hp=>qX hp oS c _ _ hok hv
variable {wd:List Nat} {F:Exit→AS→Prop}
theorem Uj {a b:Code}:pr P wd (.seq a b) F s=pr P wd a (fi (pr P wd b F) F) s:=rfl
theorem L1 {c:Operand} {a b:Code}:pr P wd (.cond c a b) F s=mP (s.aQ c) (pr P wd a F) (pr P wd b F) s:=rfl
theorem FE {id:Nat} {c:Code}:pr P wd (.block id c) F s=pr P wd c (iY id F) s:=rfl
theorem L2 {c:Code}:pr P wd (.loop c) F s=jJ (pr P wd c) F s:=rfl
theorem aeU {id:Nat} {ops:Array Oper}:pr P wd (.region id ops true) F s=if wd.contains id=true then ZR P ops (F .normal) s else oR P (.region id ops true) F s:=rfl
theorem aeV {id:Nat} {ops:Array Oper}:pr P wd (.region id ops false) F s=if wd.contains id=true then ajs P ops (F .normal) s else vc P (.region id ops false) F s:=rfl
theorem L3:pr P wd .skip F s=vc P .skip F s:=rfl
theorem Uk:pr P wd .ret F s=vc P .ret F s:=rfl
theorem L4 {id:Nat}:pr P wd (.exit id) F s=vc P (.exit id) F s:=rfl
theorem v7 {m:Nat} {oO:AS→Prop} {n:Nat} {a b:Code}:Bp P wd m oO (n+1) (.seq a b) F s=pr P wd a (fi (Bp P wd m oO n b F) F) s:=rfl
theorem L5 {m:Nat} {c:Code}:VP P wd m [] c F s=pr P wd c F s:=rfl
def tz (P:Program) [Tables P] (nm:Nat) (o:Option Oper) (K:AS→Prop) (s:AS):Prop:=match o with
 | some o=>Bi P nm o K s
 | none=>False
def ZS (P:Program) [Tables P] (nm:Nat) (o:Option Oper) (K:AS→Prop) (s:AS):Prop:=match o with
 | some o=>cv P nm o K s
 | none=>False
theorem Ul {ops:Array Oper} {base k:Nat} {K:AS→Prop} {e:Nat→Option AV} {b:Nat→Option aW} {n:Nat}:fL P ops base K [] k ⟨e,b,n⟩=K ⟨e,b,base+4*(k+1)⟩:=rfl
theorem L6 {l:List Oper} {base k i:Nat} {r:List Nat} {K:AS→Prop}:fL P l.toArray base K (i::r) k s=tz P (base+4*(k+1)) l[i]? (fL P l.toArray base K r (k+1)) s:=by
 unfold fL tz;rw[List.getElem?_toArray];cases l[i]? <;>rfl
theorem pure_nil {ops:Array Oper} {nm:Nat} {K:AS→Prop}:mv P ops nm K [] s=K s:=rfl
theorem pure_cons {l:List Oper} {nm i:Nat} {r:List Nat} {K:AS→Prop}:mv P l.toArray nm K (i::r) s=ZS P nm l[i]? (mv P l.toArray nm K r) s:=by
 unfold mv ZS;rw[List.getElem?_toArray];cases l[i]? <;>rfl
theorem Bq {nm:Nat} {o:Oper} {K:AS→Prop}:ZS P nm (some o) K s=cv P nm o K s:=rfl
theorem FF {nm f:Nat} {xs:Array Operand} {tys:Array TypeId} {dst:Option Nat} {ty:TypeId} {pos:String} {after:Array Edge} {K:AS→Prop}:
  tz P nm (some ⟨dst, .call ⟨.value (.func f),xs,tys⟩,ty,pos,after,none⟩) K s=if ai P f=true then bZ P nm f (bN s xs.toList) dst K s else mF P f (bN s xs.toList) dst K s:=rfl
theorem FG {nm:Nat} {x:Operand} {dst:Option Nat} {ty:TypeId} {pos:String} {after:Array Edge} {K:AS→Prop}:tz P nm (some ⟨dst, .move x,ty,pos,after,none⟩) K s=cv P nm ⟨dst, .move x,ty,pos,after,none⟩ K s:=rfl
theorem v8 {nm:Nat} {x:Operand} {dst:Option Nat} {ty:TypeId} {pos:String} {after:Array Edge} {K:AS→Prop}:tz P nm (some ⟨dst, .assign x,ty,pos,after,none⟩) K s=cv P nm ⟨dst, .assign x,ty,pos,after,none⟩ K s:=rfl
theorem Br {nm:Nat} {t:TypeId} {dst:Option Nat} {ty:TypeId} {pos:String} {after:Array Edge} {K:AS→Prop}:tz P nm (some ⟨dst, .alloc t,ty,pos,after,none⟩) K s=cv P nm ⟨dst, .alloc t,ty,pos,after,none⟩ K s:=rfl
theorem L7 {nm:Nat} {t:TypeId} {x:Operand} {dst:Option Nat} {ty:TypeId} {pos:String} {after:Array Edge} {K:AS→Prop}:tz P nm (some ⟨dst, .box t x,ty,pos,after,none⟩) K s=cv P nm ⟨dst, .box t x,ty,pos,after,none⟩ K s:=rfl
theorem Bs {nm:Nat} {t:TypeId} {ps:Array (Nat×Operand)} {dst:Option Nat} {ty:TypeId} {pos:String} {after:Array Edge} {K:AS→Prop}:tz P nm (some ⟨dst, .build t ps,ty,pos,after,none⟩) K s=cv P nm ⟨dst, .build t ps,ty,pos,after,none⟩ K s:=rfl
theorem FH {nm:Nat} {t:TypeId} {x:Operand} {dst:Option Nat} {ty:TypeId} {pos:String} {after:Array Edge} {K:AS→Prop}:tz P nm (some ⟨dst, .load t x,ty,pos,after,none⟩) K s=cv P nm ⟨dst, .load t x,ty,pos,after,none⟩ K s:=rfl
theorem Bt {nm:Nat} {t:TypeId} {x y:Operand} {dst:Option Nat} {ty:TypeId} {pos:String} {after:Array Edge} {K:AS→Prop}:tz P nm (some ⟨dst, .store t x y,ty,pos,after,none⟩) K s=cv P nm ⟨dst, .store t x y,ty,pos,after,none⟩ K s:=rfl
theorem nV {nm:Nat} {t:TypeId} {x:Operand} {f:Nat} {dst:Option Nat} {ty:TypeId} {pos:String} {after:Array Edge} {K:AS→Prop}:tz P nm (some ⟨dst, .fieldAddr t x f,ty,pos,after,none⟩) K s=cv P nm ⟨dst, .fieldAddr t x f,ty,pos,after,none⟩ K s:=rfl
theorem pv {nm:Nat} {x:Operand} {dst:Option Nat} {ty:TypeId} {pos:String} {after:Array Edge} {K:AS→Prop}:tz P nm (some ⟨dst, .nilCheck x,ty,pos,after,none⟩) K s=cv P nm ⟨dst, .nilCheck x,ty,pos,after,none⟩ K s:=rfl
theorem FI {nm:Nat} {op:UnOp} {t:TypeId} {x:Operand} {dst:Option Nat} {ty:TypeId} {pos:String} {after:Array Edge} {K:AS→Prop}:tz P nm (some ⟨dst, .unOp op t x,ty,pos,after,none⟩) K s=cv P nm ⟨dst, .unOp op t x,ty,pos,after,none⟩ K s:=rfl
theorem abS {cs:List SV}:ZG (some ⟨true,cs⟩)=none:=rfl
theorem abT {cs:List SV}:ZG (some ⟨false,cs⟩)=some ⟨false,cs⟩:=rfl
theorem abU:ZG none=none:=rfl
theorem aO:type_of% @Uj∧type_of% @L1∧type_of% @FE∧type_of% @L2∧type_of% @aeU∧type_of% @aeV∧type_of% @L3∧type_of% @Uk∧type_of% @L4∧type_of% @v7∧type_of% @L5∧type_of% @Ul∧type_of% @L6∧type_of% @pure_nil∧type_of% @pure_cons∧type_of% @Bq∧type_of% @FF∧type_of% @FG∧
  type_of% @v8∧type_of% @Br∧type_of% @L7∧type_of% @Bs∧type_of% @FH∧type_of% @Bt∧type_of% @nV∧type_of% @pv∧type_of% @FI∧type_of% @abS∧type_of% @abT∧type_of% @abU:=
 ⟨@Uj, @L1, @FE, @L2, @aeU, @aeV, @L3, @Uk, @L4, @v7, @L5, @Ul, @L6, @pure_nil, @pure_cons, @Bq, @FF, @FG, @v8, @Br, @L7, @Bs, @FH, @Bt, @nV, @pv, @FI, @abS, @abT, @abU⟩
end
end Go.cA
