/-
  The calculus: the walk over a code with regions by a plan, in parts. Nothing here speaks of a program.
-/
import Derived.Test.YtpnehhpadofcbaaGreatDoorVcgWh
namespace Go.bU
set_option linter.unusedSectionVars false
set_option linter.unusedSimpArgs false
set_option linter.unusedVariables false
section
variable {P:Program} [Tables P] {W:Nat→Prop} {N:Nat} {w0:iH P} {g:Where} {s:AS} {a:Act} {w:World}
def BD (P:Program) [Tables P] (ops:Array Oper) (K:AS→Prop) (s:AS):Prop:=
 P.follows .mixedOrders=true∧((∃ A R Z F dm,nW ops A R Z F=true∧(R++Z).all (kP P ops)=true∧TG P ops A R Z F dm K s)∨(∃ A R Z F dm pm,nW ops A R Z F=true∧(R++Z).all (kP P ops)=true∧Pt P ops A R Z F dm pm K s)∨ ∃ A R Z F dm pm tr,lj ops A R Z F=true∧F1 ops F tr=true∧(R++Z).all (kP P ops)=true∧Pu P ops A R Z F dm pm tr K s)
def Wk (P:Program) [Tables P] (ops:Array Oper) (K:AS→Prop) (s:AS):Prop:=
 ops.toList.all (fun o=>o.guard.isNone)=true∧cX P ops s.next K (List.range' 0 ops.size) 0 s
def oO (P:Program) [Tables P] (wd:List Nat):Code→(Exit→AS→Prop)→AS→Prop
 | .region id ops true,F,s=>if wd.contains id=true then BD P ops (F .normal) s else qj P (.region id ops true) F s
 | .region id ops false,F,s=>if wd.contains id=true then Wk P ops (F .normal) s else vc P (.region id ops false) F s
 | .seq a b,F,s=>oO P wd a (fL (oO P wd b F) F) s
 | .cond c a b,F,s=>oo (s.aT c) (oO P wd a F) (oO P wd b F) s
 | .block id c,F,s=>oO P wd c (jy id F) s
 | .loop c,F,s=>kH (oO P wd c) F s
 | c,F,s=>qj P c F s
theorem EH {ops:Array Oper} {base:Nat} {K:AS→Prop} {Q:Exit→Act→World→Prop} (hok:ops.toList.all (oV N)=true) (hg:ops.toList.all (fun o=>o.guard.isNone)=true)
  (hK: ∀ g' s' a' w',cx W N w0 (fun n=>n < s'.next) g' s' a' w'→K s'→Q .normal a' w'): ∀ (n i k:Nat) (g:Where) (s:AS) (a:Act) (w:World),i+n=ops.size→cx W N w0 (fun n=>n < base+4*(k+1)) g s a w→
   cX P ops base K (List.range' i n) k s→wpList P ops Q (ops.toList.drop i) a w
 | 0,i,k,g,s,a,w,hi,h,hv=>by
  rw[List.drop_eq_nil_of_le (by simp;omega)]
  exact hK _ _ _ _ (h.next _) hv
 | n+1,i,k,g,s,a,w,hi,h,hv=>by
  have hlt:i < ops.size:=by omega
  have hd:ops.toList.drop i=ops[i]::ops.toList.drop (i+1):=by rw[List.drop_eq_getElem_cons (by simpa using hlt)];simp
  rw[hd]
  simp only[List.range'_succ,cX,Array.getElem?_eq_getElem hlt]at hv
  have hmem:ops[i] ∈ ops.toList:=by simp
  have hgn:(ops[i]).guard=none:=by simpa using List.all_eq_true.1 hg _ hmem
  unfold wpList
  rw[if_pos (by simp[Region.wanted,hgn])]
  refine .inl (Bv h (fun d hd=> ?_) hv fun g' s' a' w' hr hk=>EH hok hg hK n (i+1) (k+1) g' s' a' w' (by omega) (hr.mono fun n hn=>by omega) hk)
  have:=List.all_eq_true.1 hok _ hmem
  unfold oV at this;rw[hd]at this;simpa using this
theorem jP {wd:List Nat}: ∀ (c:Code) (F:Exit→AS→Prop) (s:AS),codeOk N c=true→oO P wd c F s→Sound P W N w0 c F s
 | .seq x y,F,s,hok,hv,g,a,w,Q,h,hQ=>by
  simp only[codeOk,Bool.and_eq_true]at hok
  simp only[oO]at hv
  refine wp_seq (jP x _ s hok.1 hv g a w _ h fun e g' s' a' w' h' hk=> ?_)
  cases e with
  | normal=>exact jP y F s' hok.2 hk g' a' w' Q h' hQ
  | _=>exact hQ _ _ _ _ _ h' hk
 | .cond c x y,F,s,hok,hv,g,a,w,Q,h,hQ=>by
  simp only[codeOk,Bool.and_eq_true]at hok
  simp only[oO,oo]at hv
  split at hv
  ·rename_i b hb
   refine wp_cond_split (t:=b) (by rw[h.eval hb];rfl) (fun ht=> ?_) (fun hf=> ?_)
   ·exact jP x F s hok.1 (hv.1 ht) g a w Q h hQ
   ·exact jP y F s hok.2 (hv.2 hf) g a w Q h hQ
  ·exact hv.elim
 | .block id c,F,s,hok,hv,g,a,w,Q,h,hQ=>by
  simp only[codeOk]at hok
  simp only[oO]at hv
  refine wp_block (jP c _ s hok hv g a w _ h fun e g' s' a' w' h' hk=> ?_)
  cases e with
  | exit id'=>
   simp only[jy]at hk
   simp only[Exit.inBlock]
   split
   ·rename_i e;rw[if_pos e]at hk;exact hQ _ _ _ _ _ h' hk
   ·rename_i e;rw[if_neg e]at hk;exact hQ _ _ _ _ _ h' hk
  | _=>exact hQ _ _ _ _ _ h' hk
 | .loop c,F,s,hok,hv,g,a,w,Q,h,hQ=>by
  simp only[codeOk]at hok
  simp only[oO]at hv
  obtain ⟨ι,st,μ,i₀,⟨r,hr,hid⟩,VB,hbody⟩:=hv
  have xg: ∀ (r:Nat→Nat),(∀ n,n < s.next→r n=n)→ ∀ i n,n < w0.pn→r n=n∧n < (st i).next:=fun r hid i n hn=>⟨hid n (h.pin n hn).1,Nat.lt_of_lt_of_le (h.pin n hn).1 (VB i)⟩
  let p:Act→World→Nat→Prop:=fun a w n=> ∃ i g,μ i=n∧cx W N w0 (fun n=>n < (st i).next) g (st i) a w
  have hmin: ∀ a w,(∃ n,p a w n)→ ∃ n,p a w n∧ ∀ k,p a w k→n≤k:=fun a w hx=>vA _ hx
  have hm: ∃ m:Act→World→Nat, ∀ a w,(∃ n,p a w n)→p a w (m a w)∧ ∀ k,p a w k→m a w≤k:=by
   refine ⟨fun a w=>Classical.epsilon (fun n=>p a w n∧ ∀ k,p a w k→n≤k),fun a w hx=> ?_⟩
   exact Classical.epsilon_spec (hmin a w hx)
  obtain ⟨m,hm⟩:=hm
  refine wp_loop (fun a w=> ∃ n,p a w n) m ⟨_,i₀,_,rfl,h.dq hr (xg r hid i₀)⟩ (fun a1 w1 hI=> ?_)
  obtain ⟨⟨i,g1,hmu,h1⟩,Y0⟩:=hm a1 w1 hI
  refine jP c _ (st i) hok (hbody i) g1 a1 w1 _ h1 fun e g' s' a' w' h' hk=> ?_
  cases e with
  | normal=>
   obtain ⟨j,hlt,r',hr',Y1⟩:=hk
   have hp:p a' w' (μ j):=⟨j,_,rfl,h'.dq hr' (xg r' Y1 j)⟩
   refine ⟨⟨_,hp⟩, ?_⟩
   have:=(hm a' w' ⟨_,hp⟩).2 _ hp
   omega
  | _=>exact hQ _ _ _ _ _ h' hk
 | .region id ops true,F,s,hok,hv,g,a,w,Q,h,hQ=>by
  simp only[oO]at hv
  split at hv
  ·obtain ⟨hm,⟨A,R,Z,F',dm,h1,h2,hv⟩ | ⟨A,R,Z,F',dm,pm,h1,h2,hv⟩ | ⟨A,R,Z,F',dm,pm,tr,h1,h3,h2,hv⟩⟩:=hv
   ·exact wp_region_any hm (Mr (K:=F .normal) hok h1 h2 (fun g' s' a' w' h' hk=>hQ _ _ _ _ _ h' hk) h.drew hv)
   ·exact wp_region_any hm (Jg (K:=F .normal) hok h1 h2 (fun g' s' a' w' h' hk=>hQ _ _ _ _ _ h' hk) h.drew hv)
   ·exact wp_region_any hm (Ji (K:=F .normal) hok h1 h3 h2 (fun g' s' a' w' h' hk=>hQ _ _ _ _ _ h' hk) h.drew hv)
  ·exact dT _ F s hok hv g a w Q h hQ
 | .region id ops false,F,s,hok,hv,g,a,w,Q,h,hQ=>by
  simp only[oO]at hv
  split at hv
  ·obtain ⟨h1,hv⟩:=hv
   refine wp_region_list ?_
   have:=EH (base:=s.next) (K:=F .normal) (Q:=Q) hok h1 (fun g' s' a' w' h' hk=>hQ _ _ _ _ _ h' hk) ops.size 0 0 g s a w (by omega) (h.mono fun n hn=>by omega) hv
   simpa using this
  ·exact eh _ F s hok hv g a w Q h hQ
 | .skip,F,s,hok,hv,g,a,w,Q,h,hQ=>dT _ F s hok hv g a w Q h hQ
 | .exit id,F,s,hok,hv,g,a,w,Q,h,hQ=>dT _ F s hok hv g a w Q h hQ
 | .ret,F,s,hok,hv,g,a,w,Q,h,hQ=>dT _ F s hok hv g a w Q h hQ
 | .rangeFunc .., F,s,hok,hv,g,a,w,Q,h,hQ=>dT _ F s hok hv g a w Q h hQ
 | .scope _,F,s,hok,hv,g,a,w,Q,h,hQ=>dT _ F s hok hv g a w Q h hQ
 | .label _,F,s,hok,hv,g,a,w,Q,h,hQ=>dT _ F s hok hv g a w Q h hQ
 | .goto _,F,s,hok,hv,g,a,w,Q,h,hQ=>dT _ F s hok hv g a w Q h hQ
 | .refuse _,F,s,hok,hv,g,a,w,Q,h,hQ=>dT _ F s hok hv g a w Q h hQ
def BF (P:Program) [Tables P] (wd:List Nat) (m:Nat) (sa:AS→Prop):Nat→Code→(Exit→AS→Prop)→AS→Prop
 | 0,_,_,s=> ∃ s2,oU m s s2∧m≤s2.next∧sa s2
 | n+1, .seq a b,F,s=>oO P wd a (fL (BF P wd m sa n b F) F) s
 | _+1,_,_,_=>False
def Rb (P:Program) [Tables P] (wd:List Nat) (m:Nat):List Nat→Code→(Exit→AS→Prop)→AS→Prop
 | [],c,F,s=>oO P wd c F s
 | n::r,c,F,s=> ∃ sa:AS→Prop,BF P wd m sa n c F s∧ ∀ s2,sa s2→Rb P wd m r (nC n c) F s2
theorem wh {wd:List Nat} {m:Nat} (hm:w0.pn≤m) {sa:AS→Prop}: ∀ (n:Nat) (c:Code) (F:Exit→AS→Prop) (s:AS),codeOk N c=true→BF P wd m sa n c F s→(∀ s2,sa s2→Sound P W N w0 (nC n c) F s2)→Sound P W N w0 c F s
 | 0,c,F,s,hok,hv,ht,g,a,w,Q,h,hQ=>by
  obtain ⟨s2,⟨r,hr,Tm⟩,hn,hmid⟩:=hv
  exact ht s2 hmid _ a w Q (h.dq hr fun n hn'=>⟨Tm n (by omega),by omega⟩) hQ
 | n+1, .seq x y,F,s,hok,hv,ht,g,a,w,Q,h,hQ=>by
  simp only[codeOk,Bool.and_eq_true]at hok
  refine wp_seq (jP x _ s hok.1 hv g a w _ h fun e g' s' a' w' h' hk=> ?_)
  cases e with
  | normal=>exact wh hm n y F s' hok.2 hk ht g' a' w' Q h' hQ
  | _=>exact hQ _ _ _ _ _ h' hk
theorem tD {wd:List Nat} {m:Nat} (hm:w0.pn≤m): ∀ (sf:List Nat) (c:Code) (F:Exit→AS→Prop) (s:AS),codeOk N c=true→Rb P wd m sf c F s→Sound P W N w0 c F s
 | [],c,F,s,hok,hv=>jP c F s hok hv
 | n::r,c,F,s,hok,hv=>by
  obtain ⟨sa,h1,h2⟩:=hv
  exact wh hm n c F s hok h1 fun s2 hs=>tD hm r _ F s2 (Bn n c hok) (h2 s2 hs)
theorem dF {f:Nat} {fn:Func} {c:Code} (hf:P.funcs[f]? =some fn) (hb:fn.body=some c) (hok:codeOk fn.ntmps c=true) (wd sf:List Nat) {args:List AV} {k m:Nat} {ins:Nat→Option aN}
  (hlen:args.length≤fn.ntmps) (hc:ai P f=true) (hm4:m≤4) (hargs: ∀ v ∈ args,AV.ok (fun n=>n < k) v) (hall: ∀ n,n < k→ ∃ b,ins n=some b) (kD: ∀ n b,ins n=some b→n < k∧ ∀ x ∈ b.cells,SV.ok (fun n=>n < k) x)
  {Post:AV→(Nat→Option aN)→Prop} (hv:Rb P wd k sf c (nt P fn.results.toList (zB k m Post)) (start args ins k)):gL P f args k m ins Post:=
 BA hf hb hlen hc hm4 hargs hall kD fun W w0 hp=>tD hp sf c _ _ hok hv
theorem gX {f:Nat} {fn:Func} {c:Code} (hf:P.funcs[f]? =some fn) (hb:fn.body=some c) (hok:codeOk fn.ntmps c=true) (wd sf:List Nat) {args:List AV} {k:Nat} {ins:Nat→Option aN}
  (hlen:args.length≤fn.ntmps) (hc:ai P f=true) (hargs: ∀ v ∈ args,AV.ok (fun n=>n < k) v) (hall: ∀ n,n < k→ ∃ b,ins n=some b) (kD: ∀ n b,ins n=some b→n < k∧ ∀ x ∈ b.cells,SV.ok (fun n=>n < k) x)
  {Post:AV→(Nat→Option aN)→Prop} (hv:Rb P wd k sf c (nt P fn.results.toList (qA k Post)) (start args ins k)):bf P f args k ins Post:=
 Dd hf hb hlen hc hargs hall kD fun W w0 hp=>tD hp sf c _ _ hok hv
variable {wd:List Nat} {F:Exit→AS→Prop}
theorem Px {a b:Code}:oO P wd (.seq a b) F s=oO P wd a (fL (oO P wd b F) F) s:=rfl
theorem Jj {c:Operand} {a b:Code}:oO P wd (.cond c a b) F s=oo (s.aT c) (oO P wd a F) (oO P wd b F) s:=rfl
theorem EI {id:Nat} {c:Code}:oO P wd (.block id c) F s=oO P wd c (jy id F) s:=rfl
theorem Jk {c:Code}:oO P wd (.loop c) F s=kH (oO P wd c) F s:=rfl
theorem X9 {id:Nat} {ops:Array Oper}:oO P wd (.region id ops true) F s=if wd.contains id=true then BD P ops (F .normal) s else qj P (.region id ops true) F s:=rfl
theorem X' {id:Nat} {ops:Array Oper}:oO P wd (.region id ops false) F s=if wd.contains id=true then Wk P ops (F .normal) s else vc P (.region id ops false) F s:=rfl
theorem Jl:oO P wd .skip F s=vc P .skip F s:=rfl
theorem Py:oO P wd .ret F s=vc P .ret F s:=rfl
theorem Jm {id:Nat}:oO P wd (.exit id) F s=vc P (.exit id) F s:=rfl
theorem yS {m:Nat} {sa:AS→Prop} {n:Nat} {a b:Code}:BF P wd m sa (n+1) (.seq a b) F s=oO P wd a (fL (BF P wd m sa n b F) F) s:=rfl
theorem Jn {m:Nat} {c:Code}:Rb P wd m [] c F s=oO P wd c F s:=rfl
def sg (P:Program) [Tables P] (nm:Nat) (o:Option Oper) (K:AS→Prop) (s:AS):Prop:=match o with
 | some o=>lT P nm o K s
 | none=>False
def TT (P:Program) [Tables P] (nm:Nat) (o:Option Oper) (K:AS→Prop) (s:AS):Prop:=match o with
 | some o=>cl P nm o K s
 | none=>False
theorem Pz {ops:Array Oper} {base k:Nat} {K:AS→Prop} {e:Nat→Option AV} {b:Nat→Option aN} {n:Nat}:cX P ops base K [] k ⟨e,b,n⟩=K ⟨e,b,base+4*(k+1)⟩:=rfl
theorem Jo {l:List Oper} {base k i:Nat} {r:List Nat} {K:AS→Prop}:cX P l.toArray base K (i::r) k s=sg P (base+4*(k+1)) l[i]? (cX P l.toArray base K r (k+1)) s:=by
 unfold cX sg;rw[List.getElem?_toArray];cases l[i]? <;>rfl
theorem pure_nil {ops:Array Oper} {nm:Nat} {K:AS→Prop}:iX P ops nm K [] s=K s:=rfl
theorem pure_cons {l:List Oper} {nm i:Nat} {r:List Nat} {K:AS→Prop}:iX P l.toArray nm K (i::r) s=TT P nm l[i]? (iX P l.toArray nm K r) s:=by
 unfold iX TT;rw[List.getElem?_toArray];cases l[i]? <;>rfl
theorem BG {nm:Nat} {o:Oper} {K:AS→Prop}:TT P nm (some o) K s=cl P nm o K s:=rfl
theorem EJ {nm f:Nat} {xs:Array Operand} {tys:Array TypeId} {dst:Option Nat} {ty:TypeId} {pos:String} {after:Array Edge} {K:AS→Prop}:
  sg P nm (some ⟨dst, .call ⟨.value (.func f),xs,tys⟩,ty,pos,after,none⟩) K s=if ai P f=true then bA P nm f (bD s xs.toList) dst K s else pV P f (bD s xs.toList) dst K s:=rfl
theorem EK {nm:Nat} {x:Operand} {dst:Option Nat} {ty:TypeId} {pos:String} {after:Array Edge} {K:AS→Prop}:sg P nm (some ⟨dst, .move x,ty,pos,after,none⟩) K s=cl P nm ⟨dst, .move x,ty,pos,after,none⟩ K s:=rfl
theorem yT {nm:Nat} {x:Operand} {dst:Option Nat} {ty:TypeId} {pos:String} {after:Array Edge} {K:AS→Prop}:sg P nm (some ⟨dst, .assign x,ty,pos,after,none⟩) K s=cl P nm ⟨dst, .assign x,ty,pos,after,none⟩ K s:=rfl
theorem BH {nm:Nat} {t:TypeId} {dst:Option Nat} {ty:TypeId} {pos:String} {after:Array Edge} {K:AS→Prop}:sg P nm (some ⟨dst, .alloc t,ty,pos,after,none⟩) K s=cl P nm ⟨dst, .alloc t,ty,pos,after,none⟩ K s:=rfl
theorem Jp {nm:Nat} {t:TypeId} {x:Operand} {dst:Option Nat} {ty:TypeId} {pos:String} {after:Array Edge} {K:AS→Prop}:sg P nm (some ⟨dst, .box t x,ty,pos,after,none⟩) K s=cl P nm ⟨dst, .box t x,ty,pos,after,none⟩ K s:=rfl
theorem BI {nm:Nat} {t:TypeId} {ps:Array (Nat×Operand)} {dst:Option Nat} {ty:TypeId} {pos:String} {after:Array Edge} {K:AS→Prop}:sg P nm (some ⟨dst, .build t ps,ty,pos,after,none⟩) K s=cl P nm ⟨dst, .build t ps,ty,pos,after,none⟩ K s:=rfl
theorem EL {nm:Nat} {t:TypeId} {x:Operand} {dst:Option Nat} {ty:TypeId} {pos:String} {after:Array Edge} {K:AS→Prop}:sg P nm (some ⟨dst, .load t x,ty,pos,after,none⟩) K s=cl P nm ⟨dst, .load t x,ty,pos,after,none⟩ K s:=rfl
theorem BJ {nm:Nat} {t:TypeId} {x y:Operand} {dst:Option Nat} {ty:TypeId} {pos:String} {after:Array Edge} {K:AS→Prop}:sg P nm (some ⟨dst, .store t x y,ty,pos,after,none⟩) K s=cl P nm ⟨dst, .store t x y,ty,pos,after,none⟩ K s:=rfl
theorem qL {nm:Nat} {t:TypeId} {x:Operand} {f:Nat} {dst:Option Nat} {ty:TypeId} {pos:String} {after:Array Edge} {K:AS→Prop}:sg P nm (some ⟨dst, .fieldAddr t x f,ty,pos,after,none⟩) K s=cl P nm ⟨dst, .fieldAddr t x f,ty,pos,after,none⟩ K s:=rfl
theorem sM {nm:Nat} {x:Operand} {dst:Option Nat} {ty:TypeId} {pos:String} {after:Array Edge} {K:AS→Prop}:sg P nm (some ⟨dst, .nilCheck x,ty,pos,after,none⟩) K s=cl P nm ⟨dst, .nilCheck x,ty,pos,after,none⟩ K s:=rfl
theorem EM {nm:Nat} {op:UnOp} {t:TypeId} {x:Operand} {dst:Option Nat} {ty:TypeId} {pos:String} {after:Array Edge} {K:AS→Prop}:sg P nm (some ⟨dst, .unOp op t x,ty,pos,after,none⟩) K s=cl P nm ⟨dst, .unOp op t x,ty,pos,after,none⟩ K s:=rfl
theorem abF {cs:List SV}:Mf (some ⟨false,cs⟩)=some ⟨false,cs⟩:=rfl
theorem aR:type_of% @Px∧type_of% @Jj∧type_of% @EI∧type_of% @Jk∧type_of% @X9∧type_of% @X'∧type_of% @Jl∧type_of% @Py∧type_of% @Jm∧type_of% @yS∧type_of% @Jn∧type_of% @Pz∧type_of% @Jo∧type_of% @pure_nil∧type_of% @pure_cons∧type_of% @BG∧type_of% @EJ∧type_of% @EK∧type_of% @yT∧type_of% @BH∧type_of% @Jp∧type_of% @BI∧type_of% @EL∧type_of% @BJ∧type_of% @qL∧type_of% @sM∧type_of% @EM:=
 ⟨@Px, @Jj, @EI, @Jk, @X9, @X', @Jl, @Py, @Jm, @yS, @Jn, @Pz, @Jo, @pure_nil, @pure_cons, @BG, @EJ, @EK, @yT, @BH, @Jp, @BI, @EL, @BJ, @qL, @sM, @EM⟩
end
end Go.bU
