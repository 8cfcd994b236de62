/-
  The calculus: the walk over a code with regions by a plan, in parts. Nothing here speaks of a program.
-/
import Derived.Test.YtkaamnnjeandlaaDoorVcgWh
namespace Go.bM
set_option linter.unusedSectionVars false
set_option linter.unusedSimpArgs false
set_option linter.unusedVariables false
section
variable {P:Program} [Tables P] {W:Nat→Prop} {N:Nat} {w0:Base P} {g:Where} {s:AS} {a:Act} {w:World}
def tC (P:Program) [Tables P] (ops:Array Oper) (K:AS→Prop) (s:AS):Prop:=
 P.follows .mixedOrders=true∧((∃ A R Z F dm,kJ ops A R Z F=true∧(R++Z).all (iH P ops)=true∧Mk P ops A R Z F dm K s)∨(∃ A R Z F dm pm,kJ ops A R Z F=true∧(R++Z).all (iH P ops)=true∧H5 P ops A R Z F dm pm K s)∨ ∃ A R Z F dm pm tr,jr ops A R Z F=true∧AQ ops F tr=true∧(R++Z).all (iH P ops)=true∧H6 P ops A R Z F dm pm tr K s)
def O6 (P:Program) [Tables P] (ops:Array Oper) (K:AS→Prop) (s:AS):Prop:=
 ops.toList.all (fun o=>o.guard.isNone)=true∧cm P ops s.next K (List.range' 0 ops.size) 0 s
def mN (P:Program) [Tables P] (wd:List Nat):Code→(Exit→AS→Prop)→AS→Prop
 | .region id ops true,F,s=>if wd.contains id=true then tC P ops (F .normal) s else oM P (.region id ops true) F s
 | .region id ops false,F,s=>if wd.contains id=true then O6 P ops (F .normal) s else vc P (.region id ops false) F s
 | .seq a b,F,s=>mN P wd a (fa (mN P wd b F) F) s
 | .cond c a b,F,s=>lN (s.aK c) (mN P wd a F) (mN P wd b F) s
 | .block id c,F,s=>mN P wd c (eD id F) s
 | .loop c,F,s=>kC (mN P wd c) F s
 | c,F,s=>oM P c F s
theorem rV {ops:Array Oper} {base:Nat} {K:AS→Prop} {Q:Exit→Act→World→Prop} (hok:ops.toList.all (lO N)=true) (hg:ops.toList.all (fun o=>o.guard.isNone)=true)
  (hK: ∀ g' s' a' w',br W N w0 (fun n=>n < s'.next) g' s' a' w'→K s'→Q .normal a' w'): ∀ (n i k:Nat) (g:Where) (s:AS) (a:Act) (w:World),i+n=ops.size→br W N w0 (fun n=>n < base+4*(k+1)) g s a w→
   cm P ops base K (List.range' i n) k s→wpList P ops Q (ops.toList.drop i) a w
 | 0,i,k,g,s,a,w,hi,h,hv=>by
  rw[List.drop_eq_nil_of_le (by simp;omega)]
  exact hK _ _ _ _ (h.next _) hv
 | n+1,i,k,g,s,a,w,hi,h,hv=>by
  have hlt:i < ops.size:=by omega
  have hd:ops.toList.drop i=ops[i]::ops.toList.drop (i+1):=by rw[List.drop_eq_getElem_cons (by simpa using hlt)];simp
  rw[hd]
  simp only[List.range'_succ,cm,Array.getElem?_eq_getElem hlt]at hv
  have hmem:ops[i] ∈ ops.toList:=by simp
  have YI:(ops[i]).guard=none:=by simpa using List.all_eq_true.1 hg _ hmem
  unfold wpList
  rw[if_pos (by simp[Region.wanted,YI])]
  refine .inl (vO h (fun d hd=> ?_) hv fun g' s' a' w' hr hk=>rV hok hg hK n (i+1) (k+1) g' s' a' w' (by omega) (hr.mono fun n hn=>by omega) hk)
  have:=List.all_eq_true.1 hok _ hmem
  unfold lO at this;rw[hd]at this;simpa using this
theorem il {wd:List Nat}: ∀ (c:Code) (F:Exit→AS→Prop) (s:AS),codeOk N c=true→mN P wd c F s→Sound P W N w0 c F s
 | .seq x y,F,s,hok,hv,g,a,w,Q,h,hQ=>by
  simp only[codeOk,Bool.and_eq_true]at hok
  simp only[mN]at hv
  refine wp_seq (il x _ s hok.1 hv g a w _ h fun e g' s' a' w' h' hk=> ?_)
  cases e with
  | normal=>exact il y F s' hok.2 hk g' a' w' Q h' hQ
  | _=>exact hQ _ _ _ _ _ h' hk
 | .cond c x y,F,s,hok,hv,g,a,w,Q,h,hQ=>by
  simp only[codeOk,Bool.and_eq_true]at hok
  simp only[mN,lN]at hv
  split at hv
  ·rename_i b hb
   refine wp_cond_split (t:=b) (by rw[h.eval hb];rfl) (fun ht=> ?_) (fun hf=> ?_)
   ·exact il x F s hok.1 (hv.1 ht) g a w Q h hQ
   ·exact il y F s hok.2 (hv.2 hf) g a w Q h hQ
  ·exact hv.elim
 | .block id c,F,s,hok,hv,g,a,w,Q,h,hQ=>by
  simp only[codeOk]at hok
  simp only[mN]at hv
  refine wp_block (il c _ s hok hv g a w _ h fun e g' s' a' w' h' hk=> ?_)
  cases e with
  | exit id'=>
   simp only[eD]at hk
   simp only[Exit.inBlock]
   split
   ·rename_i e;rw[if_pos e]at hk;exact hQ _ _ _ _ _ h' hk
   ·rename_i e;rw[if_neg e]at hk;exact hQ _ _ _ _ _ h' hk
  | _=>exact hQ _ _ _ _ _ h' hk
 | .loop c,F,s,hok,hv,g,a,w,Q,h,hQ=>by
  simp only[codeOk]at hok
  simp only[mN]at hv
  obtain ⟨ι,st,μ,i₀,⟨r,hr,hid⟩,uk,hbody⟩:=hv
  have JB: ∀ (r:Nat→Nat),(∀ n,n < s.next→r n=n)→ ∀ i n,n < w0.pn→r n=n∧n < (st i).next:=fun r hid i n hn=>⟨hid n (h.pin n hn).1,Nat.lt_of_lt_of_le (h.pin n hn).1 (uk i)⟩
  let p:Act→World→Nat→Prop:=fun a w n=> ∃ i g,μ i=n∧br W N w0 (fun n=>n < (st i).next) g (st i) a w
  have hmin: ∀ a w,(∃ n,p a w n)→ ∃ n,p a w n∧ ∀ k,p a w k→n≤k:=fun a w hx=>mI _ hx
  have hm: ∃ m:Act→World→Nat, ∀ a w,(∃ n,p a w n)→p a w (m a w)∧ ∀ k,p a w k→m a w≤k:=by
   refine ⟨fun a w=>Classical.epsilon (fun n=>p a w n∧ ∀ k,p a w k→n≤k),fun a w hx=> ?_⟩
   exact Classical.epsilon_spec (hmin a w hx)
  obtain ⟨m,hm⟩:=hm
  refine wp_loop (fun a w=> ∃ n,p a w n) m ⟨_,i₀,_,rfl,h.eW hr (JB r hid i₀)⟩ (fun a1 w1 hI=> ?_)
  obtain ⟨⟨i,g1,Xi,h1⟩,Ll⟩:=hm a1 w1 hI
  refine il c _ (st i) hok (hbody i) g1 a1 w1 _ h1 fun e g' s' a' w' h' hk=> ?_
  cases e with
  | normal=>
   obtain ⟨j,hlt,r',hr',Lm⟩:=hk
   have hp:p a' w' (μ j):=⟨j,_,rfl,h'.eW hr' (JB r' Lm j)⟩
   refine ⟨⟨_,hp⟩, ?_⟩
   have:=(hm a' w' ⟨_,hp⟩).2 _ hp
   omega
  | _=>exact hQ _ _ _ _ _ h' hk
 | .region id ops true,F,s,hok,hv,g,a,w,Q,h,hQ=>by
  simp only[mN]at hv
  split at hv
  ·obtain ⟨hm,⟨A,R,Z,F',dm,h1,h2,hv⟩ | ⟨A,R,Z,F',dm,pm,h1,h2,hv⟩ | ⟨A,R,Z,F',dm,pm,tr,h1,h3,h2,hv⟩⟩:=hv
   ·exact wp_region_any hm (vV (K:=F .normal) hok h1 h2 (fun g' s' a' w' h' hk=>hQ _ _ _ _ _ h' hk) h.drew hv)
   ·exact wp_region_any hm (tA (K:=F .normal) hok h1 h2 (fun g' s' a' w' h' hk=>hQ _ _ _ _ _ h' hk) h.drew hv)
   ·exact wp_region_any hm (tB (K:=F .normal) hok h1 h3 h2 (fun g' s' a' w' h' hk=>hQ _ _ _ _ _ h' hk) h.drew hv)
  ·exact dB _ F s hok hv g a w Q h hQ
 | .region id ops false,F,s,hok,hv,g,a,w,Q,h,hQ=>by
  simp only[mN]at hv
  split at hv
  ·obtain ⟨h1,hv⟩:=hv
   refine wp_region_list ?_
   have:=rV (base:=s.next) (K:=F .normal) (Q:=Q) hok h1 (fun g' s' a' w' h' hk=>hQ _ _ _ _ _ h' hk) ops.size 0 0 g s a w (by omega) (h.mono fun n hn=>by omega) hv
   simpa using this
  ·exact dn _ F s hok hv g a w Q h hQ
 | .skip,F,s,hok,hv,g,a,w,Q,h,hQ=>dB _ F s hok hv g a w Q h hQ
 | .exit id,F,s,hok,hv,g,a,w,Q,h,hQ=>dB _ F s hok hv g a w Q h hQ
 | .ret,F,s,hok,hv,g,a,w,Q,h,hQ=>dB _ F s hok hv g a w Q h hQ
 | .rangeFunc .., F,s,hok,hv,g,a,w,Q,h,hQ=>dB _ F s hok hv g a w Q h hQ
 | .scope _,F,s,hok,hv,g,a,w,Q,h,hQ=>dB _ F s hok hv g a w Q h hQ
 | .label _,F,s,hok,hv,g,a,w,Q,h,hQ=>dB _ F s hok hv g a w Q h hQ
 | .goto _,F,s,hok,hv,g,a,w,Q,h,hQ=>dB _ F s hok hv g a w Q h hQ
 | .refuse _,F,s,hok,hv,g,a,w,Q,h,hQ=>dB _ F s hok hv g a w Q h hQ
def FY (P:Program) [Tables P] (wd:List Nat) (m:Nat) (FI:AS→Prop):Nat→Code→(Exit→AS→Prop)→AS→Prop
 | 0,_,_,s=> ∃ s2,lh m s s2∧m≤s2.next∧FI s2
 | n+1, .seq a b,F,s=>mN P wd a (fa (FY P wd m FI n b F) F) s
 | _+1,_,_,_=>False
def Mv (P:Program) [Tables P] (wd:List Nat) (m:Nat):List Nat→Code→(Exit→AS→Prop)→AS→Prop
 | [],c,F,s=>mN P wd c F s
 | n::r,c,F,s=> ∃ FI:AS→Prop,FY P wd m FI n c F s∧ ∀ s2,FI s2→Mv P wd m r (H3 n c) F s2
theorem rb {wd:List Nat} {m:Nat} (hm:w0.pn≤m) {FI:AS→Prop}: ∀ (n:Nat) (c:Code) (F:Exit→AS→Prop) (s:AS),codeOk N c=true→FY P wd m FI n c F s→(∀ s2,FI s2→Sound P W N w0 (H3 n c) F s2)→Sound P W N w0 c F s
 | 0,c,F,s,hok,hv,ht,g,a,w,Q,h,hQ=>by
  obtain ⟨s2,⟨r,hr,hr0⟩,hn,hmid⟩:=hv
  exact ht s2 hmid _ a w Q (h.eW hr fun n hn'=>⟨hr0 n (by omega),by omega⟩) hQ
 | n+1, .seq x y,F,s,hok,hv,ht,g,a,w,Q,h,hQ=>by
  simp only[codeOk,Bool.and_eq_true]at hok
  refine wp_seq (il x _ s hok.1 hv g a w _ h fun e g' s' a' w' h' hk=> ?_)
  cases e with
  | normal=>exact rb hm n y F s' hok.2 hk ht g' a' w' Q h' hQ
  | _=>exact hQ _ _ _ _ _ h' hk
theorem pV {wd:List Nat} {m:Nat} (hm:w0.pn≤m): ∀ (FZ:List Nat) (c:Code) (F:Exit→AS→Prop) (s:AS),codeOk N c=true→Mv P wd m FZ c F s→Sound P W N w0 c F s
 | [],c,F,s,hok,hv=>il c F s hok hv
 | n::r,c,F,s,hok,hv=>by
  obtain ⟨FI,h1,h2⟩:=hv
  exact rb hm n c F s hok h1 fun s2 hs=>pV hm r _ F s2 (Dz n c hok) (h2 s2 hs)
theorem x6 {f:Nat} {fn:Func} {c:Code} (hf:P.funcs[f]? =some fn) (hb:fn.body=some c) (hok:codeOk fn.ntmps c=true) (wd FZ:List Nat) {args:List AV} {k m:Nat} {ins:Nat→Option aG}
  (hlen:args.length≤fn.ntmps) (hc:au P f=true) (SE:m≤4) (hargs: ∀ v ∈ args,AV.ok (fun n=>n < k) v) (hall: ∀ n,n < k→ ∃ b,ins n=some b) (du: ∀ n b,ins n=some b→n < k∧ ∀ x ∈ b.cells,SV.ok (fun n=>n < k) x)
  {Post:AV→(Nat→Option aG)→Prop} (hv:Mv P wd k FZ c (jX P fn.results.toList (TA k m Post)) (start args ins k)):lB P f args k m ins Post:=
 vW hf hb hlen hc SE hargs hall du fun W w0 hp=>pV hp FZ c _ _ hok hv
theorem rh {f:Nat} {fn:Func} {c:Code} (hf:P.funcs[f]? =some fn) (hb:fn.body=some c) (hok:codeOk fn.ntmps c=true) (wd FZ:List Nat) {args:List AV} {k:Nat} {ins:Nat→Option aG}
  (hlen:args.length≤fn.ntmps) (hc:au P f=true) (hargs: ∀ v ∈ args,AV.ok (fun n=>n < k) v) (hall: ∀ n,n < k→ ∃ b,ins n=some b) (du: ∀ n b,ins n=some b→n < k∧ ∀ x ∈ b.cells,SV.ok (fun n=>n < k) x)
  {Post:AV→(Nat→Option aG)→Prop} (hv:Mv P wd k FZ c (jX P fn.results.toList (nA k Post)) (start args ins k)):bC P f args k ins Post:=
 pD hf hb hlen hc hargs hall du fun W w0 hp=>pV hp FZ c _ _ hok hv
variable {wd:List Nat} {F:Exit→AS→Prop}
theorem H' {a b:Code}:mN P wd (.seq a b) F s=mN P wd a (fa (mN P wd b F) F) s:=rfl
theorem Qu {id:Nat} {ops:Array Oper}:mN P wd (.region id ops true) F s=if wd.contains id=true then tC P ops (F .normal) s else oM P (.region id ops true) F s:=rfl
theorem Qv {id:Nat} {ops:Array Oper}:mN P wd (.region id ops false) F s=if wd.contains id=true then O6 P ops (F .normal) s else vc P (.region id ops false) F s:=rfl
theorem Ia:mN P wd .ret F s=vc P .ret F s:=rfl
theorem DG {m:Nat} {c:Code}:Mv P wd m [] c F s=mN P wd c F s:=rfl
def ri (P:Program) [Tables P] (nm:Nat) (o:Option Oper) (K:AS→Prop) (s:AS):Prop:=match o with
 | some o=>jI P nm o K s
 | none=>False
def Mw (P:Program) [Tables P] (nm:Nat) (o:Option Oper) (K:AS→Prop) (s:AS):Prop:=match o with
 | some o=>bK P nm o K s
 | none=>False
theorem Ib {ops:Array Oper} {base k:Nat} {K:AS→Prop} {e:Nat→Option AV} {b:Nat→Option aG} {n:Nat}:cm P ops base K [] k ⟨e,b,n⟩=K ⟨e,b,base+4*(k+1)⟩:=rfl
theorem DH {l:List Oper} {base k i:Nat} {r:List Nat} {K:AS→Prop}:cm P l.toArray base K (i::r) k s=ri P (base+4*(k+1)) l[i]? (cm P l.toArray base K r (k+1)) s:=by
 unfold cm ri;rw[List.getElem?_toArray];cases l[i]? <;>rfl
theorem pure_nil {ops:Array Oper} {nm:Nat} {K:AS→Prop}:gp P ops nm K [] s=K s:=rfl
theorem pure_cons {l:List Oper} {nm i:Nat} {r:List Nat} {K:AS→Prop}:gp P l.toArray nm K (i::r) s=Mw P nm l[i]? (gp P l.toArray nm K r) s:=by
 unfold gp Mw;rw[List.getElem?_toArray];cases l[i]? <;>rfl
theorem vX {nm:Nat} {o:Oper} {K:AS→Prop}:Mw P nm (some o) K s=bK P nm o K s:=rfl
theorem zD {nm f:Nat} {xs:Array Operand} {tys:Array TypeId} {dst:Option Nat} {ty:TypeId} {pos:String} {after:Array Edge} {K:AS→Prop}:
  ri P nm (some ⟨dst, .call ⟨.value (.func f),xs,tys⟩,ty,pos,after,none⟩) K s=if au P f=true then bD P nm f (bb s xs.toList) dst K s else nU P f (bb s xs.toList) dst K s:=rfl
theorem zE {nm:Nat} {x:Operand} {dst:Option Nat} {ty:TypeId} {pos:String} {after:Array Edge} {K:AS→Prop}:ri P nm (some ⟨dst, .move x,ty,pos,after,none⟩) K s=bK P nm ⟨dst, .move x,ty,pos,after,none⟩ K s:=rfl
theorem tD {nm:Nat} {x:Operand} {dst:Option Nat} {ty:TypeId} {pos:String} {after:Array Edge} {K:AS→Prop}:ri P nm (some ⟨dst, .assign x,ty,pos,after,none⟩) K s=bK P nm ⟨dst, .assign x,ty,pos,after,none⟩ K s:=rfl
theorem vY {nm:Nat} {t:TypeId} {dst:Option Nat} {ty:TypeId} {pos:String} {after:Array Edge} {K:AS→Prop}:ri P nm (some ⟨dst, .alloc t,ty,pos,after,none⟩) K s=bK P nm ⟨dst, .alloc t,ty,pos,after,none⟩ K s:=rfl
theorem vZ {nm:Nat} {t:TypeId} {ps:Array (Nat×Operand)} {dst:Option Nat} {ty:TypeId} {pos:String} {after:Array Edge} {K:AS→Prop}:ri P nm (some ⟨dst, .build t ps,ty,pos,after,none⟩) K s=bK P nm ⟨dst, .build t ps,ty,pos,after,none⟩ K s:=rfl
theorem zG {nm:Nat} {t:TypeId} {x:Operand} {dst:Option Nat} {ty:TypeId} {pos:String} {after:Array Edge} {K:AS→Prop}:ri P nm (some ⟨dst, .load t x,ty,pos,after,none⟩) K s=bK P nm ⟨dst, .load t x,ty,pos,after,none⟩ K s:=rfl
theorem wb {nm:Nat} {t:TypeId} {x y:Operand} {dst:Option Nat} {ty:TypeId} {pos:String} {after:Array Edge} {K:AS→Prop}:ri P nm (some ⟨dst, .store t x y,ty,pos,after,none⟩) K s=bK P nm ⟨dst, .store t x y,ty,pos,after,none⟩ K s:=rfl
theorem O7 {cs:List SV}:E5 (some ⟨false,cs⟩)=some ⟨false,cs⟩:=rfl
theorem bq:type_of% @H'∧type_of% @Qu∧type_of% @Qv∧type_of% @Ia∧type_of% @DG∧type_of% @Ib∧type_of% @DH∧type_of% @pure_nil∧type_of% @pure_cons∧type_of% @vX∧type_of% @zD∧type_of% @zE∧type_of% @tD∧type_of% @vY∧type_of% @vZ∧type_of% @zG∧type_of% @wb∧type_of% @O7:=
 ⟨@H', @Qu, @Qv, @Ia, @DG, @Ib, @DH, @pure_nil, @pure_cons, @vX, @zD, @zE, @tD, @vY, @vZ, @zG, @wb, @O7⟩
end
end Go.bM
