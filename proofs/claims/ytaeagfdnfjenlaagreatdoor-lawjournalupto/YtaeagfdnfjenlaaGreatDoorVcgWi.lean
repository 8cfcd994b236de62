/-
  The calculus: the walk over a code with regions by a plan, in parts. Nothing here speaks of a program.
-/
import Derived.Test.YtaeagfdnfjenlaaGreatDoorVcgWh
namespace Go.cn
set_option linter.unusedSectionVars false
set_option linter.unusedSimpArgs false
set_option linter.unusedVariables false
section
variable {P:Program} [Tables P] {W:Nat→Prop} {N:Nat} {w0:Base P} {g:Where} {s:AS} {a:Act} {w:World}
def Ae (P:Program) [Tables P] (ops:Array Oper) (K:AS→Prop) (s:AS):Prop:=
 P.follows .mixedOrders=true∧((∃ A R Z F dm,iH ops A R Z F=true∧(R++Z).all (iq P ops)=true∧RF P ops A R Z F dm K s)∨(∃ A R Z F dm pm,iH ops A R Z F=true∧(R++Z).all (iq P ops)=true∧Nh P ops A R Z F dm pm K s)∨ ∃ A R Z F dm pm tr,j4 ops A R Z F=true∧EY ops F tr=true∧(R++Z).all (iq P ops)=true∧Ni P ops A R Z F dm pm tr K s)
def VA (P:Program) [Tables P] (ops:Array Oper) (K:AS→Prop) (s:AS):Prop:=
 ops.toList.all (fun o=>o.guard.isNone)=true∧da P ops s.next K (List.range' 0 ops.size) 0 s
def oh (P:Program) [Tables P] (wd:List Nat):Code→(Exit→AS→Prop)→AS→Prop
 | .region id ops true,F,s=>if wd.contains id=true then Ae P ops (F .normal) s else q9 P (.region id ops true) F s
 | .region id ops false,F,s=>if wd.contains id=true then VA P ops (F .normal) s else vc P (.region id ops false) F s
 | .seq a b,F,s=>oh P wd a (fI (oh P wd b F) F) s
 | .cond c a b,F,s=>lM (s.aS c) (oh P wd a F) (oh P wd b F) s
 | .block id c,F,s=>oh P wd c (fh id F) s
 | .loop c,F,s=>kv (oh P wd c) F s
 | c,F,s=>q9 P c F s
theorem vO {ops:Array Oper} {base:Nat} {K:AS→Prop} {Q:Exit→Act→World→Prop} (hok:ops.toList.all (ng N)=true) (hg:ops.toList.all (fun o=>o.guard.isNone)=true)
  (hK: ∀ g' s' a' w',bF W N w0 (fun n=>n < s'.next) g' s' a' w'→K s'→Q .normal a' w'): ∀ (n i k:Nat) (g:Where) (s:AS) (a:Act) (w:World),i+n=ops.size→bF W N w0 (fun n=>n < base+4*(k+1)) g s a w→
   da P ops base K (List.range' i n) k s→wpList P ops Q (ops.toList.drop i) a w
 | 0,i,k,g,s,a,w,hi,h,hv=>by
  rw[List.drop_eq_nil_of_le (by simp;omega)]
  exact hK _ _ _ _ (h.next _) hv
 | n+1,i,k,g,s,a,w,hi,h,hv=>by
  have hlt:i < ops.size:=by omega
  have hd:ops.toList.drop i=ops[i]::ops.toList.drop (i+1):=by rw[List.drop_eq_getElem_cons (by simpa using hlt)];simp
  rw[hd]
  simp only[List.range'_succ,da,Array.getElem?_eq_getElem hlt]at hv
  have hmem:ops[i] ∈ ops.toList:=by simp
  have hgn:(ops[i]).guard=none:=by simpa using List.all_eq_true.1 hg _ hmem
  unfold wpList
  rw[if_pos (by simp[Region.wanted,hgn])]
  refine .inl (zT h (fun d hd=> ?_) hv fun g' s' a' w' hr hk=>vO hok hg hK n (i+1) (k+1) g' s' a' w' (by omega) (hr.mono fun n hn=>by omega) hk)
  have:=List.all_eq_true.1 hok _ hmem
  unfold ng at this;rw[hd]at this;simpa using this
theorem jP {wd:List Nat}: ∀ (c:Code) (F:Exit→AS→Prop) (s:AS),codeOk N c=true→oh P wd c F s→Sound P W N w0 c F s
 | .seq x y,F,s,hok,hv,g,a,w,Q,h,hQ=>by
  simp only[codeOk,Bool.and_eq_true]at hok
  simp only[oh]at hv
  refine wp_seq (jP x _ s hok.1 hv g a w _ h fun e g' s' a' w' h' hk=> ?_)
  cases e with
  | normal=>exact jP y F s' hok.2 hk g' a' w' Q h' hQ
  | _=>exact hQ _ _ _ _ _ h' hk
 | .cond c x y,F,s,hok,hv,g,a,w,Q,h,hQ=>by
  simp only[codeOk,Bool.and_eq_true]at hok
  simp only[oh,lM]at hv
  split at hv
  ·rename_i b hb
   refine wp_cond_split (t:=b) (by rw[h.eval hb];rfl) (fun ht=> ?_) (fun hf=> ?_)
   ·exact jP x F s hok.1 (hv.1 ht) g a w Q h hQ
   ·exact jP y F s hok.2 (hv.2 hf) g a w Q h hQ
  ·exact hv.elim
 | .block id c,F,s,hok,hv,g,a,w,Q,h,hQ=>by
  simp only[codeOk]at hok
  simp only[oh]at hv
  refine wp_block (jP c _ s hok hv g a w _ h fun e g' s' a' w' h' hk=> ?_)
  cases e with
  | exit id'=>
   simp only[fh]at hk
   simp only[Exit.inBlock]
   split
   ·rename_i e;rw[if_pos e]at hk;exact hQ _ _ _ _ _ h' hk
   ·rename_i e;rw[if_neg e]at hk;exact hQ _ _ _ _ _ h' hk
  | _=>exact hQ _ _ _ _ _ h' hk
 | .loop c,F,s,hok,hv,g,a,w,Q,h,hQ=>by
  simp only[codeOk]at hok
  simp only[oh]at hv
  obtain ⟨ι,st,μ,i₀,⟨r,hr,hid⟩,rJ,hbody⟩:=hv
  have Gc: ∀ (r:Nat→Nat),(∀ n,n < s.next→r n=n)→ ∀ i n,n < w0.pn→r n=n∧n < (st i).next:=fun r hid i n hn=>⟨hid n (h.pin n hn).1,Nat.lt_of_lt_of_le (h.pin n hn).1 (rJ i)⟩
  let p:Act→World→Nat→Prop:=fun a w n=> ∃ i g,μ i=n∧bF W N w0 (fun n=>n < (st i).next) g (st i) a w
  have hmin: ∀ a w,(∃ n,p a w n)→ ∃ n,p a w n∧ ∀ k,p a w k→n≤k:=fun a w hx=>lP _ hx
  have hm: ∃ m:Act→World→Nat, ∀ a w,(∃ n,p a w n)→p a w (m a w)∧ ∀ k,p a w k→m a w≤k:=by
   refine ⟨fun a w=>Classical.epsilon (fun n=>p a w n∧ ∀ k,p a w k→n≤k),fun a w hx=> ?_⟩
   exact Classical.epsilon_spec (hmin a w hx)
  obtain ⟨m,hm⟩:=hm
  refine wp_loop (fun a w=> ∃ n,p a w n) m ⟨_,i₀,_,rfl,h.eR hr (Gc r hid i₀)⟩ (fun a1 w1 hI=> ?_)
  obtain ⟨⟨i,g1,hmu,h1⟩,Ks⟩:=hm a1 w1 hI
  refine jP c _ (st i) hok (hbody i) g1 a1 w1 _ h1 fun e g' s' a' w' h' hk=> ?_
  cases e with
  | normal=>
   obtain ⟨j,hlt,r',hr',Kt⟩:=hk
   have hp:p a' w' (μ j):=⟨j,_,rfl,h'.eR hr' (Gc r' Kt j)⟩
   refine ⟨⟨_,hp⟩, ?_⟩
   have:=(hm a' w' ⟨_,hp⟩).2 _ hp
   omega
  | _=>exact hQ _ _ _ _ _ h' hk
 | .region id ops true,F,s,hok,hv,g,a,w,Q,h,hQ=>by
  simp only[oh]at hv
  split at hv
  ·obtain ⟨hm,⟨A,R,Z,F',dm,h1,h2,hv⟩ | ⟨A,R,Z,F',dm,pm,h1,h2,hv⟩ | ⟨A,R,Z,F',dm,pm,tr,h1,h3,h2,hv⟩⟩:=hv
   ·exact wp_region_any hm (Ab (K:=F .normal) hok h1 h2 (fun g' s' a' w' h' hk=>hQ _ _ _ _ _ h' hk) h.drew hv)
   ·exact wp_region_any hm (xB (K:=F .normal) hok h1 h2 (fun g' s' a' w' h' hk=>hQ _ _ _ _ _ h' hk) h.drew hv)
   ·exact wp_region_any hm (xC (K:=F .normal) hok h1 h3 h2 (fun g' s' a' w' h' hk=>hQ _ _ _ _ _ h' hk) h.drew hv)
  ·exact fa _ F s hok hv g a w Q h hQ
 | .region id ops false,F,s,hok,hv,g,a,w,Q,h,hQ=>by
  simp only[oh]at hv
  split at hv
  ·obtain ⟨h1,hv⟩:=hv
   refine wp_region_list ?_
   have:=vO (base:=s.next) (K:=F .normal) (Q:=Q) hok h1 (fun g' s' a' w' h' hk=>hQ _ _ _ _ _ h' hk) ops.size 0 0 g s a w (by omega) (h.mono fun n hn=>by omega) hv
   simpa using this
  ·exact eu _ F s hok hv g a w Q h hQ
 | .skip,F,s,hok,hv,g,a,w,Q,h,hQ=>fa _ F s hok hv g a w Q h hQ
 | .exit id,F,s,hok,hv,g,a,w,Q,h,hQ=>fa _ F s hok hv g a w Q h hQ
 | .ret,F,s,hok,hv,g,a,w,Q,h,hQ=>fa _ F s hok hv g a w Q h hQ
 | .rangeFunc .., F,s,hok,hv,g,a,w,Q,h,hQ=>fa _ F s hok hv g a w Q h hQ
 | .scope _,F,s,hok,hv,g,a,w,Q,h,hQ=>fa _ F s hok hv g a w Q h hQ
 | .label _,F,s,hok,hv,g,a,w,Q,h,hQ=>fa _ F s hok hv g a w Q h hQ
 | .goto _,F,s,hok,hv,g,a,w,Q,h,hQ=>fa _ F s hok hv g a w Q h hQ
 | .refuse _,F,s,hok,hv,g,a,w,Q,h,hQ=>fa _ F s hok hv g a w Q h hQ
def KR (P:Program) [Tables P] (wd:List Nat) (m:Nat) (KG:AS→Prop):Nat→Code→(Exit→AS→Prop)→AS→Prop
 | 0,_,_,s=> ∃ s2,ll m s s2∧m≤s2.next∧KG s2
 | n+1, .seq a b,F,s=>oh P wd a (fI (KR P wd m KG n b F) F) s
 | _+1,_,_,_=>False
def RO (P:Program) [Tables P] (wd:List Nat) (m:Nat):List Nat→Code→(Exit→AS→Prop)→AS→Prop
 | [],c,F,s=>oh P wd c F s
 | n::r,c,F,s=> ∃ KG:AS→Prop,KR P wd m KG n c F s∧ ∀ s2,KG s2→RO P wd m r (Nf n c) F s2
theorem uN {wd:List Nat} {m:Nat} (hm:w0.pn≤m) {KG:AS→Prop}: ∀ (n:Nat) (c:Code) (F:Exit→AS→Prop) (s:AS),codeOk N c=true→KR P wd m KG n c F s→(∀ s2,KG s2→Sound P W N w0 (Nf n c) F s2)→Sound P W N w0 c F s
 | 0,c,F,s,hok,hv,ht,g,a,w,Q,h,hQ=>by
  obtain ⟨s2,⟨r,hr,hr0⟩,hn,hmid⟩:=hv
  exact ht s2 hmid _ a w Q (h.eR hr fun n hn'=>⟨hr0 n (by omega),by omega⟩) hQ
 | n+1, .seq x y,F,s,hok,hv,ht,g,a,w,Q,h,hQ=>by
  simp only[codeOk,Bool.and_eq_true]at hok
  refine wp_seq (jP x _ s hok.1 hv g a w _ h fun e g' s' a' w' h' hk=> ?_)
  cases e with
  | normal=>exact uN hm n y F s' hok.2 hk ht g' a' w' Q h' hQ
  | _=>exact hQ _ _ _ _ _ h' hk
theorem sK {wd:List Nat} {m:Nat} (hm:w0.pn≤m): ∀ (KS:List Nat) (c:Code) (F:Exit→AS→Prop) (s:AS),codeOk N c=true→RO P wd m KS c F s→Sound P W N w0 c F s
 | [],c,F,s,hok,hv=>jP c F s hok hv
 | n::r,c,F,s,hok,hv=>by
  obtain ⟨KG,h1,h2⟩:=hv
  exact uN hm n c F s hok h1 fun s2 hs=>sK hm r _ F s2 (HX n c hok) (h2 s2 hs)
theorem Cm {f:Nat} {fn:Func} {c:Code} (hf:P.funcs[f]? =some fn) (hb:fn.body=some c) (hok:codeOk fn.ntmps c=true) (wd KS:List Nat) {args:List AV} {k m:Nat} {ins:Nat→Option aI}
  (hlen:args.length≤fn.ntmps) (hc:ak P f=true) (hm4:m≤4) (hargs: ∀ v ∈ args,AV.ok (fun n=>n < k) v) (hall: ∀ n,n < k→ ∃ b,ins n=some b) (fO: ∀ n b,ins n=some b→n < k∧ ∀ x ∈ b.cells,SV.ok (fun n=>n < k) x)
  {Post:AV→(Nat→Option aI)→Prop} (hv:RO P wd k KS c (kA P fn.results.toList (Vz k m Post)) (start args ins k)):ln P f args k m ins Post:=
 Ad hf hb hlen hc hm4 hargs hall fO fun W w0 hp=>sK hp KS c _ _ hok hv
theorem uO {f:Nat} {fn:Func} {c:Code} (hf:P.funcs[f]? =some fn) (hb:fn.body=some c) (hok:codeOk fn.ntmps c=true) (wd KS:List Nat) {args:List AV} {k:Nat} {ins:Nat→Option aI}
  (hlen:args.length≤fn.ntmps) (hc:ak P f=true) (hargs: ∀ v ∈ args,AV.ok (fun n=>n < k) v) (hall: ∀ n,n < k→ ∃ b,ins n=some b) (fO: ∀ n b,ins n=some b→n < k∧ ∀ x ∈ b.cells,SV.ok (fun n=>n < k) x)
  {Post:AV→(Nat→Option aI)→Prop} (hv:RO P wd k KS c (kA P fn.results.toList (m8 k Post)) (start args ins k)):bd P f args k ins Post:=
 nN hf hb hlen hc hargs hall fO fun W w0 hp=>sK hp KS c _ _ hok hv
variable {wd:List Nat} {F:Exit→AS→Prop}
theorem Nm {a b:Code}:oh P wd (.seq a b) F s=oh P wd a (fI (oh P wd b F) F) s:=rfl
theorem WS {id:Nat} {ops:Array Oper}:oh P wd (.region id ops true) F s=if wd.contains id=true then Ae P ops (F .normal) s else q9 P (.region id ops true) F s:=rfl
theorem WT {id:Nat} {ops:Array Oper}:oh P wd (.region id ops false) F s=if wd.contains id=true then VA P ops (F .normal) s else vc P (.region id ops false) F s:=rfl
theorem Nn:oh P wd .ret F s=vc P .ret F s:=rfl
theorem H7 {m:Nat} {c:Code}:RO P wd m [] c F s=oh P wd c F s:=rfl
def sL (P:Program) [Tables P] (nm:Nat) (o:Option Oper) (K:AS→Prop) (s:AS):Prop:=match o with
 | some o=>lB P nm o K s
 | none=>False
def RP (P:Program) [Tables P] (nm:Nat) (o:Option Oper) (K:AS→Prop) (s:AS):Prop:=match o with
 | some o=>cw P nm o K s
 | none=>False
theorem Np {ops:Array Oper} {base k:Nat} {K:AS→Prop} {e:Nat→Option AV} {b:Nat→Option aI} {n:Nat}:da P ops base K [] k ⟨e,b,n⟩=K ⟨e,b,base+4*(k+1)⟩:=rfl
theorem H8 {l:List Oper} {base k i:Nat} {r:List Nat} {K:AS→Prop}:da P l.toArray base K (i::r) k s=sL P (base+4*(k+1)) l[i]? (da P l.toArray base K r (k+1)) s:=by
 unfold da sL;rw[List.getElem?_toArray];cases l[i]? <;>rfl
theorem pure_nil {ops:Array Oper} {nm:Nat} {K:AS→Prop}:ij P ops nm K [] s=K s:=rfl
theorem pure_cons {l:List Oper} {nm i:Nat} {r:List Nat} {K:AS→Prop}:ij P l.toArray nm K (i::r) s=RP P nm l[i]? (ij P l.toArray nm K r) s:=by
 unfold ij RP;rw[List.getElem?_toArray];cases l[i]? <;>rfl
theorem Af {nm:Nat} {o:Oper} {K:AS→Prop}:RP P nm (some o) K s=cw P nm o K s:=rfl
theorem DT {nm f:Nat} {xs:Array Operand} {tys:Array TypeId} {dst:Option Nat} {ty:TypeId} {pos:String} {after:Array Edge} {K:AS→Prop}:
  sL P nm (some ⟨dst, .call ⟨.value (.func f),xs,tys⟩,ty,pos,after,none⟩) K s=if ak P f=true then cq P nm f (bq s xs.toList) dst K s else n6 P f (bq s xs.toList) dst K s:=rfl
theorem DU {nm:Nat} {x:Operand} {dst:Option Nat} {ty:TypeId} {pos:String} {after:Array Edge} {K:AS→Prop}:sL P nm (some ⟨dst, .move x,ty,pos,after,none⟩) K s=cw P nm ⟨dst, .move x,ty,pos,after,none⟩ K s:=rfl
theorem xE {nm:Nat} {x:Operand} {dst:Option Nat} {ty:TypeId} {pos:String} {after:Array Edge} {K:AS→Prop}:sL P nm (some ⟨dst, .assign x,ty,pos,after,none⟩) K s=cw P nm ⟨dst, .assign x,ty,pos,after,none⟩ K s:=rfl
theorem Ah {nm:Nat} {t:TypeId} {dst:Option Nat} {ty:TypeId} {pos:String} {after:Array Edge} {K:AS→Prop}:sL P nm (some ⟨dst, .alloc t,ty,pos,after,none⟩) K s=cw P nm ⟨dst, .alloc t,ty,pos,after,none⟩ K s:=rfl
theorem Ai {nm:Nat} {t:TypeId} {ps:Array (Nat×Operand)} {dst:Option Nat} {ty:TypeId} {pos:String} {after:Array Edge} {K:AS→Prop}:sL P nm (some ⟨dst, .build t ps,ty,pos,after,none⟩) K s=cw P nm ⟨dst, .build t ps,ty,pos,after,none⟩ K s:=rfl
theorem DV {nm:Nat} {t:TypeId} {x:Operand} {dst:Option Nat} {ty:TypeId} {pos:String} {after:Array Edge} {K:AS→Prop}:sL P nm (some ⟨dst, .load t x,ty,pos,after,none⟩) K s=cw P nm ⟨dst, .load t x,ty,pos,after,none⟩ K s:=rfl
theorem Aj {nm:Nat} {t:TypeId} {x y:Operand} {dst:Option Nat} {ty:TypeId} {pos:String} {after:Array Edge} {K:AS→Prop}:sL P nm (some ⟨dst, .store t x y,ty,pos,after,none⟩) K s=cw P nm ⟨dst, .store t x y,ty,pos,after,none⟩ K s:=rfl
theorem qz {nm:Nat} {t:TypeId} {x:Operand} {f:Nat} {dst:Option Nat} {ty:TypeId} {pos:String} {after:Array Edge} {K:AS→Prop}:sL P nm (some ⟨dst, .fieldAddr t x f,ty,pos,after,none⟩) K s=cw P nm ⟨dst, .fieldAddr t x f,ty,pos,after,none⟩ K s:=rfl
theorem VB {cs:List SV}:DL (some ⟨false,cs⟩)=some ⟨false,cs⟩:=rfl
theorem bK:type_of% @Nm∧type_of% @WS∧type_of% @WT∧type_of% @Nn∧type_of% @H7∧type_of% @Np∧type_of% @H8∧type_of% @pure_nil∧type_of% @pure_cons∧type_of% @Af∧type_of% @DT∧type_of% @DU∧type_of% @xE∧type_of% @Ah∧type_of% @Ai∧type_of% @DV∧type_of% @Aj∧type_of% @qz∧type_of% @VB:=
 ⟨@Nm, @WS, @WT, @Nn, @H7, @Np, @H8, @pure_nil, @pure_cons, @Af, @DT, @DU, @xE, @Ah, @Ai, @DV, @Aj, @qz, @VB⟩
end
end Go.cn
