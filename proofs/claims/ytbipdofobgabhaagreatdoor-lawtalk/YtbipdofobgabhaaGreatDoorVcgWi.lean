/-
  The calculus: the walk over a code with regions by a plan, in parts. Nothing here speaks of a program.
-/
import Derived.Test.YtbipdofobgabhaaGreatDoorVcgWh
namespace Go.bA
set_option linter.unusedSectionVars false
set_option linter.unusedSimpArgs false
set_option linter.unusedVariables false
section
variable {P:Program} [Tables P] {W:Nat→Prop} {N:Nat} {w0:Base P} {g:Where} {s:AS} {a:Act} {w:World}
def yK (P:Program) [Tables P] (ops:Array Oper) (K:AS→Prop) (s:AS):Prop:=
 P.follows .mixedOrders=true∧((∃ A R Z F dm,mq ops A R Z F=true∧(R++Z).all (jN P ops)=true∧Q0 P ops A R Z F dm K s)∨(∃ A R Z F dm pm,mq ops A R Z F=true∧(R++Z).all (jN P ops)=true∧Mg P ops A R Z F dm pm K s)∨ ∃ A R Z F dm pm tr,j5 ops A R Z F=true∧C6 ops F tr=true∧(R++Z).all (jN P ops)=true∧Mh P ops A R Z F dm pm tr K s)
def UG (P:Program) [Tables P] (ops:Array Oper) (K:AS→Prop) (s:AS):Prop:=
 ops.toList.all (fun o=>o.guard.isNone)=true∧cr P ops s.next K (List.range' 0 ops.size) 0 s
def mZ (P:Program) [Tables P] (wd:List Nat):Code→(Exit→AS→Prop)→AS→Prop
 | .region id ops true,F,s=>if wd.contains id=true then yK P ops (F .normal) s else qE P (.region id ops true) F s
 | .region id ops false,F,s=>if wd.contains id=true then UG P ops (F .normal) s else vc P (.region id ops false) F s
 | .seq a b,F,s=>mZ P wd a (gE (mZ P wd b F) F) s
 | .cond c a b,F,s=>ni (s.aL c) (mZ P wd a F) (mZ P wd b F) s
 | .block id c,F,s=>mZ P wd c (iD id F) s
 | .loop c,F,s=>kZ (mZ P wd c) F s
 | c,F,s=>qE P c F s
theorem BI {ops:Array Oper} {base:Nat} {K:AS→Prop} {Q:Exit→Act→World→Prop} (hok:ops.toList.all (nj N)=true) (hg:ops.toList.all (fun o=>o.guard.isNone)=true)
  (hK: ∀ g' s' a' w',bP W N w0 (fun n=>n < s'.next) g' s' a' w'→K s'→Q .normal a' w'): ∀ (n i k:Nat) (g:Where) (s:AS) (a:Act) (w:World),i+n=ops.size→bP W N w0 (fun n=>n < base+4*(k+1)) g s a w→
   cr P ops base K (List.range' i n) k s→wpList P ops Q (ops.toList.drop i) a w
 | 0,i,k,g,s,a,w,hi,h,hv=>by
  rw[List.drop_eq_nil_of_le (by simp;omega)]
  exact hK _ _ _ _ (h.next _) hv
 | n+1,i,k,g,s,a,w,hi,h,hv=>by
  have hlt:i < ops.size:=by omega
  have hd:ops.toList.drop i=ops[i]::ops.toList.drop (i+1):=by rw[List.drop_eq_getElem_cons (by simpa using hlt)];simp
  rw[hd]
  simp only[List.range'_succ,cr,Array.getElem?_eq_getElem hlt]at hv
  have hmem:ops[i] ∈ ops.toList:=by simp
  have hgn:(ops[i]).guard=none:=by simpa using List.all_eq_true.1 hg _ hmem
  unfold wpList
  rw[if_pos (by simp[Region.wanted,hgn])]
  refine .inl (yF h (fun d hd=> ?_) hv fun g' s' a' w' hr hk=>BI hok hg hK n (i+1) (k+1) g' s' a' w' (by omega) (hr.mono fun n hn=>by omega) hk)
  have:=List.all_eq_true.1 hok _ hmem
  unfold nj at this;rw[hd]at this;simpa using this
theorem iM {wd:List Nat}: ∀ (c:Code) (F:Exit→AS→Prop) (s:AS),codeOk N c=true→mZ P wd c F s→Sound P W N w0 c F s
 | .seq x y,F,s,hok,hv,g,a,w,Q,h,hQ=>by
  simp only[codeOk,Bool.and_eq_true]at hok
  simp only[mZ]at hv
  refine wp_seq (iM x _ s hok.1 hv g a w _ h fun e g' s' a' w' h' hk=> ?_)
  cases e with
  | normal=>exact iM y F s' hok.2 hk g' a' w' Q h' hQ
  | _=>exact hQ _ _ _ _ _ h' hk
 | .cond c x y,F,s,hok,hv,g,a,w,Q,h,hQ=>by
  simp only[codeOk,Bool.and_eq_true]at hok
  simp only[mZ,ni]at hv
  split at hv
  ·rename_i b hb
   refine wp_cond_split (t:=b) (by rw[h.eval hb];rfl) (fun ht=> ?_) (fun hf=> ?_)
   ·exact iM x F s hok.1 (hv.1 ht) g a w Q h hQ
   ·exact iM y F s hok.2 (hv.2 hf) g a w Q h hQ
  ·exact hv.elim
 | .block id c,F,s,hok,hv,g,a,w,Q,h,hQ=>by
  simp only[codeOk]at hok
  simp only[mZ]at hv
  refine wp_block (iM c _ s hok hv g a w _ h fun e g' s' a' w' h' hk=> ?_)
  cases e with
  | exit id'=>
   simp only[iD]at hk
   simp only[Exit.inBlock]
   split
   ·rename_i e;rw[if_pos e]at hk;exact hQ _ _ _ _ _ h' hk
   ·rename_i e;rw[if_neg e]at hk;exact hQ _ _ _ _ _ h' hk
  | _=>exact hQ _ _ _ _ _ h' hk
 | .loop c,F,s,hok,hv,g,a,w,Q,h,hQ=>by
  simp only[codeOk]at hok
  simp only[mZ]at hv
  obtain ⟨ι,st,μ,i₀,⟨r,hr,hid⟩,TR,hbody⟩:=hv
  have zG: ∀ (r:Nat→Nat),(∀ n,n < s.next→r n=n)→ ∀ i n,n < w0.pn→r n=n∧n < (st i).next:=fun r hid i n hn=>⟨hid n (h.pin n hn).1,Nat.lt_of_lt_of_le (h.pin n hn).1 (TR i)⟩
  let p:Act→World→Nat→Prop:=fun a w n=> ∃ i g,μ i=n∧bP W N w0 (fun n=>n < (st i).next) g (st i) a w
  have hmin: ∀ a w,(∃ n,p a w n)→ ∃ n,p a w n∧ ∀ k,p a w k→n≤k:=fun a w hx=>tw _ hx
  have hm: ∃ m:Act→World→Nat, ∀ a w,(∃ n,p a w n)→p a w (m a w)∧ ∀ k,p a w k→m a w≤k:=by
   refine ⟨fun a w=>Classical.epsilon (fun n=>p a w n∧ ∀ k,p a w k→n≤k),fun a w hx=> ?_⟩
   exact Classical.epsilon_spec (hmin a w hx)
  obtain ⟨m,hm⟩:=hm
  refine wp_loop (fun a w=> ∃ n,p a w n) m ⟨_,i₀,_,rfl,h.eZ hr (zG r hid i₀)⟩ (fun a1 w1 hI=> ?_)
  obtain ⟨⟨i,g1,hmu,h1⟩,Xw⟩:=hm a1 w1 hI
  refine iM c _ (st i) hok (hbody i) g1 a1 w1 _ h1 fun e g' s' a' w' h' hk=> ?_
  cases e with
  | normal=>
   obtain ⟨j,hlt,r',hr',Xx⟩:=hk
   have hp:p a' w' (μ j):=⟨j,_,rfl,h'.eZ hr' (zG r' Xx j)⟩
   refine ⟨⟨_,hp⟩, ?_⟩
   have:=(hm a' w' ⟨_,hp⟩).2 _ hp
   omega
  | _=>exact hQ _ _ _ _ _ h' hk
 | .region id ops true,F,s,hok,hv,g,a,w,Q,h,hQ=>by
  simp only[mZ]at hv
  split at hv
  ·obtain ⟨hm,⟨A,R,Z,F',dm,h1,h2,hv⟩ | ⟨A,R,Z,F',dm,pm,h1,h2,hv⟩ | ⟨A,R,Z,F',dm,pm,tr,h1,h3,h2,hv⟩⟩:=hv
   ·exact wp_region_any hm (Jx (K:=F .normal) hok h1 h2 (fun g' s' a' w' h' hk=>hQ _ _ _ _ _ h' hk) h.drew hv)
   ·exact wp_region_any hm (Gx (K:=F .normal) hok h1 h2 (fun g' s' a' w' h' hk=>hQ _ _ _ _ _ h' hk) h.drew hv)
   ·exact wp_region_any hm (Gz (K:=F .normal) hok h1 h3 h2 (fun g' s' a' w' h' hk=>hQ _ _ _ _ _ h' hk) h.drew hv)
  ·exact dB _ F s hok hv g a w Q h hQ
 | .region id ops false,F,s,hok,hv,g,a,w,Q,h,hQ=>by
  simp only[mZ]at hv
  split at hv
  ·obtain ⟨h1,hv⟩:=hv
   refine wp_region_list ?_
   have:=BI (base:=s.next) (K:=F .normal) (Q:=Q) hok h1 (fun g' s' a' w' h' hk=>hQ _ _ _ _ _ h' hk) ops.size 0 0 g s a w (by omega) (h.mono fun n hn=>by omega) hv
   simpa using this
  ·exact cY _ F s hok hv g a w Q h hQ
 | .skip,F,s,hok,hv,g,a,w,Q,h,hQ=>dB _ F s hok hv g a w Q h hQ
 | .exit id,F,s,hok,hv,g,a,w,Q,h,hQ=>dB _ F s hok hv g a w Q h hQ
 | .ret,F,s,hok,hv,g,a,w,Q,h,hQ=>dB _ F s hok hv g a w Q h hQ
 | .rangeFunc .., F,s,hok,hv,g,a,w,Q,h,hQ=>dB _ F s hok hv g a w Q h hQ
 | .scope _,F,s,hok,hv,g,a,w,Q,h,hQ=>dB _ F s hok hv g a w Q h hQ
 | .label _,F,s,hok,hv,g,a,w,Q,h,hQ=>dB _ F s hok hv g a w Q h hQ
 | .goto _,F,s,hok,hv,g,a,w,Q,h,hQ=>dB _ F s hok hv g a w Q h hQ
 | .refuse _,F,s,hok,hv,g,a,w,Q,h,hQ=>dB _ F s hok hv g a w Q h hQ
def uJ (P:Program) [Tables P] (wd:List Nat) (m:Nat) (Ik:AS→Prop):Nat→Code→(Exit→AS→Prop)→AS→Prop
 | 0,_,_,s=> ∃ s2,mh m s s2∧m≤s2.next∧Ik s2
 | n+1, .seq a b,F,s=>mZ P wd a (gE (uJ P wd m Ik n b F) F) s
 | _+1,_,_,_=>False
def Oh (P:Program) [Tables P] (wd:List Nat) (m:Nat):List Nat→Code→(Exit→AS→Prop)→AS→Prop
 | [],c,F,s=>mZ P wd c F s
 | n::r,c,F,s=> ∃ Ik:AS→Prop,uJ P wd m Ik n c F s∧ ∀ s2,Ik s2→Oh P wd m r (oA n c) F s2
theorem tL {wd:List Nat} {m:Nat} (hm:w0.pn≤m) {Ik:AS→Prop}: ∀ (n:Nat) (c:Code) (F:Exit→AS→Prop) (s:AS),codeOk N c=true→uJ P wd m Ik n c F s→(∀ s2,Ik s2→Sound P W N w0 (oA n c) F s2)→Sound P W N w0 c F s
 | 0,c,F,s,hok,hv,ht,g,a,w,Q,h,hQ=>by
  obtain ⟨s2,⟨r,hr,hr0⟩,hn,hmid⟩:=hv
  exact ht s2 hmid _ a w Q (h.eZ hr fun n hn'=>⟨hr0 n (by omega),by omega⟩) hQ
 | n+1, .seq x y,F,s,hok,hv,ht,g,a,w,Q,h,hQ=>by
  simp only[codeOk,Bool.and_eq_true]at hok
  refine wp_seq (iM x _ s hok.1 hv g a w _ h fun e g' s' a' w' h' hk=> ?_)
  cases e with
  | normal=>exact tL hm n y F s' hok.2 hk ht g' a' w' Q h' hQ
  | _=>exact hQ _ _ _ _ _ h' hk
theorem ry {wd:List Nat} {m:Nat} (hm:w0.pn≤m): ∀ (Jy:List Nat) (c:Code) (F:Exit→AS→Prop) (s:AS),codeOk N c=true→Oh P wd m Jy c F s→Sound P W N w0 c F s
 | [],c,F,s,hok,hv=>iM c F s hok hv
 | n::r,c,F,s,hok,hv=>by
  obtain ⟨Ik,h1,h2⟩:=hv
  exact tL hm n c F s hok h1 fun s2 hs=>ry hm r _ F s2 (F0 n c hok) (h2 s2 hs)
theorem cW {f:Nat} {fn:Func} {c:Code} (hf:P.funcs[f]? =some fn) (hb:fn.body=some c) (hok:codeOk fn.ntmps c=true) (wd Jy:List Nat) {args:List AV} {k m:Nat} {ins:Nat→Option aI}
  (hlen:args.length≤fn.ntmps) (hc:au P f=true) (hm4:m≤4) (hargs: ∀ v ∈ args,AV.ok (fun n=>n < k) v) (hall: ∀ n,n < k→ ∃ b,ins n=some b) (dw: ∀ n b,ins n=some b→n < k∧ ∀ x ∈ b.cells,SV.ok (fun n=>n < k) x)
  {Post:AV→(Nat→Option aI)→Prop} (hv:Oh P wd k Jy c (mL P fn.results.toList (tK k m Post)) (start args ins k)):gy P f args k m ins Post:=
 yJ hf hb hlen hc hm4 hargs hall dw fun W w0 hp=>ry hp Jy c _ _ hok hv
theorem fh {f:Nat} {fn:Func} {c:Code} (hf:P.funcs[f]? =some fn) (hb:fn.body=some c) (hok:codeOk fn.ntmps c=true) (wd Jy:List Nat) {args:List AV} {k:Nat} {ins:Nat→Option aI}
  (hlen:args.length≤fn.ntmps) (hc:au P f=true) (hargs: ∀ v ∈ args,AV.ok (fun n=>n < k) v) (hall: ∀ n,n < k→ ∃ b,ins n=some b) (dw: ∀ n b,ins n=some b→n < k∧ ∀ x ∈ b.cells,SV.ok (fun n=>n < k) x)
  {Post:AV→(Nat→Option aI)→Prop} (hv:Oh P wd k Jy c (mL P fn.results.toList (sV k Post)) (start args ins k)):bz P f args k ins Post:=
 zS hf hb hlen hc hargs hall dw fun W w0 hp=>ry hp Jy c _ _ hok hv
variable {wd:List Nat} {F:Exit→AS→Prop}
theorem Ml {a b:Code}:mZ P wd (.seq a b) F s=mZ P wd a (gE (mZ P wd b F) F) s:=rfl
theorem GA {c:Operand} {a b:Code}:mZ P wd (.cond c a b) F s=ni (s.aL c) (mZ P wd a F) (mZ P wd b F) s:=rfl
theorem BJ {id:Nat} {c:Code}:mZ P wd (.block id c) F s=mZ P wd c (iD id F) s:=rfl
theorem GB {c:Code}:mZ P wd (.loop c) F s=kZ (mZ P wd c) F s:=rfl
theorem Wq {id:Nat} {ops:Array Oper}:mZ P wd (.region id ops true) F s=if wd.contains id=true then yK P ops (F .normal) s else qE P (.region id ops true) F s:=rfl
theorem Wr {id:Nat} {ops:Array Oper}:mZ P wd (.region id ops false) F s=if wd.contains id=true then UG P ops (F .normal) s else vc P (.region id ops false) F s:=rfl
theorem GD:mZ P wd .skip F s=vc P .skip F s:=rfl
theorem Mm:mZ P wd .ret F s=vc P .ret F s:=rfl
theorem GF {id:Nat}:mZ P wd (.exit id) F s=vc P (.exit id) F s:=rfl
theorem wc {m:Nat} {Ik:AS→Prop} {n:Nat} {a b:Code}:uJ P wd m Ik (n+1) (.seq a b) F s=mZ P wd a (gE (uJ P wd m Ik n b F) F) s:=rfl
theorem GG {m:Nat} {c:Code}:Oh P wd m [] c F s=mZ P wd c F s:=rfl
def rz (P:Program) [Tables P] (nm:Nat) (o:Option Oper) (K:AS→Prop) (s:AS):Prop:=match o with
 | some o=>kv P nm o K s
 | none=>False
def Rd (P:Program) [Tables P] (nm:Nat) (o:Option Oper) (K:AS→Prop) (s:AS):Prop:=match o with
 | some o=>bM P nm o K s
 | none=>False
theorem Mn {ops:Array Oper} {base k:Nat} {K:AS→Prop} {e:Nat→Option AV} {b:Nat→Option aI} {n:Nat}:cr P ops base K [] k ⟨e,b,n⟩=K ⟨e,b,base+4*(k+1)⟩:=rfl
theorem GH {l:List Oper} {base k i:Nat} {r:List Nat} {K:AS→Prop}:cr P l.toArray base K (i::r) k s=rz P (base+4*(k+1)) l[i]? (cr P l.toArray base K r (k+1)) s:=by
 unfold cr rz;rw[List.getElem?_toArray];cases l[i]? <;>rfl
theorem pure_nil {ops:Array Oper} {nm:Nat} {K:AS→Prop}:hY P ops nm K [] s=K s:=rfl
theorem pure_cons {l:List Oper} {nm i:Nat} {r:List Nat} {K:AS→Prop}:hY P l.toArray nm K (i::r) s=Rd P nm l[i]? (hY P l.toArray nm K r) s:=by
 unfold hY Rd;rw[List.getElem?_toArray];cases l[i]? <;>rfl
theorem yL {nm:Nat} {o:Oper} {K:AS→Prop}:Rd P nm (some o) K s=bM P nm o K s:=rfl
theorem BK {nm f:Nat} {xs:Array Operand} {tys:Array TypeId} {dst:Option Nat} {ty:TypeId} {pos:String} {after:Array Edge} {K:AS→Prop}:
  rz P nm (some ⟨dst, .call ⟨.value (.func f),xs,tys⟩,ty,pos,after,none⟩) K s=if au P f=true then bw P nm f (bk s xs.toList) dst K s else ox P f (bk s xs.toList) dst K s:=rfl
theorem BL {nm:Nat} {x:Operand} {dst:Option Nat} {ty:TypeId} {pos:String} {after:Array Edge} {K:AS→Prop}:rz P nm (some ⟨dst, .move x,ty,pos,after,none⟩) K s=bM P nm ⟨dst, .move x,ty,pos,after,none⟩ K s:=rfl
theorem wh {nm:Nat} {x:Operand} {dst:Option Nat} {ty:TypeId} {pos:String} {after:Array Edge} {K:AS→Prop}:rz P nm (some ⟨dst, .assign x,ty,pos,after,none⟩) K s=bM P nm ⟨dst, .assign x,ty,pos,after,none⟩ K s:=rfl
theorem yM {nm:Nat} {t:TypeId} {dst:Option Nat} {ty:TypeId} {pos:String} {after:Array Edge} {K:AS→Prop}:rz P nm (some ⟨dst, .alloc t,ty,pos,after,none⟩) K s=bM P nm ⟨dst, .alloc t,ty,pos,after,none⟩ K s:=rfl
theorem GI {nm:Nat} {t:TypeId} {x:Operand} {dst:Option Nat} {ty:TypeId} {pos:String} {after:Array Edge} {K:AS→Prop}:rz P nm (some ⟨dst, .box t x,ty,pos,after,none⟩) K s=bM P nm ⟨dst, .box t x,ty,pos,after,none⟩ K s:=rfl
theorem yN {nm:Nat} {t:TypeId} {ps:Array (Nat×Operand)} {dst:Option Nat} {ty:TypeId} {pos:String} {after:Array Edge} {K:AS→Prop}:rz P nm (some ⟨dst, .build t ps,ty,pos,after,none⟩) K s=bM P nm ⟨dst, .build t ps,ty,pos,after,none⟩ K s:=rfl
theorem BM {nm:Nat} {t:TypeId} {x:Operand} {dst:Option Nat} {ty:TypeId} {pos:String} {after:Array Edge} {K:AS→Prop}:rz P nm (some ⟨dst, .load t x,ty,pos,after,none⟩) K s=bM P nm ⟨dst, .load t x,ty,pos,after,none⟩ K s:=rfl
theorem yO {nm:Nat} {t:TypeId} {x y:Operand} {dst:Option Nat} {ty:TypeId} {pos:String} {after:Array Edge} {K:AS→Prop}:rz P nm (some ⟨dst, .store t x y,ty,pos,after,none⟩) K s=bM P nm ⟨dst, .store t x y,ty,pos,after,none⟩ K s:=rfl
theorem o9 {nm:Nat} {t:TypeId} {x:Operand} {f:Nat} {dst:Option Nat} {ty:TypeId} {pos:String} {after:Array Edge} {K:AS→Prop}:rz P nm (some ⟨dst, .fieldAddr t x f,ty,pos,after,none⟩) K s=bM P nm ⟨dst, .fieldAddr t x f,ty,pos,after,none⟩ K s:=rfl
theorem qG {nm:Nat} {x:Operand} {dst:Option Nat} {ty:TypeId} {pos:String} {after:Array Edge} {K:AS→Prop}:rz P nm (some ⟨dst, .nilCheck x,ty,pos,after,none⟩) K s=bM P nm ⟨dst, .nilCheck x,ty,pos,after,none⟩ K s:=rfl
theorem aak {cs:List SV}:Jm (some ⟨false,cs⟩)=some ⟨false,cs⟩:=rfl
theorem ay:type_of% @Ml∧type_of% @GA∧type_of% @BJ∧type_of% @GB∧type_of% @Wq∧type_of% @Wr∧type_of% @GD∧type_of% @Mm∧type_of% @GF∧type_of% @wc∧type_of% @GG∧type_of% @Mn∧type_of% @GH∧type_of% @pure_nil∧type_of% @pure_cons∧type_of% @yL∧type_of% @BK∧type_of% @BL∧type_of% @wh∧type_of% @yM∧type_of% @GI∧type_of% @yN∧type_of% @BM∧type_of% @yO∧type_of% @o9∧type_of% @qG:=
 ⟨@Ml, @GA, @BJ, @GB, @Wq, @Wr, @GD, @Mm, @GF, @wc, @GG, @Mn, @GH, @pure_nil, @pure_cons, @yL, @BK, @BL, @wh, @yM, @GI, @yN, @BM, @yO, @o9, @qG⟩
end
end Go.bA
