/-
  The calculus: a region whose order Go leaves open, walked in each of its orders (a tree of them), for regions where what comes in another order is not independent by the region's text alone. Nothing here speaks of a program.
-/
import Derived.Test.YtkaamnnjeandlaaDoorVcgK
namespace Go.bM
set_option linter.unusedSectionVars false
set_option linter.unusedSimpArgs false
set_option linter.unusedVariables false
inductive cp where
 | nil:cp
 | cons (i:Nat) (next:cp) (rest:cp):cp
def cp.heads:cp→List Nat
 | .nil=>[]
 | .cons i _ r=>i::r.heads
def cp.here (ops:Array Oper) (fuel:Nat) (listed:Array Bool) (t:cp):Bool:=
 (t.heads==Region.ready .any ops listed)&&(fuel != 0||(Region.ready .any ops listed).isEmpty)
def cp.all (ops:Array Oper):Nat→Array Bool→cp→Bool
 | _,_, .nil=>true
 | fuel,listed, .cons i t r=>(match fuel with
  | 0=>false
  | f+1=>cp.here ops f (listed.setIfInBounds i true) t&&cp.all ops f (listed.setIfInBounds i true) t)&&cp.all ops fuel listed r
def cp.good (ops:Array Oper) (t:cp):Bool:=cp.here ops ops.size (Array.replicate ops.size false) t&&cp.all ops ops.size (Array.replicate ops.size false) t
def ub (P:Program) [Tables P] (ops:Array Oper) (nm i:Nat) (K:AS→Prop) (s:AS):Prop:=match ops[i]? with
 | some o=>tZ P ops nm o K s
 | none=>False
def VY (P:Program) [Tables P] (ops:Array Oper) (nm:Nat) (o:Option Oper) (K:AS→Prop) (s:AS):Prop:=match o with
 | some o=>tZ P ops nm o K s
 | none=>False
def xZ (P:Program) [Tables P] (ops:Array Oper) (base:Nat) (K:AS→Prop):cp→Nat→AS→Prop
 | .nil,k,s=>K { s with next:=base+k }
 | .cons i t .nil,k,s=>ub P ops (base+k) i (xZ P ops base K t (k+1)) s
 | .cons i t (.cons j u r),k,s=>ub P ops (base+k) i (xZ P ops base K t (k+1)) s∧xZ P ops base K (.cons j u r) k s
section
variable {P:Program} [Tables P] {W:Nat→Prop} {N:Nat} {w0:Base P} {g:Where} {s:AS} {a:Act} {w:World}
theorem FE {ops:Array Oper} {nm i:Nat} {K:AS→Prop} (hok:ops.toList.all (lO N)=true) {next:Act→World→Prop} {Q:Exit→Act→World→Prop} (h:br W N w0 (fun n=>n < nm) g s a w) (hv:ub P ops nm i K s)
  (hK: ∀ g' s' a' w',br W N w0 (fun n=>n < nm+1) g' s' a' w'→K s'→next a' w'):wpOp P ops Q i next a w:=by
 unfold ub at hv
 unfold wpOp
 split at hv
 ·rename_i o ho
  simp only[ho]
  have hd: ∀ d,o.dst=some d→d < N:=fun d hd=>by
   have:=List.all_eq_true.1 hok o (by simpa using Array.mem_of_getElem? ho)
   unfold lO at this;rw[hd]at this;simpa using this
  have go:bK P nm o K s→o.wp P a w next Q:=fun hr=>kt h hd hr hK
  unfold tZ at hv
  cases hg:o.guard with
  | none=>
   rw[hg]at hv
   rw[if_pos (by simp[Region.wanted,hg])]
   exact .inl (go hv)
  | some p=>
   obtain ⟨j,want⟩:=p
   rw[hg]at hv
   simp only[fL]at hv
   split at hv
   ·rename_i b hb
    have hy:=iz h hg hb
    by_cases qO:b=want
    ·rw[if_pos (by rw[hy];simp[qO])]
     exact .inl (go (hv.1 qO))
    ·rw[if_neg (by rw[hy];simp[qO])]
     exact hK _ _ _ _ ((h.put hd (v:=V undef) trivial).mono (fun n hn=>by omega)) (hv.2 qO)
   ·exact hv.elim
 ·exact hv.elim
theorem zq {ops:Array Oper} {base fuel:Nat} {K:AS→Prop} {listed:Array Bool}: ∀ (t:cp) (k:Nat) (s:AS),cp.all ops (fuel+1) listed t=true→xZ P ops base K t k s→ ∀ i ∈ t.heads,
  ∃ u,cp.here ops fuel (listed.setIfInBounds i true) u=true∧cp.all ops fuel (listed.setIfInBounds i true) u=true∧ub P ops (base+k) i (xZ P ops base K u (k+1)) s
 | .nil,_,_,_,_,i,hi=>by cases hi
 | .cons j u .nil,k,s,ha,hv,i,hi=>by
  simp only[cp.heads,List.mem_singleton]at hi
  subst hi
  simp only[cp.all,Bool.and_eq_true]at ha
  exact ⟨u,ha.1.1,ha.1.2,hv⟩
 | .cons j u (.cons j' u' r),k,s,ha,hv,i,hi=>by
  rw[cp.all]at ha
  simp only[Bool.and_eq_true]at ha
  rcases List.mem_cons.1 hi with rfl | hi
  ·exact ⟨u,ha.1.1,ha.1.2,hv.1⟩
  ·exact zq (.cons j' u' r) k s ha.2 hv.2 i hi
theorem AJ {ops:Array Oper} {base:Nat} {K:AS→Prop} {Q:Exit→Act→World→Prop} (hok:ops.toList.all (lO N)=true) (hK: ∀ g' s' a' w',br W N w0 (fun n=>n < s'.next) g' s' a' w'→K s'→Q .normal a' w'):
  ∀ (fuel:Nat) (listed:Array Bool) (t:cp) (k:Nat) (g:Where) (s:AS) (a:Act) (w:World),cp.here ops fuel listed t=true→cp.all ops fuel listed t=true→
   br W N w0 (fun n=>n < base+k) g s a w→xZ P ops base K t k s→wpAny P .any ops Q fuel listed a w
 | 0,listed,t,k,g,s,a,w,hh,ha,h,hv=>by
  simp only[cp.here,Bool.and_eq_true,beq_iff_eq,bne_self_eq_false,Bool.false_or,List.isEmpty_iff]at hh
  obtain ⟨h1,h2⟩:=hh
  rw[h2]at h1
  cases t with
  | nil=>exact ⟨h2,hK _ _ _ _ (h.next _) hv⟩
  | cons i u r=>simp[cp.heads]at h1
 | fuel+1,listed,t,k,g,s,a,w,hh,ha,h,hv=>by
  simp only[cp.here,Bool.and_eq_true,beq_iff_eq]at hh
  obtain ⟨h1,_⟩:=hh
  refine ⟨fun hr=> ?_,fun i hi=> ?_⟩
  ·rw[hr]at h1
   cases t with
   | nil=>exact hK _ _ _ _ (h.next _) hv
   | cons i u r=>simp[cp.heads]at h1
  ·rw[← h1]at hi
   obtain ⟨u,Sy,Oc,lj⟩:=zq t k s ha hv i hi
   exact FE hok h lj fun g' s' a' w' h' hk=>AJ hok hK fuel _ u (k+1) g' s' a' w' Sy Oc (h'.mono fun n hn=>by omega) hk
theorem vC {ops:Array Oper} {base:Nat} {K:AS→Prop} {Q:Exit→Act→World→Prop} {t:cp} (hK: ∀ g' s' a' w',br W N w0 (fun n=>n < s'.next) g' s' a' w'→K s'→Q .normal a' w')
  (ht:cp.good ops t=true) (hok:ops.toList.all (lO N)=true) (h:br W N w0 (fun n=>n < base) g s a w) (hv:xZ P ops base K t 0 s):
  wpAny P .any ops Q ops.size (Array.replicate ops.size false) a w:=by
 simp only[cp.good,Bool.and_eq_true]at ht
 exact AJ hok hK _ _ t 0 g s a w ht.1 ht.2 (by simpa using h) hv
def oM (P:Program) [Tables P]:Code→(Exit→AS→Prop)→AS→Prop
 | .region id ops true,F,s=>vc P (.region id ops true) F s∨(P.follows .mixedOrders=true∧ ∃ t,cp.good ops t=true∧xZ P ops s.next (F .normal) t 0 s)
 | .seq a b,F,s=>oM P a (fa (oM P b F) F) s
 | .cond c a b,F,s=>lN (s.aK c) (oM P a F) (oM P b F) s
 | .block id c,F,s=>oM P c (eD id F) s
 | c,F,s=>vc P c F s
theorem dB: ∀ (c:Code) (F:Exit→AS→Prop) (s:AS),codeOk N c=true→oM P c F s→ ∀ (g:Where) (a:Act) (w:World) (Q:Exit→Act→World→Prop),br W N w0 (fun n=>n < s.next) g s a w→
  (∀ e g' s' a' w',br W N w0 (fun n=>n < s'.next) g' s' a' w'→F e s'→Q e a' w')→c.wp P Q a w
 | .region id ops true,F,s,hok,hv,g,a,w,Q,h,hQ=>by
  simp only[oM]at hv
  rcases hv with hv | ⟨hm,t,ht,hv⟩
  ·exact dn _ F s hok hv g a w Q h hQ
  ·exact wp_region_any hm (vC (K:=F .normal) (base:=s.next) (fun g' s' a' w' h' hk=>hQ _ _ _ _ _ h' hk) ht hok h.drew hv)
 | .seq x y,F,s,hok,hv,g,a,w,Q,h,hQ=>by
  simp only[codeOk,Bool.and_eq_true]at hok
  simp only[oM]at hv
  refine wp_seq (dB x _ s hok.1 hv g a w _ h fun e g' s' a' w' h' hk=> ?_)
  cases e with
  | normal=>exact dB y F s' hok.2 hk g' a' w' Q h' hQ
  | _=>exact hQ _ _ _ _ _ h' hk
 | .cond c x y,F,s,hok,hv,g,a,w,Q,h,hQ=>by
  simp only[codeOk,Bool.and_eq_true]at hok
  simp only[oM,lN]at hv
  split at hv
  ·rename_i b hb
   refine wp_cond_split (t:=b) (by rw[h.eval hb];rfl) (fun ht=> ?_) (fun hf=> ?_)
   ·exact dB x F s hok.1 (hv.1 ht) g a w Q h hQ
   ·exact dB y F s hok.2 (hv.2 hf) g a w Q h hQ
  ·exact hv.elim
 | .block id c,F,s,hok,hv,g,a,w,Q,h,hQ=>by
  simp only[codeOk]at hok
  simp only[oM]at hv
  refine wp_block (dB c _ s hok hv g a w _ h fun e g' s' a' w' h' hk=> ?_)
  cases e with
  | exit id'=>
   simp only[eD]at hk
   simp only[Exit.inBlock]
   split
   ·rename_i e;rw[if_pos e]at hk;exact hQ _ _ _ _ _ h' hk
   ·rename_i e;rw[if_neg e]at hk;exact hQ _ _ _ _ _ h' hk
  | _=>exact hQ _ _ _ _ _ h' hk
 | .skip,F,s,hok,hv,g,a,w,Q,h,hQ=>dn _ F s hok hv g a w Q h hQ
 | .region id ops false,F,s,hok,hv,g,a,w,Q,h,hQ=>dn _ F s hok hv g a w Q h hQ
 | .loop c,F,s,hok,hv,g,a,w,Q,h,hQ=>dn _ F s hok hv g a w Q h hQ
 | .exit id,F,s,hok,hv,g,a,w,Q,h,hQ=>dn _ F s hok hv g a w Q h hQ
 | .ret,F,s,hok,hv,g,a,w,Q,h,hQ=>dn _ F s hok hv g a w Q h hQ
 | .rangeFunc .., F,s,hok,hv,g,a,w,Q,h,hQ=>dn _ F s hok hv g a w Q h hQ
 | .scope _,F,s,hok,hv,g,a,w,Q,h,hQ=>dn _ F s hok hv g a w Q h hQ
 | .label _,F,s,hok,hv,g,a,w,Q,h,hQ=>dn _ F s hok hv g a w Q h hQ
 | .goto _,F,s,hok,hv,g,a,w,Q,h,hQ=>dn _ F s hok hv g a w Q h hQ
 | .refuse _,F,s,hok,hv,g,a,w,Q,h,hQ=>dn _ F s hok hv g a w Q h hQ
theorem AK {f:Nat} {fn:Func} {c:Code} (hf:P.funcs[f]? =some fn) (hb:fn.body=some c) (hok:codeOk fn.ntmps c=true) {args:List AV} {box:Nat→Option aG} {n:Nat}
  (hlen:args.length≤fn.ntmps) (hlaid:Laid P w) (gR: ∀ b bx,Tables.row P b=some bx→ ¬ W b) (hn:Names (fun k=>k < n) (start args box n)) (hm:cw g (start args box n) w) (hown: ∀ t b,box t=some b→b.rw=true→W (g t).1)
  {Post:AV→AS→Prop} (hv:oM P c (jX P fn.results.toList Post) (start args box n)):
  Calls P f (args.map (AV.ah g)).toArray w fun e w'=> ∃ v g' s',e= .returned (AV.ah g' v)∧Post v s'∧AV.ok (fun k=>k < s'.next) v∧(∀ k,k < n→k < s'.next∧g' k=g k)∧cw g' s' w'∧Names (fun k=>k < s'.next) s'∧
   (∀ t b,s'.box t=some b→b.rw=true→w.heap.size≤(g' t).1∨W (g' t).1)∧Frame W w w':=by
 refine calls_of_wp hf hb ?_
 refine dB (N:=fn.ntmps) (W:=W) (w0:=⟨w,n,g,hlaid⟩) c _ _ hok hv g _ w _ ⟨?_,rfl, ?_,hn,hm,fun t b hb hrw=>Or.inr (hown t b hb hrw),Frame.refl _ _,fun k hk=>⟨hk,rfl⟩,gR⟩ ?_
 ·simp;omega
 ·intro d v hd
  simp only[start]at hd
  have hlt:d < args.length:=(List.getElem?_eq_some_iff.1 hd).1
  rw[Array.getElem?_append_left (by simpa using hlt)]
  simp[hd]
 ·intro e g' s' a' w' h' hk
  have fin:nW (iV (fO P s' fn.results.toList)) Post s'→ ∃ v,(results fn a'.tmps).run P w'= .ok (AV.ah g' v) w'∧Post v s'∧AV.ok (fun k=>k < s'.next) v:=fun hr=>by
   unfold nW at hr
   split at hr
   ·rename_i v hv
    obtain ⟨h1,h2⟩:=gy h' hv
    exact ⟨v,h1,hr,h2⟩
   ·exact hr.elim
  cases e<;>simp only[jX]at hk
  ·obtain ⟨v,h1,h2,h3⟩:=fin hk
   exact ⟨h'.defers,_,h1,v,g',s',rfl,h2,h3,h'.pin,h'.mem,h'.names,h'.own,h'.frame⟩
  ·obtain ⟨v,h1,h2,h3⟩:=fin hk
   exact ⟨h'.defers,_,h1,v,g',s',rfl,h2,h3,h'.pin,h'.mem,h'.names,h'.own,h'.frame⟩
theorem Dq {f:Nat} {fn:Func} {c:Code} (hf:P.funcs[f]? =some fn) (hb:fn.body=some c) (hok:codeOk fn.ntmps c=true) {l:List AV} {Post:AV→Prop}
  (hlen:l.length≤fn.ntmps) (hl:l.all AV.plain=true) (hr: ∀ r,Post r→AV.plain r=true) (hv:oM P c (jX P fn.results.toList (fun v _=>Post v)) (start l (fun _=>none) 0)):Pure P f l Post:=by
 refine ⟨hl,hr,fun w hlaid=> ?_⟩
 have hM:l.map AV.val=l.map (AV.ah fun _=>(0,0)):=rfl
 rw[hM]
 refine (AK (W:=fun _=>False) (g:=fun _=>(0,0)) hf hb hok hlen hlaid (fun _ _ _=>id) ⟨fun d v hd=> ?_,fun t b hb=> ?_⟩ ⟨fun t b hb=> ?_,fun t b hb=> ?_,fun t b hb=> ?_,fun t t' b b' hb=> ?_⟩ (fun t b hb=> ?_) hv).mono ?_
 ·simp only[start]at hd
  exact AV.dq (List.all_eq_true.1 hl v (List.mem_of_getElem? hd))
 ·simp[start]at hb
 ·simp[start]at hb
 ·simp[start]at hb
 ·simp[start]at hb
 ·simp[start]at hb
 ·simp at hb
 ·rintro e w' ⟨v,g',s',rfl,hpost,VO,uY,hm,hn,hown,hfr⟩
  exact ⟨v,hpost,by rw[AV.gj (hr v hpost)],hfr⟩
theorem jf {f:Nat} {fn:Func} {c:Code} (hf:P.funcs[f]? =some fn) (hb:fn.body=some c) (hok:codeOk fn.ntmps c=true) {l:List AV} {r:AV}
  (hlen:l.length≤fn.ntmps) (hl:l.all AV.plain=true) (hr:AV.plain r=true) (hv:oM P c (jX P fn.results.toList (fun v _=>v=r)) (start l (fun _=>none) 0)):sM P f l r:=
 Dq hf hb hok hlen hl (fun _ hv=>hv▸hr) hv
theorem HW {a b:Code} {F:Exit→AS→Prop}:oM P (.seq a b) F s=oM P a (fa (oM P b F) F) s:=rfl
theorem Dr {c:Operand} {a b:Code} {F:Exit→AS→Prop}:oM P (.cond c a b) F s=lN (s.aK c) (oM P a F) (oM P b F) s:=rfl
theorem zr {id:Nat} {c:Code} {F:Exit→AS→Prop}:oM P (.block id c) F s=oM P c (eD id F) s:=rfl
theorem vD {id:Nat} {ops:Array Oper} {F:Exit→AS→Prop}:oM P (.region id ops false) F s=vc P (.region id ops false) F s:=rfl
theorem Ds {F:Exit→AS→Prop}:oM P .skip F s=vc P .skip F s:=rfl
theorem HX {F:Exit→AS→Prop}:oM P .ret F s=vc P .ret F s:=rfl
theorem HY {ops:Array Oper} {base k:Nat} {K:AS→Prop} {e:Nat→Option AV} {b:Nat→Option aG} {n:Nat}:xZ P ops base K .nil k ⟨e,b,n⟩=K ⟨e,b,base+k⟩:=rfl
theorem HZ {ops:Array Oper} {base k i:Nat} {t:cp} {K:AS→Prop}:xZ P ops base K (.cons i t .nil) k s=ub P ops (base+k) i (xZ P ops base K t (k+1)) s:=rfl
theorem Dt {ops:Array Oper} {base k i j:Nat} {t u r:cp} {K:AS→Prop}:xZ P ops base K (.cons i t (.cons j u r)) k s=(ub P ops (base+k) i (xZ P ops base K t (k+1)) s∧xZ P ops base K (.cons j u r) k s):=rfl
theorem H0 {l:List Oper} {nm i:Nat} {K:AS→Prop}:ub P l.toArray nm i K s=VY P l.toArray nm l[i]? K s:=by unfold ub VY;simp
theorem Du {ops:Array Oper} {nm:Nat} {dst:Option Nat} {op:Op} {ty:TypeId} {pos:String} {after:Array Edge} {K:AS→Prop}:VY P ops nm (some ⟨dst,op,ty,pos,after,none⟩) K s=bK P nm ⟨dst,op,ty,pos,after,none⟩ K s:=rfl
end
theorem aS:type_of% @HW∧type_of% @Dr∧type_of% @zr∧type_of% @vD∧type_of% @Ds∧type_of% @HX∧type_of% @HY∧type_of% @HZ∧type_of% @Dt∧type_of% @H0∧type_of% @Du:=
 ⟨@HW, @Dr, @zr, @vD, @Ds, @HX, @HY, @HZ, @Dt, @H0, @Du⟩
end Go.bM
