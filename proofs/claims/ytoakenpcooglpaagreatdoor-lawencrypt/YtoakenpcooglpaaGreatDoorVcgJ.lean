/-
  The calculus: a region whose order Go leaves open, walked in each of its orders (a tree of them), for regions where what comes in another order is not independent by the region's text alone. Nothing here speaks of a program.
-/
import Derived.Test.YtoakenpcooglpaaGreatDoorVcgK
set_option linter.unusedVariables false
set_option linter.unusedSimpArgs false
namespace Go.cA
set_option linter.unusedSectionVars false
inductive cM where
 | nil:cM
 | cons (i:Nat) (next:cM) (rest:cM):cM
def cM.Fl:cM→List Nat
 | .nil=>[]
 | .cons i _ r=>i::r.Fl
def cM.here (ops:Array Oper) (fuel:Nat) (listed:Array Bool) (t:cM):Bool:=
 (t.Fl==Region.ready .any ops listed)&&(fuel != 0||(Region.ready .any ops listed).isEmpty)
def cM.all (ops:Array Oper):Nat→Array Bool→cM→Bool
 | _,_, .nil=>true
 | fuel,listed, .cons i t r=>(match fuel with
  | 0=>false
  | f+1=>cM.here ops f (listed.setIfInBounds i true) t&&cM.all ops f (listed.setIfInBounds i true) t)&&cM.all ops fuel listed r
def cM.good (ops:Array Oper) (t:cM):Bool:=cM.here ops ops.size (Array.replicate ops.size false) t&&cM.all ops ops.size (Array.replicate ops.size false) t
def Gz (P:Program) [Tables P] (ops:Array Oper) (nm i:Nat) (K:AS→Prop) (s:AS):Prop:=match ops[i]? with
 | some o=>wu P ops nm o K s
 | none=>False
def vcO (P:Program) [Tables P] (ops:Array Oper) (nm:Nat) (o:Option Oper) (K:AS→Prop) (s:AS):Prop:=match o with
 | some o=>wu P ops nm o K s
 | none=>False
def T8 (P:Program) [Tables P] (ops:Array Oper) (base:Nat) (K:AS→Prop):cM→Nat→AS→Prop
 | .nil,k,s=>K { s with next:=base+k }
 | .cons i t .nil,k,s=>Gz P ops (base+k) i (T8 P ops base K t (k+1)) s
 | .cons i t (.cons j u r),k,s=>Gz P ops (base+k) i (T8 P ops base K t (k+1)) s∧T8 P ops base K (.cons j u r) k s
section
variable {P:Program} [Tables P] {W:Nat→Prop} {N:Nat} {w0:gF P} {g:bG} {s:AS} {a:Act} {w:World}
theorem Oc {ops:Array Oper} {nm i:Nat} {K:AS→Prop} (hok:ops.toList.all (nj N)=true) {next:Act→World→Prop} {Q:Exit→Act→World→Prop} (h:cE W N w0 (fun n=>n < nm) g s a w) (hv:Gz P ops nm i K s)
  (hK: ∀ g' s' a' w',cE W N w0 (fun n=>n < nm+1) g' s' a' w'→K s'→next a' w'):wpOp P ops Q i next a w:=by
 unfold Gz at hv
 unfold wpOp
 split at hv
 ·rename_i o ho
  simp only[ho]
  have hd: ∀ d,o.dst=some d→d < N:=fun d hd=>by
   have:=List.all_eq_true.1 hok o (by simpa using Array.mem_of_getElem? ho)
   unfold nj at this;rw[hd]at this;simpa using this
  have go:cv P nm o K s→o.wp P a w next Q:=fun hr=>lu h hd hr hK
  unfold wu at hv
  cases hg:o.guard with
  | none=>
   rw[hg]at hv
   rw[if_pos (by simp[Region.wanted,hg])]
   exact .inl (go hv)
  | some p=>
   obtain ⟨j,want⟩:=p
   rw[hg]at hv
   simp only[dB]at hv
   split at hv
   ·rename_i b hb
    have hy:=iy h hg hb
    by_cases rv:b=want
    ·rw[if_pos (by rw[hy];simp[rv])]
     exact .inl (go (hv.1 rv))
    ·rw[if_neg (by rw[hy];simp[rv])]
     exact hK _ _ _ _ ((h.put hd (v:=V undef) trivial).mono (fun n hn=>by omega)) (hv.2 rv)
   ·exact hv.elim
 ·exact hv.elim
theorem Fm {ops:Array Oper} {base fuel:Nat} {K:AS→Prop} {listed:Array Bool}: ∀ (t:cM) (k:Nat) (s:AS),cM.all ops (fuel+1) listed t=true→T8 P ops base K t k s→ ∀ i ∈ t.Fl,
  ∃ u,cM.here ops fuel (listed.setIfInBounds i true) u=true∧cM.all ops fuel (listed.setIfInBounds i true) u=true∧Gz P ops (base+k) i (T8 P ops base K u (k+1)) s
 | .nil,_,_,_,_,i,hi=>by cases hi
 | .cons j u .nil,k,s,ha,hv,i,hi=>by
  simp only[cM.Fl,List.mem_singleton]at hi
  subst hi
  simp only[cM.all,Bool.and_eq_true]at ha
  exact ⟨u,ha.1.1,ha.1.2,hv⟩
 | .cons j u (.cons j' u' r),k,s,ha,hv,i,hi=>by
  rw[cM.all]at ha
  simp only[Bool.and_eq_true]at ha
  rcases List.mem_cons.1 hi with rfl | hi
  ·exact ⟨u,ha.1.1,ha.1.2,hv.1⟩
  ·exact Fm (.cons j' u' r) k s ha.2 hv.2 i hi
theorem T9 {ops:Array Oper} {base:Nat} {K:AS→Prop} {Q:Exit→Act→World→Prop} (hok:ops.toList.all (nj N)=true) (hK: ∀ g' s' a' w',cE W N w0 (fun n=>n < s'.next) g' s' a' w'→K s'→Q .normal a' w'):
  ∀ (fuel:Nat) (listed:Array Bool) (t:cM) (k:Nat) (g:bG) (s:AS) (a:Act) (w:World),cM.here ops fuel listed t=true→cM.all ops fuel listed t=true→
   cE W N w0 (fun n=>n < base+k) g s a w→T8 P ops base K t k s→wpAny P .any ops Q fuel listed a w
 | 0,listed,t,k,g,s,a,w,hh,ha,h,hv=>by
  simp only[cM.here,Bool.and_eq_true,beq_iff_eq,bne_self_eq_false,Bool.false_or,List.isEmpty_iff]at hh
  obtain ⟨h1,h2⟩:=hh
  rw[h2]at h1
  cases t with
  | nil=>exact ⟨h2,hK _ _ _ _ (h.next _) hv⟩
  | cons i u r=>simp[cM.Fl]at h1
 | fuel+1,listed,t,k,g,s,a,w,hh,ha,h,hv=>by
  simp only[cM.here,Bool.and_eq_true,beq_iff_eq]at hh
  obtain ⟨h1,_⟩:=hh
  refine ⟨fun hr=> ?_,fun i hi=> ?_⟩
  ·rw[hr]at h1
   cases t with
   | nil=>exact hK _ _ _ _ (h.next _) hv
   | cons i u r=>simp[cM.Fl]at h1
  ·rw[← h1]at hi
   obtain ⟨u,hu1,hu2,Co⟩:=Fm t k s ha hv i hi
   exact Oc hok h Co fun g' s' a' w' h' hk=>T9 hok hK fuel _ u (k+1) g' s' a' w' hu1 hu2 (h'.mono fun n hn=>by omega) hk
theorem Od {ops:Array Oper} {base:Nat} {K:AS→Prop} {Q:Exit→Act→World→Prop} {t:cM} (hK: ∀ g' s' a' w',cE W N w0 (fun n=>n < s'.next) g' s' a' w'→K s'→Q .normal a' w')
  (ht:cM.good ops t=true) (hok:ops.toList.all (nj N)=true) (h:cE W N w0 (fun n=>n < base) g s a w) (hv:T8 P ops base K t 0 s):
  wpAny P .any ops Q ops.size (Array.replicate ops.size false) a w:=by
 simp only[cM.good,Bool.and_eq_true]at ht
 exact T9 hok hK _ _ t 0 g s a w ht.1 ht.2 (by simpa using h) hv
def oR (P:Program) [Tables P]:Code→(Exit→AS→Prop)→AS→Prop
 | .region id ops true,F,s=>vc P (.region id ops true) F s∨(P.follows .mixedOrders=true∧ ∃ t,cM.good ops t=true∧T8 P ops s.next (F .normal) t 0 s)
 | .seq a b,F,s=>oR P a (fi (oR P b F) F) s
 | .cond c a b,F,s=>mP (s.aQ c) (oR P a F) (oR P b F) s
 | .block id c,F,s=>oR P c (iY id F) s
 | c,F,s=>vc P c F s
theorem dF: ∀ (c:Code) (F:Exit→AS→Prop) (s:AS),codeOk N c=true→oR P c F s→ ∀ (g:bG) (a:Act) (w:World) (Q:Exit→Act→World→Prop),cE W N w0 (fun n=>n < s.next) g s a w→
  (∀ e g' s' a' w',cE W N w0 (fun n=>n < s'.next) g' s' a' w'→F e s'→Q e a' w')→c.wp P Q a w
 | .region id ops true,F,s,hok,hv,g,a,w,Q,h,hQ=>by
  simp only[oR]at hv
  rcases hv with hv | ⟨hm,t,ht,hv⟩
  ·exact dI _ F s hok hv g a w Q h hQ
  ·exact wp_region_any hm (Od (K:=F .normal) (base:=s.next) (fun g' s' a' w' h' hk=>hQ _ _ _ _ _ h' hk) ht hok h.drew hv)
 | .seq x y,F,s,hok,hv,g,a,w,Q,h,hQ=>by
  simp only[codeOk,Bool.and_eq_true]at hok
  simp only[oR]at hv
  refine wp_seq (dF x _ s hok.1 hv g a w _ h fun e g' s' a' w' h' hk=> ?_)
  cases e with
  | normal=>exact dF y F s' hok.2 hk g' a' w' Q h' hQ
  | _=>exact hQ _ _ _ _ _ h' hk
 | .cond c x y,F,s,hok,hv,g,a,w,Q,h,hQ=>by
  simp only[codeOk,Bool.and_eq_true]at hok
  simp only[oR,mP]at hv
  split at hv
  ·rename_i b hb
   refine wp_cond_split (t:=b) (by rw[h.eval hb];rfl) (fun ht=> ?_) (fun hf=> ?_)
   ·exact dF x F s hok.1 (hv.1 ht) g a w Q h hQ
   ·exact dF y F s hok.2 (hv.2 hf) g a w Q h hQ
  ·exact hv.elim
 | .block id c,F,s,hok,hv,g,a,w,Q,h,hQ=>by
  simp only[codeOk]at hok
  simp only[oR]at hv
  refine wp_block (dF c _ s hok hv g a w _ h fun e g' s' a' w' h' hk=> ?_)
  cases e with
  | exit id'=>
   simp only[iY]at hk
   simp only[Exit.inBlock]
   split
   ·rename_i e;rw[if_pos e]at hk;exact hQ _ _ _ _ _ h' hk
   ·rename_i e;rw[if_neg e]at hk;exact hQ _ _ _ _ _ h' hk
  | _=>exact hQ _ _ _ _ _ h' hk
 | .skip,F,s,hok,hv,g,a,w,Q,h,hQ=>dI _ F s hok hv g a w Q h hQ
 | .region id ops false,F,s,hok,hv,g,a,w,Q,h,hQ=>dI _ F s hok hv g a w Q h hQ
 | .loop c,F,s,hok,hv,g,a,w,Q,h,hQ=>dI _ F s hok hv g a w Q h hQ
 | .exit id,F,s,hok,hv,g,a,w,Q,h,hQ=>dI _ F s hok hv g a w Q h hQ
 | .ret,F,s,hok,hv,g,a,w,Q,h,hQ=>dI _ F s hok hv g a w Q h hQ
 | .rangeFunc .., F,s,hok,hv,g,a,w,Q,h,hQ=>dI _ F s hok hv g a w Q h hQ
 | .scope _,F,s,hok,hv,g,a,w,Q,h,hQ=>dI _ F s hok hv g a w Q h hQ
 | .label _,F,s,hok,hv,g,a,w,Q,h,hQ=>dI _ F s hok hv g a w Q h hQ
 | .goto _,F,s,hok,hv,g,a,w,Q,h,hQ=>dI _ F s hok hv g a w Q h hQ
 | .refuse _,F,s,hok,hv,g,a,w,Q,h,hQ=>dI _ F s hok hv g a w Q h hQ
theorem GC {f:Nat} {fn:Func} {c:Code} (hf:P.funcs[f]? =some fn) (hb:fn.body=some c) (hok:codeOk fn.ntmps c=true) {args:List AV} {box:Nat→Option aW} {n:Nat}
  (hlen:args.length≤fn.ntmps) (hlaid:Laid P w) (ko: ∀ b bx,Tables.row P b=some bx→ ¬ W b) (hn:Names (fun k=>k < n) (start args box n)) (hm:eX g (start args box n) w) (hown: ∀ t b,box t=some b→b.rw=true→W (g t).1)
  {Post:AV→AS→Prop} (hv:oR P c (kY P fn.results.toList Post) (start args box n)):
  Calls P f (args.map (AV.av g)).toArray w fun e w'=> ∃ v g' s',e= .returned (AV.av g' v)∧Post v s'∧AV.ok (fun k=>k < s'.next) v∧(∀ k,k < n→k < s'.next∧g' k=g k)∧eX g' s' w'∧Names (fun k=>k < s'.next) s'∧
   (∀ t b,s'.box t=some b→b.rw=true→w.heap.size≤(g' t).1∨W (g' t).1)∧Frame W w w':=by
 refine calls_of_wp hf hb ?_
 refine dF (N:=fn.ntmps) (W:=W) (w0:=⟨w,n,g,hlaid⟩) c _ _ hok hv g _ w _ ⟨?_,rfl, ?_,hn,hm,fun t b hb hrw=>Or.inr (hown t b hb hrw),Frame.refl _ _,fun k hk=>⟨hk,rfl⟩,ko⟩ ?_
 ·simp;omega
 ·intro d v hd
  simp only[start]at hd
  have hlt:d < args.length:=(List.getElem?_eq_some_iff.1 hd).1
  rw[Array.getElem?_append_left (by simpa using hlt)]
  simp[hd]
 ·intro e g' s' a' w' h' hk
  have fin:sV (jQ (fZ P s' fn.results.toList)) Post s'→ ∃ v,(results fn a'.tmps).run P w'= .ok (AV.av g' v) w'∧Post v s'∧AV.ok (fun k=>k < s'.next) v:=fun hr=>by
   unfold sV at hr
   split at hr
   ·rename_i v hv
    obtain ⟨h1,h2⟩:=j5 h' hv
    exact ⟨v,h1,hr,h2⟩
   ·exact hr.elim
  cases e<;>simp only[kY]at hk
  ·obtain ⟨v,h1,h2,h3⟩:=fin hk
   exact ⟨h'.defers,_,h1,v,g',s',rfl,h2,h3,h'.kJ,h'.mem,h'.names,h'.own,h'.frame⟩
  ·obtain ⟨v,h1,h2,h3⟩:=fin hk
   exact ⟨h'.defers,_,h1,v,g',s',rfl,h2,h3,h'.kJ,h'.mem,h'.names,h'.own,h'.frame⟩
theorem LC {f:Nat} {fn:Func} {c:Code} (hf:P.funcs[f]? =some fn) (hb:fn.body=some c) (hok:codeOk fn.ntmps c=true) {l:List AV} {Post:AV→Prop}
  (hlen:l.length≤fn.ntmps) (hl:l.all AV.plain=true) (hr: ∀ r,Post r→AV.plain r=true) (hv:oR P c (kY P fn.results.toList (fun v _=>Post v)) (start l (fun _=>none) 0)):Pure P f l Post:=by
 refine ⟨hl,hr,fun w hlaid=> ?_⟩
 have hM:l.map AV.val=l.map (AV.av fun _=>(0,0)):=rfl
 rw[hM]
 refine (GC (W:=fun _=>False) (g:=fun _=>(0,0)) hf hb hok hlen hlaid (fun _ _ _=>id) ⟨fun d v hd=> ?_,fun t b hb=> ?_⟩ ⟨fun t b hb=> ?_,fun t b hb=> ?_,fun t b hb=> ?_,fun t t' b b' hb=> ?_⟩ (fun t b hb=> ?_) hv).mono ?_
 ·simp only[start]at hd
  exact AV.bH (List.all_eq_true.1 hl v (List.mem_of_getElem? hd))
 ·simp[start]at hb
 ·simp[start]at hb
 ·simp[start]at hb
 ·simp[start]at hb
 ·simp[start]at hb
 ·simp at hb
 ·rintro e w' ⟨v,g',s',rfl,hpost,alb,Gl,hm,hn,hown,hfr⟩
  exact ⟨v,hpost,by rw[AV.fI (hr v hpost)],hfr⟩
theorem AF {f:Nat} {fn:Func} {c:Code} (hf:P.funcs[f]? =some fn) (hb:fn.body=some c) (hok:codeOk fn.ntmps c=true) {l:List AV} {r:AV}
  (hlen:l.length≤fn.ntmps) (hl:l.all AV.plain=true) (hr:AV.plain r=true) (hv:oR P c (kY P fn.results.toList (fun v _=>v=r)) (start l (fun _=>none) 0)):cB P f l r:=
 LC hf hb hok hlen hl (fun _ hv=>hv▸hr) hv
theorem T' {a b:Code} {F:Exit→AS→Prop}:oR P (.seq a b) F s=oR P a (fi (oR P b F) F) s:=rfl
theorem LD {c:Operand} {a b:Code} {F:Exit→AS→Prop}:oR P (.cond c a b) F s=mP (s.aQ c) (oR P a F) (oR P b F) s:=rfl
theorem Fo {id:Nat} {c:Code} {F:Exit→AS→Prop}:oR P (.block id c) F s=oR P c (iY id F) s:=rfl
theorem AG {id:Nat} {ops:Array Oper} {F:Exit→AS→Prop}:oR P (.region id ops false) F s=vc P (.region id ops false) F s:=rfl
theorem LG {F:Exit→AS→Prop}:oR P .skip F s=vc P .skip F s:=rfl
theorem Ua {F:Exit→AS→Prop}:oR P .ret F s=vc P .ret F s:=rfl
theorem LH {id:Nat} {F:Exit→AS→Prop}:oR P (.exit id) F s=vc P (.exit id) F s:=rfl
theorem LI {c:Code} {F:Exit→AS→Prop}:oR P (.loop c) F s=vc P (.loop c) F s:=rfl
theorem Ub {ops:Array Oper} {base k:Nat} {K:AS→Prop} {e:Nat→Option AV} {b:Nat→Option aW} {n:Nat}:T8 P ops base K .nil k ⟨e,b,n⟩=K ⟨e,b,base+k⟩:=rfl
theorem Uc {ops:Array Oper} {base k i:Nat} {t:cM} {K:AS→Prop}:T8 P ops base K (.cons i t .nil) k s=Gz P ops (base+k) i (T8 P ops base K t (k+1)) s:=rfl
theorem LJ {ops:Array Oper} {base k i j:Nat} {t u r:cM} {K:AS→Prop}:T8 P ops base K (.cons i t (.cons j u r)) k s=(Gz P ops (base+k) i (T8 P ops base K t (k+1)) s∧T8 P ops base K (.cons j u r) k s):=rfl
theorem Ud {l:List Oper} {nm i:Nat} {K:AS→Prop}:Gz P l.toArray nm i K s=vcO P l.toArray nm l[i]? K s:=by unfold Gz vcO;simp
theorem LK {ops:Array Oper} {nm:Nat} {dst:Option Nat} {op:Op} {ty:TypeId} {pos:String} {after:Array Edge} {K:AS→Prop}:vcO P ops nm (some ⟨dst,op,ty,pos,after,none⟩) K s=cv P nm ⟨dst,op,ty,pos,after,none⟩ K s:=rfl
end
theorem aj:type_of% @T'∧type_of% @LD∧type_of% @Fo∧type_of% @AG∧type_of% @LG∧type_of% @Ua∧type_of% @LH∧type_of% @LI∧type_of% @Ub∧type_of% @Uc∧type_of% @LJ∧type_of% @Ud∧type_of% @LK:=
 ⟨@T', @LD, @Fo, @AG, @LG, @Ua, @LH, @LI, @Ub, @Uc, @LJ, @Ud, @LK⟩
end Go.cA
