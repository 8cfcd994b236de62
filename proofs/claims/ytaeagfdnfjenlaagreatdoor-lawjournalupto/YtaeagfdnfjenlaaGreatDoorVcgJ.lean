/-
  The calculus: a region whose order Go leaves open, walked in each of its orders (a tree of them), for regions where what comes in another order is not independent by the region's text alone. Nothing here speaks of a program.
-/
import Derived.Test.YtaeagfdnfjenlaaGreatDoorVcgK
namespace Go.cn
set_option linter.unusedSectionVars false
set_option linter.unusedSimpArgs false
set_option linter.unusedVariables false
inductive dc where
 | nil:dc
 | cons (i:Nat) (next:dc) (rest:dc):dc
def dc.heads:dc→List Nat
 | .nil=>[]
 | .cons i _ r=>i::r.heads
def dc.here (ops:Array Oper) (fuel:Nat) (listed:Array Bool) (t:dc):Bool:=
 (t.heads==Region.ready .any ops listed)&&(fuel != 0||(Region.ready .any ops listed).isEmpty)
def dc.all (ops:Array Oper):Nat→Array Bool→dc→Bool
 | _,_, .nil=>true
 | fuel,listed, .cons i t r=>(match fuel with
  | 0=>false
  | f+1=>dc.here ops f (listed.setIfInBounds i true) t&&dc.all ops f (listed.setIfInBounds i true) t)&&dc.all ops fuel listed r
def dc.good (ops:Array Oper) (t:dc):Bool:=dc.here ops ops.size (Array.replicate ops.size false) t&&dc.all ops ops.size (Array.replicate ops.size false) t
def ye (P:Program) [Tables P] (ops:Array Oper) (nm i:Nat) (K:AS→Prop) (s:AS):Prop:=match ops[i]? with
 | some o=>yc P ops nm o K s
 | none=>False
def vcO (P:Program) [Tables P] (ops:Array Oper) (nm:Nat) (o:Option Oper) (K:AS→Prop) (s:AS):Prop:=match o with
 | some o=>yc P ops nm o K s
 | none=>False
def Ck (P:Program) [Tables P] (ops:Array Oper) (base:Nat) (K:AS→Prop):dc→Nat→AS→Prop
 | .nil,k,s=>K { s with next:=base+k }
 | .cons i t .nil,k,s=>ye P ops (base+k) i (Ck P ops base K t (k+1)) s
 | .cons i t (.cons j u r),k,s=>ye P ops (base+k) i (Ck P ops base K t (k+1)) s∧Ck P ops base K (.cons j u r) k s
section
variable {P:Program} [Tables P] {W:Nat→Prop} {N:Nat} {w0:Base P} {g:Where} {s:AS} {a:Act} {w:World}
theorem KD {ops:Array Oper} {nm i:Nat} {K:AS→Prop} (hok:ops.toList.all (ng N)=true) {next:Act→World→Prop} {Q:Exit→Act→World→Prop} (h:bF W N w0 (fun n=>n < nm) g s a w) (hv:ye P ops nm i K s)
  (hK: ∀ g' s' a' w',bF W N w0 (fun n=>n < nm+1) g' s' a' w'→K s'→next a' w'):wpOp P ops Q i next a w:=by
 unfold ye at hv
 unfold wpOp
 split at hv
 ·rename_i o ho
  simp only[ho]
  have hd: ∀ d,o.dst=some d→d < N:=fun d hd=>by
   have:=List.all_eq_true.1 hok o (by simpa using Array.mem_of_getElem? ho)
   unfold ng at this;rw[hd]at this;simpa using this
  have go:cw P nm o K s→o.wp P a w next Q:=fun hr=>jJ h hd hr hK
  unfold yc at hv
  cases hg:o.guard with
  | none=>
   rw[hg]at hv
   rw[if_pos (by simp[Region.wanted,hg])]
   exact .inl (go hv)
  | some p=>
   obtain ⟨j,want⟩:=p
   rw[hg]at hv
   simp only[gy]at hv
   split at hv
   ·rename_i b hb
    have hy:=jV h hg hb
    by_cases uy:b=want
    ·rw[if_pos (by rw[hy];simp[uy])]
     exact .inl (go (hv.1 uy))
    ·rw[if_neg (by rw[hy];simp[uy])]
     exact hK _ _ _ _ ((h.put hd (v:=V undef) trivial).mono (fun n hn=>by omega)) (hv.2 uy)
   ·exact hv.elim
 ·exact hv.elim
theorem DE {ops:Array Oper} {base fuel:Nat} {K:AS→Prop} {listed:Array Bool}: ∀ (t:dc) (k:Nat) (s:AS),dc.all ops (fuel+1) listed t=true→Ck P ops base K t k s→ ∀ i ∈ t.heads,
  ∃ u,dc.here ops fuel (listed.setIfInBounds i true) u=true∧dc.all ops fuel (listed.setIfInBounds i true) u=true∧ye P ops (base+k) i (Ck P ops base K u (k+1)) s
 | .nil,_,_,_,_,i,hi=>by cases hi
 | .cons j u .nil,k,s,ha,hv,i,hi=>by
  simp only[dc.heads,List.mem_singleton]at hi
  subst hi
  simp only[dc.all,Bool.and_eq_true]at ha
  exact ⟨u,ha.1.1,ha.1.2,hv⟩
 | .cons j u (.cons j' u' r),k,s,ha,hv,i,hi=>by
  rw[dc.all]at ha
  simp only[Bool.and_eq_true]at ha
  rcases List.mem_cons.1 hi with rfl | hi
  ·exact ⟨u,ha.1.1,ha.1.2,hv.1⟩
  ·exact DE (.cons j' u' r) k s ha.2 hv.2 i hi
theorem ET {ops:Array Oper} {base:Nat} {K:AS→Prop} {Q:Exit→Act→World→Prop} (hok:ops.toList.all (ng N)=true) (hK: ∀ g' s' a' w',bF W N w0 (fun n=>n < s'.next) g' s' a' w'→K s'→Q .normal a' w'):
  ∀ (fuel:Nat) (listed:Array Bool) (t:dc) (k:Nat) (g:Where) (s:AS) (a:Act) (w:World),dc.here ops fuel listed t=true→dc.all ops fuel listed t=true→
   bF W N w0 (fun n=>n < base+k) g s a w→Ck P ops base K t k s→wpAny P .any ops Q fuel listed a w
 | 0,listed,t,k,g,s,a,w,hh,ha,h,hv=>by
  simp only[dc.here,Bool.and_eq_true,beq_iff_eq,bne_self_eq_false,Bool.false_or,List.isEmpty_iff]at hh
  obtain ⟨h1,h2⟩:=hh
  rw[h2]at h1
  cases t with
  | nil=>exact ⟨h2,hK _ _ _ _ (h.next _) hv⟩
  | cons i u r=>simp[dc.heads]at h1
 | fuel+1,listed,t,k,g,s,a,w,hh,ha,h,hv=>by
  simp only[dc.here,Bool.and_eq_true,beq_iff_eq]at hh
  obtain ⟨h1,_⟩:=hh
  refine ⟨fun hr=> ?_,fun i hi=> ?_⟩
  ·rw[hr]at h1
   cases t with
   | nil=>exact hK _ _ _ _ (h.next _) hv
   | cons i u r=>simp[dc.heads]at h1
  ·rw[← h1]at hi
   obtain ⟨u,hu1,UQ,pG⟩:=DE t k s ha hv i hi
   exact KD hok h pG fun g' s' a' w' h' hk=>ET hok hK fuel _ u (k+1) g' s' a' w' hu1 UQ (h'.mono fun n hn=>by omega) hk
theorem zJ {ops:Array Oper} {base:Nat} {K:AS→Prop} {Q:Exit→Act→World→Prop} {t:dc} (hK: ∀ g' s' a' w',bF W N w0 (fun n=>n < s'.next) g' s' a' w'→K s'→Q .normal a' w')
  (ht:dc.good ops t=true) (hok:ops.toList.all (ng N)=true) (h:bF W N w0 (fun n=>n < base) g s a w) (hv:Ck P ops base K t 0 s):
  wpAny P .any ops Q ops.size (Array.replicate ops.size false) a w:=by
 simp only[dc.good,Bool.and_eq_true]at ht
 exact ET hok hK _ _ t 0 g s a w ht.1 ht.2 (by simpa using h) hv
def q9 (P:Program) [Tables P]:Code→(Exit→AS→Prop)→AS→Prop
 | .region id ops true,F,s=>vc P (.region id ops true) F s∨(P.follows .mixedOrders=true∧ ∃ t,dc.good ops t=true∧Ck P ops s.next (F .normal) t 0 s)
 | .seq a b,F,s=>q9 P a (fI (q9 P b F) F) s
 | .cond c a b,F,s=>lM (s.aS c) (q9 P a F) (q9 P b F) s
 | .block id c,F,s=>q9 P c (fh id F) s
 | c,F,s=>vc P c F s
theorem fa: ∀ (c:Code) (F:Exit→AS→Prop) (s:AS),codeOk N c=true→q9 P c F s→ ∀ (g:Where) (a:Act) (w:World) (Q:Exit→Act→World→Prop),bF W N w0 (fun n=>n < s.next) g s a w→
  (∀ e g' s' a' w',bF W N w0 (fun n=>n < s'.next) g' s' a' w'→F e s'→Q e a' w')→c.wp P Q a w
 | .region id ops true,F,s,hok,hv,g,a,w,Q,h,hQ=>by
  simp only[q9]at hv
  rcases hv with hv | ⟨hm,t,ht,hv⟩
  ·exact eu _ F s hok hv g a w Q h hQ
  ·exact wp_region_any hm (zJ (K:=F .normal) (base:=s.next) (fun g' s' a' w' h' hk=>hQ _ _ _ _ _ h' hk) ht hok h.drew hv)
 | .seq x y,F,s,hok,hv,g,a,w,Q,h,hQ=>by
  simp only[codeOk,Bool.and_eq_true]at hok
  simp only[q9]at hv
  refine wp_seq (fa x _ s hok.1 hv g a w _ h fun e g' s' a' w' h' hk=> ?_)
  cases e with
  | normal=>exact fa y F s' hok.2 hk g' a' w' Q h' hQ
  | _=>exact hQ _ _ _ _ _ h' hk
 | .cond c x y,F,s,hok,hv,g,a,w,Q,h,hQ=>by
  simp only[codeOk,Bool.and_eq_true]at hok
  simp only[q9,lM]at hv
  split at hv
  ·rename_i b hb
   refine wp_cond_split (t:=b) (by rw[h.eval hb];rfl) (fun ht=> ?_) (fun hf=> ?_)
   ·exact fa x F s hok.1 (hv.1 ht) g a w Q h hQ
   ·exact fa y F s hok.2 (hv.2 hf) g a w Q h hQ
  ·exact hv.elim
 | .block id c,F,s,hok,hv,g,a,w,Q,h,hQ=>by
  simp only[codeOk]at hok
  simp only[q9]at hv
  refine wp_block (fa c _ s hok hv g a w _ h fun e g' s' a' w' h' hk=> ?_)
  cases e with
  | exit id'=>
   simp only[fh]at hk
   simp only[Exit.inBlock]
   split
   ·rename_i e;rw[if_pos e]at hk;exact hQ _ _ _ _ _ h' hk
   ·rename_i e;rw[if_neg e]at hk;exact hQ _ _ _ _ _ h' hk
  | _=>exact hQ _ _ _ _ _ h' hk
 | .skip,F,s,hok,hv,g,a,w,Q,h,hQ=>eu _ F s hok hv g a w Q h hQ
 | .region id ops false,F,s,hok,hv,g,a,w,Q,h,hQ=>eu _ F s hok hv g a w Q h hQ
 | .loop c,F,s,hok,hv,g,a,w,Q,h,hQ=>eu _ F s hok hv g a w Q h hQ
 | .exit id,F,s,hok,hv,g,a,w,Q,h,hQ=>eu _ F s hok hv g a w Q h hQ
 | .ret,F,s,hok,hv,g,a,w,Q,h,hQ=>eu _ F s hok hv g a w Q h hQ
 | .rangeFunc .., F,s,hok,hv,g,a,w,Q,h,hQ=>eu _ F s hok hv g a w Q h hQ
 | .scope _,F,s,hok,hv,g,a,w,Q,h,hQ=>eu _ F s hok hv g a w Q h hQ
 | .label _,F,s,hok,hv,g,a,w,Q,h,hQ=>eu _ F s hok hv g a w Q h hQ
 | .goto _,F,s,hok,hv,g,a,w,Q,h,hQ=>eu _ F s hok hv g a w Q h hQ
 | .refuse _,F,s,hok,hv,g,a,w,Q,h,hQ=>eu _ F s hok hv g a w Q h hQ
theorem EU {f:Nat} {fn:Func} {c:Code} (hf:P.funcs[f]? =some fn) (hb:fn.body=some c) (hok:codeOk fn.ntmps c=true) {args:List AV} {box:Nat→Option aI} {n:Nat}
  (hlen:args.length≤fn.ntmps) (hlaid:Laid P w) (iF: ∀ b bx,Tables.row P b=some bx→ ¬ W b) (hn:Names (fun k=>k < n) (start args box n)) (hm:cY g (start args box n) w) (hown: ∀ t b,box t=some b→b.rw=true→W (g t).1)
  {Post:AV→AS→Prop} (hv:q9 P c (kA P fn.results.toList Post) (start args box n)):
  Calls P f (args.map (AV.ah g)).toArray w fun e w'=> ∃ v g' s',e= .returned (AV.ah g' v)∧Post v s'∧AV.ok (fun k=>k < s'.next) v∧(∀ k,k < n→k < s'.next∧g' k=g k)∧cY g' s' w'∧Names (fun k=>k < s'.next) s'∧
   (∀ t b,s'.box t=some b→b.rw=true→w.heap.size≤(g' t).1∨W (g' t).1)∧Frame W w w':=by
 refine calls_of_wp hf hb ?_
 refine fa (N:=fn.ntmps) (W:=W) (w0:=⟨w,n,g,hlaid⟩) c _ _ hok hv g _ w _ ⟨?_,rfl, ?_,hn,hm,fun t b hb hrw=>Or.inr (hown t b hb hrw),Frame.refl _ _,fun k hk=>⟨hk,rfl⟩,iF⟩ ?_
 ·simp;omega
 ·intro d v hd
  simp only[start]at hd
  have hlt:d < args.length:=(List.getElem?_eq_some_iff.1 hd).1
  rw[Array.getElem?_append_left (by simpa using hlt)]
  simp[hd]
 ·intro e g' s' a' w' h' hk
  have fin:qm (kr (gQ P s' fn.results.toList)) Post s'→ ∃ v,(results fn a'.tmps).run P w'= .ok (AV.ah g' v) w'∧Post v s'∧AV.ok (fun k=>k < s'.next) v:=fun hr=>by
   unfold qm at hr
   split at hr
   ·rename_i v hv
    obtain ⟨h1,h2⟩:=iT h' hv
    exact ⟨v,h1,hr,h2⟩
   ·exact hr.elim
  cases e<;>simp only[kA]at hk
  ·obtain ⟨v,h1,h2,h3⟩:=fin hk
   exact ⟨h'.defers,_,h1,v,g',s',rfl,h2,h3,h'.pin,h'.mem,h'.names,h'.own,h'.frame⟩
  ·obtain ⟨v,h1,h2,h3⟩:=fin hk
   exact ⟨h'.defers,_,h1,v,g',s',rfl,h2,h3,h'.pin,h'.mem,h'.names,h'.own,h'.frame⟩
theorem HP {f:Nat} {fn:Func} {c:Code} (hf:P.funcs[f]? =some fn) (hb:fn.body=some c) (hok:codeOk fn.ntmps c=true) {l:List AV} {Post:AV→Prop}
  (hlen:l.length≤fn.ntmps) (hl:l.all AV.plain=true) (hr: ∀ r,Post r→AV.plain r=true) (hv:q9 P c (kA P fn.results.toList (fun v _=>Post v)) (start l (fun _=>none) 0)):Pure P f l Post:=by
 refine ⟨hl,hr,fun w hlaid=> ?_⟩
 have hM:l.map AV.val=l.map (AV.ah fun _=>(0,0)):=rfl
 rw[hM]
 refine (EU (W:=fun _=>False) (g:=fun _=>(0,0)) hf hb hok hlen hlaid (fun _ _ _=>id) ⟨fun d v hd=> ?_,fun t b hb=> ?_⟩ ⟨fun t b hb=> ?_,fun t b hb=> ?_,fun t b hb=> ?_,fun t t' b b' hb=> ?_⟩ (fun t b hb=> ?_) hv).mono ?_
 ·simp only[start]at hd
  exact AV.ek (List.all_eq_true.1 hl v (List.mem_of_getElem? hd))
 ·simp[start]at hb
 ·simp[start]at hb
 ·simp[start]at hb
 ·simp[start]at hb
 ·simp[start]at hb
 ·simp at hb
 ·rintro e w' ⟨v,g',s',rfl,hpost,aef,vz,hm,hn,hown,hfr⟩
  exact ⟨v,hpost,by rw[AV.iE (hr v hpost)],hfr⟩
theorem kG {f:Nat} {fn:Func} {c:Code} (hf:P.funcs[f]? =some fn) (hb:fn.body=some c) (hok:codeOk fn.ntmps c=true) {l:List AV} {r:AV}
  (hlen:l.length≤fn.ntmps) (hl:l.all AV.plain=true) (hr:AV.plain r=true) (hv:q9 P c (kA P fn.results.toList (fun v _=>v=r)) (start l (fun _=>none) 0)):pU P f l r:=
 HP hf hb hok hlen hl (fun _ hv=>hv▸hr) hv
theorem M9 {a b:Code} {F:Exit→AS→Prop}:q9 P (.seq a b) F s=q9 P a (fI (q9 P b F) F) s:=rfl
theorem HQ {c:Operand} {a b:Code} {F:Exit→AS→Prop}:q9 P (.cond c a b) F s=lM (s.aS c) (q9 P a F) (q9 P b F) s:=rfl
theorem DF {id:Nat} {c:Code} {F:Exit→AS→Prop}:q9 P (.block id c) F s=q9 P c (fh id F) s:=rfl
theorem zK {id:Nat} {ops:Array Oper} {F:Exit→AS→Prop}:q9 P (.region id ops false) F s=vc P (.region id ops false) F s:=rfl
theorem HR {F:Exit→AS→Prop}:q9 P .skip F s=vc P .skip F s:=rfl
theorem Na {F:Exit→AS→Prop}:q9 P .ret F s=vc P .ret F s:=rfl
theorem Nb {ops:Array Oper} {base k:Nat} {K:AS→Prop} {e:Nat→Option AV} {b:Nat→Option aI} {n:Nat}:Ck P ops base K .nil k ⟨e,b,n⟩=K ⟨e,b,base+k⟩:=rfl
theorem Nc {ops:Array Oper} {base k i:Nat} {t:dc} {K:AS→Prop}:Ck P ops base K (.cons i t .nil) k s=ye P ops (base+k) i (Ck P ops base K t (k+1)) s:=rfl
theorem HS {ops:Array Oper} {base k i j:Nat} {t u r:dc} {K:AS→Prop}:Ck P ops base K (.cons i t (.cons j u r)) k s=(ye P ops (base+k) i (Ck P ops base K t (k+1)) s∧Ck P ops base K (.cons j u r) k s):=rfl
theorem Nd {l:List Oper} {nm i:Nat} {K:AS→Prop}:ye P l.toArray nm i K s=vcO P l.toArray nm l[i]? K s:=by unfold ye vcO;simp
theorem HT {ops:Array Oper} {nm:Nat} {dst:Option Nat} {op:Op} {ty:TypeId} {pos:String} {after:Array Edge} {K:AS→Prop}:vcO P ops nm (some ⟨dst,op,ty,pos,after,none⟩) K s=cw P nm ⟨dst,op,ty,pos,after,none⟩ K s:=rfl
end
theorem bm:type_of% @M9∧type_of% @HQ∧type_of% @DF∧type_of% @zK∧type_of% @HR∧type_of% @Na∧type_of% @Nb∧type_of% @Nc∧type_of% @HS∧type_of% @Nd∧type_of% @HT:=
 ⟨@M9, @HQ, @DF, @zK, @HR, @Na, @Nb, @Nc, @HS, @Nd, @HT⟩
end Go.cn
