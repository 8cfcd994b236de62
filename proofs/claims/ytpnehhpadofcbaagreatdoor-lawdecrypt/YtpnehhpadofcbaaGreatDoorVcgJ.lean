/-
  The calculus: a region whose order Go leaves open, walked in each of its orders (a tree of them), for regions where what comes in another order is not independent by the region's text alone. Nothing here speaks of a program.
-/
import Derived.Test.YtpnehhpadofcbaaGreatDoorVcgK
namespace Go.bU
set_option linter.unusedSectionVars false
set_option linter.unusedSimpArgs false
set_option linter.unusedVariables false
inductive bn where
 | nil:bn
 | cons (i:Nat) (next:bn) (rest:bn):bn
def bn.heads:bn→List Nat
 | .nil=>[]
 | .cons i _ r=>i::r.heads
def bn.here (ops:Array Oper) (fuel:Nat) (listed:Array Bool) (t:bn):Bool:=
 (t.heads==Region.ready .any ops listed)&&(fuel != 0||(Region.ready .any ops listed).isEmpty)
def bn.all (ops:Array Oper):Nat→Array Bool→bn→Bool
 | _,_, .nil=>true
 | fuel,listed, .cons i t r=>(match fuel with
  | 0=>false
  | f+1=>bn.here ops f (listed.setIfInBounds i true) t&&bn.all ops f (listed.setIfInBounds i true) t)&&bn.all ops fuel listed r
def bn.good (ops:Array Oper) (t:bn):Bool:=bn.here ops ops.size (Array.replicate ops.size false) t&&bn.all ops ops.size (Array.replicate ops.size false) t
def zx (P:Program) [Tables P] (ops:Array Oper) (nm i:Nat) (K:AS→Prop) (s:AS):Prop:=match ops[i]? with
 | some o=>zv P ops nm o K s
 | none=>False
def vcO (P:Program) [Tables P] (ops:Array Oper) (nm:Nat) (o:Option Oper) (K:AS→Prop) (s:AS):Prop:=match o with
 | some o=>zv P ops nm o K s
 | none=>False
def Da (P:Program) [Tables P] (ops:Array Oper) (base:Nat) (K:AS→Prop):bn→Nat→AS→Prop
 | .nil,k,s=>K { s with next:=base+k }
 | .cons i t .nil,k,s=>zx P ops (base+k) i (Da P ops base K t (k+1)) s
 | .cons i t (.cons j u r),k,s=>zx P ops (base+k) i (Da P ops base K t (k+1)) s∧Da P ops base K (.cons j u r) k s
section
variable {P:Program} [Tables P] {W:Nat→Prop} {N:Nat} {w0:iH P} {g:Where} {s:AS} {a:Act} {w:World}
theorem LZ {ops:Array Oper} {nm i:Nat} {K:AS→Prop} (hok:ops.toList.all (oV N)=true) {next:Act→World→Prop} {Q:Exit→Act→World→Prop} (h:cx W N w0 (fun n=>n < nm) g s a w) (hv:zx P ops nm i K s)
  (hK: ∀ g' s' a' w',cx W N w0 (fun n=>n < nm+1) g' s' a' w'→K s'→next a' w'):wpOp P ops Q i next a w:=by
 unfold zx at hv
 unfold wpOp
 split at hv
 ·rename_i o ho
  simp only[ho]
  have hd: ∀ d,o.dst=some d→d < N:=fun d hd=>by
   have:=List.all_eq_true.1 hok o (by simpa using Array.mem_of_getElem? ho)
   unfold oV at this;rw[hd]at this;simpa using this
  have go:cl P nm o K s→o.wp P a w next Q:=fun hr=>ot h hd hr hK
  unfold zv at hv
  cases hg:o.guard with
  | none=>
   rw[hg]at hv
   rw[if_pos (by simp[Region.wanted,hg])]
   exact .inl (go hv)
  | some p=>
   obtain ⟨j,want⟩:=p
   rw[hg]at hv
   simp only[ga]at hv
   split at hv
   ·rename_i b hb
    have hy:=j9 h hg hb
    by_cases vh:b=want
    ·rw[if_pos (by rw[hy];simp[vh])]
     exact .inl (go (hv.1 vh))
    ·rw[if_neg (by rw[hy];simp[vh])]
     exact hK _ _ _ _ ((h.put hd (v:=V undef) trivial).mono (fun n hn=>by omega)) (hv.2 vh)
   ·exact hv.elim
 ·exact hv.elim
theorem Et {ops:Array Oper} {base fuel:Nat} {K:AS→Prop} {listed:Array Bool}: ∀ (t:bn) (k:Nat) (s:AS),bn.all ops (fuel+1) listed t=true→Da P ops base K t k s→ ∀ i ∈ t.heads,
  ∃ u,bn.here ops fuel (listed.setIfInBounds i true) u=true∧bn.all ops fuel (listed.setIfInBounds i true) u=true∧zx P ops (base+k) i (Da P ops base K u (k+1)) s
 | .nil,_,_,_,_,i,hi=>by cases hi
 | .cons j u .nil,k,s,ha,hv,i,hi=>by
  simp only[bn.heads,List.mem_singleton]at hi
  subst hi
  simp only[bn.all,Bool.and_eq_true]at ha
  exact ⟨u,ha.1.1,ha.1.2,hv⟩
 | .cons j u (.cons j' u' r),k,s,ha,hv,i,hi=>by
  rw[bn.all]at ha
  simp only[Bool.and_eq_true]at ha
  rcases List.mem_cons.1 hi with rfl | hi
  ·exact ⟨u,ha.1.1,ha.1.2,hv.1⟩
  ·exact Et (.cons j' u' r) k s ha.2 hv.2 i hi
theorem FO {ops:Array Oper} {base:Nat} {K:AS→Prop} {Q:Exit→Act→World→Prop} (hok:ops.toList.all (oV N)=true) (hK: ∀ g' s' a' w',cx W N w0 (fun n=>n < s'.next) g' s' a' w'→K s'→Q .normal a' w'):
  ∀ (fuel:Nat) (listed:Array Bool) (t:bn) (k:Nat) (g:Where) (s:AS) (a:Act) (w:World),bn.here ops fuel listed t=true→bn.all ops fuel listed t=true→
   cx W N w0 (fun n=>n < base+k) g s a w→Da P ops base K t k s→wpAny P .any ops Q fuel listed a w
 | 0,listed,t,k,g,s,a,w,hh,ha,h,hv=>by
  simp only[bn.here,Bool.and_eq_true,beq_iff_eq,bne_self_eq_false,Bool.false_or,List.isEmpty_iff]at hh
  obtain ⟨h1,h2⟩:=hh
  rw[h2]at h1
  cases t with
  | nil=>exact ⟨h2,hK _ _ _ _ (h.next _) hv⟩
  | cons i u r=>simp[bn.heads]at h1
 | fuel+1,listed,t,k,g,s,a,w,hh,ha,h,hv=>by
  simp only[bn.here,Bool.and_eq_true,beq_iff_eq]at hh
  obtain ⟨h1,_⟩:=hh
  refine ⟨fun hr=> ?_,fun i hi=> ?_⟩
  ·rw[hr]at h1
   cases t with
   | nil=>exact hK _ _ _ _ (h.next _) hv
   | cons i u r=>simp[bn.heads]at h1
  ·rw[← h1]at hi
   obtain ⟨u,hu1,Vz,CY⟩:=Et t k s ha hv i hi
   exact LZ hok h CY fun g' s' a' w' h' hk=>FO hok hK fuel _ u (k+1) g' s' a' w' hu1 Vz (h'.mono fun n hn=>by omega) hk
theorem L0 {ops:Array Oper} {base:Nat} {K:AS→Prop} {Q:Exit→Act→World→Prop} {t:bn} (hK: ∀ g' s' a' w',cx W N w0 (fun n=>n < s'.next) g' s' a' w'→K s'→Q .normal a' w')
  (ht:bn.good ops t=true) (hok:ops.toList.all (oV N)=true) (h:cx W N w0 (fun n=>n < base) g s a w) (hv:Da P ops base K t 0 s):
  wpAny P .any ops Q ops.size (Array.replicate ops.size false) a w:=by
 simp only[bn.good,Bool.and_eq_true]at ht
 exact FO hok hK _ _ t 0 g s a w ht.1 ht.2 (by simpa using h) hv
def qj (P:Program) [Tables P]:Code→(Exit→AS→Prop)→AS→Prop
 | .region id ops true,F,s=>vc P (.region id ops true) F s∨(P.follows .mixedOrders=true∧ ∃ t,bn.good ops t=true∧Da P ops s.next (F .normal) t 0 s)
 | .seq a b,F,s=>qj P a (fL (qj P b F) F) s
 | .cond c a b,F,s=>oo (s.aT c) (qj P a F) (qj P b F) s
 | .block id c,F,s=>qj P c (jy id F) s
 | c,F,s=>vc P c F s
theorem dT: ∀ (c:Code) (F:Exit→AS→Prop) (s:AS),codeOk N c=true→qj P c F s→ ∀ (g:Where) (a:Act) (w:World) (Q:Exit→Act→World→Prop),cx W N w0 (fun n=>n < s.next) g s a w→
  (∀ e g' s' a' w',cx W N w0 (fun n=>n < s'.next) g' s' a' w'→F e s'→Q e a' w')→c.wp P Q a w
 | .region id ops true,F,s,hok,hv,g,a,w,Q,h,hQ=>by
  simp only[qj]at hv
  rcases hv with hv | ⟨hm,t,ht,hv⟩
  ·exact eh _ F s hok hv g a w Q h hQ
  ·exact wp_region_any hm (L0 (K:=F .normal) (base:=s.next) (fun g' s' a' w' h' hk=>hQ _ _ _ _ _ h' hk) ht hok h.drew hv)
 | .seq x y,F,s,hok,hv,g,a,w,Q,h,hQ=>by
  simp only[codeOk,Bool.and_eq_true]at hok
  simp only[qj]at hv
  refine wp_seq (dT x _ s hok.1 hv g a w _ h fun e g' s' a' w' h' hk=> ?_)
  cases e with
  | normal=>exact dT y F s' hok.2 hk g' a' w' Q h' hQ
  | _=>exact hQ _ _ _ _ _ h' hk
 | .cond c x y,F,s,hok,hv,g,a,w,Q,h,hQ=>by
  simp only[codeOk,Bool.and_eq_true]at hok
  simp only[qj,oo]at hv
  split at hv
  ·rename_i b hb
   refine wp_cond_split (t:=b) (by rw[h.eval hb];rfl) (fun ht=> ?_) (fun hf=> ?_)
   ·exact dT x F s hok.1 (hv.1 ht) g a w Q h hQ
   ·exact dT y F s hok.2 (hv.2 hf) g a w Q h hQ
  ·exact hv.elim
 | .block id c,F,s,hok,hv,g,a,w,Q,h,hQ=>by
  simp only[codeOk]at hok
  simp only[qj]at hv
  refine wp_block (dT c _ s hok hv g a w _ h fun e g' s' a' w' h' hk=> ?_)
  cases e with
  | exit id'=>
   simp only[jy]at hk
   simp only[Exit.inBlock]
   split
   ·rename_i e;rw[if_pos e]at hk;exact hQ _ _ _ _ _ h' hk
   ·rename_i e;rw[if_neg e]at hk;exact hQ _ _ _ _ _ h' hk
  | _=>exact hQ _ _ _ _ _ h' hk
 | .skip,F,s,hok,hv,g,a,w,Q,h,hQ=>eh _ F s hok hv g a w Q h hQ
 | .region id ops false,F,s,hok,hv,g,a,w,Q,h,hQ=>eh _ F s hok hv g a w Q h hQ
 | .loop c,F,s,hok,hv,g,a,w,Q,h,hQ=>eh _ F s hok hv g a w Q h hQ
 | .exit id,F,s,hok,hv,g,a,w,Q,h,hQ=>eh _ F s hok hv g a w Q h hQ
 | .ret,F,s,hok,hv,g,a,w,Q,h,hQ=>eh _ F s hok hv g a w Q h hQ
 | .rangeFunc .., F,s,hok,hv,g,a,w,Q,h,hQ=>eh _ F s hok hv g a w Q h hQ
 | .scope _,F,s,hok,hv,g,a,w,Q,h,hQ=>eh _ F s hok hv g a w Q h hQ
 | .label _,F,s,hok,hv,g,a,w,Q,h,hQ=>eh _ F s hok hv g a w Q h hQ
 | .goto _,F,s,hok,hv,g,a,w,Q,h,hQ=>eh _ F s hok hv g a w Q h hQ
 | .refuse _,F,s,hok,hv,g,a,w,Q,h,hQ=>eh _ F s hok hv g a w Q h hQ
theorem vN {f:Nat} {fn:Func} {c:Code} (hf:P.funcs[f]? =some fn) (hb:fn.body=some c) (hok:codeOk fn.ntmps c=true) {args:List AV} {box:Nat→Option aN} {n:Nat}
  (hlen:args.length≤fn.ntmps) (hlaid:Laid P w) (lB: ∀ b bx,Tables.row P b=some bx→ ¬ W b) (hn:Names (fun k=>k < n) (start args box n)) (hm:fA g (start args box n) w) (hown: ∀ t b,box t=some b→b.rw=true→W (g t).1)
  {Post:AV→AS→Prop} (hv:qj P c (nt P fn.results.toList Post) (start args box n)):
  Calls P f (args.map (AV.aq g)).toArray w fun e w'=> ∃ v g' s',e= .returned (AV.aq g' v)∧Post v s'∧AV.ok (fun k=>k < s'.next) v∧(∀ k,k < n→k < s'.next∧g' k=g k)∧fA g' s' w'∧Names (fun k=>k < s'.next) s'∧
   (∀ t b,s'.box t=some b→b.rw=true→w.heap.size≤(g' t).1∨W (g' t).1)∧Frame W w w':=by
 refine calls_of_wp hf hb ?_
 refine dT (N:=fn.ntmps) (W:=W) (w0:=⟨w,n,g,hlaid⟩) c _ _ hok hv g _ w _ ⟨?_,rfl, ?_,hn,hm,fun t b hb hrw=>Or.inr (hown t b hb hrw),Frame.refl _ _,fun k hk=>⟨hk,rfl⟩,lB⟩ ?_
 ·simp;omega
 ·intro d v hd
  simp only[start]at hd
  have hlt:d < args.length:=(List.getElem?_eq_some_iff.1 hd).1
  rw[Array.getElem?_append_left (by simpa using hlt)]
  simp[hd]
 ·intro e g' s' a' w' h' hk
  have fin:vB (lA (im P s' fn.results.toList)) Post s'→ ∃ v,(results fn a'.tmps).run P w'= .ok (AV.aq g' v) w'∧Post v s'∧AV.ok (fun k=>k < s'.next) v:=fun hr=>by
   unfold vB at hr
   split at hr
   ·rename_i v hv
    obtain ⟨h1,h2⟩:=mg h' hv
    exact ⟨v,h1,hr,h2⟩
   ·exact hr.elim
  cases e<;>simp only[nt]at hk
  ·obtain ⟨v,h1,h2,h3⟩:=fin hk
   exact ⟨h'.defers,_,h1,v,g',s',rfl,h2,h3,h'.pin,h'.mem,h'.names,h'.own,h'.frame⟩
  ·obtain ⟨v,h1,h2,h3⟩:=fin hk
   exact ⟨h'.defers,_,h1,v,g',s',rfl,h2,h3,h'.pin,h'.mem,h'.names,h'.own,h'.frame⟩
theorem IC {f:Nat} {fn:Func} {c:Code} (hf:P.funcs[f]? =some fn) (hb:fn.body=some c) (hok:codeOk fn.ntmps c=true) {l:List AV} {Post:AV→Prop}
  (hlen:l.length≤fn.ntmps) (hl:l.all AV.plain=true) (hr: ∀ r,Post r→AV.plain r=true) (hv:qj P c (nt P fn.results.toList (fun v _=>Post v)) (start l (fun _=>none) 0)):Pure P f l Post:=by
 refine ⟨hl,hr,fun w hlaid=> ?_⟩
 have hM:l.map AV.val=l.map (AV.aq fun _=>(0,0)):=rfl
 rw[hM]
 refine (vN (W:=fun _=>False) (g:=fun _=>(0,0)) hf hb hok hlen hlaid (fun _ _ _=>id) ⟨fun d v hd=> ?_,fun t b hb=> ?_⟩ ⟨fun t b hb=> ?_,fun t b hb=> ?_,fun t b hb=> ?_,fun t t' b b' hb=> ?_⟩ (fun t b hb=> ?_) hv).mono ?_
 ·simp only[start]at hd
  exact AV.bk (List.all_eq_true.1 hl v (List.mem_of_getElem? hd))
 ·simp[start]at hb
 ·simp[start]at hb
 ·simp[start]at hb
 ·simp[start]at hb
 ·simp[start]at hb
 ·simp at hb
 ·rintro e w' ⟨v,g',s',rfl,hpost,ad2,Ap,hm,hn,hown,hfr⟩
  exact ⟨v,hpost,by rw[AV.il (hr v hpost)],hfr⟩
theorem Bh {f:Nat} {fn:Func} {c:Code} (hf:P.funcs[f]? =some fn) (hb:fn.body=some c) (hok:codeOk fn.ntmps c=true) {l:List AV} {r:AV}
  (hlen:l.length≤fn.ntmps) (hl:l.all AV.plain=true) (hr:AV.plain r=true) (hv:qj P c (nt P fn.results.toList (fun v _=>v=r)) (start l (fun _=>none) 0)):cI P f l r:=
 IC hf hb hok hlen hl (fun _ hv=>hv▸hr) hv
theorem IE {f:Nat} {fn:Func} {c:Code} (hf:P.funcs[f]? =some fn) (hb:fn.body=some c) (hok:codeOk fn.ntmps c=true) {args:List AV} {k:Nat} {ins:Nat→Option aN}
  (hlen:args.length≤fn.ntmps) (hc:ai P f=true) (hargs: ∀ v ∈ args,AV.ok (fun n=>n < k) v) (hall: ∀ n,n < k→ ∃ b,ins n=some b) (kD: ∀ n b,ins n=some b→n < k∧ ∀ x ∈ b.cells,SV.ok (fun n=>n < k) x)
  {Post:AV→(Nat→Option aN)→Prop} (hv:qj P c (nt P fn.results.toList (qA k Post)) (start args ins k)):bf P f args k ins Post:=by
 refine ⟨hc,hall,fun n b hb=>(kD n b hb).1,fun W g w hlaid lB hm hown=> ?_⟩
 refine (vN (W:=W) (g:=g) (w:=w) hf hb hok hlen hlaid lB ⟨fun d v hd=> ?_,fun t b ht=>kD t b ht⟩ ⟨hm.lt,hm.cell,hm.free,hm.sep⟩ hown hv).mono ?_
 ·simp only[start]at hd
  exact hargs v (List.mem_of_getElem? hd)
 ·rintro e w' ⟨v,g',s',rfl,⟨q,v0,out,hq,rfl,LP,hout,hpost⟩,_,Ap,hmem,FL,vC,hfr⟩
  have hr: ∀ n,n < k→kc k q n=n:=fun n hn=>by unfold kc;rw[if_neg (by omega)]
  have hinj: ∀ n n',n < k+1→n' < k+1→kc k q n=kc k q n'→n=n':=fun n n' h1 h2 e=>by
   unfold kc at e
   split at e<;>split at e<;>omega
  refine ⟨v0,out,fun n=>g' (kc k q n),by rw[AV.cz],hpost,fun n hn=> ?_,LP,fun n b hb=> ?_,⟨fun t b hb=> ?_,fun t b hb i v hv=> ?_,fun t b hb hrw i hi=> ?_,fun t t' b b' hb hrw hb' hne=> ?_⟩,fun t b hb hrw=> ?_,hfr⟩
  ·show g' (kc k q n)=_
   rw[hr n hn];exact (Ap n hn).2
  ·obtain ⟨h1,h2,h3,_⟩:=hout n b hb
   exact ⟨h1,h2,h3⟩
  ·obtain ⟨h1,_,_,b',h2,_⟩:=hout t b hb
   exact hmem.lt _ b' h2
  ·obtain ⟨h1,_,_,b',h2,_,h4⟩:=hout t b hb
   have:=hmem.cell _ b' h2 i (SV.aI (kc k q) v) (by rw[h4];simp[hv])
   rw[this,SV.cz]
  ·obtain ⟨h1,_,_,b',h2,h3,h4⟩:=hout t b hb
   exact hmem.free _ b' h2 (h3 hrw) i (by rw[h4];simpa using hi)
  ·obtain ⟨h1,_,_,c1,h2,h3,_⟩:=hout t b hb
   obtain ⟨h1',_,_,c2,h2',_,_⟩:=hout t' b' hb'
   exact hmem.sep _ _ c1 c2 h2 (h3 hrw) h2' (fun e=>hne (hinj _ _ h1 h1' e))
  ·obtain ⟨h1,_,_,b',h2,h3,_⟩:=hout t b hb
   exact vC _ b' h2 (h3 hrw)
theorem Pe {a b:Code} {F:Exit→AS→Prop}:qj P (.seq a b) F s=qj P a (fL (qj P b F) F) s:=rfl
theorem IG {c:Operand} {a b:Code} {F:Exit→AS→Prop}:qj P (.cond c a b) F s=oo (s.aT c) (qj P a F) (qj P b F) s:=rfl
theorem Eu {id:Nat} {c:Code} {F:Exit→AS→Prop}:qj P (.block id c) F s=qj P c (jy id F) s:=rfl
theorem Bi {id:Nat} {ops:Array Oper} {F:Exit→AS→Prop}:qj P (.region id ops false) F s=vc P (.region id ops false) F s:=rfl
theorem II {F:Exit→AS→Prop}:qj P .skip F s=vc P .skip F s:=rfl
theorem Pf {F:Exit→AS→Prop}:qj P .ret F s=vc P .ret F s:=rfl
theorem IJ {c:Code} {F:Exit→AS→Prop}:qj P (.loop c) F s=vc P (.loop c) F s:=rfl
theorem Pg {ops:Array Oper} {base k:Nat} {K:AS→Prop} {e:Nat→Option AV} {b:Nat→Option aN} {n:Nat}:Da P ops base K .nil k ⟨e,b,n⟩=K ⟨e,b,base+k⟩:=rfl
theorem Ph {ops:Array Oper} {base k i:Nat} {t:bn} {K:AS→Prop}:Da P ops base K (.cons i t .nil) k s=zx P ops (base+k) i (Da P ops base K t (k+1)) s:=rfl
theorem IK {ops:Array Oper} {base k i j:Nat} {t u r:bn} {K:AS→Prop}:Da P ops base K (.cons i t (.cons j u r)) k s=(zx P ops (base+k) i (Da P ops base K t (k+1)) s∧Da P ops base K (.cons j u r) k s):=rfl
theorem Pj {l:List Oper} {nm i:Nat} {K:AS→Prop}:zx P l.toArray nm i K s=vcO P l.toArray nm l[i]? K s:=by unfold zx vcO;simp
theorem IL {ops:Array Oper} {nm:Nat} {dst:Option Nat} {op:Op} {ty:TypeId} {pos:String} {after:Array Edge} {K:AS→Prop}:vcO P ops nm (some ⟨dst,op,ty,pos,after,none⟩) K s=cl P nm ⟨dst,op,ty,pos,after,none⟩ K s:=rfl
end
theorem dv:type_of% @Pe∧type_of% @IG∧type_of% @Eu∧type_of% @Bi∧type_of% @II∧type_of% @Pf∧type_of% @IJ∧type_of% @Pg∧type_of% @Ph∧type_of% @IK∧type_of% @Pj∧type_of% @IL:=
 ⟨@Pe, @IG, @Eu, @Bi, @II, @Pf, @IJ, @Pg, @Ph, @IK, @Pj, @IL⟩
end Go.bU
