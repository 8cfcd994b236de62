/-
  The calculus: a region whose order Go leaves open, walked in each of its orders (a tree of them), for regions where what comes in another order is not independent by the region's text alone. Nothing here speaks of a program.
-/
import Derived.Test.YtbipdofobgabhaaGreatDoorVcgK
namespace Go.bA
set_option linter.unusedSectionVars false
set_option linter.unusedSimpArgs false
set_option linter.unusedVariables false
inductive aT where
 | nil:aT
 | cons (i:Nat) (next:aT) (rest:aT):aT
def aT.heads:aT→List Nat
 | .nil=>[]
 | .cons i _ r=>i::r.heads
def aT.here (ops:Array Oper) (fuel:Nat) (listed:Array Bool) (t:aT):Bool:=
 (t.heads==Region.ready .any ops listed)&&(fuel != 0||(Region.ready .any ops listed).isEmpty)
def aT.all (ops:Array Oper):Nat→Array Bool→aT→Bool
 | _,_, .nil=>true
 | fuel,listed, .cons i t r=>(match fuel with
  | 0=>false
  | f+1=>aT.here ops f (listed.setIfInBounds i true) t&&aT.all ops f (listed.setIfInBounds i true) t)&&aT.all ops fuel listed r
def aT.good (ops:Array Oper) (t:aT):Bool:=aT.here ops ops.size (Array.replicate ops.size false) t&&aT.all ops ops.size (Array.replicate ops.size false) t
def wN (P:Program) [Tables P] (ops:Array Oper) (nm i:Nat) (K:AS→Prop) (s:AS):Prop:=match ops[i]? with
 | some o=>wK P ops nm o K s
 | none=>False
def vcO (P:Program) [Tables P] (ops:Array Oper) (nm:Nat) (o:Option Oper) (K:AS→Prop) (s:AS):Prop:=match o with
 | some o=>wK P ops nm o K s
 | none=>False
def zR (P:Program) [Tables P] (ops:Array Oper) (base:Nat) (K:AS→Prop):aT→Nat→AS→Prop
 | .nil,k,s=>K { s with next:=base+k }
 | .cons i t .nil,k,s=>wN P ops (base+k) i (zR P ops base K t (k+1)) s
 | .cons i t (.cons j u r),k,s=>wN P ops (base+k) i (zR P ops base K t (k+1)) s∧zR P ops base K (.cons j u r) k s
section
variable {P:Program} [Tables P] {W:Nat→Prop} {N:Nat} {w0:Base P} {g:Where} {s:AS} {a:Act} {w:World}
theorem Ja {ops:Array Oper} {nm i:Nat} {K:AS→Prop} (hok:ops.toList.all (nj N)=true) {next:Act→World→Prop} {Q:Exit→Act→World→Prop} (h:bP W N w0 (fun n=>n < nm) g s a w) (hv:wN P ops nm i K s)
  (hK: ∀ g' s' a' w',bP W N w0 (fun n=>n < nm+1) g' s' a' w'→K s'→next a' w'):wpOp P ops Q i next a w:=by
 unfold wN at hv
 unfold wpOp
 split at hv
 ·rename_i o ho
  simp only[ho]
  have hd: ∀ d,o.dst=some d→d < N:=fun d hd=>by
   have:=List.all_eq_true.1 hok o (by simpa using Array.mem_of_getElem? ho)
   unfold nj at this;rw[hd]at this;simpa using this
  have go:bM P nm o K s→o.wp P a w next Q:=fun hr=>mJ h hd hr hK
  unfold wK at hv
  cases hg:o.guard with
  | none=>
   rw[hg]at hv
   rw[if_pos (by simp[Region.wanted,hg])]
   exact .inl (go hv)
  | some p=>
   obtain ⟨j,want⟩:=p
   rw[hg]at hv
   simp only[eY]at hv
   split at hv
   ·rename_i b hb
    have hy:=iZ h hg hb
    by_cases sU:b=want
    ·rw[if_pos (by rw[hy];simp[sU])]
     exact .inl (go (hv.1 sU))
    ·rw[if_neg (by rw[hy];simp[sU])]
     exact hK _ _ _ _ ((h.put hd (v:=V undef) trivial).mono (fun n hn=>by omega)) (hv.2 sU)
   ·exact hv.elim
 ·exact hv.elim
theorem Bs {ops:Array Oper} {base fuel:Nat} {K:AS→Prop} {listed:Array Bool}: ∀ (t:aT) (k:Nat) (s:AS),aT.all ops (fuel+1) listed t=true→zR P ops base K t k s→ ∀ i ∈ t.heads,
  ∃ u,aT.here ops fuel (listed.setIfInBounds i true) u=true∧aT.all ops fuel (listed.setIfInBounds i true) u=true∧wN P ops (base+k) i (zR P ops base K u (k+1)) s
 | .nil,_,_,_,_,i,hi=>by cases hi
 | .cons j u .nil,k,s,ha,hv,i,hi=>by
  simp only[aT.heads,List.mem_singleton]at hi
  subst hi
  simp only[aT.all,Bool.and_eq_true]at ha
  exact ⟨u,ha.1.1,ha.1.2,hv⟩
 | .cons j u (.cons j' u' r),k,s,ha,hv,i,hi=>by
  rw[aT.all]at ha
  simp only[Bool.and_eq_true]at ha
  rcases List.mem_cons.1 hi with rfl | hi
  ·exact ⟨u,ha.1.1,ha.1.2,hv.1⟩
  ·exact Bs (.cons j' u' r) k s ha.2 hv.2 i hi
theorem CQ {ops:Array Oper} {base:Nat} {K:AS→Prop} {Q:Exit→Act→World→Prop} (hok:ops.toList.all (nj N)=true) (hK: ∀ g' s' a' w',bP W N w0 (fun n=>n < s'.next) g' s' a' w'→K s'→Q .normal a' w'):
  ∀ (fuel:Nat) (listed:Array Bool) (t:aT) (k:Nat) (g:Where) (s:AS) (a:Act) (w:World),aT.here ops fuel listed t=true→aT.all ops fuel listed t=true→
   bP W N w0 (fun n=>n < base+k) g s a w→zR P ops base K t k s→wpAny P .any ops Q fuel listed a w
 | 0,listed,t,k,g,s,a,w,hh,ha,h,hv=>by
  simp only[aT.here,Bool.and_eq_true,beq_iff_eq,bne_self_eq_false,Bool.false_or,List.isEmpty_iff]at hh
  obtain ⟨h1,h2⟩:=hh
  rw[h2]at h1
  cases t with
  | nil=>exact ⟨h2,hK _ _ _ _ (h.next _) hv⟩
  | cons i u r=>simp[aT.heads]at h1
 | fuel+1,listed,t,k,g,s,a,w,hh,ha,h,hv=>by
  simp only[aT.here,Bool.and_eq_true,beq_iff_eq]at hh
  obtain ⟨h1,_⟩:=hh
  refine ⟨fun hr=> ?_,fun i hi=> ?_⟩
  ·rw[hr]at h1
   cases t with
   | nil=>exact hK _ _ _ _ (h.next _) hv
   | cons i u r=>simp[aT.heads]at h1
  ·rw[← h1]at hi
   obtain ⟨u,Zb,TN,Ea⟩:=Bs t k s ha hv i hi
   exact Ja hok h Ea fun g' s' a' w' h' hk=>CQ hok hK fuel _ u (k+1) g' s' a' w' Zb TN (h'.mono fun n hn=>by omega) hk
theorem Jb {ops:Array Oper} {base:Nat} {K:AS→Prop} {Q:Exit→Act→World→Prop} {t:aT} (hK: ∀ g' s' a' w',bP W N w0 (fun n=>n < s'.next) g' s' a' w'→K s'→Q .normal a' w')
  (ht:aT.good ops t=true) (hok:ops.toList.all (nj N)=true) (h:bP W N w0 (fun n=>n < base) g s a w) (hv:zR P ops base K t 0 s):
  wpAny P .any ops Q ops.size (Array.replicate ops.size false) a w:=by
 simp only[aT.good,Bool.and_eq_true]at ht
 exact CQ hok hK _ _ t 0 g s a w ht.1 ht.2 (by simpa using h) hv
def qE (P:Program) [Tables P]:Code→(Exit→AS→Prop)→AS→Prop
 | .region id ops true,F,s=>vc P (.region id ops true) F s∨(P.follows .mixedOrders=true∧ ∃ t,aT.good ops t=true∧zR P ops s.next (F .normal) t 0 s)
 | .seq a b,F,s=>qE P a (gE (qE P b F) F) s
 | .cond c a b,F,s=>ni (s.aL c) (qE P a F) (qE P b F) s
 | .block id c,F,s=>qE P c (iD id F) s
 | c,F,s=>vc P c F s
theorem dB: ∀ (c:Code) (F:Exit→AS→Prop) (s:AS),codeOk N c=true→qE P c F s→ ∀ (g:Where) (a:Act) (w:World) (Q:Exit→Act→World→Prop),bP W N w0 (fun n=>n < s.next) g s a w→
  (∀ e g' s' a' w',bP W N w0 (fun n=>n < s'.next) g' s' a' w'→F e s'→Q e a' w')→c.wp P Q a w
 | .region id ops true,F,s,hok,hv,g,a,w,Q,h,hQ=>by
  simp only[qE]at hv
  rcases hv with hv | ⟨hm,t,ht,hv⟩
  ·exact cY _ F s hok hv g a w Q h hQ
  ·exact wp_region_any hm (Jb (K:=F .normal) (base:=s.next) (fun g' s' a' w' h' hk=>hQ _ _ _ _ _ h' hk) ht hok h.drew hv)
 | .seq x y,F,s,hok,hv,g,a,w,Q,h,hQ=>by
  simp only[codeOk,Bool.and_eq_true]at hok
  simp only[qE]at hv
  refine wp_seq (dB x _ s hok.1 hv g a w _ h fun e g' s' a' w' h' hk=> ?_)
  cases e with
  | normal=>exact dB y F s' hok.2 hk g' a' w' Q h' hQ
  | _=>exact hQ _ _ _ _ _ h' hk
 | .cond c x y,F,s,hok,hv,g,a,w,Q,h,hQ=>by
  simp only[codeOk,Bool.and_eq_true]at hok
  simp only[qE,ni]at hv
  split at hv
  ·rename_i b hb
   refine wp_cond_split (t:=b) (by rw[h.eval hb];rfl) (fun ht=> ?_) (fun hf=> ?_)
   ·exact dB x F s hok.1 (hv.1 ht) g a w Q h hQ
   ·exact dB y F s hok.2 (hv.2 hf) g a w Q h hQ
  ·exact hv.elim
 | .block id c,F,s,hok,hv,g,a,w,Q,h,hQ=>by
  simp only[codeOk]at hok
  simp only[qE]at hv
  refine wp_block (dB c _ s hok hv g a w _ h fun e g' s' a' w' h' hk=> ?_)
  cases e with
  | exit id'=>
   simp only[iD]at hk
   simp only[Exit.inBlock]
   split
   ·rename_i e;rw[if_pos e]at hk;exact hQ _ _ _ _ _ h' hk
   ·rename_i e;rw[if_neg e]at hk;exact hQ _ _ _ _ _ h' hk
  | _=>exact hQ _ _ _ _ _ h' hk
 | .skip,F,s,hok,hv,g,a,w,Q,h,hQ=>cY _ F s hok hv g a w Q h hQ
 | .region id ops false,F,s,hok,hv,g,a,w,Q,h,hQ=>cY _ F s hok hv g a w Q h hQ
 | .loop c,F,s,hok,hv,g,a,w,Q,h,hQ=>cY _ F s hok hv g a w Q h hQ
 | .exit id,F,s,hok,hv,g,a,w,Q,h,hQ=>cY _ F s hok hv g a w Q h hQ
 | .ret,F,s,hok,hv,g,a,w,Q,h,hQ=>cY _ F s hok hv g a w Q h hQ
 | .rangeFunc .., F,s,hok,hv,g,a,w,Q,h,hQ=>cY _ F s hok hv g a w Q h hQ
 | .scope _,F,s,hok,hv,g,a,w,Q,h,hQ=>cY _ F s hok hv g a w Q h hQ
 | .label _,F,s,hok,hv,g,a,w,Q,h,hQ=>cY _ F s hok hv g a w Q h hQ
 | .goto _,F,s,hok,hv,g,a,w,Q,h,hQ=>cY _ F s hok hv g a w Q h hQ
 | .refuse _,F,s,hok,hv,g,a,w,Q,h,hQ=>cY _ F s hok hv g a w Q h hQ
theorem tF {f:Nat} {fn:Func} {c:Code} (hf:P.funcs[f]? =some fn) (hb:fn.body=some c) (hok:codeOk fn.ntmps c=true) {args:List AV} {box:Nat→Option aI} {n:Nat}
  (hlen:args.length≤fn.ntmps) (hlaid:Laid P w) (mM: ∀ b bx,Tables.row P b=some bx→ ¬ W b) (hn:Names (fun k=>k < n) (start args box n)) (hm:fq g (start args box n) w) (hown: ∀ t b,box t=some b→b.rw=true→W (g t).1)
  {Post:AV→AS→Prop} (hv:qE P c (mL P fn.results.toList Post) (start args box n)):
  Calls P f (args.map (AV.aq g)).toArray w fun e w'=> ∃ v g' s',e= .returned (AV.aq g' v)∧Post v s'∧AV.ok (fun k=>k < s'.next) v∧(∀ k,k < n→k < s'.next∧g' k=g k)∧fq g' s' w'∧Names (fun k=>k < s'.next) s'∧
   (∀ t b,s'.box t=some b→b.rw=true→w.heap.size≤(g' t).1∨W (g' t).1)∧Frame W w w':=by
 refine calls_of_wp hf hb ?_
 refine dB (N:=fn.ntmps) (W:=W) (w0:=⟨w,n,g,hlaid⟩) c _ _ hok hv g _ w _ ⟨?_,rfl, ?_,hn,hm,fun t b hb hrw=>Or.inr (hown t b hb hrw),Frame.refl _ _,fun k hk=>⟨hk,rfl⟩,mM⟩ ?_
 ·simp;omega
 ·intro d v hd
  simp only[start]at hd
  have hlt:d < args.length:=(List.getElem?_eq_some_iff.1 hd).1
  rw[Array.getElem?_append_left (by simpa using hlt)]
  simp[hd]
 ·intro e g' s' a' w' h' hk
  have fin:wM (kC (g8 P s' fn.results.toList)) Post s'→ ∃ v,(results fn a'.tmps).run P w'= .ok (AV.aq g' v) w'∧Post v s'∧AV.ok (fun k=>k < s'.next) v:=fun hr=>by
   unfold wM at hr
   split at hr
   ·rename_i v hv
    obtain ⟨h1,h2⟩:=nu h' hv
    exact ⟨v,h1,hr,h2⟩
   ·exact hr.elim
  cases e<;>simp only[mL]at hk
  ·obtain ⟨v,h1,h2,h3⟩:=fin hk
   exact ⟨h'.defers,_,h1,v,g',s',rfl,h2,h3,h'.pin,h'.mem,h'.names,h'.own,h'.frame⟩
  ·obtain ⟨v,h1,h2,h3⟩:=fin hk
   exact ⟨h'.defers,_,h1,v,g',s',rfl,h2,h3,h'.pin,h'.mem,h'.names,h'.own,h'.frame⟩
theorem FM {f:Nat} {fn:Func} {c:Code} (hf:P.funcs[f]? =some fn) (hb:fn.body=some c) (hok:codeOk fn.ntmps c=true) {l:List AV} {Post:AV→Prop}
  (hlen:l.length≤fn.ntmps) (hl:l.all AV.plain=true) (hr: ∀ r,Post r→AV.plain r=true) (hv:qE P c (mL P fn.results.toList (fun v _=>Post v)) (start l (fun _=>none) 0)):Pure P f l Post:=by
 refine ⟨hl,hr,fun w hlaid=> ?_⟩
 have hM:l.map AV.val=l.map (AV.aq fun _=>(0,0)):=rfl
 rw[hM]
 refine (tF (W:=fun _=>False) (g:=fun _=>(0,0)) hf hb hok hlen hlaid (fun _ _ _=>id) ⟨fun d v hd=> ?_,fun t b hb=> ?_⟩ ⟨fun t b hb=> ?_,fun t b hb=> ?_,fun t b hb=> ?_,fun t t' b b' hb=> ?_⟩ (fun t b hb=> ?_) hv).mono ?_
 ·simp only[start]at hd
  exact AV.aM (List.all_eq_true.1 hl v (List.mem_of_getElem? hd))
 ·simp[start]at hb
 ·simp[start]at hb
 ·simp[start]at hb
 ·simp[start]at hb
 ·simp[start]at hb
 ·simp at hb
 ·rintro e w' ⟨v,g',s',rfl,hpost,acD,CJ,hm,hn,hown,hfr⟩
  exact ⟨v,hpost,by rw[AV.gJ (hr v hpost)],hfr⟩
theorem yy {f:Nat} {fn:Func} {c:Code} (hf:P.funcs[f]? =some fn) (hb:fn.body=some c) (hok:codeOk fn.ntmps c=true) {l:List AV} {r:AV}
  (hlen:l.length≤fn.ntmps) (hl:l.all AV.plain=true) (hr:AV.plain r=true) (hv:qE P c (mL P fn.results.toList (fun v _=>v=r)) (start l (fun _=>none) 0)):cO P f l r:=
 FM hf hb hok hlen hl (fun _ hv=>hv▸hr) hv
theorem FN {f:Nat} {fn:Func} {c:Code} (hf:P.funcs[f]? =some fn) (hb:fn.body=some c) (hok:codeOk fn.ntmps c=true) {args:List AV} {k:Nat} {ins:Nat→Option aI}
  (hlen:args.length≤fn.ntmps) (hc:au P f=true) (hargs: ∀ v ∈ args,AV.ok (fun n=>n < k) v) (hall: ∀ n,n < k→ ∃ b,ins n=some b) (dw: ∀ n b,ins n=some b→n < k∧ ∀ x ∈ b.cells,SV.ok (fun n=>n < k) x)
  {Post:AV→(Nat→Option aI)→Prop} (hv:qE P c (mL P fn.results.toList (sV k Post)) (start args ins k)):bz P f args k ins Post:=by
 refine ⟨hc,hall,fun n b hb=>(dw n b hb).1,fun W g w hlaid mM hm hown=> ?_⟩
 refine (tF (W:=W) (g:=g) (w:=w) hf hb hok hlen hlaid mM ⟨fun d v hd=> ?_,fun t b ht=>dw t b ht⟩ ⟨hm.lt,hm.cell,hm.free,hm.sep⟩ hown hv).mono ?_
 ·simp only[start]at hd
  exact hargs v (List.mem_of_getElem? hd)
 ·rintro e w' ⟨v,g',s',rfl,⟨q,v0,out,hq,rfl,Uk,hout,hpost⟩,_,CJ,hmem,IY,yk,hfr⟩
  have hr: ∀ n,n < k→lM k q n=n:=fun n hn=>by unfold lM;rw[if_neg (by omega)]
  have hinj: ∀ n n',n < k+1→n' < k+1→lM k q n=lM k q n'→n=n':=fun n n' h1 h2 e=>by
   unfold lM at e
   split at e<;>split at e<;>omega
  refine ⟨v0,out,fun n=>g' (lM k q n),by rw[AV.bT],hpost,fun n hn=> ?_,Uk,fun n b hb=> ?_,⟨fun t b hb=> ?_,fun t b hb i v hv=> ?_,fun t b hb hrw i hi=> ?_,fun t t' b b' hb hrw hb' hne=> ?_⟩,fun t b hb hrw=> ?_,hfr⟩
  ·show g' (lM k q n)=_
   rw[hr n hn];exact (CJ n hn).2
  ·obtain ⟨h1,h2,h3,_⟩:=hout n b hb
   exact ⟨h1,h2,h3⟩
  ·obtain ⟨h1,_,_,b',h2,_⟩:=hout t b hb
   exact hmem.lt _ b' h2
  ·obtain ⟨h1,_,_,b',h2,_,h4⟩:=hout t b hb
   have:=hmem.cell _ b' h2 i (SV.ren (lM k q) v) (by rw[h4];simp[hv])
   rw[this,SV.bT]
  ·obtain ⟨h1,_,_,b',h2,h3,h4⟩:=hout t b hb
   exact hmem.free _ b' h2 (h3 hrw) i (by rw[h4];simpa using hi)
  ·obtain ⟨h1,_,_,c1,h2,h3,_⟩:=hout t b hb
   obtain ⟨h1',_,_,c2,h2',_,_⟩:=hout t' b' hb'
   exact hmem.sep _ _ c1 c2 h2 (h3 hrw) h2' (fun e=>hne (hinj _ _ h1 h1' e))
  ·obtain ⟨h1,_,_,b',h2,h3,_⟩:=hout t b hb
   exact yk _ b' h2 (h3 hrw)
theorem LW {a b:Code} {F:Exit→AS→Prop}:qE P (.seq a b) F s=qE P a (gE (qE P b F) F) s:=rfl
theorem FP {c:Operand} {a b:Code} {F:Exit→AS→Prop}:qE P (.cond c a b) F s=ni (s.aL c) (qE P a F) (qE P b F) s:=rfl
theorem Bt {id:Nat} {c:Code} {F:Exit→AS→Prop}:qE P (.block id c) F s=qE P c (iD id F) s:=rfl
theorem yz {id:Nat} {ops:Array Oper} {F:Exit→AS→Prop}:qE P (.region id ops false) F s=vc P (.region id ops false) F s:=rfl
theorem FQ {F:Exit→AS→Prop}:qE P .skip F s=vc P .skip F s:=rfl
theorem LX {F:Exit→AS→Prop}:qE P .ret F s=vc P .ret F s:=rfl
theorem LY {ops:Array Oper} {base k:Nat} {K:AS→Prop} {e:Nat→Option AV} {b:Nat→Option aI} {n:Nat}:zR P ops base K .nil k ⟨e,b,n⟩=K ⟨e,b,base+k⟩:=rfl
theorem LZ {ops:Array Oper} {base k i:Nat} {t:aT} {K:AS→Prop}:zR P ops base K (.cons i t .nil) k s=wN P ops (base+k) i (zR P ops base K t (k+1)) s:=rfl
theorem FR {ops:Array Oper} {base k i j:Nat} {t u r:aT} {K:AS→Prop}:zR P ops base K (.cons i t (.cons j u r)) k s=(wN P ops (base+k) i (zR P ops base K t (k+1)) s∧zR P ops base K (.cons j u r) k s):=rfl
theorem L0 {l:List Oper} {nm i:Nat} {K:AS→Prop}:wN P l.toArray nm i K s=vcO P l.toArray nm l[i]? K s:=by unfold wN vcO;simp
theorem FT {ops:Array Oper} {nm:Nat} {dst:Option Nat} {op:Op} {ty:TypeId} {pos:String} {after:Array Edge} {K:AS→Prop}:vcO P ops nm (some ⟨dst,op,ty,pos,after,none⟩) K s=bM P nm ⟨dst,op,ty,pos,after,none⟩ K s:=rfl
end
theorem eu:type_of% @LW∧type_of% @FP∧type_of% @Bt∧type_of% @yz∧type_of% @FQ∧type_of% @LX∧type_of% @LY∧type_of% @LZ∧type_of% @FR∧type_of% @L0∧type_of% @FT:=
 ⟨@LW, @FP, @Bt, @yz, @FQ, @LX, @LY, @LZ, @FR, @L0, @FT⟩
end Go.bA
