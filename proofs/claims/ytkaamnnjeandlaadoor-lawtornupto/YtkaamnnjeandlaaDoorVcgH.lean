/-
  The calculus over a function's code, and the way in and out. Nothing here speaks of a program.
-/
import Derived.Test.YtkaamnnjeandlaaDoorVcgF
set_option linter.unusedVariables false
set_option linter.unusedSimpArgs false
namespace Go.bM
set_option linter.unusedSectionVars false
def vc (P:Program) [Tables P]:Code→(Exit→AS→Prop)→AS→Prop
 | .skip,F,s=>F .normal s
 | .region _ ops false,F,s=>ly P ops s.next ops.toList 0 (F .normal) s
 | .region _ ops true,F,s=>(P.follows .mixedOrders=true∧AA ops=true)∧gY P ops s.next ops.toList 0 (F .normal) s
 | .seq a b,F,s=>vc P a (fa (vc P b F) F) s
 | .cond c a b,F,s=>lN (s.aK c) (vc P a F) (vc P b F) s
 | .block id c,F,s=>vc P c (eD id F) s
 | .loop c,F,s=>kC (vc P c) F s
 | .exit id,F,s=>F (.exit id) s
 | .ret,F,s=>F .ret s
 | _,_,_=>False
def codeOk (N:Nat):Code→Bool
 | .region _ ops _=>ops.toList.all (lO N)
 | .seq a b=>codeOk N a&&codeOk N b
 | .cond _ a b=>codeOk N a&&codeOk N b
 | .block _ c=>codeOk N c
 | .loop c=>codeOk N c
 | _=>true
section
variable {P:Program} [Tables P] {W:Nat→Prop} {N:Nat} {w0:Base P} {g:Where} {s:AS} {a:Act} {w:World}
theorem mI (p:Nat→Prop) (h: ∃ n,p n): ∃ n,p n∧ ∀ k,p k→n≤k:=by
 obtain ⟨n,hn⟩:=h
 have: ∀ n,p n→ ∃ n,p n∧ ∀ k,p k→n≤k:=by
  intro n
  induction n using Nat.strongRecOn with
  | _ n ih=>
   intro hn
   by_cases hx: ∃ k,k < n∧p k
   ·obtain ⟨k,hk,hpk⟩:=hx
    exact ih k hk hpk
   ·exact ⟨n,hn,fun k hk=>Nat.le_of_not_lt fun hlt=>hx ⟨k,hlt,hk⟩⟩
 exact this n hn
theorem dn: ∀ (c:Code) (F:Exit→AS→Prop) (s:AS),codeOk N c=true→vc P c F s→ ∀ (g:Where) (a:Act) (w:World) (Q:Exit→Act→World→Prop),br W N w0 (fun n=>n < s.next) g s a w→
  (∀ e g' s' a' w',br W N w0 (fun n=>n < s'.next) g' s' a' w'→F e s'→Q e a' w')→c.wp P Q a w
 | .skip,F,s,_,hv,g,a,w,Q,h,hQ=>wp_skip (hQ _ _ _ _ _ h hv)
 | .region id ops false,F,s,hok,hv,g,a,w,Q,h,hQ=>by
  refine wp_region_list (rO (K:=F .normal) (base:=s.next) (fun g' s' a' w' h' hk=>hQ _ _ _ _ _ h' hk) ops.toList 0 g s a w hok (by simpa using h) ?_)
  simpa only[vc] using hv
 | .seq x y,F,s,hok,hv,g,a,w,Q,h,hQ=>by
  simp only[codeOk,Bool.and_eq_true]at hok
  simp only[vc]at hv
  refine wp_seq (dn x _ s hok.1 hv g a w _ h fun e g' s' a' w' h' hk=> ?_)
  cases e with
  | normal=>exact dn y F s' hok.2 hk g' a' w' Q h' hQ
  | _=>exact hQ _ _ _ _ _ h' hk
 | .cond c x y,F,s,hok,hv,g,a,w,Q,h,hQ=>by
  simp only[codeOk,Bool.and_eq_true]at hok
  simp only[vc,lN]at hv
  split at hv
  ·rename_i b hb
   refine wp_cond_split (t:=b) (by rw[h.eval hb];rfl) (fun ht=> ?_) (fun hf=> ?_)
   ·exact dn x F s hok.1 (hv.1 ht) g a w Q h hQ
   ·exact dn y F s hok.2 (hv.2 hf) g a w Q h hQ
  ·exact hv.elim
 | .block id c,F,s,hok,hv,g,a,w,Q,h,hQ=>by
  simp only[codeOk]at hok
  simp only[vc]at hv
  refine wp_block (dn c _ s hok hv g a w _ h fun e g' s' a' w' h' hk=> ?_)
  cases e with
  | exit id'=>
   simp only[eD]at hk
   simp only[Exit.inBlock]
   split
   ·rename_i e;rw[if_pos e]at hk;exact hQ _ _ _ _ _ h' hk
   ·rename_i e;rw[if_neg e]at hk;exact hQ _ _ _ _ _ h' hk
  | _=>exact hQ _ _ _ _ _ h' hk
 | .loop c,F,s,hok,hv,g,a,w,Q,h,hQ=>by
  simp only[codeOk]at hok
  simp only[vc]at hv
  obtain ⟨ι,st,μ,i₀,⟨r,hr,hid⟩,uk,hbody⟩:=hv
  have JB: ∀ (r:Nat→Nat),(∀ n,n < s.next→r n=n)→ ∀ i n,n < w0.pn→r n=n∧n < (st i).next:=fun r hid i n hn=>⟨hid n (h.pin n hn).1,Nat.lt_of_lt_of_le (h.pin n hn).1 (uk i)⟩
  let p:Act→World→Nat→Prop:=fun a w n=> ∃ i g,μ i=n∧br W N w0 (fun n=>n < (st i).next) g (st i) a w
  have hmin: ∀ a w,(∃ n,p a w n)→ ∃ n,p a w n∧ ∀ k,p a w k→n≤k:=fun a w hx=>mI _ hx
  have hm: ∃ m:Act→World→Nat, ∀ a w,(∃ n,p a w n)→p a w (m a w)∧ ∀ k,p a w k→m a w≤k:=by
   refine ⟨fun a w=>Classical.epsilon (fun n=>p a w n∧ ∀ k,p a w k→n≤k),fun a w hx=> ?_⟩
   exact Classical.epsilon_spec (hmin a w hx)
  obtain ⟨m,hm⟩:=hm
  refine wp_loop (fun a w=> ∃ n,p a w n) m ⟨_,i₀,_,rfl,h.eW hr (JB r hid i₀)⟩ (fun a1 w1 hI=> ?_)
  obtain ⟨⟨i,g1,Xi,h1⟩,Ll⟩:=hm a1 w1 hI
  refine dn c _ (st i) hok (hbody i) g1 a1 w1 _ h1 fun e g' s' a' w' h' hk=> ?_
  cases e with
  | normal=>
   obtain ⟨j,hlt,r',hr',Lm⟩:=hk
   have hp:p a' w' (μ j):=⟨j,_,rfl,h'.eW hr' (JB r' Lm j)⟩
   refine ⟨⟨_,hp⟩, ?_⟩
   have:=(hm a' w' ⟨_,hp⟩).2 _ hp
   omega
  | _=>exact hQ _ _ _ _ _ h' hk
 | .exit id,F,s,_,hv,g,a,w,Q,h,hQ=>wp_exit (hQ _ _ _ _ _ h hv)
 | .ret,F,s,_,hv,g,a,w,Q,h,hQ=>wp_ret (hQ _ _ _ _ _ h hv)
 | .region id ops true,F,s,hok,hv,g,a,w,Q,h,hQ=>by
  simp only[vc]at hv
  exact wp_region_any hv.1.1 (uX (K:=F .normal) (base:=s.next) (fun g' s' a' w' h' hk=>hQ _ _ _ _ _ h' hk) hv.1.2 hok h.drew hv.2)
 | .rangeFunc .., _,_,_,hv,_,_,_,_,_,_=>hv.elim
 | .scope _,_,_,_,hv,_,_,_,_,_,_=>hv.elim
 | .label _,_,_,_,hv,_,_,_,_,_,_=>hv.elim
 | .goto _,_,_,_,hv,_,_,_,_,_,_=>hv.elim
 | .refuse _,_,_,_,hv,_,_,_,_,_,_=>hv.elim
def rR (P:Program) [Tables P] (s:AS) (r:ResultVar):Option CV:=match r with
 | .tmp t=>match s.env t with
  | some (.inl c)=>some c
  | _=>none
 | .cell t ty=>match dG P s ty (s.env t) with
  | some (some (.inl c),_)=>some c
  | _=>none
def fO (P:Program) [Tables P] (s:AS) (rs:List ResultVar):Option (List CV):=match rs with
 | []=>some []
 | r::rest=>match rR P s r,fO P s rest with
  | some c,some l=>some (c::l)
  | _,_=>none
def iV (l:Option (List CV)):Option AV:=match l with
 | some [c]=>some (.inl c)
 | some l=>some (.inr l)
 | none=>none
def nW (v:Option AV) (Post:AV→AS→Prop) (s:AS):Prop:=match v with
 | some v=>Post v s
 | none=>False
def jX (P:Program) [Tables P] (rs:List ResultVar) (Post:AV→AS→Prop) (e:Exit) (s:AS):Prop:=match e with
 | .normal=>nW (iV (fO P s rs)) Post s
 | .ret=>nW (iV (fO P s rs)) Post s
 | _=>False
def pP (tmps:Array Value) (r:ResultVar):Sem Value:=match r with
 | .tmp t=>pure (tmps.getD t undef)
 | .cell p t=>do loadVar t (← asAddr (tmps.getD p undef))
theorem results_eq (fn:Func) (tmps:Array Value):results fn tmps=(do
  let vs ← fn.results.mapM (pP tmps)
  pure (if h:vs.size=1 then vs[0] else .tuple vs)):=by
 unfold results
 congr 1
theorem Cj {M:Nat→Prop} (h:br W N w0 M g s a w) {r:ResultVar} {c:CV} (hr:rR P s r=some c):
  (pP a.tmps r).run P w= .ok (CV.ah g c) w∧CV.ok M c:=by
 unfold rR at hr
 split at hr
 ·rename_i t
  split at hr
  ·rename_i c' hc
   simp only[Option.some.injEq]at hr;subst hr
   have:=h.env t _ hc
   exact ⟨by simp[pP,Array.getD_eq_getD_getElem?,this,AV.ah],h.names.env t _ hc⟩
  ·simp at hr
 ·rename_i t ty
  split at hr
  ·rename_i c' m he
   simp only[Option.some.injEq]at hr;subst hr
   cases hx:s.env t with
   | none=>rw[hx]at he;simp[dG]at he
   | some x=>
    rw[hx]at he
    obtain ⟨g',w',r',hrun⟩:=yo (nm:=0) h he
    have hm:m=none:=by
     unfold dG at he
     split at he
     ·split at he
      ·split at he
       ·simp only[Option.some.injEq,Prod.mk.injEq]at he;exact he.2.symm
       ·simp at he
      ·split at he
       ·simp only[Option.some.injEq,Prod.mk.injEq]at he;exact he.2.symm
       ·simp at he
      ·simp at he
     ·rename_i b o Vc
      simp only[Option.some.injEq]at Vc;subst Vc
      exact (nR h he).1
     ·simp at he
    subst hm
    have hl: ∀ b o,x=Ptr b o→(loadVar ty ⟨(g b).1,(g b).2+o,none⟩).run P w= .ok (CV.ah g c') w∧CV.ok M c':=by
     intro b o Vc
     subst Vc
     unfold dG at he
     split at he
     ·rename_i b' o' S2
      simp only[Option.some.injEq,Sum.inl.injEq,Sum.inr.injEq,Prod.mk.injEq]at S2
      obtain ⟨rfl,rfl⟩:=S2
      split at he
      ·rename_i n bx ht hb
       split at he
       ·rename_i hle
        simp only[Option.some.injEq,Prod.mk.injEq,Sum.inl.injEq,and_true]at he
        subst he
        exact ⟨sG h ht hb hle,fun y hy=>(h.names.box _ bx hb).2 y (List.mem_of_mem_drop (List.mem_of_mem_take hy))⟩
       ·simp at he
      ·rename_i n bx ht hb
       split at he
       ·rename_i v hv
        simp only[Option.some.injEq,Prod.mk.injEq,Sum.inl.injEq,and_true]at he
        subst he
        exact ⟨sH h ht hb hv,((h.names.box _ bx hb).2 v (List.mem_of_getElem? hv)).1⟩
       ·simp at he
      ·simp at he
     ·rename_i Ck;cases Ck
     ·rename_i Ck _;exact (Ck b o rfl).elim
    by_cases Ln: ∃ b o,x=V (.pointer (some ⟨b,o,none⟩))
    ·obtain ⟨b,o,rfl⟩:=Ln
     obtain ⟨-, h1,h2⟩:=nR h he
     have Ju:=h.env t _ hx
     have Ro:a.tmps.getD t undef= .pointer (some ⟨b,o,none⟩):=by
      rw[Array.getD_eq_getD_getElem?,Ju];rfl
     refine ⟨?_,h2⟩
     simp only[pP,Ro,asAddr,Sem.run_bind,Sem.run_pure,Result.andThen_ok]
     exact h1
    have hp: ∃ b o,x=Ptr b o:=by
     rcases x with ((v | ⟨b,o⟩ | ⟨b,o,n,c⟩) | l) | l
     ·unfold dG at he
      split at he
      ·rename_i Ck;cases Ck
      ·rename_i b o Ck;simp only[Option.some.injEq]at Ck;exact (Ln ⟨b,o,Ck⟩).elim
      ·simp at he
     ·exact ⟨b,o,rfl⟩
     ·simp[dG]at he
     ·simp[dG]at he
     ·simp[dG]at he
    obtain ⟨b,o,rfl⟩:=hp
    have Ju:=h.env t _ hx
    have hl':=hl b o rfl
    refine ⟨?_,hl'.2⟩
    have Ro:a.tmps.getD t undef= .pointer (some ⟨(g b).1,(g b).2+o,none⟩):=by
     rw[Array.getD_eq_getD_getElem?,Ju];rfl
    simp only[pP,Ro,asAddr,Sem.run_bind,Sem.run_pure,Result.andThen_ok]
    exact hl'.1
  ·simp at hr
theorem sU {M:Nat→Prop} (h:br W N w0 M g s a w): ∀ (rs:List ResultVar) (l:List CV),fO P s rs=some l→
  (rs.mapM (pP a.tmps)).run P w= .ok (l.map (CV.ah g)) w∧ ∀ c ∈ l,CV.ok M c
 | [],l,he=>by simp only[fO,Option.some.injEq]at he;subst he;simp
 | r::rest,l,he=>by
  unfold fO at he
  split at he
  ·rename_i c l' hc hl'
   simp only[Option.some.injEq]at he;subst he
   obtain ⟨h1,h2⟩:=Cj (P:=P) h hc
   obtain ⟨h3,h4⟩:=sU h rest l' hl'
   refine ⟨by simp[List.mapM_cons,h1,h3],fun x hx=> ?_⟩
   rcases List.mem_cons.1 hx with rfl | hx
   ·exact h2
   ·exact h4 x hx
  ·simp at he
theorem gy {M:Nat→Prop} (h:br W N w0 M g s a w) {fn:Func} {v:AV} (hv:iV (fO P s fn.results.toList)=some v):
  (results fn a.tmps).run P w= .ok (AV.ah g v) w∧AV.ok M v:=by
 cases hl:fO P s fn.results.toList with
 | none=>rw[hl]at hv;simp[iV]at hv
 | some l=>
  obtain ⟨h1,h2⟩:=sU h _ _ hl
  have hA:(fn.results.mapM (pP a.tmps)).run P w= .ok (l.map (CV.ah g)).toArray w:=by
   rw[Array.mapM_eq_mapM_toList,Sem.run_map,h1];rfl
  rw[results_eq,Sem.run_bind,hA]
  simp only[Result.andThen_ok,Sem.run_pure]
  rw[hl]at hv
  match l,hv,h2 with
  | [c],hv,h2=>
   simp only[iV,Option.some.injEq]at hv;subst hv
   exact ⟨by simp[AV.ah],h2 c (by simp)⟩
  | [],hv,h2=>
   simp only[iV,Option.some.injEq]at hv;subst hv
   exact ⟨by simp[AV.ah],h2⟩
  | c::d::r,hv,h2=>
   simp only[iV,Option.some.injEq]at hv;subst hv
   exact ⟨by simp[AV.ah],h2⟩
def start (args:List AV) (box:Nat→Option aG) (next:Nat):AS:={ env:=fun d=>args[d]?, box,next }
theorem sV {f:Nat} {fn:Func} {c:Code} (hf:P.funcs[f]? =some fn) (hb:fn.body=some c) (hok:codeOk fn.ntmps c=true) {args:List AV} {box:Nat→Option aG} {n:Nat}
  (hlen:args.length≤fn.ntmps) (hlaid:Laid P w) (gR: ∀ b bx,Tables.row P b=some bx→ ¬ W b) (hn:Names (fun k=>k < n) (start args box n)) (hm:cw g (start args box n) w) (hown: ∀ t b,box t=some b→b.rw=true→W (g t).1)
  {Post:AV→AS→Prop} (hv:vc P c (jX P fn.results.toList Post) (start args box n)):
  Calls P f (args.map (AV.ah g)).toArray w fun e w'=> ∃ v g' s',e= .returned (AV.ah g' v)∧Post v s'∧AV.ok (fun k=>k < s'.next) v∧(∀ k,k < n→k < s'.next∧g' k=g k)∧cw g' s' w'∧Names (fun k=>k < s'.next) s'∧
   (∀ t b,s'.box t=some b→b.rw=true→w.heap.size≤(g' t).1∨W (g' t).1)∧Frame W w w':=by
 refine calls_of_wp hf hb ?_
 refine dn (N:=fn.ntmps) (W:=W) (w0:=⟨w,n,g,hlaid⟩) c _ _ hok hv g _ w _ ⟨?_,rfl, ?_,hn,hm,fun t b hb hrw=>Or.inr (hown t b hb hrw),Frame.refl _ _,fun k hk=>⟨hk,rfl⟩,gR⟩ ?_
 ·simp;omega
 ·intro d v hd
  simp only[start]at hd
  have hlt:d < args.length:=(List.getElem?_eq_some_iff.1 hd).1
  rw[Array.getElem?_append_left (by simpa using hlt)]
  simp[hd]
 ·intro e g' s' a' w' h' hk
  have fin:nW (iV (fO P s' fn.results.toList)) Post s'→ ∃ v,(results fn a'.tmps).run P w'= .ok (AV.ah g' v) w'∧Post v s'∧AV.ok (fun k=>k < s'.next) v:=fun hr=>by
   unfold nW at hr
   split at hr
   ·rename_i v hv
    obtain ⟨h1,h2⟩:=gy h' hv
    exact ⟨v,h1,hr,h2⟩
   ·exact hr.elim
  cases e<;>simp only[jX]at hk
  ·obtain ⟨v,h1,h2,h3⟩:=fin hk
   exact ⟨h'.defers,_,h1,v,g',s',rfl,h2,h3,h'.pin,h'.mem,h'.names,h'.own,h'.frame⟩
  ·obtain ⟨v,h1,h2,h3⟩:=fin hk
   exact ⟨h'.defers,_,h1,v,g',s',rfl,h2,h3,h'.pin,h'.mem,h'.names,h'.own,h'.frame⟩
theorem Fz {f:Nat} {fn:Func} {c:Code} (hf:P.funcs[f]? =some fn) (hb:fn.body=some c) (hok:codeOk fn.ntmps c=true) {l:List AV} {Post:AV→Prop}
  (hlen:l.length≤fn.ntmps) (hl:l.all AV.plain=true) (hr: ∀ r,Post r→AV.plain r=true) (hv:vc P c (jX P fn.results.toList (fun v _=>Post v)) (start l (fun _=>none) 0)):Pure P f l Post:=by
 refine ⟨hl,hr,fun w hlaid=> ?_⟩
 have hM:l.map AV.val=l.map (AV.ah fun _=>(0,0)):=rfl
 rw[hM]
 refine (sV (W:=fun _=>False) (g:=fun _=>(0,0)) hf hb hok hlen hlaid (fun _ _ _=>id) ⟨fun d v hd=> ?_,fun t b hb=> ?_⟩ ⟨fun t b hb=> ?_,fun t b hb=> ?_,fun t b hb=> ?_,fun t t' b b' hb=> ?_⟩ (fun t b hb=> ?_) hv).mono ?_
 ·simp only[start]at hd
  exact AV.dq (List.all_eq_true.1 hl v (List.mem_of_getElem? hd))
 ·simp[start]at hb
 ·simp[start]at hb
 ·simp[start]at hb
 ·simp[start]at hb
 ·simp[start]at hb
 ·simp at hb
 ·rintro e w' ⟨v,g',s',rfl,hpost,VO,uY,hm,hn,hown,hfr⟩
  exact ⟨v,hpost,by rw[AV.gj (hr v hpost)],hfr⟩
theorem fE {f:Nat} {fn:Func} {c:Code} (hf:P.funcs[f]? =some fn) (hb:fn.body=some c) (hok:codeOk fn.ntmps c=true) {l:List AV} {r:AV}
  (hlen:l.length≤fn.ntmps) (hl:l.all AV.plain=true) (hr:AV.plain r=true) (hv:vc P c (jX P fn.results.toList (fun v _=>v=r)) (start l (fun _=>none) 0)):sM P f l r:=
 Fz hf hb hok hlen hl (fun _ hv=>hv▸hr) hv
end
end Go.bM
