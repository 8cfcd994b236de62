/-
  The calculus over a function's code, and the way in and out. Nothing here speaks of a program.
-/
import Derived.Test.YtoakenpcooglpaaGreatDoorVcgC
set_option linter.unusedVariables false
set_option linter.unusedSimpArgs false
namespace Go.cA
set_option linter.unusedSectionVars false
def vc (P:Program) [Tables P]:Code→(Exit→AS→Prop)→AS→Prop
 | .skip,F,s=>F .normal s
 | .region _ ops false,F,s=>kL P ops s.next ops.toList 0 (F .normal) s
 | .region _ ops true,F,s=>(P.follows .mixedOrders=true∧Gk ops=true)∧gV P ops s.next ops.toList 0 (F .normal) s
 | .seq a b,F,s=>vc P a (fi (vc P b F) F) s
 | .cond c a b,F,s=>mP (s.aQ c) (vc P a F) (vc P b F) s
 | .block id c,F,s=>vc P c (iY id F) s
 | .loop c,F,s=>jJ (vc P c) F s
 | .exit id,F,s=>F (.exit id) s
 | .ret,F,s=>F .ret s
 | _,_,_=>False
def codeOk (N:Nat):Code→Bool
 | .region _ ops _=>ops.toList.all (nj N)
 | .seq a b=>codeOk N a&&codeOk N b
 | .cond _ a b=>codeOk N a&&codeOk N b
 | .block _ c=>codeOk N c
 | .loop c=>codeOk N c
 | _=>true
section
variable {P:Program} [Tables P] {W:Nat→Prop} {N:Nat} {w0:gF P} {g:bG} {s:AS} {a:Act} {w:World}
theorem rF (p:Nat→Prop) (h: ∃ n,p n): ∃ n,p n∧ ∀ k,p k→n≤k:=by
 obtain ⟨n,hn⟩:=h
 have: ∀ n,p n→ ∃ n,p n∧ ∀ k,p k→n≤k:=by
  intro n
  induction n using Nat.strongRecOn with
  | _ n ih=>
   intro hn
   by_cases hx: ∃ k,k < n∧p k
   ·obtain ⟨k,hk,hpk⟩:=hx
    exact ih k hk hpk
   ·exact ⟨n,hn,fun k hk=>Nat.le_of_not_lt fun hlt=>hx ⟨k,hlt,hk⟩⟩
 exact this n hn
theorem dI: ∀ (c:Code) (F:Exit→AS→Prop) (s:AS),codeOk N c=true→vc P c F s→ ∀ (g:bG) (a:Act) (w:World) (Q:Exit→Act→World→Prop),cE W N w0 (fun n=>n < s.next) g s a w→
  (∀ e g' s' a' w',cE W N w0 (fun n=>n < s'.next) g' s' a' w'→F e s'→Q e a' w')→c.wp P Q a w
 | .skip,F,s,_,hv,g,a,w,Q,h,hQ=>wp_skip (hQ _ _ _ _ _ h hv)
 | .region id ops false,F,s,hok,hv,g,a,w,Q,h,hQ=>by
  refine wp_region_list (CU (K:=F .normal) (base:=s.next) (fun g' s' a' w' h' hk=>hQ _ _ _ _ _ h' hk) ops.toList 0 g s a w hok (by simpa using h) ?_)
  simpa only[vc] using hv
 | .seq x y,F,s,hok,hv,g,a,w,Q,h,hQ=>by
  simp only[codeOk,Bool.and_eq_true]at hok
  simp only[vc]at hv
  refine wp_seq (dI x _ s hok.1 hv g a w _ h fun e g' s' a' w' h' hk=> ?_)
  cases e with
  | normal=>exact dI y F s' hok.2 hk g' a' w' Q h' hQ
  | _=>exact hQ _ _ _ _ _ h' hk
 | .cond c x y,F,s,hok,hv,g,a,w,Q,h,hQ=>by
  simp only[codeOk,Bool.and_eq_true]at hok
  simp only[vc,mP]at hv
  split at hv
  ·rename_i b hb
   refine wp_cond_split (t:=b) (by rw[h.eval hb];rfl) (fun ht=> ?_) (fun hf=> ?_)
   ·exact dI x F s hok.1 (hv.1 ht) g a w Q h hQ
   ·exact dI y F s hok.2 (hv.2 hf) g a w Q h hQ
  ·exact hv.elim
 | .block id c,F,s,hok,hv,g,a,w,Q,h,hQ=>by
  simp only[codeOk]at hok
  simp only[vc]at hv
  refine wp_block (dI c _ s hok hv g a w _ h fun e g' s' a' w' h' hk=> ?_)
  cases e with
  | exit id'=>
   simp only[iY]at hk
   simp only[Exit.inBlock]
   split
   ·rename_i e;rw[if_pos e]at hk;exact hQ _ _ _ _ _ h' hk
   ·rename_i e;rw[if_neg e]at hk;exact hQ _ _ _ _ _ h' hk
  | _=>exact hQ _ _ _ _ _ h' hk
 | .loop c,F,s,hok,hv,g,a,w,Q,h,hQ=>by
  simp only[codeOk]at hok
  simp only[vc]at hv
  obtain ⟨ι,st,μ,i₀,⟨r,hr,hid⟩,hnx,hbody⟩:=hv
  have WU: ∀ (r:Nat→Nat),(∀ n,n < s.next→r n=n)→ ∀ i n,n < w0.pn→r n=n∧n < (st i).next:=fun r hid i n hn=>⟨hid n (h.kJ n hn).1,Nat.lt_of_lt_of_le (h.kJ n hn).1 (hnx i)⟩
  let p:Act→World→Nat→Prop:=fun a w n=> ∃ i g,μ i=n∧cE W N w0 (fun n=>n < (st i).next) g (st i) a w
  have hmin: ∀ a w,(∃ n,p a w n)→ ∃ n,p a w n∧ ∀ k,p a w k→n≤k:=fun a w hx=>rF _ hx
  have hm: ∃ m:Act→World→Nat, ∀ a w,(∃ n,p a w n)→p a w (m a w)∧ ∀ k,p a w k→m a w≤k:=by
   refine ⟨fun a w=>Classical.epsilon (fun n=>p a w n∧ ∀ k,p a w k→n≤k),fun a w hx=> ?_⟩
   exact Classical.epsilon_spec (hmin a w hx)
  obtain ⟨m,hm⟩:=hm
  refine wp_loop (fun a w=> ∃ n,p a w n) m ⟨_,i₀,_,rfl,h.dv hr (WU r hid i₀)⟩ (fun a1 w1 hI=> ?_)
  obtain ⟨⟨i,g1,hmu,h1⟩,afJ⟩:=hm a1 w1 hI
  refine dI c _ (st i) hok (hbody i) g1 a1 w1 _ h1 fun e g' s' a' w' h' hk=> ?_
  cases e with
  | normal=>
   obtain ⟨j,hlt,r',hr',afK⟩:=hk
   have hp:p a' w' (μ j):=⟨j,_,rfl,h'.dv hr' (WU r' afK j)⟩
   refine ⟨⟨_,hp⟩, ?_⟩
   have:=(hm a' w' ⟨_,hp⟩).2 _ hp
   omega
  | _=>exact hQ _ _ _ _ _ h' hk
 | .exit id,F,s,_,hv,g,a,w,Q,h,hQ=>wp_exit (hQ _ _ _ _ _ h hv)
 | .ret,F,s,_,hv,g,a,w,Q,h,hQ=>wp_ret (hQ _ _ _ _ _ h hv)
 | .region id ops true,F,s,hok,hv,g,a,w,Q,h,hQ=>by
  simp only[vc]at hv
  exact wp_region_any hv.1.1 (NF (K:=F .normal) (base:=s.next) (fun g' s' a' w' h' hk=>hQ _ _ _ _ _ h' hk) hv.1.2 hok h.drew hv.2)
 | .rangeFunc .., _,_,_,hv,_,_,_,_,_,_=>hv.elim
 | .scope _,_,_,_,hv,_,_,_,_,_,_=>hv.elim
 | .label _,_,_,_,hv,_,_,_,_,_,_=>hv.elim
 | .goto _,_,_,_,hv,_,_,_,_,_,_=>hv.elim
 | .refuse _,_,_,_,hv,_,_,_,_,_,_=>hv.elim
def sU (P:Program) [Tables P] (s:AS) (r:ResultVar):Option CV:=match r with
 | .tmp t=>match s.env t with
  | some (.inl c)=>some c
  | _=>none
 | .cell t ty=>match eg P s ty (s.env t) with
  | some (some (.inl c),_)=>some c
  | _=>none
def fZ (P:Program) [Tables P] (s:AS) (rs:List ResultVar):Option (List CV):=match rs with
 | []=>some []
 | r::rest=>match sU P s r,fZ P s rest with
  | some c,some l=>some (c::l)
  | _,_=>none
def jQ (l:Option (List CV)):Option AV:=match l with
 | some [c]=>some (.inl c)
 | some l=>some (.inr l)
 | none=>none
def sV (v:Option AV) (Post:AV→AS→Prop) (s:AS):Prop:=match v with
 | some v=>Post v s
 | none=>False
def kY (P:Program) [Tables P] (rs:List ResultVar) (Post:AV→AS→Prop) (e:Exit) (s:AS):Prop:=match e with
 | .normal=>sV (jQ (fZ P s rs)) Post s
 | .ret=>sV (jQ (fZ P s rs)) Post s
 | _=>False
def pM (tmps:Array Value) (r:ResultVar):Sem Value:=match r with
 | .tmp t=>pure (tmps.getD t undef)
 | .cell p t=>do loadVar t (← asAddr (tmps.getD p undef))
theorem results_eq (fn:Func) (tmps:Array Value):results fn tmps=(do
  let vs ← fn.results.mapM (pM tmps)
  pure (if h:vs.size=1 then vs[0] else .tuple vs)):=by
 unfold results
 congr 1
theorem HW {M:Nat→Prop} (h:cE W N w0 M g s a w) {r:ResultVar} {c:CV} (hr:sU P s r=some c):
  (pM a.tmps r).run P w= .ok (CV.av g c) w∧CV.ok M c:=by
 unfold sU at hr
 split at hr
 ·rename_i t
  split at hr
  ·rename_i c' hc
   simp only[Option.some.injEq]at hr;subst hr
   have:=h.env t _ hc
   exact ⟨by simp[pM,Array.getD_eq_getD_getElem?,this,AV.av],h.names.env t _ hc⟩
  ·simp at hr
 ·rename_i t ty
  split at hr
  ·rename_i c' m he
   simp only[Option.some.injEq]at hr;subst hr
   cases hx:s.env t with
   | none=>rw[hx]at he;simp[eg]at he
   | some x=>
    rw[hx]at he
    obtain ⟨g',w',r',hrun⟩:=CR (nm:=0) h he
    have hm:m=none:=by
     unfold eg at he
     split at he
     ·split at he
      ·split at he
       ·simp only[Option.some.injEq,Prod.mk.injEq]at he;exact he.2.symm
       ·simp at he
      ·split at he
       ·simp only[Option.some.injEq,Prod.mk.injEq]at he;exact he.2.symm
       ·simp at he
      ·simp at he
     ·rename_i b o hxo
      simp only[Option.some.injEq]at hxo;subst hxo
      exact (ng h he).1
     ·simp at he
    subst hm
    have hl: ∀ b o,x=Ptr b o→(loadVar ty ⟨(g b).1,(g b).2+o,none⟩).run P w= .ok (CV.av g c') w∧CV.ok M c':=by
     intro b o hxo
     subst hxo
     unfold eg at he
     split at he
     ·rename_i b' o' hbo
      simp only[Option.some.injEq,Sum.inl.injEq,Sum.inr.injEq,Prod.mk.injEq]at hbo
      obtain ⟨rfl,rfl⟩:=hbo
      split at he
      ·rename_i n bx ht hb
       split at he
       ·rename_i hle
        simp only[Option.some.injEq,Prod.mk.injEq,Sum.inl.injEq,and_true]at he
        subst he
        exact ⟨tK h ht hb hle,fun y hy=>(h.names.box _ bx hb).2 y (List.mem_of_mem_drop (List.mem_of_mem_take hy))⟩
       ·simp at he
      ·rename_i n bx ht hb
       split at he
       ·rename_i v hv
        simp only[Option.some.injEq,Prod.mk.injEq,Sum.inl.injEq,and_true]at he
        subst he
        exact ⟨tL h ht hb hv,((h.names.box _ bx hb).2 v (List.mem_of_getElem? hv)).1⟩
       ·simp at he
      ·simp at he
     ·rename_i HX;cases HX
     ·rename_i HX _;exact (HX b o rfl).elim
    by_cases hgr: ∃ b o,x=V (.pointer (some ⟨b,o,none⟩))
    ·obtain ⟨b,o,rfl⟩:=hgr
     obtain ⟨-, h1,h2⟩:=ng h he
     have hev:=h.env t _ hx
     have afL:a.tmps.getD t undef= .pointer (some ⟨b,o,none⟩):=by
      rw[Array.getD_eq_getD_getElem?,hev];rfl
     refine ⟨?_,h2⟩
     simp only[pM,afL,asAddr,Sem.run_bind,Sem.run_pure,Result.andThen_ok]
     exact h1
    have hp: ∃ b o,x=Ptr b o:=by
     rcases x with ((v | ⟨b,o⟩ | ⟨b,o,n,c⟩) | l) | l
     ·unfold eg at he
      split at he
      ·rename_i HX;cases HX
      ·rename_i b o HX;simp only[Option.some.injEq]at HX;exact (hgr ⟨b,o,HX⟩).elim
      ·simp at he
     ·exact ⟨b,o,rfl⟩
     ·simp[eg]at he
     ·simp[eg]at he
     ·simp[eg]at he
    obtain ⟨b,o,rfl⟩:=hp
    have hev:=h.env t _ hx
    have hl':=hl b o rfl
    refine ⟨?_,hl'.2⟩
    have afL:a.tmps.getD t undef= .pointer (some ⟨(g b).1,(g b).2+o,none⟩):=by
     rw[Array.getD_eq_getD_getElem?,hev];rfl
    simp only[pM,afL,asAddr,Sem.run_bind,Sem.run_pure,Result.andThen_ok]
    exact hl'.1
  ·simp at hr
theorem tY {M:Nat→Prop} (h:cE W N w0 M g s a w): ∀ (rs:List ResultVar) (l:List CV),fZ P s rs=some l→
  (rs.mapM (pM a.tmps)).run P w= .ok (l.map (CV.av g)) w∧ ∀ c ∈ l,CV.ok M c
 | [],l,he=>by simp only[fZ,Option.some.injEq]at he;subst he;simp
 | r::rest,l,he=>by
  unfold fZ at he
  split at he
  ·rename_i c l' hc hl'
   simp only[Option.some.injEq]at he;subst he
   obtain ⟨h1,h2⟩:=HW (P:=P) h hc
   obtain ⟨h3,h4⟩:=tY h rest l' hl'
   refine ⟨by simp[List.mapM_cons,h1,h3],fun x hx=> ?_⟩
   rcases List.mem_cons.1 hx with rfl | hx
   ·exact h2
   ·exact h4 x hx
  ·simp at he
theorem j5 {M:Nat→Prop} (h:cE W N w0 M g s a w) {fn:Func} {v:AV} (hv:jQ (fZ P s fn.results.toList)=some v):
  (results fn a.tmps).run P w= .ok (AV.av g v) w∧AV.ok M v:=by
 cases hl:fZ P s fn.results.toList with
 | none=>rw[hl]at hv;simp[jQ]at hv
 | some l=>
  obtain ⟨h1,h2⟩:=tY h _ _ hl
  have hA:(fn.results.mapM (pM a.tmps)).run P w= .ok (l.map (CV.av g)).toArray w:=by
   rw[Array.mapM_eq_mapM_toList,Sem.run_map,h1];rfl
  rw[results_eq,Sem.run_bind,hA]
  simp only[Result.andThen_ok,Sem.run_pure]
  rw[hl]at hv
  match l,hv,h2 with
  | [c],hv,h2=>
   simp only[jQ,Option.some.injEq]at hv;subst hv
   exact ⟨by simp[AV.av],h2 c (by simp)⟩
  | [],hv,h2=>
   simp only[jQ,Option.some.injEq]at hv;subst hv
   exact ⟨by simp[AV.av],h2⟩
  | c::d::r,hv,h2=>
   simp only[jQ,Option.some.injEq]at hv;subst hv
   exact ⟨by simp[AV.av],h2⟩
def start (args:List AV) (box:Nat→Option aW) (next:Nat):AS:={ env:=fun d=>args[d]?, box,next }
theorem tZ {f:Nat} {fn:Func} {c:Code} (hf:P.funcs[f]? =some fn) (hb:fn.body=some c) (hok:codeOk fn.ntmps c=true) {args:List AV} {box:Nat→Option aW} {n:Nat}
  (hlen:args.length≤fn.ntmps) (hlaid:Laid P w) (ko: ∀ b bx,Tables.row P b=some bx→ ¬ W b) (hn:Names (fun k=>k < n) (start args box n)) (hm:eX g (start args box n) w) (hown: ∀ t b,box t=some b→b.rw=true→W (g t).1)
  {Post:AV→AS→Prop} (hv:vc P c (kY P fn.results.toList Post) (start args box n)):
  Calls P f (args.map (AV.av g)).toArray w fun e w'=> ∃ v g' s',e= .returned (AV.av g' v)∧Post v s'∧AV.ok (fun k=>k < s'.next) v∧(∀ k,k < n→k < s'.next∧g' k=g k)∧eX g' s' w'∧Names (fun k=>k < s'.next) s'∧
   (∀ t b,s'.box t=some b→b.rw=true→w.heap.size≤(g' t).1∨W (g' t).1)∧Frame W w w':=by
 refine calls_of_wp hf hb ?_
 refine dI (N:=fn.ntmps) (W:=W) (w0:=⟨w,n,g,hlaid⟩) c _ _ hok hv g _ w _ ⟨?_,rfl, ?_,hn,hm,fun t b hb hrw=>Or.inr (hown t b hb hrw),Frame.refl _ _,fun k hk=>⟨hk,rfl⟩,ko⟩ ?_
 ·simp;omega
 ·intro d v hd
  simp only[start]at hd
  have hlt:d < args.length:=(List.getElem?_eq_some_iff.1 hd).1
  rw[Array.getElem?_append_left (by simpa using hlt)]
  simp[hd]
 ·intro e g' s' a' w' h' hk
  have fin:sV (jQ (fZ P s' fn.results.toList)) Post s'→ ∃ v,(results fn a'.tmps).run P w'= .ok (AV.av g' v) w'∧Post v s'∧AV.ok (fun k=>k < s'.next) v:=fun hr=>by
   unfold sV at hr
   split at hr
   ·rename_i v hv
    obtain ⟨h1,h2⟩:=j5 h' hv
    exact ⟨v,h1,hr,h2⟩
   ·exact hr.elim
  cases e<;>simp only[kY]at hk
  ·obtain ⟨v,h1,h2,h3⟩:=fin hk
   exact ⟨h'.defers,_,h1,v,g',s',rfl,h2,h3,h'.kJ,h'.mem,h'.names,h'.own,h'.frame⟩
  ·obtain ⟨v,h1,h2,h3⟩:=fin hk
   exact ⟨h'.defers,_,h1,v,g',s',rfl,h2,h3,h'.kJ,h'.mem,h'.names,h'.own,h'.frame⟩
theorem NG {f:Nat} {fn:Func} {c:Code} (hf:P.funcs[f]? =some fn) (hb:fn.body=some c) (hok:codeOk fn.ntmps c=true) {l:List AV} {Post:AV→Prop}
  (hlen:l.length≤fn.ntmps) (hl:l.all AV.plain=true) (hr: ∀ r,Post r→AV.plain r=true) (hv:vc P c (kY P fn.results.toList (fun v _=>Post v)) (start l (fun _=>none) 0)):Pure P f l Post:=by
 refine ⟨hl,hr,fun w hlaid=> ?_⟩
 have hM:l.map AV.val=l.map (AV.av fun _=>(0,0)):=rfl
 rw[hM]
 refine (tZ (W:=fun _=>False) (g:=fun _=>(0,0)) hf hb hok hlen hlaid (fun _ _ _=>id) ⟨fun d v hd=> ?_,fun t b hb=> ?_⟩ ⟨fun t b hb=> ?_,fun t b hb=> ?_,fun t b hb=> ?_,fun t t' b b' hb=> ?_⟩ (fun t b hb=> ?_) hv).mono ?_
 ·simp only[start]at hd
  exact AV.bH (List.all_eq_true.1 hl v (List.mem_of_getElem? hd))
 ·simp[start]at hb
 ·simp[start]at hb
 ·simp[start]at hb
 ·simp[start]at hb
 ·simp[start]at hb
 ·simp at hb
 ·rintro e w' ⟨v,g',s',rfl,hpost,alb,Gl,hm,hn,hown,hfr⟩
  exact ⟨v,hpost,by rw[AV.fI (hr v hpost)],hfr⟩
theorem aK {f:Nat} {fn:Func} {c:Code} (hf:P.funcs[f]? =some fn) (hb:fn.body=some c) (hok:codeOk fn.ntmps c=true) {l:List AV} {r:AV}
  (hlen:l.length≤fn.ntmps) (hl:l.all AV.plain=true) (hr:AV.plain r=true) (hv:vc P c (kY P fn.results.toList (fun v _=>v=r)) (start l (fun _=>none) 0)):cB P f l r:=
 NG hf hb hok hlen hl (fun _ hv=>hv▸hr) hv
end
end Go.cA
namespace Go.cA
set_option linter.unusedSectionVars false
section
variable {P:Program} [Tables P] {K:AS→Prop} {F:Exit→AS→Prop} {s:AS} {e:Nat→Option AV} {b:Nat→Option aW} {n nm:Nat} {dst:Option Tmp} {ty:TypeId} {pos:String} {after:Array Edge} {gd:Option (Nat×Bool)}
def afM (v:Option AV):Option (Option Int):=match v with
 | some (.inl (.inl (.inl (.int _ j))))=>some (some j)
 | _=>none
def iaT (m o:Nat) (j:Int) (t:Option (Nat×Nat)):Option dE:=match t with
 | some (l,z)=>if 0≤j∧j < l then some (some (V (.pointer (some ⟨m,o+j.toNat*z,none⟩))),none) else none
 | none=>none
def slU (b o c:Nat) (h:Int):Option dE:=if 0≤h∧h≤c then some (some (Sl b o h.toNat c),none) else none
theorem HY {b o c z:Nat} {h:Int}:WI b o c z 0 h=slU b o c h:=by
 unfold WI slU
 simp
def bsF (nm len:Nat) (l:Option (List SV)):Option dE:=match l with
 | some l=>some (some (Sl nm 0 len len),some (.inl l))
 | none=>none
def fsP (z:Nat) (s:AS) (cs:List SV) (j:Nat) (rest:List (Nat×Operand)) (new:Option (List SV)):Option (List SV):=match new with
 | some new=>if new.length=z∧j*z+z≤cs.length then fp z s (splice cs (j*z) new) rest else none
 | none=>none
theorem pN {k:IntKind} {n:Nat}:iw [Value.int k 0] n=ae k n fun _=>0:=by
 unfold iw ae
 apply List.map_congr_left
 intro i _
 simp[Nat.mod_one]
theorem af {α:Type} (f:Nat→α) (d x:Nat) (v:α):upd f d v x=if x=d then v else f x:=rfl
theorem start_eq (l:List AV):start l b n=⟨fun d=>l[d]?, b,n⟩:=rfl
theorem PF:vc P .skip F s=F .normal s:=rfl
theorem C5 {id:Nat} {ops:Array Oper}:vc P (.region id ops false) F ⟨e,b,n⟩=kL P ops n ops.toList 0 (F .normal) ⟨e,b,n⟩:=rfl
theorem WV {x y:Code}:vc P (.seq x y) F s=vc P x (fi (vc P y F) F) s:=rfl
theorem PG {c:Operand} {x y:Code}:vc P (.cond c x y) F s=mP (s.aQ c) (vc P x F) (vc P y F) s:=rfl
theorem HZ {id:Nat} {c:Code}:vc P (.block id c) F s=vc P c (iY id F) s:=rfl
theorem PH {c:Code}:vc P (.loop c) F s=jJ (vc P c) F s:=rfl
theorem PI {id:Nat}:vc P (.exit id) F s=F (.exit id) s:=rfl
theorem WW:vc P .ret F s=F .ret s:=rfl
theorem ua {K:AS→Prop}:fi K F .normal s=K s:=rfl
theorem C6 {K:AS→Prop} {id:Nat}:fi K F (.exit id) s=F (.exit id) s:=rfl
theorem H0 {K:AS→Prop}:fi K F .ret s=F .ret s:=rfl
theorem ub {id id':Nat}:iY id F (.exit id') s=if id'=id then F .normal s else F (.exit id') s:=rfl
theorem pb {id:Nat}:iY id F .normal s=F .normal s:=rfl
theorem xl {id:Nat}:iY id F .ret s=F .ret s:=rfl
theorem H2 {rs:List ResultVar} {Post:AV→AS→Prop}:kY P rs Post .ret s=sV (jQ (fZ P s rs)) Post s:=rfl
theorem uc {rs:List ResultVar} {Post:AV→AS→Prop}:kY P rs Post .normal s=sV (jQ (fZ P s rs)) Post s:=rfl
theorem xm:fZ P s []=some []:=rfl
theorem ud {r:ResultVar} {rs:List ResultVar}:fZ P s (r::rs)=WO (sU P s r) (fZ P s rs):=by
 unfold WO;rfl
theorem xn {t:Nat}:sU P ⟨e,b,n⟩ (.tmp t)=ahV (e t):=rfl
theorem uf {t ty:Nat}:sU P ⟨e,b,n⟩ (.cell t ty)=ahW (eg P ⟨e,b,n⟩ ty (e t)):=rfl
theorem C7 {c:CV}:ahV (some (.inl c))=some c:=rfl
theorem C8 {c:CV} {m:Mem}:ahW (some (some (.inl c),m))=some c:=rfl
theorem xp {c:CV} {l:List CV}:WO (some c) (some l)=some (c::l):=rfl
theorem C9 {c:CV}:jQ (some [c])=some (.inl c):=rfl
theorem C' {c d:CV} {l:List CV}:jQ (some (c::d::l))=some (.inr (c::d::l)):=rfl
theorem xq:jQ (some [])=some (.inr []):=rfl
theorem Da {v:AV} {Post:AV→AS→Prop}:sV (some v) Post s=Post v s:=rfl
variable {ops:Array Oper} {base i:Nat} {rest:List Oper} {op:Op}
theorem PJ:kL P ops base [] i K ⟨e,b,n⟩=K ⟨e,b,base+i⟩:=rfl
theorem H3:kL P ops base (⟨dst,op,ty,pos,after,none⟩::rest) i K s=cv P (base+i) ⟨dst,op,ty,pos,after,none⟩ (kL P ops base rest (i+1) K) s:=rfl
theorem Db {j:Nat} {want:Bool}:kL P ops base (⟨dst,op,ty,pos,after,some (j,want)⟩::rest) i K s=
  Gj P (ni (fh ops s j) want) want (base+i) ⟨dst,op,ty,pos,after,some (j,want)⟩ (kL P ops base rest (i+1) K) s:=rfl
variable {o:Oper}
theorem ah4:Gj P (some (B true)) true nm o K s=cv P nm o K s:=by simp[Gj,dB]
theorem ah5:Gj P (some (B false)) false nm o K s=cv P nm o K s:=by simp[Gj,dB]
theorem ah6:Gj P (some (B true)) false nm ⟨dst,op,ty,pos,after,gd⟩ K s=K (s.put dst (some (V undef))):=by simp[Gj,dB]
theorem ah7:Gj P (some (B false)) true nm ⟨dst,op,ty,pos,after,gd⟩ K s=K (s.put dst (some (V undef))):=by simp[Gj,dB]
theorem acU:o9 P ops i (some (B true)) true nm o K s=o8 P ops i nm o K s:=by simp[o9,dB]
theorem acV:o9 P ops i (some (B false)) false nm o K s=o8 P ops i nm o K s:=by simp[o9,dB]
theorem acW:o9 P ops i (some (B true)) false nm ⟨dst,op,ty,pos,after,gd⟩ K s=K (s.put dst (some (V undef))):=by simp[o9,dB]
theorem acX:o9 P ops i (some (B false)) true nm ⟨dst,op,ty,pos,after,gd⟩ K s=K (s.put dst (some (V undef))):=by simp[o9,dB]
theorem ah8 {want x:Bool}:ni (some (B x)) want=some (B x):=rfl
theorem acY:ni (some (V undef)) true=some (B false):=rfl
theorem acZ:ni (some (V undef)) false=some (B true):=rfl
theorem run_move {x:Operand}:cv P nm ⟨dst, .move x,ty,pos,after,gd⟩ K s=lU (s.aQ x) dst K s:=by
 simp only[cv,fa,lU];cases s.aQ x<;>rfl
theorem run_assign {x:Operand}:cv P nm ⟨dst, .assign x,ty,pos,after,gd⟩ K s=lU (s.aQ x) dst K s:=by
 simp only[cv,fa,lU];cases s.aQ x<;>rfl
theorem Dc {t:Nat}:cv P nm ⟨dst, .alloc t,ty,pos,after,gd⟩ K s=bQ (iu P nm t) nm dst K s:=rfl
theorem PK {t:Nat} {x:Operand}:cv P nm ⟨dst, .box t x,ty,pos,after,gd⟩ K s=bQ (nf nm (s.aQ x)) nm dst K s:=rfl
theorem run_build {t:Nat} {l:List (Nat×Operand)}:cv P nm ⟨dst, .build t l.toArray,ty,pos,after,gd⟩ K s=bQ (fY P t s l) nm dst K s:=rfl
theorem run_load {t:Nat} {x:Operand}:cv P nm ⟨dst, .load t x,ty,pos,after,gd⟩ K s=bQ (eg P s t (s.aQ x)) nm dst K s:=rfl
theorem run_store {t:Nat} {x y:Operand}:cv P nm ⟨dst, .store t x y,ty,pos,after,gd⟩ K s=bQ (fl P s t (s.aQ x) (s.aQ y)) nm dst K s:=rfl
theorem Dd {o:BinOp} {t u:Nat} {x y:Operand}:cv P nm ⟨dst, .binOp o t x y u,ty,pos,after,gd⟩ K s=bQ (nc P o t y (s.aQ x) (s.aQ y)) nm dst K s:=rfl
theorem H4 {xs:List Operand} {tys:List TypeId}:cv P nm ⟨dst, .call ⟨.builtin .len,xs.toArray,tys.toArray⟩,ty,pos,after,gd⟩ K s=bQ (fB (lq P tys) (bN s xs)) nm dst K s:=rfl
theorem H5 {o:UnOp} {t:Nat} {x:Operand}:cv P nm ⟨dst, .unOp o t x,ty,pos,after,gd⟩ K s=bQ (mZ o (s.aQ x)) nm dst K s:=rfl
theorem ug {t u:Nat} {x:Operand}:cv P nm ⟨dst, .convert t u x,ty,pos,after,gd⟩ K s=bQ (gG P s t u (s.aQ x)) nm dst K s:=rfl
theorem pc {t f:Nat} {x:Operand}:cv P nm ⟨dst, .fieldAddr t x f,ty,pos,after,gd⟩ K s=bQ (eh P t f (s.aQ x)) nm dst K s:=rfl
theorem De {t:Nat} {x:Operand}:cv P nm ⟨dst, .sliceToArrayPointer t x,ty,pos,after,gd⟩ K s=bQ (jw (eZ P t) (s.aQ x)) nm dst K s:=rfl
theorem Df {t f:Nat} {x:Operand}:cv P nm ⟨dst, .field t x f,ty,pos,after,gd⟩ K s=bQ (fO P t f (s.aQ x)) nm dst K s:=rfl
theorem pf {t:Nat} {x y:Operand}:cv P nm ⟨dst, .indexAddr t x y,ty,pos,after,gd⟩ K s=bQ (cI P t (s.aQ x) (s.aQ y)) nm dst K s:=rfl
theorem Dg {t:Nat} {x y:Operand}:cv P nm ⟨dst, .index t x y,ty,pos,after,gd⟩ K s=bQ (fX P t (s.aQ x) (s.aQ y)) nm dst K s:=rfl
theorem uh {x:Operand} {k:Nat}:cv P nm ⟨dst, .extract x k,ty,pos,after,gd⟩ K s=bQ (fH (s.aQ x) k) nm dst K s:=rfl
theorem H6 {x y z:Operand}:cv P nm ⟨dst, .pick x y z,ty,pos,after,gd⟩ K s=bQ (lQ (s.aQ x) (s.aQ y) (s.aQ z)) nm dst K s:=rfl
theorem Dh {x y:Option AV}:lQ (some (B true)) x y=CQ x:=rfl
theorem xr {x y:Option AV}:lQ (some (B false)) x y=CQ y:=rfl
theorem xt {v:AV}:CQ (some v)=some (some v,none):=rfl
theorem Di {f:Nat} {xs:List Operand} {tys:Array TypeId}:cv P nm ⟨dst, .call ⟨.value (.func f),xs.toArray,tys⟩,ty,pos,after,gd⟩ K s=
  if ai P f=true then aB P nm f (bN s xs) dst K s else mF P f (bN s xs) dst K s:=rfl
theorem xu {xs:List Operand} {tys:Array TypeId}:cv P nm ⟨dst, .call ⟨.builtin .append,xs.toArray,tys⟩,ty,pos,after,gd⟩ K s=
  cC P nm .append tys ty (xs.toArray.map isConst) (bN s xs) dst K s:=rfl
theorem H7 {xs:List Operand} {tys:Array TypeId}:cv P nm ⟨dst, .call ⟨.builtin .copy,xs.toArray,tys⟩,ty,pos,after,gd⟩ K s=
  cC P nm .copy tys ty (xs.toArray.map isConst) (bN s xs) dst K s:=rfl
theorem H8:bN s []=some []:=rfl
theorem Dj {x:Operand} {xs:List Operand}:bN s (x::xs)=acM (s.aQ x) (bN s xs):=rfl
theorem xv {v:AV} {l:List AV}:acM (some v) (some l)=some (v::l):=rfl
theorem H9 {t:Nat}:AS.aQ ⟨e,b,n⟩ (.tmp t)=e t:=rfl
theorem H' {k:IntKind} {x:Int}:AS.aQ s (.const (.int k x))=some (I k x):=rfl
theorem Dk {x:Bool}:AS.aQ s (.const (.bool x))=some (B x):=rfl
theorem xw {a:Option Addr} {l c:Nat}:AS.aQ s (.const (.slice a l c))=some (V (.slice a l c)):=rfl
theorem ui {x:ByteArray}:AS.aQ s (.const (.string x))=some (V (.string x)):=rfl
theorem Dl {f:Nat}:AS.aQ s (.func f)=some (V (.func (.func f) #[] #[])):=rfl
theorem Dm {v:AV}:lU (some v) dst K s=K (s.put dst (some v)):=rfl
theorem PL {v:Option AV}:bQ (some (v,none)) nm dst K s=K (s.put dst v):=rfl
theorem PN {v:Option AV} {cs:List SV}:bQ (some (v,some (.inl cs))) nm dst K ⟨e,b,n⟩=K (AS.put ⟨e,upd b nm (some ⟨true,cs⟩),n⟩ dst v):=rfl
theorem WX {v:Option AV} {t:Nat} {bx:aW}:bQ (some (v,some (.inr (t,bx)))) nm dst K ⟨e,b,n⟩=K (AS.put ⟨e,upd b t (some bx),n⟩ dst v):=rfl
theorem PO {c:Prop} [Decidable c] {ef:dE}:bQ (if c then some ef else none) nm dst K s=(c∧bQ (some ef) nm dst K s):=by
 split<;>simp_all [bQ]
theorem Ia {t:Nat} {v:Option AV}:AS.put ⟨e,b,n⟩ (some t) v=⟨upd e t v,b,n⟩:=rfl
theorem Ib {v:Option AV}:AS.put s none v=s:=rfl
variable {k k':IntKind} {x y:Int}
theorem PQ:cx .add (some (I k x)) (some (I k y))=some (some (I k (k.wrap (x+y))),none):=by simp[cx,kX]
theorem PR:cx .sub (some (I k x)) (some (I k y))=some (some (I k (k.wrap (x - y))),none):=by simp[cx,kX]
theorem PS:cx .mul (some (I k x)) (some (I k y))=some (some (I k (k.wrap (x*y))),none):=by simp[cx,kX]
theorem PT:cx .quo (some (I k x)) (some (I k y))=if y≠0 then some (some (I k (k.wrap (x.tdiv y))),none) else none:=by
 simp only[cx,kX];by_cases h:y=0<;>simp[h]
theorem PU:cx .rem (some (I k x)) (some (I k y))=if y≠0 then some (some (I k (x.tmod y)),none) else none:=by
 simp only[cx,kX];by_cases h:y=0<;>simp[h]
theorem PV:cx .and (some (I k x)) (some (I k y))=some (some (I k (aS .and k x y)),none):=by simp[cx,kX]
theorem WY:cx .or (some (I k x)) (some (I k y))=some (some (I k (aS .or k x y)),none):=by simp[cx,kX]
theorem PW:cx .xor (some (I k x)) (some (I k y))=some (some (I k (aS .xor k x y)),none):=by simp[cx,kX]
theorem xx:cx .andNot (some (I k x)) (some (I k y))=some (some (I k (aS .andNot k x y)),none):=by simp[cx,kX]
theorem PX:cx .eql (some (I k x)) (some (I k y))=some (some (B (x==y)),none):=by simp[cx,kX]
theorem PY:cx .neq (some (I k x)) (some (I k y))=some (some (B (x != y)),none):=by simp[cx,kX]
theorem PZ:cx .lss (some (I k x)) (some (I k y))=some (some (B (decide (x < y))),none):=by simp[cx,kX]
theorem P0:cx .leq (some (I k x)) (some (I k y))=some (some (B (decide (x≤y))),none):=by simp[cx,kX]
theorem P4:cx .gtr (some (I k x)) (some (I k y))=some (some (B (decide (y < x))),none):=by simp[cx,kX]
theorem P5:cx .geq (some (I k x)) (some (I k y))=some (some (B (decide (y≤x))),none):=by simp[cx,kX]
theorem P6:cx .shl (some (I k x)) (some (I k' y))=if 0≤y then some (some (I k (gT k x y)),none) else none:=by
 simp only[cx,kX,true_or,or_true,if_true];by_cases h:0≤y<;>simp[h]
theorem P7:cx .shr (some (I k x)) (some (I k' y))=if 0≤y then some (some (I k (cr k x y)),none) else none:=by
 simp only[cx,kX,or_true,if_true];by_cases h:0≤y<;>simp[h]
theorem WZ {x:Bool}:mZ .not (some (B x))=some (some (B (!x)),none):=rfl
theorem W5:mZ .neg (some (I k x))=some (some (I k (k.wrap (0 - x))),none):=rfl
theorem W6:mZ .xor (some (I k x))=some (some (I k (aS .xor k (if k.signed then -1 else k.max) x)),none):=rfl
theorem Ic {t b o n c:Nat}:gG P s t t (some (Sl b o n c))=HE (abb P t) (s.box b) (Sl b o n c):=by
 show (if t=t then _ else _)=_
 rw[if_pos rfl]
theorem xy {cs:List SV} {v:AV}:HE true (some ⟨true,cs⟩) v=some (some v,none):=rfl
theorem Ie {t u:Nat}:gG P s t u (some (I k' x))=cvK x (kindOf P t) (kindOf P u):=by
 show gU P t u (some (I k' x))=_
 cases h1:kindOf P t<;>cases h2:kindOf P u<;>simp[gU,cvK,h1,h2]
theorem Ig:cvK x (some k') (some k)=some (some (I k (k.wrap x)),none):=rfl
theorem Ih {t bx o:Nat}:eg P ⟨e,b,n⟩ t (some (Ptr bx o))=ldB (bu P t) (b bx) o:=rfl
theorem P8 {m:Nat} {rw:Bool} {cs:List SV} {o:Nat}:ldB (some (true,m)) (some ⟨rw,cs⟩) o=if o+m≤cs.length then some (some (Ag ((cs.drop o).take m)),none) else none:=rfl
theorem P9 {m:Nat} {rw:Bool} {cs:List SV} {o:Nat}:ldB (some (false,m)) (some ⟨rw,cs⟩) o=ldC cs[o]? :=rfl
theorem Ii {v:SV}:ldC (some v)=some (some (.inl (.inl v)),none):=rfl
theorem Dn {k:IntKind} {x:Int}:cellsOf (some (I k x))=some [Sum.inl (.int k x)]:=rfl
theorem xA {x:Bool}:cellsOf (some (B x))=some [Sum.inl (.bool x)]:=rfl
theorem uj {a:Option Addr} {l c:Nat}:cellsOf (some (V (.slice a l c)))=some [Sum.inl (.slice a l c)]:=rfl
theorem Dp {t o:Nat}:cellsOf (some (Ptr t o))=some [Sum.inr (.inl (t,o))]:=rfl
theorem Ij {t o l c:Nat}:cellsOf (some (Sl t o l c))=some [Sum.inr (.inr (t,o,l,c))]:=rfl
theorem Dq {l:List SV}:cellsOf (some (Ag l))=some l:=rfl
theorem Dr {t bx o:Nat} {v:Option AV}:fl P ⟨e,b,n⟩ t (some (Ptr bx o)) v=stB bx o (cellsOf v) (bu P t) (b bx):=by
 cases h1:cellsOf v with
 | none=>simp[fl,stB,h1]
 | some new=>
  cases h2:bu P t with
  | none=>simp[fl,stB,h1,h2]
  | some p=>
   cases h3:b bx with
   | none=>simp[fl,stB,h1,h2,h3]
   | some x=>simp[fl,stB,h1,h2,h3]
theorem Ik {bx o m:Nat} {new cs:List SV} {ag:Bool}:stB bx o (some new) (some (ag,m)) (some ⟨true,cs⟩)=
  if o+new.length≤cs.length∧new.length=m then some (none,some (.inr (bx,⟨true,splice cs o new⟩))) else none:=by
 simp[stB]
theorem xB {t:Nat}:iu P nm t=alZ nm (zeroOf P t):=rfl
theorem Il {z:List Value}:alZ nm (some z)=if z.all Value.oneCell'=true then some (some (Ptr nm 0),some (.inl (z.map .inl))) else none:=rfl
theorem Ds {v:AV}:nf nm (some v)=bxC nm (cellsOf (some v)):=rfl
theorem Im {l:List SV}:bxC nm (some l)=some (some (Ptr nm 0),some (.inl l)):=rfl
theorem ph {t f bx o:Nat}:eh P t f (some (Ptr bx o))=faP bx o (ao P t f):=by
 unfold eh faP;split<;>simp_all
theorem Io {bx o fo m:Nat} {ag:Bool}:faP bx o (some (fo,ag,m+1))=some (some (Ptr bx (o+fo)),none):=rfl
theorem Dt {t f:Nat} {l:List SV}:fO P t f (some (Ag l))=fdP l (ao P t f):=by
 cases h:ao P t f with
 | none=>simp[fO,fdP,h]
 | some p=>
  obtain ⟨o,ag,m⟩:=p
  cases ag
  ·simp only[fO,fdP,h];cases l[o]? <;>rfl
  ·simp[fO,fdP,h]
theorem Qa {l:List SV} {o m:Nat}:fdP l (some (o,true,m))=some (some (Ag ((l.drop o).take m)),none):=rfl
theorem Qb {l:List SV} {o m:Nat}:fdP l (some (o,false,m))=ldC l[o]? :=by
 unfold fdP ldC;rfl
theorem xC {t bx o:Nat} {j:Int}:cI P t (some (Ptr bx o)) (some (I k j))=iaP bx o j (eZ P t):=by
 unfold cI iaP;rfl
theorem Ip {bx o m z:Nat} {j:Int}:iaP bx o j (some (m,z))=if 0≤j∧j < m then some (some (Ptr bx (o+j.toNat*z)),none) else none:=rfl
theorem Du {t bx o m c:Nat} {j:Int}:cI P t (some (Sl bx o m c)) (some (I k j))=isP bx o m j (cA.elemOf P t):=by
 unfold cI isP;rfl
theorem Iq {bx o m z:Nat} {j:Int}:isP bx o m j (some z)=if 0≤j∧j < m then some (some (Ptr bx (o+j.toNat*z)),none) else none:=rfl
theorem W7 {t:Nat} {l:List SV} {j:Int}:fX P t (some (Ag l)) (some (I k j))=ixP l j (gw P t):=by
 unfold fX ixP
 cases h:gw P t with
 | none=>rfl
 | some p=>obtain ⟨m,ag,z⟩:=p;cases ag<;>rfl
theorem Qc {l:List SV} {j:Int} {m z:Nat}:ixP l j (some (m,true,z))=if 0≤j∧j < m then some (some (Ag ((l.drop (j.toNat*z)).take z)),none) else none:=rfl
theorem Qd {l:List SV} {j:Int} {m z:Nat}:ixP l j (some (m,false,z))=ixC j m l[j.toNat*z]? :=by
 cases h:l[j.toNat*z]? <;>simp[ixP,ixC,h]
theorem Ir {j:Int} {m:Nat} {v:SV}:ixC j m (some v)=if 0≤j∧j < m then some (some (.inl (.inl v)),none) else none:=rfl
theorem uk {l:List CV} {k:Nat}:fH (some (.inr l)) k=exC l[k]? :=rfl
theorem Is {c:CV}:exC (some c)=some (some (.inl c),none):=rfl
theorem um {t:Nat} {l:List (Nat×Operand)}:fY P t s l=bdB P t s l (aU P t):=by
 cases h:aU P t with
 | none=>simp[fY,bdB,h]
 | some z=>simp only[fY,bdB,h];cases fm P t s z l<;>rfl
theorem It {t:Nat} {l:List (Nat×Operand)} {z:List SV}:bdB P t s l (some z)=bdF (fm P t s z l):=rfl
theorem Iu {l:List SV}:bdF (some l)=some (some (Ag l),none):=rfl
theorem Qe {c:Prop} [Decidable c] {x:Option (List SV)} {K:AS→Prop}:bQ (bdF (if c then x else none)) nm dst K s=(c∧bQ (bdF x) nm dst K s):=by
 split<;>simp_all [bQ,bdF]
theorem Iv {t:Nat} {cs:List SV}:fm P t s cs []=some cs:=rfl
theorem Dv {t j:Nat} {x:Operand} {cs:List SV} {l:List (Nat×Operand)}:fm P t s cs ((j,x)::l)=fiP P t s cs l (cellsOf (s.aQ x)) (placeOf P t j):=by
 cases h:placeOf P t j with
 | none=>simp[fm,fiP,h]
 | some p=>obtain ⟨o,m⟩:=p;simp only[fm,fiP,h];cases cellsOf (s.aQ x)<;>rfl
theorem Iw {t:Nat} {cs new:List SV} {o m:Nat} {l:List (Nat×Operand)}:fiP P t s cs l (some new) (some (o,m))=if new.length=m∧o+m≤cs.length then fm P t s (splice cs o new) l else none:=rfl
theorem xD {l:List Oper} {j:Nat}:fh l.toArray ⟨e,b,n⟩ j=gdO e l[j]? :=by
 unfold fh gdO
 simp only[List.getElem?_toArray]
 cases l[j]? <;>rfl
theorem Ix {d:Nat}:gdO e (some ⟨some d,op,ty,pos,after,gd⟩)=e d:=rfl
theorem Qf {id:Nat} {ops:Array Oper}:vc P (.region id ops true) F ⟨e,b,n⟩=((P.follows .mixedOrders=true∧Gk ops=true)∧gV P ops n ops.toList 0 (F .normal) ⟨e,b,n⟩):=rfl
theorem Iy:gV P ops base [] i K ⟨e,b,n⟩=K ⟨e,b,base+i⟩:=rfl
theorem Dw:gV P ops base (⟨dst,op,ty,pos,after,none⟩::rest) i K s=o8 P ops i (base+i) ⟨dst,op,ty,pos,after,none⟩ (gV P ops base rest (i+1) K) s:=rfl
theorem xE {j:Nat} {want:Bool}:gV P ops base (⟨dst,op,ty,pos,after,some (j,want)⟩::rest) i K s=
  o9 P ops i (ni (fh ops s j) want) want (base+i) ⟨dst,op,ty,pos,after,some (j,want)⟩ (gV P ops base rest (i+1) K) s:=by
 show HL P ops i (base+i) ⟨dst,op,ty,pos,after,some (j,want)⟩ (gV P ops base rest (i+1) K) s=_
 generalize gV P ops base rest (i+1) K=K'
 simp only[HL,lv,lx,wu,o9,dB,o8]
 generalize ni (fh ops s j) want=q
 have none: ∀ (X:dE→Prop) (Y:(dE→Prop)→Prop) (c d:Prop),((∃ ef,False∧X ef)∨(c∧ ∃ D,False∧Y D)∨(d∧False))=False:=fun X Y c d=>by simp
 rcases q with _ | (((v | v) | l) | l)<;>try exact none _ _ _ _
 cases v<;>try exact none _ _ _ _
 rename_i x
 rw[eq_iff_iff]
 constructor
 ·rintro (⟨ef,⟨h1,h2⟩,hk⟩ | ⟨hl,D,⟨h1,h2⟩,hk⟩ | ⟨hb,h1,h2⟩)
  ·refine ⟨fun hw=> .inl ⟨ef,h1 hw,hk⟩,fun hw=> ?_⟩
   rw[h2 hw]at hk
   exact hk
  ·refine ⟨fun hw=> .inr (.inl ⟨hl,D,h1 hw,hk⟩),fun hw=> ?_⟩
   exact hk (some (V undef),Option.none) (by rw[h2 hw])
  ·exact ⟨fun hw=> .inr (.inr ⟨hb,h1 hw⟩),h2⟩
 ·rintro ⟨h1,h2⟩
  by_cases hw:x=want
  ·rcases h1 hw with ⟨ef,hd,hk⟩ | ⟨hl,D,hd,hk⟩ | ⟨hb,hk⟩
   ·exact .inl ⟨ef,⟨fun _=>hd,fun hx=>absurd hw hx⟩,hk⟩
   ·exact .inr (.inl ⟨hl,D,⟨fun _=>hd,fun hx=>absurd hw hx⟩,hk⟩)
   ·exact .inr (.inr ⟨hb,fun _=>hk,fun hx=>absurd hw hx⟩)
  ·exact .inl ⟨(some (V undef),Option.none),⟨fun hx=>absurd hx hw,fun _=>rfl⟩,h2 hw⟩
theorem dQ {o:Oper} {ef:Option dE} (h1: ∀ x,jq P nm o s x=(ef=some x)) (h2: ∀ D, ¬ iz P nm o s D) (h3:cv P nm o K s=bQ ef nm o.dst K s):o8 P ops i nm o K s=bQ ef nm o.dst K s:=by
 unfold o8
 rw[h3]
 simp only[h1,h2,false_and,exists_false,and_false,false_or]
 cases ef with
 | none=>simp[bQ]
 | some x=>simp[bQ,app]
theorem Dx {t:Nat}:o8 P ops i nm ⟨dst, .alloc t,ty,pos,after,gd⟩ K s=bQ (iu P nm t) nm dst K s:=dQ (fun _=>rfl) (fun _ h=>h) rfl
theorem Qg {t:Nat} {x:Operand}:o8 P ops i nm ⟨dst, .box t x,ty,pos,after,gd⟩ K s=bQ (nf nm (s.aQ x)) nm dst K s:=dQ (fun _=>rfl) (fun _ h=>h) rfl
theorem Dy {t:Nat} {l:List (Nat×Operand)}:o8 P ops i nm ⟨dst, .build t l.toArray,ty,pos,after,gd⟩ K s=bQ (fY P t s l) nm dst K s:=dQ (fun _=>rfl) (fun _ h=>h) rfl
theorem Iz {t:Nat} {x:Operand}:o8 P ops i nm ⟨dst, .load t x,ty,pos,after,gd⟩ K s=bQ (eg P s t (s.aQ x)) nm dst K s:=dQ (fun _=>rfl) (fun _ h=>h) rfl
theorem Dz {t:Nat} {x y:Operand}:o8 P ops i nm ⟨dst, .store t x y,ty,pos,after,gd⟩ K s=bQ (fl P s t (s.aQ x) (s.aQ y)) nm dst K s:=dQ (fun _=>rfl) (fun _ h=>h) rfl
theorem DB {o:BinOp} {t u:Nat} {x y:Operand}:o8 P ops i nm ⟨dst, .binOp o t x y u,ty,pos,after,gd⟩ K s=bQ (nc P o t y (s.aQ x) (s.aQ y)) nm dst K s:=dQ (fun _=>rfl) (fun _ h=>h) rfl
theorem IA {o:UnOp} {t:Nat} {x:Operand}:o8 P ops i nm ⟨dst, .unOp o t x,ty,pos,after,gd⟩ K s=bQ (mZ o (s.aQ x)) nm dst K s:=dQ (fun _=>rfl) (fun _ h=>h) rfl
theorem uo {t u:Nat} {x:Operand}:o8 P ops i nm ⟨dst, .convert t u x,ty,pos,after,gd⟩ K s=bQ (gG P s t u (s.aQ x)) nm dst K s:=dQ (fun _=>rfl) (fun _ h=>h) rfl
theorem pj {t f:Nat} {x:Operand}:o8 P ops i nm ⟨dst, .fieldAddr t x f,ty,pos,after,gd⟩ K s=bQ (eh P t f (s.aQ x)) nm dst K s:=dQ (fun _=>rfl) (fun _ h=>h) rfl
theorem DC {t:Nat} {x:Operand}:o8 P ops i nm ⟨dst, .sliceToArrayPointer t x,ty,pos,after,gd⟩ K s=bQ (jw (eZ P t) (s.aQ x)) nm dst K s:=dQ (fun _=>rfl) (fun _ h=>h) rfl
theorem IB {m z b o n c:Nat}:jw (some (m,z)) (some (Sl b o n c))=if m≤n then some (some (Ptr b o),none) else none:=rfl
theorem DD {t f:Nat} {x:Operand}:o8 P ops i nm ⟨dst, .field t x f,ty,pos,after,gd⟩ K s=bQ (fO P t f (s.aQ x)) nm dst K s:=dQ (fun _=>rfl) (fun _ h=>h) rfl
theorem pk {t:Nat} {x y:Operand}:o8 P ops i nm ⟨dst, .indexAddr t x y,ty,pos,after,gd⟩ K s=bQ (cI P t (s.aQ x) (s.aQ y)) nm dst K s:=dQ (fun _=>rfl) (fun _ h=>h) rfl
theorem DE {t:Nat} {x y:Operand}:o8 P ops i nm ⟨dst, .index t x y,ty,pos,after,gd⟩ K s=bQ (fX P t (s.aQ x) (s.aQ y)) nm dst K s:=dQ (fun _=>rfl) (fun _ h=>h) rfl
theorem uq {x:Operand} {k:Nat}:o8 P ops i nm ⟨dst, .extract x k,ty,pos,after,gd⟩ K s=bQ (fH (s.aQ x) k) nm dst K s:=dQ (fun _=>rfl) (fun _ h=>h) rfl
theorem Qh {xs:List Operand} {tys:List TypeId}:o8 P ops i nm ⟨dst, .call ⟨.builtin .len,xs.toArray,tys.toArray⟩,ty,pos,after,gd⟩ K s=bQ (fB (lq P tys) (bN s xs)) nm dst K s:=dQ (fun _=>rfl) (fun _ h=>h) rfl
theorem IC {x y z:Operand}:o8 P ops i nm ⟨dst, .pick x y z,ty,pos,after,gd⟩ K s=bQ (lQ (s.aQ x) (s.aQ y) (s.aQ z)) nm dst K s:=dQ (fun _=>rfl) (fun _ h=>h) rfl
theorem ID {x:Operand}:o8 P ops i nm ⟨dst, .move x,ty,pos,after,gd⟩ K s=lU (s.aQ x) dst K s:=by
 refine Eq.trans (b:=bQ (fa P nm s (.move x)) nm dst K s) (dQ (fun _=>rfl) (fun _ h=>h) rfl) ?_
 simp only[fa,lU];cases s.aQ x<;>rfl
theorem xF {x:Operand}:o8 P ops i nm ⟨dst, .assign x,ty,pos,after,gd⟩ K s=lU (s.aQ x) dst K s:=by
 refine Eq.trans (b:=bQ (fa P nm s (.assign x)) nm dst K s) (dQ (fun _=>rfl) (fun _ h=>h) rfl) ?_
 simp only[fa,lU];cases s.aQ x<;>rfl
theorem DF {t:Nat} {x:Operand} {lo hi:Option Operand}:o8 P ops i nm ⟨dst, .slice t x lo hi none,ty,pos,after,gd⟩ K s=bQ (fC (ln P t) (s.aQ x) (jv s lo) (jv s hi)) nm dst K s:=dQ (fun _=>rfl) (fun _ h=>h) rfl
theorem IE {t:Nat} {x y:Operand}:o8 P ops i nm ⟨dst, .makeSlice t x y,ty,pos,after,gd⟩ K s=bQ (ix nm (ru P t) (s.aQ x) (s.aQ y)) nm dst K s:=dQ (fun _=>rfl) (fun _ h=>h) rfl
theorem xG {t n:Nat} {l:List (Nat×Operand)}:o8 P ops i nm ⟨dst, .buildSlice t n l.toArray,ty,pos,after,gd⟩ K s=bQ (gn nm (ru P t) n s l) nm dst K s:=dQ (fun _=>rfl) (fun _ h=>h) rfl
theorem Qi {x:Operand}:o8 P ops i nm ⟨dst, .nilCheck x,ty,pos,after,gd⟩ K s=bQ (pJ (s.aQ x)) nm dst K s:=dQ (fun _=>rfl) (fun _ h=>h) rfl
theorem xH {xs:List Operand} {tys:Array TypeId}:o8 P ops i nm ⟨dst, .call ⟨.builtin .append,xs.toArray,tys⟩,ty,pos,after,gd⟩ K s=
  (bar ops i=true∧cC P nm .append tys ty (xs.toArray.map isConst) (bN s xs) dst K s):=by
 rw[eq_iff_iff]
 constructor
 ·rintro (⟨e,h,_⟩ | ⟨_,D,h,_⟩ | h)
  ·exact h.elim
  ·exact h.elim
  ·exact h
 ·exact fun h=> .inr (.inr h)
theorem IF {xs:List Operand} {tys:Array TypeId}:o8 P ops i nm ⟨dst, .call ⟨.builtin .copy,xs.toArray,tys⟩,ty,pos,after,gd⟩ K s=
  (bar ops i=true∧cC P nm .copy tys ty (xs.toArray.map isConst) (bN s xs) dst K s):=by
 rw[eq_iff_iff]
 constructor
 ·rintro (⟨e,h,_⟩ | ⟨_,D,h,_⟩ | h)
  ·exact h.elim
  ·exact h.elim
  ·exact h
 ·exact fun h=> .inr (.inr h)
theorem IG {f:Nat} {xs:List Operand} {tys:Array TypeId}:o8 P ops i nm ⟨dst, .call ⟨.value (.func f),xs.toArray,tys⟩,ty,pos,after,gd⟩ K s=mG P ops i nm f (bN s xs) dst K s:=by
 rw[eq_iff_iff]
 constructor
 ·rintro (⟨ef,⟨l,r,h1,h2,rfl⟩ | h,hk⟩ | ⟨hl,D,hD,hk⟩ | ⟨hb,hk⟩)
  ·exact .inl ⟨l,r,h1,h2,hk⟩
  ·exact .inr (.inl ⟨ef,h,hk⟩)
  ·exact .inr (.inr (.inl ⟨hl,D,hD,hk⟩))
  ·exact .inr (.inr (.inr ⟨hb,hk⟩))
 ·rintro (⟨l,r,h1,h2,hk⟩ | ⟨e,h,hk⟩ | ⟨hl,D,hD,hk⟩ | ⟨hb,hk⟩)
  ·exact .inl ⟨_, .inl ⟨l,r,h1,h2,rfl⟩,hk⟩
  ·exact .inl ⟨e, .inr h,hk⟩
  ·exact .inr (.inl ⟨hl,D,hD,hk⟩)
  ·exact .inr (.inr ⟨hb,hk⟩)
theorem DG {t:Nat} {x:Operand} {lo hi:Option Operand}:cv P nm ⟨dst, .slice t x lo hi none,ty,pos,after,gd⟩ K s=bQ (fC (ln P t) (s.aQ x) (jv s lo) (jv s hi)) nm dst K s:=rfl
theorem DH {t:Nat} {x y:Operand}:cv P nm ⟨dst, .makeSlice t x y,ty,pos,after,gd⟩ K s=bQ (ix nm (ru P t) (s.aQ x) (s.aQ y)) nm dst K s:=rfl
theorem xI {t n:Nat} {l:List (Nat×Operand)}:cv P nm ⟨dst, .buildSlice t n l.toArray,ty,pos,after,gd⟩ K s=bQ (gn nm (ru P t) n s l) nm dst K s:=rfl
theorem Qj {x:Operand}:cv P nm ⟨dst, .nilCheck x,ty,pos,after,gd⟩ K s=bQ (pJ (s.aQ x)) nm dst K s:=rfl
theorem Qk {b' o':Nat}:pJ (some (Ptr b' o'))=some (some (Ptr b' o'),none):=rfl
theorem IH:jv s none=some none:=rfl
theorem II {x:Operand}:jv s (some x)=afM (s.aQ x):=by
 unfold jv afM;rfl
theorem IJ {x:Int}:afM (some (I k x))=some (some x):=rfl
theorem Ql {b' o' n' c z:Nat} {l:Int} {hi:Option Int}:fC (some (none,z)) (some (Sl b' o' n' c)) (some (some l)) (some hi)=WI b' o' c z l (hi.getD n'):=rfl
theorem Qm {b' o' n' c z:Nat} {hi:Option Int}:fC (some (none,z)) (some (Sl b' o' n' c)) (some none) (some hi)=slU b' o' c (hi.getD n'):=HY
theorem Qn {b' o' m z:Nat} {l:Int} {hi:Option Int}:fC (some (some m,z)) (some (Ptr b' o')) (some (some l)) (some hi)=WI b' o' m z l (hi.getD m):=rfl
theorem Qo {b' o' m z:Nat} {hi:Option Int}:fC (some (some m,z)) (some (Ptr b' o')) (some none) (some hi)=slU b' o' m (hi.getD m):=HY
theorem Qp {b' o' c z:Nat} {l h:Int}:WI b' o' c z l h=if 0≤l∧l≤h∧h≤c then some (some (Sl b' (if c=l.toNat then o' else o'+l.toNat*z) (h.toNat - l.toNat) (c - l.toNat)),none) else none:=rfl
theorem Qq {b' o' c:Nat} {h:Int}:slU b' o' c h=if 0≤h∧h≤c then some (some (Sl b' o' h.toNat c),none) else none:=rfl
theorem IK {lM:Nat} {k k1 k2:IntKind} {l c:Int}:ix nm (some ([Value.int k 0],1,lM)) (some (I k1 l)) (some (I k2 c))=
  if 0≤l∧l≤c∧(lM:Int)*c≤281474976710656∧c≤9223372036854775807 then some (some (Sl nm 0 l.toNat c.toNat),some (.inl (ae k c.toNat fun _=>0))) else none:=by
 simp only[ix,Nat.mul_one,pN]
 congr 1
 simp[Value.oneCell']
theorem ur {z:List Value} {sz lM len:Nat} {l:List (Nat×Operand)}:gn nm (some (z,sz,lM)) len s l=
  if len*sz≤16777216∧0 < z.length∧z.all Value.oneCell'=true then bsF nm len (fp sz s (iw z (len*sz)) l) else none:=by
 simp only[gn]
 congr 1
theorem IL {len:Nat} {l:List SV}:bsF nm len (some l)=some (some (Sl nm 0 len len),some (.inl l)):=rfl
theorem Qr {c:Prop} [Decidable c] {x:Option (List SV)} {len nm':Nat} {K:AS→Prop}:bQ (bsF nm len (if c then x else none)) nm' dst K s=(c∧bQ (bsF nm len x) nm' dst K s):=by
 split<;>simp_all [bQ,bsF]
theorem DI {z:Nat} {cs:List SV}:fp z s cs []=some cs:=rfl
theorem xJ {z j:Nat} {x:Operand} {cs:List SV} {l:List (Nat×Operand)}:fp z s cs ((j,x)::l)=fsP z s cs j l (cellsOf (s.aQ x)):=by
 simp only[fp,fsP];cases cellsOf (s.aQ x)<;>rfl
theorem IM {z j:Nat} {cs new:List SV} {l:List (Nat×Operand)}:fsP z s cs j l (some new)=if new.length=z∧j*z+z≤cs.length then fp z s (splice cs (j*z) new) l else none:=rfl
theorem DJ {c:Prop} [Decidable c] {ef:Option dE}:bQ (if c then ef else none) nm dst K s=(c∧bQ ef nm dst K s):=by
 split<;>simp_all [bQ]
theorem uv {m:Nat}:AS.aQ s (.global m)=some (V (.pointer (some ⟨m,0,none⟩))):=rfl
theorem IN {t m o:Nat}:eg P ⟨e,b,n⟩ t (some (V (.pointer (some ⟨m,o,none⟩))))=ldB (bu P t) (Tables.row P m) o:=rfl
theorem xK {t m o:Nat} {j:Int}:cI P t (some (V (.pointer (some ⟨m,o,none⟩)))) (some (I k j))=iaT m o j (eZ P t):=by
 unfold cI iaT;rfl
theorem IP {m o l z:Nat} {j:Int}:iaT m o j (some (l,z))=if 0≤j∧j < l then some (some (V (.pointer (some ⟨m,o+j.toNat*z,none⟩))),none) else none:=rfl
theorem W8 {o:BinOp} {t c:Nat} {u v:Option AV}:nc P o t (.tmp c) u v=kj P o t u v:=rfl
theorem W9 {o:BinOp} {t:Nat} {c:IntKind} {z:Int} {u v:Option AV}:nc P o t (.const (.int c z)) u v=kj P o t u v:=rfl
theorem Qs {o:BinOp} {t:Nat} {p:Bool} {u v:Option AV}:nc P o t (.const (.bool p)) u v=kj P o t u v:=rfl
theorem Xa {o:BinOp} {t:Nat} {l:Array Value} {u v:Option AV}:nc P o t (.const (.agg l)) u v=kj P o t u v:=rfl
theorem Xb {o:BinOp} {t:Nat} {u v:Option AV}:nc P o t (.const .nilIface) u v=o6 o (isIface P t) u:=rfl
theorem ac0:o6 .neq true (some (V .nilIface))=some (some (B false),none):=rfl
theorem ac1:o6 .eql true (some (V .nilIface))=some (some (B true),none):=rfl
theorem ac2 {t:TypeId} {v:Value}:o6 .neq true (some (V (.iface t v)))=some (some (B true),none):=rfl
theorem ac3 {t:TypeId} {v:Value}:o6 .eql true (some (V (.iface t v)))=some (some (B false),none):=rfl
theorem po:AS.aQ s (.const .nilIface)=some (V .nilIface):=rfl
theorem Xc {o:BinOp} {t:Nat}:kj P o t (some (I k x)) (some (I k' y))=cx o (some (I k x)) (some (I k' y)):=rfl
theorem Qt {o:BinOp} {t:Nat} {p q:Bool}:kj P o t (some (B p)) (some (B q))=eqB o (isBool P t) p q:=rfl
theorem Xd {o:BinOp} {t:Nat} {l l':List SV}:kj P o t (some (Ag l)) (some (Ag l'))=eqA o (bM P t) (jP P t) l l':=rfl
theorem IQ {o:BinOp} {m:Nat} {q:Option (List (Nat×Nat×IntKind))} {l l':List SV}:eqA o (some (m,k)) q l l'=eqL o m (cZ k l) (cZ k l'):=rfl
theorem IS {o:BinOp} {q:List (Nat×Nat×IntKind)} {l l':List SV}:eqA o none (some q) l l'=Vo o (Cr q l l'):=rfl
theorem IT {l l':List SV}:Cr [] l l'=some true:=rfl
theorem DK {o n:Nat} {r:List (Nat×Nat×IntKind)} {l l':List SV}:Cr ((o,n,k)::r) l l'=Gd n (cZ k ((l.drop o).take n)) (cZ k ((l'.drop o).take n)) (Cr r l l'):=rfl
theorem DL {n:Nat} {a b:List Int} {c:Bool}:Gd n (some a) (some b) (some c)=if a.length=n∧b.length=n then some (decide (a=b)&&c) else none:=rfl
theorem IU {b:Bool}:Vo .eql (some b)=some (some (B b),none):=rfl
theorem IV {b:Bool}:Vo .neq (some b)=some (some (B (!b)),none):=rfl
theorem Gm {m:Nat} {p q:List Int}:eqL .eql m (some p) (some q)=if p.length=m∧q.length=m then some (some (B (decide (p=q))),none) else none:=rfl
theorem wI {m:Nat} {p q:List Int}:eqL .neq m (some p) (some q)=if p.length=m∧q.length=m then some (some (B (!decide (p=q))),none) else none:=rfl
theorem Qu {p q:Bool}:eqB .eql true p q=some (some (B (p==q)),none):=rfl
theorem Qv {p q:Bool}:eqB .neq true p q=some (some (B (!(p==q))),none):=rfl
theorem Xe {t o m c:Nat}:fB 1 (some [Sl t o m c])=some (some (I .i64 m),none):=rfl
theorem DM {a:Option Addr} {m c:Nat}:fB 1 (some [V (.slice a m c)])=some (some (I .i64 m),none):=rfl
theorem xL {x:ByteArray}:fB 2 (some [V (.string x)])=some (some (I .i64 x.size),none):=rfl
end
theorem rules:type_of% @af∧type_of% @start_eq∧type_of% @PF∧type_of% @C5∧type_of% @WV∧type_of% @PG∧type_of% @HZ∧type_of% @PH∧type_of% @PI∧type_of% @WW∧type_of% @ua∧type_of% @C6∧type_of% @H0∧type_of% @ub∧type_of% @pb∧type_of% @xl∧type_of% @H2∧type_of% @uc∧type_of% @xm∧type_of% @ud∧type_of% @xn∧type_of% @uf∧type_of% @C7∧type_of% @C8∧type_of% @xp∧type_of% @C9∧type_of% @C'∧type_of% @xq∧type_of% @Da∧type_of% @PJ∧type_of% @H3∧type_of% @Db∧type_of% @run_move∧type_of% @run_assign∧type_of% @Dc∧type_of% @PK∧type_of% @run_build∧type_of% @run_load∧type_of% @run_store∧type_of% @Dd∧type_of% @H4∧type_of% @H5∧type_of% @ug∧type_of% @pc∧type_of% @Df∧type_of% @pf∧type_of% @Dg∧type_of% @uh∧type_of% @Di∧type_of% @xu∧type_of% @H7∧type_of% @H8∧type_of% @Dj∧type_of% @xv∧type_of% @H9∧type_of% @H'∧type_of% @Dk∧type_of% @xw∧type_of% @ui∧type_of% @Dl∧type_of% @Dm∧type_of% @PL∧type_of% @PN∧type_of% @WX∧type_of% @PO∧type_of% @Ia∧type_of% @Ib∧type_of% @PQ∧type_of% @PR∧type_of% @PS∧type_of% @PT∧type_of% @PU∧type_of% @PV∧type_of% @WY∧type_of% @PW∧type_of% @xx∧type_of% @PX∧type_of% @PY∧type_of% @PZ∧type_of% @P0∧type_of% @P4∧type_of% @P5∧type_of% @P6∧type_of% @P7∧type_of% @WZ∧type_of% @W5∧type_of% @W6∧type_of% @Ie∧type_of% @Ig∧type_of% @Ih∧type_of% @P8∧type_of% @P9∧type_of% @Ii∧type_of% @Dn∧type_of% @xA∧type_of% @uj∧type_of% @Dp∧type_of% @Ij∧type_of% @Dq∧type_of% @Dr∧type_of% @Ik∧type_of% @xB∧type_of% @Il∧type_of% @Ds∧type_of% @Im∧type_of% @ph∧type_of% @Io∧type_of% @Dt∧type_of% @Qa∧type_of% @Qb∧type_of% @xC∧type_of% @Ip∧type_of% @Du∧type_of% @Iq∧type_of% @W7∧type_of% @Qc∧type_of% @Qd∧type_of% @Ir∧type_of% @uk∧type_of% @Is∧type_of% @um∧type_of% @It∧type_of% @Iu∧type_of% @Qe∧type_of% @Iv∧type_of% @Dv∧type_of% @Iw∧type_of% @Qf∧type_of% @Iy∧type_of% @Dw∧type_of% @xE∧type_of% @Dx∧type_of% @Qg∧type_of% @Dy∧type_of% @Iz∧type_of% @Dz∧type_of% @DB∧type_of% @IA∧type_of% @uo∧type_of% @pj∧type_of% @DD∧type_of% @pk∧type_of% @DE∧type_of% @uq∧type_of% @Qh∧type_of% @ID∧type_of% @xF∧type_of% @IG∧type_of% @Xc∧type_of% @Qt∧type_of% @Xd∧type_of% @IQ∧type_of% @IS∧type_of% @IT∧type_of% @DK∧type_of% @DL∧type_of% @IU∧type_of% @IV∧type_of% @Gm∧type_of% @wI∧type_of% @Qu∧type_of% @Qv∧type_of% @Xe∧type_of% @DM∧type_of% @xL∧type_of% @CW∧type_of% @xc∧type_of% @tQ∧type_of% @xd∧type_of% @rB∧type_of% @tR∧type_of% @H6∧type_of% @Dh∧type_of% @xr∧type_of% @xt∧type_of% @IC∧type_of% @xD∧type_of% @Ix∧type_of% @ah4∧type_of% @ah5∧type_of% @ah6∧type_of% @ah7∧type_of% @acU∧type_of% @acV∧type_of% @acW∧type_of% @acX:=
 ⟨@af, @start_eq, @PF, @C5, @WV, @PG, @HZ, @PH, @PI, @WW, @ua, @C6, @H0, @ub, @pb, @xl, @H2, @uc, @xm, @ud, @xn, @uf, @C7, @C8, @xp, @C9, @C', @xq, @Da, @PJ, @H3, @Db, @run_move, @run_assign, @Dc, @PK, @run_build, @run_load, @run_store, @Dd, @H4, @H5, @ug, @pc, @Df, @pf, @Dg, @uh, @Di, @xu, @H7, @H8, @Dj, @xv, @H9, @H', @Dk, @xw, @ui, @Dl, @Dm, @PL, @PN, @WX, @PO, @Ia, @Ib, @PQ, @PR, @PS, @PT, @PU, @PV, @WY, @PW, @xx, @PX, @PY, @PZ, @P0, @P4, @P5, @P6, @P7, @WZ, @W5, @W6, @Ie, @Ig, @Ih, @P8, @P9, @Ii, @Dn, @xA, @uj, @Dp, @Ij, @Dq, @Dr, @Ik, @xB, @Il, @Ds, @Im, @ph, @Io, @Dt, @Qa, @Qb, @xC, @Ip, @Du, @Iq, @W7, @Qc, @Qd, @Ir, @uk, @Is, @um, @It, @Iu, @Qe, @Iv, @Dv, @Iw, @Qf, @Iy, @Dw, @xE, @Dx, @Qg, @Dy, @Iz, @Dz, @DB, @IA, @uo, @pj, @DD, @pk, @DE, @uq, @Qh, @ID, @xF, @IG, @Xc, @Qt, @Xd, @IQ, @IS, @IT, @DK, @DL, @IU, @IV, @Gm, @wI, @Qu, @Qv, @Xe, @DM, @xL, @CW, @xc, @tQ, @xd, @rB, @tR, @H6, @Dh, @xr, @xt, @IC, @xD, @Ix, @ah4, @ah5, @ah6, @ah7, @acU, @acV, @acW, @acX⟩
theorem Xf:type_of% @ah8∧type_of% @acY∧type_of% @acZ∧type_of% @DF∧type_of% @IE∧type_of% @xG∧type_of% @Qi∧type_of% @xH∧type_of% @IF∧type_of% @DG∧type_of% @DH∧type_of% @xI∧type_of% @Qj∧type_of% @Qk∧type_of% @IH∧type_of% @II∧type_of% @IJ∧type_of% @Ql∧type_of% @Qm∧type_of% @Qn∧type_of% @Qo∧type_of% @Qp∧type_of% @Qq∧type_of% @IK∧type_of% @ur∧type_of% @IL∧type_of% @Qr∧type_of% @DI∧type_of% @xJ∧type_of% @IM∧type_of% @pN∧type_of% @DJ∧type_of% @uv∧type_of% @IN∧type_of% @xK∧type_of% @IP∧type_of% @De∧type_of% @DC∧type_of% @IB∧type_of% @Ic∧type_of% @xy∧type_of% @W8∧type_of% @W9∧type_of% @Qs∧type_of% @Xa∧type_of% @Xb∧type_of% @ac0∧type_of% @ac1∧type_of% @ac2∧type_of% @ac3∧type_of% @po:=
 ⟨@ah8, @acY, @acZ, @DF, @IE, @xG, @Qi, @xH, @IF, @DG, @DH, @xI, @Qj, @Qk, @IH, @II, @IJ, @Ql, @Qm, @Qn, @Qo, @Qp, @Qq, @IK, @ur, @IL, @Qr, @DI, @xJ, @IM, @pN, @DJ, @uv, @IN, @xK, @IP, @De, @DC, @IB, @Ic, @xy, @W8, @W9, @Qs, @Xa, @Xb, @ac0, @ac1, @ac2, @ac3, @po⟩
end Go.cA
namespace Go.cA
theorem ac4:type_of% @List.size_toArray.{0}∧type_of% @List.getElem?_toArray.{0}∧type_of% @List.getElem?_cons_zero.{0}∧type_of% @List.getElem?_cons_succ.{0}∧type_of% @List.getElem?_nil.{0}∧type_of% @List.length_cons.{0}∧type_of% @List.length_nil.{0}∧type_of% @List.length_singleton.{0}∧
  type_of% @Nat.zero_add∧type_of% @Nat.add_zero∧type_of% @Nat.zero_mul∧type_of% @Nat.mul_one∧type_of% @Nat.le_refl∧type_of% @and_true∧type_of% @true_and∧type_of% @and_self∧type_of% @List.drop_zero.{0}∧type_of% @List.take_zero.{0}∧type_of% @List.drop_succ_cons.{0}∧type_of% @List.take_succ_cons.{0}∧type_of% @List.take_nil.{0}∧type_of% @List.drop_nil.{0}∧
  type_of% @List.map_cons.{0,0}∧type_of% @List.map_nil.{0,0}∧type_of% @List.all_cons.{0}∧type_of% @List.all_nil.{0}∧type_of% @Bool.and_true∧type_of% @List.append_nil.{0}∧type_of% @List.nil_append.{0}∧type_of% @List.cons_append.{0}∧type_of% @List.toList_toArray.{0}∧type_of% @ne_eq.{1}∧type_of% @Bool.false_eq_true∧type_of% @Int.cast_ofNat_Int∧type_of% @Option.getD_none.{0}∧type_of% @Option.getD_some.{0}∧type_of% @eq_self.{1}:=
 ⟨@List.size_toArray, @List.getElem?_toArray, @List.getElem?_cons_zero, @List.getElem?_cons_succ, @List.getElem?_nil, @List.length_cons, @List.length_nil, @List.length_singleton, @Nat.zero_add, @Nat.add_zero, @Nat.zero_mul, @Nat.mul_one, @Nat.le_refl, @and_true, @true_and, @and_self, @List.drop_zero, @List.take_zero, @List.drop_succ_cons, @List.take_succ_cons, @List.take_nil, @List.drop_nil,
  @List.map_cons, @List.map_nil, @List.all_cons, @List.all_nil, @Bool.and_true, @List.append_nil, @List.nil_append, @List.cons_append, @List.toList_toArray, @ne_eq, @Bool.false_eq_true, @Int.cast_ofNat_Int, @Option.getD_none, @Option.getD_some, @eq_self⟩
end Go.cA
namespace Go.cA
set_option linter.unusedSectionVars false
def lk {α:Type} (l:List (Nat×α)) (x:Nat):Option α:=match l with
 | []=>none
 | (k,v)::r=>if x=k then some v else lk r x
theorem Xg {α:Type} (x:Nat):lk ([]:List (Nat×α)) x=none:=rfl
theorem Qw {α:Type} (k:Nat) (v:α) (r:List (Nat×α)) (x:Nat):lk ((k,v)::r) x=if x=k then some v else lk r x:=rfl
theorem bq {α:Type}: ∀ (l:List (Nat×α)) (x:Nat) (v:α),lk l x=some v→(x,v) ∈ l
 | [],x,v,h=>by simp[lk]at h
 | (k,u)::r,x,v,h=>by
  simp only[lk]at h
  split at h
  ·rename_i e;simp only[Option.some.injEq]at h;subst e h;simp
  ·exact List.mem_cons_of_mem _ (bq r x v h)
def ou (env:List (Nat×AV)) (box:List (Nat×aW)) (next:Nat):AS:=⟨lk env,lk box,next⟩
theorem fE (env:List (Nat×AV)) (box:List (Nat×aW)) (next:Nat):ou env box next=⟨lk env,lk box,next⟩:=rfl
def ga (s:AS) (env:List (Nat×AV)) (box:List (Nat×aW)) (next:Nat):Prop:=
 (∀ p ∈ env,s.env p.1=some p.2∧AV.ok (fun n=>n < next) p.2)∧(∀ p ∈ box,s.box p.1=some p.2∧p.1 < next∧ ∀ x ∈ p.2.cells,SV.ok (fun n=>n < next) x)
theorem AV.afN (v:AV):AV.bh (fun n=>n) v=v:=by
 have h1: ∀ x:SV,SV.bh (fun n=>n) x=x:=fun x=>by rcases x with v | ⟨t,o⟩ | ⟨t,o,n,c⟩<;>rfl
 have h1':SV.bh (fun n=>n)=id:=funext h1
 have h2: ∀ x:CV,CV.bh (fun n=>n) x=x:=fun x=>by
  rcases x with x | l
  ·simp[CV.bh,h1]
  ·simp[CV.bh,h1']
 have h2':CV.bh (fun n=>n)=id:=funext h2
 rcases v with x | l
 ·simp[AV.bh,h2]
 ·simp[AV.bh,h2']
theorem ga.dv {s:AS} {env:List (Nat×AV)} {box:List (Nat×aW)} {next:Nat} (h:ga s env box next):abj s (ou env box next):=by
 refine ⟨fun d v hv=> ?_,fun n b hb=> ?_,fun n n' b b' _ _ _ e=>e,fun d v hv=> ?_,fun t b hb=> ?_⟩
 ·rw[AV.afN];exact (h.1 _ (bq _ _ _ hv)).1
 ·have h1:(fun x:SV=>SV.bh (fun n=>n) x)=id:=funext fun x=>by rcases x with v | ⟨t,o⟩ | ⟨t,o,n,c⟩<;>rfl
  refine ⟨b,(h.2 _ (bq _ _ _ hb)).1,fun x=>x, ?_⟩
  show b.cells=b.cells.map (fun x:SV=>SV.bh (fun n=>n) x)
  rw[h1,List.map_id]
 ·exact (h.1 _ (bq _ _ _ hv)).2
 ·exact (h.2 _ (bq _ _ _ hb)).2
theorem Gn {body:(Exit→AS→Prop)→AS→Prop} {F:Exit→AS→Prop} {s:AS} (n:Nat) (env:Nat→List (Nat×AV)) (box:Nat→List (Nat×aW)) (next:Nat)
  (h0:ga s (env 0) (box 0) next) (hmono: ∀ (K K':AS→Prop) t,(∀ s,K s→K' s)→body (fi K F) t→body (fi K' F) t)
  (hstep: ∀ k,k < n→body (fi (fun s'=>ga s' (env (k+1)) (box (k+1)) next) F) (ou (env k) (box k) next))
  (hend:body (fi (fun _=>False) F) (ou (env n) (box n) next)) (hn:s.next≤next):jJ body F s:=by
 refine ⟨{ k:Nat // k≤n },fun k=>ou (env k.1) (box k.1) next,fun k=>n - k.1,⟨0,Nat.zero_le _⟩,⟨_,h0.dv,fun _ _=>rfl⟩,fun _=>hn,fun k=> ?_⟩
 rcases Nat.lt_or_ge k.1 n with h | h
 ·exact hmono _ _ _ (fun s hs=>⟨⟨k.1+1,h⟩,by show n - (k.1+1) < n - k.1;omega,_,hs.dv,fun _ _=>rfl⟩) (hstep k.1 h)
 ·have e:k.1=n:=Nat.le_antisymm k.2 h
  exact hmono _ _ _ (fun s hs=>hs.elim) (e▸hend)
section
variable {P:Program} [Tables P] {W:Nat→Prop} {N:Nat} {w0:gF P} {g:bG} {s:AS} {a:Act} {w:World}
theorem xM {ops:Array Oper} {base:Nat} {K K':AS→Prop} (h: ∀ s,K s→K' s): ∀ (l:List Oper) (i:Nat) (s:AS),kL P ops base l i K s→kL P ops base l i K' s
 | [],_,_,hv=>h _ hv
 | o::rest,i,s,hv=>by
  unfold kL wu at hv ⊢
  have ih:=fun s hs=>xM (ops:=ops) (base:=base) h rest (i+1) s hs
  cases hg:o.guard with
  | none=>rw[hg]at hv;exact lV ih hv
  | some p=>
   obtain ⟨j,want⟩:=p
   rw[hg]at hv
   simp only[dB]at hv ⊢
   split at hv
   ·exact ⟨fun hw=>lV ih (hv.1 hw),fun hw=>ih _ (hv.2 hw)⟩
   ·exact hv
theorem uw {ops:Array Oper} {base:Nat} {K K':AS→Prop} (h: ∀ s,K s→K' s): ∀ (l:List Oper) (i:Nat) (s:AS),gV P ops base l i K s→gV P ops base l i K' s
 | [],_,_,hv=>h _ hv
 | _::rest,i,_,hv=>by
  have ih:=fun s hs=>uw (ops:=ops) (base:=base) h rest (i+1) s hs
  rcases hv with ⟨e,h1,h2⟩ | ⟨hl,D,hD,h2⟩ | ⟨hb,h2⟩
  ·exact .inl ⟨e,h1,ih _ h2⟩
  ·exact .inr (.inl ⟨hl,D,hD,fun e he=>ih _ (h2 e he)⟩)
  ·exact .inr (.inr ⟨hb,CY ih h2⟩)
theorem fU: ∀ (c:Code) (F F':Exit→AS→Prop),(∀ e s,F e s→F' e s)→ ∀ s,vc P c F s→vc P c F' s
 | .skip,_,_,h,s,hv=>h _ _ hv
 | .region _ ops false,_,_,h,s,hv=>xM (h _) _ _ _ hv
 | .region _ ops true,_,_,h,s,hv=>⟨hv.1,uw (h _) _ _ _ hv.2⟩
 | .seq x y,F,F',h,s,hv=>fU x _ _ (fun e s hs=>by
   cases e with
   | normal=>exact fU y _ _ h s hs
   | _=>exact h _ _ hs) s hv
 | .cond c x y,F,F',h,s,hv=>by
  simp only[vc,mP]at hv ⊢
  split at hv
  ·exact ⟨fun ht=>fU x _ _ h s (hv.1 ht),fun hf=>fU y _ _ h s (hv.2 hf)⟩
  ·exact hv
 | .block id c,F,F',h,s,hv=>fU c _ _ (fun e s hs=>by
   cases e with
   | exit id'=>
    simp only[iY]at hs ⊢
    split
    ·rename_i e;rw[if_pos e]at hs;exact h _ _ hs
    ·rename_i e;rw[if_neg e]at hs;exact h _ _ hs
   | _=>exact h _ _ hs) s hv
 | .loop c,F,F',h,s,hv=>by
  obtain ⟨ι,st,μ,i₀,h0,hnx,hb⟩:=hv
  refine ⟨ι,st,μ,i₀,h0,hnx,fun i=>fU c _ _ (fun e s hs=> ?_) _ (hb i)⟩
  cases e with
  | normal=>exact hs
  | _=>exact h _ _ hs
 | .exit id,_,_,h,s,hv=>h _ _ hv
 | .ret,_,_,h,s,hv=>h _ _ hv
 | .rangeFunc .., _,_,_,_,hv=>hv.elim
 | .scope _,_,_,_,_,hv=>hv.elim
 | .label _,_,_,_,_,hv=>hv.elim
 | .goto _,_,_,_,_,hv=>hv.elim
 | .refuse _,_,_,_,_,hv=>hv.elim
theorem aG {c:Code} {F:Exit→AS→Prop} {s:AS} (n:Nat) (env:Nat→List (Nat×AV)) (box:Nat→List (Nat×aW)) (next:Nat)
  (h0:ga s (env 0) (box 0) next)
  (hstep: ∀ k,k < n→vc P c (fi (fun s'=>ga s' (env (k+1)) (box (k+1)) next) F) (ou (env k) (box k) next))
  (hend:vc P c (fi (fun _=>False) F) (ou (env n) (box n) next)) (hn:s.next≤next:=by first | exact Nat.le_refl _ | decide | simp):jJ (vc P c) F s:=
 Gn n env box next h0 (fun K K' t h hv=>fU c _ _ (fun e s hs=>by
  cases e with
  | normal=>exact h s hs
  | _=>exact hs) t hv) hstep hend hn
end
theorem DN {s:AS} {env:List (Nat×AV)} {box:List (Nat×aW)} {next:Nat}:ga s env box next=
  ((∀ p ∈ env,s.env p.1=some p.2∧AV.ok (fun n=>n < next) p.2)∧(∀ p ∈ box,s.box p.1=some p.2∧p.1 < next∧ ∀ x ∈ p.2.cells,SV.ok (fun n=>n < next) x)):=rfl
theorem ok_int {M:Nat→Prop} {k:IntKind} {x:Int}:AV.ok M (I k x)=True:=rfl
theorem Qx {M:Nat→Prop} {x:Bool}:AV.ok M (B x)=True:=rfl
theorem Gp {M:Nat→Prop} {t o:Nat}:AV.ok M (Ptr t o)=M t:=rfl
theorem Qy {M:Nat→Prop} {t o n c:Nat}:AV.ok M (Sl t o n c)=M t:=rfl
theorem ac5 {M:Nat→Prop} {l:List SV}:AV.ok M (Ag l)= ∀ x ∈ l,SV.ok M x:=rfl
theorem Qz {M:Nat→Prop} {k:IntKind} {x:Int}:SV.ok M (Sum.inl (.int k x))=True:=by simp[SV.ok,SV.names,SV.one,Value.oneCell']
theorem IW {M:Nat→Prop} {x:Bool}:SV.ok M (Sum.inl (.bool x))=True:=by simp[SV.ok,SV.names,SV.one,Value.oneCell']
theorem bV {M:Nat→Prop} {k:IntKind} {n:Nat} {f:Nat→Int}:(∀ x ∈ ae k n f,SV.ok M x)=True:=by
 rw[eq_iff_iff]
 refine ⟨fun _=>trivial,fun _ x hx=>SV.bH (List.all_eq_true.1 (km k n f) x hx)⟩
theorem IX {α:Type} {p:α→Prop}:(∀ x ∈ ([]:List α),p x)=True:=by simp
theorem DO {α:Type} {p:α→Prop} {a:α} {l:List α}:(∀ x ∈ a::l,p x)=(p a∧ ∀ x ∈ l,p x):=by simp
theorem DP:type_of% @IX∧type_of% @DO∧type_of% @Xg∧type_of% @Qw∧type_of% @fE∧type_of% @DN∧type_of% @ok_int∧type_of% @Qx∧type_of% @Gp∧type_of% @Qy∧type_of% @ac5∧type_of% @Qz∧type_of% @IW∧type_of% @bV:=
 ⟨@IX, @DO, @Xg, @Qw, @fE, @DN, @ok_int, @Qx, @Gp, @Qy, @ac5, @Qz, @IW, @bV⟩
end Go.cA
namespace Go.cA
set_option linter.unusedSectionVars false
def wz (box:Nat→Option aW):AS:=⟨fun _=>none,box,0⟩
def mH (k q:Nat):Nat→Nat:=fun n=>if n=k then q else n
structure bt (P:Program) [Tables P] (f:Nat) (args:List AV) (k:Nat) (ins:Nat→Option aW) (Post:AV→(Nat→Option aW)→Prop):Prop where
 body:ai P f=true
 all: ∀ n,n < k→ ∃ b,ins n=some b
 np: ∀ n b,ins n=some b→n < k
 call: ∀ (W:Nat→Prop) (g:bG) (w:World),Laid P w→(∀ b bx,Tables.row P b=some bx→ ¬ W b)→eX g (wz ins) w→(∀ t b,ins t=some b→b.rw=true→W (g t).1)→
  Calls P f (args.map (AV.av g)).toArray w fun e w'=> ∃ v out g',e= .returned (AV.av g' v)∧Post v out∧(∀ n,n < k→g' n=g n)∧AV.ok (fun n=>n < k+1) v∧
   (∀ n b,out n=some b→n < k+1∧(n=k→b.rw=true)∧ ∀ x ∈ b.cells,SV.ok (fun n=>n < k+1) x)∧eX g' (wz out) w'∧
   (∀ t b,out t=some b→b.rw=true→w.heap.size≤(g' t).1∨W (g' t).1)∧Frame W w w'
def Ct (k:Nat) (Post:AV→(Nat→Option aW)→Prop) (v:AV) (s:AS):Prop:=
 ∃ (q:Nat) (v0:AV) (out:Nat→Option aW),k≤q∧v=AV.bh (mH k q) v0∧AV.ok (fun n=>n < k+1) v0∧
  (∀ n b,out n=some b→n < k+1∧(n=k→b.rw=true)∧(∀ x ∈ b.cells,SV.ok (fun n=>n < k+1) x)∧ ∃ b',s.box (mH k q n)=some b'∧(b.rw=true→b'.rw=true)∧b'.cells=b.cells.map (SV.bh (mH k q)))∧Post v0 out
section
variable {P:Program} [Tables P] {W:Nat→Prop} {N:Nat} {w0:gF P} {M:Nat→Prop} {g:bG} {s:AS} {a:Act} {w:World} {nm:Nat}
theorem aE {f:Nat} {fn:Func} {c:Code} (hf:P.funcs[f]? =some fn) (hb:fn.body=some c) (hok:codeOk fn.ntmps c=true) {args:List AV} {k:Nat} {ins:Nat→Option aW}
  (hlen:args.length≤fn.ntmps) (hc:ai P f=true) (hargs: ∀ v ∈ args,AV.ok (fun n=>n < k) v) (hall: ∀ n,n < k→ ∃ b,ins n=some b) (j6: ∀ n b,ins n=some b→n < k∧ ∀ x ∈ b.cells,SV.ok (fun n=>n < k) x)
  {Post:AV→(Nat→Option aW)→Prop} (hv:vc P c (kY P fn.results.toList (Ct k Post)) (start args ins k)):bt P f args k ins Post:=by
 refine ⟨hc,hall,fun n b hb=>(j6 n b hb).1,fun W g w hlaid ko hm hown=> ?_⟩
 refine (tZ (W:=W) (g:=g) (w:=w) hf hb hok hlen hlaid ko ⟨fun d v hd=> ?_,fun t b ht=>j6 t b ht⟩ ⟨hm.lt,hm.cell,hm.free,hm.sep⟩ hown hv).mono ?_
 ·simp only[start]at hd
  exact hargs v (List.mem_of_getElem? hd)
 ·rintro e w' ⟨v,g',s',rfl,⟨q,v0,out,hq,rfl,Vs,hout,hpost⟩,_,Gl,hmem,NH,xN,hfr⟩
  have hr: ∀ n,n < k→mH k q n=n:=fun n hn=>by unfold mH;rw[if_neg (by omega)]
  have hinj: ∀ n n',n < k+1→n' < k+1→mH k q n=mH k q n'→n=n':=fun n n' h1 h2 e=>by
   unfold mH at e
   split at e<;>split at e<;>omega
  refine ⟨v0,out,fun n=>g' (mH k q n),by rw[AV.cP],hpost,fun n hn=> ?_,Vs,fun n b hb=> ?_,⟨fun t b hb=> ?_,fun t b hb i v hv=> ?_,fun t b hb hrw i hi=> ?_,fun t t' b b' hb hrw hb' hne=> ?_⟩,fun t b hb hrw=> ?_,hfr⟩
  ·show g' (mH k q n)=_
   rw[hr n hn];exact (Gl n hn).2
  ·obtain ⟨h1,h2,h3,_⟩:=hout n b hb
   exact ⟨h1,h2,h3⟩
  ·obtain ⟨h1,_,_,b',h2,_⟩:=hout t b hb
   exact hmem.lt _ b' h2
  ·obtain ⟨h1,_,_,b',h2,_,h4⟩:=hout t b hb
   have:=hmem.cell _ b' h2 i (SV.bh (mH k q) v) (by rw[h4];simp[hv])
   rw[this,SV.cP]
  ·obtain ⟨h1,_,_,b',h2,h3,h4⟩:=hout t b hb
   exact hmem.free _ b' h2 (h3 hrw) i (by rw[h4];simpa using hi)
  ·obtain ⟨h1,_,_,c1,h2,h3,_⟩:=hout t b hb
   obtain ⟨h1',_,_,c2,h2',_,_⟩:=hout t' b' hb'
   exact hmem.sep _ _ c1 c2 h2 (h3 hrw) h2' (fun e=>hne (hinj _ _ h1 h1' e))
  ·obtain ⟨h1,_,_,b',h2,h3,_⟩:=hout t b hb
   exact xN _ b' h2 (h3 hrw)
def aW.bh (r:Nat→Nat) (b:aW):aW:=⟨b.rw,b.cells.map (SV.bh r)⟩
def fb (r:Nat→Nat) (k nm:Nat):Nat→Nat:=fun n=>if n=k then nm else r n
def after (s:AS) (r:Nat→Nat) (k nm:Nat) (wr:Option Nat) (out:Nat→Option aW):Nat→Option aW:=
 let b1:=match out k with
  | none=>s.box
  | some b=>upd s.box nm (some (aW.bh (fb r k nm) b))
 match wr with
  | none=>b1
  | some n=>upd b1 (r n) ((out n).map (aW.bh (fb r k nm)))
structure Fits (s:AS) (r:Nat→Nat) (ins:Nat→Option aW) (wr:Option Nat):Prop where
 box: ∀ n b,ins n=some b→ ∃ b',s.box (r n)=some b'∧(b.rw=true→b'.rw=true)∧b'.cells=b.cells.map (SV.bh r)
 inj: ∀ n n' b b',ins n=some b→b.rw=true→ins n'=some b'→r n=r n'→n=n'
 only: ∀ n b,ins n=some b→b.rw=true→wr=some n
 Xh: ∀ n,wr=some n→ ∃ b,ins n=some b∧b.rw=true
theorem iZ {r:Nat→Nat} {k:Nat} {wr:Option Nat} {out:Nat→Option aW} {t:Nat} {b:aW} (h:after s r k nm wr out t=some b):
  (∃ n c,wr=some n∧t=r n∧out n=some c∧b=aW.bh (fb r k nm) c)∨((∀ n,wr=some n→t≠r n)∧((∃ c,t=nm∧out k=some c∧b=aW.bh (fb r k nm) c)∨(s.box t=some b∧(t=nm→out k=none)))):=by
 have key:(match out k with | none=>s.box | some b=>upd s.box nm (some (aW.bh (fb r k nm) b))) t=some b→
   (∃ c,t=nm∧out k=some c∧b=aW.bh (fb r k nm) c)∨(s.box t=some b∧(t=nm→out k=none)):=fun h=>by
  cases ho:out k with
  | none=>rw[ho]at h;exact .inr ⟨h,fun _=>rfl⟩
  | some c=>
   rw[ho]at h
   simp only[upd]at h
   split at h
   ·rename_i e
    simp only[Option.some.injEq]at h
    exact .inl ⟨c,e,rfl,h.symm⟩
   ·rename_i e
    exact .inr ⟨h,fun e'=>absurd e' e⟩
 unfold after at h
 cases wr with
 | none=>exact .inr ⟨fun n e=>(by cases e),key h⟩
 | some n=>
  simp only[upd]at h
  split at h
  ·rename_i e
   cases ho:out n with
   | none=>rw[ho]at h;cases h
   | some c=>
    rw[ho]at h
    simp only[Option.map_some,Option.some.injEq]at h
    exact .inl ⟨n,c,rfl,e,ho,h.symm⟩
  ·rename_i e
   exact .inr ⟨fun n' e'=>(by cases e';exact e),key h⟩
theorem bt.rep {f k:Nat} {args:List AV} {ins:Nat→Option aW} {Post:AV→(Nat→Option aW)→Prop} (h:bt P f args k ins Post) (hs:cE W N w0 M g s a w) (hnm: ¬ M nm)
  {r:Nat→Nat} {wr:Option Nat} (hfit:Fits s r ins wr):
  Calls P f ((args.map (AV.bh r)).map (AV.av g)).toArray w fun e w'=> ∃ v out g',e= .returned (AV.av g' (AV.bh (fb r k nm) v))∧Post v out∧(∀ n b,out n=some b→n=k→b.rw=true)∧(∀ n,M n→g' n=g n)∧
   cE W N w0 (fun n=>M n∨n=nm) g' { s with box:=after s r k nm wr out } a w'∧AV.ok (fun n=>M n∨n=nm) (AV.bh (fb r k nm) v):=by
 have wJ: ∀ n,n < k→M (r n):=fun n hn=>by
  obtain ⟨b,hb⟩:=h.all n hn
  obtain ⟨b',hb',_⟩:=hfit.box n b hb
  exact (hs.names.box _ b' hb').1
 have hargs:(args.map (AV.bh r)).map (AV.av g)=args.map (AV.av fun n=>g (r n)):=by
  rw[List.map_map];exact List.map_congr_left fun x _=>AV.cP g r x
 rw[hargs]
 have hm0:eX (fun n=>g (r n)) (wz ins) w:=by
  refine ⟨fun t b hb=> ?_,fun t b hb i v hv=> ?_,fun t b hb hrw i hi=> ?_,fun t t' b b' hb hrw hb' hne=> ?_⟩
  ·obtain ⟨b',h1,_⟩:=hfit.box t b hb
   exact hs.mem.lt _ b' h1
  ·obtain ⟨b',h1,_,h3⟩:=hfit.box t b hb
   have:=hs.mem.cell _ b' h1 i (SV.bh r v) (by rw[h3];simp[hv])
   rw[this,SV.cP]
  ·obtain ⟨b',h1,h2,h3⟩:=hfit.box t b hb
   exact hs.mem.free _ b' h1 (h2 hrw) i (by rw[h3];simpa using hi)
  ·obtain ⟨c,h1,h2,_⟩:=hfit.box t b hb
   obtain ⟨c',h1',_,_⟩:=hfit.box t' b' hb'
   exact hs.mem.sep _ _ c c' h1 (h2 hrw) h1' (fun e=>hne (hfit.inj _ _ b b' hb hrw hb' e))
 have htb: ∀ b bx,Tables.row P b=some bx→ ¬ ∃ n,wr=some n∧b=(g (r n)).1:=fun b bx hb=>by
  rintro ⟨n,hn,rfl⟩
  obtain ⟨c,hc,hrw⟩:=hfit.Xh n hn
  obtain ⟨b',h1,h2,_⟩:=hfit.box n c hc
  rcases hs.own _ b' h1 (h2 hrw) with h3 | h3
  ·have:=(w0.laid.rows _ bx hb).1;omega
  ·exact hs.tabs _ bx hb h3
 refine (h.call (fun blk=> ∃ n,wr=some n∧blk=(g (r n)).1) (fun n=>g (r n)) w hs.laid htb hm0 (fun t b hb hrw=>⟨t,hfit.only t b hb hrw,rfl⟩)).mono ?_
 rintro e w' ⟨v,out,gc,rfl,hpost,hsame,hv,hout,hmem,hown,hfr⟩
 have gx: ∀ n,M n→upd g nm (gc k) n=g n:=fun n hn=>bg _ _ _ _ (fun e=>hnm (by rw[← e];exact hn))
 have hgr: ∀ n,n < k+1→upd g nm (gc k) (fb r k nm n)=gc n:=fun n hn=>by
  unfold fb
  by_cases e:n=k
  ·rw[if_pos e,ax,e]
  ·rw[if_neg e,gx _ (wJ n (by omega)),hsame n (by omega)]
 have Gq: ∀ x:SV,SV.names (fun n=>n < k+1) x→SV.av gc x=SV.av (upd g nm (gc k)) (SV.bh (fb r k nm) x):=fun x hx=>by
  rw[SV.cP];exact SV.bX (SV.eY (fun n hn=>(hgr n hn).symm) hx)
 have NI:AV.av gc v=AV.av (upd g nm (gc k)) (AV.bh (fb r k nm) v):=by
  rw[AV.cP];exact AV.bX (AV.bA (fun n hn=>(hgr n hn).symm) hv)
 have hMn: ∀ n,n < k+1→M (fb r k nm n)∨fb r k nm n=nm:=fun n hn=>by
  unfold fb
  by_cases e:n=k
  ·rw[if_pos e];exact .inr rfl
  ·rw[if_neg e];exact .inl (wJ n (by omega))
 have NJ: ∀ x:SV,SV.ok (fun n=>n < k+1) x→SV.ok (fun n=>M n∨n=nm) (SV.bh (fb r k nm) x):=fun x hx=>by
  rcases x with v | ⟨t,o⟩ | ⟨t,o,n,c⟩
  ·exact ⟨trivial,hx.2⟩
  ·exact ⟨hMn _ hx.1,rfl⟩
  ·exact ⟨hMn _ hx.1,rfl⟩
 have Xi: ∀ x:CV,CV.ok (fun n=>n < k+1) x→CV.ok (fun n=>M n∨n=nm) (CV.bh (fb r k nm) x):=fun x hx=>by
  rcases x with x | l
  ·rcases x with v | ⟨t,o⟩ | ⟨t,o,n,c⟩
   ·trivial
   ·exact hMn _ hx
   ·exact hMn _ hx
  ·intro y hy
   simp only[List.mem_map]at hy
   obtain ⟨z,hz,rfl⟩:=hy
   exact NJ z (hx z hz)
 have afO:AV.ok (fun n=>M n∨n=nm) (AV.bh (fb r k nm) v):=by
  rcases v with x | l
  ·exact Xi x hv
  ·intro y hy
   simp only[List.mem_map]at hy
   obtain ⟨z,hz,rfl⟩:=hy
   exact Xi z (hv z hz)
 have mV: ∀ n,wr=some n→n < k∧ ∃ b',s.box (r n)=some b'∧b'.rw=true:=fun n hn=>by
  obtain ⟨b,hb,hrw⟩:=hfit.Xh n hn
  obtain ⟨b',h1,h2,_⟩:=hfit.box n b hb
  exact ⟨h.np n b hb,b',h1,h2 hrw⟩
 have hWc: ∀ t b,s.box t=some b→(∀ n,wr=some n→t≠r n)→ ¬ ∃ n,wr=some n∧(g t).1=(g (r n)).1:=fun t b hb hne=>by
  rintro ⟨n,hn,e⟩
  obtain ⟨_,b',h1,h2⟩:=mV n hn
  exact hs.mem.sep _ _ b' b h1 h2 hb (fun e=>hne n hn e.symm) e.symm
 have hkeep: ∀ t b,s.box t=some b→(∀ n,wr=some n→t≠r n)→w'.heap[(g t).1]? =w.heap[(g t).1]? :=fun t b hb hne=>
  hfr.block _ (hs.mem.lt t b hb) (hWc t b hb hne)
 have sM: ∀ t b,s.box t=some b→M t:=fun t b hb=>(hs.names.box t b hb).1
 have an5: ∀ b,s.box nm≠some b:=fun b hb=>hnm (sM nm b hb)
 have xO: ∀ t b c,s.box t=some b→(∀ n,wr=some n→t≠r n)→out k=some c→(gc k).1≠(g t).1:=fun t b c hb hne hc=>by
  rcases hown k c hc ((hout k c hc).2.1 rfl) with h1 | ⟨n,hn,h1⟩
  ·have:=hs.mem.lt t b hb;omega
  ·rw[h1]
   intro e
   exact hWc t b hb hne ⟨n,hn,e.symm⟩
 have rG: ∀ n c c',wr=some n→out k=some c→out n=some c'→(gc k).1≠(g (r n)).1:=fun n c c' hn hc Cm=>by
  have hlt:=(mV n hn).1
  have:=hmem.sep k n c c' hc ((hout k c hc).2.1 rfl) Cm (by omega)
  rwa [hsame n hlt]at this
 refine ⟨v,out,upd g nm (gc k),by rw[NI],hpost,fun n b hb e=>(hout n b hb).2.1 e,gx,⟨hs.size,hs.defers,fun d x hd=> ?_,⟨fun d x hd=> ?_,fun t b hb=> ?_⟩,⟨fun t b hb=> ?_,fun t b hb i x hx=> ?_,fun t b hb hrw i hi=> ?_,fun t t' b b' hb hrw hb' hne=> ?_⟩,fun t b hb hrw=> ?_, ?_,fun n hn=>⟨.inl (hs.kJ n hn).1,(gx n (hs.kJ n hn).1).trans (hs.kJ n hn).2⟩,hs.tabs⟩,afO⟩
 ·rw[hs.env d x hd]
  rw[AV.bX (AV.bA (fun n hn=>(gx n hn).symm) (hs.names.env d x hd))]
 ·exact AV.bA (fun _ hn=> .inl hn) (hs.names.env d x hd)
 ·rcases iZ hb with ⟨n,c,hn,rfl,hc,rfl⟩ | ⟨_,⟨c,rfl,hc,rfl⟩ | ⟨hb',_⟩⟩
  ·refine ⟨.inl (wJ n (mV n hn).1),fun x hx=> ?_⟩
   simp only[aW.bh,List.mem_map]at hx
   obtain ⟨z,hz,rfl⟩:=hx
   exact NJ z ((hout n c hc).2.2 z hz)
  ·refine ⟨.inr rfl,fun x hx=> ?_⟩
   simp only[aW.bh,List.mem_map]at hx
   obtain ⟨z,hz,rfl⟩:=hx
   exact NJ z ((hout k c hc).2.2 z hz)
  ·exact ⟨.inl (sM t b hb'),fun x hx=>SV.bA (fun _ hn=> .inl hn) ((hs.names.box t b hb').2 x hx)⟩
 ·rcases iZ hb with ⟨n,c,hn,rfl,hc,rfl⟩ | ⟨_,⟨c,rfl,hc,rfl⟩ | ⟨hb',_⟩⟩
  ·have:=hmem.lt n c hc
   rw[gx _ (wJ n (mV n hn).1), ← hsame n (mV n hn).1];exact this
  ·rw[ax];exact hmem.lt k c hc
  ·rw[gx t (sM t b hb')];exact Nat.lt_of_lt_of_le (hs.mem.lt t b hb') hfr.size
 ·rcases iZ hb with ⟨n,c,hn,rfl,hc,rfl⟩ | ⟨hne,⟨c,rfl,hc,rfl⟩ | ⟨hb',_⟩⟩
  ·simp only[aW.bh,List.getElem?_map]at hx
   cases hz:c.cells[i]? with
   | none=>rw[hz]at hx;cases hx
   | some z=>
    rw[hz]at hx
    simp only[Option.map_some,Option.some.injEq]at hx;subst hx
    have:=hmem.cell n c hc i z hz
    rw[gx _ (wJ n (mV n hn).1), ← hsame n (mV n hn).1,this]
    rw[Gq z ((hout n c hc).2.2 z (List.mem_of_getElem? hz)).1]
  ·simp only[aW.bh,List.getElem?_map]at hx
   cases hz:c.cells[i]? with
   | none=>rw[hz]at hx;cases hx
   | some z=>
    rw[hz]at hx
    simp only[Option.map_some,Option.some.injEq]at hx;subst hx
    rw[ax,hmem.cell k c hc i z hz]
    rw[Gq z ((hout k c hc).2.2 z (List.mem_of_getElem? hz)).1]
  ·have h1:=hs.mem.cell t b hb' i x hx
   rw[gx t (sM t b hb')]
   have h2:w'.cell? ⟨(g t).1,(g t).2+i,none⟩=w.cell? ⟨(g t).1,(g t).2+i,none⟩:=by
    unfold World.cell?;simp only[hkeep t b hb' hne]
   rw[h2,h1]
   rw[SV.bX (SV.eY (fun n hn=>(gx n hn).symm) ((hs.names.box t b hb').2 x (List.mem_of_getElem? hx)).1)]
 ·rcases iZ hb with ⟨n,c,hn,rfl,hc,rfl⟩ | ⟨hne,⟨c,rfl,hc,rfl⟩ | ⟨hb',_⟩⟩
  ·have:=hmem.free n c hc hrw i (by simpa[aW.bh] using hi)
   rw[gx _ (wJ n (mV n hn).1), ← hsame n (mV n hn).1];exact this
  ·rw[ax];exact hmem.free k c hc hrw i (by simpa[aW.bh] using hi)
  ·rw[gx t (sM t b hb')]
   have h2:dq w' ⟨(g t).1,(g t).2+i,none⟩=dq w ⟨(g t).1,(g t).2+i,none⟩:=by
    unfold dq;simp only[hkeep t b hb' hne]
   rw[h2];exact hs.mem.free t b hb' hrw i hi
 ·rcases iZ hb with ⟨n,c,hn,rfl,hc,rfl⟩ | ⟨afP,⟨c,rfl,hc,rfl⟩ | ⟨ux,_⟩⟩<;>rcases iZ hb' with ⟨n',c',hn',rfl,Cm,rfl⟩ | ⟨afQ,⟨c',rfl,Cm,rfl⟩ | ⟨sW,_⟩⟩
  ·rw[hn]at hn';cases hn';exact absurd rfl hne
  ·rw[ax,gx _ (wJ n (mV n hn).1)]
   exact fun e=>rG n c' c hn Cm hc e.symm
  ·obtain ⟨hlt,b0,h1,h2⟩:=mV n hn
   rw[gx _ (wJ n hlt),gx _ (sM _ _ sW)]
   exact hs.mem.sep _ _ b0 b' h1 h2 sW hne
  ·rw[ax,gx _ (wJ n' (mV n' hn').1)]
   exact rG n' c c' hn' hc Cm
  ·exact absurd rfl hne
  ·rw[ax,gx _ (sM _ _ sW)]
   exact xO t' b' c sW afQ hc
  ·obtain ⟨hlt,b0,h1,h2⟩:=mV n' hn'
   rw[gx _ (wJ n' hlt),gx _ (sM _ _ ux)]
   exact hs.mem.sep _ _ b b0 ux hrw h1 hne
  ·rw[ax,gx _ (sM _ _ ux)]
   exact fun e=>xO t b c' ux afP Cm e.symm
  ·rw[gx _ (sM _ _ ux),gx _ (sM _ _ sW)]
   exact hs.mem.sep _ _ b b' ux hrw sW hne
 ·have hW0: ∀ x,(w.heap.size≤x∨ ∃ n,wr=some n∧x=(g (r n)).1)→w0.heap.size≤x∨W x:=fun x hx=>by
   rcases hx with hx | ⟨n,hn,rfl⟩
   ·exact .inl (Nat.le_trans hs.frame.size hx)
   ·obtain ⟨_,b0,h1,h2⟩:=mV n hn
    exact hs.own _ b0 h1 h2
  rcases iZ hb with ⟨n,c,hn,rfl,hc,rfl⟩ | ⟨_,⟨c,rfl,hc,rfl⟩ | ⟨hb',_⟩⟩
  ·rw[gx _ (wJ n (mV n hn).1)]
   exact hW0 _ (.inr ⟨n,hn,rfl⟩)
  ·rw[ax];exact hW0 _ (hown k c hc hrw)
  ·rw[gx _ (sM _ _ hb')];exact hs.own t b hb' hrw
 ·have hf:=hs.frame
  refine ⟨hfr.os.trans hf.os,hfr.tape.trans hf.tape,hfr.output.trans hf.output,Nat.le_trans hf.size hfr.size,fun x hx hW=> ?_⟩
  rw[hfr.block x (Nat.lt_of_lt_of_le hx hf.size) ?_]
  ·exact hf.block x hx hW
  ·rintro ⟨n,hn,rfl⟩
   obtain ⟨_,b0,h1,h2⟩:=mV n hn
   rcases hs.own _ b0 h1 h2 with h3 | h3
   ·exact absurd hx (Nat.not_lt.2 h3)
   ·exact hW h3
end
end Go.cA
