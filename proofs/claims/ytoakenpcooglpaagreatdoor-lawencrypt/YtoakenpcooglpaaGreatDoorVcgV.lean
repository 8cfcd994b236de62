/-
  The calculus: a long row of code cut in parts: behind each part the state is brought to a written-out one, of which some facts are kept, and the rest is walked from there. Nothing here speaks of a program.
-/
import Derived.Test.YtoakenpcooglpaaGreatDoorVcgI
set_option linter.unusedVariables false
set_option linter.unusedSimpArgs false
namespace Go.cA
set_option linter.unusedSectionVars false
def kR:Nat→Code→Code
 | 0,c=>c
 | n+1, .seq _ b=>kR n b
 | _+1,c=>c
def jT (P:Program) [Tables P] (m:Nat) (oO:AS→Prop):Nat→Code→(Exit→AS→Prop)→AS→Prop
 | 0,_,_,s=> ∃ s2,wv m s s2∧m≤s2.next∧oO s2
 | n+1, .seq a b,F,s=>oR P a (fi (jT P m oO n b F) F) s
 | _+1,_,_,_=>False
def vcL (P:Program) [Tables P] (m:Nat):List Nat→Code→(Exit→AS→Prop)→AS→Prop
 | [],c,F,s=>oR P c F s
 | n::r,c,F,s=> ∃ oO:AS→Prop,jT P m oO n c F s∧ ∀ s2,oO s2→vcL P m r (kR n c) F s2
section
variable {P:Program} [Tables P] {W:Nat→Prop} {N:Nat} {w0:gF P} {g:bG} {s:AS} {a:Act} {w:World}
theorem AI: ∀ (n:Nat) (c:Code),codeOk N c=true→codeOk N (kR n c)=true
 | 0,c,h=>h
 | n+1, .seq a b,h=>by
  simp only[codeOk,Bool.and_eq_true]at h
  exact AI n b h.2
 | n+1, .skip,h=>h
 | n+1, .region .., h=>h
 | n+1, .cond .., h=>h
 | n+1, .block .., h=>h
 | n+1, .loop _,h=>h
 | n+1, .exit _,h=>h
 | n+1, .ret,h=>h
 | n+1, .rangeFunc .., h=>h
 | n+1, .scope _,h=>h
 | n+1, .label _,h=>h
 | n+1, .goto _,h=>h
 | n+1, .refuse _,h=>h
def Sound (P:Program) [Tables P] (W:Nat→Prop) (N:Nat) (w0:gF P) (c:Code) (F:Exit→AS→Prop) (s:AS):Prop:=
 ∀ (g:bG) (a:Act) (w:World) (Q:Exit→Act→World→Prop),cE W N w0 (fun n=>n < s.next) g s a w→
  (∀ e g' s' a' w',cE W N w0 (fun n=>n < s'.next) g' s' a' w'→F e s'→Q e a' w')→c.wp P Q a w
theorem vX {m:Nat} (hm:w0.pn≤m) {oO:AS→Prop}: ∀ (n:Nat) (c:Code) (F:Exit→AS→Prop) (s:AS),codeOk N c=true→jT P m oO n c F s→(∀ s2,oO s2→Sound P W N w0 (kR n c) F s2)→Sound P W N w0 c F s
 | 0,c,F,s,hok,hv,ht,g,a,w,Q,h,hQ=>by
  obtain ⟨s2,⟨r,hr,Zp⟩,hn,hmid⟩:=hv
  exact ht s2 hmid _ a w Q (h.dv hr fun n hn'=>⟨Zp n (by omega),by omega⟩) hQ
 | n+1, .seq x y,F,s,hok,hv,ht,g,a,w,Q,h,hQ=>by
  simp only[codeOk,Bool.and_eq_true]at hok
  refine wp_seq (dF x _ s hok.1 hv g a w _ h fun e g' s' a' w' h' hk=> ?_)
  cases e with
  | normal=>exact vX hm n y F s' hok.2 hk ht g' a' w' Q h' hQ
  | _=>exact hQ _ _ _ _ _ h' hk
theorem Fp {m:Nat} (hm:w0.pn≤m): ∀ (oS:List Nat) (c:Code) (F:Exit→AS→Prop) (s:AS),codeOk N c=true→vcL P m oS c F s→Sound P W N w0 c F s
 | [],c,F,s,hok,hv=>fun g a w Q h hQ=>dF c F s hok hv g a w Q h hQ
 | n::r,c,F,s,hok,hv=>by
  obtain ⟨oO,h1,h2⟩:=hv
  exact vX hm n c F s hok h1 fun s2 hs=>Fp hm r _ F s2 (AI n c hok) (h2 s2 hs)
theorem GD {f:Nat} {fn:Func} {c:Code} (hf:P.funcs[f]? =some fn) (hb:fn.body=some c) (hok:codeOk fn.ntmps c=true) {args:List AV} {box:Nat→Option aW} {n:Nat} (oS:List Nat)
  (hlen:args.length≤fn.ntmps) (hlaid:Laid P w) (ko: ∀ b bx,Tables.row P b=some bx→ ¬ W b) (hn:Names (fun k=>k < n) (start args box n)) (hm:eX g (start args box n) w) (hown: ∀ t b,box t=some b→b.rw=true→W (g t).1)
  {Post:AV→AS→Prop} (hv:vcL P n oS c (kY P fn.results.toList Post) (start args box n)):
  Calls P f (args.map (AV.av g)).toArray w fun e w'=> ∃ v g' s',e= .returned (AV.av g' v)∧Post v s'∧AV.ok (fun k=>k < s'.next) v∧(∀ k,k < n→k < s'.next∧g' k=g k)∧eX g' s' w'∧Names (fun k=>k < s'.next) s'∧
   (∀ t b,s'.box t=some b→b.rw=true→w.heap.size≤(g' t).1∨W (g' t).1)∧Frame W w w':=by
 refine calls_of_wp hf hb ?_
 refine Fp (N:=fn.ntmps) (W:=W) (w0:=⟨w,n,g,hlaid⟩) (m:=n) (Nat.le_refl n) oS c _ _ hok hv g _ w _ ⟨?_,rfl, ?_,hn,hm,fun t b hb hrw=>Or.inr (hown t b hb hrw),Frame.refl _ _,fun k hk=>⟨hk,rfl⟩,ko⟩ ?_
 ·simp;omega
 ·intro d v hd
  simp only[start]at hd
  have hlt:d < args.length:=(List.getElem?_eq_some_iff.1 hd).1
  rw[Array.getElem?_append_left (by simpa using hlt)]
  simp[hd]
 ·intro e g' s' a' w' h' hk
  have fin:sV (jQ (fZ P s' fn.results.toList)) Post s'→ ∃ v,(results fn a'.tmps).run P w'= .ok (AV.av g' v) w'∧Post v s'∧AV.ok (fun k=>k < s'.next) v:=fun hr=>by
   unfold sV at hr
   split at hr
   ·rename_i v hv
    obtain ⟨h1,h2⟩:=j5 h' hv
    exact ⟨v,h1,hr,h2⟩
   ·exact hr.elim
  cases e<;>simp only[kY]at hk
  ·obtain ⟨v,h1,h2,h3⟩:=fin hk
   exact ⟨h'.defers,_,h1,v,g',s',rfl,h2,h3,h'.kJ,h'.mem,h'.names,h'.own,h'.frame⟩
  ·obtain ⟨v,h1,h2,h3⟩:=fin hk
   exact ⟨h'.defers,_,h1,v,g',s',rfl,h2,h3,h'.kJ,h'.mem,h'.names,h'.own,h'.frame⟩
theorem LL {f:Nat} {fn:Func} {c:Code} (hf:P.funcs[f]? =some fn) (hb:fn.body=some c) (hok:codeOk fn.ntmps c=true) (oS:List Nat) {args:List AV} {k:Nat} {ins:Nat→Option aW}
  (hlen:args.length≤fn.ntmps) (hc:ai P f=true) (hargs: ∀ v ∈ args,AV.ok (fun n=>n < k) v) (hall: ∀ n,n < k→ ∃ b,ins n=some b) (j6: ∀ n b,ins n=some b→n < k∧ ∀ x ∈ b.cells,SV.ok (fun n=>n < k) x)
  {Post:AV→(Nat→Option aW)→Prop} (hv:vcL P k oS c (kY P fn.results.toList (Ct k Post)) (start args ins k)):bt P f args k ins Post:=by
 refine ⟨hc,hall,fun n b hb=>(j6 n b hb).1,fun W g w hlaid ko hm hown=> ?_⟩
 refine (GD (oS:=oS) (W:=W) (g:=g) (w:=w) hf hb hok hlen hlaid ko ⟨fun d v hd=> ?_,fun t b ht=>j6 t b ht⟩ ⟨hm.lt,hm.cell,hm.free,hm.sep⟩ hown hv).mono ?_
 ·simp only[start]at hd
  exact hargs v (List.mem_of_getElem? hd)
 ·rintro e w' ⟨v,g',s',rfl,⟨q,v0,out,hq,rfl,Vs,hout,hpost⟩,_,Gl,hmem,NH,xN,hfr⟩
  have hr: ∀ n,n < k→mH k q n=n:=fun n hn=>by unfold mH;rw[if_neg (by omega)]
  have hinj: ∀ n n',n < k+1→n' < k+1→mH k q n=mH k q n'→n=n':=fun n n' h1 h2 e=>by
   unfold mH at e
   split at e<;>split at e<;>omega
  refine ⟨v0,out,fun n=>g' (mH k q n),by rw[AV.cP],hpost,fun n hn=> ?_,Vs,fun n b hb=> ?_,⟨fun t b hb=> ?_,fun t b hb i v hv=> ?_,fun t b hb hrw i hi=> ?_,fun t t' b b' hb hrw hb' hne=> ?_⟩,fun t b hb hrw=> ?_,hfr⟩
  ·show g' (mH k q n)=_
   rw[hr n hn];exact (Gl n hn).2
  ·obtain ⟨h1,h2,h3,_⟩:=hout n b hb
   exact ⟨h1,h2,h3⟩
  ·obtain ⟨h1,_,_,b',h2,_⟩:=hout t b hb
   exact hmem.lt _ b' h2
  ·obtain ⟨h1,_,_,b',h2,_,h4⟩:=hout t b hb
   have:=hmem.cell _ b' h2 i (SV.bh (mH k q) v) (by rw[h4];simp[hv])
   rw[this,SV.cP]
  ·obtain ⟨h1,_,_,b',h2,h3,h4⟩:=hout t b hb
   exact hmem.free _ b' h2 (h3 hrw) i (by rw[h4];simpa using hi)
  ·obtain ⟨h1,_,_,c1,h2,h3,_⟩:=hout t b hb
   obtain ⟨h1',_,_,c2,h2',_,_⟩:=hout t' b' hb'
   exact hmem.sep _ _ c1 c2 h2 (h3 hrw) h2' (fun e=>hne (hinj _ _ h1 h1' e))
  ·obtain ⟨h1,_,_,b',h2,h3,_⟩:=hout t b hb
   exact xN _ b' h2 (h3 hrw)
end
theorem Zq {s:AS} {m next:Nat} {env:List (Nat×AV)} {box:List (Nat×aW)} (r:Nat→Nat) (hm: ∀ n,n < m→r n=n) (he: ∀ x ∈ env,s.env x.1=some (AV.bh r x.2)∧AV.ok (fun n=>n < next) x.2)
  (hb: ∀ x ∈ box,(∃ b',s.box (r x.1)=some b'∧(x.2.rw=true→b'.rw=true)∧b'.cells=x.2.cells.map (SV.bh r))∧x.1 < next∧ ∀ y ∈ x.2.cells,SV.ok (fun n=>n < next) y)
  (hi: ∀ x ∈ box,x.2.rw=true→ ∀ y ∈ box,r x.1=r y.1→x.1=y.1):wv m s (ou env box next):=by
 refine ⟨r,⟨fun d v hv=>(he _ (bq _ _ _ hv)).1,fun n b hn=>(hb _ (bq _ _ _ hn)).1,fun n n' b b' hn hrw hn' e=>hi _ (bq _ _ _ hn) hrw _ (bq _ _ _ hn') e,fun d v hv=>(he _ (bq _ _ _ hv)).2,fun t b ht=> ?_⟩,hm⟩
 have:=hb _ (bq _ _ _ ht)
 exact ⟨this.2.1,this.2.2⟩
theorem eD.bh {t n:Nat} {v:AV} {f:Nat→Int} {cs:List SV} (h:eD t v n f cs) {r:Nat→Nat} (hr:r t=t):AV.bh r v=v:=by
 rcases h with ⟨⟨a,rfl⟩,h0⟩ | ⟨o,c,rfl,hs⟩
 ·rfl
 ·rw[er,hr]
section
variable {P:Program} [Tables P] {s:AS} {m:Nat} {oO:AS→Prop}
theorem AJ {n:Nat} {a b:Code} {F:Exit→AS→Prop}:jT P m oO (n+1) (.seq a b) F s=oR P a (fi (jT P m oO n b F) F) s:=rfl
theorem Ue {c:Code} {F:Exit→AS→Prop}:vcL P m [] c F s=oR P c F s:=rfl
theorem gj {c:Code}:kR 0 c=c:=rfl
theorem gk {n:Nat} {a b:Code}:kR (n+1) (.seq a b)=kR n b:=rfl
end
theorem ak:type_of% @AJ∧type_of% @Ue∧type_of% @gj∧type_of% @gk:=⟨@AJ, @Ue, @gj, @gk⟩
end Go.cA
