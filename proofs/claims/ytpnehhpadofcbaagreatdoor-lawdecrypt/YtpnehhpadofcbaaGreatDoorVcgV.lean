/-
  The calculus: a long row of code cut in parts: behind each part the state is brought to a written-out one, of which some facts are kept, and the rest is walked from there. Nothing here speaks of a program.
-/
import Derived.Test.YtpnehhpadofcbaaGreatDoorVcgI
namespace Go.bU
set_option linter.unusedSectionVars false
set_option linter.unusedSimpArgs false
set_option linter.unusedVariables false
def nC:Nat→Code→Code
 | 0,c=>c
 | n+1, .seq _ b=>nC n b
 | _+1,c=>c
def l9 (P:Program) [Tables P] (m:Nat) (sa:AS→Prop):Nat→Code→(Exit→AS→Prop)→AS→Prop
 | 0,_,_,s=> ∃ s2,oU m s s2∧m≤s2.next∧sa s2
 | n+1, .seq a b,F,s=>qj P a (fL (l9 P m sa n b F) F) s
 | _+1,_,_,_=>False
def vcL (P:Program) [Tables P] (m:Nat):List Nat→Code→(Exit→AS→Prop)→AS→Prop
 | [],c,F,s=>qj P c F s
 | n::r,c,F,s=> ∃ sa:AS→Prop,l9 P m sa n c F s∧ ∀ s2,sa s2→vcL P m r (nC n c) F s2
section
variable {P:Program} [Tables P] {W:Nat→Prop} {N:Nat} {w0:iH P} {g:Where} {s:AS} {a:Act} {w:World}
theorem Bn: ∀ (n:Nat) (c:Code),codeOk N c=true→codeOk N (nC n c)=true
 | 0,c,h=>h
 | n+1, .seq a b,h=>by
  simp only[codeOk,Bool.and_eq_true]at h
  exact Bn n b h.2
 | n+1, .skip,h=>h
 | n+1, .region .., h=>h
 | n+1, .cond .., h=>h
 | n+1, .block .., h=>h
 | n+1, .loop _,h=>h
 | n+1, .exit _,h=>h
 | n+1, .ret,h=>h
 | n+1, .rangeFunc .., h=>h
 | n+1, .scope _,h=>h
 | n+1, .label _,h=>h
 | n+1, .goto _,h=>h
 | n+1, .refuse _,h=>h
def Sound (P:Program) [Tables P] (W:Nat→Prop) (N:Nat) (w0:iH P) (c:Code) (F:Exit→AS→Prop) (s:AS):Prop:=
 ∀ (g:Where) (a:Act) (w:World) (Q:Exit→Act→World→Prop),cx W N w0 (fun n=>n < s.next) g s a w→
  (∀ e g' s' a' w',cx W N w0 (fun n=>n < s'.next) g' s' a' w'→F e s'→Q e a' w')→c.wp P Q a w
theorem yP {m:Nat} (hm:w0.pn≤m) {sa:AS→Prop}: ∀ (n:Nat) (c:Code) (F:Exit→AS→Prop) (s:AS),codeOk N c=true→l9 P m sa n c F s→(∀ s2,sa s2→Sound P W N w0 (nC n c) F s2)→Sound P W N w0 c F s
 | 0,c,F,s,hok,hv,ht,g,a,w,Q,h,hQ=>by
  obtain ⟨s2,⟨r,hr,Tm⟩,hn,hmid⟩:=hv
  exact ht s2 hmid _ a w Q (h.dq hr fun n hn'=>⟨Tm n (by omega),by omega⟩) hQ
 | n+1, .seq x y,F,s,hok,hv,ht,g,a,w,Q,h,hQ=>by
  simp only[codeOk,Bool.and_eq_true]at hok
  refine wp_seq (dT x _ s hok.1 hv g a w _ h fun e g' s' a' w' h' hk=> ?_)
  cases e with
  | normal=>exact yP hm n y F s' hok.2 hk ht g' a' w' Q h' hQ
  | _=>exact hQ _ _ _ _ _ h' hk
theorem Ey {m:Nat} (hm:w0.pn≤m): ∀ (sf:List Nat) (c:Code) (F:Exit→AS→Prop) (s:AS),codeOk N c=true→vcL P m sf c F s→Sound P W N w0 c F s
 | [],c,F,s,hok,hv=>fun g a w Q h hQ=>dT c F s hok hv g a w Q h hQ
 | n::r,c,F,s,hok,hv=>by
  obtain ⟨sa,h1,h2⟩:=hv
  exact yP hm n c F s hok h1 fun s2 hs=>Ey hm r _ F s2 (Bn n c hok) (h2 s2 hs)
theorem FV {f:Nat} {fn:Func} {c:Code} (hf:P.funcs[f]? =some fn) (hb:fn.body=some c) (hok:codeOk fn.ntmps c=true) {args:List AV} {box:Nat→Option aN} {n:Nat} (sf:List Nat)
  (hlen:args.length≤fn.ntmps) (hlaid:Laid P w) (lB: ∀ b bx,Tables.row P b=some bx→ ¬ W b) (hn:Names (fun k=>k < n) (start args box n)) (hm:fA g (start args box n) w) (hown: ∀ t b,box t=some b→b.rw=true→W (g t).1)
  {Post:AV→AS→Prop} (hv:vcL P n sf c (nt P fn.results.toList Post) (start args box n)):
  Calls P f (args.map (AV.aq g)).toArray w fun e w'=> ∃ v g' s',e= .returned (AV.aq g' v)∧Post v s'∧AV.ok (fun k=>k < s'.next) v∧(∀ k,k < n→k < s'.next∧g' k=g k)∧fA g' s' w'∧Names (fun k=>k < s'.next) s'∧
   (∀ t b,s'.box t=some b→b.rw=true→w.heap.size≤(g' t).1∨W (g' t).1)∧Frame W w w':=by
 refine calls_of_wp hf hb ?_
 refine Ey (N:=fn.ntmps) (W:=W) (w0:=⟨w,n,g,hlaid⟩) (m:=n) (Nat.le_refl n) sf c _ _ hok hv g _ w _ ⟨?_,rfl, ?_,hn,hm,fun t b hb hrw=>Or.inr (hown t b hb hrw),Frame.refl _ _,fun k hk=>⟨hk,rfl⟩,lB⟩ ?_
 ·simp;omega
 ·intro d v hd
  simp only[start]at hd
  have hlt:d < args.length:=(List.getElem?_eq_some_iff.1 hd).1
  rw[Array.getElem?_append_left (by simpa using hlt)]
  simp[hd]
 ·intro e g' s' a' w' h' hk
  have fin:vB (lA (im P s' fn.results.toList)) Post s'→ ∃ v,(results fn a'.tmps).run P w'= .ok (AV.aq g' v) w'∧Post v s'∧AV.ok (fun k=>k < s'.next) v:=fun hr=>by
   unfold vB at hr
   split at hr
   ·rename_i v hv
    obtain ⟨h1,h2⟩:=mg h' hv
    exact ⟨v,h1,hr,h2⟩
   ·exact hr.elim
  cases e<;>simp only[nt]at hk
  ·obtain ⟨v,h1,h2,h3⟩:=fin hk
   exact ⟨h'.defers,_,h1,v,g',s',rfl,h2,h3,h'.pin,h'.mem,h'.names,h'.own,h'.frame⟩
  ·obtain ⟨v,h1,h2,h3⟩:=fin hk
   exact ⟨h'.defers,_,h1,v,g',s',rfl,h2,h3,h'.pin,h'.mem,h'.names,h'.own,h'.frame⟩
theorem IW {f:Nat} {fn:Func} {c:Code} (hf:P.funcs[f]? =some fn) (hb:fn.body=some c) (hok:codeOk fn.ntmps c=true) (sf:List Nat) {args:List AV} {k:Nat} {ins:Nat→Option aN}
  (hlen:args.length≤fn.ntmps) (hc:ai P f=true) (hargs: ∀ v ∈ args,AV.ok (fun n=>n < k) v) (hall: ∀ n,n < k→ ∃ b,ins n=some b) (kD: ∀ n b,ins n=some b→n < k∧ ∀ x ∈ b.cells,SV.ok (fun n=>n < k) x)
  {Post:AV→(Nat→Option aN)→Prop} (hv:vcL P k sf c (nt P fn.results.toList (qA k Post)) (start args ins k)):bf P f args k ins Post:=by
 refine ⟨hc,hall,fun n b hb=>(kD n b hb).1,fun W g w hlaid lB hm hown=> ?_⟩
 refine (FV (sf:=sf) (W:=W) (g:=g) (w:=w) hf hb hok hlen hlaid lB ⟨fun d v hd=> ?_,fun t b ht=>kD t b ht⟩ ⟨hm.lt,hm.cell,hm.free,hm.sep⟩ hown hv).mono ?_
 ·simp only[start]at hd
  exact hargs v (List.mem_of_getElem? hd)
 ·rintro e w' ⟨v,g',s',rfl,⟨q,v0,out,hq,rfl,LP,hout,hpost⟩,_,Ap,hmem,FL,vC,hfr⟩
  have hr: ∀ n,n < k→kc k q n=n:=fun n hn=>by unfold kc;rw[if_neg (by omega)]
  have hinj: ∀ n n',n < k+1→n' < k+1→kc k q n=kc k q n'→n=n':=fun n n' h1 h2 e=>by
   unfold kc at e
   split at e<;>split at e<;>omega
  refine ⟨v0,out,fun n=>g' (kc k q n),by rw[AV.cz],hpost,fun n hn=> ?_,LP,fun n b hb=> ?_,⟨fun t b hb=> ?_,fun t b hb i v hv=> ?_,fun t b hb hrw i hi=> ?_,fun t t' b b' hb hrw hb' hne=> ?_⟩,fun t b hb hrw=> ?_,hfr⟩
  ·show g' (kc k q n)=_
   rw[hr n hn];exact (Ap n hn).2
  ·obtain ⟨h1,h2,h3,_⟩:=hout n b hb
   exact ⟨h1,h2,h3⟩
  ·obtain ⟨h1,_,_,b',h2,_⟩:=hout t b hb
   exact hmem.lt _ b' h2
  ·obtain ⟨h1,_,_,b',h2,_,h4⟩:=hout t b hb
   have:=hmem.cell _ b' h2 i (SV.aI (kc k q) v) (by rw[h4];simp[hv])
   rw[this,SV.cz]
  ·obtain ⟨h1,_,_,b',h2,h3,h4⟩:=hout t b hb
   exact hmem.free _ b' h2 (h3 hrw) i (by rw[h4];simpa using hi)
  ·obtain ⟨h1,_,_,c1,h2,h3,_⟩:=hout t b hb
   obtain ⟨h1',_,_,c2,h2',_,_⟩:=hout t' b' hb'
   exact hmem.sep _ _ c1 c2 h2 (h3 hrw) h2' (fun e=>hne (hinj _ _ h1 h1' e))
  ·obtain ⟨h1,_,_,b',h2,h3,_⟩:=hout t b hb
   exact vC _ b' h2 (h3 hrw)
end
theorem Bo {s:AS} {m next:Nat} {env:List (Nat×AV)} {box:List (Nat×aN)} (r:Nat→Nat) (hm: ∀ n,n < m→r n=n) (he: ∀ x ∈ env,s.env x.1=some (AV.aI r x.2)∧AV.ok (fun n=>n < next) x.2)
  (hb: ∀ x ∈ box,(∃ b',s.box (r x.1)=some b'∧(x.2.rw=true→b'.rw=true)∧b'.cells=x.2.cells.map (SV.aI r))∧x.1 < next∧ ∀ y ∈ x.2.cells,SV.ok (fun n=>n < next) y)
  (hi: ∀ x ∈ box,x.2.rw=true→ ∀ y ∈ box,r x.1=r y.1→x.1=y.1):oU m s (oZ env box next):=by
 refine ⟨r,⟨fun d v hv=>(he _ (bu _ _ _ hv)).1,fun n b hn=>(hb _ (bu _ _ _ hn)).1,fun n n' b b' hn hrw hn' e=>hi _ (bu _ _ _ hn) hrw _ (bu _ _ _ hn') e,fun d v hv=>(he _ (bu _ _ _ hv)).2,fun t b ht=> ?_⟩,hm⟩
 have:=hb _ (bu _ _ _ ht)
 exact ⟨this.2.1,this.2.2⟩
theorem vW {s:AS} {m next:Nat} {env:List (Nat×AV)} {box:List (Nat×aN)} (he: ∀ x ∈ env,s.env x.1=some (AV.aI (fun n=>n) x.2)∧AV.ok (fun n=>n < next) x.2)
  (hb: ∀ x ∈ box,(∃ b',s.box x.1=some b'∧(x.2.rw=true→b'.rw=true)∧b'.cells=x.2.cells.map (SV.aI (fun n=>n)))∧x.1 < next∧ ∀ y ∈ x.2.cells,SV.ok (fun n=>n < next) y):oU m s (oZ env box next):=
 Bo _ (fun n hn=>rfl) he hb fun x hx _ y hy e=>e
theorem eH.aI {t n:Nat} {v:AV} {f:Nat→Int} {cs:List SV} (h:eH t v n f cs) {r:Nat→Nat} (hr:r t=t):AV.aI r v=v:=by
 rcases h with ⟨⟨a,rfl⟩,h0⟩ | ⟨o,c,rfl,hs⟩
 ·rfl
 ·rw[eF,hr]
theorem eH.abu {t n:Nat} {sv:SV} {f:Nat→Int} {cs:List SV} (h:eH t (.inl (.inl sv)) n f cs) {r:Nat→Nat} (hr:r t=t):SV.aI r sv=sv:=by
 rcases h with ⟨⟨a,e⟩,h0⟩ | ⟨o,c,e,hs⟩
 ·cases e;rfl
 ·cases e;simp only[SV.aI,jI,hr]
section
variable {P:Program} [Tables P] {s:AS} {m:Nat} {sa:AS→Prop}
theorem Bp {n:Nat} {a b:Code} {F:Exit→AS→Prop}:l9 P m sa (n+1) (.seq a b) F s=qj P a (fL (l9 P m sa n b F) F) s:=rfl
theorem Pm {c:Code} {F:Exit→AS→Prop}:vcL P m [] c F s=qj P c F s:=rfl
theorem gU {c:Code}:nC 0 c=c:=rfl
theorem gV {n:Nat} {a b:Code}:nC (n+1) (.seq a b)=nC n b:=rfl
end
theorem Tn:type_of% @Bp∧type_of% @Pm∧type_of% @gU∧type_of% @gV:=
 ⟨@Bp, @Pm, @gU, @gV⟩
end Go.bU
