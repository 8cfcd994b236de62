/-
  The calculus: rows drawn in any order within loops; loops over any set of written-out states; entries appended. Nothing here speaks of a program's code.
-/
import Derived.Test.YtbipdofobgabhaaGreatDoorVcgBr
namespace Go.bA
set_option linter.unusedSectionVars false
set_option linter.unusedSimpArgs false
set_option linter.unusedVariables false
section
variable {P:Program} [Tables P] {W:Nat→Prop} {N:Nat} {w0:Base P} {g:Where} {s:AS} {a:Act} {w:World}
theorem BA {ops:Array Oper} {nm i:Nat} {K K':AS→Prop} (h: ∀ s,K s→K' s) (hv:wN P ops nm i K s):wN P ops nm i K' s:=by
 unfold wN at hv ⊢
 split at hv
 ·exact uz h hv
 ·exact hv
theorem oZ {ops:Array Oper} {base:Nat} {K K':AS→Prop} (h: ∀ s,K s→K' s): ∀ (t:aT) (k:Nat) (s:AS),zR P ops base K t k s→zR P ops base K' t k s
 | .nil,k,s,hv=>h _ hv
 | .cons i t .nil,k,s,hv=>BA (fun s hs=>oZ h t (k+1) s hs) hv
 | .cons i t (.cons j u r),k,s,hv=>⟨BA (fun s hs=>oZ h t (k+1) s hs) hv.1,oZ h (.cons j u r) k s hv.2⟩
theorem jf: ∀ (c:Code) (F F':Exit→AS→Prop),(∀ e s,F e s→F' e s)→ ∀ s,qE P c F s→qE P c F' s
 | .region id ops true,F,F',h,s,hv=>by
  simp only[qE]at hv ⊢
  rcases hv with hv | ⟨hm,t,ht,hv⟩
  ·exact .inl (fa _ _ _ h s hv)
  ·exact .inr ⟨hm,t,ht,oZ (h _) t 0 s hv⟩
 | .seq x y,F,F',h,s,hv=>jf x _ _ (fun e s hs=>by
   cases e with
   | normal=>exact jf y _ _ h s hs
   | _=>exact h _ _ hs) s hv
 | .cond c x y,F,F',h,s,hv=>by
  simp only[qE,ni]at hv ⊢
  split at hv
  ·exact ⟨fun ht=>jf x _ _ h s (hv.1 ht),fun hf=>jf y _ _ h s (hv.2 hf)⟩
  ·exact hv
 | .block id c,F,F',h,s,hv=>jf c _ _ (fun e s hs=>by
   cases e with
   | exit id'=>
    simp only[iD]at hs ⊢
    split
    ·rename_i e;rw[if_pos e]at hs;exact h _ _ hs
    ·rename_i e;rw[if_neg e]at hs;exact h _ _ hs
   | _=>exact h _ _ hs) s hv
 | .skip,F,F',h,s,hv=>fa _ _ _ h s hv
 | .region id ops false,F,F',h,s,hv=>fa _ _ _ h s hv
 | .loop c,F,F',h,s,hv=>fa (.loop c) _ _ h s hv
 | .exit id,F,F',h,s,hv=>fa (.exit id) _ _ h s hv
 | .ret,F,F',h,s,hv=>fa .ret _ _ h s hv
 | .rangeFunc .., _,_,_,_,hv=>hv.elim
 | .scope _,_,_,_,_,hv=>hv.elim
 | .label _,_,_,_,_,hv=>hv.elim
 | .goto _,_,_,_,_,hv=>hv.elim
 | .refuse _,_,_,_,_,hv=>hv.elim
theorem N9 {body:(Exit→AS→Prop)→AS→Prop} {F:Exit→AS→Prop} (hmono: ∀ (K K':AS→Prop) t,(∀ s,K s→K' s)→body (gE K F) t→body (gE K' F) t) (n:Nat) (Inv:Nat→AS→Prop) (hnext: ∀ k t,Inv k t→s.next≤t.next)
  (h0: ∃ t,Inv 0 t∧mh s.next s t) (hstep: ∀ k t,k < n→Inv k t→body (gE (fun s'=> ∃ t',Inv (k+1) t'∧mh s.next s' t') F) t) (hend: ∀ t,Inv n t→body (gE (fun _=>False) F) t):kZ body F s:=by
 obtain ⟨t0,hi0,hr0⟩:=h0
 refine ⟨{ y:Nat×AS // y.1≤n∧Inv y.1 y.2 },fun y=>y.1.2,fun y=>n - y.1.1,⟨(0,t0),Nat.zero_le _,hi0⟩,hr0,fun y=>hnext _ _ y.2.2,fun y=> ?_⟩
 obtain ⟨⟨k,t⟩,h1,h2⟩:=y
 rcases Nat.lt_or_ge k n with h | h
 ·refine hmono _ _ _ (fun s' hs=> ?_) (hstep k t h h2)
  obtain ⟨t',hi,hr⟩:=hs
  exact ⟨⟨(k+1,t'),h,hi⟩,by show n - (k+1) < n - k;omega,hr⟩
 ·have e:k=n:=Nat.le_antisymm h1 h
  subst e
  exact hmono (fun _=>False) _ _ (fun s' hs=>False.elim hs) (hend t h2)
theorem o6 {f:Nat} {fn:Func} {c:Code} (hf:P.funcs[f]? =some fn) (hb:fn.body=some c) {args:List AV} {box:Nat→Option aI} {n:Nat}
  (hlen:args.length≤fn.ntmps) (hlaid:Laid P w) (mM: ∀ b bx,Tables.row P b=some bx→ ¬ W b) (hn:Names (fun k=>k < n) (start args box n)) (hm:fq g (start args box n) w) (hown: ∀ t b,box t=some b→b.rw=true→W (g t).1)
  {Post:AV→AS→Prop} (hv: ∀ (w0:Base P),w0.pn≤n→Sound P W fn.ntmps w0 c (mL P fn.results.toList Post) (start args box n)):
  Calls P f (args.map (AV.aq g)).toArray w fun e w'=> ∃ v g' s',e= .returned (AV.aq g' v)∧Post v s'∧AV.ok (fun k=>k < s'.next) v∧(∀ k,k < n→k < s'.next∧g' k=g k)∧fq g' s' w'∧Names (fun k=>k < s'.next) s'∧
   (∀ t b,s'.box t=some b→b.rw=true→w.heap.size≤(g' t).1∨W (g' t).1)∧Frame W w w':=by
 refine calls_of_wp hf hb ?_
 refine hv ⟨w,n,g,hlaid⟩ (Nat.le_refl n) g _ w _ ⟨?_,rfl, ?_,hn,hm,fun t b hb hrw=>Or.inr (hown t b hb hrw),Frame.refl _ _,fun k hk=>⟨hk,rfl⟩,mM⟩ ?_
 ·simp;omega
 ·intro d v hd
  simp only[start]at hd
  have hlt:d < args.length:=(List.getElem?_eq_some_iff.1 hd).1
  rw[Array.getElem?_append_left (by simpa using hlt)]
  simp[hd]
 ·intro e g' s' a' w' h' hk
  have fin:wM (kC (g8 P s' fn.results.toList)) Post s'→ ∃ v,(results fn a'.tmps).run P w'= .ok (AV.aq g' v) w'∧Post v s'∧AV.ok (fun k=>k < s'.next) v:=fun hr=>by
   unfold wM at hr
   split at hr
   ·rename_i v hv
    obtain ⟨h1,h2⟩:=nu h' hv
    exact ⟨v,h1,hr,h2⟩
   ·exact hr.elim
  cases e<;>simp only[mL]at hk
  ·obtain ⟨v,h1,h2,h3⟩:=fin hk
   exact ⟨h'.defers,_,h1,v,g',s',rfl,h2,h3,h'.pin,h'.mem,h'.names,h'.own,h'.frame⟩
  ·obtain ⟨v,h1,h2,h3⟩:=fin hk
   exact ⟨h'.defers,_,h1,v,g',s',rfl,h2,h3,h'.pin,h'.mem,h'.names,h'.own,h'.frame⟩
theorem zS {f:Nat} {fn:Func} {c:Code} (hf:P.funcs[f]? =some fn) (hb:fn.body=some c) {args:List AV} {k:Nat} {ins:Nat→Option aI}
  (hlen:args.length≤fn.ntmps) (hc:au P f=true) (hargs: ∀ v ∈ args,AV.ok (fun n=>n < k) v) (hall: ∀ n,n < k→ ∃ b,ins n=some b) (dw: ∀ n b,ins n=some b→n < k∧ ∀ x ∈ b.cells,SV.ok (fun n=>n < k) x)
  {Post:AV→(Nat→Option aI)→Prop} (hv: ∀ (W:Nat→Prop) (w0:Base P),w0.pn≤k→Sound P W fn.ntmps w0 c (mL P fn.results.toList (sV k Post)) (start args ins k)):bz P f args k ins Post:=by
 refine ⟨hc,hall,fun n b hb=>(dw n b hb).1,fun W g w hlaid mM hm hown=> ?_⟩
 refine (o6 (W:=W) (g:=g) (w:=w) hf hb hlen hlaid mM ⟨fun d v hd=> ?_,fun t b ht=>dw t b ht⟩ ⟨hm.lt,hm.cell,hm.free,hm.sep⟩ hown (hv W)).mono ?_
 ·simp only[start]at hd
  exact hargs v (List.mem_of_getElem? hd)
 ·rintro e w' ⟨v,g',s',rfl,⟨q,v0,out,hq,rfl,Uk,hout,hpost⟩,_,CJ,hmem,IY,yk,hfr⟩
  have hr: ∀ n,n < k→lM k q n=n:=fun n hn=>by unfold lM;rw[if_neg (by omega)]
  have hinj: ∀ n n',n < k+1→n' < k+1→lM k q n=lM k q n'→n=n':=fun n n' h1 h2 e=>by
   unfold lM at e
   split at e<;>split at e<;>omega
  refine ⟨v0,out,fun n=>g' (lM k q n),by rw[AV.bT],hpost,fun n hn=> ?_,Uk,fun n b hb=> ?_,⟨fun t b hb=> ?_,fun t b hb i v hv=> ?_,fun t b hb hrw i hi=> ?_,fun t t' b b' hb hrw hb' hne=> ?_⟩,fun t b hb hrw=> ?_,hfr⟩
  ·show g' (lM k q n)=_
   rw[hr n hn];exact (CJ n hn).2
  ·obtain ⟨h1,h2,h3,_⟩:=hout n b hb
   exact ⟨h1,h2,h3⟩
  ·obtain ⟨h1,_,_,b',h2,_⟩:=hout t b hb
   exact hmem.lt _ b' h2
  ·obtain ⟨h1,_,_,b',h2,_,h4⟩:=hout t b hb
   have:=hmem.cell _ b' h2 i (SV.ren (lM k q) v) (by rw[h4];simp[hv])
   rw[this,SV.bT]
  ·obtain ⟨h1,_,_,b',h2,h3,h4⟩:=hout t b hb
   exact hmem.free _ b' h2 (h3 hrw) i (by rw[h4];simpa using hi)
  ·obtain ⟨h1,_,_,c1,h2,h3,_⟩:=hout t b hb
   obtain ⟨h1',_,_,c2,h2',_,_⟩:=hout t' b' hb'
   exact hmem.sep _ _ c1 c2 h2 (h3 hrw) h2' (fun e=>hne (hinj _ _ h1 h1' e))
  ·obtain ⟨h1,_,_,b',h2,h3,_⟩:=hout t b hb
   exact yk _ b' h2 (h3 hrw)
end
structure cF (cs:List SV) (o n c:Nat) (f:Nat→En):Prop where
 len:cs.length=o+c*66
 room:n≤c
 plain:cs.all SV.plain=true
 shows:dQ cs o n f
theorem cF.row {n c:Nat} {f:Nat→En} {tail:List SV} (hc:n≤c) (hl:tail.length=(c - n)*66) (hp:tail.all SV.plain=true):cF (jM n f++tail) 0 n c f:=
 ⟨by rw[List.length_append,ll,hl, ← Nat.add_mul];congr 1;omega,hc,by rw[List.all_append,Jh,hp];rfl,Jj⟩
theorem nF {cs:List SV} {o n:Nat} {f:Nat→En} (h:dQ cs o n f): ∀ j u,(jM n f)[j]? =some u→cs[o+j]? =some u:=fun j u hj=>by
 rw[← Gq h]at hj
 rw[List.getElem?_take]at hj
 split at hj
 ·rwa [List.getElem?_drop]at hj
 ·cases hj
theorem Oa {n m:Nat} {f g:Nat→En}:jM n f++jM m g=jM (n+m) (fun i=>if i < n then f i else g (i - n)):=by
 induction m with
 | zero=>rw[jM,List.append_nil,Nat.add_zero];exact Ji fun i hi=>by rw[if_pos hi]
 | succ m ih=>rw[jM, ← List.append_assoc,ih, ← Nat.add_assoc,jM,if_neg (by omega),show n+m - n=m by omega]
section
variable {P:Program} [Tables P]
def skZ:List Value:=List.replicate 2 (Value.int IntKind.u32 0)++List.replicate 64 (Value.int IntKind.u8 0)
theorem C5:skZ.all Value.oneCell'=true:=by decide
end
end Go.bA
