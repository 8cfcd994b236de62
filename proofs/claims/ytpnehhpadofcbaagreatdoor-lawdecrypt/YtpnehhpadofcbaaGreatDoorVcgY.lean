/-
  The calculus: rows drawn in any order within loops; loops over any set of written-out states; entries appended. Nothing here speaks of a program's code.
-/
import Derived.Test.YtpnehhpadofcbaaGreatDoorVcgBr
namespace Go.bU
set_option linter.unusedSectionVars false
set_option linter.unusedSimpArgs false
set_option linter.unusedVariables false
section
variable {P:Program} [Tables P] {W:Nat→Prop} {N:Nat} {w0:iH P} {g:Where} {s:AS} {a:Act} {w:World}
theorem Ez {ops:Array Oper} {nm i:Nat} {K K':AS→Prop} (h: ∀ s,K s→K' s) (hv:zx P ops nm i K s):zx P ops nm i K' s:=by
 unfold zx at hv ⊢
 split at hv
 ·exact xr h hv
 ·exact hv
theorem qH {ops:Array Oper} {base:Nat} {K K':AS→Prop} (h: ∀ s,K s→K' s): ∀ (t:bn) (k:Nat) (s:AS),Da P ops base K t k s→Da P ops base K' t k s
 | .nil,k,s,hv=>h _ hv
 | .cons i t .nil,k,s,hv=>Ez (fun s hs=>qH h t (k+1) s hs) hv
 | .cons i t (.cons j u r),k,s,hv=>⟨Ez (fun s hs=>qH h t (k+1) s hs) hv.1,qH h (.cons j u r) k s hv.2⟩
theorem kg: ∀ (c:Code) (F F':Exit→AS→Prop),(∀ e s,F e s→F' e s)→ ∀ s,qj P c F s→qj P c F' s
 | .region id ops true,F,F',h,s,hv=>by
  simp only[qj]at hv ⊢
  rcases hv with hv | ⟨hm,t,ht,hv⟩
  ·exact .inl (fe _ _ _ h s hv)
  ·exact .inr ⟨hm,t,ht,qH (h _) t 0 s hv⟩
 | .seq x y,F,F',h,s,hv=>kg x _ _ (fun e s hs=>by
   cases e with
   | normal=>exact kg y _ _ h s hs
   | _=>exact h _ _ hs) s hv
 | .cond c x y,F,F',h,s,hv=>by
  simp only[qj,oo]at hv ⊢
  split at hv
  ·exact ⟨fun ht=>kg x _ _ h s (hv.1 ht),fun hf=>kg y _ _ h s (hv.2 hf)⟩
  ·exact hv
 | .block id c,F,F',h,s,hv=>kg c _ _ (fun e s hs=>by
   cases e with
   | exit id'=>
    simp only[jy]at hs ⊢
    split
    ·rename_i e;rw[if_pos e]at hs;exact h _ _ hs
    ·rename_i e;rw[if_neg e]at hs;exact h _ _ hs
   | _=>exact h _ _ hs) s hv
 | .skip,F,F',h,s,hv=>fe _ _ _ h s hv
 | .region id ops false,F,F',h,s,hv=>fe _ _ _ h s hv
 | .loop c,F,F',h,s,hv=>fe (.loop c) _ _ h s hv
 | .exit id,F,F',h,s,hv=>fe (.exit id) _ _ h s hv
 | .ret,F,F',h,s,hv=>fe .ret _ _ h s hv
 | .rangeFunc .., _,_,_,_,hv=>hv.elim
 | .scope _,_,_,_,_,hv=>hv.elim
 | .label _,_,_,_,_,hv=>hv.elim
 | .goto _,_,_,_,_,hv=>hv.elim
 | .refuse _,_,_,_,_,hv=>hv.elim
theorem EA {body:(Exit→AS→Prop)→AS→Prop} {F:Exit→AS→Prop} (hmono: ∀ (K K':AS→Prop) t,(∀ s,K s→K' s)→body (fL K F) t→body (fL K' F) t) (n:Nat) (Inv:Nat→AS→Prop) (hnext: ∀ k t,Inv k t→s.next≤t.next)
  (h0: ∃ t,Inv 0 t∧oU s.next s t) (hstep: ∀ k t,k < n→Inv k t→body (fL (fun s'=> ∃ t',Inv (k+1) t'∧oU s.next s' t') F) t) (hend: ∀ t,Inv n t→body (fL (fun _=>False) F) t):kH body F s:=by
 obtain ⟨t0,xd,Tm⟩:=h0
 refine ⟨{ y:Nat×AS // y.1≤n∧Inv y.1 y.2 },fun y=>y.1.2,fun y=>n - y.1.1,⟨(0,t0),Nat.zero_le _,xd⟩,Tm,fun y=>hnext _ _ y.2.2,fun y=> ?_⟩
 obtain ⟨⟨k,t⟩,h1,h2⟩:=y
 rcases Nat.lt_or_ge k n with h | h
 ·refine hmono _ _ _ (fun s' hs=> ?_) (hstep k t h h2)
  obtain ⟨t',hi,hr⟩:=hs
  exact ⟨⟨(k+1,t'),h,hi⟩,by show n - (k+1) < n - k;omega,hr⟩
 ·have e:k=n:=Nat.le_antisymm h1 h
  subst e
  exact hmono (fun _=>False) _ _ (fun s' hs=>False.elim hs) (hend t h2)
theorem TD {c:Code} {F:Exit→AS→Prop} (n:Nat) (Inv:Nat→AS→Prop) (hnext: ∀ k t,Inv k t→s.next≤t.next)
  (h0: ∃ t,Inv 0 t∧oU s.next s t) (hstep: ∀ k t,k < n→Inv k t→vc P c (fL (fun s'=> ∃ t',Inv (k+1) t'∧oU s.next s' t') F) t) (hend: ∀ t,Inv n t→vc P c (fL (fun _=>False) F) t):kH (vc P c) F s:=
 EA (fun K K' t h hv=>fe c _ _ (fun e s hs=>by
  cases e with
  | normal=>exact h s hs
  | _=>exact hs) t hv) n Inv hnext h0 hstep hend
theorem qI {f:Nat} {fn:Func} {c:Code} (hf:P.funcs[f]? =some fn) (hb:fn.body=some c) {args:List AV} {box:Nat→Option aN} {n:Nat}
  (hlen:args.length≤fn.ntmps) (hlaid:Laid P w) (lB: ∀ b bx,Tables.row P b=some bx→ ¬ W b) (hn:Names (fun k=>k < n) (start args box n)) (hm:fA g (start args box n) w) (hown: ∀ t b,box t=some b→b.rw=true→W (g t).1)
  {Post:AV→AS→Prop} (hv: ∀ (w0:iH P),w0.pn≤n→Sound P W fn.ntmps w0 c (nt P fn.results.toList Post) (start args box n)):
  Calls P f (args.map (AV.aq g)).toArray w fun e w'=> ∃ v g' s',e= .returned (AV.aq g' v)∧Post v s'∧AV.ok (fun k=>k < s'.next) v∧(∀ k,k < n→k < s'.next∧g' k=g k)∧fA g' s' w'∧Names (fun k=>k < s'.next) s'∧
   (∀ t b,s'.box t=some b→b.rw=true→w.heap.size≤(g' t).1∨W (g' t).1)∧Frame W w w':=by
 refine calls_of_wp hf hb ?_
 refine hv ⟨w,n,g,hlaid⟩ (Nat.le_refl n) g _ w _ ⟨?_,rfl, ?_,hn,hm,fun t b hb hrw=>Or.inr (hown t b hb hrw),Frame.refl _ _,fun k hk=>⟨hk,rfl⟩,lB⟩ ?_
 ·simp;omega
 ·intro d v hd
  simp only[start]at hd
  have hlt:d < args.length:=(List.getElem?_eq_some_iff.1 hd).1
  rw[Array.getElem?_append_left (by simpa using hlt)]
  simp[hd]
 ·intro e g' s' a' w' h' hk
  have fin:vB (lA (im P s' fn.results.toList)) Post s'→ ∃ v,(results fn a'.tmps).run P w'= .ok (AV.aq g' v) w'∧Post v s'∧AV.ok (fun k=>k < s'.next) v:=fun hr=>by
   unfold vB at hr
   split at hr
   ·rename_i v hv
    obtain ⟨h1,h2⟩:=mg h' hv
    exact ⟨v,h1,hr,h2⟩
   ·exact hr.elim
  cases e<;>simp only[nt]at hk
  ·obtain ⟨v,h1,h2,h3⟩:=fin hk
   exact ⟨h'.defers,_,h1,v,g',s',rfl,h2,h3,h'.pin,h'.mem,h'.names,h'.own,h'.frame⟩
  ·obtain ⟨v,h1,h2,h3⟩:=fin hk
   exact ⟨h'.defers,_,h1,v,g',s',rfl,h2,h3,h'.pin,h'.mem,h'.names,h'.own,h'.frame⟩
theorem Dd {f:Nat} {fn:Func} {c:Code} (hf:P.funcs[f]? =some fn) (hb:fn.body=some c) {args:List AV} {k:Nat} {ins:Nat→Option aN}
  (hlen:args.length≤fn.ntmps) (hc:ai P f=true) (hargs: ∀ v ∈ args,AV.ok (fun n=>n < k) v) (hall: ∀ n,n < k→ ∃ b,ins n=some b) (kD: ∀ n b,ins n=some b→n < k∧ ∀ x ∈ b.cells,SV.ok (fun n=>n < k) x)
  {Post:AV→(Nat→Option aN)→Prop} (hv: ∀ (W:Nat→Prop) (w0:iH P),w0.pn≤k→Sound P W fn.ntmps w0 c (nt P fn.results.toList (qA k Post)) (start args ins k)):bf P f args k ins Post:=by
 refine ⟨hc,hall,fun n b hb=>(kD n b hb).1,fun W g w hlaid lB hm hown=> ?_⟩
 refine (qI (W:=W) (g:=g) (w:=w) hf hb hlen hlaid lB ⟨fun d v hd=> ?_,fun t b ht=>kD t b ht⟩ ⟨hm.lt,hm.cell,hm.free,hm.sep⟩ hown (hv W)).mono ?_
 ·simp only[start]at hd
  exact hargs v (List.mem_of_getElem? hd)
 ·rintro e w' ⟨v,g',s',rfl,⟨q,v0,out,hq,rfl,LP,hout,hpost⟩,_,Ap,hmem,FL,vC,hfr⟩
  have hr: ∀ n,n < k→kc k q n=n:=fun n hn=>by unfold kc;rw[if_neg (by omega)]
  have hinj: ∀ n n',n < k+1→n' < k+1→kc k q n=kc k q n'→n=n':=fun n n' h1 h2 e=>by
   unfold kc at e
   split at e<;>split at e<;>omega
  refine ⟨v0,out,fun n=>g' (kc k q n),by rw[AV.cz],hpost,fun n hn=> ?_,LP,fun n b hb=> ?_,⟨fun t b hb=> ?_,fun t b hb i v hv=> ?_,fun t b hb hrw i hi=> ?_,fun t t' b b' hb hrw hb' hne=> ?_⟩,fun t b hb hrw=> ?_,hfr⟩
  ·show g' (kc k q n)=_
   rw[hr n hn];exact (Ap n hn).2
  ·obtain ⟨h1,h2,h3,_⟩:=hout n b hb
   exact ⟨h1,h2,h3⟩
  ·obtain ⟨h1,_,_,b',h2,_⟩:=hout t b hb
   exact hmem.lt _ b' h2
  ·obtain ⟨h1,_,_,b',h2,_,h4⟩:=hout t b hb
   have:=hmem.cell _ b' h2 i (SV.aI (kc k q) v) (by rw[h4];simp[hv])
   rw[this,SV.cz]
  ·obtain ⟨h1,_,_,b',h2,h3,h4⟩:=hout t b hb
   exact hmem.free _ b' h2 (h3 hrw) i (by rw[h4];simpa using hi)
  ·obtain ⟨h1,_,_,c1,h2,h3,_⟩:=hout t b hb
   obtain ⟨h1',_,_,c2,h2',_,_⟩:=hout t' b' hb'
   exact hmem.sep _ _ c1 c2 h2 (h3 hrw) h2' (fun e=>hne (hinj _ _ h1 h1' e))
  ·obtain ⟨h1,_,_,b',h2,h3,_⟩:=hout t b hb
   exact vC _ b' h2 (h3 hrw)
end
structure bz (cs:List SV) (o n c:Nat) (f:Nat→En):Prop where
 len:cs.length=o+c*66
 room:n≤c
 plain:cs.all SV.plain=true
 shows:cO cs o n f
theorem bz.row {n c:Nat} {f:Nat→En} {tail:List SV} (hc:n≤c) (hl:tail.length=(c - n)*66) (hp:tail.all SV.plain=true):bz (jm n f++tail) 0 n c f:=
 ⟨by rw[List.length_append,iy,hl, ← Nat.add_mul];congr 1;omega,hc,by rw[List.all_append,tA,hp];rfl,Bs⟩
theorem jD {cs:List SV} {o n:Nat} {f:Nat→En} (h:cO cs o n f): ∀ j u,(jm n f)[j]? =some u→cs[o+j]? =some u:=fun j u hj=>by
 rw[← Jb h]at hj
 rw[List.getElem?_take]at hj
 split at hj
 ·rwa [List.getElem?_drop]at hj
 ·cases hj
theorem EB {n m:Nat} {f g:Nat→En}:jm n f++jm m g=jm (n+m) (fun i=>if i < n then f i else g (i - n)):=by
 induction m with
 | zero=>rw[jm,List.append_nil,Nat.add_zero];exact L9 fun i hi=>by rw[if_pos hi]
 | succ m ih=>rw[jm, ← List.append_assoc,ih, ← Nat.add_assoc,jm,if_neg (by omega),show n+m - n=m by omega]
section
variable {P:Program} [Tables P]
def skZ:List Value:=List.replicate 2 (Value.int IntKind.u32 0)++List.replicate 64 (Value.int IntKind.u8 0)
theorem xG:skZ.all Value.oneCell'=true:=by decide
theorem lG {t tx by':Nat} (hk:qh P t=some (skZ,66,by')) (hx:rZ P tx=some (none,66)) {s:AS} {nm b u o o' n c m c0:Nat} {f g:Nat→En} {rw:Bool} {cs ds:List SV} (hb:s.box b=some ⟨true,cs⟩) (hg:bz cs o n c f) (hb':s.box u=some ⟨rw,ds⟩) (hne:b≠u) (hs:cO ds o' m g)
  (hby:(n+m)*by'≤140737488355328) (h63:n+m≤9223372036854775807) {ty:TypeId} {ct:Array Bool} {dst:Option Nat} {K:AS→Prop}
  (hK: ∀ c' cs',bz cs' 0 (n+m) c' (fun i=>if i < n then f i else g (i - n))→K ((⟨s.env,upd (upd s.box b none) nm (some ⟨true,cs'⟩),s.next⟩:AS).put dst (some (Sl nm 0 (n+m) c')))):
  bQ P nm .append #[t,tx] ty ct (some [Sl b o n c,Sl u o' m c0]) dst K s:=by
 refine jK (olds:=jm n f) (news:=jm m g) (sz:=66) hk hx rfl (by decide) xG hb hg.len hg.room iy (jD hg.shows) hg.plain (.inl ⟨u,o',c0,_,rfl,hb',iy,jD hs,by simpa using hne⟩) h63 hby (fun c' tail h1 h2 h3=> ?_)
 rw[EB]
 exact hK c' _ (bz.row h1 h2 h3)
theorem xH {t tx by':Nat} (hk:qh P t=some (skZ,66,by')) (hx:rZ P tx=some (none,66)) {s:AS} {nm b o n c:Nat} {f:Nat→En} {ad:Option Addr} {cs:List SV} (hb:s.box b=some ⟨true,cs⟩) (hg:bz cs o n c f)
  (hby:n*by'≤140737488355328) (h63:n≤9223372036854775807) {ty:TypeId} {ct:Array Bool} {dst:Option Nat} {K:AS→Prop}
  (hK: ∀ c' cs',bz cs' 0 n c' f→K ((⟨s.env,upd (upd s.box b none) nm (some ⟨true,cs'⟩),s.next⟩:AS).put dst (some (Sl nm 0 n c')))):
  bQ P nm .append #[t,tx] ty ct (some [Sl b o n c,V (.slice ad 0 0)]) dst K s:=by
 refine jK (m:=0) (olds:=jm n f) (news:=[]) (sz:=66) hk hx rfl (by decide) xG hb hg.len hg.room iy (jD hg.shows) hg.plain (.inr ⟨⟨ad,rfl⟩,rfl,rfl⟩) (by omega) (by omega) (fun c' tail h1 h2 h3=> ?_)
 rw[List.append_nil]
 exact hK c' _ (bz.row h1 h2 h3)
end
end Go.bU
