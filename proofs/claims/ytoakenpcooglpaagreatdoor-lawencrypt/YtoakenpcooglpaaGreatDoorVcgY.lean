/-
  The calculus: rows drawn in any order within loops; loops over any set of written-out states; entries appended. Nothing here speaks of a program's code.
-/
import Derived.Test.YtoakenpcooglpaaGreatDoorVcgE3
set_option linter.unusedVariables false
set_option linter.unusedSimpArgs false
namespace Go.cA
set_option linter.unusedSectionVars false
section
variable {P:Program} [Tables P] {W:Nat→Prop} {N:Nat} {w0:gF P} {g:bG} {s:AS} {a:Act} {w:World}
theorem VH {body:(Exit→AS→Prop)→AS→Prop} {F:Exit→AS→Prop} (hmono: ∀ (K K':AS→Prop) t,(∀ s,K s→K' s)→body (fi K F) t→body (fi K' F) t) (n:Nat) (Inv:Nat→AS→Prop) (hnext: ∀ k t,Inv k t→s.next≤t.next)
  (h0: ∃ t,Inv 0 t∧wv s.next s t) (hstep: ∀ k t,k < n→Inv k t→body (fi (fun s'=> ∃ t',Inv (k+1) t'∧wv s.next s' t') F) t) (hend: ∀ t,Inv n t→body (fi (fun _=>False) F) t):jJ body F s:=by
 obtain ⟨t0,wH,Zp⟩:=h0
 refine ⟨{ y:Nat×AS // y.1≤n∧Inv y.1 y.2 },fun y=>y.1.2,fun y=>n - y.1.1,⟨(0,t0),Nat.zero_le _,wH⟩,Zp,fun y=>hnext _ _ y.2.2,fun y=> ?_⟩
 obtain ⟨⟨k,t⟩,h1,h2⟩:=y
 rcases Nat.lt_or_ge k n with h | h
 ·refine hmono _ _ _ (fun s' hs=> ?_) (hstep k t h h2)
  obtain ⟨t',hi,hr⟩:=hs
  exact ⟨⟨(k+1,t'),h,hi⟩,by show n - (k+1) < n - k;omega,hr⟩
 ·have e:k=n:=Nat.le_antisymm h1 h
  subst e
  exact hmono (fun _=>False) _ _ (fun s' hs=>False.elim hs) (hend t h2)
theorem ZB {c:Code} {F:Exit→AS→Prop} (n:Nat) (Inv:Nat→AS→Prop) (hnext: ∀ k t,Inv k t→s.next≤t.next)
  (h0: ∃ t,Inv 0 t∧wv s.next s t) (hstep: ∀ k t,k < n→Inv k t→vc P c (fi (fun s'=> ∃ t',Inv (k+1) t'∧wv s.next s' t') F) t) (hend: ∀ t,Inv n t→vc P c (fi (fun _=>False) F) t):jJ (vc P c) F s:=
 VH (fun K K' t h hv=>fU c _ _ (fun e s hs=>by
  cases e with
  | normal=>exact h s hs
  | _=>exact hs) t hv) n Inv hnext h0 hstep hend
theorem nS {f:Nat} {fn:Func} {c:Code} (hf:P.funcs[f]? =some fn) (hb:fn.body=some c) {args:List AV} {box:Nat→Option aW} {n:Nat}
  (hlen:args.length≤fn.ntmps) (hlaid:Laid P w) (ko: ∀ b bx,Tables.row P b=some bx→ ¬ W b) (hn:Names (fun k=>k < n) (start args box n)) (hm:eX g (start args box n) w) (hown: ∀ t b,box t=some b→b.rw=true→W (g t).1)
  {Post:AV→AS→Prop} (hv: ∀ (w0:gF P),w0.pn≤n→Sound P W fn.ntmps w0 c (kY P fn.results.toList Post) (start args box n)):
  Calls P f (args.map (AV.av g)).toArray w fun e w'=> ∃ v g' s',e= .returned (AV.av g' v)∧Post v s'∧AV.ok (fun k=>k < s'.next) v∧(∀ k,k < n→k < s'.next∧g' k=g k)∧eX g' s' w'∧Names (fun k=>k < s'.next) s'∧
   (∀ t b,s'.box t=some b→b.rw=true→w.heap.size≤(g' t).1∨W (g' t).1)∧Frame W w w':=by
 refine calls_of_wp hf hb ?_
 refine hv ⟨w,n,g,hlaid⟩ (Nat.le_refl n) g _ w _ ⟨?_,rfl, ?_,hn,hm,fun t b hb hrw=>Or.inr (hown t b hb hrw),Frame.refl _ _,fun k hk=>⟨hk,rfl⟩,ko⟩ ?_
 ·simp;omega
 ·intro d v hd
  simp only[start]at hd
  have hlt:d < args.length:=(List.getElem?_eq_some_iff.1 hd).1
  rw[Array.getElem?_append_left (by simpa using hlt)]
  simp[hd]
 ·intro e g' s' a' w' h' hk
  have fin:sV (jQ (fZ P s' fn.results.toList)) Post s'→ ∃ v,(results fn a'.tmps).run P w'= .ok (AV.av g' v) w'∧Post v s'∧AV.ok (fun k=>k < s'.next) v:=fun hr=>by
   unfold sV at hr
   split at hr
   ·rename_i v hv
    obtain ⟨h1,h2⟩:=j5 h' hv
    exact ⟨v,h1,hr,h2⟩
   ·exact hr.elim
  cases e<;>simp only[kY]at hk
  ·obtain ⟨v,h1,h2,h3⟩:=fin hk
   exact ⟨h'.defers,_,h1,v,g',s',rfl,h2,h3,h'.kJ,h'.mem,h'.names,h'.own,h'.frame⟩
  ·obtain ⟨v,h1,h2,h3⟩:=fin hk
   exact ⟨h'.defers,_,h1,v,g',s',rfl,h2,h3,h'.kJ,h'.mem,h'.names,h'.own,h'.frame⟩
theorem Cx {f:Nat} {fn:Func} {c:Code} (hf:P.funcs[f]? =some fn) (hb:fn.body=some c) {args:List AV} {k:Nat} {ins:Nat→Option aW}
  (hlen:args.length≤fn.ntmps) (hc:ai P f=true) (hargs: ∀ v ∈ args,AV.ok (fun n=>n < k) v) (hall: ∀ n,n < k→ ∃ b,ins n=some b) (j6: ∀ n b,ins n=some b→n < k∧ ∀ x ∈ b.cells,SV.ok (fun n=>n < k) x)
  {Post:AV→(Nat→Option aW)→Prop} (hv: ∀ (W:Nat→Prop) (w0:gF P),w0.pn≤k→Sound P W fn.ntmps w0 c (kY P fn.results.toList (Ct k Post)) (start args ins k)):bt P f args k ins Post:=by
 refine ⟨hc,hall,fun n b hb=>(j6 n b hb).1,fun W g w hlaid ko hm hown=> ?_⟩
 refine (nS (W:=W) (g:=g) (w:=w) hf hb hlen hlaid ko ⟨fun d v hd=> ?_,fun t b ht=>j6 t b ht⟩ ⟨hm.lt,hm.cell,hm.free,hm.sep⟩ hown (hv W)).mono ?_
 ·simp only[start]at hd
  exact hargs v (List.mem_of_getElem? hd)
 ·rintro e w' ⟨v,g',s',rfl,⟨q,v0,out,hq,rfl,Vs,hout,hpost⟩,_,Gl,hmem,NH,xN,hfr⟩
  have hr: ∀ n,n < k→mH k q n=n:=fun n hn=>by unfold mH;rw[if_neg (by omega)]
  have hinj: ∀ n n',n < k+1→n' < k+1→mH k q n=mH k q n'→n=n':=fun n n' h1 h2 e=>by
   unfold mH at e
   split at e<;>split at e<;>omega
  refine ⟨v0,out,fun n=>g' (mH k q n),by rw[AV.cP],hpost,fun n hn=> ?_,Vs,fun n b hb=> ?_,⟨fun t b hb=> ?_,fun t b hb i v hv=> ?_,fun t b hb hrw i hi=> ?_,fun t t' b b' hb hrw hb' hne=> ?_⟩,fun t b hb hrw=> ?_,hfr⟩
  ·show g' (mH k q n)=_
   rw[hr n hn];exact (Gl n hn).2
  ·obtain ⟨h1,h2,h3,_⟩:=hout n b hb
   exact ⟨h1,h2,h3⟩
  ·obtain ⟨h1,_,_,b',h2,_⟩:=hout t b hb
   exact hmem.lt _ b' h2
  ·obtain ⟨h1,_,_,b',h2,_,h4⟩:=hout t b hb
   have:=hmem.cell _ b' h2 i (SV.bh (mH k q) v) (by rw[h4];simp[hv])
   rw[this,SV.cP]
  ·obtain ⟨h1,_,_,b',h2,h3,h4⟩:=hout t b hb
   exact hmem.free _ b' h2 (h3 hrw) i (by rw[h4];simpa using hi)
  ·obtain ⟨h1,_,_,c1,h2,h3,_⟩:=hout t b hb
   obtain ⟨h1',_,_,c2,h2',_,_⟩:=hout t' b' hb'
   exact hmem.sep _ _ c1 c2 h2 (h3 hrw) h2' (fun e=>hne (hinj _ _ h1 h1' e))
  ·obtain ⟨h1,_,_,b',h2,h3,_⟩:=hout t b hb
   exact xN _ b' h2 (h3 hrw)
end
structure df (cs:List SV) (o n c:Nat) (f:Nat→En):Prop where
 len:cs.length=o+c*66
 room:n≤c
 plain:cs.all SV.plain=true
 ez:dw cs o n f
theorem df.row {n c:Nat} {f:Nat→En} {tail:List SV} (hc:n≤c) (hl:tail.length=(c - n)*66) (hp:tail.all SV.plain=true):df (iG n f++tail) 0 n c f:=
 ⟨by rw[List.length_append,jD,hl, ← Nat.add_mul];congr 1;omega,hc,by rw[List.all_append,qT,hp];rfl,Bb⟩
theorem mr {cs:List SV} {o n:Nat} {f:Nat→En} (h:dw cs o n f): ∀ j u,(iG n f)[j]? =some u→cs[o+j]? =some u:=fun j u hj=>by
 rw[← LO h]at hj
 rw[List.getElem?_take]at hj
 split at hj
 ·rwa [List.getElem?_drop]at hj
 ·cases hj
theorem VI {n m:Nat} {f g:Nat→En}:iG n f++iG m g=iG (n+m) (fun i=>if i < n then f i else g (i - n)):=by
 induction m with
 | zero=>rw[iG,List.append_nil,Nat.add_zero];exact Oo fun i hi=>by rw[if_pos hi]
 | succ m ih=>rw[iG, ← List.append_assoc,ih, ← Nat.add_assoc,iG,if_neg (by omega),show n+m - n=m by omega]
section
variable {P:Program} [Tables P]
def skZ:List Value:=List.replicate 2 (Value.int IntKind.u32 0)++List.replicate 64 (Value.int IntKind.u8 0)
theorem GU:skZ.all Value.oneCell'=true:=by decide
theorem rY {t tx lM:Nat} (hk:ru P t=some (skZ,66,lM)) (hx:ln P tx=some (none,66)) {s:AS} {nm b u o o' n c m c0:Nat} {f g:Nat→En} {rw:Bool} {cs ds:List SV} (hb:s.box b=some ⟨true,cs⟩) (hg:df cs o n c f) (hb':s.box u=some ⟨rw,ds⟩) (hne:b≠u) (hs:dw ds o' m g)
  (hby:(n+m)*lM≤140737488355328) (h63:n+m≤9223372036854775807) {ty:TypeId} {ct:Array Bool} {dst:Option Nat} {K:AS→Prop}
  (hK: ∀ c' cs',df cs' 0 (n+m) c' (fun i=>if i < n then f i else g (i - n))→K ((⟨s.env,upd (upd s.box b none) nm (some ⟨true,cs'⟩),s.next⟩:AS).put dst (some (Sl nm 0 (n+m) c')))):
  cC P nm .append #[t,tx] ty ct (some [Sl b o n c,Sl u o' m c0]) dst K s:=by
 refine hH (olds:=iG n f) (news:=iG m g) (sz:=66) hk hx rfl (by decide) GU hb hg.len hg.room jD (mr hg.ez) hg.plain (.inl ⟨u,o',c0,_,rfl,hb',jD,mr hs,by simpa using hne⟩) h63 hby (fun c' tail h1 h2 h3=> ?_)
 rw[VI]
 exact hK c' _ (df.row h1 h2 h3)
theorem Ft {t tx lM:Nat} (hk:ru P t=some (skZ,66,lM)) (hx:ln P tx=some (none,66)) {s:AS} {nm b o n c:Nat} {f:Nat→En} {ad:Option Addr} {cs:List SV} (hb:s.box b=some ⟨true,cs⟩) (hg:df cs o n c f)
  (hby:n*lM≤140737488355328) (h63:n≤9223372036854775807) {ty:TypeId} {ct:Array Bool} {dst:Option Nat} {K:AS→Prop}
  (hK: ∀ c' cs',df cs' 0 n c' f→K ((⟨s.env,upd (upd s.box b none) nm (some ⟨true,cs'⟩),s.next⟩:AS).put dst (some (Sl nm 0 n c')))):
  cC P nm .append #[t,tx] ty ct (some [Sl b o n c,V (.slice ad 0 0)]) dst K s:=by
 refine hH (m:=0) (olds:=iG n f) (news:=[]) (sz:=66) hk hx rfl (by decide) GU hb hg.len hg.room jD (mr hg.ez) hg.plain (.inr ⟨⟨ad,rfl⟩,rfl,rfl⟩) (by omega) (by omega) (fun c' tail h1 h2 h3=> ?_)
 rw[List.append_nil]
 exact hK c' _ (df.row h1 h2 h3)
end
end Go.cA
