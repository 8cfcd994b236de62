/-
  Steps of a chain that append or call a function value, as rules; entries appended in a chain. Nothing here speaks of a program.
-/
import Derived.Test.YtbipdofobgabhaaGreatDoorVcgWj
import Derived.Test.YtbipdofobgabhaaGreatDoorVcgWm
import Derived.Test.YtbipdofobgabhaaGreatDoorVcgFv
import Derived.Test.YtbipdofobgabhaaGreatDoorVcgY
set_option linter.unusedVariables false
namespace Go.bA
set_option linter.unusedSectionVars false
set_option linter.unusedSimpArgs false
section
variable {P:Program} [Tables P] {K:AS→Prop} {s:AS} {nm:Nat} {dst:Option Nat} {ty:TypeId} {pos:String} {after:Array Edge}
theorem wm {xs:Array Operand} {tys:Array TypeId}:rz P nm (some ⟨dst, .call ⟨.builtin .append,xs,tys⟩,ty,pos,after,none⟩) K s=ln P nm .append tys ty (xs.map isConst) (bk s xs.toList) dst K s:=rfl
theorem wo {t n:Nat} {l:List (Nat×Operand)}:rz P nm (some ⟨dst, .buildSlice t n l.toArray,ty,pos,after,none⟩) K s=bD (eR nm (qQ P t) n s l) nm dst K s:=rfl
theorem Mt {b:Builtin} {tys:Array TypeId} {ct:Array Bool} {l:List AV}:ln P nm b tys ty ct (some l) dst K s=fQ P nm b tys ty ct l dst K s:=rfl
theorem tN {f:Nat} {xs:Option (List AV)} {K':AS→Prop} (h: ∀ s,K s→K' s) (hv:bw P nm f xs dst K s):bw P nm f xs dst K' s:=by
 cases xs with
 | none=>exact hv.elim
 | some l=>
  intro W N w0 g a w hr
  refine (hv W N w0 g a w hr).mono ?_
  rintro e w' ⟨v,g',bx,h1,h2,h3,h4,hk⟩
  exact ⟨v,g',bx,h1,h2,h3,h4,h _ hk⟩
theorem GQ {o:Oper} {K':AS→Prop} (h: ∀ s,K s→K' s) (hv:kv P nm o K s):kv P nm o K' s:=by
 obtain ⟨dst,op,type,pos,after,guard⟩:=o
 unfold kv at hv ⊢
 simp only at hv ⊢
 split at hv
 ·split at hv
  ·rename_i h1;rw[if_pos h1];exact tN h hv
  ·rename_i h1;rw[if_neg h1];exact xB h hv
 ·unfold QY at hv ⊢
  split at hv
  ·exact ⟨hv.1,tN h hv.2⟩
  ·exact hv.elim
 ·unfold ln at hv ⊢
  split at hv
  ·exact hv.elim
  ·intro W N w0 g a w hr
   obtain ⟨v,g',bx,w',h1,h2,h3,h4,hk⟩:=hv W N w0 g a w hr
   exact ⟨v,g',bx,w',h1,h2,h3,h4,h _ hk⟩
 ·exact jF h hv
theorem gM {ops:Array Oper} {base:Nat} {K':AS→Prop} (h: ∀ s,K s→K' s): ∀ (l:List Nat) (k:Nat) (s:AS),cr P ops base K l k s→cr P ops base K' l k s
 | [],k,s,hv=>h _ hv
 | i::r,k,s,hv=>by
  unfold cr at hv ⊢
  cases ho:ops[i]? with
  | none=>rw[ho]at hv;exact hv.elim
  | some o=>
   rw[ho]at hv
   exact GQ (fun s hs=>gM h r (k+1) s hs) hv
theorem lY {ops:Array Oper} {K':AS→Prop} (h: ∀ s,K s→K' s): ∀ (l:List Nat) (s:AS),hY P ops nm K l s→hY P ops nm K' l s
 | [],s,hv=>h _ hv
 | i::r,s,hv=>by
  unfold hY at hv ⊢
  cases ho:ops[i]? with
  | none=>rw[ho]at hv;exact hv.elim
  | some o=>
   rw[ho]at hv
   exact jF (fun s hs=>lY h r s hs) hv
theorem Jz {ops:Array Oper} {K':AS→Prop} (h: ∀ s,K s→K' s) (hv:yK P ops K s):yK P ops K' s:=by
 obtain ⟨hm,⟨A,R,Z,F,dm,h1,h2,hv⟩ | ⟨A,R,Z,F,dm,pm,h1,h2,hb,hv⟩ | ⟨A,R,Z,F,dm,pm,tr,h1,h3,h2,hb,hv⟩⟩:=hv
 ·exact ⟨hm, .inl ⟨A,R,Z,F,dm,h1,h2,lY (fun sr hs=>gM h _ _ _ hs) _ _ hv⟩⟩
 ·exact ⟨hm, .inr (.inl ⟨A,R,Z,F,dm,pm,h1,h2,hb,lY (fun sr hs=>gM (fun s1 h1=>gM h _ _ _ h1) _ _ _ hs) _ _ hv⟩)⟩
 ·exact ⟨hm, .inr (.inr ⟨A,R,Z,F,dm,pm,tr,h1,h3,h2,hb,lY (fun sr hs=>gM (fun s1 h1=>gM (fun s2 h2=>oZ h _ _ _ h2) _ _ _ h1) _ _ _ hs) _ _ hv⟩)⟩
theorem Oi {ops:Array Oper} {K':AS→Prop} (h: ∀ s,K s→K' s) (hv:UG P ops K s):UG P ops K' s:=
 ⟨hv.1,gM h _ _ _ hv.2⟩
theorem lx {wd:List Nat}: ∀ (c:Code) (F F':Exit→AS→Prop),(∀ e s,F e s→F' e s)→ ∀ s,mZ P wd c F s→mZ P wd c F' s
 | .region id ops true,F,F',h,s,hv=>by
  unfold mZ at hv ⊢
  split at hv
  ·rename_i e;rw[if_pos e];exact Jz (h .normal) hv
  ·rename_i e;rw[if_neg e];exact jf _ _ _ h s hv
 | .region id ops false,F,F',h,s,hv=>by
  unfold mZ at hv ⊢
  split at hv
  ·rename_i e;rw[if_pos e];exact Oi (h .normal) hv
  ·rename_i e;rw[if_neg e];exact fa _ _ _ h s hv
 | .seq x y,F,F',h,s,hv=>lx x _ _ (fun e s hs=>by
   cases e with
   | normal=>exact lx y _ _ h s hs
   | _=>exact h _ _ hs) s hv
 | .cond c x y,F,F',h,s,hv=>by
  unfold mZ ni at hv ⊢
  split at hv
  ·exact ⟨fun ht=>lx x _ _ h s (hv.1 ht),fun hf=>lx y _ _ h s (hv.2 hf)⟩
  ·exact hv
 | .block id c,F,F',h,s,hv=>lx c _ _ (fun e s hs=>by
   cases e with
   | exit j=>
    simp only[iD]at hs ⊢
    split at hs
    ·rename_i e;rw[if_pos e];exact h _ _ hs
    ·rename_i e;rw[if_neg e];exact h _ _ hs
   | _=>exact h _ _ hs) s hv
 | .loop c,F,F',h,s,hv=>by
  obtain ⟨ι,st,μ,i₀,h0,TR,hb⟩:=hv
  refine ⟨ι,st,μ,i₀,h0,TR,fun i=>lx c _ _ (fun e s hs=> ?_) _ (hb i)⟩
  cases e with
  | normal=>exact hs
  | _=>exact h _ _ hs
 | .skip,F,F',h,s,hv=>jf .skip _ _ h s hv
 | .exit id,F,F',h,s,hv=>jf (.exit id) _ _ h s hv
 | .ret,F,F',h,s,hv=>jf .ret _ _ h s hv
 | .rangeFunc .., _,_,_,_,hv=>hv.elim
 | .scope _,_,_,_,_,hv=>hv.elim
 | .label _,_,_,_,_,hv=>hv.elim
 | .goto _,_,_,_,_,hv=>hv.elim
 | .refuse _,_,_,_,_,hv=>hv.elim
theorem Dg {wd:List Nat} {c:Code} {F:Exit→AS→Prop} (n:Nat) (Inv:Nat→AS→Prop) (hnext: ∀ k t,Inv k t→s.next≤t.next)
  (h0: ∃ t,Inv 0 t∧mh s.next s t) (hstep: ∀ k t,k < n→Inv k t→mZ P wd c (gE (fun s'=> ∃ t',Inv (k+1) t'∧mh s.next s' t') F) t) (hend: ∀ t,Inv n t→mZ P wd c (gE (fun _=>False) F) t):kZ (mZ P wd c) F s:=
 N9 (fun K K' t h hv=>lx c _ _ (fun e s hs=>by
  cases e with
  | normal=>exact h s hs
  | _=>exact hs) t hv) n Inv hnext h0 hstep hend
theorem bp:type_of% @eO∧type_of% @wm∧type_of% @wo∧type_of% @Mt:=
 ⟨@eO, @wm, @wo, @Mt⟩
theorem JA {t tx kB:Nat} (hk:qQ P t=some (skZ,66,kB)) (hx:sZ P tx=some (none,66)) {u o m c:Nat} {g:Nat→En} {rw:Bool} {cs:List SV} (hb:s.box u=some ⟨rw,cs⟩) (hs:dQ cs o m g) (hm:0 < m) (hby:m*kB≤140737488355328) (h63:m≤9223372036854775807) {ct:Array Bool}
  (hK: ∀ c' cs',cF cs' 0 m c' g→K ((⟨s.env,upd s.box nm (some ⟨true,cs'⟩),s.next⟩:AS).put dst (some (Sl nm 0 m c')))):
  fQ P nm .append #[t,tx] ty ct [V (.slice none 0 0),Sl u o m c] dst K s:=by
 refine lf (news:=jM m g) (sz:=66) hk hx rfl (by decide) C5 (.inl ⟨u,o,c,_,rfl,hb,ll,nF hs,by simp⟩) h63 hby (fun h=>absurd h (by omega)) (fun _ c' tail h1 h2 h3=>hK c' _ (cF.row h1 h2 h3))
theorem uL {t tx kB:Nat} (hk:qQ P t=some (skZ,66,kB)) (hx:sZ P tx=some (none,66)) {b u o o' n c m c0:Nat} {f g:Nat→En} {rw:Bool} {cs ds:List SV} (hb:s.box b=some ⟨true,cs⟩) (hg:cF cs o n c f) (hb':s.box u=some ⟨rw,ds⟩) (hne:b≠u) (hs:dQ ds o' m g)
  (hby:(n+m)*kB≤140737488355328) (h63:n+m≤9223372036854775807) {ct:Array Bool}
  (hK: ∀ c' cs',cF cs' 0 (n+m) c' (fun i=>if i < n then f i else g (i - n))→K ((⟨s.env,upd (upd s.box b none) nm (some ⟨true,cs'⟩),s.next⟩:AS).put dst (some (Sl nm 0 (n+m) c')))):
  fQ P nm .append #[t,tx] ty ct [Sl b o n c,Sl u o' m c0] dst K s:=by
 refine yo (olds:=jM n f) (news:=jM m g) (sz:=66) hk hx rfl (by decide) C5 hb hg.len hg.room ll (nF hg.shows) hg.plain (.inl ⟨u,o',c0,_,rfl,hb',ll,nF hs,by simpa using hne⟩) h63 hby (fun c' tail h1 h2 h3=> ?_)
 rw[Oa]
 exact hK c' _ (cF.row h1 h2 h3)
end
end Go.bA
