/-
  Steps of a chain that append or call a function value, as rules; entries appended in a chain. Nothing here speaks of a program.
-/
import Derived.Test.YtpnehhpadofcbaaGreatDoorVcgWj
import Derived.Test.YtpnehhpadofcbaaGreatDoorVcgWm
import Derived.Test.YtpnehhpadofcbaaGreatDoorVcgFv
import Derived.Test.YtpnehhpadofcbaaGreatDoorVcgY
set_option linter.unusedVariables false
namespace Go.bU
set_option linter.unusedSectionVars false
set_option linter.unusedSimpArgs false
section
variable {P:Program} [Tables P] {K:AS→Prop} {s:AS} {nm:Nat} {dst:Option Nat} {ty:TypeId} {pos:String} {after:Array Edge}
theorem yW {xs:Array Operand} {tys:Array TypeId}:sg P nm (some ⟨dst, .call ⟨.builtin .append,xs,tys⟩,ty,pos,after,none⟩) K s=mP P nm .append tys ty (xs.map isConst) (bD s xs.toList) dst K s:=rfl
theorem yX {t n:Nat} {l:List (Nat×Operand)}:sg P nm (some ⟨dst, .buildSlice t n l.toArray,ty,pos,after,none⟩) K s=bO (fU nm (qh P t) n s l) nm dst K s:=rfl
theorem PF {b:Builtin} {tys:Array TypeId} {ct:Array Bool} {l:List AV}:mP P nm b tys ty ct (some l) dst K s=gS P nm b tys ty ct l dst K s:=rfl
theorem wo {f:Nat} {xs:Option (List AV)} {K':AS→Prop} (h: ∀ s,K s→K' s) (hv:bA P nm f xs dst K s):bA P nm f xs dst K' s:=by
 cases xs with
 | none=>exact hv.elim
 | some l=>
  intro W N w0 g a w hr
  refine (hv W N w0 g a w hr).mono ?_
  rintro e w' ⟨v,g',bx,h1,h2,h3,h4,hk⟩
  exact ⟨v,g',bx,h1,h2,h3,h4,h _ hk⟩
theorem Jv {o:Oper} {K':AS→Prop} (h: ∀ s,K s→K' s) (hv:lT P nm o K s):lT P nm o K' s:=by
 obtain ⟨dst,op,type,pos,after,guard⟩:=o
 unfold lT at hv ⊢
 simp only at hv ⊢
 split at hv
 ·split at hv
  ·rename_i h1;rw[if_pos h1];exact wo h hv
  ·rename_i h1;rw[if_neg h1];exact Ai h hv
 ·unfold TE at hv ⊢
  split at hv
  ·exact ⟨hv.1,wo h hv.2⟩
  ·exact hv.elim
 ·unfold mP at hv ⊢
  split at hv
  ·exact hv.elim
  ·intro W N w0 g a w hr
   obtain ⟨v,g',bx,w',h1,h2,h3,h4,hk⟩:=hv W N w0 g a w hr
   exact ⟨v,g',bx,w',h1,h2,h3,h4,h _ hk⟩
 ·exact kI h hv
theorem iB {ops:Array Oper} {base:Nat} {K':AS→Prop} (h: ∀ s,K s→K' s): ∀ (l:List Nat) (k:Nat) (s:AS),cX P ops base K l k s→cX P ops base K' l k s
 | [],k,s,hv=>h _ hv
 | i::r,k,s,hv=>by
  unfold cX at hv ⊢
  cases ho:ops[i]? with
  | none=>rw[ho]at hv;exact hv.elim
  | some o=>
   rw[ho]at hv
   exact Jv (fun s hs=>iB h r (k+1) s hs) hv
theorem nD {ops:Array Oper} {K':AS→Prop} (h: ∀ s,K s→K' s): ∀ (l:List Nat) (s:AS),iX P ops nm K l s→iX P ops nm K' l s
 | [],s,hv=>h _ hv
 | i::r,s,hv=>by
  unfold iX at hv ⊢
  cases ho:ops[i]? with
  | none=>rw[ho]at hv;exact hv.elim
  | some o=>
   rw[ho]at hv
   exact kI (fun s hs=>nD h r s hs) hv
theorem Ms {ops:Array Oper} {K':AS→Prop} (h: ∀ s,K s→K' s) (hv:BD P ops K s):BD P ops K' s:=by
 obtain ⟨hm,⟨A,R,Z,F,dm,h1,h2,hv⟩ | ⟨A,R,Z,F,dm,pm,h1,h2,hb,hv⟩ | ⟨A,R,Z,F,dm,pm,tr,h1,h3,h2,hb,hv⟩⟩:=hv
 ·exact ⟨hm, .inl ⟨A,R,Z,F,dm,h1,h2,nD (fun sr hs=>iB h _ _ _ hs) _ _ hv⟩⟩
 ·exact ⟨hm, .inr (.inl ⟨A,R,Z,F,dm,pm,h1,h2,hb,nD (fun sr hs=>iB (fun s1 h1=>iB h _ _ _ h1) _ _ _ hs) _ _ hv⟩)⟩
 ·exact ⟨hm, .inr (.inr ⟨A,R,Z,F,dm,pm,tr,h1,h3,h2,hb,nD (fun sr hs=>iB (fun s1 h1=>iB (fun s2 h2=>qH h _ _ _ h2) _ _ _ h1) _ _ _ hs) _ _ hv⟩)⟩
theorem Rc {ops:Array Oper} {K':AS→Prop} (h: ∀ s,K s→K' s) (hv:Wk P ops K s):Wk P ops K' s:=
 ⟨hv.1,iB h _ _ _ hv.2⟩
theorem mV {wd:List Nat}: ∀ (c:Code) (F F':Exit→AS→Prop),(∀ e s,F e s→F' e s)→ ∀ s,oO P wd c F s→oO P wd c F' s
 | .region id ops true,F,F',h,s,hv=>by
  unfold oO at hv ⊢
  split at hv
  ·rename_i e;rw[if_pos e];exact Ms (h .normal) hv
  ·rename_i e;rw[if_neg e];exact kg _ _ _ h s hv
 | .region id ops false,F,F',h,s,hv=>by
  unfold oO at hv ⊢
  split at hv
  ·rename_i e;rw[if_pos e];exact Rc (h .normal) hv
  ·rename_i e;rw[if_neg e];exact fe _ _ _ h s hv
 | .seq x y,F,F',h,s,hv=>mV x _ _ (fun e s hs=>by
   cases e with
   | normal=>exact mV y _ _ h s hs
   | _=>exact h _ _ hs) s hv
 | .cond c x y,F,F',h,s,hv=>by
  unfold oO oo at hv ⊢
  split at hv
  ·exact ⟨fun ht=>mV x _ _ h s (hv.1 ht),fun hf=>mV y _ _ h s (hv.2 hf)⟩
  ·exact hv
 | .block id c,F,F',h,s,hv=>mV c _ _ (fun e s hs=>by
   cases e with
   | exit j=>
    simp only[jy]at hs ⊢
    split at hs
    ·rename_i e;rw[if_pos e];exact h _ _ hs
    ·rename_i e;rw[if_neg e];exact h _ _ hs
   | _=>exact h _ _ hs) s hv
 | .loop c,F,F',h,s,hv=>by
  obtain ⟨ι,st,μ,i₀,h0,VB,hb⟩:=hv
  refine ⟨ι,st,μ,i₀,h0,VB,fun i=>mV c _ _ (fun e s hs=> ?_) _ (hb i)⟩
  cases e with
  | normal=>exact hs
  | _=>exact h _ _ hs
 | .skip,F,F',h,s,hv=>kg .skip _ _ h s hv
 | .exit id,F,F',h,s,hv=>kg (.exit id) _ _ h s hv
 | .ret,F,F',h,s,hv=>kg .ret _ _ h s hv
 | .rangeFunc .., _,_,_,_,hv=>hv.elim
 | .scope _,_,_,_,_,hv=>hv.elim
 | .label _,_,_,_,_,hv=>hv.elim
 | .goto _,_,_,_,_,hv=>hv.elim
 | .refuse _,_,_,_,_,hv=>hv.elim
theorem Gd {wd:List Nat} {c:Code} {F:Exit→AS→Prop} (n:Nat) (Inv:Nat→AS→Prop) (hnext: ∀ k t,Inv k t→s.next≤t.next)
  (h0: ∃ t,Inv 0 t∧oU s.next s t) (hstep: ∀ k t,k < n→Inv k t→oO P wd c (fL (fun s'=> ∃ t',Inv (k+1) t'∧oU s.next s' t') F) t) (hend: ∀ t,Inv n t→oO P wd c (fL (fun _=>False) F) t):kH (oO P wd c) F s:=
 EA (fun K K' t h hv=>mV c _ _ (fun e s hs=>by
  cases e with
  | normal=>exact h s hs
  | _=>exact hs) t hv) n Inv hnext h0 hstep hend
theorem fS:type_of% @cp∧type_of% @yW∧type_of% @yX∧type_of% @PF:=
 ⟨@cp, @yW, @yX, @PF⟩
theorem Mt {t tx by':Nat} (hk:qh P t=some (skZ,66,by')) (hx:rZ P tx=some (none,66)) {u o m c:Nat} {g:Nat→En} {rw:Bool} {cs:List SV} (hb:s.box u=some ⟨rw,cs⟩) (hs:cO cs o m g) (hm:0 < m) (hby:m*by'≤140737488355328) (h63:m≤9223372036854775807) {ct:Array Bool}
  (hK: ∀ c' cs',bz cs' 0 m c' g→K ((⟨s.env,upd s.box nm (some ⟨true,cs'⟩),s.next⟩:AS).put dst (some (Sl nm 0 m c')))):
  gS P nm .append #[t,tx] ty ct [V (.slice none 0 0),Sl u o m c] dst K s:=by
 refine qD (news:=jm m g) (sz:=66) hk hx rfl (by decide) xG (.inl ⟨u,o,c,_,rfl,hb,iy,jD hs,by simp⟩) h63 hby (fun h=>absurd h (by omega)) (fun _ c' tail h1 h2 h3=>hK c' _ (bz.row h1 h2 h3))
theorem xI {t tx by':Nat} (hk:qh P t=some (skZ,66,by')) (hx:rZ P tx=some (none,66)) {b u o o' n c m c0:Nat} {f g:Nat→En} {rw:Bool} {cs ds:List SV} (hb:s.box b=some ⟨true,cs⟩) (hg:bz cs o n c f) (hb':s.box u=some ⟨rw,ds⟩) (hne:b≠u) (hs:cO ds o' m g)
  (hby:(n+m)*by'≤140737488355328) (h63:n+m≤9223372036854775807) {ct:Array Bool}
  (hK: ∀ c' cs',bz cs' 0 (n+m) c' (fun i=>if i < n then f i else g (i - n))→K ((⟨s.env,upd (upd s.box b none) nm (some ⟨true,cs'⟩),s.next⟩:AS).put dst (some (Sl nm 0 (n+m) c')))):
  gS P nm .append #[t,tx] ty ct [Sl b o n c,Sl u o' m c0] dst K s:=by
 refine tm (olds:=jm n f) (news:=jm m g) (sz:=66) hk hx rfl (by decide) xG hb hg.len hg.room iy (jD hg.shows) hg.plain (.inl ⟨u,o',c0,_,rfl,hb',iy,jD hs,by simpa using hne⟩) h63 hby (fun c' tail h1 h2 h3=> ?_)
 rw[EB]
 exact hK c' _ (bz.row h1 h2 h3)
theorem Rd {t tx:Nat} (hk:qh P t=some ([Value.int .u8 0],1,1)) (hx:rZ P tx=some (none,1)) {b o n c m:Nat} {f g:Nat→Int} {cs:List SV} {x:AV} (hb:s.box b=some ⟨true,cs⟩) (hg:bK cs o n c f)
  (hsrc:oy s.box b x m g) (hby:n+m≤140737488355328) {ct:Array Bool}
  (hK: ∀ c' cs',bK cs' 0 (n+m) c' (aP n f g)→K ((⟨s.env,upd (upd s.box b none) nm (some ⟨true,cs'⟩),s.next⟩:AS).put dst (some (Sl nm 0 (n+m) c')))):
  gS P nm .append #[t,tx] ty ct [Sl b o n c,x] dst K s:=by
 have e1: ∀ i,i < n→f i=aP n f g i:=fun i hi=>by simp only[aP,if_pos hi]
 have e2: ∀ i,i < m→g i=aP n f g (n+i):=fun i hi=>by simp only[aP];rw[if_neg (by omega),show n+i - n=i by omega]
 refine tm (olds:=af .u8 n f) (news:=af .u8 m g) hk hx rfl (by decide) rfl hb (by rw[hg.len,Nat.mul_one]) hg.room (by rw[ah,Nat.mul_one]) (fu hg.shows) hg.plain ?_ (by omega) (by omega)
  (fun c' tail h1 h2 h3=>hK c' _ (bK.join e1 e2 h1 h2 h3))
 rcases hsrc with ⟨⟨a,rfl⟩,rfl⟩ | ⟨t',o',c',rw',cs',rfl,h1,h2,h3⟩
 ·exact .inr ⟨⟨_,rfl⟩,rfl,rfl⟩
 ·exact .inl ⟨t',o',c',⟨rw',cs'⟩,rfl,h1,by rw[ah,Nat.mul_one],fu h2,fun e=>h3 (by cases e;rfl)⟩
end
end Go.bU
