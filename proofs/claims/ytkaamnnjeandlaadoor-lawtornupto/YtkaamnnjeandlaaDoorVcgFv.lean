/-
  Function values with what they have captured, as rules; slices with a capacity, appended onto themselves, cleared. Nothing here speaks of a program.
-/
import Derived.Test.YtkaamnnjeandlaaDoorVcgK
import Derived.Laws.Small
import Derived.Test.YtkaamnnjeandlaaDoorVcgWj
import Derived.Test.YtkaamnnjeandlaaDoorVcgWm
import Derived.Test.YtkaamnnjeandlaaDoorVcgZ1
set_option linter.unusedVariables false
set_option linter.unusedSectionVars false
set_option linter.unusedSimpArgs false
namespace Go.bM

section
variable {P:Program} [Tables P] {K:AS→Prop} {s:AS} {nm:Nat} {dst:Option Nat} {ty:TypeId} {pos:String} {after:Array Edge} {gd:Option (Nat×Bool)}
theorem zI {f:Nat} {l:List Operand}:bK P nm ⟨dst, .makeFunc (.func f) #[] l.toArray,ty,pos,after,gd⟩ K s=bH (nQ f (lr s l)) nm dst K s:=rfl
theorem zJ:lr s []=some []:=rfl
theorem wi {x:Operand} {r:List Operand}:lr s (x::r)=G2 (Oj (s.aK x)) (lr s r):=rfl
theorem Mz {t o:Nat}:Oj (some (Ptr t o))=some (.pointer (some ⟨t,o,none⟩)):=rfl
theorem wj {v:Value} {l:List Value}:G2 (some v) (some l)=some (v::l):=rfl
theorem DM {f:Nat} {l:List Value}:nQ f (some l)=some (some (V (.func (.func f) #[] ⟨l⟩)),none):=rfl
theorem zK {d:Nat} {xs:List Operand} {tys:Array TypeId}:bK P nm ⟨dst, .call ⟨.value (.tmp d),xs.toArray,tys⟩,ty,pos,after,gd⟩ K s=Fp P nm (s.env d) (bb s xs) dst K s:=rfl
theorem Ie {f:Nat} {l:List Value} {xs:Option (List AV)}:Fp P nm (some (V (.func (.func f) #[] ⟨l⟩))) xs dst K s=(au P f=true∧aB P nm f (uN xs (kB l)) dst K s):=rfl
theorem zM:kB []=some []:=rfl
theorem wk {x:Value} {r:List Value}:kB (x::r)=G4 (Ou x) (kB r):=rfl
theorem MA {b o:Nat}:Ou (.pointer (some ⟨b,o,none⟩))=some (Ptr b o):=rfl
theorem wm {v:AV} {l:List AV}:G4 (some v) (some l)=some (v::l):=rfl
theorem zN {l m:List AV}:uN (some l) (some m)=some (l++m):=rfl
theorem wo {xs:List Operand} {tys:Array TypeId}:bK P nm ⟨dst, .call ⟨.builtin .max,xs.toArray,tys⟩,ty,pos,after,gd⟩ K s=
  bU P nm .max tys ty (xs.toArray.map isConst) (bb s xs) dst K s:=rfl
theorem wu:type_of% @zI∧type_of% @zJ∧type_of% @wi∧type_of% @Mz∧type_of% @wj∧type_of% @DM∧type_of% @zK∧type_of% @Ie∧type_of% @zM∧type_of% @wk∧type_of% @MA∧type_of% @wm∧type_of% @zN:=
 ⟨@zI, @zJ, @wi, @Mz, @wj, @DM, @zK, @Ie, @zM, @wk, @MA, @wm, @zN⟩
theorem RF {tys:Array TypeId} {ct:Array Bool} {k k':IntKind} {x y:Int} (hK:K (s.put dst (some (I k (if y > x then y else x))))):bU P nm .max tys ty ct (some [I k x,I k' y]) dst K s:=by
 intro W N w0 g a w h
 refine ⟨I k (if y > x then y else x),g,s,w, ?_,trivial,h.mono (fun n hn=>by omega),hK⟩
 simp only[builtin,List.map_cons,List.map_nil,Sem.run_bind]
 show (((Builtin.max_ tys ty #[.int k x, .int k' y]).run P w).andThen fun a w'=>(pure (Next.value a):Sem Next).run P w')=_
 rw[run_max_int2]
 rfl
end
section
variable {P:Program} [Tables P] {K:AS→Prop} {s:AS} {nm:Nat} {dst:Option Nat} {ty:TypeId} {pos:String} {after:Array Edge}
theorem tG {t n:Nat} {l:List (Nat×Operand)}:ri P nm (some ⟨dst, .buildSlice t n l.toArray,ty,pos,after,none⟩) K s=bH (fC nm (qU P t) n s l) nm dst K s:=rfl
theorem wv {d:Nat} {xs:Array Operand} {tys:Array TypeId}:ri P nm (some ⟨dst, .call ⟨.value (.tmp d),xs,tys⟩,ty,pos,after,none⟩) K s=DA P nm (s.env d) (bb s xs.toList) dst K s:=rfl
theorem DN {f:Nat} {l:List Value} {xs:Option (List AV)}:DA P nm (some (V (.func (.func f) #[] ⟨l⟩))) xs dst K s=(au P f=true∧bD P nm f (uN xs (kB l)) dst K s):=rfl
theorem rk {f:Nat} {xs:Option (List AV)} {K':AS→Prop} (h: ∀ s,K s→K' s) (hv:bD P nm f xs dst K s):bD P nm f xs dst K' s:=by
 cases xs with
 | none=>exact hv.elim
 | some l=>
  intro W N w0 g a w hr
  refine (hv W N w0 g a w hr).mono ?_
  rintro e w' ⟨v,g',bx,h1,h2,h3,h4,hk⟩
  exact ⟨v,g',bx,h1,h2,h3,h4,h _ hk⟩
theorem DP {o:Oper} {K':AS→Prop} (h: ∀ s,K s→K' s) (hv:jI P nm o K s):jI P nm o K' s:=by
 obtain ⟨dst,op,type,pos,after,guard⟩:=o
 unfold jI at hv ⊢
 simp only at hv ⊢
 split at hv
 ·split at hv
  ·rename_i h1;rw[if_pos h1];exact rk h hv
  ·rename_i h1;rw[if_neg h1];exact uR h hv
 ·unfold DA at hv ⊢
  split at hv
  ·exact ⟨hv.1,rk h hv.2⟩
  ·exact hv.elim
 ·unfold pU at hv ⊢
  split at hv
  ·exact hv.elim
  ·intro W N w0 g a w hr
   obtain ⟨v,g',bx,w',h1,h2,h3,h4,hk⟩:=hv W N w0 g a w hr
   exact ⟨v,g',bx,w',h1,h2,h3,h4,h _ hk⟩
 ·exact jd h hv
theorem gw {ops:Array Oper} {base:Nat} {K':AS→Prop} (h: ∀ s,K s→K' s): ∀ (l:List Nat) (k:Nat) (s:AS),cm P ops base K l k s→cm P ops base K' l k s
 | [],k,s,hv=>h _ hv
 | i::r,k,s,hv=>by
  unfold cm at hv ⊢
  cases ho:ops[i]? with
  | none=>rw[ho]at hv;exact hv.elim
  | some o=>
   rw[ho]at hv
   exact DP (fun s hs=>gw h r (k+1) s hs) hv
theorem lG {ops:Array Oper} {K':AS→Prop} (h: ∀ s,K s→K' s): ∀ (l:List Nat) (s:AS),gp P ops nm K l s→gp P ops nm K' l s
 | [],s,hv=>h _ hv
 | i::r,s,hv=>by
  unfold gp at hv ⊢
  cases ho:ops[i]? with
  | none=>rw[ho]at hv;exact hv.elim
  | some o=>
   rw[ho]at hv
   exact jd (fun s hs=>lG h r s hs) hv
theorem F0 {ops:Array Oper} {K':AS→Prop} (h: ∀ s,K s→K' s) (hv:tC P ops K s):tC P ops K' s:=by
 obtain ⟨hm,⟨A,R,Z,F,dm,h1,h2,H,hH,hv⟩ | ⟨A,R,Z,F,dm,pm,h1,h2,hb,hv⟩ | ⟨A,R,Z,F,dm,pm,tr,h1,h3,h2,hb,hv⟩⟩:=hv
 ·exact ⟨hm, .inl ⟨A,R,Z,F,dm,h1,h2,H,hH,lG (fun sr hs=>gw h _ _ _ hs) _ _ hv⟩⟩
 ·exact ⟨hm, .inr (.inl ⟨A,R,Z,F,dm,pm,h1,h2,hb,lG (fun sr hs=>gw (fun s1 h1=>gw h _ _ _ h1) _ _ _ hs) _ _ hv⟩)⟩
 ·exact ⟨hm, .inr (.inr ⟨A,R,Z,F,dm,pm,tr,h1,h3,h2,hb,lG (fun sr hs=>gw (fun s1 h1=>gw (fun s2 h2=>og h _ _ _ h2) _ _ _ h1) _ _ _ hs) _ _ hv⟩)⟩
theorem J2 {ops:Array Oper} {K':AS→Prop} (h: ∀ s,K s→K' s) (hv:O6 P ops K s):O6 P ops K' s:=
 ⟨hv.1,gw h _ _ _ hv.2⟩
theorem iI {wd:List Nat}: ∀ (c:Code) (F F':Exit→AS→Prop),(∀ e s,F e s→F' e s)→ ∀ s,mN P wd c F s→mN P wd c F' s
 | .region id ops true,F,F',h,s,hv=>by
  unfold mN at hv ⊢
  split at hv
  ·rename_i e;rw[if_pos e];exact F0 (h .normal) hv
  ·rename_i e;rw[if_neg e];exact iE _ _ _ h s hv
 | .region id ops false,F,F',h,s,hv=>by
  unfold mN at hv ⊢
  split at hv
  ·rename_i e;rw[if_pos e];exact J2 (h .normal) hv
  ·rename_i e;rw[if_neg e];exact fu _ _ _ h s hv
 | .seq x y,F,F',h,s,hv=>iI x _ _ (fun e s hs=>by
   cases e with
   | normal=>exact iI y _ _ h s hs
   | _=>exact h _ _ hs) s hv
 | .cond c x y,F,F',h,s,hv=>by
  unfold mN lN at hv ⊢
  split at hv
  ·exact ⟨fun ht=>iI x _ _ h s (hv.1 ht),fun hf=>iI y _ _ h s (hv.2 hf)⟩
  ·exact hv
 | .block id c,F,F',h,s,hv=>iI c _ _ (fun e s hs=>by
   cases e with
   | exit j=>
    simp only[eD]at hs ⊢
    split at hs
    ·rename_i e;rw[if_pos e];exact h _ _ hs
    ·rename_i e;rw[if_neg e];exact h _ _ hs
   | _=>exact h _ _ hs) s hv
 | .loop c,F,F',h,s,hv=>by
  obtain ⟨ι,st,μ,i₀,h0,uk,hb⟩:=hv
  refine ⟨ι,st,μ,i₀,h0,uk,fun i=>iI c _ _ (fun e s hs=> ?_) _ (hb i)⟩
  cases e with
  | normal=>exact hs
  | _=>exact h _ _ hs
 | .skip,F,F',h,s,hv=>iE .skip _ _ h s hv
 | .exit id,F,F',h,s,hv=>iE (.exit id) _ _ h s hv
 | .ret,F,F',h,s,hv=>iE .ret _ _ h s hv
 | .rangeFunc .., _,_,_,_,hv=>hv.elim
 | .scope _,_,_,_,_,hv=>hv.elim
 | .label _,_,_,_,_,hv=>hv.elim
 | .goto _,_,_,_,_,hv=>hv.elim
 | .refuse _,_,_,_,_,hv=>hv.elim
theorem aq:type_of% @gL∧type_of% @tG∧type_of% @wv∧type_of% @DN:=
 ⟨@gL, @tG, @wv, @DN⟩
end
end Go.bM
