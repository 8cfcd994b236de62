/-
  Function values with what they have captured, as rules; slices with a capacity, appended onto themselves, cleared. Nothing here speaks of a program.
-/
import Derived.Test.YtaeagfdnfjenlaaGreatDoorVcgK
import Derived.Laws.Small
import Derived.Test.YtaeagfdnfjenlaaGreatDoorVcgWj
import Derived.Test.YtaeagfdnfjenlaaGreatDoorVcgWm
import Derived.Test.YtaeagfdnfjenlaaGreatDoorVcgZ1
set_option linter.unusedVariables false
set_option linter.unusedSectionVars false
set_option linter.unusedSimpArgs false
namespace Go.cn

section
variable {P:Program} [Tables P] {K:AS→Prop} {s:AS} {nm:Nat} {dst:Option Nat} {ty:TypeId} {pos:String} {after:Array Edge} {gd:Option (Nat×Bool)}
theorem DW {f:Nat} {l:List Operand}:cw P nm ⟨dst, .makeFunc (.func f) #[] l.toArray,ty,pos,after,gd⟩ K s=bL (qi f (nj s l)) nm dst K s:=rfl
theorem DX:nj s []=some []:=rfl
theorem Al {x:Operand} {r:List Operand}:nj s (x::r)=Ma (U1 (s.aS x)) (nj s r):=rfl
theorem RS {t o:Nat}:U1 (some (Ptr t o))=some (.pointer (some ⟨t,o,none⟩)):=rfl
theorem Am {v:Value} {l:List Value}:Ma (some v) (some l)=some (v::l):=rfl
theorem Ie {f:Nat} {l:List Value}:qi f (some l)=some (some (V (.func (.func f) #[] ⟨l⟩)),none):=rfl
theorem DY {d:Nat} {xs:List Operand} {tys:Array TypeId}:cw P nm ⟨dst, .call ⟨.value (.tmp d),xs.toArray,tys⟩,ty,pos,after,gd⟩ K s=Kj P nm (s.env d) (bq s xs) dst K s:=rfl
theorem Nr {f:Nat} {l:List Value} {xs:Option (List AV)}:Kj P nm (some (V (.func (.func f) #[] ⟨l⟩))) xs dst K s=(ak P f=true∧av P nm f (uC xs (lh l)) dst K s):=rfl
theorem DZ:lh []=some []:=rfl
theorem Ao {x:Value} {r:List Value}:lh (x::r)=Md (U6 x) (lh r):=rfl
theorem RT {b o:Nat}:U6 (.pointer (some ⟨b,o,none⟩))=some (Ptr b o):=rfl
theorem Ap {v:AV} {l:List AV}:Md (some v) (some l)=some (v::l):=rfl
theorem D0 {l m:List AV}:uC (some l) (some m)=some (l++m):=rfl
theorem Aq {xs:List Operand} {tys:Array TypeId}:cw P nm ⟨dst, .call ⟨.builtin .max,xs.toArray,tys⟩,ty,pos,after,gd⟩ K s=
  cp P nm .max tys ty (xs.toArray.map isConst) (bq s xs) dst K s:=rfl
theorem Ar:type_of% @DW∧type_of% @DX∧type_of% @Al∧type_of% @RS∧type_of% @Am∧type_of% @Ie∧type_of% @DY∧type_of% @Nr∧type_of% @DZ∧type_of% @Ao∧type_of% @RT∧type_of% @Ap∧type_of% @D0:=
 ⟨@DW, @DX, @Al, @RS, @Am, @Ie, @DY, @Nr, @DZ, @Ao, @RT, @Ap, @D0⟩
theorem Zk {tys:Array TypeId} {ct:Array Bool} {k k':IntKind} {x y:Int} (hK:K (s.put dst (some (I k (if y > x then y else x))))):cp P nm .max tys ty ct (some [I k x,I k' y]) dst K s:=by
 intro W N w0 g a w h
 refine ⟨I k (if y > x then y else x),g,s,w, ?_,trivial,h.mono (fun n hn=>by omega),hK⟩
 simp only[builtin,List.map_cons,List.map_nil,Sem.run_bind]
 show (((Builtin.max_ tys ty #[.int k x, .int k' y]).run P w).andThen fun a w'=>(pure (Next.value a):Sem Next).run P w')=_
 rw[run_max_int2]
 rfl
end
section
variable {P:Program} [Tables P] {K:AS→Prop} {s:AS} {nm:Nat} {dst:Option Nat} {ty:TypeId} {pos:String} {after:Array Edge}
theorem xH {t n:Nat} {l:List (Nat×Operand)}:sL P nm (some ⟨dst, .buildSlice t n l.toArray,ty,pos,after,none⟩) K s=bL (eZ nm (pT P t) n s l) nm dst K s:=rfl
theorem Au {d:Nat} {xs:Array Operand} {tys:Array TypeId}:sL P nm (some ⟨dst, .call ⟨.value (.tmp d),xs,tys⟩,ty,pos,after,none⟩) K s=HY P nm (s.env d) (bq s xs.toList) dst K s:=rfl
theorem Ig {f:Nat} {l:List Value} {xs:Option (List AV)}:HY P nm (some (V (.func (.func f) #[] ⟨l⟩))) xs dst K s=(ak P f=true∧cq P nm f (uC xs (lh l)) dst K s):=rfl
theorem Ns {b:Builtin} {tys:Array TypeId} {ct:Array Bool} {l:List AV}:jF P nm b tys ty ct (some l) dst K s=fY P nm b tys ty ct l dst K s:=rfl
theorem uQ {f:Nat} {xs:Option (List AV)} {K':AS→Prop} (h: ∀ s,K s→K' s) (hv:cq P nm f xs dst K s):cq P nm f xs dst K' s:=by
 cases xs with
 | none=>exact hv.elim
 | some l=>
  intro W N w0 g a w hr
  refine (hv W N w0 g a w hr).mono ?_
  rintro e w' ⟨v,g',bx,h1,h2,h3,h4,hk⟩
  exact ⟨v,g',bx,h1,h2,h3,h4,h _ hk⟩
theorem Ih {o:Oper} {K':AS→Prop} (h: ∀ s,K s→K' s) (hv:lB P nm o K s):lB P nm o K' s:=by
 obtain ⟨dst,op,type,pos,after,guard⟩:=o
 unfold lB at hv ⊢
 simp only at hv ⊢
 split at hv
 ·split at hv
  ·rename_i h1;rw[if_pos h1];exact uQ h hv
  ·rename_i h1;rw[if_neg h1];exact yX h hv
 ·unfold HY at hv ⊢
  split at hv
  ·exact ⟨hv.1,uQ h hv.2⟩
  ·exact hv.elim
 ·unfold jF at hv ⊢
  split at hv
  ·exact hv.elim
  ·intro W N w0 g a w hr
   obtain ⟨v,g',bx,w',h1,h2,h3,h4,hk⟩:=hv W N w0 g a w hr
   exact ⟨v,g',bx,w',h1,h2,h3,h4,h _ hk⟩
 ·exact kz h hv
theorem iK {ops:Array Oper} {base:Nat} {K':AS→Prop} (h: ∀ s,K s→K' s): ∀ (l:List Nat) (k:Nat) (s:AS),da P ops base K l k s→da P ops base K' l k s
 | [],k,s,hv=>h _ hv
 | i::r,k,s,hv=>by
  unfold da at hv ⊢
  cases ho:ops[i]? with
  | none=>rw[ho]at hv;exact hv.elim
  | some o=>
   rw[ho]at hv
   exact Ih (fun s hs=>iK h r (k+1) s hs) hv
theorem nB {ops:Array Oper} {K':AS→Prop} (h: ∀ s,K s→K' s): ∀ (l:List Nat) (s:AS),ij P ops nm K l s→ij P ops nm K' l s
 | [],s,hv=>h _ hv
 | i::r,s,hv=>by
  unfold ij at hv ⊢
  cases ho:ops[i]? with
  | none=>rw[ho]at hv;exact hv.elim
  | some o=>
   rw[ho]at hv
   exact kz (fun s hs=>nB h r s hs) hv
theorem KT {ops:Array Oper} {K':AS→Prop} (h: ∀ s,K s→K' s) (hv:Ae P ops K s):Ae P ops K' s:=by
 obtain ⟨hm,⟨A,R,Z,F,dm,h1,h2,hv⟩ | ⟨A,R,Z,F,dm,pm,h1,h2,hb,hv⟩ | ⟨A,R,Z,F,dm,pm,tr,h1,h3,h2,hb,hv⟩⟩:=hv
 ·exact ⟨hm, .inl ⟨A,R,Z,F,dm,h1,h2,nB (fun sr hs=>iK h _ _ _ hs) _ _ hv⟩⟩
 ·exact ⟨hm, .inr (.inl ⟨A,R,Z,F,dm,pm,h1,h2,hb,nB (fun sr hs=>iK (fun s1 h1=>iK h _ _ _ h1) _ _ _ hs) _ _ hv⟩)⟩
 ·exact ⟨hm, .inr (.inr ⟨A,R,Z,F,dm,pm,tr,h1,h3,h2,hb,nB (fun sr hs=>iK (fun s1 h1=>iK (fun s2 h2=>qv h _ _ _ h2) _ _ _ h1) _ _ _ hs) _ _ hv⟩)⟩
theorem Py {ops:Array Oper} {K':AS→Prop} (h: ∀ s,K s→K' s) (hv:VA P ops K s):VA P ops K' s:=
 ⟨hv.1,iK h _ _ _ hv.2⟩
theorem j6 {wd:List Nat}: ∀ (c:Code) (F F':Exit→AS→Prop),(∀ e s,F e s→F' e s)→ ∀ s,oh P wd c F s→oh P wd c F' s
 | .region id ops true,F,F',h,s,hv=>by
  unfold oh at hv ⊢
  split at hv
  ·rename_i e;rw[if_pos e];exact KT (h .normal) hv
  ·rename_i e;rw[if_neg e];exact j2 _ _ _ h s hv
 | .region id ops false,F,F',h,s,hv=>by
  unfold oh at hv ⊢
  split at hv
  ·rename_i e;rw[if_pos e];exact Py (h .normal) hv
  ·rename_i e;rw[if_neg e];exact gv _ _ _ h s hv
 | .seq x y,F,F',h,s,hv=>j6 x _ _ (fun e s hs=>by
   cases e with
   | normal=>exact j6 y _ _ h s hs
   | _=>exact h _ _ hs) s hv
 | .cond c x y,F,F',h,s,hv=>by
  unfold oh lM at hv ⊢
  split at hv
  ·exact ⟨fun ht=>j6 x _ _ h s (hv.1 ht),fun hf=>j6 y _ _ h s (hv.2 hf)⟩
  ·exact hv
 | .block id c,F,F',h,s,hv=>j6 c _ _ (fun e s hs=>by
   cases e with
   | exit j=>
    simp only[fh]at hs ⊢
    split at hs
    ·rename_i e;rw[if_pos e];exact h _ _ hs
    ·rename_i e;rw[if_neg e];exact h _ _ hs
   | _=>exact h _ _ hs) s hv
 | .loop c,F,F',h,s,hv=>by
  obtain ⟨ι,st,μ,i₀,h0,rJ,hb⟩:=hv
  refine ⟨ι,st,μ,i₀,h0,rJ,fun i=>j6 c _ _ (fun e s hs=> ?_) _ (hb i)⟩
  cases e with
  | normal=>exact hs
  | _=>exact h _ _ hs
 | .skip,F,F',h,s,hv=>j2 .skip _ _ h s hv
 | .exit id,F,F',h,s,hv=>j2 (.exit id) _ _ h s hv
 | .ret,F,F',h,s,hv=>j2 .ret _ _ h s hv
 | .rangeFunc .., _,_,_,_,hv=>hv.elim
 | .scope _,_,_,_,_,hv=>hv.elim
 | .label _,_,_,_,_,hv=>hv.elim
 | .goto _,_,_,_,_,hv=>hv.elim
 | .refuse _,_,_,_,_,hv=>hv.elim
theorem ay:type_of% @jg∧type_of% @xH∧type_of% @Au∧type_of% @Ig∧type_of% @Ns:=
 ⟨@jg, @xH, @Au, @Ig, @Ns⟩
end
end Go.cn
