/-
  The calculus: loops. Nothing here speaks of a program.
-/
import Derived.Test.YtbipdofobgabhaaGreatDoorVcgE
set_option linter.unusedVariables false
set_option linter.unusedSimpArgs false
namespace Go.bA
set_option linter.unusedSectionVars false
def lk {α:Type} (l:List (Nat×α)) (x:Nat):Option α:=match l with
 | []=>none
 | (k,v)::r=>if x=k then some v else lk r x
theorem Qo {α:Type} (x:Nat):lk ([]:List (Nat×α)) x=none:=rfl
theorem LO {α:Type} (k:Nat) (v:α) (r:List (Nat×α)) (x:Nat):lk ((k,v)::r) x=if x=k then some v else lk r x:=rfl
theorem bC {α:Type}: ∀ (l:List (Nat×α)) (x:Nat) (v:α),lk l x=some v→(x,v) ∈ l
 | [],x,v,h=>by simp[lk]at h
 | (k,u)::r,x,v,h=>by
  simp only[lk]at h
  split at h
  ·rename_i e;simp only[Option.some.injEq]at h;subst e h;simp
  ·exact List.mem_cons_of_mem _ (bC r x v h)
def yi (env:List (Nat×AV)) (box:List (Nat×aI)) (next:Nat):AS:=⟨lk env,lk box,next⟩
theorem ml (env:List (Nat×AV)) (box:List (Nat×aI)) (next:Nat):yi env box next=⟨lk env,lk box,next⟩:=rfl
def nw (s:AS) (env:List (Nat×AV)) (box:List (Nat×aI)) (next:Nat):Prop:=
 (∀ p ∈ env,s.env p.1=some p.2∧AV.ok (fun n=>n < next) p.2)∧(∀ p ∈ box,s.box p.1=some p.2∧p.1 < next∧ ∀ x ∈ p.2.cells,SV.ok (fun n=>n < next) x)
theorem AV.qT (v:AV):AV.ren (fun n=>n) v=v:=by
 have h1: ∀ x:SV,SV.ren (fun n=>n) x=x:=SV.qT
 have h1':SV.ren (fun n=>n)=id:=funext h1
 have h2: ∀ x:CV,CV.ren (fun n=>n) x=x:=fun x=>by
  rcases x with x | l
  ·simp[CV.ren,h1]
  ·simp[CV.ren,h1']
 have h2':CV.ren (fun n=>n)=id:=funext h2
 rcases v with x | l
 ·simp[AV.ren,h2]
 ·simp[AV.ren,h2']
theorem nw.eZ {s:AS} {env:List (Nat×AV)} {box:List (Nat×aI)} {next:Nat} (h:nw s env box next):Ue s (yi env box next):=by
 refine ⟨fun d v hv=> ?_,fun n b hb=> ?_,fun n n' b b' _ _ _ e=>e,fun d v hv=> ?_,fun t b hb=> ?_⟩
 ·rw[AV.qT];exact (h.1 _ (bC _ _ _ hv)).1
 ·have h1:(fun x:SV=>SV.ren (fun n=>n) x)=id:=funext SV.qT
  refine ⟨b,(h.2 _ (bC _ _ _ hb)).1,fun x=>x, ?_⟩
  show b.cells=b.cells.map (fun x:SV=>SV.ren (fun n=>n) x)
  rw[h1,List.map_id]
 ·exact (h.1 _ (bC _ _ _ hv)).2
 ·exact (h.2 _ (bC _ _ _ hb)).2
theorem CL {body:(Exit→AS→Prop)→AS→Prop} {F:Exit→AS→Prop} {s:AS} (n:Nat) (env:Nat→List (Nat×AV)) (box:Nat→List (Nat×aI)) (next:Nat)
  (h0:nw s (env 0) (box 0) next) (hmono: ∀ (K K':AS→Prop) t,(∀ s,K s→K' s)→body (gE K F) t→body (gE K' F) t)
  (hstep: ∀ k,k < n→body (gE (fun s'=>nw s' (env (k+1)) (box (k+1)) next) F) (yi (env k) (box k) next))
  (hend:body (gE (fun _=>False) F) (yi (env n) (box n) next)) (hn:s.next≤next):kZ body F s:=by
 refine ⟨{ k:Nat // k≤n },fun k=>yi (env k.1) (box k.1) next,fun k=>n - k.1,⟨0,Nat.zero_le _⟩,⟨_,h0.eZ,fun _ _=>rfl⟩,fun _=>hn,fun k=> ?_⟩
 rcases Nat.lt_or_ge k.1 n with h | h
 ·exact hmono _ _ _ (fun s hs=>⟨⟨k.1+1,h⟩,by show n - (k.1+1) < n - k.1;omega,_,hs.eZ,fun _ _=>rfl⟩) (hstep k.1 h)
 ·have e:k.1=n:=Nat.le_antisymm k.2 h
  exact hmono _ _ _ (fun s hs=>hs.elim) (e▸hend)
section
variable {P:Program} [Tables P] {W:Nat→Prop} {N:Nat} {w0:Base P} {g:Where} {s:AS} {a:Act} {w:World}
theorem yj {ops:Array Oper} {base:Nat} {K K':AS→Prop} (h: ∀ s,K s→K' s): ∀ (l:List Oper) (i:Nat) (s:AS),lV P ops base l i K s→lV P ops base l i K' s
 | [],_,_,hv=>h _ hv
 | o::rest,i,s,hv=>by
  unfold lV wK at hv ⊢
  have ih:=fun s hs=>yj (ops:=ops) (base:=base) h rest (i+1) s hs
  cases hg:o.guard with
  | none=>rw[hg]at hv;exact jF ih hv
  | some p=>
   obtain ⟨j,want⟩:=p
   rw[hg]at hv
   simp only[eY]at hv ⊢
   split at hv
   ·exact ⟨fun hw=>jF ih (hv.1 hw),fun hw=>ih _ (hv.2 hw)⟩
   ·exact hv
theorem vZ {ops:Array Oper} {base:Nat} {K K':AS→Prop} (h: ∀ s,K s→K' s): ∀ (l:List Oper) (i:Nat) (s:AS),iE P ops base l i K s→iE P ops base l i K' s
 | [],_,_,hv=>h _ hv
 | _::rest,i,_,hv=>by
  have ih:=fun s hs=>vZ (ops:=ops) (base:=base) h rest (i+1) s hs
  rcases hv with ⟨e,h1,h2⟩ | ⟨hl,D,hD,h2⟩ | ⟨hb,h2⟩
  ·exact .inl ⟨e,h1,ih _ h2⟩
  ·exact .inr (.inl ⟨hl,D,hD,fun e he=>ih _ (h2 e he)⟩)
  ·exact .inr (.inr ⟨hb,uz ih h2⟩)
theorem fa: ∀ (c:Code) (F F':Exit→AS→Prop),(∀ e s,F e s→F' e s)→ ∀ s,vc P c F s→vc P c F' s
 | .skip,_,_,h,s,hv=>h _ _ hv
 | .region _ ops false,_,_,h,s,hv=>yj (h _) _ _ _ hv
 | .region _ ops true,_,_,h,s,hv=>⟨hv.1,vZ (h _) _ _ _ hv.2⟩
 | .seq x y,F,F',h,s,hv=>fa x _ _ (fun e s hs=>by
   cases e with
   | normal=>exact fa y _ _ h s hs
   | _=>exact h _ _ hs) s hv
 | .cond c x y,F,F',h,s,hv=>by
  simp only[vc,ni]at hv ⊢
  split at hv
  ·exact ⟨fun ht=>fa x _ _ h s (hv.1 ht),fun hf=>fa y _ _ h s (hv.2 hf)⟩
  ·exact hv
 | .block id c,F,F',h,s,hv=>fa c _ _ (fun e s hs=>by
   cases e with
   | exit id'=>
    simp only[iD]at hs ⊢
    split
    ·rename_i e;rw[if_pos e]at hs;exact h _ _ hs
    ·rename_i e;rw[if_neg e]at hs;exact h _ _ hs
   | _=>exact h _ _ hs) s hv
 | .loop c,F,F',h,s,hv=>by
  obtain ⟨ι,st,μ,i₀,h0,TR,hb⟩:=hv
  refine ⟨ι,st,μ,i₀,h0,TR,fun i=>fa c _ _ (fun e s hs=> ?_) _ (hb i)⟩
  cases e with
  | normal=>exact hs
  | _=>exact h _ _ hs
 | .exit id,_,_,h,s,hv=>h _ _ hv
 | .ret,_,_,h,s,hv=>h _ _ hv
 | .rangeFunc .., _,_,_,_,hv=>hv.elim
 | .scope _,_,_,_,_,hv=>hv.elim
 | .label _,_,_,_,_,hv=>hv.elim
 | .goto _,_,_,_,_,hv=>hv.elim
 | .refuse _,_,_,_,_,hv=>hv.elim
theorem aQ {c:Code} {F:Exit→AS→Prop} {s:AS} (n:Nat) (env:Nat→List (Nat×AV)) (box:Nat→List (Nat×aI)) (next:Nat)
  (h0:nw s (env 0) (box 0) next)
  (hstep: ∀ k,k < n→vc P c (gE (fun s'=>nw s' (env (k+1)) (box (k+1)) next) F) (yi (env k) (box k) next))
  (hend:vc P c (gE (fun _=>False) F) (yi (env n) (box n) next)) (hn:s.next≤next:=by first | exact Nat.le_refl _ | decide | simp):kZ (vc P c) F s:=
 CL n env box next h0 (fun K K' t h hv=>fa c _ _ (fun e s hs=>by
  cases e with
  | normal=>exact h s hs
  | _=>exact hs) t hv) hstep hend hn
end
theorem Bn {s:AS} {env:List (Nat×AV)} {box:List (Nat×aI)} {next:Nat}:nw s env box next=
  ((∀ p ∈ env,s.env p.1=some p.2∧AV.ok (fun n=>n < next) p.2)∧(∀ p ∈ box,s.box p.1=some p.2∧p.1 < next∧ ∀ x ∈ p.2.cells,SV.ok (fun n=>n < next) x)):=rfl
theorem ok_int {M:Nat→Prop} {k:IntKind} {x:Int}:AV.ok M (I k x)=True:=rfl
theorem Qp {M:Nat→Prop} {t o:Nat}:AV.ok M (Ptr t o)=M t:=rfl
theorem Wc {M:Nat→Prop} {t o n c:Nat}:AV.ok M (Sl t o n c)=M t:=rfl
theorem Wd {M:Nat→Prop} {l:List SV}:AV.ok M (Ag l)= ∀ x ∈ l,SV.ok M x:=rfl
theorem LP {M:Nat→Prop} {k:IntKind} {x:Int}:SV.ok M (Sum.inl (.int k x))=True:=by simp[SV.ok,SV.names,SV.one,Value.oneCell']
theorem eG {M:Nat→Prop} {k:IntKind} {n:Nat} {f:Nat→Int}:(∀ x ∈ ah k n f,SV.ok M x)=True:=by
 rw[eq_iff_iff]
 refine ⟨fun _=>trivial,fun _ x hx=>SV.aM (List.all_eq_true.1 (ld k n f) x hx)⟩
theorem FA {α:Type} {p:α→Prop}:(∀ x ∈ ([]:List α),p x)=True:=by simp
theorem Bo {α:Type} {p:α→Prop} {a:α} {l:List α}:(∀ x ∈ a::l,p x)=(p a∧ ∀ x ∈ l,p x):=by simp
theorem Bp:type_of% @FA∧type_of% @Bo∧type_of% @Qo∧type_of% @LO∧type_of% @ml∧type_of% @Bn∧type_of% @ok_int∧type_of% @Qp∧type_of% @Wc∧type_of% @Wd∧type_of% @LP∧type_of% @eG:=
 ⟨@FA, @Bo, @Qo, @LO, @ml, @Bn, @ok_int, @Qp, @Wc, @Wd, @LP, @eG⟩
end Go.bA
