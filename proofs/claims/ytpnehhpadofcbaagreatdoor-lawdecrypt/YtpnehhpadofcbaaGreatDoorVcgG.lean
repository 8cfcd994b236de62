/-
  The calculus: loops. Nothing here speaks of a program.
-/
import Derived.Test.YtpnehhpadofcbaaGreatDoorVcgE
set_option linter.unusedVariables false
set_option linter.unusedSimpArgs false
namespace Go.bU
set_option linter.unusedSectionVars false
def lk {α:Type} (l:List (Nat×α)) (x:Nat):Option α:=match l with
 | []=>none
 | (k,v)::r=>if x=k then some v else lk r x
theorem S2 {α:Type} (x:Nat):lk ([]:List (Nat×α)) x=none:=rfl
theorem O6 {α:Type} (k:Nat) (v:α) (r:List (Nat×α)) (x:Nat):lk ((k,v)::r) x=if x=k then some v else lk r x:=rfl
theorem bu {α:Type}: ∀ (l:List (Nat×α)) (x:Nat) (v:α),lk l x=some v→(x,v) ∈ l
 | [],x,v,h=>by simp[lk]at h
 | (k,u)::r,x,v,h=>by
  simp only[lk]at h
  split at h
  ·rename_i e;simp only[Option.some.injEq]at h;subst e h;simp
  ·exact List.mem_cons_of_mem _ (bu r x v h)
def oZ (env:List (Nat×AV)) (box:List (Nat×aN)) (next:Nat):AS:=⟨lk env,lk box,next⟩
theorem dr (env:List (Nat×AV)) (box:List (Nat×aN)) (next:Nat):oZ env box next=⟨lk env,lk box,next⟩:=rfl
def iq (s:AS) (env:List (Nat×AV)) (box:List (Nat×aN)) (next:Nat):Prop:=
 (∀ p ∈ env,s.env p.1=some p.2∧AV.ok (fun n=>n < next) p.2)∧(∀ p ∈ box,s.box p.1=some p.2∧p.1 < next∧ ∀ x ∈ p.2.cells,SV.ok (fun n=>n < next) x)
theorem AV.xp (v:AV):AV.aI (fun n=>n) v=v:=by
 have h1: ∀ x:SV,SV.aI (fun n=>n) x=x:=SV.xp
 have h1':SV.aI (fun n=>n)=id:=funext h1
 have h2: ∀ x:CV,CV.aI (fun n=>n) x=x:=fun x=>by
  rcases x with x | l
  ·simp[CV.aI,h1]
  ·simp[CV.aI,h1']
 have h2':CV.aI (fun n=>n)=id:=funext h2
 rcases v with x | l
 ·simp[AV.aI,h2]
 ·simp[AV.aI,h2']
theorem iq.dq {s:AS} {env:List (Nat×AV)} {box:List (Nat×aN)} {next:Nat} (h:iq s env box next):VT s (oZ env box next):=by
 refine ⟨fun d v hv=> ?_,fun n b hb=> ?_,fun n n' b b' _ _ _ e=>e,fun d v hv=> ?_,fun t b hb=> ?_⟩
 ·rw[AV.xp];exact (h.1 _ (bu _ _ _ hv)).1
 ·have h1:(fun x:SV=>SV.aI (fun n=>n) x)=id:=funext SV.xp
  refine ⟨b,(h.2 _ (bu _ _ _ hb)).1,fun x=>x, ?_⟩
  show b.cells=b.cells.map (fun x:SV=>SV.aI (fun n=>n) x)
  rw[h1,List.map_id]
 ·exact (h.1 _ (bu _ _ _ hv)).2
 ·exact (h.2 _ (bu _ _ _ hb)).2
theorem FJ {body:(Exit→AS→Prop)→AS→Prop} {F:Exit→AS→Prop} {s:AS} (n:Nat) (env:Nat→List (Nat×AV)) (box:Nat→List (Nat×aN)) (next:Nat)
  (h0:iq s (env 0) (box 0) next) (hmono: ∀ (K K':AS→Prop) t,(∀ s,K s→K' s)→body (fL K F) t→body (fL K' F) t)
  (hstep: ∀ k,k < n→body (fL (fun s'=>iq s' (env (k+1)) (box (k+1)) next) F) (oZ (env k) (box k) next))
  (hend:body (fL (fun _=>False) F) (oZ (env n) (box n) next)) (hn:s.next≤next):kH body F s:=by
 refine ⟨{ k:Nat // k≤n },fun k=>oZ (env k.1) (box k.1) next,fun k=>n - k.1,⟨0,Nat.zero_le _⟩,⟨_,h0.dq,fun _ _=>rfl⟩,fun _=>hn,fun k=> ?_⟩
 rcases Nat.lt_or_ge k.1 n with h | h
 ·exact hmono _ _ _ (fun s hs=>⟨⟨k.1+1,h⟩,by show n - (k.1+1) < n - k.1;omega,_,hs.dq,fun _ _=>rfl⟩) (hstep k.1 h)
 ·have e:k.1=n:=Nat.le_antisymm k.2 h
  exact hmono _ _ _ (fun s hs=>hs.elim) (e▸hend)
section
variable {P:Program} [Tables P] {W:Nat→Prop} {N:Nat} {w0:iH P} {g:Where} {s:AS} {a:Act} {w:World}
theorem AZ {ops:Array Oper} {base:Nat} {K K':AS→Prop} (h: ∀ s,K s→K' s): ∀ (l:List Oper) (i:Nat) (s:AS),nA P ops base l i K s→nA P ops base l i K' s
 | [],_,_,hv=>h _ hv
 | o::rest,i,s,hv=>by
  unfold nA zv at hv ⊢
  have ih:=fun s hs=>AZ (ops:=ops) (base:=base) h rest (i+1) s hs
  cases hg:o.guard with
  | none=>rw[hg]at hv;exact kI ih hv
  | some p=>
   obtain ⟨j,want⟩:=p
   rw[hg]at hv
   simp only[ga]at hv ⊢
   split at hv
   ·exact ⟨fun hw=>kI ih (hv.1 hw),fun hw=>ih _ (hv.2 hw)⟩
   ·exact hv
theorem yN {ops:Array Oper} {base:Nat} {K K':AS→Prop} (h: ∀ s,K s→K' s): ∀ (l:List Oper) (i:Nat) (s:AS),jz P ops base l i K s→jz P ops base l i K' s
 | [],_,_,hv=>h _ hv
 | _::rest,i,_,hv=>by
  have ih:=fun s hs=>yN (ops:=ops) (base:=base) h rest (i+1) s hs
  rcases hv with ⟨e,h1,h2⟩ | ⟨hl,D,hD,h2⟩ | ⟨hb,h2⟩
  ·exact .inl ⟨e,h1,ih _ h2⟩
  ·exact .inr (.inl ⟨hl,D,hD,fun e he=>ih _ (h2 e he)⟩)
  ·exact .inr (.inr ⟨hb,xr ih h2⟩)
theorem fe: ∀ (c:Code) (F F':Exit→AS→Prop),(∀ e s,F e s→F' e s)→ ∀ s,vc P c F s→vc P c F' s
 | .skip,_,_,h,s,hv=>h _ _ hv
 | .region _ ops false,_,_,h,s,hv=>AZ (h _) _ _ _ hv
 | .region _ ops true,_,_,h,s,hv=>⟨hv.1,yN (h _) _ _ _ hv.2⟩
 | .seq x y,F,F',h,s,hv=>fe x _ _ (fun e s hs=>by
   cases e with
   | normal=>exact fe y _ _ h s hs
   | _=>exact h _ _ hs) s hv
 | .cond c x y,F,F',h,s,hv=>by
  simp only[vc,oo]at hv ⊢
  split at hv
  ·exact ⟨fun ht=>fe x _ _ h s (hv.1 ht),fun hf=>fe y _ _ h s (hv.2 hf)⟩
  ·exact hv
 | .block id c,F,F',h,s,hv=>fe c _ _ (fun e s hs=>by
   cases e with
   | exit id'=>
    simp only[jy]at hs ⊢
    split
    ·rename_i e;rw[if_pos e]at hs;exact h _ _ hs
    ·rename_i e;rw[if_neg e]at hs;exact h _ _ hs
   | _=>exact h _ _ hs) s hv
 | .loop c,F,F',h,s,hv=>by
  obtain ⟨ι,st,μ,i₀,h0,VB,hb⟩:=hv
  refine ⟨ι,st,μ,i₀,h0,VB,fun i=>fe c _ _ (fun e s hs=> ?_) _ (hb i)⟩
  cases e with
  | normal=>exact hs
  | _=>exact h _ _ hs
 | .exit id,_,_,h,s,hv=>h _ _ hv
 | .ret,_,_,h,s,hv=>h _ _ hv
 | .rangeFunc .., _,_,_,_,hv=>hv.elim
 | .scope _,_,_,_,_,hv=>hv.elim
 | .label _,_,_,_,_,hv=>hv.elim
 | .goto _,_,_,_,_,hv=>hv.elim
 | .refuse _,_,_,_,_,hv=>hv.elim
theorem aE {c:Code} {F:Exit→AS→Prop} {s:AS} (n:Nat) (env:Nat→List (Nat×AV)) (box:Nat→List (Nat×aN)) (next:Nat)
  (h0:iq s (env 0) (box 0) next)
  (hstep: ∀ k,k < n→vc P c (fL (fun s'=>iq s' (env (k+1)) (box (k+1)) next) F) (oZ (env k) (box k) next))
  (hend:vc P c (fL (fun _=>False) F) (oZ (env n) (box n) next)) (hn:s.next≤next:=by first | exact Nat.le_refl _ | decide | simp):kH (vc P c) F s:=
 FJ n env box next h0 (fun K K' t h hv=>fe c _ _ (fun e s hs=>by
  cases e with
  | normal=>exact h s hs
  | _=>exact hs) t hv) hstep hend hn
end
theorem Eo {s:AS} {env:List (Nat×AV)} {box:List (Nat×aN)} {next:Nat}:iq s env box next=
  ((∀ p ∈ env,s.env p.1=some p.2∧AV.ok (fun n=>n < next) p.2)∧(∀ p ∈ box,s.box p.1=some p.2∧p.1 < next∧ ∀ x ∈ p.2.cells,SV.ok (fun n=>n < next) x)):=rfl
theorem ok_int {M:Nat→Prop} {k:IntKind} {x:Int}:AV.ok M (I k x)=True:=rfl
theorem O7 {M:Nat→Prop} {x:Bool}:AV.ok M (B x)=True:=rfl
theorem FK {M:Nat→Prop} {t o:Nat}:AV.ok M (Ptr t o)=M t:=rfl
theorem O8 {M:Nat→Prop} {t o n c:Nat}:AV.ok M (Sl t o n c)=M t:=rfl
theorem XW {M:Nat→Prop} {l:List SV}:AV.ok M (Ag l)= ∀ x ∈ l,SV.ok M x:=rfl
theorem O9 {M:Nat→Prop} {k:IntKind} {x:Int}:SV.ok M (Sum.inl (.int k x))=True:=by simp[SV.ok,SV.names,SV.one,Value.oneCell']
theorem bW {M:Nat→Prop} {k:IntKind} {n:Nat} {f:Nat→Int}:(∀ x ∈ af k n f,SV.ok M x)=True:=by
 rw[eq_iff_iff]
 refine ⟨fun _=>trivial,fun _ x hx=>SV.bk (List.all_eq_true.1 (mJ k n f) x hx)⟩
theorem Iu {α:Type} {p:α→Prop}:(∀ x ∈ ([]:List α),p x)=True:=by simp
theorem Ep {α:Type} {p:α→Prop} {a:α} {l:List α}:(∀ x ∈ a::l,p x)=(p a∧ ∀ x ∈ l,p x):=by simp
theorem Er:type_of% @Iu∧type_of% @Ep∧type_of% @S2∧type_of% @O6∧type_of% @dr∧type_of% @Eo∧type_of% @ok_int∧type_of% @O7∧type_of% @FK∧type_of% @O8∧type_of% @XW∧type_of% @O9∧type_of% @bW:=
 ⟨@Iu, @Ep, @S2, @O6, @dr, @Eo, @ok_int, @O7, @FK, @O8, @XW, @O9, @bW⟩
end Go.bU
