/-
  The calculus: loops. Nothing here speaks of a program.
-/
import Derived.Test.YtoakenpcooglpaaGreatDoorVcgE
set_option linter.unusedVariables false
set_option linter.unusedSimpArgs false
namespace Go.cA
set_option linter.unusedSectionVars false
def lk {α:Type} (l:List (Nat×α)) (x:Nat):Option α:=match l with
 | []=>none
 | (k,v)::r=>if x=k then some v else lk r x
theorem Xg {α:Type} (x:Nat):lk ([]:List (Nat×α)) x=none:=rfl
theorem Qw {α:Type} (k:Nat) (v:α) (r:List (Nat×α)) (x:Nat):lk ((k,v)::r) x=if x=k then some v else lk r x:=rfl
theorem bq {α:Type}: ∀ (l:List (Nat×α)) (x:Nat) (v:α),lk l x=some v→(x,v) ∈ l
 | [],x,v,h=>by simp[lk]at h
 | (k,u)::r,x,v,h=>by
  simp only[lk]at h
  split at h
  ·rename_i e;simp only[Option.some.injEq]at h;subst e h;simp
  ·exact List.mem_cons_of_mem _ (bq r x v h)
def ou (env:List (Nat×AV)) (box:List (Nat×aW)) (next:Nat):AS:=⟨lk env,lk box,next⟩
theorem fE (env:List (Nat×AV)) (box:List (Nat×aW)) (next:Nat):ou env box next=⟨lk env,lk box,next⟩:=rfl
def ga (s:AS) (env:List (Nat×AV)) (box:List (Nat×aW)) (next:Nat):Prop:=
 (∀ p ∈ env,s.env p.1=some p.2∧AV.ok (fun n=>n < next) p.2)∧(∀ p ∈ box,s.box p.1=some p.2∧p.1 < next∧ ∀ x ∈ p.2.cells,SV.ok (fun n=>n < next) x)
theorem AV.afN (v:AV):AV.bh (fun n=>n) v=v:=by
 have h1: ∀ x:SV,SV.bh (fun n=>n) x=x:=fun x=>by rcases x with v | ⟨t,o⟩ | ⟨t,o,n,c⟩<;>rfl
 have h1':SV.bh (fun n=>n)=id:=funext h1
 have h2: ∀ x:CV,CV.bh (fun n=>n) x=x:=fun x=>by
  rcases x with x | l
  ·simp[CV.bh,h1]
  ·simp[CV.bh,h1']
 have h2':CV.bh (fun n=>n)=id:=funext h2
 rcases v with x | l
 ·simp[AV.bh,h2]
 ·simp[AV.bh,h2']
theorem ga.dv {s:AS} {env:List (Nat×AV)} {box:List (Nat×aW)} {next:Nat} (h:ga s env box next):abj s (ou env box next):=by
 refine ⟨fun d v hv=> ?_,fun n b hb=> ?_,fun n n' b b' _ _ _ e=>e,fun d v hv=> ?_,fun t b hb=> ?_⟩
 ·rw[AV.afN];exact (h.1 _ (bq _ _ _ hv)).1
 ·have h1:(fun x:SV=>SV.bh (fun n=>n) x)=id:=funext fun x=>by rcases x with v | ⟨t,o⟩ | ⟨t,o,n,c⟩<;>rfl
  refine ⟨b,(h.2 _ (bq _ _ _ hb)).1,fun x=>x, ?_⟩
  show b.cells=b.cells.map (fun x:SV=>SV.bh (fun n=>n) x)
  rw[h1,List.map_id]
 ·exact (h.1 _ (bq _ _ _ hv)).2
 ·exact (h.2 _ (bq _ _ _ hb)).2
theorem Gn {body:(Exit→AS→Prop)→AS→Prop} {F:Exit→AS→Prop} {s:AS} (n:Nat) (env:Nat→List (Nat×AV)) (box:Nat→List (Nat×aW)) (next:Nat)
  (h0:ga s (env 0) (box 0) next) (hmono: ∀ (K K':AS→Prop) t,(∀ s,K s→K' s)→body (fi K F) t→body (fi K' F) t)
  (hstep: ∀ k,k < n→body (fi (fun s'=>ga s' (env (k+1)) (box (k+1)) next) F) (ou (env k) (box k) next))
  (hend:body (fi (fun _=>False) F) (ou (env n) (box n) next)) (hn:s.next≤next):jJ body F s:=by
 refine ⟨{ k:Nat // k≤n },fun k=>ou (env k.1) (box k.1) next,fun k=>n - k.1,⟨0,Nat.zero_le _⟩,⟨_,h0.dv,fun _ _=>rfl⟩,fun _=>hn,fun k=> ?_⟩
 rcases Nat.lt_or_ge k.1 n with h | h
 ·exact hmono _ _ _ (fun s hs=>⟨⟨k.1+1,h⟩,by show n - (k.1+1) < n - k.1;omega,_,hs.dv,fun _ _=>rfl⟩) (hstep k.1 h)
 ·have e:k.1=n:=Nat.le_antisymm k.2 h
  exact hmono _ _ _ (fun s hs=>hs.elim) (e▸hend)
section
variable {P:Program} [Tables P] {W:Nat→Prop} {N:Nat} {w0:gF P} {g:bG} {s:AS} {a:Act} {w:World}
theorem xM {ops:Array Oper} {base:Nat} {K K':AS→Prop} (h: ∀ s,K s→K' s): ∀ (l:List Oper) (i:Nat) (s:AS),kL P ops base l i K s→kL P ops base l i K' s
 | [],_,_,hv=>h _ hv
 | o::rest,i,s,hv=>by
  unfold kL wu at hv ⊢
  have ih:=fun s hs=>xM (ops:=ops) (base:=base) h rest (i+1) s hs
  cases hg:o.guard with
  | none=>rw[hg]at hv;exact lV ih hv
  | some p=>
   obtain ⟨j,want⟩:=p
   rw[hg]at hv
   simp only[dB]at hv ⊢
   split at hv
   ·exact ⟨fun hw=>lV ih (hv.1 hw),fun hw=>ih _ (hv.2 hw)⟩
   ·exact hv
theorem uw {ops:Array Oper} {base:Nat} {K K':AS→Prop} (h: ∀ s,K s→K' s): ∀ (l:List Oper) (i:Nat) (s:AS),gV P ops base l i K s→gV P ops base l i K' s
 | [],_,_,hv=>h _ hv
 | _::rest,i,_,hv=>by
  have ih:=fun s hs=>uw (ops:=ops) (base:=base) h rest (i+1) s hs
  rcases hv with ⟨e,h1,h2⟩ | ⟨hl,D,hD,h2⟩ | ⟨hb,h2⟩
  ·exact .inl ⟨e,h1,ih _ h2⟩
  ·exact .inr (.inl ⟨hl,D,hD,fun e he=>ih _ (h2 e he)⟩)
  ·exact .inr (.inr ⟨hb,CY ih h2⟩)
theorem fU: ∀ (c:Code) (F F':Exit→AS→Prop),(∀ e s,F e s→F' e s)→ ∀ s,vc P c F s→vc P c F' s
 | .skip,_,_,h,s,hv=>h _ _ hv
 | .region _ ops false,_,_,h,s,hv=>xM (h _) _ _ _ hv
 | .region _ ops true,_,_,h,s,hv=>⟨hv.1,uw (h _) _ _ _ hv.2⟩
 | .seq x y,F,F',h,s,hv=>fU x _ _ (fun e s hs=>by
   cases e with
   | normal=>exact fU y _ _ h s hs
   | _=>exact h _ _ hs) s hv
 | .cond c x y,F,F',h,s,hv=>by
  simp only[vc,mP]at hv ⊢
  split at hv
  ·exact ⟨fun ht=>fU x _ _ h s (hv.1 ht),fun hf=>fU y _ _ h s (hv.2 hf)⟩
  ·exact hv
 | .block id c,F,F',h,s,hv=>fU c _ _ (fun e s hs=>by
   cases e with
   | exit id'=>
    simp only[iY]at hs ⊢
    split
    ·rename_i e;rw[if_pos e]at hs;exact h _ _ hs
    ·rename_i e;rw[if_neg e]at hs;exact h _ _ hs
   | _=>exact h _ _ hs) s hv
 | .loop c,F,F',h,s,hv=>by
  obtain ⟨ι,st,μ,i₀,h0,hnx,hb⟩:=hv
  refine ⟨ι,st,μ,i₀,h0,hnx,fun i=>fU c _ _ (fun e s hs=> ?_) _ (hb i)⟩
  cases e with
  | normal=>exact hs
  | _=>exact h _ _ hs
 | .exit id,_,_,h,s,hv=>h _ _ hv
 | .ret,_,_,h,s,hv=>h _ _ hv
 | .rangeFunc .., _,_,_,_,hv=>hv.elim
 | .scope _,_,_,_,_,hv=>hv.elim
 | .label _,_,_,_,_,hv=>hv.elim
 | .goto _,_,_,_,_,hv=>hv.elim
 | .refuse _,_,_,_,_,hv=>hv.elim
theorem aG {c:Code} {F:Exit→AS→Prop} {s:AS} (n:Nat) (env:Nat→List (Nat×AV)) (box:Nat→List (Nat×aW)) (next:Nat)
  (h0:ga s (env 0) (box 0) next)
  (hstep: ∀ k,k < n→vc P c (fi (fun s'=>ga s' (env (k+1)) (box (k+1)) next) F) (ou (env k) (box k) next))
  (hend:vc P c (fi (fun _=>False) F) (ou (env n) (box n) next)) (hn:s.next≤next:=by first | exact Nat.le_refl _ | decide | simp):jJ (vc P c) F s:=
 Gn n env box next h0 (fun K K' t h hv=>fU c _ _ (fun e s hs=>by
  cases e with
  | normal=>exact h s hs
  | _=>exact hs) t hv) hstep hend hn
end
theorem DN {s:AS} {env:List (Nat×AV)} {box:List (Nat×aW)} {next:Nat}:ga s env box next=
  ((∀ p ∈ env,s.env p.1=some p.2∧AV.ok (fun n=>n < next) p.2)∧(∀ p ∈ box,s.box p.1=some p.2∧p.1 < next∧ ∀ x ∈ p.2.cells,SV.ok (fun n=>n < next) x)):=rfl
theorem ok_int {M:Nat→Prop} {k:IntKind} {x:Int}:AV.ok M (I k x)=True:=rfl
theorem Qx {M:Nat→Prop} {x:Bool}:AV.ok M (B x)=True:=rfl
theorem Gp {M:Nat→Prop} {t o:Nat}:AV.ok M (Ptr t o)=M t:=rfl
theorem Qy {M:Nat→Prop} {t o n c:Nat}:AV.ok M (Sl t o n c)=M t:=rfl
theorem ac5 {M:Nat→Prop} {l:List SV}:AV.ok M (Ag l)= ∀ x ∈ l,SV.ok M x:=rfl
theorem Qz {M:Nat→Prop} {k:IntKind} {x:Int}:SV.ok M (Sum.inl (.int k x))=True:=by simp[SV.ok,SV.names,SV.one,Value.oneCell']
theorem IW {M:Nat→Prop} {x:Bool}:SV.ok M (Sum.inl (.bool x))=True:=by simp[SV.ok,SV.names,SV.one,Value.oneCell']
theorem bV {M:Nat→Prop} {k:IntKind} {n:Nat} {f:Nat→Int}:(∀ x ∈ ae k n f,SV.ok M x)=True:=by
 rw[eq_iff_iff]
 refine ⟨fun _=>trivial,fun _ x hx=>SV.bH (List.all_eq_true.1 (km k n f) x hx)⟩
theorem IX {α:Type} {p:α→Prop}:(∀ x ∈ ([]:List α),p x)=True:=by simp
theorem DO {α:Type} {p:α→Prop} {a:α} {l:List α}:(∀ x ∈ a::l,p x)=(p a∧ ∀ x ∈ l,p x):=by simp
theorem DP:type_of% @IX∧type_of% @DO∧type_of% @Xg∧type_of% @Qw∧type_of% @fE∧type_of% @DN∧type_of% @ok_int∧type_of% @Qx∧type_of% @Gp∧type_of% @Qy∧type_of% @ac5∧type_of% @Qz∧type_of% @IW∧type_of% @bV:=
 ⟨@IX, @DO, @Xg, @Qw, @fE, @DN, @ok_int, @Qx, @Gp, @Qy, @ac5, @Qz, @IW, @bV⟩
end Go.cA
