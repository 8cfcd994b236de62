/-
  Common rewriting rules of lists, numbers and options, gathered, so that texts name them at once. Nothing here speaks of a program.
-/
import Derived.Test.YtkaamnnjeandlaaDoorVcgE
set_option linter.unusedSimpArgs false
set_option linter.unusedVariables false
set_option linter.unusedSectionVars false
namespace Go.bM

theorem Qg:type_of% @List.size_toArray.{0}∧type_of% @List.getElem?_toArray.{0}∧type_of% @List.getElem?_cons_zero.{0}∧type_of% @List.getElem?_cons_succ.{0}∧type_of% @List.getElem?_nil.{0}∧type_of% @List.length_cons.{0}∧type_of% @List.length_nil.{0}∧type_of% @List.length_singleton.{0}∧
  type_of% @Nat.zero_add∧type_of% @Nat.add_zero∧type_of% @Nat.zero_mul∧type_of% @Nat.mul_one∧type_of% @Nat.le_refl∧type_of% @and_true∧type_of% @true_and∧type_of% @and_self∧type_of% @List.drop_zero.{0}∧type_of% @List.take_zero.{0}∧type_of% @List.drop_succ_cons.{0}∧type_of% @List.take_succ_cons.{0}∧type_of% @List.take_nil.{0}∧type_of% @List.drop_nil.{0}∧
  type_of% @List.map_cons.{0,0}∧type_of% @List.map_nil.{0,0}∧type_of% @List.all_cons.{0}∧type_of% @List.all_nil.{0}∧type_of% @Bool.and_true∧type_of% @List.append_nil.{0}∧type_of% @List.nil_append.{0}∧type_of% @List.cons_append.{0}∧type_of% @List.toList_toArray.{0}∧type_of% @ne_eq.{1}∧type_of% @Bool.false_eq_true∧type_of% @Int.cast_ofNat_Int∧type_of% @Option.getD_none.{0}∧type_of% @Option.getD_some.{0}∧type_of% @eq_self.{1}:=
 ⟨@List.size_toArray, @List.getElem?_toArray, @List.getElem?_cons_zero, @List.getElem?_cons_succ, @List.getElem?_nil, @List.length_cons, @List.length_nil, @List.length_singleton, @Nat.zero_add, @Nat.add_zero, @Nat.zero_mul, @Nat.mul_one, @Nat.le_refl, @and_true, @true_and, @and_self, @List.drop_zero, @List.take_zero, @List.drop_succ_cons, @List.take_succ_cons, @List.take_nil, @List.drop_nil,
  @List.map_cons, @List.map_nil, @List.all_cons, @List.all_nil, @Bool.and_true, @List.append_nil, @List.nil_append, @List.cons_append, @List.toList_toArray, @ne_eq, @Bool.false_eq_true, @Int.cast_ofNat_Int, @Option.getD_none, @Option.getD_some, @eq_self⟩
def lk {α:Type} (l:List (Nat×α)) (x:Nat):Option α:=match l with
 | []=>none
 | (k,v)::r=>if x=k then some v else lk r x
theorem LG {α:Type} (x:Nat):lk ([]:List (Nat×α)) x=none:=rfl
theorem HJ {α:Type} (k:Nat) (v:α) (r:List (Nat×α)) (x:Nat):lk ((k,v)::r) x=if x=k then some v else lk r x:=rfl
theorem bg {α:Type}: ∀ (l:List (Nat×α)) (x:Nat) (v:α),lk l x=some v→(x,v) ∈ l
 | [],x,v,h=>by simp[lk]at h
 | (k,u)::r,x,v,h=>by
  simp only[lk]at h
  split at h
  ·rename_i e;simp only[Option.some.injEq]at h;subst e h;simp
  ·exact List.mem_cons_of_mem _ (bg r x v h)
def nX (env:List (Nat×AV)) (box:List (Nat×aG)) (next:Nat):AS:=⟨lk env,lk box,next⟩
theorem LH (env:List (Nat×AV)) (box:List (Nat×aG)) (next:Nat):nX env box next=⟨lk env,lk box,next⟩:=rfl
def dx (s:AS) (env:List (Nat×AV)) (box:List (Nat×aG)) (next:Nat):Prop:=
 (∀ p ∈ env,s.env p.1=some p.2∧AV.ok (fun n=>n < next) p.2)∧(∀ p ∈ box,s.box p.1=some p.2∧p.1 < next∧ ∀ x ∈ p.2.cells,SV.ok (fun n=>n < next) x)
theorem AV.pO (v:AV):AV.ren (fun n=>n) v=v:=by
 have h1: ∀ x:SV,SV.ren (fun n=>n) x=x:=SV.pO
 have h1':SV.ren (fun n=>n)=id:=funext h1
 have h2: ∀ x:CV,CV.ren (fun n=>n) x=x:=fun x=>by
  rcases x with x | l
  ·simp[CV.ren,h1]
  ·simp[CV.ren,h1']
 have h2':CV.ren (fun n=>n)=id:=funext h2
 rcases v with x | l
 ·simp[AV.ren,h2]
 ·simp[AV.ren,h2']
theorem dx.eW {s:AS} {env:List (Nat×AV)} {box:List (Nat×aG)} {next:Nat} (h:dx s env box next):Ox s (nX env box next):=by
 refine ⟨fun d v hv=> ?_,fun n b hb=> ?_,fun n n' b b' _ _ _ e=>e,fun d v hv=> ?_,fun t b hb=> ?_⟩
 ·rw[AV.pO];exact (h.1 _ (bg _ _ _ hv)).1
 ·have h1:(fun x:SV=>SV.ren (fun n=>n) x)=id:=funext SV.pO
  refine ⟨b,(h.2 _ (bg _ _ _ hb)).1,fun x=>x, ?_⟩
  show b.cells=b.cells.map (fun x:SV=>SV.ren (fun n=>n) x)
  rw[h1,List.map_id]
 ·exact (h.1 _ (bg _ _ _ hv)).2
 ·exact (h.2 _ (bg _ _ _ hb)).2
theorem AB {body:(Exit→AS→Prop)→AS→Prop} {F:Exit→AS→Prop} {s:AS} (n:Nat) (env:Nat→List (Nat×AV)) (box:Nat→List (Nat×aG)) (next:Nat)
  (h0:dx s (env 0) (box 0) next) (hmono: ∀ (K K':AS→Prop) t,(∀ s,K s→K' s)→body (fa K F) t→body (fa K' F) t)
  (hstep: ∀ k,k < n→body (fa (fun s'=>dx s' (env (k+1)) (box (k+1)) next) F) (nX (env k) (box k) next))
  (hend:body (fa (fun _=>False) F) (nX (env n) (box n) next)) (hn:s.next≤next):kC body F s:=by
 refine ⟨{ k:Nat // k≤n },fun k=>nX (env k.1) (box k.1) next,fun k=>n - k.1,⟨0,Nat.zero_le _⟩,⟨_,h0.eW,fun _ _=>rfl⟩,fun _=>hn,fun k=> ?_⟩
 rcases Nat.lt_or_ge k.1 n with h | h
 ·exact hmono _ _ _ (fun s hs=>⟨⟨k.1+1,h⟩,by show n - (k.1+1) < n - k.1;omega,_,hs.eW,fun _ _=>rfl⟩) (hstep k.1 h)
 ·have e:k.1=n:=Nat.le_antisymm k.2 h
  exact hmono _ _ _ (fun s hs=>hs.elim) (e▸hend)
section
variable {P:Program} [Tables P] {W:Nat→Prop} {N:Nat} {w0:Base P} {g:Where} {s:AS} {a:Act} {w:World}
theorem vv {ops:Array Oper} {base:Nat} {K K':AS→Prop} (h: ∀ s,K s→K' s): ∀ (l:List Oper) (i:Nat) (s:AS),ly P ops base l i K s→ly P ops base l i K' s
 | [],_,_,hv=>h _ hv
 | o::rest,i,s,hv=>by
  unfold ly tZ at hv ⊢
  have ih:=fun s hs=>vv (ops:=ops) (base:=base) h rest (i+1) s hs
  cases hg:o.guard with
  | none=>rw[hg]at hv;exact jd ih hv
  | some p=>
   obtain ⟨j,want⟩:=p
   rw[hg]at hv
   simp only[fL]at hv ⊢
   split at hv
   ·exact ⟨fun hw=>jd ih (hv.1 hw),fun hw=>ih _ (hv.2 hw)⟩
   ·exact hv
theorem tu {ops:Array Oper} {base:Nat} {K K':AS→Prop} (h: ∀ s,K s→K' s): ∀ (l:List Oper) (i:Nat) (s:AS),gY P ops base l i K s→gY P ops base l i K' s
 | [],_,_,hv=>h _ hv
 | _::rest,i,_,hv=>by
  have ih:=fun s hs=>tu (ops:=ops) (base:=base) h rest (i+1) s hs
  rcases hv with ⟨e,h1,h2⟩ | ⟨hl,D,hD,h2⟩ | ⟨hb,h2⟩
  ·exact .inl ⟨e,h1,ih _ h2⟩
  ·exact .inr (.inl ⟨hl,D,hD,fun e he=>ih _ (h2 e he)⟩)
  ·exact .inr (.inr ⟨hb,rP ih h2⟩)
theorem fu: ∀ (c:Code) (F F':Exit→AS→Prop),(∀ e s,F e s→F' e s)→ ∀ s,vc P c F s→vc P c F' s
 | .skip,_,_,h,s,hv=>h _ _ hv
 | .region _ ops false,_,_,h,s,hv=>vv (h _) _ _ _ hv
 | .region _ ops true,_,_,h,s,hv=>⟨hv.1,tu (h _) _ _ _ hv.2⟩
 | .seq x y,F,F',h,s,hv=>fu x _ _ (fun e s hs=>by
   cases e with
   | normal=>exact fu y _ _ h s hs
   | _=>exact h _ _ hs) s hv
 | .cond c x y,F,F',h,s,hv=>by
  simp only[vc,lN]at hv ⊢
  split at hv
  ·exact ⟨fun ht=>fu x _ _ h s (hv.1 ht),fun hf=>fu y _ _ h s (hv.2 hf)⟩
  ·exact hv
 | .block id c,F,F',h,s,hv=>fu c _ _ (fun e s hs=>by
   cases e with
   | exit id'=>
    simp only[eD]at hs ⊢
    split
    ·rename_i e;rw[if_pos e]at hs;exact h _ _ hs
    ·rename_i e;rw[if_neg e]at hs;exact h _ _ hs
   | _=>exact h _ _ hs) s hv
 | .loop c,F,F',h,s,hv=>by
  obtain ⟨ι,st,μ,i₀,h0,uk,hb⟩:=hv
  refine ⟨ι,st,μ,i₀,h0,uk,fun i=>fu c _ _ (fun e s hs=> ?_) _ (hb i)⟩
  cases e with
  | normal=>exact hs
  | _=>exact h _ _ hs
 | .exit id,_,_,h,s,hv=>h _ _ hv
 | .ret,_,_,h,s,hv=>h _ _ hv
 | .rangeFunc .., _,_,_,_,hv=>hv.elim
 | .scope _,_,_,_,_,hv=>hv.elim
 | .label _,_,_,_,_,hv=>hv.elim
 | .goto _,_,_,_,_,hv=>hv.elim
 | .refuse _,_,_,_,_,hv=>hv.elim
theorem bY {c:Code} {F:Exit→AS→Prop} {s:AS} (n:Nat) (env:Nat→List (Nat×AV)) (box:Nat→List (Nat×aG)) (next:Nat)
  (h0:dx s (env 0) (box 0) next)
  (hstep: ∀ k,k < n→vc P c (fa (fun s'=>dx s' (env (k+1)) (box (k+1)) next) F) (nX (env k) (box k) next))
  (hend:vc P c (fa (fun _=>False) F) (nX (env n) (box n) next)) (hn:s.next≤next:=by first | exact Nat.le_refl _ | decide | simp):kC (vc P c) F s:=
 AB n env box next h0 (fun K K' t h hv=>fu c _ _ (fun e s hs=>by
  cases e with
  | normal=>exact h s hs
  | _=>exact hs) t hv) hstep hend hn
end
theorem zg {s:AS} {env:List (Nat×AV)} {box:List (Nat×aG)} {next:Nat}:dx s env box next=
  ((∀ p ∈ env,s.env p.1=some p.2∧AV.ok (fun n=>n < next) p.2)∧(∀ p ∈ box,s.box p.1=some p.2∧p.1 < next∧ ∀ x ∈ p.2.cells,SV.ok (fun n=>n < next) x)):=rfl
theorem ok_int {M:Nat→Prop} {k:IntKind} {x:Int}:AV.ok M (I k x)=True:=rfl
theorem LI {M:Nat→Prop} {t o:Nat}:AV.ok M (Ptr t o)=M t:=rfl
theorem Qh {M:Nat→Prop} {t o n c:Nat}:AV.ok M (Sl t o n c)=M t:=rfl
theorem Qi {M:Nat→Prop} {l:List SV}:AV.ok M (Ag l)= ∀ x ∈ l,SV.ok M x:=rfl
theorem HK {M:Nat→Prop} {k:IntKind} {x:Int}:SV.ok M (Sum.inl (.int k x))=True:=by simp[SV.ok,SV.names,SV.one,Value.oneCell']
theorem HL {M:Nat→Prop} {k:IntKind} {n:Nat} {f:Nat→Int}:(∀ x ∈ aA k n f,SV.ok M x)=True:=by
 rw[eq_iff_iff]
 refine ⟨fun _=>trivial,fun _ x hx=>SV.dq (List.all_eq_true.1 (uP k n f) x hx)⟩
theorem Df {α:Type} {p:α→Prop}:(∀ x ∈ ([]:List α),p x)=True:=by simp
theorem zh {α:Type} {p:α→Prop} {a:α} {l:List α}:(∀ x ∈ a::l,p x)=(p a∧ ∀ x ∈ l,p x):=by simp
theorem zj:type_of% @Df∧type_of% @zh∧type_of% @LG∧type_of% @HJ∧type_of% @LH∧type_of% @zg∧type_of% @ok_int∧type_of% @LI∧type_of% @Qh∧type_of% @Qi∧type_of% @HK∧type_of% @HL:=
 ⟨@Df, @zh, @LG, @HJ, @LH, @zg, @ok_int, @LI, @Qh, @Qi, @HK, @HL⟩
end Go.bM
