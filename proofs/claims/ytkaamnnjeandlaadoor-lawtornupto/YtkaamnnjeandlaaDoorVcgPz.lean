/-
  The calculus where a call may end in a panic: what a region's last operation does, and the code around it. Nothing here speaks of a program.
-/
import Derived.Test.YtkaamnnjeandlaaDoorVcgWq
import Derived.Test.YtkaamnnjeandlaaDoorVcgFv
set_option linter.unusedSimpArgs false
set_option linter.unusedVariables false
namespace Go.bM
set_option linter.unusedSectionVars false
def Ii (P:Program) (o:Oper) (Q:Exit→Act→World→Prop) (e:Exit) (a:Act) (w:World):Prop:=match e with
 | .normal=>o.wp P a w (Q .normal) Q
 | e=>Q e a w
section
variable {P:Program} [Tables P] {o:Oper} {Q:Exit→Act→World→Prop} {a:Act} {w:World}
theorem wG {p:Oper} {Q':Exit→Act→World→Prop} {n n':Act→World→Prop} (hn: ∀ a w,n a w→n' a w) (hQ: ∀ e a w,e≠ .normal→Q' e a w→Q e a w) (h:p.wp P a w n Q'):p.wp P a w n' Q:=by
 unfold Oper.wp at h ⊢
 revert h
 generalize (execOp a.eval p).run P w=r
 intro h
 unfold Oper.upon at h ⊢
 split at h
 ·exact hn _ _ h
 ·exact hn _ _ h
 ·exact hn _ _ h
 ·refine h.mono ?_
  rintro e w' h
  split at h
  ·exact hn _ _ h
  ·exact hQ _ _ _ (by simp) h
  ·obtain ⟨a0,w1,h0⟩:=h
   exact ⟨a0,w1,hQ _ _ _ (by simp) h0⟩
 ·rename_i row args w'
  intro b cs
  obtain ⟨v,w'',h1,h2⟩:=h b cs
  exact ⟨v,w'',hn _ _ h1,h2⟩
 ·exact hQ _ _ _ (by simp) h
 ·exact h.elim
theorem qD {Q':Exit→Act→World→Prop} (hQ: ∀ e a w,e≠ .normal→Q' e a w→Q e a w) (h:LetsOut Q'):LetsOut Q:=by
 obtain ⟨a0,w1,h0⟩:=h
 exact ⟨a0,w1,hQ _ _ _ (by simp) h0⟩
theorem rm: ∀ e a w,e≠ .normal→Ii P o Q e a w→Q e a w:=fun e a w he h=>by
 cases e<;>first | exact absurd rfl he | exact h
theorem zR {ops ops':Array Oper}: ∀ (l:List Oper) (a:Act) (w:World),l.all (fun o=>o.guard.isNone)=true→o.guard=none→wpList P ops (Ii P o Q) l a w→wpList P ops' Q (l++[o]) a w
 | [],a,w,_,ho,h=>by
  show (if Region.wanted o (yielded ops' a.tmps) then o.wp P a w (wpList P ops' Q []) Q∨_ else _)
  rw[if_pos (by simp[Region.wanted,ho])]
  exact .inl h
 | p::r,a,w,hg,ho,h=>by
  simp only[List.all_cons,Bool.and_eq_true,Option.isNone_iff_eq_none]at hg
  unfold wpList at h
  show (if Region.wanted p (yielded ops' a.tmps) then p.wp P a w (wpList P ops' Q (r++[o])) Q∨_ else _)
  rw[if_pos (by simp[Region.wanted,hg.1])]at h ⊢
  rcases h with h | ⟨h1,h2⟩
  ·exact .inl (wG (fun a w hk=>zR r a w hg.2 ho hk) rm h)
  ·exact .inr ⟨h1,qD rm h2⟩
def Bc (ops:Array Oper):Bool:=(List.range (ops.size - 1)).all (fun j=>waits ops ops.size (ops.size - 1) j)&&ops.toList.all (fun o=>o.guard.isNone)&&
 (List.range ops.size).all fun i=>match ops[i]? with
  | some o=>o.after.toList.all fun e=> !Region.binds .any e||decide (e.on < i)
  | none=>true
theorem sd {pre:Array Oper} {L:Array Bool} (hs:L.size=pre.size) {j:Nat} (hj:j < pre.size) (hlt: ∀ (i:Nat) o,pre[i]? =some o→ ∀ e ∈ o.after,Region.binds .any e=true→e.on < i):
  j ∈ Region.ready .any (pre.push o) (L.push false)↔j ∈ Region.ready .any pre L:=by
 have e1:(L.push false).getD j true=L.getD j true:=by
  simp only[Array.getD_eq_getD_getElem?,Array.getElem?_push,if_neg (show ¬ j=L.size by omega)]
 have e2:(pre.push o)[j]? =pre[j]? :=by rw[Array.getElem?_push,if_neg (by omega)]
 rw[mem_ready,mem_ready,e1,e2]
 refine and_congr_right fun _=>exists_congr fun p=>and_congr_right fun hp=>forall_congr' fun e=>forall_congr' fun he=>forall_congr' fun hb=> ?_
 have:=hlt j p hp e he hb
 simp only[Array.getD_eq_getD_getElem?,Array.getElem?_push,if_neg (show ¬ e.on=L.size by omega)]
theorem DV {L:Array Bool} {n:Nat} (hs:L.size=n) (b:Bool):(L.push false).getD n b=false:=by
 subst hs
 simp[Array.getD_eq_getD_getElem?]
theorem MR {pre:Array Oper} (hl:Bc (pre.push o)=true): ∀ (fuel:Nat) (L:Array Bool) (a:Act) (w:World),L.size=pre.size→(df L pre.toList 0).length=fuel→Down pre L→
  wpAny P .any pre (Ii P o Q) fuel L a w→wpAny P .any (pre.push o) Q (fuel+1) (L.push false) a w:=by
 simp only[Bc,Bool.and_eq_true]at hl
 obtain ⟨⟨hw,hg⟩,he⟩:=hl
 simp only[Array.size_push,Nat.add_sub_cancel,List.all_eq_true,List.mem_range]at hw he
 have nz: ∀ (i:Nat) p,(pre.push o)[i]? =some p→p.guard=none:=fun i p hp=>by
  have:=List.all_eq_true.1 hg p (by simpa using Array.mem_of_getElem? hp)
  simpa using this
 have hlt: ∀ (i:Nat) p,(pre.push o)[i]? =some p→ ∀ e ∈ p.after,Region.binds .any e=true→e.on < i:=fun i p hp e hm hb=>by
  have hi:=(Array.getElem?_eq_some_iff.1 hp).1
  have:=he i (by simpa using hi)
  simp only[hp,List.all_eq_true,Bool.or_eq_true,Bool.not_eq_true',decide_eq_true_eq]at this
  rcases this e (by simpa using hm) with h | h
  ·rw[hb]at h;cases h
  ·exact h
 have hpre: ∀ (i:Nat) p,pre[i]? =some p→(pre.push o)[i]? =some p:=fun i p hp=>by
  have:=(Array.getElem?_eq_some_iff.1 hp).1
  rw[Array.getElem?_push,if_neg (by omega),hp]
 have MS: ∀ (i:Nat) p,pre[i]? =some p→ ∀ e ∈ p.after,Region.binds .any e=true→e.on < i:=fun i p hp=>hlt i p (hpre i p hp)
 have hn:(pre.push o)[pre.size]? =some o:=by simp
 have hne: ∀ {L:Array Bool} (_:L.size=pre.size),Down pre L→(∀ e ∈ o.after,Region.binds .any e=true→(L.push false).getD e.on false=true)→ ∀ j,j < pre.size→L.getD j false=true:=fun {L} hs hd qZ j hj=>by
  have hD:Down (pre.push o) (L.push false):=fun i p hp hi e hm hb=>by
   have hi':i < pre.size:=by
    rcases Nat.lt_trichotomy i pre.size with h | h | h
    ·exact h
    ·subst h;rw[DV hs]at hi;cases hi
    ·have:=(Array.getElem?_eq_some_iff.1 hp).1;simp at this;omega
   rw[Array.getElem?_push,if_neg (by omega)]at hp
   have h2:L.getD i false=true:=by
    simpa[Array.getD_eq_getD_getElem?,Array.getElem?_push,show ¬ i=L.size by omega] using hi
   have h3:=hd i p hp h2 e hm hb
   have h4:=MS i p hp e hm hb
   simpa[Array.getD_eq_getD_getElem?,Array.getElem?_push,show ¬ e.on=L.size by omega] using h3
  have:=fN hD (pre.push o).size pre.size j o hn qZ (by have:=hw j hj;simpa using this)
  simpa[Array.getD_eq_getD_getElem?,Array.getElem?_push,show ¬ j=L.size by omega] using this
 intro fuel
 induction fuel with
 | zero=>
  intro L a w hs hf hd h
  obtain ⟨hr,hq⟩:=h
  have hall: ∀ j,j < pre.size→L.getD j false=true:=fun j hj=>Classical.byContradiction fun hx=>by
   have h1:=Rz (by omega) hx
   obtain ⟨p,hp⟩: ∃ p,pre[j]? =some p:=⟨_,Array.getElem?_eq_getElem hj⟩
   have:=om (ops:=pre) h1 hp
   omega
  have hno: ∀ i,i ∈ Region.ready .any (pre.push o) (L.push false)→i=pre.size:=fun i hi=>by
   have h0:=hi
   rw[mem_ready]at hi
   obtain ⟨h1,p,hp,_⟩:=hi
   have h2:=(Array.getElem?_eq_some_iff.1 hp).1
   simp only[Array.size_push]at h2
   rcases Nat.lt_or_ge i pre.size with h | h
   ·rw[sd hs h MS,hr]at h0;cases h0
   ·omega
  have hin:pre.size ∈ Region.ready .any (pre.push o) (L.push false):=by
   rw[mem_ready]
   refine ⟨DV hs _,o,hn,fun e hm hb=> ?_⟩
   have h4:=hlt _ _ hn e hm hb
   have:=hall e.on h4
   simpa[Array.getD_eq_getD_getElem?,Array.getElem?_push,show ¬ e.on=L.size by omega] using this
  refine ⟨fun h=>(by rw[h]at hin;cases hin),fun i hi=> ?_⟩
  obtain rfl:=hno i hi
  refine ra hn (nz _ _ hn) (Oper.wp_mono (fun a w hk=>⟨?_,hk⟩) hq)
  cases Tq:Region.ready .any (pre.push o) ((L.push false).setIfInBounds pre.size true) with
  | nil=>rfl
  | cons i r=>
   exfalso
   have hi:i ∈ Region.ready .any (pre.push o) ((L.push false).setIfInBounds pre.size true):=by rw[Tq];simp
   rw[mem_ready]at hi
   obtain ⟨h1,p,hp,_⟩:=hi
   have h2:=(Array.getElem?_eq_some_iff.1 hp).1
   simp only[Array.size_push]at h2
   by_cases e:pre.size=i
   ·subst e
    rw[Array.getD_eq_getD_getElem?,Array.getElem?_setIfInBounds_self_of_lt (by simp[hs])]at h1
    simp at h1
   ·rw[Array.getD_eq_getD_getElem?,Array.getElem?_setIfInBounds_ne e,Array.getElem?_push,if_neg (by omega)]at h1
    have:=hall i (by omega)
    rw[Array.getD_eq_getD_getElem?]at this
    have hx:i < L.size:=by omega
    rw[Array.getElem?_eq_getElem hx]at h1 this
    simp only[Option.getD_some]at h1 this
    rw[this]at h1;cases h1
 | succ fuel ih=>
  intro L a w hs hf hd h
  obtain ⟨h1,h2⟩:=h
  have QA: ∀ i,i ∈ Region.ready .any (pre.push o) (L.push false)→i < pre.size:=fun i hi=>by
   rw[mem_ready]at hi
   obtain ⟨_,p,hp,qZ⟩:=hi
   have h3:=(Array.getElem?_eq_some_iff.1 hp).1
   simp only[Array.size_push]at h3
   refine Classical.byContradiction fun hx=> ?_
   obtain rfl:i=pre.size:=by omega
   rw[hn]at hp;cases hp
   rw[H8 (ops:=pre) (hne hs hd qZ)]at hf
   simp at hf
  have Fx:Region.ready .any pre L≠[]:=fun hr=>by
   cases mH:df L pre.toList 0 with
   | nil=>rw[mH]at hf;simp at hf
   | cons p rest=>
    obtain ⟨i,p⟩:=p
    obtain ⟨_,h3,h4⟩:=gQ pre.toList 0 (i,p) (by rw[mH];simp)
    have hp:pre[i]? =some p:=by simpa using h4
    have hi:=(Array.getElem?_eq_some_iff.1 hp).1
    have:i ∈ Region.ready .any pre L:=mem_ready.2 ⟨h3,p,hp,fun e he hb=>by
     have:=MS i p hp e he hb
     exact mG hs (by omega) (oJ pre.toList 0 mH e.on (Nat.zero_le _) this)⟩
    rw[hr]at this;cases this
  refine ⟨fun hr=> ?_,fun i hi=> ?_⟩
  ·exfalso
   obtain ⟨i,hi⟩:=List.exists_mem_of_ne_nil _ Fx
   have Wb:i < pre.size:=by
    rw[mem_ready]at hi
    obtain ⟨_,p,hp,_⟩:=hi
    exact (Array.getElem?_eq_some_iff.1 hp).1
   rw[← sd (o:=o) hs Wb MS,hr]at hi
   cases hi
  ·have Wb:=QA i hi
   rw[sd hs Wb MS]at hi
   obtain ⟨hu,p,hp,qZ⟩:=mem_ready.1 hi
   have h3:=h2 i hi
   unfold wpOp at h3 ⊢
   rw[hp]at h3
   rw[hpre i p hp]
   simp only at h3 ⊢
   rw[if_pos (by simp[Region.wanted,nz i p (hpre i p hp)])]at h3 ⊢
   have Fy:(L.push false).setIfInBounds i true=(L.setIfInBounds i true).push false:=by
    apply Array.ext'
    simp[List.set_append,show i < L.size by omega]
   rcases h3 with h3 | ⟨h3,h4⟩
   ·refine .inl (wG (fun a w hk=> ?_) rm h3)
    rw[Fy]
    refine ih _ a w (by simpa using hs) ?_ (hd.set (by omega) hp qZ) hk
    have:=om (ops:=pre) hu hp
    omega
   ·exact .inr ⟨h3,qD rm h4⟩
def kR (ds:List Deferred) (a:Act):Act:={ a with defers:=a.defers++ds }
theorem mZ {ds:List Deferred} {a:Act} {d:Option Nat} {u:Value}:(kR ds a).put d u=kR ds (a.put d u):=by cases d<;>rfl
theorem wH {ds:List Deferred} {a:Act}:(kR ds a).eval=a.eval:=by funext x;cases x<;>rfl
theorem gB {a:Act}:kR [] a=a:=by unfold kR;rw[List.append_nil]
theorem QB {p:Oper} {ds:List Deferred} {n n':Act→World→Prop} {Q Q':Exit→Act→World→Prop} (hn: ∀ a w,n a w→n' (kR ds a) w) (hQ: ∀ e a w,Q e a w→Q' e (kR ds a) w) (h:p.wp P a w n Q):p.wp P (kR ds a) w n' Q':=by
 unfold Oper.wp at h ⊢
 rw[wH]
 revert h
 generalize (execOp a.eval p).run P w=r
 intro h
 unfold Oper.upon at h ⊢
 split at h
 ·simp only[mZ];exact hn _ _ h
 ·simp only[mZ];exact hn _ _ h
 ·rename_i d w'
  have:=hn _ _ h
  rw[← mZ]at this
  exact this
 ·refine h.mono ?_
  rintro e w' h
  split at h
  ·simp only[mZ];exact hn _ _ h
  ·exact hQ _ _ _ h
  ·obtain ⟨a0,w1,h0⟩:=h
   exact ⟨_,w1,hQ _ _ _ h0⟩
 ·intro b cs
  obtain ⟨v,w'',h1,h2⟩:=h b cs
  refine ⟨v,w'', ?_,h2⟩
  show n' ((kR ds a).put p.dst v) w''
  rw[mZ];exact hn _ _ h1
 ·exact hQ _ _ _ h
 ·exact h.elim
theorem Ij {p:Oper} {ds:List Deferred}:p.asks P (kR ds a) w=p.asks P a w:=by
 unfold Oper.asks
 rw[wH]
theorem Ik {ds:List Deferred} {Q Q':Exit→Act→World→Prop} (hQ: ∀ e a w,Q e a w→Q' e (kR ds a) w) (h:LetsOut Q):LetsOut Q':=by
 obtain ⟨a0,w1,h0⟩:=h
 exact ⟨_,w1,hQ _ _ _ h0⟩
theorem uo {ops:Array Oper} {ds:List Deferred} {Q Q':Exit→Act→World→Prop} (hQ: ∀ e a w,Q e a w→Q' e (kR ds a) w): ∀ (l:List Oper) (a:Act) (w:World),wpList P ops Q l a w→wpList P ops Q' l (kR ds a) w
 | [],a,w,h=>hQ _ _ _ h
 | p::r,a,w,h=>by
  unfold wpList at h ⊢
  have e:yielded ops (kR ds a).tmps=yielded ops a.tmps:=rfl
  rw[e]
  split
  ·rename_i hw
   rw[if_pos hw]at h
   rcases h with h | ⟨h1,h2⟩
   ·exact .inl (QB (fun a w hk=>uo hQ r a w hk) hQ h)
   ·exact .inr ⟨by rw[Ij];exact h1,Ik hQ h2⟩
  ·rename_i hw
   rw[if_neg hw]at h
   rw[mZ]
   exact uo hQ r _ w h
theorem wI {ops:Array Oper} {ds:List Deferred} {Q Q':Exit→Act→World→Prop} (hQ: ∀ e a w,Q e a w→Q' e (kR ds a) w): ∀ (fuel:Nat) (L:Array Bool) (a:Act) (w:World),wpAny P .any ops Q fuel L a w→wpAny P .any ops Q' fuel L (kR ds a) w
 | 0,L,a,w,h=>⟨h.1,hQ _ _ _ h.2⟩
 | fuel+1,L,a,w,h=>by
  refine ⟨fun hr=>hQ _ _ _ (h.1 hr),fun i hi=> ?_⟩
  have h3:=h.2 i hi
  unfold wpOp at h3 ⊢
  split
  ·rename_i ho
   rw[ho]at h3
   exact wI hQ fuel _ a w h3
  ·rename_i p ho
   rw[ho]at h3
   simp only at h3
   have e:yielded ops (kR ds a).tmps=yielded ops a.tmps:=rfl
   rw[e]
   split
   ·rename_i hw
    rw[if_pos hw]at h3
    rcases h3 with h3 | ⟨h1,h2⟩
    ·exact .inl (QB (fun a w hk=>wI hQ fuel _ a w hk) hQ h3)
    ·exact .inr ⟨by rw[Ij];exact h1,Ik hQ h2⟩
   ·rename_i hw
    rw[if_neg hw]at h3
    rw[mZ]
    exact wI hQ fuel _ _ w h3
end
def dV (P:Program) [Tables P] (f:Nat) (xs:Option (List AV)) (F:Exit→AS→Prop) (s:AS):Prop:=match xs with
 | none=>False
 | some l=> ∀ (W:Nat→Prop) (N:Nat) (w0:Base P) (g:Where) (a:Act) (w:World),br W N w0 (fun n=>n < s.next) g s a w→
   Calls P f (l.map (AV.ah g)).toArray w fun e w'=> ∃ ch g' s',e= .panicked ch∧br W N w0 (fun n=>n < s'.next) g' s' a w'∧F (.panic ch) s'
def Ke (P:Program) [Tables P] (fv:Option AV) (xs:Option (List AV)) (F:Exit→AS→Prop) (s:AS):Prop:=match fv with
 | some (.inl (.inl (.inl (.func (.func f) ⟨[]⟩ caps))))=>au P f=true∧dV P f (uN xs (kB caps.toList)) F s
 | _=>False
def MU (v:Option AV) (F:Exit→AS→Prop) (s:AS):Prop:=match v with
 | some (.inl (.inl (.inl (.iface t v))))=>F (.panic [{ v:= .iface t v,recovered:=false }]) s
 | _=>False
def l9 (P:Program) [Tables P] (o:Oper) (F:Exit→AS→Prop) (s:AS):Prop:=match o.op with
 | .call ⟨.value (.func f),xs,_⟩=>au P f=true∧dV P f (bb s xs.toList) F s
 | .call ⟨.value (.tmp d),xs,_⟩=>Ke P (s.env d) (bb s xs.toList) F s
 | .panic x=>MU (s.aK x) F s
 | _=>False
def oy:List Oper→List Oper
 | []=>[]
 | [_]=>[]
 | a::b::l=>a::oy (b::l)
def Gg:List Oper→Option Oper
 | []=>none
 | [a]=>some a
 | _::b::l=>Gg (b::l)
theorem sf: ∀ {l:List Oper} {o:Oper},Gg l=some o→l=oy l++[o]
 | [],_,h=>by cases h
 | [a],o,h=>by cases h;rfl
 | a::b::l,o,h=>by
  have:=sf (l:=b::l) (show Gg (b::l)=some o from h)
  show a::b::l=a::(oy (b::l)++[o])
  rw[← this]
def RL (P:Program) [Tables P] (o:Oper) (F:Exit→AS→Prop) (e:Exit) (s:AS):Prop:=match e with
 | .normal=>l9 P o F s
 | _=>False
def MV (o:Option Oper) (D:Oper→Prop):Prop:=match o with
 | some o=>D o
 | none=>False
def TX (P:Program) [Tables P] (wd:List Nat) (id:Nat) (dr:Bool) (l:List Oper) (F:Exit→AS→Prop) (s:AS):Prop:=
 Bc l.toArray=true∧MV (Gg l) fun o=>mN P wd (.region id (oy l).toArray dr) (RL P o F) s
def iX (P:Program) [Tables P] (wd pz:List Nat):Code→(Exit→AS→Prop)→AS→Prop
 | .region id ops dr,F,s=>if pz.contains id=true then (mN P wd (.region id ops dr) F s∨TX P wd id dr ops.toList F s) else mN P wd (.region id ops dr) F s
 | .seq a b,F,s=>iX P wd pz a (fa (iX P wd pz b F) F) s
 | .cond c a b,F,s=>lN (s.aK c) (iX P wd pz a F) (iX P wd pz b F) s
 | .block id c,F,s=>iX P wd pz c (eD id F) s
 | .loop c,F,s=>kC (iX P wd pz c) F s
 | .skip,F,s=>F .normal s
 | .exit id,F,s=>F (.exit id) s
 | .ret,F,s=>F .ret s
 | _,_,_=>False
section
variable {P:Program} [Tables P] {W:Nat→Prop} {N:Nat} {w0:Base P} {g:Where} {s:AS} {a:Act} {w:World} {wd pz:List Nat} {ds:List Deferred}
theorem sg {o:Oper} {F:Exit→AS→Prop} {Q:Exit→Act→World→Prop} {next:Act→World→Prop} (h:br W N w0 (fun n=>n < s.next) g s a w) (hv:l9 P o F s)
  (hQ: ∀ e g' s' a' w',br W N w0 (fun n=>n < s'.next) g' s' a' w'→F e s'→Q e a' w'):o.wp P a w next Q:=by
 obtain ⟨dst,op,type,pos,after,guard⟩:=o
 unfold l9 at hv
 simp only at hv
 split at hv
 ·rename_i f xs tys
  obtain ⟨hc,hv⟩:=hv
  unfold dV at hv
  split at hv
  ·exact hv.elim
  ·rename_i l hl
   have hargs:xs.map a.eval=(l.map (AV.ah g)).toArray:=by
    apply Array.ext'
    rw[Array.toList_map,(cB h _ _ hl).1]
   unfold Oper.wp
   rw[iy f xs tys dst type pos after guard a.eval rfl w,cq hc,hargs]
   simp only[Oper.upon]
   refine (hv W N w0 g a w h).mono ?_
   rintro e w' ⟨ch,g',s',rfl,bh,hk⟩
   exact hQ _ _ _ _ _ bh hk
 ·rename_i d xs tys
  unfold Ke at hv
  split at hv
  ·rename_i f caps S4
   obtain ⟨hc,hv⟩:=hv
   unfold dV at hv
   split at hv
   ·exact hv.elim
   ·rename_i l hl
    unfold uN at hl
    split at hl
    ·rename_i l1 l2 h1 h2
     cases hl
     have hargs:xs.map a.eval++(⟨caps.toList.map (jS g)⟩:Array Value)=((l1++l2).map (AV.ah g)).toArray:=by
      apply Array.ext'
      rw[Array.toList_append,Array.toList_map,(cB h _ _ h1).1, ← kD _ _ h2,List.map_append]
     unfold Oper.wp
     rw[rN d xs tys dst type pos after guard a.eval (f:=f) (cs:=⟨caps.toList.map (jS g)⟩) (h.eval (x:= .tmp d) S4) w,cq hc,hargs]
     simp only[Oper.upon]
     refine (hv W N w0 g a w h).mono ?_
     rintro e w' ⟨ch,g',s',rfl,bh,hk⟩
     exact hQ _ _ _ _ _ bh hk
    ·cases hl
  ·exact hv.elim
 ·rename_i x
  unfold MU at hv
  split at hv
  ·rename_i t v hx
   have he:=h.eval hx
   have he:a.eval x= .iface t v:=he
   have:(execOp a.eval { dst,op:= .panic x,type,pos,after,guard }).run P w= .halt (.panic (.iface t v)) w:=by
    simp only[execOp,he]
    rfl
   unfold Oper.wp
   rw[this]
   exact hQ _ _ _ _ _ h hv
  ·exact hv.elim
 ·exact hv.elim
theorem si {id:Nat} {ops:Array Oper} {F:Exit→AS→Prop} {Q:Exit→Act→World→Prop} (hok:ops.toList.all (lO N)=true) (h:br W N w0 (fun n=>n < s.next) g s a w) (hv:mN P wd (.region id ops false) F s)
  (hQ: ∀ g' s' a' w',br W N w0 (fun n=>n < s'.next) g' s' a' w'→F .normal s'→Q .normal a' w'):wpList P ops Q ops.toList a w:=by
 simp only[mN]at hv
 split at hv
 ·obtain ⟨h1,hv⟩:=hv
  have:=rV (base:=s.next) (K:=F .normal) (Q:=Q) hok h1 hQ ops.size 0 0 g s a w (by omega) (h.mono fun n hn=>by omega) hv
  simpa using this
 ·exact rO (K:=F .normal) (base:=s.next) hQ ops.toList 0 g s a w hok (by simpa using h) (by simpa only[vc] using hv)
theorem DW {id:Nat} {ops:Array Oper} {F:Exit→AS→Prop} {Q:Exit→Act→World→Prop} (hok:ops.toList.all (lO N)=true) (h:br W N w0 (fun n=>n < s.next) g s a w) (hv:mN P wd (.region id ops true) F s)
  (hQ: ∀ g' s' a' w',br W N w0 (fun n=>n < s'.next) g' s' a' w'→F .normal s'→Q .normal a' w'):P.follows .mixedOrders=true∧wpAny P .any ops Q ops.size (Array.replicate ops.size false) a { w with drawn:=w.drawn+1 }:=by
 simp only[mN]at hv
 split at hv
 ·obtain ⟨hm,⟨A,R,Z,F',dm,h1,h2,hv⟩ | ⟨A,R,Z,F',dm,pm,h1,h2,hv⟩ | ⟨A,R,Z,F',dm,pm,tr,h1,h3,h2,hv⟩⟩:=hv
  ·exact ⟨hm,vV (K:=F .normal) hok h1 h2 hQ h.drew hv⟩
  ·exact ⟨hm,tA (K:=F .normal) hok h1 h2 hQ h.drew hv⟩
  ·exact ⟨hm,tB (K:=F .normal) hok h1 h3 h2 hQ h.drew hv⟩
 ·simp only[oM]at hv
  rcases hv with hv | ⟨hm,t,ht,hv⟩
  ·simp only[vc]at hv
   exact ⟨hv.1.1,uX (K:=F .normal) (base:=s.next) hQ hv.1.2 hok h.drew hv.2⟩
  ·exact ⟨hm,vC (K:=F .normal) (base:=s.next) hQ ht hok h.drew hv⟩
theorem DX: ∀ (l:List Oper) (k n:Nat),k+l.length≤n→(df (Array.replicate n false) l k).length=l.length
 | [],k,n,_=>rfl
 | o::r,k,n,hk=>by
  simp only[List.length_cons]at hk
  have:(Array.replicate n false).getD k true=false:=by
   simp[Array.getD_eq_getD_getElem?,show k < n by omega]
  simp only[df,this,Bool.false_eq_true,if_false,List.length_cons]
  rw[DX r (k+1) n (by omega)]
theorem wJ (n:Nat):(Array.replicate n false).push false=Array.replicate (n+1) false:=by
 apply Array.ext'
 simp[List.replicate_succ']
theorem dC: ∀ (c:Code) (F:Exit→AS→Prop) (s:AS),codeOk N c=true→iX P wd pz c F s→ ∀ (g:Where) (a:Act) (w:World) (Q:Exit→Act→World→Prop),br W N w0 (fun n=>n < s.next) g s a w→
  (∀ e g' s' a' w',br W N w0 (fun n=>n < s'.next) g' s' a' w'→F e s'→Q e (kR ds a') w')→c.wp P Q (kR ds a) w
 | .seq x y,F,s,hok,hv,g,a,w,Q,h,hQ=>by
  simp only[codeOk,Bool.and_eq_true]at hok
  simp only[iX]at hv
  refine wp_seq (dC x _ s hok.1 hv g a w _ h fun e g' s' a' w' h' hk=> ?_)
  cases e with
  | normal=>exact dC y F s' hok.2 hk g' a' w' Q h' hQ
  | _=>exact hQ _ _ _ _ _ h' hk
 | .cond c x y,F,s,hok,hv,g,a,w,Q,h,hQ=>by
  simp only[codeOk,Bool.and_eq_true]at hok
  simp only[iX,lN]at hv
  split at hv
  ·rename_i b hb
   refine wp_cond_split (t:=b) (by rw[wH,h.eval hb];rfl) (fun ht=> ?_) (fun hf=> ?_)
   ·exact dC x F s hok.1 (hv.1 ht) g a w Q h hQ
   ·exact dC y F s hok.2 (hv.2 hf) g a w Q h hQ
  ·exact hv.elim
 | .block id c,F,s,hok,hv,g,a,w,Q,h,hQ=>by
  simp only[codeOk]at hok
  simp only[iX]at hv
  refine wp_block (dC c _ s hok hv g a w _ h fun e g' s' a' w' h' hk=> ?_)
  cases e with
  | exit id'=>
   simp only[eD]at hk
   simp only[Exit.inBlock]
   split
   ·rename_i e;rw[if_pos e]at hk;exact hQ _ _ _ _ _ h' hk
   ·rename_i e;rw[if_neg e]at hk;exact hQ _ _ _ _ _ h' hk
  | _=>exact hQ _ _ _ _ _ h' hk
 | .loop c,F,s,hok,hv,g,a,w,Q,h,hQ=>by
  simp only[codeOk]at hok
  simp only[iX]at hv
  obtain ⟨ι,st,μ,i₀,⟨r,hr,hid⟩,uk,hbody⟩:=hv
  have JB: ∀ (r:Nat→Nat),(∀ n,n < s.next→r n=n)→ ∀ i n,n < w0.pn→r n=n∧n < (st i).next:=fun r hid i n hn=>⟨hid n (h.pin n hn).1,Nat.lt_of_lt_of_le (h.pin n hn).1 (uk i)⟩
  let p:Act→World→Nat→Prop:=fun a w n=> ∃ i g a0,a=kR ds a0∧μ i=n∧br W N w0 (fun n=>n < (st i).next) g (st i) a0 w
  have hmin: ∀ a w,(∃ n,p a w n)→ ∃ n,p a w n∧ ∀ k,p a w k→n≤k:=fun a w hx=>mI _ hx
  have hm: ∃ m:Act→World→Nat, ∀ a w,(∃ n,p a w n)→p a w (m a w)∧ ∀ k,p a w k→m a w≤k:=by
   refine ⟨fun a w=>Classical.epsilon (fun n=>p a w n∧ ∀ k,p a w k→n≤k),fun a w hx=> ?_⟩
   exact Classical.epsilon_spec (hmin a w hx)
  obtain ⟨m,hm⟩:=hm
  refine wp_loop (fun a w=> ∃ n,p a w n) m ⟨_,i₀,_,a,rfl,rfl,h.eW hr (JB r hid i₀)⟩ (fun a1 w1 hI=> ?_)
  obtain ⟨⟨i,g1,a2,rfl,Xi,h1⟩,Ll⟩:=hm a1 w1 hI
  refine dC c _ (st i) hok (hbody i) g1 a2 w1 _ h1 fun e g' s' a' w' h' hk=> ?_
  cases e with
  | normal=>
   obtain ⟨j,hlt,r',hr',Lm⟩:=hk
   have hp:p (kR ds a') w' (μ j):=⟨j,_,a',rfl,rfl,h'.eW hr' (JB r' Lm j)⟩
   refine ⟨⟨_,hp⟩, ?_⟩
   have:=(hm _ w' ⟨_,hp⟩).2 _ hp
   omega
  | _=>exact hQ _ _ _ _ _ h' hk
 | .region id ops false,F,s,hok,hv,g,a,w,Q,h,hQ=>by
  refine wp_region_list (uo (Q:=fun e a w=>Q e (kR ds a) w) (fun _ _ _ h=>h) _ _ _ ?_)
  have go:mN P wd (.region id ops false) F s→wpList P ops (fun e a w=>Q e (kR ds a) w) ops.toList a w:=fun hv=>si hok h hv fun g' s' a' w' h' hk=>hQ _ _ _ _ _ h' hk
  unfold iX at hv
  split at hv
  ·rcases hv with hv | ⟨tI,hv⟩
   ·exact go hv
   ·unfold MV at hv
    split at hv
    ·rename_i o ho
     have wK:=sf ho
     obtain ⟨l⟩:=ops
     simp only at wK tI hv hok
     have Ih:=tI
     rw[wK,show (oy l++[o]).toArray=(oy l).toArray.push o by simp]at tI
     have hg:=tI
     simp only[Bc,Bool.and_eq_true,Array.toList_push,List.all_append,List.all_cons,List.all_nil,Bool.and_true,Option.isNone_iff_eq_none]at hg
     simp only[codeOk]at hok
     rw[wK]at hok
     simp only[List.all_append,Bool.and_eq_true]at hok
     show wpList P _ _ l a w
     rw[wK]
     refine zR (ops:=(oy l).toArray) _ _ _ hg.1.2.1 hg.1.2.2 (si hok.1 h hv fun g' s' a' w' h' hk=> ?_)
     exact sg h' hk hQ
    ·exact hv.elim
  ·exact go hv
 | .region id ops true,F,s,hok,hv,g,a,w,Q,h,hQ=>by
  have go:mN P wd (.region id ops true) F s→(Code.region id ops true).wp P Q (kR ds a) w:=fun hv=>by
   obtain ⟨hm,hv⟩:=DW (Q:=fun e a w=>Q e (kR ds a) w) hok h hv fun g' s' a' w' h' hk=>hQ _ _ _ _ _ h' hk
   exact wp_region_any hm (wI (fun _ _ _ h=>h) _ _ _ _ hv)
  unfold iX at hv
  split at hv
  ·rcases hv with hv | ⟨tI,hv⟩
   ·exact go hv
   ·unfold MV at hv
    split at hv
    ·rename_i o ho
     have wK:=sf ho
     obtain ⟨l⟩:=ops
     simp only at wK tI hv hok
     have QC:(⟨l⟩:Array Oper)=(oy l).toArray.push o:=by
      apply Array.ext'
      simpa using wK
     rw[show l.toArray=(⟨l⟩:Array Oper) from rfl,QC]at tI
     simp only[codeOk]at hok
     rw[wK]at hok
     simp only[List.all_append,Bool.and_eq_true]at hok
     obtain ⟨hm,hv⟩:=DW (Q:=Ii P o fun e a w=>Q e (kR ds a) w) hok.1 h hv fun g' s' a' w' h' hk=>sg h' hk hQ
     refine wp_region_any hm (wI (Q:=fun e a w=>Q e (kR ds a) w) (fun _ _ _ h=>h) _ _ _ _ ?_)
     have:=MR tI _ _ _ _ (by simp) (by rw[DX _ _ _ (by simp)];simp) (fun i p _ hi=>by
      simp[Array.getD_eq_getD_getElem?,Array.getElem?_replicate]at hi
      split at hi<;>cases hi) hv
     rw[wJ]at this
     rw[QC]
     simpa using this
    ·exact hv.elim
  ·exact go hv
 | .skip,F,s,_,hv,g,a,w,Q,h,hQ=>wp_skip (hQ _ _ _ _ _ h hv)
 | .exit id,F,s,_,hv,g,a,w,Q,h,hQ=>wp_exit (hQ _ _ _ _ _ h hv)
 | .ret,F,s,_,hv,g,a,w,Q,h,hQ=>wp_ret (hQ _ _ _ _ _ h hv)
 | .rangeFunc .., _,_,_,hv,_,_,_,_,_,_=>hv.elim
 | .scope _,_,_,_,hv,_,_,_,_,_,_=>hv.elim
 | .label _,_,_,_,hv,_,_,_,_,_,_=>hv.elim
 | .goto _,_,_,_,hv,_,_,_,_,_,_=>hv.elim
 | .refuse _,_,_,_,hv,_,_,_,_,_,_=>hv.elim
theorem Gh {o:Oper} {F F':Exit→AS→Prop} (h: ∀ e s,F e s→F' e s) (hv:l9 P o F s):l9 P o F' s:=by
 have hc: ∀ f xs,dV P f xs F s→dV P f xs F' s:=fun f xs hv=>by
  unfold dV at hv ⊢
  split at hv
  ·exact hv
  ·intro W N w0 g a w hr
   refine (hv W N w0 g a w hr).mono ?_
   rintro e w' ⟨ch,g',s',h1,h2,h3⟩
   exact ⟨ch,g',s',h1,h2,h _ _ h3⟩
 unfold l9 at hv ⊢
 split at hv
 ·exact ⟨hv.1,hc _ _ hv.2⟩
 ·unfold Ke at hv ⊢
  split at hv
  ·exact ⟨hv.1,hc _ _ hv.2⟩
  ·exact hv
 ·unfold MU at hv ⊢
  split at hv
  ·exact h _ _ hv
  ·exact hv
 ·exact hv
theorem jD: ∀ (c:Code) (F F':Exit→AS→Prop),(∀ e s,F e s→F' e s)→ ∀ s,iX P wd pz c F s→iX P wd pz c F' s
 | .region id ops dr,F,F',h,s,hv=>by
  unfold iX at hv ⊢
  split at hv
  ·rename_i e
   rw[if_pos e]
   rcases hv with hv | ⟨hl,hv⟩
   ·exact .inl (iI _ _ _ h s hv)
   ·refine .inr ⟨hl, ?_⟩
    unfold MV at hv ⊢
    split at hv
    ·exact iI _ _ _ (fun e s hs=>by
      cases e with
      | normal=>exact Gh h hs
      | _=>exact hs) s hv
    ·exact hv
  ·rename_i e;rw[if_neg e];exact iI _ _ _ h s hv
 | .seq x y,F,F',h,s,hv=>jD x _ _ (fun e s hs=>by
   cases e with
   | normal=>exact jD y _ _ h s hs
   | _=>exact h _ _ hs) s hv
 | .cond c x y,F,F',h,s,hv=>by
  unfold iX lN at hv ⊢
  split at hv
  ·exact ⟨fun ht=>jD x _ _ h s (hv.1 ht),fun hf=>jD y _ _ h s (hv.2 hf)⟩
  ·exact hv
 | .block id c,F,F',h,s,hv=>jD c _ _ (fun e s hs=>by
   cases e with
   | exit j=>
    simp only[eD]at hs ⊢
    split at hs
    ·rename_i e;rw[if_pos e];exact h _ _ hs
    ·rename_i e;rw[if_neg e];exact h _ _ hs
   | _=>exact h _ _ hs) s hv
 | .loop c,F,F',h,s,hv=>by
  obtain ⟨ι,st,μ,i₀,h0,uk,hb⟩:=hv
  refine ⟨ι,st,μ,i₀,h0,uk,fun i=>jD c _ _ (fun e s hs=> ?_) _ (hb i)⟩
  cases e with
  | normal=>exact hs
  | _=>exact h _ _ hs
 | .skip,F,F',h,s,hv=>h _ _ hv
 | .exit id,F,F',h,s,hv=>h _ _ hv
 | .ret,F,F',h,s,hv=>h _ _ hv
 | .rangeFunc .., _,_,_,_,hv=>hv.elim
 | .scope _,_,_,_,_,hv=>hv.elim
 | .label _,_,_,_,_,hv=>hv.elim
 | .goto _,_,_,_,_,hv=>hv.elim
 | .refuse _,_,_,_,_,hv=>hv.elim
theorem sj {c:Code} {F:Exit→AS→Prop} (n:Nat) (Inv:Nat→AS→Prop) (hnext: ∀ k t,Inv k t→s.next≤t.next)
  (h0: ∃ t,Inv 0 t∧lh s.next s t) (hstep: ∀ k t,k < n→Inv k t→iX P wd pz c (fa (fun s'=> ∃ t',Inv (k+1) t'∧lh s.next s' t') F) t) (hend: ∀ t,Inv n t→iX P wd pz c (fa (fun _=>False) F) t):kC (iX P wd pz c) F s:=
 zx (fun K K' t h hv=>jD c _ _ (fun e s hs=>by
  cases e with
  | normal=>exact h s hs
  | _=>exact hs) t hv) n Inv hnext h0 hstep hend
structure ud (P:Program) [Tables P] (f:Nat) (args:List AV) (k:Nat) (ins:Nat→Option aG) (ch:List PanicEntry) (Post:(Nat→Option aG)→Prop):Prop where
 body:au P f=true
 all: ∀ n,n < k→ ∃ b,ins n=some b
 um: ∀ n b,ins n=some b→n < k
 call: ∀ (W:Nat→Prop) (g:Where) (w:World),Laid P w→(∀ b bx,Tables.row P b=some bx→ ¬ W b)→cw g (jY ins) w→(∀ t b,ins t=some b→b.rw=true→W (g t).1)→
  Calls P f (args.map (AV.ah g)).toArray w fun e w'=> ∃ (v:AV) (out:Nat→Option aG) (g':Where),e= .panicked ch∧Post out∧(∀ n,n < k→g' n=g n)∧AV.ok (fun n=>n < k+0) v∧
   (∀ n b,out n=some b→n < k+0∧(k≤n→b.rw=true)∧ ∀ x ∈ b.cells,SV.ok (fun n=>n < k+0) x)∧cw g' (jY out) w'∧
   (∀ t b,out t=some b→b.rw=true→w.heap.size≤(g' t).1∨W (g' t).1)∧Frame W w w'
theorem bO {f:Nat} {fn:Func} {c:Code} (hf:P.funcs[f]? =some fn) (hb:fn.body=some c) (hok:codeOk fn.ntmps c=true) (wd pz:List Nat) {args:List AV} {k:Nat} {ins:Nat→Option aG}
  (hlen:args.length≤fn.ntmps) (hc:au P f=true) (hargs: ∀ v ∈ args,AV.ok (fun n=>n < k) v) (hall: ∀ n,n < k→ ∃ b,ins n=some b) (du: ∀ n b,ins n=some b→n < k∧ ∀ x ∈ b.cells,SV.ok (fun n=>n < k) x)
  {Post:AV→(Nat→Option aG)→Prop} (hv:iX P wd pz c (jX P fn.results.toList (nA k Post)) (start args ins k)):bC P f args k ins Post:=
 pD hf hb hlen hc hargs hall du fun W w0 hp g a w Q hr hQ=>by
  have:=dC (ds:=[]) c _ _ hok hv g a w Q hr fun e g' s' a' w' h' hk=>by
   rw[gB]
   exact hQ e g' s' a' w' h' hk
  rw[gB]at this
  exact this
def Bd (k:Nat) (ch:List PanicEntry) (Post:(Nat→Option aG)→Prop) (e:Exit) (s:AS):Prop:=match e with
 | .panic c=>c=ch∧ ∃ out,(∀ n b,out n=some b→n < k∧(∀ x ∈ b.cells,SV.ok (fun n=>n < k) x)∧ ∃ b',s.box n=some b'∧(b.rw=true→b'.rw=true)∧b'.cells=b.cells)∧Post out
 | _=>False
theorem tJ {f:Nat} {fn:Func} {c:Code} (hf:P.funcs[f]? =some fn) (hb:fn.body=some c) (hok:codeOk fn.ntmps c=true) (wd pz:List Nat) {args:List AV} {k:Nat} {ins:Nat→Option aG}
  (hlen:args.length≤fn.ntmps) (hc:au P f=true) (hargs: ∀ v ∈ args,AV.ok (fun n=>n < k) v) (hall: ∀ n,n < k→ ∃ b,ins n=some b) (du: ∀ n b,ins n=some b→n < k∧ ∀ x ∈ b.cells,SV.ok (fun n=>n < k) x)
  {ch:List PanicEntry} {Post:(Nat→Option aG)→Prop} (hv:iX P wd pz c (Bd k ch Post) (start args ins k)):ud P f args k ins ch Post:=by
 refine ⟨hc,hall,fun n b hb=>(du n b hb).1,fun W g w hlaid gR hm hown=> ?_⟩
 refine calls_of_wp hf hb ?_
 have:=dC (N:=fn.ntmps) (W:=W) (w0:=⟨w,k,g,hlaid⟩) (ds:=[]) c _ _ hok hv g { tmps:=(args.map (AV.ah g)).toArray++Array.replicate (fn.ntmps - (args.map (AV.ah g)).toArray.size) undef,defers:=[] } w (bodyPost P fn fun e w'=> ∃ (v:AV) (out:Nat→Option aG) (g':Where),e= .panicked ch∧Post out∧(∀ n,n < k→g' n=g n)∧AV.ok (fun n=>n < k+0) v∧
   (∀ n b,out n=some b→n < k+0∧(k≤n→b.rw=true)∧ ∀ x ∈ b.cells,SV.ok (fun n=>n < k+0) x)∧cw g' (jY out) w'∧
   (∀ t b,out t=some b→b.rw=true→w.heap.size≤(g' t).1∨W (g' t).1)∧Frame W w w') ⟨?_,rfl, ?_,⟨fun d v hd=> ?_,du⟩,⟨hm.lt,hm.cell,hm.free,hm.sep⟩,fun t b hb hrw=>Or.inr (hown t b hb hrw),Frame.refl _ _,fun k hk=>⟨hk,rfl⟩,gR⟩ ?_
 ·rw[gB]at this
  exact this
 ·simp;omega
 ·intro d v hd
  simp only[start]at hd
  have hlt:d < args.length:=(List.getElem?_eq_some_iff.1 hd).1
  rw[Array.getElem?_append_left (by simpa using hlt)]
  simp[hd]
 ·simp only[start]at hd
  exact hargs v (List.mem_of_getElem? hd)
 ·intro e g' s' a' w' h' hk
  rw[gB]
  cases e with
  | panic c=>
   obtain ⟨rfl,out,hout,hpost⟩:=hk
   have uY: ∀ n,n < k→g' n=g n:=fun n hn=>(h'.pin n hn).2
   refine ⟨h'.defers,B true,out,g',rfl,hpost,uY,trivial,fun n b hb=>⟨(hout n b hb).1,fun hk=>absurd (hout n b hb).1 (by omega),(hout n b hb).2.1⟩,⟨fun t b hb=> ?_,fun t b hb i v hv=> ?_,fun t b hb hrw i hi=> ?_,fun t t' b b' hb hrw hb' hne=> ?_⟩,fun t b hb hrw=> ?_,h'.frame⟩
   ·obtain ⟨_,_,b',h2,_⟩:=hout t b hb
    exact h'.mem.lt _ b' h2
   ·obtain ⟨_,_,b',h2,_,h4⟩:=hout t b hb
    exact h'.mem.cell _ b' h2 i v (by rw[h4];exact hv)
   ·obtain ⟨_,_,b',h2,h3,h4⟩:=hout t b hb
    exact h'.mem.free _ b' h2 (h3 hrw) i (by rw[h4];exact hi)
   ·obtain ⟨_,_,c1,h2,h3,_⟩:=hout t b hb
    obtain ⟨_,_,c2,h2',_,_⟩:=hout t' b' hb'
    exact h'.mem.sep _ _ c1 c2 h2 (h3 hrw) h2' hne
   ·obtain ⟨_,_,b',h2,h3,_⟩:=hout t b hb
    exact h'.own _ b' h2 (h3 hrw)
  | _=>exact hk.elim
def dw (P:Program) [Tables P] (rs:List ResultVar) (k:Nat) (flag:Bool) (ch:List PanicEntry) (Post:AV→(Nat→Option aG)→Prop) (rq:(Nat→Option aG)→Prop) (e:Exit) (s:AS):Prop:=
 if flag=true then Bd k ch rq e s else jX P rs (nA k Post) e s
theorem ud.oT {f k:Nat} {args l:List AV} {ins:Nat→Option aG} {ch:List PanicEntry} {Post:(Nat→Option aG)→Prop} (h:ud P f args k ins ch Post) (r:Nat→Nat) (ws:List Nat) (hfit:iW s r ins ws) (hl:l=args.map (AV.ren r))
  {F:Exit→AS→Prop} (hk: ∀ out,Post out→F (.panic ch) { s with box:=dL s r k 0 s.next ws out }):dV P f (some l) F s:=by
 intro W N w0 g a w bh
 rw[hl]
 refine (zH (E:=fun _=> .panicked ch) (m:=0) (Post:=fun _ out=>Post out) h.all h.um h.call bh hfit).mono ?_
 rintro e w' ⟨v,out,g',rfl,hpost,hsame,cM,hok,hnew⟩
 exact ⟨ch,g',_,rfl,cM,hk out hpost⟩
variable {F:Exit→AS→Prop}
theorem Il {a b:Code}:iX P wd pz (.seq a b) F s=iX P wd pz a (fa (iX P wd pz b F) F) s:=rfl
theorem DY {c:Operand} {a b:Code}:iX P wd pz (.cond c a b) F s=lN (s.aK c) (iX P wd pz a F) (iX P wd pz b F) s:=rfl
theorem zS {id:Nat} {c:Code}:iX P wd pz (.block id c) F s=iX P wd pz c (eD id F) s:=rfl
theorem DZ {c:Code}:iX P wd pz (.loop c) F s=kC (iX P wd pz c) F s:=rfl
theorem Im {id:Nat} {l:List Oper} {dr:Bool}:iX P wd pz (.region id l.toArray dr) F s=if pz.contains id=true then (mN P wd (.region id l.toArray dr) F s∨TX P wd id dr l F s) else mN P wd (.region id l.toArray dr) F s:=rfl
theorem D0:iX P wd pz .skip F s=F .normal s:=rfl
theorem D1 {id:Nat}:iX P wd pz (.exit id) F s=F (.exit id) s:=rfl
theorem Io:iX P wd pz .ret F s=F .ret s:=rfl
theorem Ip {a:Oper}:oy [a]=[]:=rfl
theorem Iq {a b:Oper} {l:List Oper}:oy (a::b::l)=a::oy (b::l):=rfl
theorem MW {a:Oper}:Gg [a]=some a:=rfl
theorem MX {a b:Oper} {l:List Oper}:Gg (a::b::l)=Gg (b::l):=rfl
theorem MY {o:Oper} {D:Oper→Prop}:MV (some o) D=D o:=rfl
theorem MZ {o:Oper}:RL P o F .normal s=l9 P o F s:=rfl
variable {dst:Option Nat} {ty:TypeId} {pos:String} {after:Array Edge} {gd:Option (Nat×Bool)}
theorem Ir {f:Nat} {xs:Array Operand} {tys:Array TypeId}:l9 P ⟨dst, .call ⟨.value (.func f),xs,tys⟩,ty,pos,after,gd⟩ F s=(au P f=true∧dV P f (bb s xs.toList) F s):=rfl
theorem Iu {d:Nat} {xs:Array Operand} {tys:Array TypeId}:l9 P ⟨dst, .call ⟨.value (.tmp d),xs,tys⟩,ty,pos,after,gd⟩ F s=Ke P (s.env d) (bb s xs.toList) F s:=rfl
theorem Iv {x:Operand}:l9 P ⟨dst, .panic x,ty,pos,after,gd⟩ F s=MU (s.aK x) F s:=rfl
theorem Iw {f:Nat} {l:List Value} {xs:Option (List AV)}:Ke P (some (V (.func (.func f) #[] ⟨l⟩))) xs F s=(au P f=true∧dV P f (uN xs (kB l)) F s):=rfl
theorem zT:s.aK (.const .nilFunc)=some (V .nilFunc):=rfl
theorem Ix {n:Nat}:([]:List Nat).contains n=false:=rfl
theorem D2 {a n:Nat} {l:List Nat}:(a::l).contains n=(n==a||l.contains n):=List.contains_cons
theorem Iy:(false=true)=False:=by simp
theorem QD {b:Bool}:(b||false)=b:=Bool.or_false b
theorem bm:type_of% @Il∧type_of% @DY∧type_of% @zS∧type_of% @DZ∧type_of% @Im∧type_of% @D0∧type_of% @D1∧type_of% @Io∧type_of% @Ip∧type_of% @Iq∧type_of% @MW∧type_of% @MX∧type_of% @MY∧type_of% @MZ∧type_of% @Ir∧type_of% @Iu∧type_of% @Iv∧type_of% @Iw∧type_of% @zT∧type_of% @Ix∧type_of% @D2∧type_of% @Iy∧type_of% @QD:=
 ⟨@Il, @DY, @zS, @DZ, @Im, @D0, @D1, @Io, @Ip, @Iq, @MW, @MX, @MY, @MZ, @Ir, @Iu, @Iv, @Iw, @zT, @Ix, @D2, @Iy, @QD⟩
end
end Go.bM
