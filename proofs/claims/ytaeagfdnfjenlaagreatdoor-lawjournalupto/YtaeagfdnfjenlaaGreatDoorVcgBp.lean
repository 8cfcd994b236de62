/-
  Regions by a plan where a call may make many boxes.
-/
import Derived.Test.YtaeagfdnfjenlaaGreatDoorVcgRv2
set_option linter.unusedSimpArgs false
set_option linter.unusedVariables false
namespace Go.cn
set_option linter.unusedSectionVars false
def slot (base q k:Nat):Nat:=base+(q+4)*(k+1)
theorem wI {base q k:Nat}:slot base q (k+1)=slot base q k+(q+4):=by
 unfold slot
 rw[Nat.mul_add (q+4) (k+1) 1,Nat.mul_one,Nat.add_assoc]
theorem V8 {base q k:Nat}:base≤slot base q k:=Nat.le_add_right ..
def gW (P:Program) [Tables P] (q:Nat) (nm f:Nat) (xs:Option (List AV)) (dst:Option Nat) (K:AS→Prop) (s:AS):Prop:=match xs with
 | none=>False
 | some l=> ∀ (W:Nat→Prop) (N:Nat) (w0:Base P) (g:Where) (a:Act) (w:World),bF W N w0 (fun n=>n < nm) g s a w→
   Calls P f (l.map (AV.ah g)).toArray w fun e w'=> ∃ v g' bx,e= .returned (AV.ah g' v)∧AV.ok (fun n=>n < nm+(q+4)) v∧bF W N w0 (fun n=>n < nm+(q+4)) g' { s with box:=bx } a w'∧
    (∀ t b,bx t=some b→b.rw=true∨ ∃ b0,s.box t=some b0∧g' t=g t)∧K (({ s with box:=bx }:AS).put dst (some v))
def Xo (P:Program) [Tables P] (q:Nat) (nm:Nat) (fv:Option AV) (xs:Option (List AV)) (dst:Option Nat) (K:AS→Prop) (s:AS):Prop:=match fv with
 | some (.inl (.inl (.inl (.func (.func f) ⟨[]⟩ caps))))=>ak P f=true∧gW P q nm f (uC xs (lh caps.toList)) dst K s
 | _=>False
def pA (P:Program) [Tables P] (q:Nat) (nm:Nat) (o:Oper) (K:AS→Prop) (s:AS):Prop:=match o.op with
 | .call ⟨.value (.func f),xs,_⟩=>if ak P f=true then gW P q nm f (bq s xs.toList) o.dst K s else n6 P f (bq s xs.toList) o.dst K s
 | .call ⟨.value (.tmp d),xs,_⟩=>Xo P q nm (s.env d) (bq s xs.toList) o.dst K s
 | .call ⟨.builtin .append,xs,tys⟩=>jF P nm .append tys o.type (xs.map isConst) (bq s xs.toList) o.dst K s
 | _=>cw P nm o K s
def ji (P:Program) [Tables P] (q:Nat) (ops:Array Oper) (base:Nat) (K:AS→Prop):List Nat→Nat→AS→Prop
 | [],k,s=>K { s with next:=slot base q k }
 | i::r,k,s=>match ops[i]? with
  | some o=>pA P q (slot base q k) o (ji P q ops base K r (k+1)) s
  | none=>False
def yI (P:Program) [Tables P] (q:Nat) (ops:Array Oper) (A R Z F dm:List Nat) (K:AS→Prop) (s:AS):Prop:=
 ij P ops s.next (fun sr=>ji P q ops s.next K (R++Z++F) 0 ⟨sr.env,nO dm s.box,s.next⟩) A ⟨uL (dstsOf ops (A++R++Z++F)) s.env,fun t=>DL (nO dm s.box t),s.next⟩
section
variable {P:Program} [Tables P] {W:Nat→Prop} {N:Nat} {w0:Base P} {M:Nat→Prop} {g:Where} {s:AS} {a:Act} {w:World} {ops:Array Oper} {nm q:Nat} {o:Oper}
theorem BG {f:Nat} {l:List AV} {dst:Option Nat} {K:AS→Prop} (hv:gW P q nm f (some l) dst K s) (h:bF W N w0 (fun n=>n < nm) g s a w):
  Calls P f (l.map (AV.ah g)).toArray w fun e w'=> ∃ v g' bx,e= .returned (AV.ah g' v)∧AV.ok (fun n=>n < nm+(q+4)) v∧bF W N w0 (fun n=>n < nm+(q+4)) g' { s with box:=bx } a w'∧
   (∀ β,β < w.heap.size→(∀ t b,s.box t=some b→(g t).1≠β)→w'.heap[β]? =w.heap[β]? ∧ ∀ t b,bx t=some b→(g' t).1≠β)∧(∀ t b,bx t=some b→b.rw=true∨ ∃ b0,s.box t=some b0∧g' t=g t)∧K (({ s with box:=bx }:AS).put dst (some v)):=by
 refine (hv _ N _ g a w (h.ik (pn:=nm) fun n hn=>hn)).mono ?_
 rintro e w' ⟨v,g',bx,rfl,hok,bk,hnew,hk⟩
 refine ⟨v,g',bx,rfl,hok,h.il (fun n hn=>hn) bk,fun β hβ hno=>⟨?_,fun t b hb=> ?_⟩,hnew,hk⟩
 ·exact bk.frame.block β hβ fun ⟨t,c,hc,_,e⟩=>hno t c hc e
 ·rcases hnew t b hb with hrw | ⟨b0,hb0,e⟩
  ·rcases bk.own t b hb hrw with h1 | ⟨t',c,hc,_,e⟩
   ·have h1':w.heap.size≤(g' t).1:=h1
    omega
   ·rw[← e];exact hno t' c hc
  ·rw[e];exact hno t b0 hb0
theorem Td {K:AS→Prop} {ap:Act} (hop:j3 o=true) (KK: ∀ f xs tys,o.op= .call ⟨.value (.func f),xs,tys⟩→ak P f=true) (hv:pA P q nm o K s) (h:bF W N w0 (fun n=>n < nm) g s ap w)
  (heq: ∀ x ∈ o.op.operands,a.eval x=ap.eval x) {next:Act→World→Prop} {Q:Exit→Act→World→Prop}
  (hN: ∀ v g' bx w',AV.ok (fun n=>n < nm+(q+4)) v→bF W N w0 (fun n=>n < nm+(q+4)) g' { s with box:=bx } ap w'→
   (∀ β,β < w.heap.size→(∀ t b,s.box t=some b→(g t).1≠β)→w'.heap[β]? =w.heap[β]? ∧ ∀ t b,bx t=some b→(g' t).1≠β)→(∀ t b,bx t=some b→b.rw=true∨ ∃ b0,s.box t=some b0∧g' t=g t)→K (({ s with box:=bx }:AS).put o.dst (some v))→next (a.put o.dst (AV.ah g' v)) w'):o.wp P a w next Q:=by
 have hsel: ∀ cs b,o.op≠ .select cs b:=fun cs b e=>by unfold j3 at hop;rw[e]at hop;cases hop
 have hex:=execOp_congr o hsel heq
 unfold Oper.wp
 rw[hex]
 obtain ⟨dst,op,type,pos,after,guard⟩:=o
 simp only at hop KK hN hv
 unfold pA at hv
 simp only at hv
 split at hv
 ·rename_i f xs tys
  rw[if_pos (KK f xs tys rfl)]at hv
  cases hargs:bq s xs.toList with
  | none=>rw[hargs]at hv;exact hv.elim
  | some l=>
   rw[hargs]at hv
   have hx1:xs.map ap.eval=(l.map (AV.ah g)).toArray:=by
    apply Array.ext'
    rw[Array.toList_map,(cE h _ _ hargs).1]
   rw[iD f xs tys dst type pos after guard ap.eval rfl w,cx (KK f xs tys rfl),hx1]
   simp only[Oper.upon]
   refine (BG hv h).mono ?_
   rintro e w' ⟨v,g',bx,rfl,hok,bk,hkeep,hnew,hk⟩
   exact hN v g' bx w' hok bk hkeep hnew hk
 ·rename_i d xs tys
  unfold Xo at hv
  split at hv
  ·rename_i f caps YW
   obtain ⟨hc,hv⟩:=hv
   cases hl:uC (bq s xs.toList) (lh caps.toList) with
   | none=>rw[hl]at hv;exact hv.elim
   | some l=>
    rw[hl]at hv
    unfold uC at hl
    split at hl
    ·rename_i l1 l2 h1 h2
     cases hl
     have hargs:xs.map ap.eval++(⟨caps.toList.map (kZ g)⟩:Array Value)=((l1++l2).map (AV.ah g)).toArray:=by
      apply Array.ext'
      rw[Array.toList_append,Array.toList_map,(cE h _ _ h1).1, ← ky _ _ h2,List.map_append]
     rw[qV d xs tys dst type pos after guard ap.eval (f:=f) (cs:=⟨caps.toList.map (kZ g)⟩) (h.eval (x:= .tmp d) YW) w,cx hc,hargs]
     simp only[Oper.upon]
     refine (BG hv h).mono ?_
     rintro e w' ⟨v,g',bx,rfl,hok,bk,hkeep,hnew,hk⟩
     exact hN v g' bx w' hok bk hkeep hnew hk
    ·cases hl
  ·exact hv.elim
 ·rename_i xs tys
  unfold jF at hv
  split at hv
  ·exact hv.elim
  ·rename_i l hl
   have hargs:xs.map ap.eval=(l.map (AV.ah g)).toArray:=by
    apply Array.ext'
    rw[Array.toList_map,(cE h _ _ hl).1]
   obtain ⟨v,g',bx,w',hrun,hok,bk,hnew,hk⟩:=hv _ N _ g ap w (h.ik (pn:=nm) fun n hn=>hn)
   have:(execOp ap.eval { dst,op:= .call ⟨.builtin .append,xs,tys⟩,type,pos,after,guard }).run P w= .ok (.value (AV.ah g' v)) w':=by
    simp only[execOp,resolve,Sem.run_bind,Sem.run_pure,Result.andThen_ok,invoke]
    refine Eq.trans (congrArg (fun c=>Sem.run P (builtin .append tys type c (xs.map ap.eval)) w) (?_:_=xs.map isConst)) ?_
    ·apply Array.map_congr_left;intro x _;cases x<;>rfl
    ·rw[hargs,hrun]
   rw[this]
   simp only[Oper.upon]
   exact hN v g' bx w' (AV.aL (fun n hn=>by omega) hok) ((h.il (fun n hn=>hn) bk).mono (fun n hn=>by omega)) (kR h bk hnew) hnew hk
 ·rename_i hn1 hn2 Vp
  by_cases Zf:isPure op=true
  ·rw[pure_run (o:=⟨dst,op,type,pos,after,guard⟩) Zf]at hv
   unfold bL at hv
   split at hv
   ·rename_i e he
    obtain ⟨v,rfl⟩:=vK (o:=⟨dst,op,type,pos,after,guard⟩) Zf he
    obtain ⟨g',w',r,hr⟩:=eH (P:=P) (o:=⟨dst,op,type,pos,after,guard⟩) (h.ik (pn:=nm) fun n hn=>hn) (Nat.lt_irrefl nm) he
    obtain ⟨H0,hok⟩:=hr.val
    rw[hr.run,H0]
    simp only[Oper.upon]
    have cF:bF (jc g s) N ⟨w,nm,g,h.laid⟩ (fun k=>k < nm+1) g' { s with box:=s.box } ap w':=hr.rep.mono (fun k hk=>by rcases hk with h | h<;>omega)
    have hnew: ∀ t b,s.box t=some b→b.rw=true∨ ∃ b0,s.box t=some b0∧g' t=g t:=fun t b hb=> .inr ⟨b,hb,hr.same t (h.names.box t b hb).1⟩
    exact hN v g' _ w' (AV.aL (fun k hk=>by rcases hk with h | h<;>omega) hok) ((h.il (fun n hn=>hn) cF).mono (fun k hk=>by omega)) (kR h cF hnew) hnew hv
   ·exact hv.elim
  by_cases hst:cB op=true
  ·obtain ⟨t,x,y,rfl⟩: ∃ t x y,op= .store t x y:=by
    cases op<;>first | exact ⟨_,_,_,rfl⟩ | (cases hst;done)
   have hdn:dst=none:=by
    unfold j3 at hop
    simpa[qw,isPure,cB] using hop
   subst hdn
   replace hv:bL (ea P nm s (.store t x y)) nm none K s:=hv
   unfold bL at hv
   split at hv
   ·rename_i e he
    have he':=he
    replace he':eU P s t (s.aS x) (s.aS y)=some e:=he'
    obtain ⟨b,bx,rfl,Zg⟩: ∃ b bx,e=(none,some (.inr (b,bx)))∧bx.rw=true:=by
     unfold eU at he'
     split at he'
     ·split at he'
      ·split at he'
       ·rename_i hc
        simp only[Option.some.injEq]at he'
        exact ⟨_,_,he'.symm,hc.1⟩
       ·cases he'
      ·cases he'
     ·cases he'
    obtain ⟨g',w',r,hr⟩:=eH (P:=P) (o:=⟨none, .store t x y,type,pos,after,guard⟩) (h.ik (pn:=nm) fun n hn=>hn) (Nat.lt_irrefl nm) he
    have H0:r= .skip:=hr.val
    rw[hr.run,H0]
    simp only[Oper.upon]
    have cF:bF (jc g s) N ⟨w,nm,g,h.laid⟩ (fun k=>k < nm+1) g' { s with box:=upd s.box b (some bx) } ap w':=hr.rep.mono (fun k hk=>by rcases hk with h | h<;>omega)
    have hnew: ∀ t b',upd s.box b (some bx) t=some b'→b'.rw=true∨ ∃ b0,s.box t=some b0∧g' t=g t:=fun t b' hb=>by
     unfold upd at hb
     split at hb
     ·cases hb;exact .inl Zg
     ·exact .inr ⟨b',hb,hr.same t (h.names.box t b' hb).1⟩
    exact hN (.inr []) g' _ w' (fun x hx=>nomatch hx) ((h.il (fun n hn=>hn) cF).mono (fun k hk=>by omega)) (kR h cF hnew) hnew hv
   ·exact hv.elim
  replace hop:qw op=true:=by
   unfold j3 at hop
   simpa[Zf,hst] using hop
  cases op<;>try (cases hop;done)
  case call c=>
   obtain ⟨cal,xs,tys⟩:=c
   cases cal with
   | value x=>cases x<;>first | exact absurd rfl (hn1 _ _ _) | exact absurd rfl (hn2 _ _ _) | cases hop
   | builtin b=>cases b<;>first | exact absurd rfl (Vp _ _) | cases hop
   | invoke=>cases hop
  case build t parts=>
   replace hv:bL (ea P nm s (.build t parts)) nm dst K s:=hv
   unfold bL at hv
   split at hv
   ·rename_i e he
    have he':=he
    replace he':fW P t s parts.toList=some e:=he'
    obtain ⟨v,rfl⟩: ∃ v,e=(some v,none):=by
     unfold fW at he'
     (repeat' split at he')<;>first | (simp only[Option.some.injEq]at he';exact ⟨_,he'.symm⟩) | cases he'
    obtain ⟨g',w',r,hr⟩:=eH (P:=P) (o:=⟨dst, .build t parts,type,pos,after,guard⟩) (h.ik (pn:=nm) fun n hn=>hn) (Nat.lt_irrefl nm) he
    obtain ⟨H0,hok⟩:=hr.val
    rw[hr.run,H0]
    simp only[Oper.upon]
    have cF:bF (jc g s) N ⟨w,nm,g,h.laid⟩ (fun k=>k < nm+1) g' { s with box:=s.box } ap w':=hr.rep.mono (fun k hk=>by rcases hk with h | h<;>omega)
    have hnew: ∀ t b,s.box t=some b→b.rw=true∨ ∃ b0,s.box t=some b0∧g' t=g t:=fun t b hb=> .inr ⟨b,hb,hr.same t (h.names.box t b hb).1⟩
    exact hN v g' _ w' (AV.aL (fun k hk=>by rcases hk with h | h<;>omega) hok) ((h.il (fun n hn=>hn) cF).mono (fun k hk=>by omega)) (kR h cF hnew) hnew hv
   ·exact hv.elim
  case buildSlice t n parts=>
   replace hv:bL (ea P nm s (.buildSlice t n parts)) nm dst K s:=hv
   unfold bL at hv
   split at hv
   ·rename_i e he
    have he':=he
    replace he':eZ nm (pT P t) n s parts.toList=some e:=he'
    obtain ⟨l,rfl⟩: ∃ l,e=(some (Sl nm 0 n n),some (.inl l)):=by
     unfold eZ at he'
     split at he'
     ·split at he'
      ·split at he'
       ·cases he';exact ⟨_,rfl⟩
       ·cases he'
      ·cases he'
     ·cases he'
    obtain ⟨g',w',r,hr⟩:=eH (P:=P) (o:=⟨dst, .buildSlice t n parts,type,pos,after,guard⟩) (h.ik (pn:=nm) fun n hn=>hn) (Nat.lt_irrefl nm) he
    obtain ⟨H0,hok⟩:=hr.val
    rw[hr.run,H0]
    simp only[Oper.upon]
    have cF:bF (jc g s) N ⟨w,nm,g,h.laid⟩ (fun k=>k < nm+1) g' { s with box:=upd s.box nm (some ⟨true,l⟩) } ap w':=hr.rep.mono (fun k hk=>by rcases hk with h | h<;>omega)
    have hnew: ∀ t b,upd s.box nm (some ⟨true,l⟩) t=some b→b.rw=true∨ ∃ b0,s.box t=some b0∧g' t=g t:=fun t b hb=>by
     unfold upd at hb
     split at hb
     ·cases hb;exact .inl rfl
     ·rename_i e
      exact .inr ⟨b,hb,hr.same t (h.names.box t b hb).1⟩
    exact hN (Sl nm 0 n n) g' _ w' (AV.aL (fun k hk=>by rcases hk with h | h<;>omega) hok) ((h.il (fun n hn=>hn) cF).mono (fun k hk=>by omega)) (kR h cF hnew) hnew hv
   ·exact hv.elim
theorem LN {K:AS→Prop} (h:bF W N w0 (fun n=>n < nm) g s a w) (hd: ∀ d,o.dst=some d→d < N) (hv:pA P q nm o K s)
  {next:Act→World→Prop} {Q:Exit→Act→World→Prop} (hK: ∀ g' s' a' w',bF W N w0 (fun n=>n < nm+(q+4)) g' s' a' w'→K s'→next a' w'):o.wp P a w next Q:=by
 unfold pA at hv
 obtain ⟨dst,op,type,pos,after,guard⟩:=o
 simp only at hv hd
 split at hv
 ·rename_i f xs tys
  have hargs: ∀ l,bq s xs.toList=some l→xs.map a.eval=(l.map (AV.ah g)).toArray:=fun l hl=>by
   apply Array.ext'
   rw[Array.toList_map,(cE h _ _ hl).1]
  split at hv
  ·rename_i hc
   unfold gW at hv
   split at hv
   ·exact hv.elim
   ·rename_i l hl
    unfold Oper.wp
    rw[iD f xs tys dst type pos after guard a.eval rfl w,cx hc,hargs l hl]
    simp only[Oper.upon]
    refine (hv W N w0 g a w h).mono ?_
    rintro e w' ⟨v,g',bx,rfl,hok,bk,_,hk⟩
    exact hK g' _ _ _ (bk.put hd hok) hk
  ·exact jJ (o:=⟨dst, .call ⟨.value (.func f),xs,tys⟩,type,pos,after,guard⟩) h hd (by unfold cw;simp only;rw[if_neg (by assumption)];exact hv) fun g' s' a' w' hr hk=>hK g' s' a' w' (hr.mono fun n hn=>by omega) hk
 ·rename_i d xs tys
  refine Td (q:=q) (o:=⟨dst, .call ⟨.value (.tmp d),xs,tys⟩,type,pos,after,guard⟩) rfl (fun f xs tys e=>by cases e) (K:=K) (by unfold pA;exact hv) h (fun _ _=>rfl) fun v g' bx w' hok bk _ _ hk=> ?_
  exact hK g' _ _ _ (bk.put hd hok) hk
 ·rename_i xs tys
  refine Td (q:=q) (o:=⟨dst, .call ⟨.builtin .append,xs,tys⟩,type,pos,after,guard⟩) rfl (fun f xs tys e=>by cases e) (K:=K) (by unfold pA;exact hv) h (fun _ _=>rfl) fun v g' bx w' hok bk _ _ hk=> ?_
  exact hK g' _ _ _ (bk.put hd hok) hk
 ·exact jJ h hd hv fun g' s' a' w' hr hk=>hK g' s' a' w' (hr.mono fun n hn=>by omega) hk
theorem Oq {base:Nat} {K:AS→Prop} {Q:Exit→Act→World→Prop} (hs:Static ops N) (hK: ∀ g' s' a' w',bF W N w0 (fun n=>n < s'.next) g' s' a' w'→K s'→Q .normal a' w'):
  ∀ (F:List Nat) (k fuel:Nat) (L:Array Bool) (g:Where) (s:AS) (a:Act) (w:World),gG ops F=true→L.size=ops.size→(dF L ops.toList 0).length=fuel→(∀ i,i < ops.size→(L.getD i false=true↔i ∉ F))→(∀ i ∈ F,i < ops.size)→Down ops L→
   bF W N w0 (fun n=>n < slot base q k) g s a w→ji P q ops base K F k s→wpAny P .any ops Q fuel L a w
 | [],k,fuel,L,g,s,a,w,_,hsz,hf,hl,_,_,h,hv=>by
  rw[E6 fun i hi=>(hl i hi).2 (by simp)]at hf
  subst hf
  have hr:Region.ready .any ops L=[]:=by
   cases hr:Region.ready .any ops L with
   | nil=>rfl
   | cons i r=>
    exfalso
    obtain ⟨h1,o,ho,_⟩:=mem_ready.1 (show i ∈ Region.ready .any ops L by rw[hr];simp)
    exact Vt h1 ((hl i (Array.getElem?_eq_some_iff.1 ho).1).2 (by simp))
  exact ⟨hr,hK _ _ _ _ (h.next _) hv⟩
 | i::r,k,fuel,L,g,s,a,w,hc,hsz,hf,hl,hF,fX,h,hv=>by
  simp only[gG,Bool.and_eq_true]at hc
  have Zi: ∀ j ∈ r,waits ops ops.size j i=true:=List.all_eq_true.1 hc.1
  have hin:i ∉ r:=fun hm=>by have:=mH hs.lt _ _ _ (Zi i hm);omega
  have KN:=hF i (by simp)
  have hiu:L.getD i true=false:=Vu (by omega) fun hx=>(hl i KN).1 hx (by simp)
  cases Cl:ops[i]? with
  | none=>rw[Array.getElem?_eq_none_iff]at Cl;omega
  | some o=>
   have qx: ∀ e ∈ o.after,Region.binds .any e=true→L.getD e.on false=true:=fun e he hb=>by
    have hlt:=hs.lt i o Cl e he hb
    refine (hl e.on (by omega)).2 fun hm=> ?_
    rcases List.mem_cons.1 hm with h1 | h1
    ·omega
    ·have:=mH hs.lt _ _ _ (Zi e.on h1);omega
   rw[mI hiu Cl]at hf
   subst hf
   refine ⟨fun hr=> ?_,fun j hj=> ?_⟩
   ·have:i ∈ Region.ready .any ops L:=mem_ready.2 ⟨hiu,o,Cl,qx⟩
    rw[hr]at this;cases this
   ·obtain ⟨h1,oj,Pf,hej⟩:=mem_ready.1 hj
    have hjF:j ∈ i::r:=Classical.byContradiction fun hx=>Vt h1 ((hl j (Array.getElem?_eq_some_iff.1 Pf).1).2 hx)
    have hji:j=i:=by
     rcases List.mem_cons.1 hjF with h2 | h2
     ·exact h2
     ·exact absurd (fN fX ops.size j i oj Pf hej (Zi j h2)) fun hx=>Vt hiu hx
    subst hji
    rw[Cl]at Pf;cases Pf
    unfold ji at hv
    rw[Cl]at hv
    simp only at hv
    refine lT Cl (hs.gd j o Cl) (LN h (hs.dN j o Cl) hv fun g' s' a' w' bk hk=> ?_)
    refine Oq hs hK r (k+1) _ _ g' s' a' w' hc.2 (by simpa using hsz) rfl (fun x hx=> ?_) (fun x hx=>hF x (by simp[hx])) (fX.set (by omega) Cl qx) (bk.mono fun n hn=>by have:= @wI base q k;omega) hk
    rw[E5 (by omega),hl x hx]
    constructor
    ·rintro (rfl | h2)
     ·exact hin
     ·exact fun h3=>h2 (by simp[h3])
    ·intro h2
     by_cases e:x=j
     ·exact .inl e
     ·exact .inr fun h3=>(List.mem_cons.1 h3).elim e h2
theorem Te {base:Nat} {K:AS→Prop} {F:List Nat} {βf:Nat→Nat}: ∀ (Z:List Nat) (k:Nat) (g:Where) (s:AS),Z.Nodup→(∀ i ∈ Z,Nj P ops w0.heap.size g s a w i (βf i))→(∀ i ∈ Z, ∀ j ∈ Z,i≠j→βf i≠βf j)→
   bF W N w0 (fun n=>n < slot base q k) g s a w→ji P q ops base K (Z++F) k s→ ∃ g' s',bF W N w0 (fun n=>n < slot base q (k+Z.length)) g' s' a w∧ji P q ops base K F (k+Z.length) s'
 | [],k,g,s,_,_,_,h,hv=>⟨g,s,h,hv⟩
 | i::r,k,g,s,hnd,hm,hi,h,hv=>by
  obtain ⟨⟨o,t,d,zl,ho,hop,hd,hz,RJ,hcell⟩,hlo,hhi,hno⟩:=hm i (by simp)
  rw[List.nodup_cons]at hnd
  simp only[List.cons_append,ji,ho]at hv
  have H3:bL (iA P (slot base q k) t) (slot base q k) o.dst (ji P q ops base K (r++F) (k+1)) s:=by
   obtain ⟨dst,op,type,pos,after,guard⟩:=o
   simp only at hop;subst hop
   exact hv
  unfold iA at H3
  rw[hz]at H3
  simp only at H3
  split at H3
  ·rename_i hall
   rw[hd]at H3
   have bk:=h.WQ (nm:=slot base q k) (Nat.lt_irrefl _) hall (yR hz) hlo hhi hcell hno RJ
   obtain ⟨g',s',h1,h2⟩:=Te r (k+1) _ _ hnd.2 (fun j hj=>by
     obtain ⟨e1,e2,e3,e4⟩:=hm j (by simp[hj])
     refine ⟨e1,e2,e3,fun t' b hb=> ?_⟩
     have hne:=hi i (by simp) j (by simp[hj]) (fun e=>hnd.1 (e▸hj))
     have hb':upd s.box (slot base q k) (some (⟨true,zl.map Sum.inl⟩:aI)) t'=some b:=hb
     by_cases et:t'=slot base q k
     ·subst et;rw[aQ];exact hne
     ·rw[bh _ _ _ _ et]at hb' ⊢;exact e4 t' b hb') (fun x hx y hy=>hi x (by simp[hx]) y (by simp[hy])) (bk.mono fun n hn=>by have:= @wI base q k;omega) H3
   exact ⟨g',s',by rw[show k+(i::r).length=k+1+r.length by simp;omega];exact h1,by rw[show k+(i::r).length=k+1+r.length by simp;omega];exact h2⟩
  ·exact H3.elim
structure Z6 (P:Program) [Tables P] (q:Nat) (W1:Nat→Prop) (N:Nat) (w1:Base P) (ops:Array Oper) (base:Nat) (A R Z F:List Nat) (env:Nat→Option AV) (g0:Where) (pm:List Nat) (L:Array Bool) (done rem:List Nat) (g:Where) (sp:AS) (ap a:Act) (w:World) (βf:Nat→Nat):Prop where
 main:bF W1 N w1 (fun n=>n < slot base q done.length) g sp ap w
 link: ∀ d:Nat,(∀ i ∈ A, ¬ L.getD i false=true→d ∉ fm ops i)→ap.tmps[d]? =a.tmps[d]?
 zW:a.tmps.size=N
 Pw:a.defers=[]
 E7: ∀ d ∈ dstsOf ops A,sp.env d=env d
 E8: ∀ d ∈ dstsOf ops Z,sp.env d=none
 ro: ∀ d v,env d=some v→(∀ i ∈ A, ¬ L.getD i false=true→d ∉ fm ops i)→a.tmps[d]? =some (AV.ah g0 v)
 zs: ∀ i ∈ Z,L.getD i false=true→Nj P ops w1.heap.size g sp a w i (βf i)
 zi: ∀ i ∈ Z, ∀ j ∈ Z,L.getD i false=true→L.getD j false=true→i≠j→βf i≠βf j
 lD: ∀ i ∈ done,L.getD i false=true
 lR: ∀ i ∈ rem, ¬ L.getD i false=true
 lF: ∀ i ∈ F, ¬ L.getD i false=true
 ap: ∀ p ∈ pm, ∀ t b,sp.box t=some b→t≠p→(g t).1≠(g0 p).1
theorem Tf {A R Z F:List Nat} {base:Nat} {Q:Exit→Act→World→Prop} {s0 sr:AS} {g0:Where} {a0:Act} {wS:World} {hl:Laid P wS} {pm:List Nat} {V:List Nat→Nat→AS→Prop} (hs:Static ops N) (hp:zX P ops A R Z F)
  (h0:bF W N w0 (fun n=>n < base) g0 s0 a0 wS)
  (qZ: ∀ i ∈ A, ∃ o d v,ops[i]? =some o∧o.dst=some d∧sr.env d=some v∧ea P base sr o.op=some (some v,none)∧AV.ok (fun n=>n < base) v) (UU:Names (fun n=>n < base) sr) (hsb:sr.box=fun t=>DL (s0.box t))
  (hsD: ∀ d ∈ dstsOf ops (R++Z++F),sr.env d=none) (KO: ∀ p ∈ pm,(g0 p).1 < wS.heap.size∧ ¬ jc g0 s0 (g0 p).1)
  (hV: ∀ i r k s o,V (i::r) k s→ops[i]? =some o→pA P q (slot base q k) o (V r (k+1)) s)
  (hend: ∀ (fuel:Nat) (L:Array Bool) (done rem:List Nat) (g:Where) (sp:AS) (ap a:Act) (w:World) (βf:Nat→Nat),R=done++rem→L.size=ops.size→(dF L ops.toList 0).length=fuel→Down ops L→
   Z6 P q (jc g0 s0) N ⟨wS,base,g0,hl⟩ ops base A R Z F sr.env g0 pm L done rem g sp ap a w βf→V rem done.length sp→(∀ i,i ∈ A∨i ∈ R∨i ∈ Z→L.getD i false=true)→wpAny P .any ops Q fuel L a w):
  ∀ (fuel:Nat) (L:Array Bool) (done rem:List Nat) (g:Where) (sp:AS) (ap a:Act) (w:World) (βf:Nat→Nat),R=done++rem→L.size=ops.size→(dF L ops.toList 0).length=fuel→Down ops L→
   Z6 P q (jc g0 s0) N ⟨wS,base,g0,hl⟩ ops base A R Z F sr.env g0 pm L done rem g sp ap a w βf→V rem done.length sp→wpAny P .any ops Q fuel L a w:=by
 intro fuel
 induction fuel with
 | zero=>
  intro L done rem g sp ap a w βf hR hsz hf fX hI hv
  exact hend 0 L done rem g sp ap a w βf hR hsz hf fX hI hv (fun i hi=>by
   refine zZ hsz (List.length_eq_zero_iff.1 hf) ?_
   rcases hi with h | h | h
   ·obtain ⟨o,d,ho,_⟩:=hp.WR i h
    exact (Array.getElem?_eq_some_iff.1 ho).1
   ·obtain ⟨o,ho,_⟩:=hp.inR i h
    exact (Array.getElem?_eq_some_iff.1 ho).1
   ·obtain ⟨o,t,d,ho,_⟩:=hp.inZ i h
    exact (Array.getElem?_eq_some_iff.1 ho).1)
 | succ fuel ih=>
  intro L done rem g sp ap a w βf hR hsz hf fX hI hv
  by_cases hall: ∀ i,i ∈ A∨i ∈ R∨i ∈ Z→L.getD i false=true
  ·exact hend _ L done rem g sp ap a w βf hR hsz hf fX hI hv hall
  refine ⟨fun hr=>absurd hr (Aa hs hsz fun h=>by rw[h]at hf;simp at hf),fun i hi=> ?_⟩
  obtain ⟨hun,o,ho,qx⟩:=mem_ready.1 hi
  have KN:i < ops.size:=(Array.getElem?_eq_some_iff.1 ho).1
  have Vv:i < L.size:=by omega
  have QS: ¬ L.getD i false=true:=fun h=>Vt hun h
  have hw: ∀ j,waits ops ops.size i j=true→L.getD j false=true:=fun j h=>fN fX ops.size i j o ho qx h
  have hfuel:(dF (L.setIfInBounds i true) ops.toList 0).length=fuel:=by have:=mI hun ho;omega
  have sI:=fX.set Vv ho qx
  have hsz':(L.setIfInBounds i true).size=ops.size:=by simpa using hsz
  have keep: ∀ j,L.getD j false=true→(L.setIfInBounds i true).getD j false=true:=fun j h=>(E5 Vv j).2 (.inr h)
  have back: ∀ j,j≠i→(L.setIfInBounds i true).getD j false=true→L.getD j false=true:=fun j hj h=>((E5 Vv j).1 h).resolve_left hj
  have unl: ∀ j ∈ A, ∀ x,(∀ j ∈ A, ¬ (L.setIfInBounds i true).getD j false=true→x ∉ fm ops j)→x ∉ fm ops i→ ¬ L.getD j false=true→x ∉ fm ops j:=fun j hj x h1 h2 h3=>by
   by_cases e:j=i
   ·rw[e];exact h2
   ·exact h1 j hj fun h4=>h3 (back j e h4)
  rcases hp.all i KN with hA | yg | hZ | hF
  ·
   obtain ⟨o',d,v,ho',hd,Vw,Km,H2⟩:=qZ i hA
   rw[ho]at ho';cases ho'
   obtain ⟨o',d',ho',hpure,hd',RI,sJ⟩:=hp.WR i hA
   rw[ho]at ho';cases ho'
   rw[hd]at hd';cases hd'
   have hop: ∀ x ∈ o.looksAt ops,opened ops A L sr.env x=sr.env x:=fun x hx=>zY fun j hj qy yh=>qy (hw j (sJ j hj x yh hx))
   have hro:=vM h0 hI.main (env:=opened ops A L sr.env) hI.zW hI.Pw (fun x u hu=>hI.ro x u (jO hu).1 (jO hu).2) (fun x u hu=>UU.env x u (jO hu).1) 0
   have he2:ea P base ⟨opened ops A L sr.env,fun t=>DL (s0.box t),0⟩ o.op=some (some v,none):=by
    rw[← Km]
    exact (EZ UU (fun x hx=>(hop x hx).symm) hsb).symm
   obtain ⟨g',w',r,hrun,hsame,bk,hval,_⟩:=eH (o:=o) hro (Nat.lt_irrefl base) he2
   have n8:Kept w w':=bk.frame
   have RK:AV.ah g' v=AV.ah g0 v:=AV.bu (AV.aL (fun n hn=>hsame n hn) H2)
   have E0:d < N:=hs.dN i o ho d hd
   refine lT ho (hs.gd i o ho) ?_
   unfold Oper.wp
   rw[hrun,hval]
   simp only[Oper.upon]
   rw[hd,RK]
   have H4:=fun x=>kS (a:=a) (u:=AV.ah g0 v) (x:=x) (d:=d) (by rw[hI.zW];exact E0)
   have hap:ap.tmps[d]? =some (AV.ah g0 v):=by
    have h1:=hI.main.env d v (by rw[hI.E7 d (dw ho hd hA)];exact Vw)
    rw[h1]
    exact congrArg some (AV.bu (AV.aL (fun n hn=>(hI.main.pin n hn).2) H2))
   refine ih _ done rem g sp ap _ w' βf hR hsz' hfuel sI ⟨hI.main.kept n8,fun x hx=> ?_,by rw[gZ];exact hI.zW,by rw[put_defers];exact hI.Pw,hI.E7,hI.E8,fun x u hu hx=> ?_,fun j hj qy=> ?_,fun j hj k hk h1 h2=> ?_,fun j hj=>keep j (hI.lD j hj),fun j hj h=> ?_,fun j hj h=> ?_,hI.ap⟩ hv
   ·rw[H4]
    split
    ·rename_i e;subst e;exact hap
    ·rename_i e
     exact hI.link x fun j hj=>unl j hj x hx fun h=>e (dst_eq ho hd h)
   ·rw[H4]
    split
    ·rename_i e;subst e;rw[Vw]at hu;cases hu;rfl
    ·rename_i e
     exact hI.ro x u hu fun j hj=>unl j hj x hx fun h=>e (dst_eq ho hd h)
   ·have hji:j≠i:=fun e=>hp.jA i hA (p8 (.inr (.inl (e▸hj))))
    obtain ⟨⟨oj,t,dj,zl,k1,k2,k3,k4,k5,k6⟩,k7,k8,k9⟩:=hI.zs j hj (back j hji qy)
    have Qy:dj≠d:=fun e=>hp.dA d (dw ho hd hA) (by rw[cu,cu];exact List.mem_append_left _ (List.mem_append_right _ (e▸dw k1 k3 hj)))
    exact ⟨⟨oj,t,dj,zl,k1,k2,k3,k4,by rw[H4,if_neg Qy];exact k5,by rw[n8.heap k8];exact k6⟩,k7,Nat.lt_of_lt_of_le k8 n8.size,k9⟩
   ·have e1:j≠i:=fun e=>hp.jA i hA (p8 (.inr (.inl (e▸hj))))
    have e2:k≠i:=fun e=>hp.jA i hA (p8 (.inr (.inl (e▸hk))))
    exact hI.zi j hj k hk (back j e1 h1) (back k e2 h2)
   ·have e1:j≠i:=fun e=>hp.jA i hA (p8 (.inl (by rw[hR, ← e];simp[hj])))
    exact hI.lR j hj (back j e1 h)
   ·have e1:j≠i:=fun e=>hp.jA i hA (p8 (.inr (.inr (e▸hj))))
    exact hI.lF j hj (back j e1 h)
  ·
   have hnd:i ∉ done:=fun h=>QS (hI.lD i h)
   have H5:i ∈ rem:=by rw[hR]at yg;exact (List.mem_append.1 yg).resolve_left hnd
   cases rem with
   | nil=>cases H5
   | cons r0 rest=>
    have hc:=DR (hR▸hp.cR:gG ops (done++r0::rest)=true)
    simp only[gG,Bool.and_eq_true]at hc
    have hi0:i=r0:=by
     rcases List.mem_cons.1 H5 with h | h
     ·exact h
     ·exact absurd (hw r0 (List.all_eq_true.1 hc.1 i h)) (hI.lR r0 (by simp))
    subst hi0
    obtain ⟨o',ho',hop,uM,sJ⟩:=hp.inR i yg
    rw[ho]at ho';cases ho'
    replace hv:=hV _ _ _ _ _ hv ho
    ·have hx1: ∀ x ∈ o.op.operands,a.eval x=ap.eval x:=fun x hx=>(DQ fun t ht=>hI.link t fun j hj qy yh=>qy (hw j (sJ j hj t yh (jK hx ht)))).symm
     refine lT ho (hs.gd i _ ho) ?_
     refine Td hop uM hv hI.main hx1 fun v g' bx w' hok bk hkeep hnew hk=> ?_
     obtain ⟨dst,op,type,pos,after,guard⟩:=o
     simp only
     have E0: ∀ x,dst=some x→x < N:=fun x hx=>hs.dN i _ ho x hx
     have vN: ∀ (b:Act) (x:Nat),b.tmps.size=N→(b.put dst (AV.ah g' v)).tmps[x]? =if dst=some x then some (AV.ah g' v) else b.tmps[x]? :=fun b x hb=>by
      cases dst with
      | none=>simp[Act.put]
      | some d=>
       rw[kS (by rw[hb];exact E0 d rfl)]
       by_cases e:x=d
       ·subst e;simp
       ·rw[if_neg e,if_neg (fun h=>e (Option.some.inj h).symm)]
     have jX: ∀ x,dst≠some x→(({ sp with box:=bx }:AS).put dst (some v)).env x=sp.env x:=fun x hx=>by
      cases dst with
      | none=>rfl
      | some d=>exact bh _ _ _ _ fun e=>hx (by rw[e])
     have hnd: ∀ x,x ∈ dstsOf ops A→dst≠some x:=fun x hx e=>hp.dA x hx (by rw[cu,cu];exact List.mem_append_left _ (List.mem_append_left _ (dw ho e yg)))
     have RL: ∀ x,x ∈ dstsOf ops Z→dst≠some x:=fun x hx e=>hp.dR x (dw ho e yg) hx
     have hlen:(done++[i]).length=done.length+1:=by simp
     refine ih _ (done++[i]) rest g' _ _ _ w' βf (by rw[hR];simp) hsz' hfuel sI ⟨(bk.put E0 hok).mono (fun n hn=>by rw[hlen,wI];exact hn),fun x hx=> ?_,by rw[gZ];exact hI.zW,by rw[put_defers];exact hI.Pw,fun x hx=> ?_,fun x hx=> ?_,fun x u hu hx=> ?_,fun j hj qy=> ?_,fun j hj k hk h1 h2=> ?_,fun j hj=> ?_,fun j hj h=> ?_,fun j hj h=> ?_,fun p YR t b hb hne=> ?_⟩ (by rw[hlen];exact hk)
     ·rw[vN ap x hI.main.size,vN a x hI.zW]
      split
      ·rfl
      ·exact hI.link x fun j hj qy=>hx j hj fun h=>qy (back j (fun e=>hp.jA j hj (p8 (.inl (e▸yg)))) h)
     ·rw[jX x (hnd x hx)];exact hI.E7 x hx
     ·rw[jX x (RL x hx)];exact hI.E8 x hx
     ·rw[vN a x hI.zW]
      split
      ·rename_i e
       have:=hsD x (by rw[cu,cu];exact List.mem_append_left _ (List.mem_append_left _ (dw ho e yg)))
       rw[this]at hu;cases hu
      ·exact hI.ro x u hu fun j hj qy=>hx j hj fun h=>qy (back j (fun e=>hp.jA j hj (p8 (.inl (e▸yg)))) h)
     ·have hji:j≠i:=fun e=>hp.jR i yg (by simp[← e,hj])
      obtain ⟨⟨oj,t,dj,zl,k1,k2,k3,k4,k5,k6⟩,k7,k8,k9⟩:=hI.zs j hj (back j hji qy)
      obtain ⟨m1,m2⟩:=hkeep _ k8 k9
      have Zj:βf j < w'.heap.size:=by
       have:w'.heap[βf j]? =some (.cells zl.toArray t (0,0)):=m1.trans k6
       exact (Array.getElem?_eq_some_iff.1 this).1
      refine ⟨⟨oj,t,dj,zl,k1,k2,k3,k4, ?_,m1.trans k6⟩,k7,Zj,fun t' b hb=> ?_⟩
      ·rw[vN a dj hI.zW,if_neg (RL dj (dw k1 k3 hj))];exact k5
      ·refine m2 t' b ?_
       cases dst<;>exact hb
     ·have e1:j≠i:=fun e=>hp.jR i yg (by simp[← e,hj])
      have e2:k≠i:=fun e=>hp.jR i yg (by simp[← e,hk])
      exact hI.zi j hj k hk (back j e1 h1) (back k e2 h2)
     ·rcases List.mem_append.1 hj with h | h
      ·exact keep j (hI.lD j h)
      ·rw[List.mem_singleton.1 h];exact (E5 Vv i).2 (.inl rfl)
     ·by_cases e:j=i
      ·subst e
       have:=mH hs.lt _ _ _ (List.all_eq_true.1 hc.1 j hj)
       omega
      ·exact hI.lR j (by simp[hj]) (back j e h)
     ·have e1:j≠i:=fun e=>hp.jR i yg (by simp[← e,hj])
      exact hI.lF j hj (back j e1 h)
     ·have hb':bx t=some b:=by cases dst<;>exact hb
      obtain ⟨hp1,hp2⟩:=KO p YR
      rcases hnew t b hb' with hrw | ⟨b0,hb0,e⟩
      ·rcases bk.own t b hb' hrw with h1 | h1
       ·have h1':wS.heap.size≤(g' t).1:=h1
        omega
       ·exact fun e=>hp2 (e▸h1)
      ·rw[e];exact hI.ap p YR t b0 hb0 hne
  ·
   obtain ⟨o',t,d,ho',hop,hd⟩:=hp.inZ i hZ
   rw[ho]at ho';cases ho'
   obtain ⟨zl,hz⟩:=hp.zero i hZ o t ho hop
   have E0:d < N:=hs.dN i o ho d hd
   refine lT ho (hs.gd i o ho) ?_
   unfold Oper.wp
   rw[DP hz hop]
   simp only[Oper.upon]
   rw[hd]
   have hk:=zV w (.cells zl.toArray t)
   have H4:=fun x=>kS (a:=a) (u:=Value.pointer (some ⟨w.heap.size,0,none⟩)) (x:=x) (d:=d) (by rw[hI.zW];exact E0)
   have B6:=fun x=>kS (a:=ap) (u:=Value.pointer (some ⟨w.heap.size,0,none⟩)) (x:=x) (d:=d) (by rw[hI.main.size];exact E0)
   have hnA: ∀ j ∈ A,d ∉ fm ops j:=fun j hj h=>hp.dA d (yn hj h) (by rw[cu,cu];exact List.mem_append_left _ (List.mem_append_right _ (dw ho hd hZ)))
   have hAi: ∀ j ∈ A,j≠i:=fun j hj e=>hp.jA j hj (p8 (.inr (.inl (e▸hZ))))
   refine ih _ done rem g sp (ap.put (some d) (Value.pointer (some ⟨w.heap.size,0,none⟩))) _ _ (fun j=>if j=i then w.heap.size else βf j) hR hsz' hfuel sI ⟨(hI.main.Nl (hI.E8 d (dw ho hd hZ)) _).kept hk,fun x hx=> ?_,by rw[gZ];exact hI.zW,by rw[put_defers];exact hI.Pw,hI.E7,hI.E8,fun x u hu hx=> ?_,fun j hj qy=> ?_,fun j hj k hk' h1 h2 hne=> ?_,fun j hj=>keep j (hI.lD j hj),fun j hj h=> ?_,fun j hj h=> ?_,hI.ap⟩ hv
   ·rw[H4,B6]
    split
    ·rfl
    ·exact hI.link x fun j hj qy=>hx j hj fun h=>qy (back j (hAi j hj) h)
   ·rw[H4]
    split
    ·rename_i e;subst e
     have:=hsD x (by rw[cu,cu];exact List.mem_append_left _ (List.mem_append_right _ (dw ho hd hZ)))
     rw[this]at hu;cases hu
    ·exact hI.ro x u hu fun j hj qy=>hx j hj fun h=>qy (back j (hAi j hj) h)
   ·by_cases e:j=i
    ·subst e
     simp only[if_true]
     refine ⟨⟨o,t,d,zl,ho,hop,hd,hz,by rw[H4,if_pos rfl], ?_⟩,hI.main.frame.size, ?_,fun t' b hb e=> ?_⟩
     ·show (w.heap.push _)[w.heap.size]? =_
      simp
     ·show w.heap.size < (w.heap.push _).size
      simp
     ·have:=hI.main.mem.lt t' b hb;omega
    ·simp only[if_neg e]
     obtain ⟨⟨oj,t',dj,zl',k1,k2,k3,k4,k5,k6⟩,k7,k8,k9⟩:=hI.zs j hj (back j e qy)
     have Qy:dj≠d:=fun e2=>hp.dZ j hj i hZ e dj (hH k1 k3) (e2▸hH ho hd)
     exact ⟨⟨oj,t',dj,zl',k1,k2,k3,k4,by rw[H4,if_neg Qy];exact k5,by rw[hk.heap k8];exact k6⟩,k7,Nat.lt_of_lt_of_le k8 hk.size,k9⟩
   ·by_cases e1:j=i
    ·have e2:k≠i:=fun e=>hne (e1.trans e.symm)
     simp only[if_pos e1,if_neg e2]
     have:=(hI.zs k hk' (back k e2 h2)).hi
     omega
    ·simp only[if_neg e1]
     by_cases e2:k=i
     ·simp only[if_pos e2]
      have:=(hI.zs j hj (back j e1 h1)).hi
      omega
     ·simp only[if_neg e2]
      exact hI.zi j hj k hk' (back j e1 h1) (back k e2 h2) hne
   ·have e1:j≠i:=fun e=>hp.jR j (by rw[hR];simp[hj]) (by simp[e,hZ])
    exact hI.lR j hj (back j e1 h)
   ·have e1:j≠i:=fun e=>hp.jZ i hZ (e▸hj)
    exact hI.lF j hj (back j e1 h)
  ·
   refine absurd (fun j hj=> ?_) hall
   refine hw j ((hp.inF i hF).2 j ?_)
   exact p8 hj
theorem Qe {A R Z F:List Nat} {base:Nat} {K:AS→Prop} {Q:Exit→Act→World→Prop} {W1:Nat→Prop} {w1:Base P} {env:Nat→Option AV} {g0:Where} {pm:List Nat} (hs:Static ops N) (hp:zX P ops A R Z F)
   (hK: ∀ g' s' a' w',bF W1 N w1 (fun n=>n < s'.next) g' s' a' w'→K s'→Q .normal a' w')
   (fuel:Nat) (L:Array Bool) (done rem:List Nat) (g:Where) (sp:AS) (ap a:Act) (w:World) (βf:Nat→Nat) (hR:R=done++rem) (hsz:L.size=ops.size) (hf:(dF L ops.toList 0).length=fuel) (fX:Down ops L)
   (hI:Z6 P q W1 N w1 ops base A R Z F env g0 pm L done rem g sp ap a w βf) (hv:ji P q ops base K (rem++(Z++F)) done.length sp)
   (hall: ∀ i,i ∈ A∨i ∈ R∨i ∈ Z→L.getD i false=true) (Vx:gG ops F=true):wpAny P .any ops Q fuel L a w:=by
  have nM:rem=[]:=by
   cases rem with
   | nil=>rfl
   | cons r rest=>exact absurd (hall r (.inr (.inl (by rw[hR];simp)))) (hI.lR r (by simp))
  subst nM
  have bk:=hI.main.act hI.zW hI.Pw fun d=>(hI.link d fun i hi hn=>absurd (hall i (.inl hi)) hn).symm
  obtain ⟨g',s',h1,h2⟩:=Te (w0:=w1) Z done.length g sp hp.nZ (fun i hi=>hI.zs i hi (hall i (.inr (.inr hi)))) (fun i hi j hj=>hI.zi i hi j hj (hall i (.inr (.inr hi))) (hall j (.inr (.inr hj)))) bk hv
  refine Oq hs hK F (done.length+Z.length) fuel L g' s' a w Vx hsz hf (fun i hi=> ?_) (fun i hi=>(hp.inF i hi).1) fX h1 h2
  constructor
  ·exact fun h hF=>hI.lF i hF h
  ·intro hF
   rcases hp.all i hi with h | h | h | h
   ·exact hall i (.inl h)
   ·exact hall i (.inr (.inl h))
   ·exact hall i (.inr (.inr h))
   ·exact absurd h hF
theorem Jy {A R Z F dm:List Nat} {K:AS→Prop} {Q:Exit→Act→World→Prop} (hok:ops.toList.all (ng N)=true) (hp:iH ops A R Z F=true) (hc:(R++Z).all (iq P ops)=true)
  (hK: ∀ g' s' a' w',bF W N w0 (fun n=>n < s'.next) g' s' a' w'→K s'→Q .normal a' w') (h:bF W N w0 (fun n=>n < s.next) g s a w) (hv:yI P q ops A R Z F dm K s):
  wpAny P .any ops Q ops.size (Array.replicate ops.size false) a w:=by
 have Vx:gG ops F=true:=by unfold iH at hp;simp only[Bool.and_eq_true]at hp;exact hp.2
 have hp:j4 ops A R Z F=true:=by unfold iH at hp;simp only[Bool.and_eq_true]at hp;exact hp.1
 obtain ⟨hs,gx⟩:=ny (P:=P) hok hp hc
 have h0:=h.E4 dm
 have hb:=h0.ik (pn:=s.next) fun n hn=>hn
 have hro:=vM h0 hb (env:=uL (dstsOf ops (A++R++Z++F)) s.env) (a':=a) h.size h.defers (fun d v hd=>by
  unfold uL at hd;split at hd
  ·cases hd
  ·exact h.env d v hd) (fun d v hd=>by
  unfold uL at hd;split at hd
  ·cases hd
  ·exact h.names.env d v hd) s.next
 obtain ⟨sr,ar,hk,iR,rJ,bk,hoff,qZ⟩:=og (M:=fun n=>n < s.next) (nm:=s.next) (Nat.lt_irrefl _) (fun h:s.next+1 < s.next=>by omega) hok (fun i hi=>by
  obtain ⟨o,d,h1,h2,h3,_⟩:=gx.WR i hi
  exact ⟨o,h1,h2,d,h3⟩) gx.rA hro hv
 have hlen:(dF (Array.replicate ops.size false) ops.toList 0).length=ops.size:=by
  have key: ∀ (l:List Oper) (k n:Nat),k+l.length≤n→(dF (Array.replicate n false) l k).length=l.length:=by
   intro l
   induction l with
   | nil=>intro k n _;rfl
   | cons o r ih=>
    intro k n hk
    simp only[List.length_cons]at hk
    have:(Array.replicate n false).getD k true=false:=by
     simp[Array.getD_eq_getD_getElem?,show k < n by omega]
    simp only[dF,this,Bool.false_eq_true,if_false,List.length_cons]
    rw[ih (k+1) n (by omega)]
  rw[key _ _ _ (by simp)];simp
 have hfalse: ∀ i, ¬ (Array.replicate ops.size false).getD i false=true:=fun i hi=>by
  simp only[Array.getD_eq_getD_getElem?,Array.getElem?_replicate]at hi
  by_cases hlt:i < ops.size<;>simp[hlt]at hi
 have hnone: ∀ d,d ∈ dstsOf ops (R++Z++F)→sr.env d=none:=fun d hd=>by
  have hA:d ∉ dstsOf ops A:=fun h=>gx.dA d h hd
  rw[(hoff d hA).1]
  show uL _ _ d=none
  unfold uL
  rw[if_pos]
  simp only[List.contains_eq_mem,decide_eq_true_eq]
  rw[show A++R++Z++F=A++(R++Z++F) by simp,cu]
  exact List.mem_append_right _ hd
 have jS:sr.box=fun t=>DL (({ s with box:=nO dm s.box }:AS).box t):=iR
 refine Tf (hl:=h0.laid) (s0:={ s with box:=nO dm s.box }) (sr:=sr) (base:=s.next) (pm:=[]) (V:=fun l k s'=>ji P q ops s.next K (l++(Z++F)) k s') hs gx h0 qZ bk.names jS hnone (fun p hp=>nomatch hp) (fun i r k s' o hv ho=>by simp only[List.cons_append,ji,ho]at hv;exact hv)
  (fun fuel L done rem g sp ap a w βf hR hsz hf hd hI hv hall=>Qe hs gx (fun g' s' a' w' hr hk'=>hK g' s' a' w' (h0.il (pn:=s.next) (fun n hn=>hn) hr) hk') fuel L done rem g sp ap a w βf hR hsz hf hd hI hv hall Vx) ops.size _ [] R g ⟨sr.env,nO dm s.box,s.next⟩ ar a w (fun _=>0) rfl (by simp) hlen
  (fun i o ho hi=>absurd hi (hfalse i)) ⟨?_,fun d hd=> ?_,h.size,h.defers,fun d hd=>rfl,fun d hd=> ?_,fun d v hd hx=> ?_,fun i hi hl=>absurd hl (hfalse i),fun i hi j hj hl=>absurd hl (hfalse i),(fun i hi=>nomatch hi),fun i hi=>hfalse i,fun i hi=>hfalse i,fun p hp=>nomatch hp⟩ (by simpa using hk)
 ·refine bF.mono (M:=fun n=>n < s.next) (fun n hn=>Nat.lt_of_lt_of_le hn V8) ⟨bk.size,bk.defers,bk.env,⟨bk.names.env,h0.names.box⟩,⟨h0.mem.lt,h0.mem.cell,h0.mem.free,h0.mem.sep⟩,hb.own,hb.frame,hb.pin,hb.tabs⟩
 ·refine (hoff d fun KP=> ?_).2
  obtain ⟨i,hi,o,ho,KQ⟩:=j5 KP
  exact hd i hi (hfalse i) (hH ho KQ)
 ·exact hnone d (by rw[cu,cu];exact List.mem_append_left _ (List.mem_append_right _ hd))
 ·have hA:d ∉ dstsOf ops A:=fun KP=>by
   obtain ⟨i,hi,o,ho,KQ⟩:=j5 KP
   exact hx i hi (hfalse i) (hH ho KQ)
  rw[← (hoff d hA).2]
  exact bk.env d v hd
end
structure sy (P:Program) [Tables P] (f:Nat) (args:List AV) (k m:Nat) (ins:Nat→Option aI) (Post:AV→(Nat→Option aI)→Prop):Prop where
 body:ak P f=true
 all: ∀ n,n < k→ ∃ b,ins n=some b
 qY: ∀ n b,ins n=some b→n < k
 call: ∀ (W:Nat→Prop) (g:Where) (w:World),Laid P w→(∀ b bx,Tables.row P b=some bx→ ¬ W b)→cY g (kB ins) w→(∀ t b,ins t=some b→b.rw=true→W (g t).1)→
  Calls P f (args.map (AV.ah g)).toArray w fun e w'=> ∃ v out g',e= .returned (AV.ah g' v)∧Post v out∧(∀ n,n < k→g' n=g n)∧AV.ok (fun n=>n < k+m) v∧
   (∀ n b,out n=some b→n < k+m∧(k≤n→b.rw=true)∧ ∀ x ∈ b.cells,SV.ok (fun n=>n < k+m) x)∧cY g' (kB out) w'∧
   (∀ t b,out t=some b→b.rw=true→w.heap.size≤(g' t).1∨W (g' t).1)∧Frame W w w'
def BH (P:Program) [Tables P] (wd bg:List Nat):Code→(Exit→AS→Prop)→AS→Prop
 | .region id ops dr,F,s=>if bg.contains id=true then (dr=true∧P.follows .mixedOrders=true∧ ∃ (q:Nat) (A R F' dm:List Nat),iH ops A R [] F'=true∧(R++[]).all (iq P ops)=true∧yI P q ops A R [] F' dm (F .normal) s) else oh P wd (.region id ops dr) F s
 | .seq a b,F,s=>BH P wd bg a (fI (BH P wd bg b F) F) s
 | .cond c a b,F,s=>lM (s.aS c) (BH P wd bg a F) (BH P wd bg b F) s
 | .block id c,F,s=>BH P wd bg c (fh id F) s
 | .loop c,F,s=>kv (BH P wd bg c) F s
 | .skip,F,s=>F .normal s
 | .exit id,F,s=>F (.exit id) s
 | .ret,F,s=>F .ret s
 | _,_,_=>False
section
variable {P:Program} [Tables P] {W:Nat→Prop} {N:Nat} {w0:Base P} {g:Where} {s:AS} {a:Act} {w:World} {wd bg:List Nat} {nm q:Nat}
theorem BI {f:Nat} {fn:Func} {c:Code} (hf:P.funcs[f]? =some fn) (hb:fn.body=some c) {args:List AV} {k m:Nat} {ins:Nat→Option aI}
  (hlen:args.length≤fn.ntmps) (hc:ak P f=true) (hargs: ∀ v ∈ args,AV.ok (fun n=>n < k) v) (hall: ∀ n,n < k→ ∃ b,ins n=some b) (fO: ∀ n b,ins n=some b→n < k∧ ∀ x ∈ b.cells,SV.ok (fun n=>n < k) x)
  {Post:AV→(Nat→Option aI)→Prop} (hv: ∀ (W:Nat→Prop) (w0:Base P),w0.pn≤k→Sound P W fn.ntmps w0 c (kA P fn.results.toList (Vz k m Post)) (start args ins k)):sy P f args k m ins Post:=by
 refine ⟨hc,hall,fun n b hb=>(fO n b hb).1,fun W g w hlaid iF hm hown=> ?_⟩
 refine (mF (W:=W) (g:=g) (w:=w) hf hb hlen hlaid iF ⟨fun d v hd=> ?_,fun t b ht=>fO t b ht⟩ ⟨hm.lt,hm.cell,hm.free,hm.sep⟩ hown (hv W)).mono ?_
 ·simp only[start]at hd
  exact hargs v (List.mem_of_getElem? hd)
 ·rintro e w' ⟨v,g',s',rfl,⟨q,v0,out,hq,hqi,rfl,Kv,hout,hpost⟩,_,vz,hmem,Kw,zx,hfr⟩
  have hr: ∀ n,n < k→iu k q n=n:=fun n hn=>by unfold iu;rw[if_pos hn]
  have hinj: ∀ n n',n < k+m→n' < k+m→iu k q n=iu k q n'→n=n':=fun n n' h1 h2 e=>by
   unfold iu at e
   split at e<;>split at e
   ·exact e
   ·have:=hq (n' - k) (by omega);omega
   ·have:=hq (n - k) (by omega);omega
   ·have:=hqi (n - k) (n' - k) (by omega) (by omega) e;omega
  refine ⟨v0,out,fun n=>g' (iu k q n),by rw[AV.cg],hpost,fun n hn=> ?_,Kv,fun n b hb=> ?_,⟨fun t b hb=> ?_,fun t b hb i v hv=> ?_,fun t b hb hrw i hi=> ?_,fun t t' b b' hb hrw hb' hne=> ?_⟩,fun t b hb hrw=> ?_,hfr⟩
  ·show g' (iu k q n)=_
   rw[hr n hn];exact (vz n hn).2
  ·obtain ⟨h1,h2,h3,_⟩:=hout n b hb
   exact ⟨h1,h2,h3⟩
  ·obtain ⟨h1,_,_,b',h2,_⟩:=hout t b hb
   exact hmem.lt _ b' h2
  ·obtain ⟨h1,_,_,b',h2,_,h4⟩:=hout t b hb
   have:=hmem.cell _ b' h2 i (SV.ren (iu k q) v) (by rw[h4];simp[hv])
   rw[this,SV.cg]
  ·obtain ⟨h1,_,_,b',h2,h3,h4⟩:=hout t b hb
   exact hmem.free _ b' h2 (h3 hrw) i (by rw[h4];simpa using hi)
  ·obtain ⟨h1,_,_,c1,h2,h3,_⟩:=hout t b hb
   obtain ⟨h1',_,_,c2,h2',_,_⟩:=hout t' b' hb'
   exact hmem.sep _ _ c1 c2 h2 (h3 hrw) h2' (fun e=>hne (hinj _ _ h1 h1' e))
  ·obtain ⟨h1,_,_,b',h2,h3,_⟩:=hout t b hb
   exact zx _ b' h2 (h3 hrw)
theorem kN: ∀ (c:Code) (F:Exit→AS→Prop) (s:AS),codeOk N c=true→BH P wd bg c F s→ ∀ (g:Where) (a:Act) (w:World) (Q:Exit→Act→World→Prop),bF W N w0 (fun n=>n < s.next) g s a w→
  (∀ e g' s' a' w',bF W N w0 (fun n=>n < s'.next) g' s' a' w'→F e s'→Q e a' w')→c.wp P Q a w
 | .seq x y,F,s,hok,hv,g,a,w,Q,h,hQ=>by
  simp only[codeOk,Bool.and_eq_true]at hok
  simp only[BH]at hv
  refine wp_seq (kN x _ s hok.1 hv g a w _ h fun e g' s' a' w' h' hk=> ?_)
  cases e with
  | normal=>exact kN y F s' hok.2 hk g' a' w' Q h' hQ
  | _=>exact hQ _ _ _ _ _ h' hk
 | .cond c x y,F,s,hok,hv,g,a,w,Q,h,hQ=>by
  simp only[codeOk,Bool.and_eq_true]at hok
  simp only[BH,lM]at hv
  split at hv
  ·rename_i b hb
   refine wp_cond_split (t:=b) (by rw[h.eval hb];rfl) (fun ht=> ?_) (fun hf=> ?_)
   ·exact kN x F s hok.1 (hv.1 ht) g a w Q h hQ
   ·exact kN y F s hok.2 (hv.2 hf) g a w Q h hQ
  ·exact hv.elim
 | .block id c,F,s,hok,hv,g,a,w,Q,h,hQ=>by
  simp only[codeOk]at hok
  simp only[BH]at hv
  refine wp_block (kN c _ s hok hv g a w _ h fun e g' s' a' w' h' hk=> ?_)
  cases e with
  | exit id'=>
   simp only[fh]at hk
   simp only[Exit.inBlock]
   split
   ·rename_i e;rw[if_pos e]at hk;exact hQ _ _ _ _ _ h' hk
   ·rename_i e;rw[if_neg e]at hk;exact hQ _ _ _ _ _ h' hk
  | _=>exact hQ _ _ _ _ _ h' hk
 | .loop c,F,s,hok,hv,g,a,w,Q,h,hQ=>by
  simp only[codeOk]at hok
  simp only[BH]at hv
  obtain ⟨ι,st,μ,i₀,⟨r,hr,hid⟩,rJ,hbody⟩:=hv
  have Gc: ∀ (r:Nat→Nat),(∀ n,n < s.next→r n=n)→ ∀ i n,n < w0.pn→r n=n∧n < (st i).next:=fun r hid i n hn=>⟨hid n (h.pin n hn).1,Nat.lt_of_lt_of_le (h.pin n hn).1 (rJ i)⟩
  let p:Act→World→Nat→Prop:=fun a w n=> ∃ i g,μ i=n∧bF W N w0 (fun n=>n < (st i).next) g (st i) a w
  have hmin: ∀ a w,(∃ n,p a w n)→ ∃ n,p a w n∧ ∀ k,p a w k→n≤k:=fun a w hx=>lP _ hx
  have hm: ∃ m:Act→World→Nat, ∀ a w,(∃ n,p a w n)→p a w (m a w)∧ ∀ k,p a w k→m a w≤k:=by
   refine ⟨fun a w=>Classical.epsilon (fun n=>p a w n∧ ∀ k,p a w k→n≤k),fun a w hx=> ?_⟩
   exact Classical.epsilon_spec (hmin a w hx)
  obtain ⟨m,hm⟩:=hm
  refine wp_loop (fun a w=> ∃ n,p a w n) m ⟨_,i₀,_,rfl,h.eR hr (Gc r hid i₀)⟩ (fun a1 w1 hI=> ?_)
  obtain ⟨⟨i,g1,hmu,h1⟩,Ks⟩:=hm a1 w1 hI
  refine kN c _ (st i) hok (hbody i) g1 a1 w1 _ h1 fun e g' s' a' w' h' hk=> ?_
  cases e with
  | normal=>
   obtain ⟨j,hlt,r',hr',Kt⟩:=hk
   have hp:p a' w' (μ j):=⟨j,_,rfl,h'.eR hr' (Gc r' Kt j)⟩
   refine ⟨⟨_,hp⟩, ?_⟩
   have:=(hm _ w' ⟨_,hp⟩).2 _ hp
   omega
  | _=>exact hQ _ _ _ _ _ h' hk
 | .region id ops false,F,s,hok,hv,g,a,w,Q,h,hQ=>by
  refine wp_region_list ?_
  unfold BH at hv
  split at hv
  ·exact absurd hv.1 (by decide)
  ·exact rm hok h hv fun g' s' a' w' h' hk=>hQ _ _ _ _ _ h' hk
 | .region id ops true,F,s,hok,hv,g,a,w,Q,h,hQ=>by
  unfold BH at hv
  split at hv
  ·obtain ⟨_,hm,q,A,R,F',dm,h1,h2,hv⟩:=hv
   exact wp_region_any hm (Jy (q:=q) (K:=F .normal) hok h1 h2 (fun g' s' a' w' h' hk=>hQ _ _ _ _ _ h' hk) h.drew hv)
  ·obtain ⟨hm,hv⟩:=AJ (Q:=Q) hok h hv fun g' s' a' w' h' hk=>hQ _ _ _ _ _ h' hk
   exact wp_region_any hm hv
 | .skip,F,s,_,hv,g,a,w,Q,h,hQ=>wp_skip (hQ _ _ _ _ _ h hv)
 | .exit id,F,s,_,hv,g,a,w,Q,h,hQ=>wp_exit (hQ _ _ _ _ _ h hv)
 | .ret,F,s,_,hv,g,a,w,Q,h,hQ=>wp_ret (hQ _ _ _ _ _ h hv)
 | .rangeFunc .., _,_,_,hv,_,_,_,_,_,_=>hv.elim
 | .scope _,_,_,_,hv,_,_,_,_,_,_=>hv.elim
 | .label _,_,_,_,hv,_,_,_,_,_,_=>hv.elim
 | .goto _,_,_,_,hv,_,_,_,_,_,_=>hv.elim
 | .refuse _,_,_,_,hv,_,_,_,_,_,_=>hv.elim
theorem ft {f:Nat} {fn:Func} {c:Code} (hf:P.funcs[f]? =some fn) (hb:fn.body=some c) (hok:codeOk fn.ntmps c=true) (wd bg:List Nat) {args:List AV} {k:Nat} {ins:Nat→Option aI}
  (hlen:args.length≤fn.ntmps) (hc:ak P f=true) (hargs: ∀ v ∈ args,AV.ok (fun n=>n < k) v) (hall: ∀ n,n < k→ ∃ b,ins n=some b) (fO: ∀ n b,ins n=some b→n < k∧ ∀ x ∈ b.cells,SV.ok (fun n=>n < k) x)
  {Post:AV→(Nat→Option aI)→Prop} (hv:BH P wd bg c (kA P fn.results.toList (m8 k Post)) (start args ins k)):bd P f args k ins Post:=
 nN hf hb hlen hc hargs hall fO fun W w0 hp g a w Q hr hQ=>kN c _ _ hok hv g a w Q hr fun e g' s' a' w' h' hk=>hQ e g' s' a' w' h' hk
theorem pB {f:Nat} {fn:Func} {c:Code} (hf:P.funcs[f]? =some fn) (hb:fn.body=some c) (hok:codeOk fn.ntmps c=true) (wd pz:List Nat) {args:List AV} {k m:Nat} {ins:Nat→Option aI}
  (hlen:args.length≤fn.ntmps) (hc:ak P f=true) (hargs: ∀ v ∈ args,AV.ok (fun n=>n < k) v) (hall: ∀ n,n < k→ ∃ b,ins n=some b) (fO: ∀ n b,ins n=some b→n < k∧ ∀ x ∈ b.cells,SV.ok (fun n=>n < k) x)
  {Post:AV→(Nat→Option aI)→Prop} (hv:kT P wd pz c (kA P fn.results.toList (Vz k m Post)) (start args ins k)):sy P f args k m ins Post:=
 BI hf hb hlen hc hargs hall fO fun W w0 hp g a w Q hr hQ=>by
  have:=eI (ds:=[]) c _ _ hok hv g a w Q hr fun e g' s' a' w' h' hk=>by
   rw[gT]
   exact hQ e g' s' a' w' h' hk
  rw[gT]at this
  exact this
theorem ln.big {f k m:Nat} {args:List AV} {ins:Nat→Option aI} {Post:AV→(Nat→Option aI)→Prop} (h:ln P f args k m ins Post):sy P f args k m ins Post:=⟨h.body,h.all,h.qY,h.call⟩
theorem sy.gW {f k m:Nat} {args l:List AV} {ins:Nat→Option aI} {Post:AV→(Nat→Option aI)→Prop} (h:sy P f args k m ins Post) (hm:m≤q+4) (r:Nat→Nat) (ws:List Nat) (hfit:jr s r ins ws) (hl:l=args.map (AV.ren r))
  {dst:Option Nat} {K:AS→Prop} (hk: ∀ v out,Post v out→K (({ s with box:=cL s r k m nm ws out }:AS).put dst (some (AV.ren (aV r k nm) v)))):Go.cn.gW P q nm f (some l) dst K s:=by
 intro W N w0 g a w bk
 rw[hl]
 refine (vT (E:= .returned) h.all h.qY h.call bk hfit).mono ?_
 rintro e w' ⟨v,out,g',rfl,hpost,hsame,cF,hok,hnew⟩
 exact ⟨_,g',_,rfl,AV.aL (fun n hn=>by omega) hok,cF.mono (fun n hn=>by omega),hnew,hk v out hpost⟩
theorem sy.forget {f k m:Nat} {args:List AV} {ins:Nat→Option aI} {Post:AV→(Nat→Option aI)→Prop} (h:sy P f args k m ins Post) (hm:1≤m) (hv: ∀ v out,Post v out→AV.ok (fun n=>n < k+1) v):bd P f args k ins (fun v out=>(∃ V9,Post v V9)∧out=fun _=>none):=
 ⟨h.body,h.all,h.qY,fun W g w h1 h2 h3 h4=>(h.call W g w h1 h2 h3 h4).mono (by
  rintro e w' ⟨v,out,g',k1,k2,k3,k4,k5,k6,k7,k8⟩
  exact ⟨v,fun _=>none,g',k1,⟨⟨out,k2⟩,rfl⟩,k3,hv v out k2,fun n b hb=>(by cases hb),⟨fun t b hb=>(by cases hb),fun t b hb=>(by cases hb),fun t b hb=>(by cases hb),fun t t' b b' hb=>(by cases hb)⟩,fun t b hb=>(by cases hb),k8⟩)⟩
variable {F:Exit→AS→Prop} {K:AS→Prop} {dst:Option Nat} {ty:TypeId} {pos:String} {after:Array Edge}
theorem Ot {a b:Code}:BH P wd bg (.seq a b) F s=BH P wd bg a (fI (BH P wd bg b F) F) s:=rfl
theorem Jz {c:Operand} {a b:Code}:BH P wd bg (.cond c a b) F s=lM (s.aS c) (BH P wd bg a F) (BH P wd bg b F) s:=rfl
theorem Ou {id:Nat} {l:List Oper} {dr:Bool}:BH P wd bg (.region id l.toArray dr) F s=if bg.contains id=true then (dr=true∧P.follows .mixedOrders=true∧ ∃ (q:Nat) (A R F' dm:List Nat),iH l.toArray A R [] F'=true∧(R++[]).all (iq P l.toArray)=true∧yI P q l.toArray A R [] F' dm (F .normal) s) else oh P wd (.region id l.toArray dr) F s:=rfl
theorem JA:BH P wd bg .skip F s=F .normal s:=rfl
theorem Ov:BH P wd bg .ret F s=F .ret s:=rfl
def LO (P:Program) [Tables P] (q nm:Nat) (o:Option Oper) (K:AS→Prop) (s:AS):Prop:=match o with
 | some o=>pA P q nm o K s
 | none=>False
theorem JB {ops:Array Oper} {base k:Nat} {e:Nat→Option AV} {b:Nat→Option aI} {n:Nat}:ji P q ops base K [] k ⟨e,b,n⟩=K ⟨e,b,slot base q k⟩:=rfl
theorem Er {l:List Oper} {base k i:Nat} {r:List Nat}:ji P q l.toArray base K (i::r) k s=LO P q (slot base q k) l[i]? (ji P q l.toArray base K r (k+1)) s:=by
 unfold ji LO
 rw[List.getElem?_toArray]
theorem Es {f:Nat} {xs:Array Operand} {tys:Array TypeId}:
  LO P q nm (some ⟨dst, .call ⟨.value (.func f),xs,tys⟩,ty,pos,after,none⟩) K s=if ak P f=true then gW P q nm f (bq s xs.toList) dst K s else n6 P f (bq s xs.toList) dst K s:=rfl
theorem BJ {t:TypeId} {x y:Operand}:LO P q nm (some ⟨dst, .store t x y,ty,pos,after,none⟩) K s=cw P nm ⟨dst, .store t x y,ty,pos,after,none⟩ K s:=rfl
theorem aU:type_of% @Ot∧type_of% @Jz∧type_of% @Ou∧type_of% @JA∧type_of% @Ov∧type_of% @JB∧type_of% @Er∧type_of% @Es∧type_of% @BJ∧type_of% @yq∧type_of% @uU∧type_of% @yr∧type_of% @NP:=
 ⟨@Ot, @Jz, @Ou, @JA, @Ov, @JB, @Er, @Es, @BJ, @yq, @uU, @yr, @NP⟩
end
end Go.cn
