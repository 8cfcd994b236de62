/-
  The calculus: calls that make several boxes; and regions whose order Go leaves open that hold such calls: what only looks may be walked first, new variables last. Nothing here speaks of a program.
-/
import Derived.Test.YtbipdofobgabhaaGreatDoorVcgY
namespace Go.bA
set_option linter.unusedSectionVars false
set_option linter.unusedSimpArgs false
set_option linter.unusedVariables false
def bw (P:Program) [Tables P] (nm f:Nat) (xs:Option (List AV)) (dst:Option Nat) (K:AS→Prop) (s:AS):Prop:=match xs with
 | none=>False
 | some l=> ∀ (W:Nat→Prop) (N:Nat) (w0:Base P) (g:Where) (a:Act) (w:World),bP W N w0 (fun n=>n < nm) g s a w→
   Calls P f (l.map (AV.aq g)).toArray w fun e w'=> ∃ v g' bx,e= .returned (AV.aq g' v)∧AV.ok (fun n=>n < nm+4) v∧bP W N w0 (fun n=>n < nm+4) g' { s with box:=bx } a w'∧
    (∀ t b,bx t=some b→b.rw=true∨ ∃ b0,s.box t=some b0∧g' t=g t)∧K (({ s with box:=bx }:AS).put dst (some v))
def ln (P:Program) [Tables P] (nm:Nat) (b:Builtin) (tys:Array TypeId) (type:TypeId) (consts:Array Bool) (xs:Option (List AV)) (dst:Option Nat) (K:AS→Prop) (s:AS):Prop:=match xs with
 | none=>False
 | some l=>fQ P nm b tys type consts l dst K s
def QY (P:Program) [Tables P] (nm:Nat) (fv:Option AV) (xs:Option (List AV)) (dst:Option Nat) (K:AS→Prop) (s:AS):Prop:=match fv with
 | some (.inl (.inl (.inl (.func (.func f) ⟨[]⟩ caps))))=>au P f=true∧bw P nm f (II xs (qp caps.toList)) dst K s
 | _=>False
def kv (P:Program) [Tables P] (nm:Nat) (o:Oper) (K:AS→Prop) (s:AS):Prop:=match o.op with
 | .call ⟨.value (.func f),xs,_⟩=>if au P f=true then bw P nm f (bk s xs.toList) o.dst K s else ox P f (bk s xs.toList) o.dst K s
 | .call ⟨.value (.tmp d),xs,_⟩=>QY P nm (s.env d) (bk s xs.toList) o.dst K s
 | .call ⟨.builtin .append,xs,tys⟩=>ln P nm .append tys o.type (xs.map isConst) (bk s xs.toList) o.dst K s
 | _=>bM P nm o K s
def cr (P:Program) [Tables P] (ops:Array Oper) (base:Nat) (K:AS→Prop):List Nat→Nat→AS→Prop
 | [],k,s=>K { s with next:=base+4*(k+1) }
 | i::r,k,s=>match ops[i]? with
  | some o=>kv P (base+4*(k+1)) o (cr P ops base K r (k+1)) s
  | none=>False
def isPure (o:Op):Bool:=match o with
 | .move _ | .load .. | .fieldAddr .. | .nilCheck _ | .field .. | .index .. | .indexAddr .. | .build .. | .extract .. | .binOp .. | .unOp .. =>true
 | .slice _ _ _ _ none=>true
 | .convert .. =>true
 | _=>false
def tI (o:Op):Bool:=match o with
 | .call ⟨.value (.func _),_,_⟩=>true
 | .call ⟨.value (.tmp _),_,_⟩=>true
 | .call ⟨.builtin .append,_,_⟩=>true
 | .buildSlice .. =>true
 | .build .. =>true
 | _=>false
def BD (o:Op):Bool:=match o with
 | .alloc _=>true
 | _=>false
def hY (P:Program) [Tables P] (ops:Array Oper) (nm:Nat) (K:AS→Prop):List Nat→AS→Prop
 | [],s=>K s
 | i::r,s=>match ops[i]? with
  | some o=>bM P nm o (hY P ops nm K r) s
  | none=>False
def Jm (b:Option aI):Option aI:=match b with
 | some ⟨false,cs⟩=>some ⟨false,cs⟩
 | _=>none
def mC (dm:List Nat) (box:Nat→Option aI) (t:Nat):Option aI:=if dm.contains t=true then (match box t with
 | some b=>some ⟨false,b.cells⟩
 | none=>none) else box t
def zU (pm:List Nat) (b0 b:Nat→Option aI) (t:Nat):Option aI:=if pm.contains t=true then b0 t else b t
def zI (D:List Nat) (env:Nat→Option AV) (d:Nat):Option AV:=if D.contains d=true then none else env d
def Ob (ops:Array Oper) (i:Nat) (p:Oper→Bool):Bool:=match ops[i]? with
 | some o=>p o
 | none=>false
def fe (ops:Array Oper) (i:Nat):List Nat:=match ops[i]? with
 | some o=>o.dst.toList
 | none=>[]
def dstsOf (ops:Array Oper):List Nat→List Nat
 | []=>[]
 | i::r=>fe ops i++dstsOf ops r
def Mf (ops:Array Oper) (i:Nat):List Nat:=match ops[i]? with
 | some o=>o.looksAt ops
 | none=>[]
def iG (l m:List Nat):Bool:=l.all fun x=> !m.contains x
def jg (ops:Array Oper):List Nat→Bool
 | []=>true
 | i::r=>r.all (fun j=>waits ops ops.size j i)&&jg ops r
def QZ (ops:Array Oper):List Nat→Bool
 | []=>true
 | i::r=>iG (Mf ops i) (dstsOf ops (i::r))&&iG (fe ops i) (dstsOf ops r)&&QZ ops r
def j5 (ops:Array Oper) (A R Z F:List Nat):Bool:=
 (List.range ops.size).all (fun i=>A.contains i||R.contains i||Z.contains i||F.contains i)&&
 (List.range ops.size).all (fun i=>Ob ops i fun o=>o.guard.isNone&&o.after.toList.all fun e=> !Region.binds .any e||decide (e.on < i))&&
 A.all (fun i=>Ob ops i fun o=>isPure o.op&&o.dst.isSome&&o.after.toList.all (fun e=> !Region.binds .any e||A.contains e.on)&&iG (o.looksAt ops) (dstsOf ops (R++Z++F))&&A.all fun j=>iG (fe ops j) (o.looksAt ops)||waits ops ops.size i j)&&
 QZ ops A&&iG (dstsOf ops A) (dstsOf ops (R++Z++F))&&iG A (R++Z++F)&&iG R (Z++F)&&iG Z F&&
 R.all (fun i=>Ob ops i fun o=>tI o.op&&iG (o.looksAt ops) (dstsOf ops Z)&&A.all fun j=>iG (fe ops j) (o.looksAt ops)||waits ops ops.size i j)&&
 jg ops R&&iG (dstsOf ops R) (dstsOf ops Z)&&Uw ops Z&&
 Z.all (fun i=>Ob ops i fun o=>BD o.op&&o.dst.isSome)&&
 F.all (fun i=>(A++R++Z).all fun j=>waits ops ops.size i j)&&F.all (fun i=>decide (i < ops.size))
where
 Uw (ops:Array Oper):List Nat→Bool
  | []=>true
  | i::r=>iG (fe ops i) (dstsOf ops r)&& !r.contains i&&Uw ops r
def mq (ops:Array Oper) (A R Z F:List Nat):Bool:=j5 ops A R Z F&&jg ops F
def Q0 (P:Program) [Tables P] (ops:Array Oper) (A R Z F dm:List Nat) (K:AS→Prop) (s:AS):Prop:=
 hY P ops s.next (fun sr=>cr P ops s.next K (R++Z++F) 0 ⟨sr.env,mC dm s.box,s.next⟩) A ⟨zI (dstsOf ops (A++R++Z++F)) s.env,fun t=>Jm (mC dm s.box t),s.next⟩
def Mg (P:Program) [Tables P] (ops:Array Oper) (A R Z F dm pm:List Nat) (K:AS→Prop) (s:AS):Prop:=
 (∀ t ∈ pm,dm.contains t=true∧ ∃ cs,s.box t=some ⟨true,cs⟩)∧hY P ops s.next (fun sr=>cr P ops s.next (fun s1=>cr P ops s.next K (Z++F) R.length ⟨s1.env,zU pm s.box s1.box,s1.next⟩) R 0 ⟨sr.env,mC dm s.box,s.next⟩) A ⟨zI (dstsOf ops (A++R++Z++F)) s.env,fun t=>Jm (mC dm s.box t),s.next⟩
def wb (ops:Array Oper) (F:List Nat):Array Bool:=⟨(List.range ops.size).map fun i=> !F.contains i⟩
def C6 (ops:Array Oper) (F:List Nat) (t:aT):Bool:=aT.here ops (dn (wb ops F) ops.toList 0).length (wb ops F) t&&aT.all ops (dn (wb ops F) ops.toList 0).length (wb ops F) t
def Mh (P:Program) [Tables P] (ops:Array Oper) (A R Z F dm pm:List Nat) (tr:aT) (K:AS→Prop) (s:AS):Prop:=
 (∀ t ∈ pm,dm.contains t=true∧ ∃ cs,s.box t=some ⟨true,cs⟩)∧hY P ops s.next (fun sr=>cr P ops s.next (fun s1=>cr P ops s.next (fun s2=>zR P ops (s.next+4*(R.length+Z.length+1)) K tr 0 s2) Z R.length ⟨s1.env,zU pm s.box s1.box,s1.next⟩) R 0 ⟨sr.env,mC dm s.box,s.next⟩) A ⟨zI (dstsOf ops (A++R++Z++F)) s.env,fun t=>Jm (mC dm s.box t),s.next⟩
section
variable {P:Program} [Tables P] {W:Nat→Prop} {N:Nat} {w0:Base P} {M:Nat→Prop} {g:Where} {s:AS} {a:Act} {w:World} {ops:Array Oper} {nm:Nat} {o:Oper}
def oB (g:Where) (s:AS) (b:Nat):Prop:= ∃ t bx,s.box t=some bx∧bx.rw=true∧(g t).1=b
theorem bP.ru (h:bP W N w0 M g s a w) {pn:Nat} (zG: ∀ n,n < pn→M n):bP (oB g s) N ⟨w,pn,g,h.laid⟩ M g s a w:=
 ⟨h.size,h.defers,h.env,h.names,h.mem,fun t b hb hrw=>Or.inr ⟨t,b,hb,hrw,rfl⟩,Frame.refl _ _,fun n hn=>⟨zG n hn,rfl⟩,fun b bx hb=>by
  rintro ⟨t,c,hc,hrw,rfl⟩
  rcases h.own t c hc hrw with h3 | h3
  ·have:=(w0.laid.rows _ bx hb).1;omega
  ·exact h.tabs _ bx hb h3⟩
theorem bP.rv (h:bP W N w0 M g s a w) {pn:Nat} {hl:Laid P w} {M':Nat→Prop} {g':Where} {s':AS} {a':Act} {w':World} (hM: ∀ n,M n→n < pn)
  (h':bP (oB g s) N ⟨w,pn,g,hl⟩ M' g' s' a' w'):bP W N w0 M' g' s' a' w':=by
 have ho: ∀ b,oB g s b→w0.heap.size≤b∨W b:=fun b hb=>by
  obtain ⟨t,c,hc,hrw,rfl⟩:=hb
  exact h.own t c hc hrw
 have hf:=h'.frame
 refine ⟨h'.size,h'.defers,h'.env,h'.names,h'.mem,fun t b hb hrw=> ?_, ?_,fun n hn=> ?_,h.tabs⟩
 ·rcases h'.own t b hb hrw with h1 | h1
  ·exact .inl (Nat.le_trans h.frame.size h1)
  ·exact ho _ h1
 ·refine ⟨hf.os.trans h.frame.os,hf.tape.trans h.frame.tape,hf.output.trans h.frame.output,Nat.le_trans h.frame.size hf.size,fun k hk hW=> ?_⟩
  have:=hf.block k (Nat.lt_of_lt_of_le hk h.frame.size) fun hO=>(ho k hO).elim (fun h1=>by omega) hW
  exact this.trans (h.frame.block k hk hW)
 ·obtain ⟨h1,h2⟩:=h.pin n hn
  obtain ⟨h3,h4⟩:=h'.pin n (hM n h1)
  exact ⟨h3,h4.trans h2⟩
theorem BF {f:Nat} {l:List AV} {dst:Option Nat} {K:AS→Prop} (hv:bw P nm f (some l) dst K s) (h:bP W N w0 (fun n=>n < nm) g s a w):
  Calls P f (l.map (AV.aq g)).toArray w fun e w'=> ∃ v g' bx,e= .returned (AV.aq g' v)∧AV.ok (fun n=>n < nm+4) v∧bP W N w0 (fun n=>n < nm+4) g' { s with box:=bx } a w'∧
   (∀ β,β < w.heap.size→(∀ t b,s.box t=some b→(g t).1≠β)→w'.heap[β]? =w.heap[β]? ∧ ∀ t b,bx t=some b→(g' t).1≠β)∧(∀ t b,bx t=some b→b.rw=true∨ ∃ b0,s.box t=some b0∧g' t=g t)∧K (({ s with box:=bx }:AS).put dst (some v)):=by
 refine (hv _ N _ g a w (h.ru (pn:=nm) fun n hn=>hn)).mono ?_
 rintro e w' ⟨v,g',bx,rfl,hok,bH,hnew,hk⟩
 refine ⟨v,g',bx,rfl,hok,h.rv (fun n hn=>hn) bH,fun β hβ hno=>⟨?_,fun t b hb=> ?_⟩,hnew,hk⟩
 ·exact bH.frame.block β hβ fun ⟨t,c,hc,_,e⟩=>hno t c hc e
 ·rcases hnew t b hb with hrw | ⟨b0,hb0,e⟩
  ·rcases bH.own t b hb hrw with h1 | ⟨t',c,hc,_,e⟩
   ·have h1':w.heap.size≤(g' t).1:=h1
    omega
   ·rw[← e];exact hno t' c hc
  ·rw[e];exact hno t b0 hb0
theorem C8 {bx:Nat→Option aI} {g':Where} {w':World} {a:Act} {k:Nat} (h:bP W N w0 (fun n=>n < nm) g s a w) (bH:bP (oB g s) N ⟨w,nm,g,h.laid⟩ (fun n=>n < k) g' { s with box:=bx } a w')
  (hnew: ∀ t b,bx t=some b→b.rw=true∨ ∃ b0,s.box t=some b0∧g' t=g t): ∀ β,β < w.heap.size→(∀ t b,s.box t=some b→(g t).1≠β)→w'.heap[β]? =w.heap[β]? ∧ ∀ t b,bx t=some b→(g' t).1≠β:=fun β hβ hno=>⟨
 bH.frame.block β hβ fun ⟨t,c,hc,_,e⟩=>hno t c hc e,fun t b hb=>by
  rcases hnew t b hb with hrw | ⟨b0,hb0,e⟩
  ·rcases bH.own t b hb hrw with h1 | ⟨t',c,hc,_,e⟩
   ·have h1':w.heap.size≤(g' t).1:=h1
    omega
   ·rw[← e];exact hno t' c hc
  ·rw[e];exact hno t b0 hb0⟩
theorem Q5 {K:AS→Prop} {ap:Act} (hop:tI o.op=true) (XT: ∀ f xs tys,o.op= .call ⟨.value (.func f),xs,tys⟩→au P f=true) (hv:kv P nm o K s) (h:bP W N w0 (fun n=>n < nm) g s ap w)
  (heq: ∀ x ∈ o.op.operands,a.eval x=ap.eval x) {next:Act→World→Prop} {Q:Exit→Act→World→Prop}
  (hN: ∀ v g' bx w',AV.ok (fun n=>n < nm+4) v→bP W N w0 (fun n=>n < nm+4) g' { s with box:=bx } ap w'→
   (∀ β,β < w.heap.size→(∀ t b,s.box t=some b→(g t).1≠β)→w'.heap[β]? =w.heap[β]? ∧ ∀ t b,bx t=some b→(g' t).1≠β)→(∀ t b,bx t=some b→b.rw=true∨ ∃ b0,s.box t=some b0∧g' t=g t)→K (({ s with box:=bx }:AS).put o.dst (some v))→next (a.put o.dst (AV.aq g' v)) w'):o.wp P a w next Q:=by
 have hsel: ∀ cs b,o.op≠ .select cs b:=fun cs b e=>by rw[e]at hop;cases hop
 have hex:=execOp_congr o hsel heq
 unfold Oper.wp
 rw[hex]
 obtain ⟨dst,op,type,pos,after,guard⟩:=o
 simp only at hop XT hN hv
 unfold kv at hv
 simp only at hv
 split at hv
 ·rename_i f xs tys
  rw[if_pos (XT f xs tys rfl)]at hv
  cases hargs:bk s xs.toList with
  | none=>rw[hargs]at hv;exact hv.elim
  | some l=>
   rw[hargs]at hv
   have hx1:xs.map ap.eval=(l.map (AV.aq g)).toArray:=by
    apply Array.ext'
    rw[Array.toList_map,(cU h _ _ hargs).1]
   rw[kg f xs tys dst type pos after guard ap.eval rfl w,dJ (XT f xs tys rfl),hx1]
   simp only[Oper.upon]
   refine (BF hv h).mono ?_
   rintro e w' ⟨v,g',bx,rfl,hok,bH,hkeep,hnew,hk⟩
   exact hN v g' bx w' hok bH hkeep hnew hk
 ·rename_i d xs tys
  unfold QY at hv
  split at hv
  ·rename_i f caps VX
   obtain ⟨hc,hv⟩:=hv
   cases hl:II (bk s xs.toList) (qp caps.toList) with
   | none=>rw[hl]at hv;exact hv.elim
   | some l=>
    rw[hl]at hv
    unfold II at hl
    split at hl
    ·rename_i l1 l2 h1 h2
     cases hl
     have hargs:xs.map ap.eval++(⟨caps.toList.map (uw g)⟩:Array Value)=((l1++l2).map (AV.aq g)).toArray:=by
      apply Array.ext'
      rw[Array.toList_append,Array.toList_map,(cU h _ _ h1).1, ← qU _ _ h2,List.map_append]
     rw[Ak d xs tys dst type pos after guard ap.eval (f:=f) (cs:=⟨caps.toList.map (uw g)⟩) (h.eval (x:= .tmp d) VX) w,dJ hc,hargs]
     simp only[Oper.upon]
     refine (BF hv h).mono ?_
     rintro e w' ⟨v,g',bx,rfl,hok,bH,hkeep,hnew,hk⟩
     exact hN v g' bx w' hok bH hkeep hnew hk
    ·cases hl
  ·exact hv.elim
 ·rename_i xs tys
  unfold ln at hv
  split at hv
  ·exact hv.elim
  ·rename_i l hl
   have hargs:xs.map ap.eval=(l.map (AV.aq g)).toArray:=by
    apply Array.ext'
    rw[Array.toList_map,(cU h _ _ hl).1]
   obtain ⟨v,g',bx,w',hrun,hok,bH,hnew,hk⟩:=hv _ N _ g ap w (h.ru (pn:=nm) fun n hn=>hn)
   have:(execOp ap.eval { dst,op:= .call ⟨.builtin .append,xs,tys⟩,type,pos,after,guard }).run P w= .ok (.value (AV.aq g' v)) w':=by
    simp only[execOp,resolve,Sem.run_bind,Sem.run_pure,Result.andThen_ok,invoke]
    refine Eq.trans (congrArg (fun c=>Sem.run P (builtin .append tys type c (xs.map ap.eval)) w) (?_:_=xs.map isConst)) ?_
    ·apply Array.map_congr_left;intro x _;cases x<;>rfl
    ·rw[hargs,hrun]
   rw[this]
   simp only[Oper.upon]
   exact hN v g' bx w' (AV.aY (fun n hn=>by omega) hok) ((h.rv (fun n hn=>hn) bH).mono (fun n hn=>by omega)) (C8 h bH hnew) hnew hk
 ·rename_i hn1 hn2 hn3
  cases op<;>try (cases hop;done)
  case call c=>
   obtain ⟨cal,xs,tys⟩:=c
   cases cal with
   | value x=>cases x<;>first | exact absurd rfl (hn1 _ _ _) | exact absurd rfl (hn2 _ _ _) | cases hop
   | builtin b=>cases b<;>first | exact absurd rfl (hn3 _ _) | cases hop
   | invoke=>cases hop
  case build t parts=>
   replace hv:bD (dT P nm s (.build t parts)) nm dst K s:=hv
   unfold bD at hv
   split at hv
   ·rename_i e he
    have he':=he
    replace he':fF P t s parts.toList=some e:=he'
    obtain ⟨v,rfl⟩: ∃ v,e=(some v,none):=by
     unfold fF at he'
     (repeat' split at he')<;>first | (simp only[Option.some.injEq]at he';exact ⟨_,he'.symm⟩) | cases he'
    obtain ⟨g',w',r,hr⟩:=gT (P:=P) (o:=⟨dst, .build t parts,type,pos,after,guard⟩) (h.ru (pn:=nm) fun n hn=>hn) (Nat.lt_irrefl nm) he
    obtain ⟨hrv,hok⟩:=hr.val
    rw[hr.run,hrv]
    simp only[Oper.upon]
    have ij:bP (oB g s) N ⟨w,nm,g,h.laid⟩ (fun k=>k < nm+1) g' { s with box:=s.box } ap w':=hr.rep.mono (fun k hk=>by rcases hk with h | h<;>omega)
    have hnew: ∀ t b,s.box t=some b→b.rw=true∨ ∃ b0,s.box t=some b0∧g' t=g t:=fun t b hb=> .inr ⟨b,hb,hr.same t (h.names.box t b hb).1⟩
    exact hN v g' _ w' (AV.aY (fun k hk=>by rcases hk with h | h<;>omega) hok) ((h.rv (fun n hn=>hn) ij).mono (fun k hk=>by omega)) (C8 h ij hnew) hnew hv
   ·exact hv.elim
  case buildSlice t n parts=>
   replace hv:bD (dT P nm s (.buildSlice t n parts)) nm dst K s:=hv
   unfold bD at hv
   split at hv
   ·rename_i e he
    have he':=he
    replace he':eR nm (qQ P t) n s parts.toList=some e:=he'
    obtain ⟨l,rfl⟩: ∃ l,e=(some (Sl nm 0 n n),some (.inl l)):=by
     unfold eR at he'
     split at he'
     ·split at he'
      ·split at he'
       ·cases he';exact ⟨_,rfl⟩
       ·cases he'
      ·cases he'
     ·cases he'
    obtain ⟨g',w',r,hr⟩:=gT (P:=P) (o:=⟨dst, .buildSlice t n parts,type,pos,after,guard⟩) (h.ru (pn:=nm) fun n hn=>hn) (Nat.lt_irrefl nm) he
    obtain ⟨hrv,hok⟩:=hr.val
    rw[hr.run,hrv]
    simp only[Oper.upon]
    have ij:bP (oB g s) N ⟨w,nm,g,h.laid⟩ (fun k=>k < nm+1) g' { s with box:=upd s.box nm (some ⟨true,l⟩) } ap w':=hr.rep.mono (fun k hk=>by rcases hk with h | h<;>omega)
    have hnew: ∀ t b,upd s.box nm (some ⟨true,l⟩) t=some b→b.rw=true∨ ∃ b0,s.box t=some b0∧g' t=g t:=fun t b hb=>by
     unfold upd at hb
     split at hb
     ·cases hb;exact .inl rfl
     ·rename_i e
      exact .inr ⟨b,hb,hr.same t (h.names.box t b hb).1⟩
    exact hN (Sl nm 0 n n) g' _ w' (AV.aY (fun k hk=>by rcases hk with h | h<;>omega) hok) ((h.rv (fun n hn=>hn) ij).mono (fun k hk=>by omega)) (C8 h ij hnew) hnew hv
   ·exact hv.elim
theorem yF {K:AS→Prop} (h:bP W N w0 (fun n=>n < nm) g s a w) (hd: ∀ d,o.dst=some d→d < N) (hv:kv P nm o K s)
  {next:Act→World→Prop} {Q:Exit→Act→World→Prop} (hK: ∀ g' s' a' w',bP W N w0 (fun n=>n < nm+4) g' s' a' w'→K s'→next a' w'):o.wp P a w next Q:=by
 unfold kv at hv
 obtain ⟨dst,op,type,pos,after,guard⟩:=o
 simp only at hv hd
 split at hv
 ·rename_i f xs tys
  have hargs: ∀ l,bk s xs.toList=some l→xs.map a.eval=(l.map (AV.aq g)).toArray:=fun l hl=>by
   apply Array.ext'
   rw[Array.toList_map,(cU h _ _ hl).1]
  split at hv
  ·rename_i hc
   unfold bw at hv
   split at hv
   ·exact hv.elim
   ·rename_i l hl
    unfold Oper.wp
    rw[kg f xs tys dst type pos after guard a.eval rfl w,dJ hc,hargs l hl]
    simp only[Oper.upon]
    refine (hv W N w0 g a w h).mono ?_
    rintro e w' ⟨v,g',bx,rfl,hok,bH,_,hk⟩
    exact hK g' _ _ _ (bH.put hd hok) hk
  ·exact mJ (o:=⟨dst, .call ⟨.value (.func f),xs,tys⟩,type,pos,after,guard⟩) h hd (by unfold bM;simp only;rw[if_neg (by assumption)];exact hv) fun g' s' a' w' hr hk=>hK g' s' a' w' (hr.mono fun n hn=>by omega) hk
 ·rename_i d xs tys
  refine Q5 (o:=⟨dst, .call ⟨.value (.tmp d),xs,tys⟩,type,pos,after,guard⟩) rfl (fun f xs tys e=>by cases e) (K:=K) (by unfold kv;exact hv) h (fun _ _=>rfl) fun v g' bx w' hok bH _ _ hk=> ?_
  exact hK g' _ _ _ (bH.put hd hok) hk
 ·rename_i xs tys
  refine Q5 (o:=⟨dst, .call ⟨.builtin .append,xs,tys⟩,type,pos,after,guard⟩) rfl (fun f xs tys e=>by cases e) (K:=K) (by unfold kv;exact hv) h (fun _ _=>rfl) fun v g' bx w' hok bH _ _ hk=> ?_
  exact hK g' _ _ _ (bH.put hd hok) hk
 ·exact mJ h hd hv fun g' s' a' w' hr hk=>hK g' s' a' w' (hr.mono fun n hn=>by omega) hk
end
end Go.bA
