/-
  The calculus: calls that make several boxes; and regions whose order Go leaves open that hold such calls: what only looks may be walked first, new variables last. Nothing here speaks of a program.
-/
import Derived.Test.YtpnehhpadofcbaaGreatDoorVcgY
namespace Go.bU
set_option linter.unusedSectionVars false
set_option linter.unusedSimpArgs false
set_option linter.unusedVariables false
def bA (P:Program) [Tables P] (nm f:Nat) (xs:Option (List AV)) (dst:Option Nat) (K:AS→Prop) (s:AS):Prop:=match xs with
 | none=>False
 | some l=> ∀ (W:Nat→Prop) (N:Nat) (w0:iH P) (g:Where) (a:Act) (w:World),cx W N w0 (fun n=>n < nm) g s a w→
   Calls P f (l.map (AV.aq g)).toArray w fun e w'=> ∃ v g' bx,e= .returned (AV.aq g' v)∧AV.ok (fun n=>n < nm+4) v∧cx W N w0 (fun n=>n < nm+4) g' { s with box:=bx } a w'∧
    (∀ t b,bx t=some b→b.rw=true∨ ∃ b0,s.box t=some b0∧g' t=g t)∧K (({ s with box:=bx }:AS).put dst (some v))
def mP (P:Program) [Tables P] (nm:Nat) (b:Builtin) (tys:Array TypeId) (type:TypeId) (consts:Array Bool) (xs:Option (List AV)) (dst:Option Nat) (K:AS→Prop) (s:AS):Prop:=match xs with
 | none=>False
 | some l=>gS P nm b tys type consts l dst K s
def TE (P:Program) [Tables P] (nm:Nat) (fv:Option AV) (xs:Option (List AV)) (dst:Option Nat) (K:AS→Prop) (s:AS):Prop:=match fv with
 | some (.inl (.inl (.inl (.func (.func f) ⟨[]⟩ caps))))=>ai P f=true∧bA P nm f (LD xs (sA caps.toList)) dst K s
 | _=>False
def lT (P:Program) [Tables P] (nm:Nat) (o:Oper) (K:AS→Prop) (s:AS):Prop:=match o.op with
 | .call ⟨.value (.func f),xs,_⟩=>if ai P f=true then bA P nm f (bD s xs.toList) o.dst K s else pV P f (bD s xs.toList) o.dst K s
 | .call ⟨.value (.tmp d),xs,_⟩=>TE P nm (s.env d) (bD s xs.toList) o.dst K s
 | .call ⟨.builtin .append,xs,tys⟩=>mP P nm .append tys o.type (xs.map isConst) (bD s xs.toList) o.dst K s
 | _=>cl P nm o K s
def cX (P:Program) [Tables P] (ops:Array Oper) (base:Nat) (K:AS→Prop):List Nat→Nat→AS→Prop
 | [],k,s=>K { s with next:=base+4*(k+1) }
 | i::r,k,s=>match ops[i]? with
  | some o=>lT P (base+4*(k+1)) o (cX P ops base K r (k+1)) s
  | none=>False
def isPure (o:Op):Bool:=match o with
 | .move _ | .load .. | .fieldAddr .. | .nilCheck _ | .field .. | .index .. | .indexAddr .. | .build .. | .extract .. | .binOp .. | .unOp .. =>true
 | .slice _ _ _ _ none=>true
 | .convert .. =>true
 | _=>false
def v8 (o:Op):Bool:=match o with
 | .call ⟨.value (.func _),_,_⟩=>true
 | .call ⟨.value (.tmp _),_,_⟩=>true
 | .call ⟨.builtin .append,_,_⟩=>true
 | .buildSlice .. =>true
 | .build .. =>true
 | _=>false
def EC (o:Op):Bool:=match o with
 | .alloc _=>true
 | _=>false
def iX (P:Program) [Tables P] (ops:Array Oper) (nm:Nat) (K:AS→Prop):List Nat→AS→Prop
 | [],s=>K s
 | i::r,s=>match ops[i]? with
  | some o=>cl P nm o (iX P ops nm K r) s
  | none=>False
def Mf (b:Option aN):Option aN:=match b with
 | some ⟨false,cs⟩=>some ⟨false,cs⟩
 | _=>none
def qp (dm:List Nat) (box:Nat→Option aN) (t:Nat):Option aN:=if dm.contains t=true then (match box t with
 | some b=>some ⟨false,b.cells⟩
 | none=>none) else box t
def Lh (pm:List Nat) (b0 b:Nat→Option aN) (t:Nat):Option aN:=if pm.contains t=true then b0 t else b t
def CZ (D:List Nat) (env:Nat→Option AV) (d:Nat):Option AV:=if D.contains d=true then none else env d
def Q7 (ops:Array Oper) (i:Nat) (p:Oper→Bool):Bool:=match ops[i]? with
 | some o=>p o
 | none=>false
def gb (ops:Array Oper) (i:Nat):List Nat:=match ops[i]? with
 | some o=>o.dst.toList
 | none=>[]
def dstsOf (ops:Array Oper):List Nat→List Nat
 | []=>[]
 | i::r=>gb ops i++dstsOf ops r
def Ps (ops:Array Oper) (i:Nat):List Nat:=match ops[i]? with
 | some o=>o.looksAt ops
 | none=>[]
def jE (l m:List Nat):Bool:=l.all fun x=> !m.contains x
def kh (ops:Array Oper):List Nat→Bool
 | []=>true
 | i::r=>r.all (fun j=>waits ops ops.size j i)&&kh ops r
def TF (ops:Array Oper):List Nat→Bool
 | []=>true
 | i::r=>jE (Ps ops i) (dstsOf ops (i::r))&&jE (gb ops i) (dstsOf ops r)&&TF ops r
def lj (ops:Array Oper) (A R Z F:List Nat):Bool:=
 (List.range ops.size).all (fun i=>A.contains i||R.contains i||Z.contains i||F.contains i)&&
 (List.range ops.size).all (fun i=>Q7 ops i fun o=>o.guard.isNone&&o.after.toList.all fun e=> !Region.binds .any e||decide (e.on < i))&&
 A.all (fun i=>Q7 ops i fun o=>isPure o.op&&o.dst.isSome&&o.after.toList.all (fun e=> !Region.binds .any e||A.contains e.on)&&jE (o.looksAt ops) (dstsOf ops (R++Z++F))&&A.all fun j=>jE (gb ops j) (o.looksAt ops)||waits ops ops.size i j)&&
 TF ops A&&jE (dstsOf ops A) (dstsOf ops (R++Z++F))&&jE A (R++Z++F)&&jE R (Z++F)&&jE Z F&&
 R.all (fun i=>Q7 ops i fun o=>v8 o.op&&jE (o.looksAt ops) (dstsOf ops Z)&&A.all fun j=>jE (gb ops j) (o.looksAt ops)||waits ops ops.size i j)&&
 kh ops R&&jE (dstsOf ops R) (dstsOf ops Z)&&Wa ops Z&&
 Z.all (fun i=>Q7 ops i fun o=>EC o.op&&o.dst.isSome)&&
 F.all (fun i=>(A++R++Z).all fun j=>waits ops ops.size i j)&&F.all (fun i=>decide (i < ops.size))
where
 Wa (ops:Array Oper):List Nat→Bool
  | []=>true
  | i::r=>jE (gb ops i) (dstsOf ops r)&& !r.contains i&&Wa ops r
def nW (ops:Array Oper) (A R Z F:List Nat):Bool:=lj ops A R Z F&&kh ops F
def TG (P:Program) [Tables P] (ops:Array Oper) (A R Z F dm:List Nat) (K:AS→Prop) (s:AS):Prop:=
 iX P ops s.next (fun sr=>cX P ops s.next K (R++Z++F) 0 ⟨sr.env,qp dm s.box,s.next⟩) A ⟨CZ (dstsOf ops (A++R++Z++F)) s.env,fun t=>Mf (qp dm s.box t),s.next⟩
def Pt (P:Program) [Tables P] (ops:Array Oper) (A R Z F dm pm:List Nat) (K:AS→Prop) (s:AS):Prop:=
 (∀ t ∈ pm,dm.contains t=true∧ ∃ cs,s.box t=some ⟨true,cs⟩)∧iX P ops s.next (fun sr=>cX P ops s.next (fun s1=>cX P ops s.next K (Z++F) R.length ⟨s1.env,Lh pm s.box s1.box,s1.next⟩) R 0 ⟨sr.env,qp dm s.box,s.next⟩) A ⟨CZ (dstsOf ops (A++R++Z++F)) s.env,fun t=>Mf (qp dm s.box t),s.next⟩
def yR (ops:Array Oper) (F:List Nat):Array Bool:=⟨(List.range ops.size).map fun i=> !F.contains i⟩
def F1 (ops:Array Oper) (F:List Nat) (t:bn):Bool:=bn.here ops (eL (yR ops F) ops.toList 0).length (yR ops F) t&&bn.all ops (eL (yR ops F) ops.toList 0).length (yR ops F) t
def Pu (P:Program) [Tables P] (ops:Array Oper) (A R Z F dm pm:List Nat) (tr:bn) (K:AS→Prop) (s:AS):Prop:=
 (∀ t ∈ pm,dm.contains t=true∧ ∃ cs,s.box t=some ⟨true,cs⟩)∧iX P ops s.next (fun sr=>cX P ops s.next (fun s1=>cX P ops s.next (fun s2=>Da P ops (s.next+4*(R.length+Z.length+1)) K tr 0 s2) Z R.length ⟨s1.env,Lh pm s.box s1.box,s1.next⟩) R 0 ⟨sr.env,qp dm s.box,s.next⟩) A ⟨CZ (dstsOf ops (A++R++Z++F)) s.env,fun t=>Mf (qp dm s.box t),s.next⟩
section
variable {P:Program} [Tables P] {W:Nat→Prop} {N:Nat} {w0:iH P} {M:Nat→Prop} {g:Where} {s:AS} {a:Act} {w:World} {ops:Array Oper} {nm:Nat} {o:Oper}
def pY (g:Where) (s:AS) (b:Nat):Prop:= ∃ t bx,s.box t=some bx∧bx.rw=true∧(g t).1=b
theorem cx.tB (h:cx W N w0 M g s a w) {pn:Nat} (xg: ∀ n,n < pn→M n):cx (pY g s) N ⟨w,pn,g,h.laid⟩ M g s a w:=
 ⟨h.size,h.defers,h.env,h.names,h.mem,fun t b hb hrw=>Or.inr ⟨t,b,hb,hrw,rfl⟩,Frame.refl _ _,fun n hn=>⟨xg n hn,rfl⟩,fun b bx hb=>by
  rintro ⟨t,c,hc,hrw,rfl⟩
  rcases h.own t c hc hrw with h3 | h3
  ·have:=(w0.laid.rows _ bx hb).1;omega
  ·exact h.tabs _ bx hb h3⟩
theorem cx.tC (h:cx W N w0 M g s a w) {pn:Nat} {hl:Laid P w} {M':Nat→Prop} {g':Where} {s':AS} {a':Act} {w':World} (hM: ∀ n,M n→n < pn)
  (h':cx (pY g s) N ⟨w,pn,g,hl⟩ M' g' s' a' w'):cx W N w0 M' g' s' a' w':=by
 have ho: ∀ b,pY g s b→w0.heap.size≤b∨W b:=fun b hb=>by
  obtain ⟨t,c,hc,hrw,rfl⟩:=hb
  exact h.own t c hc hrw
 have hf:=h'.frame
 refine ⟨h'.size,h'.defers,h'.env,h'.names,h'.mem,fun t b hb hrw=> ?_, ?_,fun n hn=> ?_,h.tabs⟩
 ·rcases h'.own t b hb hrw with h1 | h1
  ·exact .inl (Nat.le_trans h.frame.size h1)
  ·exact ho _ h1
 ·refine ⟨hf.os.trans h.frame.os,hf.tape.trans h.frame.tape,hf.output.trans h.frame.output,Nat.le_trans h.frame.size hf.size,fun k hk hW=> ?_⟩
  have:=hf.block k (Nat.lt_of_lt_of_le hk h.frame.size) fun hO=>(ho k hO).elim (fun h1=>by omega) hW
  exact this.trans (h.frame.block k hk hW)
 ·obtain ⟨h1,h2⟩:=h.pin n hn
  obtain ⟨h3,h4⟩:=h'.pin n (hM n h1)
  exact ⟨h3,h4.trans h2⟩
theorem ED {f:Nat} {l:List AV} {dst:Option Nat} {K:AS→Prop} (hv:bA P nm f (some l) dst K s) (h:cx W N w0 (fun n=>n < nm) g s a w):
  Calls P f (l.map (AV.aq g)).toArray w fun e w'=> ∃ v g' bx,e= .returned (AV.aq g' v)∧AV.ok (fun n=>n < nm+4) v∧cx W N w0 (fun n=>n < nm+4) g' { s with box:=bx } a w'∧
   (∀ β,β < w.heap.size→(∀ t b,s.box t=some b→(g t).1≠β)→w'.heap[β]? =w.heap[β]? ∧ ∀ t b,bx t=some b→(g' t).1≠β)∧(∀ t b,bx t=some b→b.rw=true∨ ∃ b0,s.box t=some b0∧g' t=g t)∧K (({ s with box:=bx }:AS).put dst (some v)):=by
 refine (hv _ N _ g a w (h.tB (pn:=nm) fun n hn=>hn)).mono ?_
 rintro e w' ⟨v,g',bx,rfl,hok,bT,hnew,hk⟩
 refine ⟨v,g',bx,rfl,hok,h.tC (fun n hn=>hn) bT,fun β hβ hno=>⟨?_,fun t b hb=> ?_⟩,hnew,hk⟩
 ·exact bT.frame.block β hβ fun ⟨t,c,hc,_,e⟩=>hno t c hc e
 ·rcases hnew t b hb with hrw | ⟨b0,hb0,e⟩
  ·rcases bT.own t b hb hrw with h1 | ⟨t',c,hc,_,e⟩
   ·have h1':w.heap.size≤(g' t).1:=h1
    omega
   ·rw[← e];exact hno t' c hc
  ·rw[e];exact hno t b0 hb0
theorem F2 {bx:Nat→Option aN} {g':Where} {w':World} {a:Act} {k:Nat} (h:cx W N w0 (fun n=>n < nm) g s a w) (bT:cx (pY g s) N ⟨w,nm,g,h.laid⟩ (fun n=>n < k) g' { s with box:=bx } a w')
  (hnew: ∀ t b,bx t=some b→b.rw=true∨ ∃ b0,s.box t=some b0∧g' t=g t): ∀ β,β < w.heap.size→(∀ t b,s.box t=some b→(g t).1≠β)→w'.heap[β]? =w.heap[β]? ∧ ∀ t b,bx t=some b→(g' t).1≠β:=fun β hβ hno=>⟨
 bT.frame.block β hβ fun ⟨t,c,hc,_,e⟩=>hno t c hc e,fun t b hb=>by
  rcases hnew t b hb with hrw | ⟨b0,hb0,e⟩
  ·rcases bT.own t b hb hrw with h1 | ⟨t',c,hc,_,e⟩
   ·have h1':w.heap.size≤(g' t).1:=h1
    omega
   ·rw[← e];exact hno t' c hc
  ·rw[e];exact hno t b0 hb0⟩
theorem TH {K:AS→Prop} {ap:Act} (hop:v8 o.op=true) (Zm: ∀ f xs tys,o.op= .call ⟨.value (.func f),xs,tys⟩→ai P f=true) (hv:lT P nm o K s) (h:cx W N w0 (fun n=>n < nm) g s ap w)
  (heq: ∀ x ∈ o.op.operands,a.eval x=ap.eval x) {next:Act→World→Prop} {Q:Exit→Act→World→Prop}
  (hN: ∀ v g' bx w',AV.ok (fun n=>n < nm+4) v→cx W N w0 (fun n=>n < nm+4) g' { s with box:=bx } ap w'→
   (∀ β,β < w.heap.size→(∀ t b,s.box t=some b→(g t).1≠β)→w'.heap[β]? =w.heap[β]? ∧ ∀ t b,bx t=some b→(g' t).1≠β)→(∀ t b,bx t=some b→b.rw=true∨ ∃ b0,s.box t=some b0∧g' t=g t)→K (({ s with box:=bx }:AS).put o.dst (some v))→next (a.put o.dst (AV.aq g' v)) w'):o.wp P a w next Q:=by
 have hsel: ∀ cs b,o.op≠ .select cs b:=fun cs b e=>by rw[e]at hop;cases hop
 have hex:=execOp_congr o hsel heq
 unfold Oper.wp
 rw[hex]
 obtain ⟨dst,op,type,pos,after,guard⟩:=o
 simp only at hop Zm hN hv
 unfold lT at hv
 simp only at hv
 split at hv
 ·rename_i f xs tys
  rw[if_pos (Zm f xs tys rfl)]at hv
  cases hargs:bD s xs.toList with
  | none=>rw[hargs]at hv;exact hv.elim
  | some l=>
   rw[hargs]at hv
   have hx1:xs.map ap.eval=(l.map (AV.aq g)).toArray:=by
    apply Array.ext'
    rw[Array.toList_map,(dQ h _ _ hargs).1]
   rw[ly f xs tys dst type pos after guard ap.eval rfl w,fj (Zm f xs tys rfl),hx1]
   simp only[Oper.upon]
   refine (ED hv h).mono ?_
   rintro e w' ⟨v,g',bx,rfl,hok,bT,hkeep,hnew,hk⟩
   exact hN v g' bx w' hok bT hkeep hnew hk
 ·rename_i d xs tys
  unfold TE at hv
  split at hv
  ·rename_i f caps hfv
   obtain ⟨hc,hv⟩:=hv
   cases hl:LD (bD s xs.toList) (sA caps.toList) with
   | none=>rw[hl]at hv;exact hv.elim
   | some l=>
    rw[hl]at hv
    unfold LD at hl
    split at hl
    ·rename_i l1 l2 h1 h2
     cases hl
     have hargs:xs.map ap.eval++(⟨caps.toList.map (xm g)⟩:Array Value)=((l1++l2).map (AV.aq g)).toArray:=by
      apply Array.ext'
      rw[Array.toList_append,Array.toList_map,(dQ h _ _ h1).1, ← sZ _ _ h2,List.map_append]
     rw[DF d xs tys dst type pos after guard ap.eval (f:=f) (cs:=⟨caps.toList.map (xm g)⟩) (h.eval (x:= .tmp d) hfv) w,fj hc,hargs]
     simp only[Oper.upon]
     refine (ED hv h).mono ?_
     rintro e w' ⟨v,g',bx,rfl,hok,bT,hkeep,hnew,hk⟩
     exact hN v g' bx w' hok bT hkeep hnew hk
    ·cases hl
  ·exact hv.elim
 ·rename_i xs tys
  unfold mP at hv
  split at hv
  ·exact hv.elim
  ·rename_i l hl
   have hargs:xs.map ap.eval=(l.map (AV.aq g)).toArray:=by
    apply Array.ext'
    rw[Array.toList_map,(dQ h _ _ hl).1]
   obtain ⟨v,g',bx,w',hrun,hok,bT,hnew,hk⟩:=hv _ N _ g ap w (h.tB (pn:=nm) fun n hn=>hn)
   have:(execOp ap.eval { dst,op:= .call ⟨.builtin .append,xs,tys⟩,type,pos,after,guard }).run P w= .ok (.value (AV.aq g' v)) w':=by
    simp only[execOp,resolve,Sem.run_bind,Sem.run_pure,Result.andThen_ok,invoke]
    refine Eq.trans (congrArg (fun c=>Sem.run P (builtin .append tys type c (xs.map ap.eval)) w) (?_:_=xs.map isConst)) ?_
    ·apply Array.map_congr_left;intro x _;cases x<;>rfl
    ·rw[hargs,hrun]
   rw[this]
   simp only[Oper.upon]
   exact hN v g' bx w' (AV.bm (fun n hn=>by omega) hok) ((h.tC (fun n hn=>hn) bT).mono (fun n hn=>by omega)) (F2 h bT hnew) hnew hk
 ·rename_i hn1 hn2 hn3
  cases op<;>try (cases hop;done)
  case call c=>
   obtain ⟨cal,xs,tys⟩:=c
   cases cal with
   | value x=>cases x<;>first | exact absurd rfl (hn1 _ _ _) | exact absurd rfl (hn2 _ _ _) | cases hop
   | builtin b=>cases b<;>first | exact absurd rfl (hn3 _ _) | cases hop
   | invoke=>cases hop
  case build t parts=>
   replace hv:bO (fy P nm s (.build t parts)) nm dst K s:=hv
   unfold bO at hv
   split at hv
   ·rename_i e he
    have he':=he
    replace he':gD P t s parts.toList=some e:=he'
    obtain ⟨v,rfl⟩: ∃ v,e=(some v,none):=by
     unfold gD at he'
     (repeat' split at he')<;>first | (simp only[Option.some.injEq]at he';exact ⟨_,he'.symm⟩) | cases he'
    obtain ⟨g',w',r,hr⟩:=iI (P:=P) (o:=⟨dst, .build t parts,type,pos,after,guard⟩) (h.tB (pn:=nm) fun n hn=>hn) (Nat.lt_irrefl nm) he
    obtain ⟨hrv,hok⟩:=hr.val
    rw[hr.run,hrv]
    simp only[Oper.upon]
    have jg:cx (pY g s) N ⟨w,nm,g,h.laid⟩ (fun k=>k < nm+1) g' { s with box:=s.box } ap w':=hr.rep.mono (fun k hk=>by rcases hk with h | h<;>omega)
    have hnew: ∀ t b,s.box t=some b→b.rw=true∨ ∃ b0,s.box t=some b0∧g' t=g t:=fun t b hb=> .inr ⟨b,hb,hr.same t (h.names.box t b hb).1⟩
    exact hN v g' _ w' (AV.bm (fun k hk=>by rcases hk with h | h<;>omega) hok) ((h.tC (fun n hn=>hn) jg).mono (fun k hk=>by omega)) (F2 h jg hnew) hnew hv
   ·exact hv.elim
  case buildSlice t n parts=>
   replace hv:bO (fy P nm s (.buildSlice t n parts)) nm dst K s:=hv
   unfold bO at hv
   split at hv
   ·rename_i e he
    have he':=he
    replace he':fU nm (qh P t) n s parts.toList=some e:=he'
    obtain ⟨l,rfl⟩: ∃ l,e=(some (Sl nm 0 n n),some (.inl l)):=by
     unfold fU at he'
     split at he'
     ·split at he'
      ·split at he'
       ·cases he';exact ⟨_,rfl⟩
       ·cases he'
      ·cases he'
     ·cases he'
    obtain ⟨g',w',r,hr⟩:=iI (P:=P) (o:=⟨dst, .buildSlice t n parts,type,pos,after,guard⟩) (h.tB (pn:=nm) fun n hn=>hn) (Nat.lt_irrefl nm) he
    obtain ⟨hrv,hok⟩:=hr.val
    rw[hr.run,hrv]
    simp only[Oper.upon]
    have jg:cx (pY g s) N ⟨w,nm,g,h.laid⟩ (fun k=>k < nm+1) g' { s with box:=upd s.box nm (some ⟨true,l⟩) } ap w':=hr.rep.mono (fun k hk=>by rcases hk with h | h<;>omega)
    have hnew: ∀ t b,upd s.box nm (some ⟨true,l⟩) t=some b→b.rw=true∨ ∃ b0,s.box t=some b0∧g' t=g t:=fun t b hb=>by
     unfold upd at hb
     split at hb
     ·cases hb;exact .inl rfl
     ·rename_i e
      exact .inr ⟨b,hb,hr.same t (h.names.box t b hb).1⟩
    exact hN (Sl nm 0 n n) g' _ w' (AV.bm (fun k hk=>by rcases hk with h | h<;>omega) hok) ((h.tC (fun n hn=>hn) jg).mono (fun k hk=>by omega)) (F2 h jg hnew) hnew hv
   ·exact hv.elim
theorem Bv {K:AS→Prop} (h:cx W N w0 (fun n=>n < nm) g s a w) (hd: ∀ d,o.dst=some d→d < N) (hv:lT P nm o K s)
  {next:Act→World→Prop} {Q:Exit→Act→World→Prop} (hK: ∀ g' s' a' w',cx W N w0 (fun n=>n < nm+4) g' s' a' w'→K s'→next a' w'):o.wp P a w next Q:=by
 unfold lT at hv
 obtain ⟨dst,op,type,pos,after,guard⟩:=o
 simp only at hv hd
 split at hv
 ·rename_i f xs tys
  have hargs: ∀ l,bD s xs.toList=some l→xs.map a.eval=(l.map (AV.aq g)).toArray:=fun l hl=>by
   apply Array.ext'
   rw[Array.toList_map,(dQ h _ _ hl).1]
  split at hv
  ·rename_i hc
   unfold bA at hv
   split at hv
   ·exact hv.elim
   ·rename_i l hl
    unfold Oper.wp
    rw[ly f xs tys dst type pos after guard a.eval rfl w,fj hc,hargs l hl]
    simp only[Oper.upon]
    refine (hv W N w0 g a w h).mono ?_
    rintro e w' ⟨v,g',bx,rfl,hok,bT,_,hk⟩
    exact hK g' _ _ _ (bT.put hd hok) hk
  ·exact ot (o:=⟨dst, .call ⟨.value (.func f),xs,tys⟩,type,pos,after,guard⟩) h hd (by unfold cl;simp only;rw[if_neg (by assumption)];exact hv) fun g' s' a' w' hr hk=>hK g' s' a' w' (hr.mono fun n hn=>by omega) hk
 ·rename_i d xs tys
  refine TH (o:=⟨dst, .call ⟨.value (.tmp d),xs,tys⟩,type,pos,after,guard⟩) rfl (fun f xs tys e=>by cases e) (K:=K) (by unfold lT;exact hv) h (fun _ _=>rfl) fun v g' bx w' hok bT _ _ hk=> ?_
  exact hK g' _ _ _ (bT.put hd hok) hk
 ·rename_i xs tys
  refine TH (o:=⟨dst, .call ⟨.builtin .append,xs,tys⟩,type,pos,after,guard⟩) rfl (fun f xs tys e=>by cases e) (K:=K) (by unfold lT;exact hv) h (fun _ _=>rfl) fun v g' bx w' hok bT _ _ hk=> ?_
  exact hK g' _ _ _ (bT.put hd hok) hk
 ·exact ot h hd hv fun g' s' a' w' hr hk=>hK g' s' a' w' (hr.mono fun n hn=>by omega) hk
end
end Go.bU
