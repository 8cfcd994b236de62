/-
  The calculus over a function's code: plain regions, tests, blocks, loops, calls; and the way in and out. Nothing here speaks of a program.
-/
import Derived.Test.YtoakenpcooglpaaGreatDoorVcgB
set_option linter.unusedVariables false
set_option linter.unusedSimpArgs false
namespace Go.cA
set_option linter.unusedSectionVars false
def fi (K:AS→Prop) (F:Exit→AS→Prop) (e:Exit) (s:AS):Prop:=match e with
 | .normal=>K s
 | e=>F e s
def iY (id:Nat) (F:Exit→AS→Prop) (e:Exit) (s:AS):Prop:=match e with
 | .exit id'=>if id'=id then F .normal s else F (.exit id') s
 | e=>F e s
def mP (c:Option AV) (A B:AS→Prop) (s:AS):Prop:=match c with
 | some (.inl (.inl (.inl (.bool b))))=>(b=true→A s)∧(b=false→B s)
 | _=>False
def bQ (e:Option dE) (nm:Nat) (dst:Option Nat) (K:AS→Prop) (s:AS):Prop:=match e with
 | some e=>K ((s.mem nm e.2).put dst e.1)
 | none=>False
def ai (P:Program) (f:Nat):Bool:=match P.funcs[f]? with
 | some fn=>fn.name != "runtime.NumGoroutine" &&fn.body.isSome
 | none=>false
def bN (s:AS) (xs:List Operand):Option (List AV):=match xs with
 | []=>some []
 | x::r=>match s.aQ x,bN s r with
  | some v,some l=>some (v::l)
  | _,_=>none
def aB (P:Program) [Tables P] (nm:Nat) (f:Nat) (xs:Option (List AV)) (dst:Option Nat) (K:AS→Prop) (s:AS):Prop:=match xs with
 | none=>False
 | some l=> ∀ (W:Nat→Prop) (N:Nat) (w0:gF P) (g:bG) (a:Act) (w:World),cE W N w0 (fun n=>n < nm) g s a w→
   Calls P f (l.map (AV.av g)).toArray w fun e w'=> ∃ v g' s',e= .returned (AV.av g' v)∧AV.ok (fun n=>n < nm+1) v∧cE W N w0 (fun n=>n < nm+1) g' s' a w'∧K (s'.put dst (some v))
def mF (P:Program) (f:Nat) (xs:Option (List AV)) (dst:Option Nat) (K:AS→Prop) (s:AS):Prop:=match xs with
 | none=>False
 | some l=> ∃ v,AV.ok (fun _=>False) v∧(∀ g w,(callFunc f (l.map (AV.av g)).toArray).run P w= .ok (.value (AV.av g v)) w)∧K (s.put dst (some v))
def cC (P:Program) [Tables P] (nm:Nat) (b:Builtin) (tys:Array TypeId) (type:TypeId) (consts:Array Bool) (xs:Option (List AV)) (dst:Option Nat) (K:AS→Prop) (s:AS):Prop:=match xs with
 | none=>False
 | some l=> ∀ (W:Nat→Prop) (N:Nat) (w0:gF P) (g:bG) (a:Act) (w:World),cE W N w0 (fun n=>n < nm) g s a w→
   ∃ v g' s' w',(builtin b tys type consts (l.map (AV.av g)).toArray).run P w= .ok (.value (AV.av g' v)) w'∧AV.ok (fun n=>n < nm+1) v∧cE W N w0 (fun n=>n < nm+1) g' s' a w'∧K (s'.put dst (some v))
def isConst (x:Operand):Bool:=match x with
 | .const _=>true
 | _=>false
def cv (P:Program) [Tables P] (nm:Nat) (o:Oper) (K:AS→Prop) (s:AS):Prop:=match o.op with
 | .call ⟨.value (.func f),xs,_⟩=>if ai P f=true then aB P nm f (bN s xs.toList) o.dst K s else mF P f (bN s xs.toList) o.dst K s
 | .call ⟨.builtin .len,xs,tys⟩=>bQ (fB (lq P tys.toList) (bN s xs.toList)) nm o.dst K s
 | .call ⟨.builtin b,xs,tys⟩=>cC P nm b tys o.type (xs.map isConst) (bN s xs.toList) o.dst K s
 | op=>bQ (fa P nm s op) nm o.dst K s
def fh (ops:Array Oper) (s:AS) (j:Nat):Option AV:=match ops[j]? with
 | some o=>match o.dst with
  | some d=>s.env d
  | none=>none
 | none=>none
def ni (c:Option AV) (want:Bool):Option AV:=match c with
 | some (.inl (.inl (.inl (.tuple _))))=>some (B (!want))
 | c=>c
def dB (c:Option AV) (want:Bool) (A B:Prop):Prop:=match c with
 | some (.inl (.inl (.inl (.bool b))))=>(b=want→A)∧(b≠want→B)
 | _=>False
def wu (P:Program) [Tables P] (ops:Array Oper) (nm:Nat) (o:Oper) (K:AS→Prop) (s:AS):Prop:=match o.guard with
 | none=>cv P nm o K s
 | some (j,want)=>dB (ni (fh ops s j) want) want (cv P nm o K s) (K (s.put o.dst (some (V undef))))
def kL (P:Program) [Tables P] (ops:Array Oper) (base:Nat) (l:List Oper) (i:Nat) (K:AS→Prop) (s:AS):Prop:=match l with
 | []=>K { s with next:=base+i }
 | o::rest=>wu P ops (base+i) o (kL P ops base rest (i+1) K) s
def SV.bh (r:Nat→Nat):SV→SV
 | .inl v=> .inl v
 | .inr (.inl (t,o))=> .inr (.inl (r t,o))
 | .inr (.inr (t,o,n,c))=> .inr (.inr (r t,o,n,c))
def CV.bh (r:Nat→Nat):CV→CV
 | .inl s=> .inl (SV.bh r s)
 | .inr l=> .inr (l.map (SV.bh r))
def AV.bh (r:Nat→Nat):AV→AV
 | .inl c=> .inl (CV.bh r c)
 | .inr l=> .inr (l.map (CV.bh r))
structure sR (r:Nat→Nat) (s t:AS):Prop where
 env: ∀ d v,t.env d=some v→s.env d=some (AV.bh r v)
 box: ∀ n b,t.box n=some b→ ∃ b',s.box (r n)=some b'∧(b.rw=true→b'.rw=true)∧b'.cells=b.cells.map (SV.bh r)
 inj: ∀ n n' b b',t.box n=some b→b.rw=true→t.box n'=some b'→r n=r n'→n=n'
 names:Names (fun n=>n < t.next) t
def abj (s t:AS):Prop:=sR (fun n=>n) s t
def wv (m:Nat) (s t:AS):Prop:= ∃ r,sR r s t∧ ∀ n,n < m→r n=n
def jJ (body:(Exit→AS→Prop)→AS→Prop) (F:Exit→AS→Prop) (s:AS):Prop:=
 ∃ (ι:Type) (st:ι→AS) (μ:ι→Nat) (i₀:ι),wv s.next s (st i₀)∧(∀ i,s.next≤(st i).next)∧
  ∀ i,body (fi (fun s'=> ∃ j,μ j < μ i∧wv s.next s' (st j)) F) (st i)
def nj (N:Nat) (o:Oper):Bool:=match o.dst with
 | some d=>decide (d < N)
 | none=>true
section
variable {P:Program} [Tables P] {W:Nat→Prop} {N:Nat} {w0:gF P} {g:bG} {s:AS} {a:Act} {w:World}
theorem SV.cP (g:bG) (r:Nat→Nat) (x:SV):SV.av g (SV.bh r x)=SV.av (fun n=>g (r n)) x:=by
 rcases x with v | ⟨t,o⟩ | ⟨t,o,n,c⟩<;>rfl
theorem CV.cP (g:bG) (r:Nat→Nat) (x:CV):CV.av g (CV.bh r x)=CV.av (fun n=>g (r n)) x:=by
 rcases x with x | l
 ·exact SV.cP g r x
 ·simp[CV.bh,CV.av,SV.cP]
theorem AV.cP (g:bG) (r:Nat→Nat) (x:AV):AV.av g (AV.bh r x)=AV.av (fun n=>g (r n)) x:=by
 rcases x with x | l
 ·exact CV.cP g r x
 ·simp[AV.bh,AV.av,CV.cP]
theorem cE.dv {M:Nat→Prop} (h:cE W N w0 M g s a w) {r:Nat→Nat} {t:AS} (hr:sR r s t) (hp: ∀ n,n < w0.pn→r n=n∧n < t.next):
  cE W N w0 (fun n=>n < t.next) (fun n=>g (r n)) t a w:=by
 refine ⟨h.size,h.defers,fun d v hv=> ?_,hr.names,⟨fun n b hb=> ?_,fun n b hb i v hv=> ?_,fun n b hb hrw i hi=> ?_,fun n n' b b' hb hrw hb' hne=> ?_⟩,fun n b hb hrw=> ?_,h.frame,fun n hn=>⟨(hp n hn).2,by show g (r n)=_;rw[(hp n hn).1];exact (h.kJ n hn).2⟩,h.tabs⟩
 ·rw[h.env d _ (hr.env d v hv),AV.cP]
 ·obtain ⟨b',h1,_,_⟩:=hr.box n b hb
  exact h.mem.lt _ b' h1
 ·obtain ⟨b',h1,_,h3⟩:=hr.box n b hb
  have:=h.mem.cell _ b' h1 i (SV.bh r v) (by rw[h3];simp[hv])
  rw[this,SV.cP]
 ·obtain ⟨b',h1,h2,h3⟩:=hr.box n b hb
  exact h.mem.free _ b' h1 (h2 hrw) i (by rw[h3];simpa using hi)
 ·obtain ⟨c,h1,h2,_⟩:=hr.box n b hb
  obtain ⟨c',h1',_,_⟩:=hr.box n' b' hb'
  exact h.mem.sep _ _ c c' h1 (h2 hrw) h1' (fun e=>hne (hr.inj n n' b b' hb hrw hb' e))
 ·obtain ⟨c,h1,h2,_⟩:=hr.box n b hb
  exact h.own _ c h1 (h2 hrw)
theorem cE.next {M:Nat→Prop} (h:cE W N w0 M g s a w) (n:Nat):cE W N w0 M g { s with next:=n } a w:=
 ⟨h.size,h.defers,h.env,⟨h.names.env,h.names.box⟩,⟨h.mem.lt,h.mem.cell,h.mem.free,h.mem.sep⟩,h.own,h.frame,h.kJ,h.tabs⟩
theorem eN {M:Nat→Prop} (h:cE W N w0 M g s a w): ∀ (xs:List Operand) (l:List AV),bN s xs=some l→xs.map a.eval=l.map (AV.av g)∧ ∀ v ∈ l,AV.ok M v
 | [],l,he=>by simp only[bN,Option.some.injEq]at he;subst he;exact ⟨rfl,by simp⟩
 | x::r,l,he=>by
  unfold bN at he
  split at he
  ·rename_i v l' hv hl'
   simp only[Option.some.injEq]at he;subst he
   obtain ⟨h1,h2⟩:=eN h r l' hl'
   refine ⟨by simp[h.eval hv,h1],fun u hu=> ?_⟩
   rcases List.mem_cons.1 hu with rfl | hu
   ·exact h.names.aQ hv
   ·exact h2 u hu
  ·simp at he
theorem fD {f:Nat} (hc:ai P f=true) (args:Array Value) (w:World):(callFunc f args).run P w= .ok (.enter f args) w:=by
 unfold ai at hc
 split at hc
 ·rename_i fn hf
  simp only[Bool.and_eq_true,bne_iff_ne,ne_eq]at hc
  cases hbo:fn.body with
  | none=>rw[hbo]at hc;simp at hc
  | some c=>simp[callFunc,hf,hc.1,hbo]
 ·simp at hc
theorem jx (f:Nat) (xs:Array Operand) (tys:Array TypeId) (dst:Option Tmp) (type:TypeId) (pos:String) (after:Array Edge) (guard:Option (Nat×Bool)) (r:Operand→Value) (hr:r (.func f)= .func (.func f) #[] #[]) (w:World):
  (execOp r { dst,op:= .call ⟨.value (.func f),xs,tys⟩,type,pos,after,guard }).run P w=(callFunc f (xs.map r)).run P w:=by
 simp[execOp,resolve,hr,Deferred.ofValue,invoke]
theorem lu {nm:Nat} {o:Oper} {K:AS→Prop} (h:cE W N w0 (fun n=>n < nm) g s a w) (hd: ∀ d,o.dst=some d→d < N) (hv:cv P nm o K s)
  {next:Act→World→Prop} {Q:Exit→Act→World→Prop} (hK: ∀ g' s' a' w',cE W N w0 (fun n=>n < nm+1) g' s' a' w'→K s'→next a' w'):o.wp P a w next Q:=by
 unfold cv at hv
 obtain ⟨dst,op,type,pos,after,guard⟩:=o
 simp only at hv hd
 split at hv
 ·rename_i f xs tys
  have hargs: ∀ l,bN s xs.toList=some l→xs.map a.eval=(l.map (AV.av g)).toArray:=fun l hl=>by
   apply Array.ext'
   rw[Array.toList_map,(eN h _ _ hl).1]
  split at hv
  ·rename_i hc
   unfold aB at hv
   split at hv
   ·exact hv.elim
   ·rename_i l hl
    unfold Oper.wp
    rw[jx f xs tys dst type pos after guard a.eval rfl w,fD hc,hargs l hl]
    simp only[Oper.upon]
    refine (hv W N w0 g a w h).mono ?_
    rintro e w' ⟨v,g',s',rfl,hok,dr,hk⟩
    exact hK g' _ _ _ (dr.put hd hok) hk
  ·unfold mF at hv
   split at hv
   ·exact hv.elim
   ·rename_i l hl
    obtain ⟨v,hok,hrun,hk⟩:=hv
    unfold Oper.wp
    rw[jx f xs tys dst type pos after guard a.eval rfl w,hargs l hl,hrun]
    simp only[Oper.upon]
    exact hK g _ _ _ ((h.mono (fun n hn=>by omega)).put hd (AV.bA (fun _ h=>h.elim) hok)) hk
 ·rename_i xs tys
  unfold bQ at hv
  split at hv
  ·rename_i e he
   cases hl:bN s xs.toList with
   | none=>rw[hl]at he;simp[fB]at he
   | some l=>
    rw[hl]at he
    obtain ⟨n,rfl,hrun⟩:=Gi (type:=type) (cs:=xs.map isConst) he
    have hargs:xs.map a.eval=(l.map (AV.av g)).toArray:=by
     apply Array.ext'
     rw[Array.toList_map,(eN h _ _ hl).1]
    unfold Oper.wp
    have:(execOp a.eval { dst,op:= .call ⟨.builtin .len,xs,tys⟩,type,pos,after,guard }).run P w= .ok (.value (.int .i64 n)) w:=by
     simp only[execOp,resolve,Sem.run_bind,Sem.run_pure,Result.andThen_ok,invoke]
     refine Eq.trans (congrArg (fun c=>Sem.run P (builtin .len tys type c (xs.map a.eval)) w) (?_:_=xs.map isConst)) ?_
     ·apply Array.map_congr_left;intro x _;cases x<;>rfl
     ·rw[hargs];exact hrun g w
    rw[this]
    simp only[Oper.upon]
    exact hK g _ _ _ ((h.mono (M':=fun n=>n < nm+1) (fun n hn=>by omega)).put (v:=I .i64 n) hd trivial) hv
  ·exact hv.elim
 ·rename_i b xs tys hnl
  unfold cC at hv
  split at hv
  ·exact hv.elim
  ·rename_i l hl
   have hargs:xs.map a.eval=(l.map (AV.av g)).toArray:=by
    apply Array.ext'
    rw[Array.toList_map,(eN h _ _ hl).1]
   obtain ⟨v,g',s',w',hrun,hok,dr,hk⟩:=hv W N w0 g a w h
   unfold Oper.wp
   have:(execOp a.eval { dst,op:= .call ⟨.builtin b,xs,tys⟩,type,pos,after,guard }).run P w= .ok (.value (AV.av g' v)) w':=by
    simp only[execOp,resolve,Sem.run_bind,Sem.run_pure,Result.andThen_ok,invoke]
    refine Eq.trans (congrArg (fun c=>Sem.run P (builtin b tys type c (xs.map a.eval)) w) (?_:_=xs.map isConst)) ?_
    ·apply Array.map_congr_left;intro x _;cases x<;>rfl
    ·rw[hargs,hrun]
   rw[this]
   simp only[Oper.upon]
   exact hK g' _ _ _ (dr.put hd hok) hk
 ·unfold bQ at hv
  split at hv
  ·rename_i e he
   obtain ⟨g',w',r,hrun⟩:=iX (P:=P) (o:={ dst,op,type,pos,after,guard }) h (Nat.lt_irrefl nm) he
   have dr:=hrun.rep.mono (M':=fun n=>n < nm+1) (fun n hn=>by rcases hn with h | h<;>omega)
   unfold Oper.wp
   rw[hrun.run]
   have hval:=hrun.val
   cases h1:e.1 with
   | none=>
    rw[h1]at hval hv;simp only at hval
    subst hval
    simp only[Oper.upon]
    exact hK g' _ _ _ (dr.Gc undef) hv
   | some v=>
    rw[h1]at hval hv;simp only at hval
    obtain ⟨rfl,hok⟩:=hval
    simp only[Oper.upon]
    exact hK g' _ _ _ (dr.put hd (AV.bA (fun n hn=>by rcases hn with h | h<;>omega) hok)) hv
  ·exact hv.elim
theorem Cs {M:Nat→Prop} (h:cE W N w0 M g s a w) {ops:Array Oper} {j:Nat} {b:Bool} (hg:fh ops s j=some (B b)):yielded ops a.tmps j=some b:=by
 unfold fh at hg
 split at hg
 ·rename_i o ho
  split at hg
  ·rename_i d hd
   have:=h.env d _ hg
   simp[yielded,ho,hd,this,AV.av,CV.av,SV.av]
  ·simp at hg
 ·simp at hg
theorem iy {M:Nat→Prop} (h:cE W N w0 M g s a w) {ops:Array Oper} {o:Oper} {j:Nat} {want b:Bool} (hg:o.guard=some (j,want)) (hb:ni (fh ops s j) want=some (B b)):
  Region.wanted o (yielded ops a.tmps)=(b==want):=by
 unfold ni at hb
 split at hb
 ·rename_i arr hv
  simp only[Option.some.injEq,Sum.inl.injEq,Value.bool.injEq]at hb
  have hy:yielded ops a.tmps j=none:=by
   unfold fh at hv
   split at hv
   ·rename_i p hp
    split at hv
    ·rename_i d hd
     have:=h.env d _ hv
     simp[yielded,hp,hd,this,AV.av,CV.av,SV.av]
    ·simp at hv
   ·simp at hv
  subst hb
  simp only[Region.wanted,hg,hy]
  cases want<;>rfl
 ·have hy:=Cs h hb
  simp only[Region.wanted,hg,hy]
  cases want<;>cases b<;>rfl
theorem CU {ops:Array Oper} {base:Nat} {Q:Exit→Act→World→Prop} {K:AS→Prop}
  (hK: ∀ g' s' a' w',cE W N w0 (fun n=>n < s'.next) g' s' a' w'→K s'→Q .normal a' w'):
  ∀ (l:List Oper) (i:Nat) (g:bG) (s:AS) (a:Act) (w:World),l.all (nj N)=true→cE W N w0 (fun n=>n < base+i) g s a w→kL P ops base l i K s→wpList P ops Q l a w
 | [],i,g,s,a,w,_,h,hv=>hK g _ a w (h.next (base+i)) hv
 | o::rest,i,g,s,a,w,hl,h,hv=>by
  simp only[List.all_cons,Bool.and_eq_true]at hl
  have hd: ∀ d,o.dst=some d→d < N:=fun d hd=>by
   have:=hl.1;unfold nj at this;rw[hd]at this;simpa using this
  have ih:=CU (ops:=ops) (base:=base) (Q:=Q) hK rest (i+1)
  have go:cv P (base+i) o (kL P ops base rest (i+1) K) s→o.wp P a w (wpList P ops Q rest) Q:=fun hr=>
   lu h hd hr (fun g' s' a' w' h' hk=>ih g' s' a' w' hl.2 (h'.mono (fun n hn=>by omega)) hk)
  unfold kL wu at hv
  unfold wpList
  cases hg:o.guard with
  | none=>
   rw[hg]at hv
   rw[if_pos (by simp[Region.wanted,hg])]
   exact .inl (go hv)
  | some p=>
   obtain ⟨j,want⟩:=p
   rw[hg]at hv
   simp only[dB]at hv
   split at hv
   ·rename_i b hb
    have hy:=iy h hg hb
    by_cases rv:b=want
    ·rw[if_pos (by rw[hy];simp[rv])]
     exact .inl (go (hv.1 rv))
    ·rw[if_neg (by rw[hy];simp[rv])]
     exact ih _ _ _ _ hl.2 ((h.put hd (v:=V undef) trivial).mono (fun n hn=>by omega)) (hv.2 rv)
   ·exact hv.elim
end
end Go.cA
