/-
  The calculus over a function's code: plain regions, tests, blocks, loops, calls; and the way in and out. Nothing here speaks of a program.
-/
import Derived.Test.YtbipdofobgabhaaGreatDoorVcgB
set_option linter.unusedVariables false
set_option linter.unusedSimpArgs false
namespace Go.bA
set_option linter.unusedSectionVars false
def gE (K:AS→Prop) (F:Exit→AS→Prop) (e:Exit) (s:AS):Prop:=match e with
 | .normal=>K s
 | e=>F e s
def iD (id:Nat) (F:Exit→AS→Prop) (e:Exit) (s:AS):Prop:=match e with
 | .exit id'=>if id'=id then F .normal s else F (.exit id') s
 | e=>F e s
def ni (c:Option AV) (A B:AS→Prop) (s:AS):Prop:=match c with
 | some (.inl (.inl (.inl (.bool b))))=>(b=true→A s)∧(b=false→B s)
 | _=>False
def bD (e:Option cS) (nm:Nat) (dst:Option Nat) (K:AS→Prop) (s:AS):Prop:=match e with
 | some e=>K ((s.mem nm e.2).put dst e.1)
 | none=>False
def au (P:Program) (f:Nat):Bool:=match P.funcs[f]? with
 | some fn=>fn.name != "runtime.NumGoroutine" &&fn.body.isSome
 | none=>false
def bk (s:AS) (xs:List Operand):Option (List AV):=match xs with
 | []=>some []
 | x::r=>match s.aL x,bk s r with
  | some v,some l=>some (v::l)
  | _,_=>none
def aB (P:Program) [Tables P] (nm:Nat) (f:Nat) (xs:Option (List AV)) (dst:Option Nat) (K:AS→Prop) (s:AS):Prop:=match xs with
 | none=>False
 | some l=> ∀ (W:Nat→Prop) (N:Nat) (w0:Base P) (g:Where) (a:Act) (w:World),bP W N w0 (fun n=>n < nm) g s a w→
   Calls P f (l.map (AV.aq g)).toArray w fun e w'=> ∃ v g' s',e= .returned (AV.aq g' v)∧AV.ok (fun n=>n < nm+1) v∧bP W N w0 (fun n=>n < nm+1) g' s' a w'∧K (s'.put dst (some v))
def ox (P:Program) (f:Nat) (xs:Option (List AV)) (dst:Option Nat) (K:AS→Prop) (s:AS):Prop:=match xs with
 | none=>False
 | some l=> ∃ v,AV.ok (fun _=>False) v∧(∀ g w,(callFunc f (l.map (AV.aq g)).toArray).run P w= .ok (.value (AV.aq g v)) w)∧K (s.put dst (some v))
def bS (P:Program) [Tables P] (nm:Nat) (b:Builtin) (tys:Array TypeId) (type:TypeId) (consts:Array Bool) (xs:Option (List AV)) (dst:Option Nat) (K:AS→Prop) (s:AS):Prop:=match xs with
 | none=>False
 | some l=> ∀ (W:Nat→Prop) (N:Nat) (w0:Base P) (g:Where) (a:Act) (w:World),bP W N w0 (fun n=>n < nm) g s a w→
   ∃ v g' s' w',(builtin b tys type consts (l.map (AV.aq g)).toArray).run P w= .ok (.value (AV.aq g' v)) w'∧AV.ok (fun n=>n < nm+1) v∧bP W N w0 (fun n=>n < nm+1) g' s' a w'∧K (s'.put dst (some v))
def Ub:Value→Option AV
 | .pointer (some ⟨b,o,none⟩)=>some (Ptr b o)
 | .pointer none=>some (V (.pointer none))
 | _=>none
def KX (x:Option AV) (l:Option (List AV)):Option (List AV):=match x,l with
 | some v,some l=>some (v::l)
 | _,_=>none
def qp:List Value→Option (List AV)
 | []=>some []
 | x::r=>KX (Ub x) (qp r)
def II (x y:Option (List AV)):Option (List AV):=match x,y with
 | some l,some m=>some (l++m)
 | _,_=>none
def IJ (P:Program) [Tables P] (nm:Nat) (fv:Option AV) (xs:Option (List AV)) (dst:Option Nat) (K:AS→Prop) (s:AS):Prop:=match fv with
 | some (.inl (.inl (.inl (.func (.func f) ⟨[]⟩ caps))))=>au P f=true∧aB P nm f (II xs (qp caps.toList)) dst K s
 | _=>False
def isConst (x:Operand):Bool:=match x with
 | .const _=>true
 | _=>false
def bM (P:Program) [Tables P] (nm:Nat) (o:Oper) (K:AS→Prop) (s:AS):Prop:=match o.op with
 | .call ⟨.value (.func f),xs,_⟩=>if au P f=true then aB P nm f (bk s xs.toList) o.dst K s else ox P f (bk s xs.toList) o.dst K s
 | .call ⟨.value (.tmp d),xs,_⟩=>IJ P nm (s.env d) (bk s xs.toList) o.dst K s
 | .call ⟨.builtin .len,xs,tys⟩=>bD (eJ (qP P tys.toList) (bk s xs.toList)) nm o.dst K s
 | .call ⟨.builtin b,xs,tys⟩=>bS P nm b tys o.type (xs.map isConst) (bk s xs.toList) o.dst K s
 | op=>bD (dT P nm s op) nm o.dst K s
def eC (ops:Array Oper) (s:AS) (j:Nat):Option AV:=match ops[j]? with
 | some o=>match o.dst with
  | some d=>s.env d
  | none=>none
 | none=>none
def oS (c:Option AV) (want:Bool):Option AV:=match c with
 | some (.inl (.inl (.inl (.tuple _))))=>some (B (!want))
 | c=>c
def eY (c:Option AV) (want:Bool) (A B:Prop):Prop:=match c with
 | some (.inl (.inl (.inl (.bool b))))=>(b=want→A)∧(b≠want→B)
 | _=>False
def wK (P:Program) [Tables P] (ops:Array Oper) (nm:Nat) (o:Oper) (K:AS→Prop) (s:AS):Prop:=match o.guard with
 | none=>bM P nm o K s
 | some (j,want)=>eY (oS (eC ops s j) want) want (bM P nm o K s) (K (s.put o.dst (some (V undef))))
def lV (P:Program) [Tables P] (ops:Array Oper) (base:Nat) (l:List Oper) (i:Nat) (K:AS→Prop) (s:AS):Prop:=match l with
 | []=>K { s with next:=base+i }
 | o::rest=>wK P ops (base+i) o (lV P ops base rest (i+1) K) s
def Eo (r:Nat→Nat):Value→Value
 | .pointer (some ⟨b,o,none⟩)=> .pointer (some ⟨r b,o,none⟩)
 | v=>v
def kX (r:Nat→Nat):Value→Value
 | .func f as cs=> .func f as ⟨cs.toList.map (Eo r)⟩
 | v=>v
theorem Ep {r:Nat→Nat} {v:Value} (h:gS v=true):kX r v=v:=by
 cases v<;>try rfl
 rename_i f as cs
 obtain ⟨l⟩:=cs
 cases l with
 | nil=>rfl
 | cons=>simp[gS]at h
theorem Uc (v:Value):Eo (fun n=>n) v=v:=by
 cases v<;>try rfl
 rename_i a
 rcases a with _ | ⟨b,o,q⟩
 ·rfl
 ·cases q<;>rfl
theorem Ud (v:Value):kX (fun n=>n) v=v:=by
 cases v<;>try rfl
 have:(Eo fun n=>n)=id:=funext Uc
 simp only[kX,this,List.map_id]
theorem PY {M:Nat→Prop} {r:Nat→Nat} {v:Value}:zL M (Eo r v)↔zL (fun n=>M (r n)) v:=by
 cases v<;>try exact Iff.rfl
 rename_i a
 rcases a with _ | ⟨b,o,q⟩
 ·exact Iff.rfl
 ·cases q<;>exact Iff.rfl
theorem PZ {M:Nat→Prop} {r:Nat→Nat} {v:Value}:j9 M (kX r v)↔j9 (fun n=>M (r n)) v:=by
 cases v<;>try exact Iff.rfl
 simp only[kX,j9,List.mem_map,forall_exists_index,and_imp,forall_apply_eq_imp_iff₂,PY]
theorem IK {r q:Nat→Nat} {v:Value} (h:zL (fun n=>r n=q n) v):Eo r v=Eo q v:=by
 cases v<;>try rfl
 rename_i a
 rcases a with _ | ⟨b,o,q⟩
 ·rfl
 ·cases q with
  | none=>have:r b=_:=h;simp only[Eo,this]
  | some=>rfl
theorem IL {r q:Nat→Nat} {v:Value} (h:j9 (fun n=>r n=q n) v):kX r v=kX q v:=by
 cases v<;>try rfl
 simp only[kX]
 rw[List.map_congr_left fun c hc=>IK (h c hc)]
theorem P1 {r:Nat→Nat} {v:Value}:(kX r v).oneCell'=v.oneCell':=by cases v<;>rfl
theorem kY {r:Nat→Nat}:(∀ b,kX r (.bool b)= .bool b)∧(∀ k n,kX r (.int k n)= .int k n)∧(∀ s,kX r (.string s)= .string s)∧(∀ a,kX r (.pointer a)= .pointer a)∧(∀ a n c,kX r (.slice a n c)= .slice a n c)∧(∀ t v,kX r (.iface t v)= .iface t v)∧kX r .nilIface= .nilIface∧kX r .nilFunc= .nilFunc∧(∀ c,kX r (.agg c)= .agg c)∧(∀ c,kX r (.tuple c)= .tuple c)∧ ∀ f as,kX r (.func f as #[])= .func f as #[]:=
 ⟨fun _=>rfl,fun _ _=>rfl,fun _=>rfl,fun _=>rfl,fun _ _ _=>rfl,fun _ _=>rfl,rfl,rfl,fun _=>rfl,fun _=>rfl,fun _ _=>rfl⟩
attribute [simp] kY
def SV.ren (r:Nat→Nat):SV→SV
 | .inl v=> .inl (kX r v)
 | .inr (.inl (t,o))=> .inr (.inl (r t,o))
 | .inr (.inr (t,o,n,c))=> .inr (.inr (r t,o,n,c))
theorem SV.qT (x:SV):SV.ren (fun n=>n) x=x:=by
 rcases x with v | ⟨t,o⟩ | ⟨t,o,n,c⟩
 ·show Sum.inl _=_;rw[Ud]
 ·rfl
 ·rfl
theorem SV.NL {r q:Nat→Nat} {x:SV} (h:SV.names (fun n=>r n=q n) x):SV.ren r x=SV.ren q x:=by
 rcases x with v | ⟨t,o⟩ | ⟨t,o,n,c⟩
 ·exact congrArg Sum.inl (IL h)
 ·have:r t=q t:=h
  simp only[SV.ren,kY,this]
 ·have:r t=q t:=h
  simp only[SV.ren,kY,this]
theorem SV.IP {r:Nat→Nat} {x:SV} (h:SV.names (fun n=>r n=n) x):SV.ren r x=x:=(SV.NL (q:=fun n=>n) h).trans (SV.qT x)
theorem SV.kS {M:Nat→Prop} {r:Nat→Nat} {x:SV}:SV.names M (SV.ren r x)↔SV.names (fun n=>M (r n)) x:=by
 rcases x with v | ⟨t,o⟩ | ⟨t,o,n,c⟩
 ·exact PZ
 ·exact Iff.rfl
 ·exact Iff.rfl
theorem SV.CF {r:Nat→Nat} {x:SV}:SV.one (SV.ren r x)=SV.one x:=by
 rcases x with v | ⟨t,o⟩ | ⟨t,o,n,c⟩
 ·exact P1
 ·rfl
 ·rfl
theorem P2 {M1 M2:Nat→Prop} {v:Value} (h1:j9 M1 v) (h2:j9 M2 v):j9 (fun n=>M1 n∧M2 n) v:=by
 cases v<;>try trivial
 intro c hc
 have a:=h1 c hc
 have b:=h2 c hc
 cases c<;>try trivial
 rename_i x
 rcases x with _ | ⟨b',o,q⟩
 ·trivial
 ·cases q with
  | none=>exact ⟨a,b⟩
  | some=>trivial
def CV.ren (r:Nat→Nat):CV→CV
 | .inl s=> .inl (SV.ren r s)
 | .inr l=> .inr (l.map (SV.ren r))
def AV.ren (r:Nat→Nat):AV→AV
 | .inl c=> .inl (CV.ren r c)
 | .inr l=> .inr (l.map (CV.ren r))
structure uy (r:Nat→Nat) (s t:AS):Prop where
 env: ∀ d v,t.env d=some v→s.env d=some (AV.ren r v)
 box: ∀ n b,t.box n=some b→ ∃ b',s.box (r n)=some b'∧(b.rw=true→b'.rw=true)∧b'.cells=b.cells.map (SV.ren r)
 inj: ∀ n n' b b',t.box n=some b→b.rw=true→t.box n'=some b'→r n=r n'→n=n'
 names:Names (fun n=>n < t.next) t
def Ue (s t:AS):Prop:=uy (fun n=>n) s t
def mh (m:Nat) (s t:AS):Prop:= ∃ r,uy r s t∧ ∀ n,n < m→r n=n
def kZ (body:(Exit→AS→Prop)→AS→Prop) (F:Exit→AS→Prop) (s:AS):Prop:=
 ∃ (ι:Type) (st:ι→AS) (μ:ι→Nat) (i₀:ι),mh s.next s (st i₀)∧(∀ i,s.next≤(st i).next)∧
  ∀ i,body (gE (fun s'=> ∃ j,μ j < μ i∧mh s.next s' (st j)) F) (st i)
def nj (N:Nat) (o:Oper):Bool:=match o.dst with
 | some d=>decide (d < N)
 | none=>true
section
variable {P:Program} [Tables P] {W:Nat→Prop} {N:Nat} {w0:Base P} {g:Where} {s:AS} {a:Act} {w:World}
theorem Er (g:Where) (r:Nat→Nat) (v:Value):uw g (Eo r v)=uw (fun n=>g (r n)) v:=by
 cases v<;>try rfl
 rename_i a
 rcases a with _ | ⟨b,o,r⟩
 ·rfl
 ·cases r<;>rfl
theorem P3 (g:Where) (r:Nat→Nat) (v:Value):jv g (kX r v)=jv (fun n=>g (r n)) v:=by
 cases v<;>try rfl
 simp only[kX,jv,List.map_map,List.map_congr_left fun c _=>Er g r c,Function.comp_def,Er]
theorem SV.bT (g:Where) (r:Nat→Nat) (x:SV):SV.aq g (SV.ren r x)=SV.aq (fun n=>g (r n)) x:=by
 rcases x with v | ⟨t,o⟩ | ⟨t,o,n,c⟩
 ·exact P3 g r v
 ·rfl
 ·rfl
theorem CV.bT (g:Where) (r:Nat→Nat) (x:CV):CV.aq g (CV.ren r x)=CV.aq (fun n=>g (r n)) x:=by
 rcases x with x | l
 ·exact SV.bT g r x
 ·simp[CV.ren,CV.aq,SV.bT]
theorem AV.bT (g:Where) (r:Nat→Nat) (x:AV):AV.aq g (AV.ren r x)=AV.aq (fun n=>g (r n)) x:=by
 rcases x with x | l
 ·exact CV.bT g r x
 ·simp[AV.ren,AV.aq,CV.bT]
theorem bP.eZ {M:Nat→Prop} (h:bP W N w0 M g s a w) {r:Nat→Nat} {t:AS} (hr:uy r s t) (hp: ∀ n,n < w0.pn→r n=n∧n < t.next):
  bP W N w0 (fun n=>n < t.next) (fun n=>g (r n)) t a w:=by
 refine ⟨h.size,h.defers,fun d v hv=> ?_,hr.names,⟨fun n b hb=> ?_,fun n b hb i v hv=> ?_,fun n b hb hrw i hi=> ?_,fun n n' b b' hb hrw hb' hne=> ?_⟩,fun n b hb hrw=> ?_,h.frame,fun n hn=>⟨(hp n hn).2,by show g (r n)=_;rw[(hp n hn).1];exact (h.pin n hn).2⟩,h.tabs⟩
 ·rw[h.env d _ (hr.env d v hv),AV.bT]
 ·obtain ⟨b',h1,_,_⟩:=hr.box n b hb
  exact h.mem.lt _ b' h1
 ·obtain ⟨b',h1,_,h3⟩:=hr.box n b hb
  have:=h.mem.cell _ b' h1 i (SV.ren r v) (by rw[h3];simp[hv])
  rw[this,SV.bT]
 ·obtain ⟨b',h1,h2,h3⟩:=hr.box n b hb
  exact h.mem.free _ b' h1 (h2 hrw) i (by rw[h3];simpa using hi)
 ·obtain ⟨c,h1,h2,_⟩:=hr.box n b hb
  obtain ⟨c',h1',_,_⟩:=hr.box n' b' hb'
  exact h.mem.sep _ _ c c' h1 (h2 hrw) h1' (fun e=>hne (hr.inj n n' b b' hb hrw hb' e))
 ·obtain ⟨c,h1,h2,_⟩:=hr.box n b hb
  exact h.own _ c h1 (h2 hrw)
theorem bP.next {M:Nat→Prop} (h:bP W N w0 M g s a w) (n:Nat):bP W N w0 M g { s with next:=n } a w:=
 ⟨h.size,h.defers,h.env,⟨h.names.env,h.names.box⟩,⟨h.mem.lt,h.mem.cell,h.mem.free,h.mem.sep⟩,h.own,h.frame,h.pin,h.tabs⟩
theorem cU {M:Nat→Prop} (h:bP W N w0 M g s a w): ∀ (xs:List Operand) (l:List AV),bk s xs=some l→xs.map a.eval=l.map (AV.aq g)∧ ∀ v ∈ l,AV.ok M v
 | [],l,he=>by simp only[bk,Option.some.injEq]at he;subst he;exact ⟨rfl,by simp⟩
 | x::r,l,he=>by
  unfold bk at he
  split at he
  ·rename_i v l' hv hl'
   simp only[Option.some.injEq]at he;subst he
   obtain ⟨h1,h2⟩:=cU h r l' hl'
   refine ⟨by simp[h.eval hv,h1],fun u hu=> ?_⟩
   rcases List.mem_cons.1 hu with rfl | hu
   ·exact h.names.aL hv
   ·exact h2 u hu
  ·simp at he
theorem dJ {f:Nat} (hc:au P f=true) (args:Array Value) (w:World):(callFunc f args).run P w= .ok (.enter f args) w:=by
 unfold au at hc
 split at hc
 ·rename_i fn hf
  simp only[Bool.and_eq_true,bne_iff_ne,ne_eq]at hc
  cases ZM:fn.body with
  | none=>rw[ZM]at hc;simp at hc
  | some c=>simp[callFunc,hf,hc.1,ZM]
 ·simp at hc
theorem kg (f:Nat) (xs:Array Operand) (tys:Array TypeId) (dst:Option Tmp) (type:TypeId) (pos:String) (after:Array Edge) (guard:Option (Nat×Bool)) (r:Operand→Value) (hr:r (.func f)= .func (.func f) #[] #[]) (w:World):
  (execOp r { dst,op:= .call ⟨.value (.func f),xs,tys⟩,type,pos,after,guard }).run P w=(callFunc f (xs.map r)).run P w:=by
 simp[execOp,resolve,hr,Deferred.ofValue,invoke]
theorem qU {g:Where}: ∀ (l:List Value) (m:List AV),qp l=some m→m.map (AV.aq g)=l.map (uw g)
 | [],m,he=>by cases he;rfl
 | x::r,m,he=>by
  unfold qp KX at he
  split at he
  ·rename_i v m' hv hm
   cases he
   rw[List.map_cons,List.map_cons,qU r m' hm]
   congr 1
   unfold Ub at hv
   split at hv
   ·cases hv;rfl
   ·cases hv;rfl
   ·cases hv
  ·cases he
theorem Ak (d:Nat) (xs:Array Operand) (tys:Array TypeId) (dst:Option Tmp) (type:TypeId) (pos:String) (after:Array Edge) (guard:Option (Nat×Bool)) (r:Operand→Value) {f:Nat} {cs:Array Value} (hr:r (.tmp d)= .func (.func f) #[] cs) (w:World):
  (execOp r { dst,op:= .call ⟨.value (.tmp d),xs,tys⟩,type,pos,after,guard }).run P w=(callFunc f (xs.map r++cs)).run P w:=by
 simp[execOp,resolve,hr,Deferred.ofValue,invoke]
theorem mJ {nm:Nat} {o:Oper} {K:AS→Prop} (h:bP W N w0 (fun n=>n < nm) g s a w) (hd: ∀ d,o.dst=some d→d < N) (hv:bM P nm o K s)
  {next:Act→World→Prop} {Q:Exit→Act→World→Prop} (hK: ∀ g' s' a' w',bP W N w0 (fun n=>n < nm+1) g' s' a' w'→K s'→next a' w'):o.wp P a w next Q:=by
 unfold bM at hv
 obtain ⟨dst,op,type,pos,after,guard⟩:=o
 simp only at hv hd
 split at hv
 ·rename_i f xs tys
  have hargs: ∀ l,bk s xs.toList=some l→xs.map a.eval=(l.map (AV.aq g)).toArray:=fun l hl=>by
   apply Array.ext'
   rw[Array.toList_map,(cU h _ _ hl).1]
  split at hv
  ·rename_i hc
   unfold aB at hv
   split at hv
   ·exact hv.elim
   ·rename_i l hl
    unfold Oper.wp
    rw[kg f xs tys dst type pos after guard a.eval rfl w,dJ hc,hargs l hl]
    simp only[Oper.upon]
    refine (hv W N w0 g a w h).mono ?_
    rintro e w' ⟨v,g',s',rfl,hok,bH,hk⟩
    exact hK g' _ _ _ (bH.put hd hok) hk
  ·unfold ox at hv
   split at hv
   ·exact hv.elim
   ·rename_i l hl
    obtain ⟨v,hok,hrun,hk⟩:=hv
    unfold Oper.wp
    rw[kg f xs tys dst type pos after guard a.eval rfl w,hargs l hl,hrun]
    simp only[Oper.upon]
    exact hK g _ _ _ ((h.mono (fun n hn=>by omega)).put hd (AV.aY (fun _ h=>h.elim) hok)) hk
 ·rename_i d xs tys
  unfold IJ at hv
  split at hv
  ·rename_i f caps VX
   obtain ⟨hc,hv⟩:=hv
   unfold aB at hv
   split at hv
   ·exact hv.elim
   ·rename_i l hl
    unfold II at hl
    split at hl
    ·rename_i l1 l2 h1 h2
     cases hl
     have hargs:xs.map a.eval++(⟨caps.toList.map (uw g)⟩:Array Value)=((l1++l2).map (AV.aq g)).toArray:=by
      apply Array.ext'
      rw[Array.toList_append,Array.toList_map,(cU h _ _ h1).1, ← qU _ _ h2,List.map_append]
     unfold Oper.wp
     rw[Ak d xs tys dst type pos after guard a.eval (f:=f) (cs:=⟨caps.toList.map (uw g)⟩) (h.eval (x:= .tmp d) VX) w,dJ hc,hargs]
     simp only[Oper.upon]
     refine (hv W N w0 g a w h).mono ?_
     rintro e w' ⟨v,g',s',rfl,hok,bH,hk⟩
     exact hK g' _ _ _ (bH.put hd hok) hk
    ·cases hl
  ·exact hv.elim
 ·rename_i xs tys
  unfold bD at hv
  split at hv
  ·rename_i e he
   cases hl:bk s xs.toList with
   | none=>rw[hl]at he;simp[eJ]at he
   | some l=>
    rw[hl]at he
    obtain ⟨n,rfl,hrun⟩:=CD (type:=type) (cs:=xs.map isConst) he
    have hargs:xs.map a.eval=(l.map (AV.aq g)).toArray:=by
     apply Array.ext'
     rw[Array.toList_map,(cU h _ _ hl).1]
    unfold Oper.wp
    have:(execOp a.eval { dst,op:= .call ⟨.builtin .len,xs,tys⟩,type,pos,after,guard }).run P w= .ok (.value (.int .i64 n)) w:=by
     simp only[execOp,resolve,Sem.run_bind,Sem.run_pure,Result.andThen_ok,invoke]
     refine Eq.trans (congrArg (fun c=>Sem.run P (builtin .len tys type c (xs.map a.eval)) w) (?_:_=xs.map isConst)) ?_
     ·apply Array.map_congr_left;intro x _;cases x<;>rfl
     ·rw[hargs];exact hrun g w
    rw[this]
    simp only[Oper.upon]
    exact hK g _ _ _ ((h.mono (M':=fun n=>n < nm+1) (fun n hn=>by omega)).put (v:=I .i64 n) hd trivial) hv
  ·exact hv.elim
 ·rename_i b xs tys KY
  unfold bS at hv
  split at hv
  ·exact hv.elim
  ·rename_i l hl
   have hargs:xs.map a.eval=(l.map (AV.aq g)).toArray:=by
    apply Array.ext'
    rw[Array.toList_map,(cU h _ _ hl).1]
   obtain ⟨v,g',s',w',hrun,hok,bH,hk⟩:=hv W N w0 g a w h
   unfold Oper.wp
   have:(execOp a.eval { dst,op:= .call ⟨.builtin b,xs,tys⟩,type,pos,after,guard }).run P w= .ok (.value (AV.aq g' v)) w':=by
    simp only[execOp,resolve,Sem.run_bind,Sem.run_pure,Result.andThen_ok,invoke]
    refine Eq.trans (congrArg (fun c=>Sem.run P (builtin b tys type c (xs.map a.eval)) w) (?_:_=xs.map isConst)) ?_
    ·apply Array.map_congr_left;intro x _;cases x<;>rfl
    ·rw[hargs,hrun]
   rw[this]
   simp only[Oper.upon]
   exact hK g' _ _ _ (bH.put hd hok) hk
 ·unfold bD at hv
  split at hv
  ·rename_i e he
   obtain ⟨g',w',r,hrun⟩:=gT (P:=P) (o:={ dst,op,type,pos,after,guard }) h (Nat.lt_irrefl nm) he
   have bH:=hrun.rep.mono (M':=fun n=>n < nm+1) (fun n hn=>by rcases hn with h | h<;>omega)
   unfold Oper.wp
   rw[hrun.run]
   have hval:=hrun.val
   cases h1:e.1 with
   | none=>
    rw[h1]at hval hv;simp only at hval
    subst hval
    simp only[Oper.upon]
    exact hK g' _ _ _ (bH.Cw undef) hv
   | some v=>
    rw[h1]at hval hv;simp only at hval
    obtain ⟨rfl,hok⟩:=hval
    simp only[Oper.upon]
    exact hK g' _ _ _ (bH.put hd (AV.aY (fun n hn=>by rcases hn with h | h<;>omega) hok)) hv
  ·exact hv.elim
theorem zQ {M:Nat→Prop} (h:bP W N w0 M g s a w) {ops:Array Oper} {j:Nat} {b:Bool} (hg:eC ops s j=some (B b)):yielded ops a.tmps j=some b:=by
 unfold eC at hg
 split at hg
 ·rename_i o ho
  split at hg
  ·rename_i d hd
   have:=h.env d _ hg
   simp[yielded,ho,hd,this,AV.aq,CV.aq,SV.aq,bX]
  ·simp at hg
 ·simp at hg
theorem iZ {M:Nat→Prop} (h:bP W N w0 M g s a w) {ops:Array Oper} {o:Oper} {j:Nat} {want b:Bool} (hg:o.guard=some (j,want)) (hb:oS (eC ops s j) want=some (B b)):
  Region.wanted o (yielded ops a.tmps)=(b==want):=by
 unfold oS at hb
 split at hb
 ·rename_i arr hv
  simp only[Option.some.injEq,Sum.inl.injEq,Value.bool.injEq]at hb
  have hy:yielded ops a.tmps j=none:=by
   unfold eC at hv
   split at hv
   ·rename_i p hp
    split at hv
    ·rename_i d hd
     have:=h.env d _ hv
     simp[yielded,hp,hd,this,AV.aq,CV.aq,SV.aq,bX]
    ·simp at hv
   ·simp at hv
  subst hb
  simp only[Region.wanted,hg,hy]
  cases want<;>rfl
 ·have hy:=zQ h hb
  simp only[Region.wanted,hg,hy]
  cases want<;>cases b<;>rfl
theorem Al {ops:Array Oper} {base:Nat} {Q:Exit→Act→World→Prop} {K:AS→Prop}
  (hK: ∀ g' s' a' w',bP W N w0 (fun n=>n < s'.next) g' s' a' w'→K s'→Q .normal a' w'):
  ∀ (l:List Oper) (i:Nat) (g:Where) (s:AS) (a:Act) (w:World),l.all (nj N)=true→bP W N w0 (fun n=>n < base+i) g s a w→lV P ops base l i K s→wpList P ops Q l a w
 | [],i,g,s,a,w,_,h,hv=>hK g _ a w (h.next (base+i)) hv
 | o::rest,i,g,s,a,w,hl,h,hv=>by
  simp only[List.all_cons,Bool.and_eq_true]at hl
  have hd: ∀ d,o.dst=some d→d < N:=fun d hd=>by
   have:=hl.1;unfold nj at this;rw[hd]at this;simpa using this
  have ih:=Al (ops:=ops) (base:=base) (Q:=Q) hK rest (i+1)
  have go:bM P (base+i) o (lV P ops base rest (i+1) K) s→o.wp P a w (wpList P ops Q rest) Q:=fun hr=>
   mJ h hd hr (fun g' s' a' w' h' hk=>ih g' s' a' w' hl.2 (h'.mono (fun n hn=>by omega)) hk)
  unfold lV wK at hv
  unfold wpList
  cases hg:o.guard with
  | none=>
   rw[hg]at hv
   rw[if_pos (by simp[Region.wanted,hg])]
   exact .inl (go hv)
  | some p=>
   obtain ⟨j,want⟩:=p
   rw[hg]at hv
   simp only[eY]at hv
   split at hv
   ·rename_i b hb
    have hy:=iZ h hg hb
    by_cases sU:b=want
    ·rw[if_pos (by rw[hy];simp[sU])]
     exact .inl (go (hv.1 sU))
    ·rw[if_neg (by rw[hy];simp[sU])]
     exact ih _ _ _ _ hl.2 ((h.put hd (v:=V undef) trivial).mono (fun n hn=>by omega)) (hv.2 sU)
   ·exact hv.elim
end
end Go.bA
