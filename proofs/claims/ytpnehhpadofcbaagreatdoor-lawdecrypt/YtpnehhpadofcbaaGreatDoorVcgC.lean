/-
  The calculus over a function's code: plain regions, tests, blocks, loops, calls; and the way in and out. Nothing here speaks of a program.
-/
import Derived.Test.YtpnehhpadofcbaaGreatDoorVcgB
set_option linter.unusedVariables false
set_option linter.unusedSimpArgs false
namespace Go.bU
set_option linter.unusedSectionVars false
def fL (K:AS→Prop) (F:Exit→AS→Prop) (e:Exit) (s:AS):Prop:=match e with
 | .normal=>K s
 | e=>F e s
def jy (id:Nat) (F:Exit→AS→Prop) (e:Exit) (s:AS):Prop:=match e with
 | .exit id'=>if id'=id then F .normal s else F (.exit id') s
 | e=>F e s
def oo (c:Option AV) (A B:AS→Prop) (s:AS):Prop:=match c with
 | some (.inl (.inl (.inl (.bool b))))=>(b=true→A s)∧(b=false→B s)
 | _=>False
def bO (e:Option dP) (nm:Nat) (dst:Option Nat) (K:AS→Prop) (s:AS):Prop:=match e with
 | some e=>K ((s.mem nm e.2).put dst e.1)
 | none=>False
def ai (P:Program) (f:Nat):Bool:=match P.funcs[f]? with
 | some fn=>fn.name != "runtime.NumGoroutine" &&fn.body.isSome
 | none=>false
def bD (s:AS) (xs:List Operand):Option (List AV):=match xs with
 | []=>some []
 | x::r=>match s.aT x,bD s r with
  | some v,some l=>some (v::l)
  | _,_=>none
def ax (P:Program) [Tables P] (nm:Nat) (f:Nat) (xs:Option (List AV)) (dst:Option Nat) (K:AS→Prop) (s:AS):Prop:=match xs with
 | none=>False
 | some l=> ∀ (W:Nat→Prop) (N:Nat) (w0:iH P) (g:Where) (a:Act) (w:World),cx W N w0 (fun n=>n < nm) g s a w→
   Calls P f (l.map (AV.aq g)).toArray w fun e w'=> ∃ v g' s',e= .returned (AV.aq g' v)∧AV.ok (fun n=>n < nm+1) v∧cx W N w0 (fun n=>n < nm+1) g' s' a w'∧K (s'.put dst (some v))
def pV (P:Program) (f:Nat) (xs:Option (List AV)) (dst:Option Nat) (K:AS→Prop) (s:AS):Prop:=match xs with
 | none=>False
 | some l=> ∃ v,AV.ok (fun _=>False) v∧(∀ g w,(callFunc f (l.map (AV.aq g)).toArray).run P w= .ok (.value (AV.aq g v)) w)∧K (s.put dst (some v))
def bQ (P:Program) [Tables P] (nm:Nat) (b:Builtin) (tys:Array TypeId) (type:TypeId) (consts:Array Bool) (xs:Option (List AV)) (dst:Option Nat) (K:AS→Prop) (s:AS):Prop:=match xs with
 | none=>False
 | some l=> ∀ (W:Nat→Prop) (N:Nat) (w0:iH P) (g:Where) (a:Act) (w:World),cx W N w0 (fun n=>n < nm) g s a w→
   ∃ v g' s' w',(builtin b tys type consts (l.map (AV.aq g)).toArray).run P w= .ok (.value (AV.aq g' v)) w'∧AV.ok (fun n=>n < nm+1) v∧cx W N w0 (fun n=>n < nm+1) g' s' a w'∧K (s'.put dst (some v))
def VP:Value→Option AV
 | .pointer (some ⟨b,o,none⟩)=>some (Ptr b o)
 | .pointer none=>some (V (.pointer none))
 | _=>none
def Oa (x:Option AV) (l:Option (List AV)):Option (List AV):=match x,l with
 | some v,some l=>some (v::l)
 | _,_=>none
def sA:List Value→Option (List AV)
 | []=>some []
 | x::r=>Oa (VP x) (sA r)
def LD (x y:Option (List AV)):Option (List AV):=match x,y with
 | some l,some m=>some (l++m)
 | _,_=>none
def LG (P:Program) [Tables P] (nm:Nat) (fv:Option AV) (xs:Option (List AV)) (dst:Option Nat) (K:AS→Prop) (s:AS):Prop:=match fv with
 | some (.inl (.inl (.inl (.func (.func f) ⟨[]⟩ caps))))=>ai P f=true∧ax P nm f (LD xs (sA caps.toList)) dst K s
 | _=>False
def isConst (x:Operand):Bool:=match x with
 | .const _=>true
 | _=>false
def cl (P:Program) [Tables P] (nm:Nat) (o:Oper) (K:AS→Prop) (s:AS):Prop:=match o.op with
 | .call ⟨.value (.func f),xs,_⟩=>if ai P f=true then ax P nm f (bD s xs.toList) o.dst K s else pV P f (bD s xs.toList) o.dst K s
 | .call ⟨.value (.tmp d),xs,_⟩=>LG P nm (s.env d) (bD s xs.toList) o.dst K s
 | .call ⟨.builtin .len,xs,tys⟩=>bO (gR (vq P tys.toList) (bD s xs.toList)) nm o.dst K s
 | .call ⟨.builtin b,xs,tys⟩=>bQ P nm b tys o.type (xs.map isConst) (bD s xs.toList) o.dst K s
 | op=>bO (fy P nm s op) nm o.dst K s
def fR (ops:Array Oper) (s:AS) (j:Nat):Option AV:=match ops[j]? with
 | some o=>match o.dst with
  | some d=>s.env d
  | none=>none
 | none=>none
def qz (c:Option AV) (want:Bool):Option AV:=match c with
 | some (.inl (.inl (.inl (.tuple _))))=>some (B (!want))
 | c=>c
def ga (c:Option AV) (want:Bool) (A B:Prop):Prop:=match c with
 | some (.inl (.inl (.inl (.bool b))))=>(b=want→A)∧(b≠want→B)
 | _=>False
def zv (P:Program) [Tables P] (ops:Array Oper) (nm:Nat) (o:Oper) (K:AS→Prop) (s:AS):Prop:=match o.guard with
 | none=>cl P nm o K s
 | some (j,want)=>ga (qz (fR ops s j) want) want (cl P nm o K s) (K (s.put o.dst (some (V undef))))
def nA (P:Program) [Tables P] (ops:Array Oper) (base:Nat) (l:List Oper) (i:Nat) (K:AS→Prop) (s:AS):Prop:=match l with
 | []=>K { s with next:=base+i }
 | o::rest=>zv P ops (base+i) o (nA P ops base rest (i+1) K) s
def Hh (r:Nat→Nat):Value→Value
 | .pointer (some ⟨b,o,none⟩)=> .pointer (some ⟨r b,o,none⟩)
 | v=>v
def mI (r:Nat→Nat):Value→Value
 | .func f as cs=> .func f as ⟨cs.toList.map (Hh r)⟩
 | v=>v
theorem Hi {r:Nat→Nat} {v:Value} (h:iG v=true):mI r v=v:=by
 cases v<;>try rfl
 rename_i f as cs
 obtain ⟨l⟩:=cs
 cases l with
 | nil=>rfl
 | cons=>simp[iG]at h
theorem VQ (v:Value):Hh (fun n=>n) v=v:=by
 cases v<;>try rfl
 rename_i a
 rcases a with _ | ⟨b,o,q⟩
 ·rfl
 ·cases q<;>rfl
theorem VR (v:Value):mI (fun n=>n) v=v:=by
 cases v<;>try rfl
 have:(Hh fun n=>n)=id:=funext VQ
 simp only[mI,this,List.map_id]
theorem Sz {M:Nat→Prop} {r:Nat→Nat} {v:Value}:C4 M (Hh r v)↔C4 (fun n=>M (r n)) v:=by
 cases v<;>try exact Iff.rfl
 rename_i a
 rcases a with _ | ⟨b,o,q⟩
 ·exact Iff.rfl
 ·cases q<;>exact Iff.rfl
theorem SA {M:Nat→Prop} {r:Nat→Nat} {v:Value}:lq M (mI r v)↔lq (fun n=>M (r n)) v:=by
 cases v<;>try exact Iff.rfl
 simp only[mI,lq,List.mem_map,forall_exists_index,and_imp,forall_apply_eq_imp_iff₂,Sz]
theorem LH {r q:Nat→Nat} {v:Value} (h:C4 (fun n=>r n=q n) v):Hh r v=Hh q v:=by
 cases v<;>try rfl
 rename_i a
 rcases a with _ | ⟨b,o,q⟩
 ·rfl
 ·cases q with
  | none=>have:r b=_:=h;simp only[Hh,this]
  | some=>rfl
theorem LI {r q:Nat→Nat} {v:Value} (h:lq (fun n=>r n=q n) v):mI r v=mI q v:=by
 cases v<;>try rfl
 simp only[mI]
 rw[List.map_congr_left fun c hc=>LH (h c hc)]
theorem SB {r:Nat→Nat} {v:Value}:(mI r v).oneCell'=v.oneCell':=by cases v<;>rfl
theorem jI {r:Nat→Nat}:(∀ b,mI r (.bool b)= .bool b)∧(∀ k n,mI r (.int k n)= .int k n)∧(∀ s,mI r (.string s)= .string s)∧(∀ a,mI r (.pointer a)= .pointer a)∧(∀ a n c,mI r (.slice a n c)= .slice a n c)∧(∀ t v,mI r (.iface t v)= .iface t v)∧mI r .nilIface= .nilIface∧mI r .nilFunc= .nilFunc∧(∀ c,mI r (.agg c)= .agg c)∧(∀ c,mI r (.tuple c)= .tuple c)∧ ∀ f as,mI r (.func f as #[])= .func f as #[]:=
 ⟨fun _=>rfl,fun _ _=>rfl,fun _=>rfl,fun _=>rfl,fun _ _ _=>rfl,fun _ _=>rfl,rfl,rfl,fun _=>rfl,fun _=>rfl,fun _ _=>rfl⟩
attribute [simp] jI
def SV.aI (r:Nat→Nat):SV→SV
 | .inl v=> .inl (mI r v)
 | .inr (.inl (t,o))=> .inr (.inl (r t,o))
 | .inr (.inr (t,o,n,c))=> .inr (.inr (r t,o,n,c))
theorem SV.xp (x:SV):SV.aI (fun n=>n) x=x:=by
 rcases x with v | ⟨t,o⟩ | ⟨t,o,n,c⟩
 ·show Sum.inl _=_;rw[VR]
 ·rfl
 ·rfl
theorem SV.DE {r q:Nat→Nat} {x:SV} (h:SV.names (fun n=>r n=q n) x):SV.aI r x=SV.aI q x:=by
 rcases x with v | ⟨t,o⟩ | ⟨t,o,n,c⟩
 ·exact congrArg Sum.inl (LI h)
 ·have:r t=q t:=h
  simp only[SV.aI,jI,this]
 ·have:r t=q t:=h
  simp only[SV.aI,jI,this]
theorem SV.SC {r:Nat→Nat} {x:SV} (h:SV.names (fun n=>r n=n) x):SV.aI r x=x:=(SV.DE (q:=fun n=>n) h).trans (SV.xp x)
theorem SV.mB {M:Nat→Prop} {r:Nat→Nat} {x:SV}:SV.names M (SV.aI r x)↔SV.names (fun n=>M (r n)) x:=by
 rcases x with v | ⟨t,o⟩ | ⟨t,o,n,c⟩
 ·exact SA
 ·exact Iff.rfl
 ·exact Iff.rfl
theorem SV.FF {r:Nat→Nat} {x:SV}:SV.one (SV.aI r x)=SV.one x:=by
 rcases x with v | ⟨t,o⟩ | ⟨t,o,n,c⟩
 ·exact SB
 ·rfl
 ·rfl
theorem SD {M1 M2:Nat→Prop} {v:Value} (h1:lq M1 v) (h2:lq M2 v):lq (fun n=>M1 n∧M2 n) v:=by
 cases v<;>try trivial
 intro c hc
 have a:=h1 c hc
 have b:=h2 c hc
 cases c<;>try trivial
 rename_i x
 rcases x with _ | ⟨b',o,q⟩
 ·trivial
 ·cases q with
  | none=>exact ⟨a,b⟩
  | some=>trivial
def CV.aI (r:Nat→Nat):CV→CV
 | .inl s=> .inl (SV.aI r s)
 | .inr l=> .inr (l.map (SV.aI r))
def AV.aI (r:Nat→Nat):AV→AV
 | .inl c=> .inl (CV.aI r c)
 | .inr l=> .inr (l.map (CV.aI r))
structure xq (r:Nat→Nat) (s t:AS):Prop where
 env: ∀ d v,t.env d=some v→s.env d=some (AV.aI r v)
 box: ∀ n b,t.box n=some b→ ∃ b',s.box (r n)=some b'∧(b.rw=true→b'.rw=true)∧b'.cells=b.cells.map (SV.aI r)
 inj: ∀ n n' b b',t.box n=some b→b.rw=true→t.box n'=some b'→r n=r n'→n=n'
 names:Names (fun n=>n < t.next) t
def VT (s t:AS):Prop:=xq (fun n=>n) s t
def oU (m:Nat) (s t:AS):Prop:= ∃ r,xq r s t∧ ∀ n,n < m→r n=n
def kH (body:(Exit→AS→Prop)→AS→Prop) (F:Exit→AS→Prop) (s:AS):Prop:=
 ∃ (ι:Type) (st:ι→AS) (μ:ι→Nat) (i₀:ι),oU s.next s (st i₀)∧(∀ i,s.next≤(st i).next)∧
  ∀ i,body (fL (fun s'=> ∃ j,μ j < μ i∧oU s.next s' (st j)) F) (st i)
def oV (N:Nat) (o:Oper):Bool:=match o.dst with
 | some d=>decide (d < N)
 | none=>true
section
variable {P:Program} [Tables P] {W:Nat→Prop} {N:Nat} {w0:iH P} {g:Where} {s:AS} {a:Act} {w:World}
theorem Hj (g:Where) (r:Nat→Nat) (v:Value):xm g (Hh r v)=xm (fun n=>g (r n)) v:=by
 cases v<;>try rfl
 rename_i a
 rcases a with _ | ⟨b,o,r⟩
 ·rfl
 ·cases r<;>rfl
theorem SE (g:Where) (r:Nat→Nat) (v:Value):kB g (mI r v)=kB (fun n=>g (r n)) v:=by
 cases v<;>try rfl
 simp only[mI,kB,List.map_map,List.map_congr_left fun c _=>Hj g r c,Function.comp_def,Hj]
theorem SV.cz (g:Where) (r:Nat→Nat) (x:SV):SV.aq g (SV.aI r x)=SV.aq (fun n=>g (r n)) x:=by
 rcases x with v | ⟨t,o⟩ | ⟨t,o,n,c⟩
 ·exact SE g r v
 ·rfl
 ·rfl
theorem CV.cz (g:Where) (r:Nat→Nat) (x:CV):CV.aq g (CV.aI r x)=CV.aq (fun n=>g (r n)) x:=by
 rcases x with x | l
 ·exact SV.cz g r x
 ·simp[CV.aI,CV.aq,SV.cz]
theorem AV.cz (g:Where) (r:Nat→Nat) (x:AV):AV.aq g (AV.aI r x)=AV.aq (fun n=>g (r n)) x:=by
 rcases x with x | l
 ·exact CV.cz g r x
 ·simp[AV.aI,AV.aq,CV.cz]
theorem cx.dq {M:Nat→Prop} (h:cx W N w0 M g s a w) {r:Nat→Nat} {t:AS} (hr:xq r s t) (hp: ∀ n,n < w0.pn→r n=n∧n < t.next):
  cx W N w0 (fun n=>n < t.next) (fun n=>g (r n)) t a w:=by
 refine ⟨h.size,h.defers,fun d v hv=> ?_,hr.names,⟨fun n b hb=> ?_,fun n b hb i v hv=> ?_,fun n b hb hrw i hi=> ?_,fun n n' b b' hb hrw hb' hne=> ?_⟩,fun n b hb hrw=> ?_,h.frame,fun n hn=>⟨(hp n hn).2,by show g (r n)=_;rw[(hp n hn).1];exact (h.pin n hn).2⟩,h.tabs⟩
 ·rw[h.env d _ (hr.env d v hv),AV.cz]
 ·obtain ⟨b',h1,_,_⟩:=hr.box n b hb
  exact h.mem.lt _ b' h1
 ·obtain ⟨b',h1,_,h3⟩:=hr.box n b hb
  have:=h.mem.cell _ b' h1 i (SV.aI r v) (by rw[h3];simp[hv])
  rw[this,SV.cz]
 ·obtain ⟨b',h1,h2,h3⟩:=hr.box n b hb
  exact h.mem.free _ b' h1 (h2 hrw) i (by rw[h3];simpa using hi)
 ·obtain ⟨c,h1,h2,_⟩:=hr.box n b hb
  obtain ⟨c',h1',_,_⟩:=hr.box n' b' hb'
  exact h.mem.sep _ _ c c' h1 (h2 hrw) h1' (fun e=>hne (hr.inj n n' b b' hb hrw hb' e))
 ·obtain ⟨c,h1,h2,_⟩:=hr.box n b hb
  exact h.own _ c h1 (h2 hrw)
theorem cx.next {M:Nat→Prop} (h:cx W N w0 M g s a w) (n:Nat):cx W N w0 M g { s with next:=n } a w:=
 ⟨h.size,h.defers,h.env,⟨h.names.env,h.names.box⟩,⟨h.mem.lt,h.mem.cell,h.mem.free,h.mem.sep⟩,h.own,h.frame,h.pin,h.tabs⟩
theorem dQ {M:Nat→Prop} (h:cx W N w0 M g s a w): ∀ (xs:List Operand) (l:List AV),bD s xs=some l→xs.map a.eval=l.map (AV.aq g)∧ ∀ v ∈ l,AV.ok M v
 | [],l,he=>by simp only[bD,Option.some.injEq]at he;subst he;exact ⟨rfl,by simp⟩
 | x::r,l,he=>by
  unfold bD at he
  split at he
  ·rename_i v l' hv hl'
   simp only[Option.some.injEq]at he;subst he
   obtain ⟨h1,h2⟩:=dQ h r l' hl'
   refine ⟨by simp[h.eval hv,h1],fun u hu=> ?_⟩
   rcases List.mem_cons.1 hu with rfl | hu
   ·exact h.names.aT hv
   ·exact h2 u hu
  ·simp at he
theorem fj {f:Nat} (hc:ai P f=true) (args:Array Value) (w:World):(callFunc f args).run P w= .ok (.enter f args) w:=by
 unfold ai at hc
 split at hc
 ·rename_i fn hf
  simp only[Bool.and_eq_true,bne_iff_ne,ne_eq]at hc
  cases hbo:fn.body with
  | none=>rw[hbo]at hc;simp at hc
  | some c=>simp[callFunc,hf,hc.1,hbo]
 ·simp at hc
theorem ly (f:Nat) (xs:Array Operand) (tys:Array TypeId) (dst:Option Tmp) (type:TypeId) (pos:String) (after:Array Edge) (guard:Option (Nat×Bool)) (r:Operand→Value) (hr:r (.func f)= .func (.func f) #[] #[]) (w:World):
  (execOp r { dst,op:= .call ⟨.value (.func f),xs,tys⟩,type,pos,after,guard }).run P w=(callFunc f (xs.map r)).run P w:=by
 simp[execOp,resolve,hr,Deferred.ofValue,invoke]
theorem sZ {g:Where}: ∀ (l:List Value) (m:List AV),sA l=some m→m.map (AV.aq g)=l.map (xm g)
 | [],m,he=>by cases he;rfl
 | x::r,m,he=>by
  unfold sA Oa at he
  split at he
  ·rename_i v m' hv hm
   cases he
   rw[List.map_cons,List.map_cons,sZ r m' hm]
   congr 1
   unfold VP at hv
   split at hv
   ·cases hv;rfl
   ·cases hv;rfl
   ·cases hv
  ·cases he
theorem DF (d:Nat) (xs:Array Operand) (tys:Array TypeId) (dst:Option Tmp) (type:TypeId) (pos:String) (after:Array Edge) (guard:Option (Nat×Bool)) (r:Operand→Value) {f:Nat} {cs:Array Value} (hr:r (.tmp d)= .func (.func f) #[] cs) (w:World):
  (execOp r { dst,op:= .call ⟨.value (.tmp d),xs,tys⟩,type,pos,after,guard }).run P w=(callFunc f (xs.map r++cs)).run P w:=by
 simp[execOp,resolve,hr,Deferred.ofValue,invoke]
theorem ot {nm:Nat} {o:Oper} {K:AS→Prop} (h:cx W N w0 (fun n=>n < nm) g s a w) (hd: ∀ d,o.dst=some d→d < N) (hv:cl P nm o K s)
  {next:Act→World→Prop} {Q:Exit→Act→World→Prop} (hK: ∀ g' s' a' w',cx W N w0 (fun n=>n < nm+1) g' s' a' w'→K s'→next a' w'):o.wp P a w next Q:=by
 unfold cl at hv
 obtain ⟨dst,op,type,pos,after,guard⟩:=o
 simp only at hv hd
 split at hv
 ·rename_i f xs tys
  have hargs: ∀ l,bD s xs.toList=some l→xs.map a.eval=(l.map (AV.aq g)).toArray:=fun l hl=>by
   apply Array.ext'
   rw[Array.toList_map,(dQ h _ _ hl).1]
  split at hv
  ·rename_i hc
   unfold ax at hv
   split at hv
   ·exact hv.elim
   ·rename_i l hl
    unfold Oper.wp
    rw[ly f xs tys dst type pos after guard a.eval rfl w,fj hc,hargs l hl]
    simp only[Oper.upon]
    refine (hv W N w0 g a w h).mono ?_
    rintro e w' ⟨v,g',s',rfl,hok,bT,hk⟩
    exact hK g' _ _ _ (bT.put hd hok) hk
  ·unfold pV at hv
   split at hv
   ·exact hv.elim
   ·rename_i l hl
    obtain ⟨v,hok,hrun,hk⟩:=hv
    unfold Oper.wp
    rw[ly f xs tys dst type pos after guard a.eval rfl w,hargs l hl,hrun]
    simp only[Oper.upon]
    exact hK g _ _ _ ((h.mono (fun n hn=>by omega)).put hd (AV.bm (fun _ h=>h.elim) hok)) hk
 ·rename_i d xs tys
  unfold LG at hv
  split at hv
  ·rename_i f caps hfv
   obtain ⟨hc,hv⟩:=hv
   unfold ax at hv
   split at hv
   ·exact hv.elim
   ·rename_i l hl
    unfold LD at hl
    split at hl
    ·rename_i l1 l2 h1 h2
     cases hl
     have hargs:xs.map a.eval++(⟨caps.toList.map (xm g)⟩:Array Value)=((l1++l2).map (AV.aq g)).toArray:=by
      apply Array.ext'
      rw[Array.toList_append,Array.toList_map,(dQ h _ _ h1).1, ← sZ _ _ h2,List.map_append]
     unfold Oper.wp
     rw[DF d xs tys dst type pos after guard a.eval (f:=f) (cs:=⟨caps.toList.map (xm g)⟩) (h.eval (x:= .tmp d) hfv) w,fj hc,hargs]
     simp only[Oper.upon]
     refine (hv W N w0 g a w h).mono ?_
     rintro e w' ⟨v,g',s',rfl,hok,bT,hk⟩
     exact hK g' _ _ _ (bT.put hd hok) hk
    ·cases hl
  ·exact hv.elim
 ·rename_i xs tys
  unfold bO at hv
  split at hv
  ·rename_i e he
   cases hl:bD s xs.toList with
   | none=>rw[hl]at he;simp[gR]at he
   | some l=>
    rw[hl]at he
    obtain ⟨n,rfl,hrun⟩:=FE (type:=type) (cs:=xs.map isConst) he
    have hargs:xs.map a.eval=(l.map (AV.aq g)).toArray:=by
     apply Array.ext'
     rw[Array.toList_map,(dQ h _ _ hl).1]
    unfold Oper.wp
    have:(execOp a.eval { dst,op:= .call ⟨.builtin .len,xs,tys⟩,type,pos,after,guard }).run P w= .ok (.value (.int .i64 n)) w:=by
     simp only[execOp,resolve,Sem.run_bind,Sem.run_pure,Result.andThen_ok,invoke]
     refine Eq.trans (congrArg (fun c=>Sem.run P (builtin .len tys type c (xs.map a.eval)) w) (?_:_=xs.map isConst)) ?_
     ·apply Array.map_congr_left;intro x _;cases x<;>rfl
     ·rw[hargs];exact hrun g w
    rw[this]
    simp only[Oper.upon]
    exact hK g _ _ _ ((h.mono (M':=fun n=>n < nm+1) (fun n hn=>by omega)).put (v:=I .i64 n) hd trivial) hv
  ·exact hv.elim
 ·rename_i b xs tys LJ
  unfold bQ at hv
  split at hv
  ·exact hv.elim
  ·rename_i l hl
   have hargs:xs.map a.eval=(l.map (AV.aq g)).toArray:=by
    apply Array.ext'
    rw[Array.toList_map,(dQ h _ _ hl).1]
   obtain ⟨v,g',s',w',hrun,hok,bT,hk⟩:=hv W N w0 g a w h
   unfold Oper.wp
   have:(execOp a.eval { dst,op:= .call ⟨.builtin b,xs,tys⟩,type,pos,after,guard }).run P w= .ok (.value (AV.aq g' v)) w':=by
    simp only[execOp,resolve,Sem.run_bind,Sem.run_pure,Result.andThen_ok,invoke]
    refine Eq.trans (congrArg (fun c=>Sem.run P (builtin b tys type c (xs.map a.eval)) w) (?_:_=xs.map isConst)) ?_
    ·apply Array.map_congr_left;intro x _;cases x<;>rfl
    ·rw[hargs,hrun]
   rw[this]
   simp only[Oper.upon]
   exact hK g' _ _ _ (bT.put hd hok) hk
 ·unfold bO at hv
  split at hv
  ·rename_i e he
   obtain ⟨g',w',r,hrun⟩:=iI (P:=P) (o:={ dst,op,type,pos,after,guard }) h (Nat.lt_irrefl nm) he
   have bT:=hrun.rep.mono (M':=fun n=>n < nm+1) (fun n hn=>by rcases hn with h | h<;>omega)
   unfold Oper.wp
   rw[hrun.run]
   have hval:=hrun.val
   cases h1:e.1 with
   | none=>
    rw[h1]at hval hv;simp only at hval
    subst hval
    simp only[Oper.upon]
    exact hK g' _ _ _ (bT.Fz undef) hv
   | some v=>
    rw[h1]at hval hv;simp only at hval
    obtain ⟨rfl,hok⟩:=hval
    simp only[Oper.upon]
    exact hK g' _ _ _ (bT.put hd (AV.bm (fun n hn=>by rcases hn with h | h<;>omega) hok)) hv
  ·exact hv.elim
theorem C9 {M:Nat→Prop} (h:cx W N w0 M g s a w) {ops:Array Oper} {j:Nat} {b:Bool} (hg:fR ops s j=some (B b)):yielded ops a.tmps j=some b:=by
 unfold fR at hg
 split at hg
 ·rename_i o ho
  split at hg
  ·rename_i d hd
   have:=h.env d _ hg
   simp[yielded,ho,hd,this,AV.aq,CV.aq,SV.aq,cP]
  ·simp at hg
 ·simp at hg
theorem j9 {M:Nat→Prop} (h:cx W N w0 M g s a w) {ops:Array Oper} {o:Oper} {j:Nat} {want b:Bool} (hg:o.guard=some (j,want)) (hb:qz (fR ops s j) want=some (B b)):
  Region.wanted o (yielded ops a.tmps)=(b==want):=by
 unfold qz at hb
 split at hb
 ·rename_i arr hv
  simp only[Option.some.injEq,Sum.inl.injEq,Value.bool.injEq]at hb
  have hy:yielded ops a.tmps j=none:=by
   unfold fR at hv
   split at hv
   ·rename_i p hp
    split at hv
    ·rename_i d hd
     have:=h.env d _ hv
     simp[yielded,hp,hd,this,AV.aq,CV.aq,SV.aq,cP]
    ·simp at hv
   ·simp at hv
  subst hb
  simp only[Region.wanted,hg,hy]
  cases want<;>rfl
 ·have hy:=C9 h hb
  simp only[Region.wanted,hg,hy]
  cases want<;>cases b<;>rfl
theorem DG {ops:Array Oper} {base:Nat} {Q:Exit→Act→World→Prop} {K:AS→Prop}
  (hK: ∀ g' s' a' w',cx W N w0 (fun n=>n < s'.next) g' s' a' w'→K s'→Q .normal a' w'):
  ∀ (l:List Oper) (i:Nat) (g:Where) (s:AS) (a:Act) (w:World),l.all (oV N)=true→cx W N w0 (fun n=>n < base+i) g s a w→nA P ops base l i K s→wpList P ops Q l a w
 | [],i,g,s,a,w,_,h,hv=>hK g _ a w (h.next (base+i)) hv
 | o::rest,i,g,s,a,w,hl,h,hv=>by
  simp only[List.all_cons,Bool.and_eq_true]at hl
  have hd: ∀ d,o.dst=some d→d < N:=fun d hd=>by
   have:=hl.1;unfold oV at this;rw[hd]at this;simpa using this
  have ih:=DG (ops:=ops) (base:=base) (Q:=Q) hK rest (i+1)
  have go:cl P (base+i) o (nA P ops base rest (i+1) K) s→o.wp P a w (wpList P ops Q rest) Q:=fun hr=>
   ot h hd hr (fun g' s' a' w' h' hk=>ih g' s' a' w' hl.2 (h'.mono (fun n hn=>by omega)) hk)
  unfold nA zv at hv
  unfold wpList
  cases hg:o.guard with
  | none=>
   rw[hg]at hv
   rw[if_pos (by simp[Region.wanted,hg])]
   exact .inl (go hv)
  | some p=>
   obtain ⟨j,want⟩:=p
   rw[hg]at hv
   simp only[ga]at hv
   split at hv
   ·rename_i b hb
    have hy:=j9 h hg hb
    by_cases vh:b=want
    ·rw[if_pos (by rw[hy];simp[vh])]
     exact .inl (go (hv.1 vh))
    ·rw[if_neg (by rw[hy];simp[vh])]
     exact ih _ _ _ _ hl.2 ((h.put hd (v:=V undef) trivial).mono (fun n hn=>by omega)) (hv.2 vh)
   ·exact hv.elim
end
end Go.bU
