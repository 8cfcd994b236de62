/-
  The calculus over a function's code: plain regions, tests, blocks, loops, calls; and the way in and out. Nothing here speaks of a program.
-/
import Derived.Test.YtaeagfdnfjenlaaGreatDoorVcgB
set_option linter.unusedVariables false
set_option linter.unusedSimpArgs false
namespace Go.cn
set_option linter.unusedSectionVars false
def fI (K:AS→Prop) (F:Exit→AS→Prop) (e:Exit) (s:AS):Prop:=match e with
 | .normal=>K s
 | e=>F e s
def fh (id:Nat) (F:Exit→AS→Prop) (e:Exit) (s:AS):Prop:=match e with
 | .exit id'=>if id'=id then F .normal s else F (.exit id') s
 | e=>F e s
def lM (c:Option AV) (A B:AS→Prop) (s:AS):Prop:=match c with
 | some (.inl (.inl (.inl (.bool b))))=>(b=true→A s)∧(b=false→B s)
 | _=>False
def bL (e:Option dU) (nm:Nat) (dst:Option Nat) (K:AS→Prop) (s:AS):Prop:=match e with
 | some e=>K ((s.mem nm e.2).put dst e.1)
 | none=>False
def ak (P:Program) (f:Nat):Bool:=match P.funcs[f]? with
 | some fn=>fn.name != "runtime.NumGoroutine" &&fn.body.isSome
 | none=>false
def bq (s:AS) (xs:List Operand):Option (List AV):=match xs with
 | []=>some []
 | x::r=>match s.aS x,bq s r with
  | some v,some l=>some (v::l)
  | _,_=>none
def av (P:Program) [Tables P] (nm:Nat) (f:Nat) (xs:Option (List AV)) (dst:Option Nat) (K:AS→Prop) (s:AS):Prop:=match xs with
 | none=>False
 | some l=> ∀ (W:Nat→Prop) (N:Nat) (w0:Base P) (g:Where) (a:Act) (w:World),bF W N w0 (fun n=>n < nm) g s a w→
   Calls P f (l.map (AV.ah g)).toArray w fun e w'=> ∃ v g' s',e= .returned (AV.ah g' v)∧AV.ok (fun n=>n < nm+1) v∧bF W N w0 (fun n=>n < nm+1) g' s' a w'∧K (s'.put dst (some v))
def n6 (P:Program) (f:Nat) (xs:Option (List AV)) (dst:Option Nat) (K:AS→Prop) (s:AS):Prop:=match xs with
 | none=>False
 | some l=> ∃ v,AV.ok (fun _=>False) v∧(∀ g w,(callFunc f (l.map (AV.ah g)).toArray).run P w= .ok (.value (AV.ah g v)) w)∧K (s.put dst (some v))
def cp (P:Program) [Tables P] (nm:Nat) (b:Builtin) (tys:Array TypeId) (type:TypeId) (consts:Array Bool) (xs:Option (List AV)) (dst:Option Nat) (K:AS→Prop) (s:AS):Prop:=match xs with
 | none=>False
 | some l=> ∀ (W:Nat→Prop) (N:Nat) (w0:Base P) (g:Where) (a:Act) (w:World),bF W N w0 (fun n=>n < nm) g s a w→
   ∃ v g' s' w',(builtin b tys type consts (l.map (AV.ah g)).toArray).run P w= .ok (.value (AV.ah g' v)) w'∧AV.ok (fun n=>n < nm+1) v∧bF W N w0 (fun n=>n < nm+1) g' s' a w'∧K (s'.put dst (some v))
def U6:Value→Option AV
 | .pointer (some ⟨b,o,none⟩)=>some (Ptr b o)
 | .pointer none=>some (V (.pointer none))
 | _=>none
def Md (x:Option AV) (l:Option (List AV)):Option (List AV):=match x,l with
 | some v,some l=>some (v::l)
 | _,_=>none
def lh:List Value→Option (List AV)
 | []=>some []
 | x::r=>Md (U6 x) (lh r)
def uC (x y:Option (List AV)):Option (List AV):=match x,y with
 | some l,some m=>some (l++m)
 | _,_=>none
def Kj (P:Program) [Tables P] (nm:Nat) (fv:Option AV) (xs:Option (List AV)) (dst:Option Nat) (K:AS→Prop) (s:AS):Prop:=match fv with
 | some (.inl (.inl (.inl (.func (.func f) ⟨[]⟩ caps))))=>ak P f=true∧av P nm f (uC xs (lh caps.toList)) dst K s
 | _=>False
def isConst (x:Operand):Bool:=match x with
 | .const _=>true
 | _=>false
def cw (P:Program) [Tables P] (nm:Nat) (o:Oper) (K:AS→Prop) (s:AS):Prop:=match o.op with
 | .call ⟨.value (.func f),xs,_⟩=>if ak P f=true then av P nm f (bq s xs.toList) o.dst K s else n6 P f (bq s xs.toList) o.dst K s
 | .call ⟨.value (.tmp d),xs,_⟩=>Kj P nm (s.env d) (bq s xs.toList) o.dst K s
 | .call ⟨.builtin .len,xs,tys⟩=>bL (eM (qg P tys.toList) (bq s xs.toList)) nm o.dst K s
 | .call ⟨.builtin b,xs,tys⟩=>cp P nm b tys o.type (xs.map isConst) (bq s xs.toList) o.dst K s
 | op=>bL (ea P nm s op) nm o.dst K s
def gi (ops:Array Oper) (s:AS) (j:Nat):Option AV:=match ops[j]? with
 | some o=>match o.dst with
  | some d=>s.env d
  | none=>none
 | none=>none
def ql (c:Option AV) (want:Bool):Option AV:=match c with
 | some (.inl (.inl (.inl (.tuple _))))=>some (B (!want))
 | c=>c
def gy (c:Option AV) (want:Bool) (A B:Prop):Prop:=match c with
 | some (.inl (.inl (.inl (.bool b))))=>(b=want→A)∧(b≠want→B)
 | _=>False
def yc (P:Program) [Tables P] (ops:Array Oper) (nm:Nat) (o:Oper) (K:AS→Prop) (s:AS):Prop:=match o.guard with
 | none=>cw P nm o K s
 | some (j,want)=>gy (ql (gi ops s j) want) want (cw P nm o K s) (K (s.put o.dst (some (V undef))))
def nq (P:Program) [Tables P] (ops:Array Oper) (base:Nat) (l:List Oper) (i:Nat) (K:AS→Prop) (s:AS):Prop:=match l with
 | []=>K { s with next:=base+i }
 | o::rest=>yc P ops (base+i) o (nq P ops base rest (i+1) K) s
def Gp (r:Nat→Nat):Value→Value
 | .pointer (some ⟨b,o,none⟩)=> .pointer (some ⟨r b,o,none⟩)
 | v=>v
def lN (r:Nat→Nat):Value→Value
 | .func f as cs=> .func f as ⟨cs.toList.map (Gp r)⟩
 | v=>v
theorem Gq {r:Nat→Nat} {v:Value} (h:iP v=true):lN r v=v:=by
 cases v<;>try rfl
 rename_i f as cs
 obtain ⟨l⟩:=cs
 cases l with
 | nil=>rfl
 | cons=>simp[iP]at h
theorem U7 (v:Value):Gp (fun n=>n) v=v:=by
 cases v<;>try rfl
 rename_i a
 rcases a with _ | ⟨b,o,q⟩
 ·rfl
 ·cases q<;>rfl
theorem U8 (v:Value):lN (fun n=>n) v=v:=by
 cases v<;>try rfl
 have:(Gp fun n=>n)=id:=funext U7
 simp only[lN,this,List.map_id]
theorem QN {M:Nat→Prop} {r:Nat→Nat} {v:Value}:Ce M (Gp r v)↔Ce (fun n=>M (r n)) v:=by
 cases v<;>try exact Iff.rfl
 rename_i a
 rcases a with _ | ⟨b,o,q⟩
 ·exact Iff.rfl
 ·cases q<;>exact Iff.rfl
theorem QO {M:Nat→Prop} {r:Nat→Nat} {v:Value}:nf M (lN r v)↔nf (fun n=>M (r n)) v:=by
 cases v<;>try exact Iff.rfl
 simp only[lN,nf,List.mem_map,forall_exists_index,and_imp,forall_apply_eq_imp_iff₂,QN]
theorem Kk {r q:Nat→Nat} {v:Value} (h:Ce (fun n=>r n=q n) v):Gp r v=Gp q v:=by
 cases v<;>try rfl
 rename_i a
 rcases a with _ | ⟨b,o,q⟩
 ·rfl
 ·cases q with
  | none=>have:r b=_:=h;simp only[Gp,this]
  | some=>rfl
theorem Kl {r q:Nat→Nat} {v:Value} (h:nf (fun n=>r n=q n) v):lN r v=lN q v:=by
 cases v<;>try rfl
 simp only[lN]
 rw[List.map_congr_left fun c hc=>Kk (h c hc)]
theorem QP {r:Nat→Nat} {v:Value}:(lN r v).oneCell'=v.oneCell':=by cases v<;>rfl
theorem fj {r:Nat→Nat}:(∀ b,lN r (.bool b)= .bool b)∧(∀ k n,lN r (.int k n)= .int k n)∧(∀ s,lN r (.string s)= .string s)∧(∀ a,lN r (.pointer a)= .pointer a)∧(∀ a n c,lN r (.slice a n c)= .slice a n c)∧(∀ t v,lN r (.iface t v)= .iface t v)∧lN r .nilIface= .nilIface∧lN r .nilFunc= .nilFunc∧(∀ c,lN r (.agg c)= .agg c)∧(∀ c,lN r (.tuple c)= .tuple c)∧ ∀ f as,lN r (.func f as #[])= .func f as #[]:=
 ⟨fun _=>rfl,fun _ _=>rfl,fun _=>rfl,fun _=>rfl,fun _ _ _=>rfl,fun _ _=>rfl,rfl,rfl,fun _=>rfl,fun _=>rfl,fun _ _=>rfl⟩
attribute [simp] fj
def SV.ren (r:Nat→Nat):SV→SV
 | .inl v=> .inl (lN r v)
 | .inr (.inl (t,o))=> .inr (.inl (r t,o))
 | .inr (.inr (t,o,n,c))=> .inr (.inr (r t,o,n,c))
theorem SV.nL (x:SV):SV.ren (fun n=>n) x=x:=by
 rcases x with v | ⟨t,o⟩ | ⟨t,o,n,c⟩
 ·show Sum.inl _=_;rw[U8]
 ·rfl
 ·rfl
theorem SV.Pb {r q:Nat→Nat} {x:SV} (h:SV.names (fun n=>r n=q n) x):SV.ren r x=SV.ren q x:=by
 rcases x with v | ⟨t,o⟩ | ⟨t,o,n,c⟩
 ·exact congrArg Sum.inl (Kl h)
 ·have:r t=q t:=h
  simp only[SV.ren,fj,this]
 ·have:r t=q t:=h
  simp only[SV.ren,fj,this]
theorem SV.je {r:Nat→Nat} {x:SV} (h:SV.names (fun n=>r n=n) x):SV.ren r x=x:=(SV.Pb (q:=fun n=>n) h).trans (SV.nL x)
theorem SV.me {M:Nat→Prop} {r:Nat→Nat} {x:SV}:SV.names M (SV.ren r x)↔SV.names (fun n=>M (r n)) x:=by
 rcases x with v | ⟨t,o⟩ | ⟨t,o,n,c⟩
 ·exact QO
 ·exact Iff.rfl
 ·exact Iff.rfl
theorem SV.EK {r:Nat→Nat} {x:SV}:SV.one (SV.ren r x)=SV.one x:=by
 rcases x with v | ⟨t,o⟩ | ⟨t,o,n,c⟩
 ·exact QP
 ·rfl
 ·rfl
theorem QQ {M1 M2:Nat→Prop} {v:Value} (h1:nf M1 v) (h2:nf M2 v):nf (fun n=>M1 n∧M2 n) v:=by
 cases v<;>try trivial
 intro c hc
 have a:=h1 c hc
 have b:=h2 c hc
 cases c<;>try trivial
 rename_i x
 rcases x with _ | ⟨b',o,q⟩
 ·trivial
 ·cases q with
  | none=>exact ⟨a,b⟩
  | some=>trivial
def CV.ren (r:Nat→Nat):CV→CV
 | .inl s=> .inl (SV.ren r s)
 | .inr l=> .inr (l.map (SV.ren r))
def AV.ren (r:Nat→Nat):AV→AV
 | .inl c=> .inl (CV.ren r c)
 | .inr l=> .inr (l.map (CV.ren r))
structure vu (r:Nat→Nat) (s t:AS):Prop where
 env: ∀ d v,t.env d=some v→s.env d=some (AV.ren r v)
 box: ∀ n b,t.box n=some b→ ∃ b',s.box (r n)=some b'∧(b.rw=true→b'.rw=true)∧b'.cells=b.cells.map (SV.ren r)
 inj: ∀ n n' b b',t.box n=some b→b.rw=true→t.box n'=some b'→r n=r n'→n=n'
 names:Names (fun n=>n < t.next) t
def U9 (s t:AS):Prop:=vu (fun n=>n) s t
def ll (m:Nat) (s t:AS):Prop:= ∃ r,vu r s t∧ ∀ n,n < m→r n=n
def kv (body:(Exit→AS→Prop)→AS→Prop) (F:Exit→AS→Prop) (s:AS):Prop:=
 ∃ (ι:Type) (st:ι→AS) (μ:ι→Nat) (i₀:ι),ll s.next s (st i₀)∧(∀ i,s.next≤(st i).next)∧
  ∀ i,body (fI (fun s'=> ∃ j,μ j < μ i∧ll s.next s' (st j)) F) (st i)
def ng (N:Nat) (o:Oper):Bool:=match o.dst with
 | some d=>decide (d < N)
 | none=>true
section
variable {P:Program} [Tables P] {W:Nat→Prop} {N:Nat} {w0:Base P} {g:Where} {s:AS} {a:Act} {w:World}
theorem Gr (g:Where) (r:Nat→Nat) (v:Value):kZ g (Gp r v)=kZ (fun n=>g (r n)) v:=by
 cases v<;>try rfl
 rename_i a
 rcases a with _ | ⟨b,o,r⟩
 ·rfl
 ·cases r<;>rfl
theorem QR (g:Where) (r:Nat→Nat) (v:Value):kk g (lN r v)=kk (fun n=>g (r n)) v:=by
 cases v<;>try rfl
 simp only[lN,kk,List.map_map,List.map_congr_left fun c _=>Gr g r c,Function.comp_def,Gr]
theorem SV.cg (g:Where) (r:Nat→Nat) (x:SV):SV.ah g (SV.ren r x)=SV.ah (fun n=>g (r n)) x:=by
 rcases x with v | ⟨t,o⟩ | ⟨t,o,n,c⟩
 ·exact QR g r v
 ·rfl
 ·rfl
theorem CV.cg (g:Where) (r:Nat→Nat) (x:CV):CV.ah g (CV.ren r x)=CV.ah (fun n=>g (r n)) x:=by
 rcases x with x | l
 ·exact SV.cg g r x
 ·simp[CV.ren,CV.ah,SV.cg]
theorem AV.cg (g:Where) (r:Nat→Nat) (x:AV):AV.ah g (AV.ren r x)=AV.ah (fun n=>g (r n)) x:=by
 rcases x with x | l
 ·exact CV.cg g r x
 ·simp[AV.ren,AV.ah,CV.cg]
theorem bF.eR {M:Nat→Prop} (h:bF W N w0 M g s a w) {r:Nat→Nat} {t:AS} (hr:vu r s t) (hp: ∀ n,n < w0.pn→r n=n∧n < t.next):
  bF W N w0 (fun n=>n < t.next) (fun n=>g (r n)) t a w:=by
 refine ⟨h.size,h.defers,fun d v hv=> ?_,hr.names,⟨fun n b hb=> ?_,fun n b hb i v hv=> ?_,fun n b hb hrw i hi=> ?_,fun n n' b b' hb hrw hb' hne=> ?_⟩,fun n b hb hrw=> ?_,h.frame,fun n hn=>⟨(hp n hn).2,by show g (r n)=_;rw[(hp n hn).1];exact (h.pin n hn).2⟩,h.tabs⟩
 ·rw[h.env d _ (hr.env d v hv),AV.cg]
 ·obtain ⟨b',h1,_,_⟩:=hr.box n b hb
  exact h.mem.lt _ b' h1
 ·obtain ⟨b',h1,_,h3⟩:=hr.box n b hb
  have:=h.mem.cell _ b' h1 i (SV.ren r v) (by rw[h3];simp[hv])
  rw[this,SV.cg]
 ·obtain ⟨b',h1,h2,h3⟩:=hr.box n b hb
  exact h.mem.free _ b' h1 (h2 hrw) i (by rw[h3];simpa using hi)
 ·obtain ⟨c,h1,h2,_⟩:=hr.box n b hb
  obtain ⟨c',h1',_,_⟩:=hr.box n' b' hb'
  exact h.mem.sep _ _ c c' h1 (h2 hrw) h1' (fun e=>hne (hr.inj n n' b b' hb hrw hb' e))
 ·obtain ⟨c,h1,h2,_⟩:=hr.box n b hb
  exact h.own _ c h1 (h2 hrw)
theorem bF.next {M:Nat→Prop} (h:bF W N w0 M g s a w) (n:Nat):bF W N w0 M g { s with next:=n } a w:=
 ⟨h.size,h.defers,h.env,⟨h.names.env,h.names.box⟩,⟨h.mem.lt,h.mem.cell,h.mem.free,h.mem.sep⟩,h.own,h.frame,h.pin,h.tabs⟩
theorem cE {M:Nat→Prop} (h:bF W N w0 M g s a w): ∀ (xs:List Operand) (l:List AV),bq s xs=some l→xs.map a.eval=l.map (AV.ah g)∧ ∀ v ∈ l,AV.ok M v
 | [],l,he=>by simp only[bq,Option.some.injEq]at he;subst he;exact ⟨rfl,by simp⟩
 | x::r,l,he=>by
  unfold bq at he
  split at he
  ·rename_i v l' hv hl'
   simp only[Option.some.injEq]at he;subst he
   obtain ⟨h1,h2⟩:=cE h r l' hl'
   refine ⟨by simp[h.eval hv,h1],fun u hu=> ?_⟩
   rcases List.mem_cons.1 hu with rfl | hu
   ·exact h.names.aS hv
   ·exact h2 u hu
  ·simp at he
theorem cx {f:Nat} (hc:ak P f=true) (args:Array Value) (w:World):(callFunc f args).run P w= .ok (.enter f args) w:=by
 unfold ak at hc
 split at hc
 ·rename_i fn hf
  simp only[Bool.and_eq_true,bne_iff_ne,ne_eq]at hc
  cases hbo:fn.body with
  | none=>rw[hbo]at hc;simp at hc
  | some c=>simp[callFunc,hf,hc.1,hbo]
 ·simp at hc
theorem iD (f:Nat) (xs:Array Operand) (tys:Array TypeId) (dst:Option Tmp) (type:TypeId) (pos:String) (after:Array Edge) (guard:Option (Nat×Bool)) (r:Operand→Value) (hr:r (.func f)= .func (.func f) #[] #[]) (w:World):
  (execOp r { dst,op:= .call ⟨.value (.func f),xs,tys⟩,type,pos,after,guard }).run P w=(callFunc f (xs.map r)).run P w:=by
 simp[execOp,resolve,hr,Deferred.ofValue,invoke]
theorem ky {g:Where}: ∀ (l:List Value) (m:List AV),lh l=some m→m.map (AV.ah g)=l.map (kZ g)
 | [],m,he=>by cases he;rfl
 | x::r,m,he=>by
  unfold lh Md at he
  split at he
  ·rename_i v m' hv hm
   cases he
   rw[List.map_cons,List.map_cons,ky r m' hm]
   congr 1
   unfold U6 at hv
   split at hv
   ·cases hv;rfl
   ·cases hv;rfl
   ·cases hv
  ·cases he
theorem qV (d:Nat) (xs:Array Operand) (tys:Array TypeId) (dst:Option Tmp) (type:TypeId) (pos:String) (after:Array Edge) (guard:Option (Nat×Bool)) (r:Operand→Value) {f:Nat} {cs:Array Value} (hr:r (.tmp d)= .func (.func f) #[] cs) (w:World):
  (execOp r { dst,op:= .call ⟨.value (.tmp d),xs,tys⟩,type,pos,after,guard }).run P w=(callFunc f (xs.map r++cs)).run P w:=by
 simp[execOp,resolve,hr,Deferred.ofValue,invoke]
theorem jJ {nm:Nat} {o:Oper} {K:AS→Prop} (h:bF W N w0 (fun n=>n < nm) g s a w) (hd: ∀ d,o.dst=some d→d < N) (hv:cw P nm o K s)
  {next:Act→World→Prop} {Q:Exit→Act→World→Prop} (hK: ∀ g' s' a' w',bF W N w0 (fun n=>n < nm+1) g' s' a' w'→K s'→next a' w'):o.wp P a w next Q:=by
 unfold cw at hv
 obtain ⟨dst,op,type,pos,after,guard⟩:=o
 simp only at hv hd
 split at hv
 ·rename_i f xs tys
  have hargs: ∀ l,bq s xs.toList=some l→xs.map a.eval=(l.map (AV.ah g)).toArray:=fun l hl=>by
   apply Array.ext'
   rw[Array.toList_map,(cE h _ _ hl).1]
  split at hv
  ·rename_i hc
   unfold av at hv
   split at hv
   ·exact hv.elim
   ·rename_i l hl
    unfold Oper.wp
    rw[iD f xs tys dst type pos after guard a.eval rfl w,cx hc,hargs l hl]
    simp only[Oper.upon]
    refine (hv W N w0 g a w h).mono ?_
    rintro e w' ⟨v,g',s',rfl,hok,bk,hk⟩
    exact hK g' _ _ _ (bk.put hd hok) hk
  ·unfold n6 at hv
   split at hv
   ·exact hv.elim
   ·rename_i l hl
    obtain ⟨v,hok,hrun,hk⟩:=hv
    unfold Oper.wp
    rw[iD f xs tys dst type pos after guard a.eval rfl w,hargs l hl,hrun]
    simp only[Oper.upon]
    exact hK g _ _ _ ((h.mono (fun n hn=>by omega)).put hd (AV.aL (fun _ h=>h.elim) hok)) hk
 ·rename_i d xs tys
  unfold Kj at hv
  split at hv
  ·rename_i f caps YW
   obtain ⟨hc,hv⟩:=hv
   unfold av at hv
   split at hv
   ·exact hv.elim
   ·rename_i l hl
    unfold uC at hl
    split at hl
    ·rename_i l1 l2 h1 h2
     cases hl
     have hargs:xs.map a.eval++(⟨caps.toList.map (kZ g)⟩:Array Value)=((l1++l2).map (AV.ah g)).toArray:=by
      apply Array.ext'
      rw[Array.toList_append,Array.toList_map,(cE h _ _ h1).1, ← ky _ _ h2,List.map_append]
     unfold Oper.wp
     rw[qV d xs tys dst type pos after guard a.eval (f:=f) (cs:=⟨caps.toList.map (kZ g)⟩) (h.eval (x:= .tmp d) YW) w,cx hc,hargs]
     simp only[Oper.upon]
     refine (hv W N w0 g a w h).mono ?_
     rintro e w' ⟨v,g',s',rfl,hok,bk,hk⟩
     exact hK g' _ _ _ (bk.put hd hok) hk
    ·cases hl
  ·exact hv.elim
 ·rename_i xs tys
  unfold bL at hv
  split at hv
  ·rename_i e he
   cases hl:bq s xs.toList with
   | none=>rw[hl]at he;simp[eM]at he
   | some l=>
    rw[hl]at he
    obtain ⟨n,rfl,hrun⟩:=EJ (type:=type) (cs:=xs.map isConst) he
    have hargs:xs.map a.eval=(l.map (AV.ah g)).toArray:=by
     apply Array.ext'
     rw[Array.toList_map,(cE h _ _ hl).1]
    unfold Oper.wp
    have:(execOp a.eval { dst,op:= .call ⟨.builtin .len,xs,tys⟩,type,pos,after,guard }).run P w= .ok (.value (.int .i64 n)) w:=by
     simp only[execOp,resolve,Sem.run_bind,Sem.run_pure,Result.andThen_ok,invoke]
     refine Eq.trans (congrArg (fun c=>Sem.run P (builtin .len tys type c (xs.map a.eval)) w) (?_:_=xs.map isConst)) ?_
     ·apply Array.map_congr_left;intro x _;cases x<;>rfl
     ·rw[hargs];exact hrun g w
    rw[this]
    simp only[Oper.upon]
    exact hK g _ _ _ ((h.mono (M':=fun n=>n < nm+1) (fun n hn=>by omega)).put (v:=I .i64 n) hd trivial) hv
  ·exact hv.elim
 ·rename_i b xs tys QS
  unfold cp at hv
  split at hv
  ·exact hv.elim
  ·rename_i l hl
   have hargs:xs.map a.eval=(l.map (AV.ah g)).toArray:=by
    apply Array.ext'
    rw[Array.toList_map,(cE h _ _ hl).1]
   obtain ⟨v,g',s',w',hrun,hok,bk,hk⟩:=hv W N w0 g a w h
   unfold Oper.wp
   have:(execOp a.eval { dst,op:= .call ⟨.builtin b,xs,tys⟩,type,pos,after,guard }).run P w= .ok (.value (AV.ah g' v)) w':=by
    simp only[execOp,resolve,Sem.run_bind,Sem.run_pure,Result.andThen_ok,invoke]
    refine Eq.trans (congrArg (fun c=>Sem.run P (builtin b tys type c (xs.map a.eval)) w) (?_:_=xs.map isConst)) ?_
    ·apply Array.map_congr_left;intro x _;cases x<;>rfl
    ·rw[hargs,hrun]
   rw[this]
   simp only[Oper.upon]
   exact hK g' _ _ _ (bk.put hd hok) hk
 ·unfold bL at hv
  split at hv
  ·rename_i e he
   obtain ⟨g',w',r,hrun⟩:=eH (P:=P) (o:={ dst,op,type,pos,after,guard }) h (Nat.lt_irrefl nm) he
   have bk:=hrun.rep.mono (M':=fun n=>n < nm+1) (fun n hn=>by rcases hn with h | h<;>omega)
   unfold Oper.wp
   rw[hrun.run]
   have hval:=hrun.val
   cases h1:e.1 with
   | none=>
    rw[h1]at hval hv;simp only at hval
    subst hval
    simp only[Oper.upon]
    exact hK g' _ _ _ (bk.ED undef) hv
   | some v=>
    rw[h1]at hval hv;simp only at hval
    obtain ⟨rfl,hok⟩:=hval
    simp only[Oper.upon]
    exact hK g' _ _ _ (bk.put hd (AV.aL (fun n hn=>by rcases hn with h | h<;>omega) hok)) hv
  ·exact hv.elim
theorem Cj {M:Nat→Prop} (h:bF W N w0 M g s a w) {ops:Array Oper} {j:Nat} {b:Bool} (hg:gi ops s j=some (B b)):yielded ops a.tmps j=some b:=by
 unfold gi at hg
 split at hg
 ·rename_i o ho
  split at hg
  ·rename_i d hd
   have:=h.env d _ hg
   simp[yielded,ho,hd,this,AV.ah,CV.ah,SV.ah,cW]
  ·simp at hg
 ·simp at hg
theorem jV {M:Nat→Prop} (h:bF W N w0 M g s a w) {ops:Array Oper} {o:Oper} {j:Nat} {want b:Bool} (hg:o.guard=some (j,want)) (hb:ql (gi ops s j) want=some (B b)):
  Region.wanted o (yielded ops a.tmps)=(b==want):=by
 unfold ql at hb
 split at hb
 ·rename_i arr hv
  simp only[Option.some.injEq,Sum.inl.injEq,Value.bool.injEq]at hb
  have hy:yielded ops a.tmps j=none:=by
   unfold gi at hv
   split at hv
   ·rename_i p hp
    split at hv
    ·rename_i d hd
     have:=h.env d _ hv
     simp[yielded,hp,hd,this,AV.ah,CV.ah,SV.ah,cW]
    ·simp at hv
   ·simp at hv
  subst hb
  simp only[Region.wanted,hg,hy]
  cases want<;>rfl
 ·have hy:=Cj h hb
  simp only[Region.wanted,hg,hy]
  cases want<;>cases b<;>rfl
theorem vv {ops:Array Oper} {base:Nat} {Q:Exit→Act→World→Prop} {K:AS→Prop}
  (hK: ∀ g' s' a' w',bF W N w0 (fun n=>n < s'.next) g' s' a' w'→K s'→Q .normal a' w'):
  ∀ (l:List Oper) (i:Nat) (g:Where) (s:AS) (a:Act) (w:World),l.all (ng N)=true→bF W N w0 (fun n=>n < base+i) g s a w→nq P ops base l i K s→wpList P ops Q l a w
 | [],i,g,s,a,w,_,h,hv=>hK g _ a w (h.next (base+i)) hv
 | o::rest,i,g,s,a,w,hl,h,hv=>by
  simp only[List.all_cons,Bool.and_eq_true]at hl
  have hd: ∀ d,o.dst=some d→d < N:=fun d hd=>by
   have:=hl.1;unfold ng at this;rw[hd]at this;simpa using this
  have ih:=vv (ops:=ops) (base:=base) (Q:=Q) hK rest (i+1)
  have go:cw P (base+i) o (nq P ops base rest (i+1) K) s→o.wp P a w (wpList P ops Q rest) Q:=fun hr=>
   jJ h hd hr (fun g' s' a' w' h' hk=>ih g' s' a' w' hl.2 (h'.mono (fun n hn=>by omega)) hk)
  unfold nq yc at hv
  unfold wpList
  cases hg:o.guard with
  | none=>
   rw[hg]at hv
   rw[if_pos (by simp[Region.wanted,hg])]
   exact .inl (go hv)
  | some p=>
   obtain ⟨j,want⟩:=p
   rw[hg]at hv
   simp only[gy]at hv
   split at hv
   ·rename_i b hb
    have hy:=jV h hg hb
    by_cases uy:b=want
    ·rw[if_pos (by rw[hy];simp[uy])]
     exact .inl (go (hv.1 uy))
    ·rw[if_neg (by rw[hy];simp[uy])]
     exact ih _ _ _ _ hl.2 ((h.put hd (v:=V undef) trivial).mono (fun n hn=>by omega)) (hv.2 uy)
   ·exact hv.elim
end
end Go.cn
