/-
  The calculus over a function's code: plain regions, tests, blocks, loops, calls; and the way in and out. Nothing here speaks of a program.
-/
import Derived.Test.YtkaamnnjeandlaaDoorVcgB
set_option linter.unusedVariables false
set_option linter.unusedSimpArgs false
namespace Go.bM
set_option linter.unusedSectionVars false
def fa (K:AS→Prop) (F:Exit→AS→Prop) (e:Exit) (s:AS):Prop:=match e with
 | .normal=>K s
 | e=>F e s
def eD (id:Nat) (F:Exit→AS→Prop) (e:Exit) (s:AS):Prop:=match e with
 | .exit id'=>if id'=id then F .normal s else F (.exit id') s
 | e=>F e s
def lN (c:Option AV) (A B:AS→Prop) (s:AS):Prop:=match c with
 | some (.inl (.inl (.inl (.bool b))))=>(b=true→A s)∧(b=false→B s)
 | _=>False
def bH (e:Option c6) (nm:Nat) (dst:Option Nat) (K:AS→Prop) (s:AS):Prop:=match e with
 | some e=>K ((s.mem nm e.2).put dst e.1)
 | none=>False
def au (P:Program) (f:Nat):Bool:=match P.funcs[f]? with
 | some fn=>fn.name != "runtime.NumGoroutine" &&fn.body.isSome
 | none=>false
def bb (s:AS) (xs:List Operand):Option (List AV):=match xs with
 | []=>some []
 | x::r=>match s.aK x,bb s r with
  | some v,some l=>some (v::l)
  | _,_=>none
def aB (P:Program) [Tables P] (nm:Nat) (f:Nat) (xs:Option (List AV)) (dst:Option Nat) (K:AS→Prop) (s:AS):Prop:=match xs with
 | none=>False
 | some l=> ∀ (W:Nat→Prop) (N:Nat) (w0:Base P) (g:Where) (a:Act) (w:World),br W N w0 (fun n=>n < nm) g s a w→
   Calls P f (l.map (AV.ah g)).toArray w fun e w'=> ∃ v g' s',e= .returned (AV.ah g' v)∧AV.ok (fun n=>n < nm+1) v∧br W N w0 (fun n=>n < nm+1) g' s' a w'∧K (s'.put dst (some v))
def nU (P:Program) (f:Nat) (xs:Option (List AV)) (dst:Option Nat) (K:AS→Prop) (s:AS):Prop:=match xs with
 | none=>False
 | some l=> ∃ v,AV.ok (fun _=>False) v∧(∀ g w,(callFunc f (l.map (AV.ah g)).toArray).run P w= .ok (.value (AV.ah g v)) w)∧K (s.put dst (some v))
def bU (P:Program) [Tables P] (nm:Nat) (b:Builtin) (tys:Array TypeId) (type:TypeId) (consts:Array Bool) (xs:Option (List AV)) (dst:Option Nat) (K:AS→Prop) (s:AS):Prop:=match xs with
 | none=>False
 | some l=> ∀ (W:Nat→Prop) (N:Nat) (w0:Base P) (g:Where) (a:Act) (w:World),br W N w0 (fun n=>n < nm) g s a w→
   ∃ v g' s' w',(builtin b tys type consts (l.map (AV.ah g)).toArray).run P w= .ok (.value (AV.ah g' v)) w'∧AV.ok (fun n=>n < nm+1) v∧br W N w0 (fun n=>n < nm+1) g' s' a w'∧K (s'.put dst (some v))
def Ou:Value→Option AV
 | .pointer (some ⟨b,o,none⟩)=>some (Ptr b o)
 | .pointer none=>some (V (.pointer none))
 | _=>none
def G4 (x:Option AV) (l:Option (List AV)):Option (List AV):=match x,l with
 | some v,some l=>some (v::l)
 | _,_=>none
def kB:List Value→Option (List AV)
 | []=>some []
 | x::r=>G4 (Ou x) (kB r)
def uN (x y:Option (List AV)):Option (List AV):=match x,y with
 | some l,some m=>some (l++m)
 | _,_=>none
def Fp (P:Program) [Tables P] (nm:Nat) (fv:Option AV) (xs:Option (List AV)) (dst:Option Nat) (K:AS→Prop) (s:AS):Prop:=match fv with
 | some (.inl (.inl (.inl (.func (.func f) ⟨[]⟩ caps))))=>au P f=true∧aB P nm f (uN xs (kB caps.toList)) dst K s
 | _=>False
def isConst (x:Operand):Bool:=match x with
 | .const _=>true
 | _=>false
def bK (P:Program) [Tables P] (nm:Nat) (o:Oper) (K:AS→Prop) (s:AS):Prop:=match o.op with
 | .call ⟨.value (.func f),xs,_⟩=>if au P f=true then aB P nm f (bb s xs.toList) o.dst K s else nU P f (bb s xs.toList) o.dst K s
 | .call ⟨.value (.tmp d),xs,_⟩=>Fp P nm (s.env d) (bb s xs.toList) o.dst K s
 | .call ⟨.builtin .len,xs,tys⟩=>bH (dI (nO P tys.toList) (bb s xs.toList)) nm o.dst K s
 | .call ⟨.builtin b,xs,tys⟩=>bU P nm b tys o.type (xs.map isConst) (bb s xs.toList) o.dst K s
 | op=>bH (dS P nm s op) nm o.dst K s
def eV (ops:Array Oper) (s:AS) (j:Nat):Option AV:=match ops[j]? with
 | some o=>match o.dst with
  | some d=>s.env d
  | none=>none
 | none=>none
def nV (c:Option AV) (want:Bool):Option AV:=match c with
 | some (.inl (.inl (.inl (.tuple _))))=>some (B (!want))
 | c=>c
def fL (c:Option AV) (want:Bool) (A B:Prop):Prop:=match c with
 | some (.inl (.inl (.inl (.bool b))))=>(b=want→A)∧(b≠want→B)
 | _=>False
def tZ (P:Program) [Tables P] (ops:Array Oper) (nm:Nat) (o:Oper) (K:AS→Prop) (s:AS):Prop:=match o.guard with
 | none=>bK P nm o K s
 | some (j,want)=>fL (nV (eV ops s j) want) want (bK P nm o K s) (K (s.put o.dst (some (V undef))))
def ly (P:Program) [Tables P] (ops:Array Oper) (base:Nat) (l:List Oper) (i:Nat) (K:AS→Prop) (s:AS):Prop:=match l with
 | []=>K { s with next:=base+i }
 | o::rest=>tZ P ops (base+i) o (ly P ops base rest (i+1) K) s
def B0 (r:Nat→Nat):Value→Value
 | .pointer (some ⟨b,o,none⟩)=> .pointer (some ⟨r b,o,none⟩)
 | v=>v
def jU (r:Nat→Nat):Value→Value
 | .func f as cs=> .func f as ⟨cs.toList.map (B0 r)⟩
 | v=>v
theorem B1 {r:Nat→Nat} {v:Value} (h:gx v=true):jU r v=v:=by
 cases v<;>try rfl
 rename_i f as cs
 obtain ⟨l⟩:=cs
 cases l with
 | nil=>rfl
 | cons=>simp[gx]at h
theorem Ov (v:Value):B0 (fun n=>n) v=v:=by
 cases v<;>try rfl
 rename_i a
 rcases a with _ | ⟨b,o,q⟩
 ·rfl
 ·cases q<;>rfl
theorem Ow (v:Value):jU (fun n=>n) v=v:=by
 cases v<;>try rfl
 have:(B0 fun n=>n)=id:=funext Ov
 simp only[jU,this,List.map_id]
theorem La {M:Nat→Prop} {r:Nat→Nat} {v:Value}:xQ M (B0 r v)↔xQ (fun n=>M (r n)) v:=by
 cases v<;>try exact Iff.rfl
 rename_i a
 rcases a with _ | ⟨b,o,q⟩
 ·exact Iff.rfl
 ·cases q<;>exact Iff.rfl
theorem Lb {M:Nat→Prop} {r:Nat→Nat} {v:Value}:ld M (jU r v)↔ld (fun n=>M (r n)) v:=by
 cases v<;>try exact Iff.rfl
 simp only[jU,ld,List.mem_map,forall_exists_index,and_imp,forall_apply_eq_imp_iff₂,La]
theorem Fq {r q:Nat→Nat} {v:Value} (h:xQ (fun n=>r n=q n) v):B0 r v=B0 q v:=by
 cases v<;>try rfl
 rename_i a
 rcases a with _ | ⟨b,o,q⟩
 ·rfl
 ·cases q with
  | none=>have:r b=_:=h;simp only[B0,this]
  | some=>rfl
theorem Ft {r q:Nat→Nat} {v:Value} (h:ld (fun n=>r n=q n) v):jU r v=jU q v:=by
 cases v<;>try rfl
 simp only[jU]
 rw[List.map_congr_left fun c hc=>Fq (h c hc)]
theorem Lc {r:Nat→Nat} {v:Value}:(jU r v).oneCell'=v.oneCell':=by cases v<;>rfl
theorem dT {r:Nat→Nat}:(∀ b,jU r (.bool b)= .bool b)∧(∀ k n,jU r (.int k n)= .int k n)∧(∀ s,jU r (.string s)= .string s)∧(∀ a,jU r (.pointer a)= .pointer a)∧(∀ a n c,jU r (.slice a n c)= .slice a n c)∧(∀ t v,jU r (.iface t v)= .iface t v)∧jU r .nilIface= .nilIface∧jU r .nilFunc= .nilFunc∧(∀ c,jU r (.agg c)= .agg c)∧(∀ c,jU r (.tuple c)= .tuple c)∧ ∀ f as,jU r (.func f as #[])= .func f as #[]:=
 ⟨fun _=>rfl,fun _ _=>rfl,fun _=>rfl,fun _=>rfl,fun _ _ _=>rfl,fun _ _=>rfl,rfl,rfl,fun _=>rfl,fun _=>rfl,fun _ _=>rfl⟩
attribute [simp] dT
def SV.ren (r:Nat→Nat):SV→SV
 | .inl v=> .inl (jU r v)
 | .inr (.inl (t,o))=> .inr (.inl (r t,o))
 | .inr (.inr (t,o,n,c))=> .inr (.inr (r t,o,n,c))
theorem SV.pO (x:SV):SV.ren (fun n=>n) x=x:=by
 rcases x with v | ⟨t,o⟩ | ⟨t,o,n,c⟩
 ·show Sum.inl _=_;rw[Ow]
 ·rfl
 ·rfl
theorem SV.Jx {r q:Nat→Nat} {x:SV} (h:SV.names (fun n=>r n=q n) x):SV.ren r x=SV.ren q x:=by
 rcases x with v | ⟨t,o⟩ | ⟨t,o,n,c⟩
 ·exact congrArg Sum.inl (Ft h)
 ·have:r t=q t:=h
  simp only[SV.ren,dT,this]
 ·have:r t=q t:=h
  simp only[SV.ren,dT,this]
theorem SV.jc {r:Nat→Nat} {x:SV} (h:SV.names (fun n=>r n=n) x):SV.ren r x=x:=(SV.Jx (q:=fun n=>n) h).trans (SV.pO x)
theorem SV.kr {M:Nat→Prop} {r:Nat→Nat} {x:SV}:SV.names M (SV.ren r x)↔SV.names (fun n=>M (r n)) x:=by
 rcases x with v | ⟨t,o⟩ | ⟨t,o,n,c⟩
 ·exact Lb
 ·exact Iff.rfl
 ·exact Iff.rfl
theorem SV.Ay {r:Nat→Nat} {x:SV}:SV.one (SV.ren r x)=SV.one x:=by
 rcases x with v | ⟨t,o⟩ | ⟨t,o,n,c⟩
 ·exact Lc
 ·rfl
 ·rfl
theorem Ld {M1 M2:Nat→Prop} {v:Value} (h1:ld M1 v) (h2:ld M2 v):ld (fun n=>M1 n∧M2 n) v:=by
 cases v<;>try trivial
 intro c hc
 have a:=h1 c hc
 have b:=h2 c hc
 cases c<;>try trivial
 rename_i x
 rcases x with _ | ⟨b',o,q⟩
 ·trivial
 ·cases q with
  | none=>exact ⟨a,b⟩
  | some=>trivial
def CV.ren (r:Nat→Nat):CV→CV
 | .inl s=> .inl (SV.ren r s)
 | .inr l=> .inr (l.map (SV.ren r))
def AV.ren (r:Nat→Nat):AV→AV
 | .inl c=> .inl (CV.ren r c)
 | .inr l=> .inr (l.map (CV.ren r))
structure rM (r:Nat→Nat) (s t:AS):Prop where
 env: ∀ d v,t.env d=some v→s.env d=some (AV.ren r v)
 box: ∀ n b,t.box n=some b→ ∃ b',s.box (r n)=some b'∧(b.rw=true→b'.rw=true)∧b'.cells=b.cells.map (SV.ren r)
 inj: ∀ n n' b b',t.box n=some b→b.rw=true→t.box n'=some b'→r n=r n'→n=n'
 names:Names (fun n=>n < t.next) t
def Ox (s t:AS):Prop:=rM (fun n=>n) s t
def lh (m:Nat) (s t:AS):Prop:= ∃ r,rM r s t∧ ∀ n,n < m→r n=n
def kC (body:(Exit→AS→Prop)→AS→Prop) (F:Exit→AS→Prop) (s:AS):Prop:=
 ∃ (ι:Type) (st:ι→AS) (μ:ι→Nat) (i₀:ι),lh s.next s (st i₀)∧(∀ i,s.next≤(st i).next)∧
  ∀ i,body (fa (fun s'=> ∃ j,μ j < μ i∧lh s.next s' (st j)) F) (st i)
def lO (N:Nat) (o:Oper):Bool:=match o.dst with
 | some d=>decide (d < N)
 | none=>true
section
variable {P:Program} [Tables P] {W:Nat→Prop} {N:Nat} {w0:Base P} {g:Where} {s:AS} {a:Act} {w:World}
theorem B3 (g:Where) (r:Nat→Nat) (v:Value):jS g (B0 r v)=jS (fun n=>g (r n)) v:=by
 cases v<;>try rfl
 rename_i a
 rcases a with _ | ⟨b,o,r⟩
 ·rfl
 ·cases r<;>rfl
theorem Le (g:Where) (r:Nat→Nat) (v:Value):iQ g (jU r v)=iQ (fun n=>g (r n)) v:=by
 cases v<;>try rfl
 simp only[jU,iQ,List.map_map,List.map_congr_left fun c _=>B3 g r c,Function.comp_def,B3]
theorem SV.bG (g:Where) (r:Nat→Nat) (x:SV):SV.ah g (SV.ren r x)=SV.ah (fun n=>g (r n)) x:=by
 rcases x with v | ⟨t,o⟩ | ⟨t,o,n,c⟩
 ·exact Le g r v
 ·rfl
 ·rfl
theorem CV.bG (g:Where) (r:Nat→Nat) (x:CV):CV.ah g (CV.ren r x)=CV.ah (fun n=>g (r n)) x:=by
 rcases x with x | l
 ·exact SV.bG g r x
 ·simp[CV.ren,CV.ah,SV.bG]
theorem AV.bG (g:Where) (r:Nat→Nat) (x:AV):AV.ah g (AV.ren r x)=AV.ah (fun n=>g (r n)) x:=by
 rcases x with x | l
 ·exact CV.bG g r x
 ·simp[AV.ren,AV.ah,CV.bG]
theorem br.eW {M:Nat→Prop} (h:br W N w0 M g s a w) {r:Nat→Nat} {t:AS} (hr:rM r s t) (hp: ∀ n,n < w0.pn→r n=n∧n < t.next):
  br W N w0 (fun n=>n < t.next) (fun n=>g (r n)) t a w:=by
 refine ⟨h.size,h.defers,fun d v hv=> ?_,hr.names,⟨fun n b hb=> ?_,fun n b hb i v hv=> ?_,fun n b hb hrw i hi=> ?_,fun n n' b b' hb hrw hb' hne=> ?_⟩,fun n b hb hrw=> ?_,h.frame,fun n hn=>⟨(hp n hn).2,by show g (r n)=_;rw[(hp n hn).1];exact (h.pin n hn).2⟩,h.tabs⟩
 ·rw[h.env d _ (hr.env d v hv),AV.bG]
 ·obtain ⟨b',h1,_,_⟩:=hr.box n b hb
  exact h.mem.lt _ b' h1
 ·obtain ⟨b',h1,_,h3⟩:=hr.box n b hb
  have:=h.mem.cell _ b' h1 i (SV.ren r v) (by rw[h3];simp[hv])
  rw[this,SV.bG]
 ·obtain ⟨b',h1,h2,h3⟩:=hr.box n b hb
  exact h.mem.free _ b' h1 (h2 hrw) i (by rw[h3];simpa using hi)
 ·obtain ⟨c,h1,h2,_⟩:=hr.box n b hb
  obtain ⟨c',h1',_,_⟩:=hr.box n' b' hb'
  exact h.mem.sep _ _ c c' h1 (h2 hrw) h1' (fun e=>hne (hr.inj n n' b b' hb hrw hb' e))
 ·obtain ⟨c,h1,h2,_⟩:=hr.box n b hb
  exact h.own _ c h1 (h2 hrw)
theorem br.next {M:Nat→Prop} (h:br W N w0 M g s a w) (n:Nat):br W N w0 M g { s with next:=n } a w:=
 ⟨h.size,h.defers,h.env,⟨h.names.env,h.names.box⟩,⟨h.mem.lt,h.mem.cell,h.mem.free,h.mem.sep⟩,h.own,h.frame,h.pin,h.tabs⟩
theorem cB {M:Nat→Prop} (h:br W N w0 M g s a w): ∀ (xs:List Operand) (l:List AV),bb s xs=some l→xs.map a.eval=l.map (AV.ah g)∧ ∀ v ∈ l,AV.ok M v
 | [],l,he=>by simp only[bb,Option.some.injEq]at he;subst he;exact ⟨rfl,by simp⟩
 | x::r,l,he=>by
  unfold bb at he
  split at he
  ·rename_i v l' hv hl'
   simp only[Option.some.injEq]at he;subst he
   obtain ⟨h1,h2⟩:=cB h r l' hl'
   refine ⟨by simp[h.eval hv,h1],fun u hu=> ?_⟩
   rcases List.mem_cons.1 hu with rfl | hu
   ·exact h.names.aK hv
   ·exact h2 u hu
  ·simp at he
theorem cq {f:Nat} (hc:au P f=true) (args:Array Value) (w:World):(callFunc f args).run P w= .ok (.enter f args) w:=by
 unfold au at hc
 split at hc
 ·rename_i fn hf
  simp only[Bool.and_eq_true,bne_iff_ne,ne_eq]at hc
  cases S2:fn.body with
  | none=>rw[S2]at hc;simp at hc
  | some c=>simp[callFunc,hf,hc.1,S2]
 ·simp at hc
theorem iy (f:Nat) (xs:Array Operand) (tys:Array TypeId) (dst:Option Tmp) (type:TypeId) (pos:String) (after:Array Edge) (guard:Option (Nat×Bool)) (r:Operand→Value) (hr:r (.func f)= .func (.func f) #[] #[]) (w:World):
  (execOp r { dst,op:= .call ⟨.value (.func f),xs,tys⟩,type,pos,after,guard }).run P w=(callFunc f (xs.map r)).run P w:=by
 simp[execOp,resolve,hr,Deferred.ofValue,invoke]
theorem kD {g:Where}: ∀ (l:List Value) (m:List AV),kB l=some m→m.map (AV.ah g)=l.map (jS g)
 | [],m,he=>by cases he;rfl
 | x::r,m,he=>by
  unfold kB G4 at he
  split at he
  ·rename_i v m' hv hm
   cases he
   rw[List.map_cons,List.map_cons,kD r m' hm]
   congr 1
   unfold Ou at hv
   split at hv
   ·cases hv;rfl
   ·cases hv;rfl
   ·cases hv
  ·cases he
theorem rN (d:Nat) (xs:Array Operand) (tys:Array TypeId) (dst:Option Tmp) (type:TypeId) (pos:String) (after:Array Edge) (guard:Option (Nat×Bool)) (r:Operand→Value) {f:Nat} {cs:Array Value} (hr:r (.tmp d)= .func (.func f) #[] cs) (w:World):
  (execOp r { dst,op:= .call ⟨.value (.tmp d),xs,tys⟩,type,pos,after,guard }).run P w=(callFunc f (xs.map r++cs)).run P w:=by
 simp[execOp,resolve,hr,Deferred.ofValue,invoke]
theorem kt {nm:Nat} {o:Oper} {K:AS→Prop} (h:br W N w0 (fun n=>n < nm) g s a w) (hd: ∀ d,o.dst=some d→d < N) (hv:bK P nm o K s)
  {next:Act→World→Prop} {Q:Exit→Act→World→Prop} (hK: ∀ g' s' a' w',br W N w0 (fun n=>n < nm+1) g' s' a' w'→K s'→next a' w'):o.wp P a w next Q:=by
 unfold bK at hv
 obtain ⟨dst,op,type,pos,after,guard⟩:=o
 simp only at hv hd
 split at hv
 ·rename_i f xs tys
  have hargs: ∀ l,bb s xs.toList=some l→xs.map a.eval=(l.map (AV.ah g)).toArray:=fun l hl=>by
   apply Array.ext'
   rw[Array.toList_map,(cB h _ _ hl).1]
  split at hv
  ·rename_i hc
   unfold aB at hv
   split at hv
   ·exact hv.elim
   ·rename_i l hl
    unfold Oper.wp
    rw[iy f xs tys dst type pos after guard a.eval rfl w,cq hc,hargs l hl]
    simp only[Oper.upon]
    refine (hv W N w0 g a w h).mono ?_
    rintro e w' ⟨v,g',s',rfl,hok,bh,hk⟩
    exact hK g' _ _ _ (bh.put hd hok) hk
  ·unfold nU at hv
   split at hv
   ·exact hv.elim
   ·rename_i l hl
    obtain ⟨v,hok,hrun,hk⟩:=hv
    unfold Oper.wp
    rw[iy f xs tys dst type pos after guard a.eval rfl w,hargs l hl,hrun]
    simp only[Oper.upon]
    exact hK g _ _ _ ((h.mono (fun n hn=>by omega)).put hd (AV.aI (fun _ h=>h.elim) hok)) hk
 ·rename_i d xs tys
  unfold Fp at hv
  split at hv
  ·rename_i f caps S4
   obtain ⟨hc,hv⟩:=hv
   unfold aB at hv
   split at hv
   ·exact hv.elim
   ·rename_i l hl
    unfold uN at hl
    split at hl
    ·rename_i l1 l2 h1 h2
     cases hl
     have hargs:xs.map a.eval++(⟨caps.toList.map (jS g)⟩:Array Value)=((l1++l2).map (AV.ah g)).toArray:=by
      apply Array.ext'
      rw[Array.toList_append,Array.toList_map,(cB h _ _ h1).1, ← kD _ _ h2,List.map_append]
     unfold Oper.wp
     rw[rN d xs tys dst type pos after guard a.eval (f:=f) (cs:=⟨caps.toList.map (jS g)⟩) (h.eval (x:= .tmp d) S4) w,cq hc,hargs]
     simp only[Oper.upon]
     refine (hv W N w0 g a w h).mono ?_
     rintro e w' ⟨v,g',s',rfl,hok,bh,hk⟩
     exact hK g' _ _ _ (bh.put hd hok) hk
    ·cases hl
  ·exact hv.elim
 ·rename_i xs tys
  unfold bH at hv
  split at hv
  ·rename_i e he
   cases hl:bb s xs.toList with
   | none=>rw[hl]at he;simp[dI]at he
   | some l=>
    rw[hl]at he
    obtain ⟨n,rfl,hrun⟩:=Ax (type:=type) (cs:=xs.map isConst) he
    have hargs:xs.map a.eval=(l.map (AV.ah g)).toArray:=by
     apply Array.ext'
     rw[Array.toList_map,(cB h _ _ hl).1]
    unfold Oper.wp
    have:(execOp a.eval { dst,op:= .call ⟨.builtin .len,xs,tys⟩,type,pos,after,guard }).run P w= .ok (.value (.int .i64 n)) w:=by
     simp only[execOp,resolve,Sem.run_bind,Sem.run_pure,Result.andThen_ok,invoke]
     refine Eq.trans (congrArg (fun c=>Sem.run P (builtin .len tys type c (xs.map a.eval)) w) (?_:_=xs.map isConst)) ?_
     ·apply Array.map_congr_left;intro x _;cases x<;>rfl
     ·rw[hargs];exact hrun g w
    rw[this]
    simp only[Oper.upon]
    exact hK g _ _ _ ((h.mono (M':=fun n=>n < nm+1) (fun n hn=>by omega)).put (v:=I .i64 n) hd trivial) hv
  ·exact hv.elim
 ·rename_i b xs tys Sz
  unfold bU at hv
  split at hv
  ·exact hv.elim
  ·rename_i l hl
   have hargs:xs.map a.eval=(l.map (AV.ah g)).toArray:=by
    apply Array.ext'
    rw[Array.toList_map,(cB h _ _ hl).1]
   obtain ⟨v,g',s',w',hrun,hok,bh,hk⟩:=hv W N w0 g a w h
   unfold Oper.wp
   have:(execOp a.eval { dst,op:= .call ⟨.builtin b,xs,tys⟩,type,pos,after,guard }).run P w= .ok (.value (AV.ah g' v)) w':=by
    simp only[execOp,resolve,Sem.run_bind,Sem.run_pure,Result.andThen_ok,invoke]
    refine Eq.trans (congrArg (fun c=>Sem.run P (builtin b tys type c (xs.map a.eval)) w) (?_:_=xs.map isConst)) ?_
    ·apply Array.map_congr_left;intro x _;cases x<;>rfl
    ·rw[hargs,hrun]
   rw[this]
   simp only[Oper.upon]
   exact hK g' _ _ _ (bh.put hd hok) hk
 ·unfold bH at hv
  split at hv
  ·rename_i e he
   obtain ⟨g',w',r,hrun⟩:=fD (P:=P) (o:={ dst,op,type,pos,after,guard }) h (Nat.lt_irrefl nm) he
   have bh:=hrun.rep.mono (M':=fun n=>n < nm+1) (fun n hn=>by rcases hn with h | h<;>omega)
   unfold Oper.wp
   rw[hrun.run]
   have hval:=hrun.val
   cases h1:e.1 with
   | none=>
    rw[h1]at hval hv;simp only at hval
    subst hval
    simp only[Oper.upon]
    exact hK g' _ _ _ (bh.Ap undef) hv
   | some v=>
    rw[h1]at hval hv;simp only at hval
    obtain ⟨rfl,hok⟩:=hval
    simp only[Oper.upon]
    exact hK g' _ _ _ (bh.put hd (AV.aI (fun n hn=>by rcases hn with h | h<;>omega) hok)) hv
  ·exact hv.elim
theorem xW {M:Nat→Prop} (h:br W N w0 M g s a w) {ops:Array Oper} {j:Nat} {b:Bool} (hg:eV ops s j=some (B b)):yielded ops a.tmps j=some b:=by
 unfold eV at hg
 split at hg
 ·rename_i o ho
  split at hg
  ·rename_i d hd
   have:=h.env d _ hg
   simp[yielded,ho,hd,this,AV.ah,CV.ah,SV.ah,cu]
  ·simp at hg
 ·simp at hg
theorem iz {M:Nat→Prop} (h:br W N w0 M g s a w) {ops:Array Oper} {o:Oper} {j:Nat} {want b:Bool} (hg:o.guard=some (j,want)) (hb:nV (eV ops s j) want=some (B b)):
  Region.wanted o (yielded ops a.tmps)=(b==want):=by
 unfold nV at hb
 split at hb
 ·rename_i arr hv
  simp only[Option.some.injEq,Sum.inl.injEq,Value.bool.injEq]at hb
  have hy:yielded ops a.tmps j=none:=by
   unfold eV at hv
   split at hv
   ·rename_i p hp
    split at hv
    ·rename_i d hd
     have:=h.env d _ hv
     simp[yielded,hp,hd,this,AV.ah,CV.ah,SV.ah,cu]
    ·simp at hv
   ·simp at hv
  subst hb
  simp only[Region.wanted,hg,hy]
  cases want<;>rfl
 ·have hy:=xW h hb
  simp only[Region.wanted,hg,hy]
  cases want<;>cases b<;>rfl
theorem rO {ops:Array Oper} {base:Nat} {Q:Exit→Act→World→Prop} {K:AS→Prop}
  (hK: ∀ g' s' a' w',br W N w0 (fun n=>n < s'.next) g' s' a' w'→K s'→Q .normal a' w'):
  ∀ (l:List Oper) (i:Nat) (g:Where) (s:AS) (a:Act) (w:World),l.all (lO N)=true→br W N w0 (fun n=>n < base+i) g s a w→ly P ops base l i K s→wpList P ops Q l a w
 | [],i,g,s,a,w,_,h,hv=>hK g _ a w (h.next (base+i)) hv
 | o::rest,i,g,s,a,w,hl,h,hv=>by
  simp only[List.all_cons,Bool.and_eq_true]at hl
  have hd: ∀ d,o.dst=some d→d < N:=fun d hd=>by
   have:=hl.1;unfold lO at this;rw[hd]at this;simpa using this
  have ih:=rO (ops:=ops) (base:=base) (Q:=Q) hK rest (i+1)
  have go:bK P (base+i) o (ly P ops base rest (i+1) K) s→o.wp P a w (wpList P ops Q rest) Q:=fun hr=>
   kt h hd hr (fun g' s' a' w' h' hk=>ih g' s' a' w' hl.2 (h'.mono (fun n hn=>by omega)) hk)
  unfold ly tZ at hv
  unfold wpList
  cases hg:o.guard with
  | none=>
   rw[hg]at hv
   rw[if_pos (by simp[Region.wanted,hg])]
   exact .inl (go hv)
  | some p=>
   obtain ⟨j,want⟩:=p
   rw[hg]at hv
   simp only[fL]at hv
   split at hv
   ·rename_i b hb
    have hy:=iz h hg hb
    by_cases qO:b=want
    ·rw[if_pos (by rw[hy];simp[qO])]
     exact .inl (go (hv.1 qO))
    ·rw[if_neg (by rw[hy];simp[qO])]
     exact ih _ _ _ _ hl.2 ((h.put hd (v:=V undef) trivial).mono (fun n hn=>by omega)) (hv.2 qO)
   ·exact hv.elim
end
end Go.bM
