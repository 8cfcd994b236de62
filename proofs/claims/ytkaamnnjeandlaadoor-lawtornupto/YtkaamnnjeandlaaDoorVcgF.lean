/-
  The calculus: a region whose order Go leaves open. One walk in the text's order serves every order, where a check on the region's own text says that what may come up in another order is independent. Nothing here speaks of a program.
-/
import Derived.Test.YtkaamnnjeandlaaDoorVcgD
import Derived.Orders
set_option linter.unusedVariables false
set_option linter.unusedSimpArgs false
namespace Go.bM
set_option linter.unusedSectionVars false
def P1 (P:Program) [Tables P] (f:Nat) (l:List AV) (r:AV):Prop:=
 (au P f=true∧sM P f l r)∨(AV.ok (fun _=>False) r∧ ∀ g w,(callFunc f (l.map (AV.ah g)).toArray).run P w= .ok (.value (AV.ah g r)) w)
def Hands (P:Program) [Tables P] (f:Nat) (l:List AV) (nm:Nat) (D:c6→Prop) (W:Nat→Prop) (N:Nat) (w0:Base P) (M:Nat→Prop) (g:Where) (s:AS) (a:Act) (w:World):Prop:=
 Calls P f (l.map (AV.ah g)).toArray w fun ex w'=> ∃ e v g',D e∧e.1=some v∧ex= .returned (AV.ah g' v)∧(∀ n,M n→g' n=g n)∧
  br W N w0 (fun n=>M n∨n=nm) g' (s.mem nm e.2) a w'∧AV.ok (fun n=>M n∨n=nm) v
structure Reader (P:Program) [Tables P] (f:Nat) (l:List AV) (need:List (Nat×aG)) (nm:Nat) (D:c6→Prop):Prop where
 body:au P f=true
 named: ∀ M:Nat→Prop,(∀ v ∈ l,AV.ok M v)→(∀ p ∈ need,M p.1→ ∀ x ∈ p.2.cells,SV.ok M x)→ ∀ p ∈ need,M p.1
 mem: ∀ e,D e→e.2=none∨ ∃ cs,e.2=some (.inl cs)
 call: ∀ (W:Nat→Prop) (N:Nat) (w0:Base P) (M:Nat→Prop) (g:Where) (s:AS) (a:Act) (w:World),br W N w0 M g s a w→ ¬ M nm→(∀ v ∈ l,AV.ok M v)→(∀ p ∈ need,s.box p.1=some p.2)→
  Hands P f l nm D W N w0 M g s a w
def Reads (P:Program) [Tables P] (nm f:Nat) (xs:Option (List AV)) (s:AS) (D:c6→Prop):Prop:=
 ∃ l need,xs=some l∧(∀ p ∈ need,s.box p.1=some p.2)∧Reader P f l need nm D
def jq (P:Program) [Tables P] (nm:Nat) (o:Oper) (s:AS) (e:c6):Prop:=match o.op with
 | .call ⟨.value (.func f),xs,_⟩=>(∃ l r,bb s xs.toList=some l∧P1 P f l r∧e=(some r,none))∨Reads P nm f (bb s xs.toList) s (fun d=>d=e)
 | .call ⟨.builtin .len,xs,tys⟩=>dI (nO P tys.toList) (bb s xs.toList)=some e
 | .call ⟨.builtin _,_,_⟩=>False
 | op=>dS P nm s op=some e
def iA (P:Program) [Tables P] (nm:Nat) (o:Oper) (s:AS) (D:c6→Prop):Prop:=match o.op with
 | .call ⟨.value (.func f),xs,_⟩=>Reads P nm f (bb s xs.toList) s D
 | _=>False
def Does (P:Program) [Tables P] (ops:Array Oper) (nm:Nat) (o:Oper) (s:AS) (e:c6):Prop:=match o.guard with
 | none=>jq P nm o s e
 | some (j,want)=>match nV (eV ops s j) want with
  | some (.inl (.inl (.inl (.bool b))))=>(b=want→jq P nm o s e)∧(b≠want→e=(some (V undef),none))
  | _=>False
def lW (P:Program) [Tables P] (ops:Array Oper) (nm:Nat) (o:Oper) (s:AS) (D:c6→Prop):Prop:=match o.guard with
 | none=>iA P nm o s D
 | some (j,want)=>match nV (eV ops s j) want with
  | some (.inl (.inl (.inl (.bool b))))=>(b=want→iA P nm o s D)∧(b≠want→D=fun e=>e=(some (V undef),none))
  | _=>False
def app (nm:Nat) (o:Oper) (e:c6) (s:AS):AS:=(s.mem nm e.2).put o.dst e.1
def waits (ops:Array Oper) (fuel:Nat) (i j:Nat):Bool:=match fuel with
 | 0=>false
 | fuel+1=>match ops[i]? with
  | some o=>o.after.toList.any fun e=>Region.binds .any e&&(e.on==j||waits ops fuel e.on j)
  | none=>false
def late (ops:Array Oper) (i:Nat):Bool:=(List.range ops.size).all fun k=>decide (k≤i)||waits ops ops.size k i
def bar (ops:Array Oper) (i:Nat):Bool:=late ops i&&(List.range i).all fun j=>waits ops ops.size i j
def B5 (P:Program) [Tables P] (ops:Array Oper) (i nm:Nat) (o:Oper) (K:AS→Prop) (s:AS):Prop:=
 (∃ e,Does P ops nm o s e∧K (app nm o e s))∨(late ops i=true∧ ∃ D,lW P ops nm o s D∧ ∀ e,D e→K (app nm o e s))∨(bar ops i=true∧tZ P ops nm o K s)
def gY (P:Program) [Tables P] (ops:Array Oper) (base:Nat) (l:List Oper) (i:Nat) (K:AS→Prop) (s:AS):Prop:=match l with
 | []=>K { s with next:=base+i }
 | o::rest=>B5 P ops i (base+i) o (gY P ops base rest (i+1) K) s
def xO (P:Program) [Tables P] (ops:Array Oper) (i nm:Nat) (o:Oper) (K:AS→Prop) (s:AS):Prop:=
 (∃ e,jq P nm o s e∧K (app nm o e s))∨(late ops i=true∧ ∃ D,iA P nm o s D∧ ∀ e,D e→K (app nm o e s))∨(bar ops i=true∧bK P nm o K s)
def yu (P:Program) [Tables P] (ops:Array Oper) (i:Nat) (c:Option AV) (want:Bool) (nm:Nat) (o:Oper) (K:AS→Prop) (s:AS):Prop:=fL c want (xO P ops i nm o K s) (K (s.put o.dst (some (V undef))))
def qW (P:Program) [Tables P] (ops:Array Oper) (i nm:Nat) (f:Nat) (xs:Option (List AV)) (dst:Option Nat) (K:AS→Prop) (s:AS):Prop:=
 (∃ l r,xs=some l∧P1 P f l r∧K (s.put dst (some r)))∨(∃ e,Reads P nm f xs s (fun d=>d=e)∧K ((s.mem nm e.2).put dst e.1))∨
  (late ops i=true∧ ∃ D,Reads P nm f xs s D∧ ∀ e:c6,D e→K ((s.mem nm e.2).put dst e.1))∨(bar ops i=true∧if au P f=true then aB P nm f xs dst K s else nU P f xs dst K s)
def bV (o:Op):Bool:=match o with
 | .store .. =>true
 | _=>false
def gK (o:Op):Bool:=match o with
 | .load .. =>true
 | .convert a b _=>a==b
 | .call ⟨.value (.func _),_,_⟩=>true
 | _=>false
def uQ (ops:Array Oper) (x y:Oper):Bool:=
 (match x.dst with
  | some d=> !(y.looksAt ops).contains d&&y.dst != some d
  | none=>true)&&
 (match y.dst with
  | some d=> !(x.looksAt ops).contains d
  | none=>true)&&
 !(bV x.op&&(bV y.op||gK y.op))&& !(bV y.op&&gK x.op)
def AA (ops:Array Oper):Bool:=
 (List.range ops.size).all fun i=>(match ops[i]? with
  | some o=>(o.after.toList.all fun e=> !Region.binds .any e||decide (e.on < i))&&
    (List.range i).all fun j=>match ops[j]? with
     | some p=>uQ ops p o||waits ops ops.size i j
     | none=>true
  | none=>true)
section
variable {P:Program} [Tables P] {W:Nat→Prop} {N:Nat} {w0:Base P} {M:Nat→Prop} {g:Where} {s s':AS} {a:Act} {w:World} {ops:Array Oper} {nm:Nat} {o:Oper}
theorem sN {nm f:Nat} {xs:Option (List AV)} {dst:Option Nat} {K K':AS→Prop} (h: ∀ s,K s→K' s) {s:AS} (hv:aB P nm f xs dst K s):aB P nm f xs dst K' s:=by
 unfold aB at hv ⊢
 split at hv
 ·exact hv
 ·intro W N w0 g a w hr
  refine (hv W N w0 g a w hr).mono ?_
  rintro e w' ⟨v,g',s',h1,h2,h3,h4⟩
  exact ⟨v,g',s',h1,h2,h3,h _ h4⟩
theorem uR {f:Nat} {xs:Option (List AV)} {dst:Option Nat} {K K':AS→Prop} (h: ∀ s,K s→K' s) {s:AS} (hv:nU P f xs dst K s):nU P f xs dst K' s:=by
 unfold nU at hv ⊢
 split at hv
 ·exact hv
 ·obtain ⟨v,h1,h2,h3⟩:=hv
  exact ⟨v,h1,h2,h _ h3⟩
theorem uS {nm:Nat} {b:Builtin} {tys:Array TypeId} {type:TypeId} {cs:Array Bool} {xs:Option (List AV)} {dst:Option Nat} {K K':AS→Prop} (h: ∀ s,K s→K' s) {s:AS} (hv:bU P nm b tys type cs xs dst K s):bU P nm b tys type cs xs dst K' s:=by
 unfold bU at hv ⊢
 split at hv
 ·exact hv
 ·intro W N w0 g a w hr
  obtain ⟨v,g',s',w',h1,h2,h3,h4⟩:=hv W N w0 g a w hr
  exact ⟨v,g',s',w',h1,h2,h3,h _ h4⟩
theorem uT {e:Option c6} {nm:Nat} {dst:Option Nat} {K K':AS→Prop} (h: ∀ s,K s→K' s) {s:AS} (hv:bH e nm dst K s):bH e nm dst K' s:=by
 unfold bH at hv ⊢
 split at hv
 ·exact h _ hv
 ·exact hv
theorem Jy {nm:Nat} {fv:Option AV} {xs:Option (List AV)} {dst:Option Nat} {K K':AS→Prop} (h: ∀ s,K s→K' s) {s:AS} (hv:Fp P nm fv xs dst K s):Fp P nm fv xs dst K' s:=by
 unfold Fp at hv ⊢
 split at hv
 ·exact ⟨hv.1,sN h hv.2⟩
 ·exact hv.elim
theorem jd {nm:Nat} {o:Oper} {K K':AS→Prop} (h: ∀ s,K s→K' s) {s:AS} (hv:bK P nm o K s):bK P nm o K' s:=by
 obtain ⟨dst,op,type,pos,after,guard⟩:=o
 cases op
 case call c=>
  obtain ⟨callee,xs,tys⟩:=c
  cases callee with
  | value f=>
   cases f with
   | func f=>
    have Jz:if au P f=true then aB P nm f (bb s xs.toList) dst K s else nU P f (bb s xs.toList) dst K s:=hv
    show if au P f=true then aB P nm f (bb s xs.toList) dst K' s else nU P f (bb s xs.toList) dst K' s
    by_cases hc:au P f=true
    ·rw[if_pos hc]at Jz ⊢;exact sN h Jz
    ·rw[if_neg hc]at Jz ⊢;exact uR h Jz
   | tmp d=>exact Jy h hv
   | _=>exact False.elim hv
  | builtin b=>cases b<;>first | exact uS h hv | exact uT h hv
  | invoke r m=>exact False.elim hv
 all_goals first | exact uT h hv | exact False.elim hv
theorem rP {nm:Nat} {o:Oper} {K K':AS→Prop} (h: ∀ s,K s→K' s) {s:AS} (hv:tZ P ops nm o K s):tZ P ops nm o K' s:=by
 unfold tZ at hv ⊢
 cases hg:o.guard with
 | none=>rw[hg]at hv;exact jd h hv
 | some p=>
  obtain ⟨j,want⟩:=p
  rw[hg]at hv
  simp only[fL]at hv ⊢
  split at hv
  ·exact ⟨fun hw=>jd h (hv.1 hw),fun hw=>h _ (hv.2 hw)⟩
  ·exact hv
theorem mE {x:Operand} (h: ∀ t,x= .tmp t→s.env t=s'.env t):s.aK x=s'.aK x:=by
 cases x with
 | tmp t=>exact h t rfl
 | const v=>cases v<;>rfl
 | global n=>rfl
 | func f=>rfl
theorem jV: ∀ (xs:List Operand),(∀ x ∈ xs,s.aK x=s'.aK x)→bb s xs=bb s' xs
 | [],_=>rfl
 | x::r,h=>by
  simp only[bb,h x (by simp),jV r (fun y hy=>h y (by simp[hy]))]
theorem sO: ∀ (xs:List Operand),(∀ x ∈ xs,s.aK x=s'.aK x)→lr s xs=lr s' xs
 | [],_=>rfl
 | x::r,h=>by
  simp only[lr,h x (by simp),sO r (fun y hy=>h y (by simp[hy]))]
theorem uU {t:TypeId}: ∀ (parts:List (Nat×Operand)) (cs:List SV),(∀ p ∈ parts,s.aK p.2=s'.aK p.2)→fe P t s cs parts=fe P t s' cs parts
 | [],_,_=>rfl
 | (i,x)::r,cs,h=>by
  simp only[fe,h (i,x) (by simp)]
  cases placeOf P t i with
  | none=>rfl
  | some p=>
   cases cellsOf (s'.aK x) with
   | none=>rfl
   | some new=>
    simp only
    split
    ·exact uU r _ (fun p hp=>h p (by simp[hp]))
    ·rfl
theorem sP {z:Nat}: ∀ (parts:List (Nat×Operand)) (cs:List SV),(∀ p ∈ parts,s.aK p.2=s'.aK p.2)→fg z s cs parts=fg z s' cs parts
 | [],_,_=>rfl
 | (i,x)::r,cs,h=>by
  simp only[fg,h (i,x) (by simp)]
  cases cellsOf (s'.aK x) with
  | none=>rfl
  | some new=>
   simp only
   split
   ·exact sP r _ (fun p hp=>h p (by simp[hp]))
   ·rfl
theorem sQ (hop: ∀ x ∈ o.op.operands,s.aK x=s'.aK x) (hM: ∀ x ∈ o.op.operands, ∀ v,s.aK x=some v→AV.ok M v)
  (iR:gK o.op=true∨bV o.op=true→ ∀ t,M t→s.box t=s'.box t):dS P nm s o.op=dS P nm s' o.op:=by
 obtain ⟨dst,op,type,pos,after,guard⟩:=o
 simp only at hop hM iR ⊢
 cases op<;>simp only[dS]<;>simp only[Op.operands]at hop hM
 case move x=>rw[hop x (by simp)]
 case assign x=>rw[hop x (by simp)]
 case box t x=>rw[hop x (by simp)]
 case build t parts=>
  unfold fA
  cases fK P t with
  | none=>rfl
  | some z=>simp only;rw[uU parts.toList z (fun p hp=>hop p.2 (by simp only[List.mem_toArray,List.mem_map];exact ⟨p,hp,rfl⟩))]
 case load t x=>
  rw[← hop x (by simp)]
  cases hx:s.aK x with
  | none=>rfl
  | some v=>
   have hv:=hM x (by simp) v hx
   rcases v with ((v | ⟨b,k⟩ | v) | l) | l<;>try rfl
   ·rcases v with _ | _ | _ | _ | _ | p | _ | _ | _ | _ | _ | _ | _ | _ | _<;>try rfl
    all_goals (rcases p with _ | ⟨b,k,sp⟩<;>first | rfl | (cases sp<;>rfl))
   ·have:s.box b=s'.box b:=iR (Or.inl rfl) b hv
    simp only[dG,this]
 case store t x y=>
  rw[← hop x (by simp), ← hop y (by simp)]
  cases hx:s.aK x with
  | none=>rfl
  | some v=>
   have hv:=hM x (by simp) v hx
   rcases v with ((v | ⟨b,k⟩ | v) | l) | l<;>try rfl
   have:s.box b=s'.box b:=iR (Or.inr rfl) b hv
   unfold ea
   cases cellsOf (s.aK y)<;>cases dX P t<;>simp only[this]
 case binOp op t x y u=>rw[hop x (by simp),hop y (by simp)]
 case unOp op t x=>rw[hop x (by simp)]
 case convert t u x=>
  rw[← hop x (by simp)]
  cases hx:s.aK x with
  | none=>rfl
  | some v=>
   have hv:=hM x (by simp) v hx
   rcases v with ((v | ⟨b,k⟩ | ⟨b,k,n,c⟩) | l) | l<;>try rfl
   simp only[gP]
   by_cases htu:t=u
   ·have:s.box b=s'.box b:=iR (Or.inl (by simp[gK,htu])) b hv
    rw[if_pos htu,if_pos htu,this]
   ·rw[if_neg htu,if_neg htu]
 case sliceToArrayPointer t x=>rw[hop x (by simp)]
 case makeFunc fn first caps=>
  cases fn<;>try rfl
  obtain ⟨fl⟩:=first
  cases fl with
  | cons=>rfl
  | nil=>
   show nQ _ (lr s caps.toList)=nQ _ (lr s' caps.toList)
   rw[sO caps.toList fun x hx=>hop x (by simpa using hx)]
 case fieldAddr t x f=>rw[hop x (by simp)]
 case field t x f=>rw[hop x (by simp)]
 case indexAddr t x i=>rw[hop x (by simp),hop i (by simp)]
 case index t x i=>rw[hop x (by simp),hop i (by simp)]
 case extract x i=>rw[hop x (by simp)]
 case pick c x y=>rw[hop c (by simp),hop x (by simp),hop y (by simp)]
 case slice t x lo hi mx=>
  cases mx with
  | some mx=>
   simp only
   have hb: ∀ y:Option Operand,(∀ z,y=some z→s.aK z=s'.aK z)→fJ s y=fJ s' y:=fun y hy=>by
    cases y with
    | none=>rfl
    | some z=>simp only[fJ,hy z rfl]
   rw[hop x (by simp),hb lo (fun z hz=>hop z (by simp[hz])),hb hi (fun z hz=>hop z (by simp[hz])),hb (some mx) (fun z hz=>hop z (by simp_all))]
  | none=>
   simp only
   have hb: ∀ y:Option Operand,(∀ z,y=some z→s.aK z=s'.aK z)→fJ s y=fJ s' y:=fun y hy=>by
    cases y with
    | none=>rfl
    | some z=>simp only[fJ,hy z rfl]
   rw[hop x (by simp),hb lo (fun z hz=>hop z (by simp[hz])),hb hi (fun z hz=>hop z (by simp[hz]))]
 case makeSlice t l c=>rw[hop l (by simp),hop c (by simp)]
 case buildSlice t n parts=>
  unfold fC
  cases qU P t with
  | none=>rfl
  | some k=>
   obtain ⟨z,sz,mq⟩:=k
   simp only
   rw[sP parts.toList _ (fun p hp=>hop p.2 (by simp only[List.mem_toArray,List.mem_map];exact ⟨p,hp,rfl⟩))]
 case nilCheck x=>rw[hop x (by simp)]
theorem jy {x:Operand} {t:Nat} (hx:x ∈ o.op.operands) (ht:x= .tmp t):t ∈ o.looksAt ops:=by
 subst ht
 exact List.mem_append_left _ (List.mem_filterMap.2 ⟨.tmp t,by simpa using hx,rfl⟩)
theorem pb {j:Nat} {want:Bool} (hg:o.guard=some (j,want)) {p:Oper} {d:Nat} (hp:ops[j]? =some p) (hd:p.dst=some d):d ∈ o.looksAt ops:=by
 refine List.mem_append_right _ ?_
 rw[hg];simp[hp,hd]
theorem rQ {M:Nat→Prop} {s:AS}: ∀ {xs:List Operand},(∀ x ∈ xs, ∀ v,s.aK x=some v→AV.ok M v)→ ∀ l,bb s xs=some l→ ∀ v ∈ l,AV.ok M v
 | [],_,l,h=>by simp only[bb,Option.some.injEq]at h;subst h;simp
 | x::r,hx,l,h=>by
  unfold bb at h
  split at h
  ·rename_i v l' hv hl
   simp only[Option.some.injEq]at h;subst h
   intro u hu
   rcases List.mem_cons.1 hu with rfl | hu
   ·exact hx x (by simp) _ hv
   ·exact rQ (fun y hy=>hx y (by simp[hy])) l' hl u hu
  ·simp at h
theorem sR {M:Nat→Prop} {s s':AS} {nm f:Nat} {xs xs':Option (List AV)} {D:c6→Prop} (hx:xs=xs') (hok: ∀ l,xs=some l→ ∀ v ∈ l,AV.ok M v) (iR: ∀ t,M t→s.box t=s'.box t)
  (iw: ∀ t b,M t→s.box t=some b→ ∀ x ∈ b.cells,SV.ok M x) (h:Reads P nm f xs s D):Reads P nm f xs' s' D:=by
 obtain ⟨l,need,h1,h2,h3⟩:=h
 refine ⟨l,need,hx▸h1,fun p hp=> ?_,h3⟩
 rw[← iR p.1 (h3.named M (hok l h1) (fun q hq Yq=>iw q.1 q.2 Yq (h2 q hq)) p hp)]
 exact h2 p hp
theorem sS (jW: ∀ d ∈ o.looksAt ops,s.env d=s'.env d) (hM: ∀ x ∈ o.op.operands, ∀ v,s.aK x=some v→AV.ok M v)
  (iR:gK o.op=true∨bV o.op=true→ ∀ t,M t→s.box t=s'.box t) (iw:gK o.op=true∨bV o.op=true→ ∀ t b,M t→s.box t=some b→ ∀ x ∈ b.cells,SV.ok M x) {e:c6} (h:Does P ops nm o s e):Does P ops nm o s' e:=by
 have hop: ∀ x ∈ o.op.operands,s.aK x=s'.aK x:=fun x hx=>mE fun t ht=>jW t (jy hx ht)
 have hrun:jq P nm o s e→jq P nm o s' e:=fun hr=>by
  have Lh:=sQ (P:=P) (nm:=nm) hop hM iR
  obtain ⟨dst,op,type,pos,after,guard⟩:=o
  cases op
  case call c=>
   obtain ⟨callee,xs,tys⟩:=c
   cases callee with
   | value f=>
    cases f with
    | func f=>
     have hxs:bb s xs.toList=bb s' xs.toList:=jV xs.toList (fun x hx=>hop x (by simp[Op.operands,Call.operands];exact Or.inr (by simpa using hx)))
     rcases hr with ⟨l,r,h1,h2,h3⟩ | hr
     ·exact .inl ⟨l,r,hxs▸h1,h2,h3⟩
     ·exact .inr (sR hxs (rQ (fun x hx=>hM x (by simp[Op.operands,Call.operands];exact Or.inr (by simpa using hx)))) (iR (Or.inl rfl)) (iw (Or.inl rfl)) hr)
    | _=>exact Lh.symm.trans hr
   | builtin b=>
    have hxs:bb s xs.toList=bb s' xs.toList:=jV xs.toList (fun x hx=>hop x (by simpa[Op.operands,Call.operands] using hx))
    cases b<;>first
     | exact hr.elim
     | exact (congrArg (dI (nO P tys.toList)) hxs.symm).trans hr
   | invoke r m=>exact Lh.symm.trans hr
  all_goals exact Lh.symm.trans hr
 unfold Does at h ⊢
 cases hg:o.guard with
 | none=>rw[hg]at h;exact hrun h
 | some p=>
  obtain ⟨j,want⟩:=p
  rw[hg]at h
  simp only at h ⊢
  have VJ:eV ops s j=eV ops s' j:=by
   unfold eV
   cases hp:ops[j]? with
   | none=>rfl
   | some p=>
    simp only
    cases hd:p.dst with
    | none=>rfl
    | some d=>exact jW d (pb hg hp hd)
  rw[← VJ]
  split at h
  ·rename_i b hb
   exact ⟨fun hw=>hrun (h.1 hw),h.2⟩
  ·exact h.elim
theorem Fu (jW: ∀ d ∈ o.looksAt ops,s.env d=s'.env d) (hn: ∀ d v,s.env d=some v→AV.ok M v)
  (iR:gK o.op=true∨bV o.op=true→ ∀ t,M t→s.box t=s'.box t) (iw:gK o.op=true∨bV o.op=true→ ∀ t b,M t→s.box t=some b→ ∀ x ∈ b.cells,SV.ok M x) {e:c6} (h:Does P ops nm o s e):Does P ops nm o s' e:=
 sS jW (fun x _ v hv=>by
  cases x with
  | tmp t=>exact hn t v hv
  | const c=>
   cases c<;>simp only[AS.aK,Option.some.injEq,Option.ite_none_right_eq_some,reduceCtorEq]at hv<;>try (subst hv;trivial)
   rename_i cs
   obtain ⟨⟨hall,ky⟩,rfl⟩:=hv
   intro x hx
   simp only[List.mem_map]at hx
   obtain ⟨v,hv,rfl⟩:=hx
   exact ⟨dY (List.all_eq_true.1 ky v hv),List.all_eq_true.1 hall v hv⟩
  | global n=>simp only[AS.aK,Option.some.injEq]at hv;subst hv;trivial
  | func f=>simp only[AS.aK,Option.some.injEq]at hv;subst hv;exact (dY (v:= .func (.func f) #[] #[]) rfl)) iR iw h
theorem B6 (jW: ∀ d ∈ o.looksAt ops,s.env d=s'.env d) (hM: ∀ x ∈ o.op.operands, ∀ v,s.aK x=some v→AV.ok M v)
  (iR:gK o.op=true∨bV o.op=true→ ∀ t,M t→s.box t=s'.box t) (iw:gK o.op=true∨bV o.op=true→ ∀ t b,M t→s.box t=some b→ ∀ x ∈ b.cells,SV.ok M x) {D:c6→Prop} (h:lW P ops nm o s D):lW P ops nm o s' D:=by
 have hop: ∀ x ∈ o.op.operands,s.aK x=s'.aK x:=fun x hx=>mE fun t ht=>jW t (jy hx ht)
 have hrun:iA P nm o s D→iA P nm o s' D:=fun hr=>by
  obtain ⟨dst,op,type,pos,after,guard⟩:=o
  cases op
  case call c=>
   obtain ⟨callee,xs,tys⟩:=c
   cases callee with
   | value f=>
    cases f with
    | func f=>
     have hxs:bb s xs.toList=bb s' xs.toList:=jV xs.toList (fun x hx=>hop x (by simp[Op.operands,Call.operands];exact Or.inr (by simpa using hx)))
     exact sR hxs (rQ (fun x hx=>hM x (by simp[Op.operands,Call.operands];exact Or.inr (by simpa using hx)))) (iR (Or.inl rfl)) (iw (Or.inl rfl)) hr
    | _=>exact hr.elim
   | _=>exact hr.elim
  all_goals exact hr.elim
 unfold lW at h ⊢
 cases hg:o.guard with
 | none=>rw[hg]at h;exact hrun h
 | some p=>
  obtain ⟨j,want⟩:=p
  rw[hg]at h
  simp only at h ⊢
  have VJ:eV ops s j=eV ops s' j:=by
   unfold eV
   cases hp:ops[j]? with
   | none=>rfl
   | some p=>
    simp only
    cases hd:p.dst with
    | none=>rfl
    | some d=>exact jW d (pb hg hp hd)
  rw[← VJ]
  split at h
  ·rename_i b hb
   exact ⟨fun hw=>hrun (h.1 hw),h.2⟩
  ·exact h.elim
theorem yv (h:br W N w0 M g s a w) (hnm: ¬ M nm) {e:c6} (hd:jq P nm o s e):
  Runs P W N w0 M g s a nm (execOp a.eval o) w e∨
  ∃ f l,(execOp a.eval o).run P w= .ok (.enter f (l.map (AV.ah g)).toArray) w∧Hands P f l nm (fun d=>d=e) W N w0 M g s a w:=by
 obtain ⟨dst,op,type,pos,after,guard⟩:=o
 cases op
 case call c=>
  obtain ⟨callee,xs,tys⟩:=c
  have hargs: ∀ l,bb s xs.toList=some l→xs.map a.eval=(l.map (AV.ah g)).toArray:=fun l hl=>by
   apply Array.ext'
   rw[Array.toList_map,(cB h _ _ hl).1]
  cases callee with
  | value f=>
   cases f with
   | func f=>
    rcases hd with ⟨l,r,h1,h2,rfl⟩ | ⟨l,need,h1,h2,h3⟩
    ·rcases h2 with ⟨hc,hf⟩ | ⟨hok,hrun⟩
     ·right
      refine ⟨f,l, ?_, ?_⟩
      ·rw[iy f xs tys dst type pos after guard a.eval rfl w,cq hc,hargs l h1]
      ·unfold Hands
       rw[show l.map (AV.ah g)=l.map AV.val from List.map_congr_left fun x hx=>AV.gj (List.all_eq_true.1 hf.args x hx) g]
       refine (hf.call w h.laid).mono ?_
       rintro ex w' ⟨v,rfl,rfl,qV⟩
       exact ⟨_,v,g,rfl,rfl,by rw[AV.gj (hf.res v rfl)],fun _ _=>rfl,(h.kept qV).mono (fun _ hn=>Or.inl hn),AV.dq (hf.res v rfl)⟩
     ·left
      refine ⟨g,w,_, ?_,fun _ _=>rfl,h.mono fun _ hn=>Or.inl hn,rfl,AV.aI (fun _ h=>h.elim) hok⟩
      rw[iy f xs tys dst type pos after guard a.eval rfl w,hargs l h1,hrun]
    ·right
     exact ⟨f,l,by rw[iy f xs tys dst type pos after guard a.eval rfl w,cq h3.body,hargs l h1],h3.call W N w0 M g s a w h hnm (cB h _ _ h1).2 h2⟩
   | _=>exact .inl (fD h hnm hd)
  | builtin b=>
   by_cases hb:b= .len
   ·subst hb
    have hd':dI (nO P tys.toList) (bb s xs.toList)=some e:=hd
    cases hl:bb s xs.toList with
    | none=>rw[hl]at hd';simp[dI]at hd'
    | some l=>
     rw[hl]at hd'
     obtain ⟨n,rfl,hrun⟩:=Ax (type:=type) (cs:=xs.map isConst) hd'
     left
     refine ⟨g,w,_, ?_,fun _ _=>rfl,h.mono fun _ hn=>Or.inl hn,rfl,trivial⟩
     simp only[execOp,resolve,Sem.run_bind,Sem.run_pure,Result.andThen_ok,invoke]
     refine Eq.trans (congrArg (fun c=>Sem.run P (builtin .len tys type c (xs.map a.eval)) w) (?_:_=xs.map isConst)) ?_
     ·apply Array.map_congr_left;intro x _;cases x<;>rfl
     ·rw[hargs l hl];exact hrun g w
   ·cases b<;>first
     | exact hd.elim
     | exact absurd rfl hb
  | invoke r m=>exact .inl (fD h hnm hd)
 all_goals exact .inl (fD h hnm hd)
theorem Fv (h:br W N w0 M g s a w) (hnm: ¬ M nm) {D:c6→Prop} (hd:iA P nm o s D):
  ∃ f l,(execOp a.eval o).run P w= .ok (.enter f (l.map (AV.ah g)).toArray) w∧Hands P f l nm D W N w0 M g s a w:=by
 obtain ⟨dst,op,type,pos,after,guard⟩:=o
 cases op
 case call c=>
  obtain ⟨callee,xs,tys⟩:=c
  have hargs: ∀ l,bb s xs.toList=some l→xs.map a.eval=(l.map (AV.ah g)).toArray:=fun l hl=>by
   apply Array.ext'
   rw[Array.toList_map,(cB h _ _ hl).1]
  cases callee with
  | value f=>
   cases f with
   | func f=>
    obtain ⟨l,need,h1,h2,h3⟩:=hd
    exact ⟨f,l,by rw[iy f xs tys dst type pos after guard a.eval rfl w,cq h3.body,hargs l h1],h3.call W N w0 M g s a w h hnm (cB h _ _ h1).2 h2⟩
   | _=>exact hd.elim
  | _=>exact hd.elim
 all_goals exact hd.elim
theorem uV (h:br W N w0 M g s a w) {e:c6} (hd:Does P ops nm o s e):
  (Region.wanted o (yielded ops a.tmps)=true∧jq P nm o s e)∨(Region.wanted o (yielded ops a.tmps)=false∧e=(some (V undef),none)):=by
 unfold Does at hd
 cases hg:o.guard with
 | none=>rw[hg]at hd;exact .inl ⟨by simp[Region.wanted,hg],hd⟩
 | some p=>
  obtain ⟨j,want⟩:=p
  rw[hg]at hd
  simp only at hd
  split at hd
  ·rename_i b hb
   have hy:=iz h hg hb
   by_cases qO:b=want
   ·exact .inl ⟨by rw[hy];simp[qO],hd.1 qO⟩
   ·exact .inr ⟨by rw[hy];simp[qO],hd.2 qO⟩
  ·exact hd.elim
theorem Ca (h:br W N w0 M g s a w) {D:c6→Prop} (hd:lW P ops nm o s D):
  (Region.wanted o (yielded ops a.tmps)=true∧iA P nm o s D)∨(Region.wanted o (yielded ops a.tmps)=false∧D=fun e=>e=(some (V undef),none)):=by
 unfold lW at hd
 cases hg:o.guard with
 | none=>rw[hg]at hd;exact .inl ⟨by simp[Region.wanted,hg],hd⟩
 | some p=>
  obtain ⟨j,want⟩:=p
  rw[hg]at hd
  simp only at hd
  split at hd
  ·rename_i b hb
   have hy:=iz h hg hb
   by_cases qO:b=want
   ·exact .inl ⟨by rw[hy];simp[qO],hd.1 qO⟩
   ·exact .inr ⟨by rw[hy];simp[qO],hd.2 qO⟩
  ·exact hd.elim
theorem Cb (hn: ¬ M nm) (hd: ∀ d,o.dst=some d→d < N) {e:c6} {g':Where} {w':World} {r:Next} {sem:Sem Next} (hr:K3 P W N w0 M g g' s a nm sem w w' r e):
  ∃ u,(r= .value u∨(r= .skip∧u=undef))∧br W N w0 (fun n=>M n∨n=nm) g' (app nm o e s) (a.put o.dst u) w':=by
 have hval:=hr.val
 unfold app
 cases h1:e.1 with
 | none=>rw[h1]at hval;simp only at hval;exact ⟨undef, .inr ⟨hval,rfl⟩,hr.rep.Ap undef⟩
 | some v=>rw[h1]at hval;simp only at hval;exact ⟨_, .inl hval.1,hr.rep.put hd hval.2⟩
theorem Cc {f:Nat} {l:List AV} {D:c6→Prop} {Q:Exit→Act→World→Prop} (hnm: ¬ M nm) (ua: ∀ d,o.dst=some d→d < N)
  (hrun:(execOp a.eval o).run P w= .ok (.enter f (l.map (AV.ah g)).toArray) w) (hh:Hands P f l nm D W N w0 M g s a w)
  {next:Act→World→Prop} (hK: ∀ e g' a' w',D e→br W N w0 (fun n=>M n∨n=nm) g' (app nm o e s) a' w'→next a' w'):o.wp P a w next Q:=by
 unfold Oper.wp
 rw[hrun]
 simp only[Oper.upon]
 refine Calls.mono hh ?_
 rintro ex w' ⟨e,v,g',hD,hv,rfl,hsame,bh,hok⟩
 refine hK e g' _ w' hD ?_
 have:=bh.put ua hok
 unfold app
 rw[hv]
 exact this
theorem Oy {Q:Exit→Act→World→Prop} {i:Nat} (hi:ops[i]? =some o) (h:br W N w0 M g s a w) (hnm: ¬ M nm) (ua: ∀ d,o.dst=some d→d < N) {e:c6} (hd:Does P ops nm o s e)
  {next:Act→World→Prop} (hK: ∀ g' a' w',br W N w0 (fun n=>M n∨n=nm) g' (app nm o e s) a' w'→next a' w'):wpOp P ops Q i next a w:=by
 unfold wpOp
 simp only[hi]
 rcases uV h hd with ⟨hw,hr⟩ | ⟨hw,rfl⟩
 ·rw[if_pos hw]
  left
  rcases yv h hnm hr with ⟨g',w',r,hrun⟩ | ⟨f,l,hrun,hf⟩
  ·obtain ⟨u,hu,bh⟩:=Cb (o:=o) hnm ua hrun
   unfold Oper.wp
   rw[hrun.run]
   rcases hu with rfl | ⟨rfl,rfl⟩
   ·exact hK _ _ _ bh
   ·exact hK _ _ _ bh
  ·exact Cc hnm ua hrun hf (fun e' g' a' w' he bh=>by subst he;exact hK _ _ _ bh)
 ·rw[if_neg (by simp[hw])]
  exact hK _ _ _ ((h.mono (M':=fun n=>M n∨n=nm) fun _ hn=>Or.inl hn).put ua (v:=V undef) trivial)
theorem Li {Q:Exit→Act→World→Prop} {i:Nat} (hi:ops[i]? =some o) (h:br W N w0 M g s a w) (hnm: ¬ M nm) (ua: ∀ d,o.dst=some d→d < N) {D:c6→Prop} (hd:lW P ops nm o s D)
  {next:Act→World→Prop} (hK: ∀ e g' a' w',D e→br W N w0 (fun n=>M n∨n=nm) g' (app nm o e s) a' w'→next a' w'):wpOp P ops Q i next a w:=by
 unfold wpOp
 simp only[hi]
 rcases Ca h hd with ⟨hw,hr⟩ | ⟨hw,rfl⟩
 ·rw[if_pos hw]
  left
  obtain ⟨f,l,hrun,hf⟩:=Fv h hnm hr
  exact Cc hnm ua hrun hf hK
 ·rw[if_neg (by simp[hw])]
  exact hK _ _ _ _ rfl ((h.mono (M':=fun n=>M n∨n=nm) fun _ hn=>Or.inl hn).put ua (v:=V undef) trivial)
theorem Lj (h:br W N w0 M g s a w) (hnm: ¬ M nm) (ua: ∀ d,o.dst=some d→d < N) {e:c6} (hd:Does P ops nm o s e):
  ∃ g' a' w',br W N w0 (fun n=>M n∨n=nm) g' (app nm o e s) a' w':=by
 rcases uV h hd with ⟨_,hr⟩ | ⟨_,rfl⟩
 ·rcases yv h hnm hr with ⟨g',w',r,hrun⟩ | ⟨f,l,hrun,hf⟩
  ·obtain ⟨u,_,bh⟩:=Cb (o:=o) hnm ua hrun
   exact ⟨_,_,_,bh⟩
  ·obtain ⟨ex,w',fr,⟨e',v,g',rfl,hv,rfl,hsame,bh,hok⟩,_⟩:=hf []
   have:=bh.put ua hok
   unfold app
   rw[hv]
   exact ⟨_,_,_,this⟩
 ·exact ⟨_,_,_,(h.mono (M':=fun n=>M n∨n=nm) fun _ hn=>Or.inl hn).put ua (v:=V undef) trivial⟩
theorem Oz {op:Op} {e:c6} (he:dS P nm s op=some e):
  (bV op=false∧(e.2=none∨ ∃ cs,e.2=some (.inl cs)))∨
  (bV op=true∧ ∃ t u x y b k bx,op= .store t x y∧s.aK x=some (Ptr b k)∧u=b∧e.2=some (.inr (u,bx))):=by
 cases op<;>simp only[dS,reduceCtorEq]at he
 case store t x y=>
  right
  refine ⟨rfl, ?_⟩
  unfold ea at he
  split at he
  ·rename_i b k new ag n hx hc ht
   split at he
   ·split at he
    ·simp only[Option.some.injEq]at he;subst he
     exact ⟨t,b,x,y,b,k,_,rfl,hx,rfl,rfl⟩
    ·simp at he
   ·simp at he
  ·simp at he
 case alloc t=>
  left;refine ⟨rfl, ?_⟩
  unfold iq at he
  split at he
  ·split at he
   ·simp only[Option.some.injEq]at he;subst he;exact .inr ⟨_,rfl⟩
   ·simp at he
  ·simp at he
 case box t x=>
  left;refine ⟨rfl, ?_⟩
  unfold pL at he
  split at he
  ·simp only[Option.some.injEq]at he;subst he;exact .inr ⟨_,rfl⟩
  ·simp at he
 case makeFunc fn first caps=>
  left;refine ⟨rfl, .inl ?_⟩
  cases fn<;>try (cases he;done)
  obtain ⟨fl⟩:=first
  cases fl with
  | cons=>cases he
  | nil=>
   replace he:nQ _ (lr s caps.toList)=some e:=he
   unfold nQ at he
   split at he<;>cases he
   rfl
 case move x=>left;refine ⟨rfl, .inl ?_⟩;split at he<;>simp at he;subst he;rfl
 case assign x=>left;refine ⟨rfl, .inl ?_⟩;split at he<;>simp at he;subst he;rfl
 case build t l=>
  left;refine ⟨rfl, .inl ?_⟩
  unfold fA at he
  split at he
  ·split at he
   ·simp only[Option.some.injEq]at he;subst he;rfl
   ·simp at he
  ·simp at he
 case load t x=>
  left;refine ⟨rfl, .inl ?_⟩
  unfold dG at he
  split at he
  ·split at he
   ·split at he
    ·simp only[Option.some.injEq]at he;subst he;rfl
    ·simp at he
   ·split at he
    ·simp only[Option.some.injEq]at he;subst he;rfl
    ·simp at he
   ·simp at he
  ·split at he
   ·split at he
    ·simp only[Option.some.injEq]at he;subst he;rfl
    ·simp at he
   ·split at he
    ·simp only[Option.some.injEq]at he;subst he;rfl
    ·simp at he
   ·simp at he
  ·simp at he
 case binOp o t x y u=>
  left;refine ⟨rfl, .inl ?_⟩
  unfold qT at he
  split at he
  ·unfold o8 at he
   split at he<;>first | (simp only[Option.some.injEq]at he;subst he;rfl) | cases he
  cases hx:s.aK x with
  | none=>rw[hx]at he;simp[ni,bX]at he
  | some v=>
   cases hy:s.aK y with
   | none=>rw[hx,hy]at he;simp[ni,bX]at he
   | some u'=>
    rw[hx,hy]at he
    obtain ⟨r,rfl,_,_⟩:=K4 (M:=fun _=>True) (g:=fun _=>(0,0)) (w:=default) (P:=P) (t:=t) (x:=x) (y:=y) he rfl rfl
    rfl
 case unOp o t x=>
  left;refine ⟨rfl, .inl ?_⟩
  unfold nN at he
  split at he<;>simp at he<;>subst he<;>rfl
 case convert t u x=>
  left;refine ⟨rfl, .inl ?_⟩
  unfold gP at he
  split at he
  ·split at he
   ·unfold G1 at he
    split at he
    ·simp only[Option.some.injEq]at he;subst he;rfl
    ·simp at he
   ·simp at he
  ·unfold gg at he
   split at he<;>simp at he;subst he;rfl
 case sliceToArrayPointer t x=>
  left;refine ⟨rfl, .inl ?_⟩
  unfold nP at he
  split at he
  ·split at he
   ·simp only[Option.some.injEq]at he;subst he;rfl
   ·simp at he
  ·simp at he
 case fieldAddr t x f=>
  left;refine ⟨rfl, .inl ?_⟩
  unfold dH at he
  split at he<;>simp at he;subst he;rfl
 case field t x f=>
  left;refine ⟨rfl, .inl ?_⟩
  unfold ga at he
  split at he
  ·simp only[Option.some.injEq]at he;subst he;rfl
  ·split at he
   ·simp only[Option.some.injEq]at he;subst he;rfl
   ·simp at he
  ·simp at he
 case indexAddr t x i=>
  left;refine ⟨rfl, .inl ?_⟩
  unfold cj at he
  split at he
  ·split at he
   ·split at he
    ·simp only[Option.some.injEq]at he;subst he;rfl
    ·simp at he
   ·simp at he
  ·split at he
   ·split at he
    ·simp only[Option.some.injEq]at he;subst he;rfl
    ·simp at he
   ·simp at he
  ·split at he
   ·split at he
    ·simp only[Option.some.injEq]at he;subst he;rfl
    ·simp at he
   ·simp at he
  ·simp at he
 case index t x i=>
  left;refine ⟨rfl, .inl ?_⟩
  unfold gO at he
  split at he
  ·split at he
   ·split at he
    ·simp only[Option.some.injEq]at he;subst he;rfl
    ·simp at he
   ·simp at he
  ·split at he
   ·simp only[Option.some.injEq]at he;subst he;rfl
   ·simp at he
  ·simp at he
 case slice t x lo hi mx=>
  left;refine ⟨rfl, .inl ?_⟩
  cases mx with
  | some mx=>
   simp only[dS]at he
   unfold lS at he
   split at he
   ·split at he
    ·simp only[Option.some.injEq]at he;subst he;rfl
    ·cases he
   ·cases he
  | none=>
   simp only[dS]at he
   unfold fB at he
   split at he
   ·unfold KR at he
    split at he
    ·simp only[Option.some.injEq]at he;subst he;rfl
    ·simp at he
   ·unfold KR at he
    split at he
    ·simp only[Option.some.injEq]at he;subst he;rfl
    ·simp at he
   ·unfold Sx at he
    split at he
    ·simp only[Option.some.injEq]at he;subst he;rfl
    ·simp at he
   ·simp at he
 case makeSlice t l c=>
  left;refine ⟨rfl, .inr ?_⟩
  unfold iu at he
  split at he
  ·split at he
   ·simp only[Option.some.injEq]at he;subst he;exact ⟨_,rfl⟩
   ·simp at he
  ·simp at he
 case buildSlice t n parts=>
  left;refine ⟨rfl, .inr ?_⟩
  unfold fC at he
  split at he
  ·split at he
   ·split at he
    ·simp only[Option.some.injEq]at he;subst he;exact ⟨_,rfl⟩
    ·simp at he
   ·simp at he
  ·simp at he
 case nilCheck x=>
  left;refine ⟨rfl, .inl ?_⟩
  unfold Ar at he
  split at he
  ·simp only[Option.some.injEq]at he;subst he;rfl
  ·simp at he
 case pick c x y=>
  left;refine ⟨rfl, .inl ?_⟩
  unfold mA at he
  split at he
  ·unfold ym at he
   split at he
   ·simp only[Option.some.injEq]at he;subst he;rfl
   ·simp at he
  ·simp at he
 case extract x i=>
  left;refine ⟨rfl, .inl ?_⟩
  unfold gb at he
  split at he
  ·split at he
   ·simp only[Option.some.injEq]at he;subst he;rfl
   ·simp at he
  ·simp at he
theorem Cd {e:c6} (hd:jq P nm o s e) (hn:Names M s):
  (bV o.op=false∧(e.2=none∨ ∃ cs,e.2=some (.inl cs)))∨(bV o.op=true∧ ∃ u bx,M u∧e.2=some (.inr (u,bx))):=by
 obtain ⟨dst,op,type,pos,after,guard⟩:=o
 have key:dS P nm s op=some e→(bV op=false∧(e.2=none∨ ∃ cs,e.2=some (.inl cs)))∨(bV op=true∧ ∃ u bx,M u∧e.2=some (.inr (u,bx))):=fun he=>by
  rcases Oz he with h | ⟨h,t,u,x,y,b,k,bx,rfl,hx,rfl,VK⟩
  ·exact .inl h
  ·exact .inr ⟨h,u,bx,hn.aK hx,VK⟩
 cases op
 case call c=>
  obtain ⟨callee,xs,tys⟩:=c
  cases callee with
  | value f=>
   cases f with
   | func f=>
    rcases hd with ⟨l,r,_,_,rfl⟩ | ⟨l,need,_,_,h3⟩
    ·exact .inl ⟨rfl, .inl rfl⟩
    ·exact .inl ⟨rfl,h3.mem e rfl⟩
   | _=>exact key hd
  | builtin b=>
   by_cases hb:b= .len
   ·subst hb
    have hd':dI (nO P tys.toList) (bb s xs.toList)=some e:=hd
    cases hl:bb s xs.toList with
    | none=>rw[hl]at hd';simp[dI]at hd'
    | some l=>
     rw[hl]at hd'
     obtain ⟨n,rfl,_⟩:=Ax (type:=type) (cs:=xs.map isConst) hd'
     exact .inl ⟨rfl, .inl rfl⟩
   ·cases b<;>first
     | exact hd.elim
     | exact absurd rfl hb
  | invoke r m=>exact key hd
 all_goals exact key hd
theorem Ce {e:c6} (hd:Does P ops nm o s e) (hn:Names M s):
  (e.2=none∨ ∃ cs,e.2=some (.inl cs))∨(bV o.op=true∧ ∃ u bx,M u∧e.2=some (.inr (u,bx))):=by
 have key:jq P nm o s e→(e.2=none∨ ∃ cs,e.2=some (.inl cs))∨(bV o.op=true∧ ∃ u bx,M u∧e.2=some (.inr (u,bx))):=fun hr=>by
  rcases Cd hr hn with h | h
  ·exact .inl h.2
  ·exact .inr h
 unfold Does at hd
 split at hd
 ·exact key hd
 ·split at hd
  ·exact (Decidable.em _).elim (fun qO=>key (hd.1 qO)) (fun qO=>by rw[hd.2 qO];exact .inl (.inl rfl))
  ·exact hd.elim
theorem JA {D:c6→Prop} (hd:lW P ops nm o s D) {e:c6} (he:D e):e.2=none∨ ∃ cs,e.2=some (.inl cs):=by
 have key:iA P nm o s D→e.2=none∨ ∃ cs,e.2=some (.inl cs):=fun hr=>by
  obtain ⟨dst,op,type,pos,after,guard⟩:=o
  cases op
  case call c=>
   obtain ⟨callee,xs,tys⟩:=c
   cases callee with
   | value f=>
    cases f with
    | func f=>obtain ⟨l,need,_,_,h3⟩:=hr;exact h3.mem e he
    | _=>exact hr.elim
   | _=>exact hr.elim
  all_goals exact hr.elim
 unfold lW at hd
 split at hd
 ·exact key hd
 ·split at hd
  ·exact (Decidable.em _).elim (fun qO=>key (hd.1 qO)) (fun qO=>by rw[hd.2 qO]at he;rw[he];exact .inl rfl)
  ·exact hd.elim
theorem Cg {x y:Oper} (h:uQ ops x y=true):
  (∀ d,x.dst=some d→d ∉ y.looksAt ops)∧(∀ d,x.dst=some d→y.dst≠some d)∧(∀ d,y.dst=some d→d ∉ x.looksAt ops)∧
   (bV x.op=true→bV y.op=false∧gK y.op=false)∧(bV y.op=true→gK x.op=false):=by
 simp only[uQ,Bool.and_eq_true,Bool.not_eq_true',Bool.and_eq_false_iff,Bool.or_eq_false_iff]at h
 obtain ⟨⟨⟨h1,h2⟩,h3⟩,h4⟩:=h
 refine ⟨fun d hd=> ?_,fun d hd=> ?_,fun d hd=> ?_,fun hx=> ?_,fun hy=> ?_⟩
 ·rw[hd]at h1;simp at h1;exact h1.1
 ·rw[hd]at h1;simp at h1;exact h1.2
 ·rw[hd]at h2;simp at h2;exact h2
 ·rcases h3 with h3 | h3
  ·rw[hx]at h3;simp at h3
  ·exact h3
 ·rcases h4 with h4 | h4
  ·rw[hy]at h4;simp at h4
  ·exact h4
theorem Fw {x:Oper} {e:c6} {d:Nat} (hd: ∀ k,x.dst=some k→d≠k):(app nm x e s).env d=s.env d:=by
 unfold app AS.put
 have hm:(s.mem nm e.2).env=s.env:=by unfold AS.mem;split<;>rfl
 cases hx:x.dst with
 | none=>simp only[hm]
 | some k=>simp only[hm];exact aW _ _ _ _ (hd k hx)
theorem qX {x:Oper} {e:c6}:(app nm x e s).box=(s.mem nm e.2).box:=by
 unfold app AS.put;split<;>rfl
def yw (M:Nat→Prop) (x:Oper) (ex:c6):Prop:=(ex.2=none∨ ∃ cs,ex.2=some (.inl cs))∨(bV x.op=true∧ ∃ u bx,M u∧ex.2=some (.inr (u,bx)))
theorem oI {x y:Oper} {n1 n2:Nat} {ex ey:c6} (hxy: ∀ d,x.dst=some d→d ∉ y.looksAt ops) (hst:bV x.op=true→bV y.op=false∧gK y.op=false)
  (hn:Names M s) (h1: ¬ M n1) (hx:yw M x ex):(Does P ops n2 y s ey→Does P ops n2 y (app n1 x ex s) ey)∧(Does P ops n2 y (app n1 x ex s) ey→Does P ops n2 y s ey)∧
   ∀ D,lW P ops n2 y (app n1 x ex s) D→lW P ops n2 y s D:=by
 have jW: ∀ d ∈ y.looksAt ops,s.env d=(app n1 x ex s).env d:=fun d hd=>(Fw fun k hk e=>hxy k hk (e▸hd)).symm
 have iR:gK y.op=true∨bV y.op=true→ ∀ t,M t→s.box t=(app n1 x ex s).box t:=fun hy t ht=>by
  rw[qX]
  rcases hx with (h | ⟨cs,h⟩) | ⟨hs,u,bx,hu,h⟩
  ·rw[h];rfl
  ·rw[h];simp only[AS.mem];exact (aW _ _ _ _ (fun e=>h1 (by rw[← e];exact ht))).symm
  ·have:=hst hs
   rcases hy with hy | hy<;>simp_all
 have hop: ∀ z ∈ y.op.operands, ∀ v,s.aK z=some v→AV.ok M v:=fun z _ v hv=>hn.aK hv
 have P2: ∀ z ∈ y.op.operands, ∀ v,(app n1 x ex s).aK z=some v→AV.ok M v:=fun z hz v hv=>by
  have:s.aK z=(app n1 x ex s).aK z:=mE fun t ht=>jW t (jy hz ht)
  rw[← this]at hv;exact hn.aK hv
 have iw:gK y.op=true∨bV y.op=true→ ∀ t b,M t→(app n1 x ex s).box t=some b→ ∀ x ∈ b.cells,SV.ok M x:=fun hy t b ht hb=>(hn.box t b ((iR hy t ht).trans hb)).2
 exact ⟨fun h=>Fu jW (hn.env) iR (fun _ t b _ hb=>(hn.box t b hb).2) h,fun h=>sS (fun d hd=>(jW d hd).symm) P2 (fun hy t ht=>(iR hy t ht).symm) iw h,
  fun D h=>B6 (fun d hd=>(jW d hd).symm) P2 (fun hy t ht=>(iR hy t ht).symm) iw h⟩
theorem Ch {x y:Oper} {n1 n2:Nat} {ex ey:c6} (hd: ∀ d,x.dst=some d→y.dst≠some d) (hne:n1≠n2) (h1: ¬ M n1) (h2: ¬ M n2)
  (hst:bV x.op=true→bV y.op=false) (hx:yw M x ex) (hy:yw M y ey):
  app n2 y ey (app n1 x ex s)=app n1 x ex (app n2 y ey s):=by
 have hmem: ∀ (s:AS) (n:Nat) (m:Mem),(s.mem n m).env=s.env∧(s.mem n m).next=s.next:=fun s n m=>by unfold AS.mem;split<;>exact ⟨rfl,rfl⟩
 have jW: ∀ (s:AS) (n:Nat) (z:Oper) (e:c6),(app n z e s).env=(match z.dst with | none=>s.env | some d=>upd s.env d e.1):=fun s n z e=>by
  unfold app AS.put;cases z.dst<;>simp[(hmem s n e.2).1]
 have hnext: ∀ (s:AS) (n:Nat) (z:Oper) (e:c6),(app n z e s).next=s.next:=fun s n z e=>by
  unfold app AS.put;cases z.dst<;>simp[(hmem s n e.2).2]
 have uj: ∀ (s:AS) (n:Nat) (m:Mem),(s.mem n m).box=(match m with | none=>s.box | some (.inl cs)=>upd s.box n (some ⟨true,cs⟩) | some (.inr (t,b))=>upd s.box t (some b)):=fun s n m=>by
  unfold AS.mem;split<;>rfl
 have VL: ∀ (p q:AS),p.env=q.env→p.box=q.box→p.next=q.next→p=q:=fun p q h1 h2 h3=>by cases p;cases q;simp_all
 apply VL
 ·rw[jW,jW,jW,jW]
  cases hx':x.dst with
  | none=>rfl
  | some d=>
   cases hy':y.dst with
   | none=>rfl
   | some d'=>exact nK _ _ _ _ _ (fun e=>hd d hx' (by rw[hy',e]))
 ·rw[qX,qX,uj,uj,qX,qX,uj,uj]
  rcases hx with (h | ⟨cs,h⟩) | ⟨hs,u,bx,hu,h⟩<;>rcases hy with (k | ⟨cs',k⟩) | ⟨hs',u',P3,Vx,k⟩<;>rw[h,k]<;>simp only
  ·exact nK _ _ _ _ _ hne
  ·exact nK _ _ _ _ _ (fun e=>h1 (by rw[e];exact Vx))
  ·exact nK _ _ _ _ _ (fun e=>h2 (by rw[← e];exact hu))
  ·have:=hst hs;rw[hs']at this;simp at this
 ·rw[hnext,hnext,hnext,hnext]
def qY (P:Program) [Tables P] (ops:Array Oper) (base:Nat) (l:List (Nat×Oper)) (K:AS→Prop) (s:AS):Prop:=match l with
 | []=>K s
 | (i,o)::rest=>B5 P ops i (base+i) o (qY P ops base rest K) s
theorem sT {i:Nat} (h:bar ops i=true):late ops i=true:=by
 unfold bar at h;simp only[Bool.and_eq_true]at h;exact h.1
theorem front {base:Nat} {K:AS→Prop} {i:Nat} {oi:Oper}: ∀ (pre post:List (Nat×Oper)) (M:Nat→Prop) (g:Where) (s:AS) (a:Act) (w:World),
  (∀ p ∈ pre,uQ ops p.2 oi=true∧p.1≠i∧ ∀ d,p.2.dst=some d→d < N)→(∀ p ∈ pre,late ops p.1=false)→(pre≠[]→bar ops i=false)→(∀ p ∈ pre, ¬ M (base+p.1))→ ¬ M (base+i)→(pre.map Prod.fst).Nodup→
  br W N w0 M g s a w→qY P ops base (pre++(i,oi)::post) K s→B5 P ops i (base+i) oi (qY P ops base (pre++post) K) s
 | [],post,M,g,s,a,w,_,_,_,_,_,_,_,h=>h
 | (j,oj)::pre,post,M,g,s,a,w,hap,G5,VM,hfresh,hi,hnd,bh,h=>by
  have hjl:late ops j=false:=G5 (j,oj) (by simp)
  have Vb:bar ops i=false:=VM (by simp)
  rcases h with ⟨ej,P4,lz⟩ | ⟨hl,_⟩ | ⟨hb,_⟩
  ·have hj:=hap (j,oj) (by simp)
   have S7: ¬ M (base+j):=hfresh (j,oj) (by simp)
   obtain ⟨g',a',w',cM⟩:=Lj (nm:=base+j) bh S7 hj.2.2 P4
   simp only[List.map_cons,List.nodup_cons]at hnd
   have ih:=front pre post (fun n=>M n∨n=base+j) g' _ a' w' (fun p hp=>hap p (by simp[hp])) (fun p hp=>G5 p (by simp[hp])) (fun _=>Vb)
    (fun p hp hM=>by
     rcases hM with hM | hM
     ·exact hfresh p (by simp[hp]) hM
     ·have:p.1=j:=by omega
      exact hnd.1 (this▸List.mem_map_of_mem hp))
    (fun hM=>by rcases hM with hM | hM;exact hi hM;exact hj.2.1 (by omega)) hnd.2 cM lz
   obtain ⟨a1,a2,a3,a4,a5⟩:=Cg hj.1
   have a6:bV oi.op=true→bV oj.op=false∧gK oj.op=false:=fun hs=>by
    refine ⟨?_,a5 hs⟩
    cases hsj:bV oj.op with
    | false=>rfl
    | true=>have:=(a4 hsj).1;rw[hs]at this;simp at this
   have mj:yw M oj ej:=Ce P4 bh.names
   rcases ih with ⟨ei,Yr,hk⟩ | ⟨hl,D,hD,hk⟩ | ⟨hb,_⟩
   ·have S8:Does P ops (base+i) oi s ei:=(oI (ey:=ei) (n2:=base+i) a1 a4 bh.names S7 mj).2.1 Yr
    have mi:yw M oi ei:=Ce S8 bh.names
    have Rj:Does P ops (base+j) oj (app (base+i) oi ei s) ej:=(oI (ey:=ej) (n2:=base+j) a3 a6 bh.names hi mi).1 P4
    refine .inl ⟨ei,S8, .inl ⟨ej,Rj, ?_⟩⟩
    rw[← Ch (n1:=base+j) (n2:=base+i) (x:=oj) (y:=oi) a2 (fun e=>hj.2.1 (by omega)) S7 hi (fun hs=>(a4 hs).1) mj mi]
    exact hk
   ·have Xf:lW P ops (base+i) oi s D:=(oI (ey:=ej) (n2:=base+i) a1 a4 bh.names S7 mj).2.2 D hD
    refine .inr (.inl ⟨hl,D,Xf,fun ei Xg=> ?_⟩)
    have mi:yw M oi ei:= .inl (JA Xf Xg)
    have Rj:Does P ops (base+j) oj (app (base+i) oi ei s) ej:=(oI (ey:=ej) (n2:=base+j) a3 a6 bh.names hi mi).1 P4
    refine .inl ⟨ej,Rj, ?_⟩
    rw[← Ch (n1:=base+j) (n2:=base+i) (x:=oj) (y:=oi) a2 (fun e=>hj.2.1 (by omega)) S7 hi (fun hs=>(a4 hs).1) mj mi]
    exact hk ei Xg
   ·rw[Vb]at hb;cases hb
  ·rw[hjl]at hl;cases hl
  ·have:=sT hb
   rw[hjl]at this;cases this
def df (listed:Array Bool) (l:List Oper) (k:Nat):List (Nat×Oper):=match l with
 | []=>[]
 | o::r=>if listed.getD k true=true then df listed r (k+1) else (k,o)::df listed r (k+1)
theorem uW {n:Nat}: ∀ (l:List Oper) (k:Nat),k+l.length≤n→ ∀ {base:Nat} {K:AS→Prop} {s:AS},gY P ops base l k K s→
  qY P ops base (df (Array.replicate n false) l k) (fun s=>K { s with next:=base+(k+l.length) }) s
 | [],k,_,base,K,s,h=>h
 | o::r,k,hk,base,K,s,h=>by
  simp only[List.length_cons]at hk
  have:(Array.replicate n false).getD k true=false:=by
   simp[Array.getD_eq_getD_getElem?,show k < n by omega]
  simp only[df,this,Bool.false_eq_true,if_false,qY]
  have step: ∀ s',gY P ops base r (k+1) K s'→qY P ops base (df (Array.replicate n false) r (k+1)) (fun s=>K { s with next:=base+(k+(r.length+1)) }) s':=fun s' hr=>by
   have:=uW (n:=n) r (k+1) (by omega) hr
   simpa only[List.length_cons,Nat.add_assoc,Nat.add_comm 1] using this
  rcases h with ⟨e,hd,hr⟩ | ⟨hl,D,hD,hr⟩ | ⟨hb,hr⟩
  ·exact .inl ⟨e,hd,step _ hr⟩
  ·exact .inr (.inl ⟨hl,D,hD,fun e he=>step _ (hr e he)⟩)
  ·exact .inr (.inr ⟨hb,rP step hr⟩)
theorem gQ {listed:Array Bool}: ∀ (l:List Oper) (k:Nat) (p:Nat×Oper),p ∈ df listed l k→k≤p.1∧listed.getD p.1 true=false∧l[p.1 - k]? =some p.2
 | [],_,_,h=>by simp[df]at h
 | o::r,k,p,h=>by
  unfold df at h
  have rest:p ∈ df listed r (k+1)→k≤p.1∧listed.getD p.1 true=false∧(o::r)[p.1 - k]? =some p.2:=fun h=>by
   obtain ⟨h1,h2,h3⟩:=gQ r (k+1) p h
   refine ⟨by omega,h2, ?_⟩
   rw[show p.1 - k=(p.1 - (k+1))+1 by omega]
   simpa using h3
  split at h
  ·exact rest h
  ·rename_i hl
   rcases List.mem_cons.1 h with rfl | h
   ·exact ⟨Nat.le_refl _,by simpa using hl,by simp⟩
   ·exact rest h
theorem yx {listed:Array Bool} {i:Nat}: ∀ (l:List Oper) (k:Nat),i < k→df (listed.setIfInBounds i true) l k=df listed l k
 | [],_,_=>rfl
 | o::r,k,h=>by
  have:(listed.setIfInBounds i true).getD k true=listed.getD k true:=by
   simp[Array.getD_eq_getD_getElem?,Array.getElem?_setIfInBounds_ne (show i≠k by omega)]
  simp only[df,this,yx (listed:=listed) (i:=i) r (k+1) (by omega)]
theorem mF {listed:Array Bool} {i:Nat} {o:Oper} (hi:listed.getD i true=false): ∀ (l:List Oper) (k:Nat),k≤i→l[i - k]? =some o→
  ∃ pre post,df listed l k=pre++(i,o)::post∧df (listed.setIfInBounds i true) l k=pre++post∧(∀ p ∈ pre,p.1 < i)∧(pre.map Prod.fst).Nodup∧(∀ p ∈ pre,p ∈ df listed l k)
 | [],_,_,h=>by simp at h
 | x::r,k,hk,h=>by
  by_cases e:i=k
  ·subst e
   simp only[Nat.sub_self,List.getElem?_cons_zero,Option.some.injEq]at h;subst h
   have hsz:i < listed.size:=by
    rcases Nat.lt_or_ge i listed.size with h | h
    ·exact h
    ·simp[Array.getD_eq_getD_getElem?,Array.getElem?_eq_none h]at hi
   refine ⟨[],df listed r (i+1), ?_, ?_,by simp,by simp,by simp⟩
   ·simp only[df,hi,Bool.false_eq_true,if_false,List.nil_append]
   ·have:(listed.setIfInBounds i true).getD i true=true:=by
     simp[Array.getD_eq_getD_getElem?,Array.getElem?_setIfInBounds_self_of_lt hsz]
    simp only[df,this,if_true,List.nil_append]
    exact yx r (i+1) (by omega)
  ·have hk':k+1≤i:=by omega
   have h':r[i - (k+1)]? =some o:=by
    rw[show i - k=(i - (k+1))+1 by omega]at h
    simpa using h
   obtain ⟨pre,post,h1,h2,h3,h4,h5⟩:=mF hi r (k+1) hk' h'
   have hne:(listed.setIfInBounds i true).getD k true=listed.getD k true:=by
    simp[Array.getD_eq_getD_getElem?,Array.getElem?_setIfInBounds_ne e]
   by_cases hl:listed.getD k true=true
   ·refine ⟨pre,post, ?_, ?_,h3,h4, ?_⟩
    ·simp only[df,hl,if_true,h1]
    ·simp only[df,hne,hl,if_true,h2]
    ·simpa only[df,hl,if_true] using h5
   ·refine ⟨(k,x)::pre,post, ?_, ?_, ?_, ?_, ?_⟩
    ·simp only[df,hl,Bool.false_eq_true,if_false,h1,List.cons_append]
    ·simp only[df,hne,hl,Bool.false_eq_true,if_false,h2,List.cons_append]
    ·intro p hp
     rcases List.mem_cons.1 hp with rfl | hp
     ·exact hk'
     ·exact h3 p hp
    ·simp only[List.map_cons,List.nodup_cons]
     refine ⟨fun hm=> ?_,h4⟩
     obtain ⟨p,hp,he⟩:=List.mem_map.1 hm
     have:=(gQ r (k+1) p (h5 p hp)).1
     omega
    ·intro p hp
     simp only[df,hl,Bool.false_eq_true,if_false]
     rcases List.mem_cons.1 hp with rfl | hp
     ·simp
     ·exact List.mem_cons_of_mem _ (h5 p hp)
theorem oJ {listed:Array Bool} {i:Nat} {o:Oper} {rest:List (Nat×Oper)}: ∀ (l:List Oper) (k:Nat),df listed l k=(i,o)::rest→ ∀ j,k≤j→j < i→listed.getD j true=true
 | [],_,h=>by simp[df]at h
 | x::r,k,h=>by
  intro j hj hlt
  unfold df at h
  split at h
  ·rename_i hl
   by_cases e:j=k
   ·rw[e];exact hl
   ·exact oJ r (k+1) h j (by omega) hlt
  ·simp only[List.cons.injEq,Prod.mk.injEq]at h
   omega
theorem mG {listed:Array Bool} {n j:Nat} (hs:listed.size=n) (hj:j < n) (h:listed.getD j true=true):listed.getD j false=true:=by
 simp only[Array.getD_eq_getD_getElem?]at h ⊢
 rw[Array.getElem?_eq_getElem (by omega)]at h ⊢
 simpa using h
theorem fN {listed:Array Bool} (ic: ∀ (i:Nat) o,ops[i]? =some o→listed.getD i false=true→ ∀ e ∈ o.after,Region.binds .any e=true→listed.getD e.on false=true):
  ∀ (fuel i j:Nat) o,ops[i]? =some o→(∀ e ∈ o.after,Region.binds .any e=true→listed.getD e.on false=true)→waits ops fuel i j=true→listed.getD j false=true
 | 0,_,_,_,_,_,h=>by simp[waits]at h
 | fuel+1,i,j,o,ho,he,h=>by
  simp only[waits,ho,List.any_eq_true,Bool.and_eq_true,Bool.or_eq_true,beq_iff_eq]at h
  obtain ⟨e,hmem,hb,h⟩:=h
  have hl:=he e (by simpa using hmem) hb
  rcases h with h | h
  ·rw[← h];exact hl
  ·cases fuel with
   | zero=>simp[waits]at h
   | succ f=>
    cases ho':ops[e.on]? with
    | none=>simp[waits,ho']at h
    | some o'=>exact fN ic (f+1) e.on j o' ho' (ic e.on o' ho' hl) h
theorem OA {base:Nat} {K:AS→Prop} {Q:Exit→Act→World→Prop} (Rk:AA ops=true) (hok:ops.toList.all (lO N)=true)
  (hK: ∀ g' s' a' w',br W N w0 (fun n=>n < base+ops.size) g' s' a' w'→K s'→Q .normal a' w'):
  ∀ (fuel:Nat) (listed:Array Bool) (g:Where) (s:AS) (a:Act) (w:World),listed.size=ops.size→(df listed ops.toList 0).length=fuel→
   (∀ (i:Nat) o,ops[i]? =some o→listed.getD i false=true→ ∀ e ∈ o.after,Region.binds .any e=true→listed.getD e.on false=true)→
   br W N w0 (fun n=>n < base∨ ∃ i,i < ops.size∧listed.getD i false=true∧n=base+i) g s a w→qY P ops base (df listed ops.toList 0) K s→wpAny P .any ops Q fuel listed a w:=by
 have hM: ∀ listed:Array Bool, ∀ n,(n < base∨ ∃ i,i < ops.size∧listed.getD i false=true∧n=base+i)→n < base+ops.size:=by
  intro listed n hn
  rcases hn with hn | ⟨i,hi,_,rfl⟩<;>omega
 have P5: ∀ (i:Nat) o,ops[i]? =some o→(∀ e ∈ o.after,Region.binds .any e=true→e.on < i)∧ ∀ j,j < i→ ∀ p,ops[j]? =some p→uQ ops p o=true∨waits ops ops.size i j=true:=by
  intro i o ho
  have hlt:i < ops.size:=(Array.getElem?_eq_some_iff.1 ho).1
  have:=List.all_eq_true.1 Rk i (List.mem_range.2 hlt)
  simp only[ho,Bool.and_eq_true,List.all_eq_true,Bool.or_eq_true,Bool.not_eq_true',decide_eq_true_eq,List.mem_range]at this
  refine ⟨fun e he hb=> ?_,fun j hj p hp=> ?_⟩
  ·rcases this.1 e (by simpa using he) with h | h
   ·rw[hb]at h;simp at h
   ·exact h
  ·have:=this.2 j hj
   simp only[hp,Bool.or_eq_true]at this
   exact this
 have Fx: ∀ listed:Array Bool,listed.size=ops.size→Region.ready .any ops listed=[]→df listed ops.toList 0=[]:=by
  intro listed hs hr
  cases mH:df listed ops.toList 0 with
  | nil=>rfl
  | cons p rest=>
   obtain ⟨i,o⟩:=p
   obtain ⟨_,h2,h3⟩:=gQ ops.toList 0 (i,o) (by rw[mH];simp)
   have ho:ops[i]? =some o:=by simpa using h3
   have hlt:i < ops.size:=(Array.getElem?_eq_some_iff.1 ho).1
   have:i ∈ Region.ready .any ops listed:=mem_ready.2 ⟨h2,o,ho,fun e he hb=>by
    have hlt':=(P5 i o ho).1 e he hb
    exact mG hs (by omega) (oJ ops.toList 0 mH e.on (Nat.zero_le _) hlt')⟩
   rw[hr]at this;cases this
 intro fuel
 induction fuel with
 | zero=>
  intro listed g s a w hs hf ic bh hv
  have Lk:df listed ops.toList 0=[]:=List.length_eq_zero_iff.1 hf
  rw[Lk]at hv
  refine ⟨?_,hK g s a w (bh.mono (hM listed)) hv⟩
  cases hr:Region.ready .any ops listed with
  | nil=>rfl
  | cons i r=>
   exfalso
   have hi:i ∈ Region.ready .any ops listed:=by rw[hr];simp
   obtain ⟨h1,o,ho,_⟩:=mem_ready.1 hi
   obtain ⟨pre,post,h,_⟩:=mF h1 ops.toList 0 (Nat.zero_le _) (o:=o) (by simpa using ho)
   rw[Lk]at h;simp at h
 | succ fuel ih=>
  intro listed g s a w hs hf ic bh hv
  refine ⟨fun hr=> ?_,fun i hi=> ?_⟩
  ·rw[Fx listed hs hr]at hf;simp at hf
  ·obtain ⟨h1,o,ho,qZ⟩:=mem_ready.1 hi
   have hlt:i < ops.size:=(Array.getElem?_eq_some_iff.1 ho).1
   obtain ⟨pre,post,mH,P6,hpre,hnd,hmem⟩:=mF h1 ops.toList 0 (Nat.zero_le _) (o:=o) (by simpa using ho)
   have Ci: ∀ (j:Nat) p,ops[j]? =some p→ ∀ d,p.dst=some d→d < N:=fun j p hp d hd=>by
    have:=List.all_eq_true.1 hok p (by simpa using Array.mem_of_getElem? hp)
    unfold lO at this;rw[hd]at this;simpa using this
   have hfresh: ∀ j,listed.getD j true=false→ ¬ (base+j < base∨ ∃ i,i < ops.size∧listed.getD i false=true∧base+j=base+i):=by
    intro j hj hx
    rcases hx with hx | ⟨k,hk,Xh,he⟩
    ·omega
    ·have:k=j:=by omega
     subst this
     have hlt:k < listed.size:=by omega
     simp only[Array.getD_eq_getD_getElem?,Array.getElem?_eq_getElem hlt,Option.getD_some]at hj Xh
     rw[Xh]at hj;simp at hj
   rw[mH]at hv
   have Rl: ∀ j,listed.getD j true=false→listed.getD j false=true→False:=fun j h1 h2=>by
    by_cases hlt:j < listed.size
    ·simp only[Array.getD_eq_getD_getElem?,Array.getElem?_eq_getElem hlt,Option.getD_some]at h1 h2
     rw[h2]at h1;cases h1
    ·simp only[Array.getD_eq_getD_getElem?,Array.getElem?_eq_none (Nat.le_of_not_lt hlt),Option.getD_none]at h1
     cases h1
   have VN: ∀ j,listed.getD j true=false→waits ops ops.size i j=true→False:=fun j hj hw=>Rl j hj (fN ic ops.size i j o ho qZ hw)
   have hlt': ∀ {k j:Nat},late ops k=true→j < ops.size→k < j→waits ops ops.size j k=true:=fun hl hj Z4=>by
    have:=List.all_eq_true.1 hl _ (List.mem_range.2 hj)
    simp only[Bool.or_eq_true,decide_eq_true_eq]at this
    rcases this with h | h
    ·omega
    ·exact h
   have qO: ∀ j,bar ops i=true→j < i→waits ops ops.size i j=true:=fun j hb hj=>by
    unfold bar at hb
    simp only[Bool.and_eq_true]at hb
    exact List.all_eq_true.1 hb.2 _ (List.mem_range.2 hj)
   have Rm:=front (N:=N) (W:=W) (w0:=w0) pre post _ g s a w (fun p hp=>by
     obtain ⟨_,p2,p3⟩:=gQ ops.toList 0 p (hmem p hp)
     have hop:ops[p.1]? =some p.2:=by simpa using p3
     refine ⟨?_,Nat.ne_of_lt (hpre p hp),Ci _ _ hop⟩
     rcases (P5 i o ho).2 p.1 (hpre p hp) p.2 hop with h | h
     ·exact h
     ·exact (VN p.1 p2 h).elim)
    (fun p hp=>by
     cases hl:late ops p.1 with
     | false=>rfl
     | true=>exact (VN p.1 (gQ ops.toList 0 p (hmem p hp)).2.1 (hlt' hl hlt (hpre p hp))).elim)
    (fun hne=>by
     cases hb:bar ops i with
     | false=>rfl
     | true=>
      obtain ⟨p,hp⟩:=List.exists_mem_of_ne_nil pre hne
      exact (VN p.1 (gQ ops.toList 0 p (hmem p hp)).2.1 (qO p.1 hb (hpre p hp))).elim)
    (fun p hp=>hfresh p.1 (gQ ops.toList 0 p (hmem p hp)).2.1) (hfresh i h1) hnd bh hv
   have Fy: ∀ j,(listed.setIfInBounds i true).getD j false=true↔j=i∨listed.getD j false=true:=by
    intro j
    by_cases e:i=j
    ·subst e
     simp[Array.getD_eq_getD_getElem?,Array.getElem?_setIfInBounds_self_of_lt (show i < listed.size by omega)]
    ·simp only[Array.getD_eq_getD_getElem?,Array.getElem?_setIfInBounds_ne e]
     constructor
     ·exact Or.inr
     ·rintro (h | h)
      ·exact absurd h.symm e
      ·exact h
   have nz: ∀ (g':Where) (s':AS) (a':Act) (w':World),br W N w0 (fun n=>(n < base∨ ∃ i,i < ops.size∧listed.getD i false=true∧n=base+i)∨n=base+i) g' s' a' w'→
     qY P ops base (pre++post) K s'→wpAny P .any ops Q fuel (listed.setIfInBounds i true) a' w':=fun g' s' a' w' cM hk=>by
    refine ih (listed.setIfInBounds i true) g' s' a' w' (by simpa using hs) ?_ ?_ (cM.mono fun n hn=> ?_) (by rw[P6];exact hk)
    ·rw[P6];rw[mH]at hf;simp at hf ⊢;omega
    ·intro j p hp hj ed K1 hb
     rw[Fy]at hj ⊢
     rcases hj with rfl | hj
     ·rw[ho]at hp;simp only[Option.some.injEq]at hp;subst hp
      exact Or.inr (qZ ed K1 hb)
     ·exact Or.inr (ic j p hp hj ed K1 hb)
    ·rcases hn with (hn | ⟨j,hj,SB,rfl⟩) | rfl
     ·exact Or.inl hn
     ·exact Or.inr ⟨j,hj,(Fy j).2 (Or.inr SB),rfl⟩
     ·exact Or.inr ⟨i,hlt,(Fy i).2 (Or.inl rfl),rfl⟩
   rcases Rm with ⟨e,hd,hk⟩ | ⟨_,D,hd,hk⟩ | ⟨hb,hk⟩
   ·exact Oy ho bh (hfresh i h1) (Ci i o ho) hd (fun g' a' w' cM=>nz g' _ a' w' cM hk)
   ·exact Li ho bh (hfresh i h1) (Ci i o ho) hd (fun e g' a' w' he cM=>nz g' _ a' w' cM (hk e he))
   ·have Rn: ∀ j,j < ops.size→listed.getD j false=true→j < i:=fun j hj SB=>by
     rcases Nat.lt_trichotomy j i with h | h | h
     ·exact h
     ·subst h;exact (Rl j h1 SB).elim
     ·exfalso
      cases P7:ops[j]? with
      | none=>rw[Array.getElem?_eq_none_iff]at P7;omega
      | some oj=>exact Rl i h1 (fN ic ops.size j i oj P7 (ic j oj P7 SB) (hlt' (sT hb) hj h))
    have S9:br W N w0 (fun n=>n < base+i) g s a w:=bh.mono fun n hn=>by
     rcases hn with hn | ⟨j,hj,SB,rfl⟩
     ·omega
     ·have:=Rn j hj SB;omega
    have Ys: ∀ n,n < base+i+1→((n < base∨ ∃ i,i < ops.size∧listed.getD i false=true∧n=base+i)∨n=base+i):=fun n hn=>by
     rcases Nat.lt_or_ge n base with h | h
     ·exact .inl (.inl h)
     ·rcases Nat.lt_or_ge (n - base) i with h2 | h2
      ·exact .inl (.inr ⟨n - base,by omega,fN ic ops.size i (n - base) o ho qZ (qO _ hb h2),by omega⟩)
      ·exact .inr (by omega)
    have hrun:bK P (base+i) o (qY P ops base (pre++post) K) s→o.wp P a w (fun a' w'=>wpAny P .any ops Q fuel (listed.setIfInBounds i true) a' w') Q:=fun hr=>
     kt S9 (Ci i o ho) hr (fun g' s' a' w' h' hk'=>nz g' s' a' w' (h'.mono fun n hn=>Ys n hn) hk')
    unfold wpOp
    simp only[ho]
    unfold tZ at hk
    cases hg:o.guard with
    | none=>
     rw[hg]at hk
     rw[if_pos (by simp[Region.wanted,hg])]
     exact .inl (hrun hk)
    | some q=>
     obtain ⟨j,want⟩:=q
     rw[hg]at hk
     simp only[fL]at hk
     split at hk
     ·rename_i b Yt
      have hy:=iz bh hg Yt
      by_cases OB:b=want
      ·rw[if_pos (by rw[hy];simp[OB])]
       exact .inl (hrun (hk.1 OB))
      ·rw[if_neg (by rw[hy];simp[OB])]
       exact nz _ _ _ _ ((bh.mono (fun n hn=>Or.inl hn)).put (Ci i o ho) (v:=V undef) trivial) (hk.2 OB)
     ·exact hk.elim
theorem uX {base:Nat} {K:AS→Prop} {Q:Exit→Act→World→Prop} (hK: ∀ g' s' a' w',br W N w0 (fun n=>n < s'.next) g' s' a' w'→K s'→Q .normal a' w')
  (Rk:AA ops=true) (hok:ops.toList.all (lO N)=true) (h:br W N w0 (fun n=>n < base) g s a w) (hv:gY P ops base ops.toList 0 K s):
  wpAny P .any ops Q ops.size (Array.replicate ops.size false) a w:=by
 have hlen: ∀ (l:List Oper) (k n:Nat),k+l.length≤n→(df (Array.replicate n false) l k).length=l.length:=by
  intro l
  induction l with
  | nil=>intro k n _;rfl
  | cons o r ih=>
   intro k n hk
   simp only[List.length_cons]at hk
   have:(Array.replicate n false).getD k true=false:=by
    simp[Array.getD_eq_getD_getElem?,show k < n by omega]
   simp only[df,this,Bool.false_eq_true,if_false,List.length_cons]
   rw[ih (k+1) n (by omega)]
 refine OA (base:=base) (K:=fun s=>K { s with next:=base+(0+ops.toList.length) }) Rk hok (fun g' s' a' w' h' hk=>hK g' _ a' w' ((h'.next _).mono fun n hn=>by simpa using hn) hk) ops.size _ g s a w (by simp) ?_ ?_ (h.mono fun n hn=>Or.inl hn) (uW ops.toList 0 (by simp) hv)
 ·rw[hlen _ _ _ (by simp)];simp
 ·intro i o _ hi
  simp[Array.getD_eq_getD_getElem?,Array.getElem?_replicate]at hi
  by_cases hlt:i < ops.size<;>simp[hlt]at hi
end
end Go.bM
