/-
  The calculus: the rules by which a proof's simp reckons a state, each fired by what has been reckoned already. Nothing here speaks of a program.
-/
import Derived.Test.YtbipdofobgabhaaGreatDoorVcgH
set_option linter.unusedVariables false
set_option linter.unusedSimpArgs false
namespace Go.bA
set_option linter.unusedSectionVars false
section
variable {P:Program} [Tables P] {K:AS→Prop} {F:Exit→AS→Prop} {s:AS} {e:Nat→Option AV} {b:Nat→Option aI} {n nm:Nat} {dst:Option Tmp} {ty:TypeId} {pos:String} {after:Array Edge} {gd:Option (Nat×Bool)}
def Xz (v:Option AV):Option (Option Int):=match v with
 | some (.inl (.inl (.inl (.int _ j))))=>some (some j)
 | _=>none
def iaT (m o:Nat) (j:Int) (t:Option (Nat×Nat)):Option cS:=match t with
 | some (l,z)=>if 0≤j∧j < l then some (some (V (.pointer (some ⟨m,o+j.toNat*z,none⟩))),none) else none
 | none=>none
def ZU (b o c:Nat) (h:Int):Option cS:=if 0≤h∧h≤c then some (some (Sl b o h.toNat c),none) else none
theorem EE {b o c z:Nat} {h:Int}:Ps b o c z 0 h=ZU b o c h:=by
 unfold Ps ZU
 simp
def ZV (nm len:Nat) (l:Option (List SV)):Option cS:=match l with
 | some l=>some (some (Sl nm 0 len len),some (.inl l))
 | none=>none
def fsP (z:Nat) (s:AS) (cs:List SV) (j:Nat) (rest:List (Nat×Operand)) (new:Option (List SV)):Option (List SV):=match new with
 | some new=>if new.length=z∧j*z+z≤cs.length then eW z s (splice cs (j*z) new) rest else none
 | none=>none
theorem qY {k:IntKind} {n:Nat}:iW [Value.int k 0] n=ah k n fun _=>0:=by
 unfold iW ah
 apply List.map_congr_left
 intro i _
 simp[Nat.mod_one]
theorem ae {α:Type} (f:Nat→α) (d x:Nat) (v:α):upd f d v x=if x=d then v else f x:=rfl
theorem start_eq (l:List AV):start l b n=⟨fun d=>l[d]?, b,n⟩:=rfl
theorem K2:vc P .skip F s=F .normal s:=rfl
theorem Ar {id:Nat} {ops:Array Oper}:vc P (.region id ops false) F ⟨e,b,n⟩=lV P ops n ops.toList 0 (F .normal) ⟨e,b,n⟩:=rfl
theorem P9 {x y:Code}:vc P (.seq x y) F s=vc P x (gE (vc P y F) F) s:=rfl
theorem K3 {c:Operand} {x y:Code}:vc P (.cond c x y) F s=ni (s.aL c) (vc P x F) (vc P y F) s:=rfl
theorem EF {id:Nat} {c:Code}:vc P (.block id c) F s=vc P c (iD id F) s:=rfl
theorem K5 {c:Code}:vc P (.loop c) F s=kZ (vc P c) F s:=rfl
theorem K6 {id:Nat}:vc P (.exit id) F s=F (.exit id) s:=rfl
theorem Qa:vc P .ret F s=F .ret s:=rfl
theorem vG {K:AS→Prop}:gE K F .normal s=K s:=rfl
theorem Au {K:AS→Prop} {id:Nat}:gE K F (.exit id) s=F (.exit id) s:=rfl
theorem EG {K:AS→Prop}:gE K F .ret s=F .ret s:=rfl
theorem vH {id id':Nat}:iD id F (.exit id') s=if id'=id then F .normal s else F (.exit id') s:=rfl
theorem qv {id:Nat}:iD id F .normal s=F .normal s:=rfl
theorem xH {id:Nat}:iD id F .ret s=F .ret s:=rfl
theorem EH {rs:List ResultVar} {Post:AV→AS→Prop}:mL P rs Post .ret s=wM (kC (g8 P s rs)) Post s:=rfl
theorem vI {rs:List ResultVar} {Post:AV→AS→Prop}:mL P rs Post .normal s=wM (kC (g8 P s rs)) Post s:=rfl
theorem xI:g8 P s []=some []:=rfl
theorem vJ {r:ResultVar} {rs:List ResultVar}:g8 P s (r::rs)=KZ (uC P s r) (g8 P s rs):=by
 unfold KZ;rfl
theorem xJ {t:Nat}:uC P ⟨e,b,n⟩ (.tmp t)=Xo (e t):=rfl
theorem vK {t ty:Nat}:uC P ⟨e,b,n⟩ (.cell t ty)=ZN (dH P ⟨e,b,n⟩ ty (e t)):=rfl
theorem Av {c:CV}:Xo (some (.inl c))=some c:=rfl
theorem Aw {c:CV} {m:Mem}:ZN (some (some (.inl c),m))=some c:=rfl
theorem xK {c:CV} {l:List CV}:KZ (some c) (some l)=some (c::l):=rfl
theorem Ax {c:CV}:kC (some [c])=some (.inl c):=rfl
theorem Ay {c d:CV} {l:List CV}:kC (some (c::d::l))=some (.inr (c::d::l)):=rfl
theorem xL:kC (some [])=some (.inr []):=rfl
theorem Az {v:AV} {Post:AV→AS→Prop}:wM (some v) Post s=Post v s:=rfl
variable {ops:Array Oper} {base i:Nat} {rest:List Oper} {op:Op}
theorem K7:lV P ops base [] i K ⟨e,b,n⟩=K ⟨e,b,base+i⟩:=rfl
theorem EI:lV P ops base (⟨dst,op,ty,pos,after,none⟩::rest) i K s=bM P (base+i) ⟨dst,op,ty,pos,after,none⟩ (lV P ops base rest (i+1) K) s:=rfl
theorem AB {j:Nat} {want:Bool}:lV P ops base (⟨dst,op,ty,pos,after,some (j,want)⟩::rest) i K s=
  CG P (oS (eC ops s j) want) want (base+i) ⟨dst,op,ty,pos,after,some (j,want)⟩ (lV P ops base rest (i+1) K) s:=rfl
variable {o:Oper}
theorem ZW:CG P (some (B true)) true nm o K s=bM P nm o K s:=by simp[CG,eY]
theorem ZX:CG P (some (B false)) false nm o K s=bM P nm o K s:=by simp[CG,eY]
theorem ZY:CG P (some (B true)) false nm ⟨dst,op,ty,pos,after,gd⟩ K s=K (s.put dst (some (V undef))):=by simp[CG,eY]
theorem ZZ:CG P (some (B false)) true nm ⟨dst,op,ty,pos,after,gd⟩ K s=K (s.put dst (some (V undef))):=by simp[CG,eY]
theorem V4:qq P ops i (some (B true)) true nm o K s=uu P ops i nm o K s:=by simp[qq,eY]
theorem V5:qq P ops i (some (B false)) false nm o K s=uu P ops i nm o K s:=by simp[qq,eY]
theorem V6:qq P ops i (some (B true)) false nm ⟨dst,op,ty,pos,after,gd⟩ K s=K (s.put dst (some (V undef))):=by simp[qq,eY]
theorem V7:qq P ops i (some (B false)) true nm ⟨dst,op,ty,pos,after,gd⟩ K s=K (s.put dst (some (V undef))):=by simp[qq,eY]
theorem Z0 {want x:Bool}:oS (some (B x)) want=some (B x):=rfl
theorem V8:oS (some (V undef)) true=some (B false):=rfl
theorem V9:oS (some (V undef)) false=some (B true):=rfl
theorem run_move {x:Operand}:bM P nm ⟨dst, .move x,ty,pos,after,gd⟩ K s=np (s.aL x) dst K s:=by
 simp only[bM,dT,np];cases s.aL x<;>rfl
theorem run_assign {x:Operand}:bM P nm ⟨dst, .assign x,ty,pos,after,gd⟩ K s=np (s.aL x) dst K s:=by
 simp only[bM,dT,np];cases s.aL x<;>rfl
theorem AE {t:Nat}:bM P nm ⟨dst, .alloc t,ty,pos,after,gd⟩ K s=bD (iV P nm t) nm dst K s:=rfl
theorem K8 {t:Nat} {x:Operand}:bM P nm ⟨dst, .box t x,ty,pos,after,gd⟩ K s=bD (qO nm (s.aL x)) nm dst K s:=rfl
theorem run_build {t:Nat} {l:List (Nat×Operand)}:bM P nm ⟨dst, .build t l.toArray,ty,pos,after,gd⟩ K s=bD (fF P t s l) nm dst K s:=rfl
theorem run_load {t:Nat} {x:Operand}:bM P nm ⟨dst, .load t x,ty,pos,after,gd⟩ K s=bD (dH P s t (s.aL x)) nm dst K s:=rfl
theorem run_store {t:Nat} {x y:Operand}:bM P nm ⟨dst, .store t x y,ty,pos,after,gd⟩ K s=bD (eT P s t (s.aL x) (s.aL y)) nm dst K s:=rfl
theorem AF {o:BinOp} {t u:Nat} {x y:Operand}:bM P nm ⟨dst, .binOp o t x y u,ty,pos,after,gd⟩ K s=bD (sY P o t y (s.aL x) (s.aL y)) nm dst K s:=rfl
theorem EJ {xs:List Operand} {tys:List TypeId}:bM P nm ⟨dst, .call ⟨.builtin .len,xs.toArray,tys.toArray⟩,ty,pos,after,gd⟩ K s=bD (eJ (qP P tys) (bk s xs)) nm dst K s:=rfl
theorem EK {o:UnOp} {t:Nat} {x:Operand}:bM P nm ⟨dst, .unOp o t x,ty,pos,after,gd⟩ K s=bD (oO o (s.aL x)) nm dst K s:=rfl
theorem vM {t u:Nat} {x:Operand}:bM P nm ⟨dst, .convert t u x,ty,pos,after,gd⟩ K s=bD (gI P s t u (s.aL x)) nm dst K s:=rfl
theorem qw {t f:Nat} {x:Operand}:bM P nm ⟨dst, .fieldAddr t x f,ty,pos,after,gd⟩ K s=bD (dI P t f (s.aL x)) nm dst K s:=rfl
theorem AG {t:Nat} {x:Operand}:bM P nm ⟨dst, .sliceToArrayPointer t x,ty,pos,after,gd⟩ K s=bD (kd (fZ P t) (s.aL x)) nm dst K s:=rfl
theorem qx {t:Nat} {x y:Operand}:bM P nm ⟨dst, .indexAddr t x y,ty,pos,after,gd⟩ K s=bD (cn P t (s.aL x) (s.aL y)) nm dst K s:=rfl
theorem AH {t:Nat} {x y:Operand}:bM P nm ⟨dst, .index t x y,ty,pos,after,gd⟩ K s=bD (ig P t (s.aL x) (s.aL y)) nm dst K s:=rfl
theorem vN {x:Operand} {k:Nat}:bM P nm ⟨dst, .extract x k,ty,pos,after,gd⟩ K s=bD (fu (s.aL x) k) nm dst K s:=rfl
theorem EL {x y z:Operand}:bM P nm ⟨dst, .pick x y z,ty,pos,after,gd⟩ K s=bD (nf (s.aL x) (s.aL y) (s.aL z)) nm dst K s:=rfl
theorem AJ {x y:Option AV}:nf (some (B true)) x y=Ae x:=rfl
theorem xM {x y:Option AV}:nf (some (B false)) x y=Ae y:=rfl
theorem xO {v:AV}:Ae (some v)=some (some v,none):=rfl
theorem AK {f:Nat} {xs:List Operand} {tys:Array TypeId}:bM P nm ⟨dst, .call ⟨.value (.func f),xs.toArray,tys⟩,ty,pos,after,gd⟩ K s=
  if au P f=true then aB P nm f (bk s xs) dst K s else ox P f (bk s xs) dst K s:=rfl
theorem xP {xs:List Operand} {tys:Array TypeId}:bM P nm ⟨dst, .call ⟨.builtin .append,xs.toArray,tys⟩,ty,pos,after,gd⟩ K s=
  bS P nm .append tys ty (xs.toArray.map isConst) (bk s xs) dst K s:=rfl
theorem EM {xs:List Operand} {tys:Array TypeId}:bM P nm ⟨dst, .call ⟨.builtin .copy,xs.toArray,tys⟩,ty,pos,after,gd⟩ K s=
  bS P nm .copy tys ty (xs.toArray.map isConst) (bk s xs) dst K s:=rfl
theorem EN:bk s []=some []:=rfl
theorem AL {x:Operand} {xs:List Operand}:bk s (x::xs)=VY (s.aL x) (bk s xs):=rfl
theorem xQ {v:AV} {l:List AV}:VY (some v) (some l)=some (v::l):=rfl
theorem EO {t:Nat}:AS.aL ⟨e,b,n⟩ (.tmp t)=e t:=rfl
theorem EP {k:IntKind} {x:Int}:AS.aL s (.const (.int k x))=some (I k x):=rfl
theorem AO {x:Bool}:AS.aL s (.const (.bool x))=some (B x):=rfl
theorem xR {a:Option Addr} {l c:Nat}:AS.aL s (.const (.slice a l c))=some (V (.slice a l c)):=rfl
theorem AP {v:AV}:np (some v) dst K s=K (s.put dst (some v)):=rfl
theorem K9 {v:Option AV}:bD (some (v,none)) nm dst K s=K (s.put dst v):=rfl
theorem La {v:Option AV} {cs:List SV}:bD (some (v,some (.inl cs))) nm dst K ⟨e,b,n⟩=K (AS.put ⟨e,upd b nm (some ⟨true,cs⟩),n⟩ dst v):=rfl
theorem Qb {v:Option AV} {t:Nat} {bx:aI}:bD (some (v,some (.inr (t,bx)))) nm dst K ⟨e,b,n⟩=K (AS.put ⟨e,upd b t (some bx),n⟩ dst v):=rfl
theorem ER {t:Nat} {v:Option AV}:AS.put ⟨e,b,n⟩ (some t) v=⟨upd e t v,b,n⟩:=rfl
theorem ES {v:Option AV}:AS.put s none v=s:=rfl
variable {k k':IntKind} {x y:Int}
theorem Lb:bQ .add (some (I k x)) (some (I k y))=some (some (I k (k.wrap (x+y))),none):=by simp[bQ,mg]
theorem Lc:bQ .sub (some (I k x)) (some (I k y))=some (some (I k (k.wrap (x - y))),none):=by simp[bQ,mg]
theorem Ld:bQ .mul (some (I k x)) (some (I k y))=some (some (I k (k.wrap (x*y))),none):=by simp[bQ,mg]
theorem Le:bQ .quo (some (I k x)) (some (I k y))=if y≠0 then some (some (I k (k.wrap (x.tdiv y))),none) else none:=by
 simp only[bQ,mg];by_cases h:y=0<;>simp[h]
theorem Lf:bQ .rem (some (I k x)) (some (I k y))=if y≠0 then some (some (I k (x.tmod y)),none) else none:=by
 simp only[bQ,mg];by_cases h:y=0<;>simp[h]
theorem Lg:bQ .and (some (I k x)) (some (I k y))=some (some (I k (aV .and k x y)),none):=by simp[bQ,mg]
theorem Qc:bQ .or (some (I k x)) (some (I k y))=some (some (I k (aV .or k x y)),none):=by simp[bQ,mg]
theorem Lh:bQ .xor (some (I k x)) (some (I k y))=some (some (I k (aV .xor k x y)),none):=by simp[bQ,mg]
theorem xS:bQ .andNot (some (I k x)) (some (I k y))=some (some (I k (aV .andNot k x y)),none):=by simp[bQ,mg]
theorem Li:bQ .eql (some (I k x)) (some (I k y))=some (some (B (x==y)),none):=by simp[bQ,mg]
theorem Lj:bQ .neq (some (I k x)) (some (I k y))=some (some (B (x != y)),none):=by simp[bQ,mg]
theorem Lk:bQ .lss (some (I k x)) (some (I k y))=some (some (B (decide (x < y))),none):=by simp[bQ,mg]
theorem Ll:bQ .leq (some (I k x)) (some (I k y))=some (some (B (decide (x≤y))),none):=by simp[bQ,mg]
theorem Lm:bQ .gtr (some (I k x)) (some (I k y))=some (some (B (decide (y < x))),none):=by simp[bQ,mg]
theorem Ln:bQ .geq (some (I k x)) (some (I k y))=some (some (B (decide (y≤x))),none):=by simp[bQ,mg]
theorem Lp:bQ .shl (some (I k x)) (some (I k' y))=if 0≤y then some (some (I k (jx k x y)),none) else none:=by
 simp only[bQ,mg,true_or,or_true,if_true];by_cases h:0≤y<;>simp[h]
theorem Lq:bQ .shr (some (I k x)) (some (I k' y))=if 0≤y then some (some (I k (ft k x y)),none) else none:=by
 simp only[bQ,mg,or_true,if_true];by_cases h:0≤y<;>simp[h]
theorem Qd {x:Bool}:oO .not (some (B x))=some (some (B (!x)),none):=rfl
theorem Qe:oO .neg (some (I k x))=some (some (I k (k.wrap (0 - x))),none):=rfl
theorem Qf:oO .xor (some (I k x))=some (some (I k (aV .xor k (if k.signed then -1 else k.max) x)),none):=rfl
theorem ET {t b o n c:Nat}:gI P s t t (some (Sl b o n c))=Af (T4 P t) (s.box b) (Sl b o n c):=by
 show (if t=t then _ else _)=_
 rw[if_pos rfl]
theorem xU {cs:List SV} {v:AV}:Af true (some ⟨true,cs⟩) v=some (some v,none):=rfl
theorem EU {t u:Nat}:gI P s t u (some (I k' x))=cvK x (kindOf P t) (kindOf P u):=by
 show gH P t u (some (I k' x))=_
 cases h1:kindOf P t<;>cases h2:kindOf P u<;>simp[gH,cvK,h1,h2]
theorem EV:cvK x (some k') (some k)=some (some (I k (k.wrap x)),none):=rfl
theorem EW {t bx o:Nat}:dH P ⟨e,b,n⟩ t (some (Ptr bx o))=Pw (dv P t) (b bx) o:=rfl
theorem Lr {m:Nat} {rw:Bool} {cs:List SV} {o:Nat}:Pw (some (true,m)) (some ⟨rw,cs⟩) o=if o+m≤cs.length then some (some (Ag ((cs.drop o).take m)),none) else none:=rfl
theorem Ls {m:Nat} {rw:Bool} {cs:List SV} {o:Nat}:Pw (some (false,m)) (some ⟨rw,cs⟩) o=TP cs[o]? :=rfl
theorem EX {v:SV}:TP (some v)=some (some (.inl (.inl v)),none):=rfl
theorem AQ {k:IntKind} {x:Int}:cellsOf (some (I k x))=some [Sum.inl (.int k x)]:=rfl
theorem xV {x:Bool}:cellsOf (some (B x))=some [Sum.inl (.bool x)]:=rfl
theorem vO {a:Option Addr} {l c:Nat}:cellsOf (some (V (.slice a l c)))=some [Sum.inl (.slice a l c)]:=rfl
theorem EY {t o l c:Nat}:cellsOf (some (Sl t o l c))=some [Sum.inr (.inr (t,o,l,c))]:=rfl
theorem AU {l:List SV}:cellsOf (some (Ag l))=some l:=rfl
theorem AW {t bx o:Nat} {v:Option AV}:eT P ⟨e,b,n⟩ t (some (Ptr bx o)) v=Px bx o (cellsOf v) (dv P t) (b bx):=by
 cases h1:cellsOf v with
 | none=>simp[eT,Px,h1]
 | some new=>
  cases h2:dv P t with
  | none=>simp[eT,Px,h1,h2]
  | some p=>
   cases h3:b bx with
   | none=>simp[eT,Px,h1,h2,h3]
   | some x=>simp[eT,Px,h1,h2,h3]
theorem EZ {bx o m:Nat} {new cs:List SV} {ag:Bool}:Px bx o (some new) (some (ag,m)) (some ⟨true,cs⟩)=
  if o+new.length≤cs.length∧new.length=m then some (none,some (.inr (bx,⟨true,splice cs o new⟩))) else none:=by
 simp[Px]
theorem xW {t:Nat}:iV P nm t=alZ nm (zeroOf P t):=rfl
theorem E0 {z:List Value}:alZ nm (some z)=if z.all Value.oneCell'=true then some (some (Ptr nm 0),some (.inl (z.map .inl))) else none:=rfl
theorem AX {v:AV}:qO nm (some v)=bxC nm (cellsOf (some v)):=rfl
theorem E1 {l:List SV}:bxC nm (some l)=some (some (Ptr nm 0),some (.inl l)):=rfl
theorem qy {t f bx o:Nat}:dI P t f (some (Ptr bx o))=faP bx o (aX P t f):=by
 unfold dI faP;split<;>simp_all
theorem E2 {bx o fo m:Nat} {ag:Bool}:faP bx o (some (fo,ag,m+1))=some (some (Ptr bx (o+fo)),none):=rfl
theorem xX {t bx o:Nat} {j:Int}:cn P t (some (Ptr bx o)) (some (I k j))=iaP bx o j (fZ P t):=by
 unfold cn iaP;rfl
theorem E3 {bx o m z:Nat} {j:Int}:iaP bx o j (some (m,z))=if 0≤j∧j < m then some (some (Ptr bx (o+j.toNat*z)),none) else none:=rfl
theorem AY {t bx o m c:Nat} {j:Int}:cn P t (some (Sl bx o m c)) (some (I k j))=isP bx o m j (bA.elemOf P t):=by
 unfold cn isP;rfl
theorem E4 {bx o m z:Nat} {j:Int}:isP bx o m j (some z)=if 0≤j∧j < m then some (some (Ptr bx (o+j.toNat*z)),none) else none:=rfl
theorem Qg {t:Nat} {l:List SV} {j:Int}:ig P t (some (Ag l)) (some (I k j))=ZO l j (oP P t):=by
 unfold ig ZO
 cases h:oP P t with
 | none=>rfl
 | some p=>obtain ⟨m,ag,z⟩:=p;cases ag<;>rfl
theorem Lt {l:List SV} {j:Int} {m z:Nat}:ZO l j (some (m,true,z))=if 0≤j∧j < m then some (some (Ag ((l.drop (j.toNat*z)).take z)),none) else none:=rfl
theorem Lu {l:List SV} {j:Int} {m z:Nat}:ZO l j (some (m,false,z))=ixC j m l[j.toNat*z]? :=by
 cases h:l[j.toNat*z]? <;>simp[ZO,ixC,h]
theorem E5 {j:Int} {m:Nat} {v:SV}:ixC j m (some v)=if 0≤j∧j < m then some (some (.inl (.inl v)),none) else none:=rfl
theorem vT {l:List CV} {k:Nat}:fu (some (.inr l)) k=exC l[k]? :=rfl
theorem E6 {c:CV}:exC (some c)=some (some (.inl c),none):=rfl
theorem vU {t:Nat} {l:List (Nat×Operand)}:fF P t s l=bdB P t s l (dr P t):=by
 cases h:dr P t with
 | none=>simp[fF,bdB,h]
 | some z=>simp only[fF,bdB,h];cases eU P t s z l<;>rfl
theorem E7 {t:Nat} {l:List (Nat×Operand)} {z:List SV}:bdB P t s l (some z)=Zc (eU P t s z l):=rfl
theorem E8 {l:List SV}:Zc (some l)=some (some (Ag l),none):=rfl
theorem Lv {c:Prop} [Decidable c] {x:Option (List SV)} {K:AS→Prop}:bD (Zc (if c then x else none)) nm dst K s=(c∧bD (Zc x) nm dst K s):=by
 split<;>simp_all [bD,Zc]
theorem E9 {t:Nat} {cs:List SV}:eU P t s cs []=some cs:=rfl
theorem AZ {t j:Nat} {x:Operand} {cs:List SV} {l:List (Nat×Operand)}:eU P t s cs ((j,x)::l)=fiP P t s cs l (cellsOf (s.aL x)) (placeOf P t j):=by
 cases h:placeOf P t j with
 | none=>simp[eU,fiP,h]
 | some p=>obtain ⟨o,m⟩:=p;simp only[eU,fiP,h];cases cellsOf (s.aL x)<;>rfl
theorem Fa {t:Nat} {cs new:List SV} {o m:Nat} {l:List (Nat×Operand)}:fiP P t s cs l (some new) (some (o,m))=if new.length=m∧o+m≤cs.length then eU P t s (splice cs o new) l else none:=rfl
theorem xY {l:List Oper} {j:Nat}:eC l.toArray ⟨e,b,n⟩ j=gdO e l[j]? :=by
 unfold eC gdO
 simp only[List.getElem?_toArray]
 cases l[j]? <;>rfl
theorem Fb {d:Nat}:gdO e (some ⟨some d,op,ty,pos,after,gd⟩)=e d:=rfl
theorem Lw {id:Nat} {ops:Array Oper}:vc P (.region id ops true) F ⟨e,b,n⟩=((P.follows .mixedOrders=true∧CH ops=true)∧iE P ops n ops.toList 0 (F .normal) ⟨e,b,n⟩):=rfl
theorem Fc:iE P ops base [] i K ⟨e,b,n⟩=K ⟨e,b,base+i⟩:=rfl
theorem A8:iE P ops base (⟨dst,op,ty,pos,after,none⟩::rest) i K s=uu P ops i (base+i) ⟨dst,op,ty,pos,after,none⟩ (iE P ops base rest (i+1) K) s:=rfl
theorem xZ {j:Nat} {want:Bool}:iE P ops base (⟨dst,op,ty,pos,after,some (j,want)⟩::rest) i K s=
  qq P ops i (oS (eC ops s j) want) want (base+i) ⟨dst,op,ty,pos,after,some (j,want)⟩ (iE P ops base rest (i+1) K) s:=by
 show Es P ops i (base+i) ⟨dst,op,ty,pos,after,some (j,want)⟩ (iE P ops base rest (i+1) K) s=_
 generalize iE P ops base rest (i+1) K=K'
 simp only[Es,Does,mK,wK,qq,eY,uu]
 generalize oS (eC ops s j) want=q
 have none: ∀ (X:cS→Prop) (Y:(cS→Prop)→Prop) (c d:Prop),((∃ ef,False∧X ef)∨(c∧ ∃ D,False∧Y D)∨(d∧False))=False:=fun X Y c d=>by simp
 rcases q with _ | (((v | v) | l) | l)<;>try exact none _ _ _ _
 cases v<;>try exact none _ _ _ _
 rename_i x
 rw[eq_iff_iff]
 constructor
 ·rintro (⟨ef,⟨h1,h2⟩,hk⟩ | ⟨hl,D,⟨h1,h2⟩,hk⟩ | ⟨hb,h1,h2⟩)
  ·refine ⟨fun hw=> .inl ⟨ef,h1 hw,hk⟩,fun hw=> ?_⟩
   rw[h2 hw]at hk
   exact hk
  ·refine ⟨fun hw=> .inr (.inl ⟨hl,D,h1 hw,hk⟩),fun hw=> ?_⟩
   exact hk (some (V undef),Option.none) (by rw[h2 hw])
  ·exact ⟨fun hw=> .inr (.inr ⟨hb,h1 hw⟩),h2⟩
 ·rintro ⟨h1,h2⟩
  by_cases hw:x=want
  ·rcases h1 hw with ⟨ef,hd,hk⟩ | ⟨hl,D,hd,hk⟩ | ⟨hb,hk⟩
   ·exact .inl ⟨ef,⟨fun _=>hd,fun hx=>absurd hw hx⟩,hk⟩
   ·exact .inr (.inl ⟨hl,D,⟨fun _=>hd,fun hx=>absurd hw hx⟩,hk⟩)
   ·exact .inr (.inr ⟨hb,fun _=>hk,fun hx=>absurd hw hx⟩)
  ·exact .inl ⟨(some (V undef),Option.none),⟨fun hx=>absurd hx hw,fun _=>rfl⟩,h2 hw⟩
theorem eF {o:Oper} {ef:Option cS} (h1: ∀ x,jY P nm o s x=(ef=some x)) (h2: ∀ D, ¬ jc P nm o s D) (h3:bM P nm o K s=bD ef nm o.dst K s):uu P ops i nm o K s=bD ef nm o.dst K s:=by
 unfold uu
 rw[h3]
 simp only[h1,h2,false_and,exists_false,and_false,false_or]
 cases ef with
 | none=>simp[bD]
 | some x=>simp[bD,app]
theorem A9 {t:Nat}:uu P ops i nm ⟨dst, .alloc t,ty,pos,after,gd⟩ K s=bD (iV P nm t) nm dst K s:=eF (fun _=>rfl) (fun _ h=>h) rfl
theorem Ba {t:Nat} {l:List (Nat×Operand)}:uu P ops i nm ⟨dst, .build t l.toArray,ty,pos,after,gd⟩ K s=bD (fF P t s l) nm dst K s:=eF (fun _=>rfl) (fun _ h=>h) rfl
theorem Fe {t:Nat} {x:Operand}:uu P ops i nm ⟨dst, .load t x,ty,pos,after,gd⟩ K s=bD (dH P s t (s.aL x)) nm dst K s:=eF (fun _=>rfl) (fun _ h=>h) rfl
theorem Bb {t:Nat} {x y:Operand}:uu P ops i nm ⟨dst, .store t x y,ty,pos,after,gd⟩ K s=bD (eT P s t (s.aL x) (s.aL y)) nm dst K s:=eF (fun _=>rfl) (fun _ h=>h) rfl
theorem Bc {o:BinOp} {t u:Nat} {x y:Operand}:uu P ops i nm ⟨dst, .binOp o t x y u,ty,pos,after,gd⟩ K s=bD (sY P o t y (s.aL x) (s.aL y)) nm dst K s:=eF (fun _=>rfl) (fun _ h=>h) rfl
theorem Ff {o:UnOp} {t:Nat} {x:Operand}:uu P ops i nm ⟨dst, .unOp o t x,ty,pos,after,gd⟩ K s=bD (oO o (s.aL x)) nm dst K s:=eF (fun _=>rfl) (fun _ h=>h) rfl
theorem vV {t u:Nat} {x:Operand}:uu P ops i nm ⟨dst, .convert t u x,ty,pos,after,gd⟩ K s=bD (gI P s t u (s.aL x)) nm dst K s:=eF (fun _=>rfl) (fun _ h=>h) rfl
theorem qz {t f:Nat} {x:Operand}:uu P ops i nm ⟨dst, .fieldAddr t x f,ty,pos,after,gd⟩ K s=bD (dI P t f (s.aL x)) nm dst K s:=eF (fun _=>rfl) (fun _ h=>h) rfl
theorem Bf {t:Nat} {x:Operand}:uu P ops i nm ⟨dst, .sliceToArrayPointer t x,ty,pos,after,gd⟩ K s=bD (kd (fZ P t) (s.aL x)) nm dst K s:=eF (fun _=>rfl) (fun _ h=>h) rfl
theorem Fg {m z b o n c:Nat}:kd (some (m,z)) (some (Sl b o n c))=if m≤n then some (some (Ptr b o),none) else none:=rfl
theorem qA {t:Nat} {x y:Operand}:uu P ops i nm ⟨dst, .indexAddr t x y,ty,pos,after,gd⟩ K s=bD (cn P t (s.aL x) (s.aL y)) nm dst K s:=eF (fun _=>rfl) (fun _ h=>h) rfl
theorem vW {x:Operand} {k:Nat}:uu P ops i nm ⟨dst, .extract x k,ty,pos,after,gd⟩ K s=bD (fu (s.aL x) k) nm dst K s:=eF (fun _=>rfl) (fun _ h=>h) rfl
theorem Lx {xs:List Operand} {tys:List TypeId}:uu P ops i nm ⟨dst, .call ⟨.builtin .len,xs.toArray,tys.toArray⟩,ty,pos,after,gd⟩ K s=bD (eJ (qP P tys) (bk s xs)) nm dst K s:=eF (fun _=>rfl) (fun _ h=>h) rfl
theorem Fh {x y z:Operand}:uu P ops i nm ⟨dst, .pick x y z,ty,pos,after,gd⟩ K s=bD (nf (s.aL x) (s.aL y) (s.aL z)) nm dst K s:=eF (fun _=>rfl) (fun _ h=>h) rfl
theorem Fi {x:Operand}:uu P ops i nm ⟨dst, .move x,ty,pos,after,gd⟩ K s=np (s.aL x) dst K s:=by
 refine Eq.trans (b:=bD (dT P nm s (.move x)) nm dst K s) (eF (fun _=>rfl) (fun _ h=>h) rfl) ?_
 simp only[dT,np];cases s.aL x<;>rfl
theorem yb {x:Operand}:uu P ops i nm ⟨dst, .assign x,ty,pos,after,gd⟩ K s=np (s.aL x) dst K s:=by
 refine Eq.trans (b:=bD (dT P nm s (.assign x)) nm dst K s) (eF (fun _=>rfl) (fun _ h=>h) rfl) ?_
 simp only[dT,np];cases s.aL x<;>rfl
theorem Bg {t:Nat} {x:Operand} {lo hi:Option Operand}:uu P ops i nm ⟨dst, .slice t x lo hi none,ty,pos,after,gd⟩ K s=bD (fG (sZ P t) (s.aL x) (eV s lo) (eV s hi)) nm dst K s:=eF (fun _=>rfl) (fun _ h=>h) rfl
theorem yc {t n:Nat} {l:List (Nat×Operand)}:uu P ops i nm ⟨dst, .buildSlice t n l.toArray,ty,pos,after,gd⟩ K s=bD (eR nm (qQ P t) n s l) nm dst K s:=eF (fun _=>rfl) (fun _ h=>h) rfl
theorem Ly {x:Operand}:uu P ops i nm ⟨dst, .nilCheck x,ty,pos,after,gd⟩ K s=bD (qR (s.aL x)) nm dst K s:=eF (fun _=>rfl) (fun _ h=>h) rfl
theorem yd {xs:List Operand} {tys:Array TypeId}:uu P ops i nm ⟨dst, .call ⟨.builtin .append,xs.toArray,tys⟩,ty,pos,after,gd⟩ K s=
  (bar ops i=true∧bS P nm .append tys ty (xs.toArray.map isConst) (bk s xs) dst K s):=by
 rw[eq_iff_iff]
 constructor
 ·rintro (⟨e,h,_⟩ | ⟨_,D,h,_⟩ | h)
  ·exact h.elim
  ·exact h.elim
  ·exact h
 ·exact fun h=> .inr (.inr h)
theorem Fj {xs:List Operand} {tys:Array TypeId}:uu P ops i nm ⟨dst, .call ⟨.builtin .copy,xs.toArray,tys⟩,ty,pos,after,gd⟩ K s=
  (bar ops i=true∧bS P nm .copy tys ty (xs.toArray.map isConst) (bk s xs) dst K s):=by
 rw[eq_iff_iff]
 constructor
 ·rintro (⟨e,h,_⟩ | ⟨_,D,h,_⟩ | h)
  ·exact h.elim
  ·exact h.elim
  ·exact h
 ·exact fun h=> .inr (.inr h)
theorem Fk {f:Nat} {xs:List Operand} {tys:Array TypeId}:uu P ops i nm ⟨dst, .call ⟨.value (.func f),xs.toArray,tys⟩,ty,pos,after,gd⟩ K s=qt P ops i nm f (bk s xs) dst K s:=by
 rw[eq_iff_iff]
 constructor
 ·rintro (⟨ef,⟨l,r,h1,h2,rfl⟩ | h,hk⟩ | ⟨hl,D,hD,hk⟩ | ⟨hb,hk⟩)
  ·exact .inl ⟨l,r,h1,h2,hk⟩
  ·exact .inr (.inl ⟨ef,h,hk⟩)
  ·exact .inr (.inr (.inl ⟨hl,D,hD,hk⟩))
  ·exact .inr (.inr (.inr ⟨hb,hk⟩))
 ·rintro (⟨l,r,h1,h2,hk⟩ | ⟨e,h,hk⟩ | ⟨hl,D,hD,hk⟩ | ⟨hb,hk⟩)
  ·exact .inl ⟨_, .inl ⟨l,r,h1,h2,rfl⟩,hk⟩
  ·exact .inl ⟨e, .inr h,hk⟩
  ·exact .inr (.inl ⟨hl,D,hD,hk⟩)
  ·exact .inr (.inr ⟨hb,hk⟩)
theorem Bh {t:Nat} {x:Operand} {lo hi:Option Operand}:bM P nm ⟨dst, .slice t x lo hi none,ty,pos,after,gd⟩ K s=bD (fG (sZ P t) (s.aL x) (eV s lo) (eV s hi)) nm dst K s:=rfl
theorem Bi {t:Nat} {x y:Operand}:bM P nm ⟨dst, .makeSlice t x y,ty,pos,after,gd⟩ K s=bD (iX nm (qQ P t) (s.aL x) (s.aL y)) nm dst K s:=rfl
theorem ye {t n:Nat} {l:List (Nat×Operand)}:bM P nm ⟨dst, .buildSlice t n l.toArray,ty,pos,after,gd⟩ K s=bD (eR nm (qQ P t) n s l) nm dst K s:=rfl
theorem Lz {x:Operand}:bM P nm ⟨dst, .nilCheck x,ty,pos,after,gd⟩ K s=bD (qR (s.aL x)) nm dst K s:=rfl
theorem LA {b' o':Nat}:qR (some (Ptr b' o'))=some (some (Ptr b' o'),none):=rfl
theorem Fl:eV s none=some none:=rfl
theorem Fm {x:Operand}:eV s (some x)=Xz (s.aL x):=by
 unfold eV Xz;rfl
theorem Fo {x:Int}:Xz (some (I k x))=some (some x):=rfl
theorem LB {b' o' n' c z:Nat} {l:Int} {hi:Option Int}:fG (some (none,z)) (some (Sl b' o' n' c)) (some (some l)) (some hi)=Ps b' o' c z l (hi.getD n'):=rfl
theorem LC {b' o' n' c z:Nat} {hi:Option Int}:fG (some (none,z)) (some (Sl b' o' n' c)) (some none) (some hi)=ZU b' o' c (hi.getD n'):=EE
theorem LD {b' o' m z:Nat} {l:Int} {hi:Option Int}:fG (some (some m,z)) (some (Ptr b' o')) (some (some l)) (some hi)=Ps b' o' m z l (hi.getD m):=rfl
theorem LG {b' o' m z:Nat} {hi:Option Int}:fG (some (some m,z)) (some (Ptr b' o')) (some none) (some hi)=ZU b' o' m (hi.getD m):=EE
theorem LH {b' o' c z:Nat} {l h:Int}:Ps b' o' c z l h=if 0≤l∧l≤h∧h≤c then some (some (Sl b' (if c=l.toNat then o' else o'+l.toNat*z) (h.toNat - l.toNat) (c - l.toNat)),none) else none:=rfl
theorem LI {b' o' c:Nat} {h:Int}:ZU b' o' c h=if 0≤h∧h≤c then some (some (Sl b' o' h.toNat c),none) else none:=rfl
theorem Fp {kB:Nat} {k k1 k2:IntKind} {l c:Int}:iX nm (some ([Value.int k 0],1,kB)) (some (I k1 l)) (some (I k2 c))=
  if 0≤l∧l≤c∧(kB:Int)*c≤281474976710656∧c≤9223372036854775807 then some (some (Sl nm 0 l.toNat c.toNat),some (.inl (ah k c.toNat fun _=>0))) else none:=by
 simp only[iX,Nat.mul_one,qY]
 congr 1
 simp[Value.oneCell']
theorem vX {z:List Value} {sz kB len:Nat} {l:List (Nat×Operand)}:eR nm (some (z,sz,kB)) len s l=
  if len*sz≤16777216∧0 < z.length∧z.all Value.oneCell'=true then ZV nm len (eW sz s (iW z (len*sz)) l) else none:=by
 simp only[eR]
 congr 1
theorem Fq {len:Nat} {l:List SV}:ZV nm len (some l)=some (some (Sl nm 0 len len),some (.inl l)):=rfl
theorem LJ {c:Prop} [Decidable c] {x:Option (List SV)} {len nm':Nat} {K:AS→Prop}:bD (ZV nm len (if c then x else none)) nm' dst K s=(c∧bD (ZV nm len x) nm' dst K s):=by
 split<;>simp_all [bD,ZV]
theorem Bj {z:Nat} {cs:List SV}:eW z s cs []=some cs:=rfl
theorem yg {z j:Nat} {x:Operand} {cs:List SV} {l:List (Nat×Operand)}:eW z s cs ((j,x)::l)=fsP z s cs j l (cellsOf (s.aL x)):=by
 simp only[eW,fsP];cases cellsOf (s.aL x)<;>rfl
theorem Ft {z j:Nat} {cs new:List SV} {l:List (Nat×Operand)}:fsP z s cs j l (some new)=if new.length=z∧j*z+z≤cs.length then eW z s (splice cs (j*z) new) l else none:=rfl
theorem Bk {c:Prop} [Decidable c] {ef:Option cS}:bD (if c then ef else none) nm dst K s=(c∧bD ef nm dst K s):=by
 split<;>simp_all [bD]
theorem vY {m:Nat}:AS.aL s (.global m)=some (V (.pointer (some ⟨m,0,none⟩))):=rfl
theorem Fu {t m o:Nat}:dH P ⟨e,b,n⟩ t (some (V (.pointer (some ⟨m,o,none⟩))))=Pw (dv P t) (Tables.row P m) o:=rfl
theorem yh {t m o:Nat} {j:Int}:cn P t (some (V (.pointer (some ⟨m,o,none⟩)))) (some (I k j))=iaT m o j (fZ P t):=by
 unfold cn iaT;rfl
theorem Fv {m o l z:Nat} {j:Int}:iaT m o j (some (l,z))=if 0≤j∧j < l then some (some (V (.pointer (some ⟨m,o+j.toNat*z,none⟩))),none) else none:=rfl
theorem Qh {o:BinOp} {t c:Nat} {u v:Option AV}:sY P o t (.tmp c) u v=mF P o t u v:=rfl
theorem Qi {o:BinOp} {t:Nat} {c:IntKind} {z:Int} {u v:Option AV}:sY P o t (.const (.int c z)) u v=mF P o t u v:=rfl
theorem Qj {o:BinOp} {t:Nat} {u v:Option AV}:sY P o t (.const .nilIface) u v=kc o (isIface P t) u:=rfl
theorem V':kc .neq true (some (V .nilIface))=some (some (B false),none):=rfl
theorem Wa {t:TypeId} {v:Value}:kc .neq true (some (V (.iface t v)))=some (some (B true),none):=rfl
theorem qB:AS.aL s (.const .nilIface)=some (V .nilIface):=rfl
theorem Qk {o:BinOp} {t:Nat}:mF P o t (some (I k x)) (some (I k' y))=bQ o (some (I k x)) (some (I k' y)):=rfl
theorem LK {o:BinOp} {t:Nat} {p q:Bool}:mF P o t (some (B p)) (some (B q))=Y9 o (isBool P t) p q:=rfl
theorem Ql {o:BinOp} {t:Nat} {l l':List SV}:mF P o t (some (Ag l)) (some (Ag l'))=Y8 o (kb P t) (Ed P t) l l':=rfl
theorem Fw {o:BinOp} {m:Nat} {q:Option (List (Nat×Nat×IntKind))} {l l':List SV}:Y8 o (some (m,k)) q l l'=Pr o m (cj k l) (cj k l'):=rfl
theorem Fx {o:BinOp} {q:List (Nat×Nat×IntKind)} {l l':List SV}:Y8 o none (some q) l l'=PQ o (zP q l l'):=rfl
theorem Fy {l l':List SV}:zP [] l l'=some true:=rfl
theorem Bl {o n:Nat} {r:List (Nat×Nat×IntKind)} {l l':List SV}:zP ((o,n,k)::r) l l'=Ee n (cj k ((l.drop o).take n)) (cj k ((l'.drop o).take n)) (zP r l l'):=rfl
theorem Fz {b:Bool}:PQ .neq (some b)=some (some (B (!b)),none):=rfl
theorem CK {m:Nat} {p q:List Int}:Pr .eql m (some p) (some q)=if p.length=m∧q.length=m then some (some (B (decide (p=q))),none) else none:=rfl
theorem LL {m:Nat} {p q:List Int}:Pr .neq m (some p) (some q)=if p.length=m∧q.length=m then some (some (B (!decide (p=q))),none) else none:=rfl
theorem LM {p q:Bool}:Y9 .neq true p q=some (some (B (!(p==q))),none):=rfl
theorem Qm {t o m c:Nat}:eJ 1 (some [Sl t o m c])=some (some (I .i64 m),none):=rfl
theorem Bm {a:Option Addr} {m c:Nat}:eJ 1 (some [V (.slice a m c)])=some (some (I .i64 m),none):=rfl
end
theorem rules:type_of% @ae∧type_of% @start_eq∧type_of% @K2∧type_of% @Ar∧type_of% @P9∧type_of% @K3∧type_of% @EF∧type_of% @K5∧type_of% @K6∧type_of% @Qa∧type_of% @vG∧type_of% @Au∧type_of% @EG∧type_of% @vH∧type_of% @qv∧type_of% @xH∧type_of% @EH∧type_of% @vI∧type_of% @xI∧type_of% @vJ∧type_of% @xJ∧type_of% @vK∧type_of% @Av∧type_of% @Aw∧type_of% @xK∧type_of% @Ax∧type_of% @Ay∧type_of% @xL∧type_of% @Az∧type_of% @K7∧type_of% @EI∧type_of% @AB∧type_of% @run_move∧type_of% @run_assign∧type_of% @AE∧type_of% @K8∧type_of% @run_build∧type_of% @run_load∧type_of% @run_store∧type_of% @AF∧type_of% @EJ∧type_of% @EK∧type_of% @vM∧type_of% @qw∧type_of% @qx∧type_of% @AH∧type_of% @vN∧type_of% @AK∧type_of% @xP∧type_of% @EM∧type_of% @EN∧type_of% @AL∧type_of% @xQ∧type_of% @EO∧type_of% @EP∧type_of% @AO∧type_of% @xR∧type_of% @AP∧type_of% @K9∧type_of% @La∧type_of% @Qb∧type_of% @ER∧type_of% @ES∧type_of% @Lb∧type_of% @Lc∧type_of% @Ld∧type_of% @Le∧type_of% @Lf∧type_of% @Lg∧type_of% @Qc∧type_of% @Lh∧type_of% @xS∧type_of% @Li∧type_of% @Lj∧type_of% @Lk∧type_of% @Ll∧type_of% @Lm∧type_of% @Ln∧type_of% @Lp∧type_of% @Lq∧type_of% @Qd∧type_of% @Qe∧type_of% @Qf∧type_of% @EU∧type_of% @EV∧type_of% @EW∧type_of% @Lr∧type_of% @Ls∧type_of% @EX∧type_of% @AQ∧type_of% @xV∧type_of% @vO∧type_of% @EY∧type_of% @AU∧type_of% @AW∧type_of% @EZ∧type_of% @xW∧type_of% @E0∧type_of% @AX∧type_of% @E1∧type_of% @qy∧type_of% @E2∧type_of% @xX∧type_of% @E3∧type_of% @AY∧type_of% @E4∧type_of% @Qg∧type_of% @Lt∧type_of% @Lu∧type_of% @E5∧type_of% @vT∧type_of% @E6∧type_of% @vU∧type_of% @E7∧type_of% @E8∧type_of% @Lv∧type_of% @E9∧type_of% @AZ∧type_of% @Fa∧type_of% @Lw∧type_of% @Fc∧type_of% @A8∧type_of% @xZ∧type_of% @A9∧type_of% @Ba∧type_of% @Fe∧type_of% @Bb∧type_of% @Bc∧type_of% @Ff∧type_of% @vV∧type_of% @qz∧type_of% @qA∧type_of% @vW∧type_of% @Lx∧type_of% @Fi∧type_of% @yb∧type_of% @Fk∧type_of% @Qk∧type_of% @LK∧type_of% @Ql∧type_of% @Fw∧type_of% @Fx∧type_of% @Fy∧type_of% @Bl∧type_of% @Fz∧type_of% @LM∧type_of% @Qm∧type_of% @Bm∧type_of% @Am∧type_of% @xy∧type_of% @EL∧type_of% @AJ∧type_of% @xM∧type_of% @xO∧type_of% @Fh∧type_of% @xY∧type_of% @Fb∧type_of% @ZW∧type_of% @ZX∧type_of% @ZY∧type_of% @ZZ∧type_of% @V4∧type_of% @V5∧type_of% @V6∧type_of% @V7:=
 ⟨@ae, @start_eq, @K2, @Ar, @P9, @K3, @EF, @K5, @K6, @Qa, @vG, @Au, @EG, @vH, @qv, @xH, @EH, @vI, @xI, @vJ, @xJ, @vK, @Av, @Aw, @xK, @Ax, @Ay, @xL, @Az, @K7, @EI, @AB, @run_move, @run_assign, @AE, @K8, @run_build, @run_load, @run_store, @AF, @EJ, @EK, @vM, @qw, @qx, @AH, @vN, @AK, @xP, @EM, @EN, @AL, @xQ, @EO, @EP, @AO, @xR, @AP, @K9, @La, @Qb, @ER, @ES, @Lb, @Lc, @Ld, @Le, @Lf, @Lg, @Qc, @Lh, @xS, @Li, @Lj, @Lk, @Ll, @Lm, @Ln, @Lp, @Lq, @Qd, @Qe, @Qf, @EU, @EV, @EW, @Lr, @Ls, @EX, @AQ, @xV, @vO, @EY, @AU, @AW, @EZ, @xW, @E0, @AX, @E1, @qy, @E2, @xX, @E3, @AY, @E4, @Qg, @Lt, @Lu, @E5, @vT, @E6, @vU, @E7, @E8, @Lv, @E9, @AZ, @Fa, @Lw, @Fc, @A8, @xZ, @A9, @Ba, @Fe, @Bb, @Bc, @Ff, @vV, @qz, @qA, @vW, @Lx, @Fi, @yb, @Fk, @Qk, @LK, @Ql, @Fw, @Fx, @Fy, @Bl, @Fz, @LM, @Qm, @Bm, @Am, @xy, @EL, @AJ, @xM, @xO, @Fh, @xY, @Fb, @ZW, @ZX, @ZY, @ZZ, @V4, @V5, @V6, @V7⟩
theorem Qn:type_of% @Z0∧type_of% @V8∧type_of% @V9∧type_of% @Bg∧type_of% @yc∧type_of% @Ly∧type_of% @yd∧type_of% @Fj∧type_of% @Bh∧type_of% @Bi∧type_of% @ye∧type_of% @Lz∧type_of% @LA∧type_of% @Fl∧type_of% @Fm∧type_of% @Fo∧type_of% @LB∧type_of% @LC∧type_of% @LD∧type_of% @LG∧type_of% @LH∧type_of% @LI∧type_of% @Fp∧type_of% @vX∧type_of% @Fq∧type_of% @LJ∧type_of% @Bj∧type_of% @yg∧type_of% @Ft∧type_of% @qY∧type_of% @Bk∧type_of% @vY∧type_of% @Fu∧type_of% @yh∧type_of% @Fv∧type_of% @AG∧type_of% @Bf∧type_of% @Fg∧type_of% @ET∧type_of% @xU∧type_of% @Qh∧type_of% @Qi∧type_of% @Qj∧type_of% @V'∧type_of% @Wa∧type_of% @qB:=
 ⟨@Z0, @V8, @V9, @Bg, @yc, @Ly, @yd, @Fj, @Bh, @Bi, @ye, @Lz, @LA, @Fl, @Fm, @Fo, @LB, @LC, @LD, @LG, @LH, @LI, @Fp, @vX, @Fq, @LJ, @Bj, @yg, @Ft, @qY, @Bk, @vY, @Fu, @yh, @Fv, @AG, @Bf, @Fg, @ET, @xU, @Qh, @Qi, @Qj, @V', @Wa, @qB⟩
end Go.bA
