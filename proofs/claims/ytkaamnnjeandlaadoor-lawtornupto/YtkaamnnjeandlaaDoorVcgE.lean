/-
  The calculus: the rules by which a proof's simp reckons a state, each fired by what has been reckoned already. Nothing here speaks of a program.
-/
import Derived.Test.YtkaamnnjeandlaaDoorVcgH
set_option linter.unusedVariables false
set_option linter.unusedSimpArgs false
namespace Go.bM
set_option linter.unusedSectionVars false
section
variable {P:Program} [Tables P] {K:AS→Prop} {F:Exit→AS→Prop} {s:AS} {e:Nat→Option AV} {b:Nat→Option aG} {n nm:Nat} {dst:Option Tmp} {ty:TypeId} {pos:String} {after:Array Edge} {gd:Option (Nat×Bool)}
def Rp (v:Option AV):Option (Option Int):=match v with
 | some (.inl (.inl (.inl (.int _ j))))=>some (some j)
 | _=>none
def VP (m o:Nat) (j:Int) (t:Option (Nat×Nat)):Option c6:=match t with
 | some (l,z)=>if 0≤j∧j < l then some (some (V (.pointer (some ⟨m,o+j.toNat*z,none⟩))),none) else none
 | none=>none
def Ta (b o c:Nat) (h:Int):Option c6:=if 0≤h∧h≤c then some (some (Sl b o h.toNat c),none) else none
theorem Cl {b o c z:Nat} {h:Int}:KR b o c z 0 h=Ta b o c h:=by
 unfold KR Ta
 simp
def Xj (nm len:Nat) (l:Option (List SV)):Option c6:=match l with
 | some l=>some (some (Sl nm 0 len len),some (.inl l))
 | none=>none
def VQ (z:Nat) (s:AS) (cs:List SV) (j:Nat) (rest:List (Nat×Operand)) (new:Option (List SV)):Option (List SV):=match new with
 | some new=>if new.length=z∧j*z+z≤cs.length then fg z s (splice cs (j*z) new) rest else none
 | none=>none
theorem pQ {k:IntKind} {n:Nat}:gi [Value.int k 0] n=aA k n fun _=>0:=by
 unfold gi aA
 apply List.map_congr_left
 intro i _
 simp[Nat.mod_one]
theorem ae {α:Type} (f:Nat→α) (d x:Nat) (v:α):upd f d v x=if x=d then v else f x:=rfl
theorem start_eq (l:List AV):start l b n=⟨fun d=>l[d]?, b,n⟩:=rfl
theorem G6:vc P .skip F s=F .normal s:=rfl
theorem yy {id:Nat} {ops:Array Oper}:vc P (.region id ops false) F ⟨e,b,n⟩=ly P ops n ops.toList 0 (F .normal) ⟨e,b,n⟩:=rfl
theorem Lp {x y:Code}:vc P (.seq x y) F s=vc P x (fa (vc P y F) F) s:=rfl
theorem G7 {c:Operand} {x y:Code}:vc P (.cond c x y) F s=lN (s.aK c) (vc P x F) (vc P y F) s:=rfl
theorem Cm {id:Nat} {c:Code}:vc P (.block id c) F s=vc P c (eD id F) s:=rfl
theorem G8 {c:Code}:vc P (.loop c) F s=kC (vc P c) F s:=rfl
theorem G9 {id:Nat}:vc P (.exit id) F s=F (.exit id) s:=rfl
theorem Lq:vc P .ret F s=F .ret s:=rfl
theorem sW {K:AS→Prop}:fa K F .normal s=K s:=rfl
theorem yz {K:AS→Prop} {id:Nat}:fa K F (.exit id) s=F (.exit id) s:=rfl
theorem Cn {K:AS→Prop}:fa K F .ret s=F .ret s:=rfl
theorem sX {id id':Nat}:eD id F (.exit id') s=if id'=id then F .normal s else F (.exit id') s:=rfl
theorem pd {id:Nat}:eD id F .normal s=F .normal s:=rfl
theorem uZ {id:Nat}:eD id F .ret s=F .ret s:=rfl
theorem Co {rs:List ResultVar} {Post:AV→AS→Prop}:jX P rs Post .ret s=nW (iV (fO P s rs)) Post s:=rfl
theorem sY {rs:List ResultVar} {Post:AV→AS→Prop}:jX P rs Post .normal s=nW (iV (fO P s rs)) Post s:=rfl
theorem u6:fO P s []=some []:=rfl
theorem sZ {r:ResultVar} {rs:List ResultVar}:fO P s (r::rs)=Lf (rR P s r) (fO P s rs):=by
 unfold Lf;rfl
theorem u7 {t:Nat}:rR P ⟨e,b,n⟩ (.tmp t)=S5 (e t):=rfl
theorem s7 {t ty:Nat}:rR P ⟨e,b,n⟩ (.cell t ty)=S6 (dG P ⟨e,b,n⟩ ty (e t)):=rfl
theorem yA {c:CV}:S5 (some (.inl c))=some c:=rfl
theorem yB {c:CV} {m:Mem}:S6 (some (some (.inl c),m))=some c:=rfl
theorem vb {c:CV} {l:List CV}:Lf (some c) (some l)=some (c::l):=rfl
theorem yC {c:CV}:iV (some [c])=some (.inl c):=rfl
theorem yD {c d:CV} {l:List CV}:iV (some (c::d::l))=some (.inr (c::d::l)):=rfl
theorem vd:iV (some [])=some (.inr []):=rfl
theorem yE {v:AV} {Post:AV→AS→Prop}:nW (some v) Post s=Post v s:=rfl
variable {ops:Array Oper} {base i:Nat} {rest:List Oper} {op:Op}
theorem G':ly P ops base [] i K ⟨e,b,n⟩=K ⟨e,b,base+i⟩:=rfl
theorem Cp:ly P ops base (⟨dst,op,ty,pos,after,none⟩::rest) i K s=bK P (base+i) ⟨dst,op,ty,pos,after,none⟩ (ly P ops base rest (i+1) K) s:=rfl
theorem yI {j:Nat} {want:Bool}:ly P ops base (⟨dst,op,ty,pos,after,some (j,want)⟩::rest) i K s=
  Az P (nV (eV ops s j) want) want (base+i) ⟨dst,op,ty,pos,after,some (j,want)⟩ (ly P ops base rest (i+1) K) s:=rfl
variable {o:Oper}
theorem Tb:Az P (some (B true)) true nm o K s=bK P nm o K s:=by simp[Az,fL]
theorem Tc:Az P (some (B false)) false nm o K s=bK P nm o K s:=by simp[Az,fL]
theorem Td:Az P (some (B true)) false nm ⟨dst,op,ty,pos,after,gd⟩ K s=K (s.put dst (some (V undef))):=by simp[Az,fL]
theorem Te:Az P (some (B false)) true nm ⟨dst,op,ty,pos,after,gd⟩ K s=K (s.put dst (some (V undef))):=by simp[Az,fL]
theorem P8:yu P ops i (some (B true)) true nm o K s=xO P ops i nm o K s:=by simp[yu,fL]
theorem P9:yu P ops i (some (B false)) true nm ⟨dst,op,ty,pos,after,gd⟩ K s=K (s.put dst (some (V undef))):=by simp[yu,fL]
theorem Tf {want x:Bool}:nV (some (B x)) want=some (B x):=rfl
theorem Qa:nV (some (V undef)) true=some (B false):=rfl
theorem Qb:nV (some (V undef)) false=some (B true):=rfl
theorem run_move {x:Operand}:bK P nm ⟨dst, .move x,ty,pos,after,gd⟩ K s=mD (s.aK x) dst K s:=by
 simp only[bK,dS,mD];cases s.aK x<;>rfl
theorem run_assign {x:Operand}:bK P nm ⟨dst, .assign x,ty,pos,after,gd⟩ K s=mD (s.aK x) dst K s:=by
 simp only[bK,dS,mD];cases s.aK x<;>rfl
theorem yJ {t:Nat}:bK P nm ⟨dst, .alloc t,ty,pos,after,gd⟩ K s=bH (iq P nm t) nm dst K s:=rfl
theorem Ha {t:Nat} {x:Operand}:bK P nm ⟨dst, .box t x,ty,pos,after,gd⟩ K s=bH (pL nm (s.aK x)) nm dst K s:=rfl
theorem run_build {t:Nat} {l:List (Nat×Operand)}:bK P nm ⟨dst, .build t l.toArray,ty,pos,after,gd⟩ K s=bH (fA P t s l) nm dst K s:=rfl
theorem run_load {t:Nat} {x:Operand}:bK P nm ⟨dst, .load t x,ty,pos,after,gd⟩ K s=bH (dG P s t (s.aK x)) nm dst K s:=rfl
theorem run_store {t:Nat} {x y:Operand}:bK P nm ⟨dst, .store t x y,ty,pos,after,gd⟩ K s=bH (ea P s t (s.aK x) (s.aK y)) nm dst K s:=rfl
theorem yK {o:BinOp} {t u:Nat} {x y:Operand}:bK P nm ⟨dst, .binOp o t x y u,ty,pos,after,gd⟩ K s=bH (qT P o t y (s.aK x) (s.aK y)) nm dst K s:=rfl
theorem Cq {xs:List Operand} {tys:List TypeId}:bK P nm ⟨dst, .call ⟨.builtin .len,xs.toArray,tys.toArray⟩,ty,pos,after,gd⟩ K s=bH (dI (nO P tys) (bb s xs)) nm dst K s:=rfl
theorem Cr {o:UnOp} {t:Nat} {x:Operand}:bK P nm ⟨dst, .unOp o t x,ty,pos,after,gd⟩ K s=bH (nN o (s.aK x)) nm dst K s:=rfl
theorem s8 {t u:Nat} {x:Operand}:bK P nm ⟨dst, .convert t u x,ty,pos,after,gd⟩ K s=bH (gP P s t u (s.aK x)) nm dst K s:=rfl
theorem ph {t f:Nat} {x:Operand}:bK P nm ⟨dst, .fieldAddr t x f,ty,pos,after,gd⟩ K s=bH (dH P t f (s.aK x)) nm dst K s:=rfl
theorem yL {t f:Nat} {x:Operand}:bK P nm ⟨dst, .field t x f,ty,pos,after,gd⟩ K s=bH (ga P t f (s.aK x)) nm dst K s:=rfl
theorem pj {t:Nat} {x y:Operand}:bK P nm ⟨dst, .indexAddr t x y,ty,pos,after,gd⟩ K s=bH (cj P t (s.aK x) (s.aK y)) nm dst K s:=rfl
theorem yM {t:Nat} {x y:Operand}:bK P nm ⟨dst, .index t x y,ty,pos,after,gd⟩ K s=bH (gO P t (s.aK x) (s.aK y)) nm dst K s:=rfl
theorem s9 {x:Operand} {k:Nat}:bK P nm ⟨dst, .extract x k,ty,pos,after,gd⟩ K s=bH (gb (s.aK x) k) nm dst K s:=rfl
theorem Ct {x y z:Operand}:bK P nm ⟨dst, .pick x y z,ty,pos,after,gd⟩ K s=bH (mA (s.aK x) (s.aK y) (s.aK z)) nm dst K s:=rfl
theorem yN {x y:Option AV}:mA (some (B true)) x y=ym x:=rfl
theorem ve {x y:Option AV}:mA (some (B false)) x y=ym y:=rfl
theorem vf {v:AV}:ym (some v)=some (some v,none):=rfl
theorem yO {f:Nat} {xs:List Operand} {tys:Array TypeId}:bK P nm ⟨dst, .call ⟨.value (.func f),xs.toArray,tys⟩,ty,pos,after,gd⟩ K s=
  if au P f=true then aB P nm f (bb s xs) dst K s else nU P f (bb s xs) dst K s:=rfl
theorem vg {xs:List Operand} {tys:Array TypeId}:bK P nm ⟨dst, .call ⟨.builtin .append,xs.toArray,tys⟩,ty,pos,after,gd⟩ K s=
  bU P nm .append tys ty (xs.toArray.map isConst) (bb s xs) dst K s:=rfl
theorem Cu:bb s []=some []:=rfl
theorem yP {x:Operand} {xs:List Operand}:bb s (x::xs)=P0 (s.aK x) (bb s xs):=rfl
theorem vh {v:AV} {l:List AV}:P0 (some v) (some l)=some (v::l):=rfl
theorem Cv {t:Nat}:AS.aK ⟨e,b,n⟩ (.tmp t)=e t:=rfl
theorem Cw {k:IntKind} {x:Int}:AS.aK s (.const (.int k x))=some (I k x):=rfl
theorem yQ {x:Bool}:AS.aK s (.const (.bool x))=some (B x):=rfl
theorem vj {a:Option Addr} {l c:Nat}:AS.aK s (.const (.slice a l c))=some (V (.slice a l c)):=rfl
theorem yR {f:Nat}:AS.aK s (.func f)=some (V (.func (.func f) #[] #[])):=rfl
theorem yS {v:AV}:mD (some v) dst K s=K (s.put dst (some v)):=rfl
theorem Hb {v:Option AV}:bH (some (v,none)) nm dst K s=K (s.put dst v):=rfl
theorem Hc {v:Option AV} {cs:List SV}:bH (some (v,some (.inl cs))) nm dst K ⟨e,b,n⟩=K (AS.put ⟨e,upd b nm (some ⟨true,cs⟩),n⟩ dst v):=rfl
theorem Lr {v:Option AV} {t:Nat} {bx:aG}:bH (some (v,some (.inr (t,bx)))) nm dst K ⟨e,b,n⟩=K (AS.put ⟨e,upd b t (some bx),n⟩ dst v):=rfl
theorem Cx {t:Nat} {v:Option AV}:AS.put ⟨e,b,n⟩ (some t) v=⟨upd e t v,b,n⟩:=rfl
theorem Cy {v:Option AV}:AS.put s none v=s:=rfl
variable {k k':IntKind} {x y:Int}
theorem Hd:bX .add (some (I k x)) (some (I k y))=some (some (I k (k.wrap (x+y))),none):=by simp[bX,lQ]
theorem He:bX .sub (some (I k x)) (some (I k y))=some (some (I k (k.wrap (x - y))),none):=by simp[bX,lQ]
theorem Hf:bX .mul (some (I k x)) (some (I k y))=some (some (I k (k.wrap (x*y))),none):=by simp[bX,lQ]
theorem Hg:bX .quo (some (I k x)) (some (I k y))=if y≠0 then some (some (I k (k.wrap (x.tdiv y))),none) else none:=by
 simp only[bX,lQ];by_cases h:y=0<;>simp[h]
theorem Hh:bX .rem (some (I k x)) (some (I k y))=if y≠0 then some (some (I k (x.tmod y)),none) else none:=by
 simp only[bX,lQ];by_cases h:y=0<;>simp[h]
theorem Hj:bX .and (some (I k x)) (some (I k y))=some (some (I k (eK .and k x y)),none):=by simp[bX,lQ]
theorem Ls:bX .or (some (I k x)) (some (I k y))=some (some (I k (eK .or k x y)),none):=by simp[bX,lQ]
theorem Hl:bX .xor (some (I k x)) (some (I k y))=some (some (I k (eK .xor k x y)),none):=by simp[bX,lQ]
theorem Hm:bX .eql (some (I k x)) (some (I k y))=some (some (B (x==y)),none):=by simp[bX,lQ]
theorem Hn:bX .neq (some (I k x)) (some (I k y))=some (some (B (x != y)),none):=by simp[bX,lQ]
theorem Ho:bX .lss (some (I k x)) (some (I k y))=some (some (B (decide (x < y))),none):=by simp[bX,lQ]
theorem Hq:bX .leq (some (I k x)) (some (I k y))=some (some (B (decide (x≤y))),none):=by simp[bX,lQ]
theorem Hr:bX .gtr (some (I k x)) (some (I k y))=some (some (B (decide (y < x))),none):=by simp[bX,lQ]
theorem Hs:bX .geq (some (I k x)) (some (I k y))=some (some (B (decide (y≤x))),none):=by simp[bX,lQ]
theorem Ht:bX .shl (some (I k x)) (some (I k' y))=if 0≤y then some (some (I k (xV k x y)),none) else none:=by
 simp only[bX,lQ,true_or,or_true,if_true];by_cases h:0≤y<;>simp[h]
theorem Hu:bX .shr (some (I k x)) (some (I k' y))=if 0≤y then some (some (I k (qS k x y)),none) else none:=by
 simp only[bX,lQ,or_true,if_true];by_cases h:0≤y<;>simp[h]
theorem Lt {x:Bool}:nN .not (some (B x))=some (some (B (!x)),none):=rfl
theorem Lu:nN .neg (some (I k x))=some (some (I k (k.wrap (0 - x))),none):=rfl
theorem Lv:nN .xor (some (I k x))=some (some (I k (eK .xor k (if k.signed then -1 else k.max) x)),none):=rfl
theorem Cz {t u:Nat}:gP P s t u (some (I k' x))=VH x (kindOf P t) (kindOf P u):=by
 show gg P t u (some (I k' x))=_
 cases h1:kindOf P t<;>cases h2:kindOf P u<;>simp[gg,VH,h1,h2]
theorem CA:VH x (some k') (some k)=some (some (I k (k.wrap x)),none):=rfl
theorem CB {t bx o:Nat}:dG P ⟨e,b,n⟩ t (some (Ptr bx o))=U7 (dX P t) (b bx) o:=rfl
theorem Hw {m:Nat} {rw:Bool} {cs:List SV} {o:Nat}:U7 (some (true,m)) (some ⟨rw,cs⟩) o=if o+m≤cs.length then some (some (Ag ((cs.drop o).take m)),none) else none:=rfl
theorem Hx {m:Nat} {rw:Bool} {cs:List SV} {o:Nat}:U7 (some (false,m)) (some ⟨rw,cs⟩) o=U6 cs[o]? :=rfl
theorem CD {v:SV}:U6 (some v)=some (some (.inl (.inl v)),none):=rfl
theorem yT {k:IntKind} {x:Int}:cellsOf (some (I k x))=some [Sum.inl (.int k x)]:=rfl
theorem td {a:Option Addr} {l c:Nat}:cellsOf (some (V (.slice a l c)))=some [Sum.inl (.slice a l c)]:=rfl
theorem CF {t o l c:Nat}:cellsOf (some (Sl t o l c))=some [Sum.inr (.inr (t,o,l,c))]:=rfl
theorem yU {l:List SV}:cellsOf (some (Ag l))=some l:=rfl
theorem yV {t bx o:Nat} {v:Option AV}:ea P ⟨e,b,n⟩ t (some (Ptr bx o)) v=Ri bx o (cellsOf v) (dX P t) (b bx):=by
 cases h1:cellsOf v with
 | none=>simp[ea,Ri,h1]
 | some new=>
  cases h2:dX P t with
  | none=>simp[ea,Ri,h1,h2]
  | some p=>
   cases h3:b bx with
   | none=>simp[ea,Ri,h1,h2,h3]
   | some x=>simp[ea,Ri,h1,h2,h3]
theorem CG {bx o m:Nat} {new cs:List SV} {ag:Bool}:Ri bx o (some new) (some (ag,m)) (some ⟨true,cs⟩)=
  if o+new.length≤cs.length∧new.length=m then some (none,some (.inr (bx,⟨true,splice cs o new⟩))) else none:=by
 simp[Ri]
theorem vl {t:Nat}:iq P nm t=Xe nm (zeroOf P t):=rfl
theorem CH {z:List Value}:Xe nm (some z)=if z.all Value.oneCell'=true then some (some (Ptr nm 0),some (.inl (z.map .inl))) else none:=rfl
theorem yW {v:AV}:pL nm (some v)=Xc nm (cellsOf (some v)):=rfl
theorem CJ {l:List SV}:Xc nm (some l)=some (some (Ptr nm 0),some (.inl l)):=rfl
theorem pk {t f bx o:Nat}:dH P t f (some (Ptr bx o))=VD bx o (cg P t f):=by
 unfold dH VD;split<;>simp_all
theorem CK {bx o fo m:Nat} {ag:Bool}:VD bx o (some (fo,ag,m+1))=some (some (Ptr bx (o+fo)),none):=rfl
theorem yX {t f:Nat} {l:List SV}:ga P t f (some (Ag l))=SA l (cg P t f):=by
 cases h:cg P t f with
 | none=>simp[ga,SA,h]
 | some p=>
  obtain ⟨o,ag,m⟩:=p
  cases ag
  ·simp only[ga,SA,h];cases l[o]? <;>rfl
  ·simp[ga,SA,h]
theorem Hy {l:List SV} {o m:Nat}:SA l (some (o,false,m))=U6 l[o]? :=by
 unfold SA U6;rfl
theorem vn {t bx o:Nat} {j:Int}:cj P t (some (Ptr bx o)) (some (I k j))=VE bx o j (jN P t):=by
 unfold cj VE;rfl
theorem CL {bx o m z:Nat} {j:Int}:VE bx o j (some (m,z))=if 0≤j∧j < m then some (some (Ptr bx (o+j.toNat*z)),none) else none:=rfl
theorem yY {t bx o m c:Nat} {j:Int}:cj P t (some (Sl bx o m c)) (some (I k j))=VF bx o m j (bM.elemOf P t):=by
 unfold cj VF;rfl
theorem CM {bx o m z:Nat} {j:Int}:VF bx o m j (some z)=if 0≤j∧j < m then some (some (Ptr bx (o+j.toNat*z)),none) else none:=rfl
theorem Lw {t:Nat} {l:List SV} {j:Int}:gO P t (some (Ag l)) (some (I k j))=U8 l j (yl P t):=by
 unfold gO U8
 cases h:yl P t with
 | none=>rfl
 | some p=>obtain ⟨m,ag,z⟩:=p;cases ag<;>rfl
theorem Hz {l:List SV} {j:Int} {m z:Nat}:U8 l j (some (m,false,z))=VI j m l[j.toNat*z]? :=by
 cases h:l[j.toNat*z]? <;>simp[U8,VI,h]
theorem CN {j:Int} {m:Nat} {v:SV}:VI j m (some v)=if 0≤j∧j < m then some (some (.inl (.inl v)),none) else none:=rfl
theorem tf {l:List CV} {k:Nat}:gb (some (.inr l)) k=Xd l[k]? :=rfl
theorem CO {c:CV}:Xd (some c)=some (some (.inl c),none):=rfl
theorem tg {t:Nat} {l:List (Nat×Operand)}:fA P t s l=U9 P t s l (fK P t):=by
 cases h:fK P t with
 | none=>simp[fA,U9,h]
 | some z=>simp only[fA,U9,h];cases fe P t s z l<;>rfl
theorem CP {t:Nat} {l:List (Nat×Operand)} {z:List SV}:U9 P t s l (some z)=VG (fe P t s z l):=rfl
theorem CQ {l:List SV}:VG (some l)=some (some (Ag l),none):=rfl
theorem CS {t:Nat} {cs:List SV}:fe P t s cs []=some cs:=rfl
theorem yZ {t j:Nat} {x:Operand} {cs:List SV} {l:List (Nat×Operand)}:fe P t s cs ((j,x)::l)=Va P t s cs l (cellsOf (s.aK x)) (placeOf P t j):=by
 cases h:placeOf P t j with
 | none=>simp[fe,Va,h]
 | some p=>obtain ⟨o,m⟩:=p;simp only[fe,Va,h];cases cellsOf (s.aK x)<;>rfl
theorem CT {t:Nat} {cs new:List SV} {o m:Nat} {l:List (Nat×Operand)}:Va P t s cs l (some new) (some (o,m))=if new.length=m∧o+m≤cs.length then fe P t s (splice cs o new) l else none:=rfl
theorem vo {l:List Oper} {j:Nat}:eV l.toArray ⟨e,b,n⟩ j=VB e l[j]? :=by
 unfold eV VB
 simp only[List.getElem?_toArray]
 cases l[j]? <;>rfl
theorem CU {d:Nat}:VB e (some ⟨some d,op,ty,pos,after,gd⟩)=e d:=rfl
theorem HA {id:Nat} {ops:Array Oper}:vc P (.region id ops true) F ⟨e,b,n⟩=((P.follows .mixedOrders=true∧AA ops=true)∧gY P ops n ops.toList 0 (F .normal) ⟨e,b,n⟩):=rfl
theorem CW:gY P ops base [] i K ⟨e,b,n⟩=K ⟨e,b,base+i⟩:=rfl
theorem y5:gY P ops base (⟨dst,op,ty,pos,after,none⟩::rest) i K s=xO P ops i (base+i) ⟨dst,op,ty,pos,after,none⟩ (gY P ops base rest (i+1) K) s:=rfl
theorem vp {j:Nat} {want:Bool}:gY P ops base (⟨dst,op,ty,pos,after,some (j,want)⟩::rest) i K s=
  yu P ops i (nV (eV ops s j) want) want (base+i) ⟨dst,op,ty,pos,after,some (j,want)⟩ (gY P ops base rest (i+1) K) s:=by
 show B5 P ops i (base+i) ⟨dst,op,ty,pos,after,some (j,want)⟩ (gY P ops base rest (i+1) K) s=_
 generalize gY P ops base rest (i+1) K=K'
 simp only[B5,Does,lW,tZ,yu,fL,xO]
 generalize nV (eV ops s j) want=q
 have none: ∀ (X:c6→Prop) (Y:(c6→Prop)→Prop) (c d:Prop),((∃ ef,False∧X ef)∨(c∧ ∃ D,False∧Y D)∨(d∧False))=False:=fun X Y c d=>by simp
 rcases q with _ | (((v | v) | l) | l)<;>try exact none _ _ _ _
 cases v<;>try exact none _ _ _ _
 rename_i x
 rw[eq_iff_iff]
 constructor
 ·rintro (⟨ef,⟨h1,h2⟩,hk⟩ | ⟨hl,D,⟨h1,h2⟩,hk⟩ | ⟨hb,h1,h2⟩)
  ·refine ⟨fun hw=> .inl ⟨ef,h1 hw,hk⟩,fun hw=> ?_⟩
   rw[h2 hw]at hk
   exact hk
  ·refine ⟨fun hw=> .inr (.inl ⟨hl,D,h1 hw,hk⟩),fun hw=> ?_⟩
   exact hk (some (V undef),Option.none) (by rw[h2 hw])
  ·exact ⟨fun hw=> .inr (.inr ⟨hb,h1 hw⟩),h2⟩
 ·rintro ⟨h1,h2⟩
  by_cases hw:x=want
  ·rcases h1 hw with ⟨ef,hd,hk⟩ | ⟨hl,D,hd,hk⟩ | ⟨hb,hk⟩
   ·exact .inl ⟨ef,⟨fun _=>hd,fun hx=>absurd hw hx⟩,hk⟩
   ·exact .inr (.inl ⟨hl,D,⟨fun _=>hd,fun hx=>absurd hw hx⟩,hk⟩)
   ·exact .inr (.inr ⟨hb,fun _=>hk,fun hx=>absurd hw hx⟩)
  ·exact .inl ⟨(some (V undef),Option.none),⟨fun hx=>absurd hx hw,fun _=>rfl⟩,h2 hw⟩
theorem fW {o:Oper} {ef:Option c6} (h1: ∀ x,jq P nm o s x=(ef=some x)) (h2: ∀ D, ¬ iA P nm o s D) (h3:bK P nm o K s=bH ef nm o.dst K s):xO P ops i nm o K s=bH ef nm o.dst K s:=by
 unfold xO
 rw[h3]
 simp only[h1,h2,false_and,exists_false,and_false,false_or]
 cases ef with
 | none=>simp[bH]
 | some x=>simp[bH,app]
theorem y6 {t:Nat}:xO P ops i nm ⟨dst, .alloc t,ty,pos,after,gd⟩ K s=bH (iq P nm t) nm dst K s:=fW (fun _=>rfl) (fun _ h=>h) rfl
theorem y7 {t:Nat} {l:List (Nat×Operand)}:xO P ops i nm ⟨dst, .build t l.toArray,ty,pos,after,gd⟩ K s=bH (fA P t s l) nm dst K s:=fW (fun _=>rfl) (fun _ h=>h) rfl
theorem CX {t:Nat} {x:Operand}:xO P ops i nm ⟨dst, .load t x,ty,pos,after,gd⟩ K s=bH (dG P s t (s.aK x)) nm dst K s:=fW (fun _=>rfl) (fun _ h=>h) rfl
theorem y8 {t:Nat} {x y:Operand}:xO P ops i nm ⟨dst, .store t x y,ty,pos,after,gd⟩ K s=bH (ea P s t (s.aK x) (s.aK y)) nm dst K s:=fW (fun _=>rfl) (fun _ h=>h) rfl
theorem y9 {o:BinOp} {t u:Nat} {x y:Operand}:xO P ops i nm ⟨dst, .binOp o t x y u,ty,pos,after,gd⟩ K s=bH (qT P o t y (s.aK x) (s.aK y)) nm dst K s:=fW (fun _=>rfl) (fun _ h=>h) rfl
theorem CY {o:UnOp} {t:Nat} {x:Operand}:xO P ops i nm ⟨dst, .unOp o t x,ty,pos,after,gd⟩ K s=bH (nN o (s.aK x)) nm dst K s:=fW (fun _=>rfl) (fun _ h=>h) rfl
theorem tj {t u:Nat} {x:Operand}:xO P ops i nm ⟨dst, .convert t u x,ty,pos,after,gd⟩ K s=bH (gP P s t u (s.aK x)) nm dst K s:=fW (fun _=>rfl) (fun _ h=>h) rfl
theorem po {t f:Nat} {x:Operand}:xO P ops i nm ⟨dst, .fieldAddr t x f,ty,pos,after,gd⟩ K s=bH (dH P t f (s.aK x)) nm dst K s:=fW (fun _=>rfl) (fun _ h=>h) rfl
theorem pq {t:Nat} {x y:Operand}:xO P ops i nm ⟨dst, .indexAddr t x y,ty,pos,after,gd⟩ K s=bH (cj P t (s.aK x) (s.aK y)) nm dst K s:=fW (fun _=>rfl) (fun _ h=>h) rfl
theorem HB {xs:List Operand} {tys:List TypeId}:xO P ops i nm ⟨dst, .call ⟨.builtin .len,xs.toArray,tys.toArray⟩,ty,pos,after,gd⟩ K s=bH (dI (nO P tys) (bb s xs)) nm dst K s:=fW (fun _=>rfl) (fun _ h=>h) rfl
theorem CZ {x y z:Operand}:xO P ops i nm ⟨dst, .pick x y z,ty,pos,after,gd⟩ K s=bH (mA (s.aK x) (s.aK y) (s.aK z)) nm dst K s:=fW (fun _=>rfl) (fun _ h=>h) rfl
theorem C0 {x:Operand}:xO P ops i nm ⟨dst, .move x,ty,pos,after,gd⟩ K s=mD (s.aK x) dst K s:=by
 refine Eq.trans (b:=bH (dS P nm s (.move x)) nm dst K s) (fW (fun _=>rfl) (fun _ h=>h) rfl) ?_
 simp only[dS,mD];cases s.aK x<;>rfl
theorem vq {x:Operand}:xO P ops i nm ⟨dst, .assign x,ty,pos,after,gd⟩ K s=mD (s.aK x) dst K s:=by
 refine Eq.trans (b:=bH (dS P nm s (.assign x)) nm dst K s) (fW (fun _=>rfl) (fun _ h=>h) rfl) ?_
 simp only[dS,mD];cases s.aK x<;>rfl
theorem za {t:Nat} {x:Operand} {lo hi:Option Operand}:xO P ops i nm ⟨dst, .slice t x lo hi none,ty,pos,after,gd⟩ K s=bH (fB (sF P t) (s.aK x) (fJ s lo) (fJ s hi)) nm dst K s:=fW (fun _=>rfl) (fun _ h=>h) rfl
theorem C2 {xs:List Operand} {tys:Array TypeId}:xO P ops i nm ⟨dst, .call ⟨.builtin .copy,xs.toArray,tys⟩,ty,pos,after,gd⟩ K s=
  (bar ops i=true∧bU P nm .copy tys ty (xs.toArray.map isConst) (bb s xs) dst K s):=by
 rw[eq_iff_iff]
 constructor
 ·rintro (⟨e,h,_⟩ | ⟨_,D,h,_⟩ | h)
  ·exact h.elim
  ·exact h.elim
  ·exact h
 ·exact fun h=> .inr (.inr h)
theorem C4 {f:Nat} {xs:List Operand} {tys:Array TypeId}:xO P ops i nm ⟨dst, .call ⟨.value (.func f),xs.toArray,tys⟩,ty,pos,after,gd⟩ K s=qW P ops i nm f (bb s xs) dst K s:=by
 rw[eq_iff_iff]
 constructor
 ·rintro (⟨ef,⟨l,r,h1,h2,rfl⟩ | h,hk⟩ | ⟨hl,D,hD,hk⟩ | ⟨hb,hk⟩)
  ·exact .inl ⟨l,r,h1,h2,hk⟩
  ·exact .inr (.inl ⟨ef,h,hk⟩)
  ·exact .inr (.inr (.inl ⟨hl,D,hD,hk⟩))
  ·exact .inr (.inr (.inr ⟨hb,hk⟩))
 ·rintro (⟨l,r,h1,h2,hk⟩ | ⟨e,h,hk⟩ | ⟨hl,D,hD,hk⟩ | ⟨hb,hk⟩)
  ·exact .inl ⟨_, .inl ⟨l,r,h1,h2,rfl⟩,hk⟩
  ·exact .inl ⟨e, .inr h,hk⟩
  ·exact .inr (.inl ⟨hl,D,hD,hk⟩)
  ·exact .inr (.inr ⟨hb,hk⟩)
theorem zb {t:Nat} {x:Operand} {lo hi:Option Operand}:bK P nm ⟨dst, .slice t x lo hi none,ty,pos,after,gd⟩ K s=bH (fB (sF P t) (s.aK x) (fJ s lo) (fJ s hi)) nm dst K s:=rfl
theorem zc {t:Nat} {x y:Operand}:bK P nm ⟨dst, .makeSlice t x y,ty,pos,after,gd⟩ K s=bH (iu nm (qU P t) (s.aK x) (s.aK y)) nm dst K s:=rfl
theorem vr {t n:Nat} {l:List (Nat×Operand)}:bK P nm ⟨dst, .buildSlice t n l.toArray,ty,pos,after,gd⟩ K s=bH (fC nm (qU P t) n s l) nm dst K s:=rfl
theorem C5:fJ s none=some none:=rfl
theorem C6 {x:Operand}:fJ s (some x)=Rp (s.aK x):=by
 unfold fJ Rp;rfl
theorem C8 {x:Int}:Rp (some (I k x))=some (some x):=rfl
theorem HC {b' o' n' c z:Nat} {l:Int} {hi:Option Int}:fB (some (none,z)) (some (Sl b' o' n' c)) (some (some l)) (some hi)=KR b' o' c z l (hi.getD n'):=rfl
theorem HD {b' o' n' c z:Nat} {hi:Option Int}:fB (some (none,z)) (some (Sl b' o' n' c)) (some none) (some hi)=Ta b' o' c (hi.getD n'):=Cl
theorem HE {b' o' m z:Nat} {l:Int} {hi:Option Int}:fB (some (some m,z)) (some (Ptr b' o')) (some (some l)) (some hi)=KR b' o' m z l (hi.getD m):=rfl
theorem HF {b' o' m z:Nat} {hi:Option Int}:fB (some (some m,z)) (some (Ptr b' o')) (some none) (some hi)=Ta b' o' m (hi.getD m):=Cl
theorem HG {b' o' c z:Nat} {l h:Int}:KR b' o' c z l h=if 0≤l∧l≤h∧h≤c then some (some (Sl b' (if c=l.toNat then o' else o'+l.toNat*z) (h.toNat - l.toNat) (c - l.toNat)),none) else none:=rfl
theorem HI {b' o' c:Nat} {h:Int}:Ta b' o' c h=if 0≤h∧h≤c then some (some (Sl b' o' h.toNat c),none) else none:=rfl
theorem C9 {mq:Nat} {k k1 k2:IntKind} {l c:Int}:iu nm (some ([Value.int k 0],1,mq)) (some (I k1 l)) (some (I k2 c))=
  if 0≤l∧l≤c∧(mq:Int)*c≤281474976710656∧c≤9223372036854775807 then some (some (Sl nm 0 l.toNat c.toNat),some (.inl (aA k c.toNat fun _=>0))) else none:=by
 simp only[iu,Nat.mul_one,pQ]
 congr 1
 simp[Value.oneCell']
theorem tq {z:List Value} {sz mq len:Nat} {l:List (Nat×Operand)}:fC nm (some (z,sz,mq)) len s l=
  if len*sz≤16777216∧0 < z.length∧z.all Value.oneCell'=true then Xj nm len (fg sz s (gi z (len*sz)) l) else none:=by
 simp only[fC]
 congr 1
theorem Da {len:Nat} {l:List SV}:Xj nm len (some l)=some (some (Sl nm 0 len len),some (.inl l)):=rfl
theorem zd {z:Nat} {cs:List SV}:fg z s cs []=some cs:=rfl
theorem vt {z j:Nat} {x:Operand} {cs:List SV} {l:List (Nat×Operand)}:fg z s cs ((j,x)::l)=VQ z s cs j l (cellsOf (s.aK x)):=by
 simp only[fg,VQ];cases cellsOf (s.aK x)<;>rfl
theorem Db {z j:Nat} {cs new:List SV} {l:List (Nat×Operand)}:VQ z s cs j l (some new)=if new.length=z∧j*z+z≤cs.length then fg z s (splice cs (j*z) new) l else none:=rfl
theorem ze {c:Prop} [Decidable c] {ef:Option c6}:bH (if c then ef else none) nm dst K s=(c∧bH ef nm dst K s):=by
 split<;>simp_all [bH]
theorem tt {m:Nat}:AS.aK s (.global m)=some (V (.pointer (some ⟨m,0,none⟩))):=rfl
theorem Dc {t m o:Nat}:dG P ⟨e,b,n⟩ t (some (V (.pointer (some ⟨m,o,none⟩))))=U7 (dX P t) (Tables.row P m) o:=rfl
theorem vu {t m o:Nat} {j:Int}:cj P t (some (V (.pointer (some ⟨m,o,none⟩)))) (some (I k j))=VP m o j (jN P t):=by
 unfold cj VP;rfl
theorem Dd {m o l z:Nat} {j:Int}:VP m o j (some (l,z))=if 0≤j∧j < l then some (some (V (.pointer (some ⟨m,o+j.toNat*z,none⟩))),none) else none:=rfl
theorem Lx {o:BinOp} {t c:Nat} {u v:Option AV}:qT P o t (.tmp c) u v=ni P o t u v:=rfl
theorem Ly {o:BinOp} {t:Nat} {c:IntKind} {z:Int} {u v:Option AV}:qT P o t (.const (.int c z)) u v=ni P o t u v:=rfl
theorem Lz {o:BinOp} {t:Nat} {u v:Option AV}:qT P o t (.const .nilIface) u v=o8 o (isIface P t) u:=rfl
theorem Qc:o8 .neq true (some (V .nilIface))=some (some (B false),none):=rfl
theorem Qd:o8 .eql true (some (V .nilIface))=some (some (B true),none):=rfl
theorem Qe {t:TypeId} {v:Value}:o8 .neq true (some (V (.iface t v)))=some (some (B true),none):=rfl
theorem Qf {t:TypeId} {v:Value}:o8 .eql true (some (V (.iface t v)))=some (some (B false),none):=rfl
theorem pw:AS.aK s (.const .nilIface)=some (V .nilIface):=rfl
theorem LA {o:BinOp} {t:Nat}:ni P o t (some (I k x)) (some (I k' y))=bX o (some (I k x)) (some (I k' y)):=rfl
theorem LB {o:BinOp} {t:Nat} {l l':List SV}:ni P o t (some (Ag l)) (some (Ag l'))=SY o (kz P t) (G0 P t) l l':=rfl
theorem De {o:BinOp} {m:Nat} {q:Option (List (Nat×Nat×IntKind))} {l l':List SV}:SY o (some (m,k)) q l l'=PZ o m (fy k l) (fy k l'):=rfl
theorem OC {m:Nat} {p q:List Int}:PZ .eql m (some p) (some q)=if p.length=m∧q.length=m then some (some (B (decide (p=q))),none) else none:=rfl
theorem OD {m:Nat} {p q:List Int}:PZ .neq m (some p) (some q)=if p.length=m∧q.length=m then some (some (B (!decide (p=q))),none) else none:=rfl
theorem LC {t o m c:Nat}:dI 1 (some [Sl t o m c])=some (some (I .i64 m),none):=rfl
theorem zf {a:Option Addr} {m c:Nat}:dI 1 (some [V (.slice a m c)])=some (some (I .i64 m),none):=rfl
end
theorem rules:type_of% @ae∧type_of% @start_eq∧type_of% @G6∧type_of% @yy∧type_of% @Lp∧type_of% @G7∧type_of% @Cm∧type_of% @G8∧type_of% @G9∧type_of% @Lq∧type_of% @sW∧type_of% @yz∧type_of% @Cn∧type_of% @sX∧type_of% @pd∧type_of% @uZ∧type_of% @Co∧type_of% @sY∧type_of% @u6∧type_of% @sZ∧type_of% @u7∧type_of% @s7∧type_of% @yA∧type_of% @yB∧type_of% @vb∧type_of% @yC∧type_of% @yD∧type_of% @vd∧type_of% @yE∧type_of% @G'∧type_of% @Cp∧type_of% @yI∧type_of% @run_move∧type_of% @run_assign∧type_of% @yJ∧type_of% @Ha∧type_of% @run_build∧type_of% @run_load∧type_of% @run_store∧type_of% @yK∧type_of% @Cq∧type_of% @Cr∧type_of% @s8∧type_of% @ph∧type_of% @yL∧type_of% @pj∧type_of% @yM∧type_of% @s9∧type_of% @yO∧type_of% @vg∧type_of% @Cu∧type_of% @yP∧type_of% @vh∧type_of% @Cv∧type_of% @Cw∧type_of% @yQ∧type_of% @vj∧type_of% @yR∧type_of% @yS∧type_of% @Hb∧type_of% @Hc∧type_of% @Lr∧type_of% @Cx∧type_of% @Cy∧type_of% @Hd∧type_of% @He∧type_of% @Hf∧type_of% @Hg∧type_of% @Hh∧type_of% @Hj∧type_of% @Ls∧type_of% @Hl∧type_of% @Hm∧type_of% @Hn∧type_of% @Ho∧type_of% @Hq∧type_of% @Hr∧type_of% @Hs∧type_of% @Ht∧type_of% @Hu∧type_of% @Lt∧type_of% @Lu∧type_of% @Lv∧type_of% @Cz∧type_of% @CA∧type_of% @CB∧type_of% @Hw∧type_of% @Hx∧type_of% @CD∧type_of% @yT∧type_of% @td∧type_of% @CF∧type_of% @yU∧type_of% @yV∧type_of% @CG∧type_of% @vl∧type_of% @CH∧type_of% @yW∧type_of% @CJ∧type_of% @pk∧type_of% @CK∧type_of% @yX∧type_of% @Hy∧type_of% @vn∧type_of% @CL∧type_of% @yY∧type_of% @CM∧type_of% @Lw∧type_of% @Hz∧type_of% @CN∧type_of% @tf∧type_of% @CO∧type_of% @tg∧type_of% @CP∧type_of% @CQ∧type_of% @CS∧type_of% @yZ∧type_of% @CT∧type_of% @HA∧type_of% @CW∧type_of% @y5∧type_of% @vp∧type_of% @y6∧type_of% @y7∧type_of% @CX∧type_of% @y8∧type_of% @y9∧type_of% @CY∧type_of% @tj∧type_of% @po∧type_of% @pq∧type_of% @HB∧type_of% @C0∧type_of% @vq∧type_of% @C4∧type_of% @LA∧type_of% @LB∧type_of% @De∧type_of% @LC∧type_of% @zf∧type_of% @yr∧type_of% @uO∧type_of% @Ct∧type_of% @yN∧type_of% @ve∧type_of% @vf∧type_of% @CZ∧type_of% @vo∧type_of% @CU∧type_of% @Tb∧type_of% @Tc∧type_of% @Td∧type_of% @Te∧type_of% @P8∧type_of% @P9:=
 ⟨@ae, @start_eq, @G6, @yy, @Lp, @G7, @Cm, @G8, @G9, @Lq, @sW, @yz, @Cn, @sX, @pd, @uZ, @Co, @sY, @u6, @sZ, @u7, @s7, @yA, @yB, @vb, @yC, @yD, @vd, @yE, @G', @Cp, @yI, @run_move, @run_assign, @yJ, @Ha, @run_build, @run_load, @run_store, @yK, @Cq, @Cr, @s8, @ph, @yL, @pj, @yM, @s9, @yO, @vg, @Cu, @yP, @vh, @Cv, @Cw, @yQ, @vj, @yR, @yS, @Hb, @Hc, @Lr, @Cx, @Cy, @Hd, @He, @Hf, @Hg, @Hh, @Hj, @Ls, @Hl, @Hm, @Hn, @Ho, @Hq, @Hr, @Hs, @Ht, @Hu, @Lt, @Lu, @Lv, @Cz, @CA, @CB, @Hw, @Hx, @CD, @yT, @td, @CF, @yU, @yV, @CG, @vl, @CH, @yW, @CJ, @pk, @CK, @yX, @Hy, @vn, @CL, @yY, @CM, @Lw, @Hz, @CN, @tf, @CO, @tg, @CP, @CQ, @CS, @yZ, @CT, @HA, @CW, @y5, @vp, @y6, @y7, @CX, @y8, @y9, @CY, @tj, @po, @pq, @HB, @C0, @vq, @C4, @LA, @LB, @De, @LC, @zf, @yr, @uO, @Ct, @yN, @ve, @vf, @CZ, @vo, @CU, @Tb, @Tc, @Td, @Te, @P8, @P9⟩
theorem LD:type_of% @Tf∧type_of% @Qa∧type_of% @Qb∧type_of% @za∧type_of% @C2∧type_of% @zb∧type_of% @zc∧type_of% @vr∧type_of% @C5∧type_of% @C6∧type_of% @C8∧type_of% @HC∧type_of% @HD∧type_of% @HE∧type_of% @HF∧type_of% @HG∧type_of% @HI∧type_of% @C9∧type_of% @tq∧type_of% @Da∧type_of% @zd∧type_of% @vt∧type_of% @Db∧type_of% @pQ∧type_of% @ze∧type_of% @tt∧type_of% @Dc∧type_of% @vu∧type_of% @Dd∧type_of% @Lx∧type_of% @Ly∧type_of% @Lz∧type_of% @Qc∧type_of% @Qd∧type_of% @Qe∧type_of% @Qf∧type_of% @pw:=
 ⟨@Tf, @Qa, @Qb, @za, @C2, @zb, @zc, @vr, @C5, @C6, @C8, @HC, @HD, @HE, @HF, @HG, @HI, @C9, @tq, @Da, @zd, @vt, @Db, @pQ, @ze, @tt, @Dc, @vu, @Dd, @Lx, @Ly, @Lz, @Qc, @Qd, @Qe, @Qf, @pw⟩
end Go.bM
