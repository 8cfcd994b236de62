/-
  The calculus: the rules by which a proof's simp reckons a state, each fired by what has been reckoned already. Nothing here speaks of a program.
-/
import Derived.Test.YtaeagfdnfjenlaaGreatDoorVcgH
set_option linter.unusedVariables false
set_option linter.unusedSimpArgs false
namespace Go.cn
set_option linter.unusedSectionVars false
section
variable {P:Program} [Tables P] {K:AS→Prop} {F:Exit→AS→Prop} {s:AS} {e:Nat→Option AV} {b:Nat→Option aI} {n nm:Nat} {dst:Option Tmp} {ty:TypeId} {pos:String} {after:Array Edge} {gd:Option (Nat×Bool)}
def Y4 (v:Option AV):Option (Option Int):=match v with
 | some (.inl (.inl (.inl (.int _ j))))=>some (some j)
 | _=>none
def iaT (m o:Nat) (j:Int) (t:Option (Nat×Nat)):Option dU:=match t with
 | some (l,z)=>if 0≤j∧j < l then some (some (V (.pointer (some ⟨m,o+j.toNat*z,none⟩))),none) else none
 | none=>none
def slU (b o c:Nat) (h:Int):Option dU:=if 0≤h∧h≤c then some (some (Sl b o h.toNat c),none) else none
theorem GH {b o c z:Nat} {h:Int}:Qw b o c z 0 h=slU b o c h:=by
 unfold Qw slU
 simp
def bsF (nm len:Nat) (l:Option (List SV)):Option dU:=match l with
 | some l=>some (some (Sl nm 0 len len),some (.inl l))
 | none=>none
def fsP (z:Nat) (s:AS) (cs:List SV) (j:Nat) (rest:List (Nat×Operand)) (new:Option (List SV)):Option (List SV):=match new with
 | some new=>if new.length=z∧j*z+z≤cs.length then gu z s (splice cs (j*z) new) rest else none
 | none=>none
theorem sF {k:IntKind} {n:Nat}:dS [Value.int k 0] n=ai k n fun _=>0:=by
 unfold dS ai
 apply List.map_congr_left
 intro i _
 simp[Nat.mod_one]
theorem ae {α:Type} (f:Nat→α) (d x:Nat) (v:α):upd f d v x=if x=d then v else f x:=rfl
theorem start_eq (l:List AV):start l b n=⟨fun d=>l[d]?, b,n⟩:=rfl
theorem Me:vc P .skip F s=F .normal s:=rfl
theorem CY {id:Nat} {ops:Array Oper}:vc P (.region id ops false) F ⟨e,b,n⟩=nq P ops n ops.toList 0 (F .normal) ⟨e,b,n⟩:=rfl
theorem QY {x y:Code}:vc P (.seq x y) F s=vc P x (fI (vc P y F) F) s:=rfl
theorem Mf {c:Operand} {x y:Code}:vc P (.cond c x y) F s=lM (s.aS c) (vc P x F) (vc P y F) s:=rfl
theorem GI {id:Nat} {c:Code}:vc P (.block id c) F s=vc P c (fh id F) s:=rfl
theorem Mg {c:Code}:vc P (.loop c) F s=kv (vc P c) F s:=rfl
theorem Mh {id:Nat}:vc P (.exit id) F s=F (.exit id) s:=rfl
theorem QZ:vc P .ret F s=F .ret s:=rfl
theorem xg {K:AS→Prop}:fI K F .normal s=K s:=rfl
theorem CZ {K:AS→Prop} {id:Nat}:fI K F (.exit id) s=F (.exit id) s:=rfl
theorem GJ {K:AS→Prop}:fI K F .ret s=F .ret s:=rfl
theorem xh {id id':Nat}:fh id F (.exit id') s=if id'=id then F .normal s else F (.exit id') s:=rfl
theorem rU {id:Nat}:fh id F .normal s=F .normal s:=rfl
theorem y8 {id:Nat}:fh id F .ret s=F .ret s:=rfl
theorem GK {rs:List ResultVar} {Post:AV→AS→Prop}:kA P rs Post .ret s=qm (kr (gQ P s rs)) Post s:=rfl
theorem xk {rs:List ResultVar} {Post:AV→AS→Prop}:kA P rs Post .normal s=qm (kr (gQ P s rs)) Post s:=rfl
theorem y9:gQ P s []=some []:=rfl
theorem xl {r:ResultVar} {rs:List ResultVar}:gQ P s (r::rs)=QT (vy P s r) (gQ P s rs):=by
 unfold QT;rfl
theorem za {t:Nat}:vy P ⟨e,b,n⟩ (.tmp t)=aaT (e t):=rfl
theorem xm {t ty:Nat}:vy P ⟨e,b,n⟩ (.cell t ty)=aaU (fe P ⟨e,b,n⟩ ty (e t)):=rfl
theorem C0 {c:CV}:aaT (some (.inl c))=some c:=rfl
theorem C2 {c:CV} {m:Mem}:aaU (some (some (.inl c),m))=some c:=rfl
theorem zb {c:CV} {l:List CV}:QT (some c) (some l)=some (c::l):=rfl
theorem C4 {c:CV}:kr (some [c])=some (.inl c):=rfl
theorem C5 {c d:CV} {l:List CV}:kr (some (c::d::l))=some (.inr (c::d::l)):=rfl
theorem zc:kr (some [])=some (.inr []):=rfl
theorem C6 {v:AV} {Post:AV→AS→Prop}:qm (some v) Post s=Post v s:=rfl
variable {ops:Array Oper} {base i:Nat} {rest:List Oper} {op:Op}
theorem Mi:nq P ops base [] i K ⟨e,b,n⟩=K ⟨e,b,base+i⟩:=rfl
theorem GL:nq P ops base (⟨dst,op,ty,pos,after,none⟩::rest) i K s=cw P (base+i) ⟨dst,op,ty,pos,after,none⟩ (nq P ops base rest (i+1) K) s:=rfl
theorem C8 {j:Nat} {want:Bool}:nq P ops base (⟨dst,op,ty,pos,after,some (j,want)⟩::rest) i K s=
  EL P (ql (gi ops s j) want) want (base+i) ⟨dst,op,ty,pos,after,some (j,want)⟩ (nq P ops base rest (i+1) K) s:=rfl
variable {o:Oper}
theorem aa1:EL P (some (B true)) true nm o K s=cw P nm o K s:=by simp[EL,gy]
theorem aa2:EL P (some (B false)) false nm o K s=cw P nm o K s:=by simp[EL,gy]
theorem aa3:EL P (some (B true)) false nm ⟨dst,op,ty,pos,after,gd⟩ K s=K (s.put dst (some (V undef))):=by simp[EL,gy]
theorem aa4:EL P (some (B false)) true nm ⟨dst,op,ty,pos,after,gd⟩ K s=K (s.put dst (some (V undef))):=by simp[EL,gy]
theorem Wx:wT P ops i (some (B true)) true nm o K s=wR P ops i nm o K s:=by simp[wT,gy]
theorem Wy:wT P ops i (some (B false)) false nm o K s=wR P ops i nm o K s:=by simp[wT,gy]
theorem Wz:wT P ops i (some (B false)) true nm ⟨dst,op,ty,pos,after,gd⟩ K s=K (s.put dst (some (V undef))):=by simp[wT,gy]
theorem aa5 {want x:Bool}:ql (some (B x)) want=some (B x):=rfl
theorem WA:ql (some (V undef)) true=some (B false):=rfl
theorem WB:ql (some (V undef)) false=some (B true):=rfl
theorem run_move {x:Operand}:cw P nm ⟨dst, .move x,ty,pos,after,gd⟩ K s=oH (s.aS x) dst K s:=by
 simp only[cw,ea,oH];cases s.aS x<;>rfl
theorem run_assign {x:Operand}:cw P nm ⟨dst, .assign x,ty,pos,after,gd⟩ K s=oH (s.aS x) dst K s:=by
 simp only[cw,ea,oH];cases s.aS x<;>rfl
theorem C9 {t:Nat}:cw P nm ⟨dst, .alloc t,ty,pos,after,gd⟩ K s=bL (iA P nm t) nm dst K s:=rfl
theorem Mj {t:Nat} {x:Operand}:cw P nm ⟨dst, .box t x,ty,pos,after,gd⟩ K s=bL (sB nm (s.aS x)) nm dst K s:=rfl
theorem run_build {t:Nat} {l:List (Nat×Operand)}:cw P nm ⟨dst, .build t l.toArray,ty,pos,after,gd⟩ K s=bL (fW P t s l) nm dst K s:=rfl
theorem run_load {t:Nat} {x:Operand}:cw P nm ⟨dst, .load t x,ty,pos,after,gd⟩ K s=bL (fe P s t (s.aS x)) nm dst K s:=rfl
theorem run_store {t:Nat} {x y:Operand}:cw P nm ⟨dst, .store t x y,ty,pos,after,gd⟩ K s=bL (eU P s t (s.aS x) (s.aS y)) nm dst K s:=rfl
theorem Da {o:BinOp} {t u:Nat} {x y:Operand}:cw P nm ⟨dst, .binOp o t x y u,ty,pos,after,gd⟩ K s=bL (uA P o t y (s.aS x) (s.aS y)) nm dst K s:=rfl
theorem GM {xs:List Operand} {tys:List TypeId}:cw P nm ⟨dst, .call ⟨.builtin .len,xs.toArray,tys.toArray⟩,ty,pos,after,gd⟩ K s=bL (eM (qg P tys) (bq s xs)) nm dst K s:=rfl
theorem GN {o:UnOp} {t:Nat} {x:Operand}:cw P nm ⟨dst, .unOp o t x,ty,pos,after,gd⟩ K s=bL (qf o (s.aS x)) nm dst K s:=rfl
theorem xn {t u:Nat} {x:Operand}:cw P nm ⟨dst, .convert t u x,ty,pos,after,gd⟩ K s=bL (jm P s t u (s.aS x)) nm dst K s:=rfl
theorem rV {t f:Nat} {x:Operand}:cw P nm ⟨dst, .fieldAddr t x f,ty,pos,after,gd⟩ K s=bL (fg P t f (s.aS x)) nm dst K s:=rfl
theorem rW {t:Nat} {x y:Operand}:cw P nm ⟨dst, .indexAddr t x y,ty,pos,after,gd⟩ K s=bL (c9 P t (s.aS x) (s.aS y)) nm dst K s:=rfl
theorem Db {t:Nat} {x y:Operand}:cw P nm ⟨dst, .index t x y,ty,pos,after,gd⟩ K s=bL (jk P t (s.aS x) (s.aS y)) nm dst K s:=rfl
theorem xp {x:Operand} {k:Nat}:cw P nm ⟨dst, .extract x k,ty,pos,after,gd⟩ K s=bL (iB (s.aS x) k) nm dst K s:=rfl
theorem GQ {x y z:Operand}:cw P nm ⟨dst, .pick x y z,ty,pos,after,gd⟩ K s=bL (oD (s.aS x) (s.aS y) (s.aS z)) nm dst K s:=rfl
theorem Dc {x y:Option AV}:oD (some (B true)) x y=CN x:=rfl
theorem zd {x y:Option AV}:oD (some (B false)) x y=CN y:=rfl
theorem ze {v:AV}:CN (some v)=some (some v,none):=rfl
theorem Dd {f:Nat} {xs:List Operand} {tys:Array TypeId}:cw P nm ⟨dst, .call ⟨.value (.func f),xs.toArray,tys⟩,ty,pos,after,gd⟩ K s=
  if ak P f=true then av P nm f (bq s xs) dst K s else n6 P f (bq s xs) dst K s:=rfl
theorem zf {xs:List Operand} {tys:Array TypeId}:cw P nm ⟨dst, .call ⟨.builtin .append,xs.toArray,tys⟩,ty,pos,after,gd⟩ K s=
  cp P nm .append tys ty (xs.toArray.map isConst) (bq s xs) dst K s:=rfl
theorem GR:bq s []=some []:=rfl
theorem De {x:Operand} {xs:List Operand}:bq s (x::xs)=Ws (s.aS x) (bq s xs):=rfl
theorem zg {v:AV} {l:List AV}:Ws (some v) (some l)=some (v::l):=rfl
theorem GU {t:Nat}:AS.aS ⟨e,b,n⟩ (.tmp t)=e t:=rfl
theorem GV {k:IntKind} {x:Int}:AS.aS s (.const (.int k x))=some (I k x):=rfl
theorem Df {x:Bool}:AS.aS s (.const (.bool x))=some (B x):=rfl
theorem zh {a:Option Addr} {l c:Nat}:AS.aS s (.const (.slice a l c))=some (V (.slice a l c)):=rfl
theorem Dg {f:Nat}:AS.aS s (.func f)=some (V (.func (.func f) #[] #[])):=rfl
theorem Dh {v:AV}:oH (some v) dst K s=K (s.put dst (some v)):=rfl
theorem Mk {v:Option AV}:bL (some (v,none)) nm dst K s=K (s.put dst v):=rfl
theorem Ml {v:Option AV} {cs:List SV}:bL (some (v,some (.inl cs))) nm dst K ⟨e,b,n⟩=K (AS.put ⟨e,upd b nm (some ⟨true,cs⟩),n⟩ dst v):=rfl
theorem Q0 {v:Option AV} {t:Nat} {bx:aI}:bL (some (v,some (.inr (t,bx)))) nm dst K ⟨e,b,n⟩=K (AS.put ⟨e,upd b t (some bx),n⟩ dst v):=rfl
theorem GX {t:Nat} {v:Option AV}:AS.put ⟨e,b,n⟩ (some t) v=⟨upd e t v,b,n⟩:=rfl
theorem GY {v:Option AV}:AS.put s none v=s:=rfl
variable {k k':IntKind} {x y:Int}
theorem Mm:cJ .add (some (I k x)) (some (I k y))=some (some (I k (k.wrap (x+y))),none):=by simp[cJ,nU]
theorem Mn:cJ .sub (some (I k x)) (some (I k y))=some (some (I k (k.wrap (x - y))),none):=by simp[cJ,nU]
theorem Mp:cJ .mul (some (I k x)) (some (I k y))=some (some (I k (k.wrap (x*y))),none):=by simp[cJ,nU]
theorem Mq:cJ .quo (some (I k x)) (some (I k y))=if y≠0 then some (some (I k (k.wrap (x.tdiv y))),none) else none:=by
 simp only[cJ,nU];by_cases h:y=0<;>simp[h]
theorem Mr:cJ .rem (some (I k x)) (some (I k y))=if y≠0 then some (some (I k (x.tmod y)),none) else none:=by
 simp only[cJ,nU];by_cases h:y=0<;>simp[h]
theorem Ms:cJ .and (some (I k x)) (some (I k y))=some (some (I k (fu .and k x y)),none):=by simp[cJ,nU]
theorem Q5:cJ .or (some (I k x)) (some (I k y))=some (some (I k (fu .or k x y)),none):=by simp[cJ,nU]
theorem Mt:cJ .xor (some (I k x)) (some (I k y))=some (some (I k (fu .xor k x y)),none):=by simp[cJ,nU]
theorem Mu:cJ .eql (some (I k x)) (some (I k y))=some (some (B (x==y)),none):=by simp[cJ,nU]
theorem Mv:cJ .neq (some (I k x)) (some (I k y))=some (some (B (x != y)),none):=by simp[cJ,nU]
theorem Mw:cJ .lss (some (I k x)) (some (I k y))=some (some (B (decide (x < y))),none):=by simp[cJ,nU]
theorem Mx:cJ .leq (some (I k x)) (some (I k y))=some (some (B (decide (x≤y))),none):=by simp[cJ,nU]
theorem My:cJ .gtr (some (I k x)) (some (I k y))=some (some (B (decide (y < x))),none):=by simp[cJ,nU]
theorem Mz:cJ .geq (some (I k x)) (some (I k y))=some (some (B (decide (y≤x))),none):=by simp[cJ,nU]
theorem MA:cJ .shl (some (I k x)) (some (I k' y))=if 0≤y then some (some (I k (lK k x y)),none) else none:=by
 simp only[cJ,nU,true_or,or_true,if_true];by_cases h:0≤y<;>simp[h]
theorem MB:cJ .shr (some (I k x)) (some (I k' y))=if 0≤y then some (some (I k (dK k x y)),none) else none:=by
 simp only[cJ,nU,or_true,if_true];by_cases h:0≤y<;>simp[h]
theorem Q6 {x:Bool}:qf .not (some (B x))=some (some (B (!x)),none):=rfl
theorem Q7:qf .neg (some (I k x))=some (some (I k (k.wrap (0 - x))),none):=rfl
theorem Q8:qf .xor (some (I k x))=some (some (I k (fu .xor k (if k.signed then -1 else k.max) x)),none):=rfl
theorem GZ {t u:Nat}:jm P s t u (some (I k' x))=cvK x (kindOf P t) (kindOf P u):=by
 show iC P t u (some (I k' x))=_
 cases h1:kindOf P t<;>cases h2:kindOf P u<;>simp[iC,cvK,h1,h2]
theorem G0:cvK x (some k') (some k)=some (some (I k (k.wrap x)),none):=rfl
theorem G1 {t bx o:Nat}:fe P ⟨e,b,n⟩ t (some (Ptr bx o))=ldB (eY P t) (b bx) o:=rfl
theorem MC {m:Nat} {rw:Bool} {cs:List SV} {o:Nat}:ldB (some (true,m)) (some ⟨rw,cs⟩) o=if o+m≤cs.length then some (some (Ag ((cs.drop o).take m)),none) else none:=rfl
theorem MD {m:Nat} {rw:Bool} {cs:List SV} {o:Nat}:ldB (some (false,m)) (some ⟨rw,cs⟩) o=ldC cs[o]? :=rfl
theorem G2 {v:SV}:ldC (some v)=some (some (.inl (.inl v)),none):=rfl
theorem Di {k:IntKind} {x:Int}:cellsOf (some (I k x))=some [Sum.inl (.int k x)]:=rfl
theorem zj {x:Bool}:cellsOf (some (B x))=some [Sum.inl (.bool x)]:=rfl
theorem xq {a:Option Addr} {l c:Nat}:cellsOf (some (V (.slice a l c)))=some [Sum.inl (.slice a l c)]:=rfl
theorem G3 {t o l c:Nat}:cellsOf (some (Sl t o l c))=some [Sum.inr (.inr (t,o,l,c))]:=rfl
theorem Dj {l:List SV}:cellsOf (some (Ag l))=some l:=rfl
theorem Dk {t bx o:Nat} {v:Option AV}:eU P ⟨e,b,n⟩ t (some (Ptr bx o)) v=YX bx o (cellsOf v) (eY P t) (b bx):=by
 cases h1:cellsOf v with
 | none=>simp[eU,YX,h1]
 | some new=>
  cases h2:eY P t with
  | none=>simp[eU,YX,h1,h2]
  | some p=>
   cases h3:b bx with
   | none=>simp[eU,YX,h1,h2,h3]
   | some x=>simp[eU,YX,h1,h2,h3]
theorem G4 {bx o m:Nat} {new cs:List SV} {ag:Bool}:YX bx o (some new) (some (ag,m)) (some ⟨true,cs⟩)=
  if o+new.length≤cs.length∧new.length=m then some (none,some (.inr (bx,⟨true,splice cs o new⟩))) else none:=by
 simp[YX]
theorem zk {t:Nat}:iA P nm t=alZ nm (zeroOf P t):=rfl
theorem G5 {z:List Value}:alZ nm (some z)=if z.all Value.oneCell'=true then some (some (Ptr nm 0),some (.inl (z.map .inl))) else none:=rfl
theorem Dl {v:AV}:sB nm (some v)=bxC nm (cellsOf (some v)):=rfl
theorem G6 {l:List SV}:bxC nm (some l)=some (some (Ptr nm 0),some (.inl l)):=rfl
theorem rX {t f bx o:Nat}:fg P t f (some (Ptr bx o))=faP bx o (cm P t f):=by
 unfold fg faP;split<;>simp_all
theorem G7 {bx o fo m:Nat} {ag:Bool}:faP bx o (some (fo,ag,m+1))=some (some (Ptr bx (o+fo)),none):=rfl
theorem zm {t bx o:Nat} {j:Int}:c9 P t (some (Ptr bx o)) (some (I k j))=iaP bx o j (lJ P t):=by
 unfold c9 iaP;rfl
theorem G8 {bx o m z:Nat} {j:Int}:iaP bx o j (some (m,z))=if 0≤j∧j < m then some (some (Ptr bx (o+j.toNat*z)),none) else none:=rfl
theorem Dm {t bx o m c:Nat} {j:Int}:c9 P t (some (Sl bx o m c)) (some (I k j))=isP bx o m j (cn.elemOf P t):=by
 unfold c9 isP;rfl
theorem G9 {bx o m z:Nat} {j:Int}:isP bx o m j (some z)=if 0≤j∧j < m then some (some (Ptr bx (o+j.toNat*z)),none) else none:=rfl
theorem Q9 {t:Nat} {l:List SV} {j:Int}:jk P t (some (Ag l)) (some (I k j))=ixP l j (CM P t):=by
 unfold jk ixP
 cases h:CM P t with
 | none=>rfl
 | some p=>obtain ⟨m,ag,z⟩:=p;cases ag<;>rfl
theorem ME {l:List SV} {j:Int} {m z:Nat}:ixP l j (some (m,false,z))=ixC j m l[j.toNat*z]? :=by
 cases h:l[j.toNat*z]? <;>simp[ixP,ixC,h]
theorem Ha {j:Int} {m:Nat} {v:SV}:ixC j m (some v)=if 0≤j∧j < m then some (some (.inl (.inl v)),none) else none:=rfl
theorem xr {l:List CV} {k:Nat}:iB (some (.inr l)) k=exC l[k]? :=rfl
theorem Hb {c:CV}:exC (some c)=some (some (.inl c),none):=rfl
theorem xt {t:Nat} {l:List (Nat×Operand)}:fW P t s l=bdB P t s l (fM P t):=by
 cases h:fM P t with
 | none=>simp[fW,bdB,h]
 | some z=>simp only[fW,bdB,h];cases gq P t s z l<;>rfl
theorem Hc {t:Nat} {l:List (Nat×Operand)} {z:List SV}:bdB P t s l (some z)=bdF (gq P t s z l):=rfl
theorem Hd {l:List SV}:bdF (some l)=some (some (Ag l),none):=rfl
theorem MF {c:Prop} [Decidable c] {x:Option (List SV)} {K:AS→Prop}:bL (bdF (if c then x else none)) nm dst K s=(c∧bL (bdF x) nm dst K s):=by
 split<;>simp_all [bL,bdF]
theorem He {t:Nat} {cs:List SV}:gq P t s cs []=some cs:=rfl
theorem Dn {t j:Nat} {x:Operand} {cs:List SV} {l:List (Nat×Operand)}:gq P t s cs ((j,x)::l)=fiP P t s cs l (cellsOf (s.aS x)) (placeOf P t j):=by
 cases h:placeOf P t j with
 | none=>simp[gq,fiP,h]
 | some p=>obtain ⟨o,m⟩:=p;simp only[gq,fiP,h];cases cellsOf (s.aS x)<;>rfl
theorem Hf {t:Nat} {cs new:List SV} {o m:Nat} {l:List (Nat×Operand)}:fiP P t s cs l (some new) (some (o,m))=if new.length=m∧o+m≤cs.length then gq P t s (splice cs o new) l else none:=rfl
theorem zn {l:List Oper} {j:Nat}:gi l.toArray ⟨e,b,n⟩ j=gdO e l[j]? :=by
 unfold gi gdO
 simp only[List.getElem?_toArray]
 cases l[j]? <;>rfl
theorem Hg {d:Nat}:gdO e (some ⟨some d,op,ty,pos,after,gd⟩)=e d:=rfl
theorem MG {id:Nat} {ops:Array Oper}:vc P (.region id ops true) F ⟨e,b,n⟩=((P.follows .mixedOrders=true∧EM ops=true)∧jC P ops n ops.toList 0 (F .normal) ⟨e,b,n⟩):=rfl
theorem Hh:jC P ops base [] i K ⟨e,b,n⟩=K ⟨e,b,base+i⟩:=rfl
theorem Dp:jC P ops base (⟨dst,op,ty,pos,after,none⟩::rest) i K s=wR P ops i (base+i) ⟨dst,op,ty,pos,after,none⟩ (jC P ops base rest (i+1) K) s:=rfl
theorem zo {j:Nat} {want:Bool}:jC P ops base (⟨dst,op,ty,pos,after,some (j,want)⟩::rest) i K s=
  wT P ops i (ql (gi ops s j) want) want (base+i) ⟨dst,op,ty,pos,after,some (j,want)⟩ (jC P ops base rest (i+1) K) s:=by
 show Gt P ops i (base+i) ⟨dst,op,ty,pos,after,some (j,want)⟩ (jC P ops base rest (i+1) K) s=_
 generalize jC P ops base rest (i+1) K=K'
 simp only[Gt,Does,oa,yc,wT,gy,wR]
 generalize ql (gi ops s j) want=q
 have none: ∀ (X:dU→Prop) (Y:(dU→Prop)→Prop) (c d:Prop),((∃ ef,False∧X ef)∨(c∧ ∃ D,False∧Y D)∨(d∧False))=False:=fun X Y c d=>by simp
 rcases q with _ | (((v | v) | l) | l)<;>try exact none _ _ _ _
 cases v<;>try exact none _ _ _ _
 rename_i x
 rw[eq_iff_iff]
 constructor
 ·rintro (⟨ef,⟨h1,h2⟩,hk⟩ | ⟨hl,D,⟨h1,h2⟩,hk⟩ | ⟨hb,h1,h2⟩)
  ·refine ⟨fun hw=> .inl ⟨ef,h1 hw,hk⟩,fun hw=> ?_⟩
   rw[h2 hw]at hk
   exact hk
  ·refine ⟨fun hw=> .inr (.inl ⟨hl,D,h1 hw,hk⟩),fun hw=> ?_⟩
   exact hk (some (V undef),Option.none) (by rw[h2 hw])
  ·exact ⟨fun hw=> .inr (.inr ⟨hb,h1 hw⟩),h2⟩
 ·rintro ⟨h1,h2⟩
  by_cases hw:x=want
  ·rcases h1 hw with ⟨ef,hd,hk⟩ | ⟨hl,D,hd,hk⟩ | ⟨hb,hk⟩
   ·exact .inl ⟨ef,⟨fun _=>hd,fun hx=>absurd hw hx⟩,hk⟩
   ·exact .inr (.inl ⟨hl,D,⟨fun _=>hd,fun hx=>absurd hw hx⟩,hk⟩)
   ·exact .inr (.inr ⟨hb,fun _=>hk,fun hx=>absurd hw hx⟩)
  ·exact .inl ⟨(some (V undef),Option.none),⟨fun hx=>absurd hx hw,fun _=>rfl⟩,h2 hw⟩
theorem gA {o:Oper} {ef:Option dU} (h1: ∀ x,kQ P nm o s x=(ef=some x)) (h2: ∀ D, ¬ jW P nm o s D) (h3:cw P nm o K s=bL ef nm o.dst K s):wR P ops i nm o K s=bL ef nm o.dst K s:=by
 unfold wR
 rw[h3]
 simp only[h1,h2,false_and,exists_false,and_false,false_or]
 cases ef with
 | none=>simp[bL]
 | some x=>simp[bL,app]
theorem Dq {t:Nat}:wR P ops i nm ⟨dst, .alloc t,ty,pos,after,gd⟩ K s=bL (iA P nm t) nm dst K s:=gA (fun _=>rfl) (fun _ h=>h) rfl
theorem Dr {t:Nat} {l:List (Nat×Operand)}:wR P ops i nm ⟨dst, .build t l.toArray,ty,pos,after,gd⟩ K s=bL (fW P t s l) nm dst K s:=gA (fun _=>rfl) (fun _ h=>h) rfl
theorem Hj {t:Nat} {x:Operand}:wR P ops i nm ⟨dst, .load t x,ty,pos,after,gd⟩ K s=bL (fe P s t (s.aS x)) nm dst K s:=gA (fun _=>rfl) (fun _ h=>h) rfl
theorem Ds {t:Nat} {x y:Operand}:wR P ops i nm ⟨dst, .store t x y,ty,pos,after,gd⟩ K s=bL (eU P s t (s.aS x) (s.aS y)) nm dst K s:=gA (fun _=>rfl) (fun _ h=>h) rfl
theorem Dt {o:BinOp} {t u:Nat} {x y:Operand}:wR P ops i nm ⟨dst, .binOp o t x y u,ty,pos,after,gd⟩ K s=bL (uA P o t y (s.aS x) (s.aS y)) nm dst K s:=gA (fun _=>rfl) (fun _ h=>h) rfl
theorem Hl {o:UnOp} {t:Nat} {x:Operand}:wR P ops i nm ⟨dst, .unOp o t x,ty,pos,after,gd⟩ K s=bL (qf o (s.aS x)) nm dst K s:=gA (fun _=>rfl) (fun _ h=>h) rfl
theorem xu {t u:Nat} {x:Operand}:wR P ops i nm ⟨dst, .convert t u x,ty,pos,after,gd⟩ K s=bL (jm P s t u (s.aS x)) nm dst K s:=gA (fun _=>rfl) (fun _ h=>h) rfl
theorem rY {t f:Nat} {x:Operand}:wR P ops i nm ⟨dst, .fieldAddr t x f,ty,pos,after,gd⟩ K s=bL (fg P t f (s.aS x)) nm dst K s:=gA (fun _=>rfl) (fun _ h=>h) rfl
theorem rZ {t:Nat} {x y:Operand}:wR P ops i nm ⟨dst, .indexAddr t x y,ty,pos,after,gd⟩ K s=bL (c9 P t (s.aS x) (s.aS y)) nm dst K s:=gA (fun _=>rfl) (fun _ h=>h) rfl
theorem MH {xs:List Operand} {tys:List TypeId}:wR P ops i nm ⟨dst, .call ⟨.builtin .len,xs.toArray,tys.toArray⟩,ty,pos,after,gd⟩ K s=bL (eM (qg P tys) (bq s xs)) nm dst K s:=gA (fun _=>rfl) (fun _ h=>h) rfl
theorem Hm {x y z:Operand}:wR P ops i nm ⟨dst, .pick x y z,ty,pos,after,gd⟩ K s=bL (oD (s.aS x) (s.aS y) (s.aS z)) nm dst K s:=gA (fun _=>rfl) (fun _ h=>h) rfl
theorem Hn {x:Operand}:wR P ops i nm ⟨dst, .move x,ty,pos,after,gd⟩ K s=oH (s.aS x) dst K s:=by
 refine Eq.trans (b:=bL (ea P nm s (.move x)) nm dst K s) (gA (fun _=>rfl) (fun _ h=>h) rfl) ?_
 simp only[ea,oH];cases s.aS x<;>rfl
theorem zp {x:Operand}:wR P ops i nm ⟨dst, .assign x,ty,pos,after,gd⟩ K s=oH (s.aS x) dst K s:=by
 refine Eq.trans (b:=bL (ea P nm s (.assign x)) nm dst K s) (gA (fun _=>rfl) (fun _ h=>h) rfl) ?_
 simp only[ea,oH];cases s.aS x<;>rfl
theorem Du {t:Nat} {x:Operand} {lo hi:Option Operand}:wR P ops i nm ⟨dst, .slice t x lo hi none,ty,pos,after,gd⟩ K s=bL (gD (uB P t) (s.aS x) (gN s lo) (gN s hi)) nm dst K s:=gA (fun _=>rfl) (fun _ h=>h) rfl
theorem Ho {t:Nat} {x y:Operand}:wR P ops i nm ⟨dst, .makeSlice t x y,ty,pos,after,gd⟩ K s=bL (iQ nm (pT P t) (s.aS x) (s.aS y)) nm dst K s:=gA (fun _=>rfl) (fun _ h=>h) rfl
theorem zq {t n:Nat} {l:List (Nat×Operand)}:wR P ops i nm ⟨dst, .buildSlice t n l.toArray,ty,pos,after,gd⟩ K s=bL (eZ nm (pT P t) n s l) nm dst K s:=gA (fun _=>rfl) (fun _ h=>h) rfl
theorem zr {xs:List Operand} {tys:Array TypeId}:wR P ops i nm ⟨dst, .call ⟨.builtin .append,xs.toArray,tys⟩,ty,pos,after,gd⟩ K s=
  (bar ops i=true∧cp P nm .append tys ty (xs.toArray.map isConst) (bq s xs) dst K s):=by
 rw[eq_iff_iff]
 constructor
 ·rintro (⟨e,h,_⟩ | ⟨_,D,h,_⟩ | h)
  ·exact h.elim
  ·exact h.elim
  ·exact h
 ·exact fun h=> .inr (.inr h)
theorem Hq {xs:List Operand} {tys:Array TypeId}:wR P ops i nm ⟨dst, .call ⟨.builtin .copy,xs.toArray,tys⟩,ty,pos,after,gd⟩ K s=
  (bar ops i=true∧cp P nm .copy tys ty (xs.toArray.map isConst) (bq s xs) dst K s):=by
 rw[eq_iff_iff]
 constructor
 ·rintro (⟨e,h,_⟩ | ⟨_,D,h,_⟩ | h)
  ·exact h.elim
  ·exact h.elim
  ·exact h
 ·exact fun h=> .inr (.inr h)
theorem Hr {f:Nat} {xs:List Operand} {tys:Array TypeId}:wR P ops i nm ⟨dst, .call ⟨.value (.func f),xs.toArray,tys⟩,ty,pos,after,gd⟩ K s=km P ops i nm f (bq s xs) dst K s:=by
 rw[eq_iff_iff]
 constructor
 ·rintro (⟨ef,⟨l,r,h1,h2,rfl⟩ | h,hk⟩ | ⟨hl,D,hD,hk⟩ | ⟨hb,hk⟩)
  ·exact .inl ⟨l,r,h1,h2,hk⟩
  ·exact .inr (.inl ⟨ef,h,hk⟩)
  ·exact .inr (.inr (.inl ⟨hl,D,hD,hk⟩))
  ·exact .inr (.inr (.inr ⟨hb,hk⟩))
 ·rintro (⟨l,r,h1,h2,hk⟩ | ⟨e,h,hk⟩ | ⟨hl,D,hD,hk⟩ | ⟨hb,hk⟩)
  ·exact .inl ⟨_, .inl ⟨l,r,h1,h2,rfl⟩,hk⟩
  ·exact .inl ⟨e, .inr h,hk⟩
  ·exact .inr (.inl ⟨hl,D,hD,hk⟩)
  ·exact .inr (.inr ⟨hb,hk⟩)
theorem Dv {t:Nat} {x:Operand} {lo hi:Option Operand}:cw P nm ⟨dst, .slice t x lo hi none,ty,pos,after,gd⟩ K s=bL (gD (uB P t) (s.aS x) (gN s lo) (gN s hi)) nm dst K s:=rfl
theorem Dw {t:Nat} {x y:Operand}:cw P nm ⟨dst, .makeSlice t x y,ty,pos,after,gd⟩ K s=bL (iQ nm (pT P t) (s.aS x) (s.aS y)) nm dst K s:=rfl
theorem zt {t n:Nat} {l:List (Nat×Operand)}:cw P nm ⟨dst, .buildSlice t n l.toArray,ty,pos,after,gd⟩ K s=bL (eZ nm (pT P t) n s l) nm dst K s:=rfl
theorem Ht:gN s none=some none:=rfl
theorem Hu {x:Operand}:gN s (some x)=Y4 (s.aS x):=by
 unfold gN Y4;rfl
theorem Hw {x:Int}:Y4 (some (I k x))=some (some x):=rfl
theorem MI {b' o' n' c z:Nat} {l:Int} {hi:Option Int}:gD (some (none,z)) (some (Sl b' o' n' c)) (some (some l)) (some hi)=Qw b' o' c z l (hi.getD n'):=rfl
theorem MJ {b' o' n' c z:Nat} {hi:Option Int}:gD (some (none,z)) (some (Sl b' o' n' c)) (some none) (some hi)=slU b' o' c (hi.getD n'):=GH
theorem MK {b' o' m z:Nat} {l:Int} {hi:Option Int}:gD (some (some m,z)) (some (Ptr b' o')) (some (some l)) (some hi)=Qw b' o' m z l (hi.getD m):=rfl
theorem ML {b' o' m z:Nat} {hi:Option Int}:gD (some (some m,z)) (some (Ptr b' o')) (some none) (some hi)=slU b' o' m (hi.getD m):=GH
theorem MN {b' o' c z:Nat} {l h:Int}:Qw b' o' c z l h=if 0≤l∧l≤h∧h≤c then some (some (Sl b' (if c=l.toNat then o' else o'+l.toNat*z) (h.toNat - l.toNat) (c - l.toNat)),none) else none:=rfl
theorem MO {b' o' c:Nat} {h:Int}:slU b' o' c h=if 0≤h∧h≤c then some (some (Sl b' o' h.toNat c),none) else none:=rfl
theorem Hx {mA:Nat} {k k1 k2:IntKind} {l c:Int}:iQ nm (some ([Value.int k 0],1,mA)) (some (I k1 l)) (some (I k2 c))=
  if 0≤l∧l≤c∧(mA:Int)*c≤281474976710656∧c≤9223372036854775807 then some (some (Sl nm 0 l.toNat c.toNat),some (.inl (ai k c.toNat fun _=>0))) else none:=by
 simp only[iQ,Nat.mul_one,sF]
 congr 1
 simp[Value.oneCell']
theorem xv {z:List Value} {sz mA len:Nat} {l:List (Nat×Operand)}:eZ nm (some (z,sz,mA)) len s l=
  if len*sz≤16777216∧0 < z.length∧z.all Value.oneCell'=true then bsF nm len (gu sz s (dS z (len*sz)) l) else none:=by
 simp only[eZ]
 congr 1
theorem Hy {len:Nat} {l:List SV}:bsF nm len (some l)=some (some (Sl nm 0 len len),some (.inl l)):=rfl
theorem MP {c:Prop} [Decidable c] {x:Option (List SV)} {len nm':Nat} {K:AS→Prop}:bL (bsF nm len (if c then x else none)) nm' dst K s=(c∧bL (bsF nm len x) nm' dst K s):=by
 split<;>simp_all [bL,bsF]
theorem Dx {z:Nat} {cs:List SV}:gu z s cs []=some cs:=rfl
theorem zu {z j:Nat} {x:Operand} {cs:List SV} {l:List (Nat×Operand)}:gu z s cs ((j,x)::l)=fsP z s cs j l (cellsOf (s.aS x)):=by
 simp only[gu,fsP];cases cellsOf (s.aS x)<;>rfl
theorem Hz {z j:Nat} {cs new:List SV} {l:List (Nat×Operand)}:fsP z s cs j l (some new)=if new.length=z∧j*z+z≤cs.length then gu z s (splice cs (j*z) new) l else none:=rfl
theorem Dy {c:Prop} [Decidable c] {ef:Option dU}:bL (if c then ef else none) nm dst K s=(c∧bL ef nm dst K s):=by
 split<;>simp_all [bL]
theorem xw {m:Nat}:AS.aS s (.global m)=some (V (.pointer (some ⟨m,0,none⟩))):=rfl
theorem HA {t m o:Nat}:fe P ⟨e,b,n⟩ t (some (V (.pointer (some ⟨m,o,none⟩))))=ldB (eY P t) (Tables.row P m) o:=rfl
theorem zv {t m o:Nat} {j:Int}:c9 P t (some (V (.pointer (some ⟨m,o,none⟩)))) (some (I k j))=iaT m o j (lJ P t):=by
 unfold c9 iaT;rfl
theorem HB {m o l z:Nat} {j:Int}:iaT m o j (some (l,z))=if 0≤j∧j < l then some (some (V (.pointer (some ⟨m,o+j.toNat*z,none⟩))),none) else none:=rfl
theorem Ra {o:BinOp} {t c:Nat} {u v:Option AV}:uA P o t (.tmp c) u v=nV P o t u v:=rfl
theorem Rb {o:BinOp} {t:Nat} {c:IntKind} {z:Int} {u v:Option AV}:uA P o t (.const (.int c z)) u v=nV P o t u v:=rfl
theorem Rc {o:BinOp} {t:Nat} {u v:Option AV}:uA P o t (.const .nilIface) u v=rR o (isIface P t) u:=rfl
theorem WC:rR .neq true (some (V .nilIface))=some (some (B false),none):=rfl
theorem WD:rR .eql true (some (V .nilIface))=some (some (B true),none):=rfl
theorem WE {t:TypeId} {v:Value}:rR .neq true (some (V (.iface t v)))=some (some (B true),none):=rfl
theorem WG {t:TypeId} {v:Value}:rR .eql true (some (V (.iface t v)))=some (some (B false),none):=rfl
theorem sb:AS.aS s (.const .nilIface)=some (V .nilIface):=rfl
theorem Rd {o:BinOp} {t:Nat}:nV P o t (some (I k x)) (some (I k' y))=cJ o (some (I k x)) (some (I k' y)):=rfl
theorem MQ {o:BinOp} {t:Nat} {p q:Bool}:nV P o t (some (B p)) (some (B q))=QG o (isBool P t) p q:=rfl
theorem Rf {o:BinOp} {t:Nat} {l l':List SV}:nV P o t (some (Ag l)) (some (Ag l'))=eqA o (mr P t) (L8 P t) l l':=rfl
theorem HC {o:BinOp} {m:Nat} {q:Option (List (Nat×Nat×IntKind))} {l l':List SV}:eqA o (some (m,k)) q l l'=Wr o m (gC k l) (gC k l'):=rfl
theorem Ve {m:Nat} {p q:List Int}:Wr .eql m (some p) (some q)=if p.length=m∧q.length=m then some (some (B (decide (p=q))),none) else none:=rfl
theorem Vf {m:Nat} {p q:List Int}:Wr .neq m (some p) (some q)=if p.length=m∧q.length=m then some (some (B (!decide (p=q))),none) else none:=rfl
theorem MR {p q:Bool}:QG .neq true p q=some (some (B (!(p==q))),none):=rfl
theorem Rg {t o m c:Nat}:eM 1 (some [Sl t o m c])=some (some (I .i64 m),none):=rfl
theorem Dz {a:Option Addr} {m c:Nat}:eM 1 (some [V (.slice a m c)])=some (some (I .i64 m),none):=rfl
end
theorem rules:type_of% @ae∧type_of% @start_eq∧type_of% @Me∧type_of% @CY∧type_of% @QY∧type_of% @Mf∧type_of% @GI∧type_of% @Mg∧type_of% @Mh∧type_of% @QZ∧type_of% @xg∧type_of% @CZ∧type_of% @GJ∧type_of% @xh∧type_of% @rU∧type_of% @y8∧type_of% @GK∧type_of% @xk∧type_of% @y9∧type_of% @xl∧type_of% @za∧type_of% @xm∧type_of% @C0∧type_of% @C2∧type_of% @zb∧type_of% @C4∧type_of% @C5∧type_of% @zc∧type_of% @C6∧type_of% @Mi∧type_of% @GL∧type_of% @C8∧type_of% @run_move∧type_of% @run_assign∧type_of% @C9∧type_of% @Mj∧type_of% @run_build∧type_of% @run_load∧type_of% @run_store∧type_of% @Da∧type_of% @GM∧type_of% @GN∧type_of% @xn∧type_of% @rV∧type_of% @rW∧type_of% @Db∧type_of% @xp∧type_of% @Dd∧type_of% @zf∧type_of% @GR∧type_of% @De∧type_of% @zg∧type_of% @GU∧type_of% @GV∧type_of% @Df∧type_of% @zh∧type_of% @Dg∧type_of% @Dh∧type_of% @Mk∧type_of% @Ml∧type_of% @Q0∧type_of% @GX∧type_of% @GY∧type_of% @Mm∧type_of% @Mn∧type_of% @Mp∧type_of% @Mq∧type_of% @Mr∧type_of% @Ms∧type_of% @Q5∧type_of% @Mt∧type_of% @Mu∧type_of% @Mv∧type_of% @Mw∧type_of% @Mx∧type_of% @My∧type_of% @Mz∧type_of% @MA∧type_of% @MB∧type_of% @Q6∧type_of% @Q7∧type_of% @Q8∧type_of% @GZ∧type_of% @G0∧type_of% @G1∧type_of% @MC∧type_of% @MD∧type_of% @G2∧type_of% @Di∧type_of% @zj∧type_of% @xq∧type_of% @G3∧type_of% @Dj∧type_of% @Dk∧type_of% @G4∧type_of% @zk∧type_of% @G5∧type_of% @Dl∧type_of% @G6∧type_of% @rX∧type_of% @G7∧type_of% @zm∧type_of% @G8∧type_of% @Dm∧type_of% @G9∧type_of% @Q9∧type_of% @ME∧type_of% @Ha∧type_of% @xr∧type_of% @Hb∧type_of% @xt∧type_of% @Hc∧type_of% @Hd∧type_of% @MF∧type_of% @He∧type_of% @Dn∧type_of% @Hf∧type_of% @MG∧type_of% @Hh∧type_of% @Dp∧type_of% @zo∧type_of% @Dq∧type_of% @Dr∧type_of% @Hj∧type_of% @Ds∧type_of% @Dt∧type_of% @Hl∧type_of% @xu∧type_of% @rY∧type_of% @rZ∧type_of% @MH∧type_of% @Hn∧type_of% @zp∧type_of% @Hr∧type_of% @Rd∧type_of% @MQ∧type_of% @Rf∧type_of% @HC∧type_of% @MR∧type_of% @Rg∧type_of% @Dz∧type_of% @CT∧type_of% @yU∧type_of% @GQ∧type_of% @Dc∧type_of% @zd∧type_of% @ze∧type_of% @Hm∧type_of% @zn∧type_of% @Hg∧type_of% @aa1∧type_of% @aa2∧type_of% @aa3∧type_of% @aa4∧type_of% @Wx∧type_of% @Wy∧type_of% @Wz:=
 ⟨@ae, @start_eq, @Me, @CY, @QY, @Mf, @GI, @Mg, @Mh, @QZ, @xg, @CZ, @GJ, @xh, @rU, @y8, @GK, @xk, @y9, @xl, @za, @xm, @C0, @C2, @zb, @C4, @C5, @zc, @C6, @Mi, @GL, @C8, @run_move, @run_assign, @C9, @Mj, @run_build, @run_load, @run_store, @Da, @GM, @GN, @xn, @rV, @rW, @Db, @xp, @Dd, @zf, @GR, @De, @zg, @GU, @GV, @Df, @zh, @Dg, @Dh, @Mk, @Ml, @Q0, @GX, @GY, @Mm, @Mn, @Mp, @Mq, @Mr, @Ms, @Q5, @Mt, @Mu, @Mv, @Mw, @Mx, @My, @Mz, @MA, @MB, @Q6, @Q7, @Q8, @GZ, @G0, @G1, @MC, @MD, @G2, @Di, @zj, @xq, @G3, @Dj, @Dk, @G4, @zk, @G5, @Dl, @G6, @rX, @G7, @zm, @G8, @Dm, @G9, @Q9, @ME, @Ha, @xr, @Hb, @xt, @Hc, @Hd, @MF, @He, @Dn, @Hf, @MG, @Hh, @Dp, @zo, @Dq, @Dr, @Hj, @Ds, @Dt, @Hl, @xu, @rY, @rZ, @MH, @Hn, @zp, @Hr, @Rd, @MQ, @Rf, @HC, @MR, @Rg, @Dz, @CT, @yU, @GQ, @Dc, @zd, @ze, @Hm, @zn, @Hg, @aa1, @aa2, @aa3, @aa4, @Wx, @Wy, @Wz⟩
theorem Rh:type_of% @aa5∧type_of% @WA∧type_of% @WB∧type_of% @Du∧type_of% @Ho∧type_of% @zq∧type_of% @zr∧type_of% @Hq∧type_of% @Dv∧type_of% @Dw∧type_of% @zt∧type_of% @Ht∧type_of% @Hu∧type_of% @Hw∧type_of% @MI∧type_of% @MJ∧type_of% @MK∧type_of% @ML∧type_of% @MN∧type_of% @MO∧type_of% @Hx∧type_of% @xv∧type_of% @Hy∧type_of% @MP∧type_of% @Dx∧type_of% @zu∧type_of% @Hz∧type_of% @sF∧type_of% @Dy∧type_of% @xw∧type_of% @HA∧type_of% @zv∧type_of% @HB∧type_of% @Ra∧type_of% @Rb∧type_of% @Rc∧type_of% @WC∧type_of% @WD∧type_of% @WE∧type_of% @WG∧type_of% @sb:=
 ⟨@aa5, @WA, @WB, @Du, @Ho, @zq, @zr, @Hq, @Dv, @Dw, @zt, @Ht, @Hu, @Hw, @MI, @MJ, @MK, @ML, @MN, @MO, @Hx, @xv, @Hy, @MP, @Dx, @zu, @Hz, @sF, @Dy, @xw, @HA, @zv, @HB, @Ra, @Rb, @Rc, @WC, @WD, @WE, @WG, @sb⟩
end Go.cn
