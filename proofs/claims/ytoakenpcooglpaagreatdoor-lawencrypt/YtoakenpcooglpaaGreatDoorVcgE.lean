/-
  The calculus: the rules by which a proof's simp reckons a state, each fired by what has been reckoned already. Nothing here speaks of a program.
-/
import Derived.Test.YtoakenpcooglpaaGreatDoorVcgH
set_option linter.unusedVariables false
set_option linter.unusedSimpArgs false
namespace Go.cA
set_option linter.unusedSectionVars false
section
variable {P:Program} [Tables P] {K:AS→Prop} {F:Exit→AS→Prop} {s:AS} {e:Nat→Option AV} {b:Nat→Option aW} {n nm:Nat} {dst:Option Tmp} {ty:TypeId} {pos:String} {after:Array Edge} {gd:Option (Nat×Bool)}
def afM (v:Option AV):Option (Option Int):=match v with
 | some (.inl (.inl (.inl (.int _ j))))=>some (some j)
 | _=>none
def iaT (m o:Nat) (j:Int) (t:Option (Nat×Nat)):Option dE:=match t with
 | some (l,z)=>if 0≤j∧j < l then some (some (V (.pointer (some ⟨m,o+j.toNat*z,none⟩))),none) else none
 | none=>none
def slU (b o c:Nat) (h:Int):Option dE:=if 0≤h∧h≤c then some (some (Sl b o h.toNat c),none) else none
theorem HY {b o c z:Nat} {h:Int}:WI b o c z 0 h=slU b o c h:=by
 unfold WI slU
 simp
def bsF (nm len:Nat) (l:Option (List SV)):Option dE:=match l with
 | some l=>some (some (Sl nm 0 len len),some (.inl l))
 | none=>none
def fsP (z:Nat) (s:AS) (cs:List SV) (j:Nat) (rest:List (Nat×Operand)) (new:Option (List SV)):Option (List SV):=match new with
 | some new=>if new.length=z∧j*z+z≤cs.length then fp z s (splice cs (j*z) new) rest else none
 | none=>none
theorem pN {k:IntKind} {n:Nat}:iw [Value.int k 0] n=ae k n fun _=>0:=by
 unfold iw ae
 apply List.map_congr_left
 intro i _
 simp[Nat.mod_one]
theorem af {α:Type} (f:Nat→α) (d x:Nat) (v:α):upd f d v x=if x=d then v else f x:=rfl
theorem start_eq (l:List AV):start l b n=⟨fun d=>l[d]?, b,n⟩:=rfl
theorem PF:vc P .skip F s=F .normal s:=rfl
theorem C5 {id:Nat} {ops:Array Oper}:vc P (.region id ops false) F ⟨e,b,n⟩=kL P ops n ops.toList 0 (F .normal) ⟨e,b,n⟩:=rfl
theorem WV {x y:Code}:vc P (.seq x y) F s=vc P x (fi (vc P y F) F) s:=rfl
theorem PG {c:Operand} {x y:Code}:vc P (.cond c x y) F s=mP (s.aQ c) (vc P x F) (vc P y F) s:=rfl
theorem HZ {id:Nat} {c:Code}:vc P (.block id c) F s=vc P c (iY id F) s:=rfl
theorem PH {c:Code}:vc P (.loop c) F s=jJ (vc P c) F s:=rfl
theorem PI {id:Nat}:vc P (.exit id) F s=F (.exit id) s:=rfl
theorem WW:vc P .ret F s=F .ret s:=rfl
theorem ua {K:AS→Prop}:fi K F .normal s=K s:=rfl
theorem C6 {K:AS→Prop} {id:Nat}:fi K F (.exit id) s=F (.exit id) s:=rfl
theorem H0 {K:AS→Prop}:fi K F .ret s=F .ret s:=rfl
theorem ub {id id':Nat}:iY id F (.exit id') s=if id'=id then F .normal s else F (.exit id') s:=rfl
theorem pb {id:Nat}:iY id F .normal s=F .normal s:=rfl
theorem xl {id:Nat}:iY id F .ret s=F .ret s:=rfl
theorem H2 {rs:List ResultVar} {Post:AV→AS→Prop}:kY P rs Post .ret s=sV (jQ (fZ P s rs)) Post s:=rfl
theorem uc {rs:List ResultVar} {Post:AV→AS→Prop}:kY P rs Post .normal s=sV (jQ (fZ P s rs)) Post s:=rfl
theorem xm:fZ P s []=some []:=rfl
theorem ud {r:ResultVar} {rs:List ResultVar}:fZ P s (r::rs)=WO (sU P s r) (fZ P s rs):=by
 unfold WO;rfl
theorem xn {t:Nat}:sU P ⟨e,b,n⟩ (.tmp t)=ahV (e t):=rfl
theorem uf {t ty:Nat}:sU P ⟨e,b,n⟩ (.cell t ty)=ahW (eg P ⟨e,b,n⟩ ty (e t)):=rfl
theorem C7 {c:CV}:ahV (some (.inl c))=some c:=rfl
theorem C8 {c:CV} {m:Mem}:ahW (some (some (.inl c),m))=some c:=rfl
theorem xp {c:CV} {l:List CV}:WO (some c) (some l)=some (c::l):=rfl
theorem C9 {c:CV}:jQ (some [c])=some (.inl c):=rfl
theorem C' {c d:CV} {l:List CV}:jQ (some (c::d::l))=some (.inr (c::d::l)):=rfl
theorem xq:jQ (some [])=some (.inr []):=rfl
theorem Da {v:AV} {Post:AV→AS→Prop}:sV (some v) Post s=Post v s:=rfl
variable {ops:Array Oper} {base i:Nat} {rest:List Oper} {op:Op}
theorem PJ:kL P ops base [] i K ⟨e,b,n⟩=K ⟨e,b,base+i⟩:=rfl
theorem H3:kL P ops base (⟨dst,op,ty,pos,after,none⟩::rest) i K s=cv P (base+i) ⟨dst,op,ty,pos,after,none⟩ (kL P ops base rest (i+1) K) s:=rfl
theorem Db {j:Nat} {want:Bool}:kL P ops base (⟨dst,op,ty,pos,after,some (j,want)⟩::rest) i K s=
  Gj P (ni (fh ops s j) want) want (base+i) ⟨dst,op,ty,pos,after,some (j,want)⟩ (kL P ops base rest (i+1) K) s:=rfl
variable {o:Oper}
theorem ah4:Gj P (some (B true)) true nm o K s=cv P nm o K s:=by simp[Gj,dB]
theorem ah5:Gj P (some (B false)) false nm o K s=cv P nm o K s:=by simp[Gj,dB]
theorem ah6:Gj P (some (B true)) false nm ⟨dst,op,ty,pos,after,gd⟩ K s=K (s.put dst (some (V undef))):=by simp[Gj,dB]
theorem ah7:Gj P (some (B false)) true nm ⟨dst,op,ty,pos,after,gd⟩ K s=K (s.put dst (some (V undef))):=by simp[Gj,dB]
theorem acU:o9 P ops i (some (B true)) true nm o K s=o8 P ops i nm o K s:=by simp[o9,dB]
theorem acV:o9 P ops i (some (B false)) false nm o K s=o8 P ops i nm o K s:=by simp[o9,dB]
theorem acW:o9 P ops i (some (B true)) false nm ⟨dst,op,ty,pos,after,gd⟩ K s=K (s.put dst (some (V undef))):=by simp[o9,dB]
theorem acX:o9 P ops i (some (B false)) true nm ⟨dst,op,ty,pos,after,gd⟩ K s=K (s.put dst (some (V undef))):=by simp[o9,dB]
theorem ah8 {want x:Bool}:ni (some (B x)) want=some (B x):=rfl
theorem acY:ni (some (V undef)) true=some (B false):=rfl
theorem acZ:ni (some (V undef)) false=some (B true):=rfl
theorem run_move {x:Operand}:cv P nm ⟨dst, .move x,ty,pos,after,gd⟩ K s=lU (s.aQ x) dst K s:=by
 simp only[cv,fa,lU];cases s.aQ x<;>rfl
theorem run_assign {x:Operand}:cv P nm ⟨dst, .assign x,ty,pos,after,gd⟩ K s=lU (s.aQ x) dst K s:=by
 simp only[cv,fa,lU];cases s.aQ x<;>rfl
theorem Dc {t:Nat}:cv P nm ⟨dst, .alloc t,ty,pos,after,gd⟩ K s=bQ (iu P nm t) nm dst K s:=rfl
theorem PK {t:Nat} {x:Operand}:cv P nm ⟨dst, .box t x,ty,pos,after,gd⟩ K s=bQ (nf nm (s.aQ x)) nm dst K s:=rfl
theorem run_build {t:Nat} {l:List (Nat×Operand)}:cv P nm ⟨dst, .build t l.toArray,ty,pos,after,gd⟩ K s=bQ (fY P t s l) nm dst K s:=rfl
theorem run_load {t:Nat} {x:Operand}:cv P nm ⟨dst, .load t x,ty,pos,after,gd⟩ K s=bQ (eg P s t (s.aQ x)) nm dst K s:=rfl
theorem run_store {t:Nat} {x y:Operand}:cv P nm ⟨dst, .store t x y,ty,pos,after,gd⟩ K s=bQ (fl P s t (s.aQ x) (s.aQ y)) nm dst K s:=rfl
theorem Dd {o:BinOp} {t u:Nat} {x y:Operand}:cv P nm ⟨dst, .binOp o t x y u,ty,pos,after,gd⟩ K s=bQ (nc P o t y (s.aQ x) (s.aQ y)) nm dst K s:=rfl
theorem H4 {xs:List Operand} {tys:List TypeId}:cv P nm ⟨dst, .call ⟨.builtin .len,xs.toArray,tys.toArray⟩,ty,pos,after,gd⟩ K s=bQ (fB (lq P tys) (bN s xs)) nm dst K s:=rfl
theorem H5 {o:UnOp} {t:Nat} {x:Operand}:cv P nm ⟨dst, .unOp o t x,ty,pos,after,gd⟩ K s=bQ (mZ o (s.aQ x)) nm dst K s:=rfl
theorem ug {t u:Nat} {x:Operand}:cv P nm ⟨dst, .convert t u x,ty,pos,after,gd⟩ K s=bQ (gG P s t u (s.aQ x)) nm dst K s:=rfl
theorem pc {t f:Nat} {x:Operand}:cv P nm ⟨dst, .fieldAddr t x f,ty,pos,after,gd⟩ K s=bQ (eh P t f (s.aQ x)) nm dst K s:=rfl
theorem De {t:Nat} {x:Operand}:cv P nm ⟨dst, .sliceToArrayPointer t x,ty,pos,after,gd⟩ K s=bQ (jw (eZ P t) (s.aQ x)) nm dst K s:=rfl
theorem Df {t f:Nat} {x:Operand}:cv P nm ⟨dst, .field t x f,ty,pos,after,gd⟩ K s=bQ (fO P t f (s.aQ x)) nm dst K s:=rfl
theorem pf {t:Nat} {x y:Operand}:cv P nm ⟨dst, .indexAddr t x y,ty,pos,after,gd⟩ K s=bQ (cI P t (s.aQ x) (s.aQ y)) nm dst K s:=rfl
theorem Dg {t:Nat} {x y:Operand}:cv P nm ⟨dst, .index t x y,ty,pos,after,gd⟩ K s=bQ (fX P t (s.aQ x) (s.aQ y)) nm dst K s:=rfl
theorem uh {x:Operand} {k:Nat}:cv P nm ⟨dst, .extract x k,ty,pos,after,gd⟩ K s=bQ (fH (s.aQ x) k) nm dst K s:=rfl
theorem H6 {x y z:Operand}:cv P nm ⟨dst, .pick x y z,ty,pos,after,gd⟩ K s=bQ (lQ (s.aQ x) (s.aQ y) (s.aQ z)) nm dst K s:=rfl
theorem Dh {x y:Option AV}:lQ (some (B true)) x y=CQ x:=rfl
theorem xr {x y:Option AV}:lQ (some (B false)) x y=CQ y:=rfl
theorem xt {v:AV}:CQ (some v)=some (some v,none):=rfl
theorem Di {f:Nat} {xs:List Operand} {tys:Array TypeId}:cv P nm ⟨dst, .call ⟨.value (.func f),xs.toArray,tys⟩,ty,pos,after,gd⟩ K s=
  if ai P f=true then aB P nm f (bN s xs) dst K s else mF P f (bN s xs) dst K s:=rfl
theorem xu {xs:List Operand} {tys:Array TypeId}:cv P nm ⟨dst, .call ⟨.builtin .append,xs.toArray,tys⟩,ty,pos,after,gd⟩ K s=
  cC P nm .append tys ty (xs.toArray.map isConst) (bN s xs) dst K s:=rfl
theorem H7 {xs:List Operand} {tys:Array TypeId}:cv P nm ⟨dst, .call ⟨.builtin .copy,xs.toArray,tys⟩,ty,pos,after,gd⟩ K s=
  cC P nm .copy tys ty (xs.toArray.map isConst) (bN s xs) dst K s:=rfl
theorem H8:bN s []=some []:=rfl
theorem Dj {x:Operand} {xs:List Operand}:bN s (x::xs)=acM (s.aQ x) (bN s xs):=rfl
theorem xv {v:AV} {l:List AV}:acM (some v) (some l)=some (v::l):=rfl
theorem H9 {t:Nat}:AS.aQ ⟨e,b,n⟩ (.tmp t)=e t:=rfl
theorem H' {k:IntKind} {x:Int}:AS.aQ s (.const (.int k x))=some (I k x):=rfl
theorem Dk {x:Bool}:AS.aQ s (.const (.bool x))=some (B x):=rfl
theorem xw {a:Option Addr} {l c:Nat}:AS.aQ s (.const (.slice a l c))=some (V (.slice a l c)):=rfl
theorem ui {x:ByteArray}:AS.aQ s (.const (.string x))=some (V (.string x)):=rfl
theorem Dl {f:Nat}:AS.aQ s (.func f)=some (V (.func (.func f) #[] #[])):=rfl
theorem Dm {v:AV}:lU (some v) dst K s=K (s.put dst (some v)):=rfl
theorem PL {v:Option AV}:bQ (some (v,none)) nm dst K s=K (s.put dst v):=rfl
theorem PN {v:Option AV} {cs:List SV}:bQ (some (v,some (.inl cs))) nm dst K ⟨e,b,n⟩=K (AS.put ⟨e,upd b nm (some ⟨true,cs⟩),n⟩ dst v):=rfl
theorem WX {v:Option AV} {t:Nat} {bx:aW}:bQ (some (v,some (.inr (t,bx)))) nm dst K ⟨e,b,n⟩=K (AS.put ⟨e,upd b t (some bx),n⟩ dst v):=rfl
theorem PO {c:Prop} [Decidable c] {ef:dE}:bQ (if c then some ef else none) nm dst K s=(c∧bQ (some ef) nm dst K s):=by
 split<;>simp_all [bQ]
theorem Ia {t:Nat} {v:Option AV}:AS.put ⟨e,b,n⟩ (some t) v=⟨upd e t v,b,n⟩:=rfl
theorem Ib {v:Option AV}:AS.put s none v=s:=rfl
variable {k k':IntKind} {x y:Int}
theorem PQ:cx .add (some (I k x)) (some (I k y))=some (some (I k (k.wrap (x+y))),none):=by simp[cx,kX]
theorem PR:cx .sub (some (I k x)) (some (I k y))=some (some (I k (k.wrap (x - y))),none):=by simp[cx,kX]
theorem PS:cx .mul (some (I k x)) (some (I k y))=some (some (I k (k.wrap (x*y))),none):=by simp[cx,kX]
theorem PT:cx .quo (some (I k x)) (some (I k y))=if y≠0 then some (some (I k (k.wrap (x.tdiv y))),none) else none:=by
 simp only[cx,kX];by_cases h:y=0<;>simp[h]
theorem PU:cx .rem (some (I k x)) (some (I k y))=if y≠0 then some (some (I k (x.tmod y)),none) else none:=by
 simp only[cx,kX];by_cases h:y=0<;>simp[h]
theorem PV:cx .and (some (I k x)) (some (I k y))=some (some (I k (aS .and k x y)),none):=by simp[cx,kX]
theorem WY:cx .or (some (I k x)) (some (I k y))=some (some (I k (aS .or k x y)),none):=by simp[cx,kX]
theorem PW:cx .xor (some (I k x)) (some (I k y))=some (some (I k (aS .xor k x y)),none):=by simp[cx,kX]
theorem xx:cx .andNot (some (I k x)) (some (I k y))=some (some (I k (aS .andNot k x y)),none):=by simp[cx,kX]
theorem PX:cx .eql (some (I k x)) (some (I k y))=some (some (B (x==y)),none):=by simp[cx,kX]
theorem PY:cx .neq (some (I k x)) (some (I k y))=some (some (B (x != y)),none):=by simp[cx,kX]
theorem PZ:cx .lss (some (I k x)) (some (I k y))=some (some (B (decide (x < y))),none):=by simp[cx,kX]
theorem P0:cx .leq (some (I k x)) (some (I k y))=some (some (B (decide (x≤y))),none):=by simp[cx,kX]
theorem P4:cx .gtr (some (I k x)) (some (I k y))=some (some (B (decide (y < x))),none):=by simp[cx,kX]
theorem P5:cx .geq (some (I k x)) (some (I k y))=some (some (B (decide (y≤x))),none):=by simp[cx,kX]
theorem P6:cx .shl (some (I k x)) (some (I k' y))=if 0≤y then some (some (I k (gT k x y)),none) else none:=by
 simp only[cx,kX,true_or,or_true,if_true];by_cases h:0≤y<;>simp[h]
theorem P7:cx .shr (some (I k x)) (some (I k' y))=if 0≤y then some (some (I k (cr k x y)),none) else none:=by
 simp only[cx,kX,or_true,if_true];by_cases h:0≤y<;>simp[h]
theorem WZ {x:Bool}:mZ .not (some (B x))=some (some (B (!x)),none):=rfl
theorem W5:mZ .neg (some (I k x))=some (some (I k (k.wrap (0 - x))),none):=rfl
theorem W6:mZ .xor (some (I k x))=some (some (I k (aS .xor k (if k.signed then -1 else k.max) x)),none):=rfl
theorem Ic {t b o n c:Nat}:gG P s t t (some (Sl b o n c))=HE (abb P t) (s.box b) (Sl b o n c):=by
 show (if t=t then _ else _)=_
 rw[if_pos rfl]
theorem xy {cs:List SV} {v:AV}:HE true (some ⟨true,cs⟩) v=some (some v,none):=rfl
theorem Ie {t u:Nat}:gG P s t u (some (I k' x))=cvK x (kindOf P t) (kindOf P u):=by
 show gU P t u (some (I k' x))=_
 cases h1:kindOf P t<;>cases h2:kindOf P u<;>simp[gU,cvK,h1,h2]
theorem Ig:cvK x (some k') (some k)=some (some (I k (k.wrap x)),none):=rfl
theorem Ih {t bx o:Nat}:eg P ⟨e,b,n⟩ t (some (Ptr bx o))=ldB (bu P t) (b bx) o:=rfl
theorem P8 {m:Nat} {rw:Bool} {cs:List SV} {o:Nat}:ldB (some (true,m)) (some ⟨rw,cs⟩) o=if o+m≤cs.length then some (some (Ag ((cs.drop o).take m)),none) else none:=rfl
theorem P9 {m:Nat} {rw:Bool} {cs:List SV} {o:Nat}:ldB (some (false,m)) (some ⟨rw,cs⟩) o=ldC cs[o]? :=rfl
theorem Ii {v:SV}:ldC (some v)=some (some (.inl (.inl v)),none):=rfl
theorem Dn {k:IntKind} {x:Int}:cellsOf (some (I k x))=some [Sum.inl (.int k x)]:=rfl
theorem xA {x:Bool}:cellsOf (some (B x))=some [Sum.inl (.bool x)]:=rfl
theorem uj {a:Option Addr} {l c:Nat}:cellsOf (some (V (.slice a l c)))=some [Sum.inl (.slice a l c)]:=rfl
theorem Dp {t o:Nat}:cellsOf (some (Ptr t o))=some [Sum.inr (.inl (t,o))]:=rfl
theorem Ij {t o l c:Nat}:cellsOf (some (Sl t o l c))=some [Sum.inr (.inr (t,o,l,c))]:=rfl
theorem Dq {l:List SV}:cellsOf (some (Ag l))=some l:=rfl
theorem Dr {t bx o:Nat} {v:Option AV}:fl P ⟨e,b,n⟩ t (some (Ptr bx o)) v=stB bx o (cellsOf v) (bu P t) (b bx):=by
 cases h1:cellsOf v with
 | none=>simp[fl,stB,h1]
 | some new=>
  cases h2:bu P t with
  | none=>simp[fl,stB,h1,h2]
  | some p=>
   cases h3:b bx with
   | none=>simp[fl,stB,h1,h2,h3]
   | some x=>simp[fl,stB,h1,h2,h3]
theorem Ik {bx o m:Nat} {new cs:List SV} {ag:Bool}:stB bx o (some new) (some (ag,m)) (some ⟨true,cs⟩)=
  if o+new.length≤cs.length∧new.length=m then some (none,some (.inr (bx,⟨true,splice cs o new⟩))) else none:=by
 simp[stB]
theorem xB {t:Nat}:iu P nm t=alZ nm (zeroOf P t):=rfl
theorem Il {z:List Value}:alZ nm (some z)=if z.all Value.oneCell'=true then some (some (Ptr nm 0),some (.inl (z.map .inl))) else none:=rfl
theorem Ds {v:AV}:nf nm (some v)=bxC nm (cellsOf (some v)):=rfl
theorem Im {l:List SV}:bxC nm (some l)=some (some (Ptr nm 0),some (.inl l)):=rfl
theorem ph {t f bx o:Nat}:eh P t f (some (Ptr bx o))=faP bx o (ao P t f):=by
 unfold eh faP;split<;>simp_all
theorem Io {bx o fo m:Nat} {ag:Bool}:faP bx o (some (fo,ag,m+1))=some (some (Ptr bx (o+fo)),none):=rfl
theorem Dt {t f:Nat} {l:List SV}:fO P t f (some (Ag l))=fdP l (ao P t f):=by
 cases h:ao P t f with
 | none=>simp[fO,fdP,h]
 | some p=>
  obtain ⟨o,ag,m⟩:=p
  cases ag
  ·simp only[fO,fdP,h];cases l[o]? <;>rfl
  ·simp[fO,fdP,h]
theorem Qa {l:List SV} {o m:Nat}:fdP l (some (o,true,m))=some (some (Ag ((l.drop o).take m)),none):=rfl
theorem Qb {l:List SV} {o m:Nat}:fdP l (some (o,false,m))=ldC l[o]? :=by
 unfold fdP ldC;rfl
theorem xC {t bx o:Nat} {j:Int}:cI P t (some (Ptr bx o)) (some (I k j))=iaP bx o j (eZ P t):=by
 unfold cI iaP;rfl
theorem Ip {bx o m z:Nat} {j:Int}:iaP bx o j (some (m,z))=if 0≤j∧j < m then some (some (Ptr bx (o+j.toNat*z)),none) else none:=rfl
theorem Du {t bx o m c:Nat} {j:Int}:cI P t (some (Sl bx o m c)) (some (I k j))=isP bx o m j (cA.elemOf P t):=by
 unfold cI isP;rfl
theorem Iq {bx o m z:Nat} {j:Int}:isP bx o m j (some z)=if 0≤j∧j < m then some (some (Ptr bx (o+j.toNat*z)),none) else none:=rfl
theorem W7 {t:Nat} {l:List SV} {j:Int}:fX P t (some (Ag l)) (some (I k j))=ixP l j (gw P t):=by
 unfold fX ixP
 cases h:gw P t with
 | none=>rfl
 | some p=>obtain ⟨m,ag,z⟩:=p;cases ag<;>rfl
theorem Qc {l:List SV} {j:Int} {m z:Nat}:ixP l j (some (m,true,z))=if 0≤j∧j < m then some (some (Ag ((l.drop (j.toNat*z)).take z)),none) else none:=rfl
theorem Qd {l:List SV} {j:Int} {m z:Nat}:ixP l j (some (m,false,z))=ixC j m l[j.toNat*z]? :=by
 cases h:l[j.toNat*z]? <;>simp[ixP,ixC,h]
theorem Ir {j:Int} {m:Nat} {v:SV}:ixC j m (some v)=if 0≤j∧j < m then some (some (.inl (.inl v)),none) else none:=rfl
theorem uk {l:List CV} {k:Nat}:fH (some (.inr l)) k=exC l[k]? :=rfl
theorem Is {c:CV}:exC (some c)=some (some (.inl c),none):=rfl
theorem um {t:Nat} {l:List (Nat×Operand)}:fY P t s l=bdB P t s l (aU P t):=by
 cases h:aU P t with
 | none=>simp[fY,bdB,h]
 | some z=>simp only[fY,bdB,h];cases fm P t s z l<;>rfl
theorem It {t:Nat} {l:List (Nat×Operand)} {z:List SV}:bdB P t s l (some z)=bdF (fm P t s z l):=rfl
theorem Iu {l:List SV}:bdF (some l)=some (some (Ag l),none):=rfl
theorem Qe {c:Prop} [Decidable c] {x:Option (List SV)} {K:AS→Prop}:bQ (bdF (if c then x else none)) nm dst K s=(c∧bQ (bdF x) nm dst K s):=by
 split<;>simp_all [bQ,bdF]
theorem Iv {t:Nat} {cs:List SV}:fm P t s cs []=some cs:=rfl
theorem Dv {t j:Nat} {x:Operand} {cs:List SV} {l:List (Nat×Operand)}:fm P t s cs ((j,x)::l)=fiP P t s cs l (cellsOf (s.aQ x)) (placeOf P t j):=by
 cases h:placeOf P t j with
 | none=>simp[fm,fiP,h]
 | some p=>obtain ⟨o,m⟩:=p;simp only[fm,fiP,h];cases cellsOf (s.aQ x)<;>rfl
theorem Iw {t:Nat} {cs new:List SV} {o m:Nat} {l:List (Nat×Operand)}:fiP P t s cs l (some new) (some (o,m))=if new.length=m∧o+m≤cs.length then fm P t s (splice cs o new) l else none:=rfl
theorem xD {l:List Oper} {j:Nat}:fh l.toArray ⟨e,b,n⟩ j=gdO e l[j]? :=by
 unfold fh gdO
 simp only[List.getElem?_toArray]
 cases l[j]? <;>rfl
theorem Ix {d:Nat}:gdO e (some ⟨some d,op,ty,pos,after,gd⟩)=e d:=rfl
theorem Qf {id:Nat} {ops:Array Oper}:vc P (.region id ops true) F ⟨e,b,n⟩=((P.follows .mixedOrders=true∧Gk ops=true)∧gV P ops n ops.toList 0 (F .normal) ⟨e,b,n⟩):=rfl
theorem Iy:gV P ops base [] i K ⟨e,b,n⟩=K ⟨e,b,base+i⟩:=rfl
theorem Dw:gV P ops base (⟨dst,op,ty,pos,after,none⟩::rest) i K s=o8 P ops i (base+i) ⟨dst,op,ty,pos,after,none⟩ (gV P ops base rest (i+1) K) s:=rfl
theorem xE {j:Nat} {want:Bool}:gV P ops base (⟨dst,op,ty,pos,after,some (j,want)⟩::rest) i K s=
  o9 P ops i (ni (fh ops s j) want) want (base+i) ⟨dst,op,ty,pos,after,some (j,want)⟩ (gV P ops base rest (i+1) K) s:=by
 show HL P ops i (base+i) ⟨dst,op,ty,pos,after,some (j,want)⟩ (gV P ops base rest (i+1) K) s=_
 generalize gV P ops base rest (i+1) K=K'
 simp only[HL,lv,lx,wu,o9,dB,o8]
 generalize ni (fh ops s j) want=q
 have none: ∀ (X:dE→Prop) (Y:(dE→Prop)→Prop) (c d:Prop),((∃ ef,False∧X ef)∨(c∧ ∃ D,False∧Y D)∨(d∧False))=False:=fun X Y c d=>by simp
 rcases q with _ | (((v | v) | l) | l)<;>try exact none _ _ _ _
 cases v<;>try exact none _ _ _ _
 rename_i x
 rw[eq_iff_iff]
 constructor
 ·rintro (⟨ef,⟨h1,h2⟩,hk⟩ | ⟨hl,D,⟨h1,h2⟩,hk⟩ | ⟨hb,h1,h2⟩)
  ·refine ⟨fun hw=> .inl ⟨ef,h1 hw,hk⟩,fun hw=> ?_⟩
   rw[h2 hw]at hk
   exact hk
  ·refine ⟨fun hw=> .inr (.inl ⟨hl,D,h1 hw,hk⟩),fun hw=> ?_⟩
   exact hk (some (V undef),Option.none) (by rw[h2 hw])
  ·exact ⟨fun hw=> .inr (.inr ⟨hb,h1 hw⟩),h2⟩
 ·rintro ⟨h1,h2⟩
  by_cases hw:x=want
  ·rcases h1 hw with ⟨ef,hd,hk⟩ | ⟨hl,D,hd,hk⟩ | ⟨hb,hk⟩
   ·exact .inl ⟨ef,⟨fun _=>hd,fun hx=>absurd hw hx⟩,hk⟩
   ·exact .inr (.inl ⟨hl,D,⟨fun _=>hd,fun hx=>absurd hw hx⟩,hk⟩)
   ·exact .inr (.inr ⟨hb,fun _=>hk,fun hx=>absurd hw hx⟩)
  ·exact .inl ⟨(some (V undef),Option.none),⟨fun hx=>absurd hx hw,fun _=>rfl⟩,h2 hw⟩
theorem dQ {o:Oper} {ef:Option dE} (h1: ∀ x,jq P nm o s x=(ef=some x)) (h2: ∀ D, ¬ iz P nm o s D) (h3:cv P nm o K s=bQ ef nm o.dst K s):o8 P ops i nm o K s=bQ ef nm o.dst K s:=by
 unfold o8
 rw[h3]
 simp only[h1,h2,false_and,exists_false,and_false,false_or]
 cases ef with
 | none=>simp[bQ]
 | some x=>simp[bQ,app]
theorem Dx {t:Nat}:o8 P ops i nm ⟨dst, .alloc t,ty,pos,after,gd⟩ K s=bQ (iu P nm t) nm dst K s:=dQ (fun _=>rfl) (fun _ h=>h) rfl
theorem Qg {t:Nat} {x:Operand}:o8 P ops i nm ⟨dst, .box t x,ty,pos,after,gd⟩ K s=bQ (nf nm (s.aQ x)) nm dst K s:=dQ (fun _=>rfl) (fun _ h=>h) rfl
theorem Dy {t:Nat} {l:List (Nat×Operand)}:o8 P ops i nm ⟨dst, .build t l.toArray,ty,pos,after,gd⟩ K s=bQ (fY P t s l) nm dst K s:=dQ (fun _=>rfl) (fun _ h=>h) rfl
theorem Iz {t:Nat} {x:Operand}:o8 P ops i nm ⟨dst, .load t x,ty,pos,after,gd⟩ K s=bQ (eg P s t (s.aQ x)) nm dst K s:=dQ (fun _=>rfl) (fun _ h=>h) rfl
theorem Dz {t:Nat} {x y:Operand}:o8 P ops i nm ⟨dst, .store t x y,ty,pos,after,gd⟩ K s=bQ (fl P s t (s.aQ x) (s.aQ y)) nm dst K s:=dQ (fun _=>rfl) (fun _ h=>h) rfl
theorem DB {o:BinOp} {t u:Nat} {x y:Operand}:o8 P ops i nm ⟨dst, .binOp o t x y u,ty,pos,after,gd⟩ K s=bQ (nc P o t y (s.aQ x) (s.aQ y)) nm dst K s:=dQ (fun _=>rfl) (fun _ h=>h) rfl
theorem IA {o:UnOp} {t:Nat} {x:Operand}:o8 P ops i nm ⟨dst, .unOp o t x,ty,pos,after,gd⟩ K s=bQ (mZ o (s.aQ x)) nm dst K s:=dQ (fun _=>rfl) (fun _ h=>h) rfl
theorem uo {t u:Nat} {x:Operand}:o8 P ops i nm ⟨dst, .convert t u x,ty,pos,after,gd⟩ K s=bQ (gG P s t u (s.aQ x)) nm dst K s:=dQ (fun _=>rfl) (fun _ h=>h) rfl
theorem pj {t f:Nat} {x:Operand}:o8 P ops i nm ⟨dst, .fieldAddr t x f,ty,pos,after,gd⟩ K s=bQ (eh P t f (s.aQ x)) nm dst K s:=dQ (fun _=>rfl) (fun _ h=>h) rfl
theorem DC {t:Nat} {x:Operand}:o8 P ops i nm ⟨dst, .sliceToArrayPointer t x,ty,pos,after,gd⟩ K s=bQ (jw (eZ P t) (s.aQ x)) nm dst K s:=dQ (fun _=>rfl) (fun _ h=>h) rfl
theorem IB {m z b o n c:Nat}:jw (some (m,z)) (some (Sl b o n c))=if m≤n then some (some (Ptr b o),none) else none:=rfl
theorem DD {t f:Nat} {x:Operand}:o8 P ops i nm ⟨dst, .field t x f,ty,pos,after,gd⟩ K s=bQ (fO P t f (s.aQ x)) nm dst K s:=dQ (fun _=>rfl) (fun _ h=>h) rfl
theorem pk {t:Nat} {x y:Operand}:o8 P ops i nm ⟨dst, .indexAddr t x y,ty,pos,after,gd⟩ K s=bQ (cI P t (s.aQ x) (s.aQ y)) nm dst K s:=dQ (fun _=>rfl) (fun _ h=>h) rfl
theorem DE {t:Nat} {x y:Operand}:o8 P ops i nm ⟨dst, .index t x y,ty,pos,after,gd⟩ K s=bQ (fX P t (s.aQ x) (s.aQ y)) nm dst K s:=dQ (fun _=>rfl) (fun _ h=>h) rfl
theorem uq {x:Operand} {k:Nat}:o8 P ops i nm ⟨dst, .extract x k,ty,pos,after,gd⟩ K s=bQ (fH (s.aQ x) k) nm dst K s:=dQ (fun _=>rfl) (fun _ h=>h) rfl
theorem Qh {xs:List Operand} {tys:List TypeId}:o8 P ops i nm ⟨dst, .call ⟨.builtin .len,xs.toArray,tys.toArray⟩,ty,pos,after,gd⟩ K s=bQ (fB (lq P tys) (bN s xs)) nm dst K s:=dQ (fun _=>rfl) (fun _ h=>h) rfl
theorem IC {x y z:Operand}:o8 P ops i nm ⟨dst, .pick x y z,ty,pos,after,gd⟩ K s=bQ (lQ (s.aQ x) (s.aQ y) (s.aQ z)) nm dst K s:=dQ (fun _=>rfl) (fun _ h=>h) rfl
theorem ID {x:Operand}:o8 P ops i nm ⟨dst, .move x,ty,pos,after,gd⟩ K s=lU (s.aQ x) dst K s:=by
 refine Eq.trans (b:=bQ (fa P nm s (.move x)) nm dst K s) (dQ (fun _=>rfl) (fun _ h=>h) rfl) ?_
 simp only[fa,lU];cases s.aQ x<;>rfl
theorem xF {x:Operand}:o8 P ops i nm ⟨dst, .assign x,ty,pos,after,gd⟩ K s=lU (s.aQ x) dst K s:=by
 refine Eq.trans (b:=bQ (fa P nm s (.assign x)) nm dst K s) (dQ (fun _=>rfl) (fun _ h=>h) rfl) ?_
 simp only[fa,lU];cases s.aQ x<;>rfl
theorem DF {t:Nat} {x:Operand} {lo hi:Option Operand}:o8 P ops i nm ⟨dst, .slice t x lo hi none,ty,pos,after,gd⟩ K s=bQ (fC (ln P t) (s.aQ x) (jv s lo) (jv s hi)) nm dst K s:=dQ (fun _=>rfl) (fun _ h=>h) rfl
theorem IE {t:Nat} {x y:Operand}:o8 P ops i nm ⟨dst, .makeSlice t x y,ty,pos,after,gd⟩ K s=bQ (ix nm (ru P t) (s.aQ x) (s.aQ y)) nm dst K s:=dQ (fun _=>rfl) (fun _ h=>h) rfl
theorem xG {t n:Nat} {l:List (Nat×Operand)}:o8 P ops i nm ⟨dst, .buildSlice t n l.toArray,ty,pos,after,gd⟩ K s=bQ (gn nm (ru P t) n s l) nm dst K s:=dQ (fun _=>rfl) (fun _ h=>h) rfl
theorem Qi {x:Operand}:o8 P ops i nm ⟨dst, .nilCheck x,ty,pos,after,gd⟩ K s=bQ (pJ (s.aQ x)) nm dst K s:=dQ (fun _=>rfl) (fun _ h=>h) rfl
theorem xH {xs:List Operand} {tys:Array TypeId}:o8 P ops i nm ⟨dst, .call ⟨.builtin .append,xs.toArray,tys⟩,ty,pos,after,gd⟩ K s=
  (bar ops i=true∧cC P nm .append tys ty (xs.toArray.map isConst) (bN s xs) dst K s):=by
 rw[eq_iff_iff]
 constructor
 ·rintro (⟨e,h,_⟩ | ⟨_,D,h,_⟩ | h)
  ·exact h.elim
  ·exact h.elim
  ·exact h
 ·exact fun h=> .inr (.inr h)
theorem IF {xs:List Operand} {tys:Array TypeId}:o8 P ops i nm ⟨dst, .call ⟨.builtin .copy,xs.toArray,tys⟩,ty,pos,after,gd⟩ K s=
  (bar ops i=true∧cC P nm .copy tys ty (xs.toArray.map isConst) (bN s xs) dst K s):=by
 rw[eq_iff_iff]
 constructor
 ·rintro (⟨e,h,_⟩ | ⟨_,D,h,_⟩ | h)
  ·exact h.elim
  ·exact h.elim
  ·exact h
 ·exact fun h=> .inr (.inr h)
theorem IG {f:Nat} {xs:List Operand} {tys:Array TypeId}:o8 P ops i nm ⟨dst, .call ⟨.value (.func f),xs.toArray,tys⟩,ty,pos,after,gd⟩ K s=mG P ops i nm f (bN s xs) dst K s:=by
 rw[eq_iff_iff]
 constructor
 ·rintro (⟨ef,⟨l,r,h1,h2,rfl⟩ | h,hk⟩ | ⟨hl,D,hD,hk⟩ | ⟨hb,hk⟩)
  ·exact .inl ⟨l,r,h1,h2,hk⟩
  ·exact .inr (.inl ⟨ef,h,hk⟩)
  ·exact .inr (.inr (.inl ⟨hl,D,hD,hk⟩))
  ·exact .inr (.inr (.inr ⟨hb,hk⟩))
 ·rintro (⟨l,r,h1,h2,hk⟩ | ⟨e,h,hk⟩ | ⟨hl,D,hD,hk⟩ | ⟨hb,hk⟩)
  ·exact .inl ⟨_, .inl ⟨l,r,h1,h2,rfl⟩,hk⟩
  ·exact .inl ⟨e, .inr h,hk⟩
  ·exact .inr (.inl ⟨hl,D,hD,hk⟩)
  ·exact .inr (.inr ⟨hb,hk⟩)
theorem DG {t:Nat} {x:Operand} {lo hi:Option Operand}:cv P nm ⟨dst, .slice t x lo hi none,ty,pos,after,gd⟩ K s=bQ (fC (ln P t) (s.aQ x) (jv s lo) (jv s hi)) nm dst K s:=rfl
theorem DH {t:Nat} {x y:Operand}:cv P nm ⟨dst, .makeSlice t x y,ty,pos,after,gd⟩ K s=bQ (ix nm (ru P t) (s.aQ x) (s.aQ y)) nm dst K s:=rfl
theorem xI {t n:Nat} {l:List (Nat×Operand)}:cv P nm ⟨dst, .buildSlice t n l.toArray,ty,pos,after,gd⟩ K s=bQ (gn nm (ru P t) n s l) nm dst K s:=rfl
theorem Qj {x:Operand}:cv P nm ⟨dst, .nilCheck x,ty,pos,after,gd⟩ K s=bQ (pJ (s.aQ x)) nm dst K s:=rfl
theorem Qk {b' o':Nat}:pJ (some (Ptr b' o'))=some (some (Ptr b' o'),none):=rfl
theorem IH:jv s none=some none:=rfl
theorem II {x:Operand}:jv s (some x)=afM (s.aQ x):=by
 unfold jv afM;rfl
theorem IJ {x:Int}:afM (some (I k x))=some (some x):=rfl
theorem Ql {b' o' n' c z:Nat} {l:Int} {hi:Option Int}:fC (some (none,z)) (some (Sl b' o' n' c)) (some (some l)) (some hi)=WI b' o' c z l (hi.getD n'):=rfl
theorem Qm {b' o' n' c z:Nat} {hi:Option Int}:fC (some (none,z)) (some (Sl b' o' n' c)) (some none) (some hi)=slU b' o' c (hi.getD n'):=HY
theorem Qn {b' o' m z:Nat} {l:Int} {hi:Option Int}:fC (some (some m,z)) (some (Ptr b' o')) (some (some l)) (some hi)=WI b' o' m z l (hi.getD m):=rfl
theorem Qo {b' o' m z:Nat} {hi:Option Int}:fC (some (some m,z)) (some (Ptr b' o')) (some none) (some hi)=slU b' o' m (hi.getD m):=HY
theorem Qp {b' o' c z:Nat} {l h:Int}:WI b' o' c z l h=if 0≤l∧l≤h∧h≤c then some (some (Sl b' (if c=l.toNat then o' else o'+l.toNat*z) (h.toNat - l.toNat) (c - l.toNat)),none) else none:=rfl
theorem Qq {b' o' c:Nat} {h:Int}:slU b' o' c h=if 0≤h∧h≤c then some (some (Sl b' o' h.toNat c),none) else none:=rfl
theorem IK {lM:Nat} {k k1 k2:IntKind} {l c:Int}:ix nm (some ([Value.int k 0],1,lM)) (some (I k1 l)) (some (I k2 c))=
  if 0≤l∧l≤c∧(lM:Int)*c≤281474976710656∧c≤9223372036854775807 then some (some (Sl nm 0 l.toNat c.toNat),some (.inl (ae k c.toNat fun _=>0))) else none:=by
 simp only[ix,Nat.mul_one,pN]
 congr 1
 simp[Value.oneCell']
theorem ur {z:List Value} {sz lM len:Nat} {l:List (Nat×Operand)}:gn nm (some (z,sz,lM)) len s l=
  if len*sz≤16777216∧0 < z.length∧z.all Value.oneCell'=true then bsF nm len (fp sz s (iw z (len*sz)) l) else none:=by
 simp only[gn]
 congr 1
theorem IL {len:Nat} {l:List SV}:bsF nm len (some l)=some (some (Sl nm 0 len len),some (.inl l)):=rfl
theorem Qr {c:Prop} [Decidable c] {x:Option (List SV)} {len nm':Nat} {K:AS→Prop}:bQ (bsF nm len (if c then x else none)) nm' dst K s=(c∧bQ (bsF nm len x) nm' dst K s):=by
 split<;>simp_all [bQ,bsF]
theorem DI {z:Nat} {cs:List SV}:fp z s cs []=some cs:=rfl
theorem xJ {z j:Nat} {x:Operand} {cs:List SV} {l:List (Nat×Operand)}:fp z s cs ((j,x)::l)=fsP z s cs j l (cellsOf (s.aQ x)):=by
 simp only[fp,fsP];cases cellsOf (s.aQ x)<;>rfl
theorem IM {z j:Nat} {cs new:List SV} {l:List (Nat×Operand)}:fsP z s cs j l (some new)=if new.length=z∧j*z+z≤cs.length then fp z s (splice cs (j*z) new) l else none:=rfl
theorem DJ {c:Prop} [Decidable c] {ef:Option dE}:bQ (if c then ef else none) nm dst K s=(c∧bQ ef nm dst K s):=by
 split<;>simp_all [bQ]
theorem uv {m:Nat}:AS.aQ s (.global m)=some (V (.pointer (some ⟨m,0,none⟩))):=rfl
theorem IN {t m o:Nat}:eg P ⟨e,b,n⟩ t (some (V (.pointer (some ⟨m,o,none⟩))))=ldB (bu P t) (Tables.row P m) o:=rfl
theorem xK {t m o:Nat} {j:Int}:cI P t (some (V (.pointer (some ⟨m,o,none⟩)))) (some (I k j))=iaT m o j (eZ P t):=by
 unfold cI iaT;rfl
theorem IP {m o l z:Nat} {j:Int}:iaT m o j (some (l,z))=if 0≤j∧j < l then some (some (V (.pointer (some ⟨m,o+j.toNat*z,none⟩))),none) else none:=rfl
theorem W8 {o:BinOp} {t c:Nat} {u v:Option AV}:nc P o t (.tmp c) u v=kj P o t u v:=rfl
theorem W9 {o:BinOp} {t:Nat} {c:IntKind} {z:Int} {u v:Option AV}:nc P o t (.const (.int c z)) u v=kj P o t u v:=rfl
theorem Qs {o:BinOp} {t:Nat} {p:Bool} {u v:Option AV}:nc P o t (.const (.bool p)) u v=kj P o t u v:=rfl
theorem Xa {o:BinOp} {t:Nat} {l:Array Value} {u v:Option AV}:nc P o t (.const (.agg l)) u v=kj P o t u v:=rfl
theorem Xb {o:BinOp} {t:Nat} {u v:Option AV}:nc P o t (.const .nilIface) u v=o6 o (isIface P t) u:=rfl
theorem ac0:o6 .neq true (some (V .nilIface))=some (some (B false),none):=rfl
theorem ac1:o6 .eql true (some (V .nilIface))=some (some (B true),none):=rfl
theorem ac2 {t:TypeId} {v:Value}:o6 .neq true (some (V (.iface t v)))=some (some (B true),none):=rfl
theorem ac3 {t:TypeId} {v:Value}:o6 .eql true (some (V (.iface t v)))=some (some (B false),none):=rfl
theorem po:AS.aQ s (.const .nilIface)=some (V .nilIface):=rfl
theorem Xc {o:BinOp} {t:Nat}:kj P o t (some (I k x)) (some (I k' y))=cx o (some (I k x)) (some (I k' y)):=rfl
theorem Qt {o:BinOp} {t:Nat} {p q:Bool}:kj P o t (some (B p)) (some (B q))=eqB o (isBool P t) p q:=rfl
theorem Xd {o:BinOp} {t:Nat} {l l':List SV}:kj P o t (some (Ag l)) (some (Ag l'))=eqA o (bM P t) (jP P t) l l':=rfl
theorem IQ {o:BinOp} {m:Nat} {q:Option (List (Nat×Nat×IntKind))} {l l':List SV}:eqA o (some (m,k)) q l l'=eqL o m (cZ k l) (cZ k l'):=rfl
theorem IS {o:BinOp} {q:List (Nat×Nat×IntKind)} {l l':List SV}:eqA o none (some q) l l'=Vo o (Cr q l l'):=rfl
theorem IT {l l':List SV}:Cr [] l l'=some true:=rfl
theorem DK {o n:Nat} {r:List (Nat×Nat×IntKind)} {l l':List SV}:Cr ((o,n,k)::r) l l'=Gd n (cZ k ((l.drop o).take n)) (cZ k ((l'.drop o).take n)) (Cr r l l'):=rfl
theorem DL {n:Nat} {a b:List Int} {c:Bool}:Gd n (some a) (some b) (some c)=if a.length=n∧b.length=n then some (decide (a=b)&&c) else none:=rfl
theorem IU {b:Bool}:Vo .eql (some b)=some (some (B b),none):=rfl
theorem IV {b:Bool}:Vo .neq (some b)=some (some (B (!b)),none):=rfl
theorem Gm {m:Nat} {p q:List Int}:eqL .eql m (some p) (some q)=if p.length=m∧q.length=m then some (some (B (decide (p=q))),none) else none:=rfl
theorem wI {m:Nat} {p q:List Int}:eqL .neq m (some p) (some q)=if p.length=m∧q.length=m then some (some (B (!decide (p=q))),none) else none:=rfl
theorem Qu {p q:Bool}:eqB .eql true p q=some (some (B (p==q)),none):=rfl
theorem Qv {p q:Bool}:eqB .neq true p q=some (some (B (!(p==q))),none):=rfl
theorem Xe {t o m c:Nat}:fB 1 (some [Sl t o m c])=some (some (I .i64 m),none):=rfl
theorem DM {a:Option Addr} {m c:Nat}:fB 1 (some [V (.slice a m c)])=some (some (I .i64 m),none):=rfl
theorem xL {x:ByteArray}:fB 2 (some [V (.string x)])=some (some (I .i64 x.size),none):=rfl
end
theorem rules:type_of% @af∧type_of% @start_eq∧type_of% @PF∧type_of% @C5∧type_of% @WV∧type_of% @PG∧type_of% @HZ∧type_of% @PH∧type_of% @PI∧type_of% @WW∧type_of% @ua∧type_of% @C6∧type_of% @H0∧type_of% @ub∧type_of% @pb∧type_of% @xl∧type_of% @H2∧type_of% @uc∧type_of% @xm∧type_of% @ud∧type_of% @xn∧type_of% @uf∧type_of% @C7∧type_of% @C8∧type_of% @xp∧type_of% @C9∧type_of% @C'∧type_of% @xq∧type_of% @Da∧type_of% @PJ∧type_of% @H3∧type_of% @Db∧type_of% @run_move∧type_of% @run_assign∧type_of% @Dc∧type_of% @PK∧type_of% @run_build∧type_of% @run_load∧type_of% @run_store∧type_of% @Dd∧type_of% @H4∧type_of% @H5∧type_of% @ug∧type_of% @pc∧type_of% @Df∧type_of% @pf∧type_of% @Dg∧type_of% @uh∧type_of% @Di∧type_of% @xu∧type_of% @H7∧type_of% @H8∧type_of% @Dj∧type_of% @xv∧type_of% @H9∧type_of% @H'∧type_of% @Dk∧type_of% @xw∧type_of% @ui∧type_of% @Dl∧type_of% @Dm∧type_of% @PL∧type_of% @PN∧type_of% @WX∧type_of% @PO∧type_of% @Ia∧type_of% @Ib∧type_of% @PQ∧type_of% @PR∧type_of% @PS∧type_of% @PT∧type_of% @PU∧type_of% @PV∧type_of% @WY∧type_of% @PW∧type_of% @xx∧type_of% @PX∧type_of% @PY∧type_of% @PZ∧type_of% @P0∧type_of% @P4∧type_of% @P5∧type_of% @P6∧type_of% @P7∧type_of% @WZ∧type_of% @W5∧type_of% @W6∧type_of% @Ie∧type_of% @Ig∧type_of% @Ih∧type_of% @P8∧type_of% @P9∧type_of% @Ii∧type_of% @Dn∧type_of% @xA∧type_of% @uj∧type_of% @Dp∧type_of% @Ij∧type_of% @Dq∧type_of% @Dr∧type_of% @Ik∧type_of% @xB∧type_of% @Il∧type_of% @Ds∧type_of% @Im∧type_of% @ph∧type_of% @Io∧type_of% @Dt∧type_of% @Qa∧type_of% @Qb∧type_of% @xC∧type_of% @Ip∧type_of% @Du∧type_of% @Iq∧type_of% @W7∧type_of% @Qc∧type_of% @Qd∧type_of% @Ir∧type_of% @uk∧type_of% @Is∧type_of% @um∧type_of% @It∧type_of% @Iu∧type_of% @Qe∧type_of% @Iv∧type_of% @Dv∧type_of% @Iw∧type_of% @Qf∧type_of% @Iy∧type_of% @Dw∧type_of% @xE∧type_of% @Dx∧type_of% @Qg∧type_of% @Dy∧type_of% @Iz∧type_of% @Dz∧type_of% @DB∧type_of% @IA∧type_of% @uo∧type_of% @pj∧type_of% @DD∧type_of% @pk∧type_of% @DE∧type_of% @uq∧type_of% @Qh∧type_of% @ID∧type_of% @xF∧type_of% @IG∧type_of% @Xc∧type_of% @Qt∧type_of% @Xd∧type_of% @IQ∧type_of% @IS∧type_of% @IT∧type_of% @DK∧type_of% @DL∧type_of% @IU∧type_of% @IV∧type_of% @Gm∧type_of% @wI∧type_of% @Qu∧type_of% @Qv∧type_of% @Xe∧type_of% @DM∧type_of% @xL∧type_of% @CW∧type_of% @xc∧type_of% @tQ∧type_of% @xd∧type_of% @rB∧type_of% @tR∧type_of% @H6∧type_of% @Dh∧type_of% @xr∧type_of% @xt∧type_of% @IC∧type_of% @xD∧type_of% @Ix∧type_of% @ah4∧type_of% @ah5∧type_of% @ah6∧type_of% @ah7∧type_of% @acU∧type_of% @acV∧type_of% @acW∧type_of% @acX:=
 ⟨@af, @start_eq, @PF, @C5, @WV, @PG, @HZ, @PH, @PI, @WW, @ua, @C6, @H0, @ub, @pb, @xl, @H2, @uc, @xm, @ud, @xn, @uf, @C7, @C8, @xp, @C9, @C', @xq, @Da, @PJ, @H3, @Db, @run_move, @run_assign, @Dc, @PK, @run_build, @run_load, @run_store, @Dd, @H4, @H5, @ug, @pc, @Df, @pf, @Dg, @uh, @Di, @xu, @H7, @H8, @Dj, @xv, @H9, @H', @Dk, @xw, @ui, @Dl, @Dm, @PL, @PN, @WX, @PO, @Ia, @Ib, @PQ, @PR, @PS, @PT, @PU, @PV, @WY, @PW, @xx, @PX, @PY, @PZ, @P0, @P4, @P5, @P6, @P7, @WZ, @W5, @W6, @Ie, @Ig, @Ih, @P8, @P9, @Ii, @Dn, @xA, @uj, @Dp, @Ij, @Dq, @Dr, @Ik, @xB, @Il, @Ds, @Im, @ph, @Io, @Dt, @Qa, @Qb, @xC, @Ip, @Du, @Iq, @W7, @Qc, @Qd, @Ir, @uk, @Is, @um, @It, @Iu, @Qe, @Iv, @Dv, @Iw, @Qf, @Iy, @Dw, @xE, @Dx, @Qg, @Dy, @Iz, @Dz, @DB, @IA, @uo, @pj, @DD, @pk, @DE, @uq, @Qh, @ID, @xF, @IG, @Xc, @Qt, @Xd, @IQ, @IS, @IT, @DK, @DL, @IU, @IV, @Gm, @wI, @Qu, @Qv, @Xe, @DM, @xL, @CW, @xc, @tQ, @xd, @rB, @tR, @H6, @Dh, @xr, @xt, @IC, @xD, @Ix, @ah4, @ah5, @ah6, @ah7, @acU, @acV, @acW, @acX⟩
theorem Xf:type_of% @ah8∧type_of% @acY∧type_of% @acZ∧type_of% @DF∧type_of% @IE∧type_of% @xG∧type_of% @Qi∧type_of% @xH∧type_of% @IF∧type_of% @DG∧type_of% @DH∧type_of% @xI∧type_of% @Qj∧type_of% @Qk∧type_of% @IH∧type_of% @II∧type_of% @IJ∧type_of% @Ql∧type_of% @Qm∧type_of% @Qn∧type_of% @Qo∧type_of% @Qp∧type_of% @Qq∧type_of% @IK∧type_of% @ur∧type_of% @IL∧type_of% @Qr∧type_of% @DI∧type_of% @xJ∧type_of% @IM∧type_of% @pN∧type_of% @DJ∧type_of% @uv∧type_of% @IN∧type_of% @xK∧type_of% @IP∧type_of% @De∧type_of% @DC∧type_of% @IB∧type_of% @Ic∧type_of% @xy∧type_of% @W8∧type_of% @W9∧type_of% @Qs∧type_of% @Xa∧type_of% @Xb∧type_of% @ac0∧type_of% @ac1∧type_of% @ac2∧type_of% @ac3∧type_of% @po:=
 ⟨@ah8, @acY, @acZ, @DF, @IE, @xG, @Qi, @xH, @IF, @DG, @DH, @xI, @Qj, @Qk, @IH, @II, @IJ, @Ql, @Qm, @Qn, @Qo, @Qp, @Qq, @IK, @ur, @IL, @Qr, @DI, @xJ, @IM, @pN, @DJ, @uv, @IN, @xK, @IP, @De, @DC, @IB, @Ic, @xy, @W8, @W9, @Qs, @Xa, @Xb, @ac0, @ac1, @ac2, @ac3, @po⟩
end Go.cA
