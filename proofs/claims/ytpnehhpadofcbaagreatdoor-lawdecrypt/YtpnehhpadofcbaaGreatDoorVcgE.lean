/-
  The calculus: the rules by which a proof's simp reckons a state, each fired by what has been reckoned already. Nothing here speaks of a program.
-/
import Derived.Test.YtpnehhpadofcbaaGreatDoorVcgH
set_option linter.unusedVariables false
set_option linter.unusedSimpArgs false
namespace Go.bU
set_option linter.unusedSectionVars false
section
variable {P:Program} [Tables P] {K:AS→Prop} {F:Exit→AS→Prop} {s:AS} {e:Nat→Option AV} {b:Nat→Option aN} {n nm:Nat} {dst:Option Tmp} {ty:TypeId} {pos:String} {after:Array Edge} {gd:Option (Nat×Bool)}
def Y3 (v:Option AV):Option (Option Int):=match v with
 | some (.inl (.inl (.inl (.int _ j))))=>some (some j)
 | _=>none
def iaT (m o:Nat) (j:Int) (t:Option (Nat×Nat)):Option dP:=match t with
 | some (l,z)=>if 0≤j∧j < l then some (some (V (.pointer (some ⟨m,o+j.toNat*z,none⟩))),none) else none
 | none=>none
def slU (b o c:Nat) (h:Int):Option dP:=if 0≤h∧h≤c then some (some (Sl b o h.toNat c),none) else none
theorem Hw {b o c z:Nat} {h:Int}:Sb b o c z 0 h=slU b o c h:=by
 unfold Sb slU
 simp
def bsF (nm len:Nat) (l:Option (List SV)):Option dP:=match l with
 | some l=>some (some (Sl nm 0 len len),some (.inl l))
 | none=>none
def fsP (z:Nat) (s:AS) (cs:List SV) (j:Nat) (rest:List (Nat×Operand)) (new:Option (List SV)):Option (List SV):=match new with
 | some new=>if new.length=z∧j*z+z≤cs.length then fZ z s (splice cs (j*z) new) rest else none
 | none=>none
theorem tj {k:IntKind} {n:Nat}:jx [Value.int k 0] n=af k n fun _=>0:=by
 unfold jx af
 apply List.map_congr_left
 intro i _
 simp[Nat.mod_one]
theorem ae {α:Type} (f:Nat→α) (d x:Nat) (v:α):upd f d v x=if x=d then v else f x:=rfl
theorem start_eq (l:List AV):start l b n=⟨fun d=>l[d]?, b,n⟩:=rfl
theorem Od:vc P .skip F s=F .normal s:=rfl
theorem DN {id:Nat} {ops:Array Oper}:vc P (.region id ops false) F ⟨e,b,n⟩=nA P ops n ops.toList 0 (F .normal) ⟨e,b,n⟩:=rfl
theorem SK {x y:Code}:vc P (.seq x y) F s=vc P x (fL (vc P y F) F) s:=rfl
theorem Oe {c:Operand} {x y:Code}:vc P (.cond c x y) F s=oo (s.aT c) (vc P x F) (vc P y F) s:=rfl
theorem Hx {id:Nat} {c:Code}:vc P (.block id c) F s=vc P c (jy id F) s:=rfl
theorem Og {c:Code}:vc P (.loop c) F s=kH (vc P c) F s:=rfl
theorem Oh {id:Nat}:vc P (.exit id) F s=F (.exit id) s:=rfl
theorem SL:vc P .ret F s=F .ret s:=rfl
theorem yz {K:AS→Prop}:fL K F .normal s=K s:=rfl
theorem DP {K:AS→Prop} {id:Nat}:fL K F (.exit id) s=F (.exit id) s:=rfl
theorem Hy {K:AS→Prop}:fL K F .ret s=F .ret s:=rfl
theorem yA {id id':Nat}:jy id F (.exit id') s=if id'=id then F .normal s else F (.exit id') s:=rfl
theorem sD {id:Nat}:jy id F .normal s=F .normal s:=rfl
theorem Aq {id:Nat}:jy id F .ret s=F .ret s:=rfl
theorem Hz {rs:List ResultVar} {Post:AV→AS→Prop}:nt P rs Post .ret s=vB (lA (im P s rs)) Post s:=rfl
theorem yB {rs:List ResultVar} {Post:AV→AS→Prop}:nt P rs Post .normal s=vB (lA (im P s rs)) Post s:=rfl
theorem Ar:im P s []=some []:=rfl
theorem yC {r:ResultVar} {rs:List ResultVar}:im P s (r::rs)=Ob (xv P s r) (im P s rs):=by
 unfold Ob;rfl
theorem Au {t:Nat}:xv P ⟨e,b,n⟩ (.tmp t)=YR (e t):=rfl
theorem yD {t ty:Nat}:xv P ⟨e,b,n⟩ (.cell t ty)=aa6 (fb P ⟨e,b,n⟩ ty (e t)):=rfl
theorem DQ {c:CV}:YR (some (.inl c))=some c:=rfl
theorem DR {c:CV} {m:Mem}:aa6 (some (some (.inl c),m))=some c:=rfl
theorem Av {c:CV} {l:List CV}:Ob (some c) (some l)=some (c::l):=rfl
theorem DS {c:CV}:lA (some [c])=some (.inl c):=rfl
theorem DT {c d:CV} {l:List CV}:lA (some (c::d::l))=some (.inr (c::d::l)):=rfl
theorem Aw:lA (some [])=some (.inr []):=rfl
theorem DU {v:AV} {Post:AV→AS→Prop}:vB (some v) Post s=Post v s:=rfl
variable {ops:Array Oper} {base i:Nat} {rest:List Oper} {op:Op}
theorem Oi:nA P ops base [] i K ⟨e,b,n⟩=K ⟨e,b,base+i⟩:=rfl
theorem HA:nA P ops base (⟨dst,op,ty,pos,after,none⟩::rest) i K s=cl P (base+i) ⟨dst,op,ty,pos,after,none⟩ (nA P ops base rest (i+1) K) s:=rfl
theorem DV {j:Nat} {want:Bool}:nA P ops base (⟨dst,op,ty,pos,after,some (j,want)⟩::rest) i K s=
  FG P (qz (fR ops s j) want) want (base+i) ⟨dst,op,ty,pos,after,some (j,want)⟩ (nA P ops base rest (i+1) K) s:=rfl
variable {o:Oper}
theorem abf:FG P (some (B true)) true nm o K s=cl P nm o K s:=by simp[FG,ga]
theorem abg:FG P (some (B false)) false nm o K s=cl P nm o K s:=by simp[FG,ga]
theorem abh:FG P (some (B true)) false nm ⟨dst,op,ty,pos,after,gd⟩ K s=K (s.put dst (some (V undef))):=by simp[FG,ga]
theorem abj:FG P (some (B false)) true nm ⟨dst,op,ty,pos,after,gd⟩ K s=K (s.put dst (some (V undef))):=by simp[FG,ga]
theorem XO:sB P ops i (some (B true)) true nm o K s=vw P ops i nm o K s:=by simp[sB,ga]
theorem XP:sB P ops i (some (B false)) false nm o K s=vw P ops i nm o K s:=by simp[sB,ga]
theorem XQ:sB P ops i (some (B true)) false nm ⟨dst,op,ty,pos,after,gd⟩ K s=K (s.put dst (some (V undef))):=by simp[sB,ga]
theorem XR:sB P ops i (some (B false)) true nm ⟨dst,op,ty,pos,after,gd⟩ K s=K (s.put dst (some (V undef))):=by simp[sB,ga]
theorem abk {want x:Bool}:qz (some (B x)) want=some (B x):=rfl
theorem XS:qz (some (V undef)) true=some (B false):=rfl
theorem XT:qz (some (V undef)) false=some (B true):=rfl
theorem run_move {x:Operand}:cl P nm ⟨dst, .move x,ty,pos,after,gd⟩ K s=oW (s.aT x) dst K s:=by
 simp only[cl,fy,oW];cases s.aT x<;>rfl
theorem run_assign {x:Operand}:cl P nm ⟨dst, .assign x,ty,pos,after,gd⟩ K s=oW (s.aT x) dst K s:=by
 simp only[cl,fy,oW];cases s.aT x<;>rfl
theorem DW {t:Nat}:cl P nm ⟨dst, .alloc t,ty,pos,after,gd⟩ K s=bO (j6 P nm t) nm dst K s:=rfl
theorem Oj {t:Nat} {x:Operand}:cl P nm ⟨dst, .box t x,ty,pos,after,gd⟩ K s=bO (sW nm (s.aT x)) nm dst K s:=rfl
theorem run_build {t:Nat} {l:List (Nat×Operand)}:cl P nm ⟨dst, .build t l.toArray,ty,pos,after,gd⟩ K s=bO (gD P t s l) nm dst K s:=rfl
theorem run_load {t:Nat} {x:Operand}:cl P nm ⟨dst, .load t x,ty,pos,after,gd⟩ K s=bO (fb P s t (s.aT x)) nm dst K s:=rfl
theorem run_store {t:Nat} {x y:Operand}:cl P nm ⟨dst, .store t x y,ty,pos,after,gd⟩ K s=bO (fW P s t (s.aT x) (s.aT y)) nm dst K s:=rfl
theorem DX {o:BinOp} {t u:Nat} {x y:Operand}:cl P nm ⟨dst, .binOp o t x y u,ty,pos,after,gd⟩ K s=bO (vn P o t y (s.aT x) (s.aT y)) nm dst K s:=rfl
theorem HB {xs:List Operand} {tys:List TypeId}:cl P nm ⟨dst, .call ⟨.builtin .len,xs.toArray,tys.toArray⟩,ty,pos,after,gd⟩ K s=bO (gR (vq P tys) (bD s xs)) nm dst K s:=rfl
theorem HC {o:UnOp} {t:Nat} {x:Operand}:cl P nm ⟨dst, .unOp o t x,ty,pos,after,gd⟩ K s=bO (qv o (s.aT x)) nm dst K s:=rfl
theorem yE {t u:Nat} {x:Operand}:cl P nm ⟨dst, .convert t u x,ty,pos,after,gd⟩ K s=bO (ik P s t u (s.aT x)) nm dst K s:=rfl
theorem sE {t f:Nat} {x:Operand}:cl P nm ⟨dst, .fieldAddr t x f,ty,pos,after,gd⟩ K s=bO (fc P t f (s.aT x)) nm dst K s:=rfl
theorem DY {t:Nat} {x:Operand}:cl P nm ⟨dst, .sliceToArrayPointer t x,ty,pos,after,gd⟩ K s=bO (lx (gC P t) (s.aT x)) nm dst K s:=rfl
theorem sF {t:Nat} {x y:Operand}:cl P nm ⟨dst, .indexAddr t x y,ty,pos,after,gd⟩ K s=bO (cU P t (s.aT x) (s.aT y)) nm dst K s:=rfl
theorem DZ {t:Nat} {x y:Operand}:cl P nm ⟨dst, .index t x y,ty,pos,after,gd⟩ K s=bO (je P t (s.aT x) (s.aT y)) nm dst K s:=rfl
theorem yF {x:Operand} {k:Nat}:cl P nm ⟨dst, .extract x k,ty,pos,after,gd⟩ K s=bO (gq (s.aT x) k) nm dst K s:=rfl
theorem HD {x y z:Operand}:cl P nm ⟨dst, .pick x y z,ty,pos,after,gd⟩ K s=bO (oR (s.aT x) (s.aT y) (s.aT z)) nm dst K s:=rfl
theorem D0 {x y:Option AV}:oR (some (B true)) x y=Dw x:=rfl
theorem Ax {x y:Option AV}:oR (some (B false)) x y=Dw y:=rfl
theorem Ay {v:AV}:Dw (some v)=some (some v,none):=rfl
theorem D1 {f:Nat} {xs:List Operand} {tys:Array TypeId}:cl P nm ⟨dst, .call ⟨.value (.func f),xs.toArray,tys⟩,ty,pos,after,gd⟩ K s=
  if ai P f=true then ax P nm f (bD s xs) dst K s else pV P f (bD s xs) dst K s:=rfl
theorem Az {xs:List Operand} {tys:Array TypeId}:cl P nm ⟨dst, .call ⟨.builtin .append,xs.toArray,tys⟩,ty,pos,after,gd⟩ K s=
  bQ P nm .append tys ty (xs.toArray.map isConst) (bD s xs) dst K s:=rfl
theorem HE {xs:List Operand} {tys:Array TypeId}:cl P nm ⟨dst, .call ⟨.builtin .copy,xs.toArray,tys⟩,ty,pos,after,gd⟩ K s=
  bQ P nm .copy tys ty (xs.toArray.map isConst) (bD s xs) dst K s:=rfl
theorem HF:bD s []=some []:=rfl
theorem D2 {x:Operand} {xs:List Operand}:bD s (x::xs)=XG (s.aT x) (bD s xs):=rfl
theorem AB {v:AV} {l:List AV}:XG (some v) (some l)=some (v::l):=rfl
theorem HG {t:Nat}:AS.aT ⟨e,b,n⟩ (.tmp t)=e t:=rfl
theorem HI {k:IntKind} {x:Int}:AS.aT s (.const (.int k x))=some (I k x):=rfl
theorem D3 {x:Bool}:AS.aT s (.const (.bool x))=some (B x):=rfl
theorem AE {a:Option Addr} {l c:Nat}:AS.aT s (.const (.slice a l c))=some (V (.slice a l c)):=rfl
theorem D4 {v:AV}:oW (some v) dst K s=K (s.put dst (some v)):=rfl
theorem Ol {v:Option AV}:bO (some (v,none)) nm dst K s=K (s.put dst v):=rfl
theorem Om {v:Option AV} {cs:List SV}:bO (some (v,some (.inl cs))) nm dst K ⟨e,b,n⟩=K (AS.put ⟨e,upd b nm (some ⟨true,cs⟩),n⟩ dst v):=rfl
theorem SM {v:Option AV} {t:Nat} {bx:aN}:bO (some (v,some (.inr (t,bx)))) nm dst K ⟨e,b,n⟩=K (AS.put ⟨e,upd b t (some bx),n⟩ dst v):=rfl
theorem HJ {t:Nat} {v:Option AV}:AS.put ⟨e,b,n⟩ (some t) v=⟨upd e t v,b,n⟩:=rfl
theorem HK {v:Option AV}:AS.put s none v=s:=rfl
variable {k k':IntKind} {x y:Int}
theorem On:cG .add (some (I k x)) (some (I k y))=some (some (I k (k.wrap (x+y))),none):=by simp[cG,nS]
theorem Oo:cG .sub (some (I k x)) (some (I k y))=some (some (I k (k.wrap (x - y))),none):=by simp[cG,nS]
theorem Oq:cG .mul (some (I k x)) (some (I k y))=some (some (I k (k.wrap (x*y))),none):=by simp[cG,nS]
theorem Ot:cG .quo (some (I k x)) (some (I k y))=if y≠0 then some (some (I k (k.wrap (x.tdiv y))),none) else none:=by
 simp only[cG,nS];by_cases h:y=0<;>simp[h]
theorem Ou:cG .rem (some (I k x)) (some (I k y))=if y≠0 then some (some (I k (x.tmod y)),none) else none:=by
 simp only[cG,nS];by_cases h:y=0<;>simp[h]
theorem Ov:cG .and (some (I k x)) (some (I k y))=some (some (I k (aU .and k x y)),none):=by simp[cG,nS]
theorem SN:cG .or (some (I k x)) (some (I k y))=some (some (I k (aU .or k x y)),none):=by simp[cG,nS]
theorem Ow:cG .xor (some (I k x)) (some (I k y))=some (some (I k (aU .xor k x y)),none):=by simp[cG,nS]
theorem AF:cG .andNot (some (I k x)) (some (I k y))=some (some (I k (aU .andNot k x y)),none):=by simp[cG,nS]
theorem Ox:cG .eql (some (I k x)) (some (I k y))=some (some (B (x==y)),none):=by simp[cG,nS]
theorem Oy:cG .neq (some (I k x)) (some (I k y))=some (some (B (x != y)),none):=by simp[cG,nS]
theorem Oz:cG .lss (some (I k x)) (some (I k y))=some (some (B (decide (x < y))),none):=by simp[cG,nS]
theorem OA:cG .leq (some (I k x)) (some (I k y))=some (some (B (decide (x≤y))),none):=by simp[cG,nS]
theorem OB:cG .gtr (some (I k x)) (some (I k y))=some (some (B (decide (y < x))),none):=by simp[cG,nS]
theorem OC:cG .geq (some (I k x)) (some (I k y))=some (some (B (decide (y≤x))),none):=by simp[cG,nS]
theorem OD:cG .shl (some (I k x)) (some (I k' y))=if 0≤y then some (some (I k (gp k x y)),none) else none:=by
 simp only[cG,nS,true_or,or_true,if_true];by_cases h:0≤y<;>simp[h]
theorem OE:cG .shr (some (I k x)) (some (I k' y))=if 0≤y then some (some (I k (cy k x y)),none) else none:=by
 simp only[cG,nS,or_true,if_true];by_cases h:0≤y<;>simp[h]
theorem SP {x:Bool}:qv .not (some (B x))=some (some (B (!x)),none):=rfl
theorem SQ:qv .neg (some (I k x))=some (some (I k (k.wrap (0 - x))),none):=rfl
theorem SR:qv .xor (some (I k x))=some (some (I k (aU .xor k (if k.signed then -1 else k.max) x)),none):=rfl
theorem HL {t b o n c:Nat}:ik P s t t (some (Sl b o n c))=Dx (VI P t) (s.box b) (Sl b o n c):=by
 show (if t=t then _ else _)=_
 rw[if_pos rfl]
theorem AG {cs:List SV} {v:AV}:Dx true (some ⟨true,cs⟩) v=some (some v,none):=rfl
theorem HM {t u:Nat}:ik P s t u (some (I k' x))=cvK x (kindOf P t) (kindOf P u):=by
 show ij P t u (some (I k' x))=_
 cases h1:kindOf P t<;>cases h2:kindOf P u<;>simp[ij,cvK,h1,h2]
theorem HN:cvK x (some k') (some k)=some (some (I k (k.wrap x)),none):=rfl
theorem HO {t bx o:Nat}:fb P ⟨e,b,n⟩ t (some (Ptr bx o))=ldB (dX P t) (b bx) o:=rfl
theorem OG {m:Nat} {rw:Bool} {cs:List SV} {o:Nat}:ldB (some (true,m)) (some ⟨rw,cs⟩) o=if o+m≤cs.length then some (some (Ag ((cs.drop o).take m)),none) else none:=rfl
theorem OH {m:Nat} {rw:Bool} {cs:List SV} {o:Nat}:ldB (some (false,m)) (some ⟨rw,cs⟩) o=ldC cs[o]? :=rfl
theorem HP {v:SV}:ldC (some v)=some (some (.inl (.inl v)),none):=rfl
theorem D5 {k:IntKind} {x:Int}:cellsOf (some (I k x))=some [Sum.inl (.int k x)]:=rfl
theorem AH {x:Bool}:cellsOf (some (B x))=some [Sum.inl (.bool x)]:=rfl
theorem yG {a:Option Addr} {l c:Nat}:cellsOf (some (V (.slice a l c)))=some [Sum.inl (.slice a l c)]:=rfl
theorem HQ {t o l c:Nat}:cellsOf (some (Sl t o l c))=some [Sum.inr (.inr (t,o,l,c))]:=rfl
theorem D6 {l:List SV}:cellsOf (some (Ag l))=some l:=rfl
theorem D7 {t bx o:Nat} {v:Option AV}:fW P ⟨e,b,n⟩ t (some (Ptr bx o)) v=YS bx o (cellsOf v) (dX P t) (b bx):=by
 cases h1:cellsOf v with
 | none=>simp[fW,YS,h1]
 | some new=>
  cases h2:dX P t with
  | none=>simp[fW,YS,h1,h2]
  | some p=>
   cases h3:b bx with
   | none=>simp[fW,YS,h1,h2,h3]
   | some x=>simp[fW,YS,h1,h2,h3]
theorem HR {bx o m:Nat} {new cs:List SV} {ag:Bool}:YS bx o (some new) (some (ag,m)) (some ⟨true,cs⟩)=
  if o+new.length≤cs.length∧new.length=m then some (none,some (.inr (bx,⟨true,splice cs o new⟩))) else none:=by
 simp[YS]
theorem AJ {t:Nat}:j6 P nm t=alZ nm (zeroOf P t):=rfl
theorem HS {z:List Value}:alZ nm (some z)=if z.all Value.oneCell'=true then some (some (Ptr nm 0),some (.inl (z.map .inl))) else none:=rfl
theorem D8 {v:AV}:sW nm (some v)=bxC nm (cellsOf (some v)):=rfl
theorem HT {l:List SV}:bxC nm (some l)=some (some (Ptr nm 0),some (.inl l)):=rfl
theorem sG {t f bx o:Nat}:fc P t f (some (Ptr bx o))=faP bx o (bh P t f):=by
 unfold fc faP;split<;>simp_all
theorem HU {bx o fo m:Nat} {ag:Bool}:faP bx o (some (fo,ag,m+1))=some (some (Ptr bx (o+fo)),none):=rfl
theorem AK {t bx o:Nat} {j:Int}:cU P t (some (Ptr bx o)) (some (I k j))=iaP bx o j (gC P t):=by
 unfold cU iaP;rfl
theorem HV {bx o m z:Nat} {j:Int}:iaP bx o j (some (m,z))=if 0≤j∧j < m then some (some (Ptr bx (o+j.toNat*z)),none) else none:=rfl
theorem D9 {t bx o m c:Nat} {j:Int}:cU P t (some (Sl bx o m c)) (some (I k j))=isP bx o m j (bU.elemOf P t):=by
 unfold cU isP;rfl
theorem HW {bx o m z:Nat} {j:Int}:isP bx o m j (some z)=if 0≤j∧j < m then some (some (Ptr bx (o+j.toNat*z)),none) else none:=rfl
theorem SS {t:Nat} {l:List SV} {j:Int}:je P t (some (Ag l)) (some (I k j))=ixP l j (qw P t):=by
 unfold je ixP
 cases h:qw P t with
 | none=>rfl
 | some p=>obtain ⟨m,ag,z⟩:=p;cases ag<;>rfl
theorem OI {l:List SV} {j:Int} {m z:Nat}:ixP l j (some (m,true,z))=if 0≤j∧j < m then some (some (Ag ((l.drop (j.toNat*z)).take z)),none) else none:=rfl
theorem OJ {l:List SV} {j:Int} {m z:Nat}:ixP l j (some (m,false,z))=ixC j m l[j.toNat*z]? :=by
 cases h:l[j.toNat*z]? <;>simp[ixP,ixC,h]
theorem HX {j:Int} {m:Nat} {v:SV}:ixC j m (some v)=if 0≤j∧j < m then some (some (.inl (.inl v)),none) else none:=rfl
theorem yH {l:List CV} {k:Nat}:gq (some (.inr l)) k=exC l[k]? :=rfl
theorem HY {c:CV}:exC (some c)=some (some (.inl c),none):=rfl
theorem yI {t:Nat} {l:List (Nat×Operand)}:gD P t s l=bdB P t s l (dO P t):=by
 cases h:dO P t with
 | none=>simp[gD,bdB,h]
 | some z=>simp only[gD,bdB,h];cases fX P t s z l<;>rfl
theorem HZ {t:Nat} {l:List (Nat×Operand)} {z:List SV}:bdB P t s l (some z)=bdF (fX P t s z l):=rfl
theorem H0 {l:List SV}:bdF (some l)=some (some (Ag l),none):=rfl
theorem OL {c:Prop} [Decidable c] {x:Option (List SV)} {K:AS→Prop}:bO (bdF (if c then x else none)) nm dst K s=(c∧bO (bdF x) nm dst K s):=by
 split<;>simp_all [bO,bdF]
theorem H2 {t:Nat} {cs:List SV}:fX P t s cs []=some cs:=rfl
theorem D' {t j:Nat} {x:Operand} {cs:List SV} {l:List (Nat×Operand)}:fX P t s cs ((j,x)::l)=fiP P t s cs l (cellsOf (s.aT x)) (placeOf P t j):=by
 cases h:placeOf P t j with
 | none=>simp[fX,fiP,h]
 | some p=>obtain ⟨o,m⟩:=p;simp only[fX,fiP,h];cases cellsOf (s.aT x)<;>rfl
theorem H3 {t:Nat} {cs new:List SV} {o m:Nat} {l:List (Nat×Operand)}:fiP P t s cs l (some new) (some (o,m))=if new.length=m∧o+m≤cs.length then fX P t s (splice cs o new) l else none:=rfl
theorem AL {l:List Oper} {j:Nat}:fR l.toArray ⟨e,b,n⟩ j=gdO e l[j]? :=by
 unfold fR gdO
 simp only[List.getElem?_toArray]
 cases l[j]? <;>rfl
theorem H4 {d:Nat}:gdO e (some ⟨some d,op,ty,pos,after,gd⟩)=e d:=rfl
theorem OM {id:Nat} {ops:Array Oper}:vc P (.region id ops true) F ⟨e,b,n⟩=((P.follows .mixedOrders=true∧FH ops=true)∧jz P ops n ops.toList 0 (F .normal) ⟨e,b,n⟩):=rfl
theorem H5:jz P ops base [] i K ⟨e,b,n⟩=K ⟨e,b,base+i⟩:=rfl
theorem Ea:jz P ops base (⟨dst,op,ty,pos,after,none⟩::rest) i K s=vw P ops i (base+i) ⟨dst,op,ty,pos,after,none⟩ (jz P ops base rest (i+1) K) s:=rfl
theorem AO {j:Nat} {want:Bool}:jz P ops base (⟨dst,op,ty,pos,after,some (j,want)⟩::rest) i K s=
  sB P ops i (qz (fR ops s j) want) want (base+i) ⟨dst,op,ty,pos,after,some (j,want)⟩ (jz P ops base rest (i+1) K) s:=by
 show Hk P ops i (base+i) ⟨dst,op,ty,pos,after,some (j,want)⟩ (jz P ops base rest (i+1) K) s=_
 generalize jz P ops base rest (i+1) K=K'
 simp only[Hk,Does,ou,zv,sB,ga,vw]
 generalize qz (fR ops s j) want=q
 have none: ∀ (X:dP→Prop) (Y:(dP→Prop)→Prop) (c d:Prop),((∃ ef,False∧X ef)∨(c∧ ∃ D,False∧Y D)∨(d∧False))=False:=fun X Y c d=>by simp
 rcases q with _ | (((v | v) | l) | l)<;>try exact none _ _ _ _
 cases v<;>try exact none _ _ _ _
 rename_i x
 rw[eq_iff_iff]
 constructor
 ·rintro (⟨ef,⟨h1,h2⟩,hk⟩ | ⟨hl,D,⟨h1,h2⟩,hk⟩ | ⟨hb,h1,h2⟩)
  ·refine ⟨fun hw=> .inl ⟨ef,h1 hw,hk⟩,fun hw=> ?_⟩
   rw[h2 hw]at hk
   exact hk
  ·refine ⟨fun hw=> .inr (.inl ⟨hl,D,h1 hw,hk⟩),fun hw=> ?_⟩
   exact hk (some (V undef),Option.none) (by rw[h2 hw])
  ·exact ⟨fun hw=> .inr (.inr ⟨hb,h1 hw⟩),h2⟩
 ·rintro ⟨h1,h2⟩
  by_cases hw:x=want
  ·rcases h1 hw with ⟨ef,hd,hk⟩ | ⟨hl,D,hd,hk⟩ | ⟨hb,hk⟩
   ·exact .inl ⟨ef,⟨fun _=>hd,fun hx=>absurd hw hx⟩,hk⟩
   ·exact .inr (.inl ⟨hl,D,⟨fun _=>hd,fun hx=>absurd hw hx⟩,hk⟩)
   ·exact .inr (.inr ⟨hb,fun _=>hk,fun hx=>absurd hw hx⟩)
  ·exact .inl ⟨(some (V undef),Option.none),⟨fun hx=>absurd hx hw,fun _=>rfl⟩,h2 hw⟩
theorem fB {o:Oper} {ef:Option dP} (h1: ∀ x,lg P nm o s x=(ef=some x)) (h2: ∀ D, ¬ ka P nm o s D) (h3:cl P nm o K s=bO ef nm o.dst K s):vw P ops i nm o K s=bO ef nm o.dst K s:=by
 unfold vw
 rw[h3]
 simp only[h1,h2,false_and,exists_false,and_false,false_or]
 cases ef with
 | none=>simp[bO]
 | some x=>simp[bO,app]
theorem Eb {t:Nat}:vw P ops i nm ⟨dst, .alloc t,ty,pos,after,gd⟩ K s=bO (j6 P nm t) nm dst K s:=fB (fun _=>rfl) (fun _ h=>h) rfl
theorem Ec {t:Nat} {l:List (Nat×Operand)}:vw P ops i nm ⟨dst, .build t l.toArray,ty,pos,after,gd⟩ K s=bO (gD P t s l) nm dst K s:=fB (fun _=>rfl) (fun _ h=>h) rfl
theorem H6 {t:Nat} {x:Operand}:vw P ops i nm ⟨dst, .load t x,ty,pos,after,gd⟩ K s=bO (fb P s t (s.aT x)) nm dst K s:=fB (fun _=>rfl) (fun _ h=>h) rfl
theorem Ed {t:Nat} {x y:Operand}:vw P ops i nm ⟨dst, .store t x y,ty,pos,after,gd⟩ K s=bO (fW P s t (s.aT x) (s.aT y)) nm dst K s:=fB (fun _=>rfl) (fun _ h=>h) rfl
theorem Ee {o:BinOp} {t u:Nat} {x y:Operand}:vw P ops i nm ⟨dst, .binOp o t x y u,ty,pos,after,gd⟩ K s=bO (vn P o t y (s.aT x) (s.aT y)) nm dst K s:=fB (fun _=>rfl) (fun _ h=>h) rfl
theorem H7 {o:UnOp} {t:Nat} {x:Operand}:vw P ops i nm ⟨dst, .unOp o t x,ty,pos,after,gd⟩ K s=bO (qv o (s.aT x)) nm dst K s:=fB (fun _=>rfl) (fun _ h=>h) rfl
theorem yJ {t u:Nat} {x:Operand}:vw P ops i nm ⟨dst, .convert t u x,ty,pos,after,gd⟩ K s=bO (ik P s t u (s.aT x)) nm dst K s:=fB (fun _=>rfl) (fun _ h=>h) rfl
theorem sH {t f:Nat} {x:Operand}:vw P ops i nm ⟨dst, .fieldAddr t x f,ty,pos,after,gd⟩ K s=bO (fc P t f (s.aT x)) nm dst K s:=fB (fun _=>rfl) (fun _ h=>h) rfl
theorem Ef {t:Nat} {x:Operand}:vw P ops i nm ⟨dst, .sliceToArrayPointer t x,ty,pos,after,gd⟩ K s=bO (lx (gC P t) (s.aT x)) nm dst K s:=fB (fun _=>rfl) (fun _ h=>h) rfl
theorem H8 {m z b o n c:Nat}:lx (some (m,z)) (some (Sl b o n c))=if m≤n then some (some (Ptr b o),none) else none:=rfl
theorem sI {t:Nat} {x y:Operand}:vw P ops i nm ⟨dst, .indexAddr t x y,ty,pos,after,gd⟩ K s=bO (cU P t (s.aT x) (s.aT y)) nm dst K s:=fB (fun _=>rfl) (fun _ h=>h) rfl
theorem yK {x:Operand} {k:Nat}:vw P ops i nm ⟨dst, .extract x k,ty,pos,after,gd⟩ K s=bO (gq (s.aT x) k) nm dst K s:=fB (fun _=>rfl) (fun _ h=>h) rfl
theorem OO {xs:List Operand} {tys:List TypeId}:vw P ops i nm ⟨dst, .call ⟨.builtin .len,xs.toArray,tys.toArray⟩,ty,pos,after,gd⟩ K s=bO (gR (vq P tys) (bD s xs)) nm dst K s:=fB (fun _=>rfl) (fun _ h=>h) rfl
theorem H9 {x y z:Operand}:vw P ops i nm ⟨dst, .pick x y z,ty,pos,after,gd⟩ K s=bO (oR (s.aT x) (s.aT y) (s.aT z)) nm dst K s:=fB (fun _=>rfl) (fun _ h=>h) rfl
theorem H' {x:Operand}:vw P ops i nm ⟨dst, .move x,ty,pos,after,gd⟩ K s=oW (s.aT x) dst K s:=by
 refine Eq.trans (b:=bO (fy P nm s (.move x)) nm dst K s) (fB (fun _=>rfl) (fun _ h=>h) rfl) ?_
 simp only[fy,oW];cases s.aT x<;>rfl
theorem AP {x:Operand}:vw P ops i nm ⟨dst, .assign x,ty,pos,after,gd⟩ K s=oW (s.aT x) dst K s:=by
 refine Eq.trans (b:=bO (fy P nm s (.assign x)) nm dst K s) (fB (fun _=>rfl) (fun _ h=>h) rfl) ?_
 simp only[fy,oW];cases s.aT x<;>rfl
theorem Eg {t:Nat} {x:Operand} {lo hi:Option Operand}:vw P ops i nm ⟨dst, .slice t x lo hi none,ty,pos,after,gd⟩ K s=bO (gE (rZ P t) (s.aT x) (fY s lo) (fY s hi)) nm dst K s:=fB (fun _=>rfl) (fun _ h=>h) rfl
theorem Ia {t:Nat} {x y:Operand}:vw P ops i nm ⟨dst, .makeSlice t x y,ty,pos,after,gd⟩ K s=bO (j7 nm (qh P t) (s.aT x) (s.aT y)) nm dst K s:=fB (fun _=>rfl) (fun _ h=>h) rfl
theorem AQ {t n:Nat} {l:List (Nat×Operand)}:vw P ops i nm ⟨dst, .buildSlice t n l.toArray,ty,pos,after,gd⟩ K s=bO (fU nm (qh P t) n s l) nm dst K s:=fB (fun _=>rfl) (fun _ h=>h) rfl
theorem OP {x:Operand}:vw P ops i nm ⟨dst, .nilCheck x,ty,pos,after,gd⟩ K s=bO (sX (s.aT x)) nm dst K s:=fB (fun _=>rfl) (fun _ h=>h) rfl
theorem AU {xs:List Operand} {tys:Array TypeId}:vw P ops i nm ⟨dst, .call ⟨.builtin .append,xs.toArray,tys⟩,ty,pos,after,gd⟩ K s=
  (bar ops i=true∧bQ P nm .append tys ty (xs.toArray.map isConst) (bD s xs) dst K s):=by
 rw[eq_iff_iff]
 constructor
 ·rintro (⟨e,h,_⟩ | ⟨_,D,h,_⟩ | h)
  ·exact h.elim
  ·exact h.elim
  ·exact h
 ·exact fun h=> .inr (.inr h)
theorem Ib {xs:List Operand} {tys:Array TypeId}:vw P ops i nm ⟨dst, .call ⟨.builtin .copy,xs.toArray,tys⟩,ty,pos,after,gd⟩ K s=
  (bar ops i=true∧bQ P nm .copy tys ty (xs.toArray.map isConst) (bD s xs) dst K s):=by
 rw[eq_iff_iff]
 constructor
 ·rintro (⟨e,h,_⟩ | ⟨_,D,h,_⟩ | h)
  ·exact h.elim
  ·exact h.elim
  ·exact h
 ·exact fun h=> .inr (.inr h)
theorem Ic {f:Nat} {xs:List Operand} {tys:Array TypeId}:vw P ops i nm ⟨dst, .call ⟨.value (.func f),xs.toArray,tys⟩,ty,pos,after,gd⟩ K s=ov P ops i nm f (bD s xs) dst K s:=by
 rw[eq_iff_iff]
 constructor
 ·rintro (⟨ef,⟨l,r,h1,h2,rfl⟩ | h,hk⟩ | ⟨hl,D,hD,hk⟩ | ⟨hb,hk⟩)
  ·exact .inl ⟨l,r,h1,h2,hk⟩
  ·exact .inr (.inl ⟨ef,h,hk⟩)
  ·exact .inr (.inr (.inl ⟨hl,D,hD,hk⟩))
  ·exact .inr (.inr (.inr ⟨hb,hk⟩))
 ·rintro (⟨l,r,h1,h2,hk⟩ | ⟨e,h,hk⟩ | ⟨hl,D,hD,hk⟩ | ⟨hb,hk⟩)
  ·exact .inl ⟨_, .inl ⟨l,r,h1,h2,rfl⟩,hk⟩
  ·exact .inl ⟨e, .inr h,hk⟩
  ·exact .inr (.inl ⟨hl,D,hD,hk⟩)
  ·exact .inr (.inr ⟨hb,hk⟩)
theorem Eh {t:Nat} {x:Operand} {lo hi:Option Operand}:cl P nm ⟨dst, .slice t x lo hi none,ty,pos,after,gd⟩ K s=bO (gE (rZ P t) (s.aT x) (fY s lo) (fY s hi)) nm dst K s:=rfl
theorem Ei {t:Nat} {x y:Operand}:cl P nm ⟨dst, .makeSlice t x y,ty,pos,after,gd⟩ K s=bO (j7 nm (qh P t) (s.aT x) (s.aT y)) nm dst K s:=rfl
theorem AW {t n:Nat} {l:List (Nat×Operand)}:cl P nm ⟨dst, .buildSlice t n l.toArray,ty,pos,after,gd⟩ K s=bO (fU nm (qh P t) n s l) nm dst K s:=rfl
theorem OQ {x:Operand}:cl P nm ⟨dst, .nilCheck x,ty,pos,after,gd⟩ K s=bO (sX (s.aT x)) nm dst K s:=rfl
theorem OT {b' o':Nat}:sX (some (Ptr b' o'))=some (some (Ptr b' o'),none):=rfl
theorem Ie:fY s none=some none:=rfl
theorem Ig {x:Operand}:fY s (some x)=Y3 (s.aT x):=by
 unfold fY Y3;rfl
theorem Ih {x:Int}:Y3 (some (I k x))=some (some x):=rfl
theorem OU {b' o' n' c z:Nat} {l:Int} {hi:Option Int}:gE (some (none,z)) (some (Sl b' o' n' c)) (some (some l)) (some hi)=Sb b' o' c z l (hi.getD n'):=rfl
theorem OV {b' o' n' c z:Nat} {hi:Option Int}:gE (some (none,z)) (some (Sl b' o' n' c)) (some none) (some hi)=slU b' o' c (hi.getD n'):=Hw
theorem OW {b' o' m z:Nat} {l:Int} {hi:Option Int}:gE (some (some m,z)) (some (Ptr b' o')) (some (some l)) (some hi)=Sb b' o' m z l (hi.getD m):=rfl
theorem OX {b' o' m z:Nat} {hi:Option Int}:gE (some (some m,z)) (some (Ptr b' o')) (some none) (some hi)=slU b' o' m (hi.getD m):=Hw
theorem OY {b' o' c z:Nat} {l h:Int}:Sb b' o' c z l h=if 0≤l∧l≤h∧h≤c then some (some (Sl b' (if c=l.toNat then o' else o'+l.toNat*z) (h.toNat - l.toNat) (c - l.toNat)),none) else none:=rfl
theorem OZ {b' o' c:Nat} {h:Int}:slU b' o' c h=if 0≤h∧h≤c then some (some (Sl b' o' h.toNat c),none) else none:=rfl
theorem Ii {by':Nat} {k k1 k2:IntKind} {l c:Int}:j7 nm (some ([Value.int k 0],1,by')) (some (I k1 l)) (some (I k2 c))=
  if 0≤l∧l≤c∧(by':Int)*c≤281474976710656∧c≤9223372036854775807 then some (some (Sl nm 0 l.toNat c.toNat),some (.inl (af k c.toNat fun _=>0))) else none:=by
 simp only[j7,Nat.mul_one,tj]
 congr 1
 simp[Value.oneCell']
theorem yL {z:List Value} {sz by' len:Nat} {l:List (Nat×Operand)}:fU nm (some (z,sz,by')) len s l=
  if len*sz≤16777216∧0 < z.length∧z.all Value.oneCell'=true then bsF nm len (fZ sz s (jx z (len*sz)) l) else none:=by
 simp only[fU]
 congr 1
theorem Ij {len:Nat} {l:List SV}:bsF nm len (some l)=some (some (Sl nm 0 len len),some (.inl l)):=rfl
theorem O1 {c:Prop} [Decidable c] {x:Option (List SV)} {len nm':Nat} {K:AS→Prop}:bO (bsF nm len (if c then x else none)) nm' dst K s=(c∧bO (bsF nm len x) nm' dst K s):=by
 split<;>simp_all [bO,bsF]
theorem Ej {z:Nat} {cs:List SV}:fZ z s cs []=some cs:=rfl
theorem AX {z j:Nat} {x:Operand} {cs:List SV} {l:List (Nat×Operand)}:fZ z s cs ((j,x)::l)=fsP z s cs j l (cellsOf (s.aT x)):=by
 simp only[fZ,fsP];cases cellsOf (s.aT x)<;>rfl
theorem Ik {z j:Nat} {cs new:List SV} {l:List (Nat×Operand)}:fsP z s cs j l (some new)=if new.length=z∧j*z+z≤cs.length then fZ z s (splice cs (j*z) new) l else none:=rfl
theorem Ek {c:Prop} [Decidable c] {ef:Option dP}:bO (if c then ef else none) nm dst K s=(c∧bO ef nm dst K s):=by
 split<;>simp_all [bO]
theorem yM {m:Nat}:AS.aT s (.global m)=some (V (.pointer (some ⟨m,0,none⟩))):=rfl
theorem Il {t m o:Nat}:fb P ⟨e,b,n⟩ t (some (V (.pointer (some ⟨m,o,none⟩))))=ldB (dX P t) (Tables.row P m) o:=rfl
theorem AY {t m o:Nat} {j:Int}:cU P t (some (V (.pointer (some ⟨m,o,none⟩)))) (some (I k j))=iaT m o j (gC P t):=by
 unfold cU iaT;rfl
theorem Im {m o l z:Nat} {j:Int}:iaT m o j (some (l,z))=if 0≤j∧j < l then some (some (V (.pointer (some ⟨m,o+j.toNat*z,none⟩))),none) else none:=rfl
theorem SU {o:BinOp} {t c:Nat} {u v:Option AV}:vn P o t (.tmp c) u v=oc P o t u v:=rfl
theorem SW {o:BinOp} {t:Nat} {c:IntKind} {z:Int} {u v:Option AV}:vn P o t (.const (.int c z)) u v=oc P o t u v:=rfl
theorem SX {o:BinOp} {t:Nat} {u v:Option AV}:vn P o t (.const .nilIface) u v=lZ o (isIface P t) u:=rfl
theorem XU:lZ .neq true (some (V .nilIface))=some (some (B false),none):=rfl
theorem sJ:AS.aT s (.const .nilIface)=some (V .nilIface):=rfl
theorem SY {o:BinOp} {t:Nat}:oc P o t (some (I k x)) (some (I k' y))=cG o (some (I k x)) (some (I k' y)):=rfl
theorem O2 {o:BinOp} {t:Nat} {p q:Bool}:oc P o t (some (B p)) (some (B q))=QJ o (isBool P t) p q:=rfl
theorem SZ {o:BinOp} {t:Nat} {l l':List SV}:oc P o t (some (Ag l)) (some (Ag l'))=eqA o (lu P t) (G9 P t) l l':=rfl
theorem Io {o:BinOp} {m:Nat} {q:Option (List (Nat×Nat×IntKind))} {l l':List SV}:eqA o (some (m,k)) q l l'=R' o m (cS k l) (cS k l'):=rfl
theorem Ip {o:BinOp} {q:List (Nat×Nat×IntKind)} {l l':List SV}:eqA o none (some q) l l'=Sr o (C8 q l l'):=rfl
theorem Iq {l l':List SV}:C8 [] l l'=some true:=rfl
theorem El {o n:Nat} {r:List (Nat×Nat×IntKind)} {l l':List SV}:C8 ((o,n,k)::r) l l'=G' n (cS k ((l.drop o).take n)) (cS k ((l'.drop o).take n)) (C8 r l l'):=rfl
theorem Ir {b:Bool}:Sr .neq (some b)=some (some (B (!b)),none):=rfl
theorem O4 {m:Nat} {p q:List Int}:R' .eql m (some p) (some q)=if p.length=m∧q.length=m then some (some (B (decide (p=q))),none) else none:=rfl
theorem FI {m:Nat} {p q:List Int}:R' .neq m (some p) (some q)=if p.length=m∧q.length=m then some (some (B (!decide (p=q))),none) else none:=rfl
theorem O5 {p q:Bool}:QJ .neq true p q=some (some (B (!(p==q))),none):=rfl
theorem S0 {t o m c:Nat}:gR 1 (some [Sl t o m c])=some (some (I .i64 m),none):=rfl
theorem Em {a:Option Addr} {m c:Nat}:gR 1 (some [V (.slice a m c)])=some (some (I .i64 m),none):=rfl
end
theorem rules:type_of% @ae∧type_of% @start_eq∧type_of% @Od∧type_of% @DN∧type_of% @SK∧type_of% @Oe∧type_of% @Hx∧type_of% @Og∧type_of% @Oh∧type_of% @SL∧type_of% @yz∧type_of% @DP∧type_of% @Hy∧type_of% @yA∧type_of% @sD∧type_of% @Aq∧type_of% @Hz∧type_of% @yB∧type_of% @Ar∧type_of% @yC∧type_of% @Au∧type_of% @yD∧type_of% @DQ∧type_of% @DR∧type_of% @Av∧type_of% @DS∧type_of% @DT∧type_of% @Aw∧type_of% @DU∧type_of% @Oi∧type_of% @HA∧type_of% @DV∧type_of% @run_move∧type_of% @run_assign∧type_of% @DW∧type_of% @Oj∧type_of% @run_build∧type_of% @run_load∧type_of% @run_store∧type_of% @DX∧type_of% @HB∧type_of% @HC∧type_of% @yE∧type_of% @sE∧type_of% @sF∧type_of% @DZ∧type_of% @yF∧type_of% @D1∧type_of% @Az∧type_of% @HE∧type_of% @HF∧type_of% @D2∧type_of% @AB∧type_of% @HG∧type_of% @HI∧type_of% @D3∧type_of% @AE∧type_of% @D4∧type_of% @Ol∧type_of% @Om∧type_of% @SM∧type_of% @HJ∧type_of% @HK∧type_of% @On∧type_of% @Oo∧type_of% @Oq∧type_of% @Ot∧type_of% @Ou∧type_of% @Ov∧type_of% @SN∧type_of% @Ow∧type_of% @AF∧type_of% @Ox∧type_of% @Oy∧type_of% @Oz∧type_of% @OA∧type_of% @OB∧type_of% @OC∧type_of% @OD∧type_of% @OE∧type_of% @SP∧type_of% @SQ∧type_of% @SR∧type_of% @HM∧type_of% @HN∧type_of% @HO∧type_of% @OG∧type_of% @OH∧type_of% @HP∧type_of% @D5∧type_of% @AH∧type_of% @yG∧type_of% @HQ∧type_of% @D6∧type_of% @D7∧type_of% @HR∧type_of% @AJ∧type_of% @HS∧type_of% @D8∧type_of% @HT∧type_of% @sG∧type_of% @HU∧type_of% @AK∧type_of% @HV∧type_of% @D9∧type_of% @HW∧type_of% @SS∧type_of% @OI∧type_of% @OJ∧type_of% @HX∧type_of% @yH∧type_of% @HY∧type_of% @yI∧type_of% @HZ∧type_of% @H0∧type_of% @OL∧type_of% @H2∧type_of% @D'∧type_of% @H3∧type_of% @OM∧type_of% @H5∧type_of% @Ea∧type_of% @AO∧type_of% @Eb∧type_of% @Ec∧type_of% @H6∧type_of% @Ed∧type_of% @Ee∧type_of% @H7∧type_of% @yJ∧type_of% @sH∧type_of% @sI∧type_of% @yK∧type_of% @OO∧type_of% @H'∧type_of% @AP∧type_of% @Ic∧type_of% @SY∧type_of% @O2∧type_of% @SZ∧type_of% @Io∧type_of% @Ip∧type_of% @Iq∧type_of% @El∧type_of% @Ir∧type_of% @O5∧type_of% @S0∧type_of% @Em∧type_of% @DH∧type_of% @Af∧type_of% @HD∧type_of% @D0∧type_of% @Ax∧type_of% @Ay∧type_of% @H9∧type_of% @AL∧type_of% @H4∧type_of% @abf∧type_of% @abg∧type_of% @abh∧type_of% @abj∧type_of% @XO∧type_of% @XP∧type_of% @XQ∧type_of% @XR:=
 ⟨@ae, @start_eq, @Od, @DN, @SK, @Oe, @Hx, @Og, @Oh, @SL, @yz, @DP, @Hy, @yA, @sD, @Aq, @Hz, @yB, @Ar, @yC, @Au, @yD, @DQ, @DR, @Av, @DS, @DT, @Aw, @DU, @Oi, @HA, @DV, @run_move, @run_assign, @DW, @Oj, @run_build, @run_load, @run_store, @DX, @HB, @HC, @yE, @sE, @sF, @DZ, @yF, @D1, @Az, @HE, @HF, @D2, @AB, @HG, @HI, @D3, @AE, @D4, @Ol, @Om, @SM, @HJ, @HK, @On, @Oo, @Oq, @Ot, @Ou, @Ov, @SN, @Ow, @AF, @Ox, @Oy, @Oz, @OA, @OB, @OC, @OD, @OE, @SP, @SQ, @SR, @HM, @HN, @HO, @OG, @OH, @HP, @D5, @AH, @yG, @HQ, @D6, @D7, @HR, @AJ, @HS, @D8, @HT, @sG, @HU, @AK, @HV, @D9, @HW, @SS, @OI, @OJ, @HX, @yH, @HY, @yI, @HZ, @H0, @OL, @H2, @D', @H3, @OM, @H5, @Ea, @AO, @Eb, @Ec, @H6, @Ed, @Ee, @H7, @yJ, @sH, @sI, @yK, @OO, @H', @AP, @Ic, @SY, @O2, @SZ, @Io, @Ip, @Iq, @El, @Ir, @O5, @S0, @Em, @DH, @Af, @HD, @D0, @Ax, @Ay, @H9, @AL, @H4, @abf, @abg, @abh, @abj, @XO, @XP, @XQ, @XR⟩
theorem S1:type_of% @abk∧type_of% @XS∧type_of% @XT∧type_of% @Eg∧type_of% @Ia∧type_of% @AQ∧type_of% @OP∧type_of% @AU∧type_of% @Ib∧type_of% @Eh∧type_of% @Ei∧type_of% @AW∧type_of% @OQ∧type_of% @OT∧type_of% @Ie∧type_of% @Ig∧type_of% @Ih∧type_of% @OU∧type_of% @OV∧type_of% @OW∧type_of% @OX∧type_of% @OY∧type_of% @OZ∧type_of% @Ii∧type_of% @yL∧type_of% @Ij∧type_of% @O1∧type_of% @Ej∧type_of% @AX∧type_of% @Ik∧type_of% @tj∧type_of% @Ek∧type_of% @yM∧type_of% @Il∧type_of% @AY∧type_of% @Im∧type_of% @DY∧type_of% @Ef∧type_of% @H8∧type_of% @HL∧type_of% @AG∧type_of% @SU∧type_of% @SW∧type_of% @SX∧type_of% @XU∧type_of% @sJ:=
 ⟨@abk, @XS, @XT, @Eg, @Ia, @AQ, @OP, @AU, @Ib, @Eh, @Ei, @AW, @OQ, @OT, @Ie, @Ig, @Ih, @OU, @OV, @OW, @OX, @OY, @OZ, @Ii, @yL, @Ij, @O1, @Ej, @AX, @Ik, @tj, @Ek, @yM, @Il, @AY, @Im, @DY, @Ef, @H8, @HL, @AG, @SU, @SW, @SX, @XU, @sJ⟩
end Go.bU
