/-
  What one operation does to a state that names blocks by numbers of their own; and that the model's operation does the same. Nothing here speaks of a program.
-/
import Derived.Test.YtkaamnnjeandlaaDoorVcgA
set_option linter.unusedVariables false
set_option linter.unusedSimpArgs false
namespace Go.bM
set_option linter.unusedSectionVars false
abbrev c6:=Option AV×Mem
def dX (P:Program) (t:TypeId):Option (Bool×Nat):=
  match P.underlying t,P.info? t with
  | some (.struct _),some i=>some (true,i.size)
  | some (.array _ _),some i=>some (true,i.size)
  | some _,some i=>some (false,i.size)
  | _,_=>none
def jN (P:Program) (t:TypeId):Option (Nat×Nat):=
  match P.underlying t with
  | some (.array n e)=>match P.info? e with
    | some i=>some (n,i.size)
    | none=>none
  | _=>none
def elemOf (P:Program) (t:TypeId):Option Nat:=
  match P.underlying t with
  | some (.slice e)=>match P.info? e with
    | some i=>some i.size
    | none=>none
  | _=>none
def zeroOf (P:Program) (t:TypeId):Option (List Value):=
  match P.info? t with
  | some i=>match i.zero with
    | some v=>if v.cells.toList.all gx=true then some v.cells.toList else none
    | none=>none
  | none=>none
def cg (P:Program) (t:TypeId) (f:Nat):Option (Nat×Bool×Nat):=
  match P.underlying t with
  | some (.struct fs)=>match fs[f]? with
    | some fd=>match dX P fd.type with
      | some (ag,n)=>some (fd.offset,ag,n)
      | none=>none
    | none=>none
  | _=>none
def kindOf (P:Program) (t:TypeId):Option IntKind:=
  match P.underlying t with
  | some (.int k)=>some k
  | _=>none
def eK (op:BinOp) (k:IntKind) (a b:Int):Int:=
  let x:=BitVec.ofInt k.bits a
  let y:=BitVec.ofInt k.bits b
  match op with
  | .and=>k.wrap (x &&& y).toNat
  | .or=>k.wrap (x ||| y).toNat
  | .xor=>k.wrap (x ^^^ y).toNat
  | _=>k.wrap (x &&& ~~~y).toNat
def xV (k:IntKind) (a b:Int):Int:=k.wrap (a*2^(min b.toNat k.bits))
def qS (k:IntKind) (a b:Int):Int:=a.fdiv (2^(min b.toNat k.bits))
def lQ (op:BinOp) (k:IntKind) (a b:Int):Option AV:=
  match op with
  | .add=>some (I k (k.wrap (a+b)))
  | .sub=>some (I k (k.wrap (a - b)))
  | .mul=>some (I k (k.wrap (a*b)))
  | .quo=>if b=0 then none else some (I k (k.wrap (a.tdiv b)))
  | .rem=>if b=0 then none else some (I k (a.tmod b))
  | .and=>some (I k (eK .and k a b))
  | .or=>some (I k (eK .or k a b))
  | .xor=>some (I k (eK .xor k a b))
  | .andNot=>some (I k (eK .andNot k a b))
  | .eql=>some (B (a==b))
  | .neq=>some (B (a != b))
  | .lss=>some (B (decide (a < b)))
  | .leq=>some (B (decide (a≤b)))
  | .gtr=>some (B (decide (b < a)))
  | .geq=>some (B (decide (b≤a)))
  | .shl=>if 0≤b then some (I k (xV k a b)) else none
  | .shr=>if 0≤b then some (I k (qS k a b)) else none
def bX (op:BinOp) (x y:Option AV):Option c6:=
  match x,y with
  | some (.inl (.inl (.inl (.int k a)))),some (.inl (.inl (.inl (.int k' b))))=>
    match (if k=k'∨op= .shl∨op= .shr then lQ op k a b else none) with
    | some v=>some (some v,none)
    | none=>none
  | _,_=>none
def nN (op:UnOp) (x:Option AV):Option c6:=
  match op,x with
  | .not,some (.inl (.inl (.inl (.bool b))))=>some (some (B (!b)),none)
  | .neg,some (.inl (.inl (.inl (.int k a))))=>some (some (I k (k.wrap (0 - a))),none)
  | .xor,some (.inl (.inl (.inl (.int k a))))=>some (some (I k (eK .xor k (if k.signed then -1 else k.max) a)),none)
  | _,_=>none
def kz (P:Program) (t:TypeId):Option (Nat×IntKind):=
  match P.underlying t with
  | some (.array n e)=>match P.underlying e,P.info? e with
    | some (.int k),some i=>if i.size=1 then some (n,k) else none
    | _,_=>none
  | _=>none
def fy (k:IntKind) (l:List SV):Option (List Int):=match l with
  | []=>some []
  | .inl (.int k' x)::r=>if k'=k then match fy k r with
      | some xs=>some (x::xs)
      | none=>none
    else none
  | _=>none
def isBool (P:Program) (t:TypeId):Bool:=match P.underlying t with
  | some .bool=>true
  | _=>false
def PZ (op:BinOp) (n:Nat) (x y:Option (List Int)):Option c6:=match x,y with
  | some a,some b=>if a.length=n∧b.length=n then match op with
      | .eql=>some (some (B (decide (a=b))),none)
      | .neq=>some (some (B (!decide (a=b))),none)
      | _=>none
    else none
  | _,_=>none
def Rb (P:Program) (f:Field):Option (Nat×Nat×IntKind):=match P.underlying f.type with
  | some (.int k)=>some (f.offset,1,k)
  | _=>match kz P f.type with
    | some (n,k)=>some (f.offset,n,k)
    | none=>none
def K2 (P:Program):List Field→Option (List (Nat×Nat×IntKind))
  | []=>some []
  | f::r=>if f.name≠"_" then match Rb P f,K2 P r with
      | some x,some y=>some (x::y)
      | _,_=>none
    else none
def mr (P:Program):List Field→Bool
  | []=>true
  | f::r=>(match P.underlying f.type,P.info? f.type,kz P f.type with
    | some (.int _),_,_=>true
    | _,some i,some (n,_)=>i.size==n
    | _,_,_=>false)&&mr P r
def G0 (P:Program) (t:TypeId):Option (List (Nat×Nat×IntKind)):=match P.underlying t with
  | some (.struct fs)=>if P.stoodInHeld t=false∧P.eqGuardType P.depth t=false∧mr P fs.toList=true then K2 P fs.toList else none
  | _=>none
def SX (n:Nat) (x y:Option (List Int)) (z:Option Bool):Option Bool:=match x,y,z with
  | some a,some b,some c=>if a.length=n∧b.length=n then some (decide (a=b)&&c) else none
  | _,_,_=>none
def Jt:List (Nat×Nat×IntKind)→List SV→List SV→Option Bool
  | [],_,_=>some true
  | (o,n,k)::r,l,l'=>SX n (fy k ((l.drop o).take n)) (fy k ((l'.drop o).take n)) (Jt r l l')
def Rc (op:BinOp) (x:Option Bool):Option c6:=match op,x with
  | .eql,some b=>some (some (B b),none)
  | .neq,some b=>some (some (B (!b)),none)
  | _,_=>none
def U4 (op:BinOp) (q:Option (List (Nat×Nat×IntKind))) (l l':List SV):Option c6:=match q with
  | some fs=>Rc op (Jt fs l l')
  | none=>none
def SY (op:BinOp) (p:Option (Nat×IntKind)) (q:Option (List (Nat×Nat×IntKind))) (l l':List SV):Option c6:=match p with
  | some (n,k)=>PZ op n (fy k l) (fy k l')
  | none=>U4 op q l l'
def Vv (op:BinOp) (p:Bool) (a b:Bool):Option c6:=match p,op with
  | true, .eql=>some (some (B (a==b)),none)
  | true, .neq=>some (some (B (!(a==b))),none)
  | _,_=>none
def ni (P:Program) (op:BinOp) (t:TypeId) (x y:Option AV):Option c6:=match x,y with
  | some (.inl (.inr l)),some (.inl (.inr l'))=>SY op (kz P t) (G0 P t) l l'
  | some (.inl (.inl (.inl (.bool a)))),some (.inl (.inl (.inl (.bool b))))=>Vv op (isBool P t) a b
  | x,y=>bX op x y
def Aq (y:Operand):Bool:=match y with
  | .const .nilIface=>true
  | _=>false
def isIface (P:Program) (t:TypeId):Bool:=match P.underlying t with
  | some (.interface _)=>true
  | _=>false
def o8 (op:BinOp) (p:Bool) (x:Option AV):Option c6:=match p,op,x with
  | true, .eql,some (.inl (.inl (.inl .nilIface)))=>some (some (B true),none)
  | true, .neq,some (.inl (.inl (.inl .nilIface)))=>some (some (B false),none)
  | true, .eql,some (.inl (.inl (.inl (.iface _ _))))=>some (some (B false),none)
  | true, .neq,some (.inl (.inl (.inl (.iface _ _))))=>some (some (B true),none)
  | _,_,_=>none
def qT (P:Program) (op:BinOp) (t:TypeId) (y:Operand) (u v:Option AV):Option c6:=if Aq y=true then o8 op (isIface P t) u else ni P op t u v
def dG (P:Program) [Tables P] (s:AS) (t:TypeId) (x:Option AV):Option c6:=
  match x with
  | some (.inl (.inl (.inr (.inl (b,o)))))=>
    match dX P t,s.box b with
    | some (true,n),some bx=>if o+n≤bx.cells.length then some (some (Ag ((bx.cells.drop o).take n)),none) else none
    | some (false,_),some bx=>match bx.cells[o]? with
      | some v=>some (some (.inl (.inl v)),none)
      | none=>none
    | _,_=>none
  | some (.inl (.inl (.inl (.pointer (some ⟨b,o,none⟩)))))=>
    match dX P t,Tables.row P b with
    | some (true,n),some bx=>if o+n≤bx.cells.length then some (some (Ag ((bx.cells.drop o).take n)),none) else none
    | some (false,_),some bx=>match bx.cells[o]? with
      | some v=>some (some (.inl (.inl v)),none)
      | none=>none
    | _,_=>none
  | _=>none
def cellsOf (x:Option AV):Option (List SV):=
  match x with
  | some (.inl (.inl v))=>if SV.one v then some [v] else none
  | some (.inl (.inr l))=>some l
  | _=>none
def ea (P:Program) (s:AS) (t:TypeId) (x y:Option AV):Option c6:=
  match x,cellsOf y,dX P t with
  | some (.inl (.inl (.inr (.inl (b,o))))),some new,some (_,n)=>
    match s.box b with
    | some bx=>if bx.rw=true∧o+new.length≤bx.cells.length∧new.length=n then some (none,some (.inr (b,⟨bx.rw,splice bx.cells o new⟩))) else none
    | none=>none
  | _,_,_=>none
def iq (P:Program) (nm:Nat) (t:TypeId):Option c6:=
  match zeroOf P t with
  | some z=>if z.all Value.oneCell' then some (some (Ptr nm 0),some (.inl (z.map .inl))) else none
  | none=>none
def pL (nm:Nat) (x:Option AV):Option c6:=
  match cellsOf x with
  | some l=>some (some (Ptr nm 0),some (.inl l))
  | none=>none
def ga (P:Program) (t:TypeId) (f:Nat) (x:Option AV):Option c6:=
  match x,cg P t f with
  | some (.inl (.inr l)),some (o,true,n)=>some (some (Ag ((l.drop o).take n)),none)
  | some (.inl (.inr l)),some (o,false,_)=>match l[o]? with
    | some v=>some (some (.inl (.inl v)),none)
    | none=>none
  | _,_=>none
def dH (P:Program) (t:TypeId) (f:Nat) (x:Option AV):Option c6:=
  match x,cg P t f with
  | some (.inl (.inl (.inr (.inl (b,o))))),some (fo,_,_+1)=>some (some (Ptr b (o+fo)),none)
  | _,_=>none
def cj (P:Program) (t:TypeId) (x i:Option AV):Option c6:=
  match x,i with
  | some (.inl (.inl (.inr (.inl (b,o))))),some (.inl (.inl (.inl (.int _ j))))=>
    match jN P t with
    | some (n,z)=>if 0≤j∧j < n then some (some (Ptr b (o+j.toNat*z)),none) else none
    | none=>none
  | some (.inl (.inl (.inr (.inr (b,o,n,_))))),some (.inl (.inl (.inl (.int _ j))))=>
    match elemOf P t with
    | some z=>if 0≤j∧j < n then some (some (Ptr b (o+j.toNat*z)),none) else none
    | none=>none
  | some (.inl (.inl (.inl (.pointer (some ⟨b,o,none⟩))))),some (.inl (.inl (.inl (.int _ j))))=>
    match jN P t with
    | some (n,z)=>if 0≤j∧j < n then some (some (V (.pointer (some ⟨b,o+j.toNat*z,none⟩))),none) else none
    | none=>none
  | _,_=>none
def yl (P:Program) (t:TypeId):Option (Nat×Bool×Nat):=
  match P.underlying t with
  | some (.array n e)=>match dX P e with
    | some (ag,z)=>some (n,ag,z)
    | none=>none
  | _=>none
def gO (P:Program) (t:TypeId) (x i:Option AV):Option c6:=
  match x,i,yl P t with
  | some (.inl (.inr l)),some (.inl (.inl (.inl (.int _ j)))),some (n,false,z)=>
    if 0≤j∧j < n then match l[j.toNat*z]? with
      | some v=>some (some (.inl (.inl v)),none)
      | none=>none
    else none
  | some (.inl (.inr l)),some (.inl (.inl (.inl (.int _ j)))),some (n,true,z)=>
    if 0≤j∧j < n then some (some (Ag ((l.drop (j.toNat*z)).take z)),none) else none
  | _,_,_=>none
def gb (x:Option AV) (i:Nat):Option c6:=
  match x with
  | some (.inr l)=>match l[i]? with
    | some v=>some (some (.inl v),none)
    | none=>none
  | _=>none
def gg (P:Program) (src dst:TypeId) (x:Option AV):Option c6:=
  match x,kindOf P src,kindOf P dst with
  | some (.inl (.inl (.inl (.int _ n)))),some _,some k=>some (some (I k (k.wrap n)),none)
  | _,_,_=>none
def placeOf (P:Program) (t:TypeId) (i:Nat):Option (Nat×Nat):=
  match jN P t with
  | some (_,z)=>some (i*z,z)
  | none=>match cg P t i with
    | some (o,_,n)=>some (o,n)
    | none=>none
def fe (P:Program) (t:TypeId) (s:AS) (cs:List SV) (parts:List (Nat×Operand)):Option (List SV):=
  match parts with
  | []=>some cs
  | (i,x)::rest=>match placeOf P t i,cellsOf (s.aK x) with
    | some (o,n),some new=>if new.length=n∧o+n≤cs.length then fe P t s (splice cs o new) rest else none
    | _,_=>none
def fK (P:Program) (t:TypeId):Option (List SV):=
  match P.underlying t,zeroOf P t with
  | some (.struct fs),some z=>if z.all Value.oneCell'=true∧fs.toList.all (fun fd=>(dX P fd.type).isSome)=true then some (z.map .inl) else none
  | some (.array _ e),some z=>if z.all Value.oneCell'=true∧(dX P e).isSome=true then some (z.map .inl) else none
  | _,_=>none
def fA (P:Program) (t:TypeId) (s:AS) (parts:List (Nat×Operand)):Option c6:=
  match fK P t with
  | some z=>match fe P t s z parts with
    | some l=>some (some (Ag l),none)
    | none=>none
  | none=>none
def nO (P:Program) (tys:List TypeId):Nat:=match tys with
  | t::_=>match P.underlying t with
    | some (.slice _)=>1
    | some .string=>2
    | _=>0
  | []=>0
def dI (k:Nat) (x:Option (List AV)):Option c6:=
  match k,x with
  | 1,some [.inl (.inl (.inr (.inr (_,_,n,_))))]=>some (some (I .i64 n),none)
  | 1,some [.inl (.inl (.inl (.slice _ n _)))]=>some (some (I .i64 n),none)
  | 2,some [.inl (.inl (.inl (.string b)))]=>some (some (I .i64 b.size),none)
  | _,_=>none
def ym (x:Option AV):Option c6:=match x with
  | some v=>some (some v,none)
  | none=>none
def mA (c x y:Option AV):Option c6:=match c with
  | some (.inl (.inl (.inl (.bool b))))=>ym (if b=true then x else y)
  | _=>none
def sF (P:Program) (t:TypeId):Option (Option Nat×Nat):=
  match P.underlying t with
  | some (.slice e)=>match P.info? e with
    | some i=>some (none,i.size)
    | none=>none
  | some (.array n e)=>match P.info? e with
    | some i=>some (some n,i.size)
    | none=>none
  | _=>none
def fJ (s:AS) (x:Option Operand):Option (Option Int):=match x with
  | none=>some none
  | some x=>match s.aK x with
    | some (.inl (.inl (.inl (.int _ j))))=>some (some j)
    | _=>none
def KR (b o c z:Nat) (l h:Int):Option c6:=
  if 0≤l∧l≤h∧h≤c then some (some (Sl b (if c=l.toNat then o else o+l.toNat*z) (h.toNat - l.toNat) (c - l.toNat)),none) else none
def Sx (c:Nat) (l h:Int):Option c6:=
  if 0≤l∧l≤h∧h≤c then some (some (V (.slice none (h.toNat - l.toNat) (c - l.toNat))),none) else none
def fB (k:Option (Option Nat×Nat)) (x:Option AV) (lo hi:Option (Option Int)):Option c6:=match k,x,lo,hi with
  | some (none,z),some (.inl (.inl (.inr (.inr (b,o,n,c))))),some lo,some hi=>KR b o c z (lo.getD 0) (hi.getD n)
  | some (some m,z),some (.inl (.inl (.inr (.inl (b,o))))),some lo,some hi=>KR b o m z (lo.getD 0) (hi.getD m)
  | some (none,_),some (.inl (.inl (.inl (.slice none n c)))),some lo,some hi=>Sx c (lo.getD 0) (hi.getD n)
  | _,_,_,_=>none
def lS (k:Option (Option Nat×Nat)) (x:Option AV) (lo hi mx:Option (Option Int)):Option c6:=match k,x,lo,hi,mx with
  | some (none,z),some (.inl (.inl (.inr (.inr (b,o,_,c))))),some (some l),some (some h),some (some m)=>
    if 0≤l∧l≤h∧h≤m∧m≤c then some (some (Sl b (if m.toNat=l.toNat then o else o+l.toNat*z) (h.toNat - l.toNat) (m.toNat - l.toNat)),none) else none
  | _,_,_,_,_=>none
def qU (P:Program) (t:TypeId):Option (List Value×Nat×Nat):=
  match P.underlying t with
  | some (.slice e)=>match P.info? e with
    | some i=>match i.zero with
      | some v=>if v.cells.toList.all gx=true then some (v.cells.toList,i.size,i.bytes) else none
      | none=>none
    | none=>none
  | _=>none
def gi (z:List Value) (n:Nat):List SV:=(List.range n).map fun i=>Sum.inl (z.toArray[i%z.toArray.size]!)
def iu (nm:Nat) (k:Option (List Value×Nat×Nat)) (l c:Option AV):Option c6:=match k,l,c with
  | some (z,sz,mq),some (.inl (.inl (.inl (.int _ l)))),some (.inl (.inl (.inl (.int _ c))))=>
    if (0≤l∧l≤c∧(mq:Int)*c≤281474976710656∧c≤9223372036854775807)∧(0 < z.length∧z.all Value.oneCell'=true) then some (some (Sl nm 0 l.toNat c.toNat),some (.inl (gi z (c.toNat*sz)))) else none
  | _,_,_=>none
def fg (z:Nat) (s:AS) (cs:List SV) (parts:List (Nat×Operand)):Option (List SV):=
  match parts with
  | []=>some cs
  | (i,x)::rest=>match cellsOf (s.aK x) with
    | some new=>if new.length=z∧i*z+z≤cs.length then fg z s (splice cs (i*z) new) rest else none
    | none=>none
def fC (nm:Nat) (k:Option (List Value×Nat×Nat)) (len:Nat) (s:AS) (parts:List (Nat×Operand)):Option c6:=match k with
  | some (z,sz,_)=>if len*sz≤16777216∧0 < z.length∧z.all Value.oneCell'=true then match fg sz s (gi z (len*sz)) parts with
      | some l=>some (some (Sl nm 0 len len),some (.inl l))
      | none=>none
    else none
  | none=>none
def Ar (x:Option AV):Option c6:=match x with
  | some (.inl (.inl (.inr (.inl (b,o)))))=>some (some (Ptr b o),none)
  | _=>none
def SZ (P:Program) (t:TypeId):Bool:=match P.underlying t with
  | some (.slice e)=>match P.underlying e with
    | some (.int .u8)=>true
    | _=>false
  | _=>false
def G1 (c:Bool) (b:Option aG) (v:AV):Option c6:=match c,b with
  | true,some ⟨true,_⟩=>some (some v,none)
  | _,_=>none
def gP (P:Program) (s:AS) (src dst:TypeId) (x:Option AV):Option c6:=match x with
  | some (.inl (.inl (.inr (.inr (b,o,n,c)))))=>if src=dst then G1 (SZ P src) (s.box b) (Sl b o n c) else none
  | x=>gg P src dst x
def nP (a:Option (Nat×Nat)) (x:Option AV):Option c6:=match a,x with
  | some (m,_),some (.inl (.inl (.inr (.inr (b,o,n,_)))))=>if m≤n then some (some (Ptr b o),none) else none
  | _,_=>none
def Oj (x:Option AV):Option Value:=match x with
  | some (.inl (.inl (.inr (.inl (t,o)))))=>some (.pointer (some ⟨t,o,none⟩))
  | some (.inl (.inl (.inl (.pointer none))))=>some (.pointer none)
  | _=>none
def G2 (x:Option Value) (l:Option (List Value)):Option (List Value):=match x,l with
  | some v,some l=>some (v::l)
  | _,_=>none
def lr (s:AS):List Operand→Option (List Value)
  | []=>some []
  | x::r=>G2 (Oj (s.aK x)) (lr s r)
def nQ (f:Nat) (l:Option (List Value)):Option c6:=match l with
  | some l=>some (some (V (.func (.func f) #[] ⟨l⟩)),none)
  | none=>none
def dS (P:Program) [Tables P] (nm:Nat) (s:AS) (o:Op):Option c6:=
  match o with
  | .move x=>match s.aK x with
    | some v=>some (some v,none)
    | none=>none
  | .assign x=>match s.aK x with
    | some v=>some (some v,none)
    | none=>none
  | .alloc t=>iq P nm t
  | .box _ x=>pL nm (s.aK x)
  | .build t parts=>fA P t s parts.toList
  | .load t x=>dG P s t (s.aK x)
  | .store t x y=>ea P s t (s.aK x) (s.aK y)
  | .binOp op t x y _=>qT P op t y (s.aK x) (s.aK y)
  | .unOp op _ x=>nN op (s.aK x)
  | .convert a b x=>gP P s a b (s.aK x)
  | .fieldAddr t x f=>dH P t f (s.aK x)
  | .field t x f=>ga P t f (s.aK x)
  | .indexAddr t x i=>cj P t (s.aK x) (s.aK i)
  | .index t x i=>gO P t (s.aK x) (s.aK i)
  | .extract x i=>gb (s.aK x) i
  | .pick c x y=>mA (s.aK c) (s.aK x) (s.aK y)
  | .slice t x lo hi none=>fB (sF P t) (s.aK x) (fJ s lo) (fJ s hi)
  | .slice t x lo hi (some mx)=>lS (sF P t) (s.aK x) (fJ s lo) (fJ s hi) (fJ s (some mx))
  | .makeSlice t l c=>iu nm (qU P t) (s.aK l) (s.aK c)
  | .buildSlice t n parts=>fC nm (qU P t) n s parts.toList
  | .nilCheck x=>Ar (s.aK x)
  | .sliceToArrayPointer t x=>nP (jN P t) (s.aK x)
  | .makeFunc (.func f) ⟨[]⟩ caps=>nQ f (lr s caps.toList)
  | _=>none
section
variable {P:Program} [Tables P] {W:Nat→Prop} {N:Nat} {w0:Base P} {M:Nat→Prop} {g:Where} {s:AS} {a:Act} {w:World} {nm:Nat}
structure K3 (P:Program) [Tables P] (W:Nat→Prop) (N:Nat) (w0:Base P) (M:Nat→Prop) (g g':Where) (s:AS) (a:Act) (nm:Nat) (sem:Sem Next) (w w':World) (r:Next) (e:c6):Prop where
  run:sem.run P w= .ok r w'
  same: ∀ n,M n→g' n=g n
  rep:br W N w0 (fun n=>M n∨n=nm) g' (s.mem nm e.2) a w'
  val:match e.1 with
    | some v=>r= .value (AV.ah g' v)∧AV.ok (fun n=>M n∨n=nm) v
    | none=>r= .skip
def Runs (P:Program) [Tables P] (W:Nat→Prop) (N:Nat) (w0:Base P) (M:Nat→Prop) (g:Where) (s:AS) (a:Act) (nm:Nat) (sem:Sem Next) (w:World) (e:c6):Prop:=
  ∃ g' w' r,K3 P W N w0 M g g' s a nm sem w w' r e
theorem bB (h:br W N w0 M g s a w) {sem:Sem Value} {v:AV} (hr:sem.run P w= .ok (AV.ah g v) w) (hv:AV.ok M v):
    Runs P W N w0 M g s a nm (do pure (.value (← sem))) w (some v,none):=
  ⟨g,w,_,by simp[hr],fun _ _=>rfl,h.mono fun _ hn=>Or.inl hn,rfl,AV.aI (fun _ hn=>Or.inl hn) hv⟩
theorem di {t:TypeId} {b:Bool} {n:Nat} (h:dX P t=some (b,n)) (w:World):
    (isAgg t).run P w= .ok b w∧(sizeOf t).run P w= .ok n w:=by
  unfold dX at h
  cases hu:P.underlying t with
  | none=>simp[hu]at h
  | some d=>
    cases hi:P.info? t with
    | none=>cases d<;>simp[hu,hi]at h
    | some i=>
      have Yk:(underlying t).run P w= .ok d w:=by simp[underlying,hu]
      refine ⟨?_, ?_⟩
      · unfold isAgg
        rw[Sem.run_bind,Yk]
        cases d<;>simp[hu,hi]at h<;>simp[h.1]
      · have:i.size=n:=by cases d<;>simp[hu,hi]at h<;>exact h.2
        simp[sizeOf,typeInfo,hi,this]
theorem add_eq (b o j:Nat):(⟨b,o,none⟩:Addr).add j=⟨b,o+j,none⟩:=by unfold Addr.add;split<;>simp_all
theorem Ol {op:BinOp} {t:TypeId} {x y:Operand} {u v:Value} {e:c6} {xa ya:AV} (he:bX op (some xa) (some ya)=some e) (hx:u=AV.ah g xa) (hy:v=AV.ah g ya):
    ∃ r,e=(some r,none)∧AV.ok M r∧(do eqGuard op t x y u v;binOp op t u v:Sem Value).run P w= .ok (AV.ah g r) w:=by
  unfold bX at he
  split at he
  · rename_i k a k' b h1 h2
    simp only[Option.some.injEq]at h1 h2
    subst h1 h2
    have hu:u= .int k a:=hx
    have hv:v= .int k' b:=hy
    subst hu hv
    have hg:(eqGuard op t x y (.int k a) (.int k' b)).run P w= .ok () w:=by
      unfold eqGuard;split<;>rfl
    split at he
    · rename_i r hr
      simp only[Option.some.injEq]at he;subst he
      refine ⟨r,rfl, ?_, ?_⟩
      · split at hr
        · unfold lQ at hr
          split at hr<;>first
            | (simp only[Option.some.injEq]at hr;subst hr;trivial)
            | (split at hr<;>first | (simp only[Option.some.injEq]at hr;subst hr;trivial) | simp at hr)
        · simp at hr
      · rw[Sem.run_bind,hg]
        simp only[Result.andThen_ok]
        split at hr
        · rename_i hk
          by_cases hs:op= .shl∨op= .shr
          · rcases hs with rfl | rfl<;>simp only[lQ]at hr<;>split at hr<;>try (simp at hr)
            · rename_i h0
              subst hr
              simp only[binOp,Op.shift]
              rw[if_neg (by omega)]
              rfl
            · rename_i h0
              subst hr
              simp only[binOp,Op.shift]
              rw[if_neg (by omega)]
              rfl
          · have hk':k=k':=by rcases hk with h | h;exact h;exact absurd h hs
            subst hk'
            cases op<;>simp only[lQ,Option.some.injEq,reduceCtorEq,or_false,or_true,not_true_eq_false,not_false_eq_true,or_self]at hr hs<;>first
              | (subst hr;simp[binOp,Op.intArith,Op.intBits,Op.intCmp,AV.ah,CV.ah,SV.ah,cu,eK];done)
              | (split at hr
                 · simp at hr
                 · rename_i h0
                   simp only[Option.some.injEq]at hr;subst hr
                   simp[binOp,Op.intDiv,h0,AV.ah,CV.ah,SV.ah,cu])
        · simp at hr
    · simp at he
  · simp at he
theorem o9: ∀ (xs ys:List Int),xs.length=ys.length→((List.range xs.length).all fun i=>xs.getD i 0==ys.getD i 0)=(xs==ys)
  | [],[],_=>rfl
  | x::xs,y::ys,h=>by
    have ih:=o9 xs ys (by simpa using h)
    rw[List.length_cons,List.range_succ_eq_map,List.all_cons,List.all_map]
    simp only[List.getD_cons_zero,Function.comp_def,List.getD_cons_succ,ih]
    simp[List.cons_beq_cons]
  | [],_::_,h=>by simp at h
  | _::_,[],h=>by simp at h
theorem lT (d:Nat) (t e:TypeId) (n:Nat) (k:IntKind) (ht:P.underlying t=some (.array n e)) (he:P.underlying e=some (.int k)) (hsz: ∀ w,(sizeOf e).run P w= .ok 1 w)
    (xs ys:List Int) (hx:xs.length=n) (hy:ys.length=n) (w:World):
    (Op.equalIn (d+2) t (.agg (xs.map (Value.int k)).toArray) (.agg (ys.map (Value.int k)).toArray)).run P w= .ok (xs==ys) w:=by
  rw[← o9 xs ys (hx.trans hy.symm),hx,List.range_eq_range',Op.equalIn]
  simp only[Sem.run_bind,run_underlying ht,Result.andThen_ok,hsz,Std.Legacy.Range.forIn_eq_forIn_range',Std.Legacy.Range.size,Nat.sub_zero,Nat.add_sub_cancel,Nat.div_one]
  have hl: ∀ i ∈ List.range' 0 n 1,i < n:=fun i hi=>by simpa using (List.mem_range'_1.1 hi).2
  generalize List.range' 0 n 1=l at hl ⊢
  induction l with
  | nil=>simp
  | cons i l ih=>
    have hi:i < n:=hl i (by simp)
    have px:(part e (xs.map (Value.int k)).toArray (i*1)).run P w= .ok (.int k (xs.getD i 0)) w:=by
      simp[part,isAgg,run_underlying he,List.getD,List.getElem?_eq_getElem (show i < xs.length by omega)]
    have py:(part e (ys.map (Value.int k)).toArray (i*1)).run P w= .ok (.int k (ys.getD i 0)) w:=by
      simp[part,isAgg,run_underlying he,List.getD,List.getElem?_eq_getElem (show i < ys.length by omega)]
    have pe:(Op.equalIn (d+1) e (.int k (xs.getD i 0)) (.int k (ys.getD i 0))).run P w= .ok (xs.getD i 0==ys.getD i 0) w:=
      run_equalIn_int w d e k k _ _ he
    simp only[List.forIn_cons,Sem.run_bind,px,py,pe,Result.andThen_ok,List.all_cons]
    cases hb:(xs.getD i 0==ys.getD i 0)
    · simp
    · simp only[Bool.not_true,Bool.false_eq_true,if_false,Sem.run_pure,Result.andThen_ok,Bool.true_and]
      exact ih fun j hj=>hl j (by simp[hj])
theorem kA {k:IntKind}: ∀ (l:List SV) (xs:List Int),fy k l=some xs→l.map (SV.ah g)=xs.map (Value.int k)
  | [],xs,h=>by simp only[fy,Option.some.injEq]at h;subst h;rfl
  | x::r,xs,h=>by
    unfold fy at h
    split at h
    · rename_i heq;cases heq
    · rename_i k' v r' heq
      simp only[List.cons.injEq]at heq
      obtain ⟨rfl,rfl⟩:=heq
      split at h
      · rename_i hk
        subst hk
        split at h
        · rename_i ys hys
          simp only[Option.some.injEq]at h;subst h
          simp[kA _ ys hys,SV.ah,cu]
        · simp at h
      · simp at h
    · simp at h
theorem BS {op:BinOp} {t e:TypeId} {n:Nat} {k:IntKind} (ht:P.underlying t=some (.array n e)) (he:P.underlying e=some (.int k)) (x y:Operand) (a b:Array Value) (w:World):
    (eqGuard op t x y (.agg a) (.agg b)).run P w= .ok () w:=by
  have hg:P.eqGuardType P.depth t=false:=by
    have:P.depth=(2*(P.types.size+Made.depth))+1+1:=rfl
    rw[this]
    simp only[Program.eqGuardType,ht,he]
  exact run_eqGuard_agg w op t x y a b hg
theorem Om {xs ys:List Int}:(xs==ys)=decide (xs=ys):=by rw[Bool.eq_iff_iff];simp
theorem Au {f:Field} {o n:Nat} {k:IntKind} {l l':List SV} {a b:List Int} {d:Nat} (hf:Rb P f=some (o,n,k)) (hs:mr P [f]=true) (ha:fy k ((l.drop o).take n)=some a) (hb:fy k ((l'.drop o).take n)=some b)
    (hla:a.length=n) (hlb:b.length=n) (w:World):
    (do let x ← part f.type (l.map (SV.ah g)).toArray f.offset
        let y ← part f.type (l'.map (SV.ah g)).toArray f.offset
        Op.equalIn (d+2) f.type x y:Sem Bool).run P w= .ok (decide (a=b)) w:=by
  unfold Rb at hf
  split at hf
  · rename_i k' hu
    simp only[Option.some.injEq,Prod.mk.injEq]at hf
    obtain ⟨rfl,rfl,rfl⟩:=hf
    have one: ∀ {l:List SV} {a:List Int},fy k' ((l.drop f.offset).take 1)=some a→a.length=1→ ∃ x,a=[x]∧(part f.type (l.map (SV.ah g)).toArray f.offset).run P w= .ok (.int k' x) w:=by
      intro l a ha hla
      have e:=kA (g:=g) _ _ ha
      match a,hla with
      | [x],_=>
        refine ⟨x,rfl, ?_⟩
        have:(l.map (SV.ah g))[f.offset]? =some (.int k' x):=by
          have h0:(((l.drop f.offset).take 1).map (SV.ah g))[0]? =some (.int k' x):=by rw[e];rfl
          simpa[List.getElem?_take,List.getElem?_drop] using h0
        rw[List.getElem?_map,Option.map_eq_some_iff]at this
        obtain ⟨z,hz,Rd⟩:=this
        simp[part,isAgg,run_underlying hu,hz,Rd]
    obtain ⟨x,rfl,px⟩:=one ha hla
    obtain ⟨y,rfl,py⟩:=one hb hlb
    simp only[Sem.run_bind,px,py,Result.andThen_ok]
    rw[run_equalIn_int w (d+1) f.type k' k' x y hu]
    congr 1
    rw[Bool.eq_iff_iff];simp
  · rename_i hne
    split at hf
    · rename_i n' k' hp
      simp only[Option.some.injEq,Prod.mk.injEq]at hf
      obtain ⟨rfl,rfl,rfl⟩:=hf
      have U5:=hp
      unfold kz at hp
      split at hp
      · rename_i m el hu
        split at hp
        · rename_i k'' i hk hi
          split at hp
          · rename_i Vw
            simp only[Option.some.injEq,Prod.mk.injEq]at hp
            obtain ⟨rfl,rfl⟩:=hp
            have hsz: ∀ w,(sizeOf el).run P w= .ok 1 w:=fun w=>by simp[sizeOf,typeInfo,hi,Vw]
            have Yl: ∃ i',P.info? f.type=some i'∧i'.size=m:=by
              simp only[mr,hu,U5]at hs
              cases h:P.info? f.type with
              | none=>rw[h]at hs;simp at hs
              | some i'=>rw[h]at hs;exact ⟨i',rfl,by simpa using hs⟩
            obtain ⟨i',hi',his⟩:=Yl
            have pp: ∀ {l:List SV} {a:List Int},fy k'' ((l.drop f.offset).take m)=some a→(part f.type (l.map (SV.ah g)).toArray f.offset).run P w= .ok (.agg (a.map (Value.int k'')).toArray) w:=by
              intro l a ha
              have e:=kA (g:=g) _ _ ha
              rw[← e]
              simp[part,isAgg,run_underlying hu,sizeOf,typeInfo,hi',his,List.map_drop,List.map_take]
            simp only[Sem.run_bind,pp ha,pp hb,Result.andThen_ok]
            rw[lT (P:=P) d f.type el _ k'' hu hk hsz a b hla hlb w,Om]
          · simp at hp
        · simp at hp
      · simp at hp
    · simp at hf
theorem lu {l l':List SV} {d:Nat}: ∀ {fs:List Field} {qs:List (Nat×Nat×IntKind)} {r:Bool},K2 P fs=some qs→mr P fs=true→Jt qs l l'=some r→ ∀ (w:World),
    (Op.eqFields (d+2) (l.map (SV.ah g)).toArray (l'.map (SV.ah g)).toArray fs).run P w= .ok r w
  | [],qs,r,h,_,h',w=>by
    simp only[K2,Option.some.injEq]at h;subst h
    simp only[Jt,Option.some.injEq]at h';subst h'
    rfl
  | f::fs,qs,r,h,hs,h',w=>by
    simp only[mr,Bool.and_eq_true]at hs
    obtain ⟨S0,Oo⟩:=hs
    unfold K2 at h
    split at h
    · rename_i hn
      split at h
      · rename_i q Z3 hq Ym
        simp only[Option.some.injEq]at h;subst h
        obtain ⟨o,n,k⟩:=q
        simp only[Jt]at h'
        unfold SX at h'
        split at h'
        · rename_i a b c ha hb hc
          split at h'
          · rename_i hl
            simp only[Option.some.injEq]at h';subst h'
            have h1:=Au (g:=g) (d:=d) hq (by simp only[mr,S0,Bool.and_true]) ha hb hl.1 hl.2 w
            have h2:=lu (d:=d) Ym Oo hc w
            simp only[Op.eqFields,if_pos hn]
            simp only[Sem.run_bind]at h1 ⊢
            revert h1
            generalize (part f.type (l.map (SV.ah g)).toArray f.offset).run P w=r1
            cases r1 with
            | ok x w1=>
              simp only[Result.andThen_ok]
              generalize (part f.type (l'.map (SV.ah g)).toArray f.offset).run P w1=r2
              cases r2 with
              | ok y w2=>
                simp only[Result.andThen_ok]
                intro h1
                rw[h1]
                simp only[Result.andThen_ok]
                cases hd:decide (a=b)
                · simp
                · simp only[Bool.not_true,Bool.false_eq_true,if_false,Bool.true_and]
                  exact h2
              | halt x w2=>simp[Result.andThen]
            | halt x w1=>simp[Result.andThen]
          · simp at h'
        · simp at h'
      · simp at h
    · simp at h
theorem Oq {op:BinOp} {t:TypeId} {x y:Operand} {e:c6} {l l':List SV} (he:U4 op (G0 P t) l l'=some e) (w:World):
    ∃ r,e=(some r,none)∧AV.ok M r∧(do eqGuard op t x y (AV.ah g (Ag l)) (AV.ah g (Ag l'));binOp op t (AV.ah g (Ag l)) (AV.ah g (Ag l')):Sem Value).run P w= .ok (AV.ah g r) w:=by
  unfold U4 at he
  split at he
  · rename_i qs hq
    unfold G0 at hq
    split at hq
    · rename_i fs hu
      split at hq
      · rename_i hc
        obtain ⟨hp,hm,hs⟩:=hc
        have hfo:P.fieldsOf t=fs:=by simp[Program.fieldsOf,hu]
        have Vx:P.underlying t=some (.struct (P.fieldsOf t)):=by rw[hfo];exact hu
        unfold Rc at he
        have main: ∀ {b:Bool},Jt qs l l'=some b→(Op.equalIn 10000 t (AV.ah g (Ag l)) (AV.ah g (Ag l'))).run P w= .ok b w:=by
          intro b hb
          have:=run_equalIn_agg w 9999 t (l.map (SV.ah g)).toArray (l'.map (SV.ah g)).toArray Vx hp
          simp only[AV.ah,CV.ah,SV.ah,cu]
          rw[this,hfo]
          exact lu (d:=9997) hq hs hb w
        split at he
        · rename_i b hb
          simp only[Option.some.injEq]at he;subst he
          refine ⟨_,rfl,trivial, ?_⟩
          have h1:=main hb
          rw[Sem.run_bind]
          simp only[AV.ah,CV.ah,SV.ah,cu]at h1 ⊢
          rw[run_eqGuard_agg w _ t x y _ _ hm]
          simp only[Result.andThen_ok]
          rw[run_eql_struct,h1];rfl
        · rename_i b hb
          simp only[Option.some.injEq]at he;subst he
          refine ⟨_,rfl,trivial, ?_⟩
          have h1:=main hb
          rw[Sem.run_bind]
          simp only[AV.ah,CV.ah,SV.ah,cu]at h1 ⊢
          rw[run_eqGuard_agg w _ t x y _ _ hm]
          simp only[Result.andThen_ok]
          rw[run_neq_struct,h1];rfl
        · simp at he
      · simp at hq
    · simp at hq
  · simp at he
theorem K4 {op:BinOp} {t:TypeId} {x y:Operand} {u v:Value} {e:c6} {xa ya:AV} (he:ni P op t (some xa) (some ya)=some e) (hx:u=AV.ah g xa) (hy:v=AV.ah g ya):
    ∃ r,e=(some r,none)∧AV.ok M r∧(do eqGuard op t x y u v;binOp op t u v:Sem Value).run P w= .ok (AV.ah g r) w:=by
  unfold ni at he
  split at he
  · rename_i l l' h1 h2
    simp only[Option.some.injEq]at h1 h2
    subst h1 h2 hx hy
    unfold SY at he
    split at he
    · rename_i n k hp
      unfold kz at hp
      split at hp
      · rename_i m el hu
        split at hp
        · rename_i k' i hk hi
          split at hp
          · rename_i hs
            simp only[Option.some.injEq,Prod.mk.injEq]at hp
            obtain ⟨rfl,rfl⟩:=hp
            unfold PZ at he
            split at he
            · rename_i xs ys hxs hys
              split at he
              · rename_i hlen
                have e1:=kA (g:=g) l xs hxs
                have e2:=kA (g:=g) l' ys hys
                have hsz: ∀ w,(sizeOf el).run P w= .ok 1 w:=fun w=>by simp[sizeOf,typeInfo,hi,hs]
                have hrun:=lT (P:=P) 9998 t el _ k' hu hk hsz xs ys hlen.1 hlen.2 w
                have hgd:=BS (P:=P) (op:=op) hu hk x y (l.map (SV.ah g)).toArray (l'.map (SV.ah g)).toArray w
                have hbd:(xs==ys)=decide (xs=ys):=by rw[Bool.eq_iff_iff];simp
                split at he
                · simp only[Option.some.injEq]at he;subst he
                  refine ⟨_,rfl,trivial, ?_⟩
                  rw[Sem.run_bind]
                  simp only[AV.ah,CV.ah,SV.ah,cu]
                  rw[hgd]
                  simp only[Result.andThen_ok,binOp,Sem.run_bind,Op.equal,Op.maxDepth]
                  rw[e1,e2,hrun,hbd];rfl
                · simp only[Option.some.injEq]at he;subst he
                  refine ⟨_,rfl,trivial, ?_⟩
                  rw[Sem.run_bind]
                  simp only[AV.ah,CV.ah,SV.ah,cu]
                  rw[hgd]
                  simp only[Result.andThen_ok,binOp,Sem.run_bind,Op.equal,Op.maxDepth]
                  rw[e1,e2,hrun,hbd];rfl
                · simp at he
              · simp at he
            · simp at he
          · simp at hp
        · simp at hp
      · simp at hp
    · exact Oq he w
  · rename_i p q h1 h2
    simp only[Option.some.injEq]at h1 h2
    subst h1 h2 hx hy
    have hgd:(eqGuard op t x y (.bool p) (.bool q)).run P w= .ok () w:=by
      cases op<;>simp[eqGuard]
    unfold Vv at he
    split at he
    · rename_i hb
      simp only[Option.some.injEq]at he;subst he
      unfold isBool at hb
      split at hb
      · rename_i hu
        refine ⟨_,rfl,trivial, ?_⟩
        rw[Sem.run_bind]
        simp only[AV.ah,CV.ah,SV.ah,cu]
        rw[hgd]
        simp[binOp,Op.equal,Op.maxDepth,run_equalIn_bool w 9999 t p q hu]
      · simp at hb
    · rename_i hb
      simp only[Option.some.injEq]at he;subst he
      unfold isBool at hb
      split at hb
      · rename_i hu
        refine ⟨_,rfl,trivial, ?_⟩
        rw[Sem.run_bind]
        simp only[AV.ah,CV.ah,SV.ah,cu]
        rw[hgd]
        simp[binOp,Op.equal,Op.maxDepth,run_equalIn_bool w 9999 t p q hu]
      · simp at hb
    · simp at he
  · exact Ol he hx hy
theorem Rf {op:BinOp} {t:TypeId} {x y:Operand} {e:c6} {xo:Option AV} {u:Value} (he:o8 op (isIface P t) xo=some e) (hx: ∀ v,xo=some v→u=AV.ah g v) (hn:Aq y=true):
    ∃ r,e=(some r,none)∧AV.ok M r∧(do eqGuard op t x y u .nilIface;binOp op t u .nilIface:Sem Value).run P w= .ok (AV.ah g r) w:=by
  have hy:y= .const .nilIface:=by
    unfold Aq at hn
    split at hn
    · rfl
    · cases hn
  subst hy
  unfold o8 at he
  have hif:isIface P t=true→ ∃ ms,P.underlying t=some (.interface ms):=fun h=>by
    unfold isIface at h
    split at h
    · rename_i ms hu;exact ⟨ms,hu⟩
    · cases h
  split at he<;>first
    | (rename_i hp
       obtain ⟨ms,hu⟩:=hif hp
       have hv:=hx _ rfl
       simp only[Option.some.injEq]at he;subst he
       subst hv
       refine ⟨_,rfl,trivial, ?_⟩
       have h1: ∀ d:Nat,(Op.equalIn (d+1) t .nilIface .nilIface).run P w= .ok true w:=fun d=>by simp[Op.equalIn,run_underlying hu]
       have h2: ∀ (d:Nat) k z,(Op.equalIn (d+1) t (.iface k z) .nilIface).run P w= .ok false w:=fun d k z=>by simp[Op.equalIn,run_underlying hu]
       simp[eqGuard,binOp,Op.equal,Op.maxDepth,h1 9999,h2 9999,AV.ah,CV.ah,SV.ah,cu])
    | cases he
theorem K5 {g:Where} {x:SV} (h:SV.one x=true):(SV.ah g x).oneCell'=true:=by
  rcases x with v | v | v
  · cases v<;>first | exact h | rfl
  · rfl
  · rfl
theorem jT {x:AV} {l:List SV} (h:cellsOf (some x)=some l) (hx:AV.ok M x):
    (AV.ah g x).cells=(l.map (SV.ah g)).toArray∧ ∀ v ∈ l,SV.ok M v:=by
  unfold cellsOf at h
  split at h
  · rename_i v hv
    simp only[Option.some.injEq]at hv;subst hv
    split at h
    · rename_i h1
      simp only[Option.some.injEq]at h;subst h
      refine ⟨?_,fun u hu=> ?_⟩
      · rcases v with v | v | v
        · have:v.oneCell'=true:=h1
          cases v<;>first | rfl | (simp[Value.oneCell']at this)
        · rfl
        · rfl
      · simp only[List.mem_singleton]at hu;subst hu
        exact ⟨hx,h1⟩
    · simp at h
  · rename_i l' hv
    simp only[Option.some.injEq]at hv h;subst hv h
    exact ⟨rfl,hx⟩
  · simp at h
theorem sG (h:br W N w0 M g s a w) {t:TypeId} {b o n:Nat} {bx:aG} (ht:dX P t=some (true,n)) (hb:s.box b=some bx) (hl:o+n≤bx.cells.length):
    (loadVar t ⟨(g b).1,(g b).2+o,none⟩).run P w= .ok (.agg (((bx.cells.drop o).take n).map (SV.ah g)).toArray) w:=by
  obtain ⟨h1,h2⟩:=di ht w
  have hlen:((bx.cells.drop o).take n).length=n:=by simp;omega
  have:=run_loadCells_list (P:=P) w ⟨(g b).1,(g b).2+o,none⟩ (((bx.cells.drop o).take n).map (SV.ah g)) (fun j v hv=>by
    rw[add_eq,Nat.add_assoc]
    simp only[List.getElem?_map,Option.map_eq_some_iff]at hv
    obtain ⟨u,hu,rfl⟩:=hv
    rw[List.getElem?_take]at hu
    split at hu
    · rw[List.getElem?_drop]at hu
      exact h.mem.cell b bx hb _ u hu
    · simp at hu)
  rw[List.length_map,hlen]at this
  simp[loadVar,h1,h2,this]
theorem sH (h:br W N w0 M g s a w) {t:TypeId} {b o n:Nat} {bx:aG} {v:SV} (ht:dX P t=some (false,n)) (hb:s.box b=some bx) (hl:bx.cells[o]? =some v):
    (loadVar t ⟨(g b).1,(g b).2+o,none⟩).run P w= .ok (SV.ah g v) w:=by
  obtain ⟨h1,h2⟩:=di ht w
  simp[loadVar,h1,h.mem.cell b bx hb o v hl]
theorem nR (h:br W N w0 M g s a w) {t:TypeId} {b o:Nat} {c:CV} {m:Mem} (he:dG P s t (some (V (.pointer (some ⟨b,o,none⟩))))=some (some (.inl c),m)):
    m=none∧(loadVar t ⟨b,o,none⟩).run P w= .ok (CV.ah g c) w∧CV.ok M c:=by
  have he':(match dX P t,Tables.row P b with
    | some (true,n),some bx=>if o+n≤bx.cells.length then some (some (Ag ((bx.cells.drop o).take n)),none) else none
    | some (false,_),some bx=>match bx.cells[o]? with
      | some v=>some (some (.inl (.inl v)),none)
      | none=>none
    | _,_=>none)=some (some (.inl c),m):=he
  have hlaid:=h.laid
  split at he'
  · rename_i n bx ht hb
    obtain ⟨-, hcell⟩:=hlaid.rows b bx hb
    split at he'
    · rename_i hl
      simp only[Option.some.injEq,Prod.mk.injEq,Sum.inl.injEq]at he'
      obtain ⟨rfl,rfl⟩:=he'
      obtain ⟨h1,h2⟩:=di ht w
      have hlen:((bx.cells.drop o).take n).length=n:=by simp;omega
      have hin: ∀ {j:Nat} {u:SV},((bx.cells.drop o).take n)[j]? =some u→bx.cells[o+j]? =some u:=by
        intro j u hu
        rw[List.getElem?_take]at hu
        split at hu
        · rw[List.getElem?_drop]at hu;exact hu
        · simp at hu
      have:=run_loadCells_list (P:=P) w ⟨b,o,none⟩ (((bx.cells.drop o).take n).map (SV.ah g)) (fun j v hv=>by
        rw[add_eq]
        simp only[List.getElem?_map,Option.map_eq_some_iff]at hv
        obtain ⟨u,hu,rfl⟩:=hv
        obtain ⟨-, y,rfl,hf,hy⟩:=hcell _ _ (hin hu)
        exact hy.trans (congrArg some (jx hf).symm))
      rw[List.length_map,hlen]at this
      refine ⟨rfl, ?_, ?_⟩
      · simp[CV.ah,loadVar,h1,h2,this]
      · intro y hy
        obtain ⟨j,hj⟩:=List.mem_iff_getElem?.1 hy
        obtain ⟨h3,z,rfl,hf, -⟩:=hcell _ _ (hin hj)
        exact ⟨dY hf,h3⟩
    · simp at he'
  · rename_i n bx ht hb
    obtain ⟨-, hcell⟩:=hlaid.rows b bx hb
    split at he'
    · rename_i v hv
      simp only[Option.some.injEq,Prod.mk.injEq,Sum.inl.injEq]at he'
      obtain ⟨rfl,rfl⟩:=he'
      obtain ⟨h1,h2⟩:=di ht w
      obtain ⟨h3,z,rfl,hf,hz⟩:=hcell _ _ hv
      refine ⟨rfl, ?_,dY hf⟩
      simp[CV.ah,SV.ah,jx hf,loadVar,h1,hz]
    · simp at he'
  · simp at he'
theorem yo (h:br W N w0 M g s a w) {t:TypeId} {x:AV} {e:c6} (he:dG P s t (some x)=some e):
    Runs P W N w0 M g s a nm (do pure (.value (← Instr.loadAt t (AV.ah g x)))) w e:=by
  unfold dG at he
  split at he
  · rename_i b o hx
    simp only[Option.some.injEq]at hx;subst hx
    split at he
    · rename_i n bx ht hb
      split at he
      · rename_i hl
        simp only[Option.some.injEq]at he;subst he
        refine bB h ?_ ?_
        · simp[Instr.loadAt,Instr.sureAddr,AV.ah,CV.ah,SV.ah,cu,sG h ht hb hl]
        · intro y hy
          exact (h.names.box b bx hb).2 y (List.mem_of_mem_drop (List.mem_of_mem_take hy))
      · simp at he
    · rename_i n bx ht hb
      split at he
      · rename_i v hv
        simp only[Option.some.injEq]at he;subst he
        refine bB h ?_ ?_
        · simp[Instr.loadAt,Instr.sureAddr,AV.ah,CV.ah,SV.ah,cu,sH h ht hb hv]
        · exact ((h.names.box b bx hb).2 v (List.mem_of_getElem? hv)).1
      · simp at he
    · simp at he
  · rename_i b o hx
    simp only[Option.some.injEq]at hx;subst hx
    have hlaid:=h.laid
    split at he
    · rename_i n bx ht hb
      obtain ⟨-, hcell⟩:=hlaid.rows b bx hb
      split at he
      · rename_i hl
        simp only[Option.some.injEq]at he;subst he
        obtain ⟨h1,h2⟩:=di ht w
        have hlen:((bx.cells.drop o).take n).length=n:=by simp;omega
        have hin: ∀ {j:Nat} {u:SV},((bx.cells.drop o).take n)[j]? =some u→bx.cells[o+j]? =some u:=by
          intro j u hu
          rw[List.getElem?_take]at hu
          split at hu
          · rw[List.getElem?_drop]at hu;exact hu
          · simp at hu
        have:=run_loadCells_list (P:=P) w ⟨b,o,none⟩ (((bx.cells.drop o).take n).map (SV.ah g)) (fun j v hv=>by
          rw[add_eq]
          simp only[List.getElem?_map,Option.map_eq_some_iff]at hv
          obtain ⟨u,hu,rfl⟩:=hv
          obtain ⟨-, y,rfl,hf,hy⟩:=hcell _ _ (hin hu)
          exact hy.trans (congrArg some (jx hf).symm))
        rw[List.length_map,hlen]at this
        refine bB h ?_ ?_
        · simp[Instr.loadAt,Instr.sureAddr,AV.ah,CV.ah,SV.ah,cu,loadVar,h1,h2,this]
        · intro y hy
          obtain ⟨j,hj⟩:=List.mem_iff_getElem?.1 hy
          obtain ⟨h3,z,rfl,hf, -⟩:=hcell _ _ (hin hj)
          exact ⟨dY hf,h3⟩
      · simp at he
    · rename_i n bx ht hb
      obtain ⟨-, hcell⟩:=hlaid.rows b bx hb
      split at he
      · rename_i v hv
        simp only[Option.some.injEq]at he;subst he
        obtain ⟨h1,h2⟩:=di ht w
        obtain ⟨h3,z,rfl,hf,hz⟩:=hcell _ _ hv
        refine bB h ?_ (dY hf)
        simp[Instr.loadAt,Instr.sureAddr,AV.ah,CV.ah,SV.ah,jx hf,loadVar,h1,hz]
      · simp at he
    · simp at he
  · simp at he
theorem Fe (h:br W N w0 M g s a w) {t:TypeId} {x y:AV} (hy:AV.ok M y) {e:c6} (he:ea P s t (some x) (some y)=some e):
    Runs P W N w0 M g s a nm (do Instr.storeAt t (AV.ah g x) (AV.ah g y);pure .skip) w e:=by
  unfold ea at he
  split at he
  · rename_i b o new ag n hx hc ht
    simp only[Option.some.injEq]at hx;subst hx
    split at he
    · rename_i bx hb
      split at he
      · rename_i nT
        obtain ⟨hrw,hl,hn⟩:=nT
        simp only[Option.some.injEq]at he;subst he
        obtain ⟨hcells,hok⟩:=jT (g:=g) hc hy
        have hsz:=(di ht w).2
        have hst:=run_storeCells_cells (P:=P) (g b).1 ((g b).2+o) (new.map (SV.ah g)) 0 w
          (fun j hj=>by
            simp only[List.length_map]at hj
            have:=h.mem.cell b bx hb (o+j) _ (List.getElem?_eq_getElem (by omega))
            rw[Nat.add_zero,Nat.add_assoc,this];rfl)
          (fun j hj=>by
            simp only[List.length_map]at hj
            rw[Nat.add_zero,Nat.add_assoc]
            exact pK (h.mem.free b bx hb hrw _ (by omega)))
          (fun v hv=>by
            simp only[List.mem_map]at hv
            obtain ⟨u,hu,rfl⟩:=hv
            exact K5 (hok _ hu).2)
        refine ⟨g,_, .skip, ?_,fun _ _=>rfl,(h.write hb hrw hl hok nm).mono (fun _ hn=>Or.inl hn),rfl⟩
        simp only[Nat.add_zero]at hst
        have K6:(storeVar t ⟨(g b).1,(g b).2+o,none⟩ (AV.ah g y)).run P w= .ok () (w.setCells (g b).1 ((g b).2+o) (new.map (SV.ah g))):=by
          simp[storeVar,hcells,hsz,hn,hst]
        simp[Instr.storeAt,Instr.sureAddr,AV.ah,CV.ah,SV.ah,cu]at K6 ⊢
        simp[K6]
      · simp at he
    · simp at he
  · simp at he
theorem BT (h:br W N w0 M g s a w) (hnm: ¬ M nm) {cs:List SV} (hcs: ∀ x ∈ cs,SV.ok M x) (t:TypeId) {sem:Sem Value}
    (hr:sem.run P w= .ok (.pointer (some ⟨w.heap.size,0,none⟩)) (w.alloc (.cells (cs.map (SV.ah g)).toArray t))):
    Runs P W N w0 M g s a nm (do pure (.value (← sem))) w (some (Ptr nm 0),some (.inl cs)):=by
  refine ⟨upd g nm (w.heap.size,0),_,_, ?_,fun n hn=>aW _ _ _ _ (fun e=>hnm (by rw[← e];exact hn)),h.uH hnm hcs t,rfl,Or.inr rfl⟩
  simp[hr,AV.ah,CV.ah,SV.ah,cu,aT]
theorem Ff (h:br W N w0 M g s a w) (hnm: ¬ M nm) {t:TypeId} {e:c6} (he:iq P nm t=some e):
    Runs P W N w0 M g s a nm (do pure (.value (← Instr.alloc t true (.tuple #[])))) w e:=by
  unfold iq at he
  split at he
  · rename_i z hz
    split at he
    · rename_i hall
      simp only[Option.some.injEq]at he;subst he
      unfold zeroOf at hz
      split at hz
      · rename_i i hi
        split at hz
        · rename_i v hv
          split at hz
          · rename_i ky
            simp only[Option.some.injEq]at hz;subst hz
            refine BT h hnm (fun x hx=> ?_) t ?_
            · simp only[List.mem_map]at hx
              obtain ⟨u,hu,rfl⟩:=hx
              exact ⟨dY (List.all_eq_true.1 ky u hu),List.all_eq_true.1 hall u hu⟩
            · simp[Instr.alloc,zeroValue,typeInfo,hi,hv,newVar,newRow,List.map_map,Function.comp_def,SV.ah,qR ky]
          · simp at hz
        · simp at hz
      · simp at hz
    · simp at he
  · simp at he
theorem K7 (h:br W N w0 M g s a w) (hnm: ¬ M nm) {t:TypeId} {x:AV} (hx:AV.ok M x) {e:c6} (he:pL nm (some x)=some e):
    Runs P W N w0 M g s a nm (do pure (.value (← Instr.box t (AV.ah g x)))) w e:=by
  unfold pL at he
  split at he
  · rename_i l hl
    simp only[Option.some.injEq]at he;subst he
    obtain ⟨hcells,hok⟩:=jT (g:=g) hl hx
    refine BT h hnm hok t ?_
    simp[Instr.box,newVar,newRow,hcells]
  · simp at he
theorem aP {t:TypeId} {d:TypeDesc} (hu:P.underlying t=some d) (w:World):(underlying t).run P w= .ok d w:=by simp[underlying,hu]
theorem BU {t:TypeId} {l:List SV} {o n:Nat} (ht:dX P t=some (true,n)):
    (part t (l.map (SV.ah g)).toArray o).run P w= .ok (AV.ah g (Ag ((l.drop o).take n))) w:=by
  obtain ⟨h1,h2⟩:=di ht w
  simp[part,h1,h2,AV.ah,CV.ah,List.map_take,List.map_drop]
theorem BV {t:TypeId} {l:List SV} {o n:Nat} {v:SV} (ht:dX P t=some (false,n)) (hv:l[o]? =some v):
    (part t (l.map (SV.ah g)).toArray o).run P w= .ok (SV.ah g v) w:=by
  obtain ⟨h1,h2⟩:=di ht w
  have:((l.map (SV.ah g)).toArray)[o]? =some (SV.ah g v):=by simp[hv]
  simp[part,h1,this]
theorem Fg (h:br W N w0 M g s a w) {t:TypeId} {f:Nat} {x:AV} (hx:AV.ok M x) {e:c6} (he:ga P t f (some x)=some e):
    Runs P W N w0 M g s a nm (do pure (.value (← Instr.field t (AV.ah g x) f))) w e:=by
  unfold ga at he
  have key: ∀ {o:Nat} {ag:Bool} {n:Nat},cg P t f=some (o,ag,n)→ ∃ fs fd,P.underlying t=some (.struct fs)∧fs[f]? =some fd∧fd.offset=o∧dX P fd.type=some (ag,n):=by
    intro o ag n hf
    unfold cg at hf
    split at hf
    · rename_i fs hu
      split at hf
      · rename_i fd KS
        split at hf
        · rename_i Xb n' ht
          simp only[Option.some.injEq,Prod.mk.injEq]at hf
          obtain ⟨rfl,rfl,rfl⟩:=hf
          exact ⟨fs,fd,hu,KS,rfl,ht⟩
        · simp at hf
      · simp at hf
    · simp at hf
  split at he
  · rename_i l o n hl hf
    simp only[Option.some.injEq]at hl;subst hl
    simp only[Option.some.injEq]at he;subst he
    obtain ⟨fs,fd,hu,KS,rfl,ht⟩:=key hf
    refine bB h ?_ ?_
    · have:=BU (g:=g) (w:=w) (l:=l) (o:=fd.offset) ht
      simp[Instr.field,aP hu,KS,AV.ah,CV.ah,asAgg]at this ⊢
      exact this
    · intro y hy
      exact hx y (List.mem_of_mem_drop (List.mem_of_mem_take hy))
  · rename_i l o n hl hf
    simp only[Option.some.injEq]at hl;subst hl
    split at he
    · rename_i v hv
      simp only[Option.some.injEq]at he;subst he
      obtain ⟨fs,fd,hu,KS,rfl,ht⟩:=key hf
      refine bB h ?_ ?_
      · have:=BV (g:=g) (w:=w) ht hv
        simp[Instr.field,aP hu,KS,AV.ah,CV.ah,asAgg]at this ⊢
        exact this
      · exact (hx v (List.mem_of_getElem? hv)).1
    · simp at he
  · simp at he
theorem uI (h:br W N w0 M g s a w) {t:TypeId} {f:Nat} {x:AV} (hx:AV.ok M x) {e:c6} (he:dH P t f (some x)=some e):
    Runs P W N w0 M g s a nm (do pure (.value (← Instr.fieldAt t (AV.ah g x) f))) w e:=by
  unfold dH at he
  split at he
  · rename_i b o fo ag n hl hf
    simp only[Option.some.injEq]at hl;subst hl
    simp only[Option.some.injEq]at he;subst he
    unfold cg at hf
    split at hf
    · rename_i fs hu
      split at hf
      · rename_i fd KS
        split at hf
        · rename_i Xb n' ht
          simp only[Option.some.injEq,Prod.mk.injEq]at hf
          obtain ⟨rfl,rfl,rfl⟩:=hf
          refine bB h ?_ hx
          have hsz:=(di ht w).2
          simp[Instr.fieldAt,aP hu,KS,AV.ah,CV.ah,SV.ah,cu,Instr.sureAddr,fieldPlace,hsz,add_eq,Nat.add_assoc]
        · simp at hf
      · simp at hf
    · simp at hf
  · simp at he
theorem mB {t:TypeId} {n z:Nat} (h:jN P t=some (n,z)) (w:World): ∃ e,P.underlying t=some (.array n e)∧(sizeOf e).run P w= .ok z w:=by
  unfold jN at h
  split at h
  · rename_i m e hu
    split at h
    · rename_i i hi
      simp only[Option.some.injEq,Prod.mk.injEq]at h
      obtain ⟨rfl,rfl⟩:=h
      exact ⟨e,hu,by simp[sizeOf,typeInfo,hi]⟩
    · simp at h
  · simp at h
theorem BW {t:TypeId} {z:Nat} (h:elemOf P t=some z) (w:World): ∃ e,P.underlying t=some (.slice e)∧(sizeOf e).run P w= .ok z w:=by
  unfold elemOf at h
  split at h
  · rename_i e hu
    split at h
    · rename_i i hi
      simp only[Option.some.injEq]at h;subst h
      exact ⟨e,hu,by simp[sizeOf,typeInfo,hi]⟩
    · simp at h
  · simp at h
theorem uJ (h:br W N w0 M g s a w) {t:TypeId} {x i:AV} (hx:AV.ok M x) {e:c6} (he:cj P t (some x) (some i)=some e):
    Runs P W N w0 M g s a nm (do pure (.value (← Instr.indexAt t (AV.ah g x) (AV.ah g i)))) w e:=by
  unfold cj at he
  split at he
  · rename_i b o k j hl hi
    simp only[Option.some.injEq]at hl hi;subst hl hi
    split at he
    · rename_i n z hz
      split at he
      · rename_i hj
        simp only[Option.some.injEq]at he;subst he
        obtain ⟨el,hu,hs⟩:=mB hz w
        refine bB h ?_ hx
        simp[Instr.indexAt,aP hu,AV.ah,CV.ah,SV.ah,cu,Instr.sureAddr,asIntOf,hj,hs,add_eq,Nat.add_assoc]
      · simp at he
    · simp at he
  · rename_i b o n c k j hl hi
    simp only[Option.some.injEq]at hl hi;subst hl hi
    split at he
    · rename_i z hz
      split at he
      · rename_i hj
        simp only[Option.some.injEq]at he;subst he
        obtain ⟨el,hu,hs⟩:=BW hz w
        refine bB h ?_ hx
        simp[Instr.indexAt,aP hu,AV.ah,CV.ah,SV.ah,cu,asIntOf,hj,hs,add_eq,Nat.add_assoc]
      · simp at he
    · simp at he
  · rename_i b o k j hl hi
    simp only[Option.some.injEq]at hl hi;subst hl hi
    split at he
    · rename_i n z hz
      split at he
      · rename_i hj
        simp only[Option.some.injEq]at he;subst he
        obtain ⟨el,hu,hs⟩:=mB hz w
        refine bB h ?_ trivial
        simp[Instr.indexAt,aP hu,AV.ah,CV.ah,SV.ah,cu,Instr.sureAddr,asIntOf,hj,hs,add_eq,Nat.add_assoc]
      · simp at he
    · simp at he
  · simp at he
theorem Av (h:br W N w0 M g s a w) {i:Nat} {x:AV} (hx:AV.ok M x) {e:c6} (he:gb (some x) i=some e):
    Runs P W N w0 M g s a nm (do pure (.value (← Instr.extract (AV.ah g x) i))) w e:=by
  unfold gb at he
  split at he
  · rename_i l hl
    simp only[Option.some.injEq]at hl;subst hl
    split at he
    · rename_i v hv
      simp only[Option.some.injEq]at he;subst he
      refine bB h ?_ (hx v (List.mem_of_getElem? hv))
      have:((l.map (CV.ah g)).toArray)[i]? =some (CV.ah g v):=by simp[hv]
      simp[Instr.extract,AV.ah,this]
    · simp at he
  · simp at he
theorem Aw (h:br W N w0 M g s a w) {t u:TypeId} {x:AV} {e:c6} (he:gg P t u (some x)=some e):
    Runs P W N w0 M g s a nm (do pure (.value (← convert t u (AV.ah g x)))) w e:=by
  unfold gg at he
  split at he
  · rename_i k0 n k1 k2 hl h1 h2
    simp only[Option.some.injEq]at hl;subst hl
    simp only[Option.some.injEq]at he;subst he
    have u1:P.underlying t=some (.int k1):=by
      unfold kindOf at h1;split at h1
      · simp_all
      · simp at h1
    have u2:P.underlying u=some (.int k2):=by
      unfold kindOf at h2;split at h2
      · simp_all
      · simp at h2
    refine bB h ?_ trivial
    simp[convert,aP u1,aP u2,AV.ah,CV.ah,SV.ah,cu,Conv.intToInt]
  · simp at he
theorem br.mark (h:br W N w0 M g s a w) {b:Nat} {cs:List SV} (hb:s.box b=some ⟨true,cs⟩) {c:Array Value} {e:TypeId} {f:Nat×Nat} (hc:w.heap[(g b).1]? =some (.cells c e f)):
    br W N w0 M g s a (w.freeze ⟨(g b).1,c.size,none⟩ 1):=by
  obtain ⟨Vy,hi0⟩:=f
  have G3: ∀ k,(w.freeze ⟨(g b).1,c.size,none⟩ 1).heap[k]? =if (g b).1=k then some (.cells c e (if Vy==hi0 then (c.size,c.size+1) else (min Vy c.size,max hi0 (c.size+1)))) else w.heap[k]? :=fun k=>by
    unfold World.freeze
    rw[if_neg (by decide)]
    simp only[Array.getElem?_modify]
    by_cases hk:(g b).1=k
    · rw[if_pos hk,if_pos hk, ← hk,hc];rfl
    · rw[if_neg hk,if_neg hk]
  have hcell: ∀ x:Addr,(w.freeze ⟨(g b).1,c.size,none⟩ 1).cell? x=w.cell? x:=fun x=>by
    unfold World.cell?
    rw[G3]
    by_cases hk:(g b).1=x.block
    · rw[if_pos hk, ← hk,hc]
    · rw[if_neg hk]
  have hsize:(w.freeze ⟨(g b).1,c.size,none⟩ 1).heap.size=w.heap.size:=by
    unfold World.freeze;rw[if_neg (by decide)];simp
  have Rg: ∀ x:Addr,x.off < c.size→bN w x=true→bN (w.freeze ⟨(g b).1,c.size,none⟩ 1) x=true:=fun x hx iw=>by
    unfold bN at iw ⊢
    rw[G3]
    by_cases hk:(g b).1=x.block
    · rw[← hk,hc]at iw
      rw[if_pos hk]
      simp only[Bool.or_eq_true,beq_iff_eq,decide_eq_true_eq]at iw
      by_cases hl:Vy=hi0
      · simp[hl];omega
      · have:=iw.resolve_left hl
        simp[hl];right;omega
    · rw[if_neg hk];exact iw
  have hos:(w.freeze ⟨(g b).1,c.size,none⟩ 1).os=w.os∧(w.freeze ⟨(g b).1,c.size,none⟩ 1).tape=w.tape∧(w.freeze ⟨(g b).1,c.size,none⟩ 1).output=w.output:=by
    unfold World.freeze;rw[if_neg (by decide)];exact ⟨rfl,rfl,rfl⟩
  refine ⟨h.size,h.defers,h.env,h.names,⟨fun t x ht=>by rw[hsize];exact h.mem.lt t x ht,fun t x ht i v hv=>by rw[hcell];exact h.mem.cell t x ht i v hv,fun t x ht hrw i hi=> ?_,h.mem.sep⟩,h.own,⟨hos.1.trans h.frame.os,hos.2.1.trans h.frame.tape,hos.2.2.trans h.frame.output,by rw[hsize];exact h.frame.size,fun k hk hW=> ?_⟩,h.pin,h.tabs⟩
  · have hfree:=h.mem.free t x ht hrw i hi
    by_cases ht':t=b
    · subst ht'
      have hce:=h.mem.cell t x ht i _ (List.getElem?_eq_getElem hi)
      unfold World.cell? at hce
      simp only[hc]at hce
      have hlt:(g t).2+i < c.size:=by
        rcases Nat.lt_or_ge ((g t).2+i) c.size with hh | hh
        · exact hh
        · rw[Array.getElem?_eq_none hh]at hce;simp at hce
      exact Rg _ hlt hfree
    · have hne:=h.mem.sep b t _ _ hb rfl ht (fun e=>ht' e.symm)
      unfold bN at hfree ⊢
      rw[G3,if_neg hne]
      exact hfree
  · rw[G3,if_neg (fun e=> ?_)]
    · exact h.frame.block k hk hW
    · rcases h.own b _ hb rfl with ho | ho
      · omega
      · rw[e]at ho;exact hW ho
theorem Fh (h:br W N w0 M g s a w) {t u:TypeId} {x:AV} (hx:AV.ok M x) {e:c6} (he:gP P s t u (some x)=some e):
    Runs P W N w0 M g s a nm (do pure (.value (← convert t u (AV.ah g x)))) w e:=by
  unfold gP at he
  split at he
  · rename_i b o n c hl
    simp only[Option.some.injEq]at hl;subst hl
    split at he
    · rename_i htu;subst htu
      unfold G1 at he
      split at he
      · rename_i cs K8 uj
        simp only[Option.some.injEq]at he;subst he
        have hu: ∃ e,P.underlying t=some (.slice e)∧P.underlying e=some (.int .u8):=by
          unfold SZ at K8
          split at K8
          · rename_i e he
            refine ⟨e,he, ?_⟩
            split at K8
            · assumption
            · cases K8
          · cases K8
        obtain ⟨e,Sy,Oc⟩:=hu
        by_cases hc: ∃ c e f,w.heap[(g b).1]? =some (.cells c e f)
        · obtain ⟨cc,ee,ff,hc⟩:=hc
          refine ⟨g,w.freeze ⟨(g b).1,cc.size,none⟩ 1,_, ?_,fun _ _=>rfl,(h.mark uj hc).mono fun _ hn=>Or.inl hn,rfl,AV.aI (fun _ hn=>Or.inl hn) hx⟩
          have hsh:w.shape? (g b).1=some (ee,cc.size):=by unfold World.shape?;rw[hc]
          simp[convert,aP Sy,aP Oc,AV.ah,CV.ah,SV.ah,cu,markStringish,hsh]
        · refine bB h ?_ hx
          have hsh:w.shape? (g b).1=none:=by
            unfold World.shape?
            split
            · rename_i c e f he;exact absurd ⟨_,_,_,he⟩ hc
            · rfl
          simp[convert,aP Sy,aP Oc,AV.ah,CV.ah,SV.ah,cu,markStringish,hsh]
      · simp at he
    · simp at he
  · rename_i y hy
    exact Aw h he
theorem Fi (h:br W N w0 M g s a w) {t:TypeId} {x:AV} (hx:AV.ok M x) {e:c6} (he:nP (jN P t) (some x)=some e):
    Runs P W N w0 M g s a nm (do pure (.value (← Instr.arrayAt t (AV.ah g x)))) w e:=by
  unfold nP at he
  split at he
  · rename_i m z b o n c hz hl
    simp only[Option.some.injEq]at hl;subst hl
    split at he
    · rename_i hj
      simp only[Option.some.injEq]at he;subst he
      obtain ⟨el,hu,hs⟩:=mB hz w
      refine bB h ?_ hx
      simp[Instr.arrayAt,aP hu,AV.ah,CV.ah,SV.ah,cu,Nat.not_lt.2 hj]
    · simp at he
  · simp at he
theorem Ot (h:br W N w0 M g s a w) {op:UnOp} {x:AV} {e:c6} (he:nN op (some x)=some e):
    Runs P W N w0 M g s a nm (do pure (.value (← Op.unary op (AV.ah g x)))) w e:=by
  unfold nN at he
  split at he
  · rename_i b hl
    simp only[Option.some.injEq]at hl;subst hl
    simp only[Option.some.injEq]at he;subst he
    exact bB h (by simp[Op.unary,AV.ah,CV.ah,SV.ah,cu]) trivial
  · rename_i k n hl
    simp only[Option.some.injEq]at hl;subst hl
    simp only[Option.some.injEq]at he;subst he
    exact bB h (by simp[Op.unary,Op.intArith,AV.ah,CV.ah,SV.ah,cu]) trivial
  · rename_i k n hl
    simp only[Option.some.injEq]at hl;subst hl
    simp only[Option.some.injEq]at he;subst he
    exact bB h (by simp[Op.unary,Op.intBits,AV.ah,CV.ah,SV.ah,cu,eK]) trivial
  · simp at he
theorem uK {t:TypeId} {n z:Nat} {ag:Bool} (h:yl P t=some (n,ag,z)): ∃ e,P.underlying t=some (.array n e)∧dX P e=some (ag,z):=by
  unfold yl at h
  split at h
  · rename_i m e hu
    split at h
    · rename_i Xb z' hi
      simp only[Option.some.injEq,Prod.mk.injEq]at h
      obtain ⟨rfl,rfl,rfl⟩:=h
      exact ⟨e,hu,hi⟩
    · simp at h
  · simp at h
theorem Fj (h:br W N w0 M g s a w) {t:TypeId} {x i:AV} (hx:AV.ok M x) {e:c6} (he:gO P t (some x) (some i)=some e):
    Runs P W N w0 M g s a nm (do pure (.value (← Instr.index t (AV.ah g x) (AV.ah g i)))) w e:=by
  unfold gO at he
  split at he
  · rename_i l k j n z hl hi hz
    simp only[Option.some.injEq]at hl hi;subst hl hi
    split at he
    · rename_i hj
      split at he
      · rename_i v hv
        simp only[Option.some.injEq]at he;subst he
        obtain ⟨el,hu,hty⟩:=uK hz
        have hs:=(di hty w).2
        refine bB h ?_ (hx v (List.mem_of_getElem? hv)).1
        have:=BV (g:=g) (w:=w) hty hv
        simp[Instr.index,aP hu,AV.ah,CV.ah,asIntOf,hj,hs,SV.ah,cu]at this ⊢
        exact this
      · simp at he
    · simp at he
  · rename_i l k j n z hl hi hz
    simp only[Option.some.injEq]at hl hi;subst hl hi
    split at he
    · rename_i hj
      simp only[Option.some.injEq]at he;subst he
      obtain ⟨el,hu,hty⟩:=uK hz
      have hs:=(di hty w).2
      refine bB h ?_ ?_
      · have:=BU (g:=g) (w:=w) (l:=l) (o:=j.toNat*z) hty
        simp[Instr.index,aP hu,AV.ah,CV.ah,asIntOf,hj,hs,SV.ah,cu]at this ⊢
        exact this
      · intro y hy
        exact hx y (List.mem_of_mem_drop (List.mem_of_mem_take hy))
    · simp at he
  · simp at he
theorem sI: ∀ (new:List SV) (cs:List SV) (o:Nat),o+new.length≤cs.length→
    (((new.map (SV.ah g)).toArray).zipIdx.foldl (fun cs (x:Value×Nat)=>cs.setIfInBounds (o+x.2) x.1) (cs.map (SV.ah g)).toArray)=((splice cs o new).map (SV.ah g)).toArray:=by
  intro new cs o ho
  have key: ∀ (new:List SV) (k:Nat) (A:List Value),o+k+new.length≤A.length→
      ((((new.map (SV.ah g)).zipIdx k)).foldl (fun cs (x:Value×Nat)=>cs.setIfInBounds (o+x.2) x.1) A.toArray)=(A.take (o+k)++new.map (SV.ah g)++A.drop (o+k+new.length)).toArray:=by
    intro new
    induction new with
    | nil=>intro k A h;simp
    | cons v r ih=>
      intro k A h
      simp only[List.map_cons,List.zipIdx_cons,List.foldl_cons,List.setIfInBounds_toArray]
      simp only[List.length_cons]at h
      rw[ih (k+1) _ (by simp;omega)]
      congr 1
      apply List.ext_getElem?
      intro i
      simp only[List.getElem?_append,List.getElem?_take,List.getElem?_drop,List.length_take,List.length_set,List.length_append,List.length_map,List.length_cons,List.getElem?_set]
      rw[Nat.min_eq_left (by omega),Nat.min_eq_left (by omega)]
      by_cases h1:i < o+k
      · have e1:i < o+(k+1):=by omega
        have e2:i < o+(k+1)+r.length:=by omega
        have e3:i < o+k+(r.length+1):=by omega
        have e4: ¬ o+k=i:=by omega
        simp only[h1,e1,e2,e3,e4,if_true,if_false]
      · by_cases h2:i=o+k
        · subst h2
          have e1:o+k < o+(k+1):=by omega
          have e2:o+k < o+(k+1)+r.length:=by omega
          have e3:o+k < o+k+(r.length+1):=by omega
          have e4:o+k < A.length:=by omega
          simp only[e1,e2,e3,e4,if_true,if_false,Nat.lt_irrefl,Nat.sub_self,List.getElem?_cons_zero]
        · have e1: ¬ i < o+(k+1):=by omega
          have e4: ¬ o+k=i:=by omega
          by_cases h3:i < o+(k+1)+r.length
          · have e3:i < o+k+(r.length+1):=by omega
            have e5:i - (o+k)=(i - (o+(k+1)))+1:=by omega
            simp only[h1,h3,e1,e3,if_true,if_false,e5,List.getElem?_cons_succ]
          · have e3: ¬ i < o+k+(r.length+1):=by omega
            have e6:o+(k+1)+r.length+(i - (o+(k+1)+r.length))=i:=by omega
            have e7:o+k+(r.length+1)+(i - (o+k+(r.length+1)))=i:=by omega
            simp only[h3,e3,if_false,e6,e7,e4]
  have:=key new 0 (cs.map (SV.ah g)) (by simpa using ho)
  simp only[Nat.add_zero]at this
  rw[splice,List.map_append,List.map_append,List.map_take,List.map_drop, ← this]
  rw[← Array.foldl_toList]
  simp
theorem yp (h:br W N w0 M g s a w) {t:TypeId} {place:Nat→Option (Nat×Nat)} (hp: ∀ i o n,placeOf P t i=some (o,n)→place i=some (o,n)):
    ∀ (parts:List (Nat×Operand)) (cs l:List SV),(∀ x ∈ cs,SV.ok M x)→fe P t s cs parts=some l→
      Instr.fill place (cs.map (SV.ah g)).toArray (parts.map fun x=>(x.1,a.eval x.2))=some (l.map (SV.ah g)).toArray∧ ∀ x ∈ l,SV.ok M x:=by
  intro parts
  induction parts with
  | nil=>
    intro cs l hcs he
    simp only[fe,Option.some.injEq]at he;subst he
    exact ⟨rfl,hcs⟩
  | cons p rest ih=>
    intro cs l hcs he
    obtain ⟨i,x⟩:=p
    unfold fe at he
    split at he
    · rename_i o n new lx hc
      split at he
      · rename_i nT
        obtain ⟨hlen,hle⟩:=nT
        cases hx:s.aK x with
        | none=>rw[hx]at hc;simp[cellsOf]at hc
        | some v=>
          rw[hx]at hc
          obtain ⟨hcells,hok⟩:=jT (g:=g) hc (h.names.aK hx)
          have Ju:=h.eval hx
          have Rh: ∀ x ∈ splice cs o new,SV.ok M x:=by
            intro y hy
            simp only[splice,List.mem_append]at hy
            rcases hy with (hy | hy) | hy
            · exact hcs y (List.mem_of_mem_take hy)
            · exact hok y hy
            · exact hcs y (List.mem_of_mem_drop hy)
          obtain ⟨h1,h2⟩:=ih _ l Rh he
          refine ⟨?_,h2⟩
          simp only[List.map_cons,Instr.fill,hp i o n lx,Ju,hcells]
          rw[if_neg (by simp;omega)]
          have hfs:=sI (g:=g) new cs o (by omega)
          rw[hfs]
          exact h1
      · simp at he
    · simp at he
theorem sJ {α β:Type} (F:α→Sem β) (G:α→β) (w:World): ∀ (l:List α),(∀ x ∈ l,(F x).run P w= .ok (G x) w)→
    (l.mapM F).run P w= .ok (l.map G) w
  | [],_=>by simp
  | x::r,h=>by
    simp[List.mapM_cons,h x (by simp),sJ F G w r (fun y hy=>h y (by simp[hy]))]
theorem sK {t:TypeId} {z:List Value} (h:zeroOf P t=some z) (w:World): ∃ v,(zeroValue t).run P w= .ok v w∧v.cells=z.toArray∧z.all gx=true:=by
  unfold zeroOf at h
  split at h
  · rename_i i hi
    split at h
    · rename_i v hv
      split at h
      · rename_i ky
        simp only[Option.some.injEq]at h;subst h
        exact ⟨v,by simp[zeroValue,typeInfo,hi,hv],by simp,ky⟩
      · simp at h
    · simp at h
  · simp at h
theorem Fk {t:TypeId} {z:List Value} (h:zeroOf P t=some z):z.all gx=true:=by
  unfold zeroOf at h
  split at h
  · split at h
    · split at h
      · rename_i ky
        cases h;exact ky
      · cases h
    · cases h
  · cases h
theorem Fl (h:br W N w0 M g s a w) {t:TypeId} {parts:Array (Nat×Operand)} {e:c6} (he:fA P t s parts.toList=some e):
    Runs P W N w0 M g s a nm (do pure (.value (← Instr.build t (parts.map fun x=>(x.1,a.eval x.2))))) w e:=by
  unfold fA at he
  split at he
  · rename_i z hz
    split at he
    · rename_i l hl
      simp only[Option.some.injEq]at he;subst he
      unfold fK at hz
      split at hz
      · rename_i fs z' hu Vz
        split at hz
        · rename_i hc
          obtain ⟨hall,hfs⟩:=hc
          simp only[Option.some.injEq]at hz;subst hz
          obtain ⟨v,hv,Jv,ky⟩:=sK Vz w
          have Rd: ∀ x ∈ z'.map (Sum.inl:Value→SV),SV.ok M x:=fun x hx=>by
            simp only[List.mem_map]at hx
            obtain ⟨u,hu,rfl⟩:=hx
            exact ⟨dY (List.all_eq_true.1 ky u hu),List.all_eq_true.1 hall u hu⟩
          have hsz: ∀ fd ∈ fs.toList,(do pure (fd.offset, ← sizeOf fd.type):Sem (Nat×Nat)).run P w= .ok (fd.offset,((dX P fd.type).getD default).2) w:=by
            intro fd KS
            have:=List.all_eq_true.1 hfs fd KS
            obtain ⟨p,hp⟩:=Option.isSome_iff_exists.1 this
            obtain ⟨ag,n⟩:=p
            simp[(di hp w).2,hp]
          obtain ⟨h1,h2⟩:=yp h (t:=t) (place:=fun i=>(fs.map fun fd=>(fd.offset,((dX P fd.type).getD default).2))[i]?) (fun i o n hp=>by
            unfold placeOf at hp
            have K9:jN P t=none:=by simp[jN,hu]
            rw[K9]at hp
            simp only[cg,hu]at hp
            simp only[Array.getElem?_map]
            cases KS:fs[i]? with
            | none=>simp[KS]at hp
            | some fd=>
              simp only[KS]at hp
              cases hty:dX P fd.type with
              | none=>simp[hty]at hp
              | some p=>
                obtain ⟨ag,m⟩:=p
                simp only[hty,Option.some.injEq,Prod.mk.injEq]at hp
                simp[hp.1,hp.2,hty]) parts.toList _ l Rd hl
          refine bB h ?_ h2
          have hm:=sJ (P:=P) _ (fun fd:Field=>(fd.offset,((dX P fd.type).getD default).2)) w fs.toList hsz
          have Yn:(fs.mapM fun f=>(do pure (f.offset, ← sizeOf f.type):Sem (Nat×Nat))).run P w= .ok (fs.map fun fd=>(fd.offset,((dX P fd.type).getD default).2)) w:=by
            rw[Array.mapM_eq_mapM_toList]
            rw[Sem.run_map,hm]
            simp only[Result.andThen_ok]
            congr 1
            apply Array.ext'
            simp
          have hcs:v.cells=(List.map (SV.ah g) (List.map Sum.inl z')).toArray:=by
            rw[Jv];simp[SV.ah,qR ky,Function.comp_def]
          rw[← hcs]at h1
          simp only[Instr.build,Sem.run_bind,hv,Result.andThen_ok,aP hu,Yn]
          have S1:(parts.map fun x=>(x.1,a.eval x.2)).toList=parts.toList.map fun x=>(x.1,a.eval x.2):=by simp
          rw[S1,h1]
          simp[AV.ah,CV.ah]
        · simp at hz
      · rename_i n el z' hu Vz
        split at hz
        · rename_i hc
          obtain ⟨hall,hel⟩:=hc
          simp only[Option.some.injEq]at hz;subst hz
          obtain ⟨v,hv,Jv,ky⟩:=sK Vz w
          have Rd: ∀ x ∈ z'.map (Sum.inl:Value→SV),SV.ok M x:=fun x hx=>by
            simp only[List.mem_map]at hx
            obtain ⟨u,hu,rfl⟩:=hx
            exact ⟨dY (List.all_eq_true.1 ky u hu),List.all_eq_true.1 hall u hu⟩
          obtain ⟨p,hp⟩:=Option.isSome_iff_exists.1 hel
          obtain ⟨ag,m⟩:=p
          have hsz:=(di hp w).2
          obtain ⟨h1,h2⟩:=yp h (t:=t) (place:=fun i=>some (i*m,m)) (fun i o n' lx=>by
            unfold placeOf at lx
            cases K9:jN P t with
            | none=>
              rw[K9]at lx
              simp[cg,hu]at lx
            | some q=>
              obtain ⟨n2,z2⟩:=q
              rw[K9]at lx
              simp only[Option.some.injEq,Prod.mk.injEq]at lx
              obtain ⟨e2,Oc,Oo⟩:=mB K9 w
              rw[hu]at Oc
              simp only[Option.some.injEq,TypeDesc.array.injEq]at Oc
              obtain ⟨rfl,rfl⟩:=Oc
              rw[hsz]at Oo
              simp only[Result.ok.injEq,and_true]at Oo
              subst Oo
              obtain ⟨rfl,rfl⟩:=lx
              rfl) parts.toList _ l Rd hl
          refine bB h ?_ h2
          have hcs:v.cells=(List.map (SV.ah g) (List.map Sum.inl z')).toArray:=by
            rw[Jv];simp[SV.ah,qR ky,Function.comp_def]
          rw[← hcs]at h1
          simp only[Instr.build,Sem.run_bind,hv,Result.andThen_ok,aP hu,hsz]
          have S1:(parts.map fun x=>(x.1,a.eval x.2)).toList=parts.toList.map fun x=>(x.1,a.eval x.2):=by simp
          rw[S1,h1]
          simp[AV.ah,CV.ah]
        · simp at hz
      · simp at hz
    · simp at he
  · simp at he
theorem lU {t:TypeId} {k:Option Nat} {z:Nat} (h:sF P t=some (k,z)):
    ∃ e i,P.info? e=some i∧i.size=z∧((k=none∧P.underlying t=some (.slice e))∨ ∃ n,k=some n∧P.underlying t=some (.array n e)):=by
  unfold sF at h
  split at h
  · rename_i e hu
    split at h
    · rename_i i hi
      simp only[Option.some.injEq,Prod.mk.injEq]at h
      exact ⟨e,i,hi,h.2, .inl ⟨h.1.symm,hu⟩⟩
    · simp at h
  · rename_i n e hu
    split at h
    · rename_i i hi
      simp only[Option.some.injEq,Prod.mk.injEq]at h
      exact ⟨e,i,hi,h.2, .inr ⟨n,h.1.symm,hu⟩⟩
    · simp at h
  · simp at h
theorem mC (h:br W N w0 M g s a w) {x:Option Operand} {j:Option Int} (hx:fJ s x=some j):
    (x=none∧j=none)∨ ∃ k i,x.map a.eval=some (.int k i)∧j=some i:=by
  unfold fJ at hx
  split at hx
  · simp only[Option.some.injEq]at hx;exact .inl ⟨rfl,hx.symm⟩
  · rename_i y
    split at hx
    · rename_i k i hy
      simp only[Option.some.injEq]at hx
      exact .inr ⟨k,i,by simp[h.eval hy,AV.ah,CV.ah,SV.ah,cu],hx.symm⟩
    · simp at hx
theorem pN (sl:Bool) (n c:Nat) (lo hi:Option Value) {jl jh:Option Int} (hlo:(lo=none∧jl=none)∨ ∃ k i,lo=some (.int k i)∧jl=some i)
    (hhi:(hi=none∧jh=none)∨ ∃ k i,hi=some (.int k i)∧jh=some i) (h0:0≤jl.getD 0) (h1:jl.getD 0≤jh.getD n) (h2:jh.getD n≤c) (w:World):
    (Instr.sliceBounds sl n c lo hi none).run P w= .ok ((jl.getD 0).toNat,(jh.getD n).toNat,c) w:=by
  rcases hlo with ⟨rfl,rfl⟩ | ⟨k,i,rfl,rfl⟩<;>rcases hhi with ⟨rfl,rfl⟩ | ⟨k',i',rfl,rfl⟩<;>simp only[Option.getD_none,Option.getD_some]at h0 h1 h2 ⊢
  · simp[Instr.sliceBounds]
  · simp[Instr.sliceBounds,run_sliceBound,h1,h2]
  · have e:i≤(n:Int):=h1
    simp[Instr.sliceBounds,run_sliceBound,h0,e]
  · have e:((i'.toNat:Nat):Int)=i':=Int.toNat_of_nonneg (by omega)
    simp[Instr.sliceBounds,run_sliceBound,h0,h2,e,h1,show (0:Int)≤i' by omega]
theorem Fm (h:br W N w0 M g s a w) {t:TypeId} {x:AV} (hx:AV.ok M x) {lo hi:Option Operand} {e:c6} (he:fB (sF P t) (some x) (fJ s lo) (fJ s hi)=some e):
    Runs P W N w0 M g s a nm (do pure (.value (← Instr.sliceAt t (AV.ah g x) (lo.map a.eval) (hi.map a.eval) none))) w e:=by
  have hb: ∀ {y:Option Operand} {j:Option Int},fJ s y=some j→(y.map a.eval=none∧j=none)∨ ∃ k i,y.map a.eval=some (.int k i)∧j=some i:=fun hy=>by
    rcases mC h hy with ⟨rfl,rfl⟩ | h
    · exact .inl ⟨rfl,rfl⟩
    · exact .inr h
  unfold fB at he
  split at he
  · rename_i z b o n c lo' hi' hk hx' hl hh
    simp only[Option.some.injEq]at hx';subst hx'
    unfold KR at he
    split at he
    · rename_i hc
      obtain ⟨c0,c1,c2⟩:=hc
      simp only[Option.some.injEq]at he;subst he
      obtain ⟨el,i,hi1,hz,hu | ⟨m,hm,_⟩⟩:=lU hk
      · refine bB h ?_ hx
        have hbd:=pN (P:=P) true n c (lo.map a.eval) (hi.map a.eval) (hb hl) (hb hh) c0 c1 c2 w
        have hsz:(sizeOf el).run P w= .ok z w:=by simp[sizeOf,typeInfo,hi1,hz]
        simp only[Instr.sliceAt,Sem.run_bind,aP hu.2,Result.andThen_ok,AV.ah,CV.ah,SV.ah,cu,Instr.slice,hbd,hsz,Sem.run_pure,Option.map_some,add_eq]
        split<;>simp[Nat.add_assoc]
      · cases hm
    · simp at he
  · rename_i m z b o lo' hi' hk hx' hl hh
    simp only[Option.some.injEq]at hx';subst hx'
    unfold KR at he
    split at he
    · rename_i hc
      obtain ⟨c0,c1,c2⟩:=hc
      simp only[Option.some.injEq]at he;subst he
      obtain ⟨el,i,hi1,hz,⟨hm,_⟩ | ⟨m',hm,hu⟩⟩:=lU hk
      · cases hm
      · simp only[Option.some.injEq]at hm;subst hm
        refine bB h ?_ hx
        have hbd:=pN (P:=P) false m m (lo.map a.eval) (hi.map a.eval) (hb hl) (hb hh) c0 c1 c2 w
        have hsz:(sizeOf el).run P w= .ok z w:=by simp[sizeOf,typeInfo,hi1,hz]
        simp only[Instr.sliceAt,Instr.sureAddr,Sem.run_bind,aP hu,Result.andThen_ok,AV.ah,CV.ah,SV.ah,cu,hbd,hsz,Sem.run_pure,add_eq]
        split<;>simp[Nat.add_assoc]
    · simp at he
  · rename_i n c lo' hi' hk hx' hl hh
    simp only[Option.some.injEq]at hx';subst hx'
    unfold Sx at he
    split at he
    · rename_i hc
      obtain ⟨c0,c1,c2⟩:=hc
      simp only[Option.some.injEq]at he;subst he
      obtain ⟨el,i,hi1,hz,hu | ⟨m,hm,_⟩⟩:=lU hk
      · refine bB h ?_ trivial
        have hbd:=pN (P:=P) true n c (lo.map a.eval) (hi.map a.eval) (hb hl) (hb hh) c0 c1 c2 w
        have hsz:(sizeOf el).run P w= .ok i.size w:=by simp[sizeOf,typeInfo,hi1]
        simp[Instr.sliceAt,Sem.run_bind,aP hu.2,Result.andThen_ok,AV.ah,CV.ah,SV.ah,cu,Instr.slice,hbd,hsz,Sem.run_pure]
      · cases hm
    · simp at he
  · simp at he
theorem lV {t:TypeId} {z:List Value} {sz mq:Nat} (h:qU P t=some (z,sz,mq)):
    ∃ e i v,P.underlying t=some (.slice e)∧P.info? e=some i∧i.zero=some v∧v.cells.toList=z∧i.size=sz∧i.bytes=mq∧z.all gx=true:=by
  unfold qU at h
  split at h
  · rename_i e hu
    split at h
    · rename_i i hi
      split at h
      · rename_i v hv
        split at h
        · rename_i ky
          simp only[Option.some.injEq,Prod.mk.injEq]at h
          exact ⟨e,i,v,hu,hi,hv,h.1,h.2.1,h.2.2,by rw[← h.1];exact ky⟩
        · simp at h
      · simp at h
    · simp at h
  · simp at h
theorem yq {z:List Value} {n:Nat} (hz:0 < z.length) (hall:z.all Value.oneCell'=true) (ky:z.all gx=true): ∀ x ∈ gi z n,SV.ok M x:=by
  intro x hx
  simp only[gi,List.mem_map,List.mem_range]at hx
  obtain ⟨i,_,rfl⟩:=hx
  have hlt:i%z.toArray.size < z.toArray.size:=Nat.mod_lt _ (by simpa using hz)
  rw[getElem!_pos z.toArray _ hlt]
  exact ⟨dY (List.all_eq_true.1 ky _ (by simp)),List.all_eq_true.1 hall _ (by simp)⟩
theorem sL {z:List Value} {n:Nat} (hz:0 < z.length) (ky:z.all gx=true):((gi z n).map (SV.ah g)).toArray=(Array.range n).map (fun i=>z.toArray[i%z.toArray.size]!):=by
  apply Array.ext'
  have: ∀ i ∈ List.range n,(SV.ah g∘fun i=>(Sum.inl (z.toArray[i%z.toArray.size]!):SV)) i=z.toArray[i%z.toArray.size]! :=fun i _=>by
    have hlt:i%z.toArray.size < z.toArray.size:=Nat.mod_lt _ (by simpa using hz)
    show iQ g _=_
    rw[getElem!_pos z.toArray _ hlt]
    exact jx (List.all_eq_true.1 ky _ (by simp))
  simp only[gi,List.map_map,List.map_congr_left this]
  simp
theorem uL (h:br W N w0 M g s a w) (hnm: ¬ M nm) {cs:List SV} (hcs: ∀ x ∈ cs,SV.ok M x) (t:TypeId) (n c:Nat) {sem:Sem Value}
    (hr:sem.run P w= .ok (.slice (some ⟨w.heap.size,0,none⟩) n c) (w.alloc (.cells (cs.map (SV.ah g)).toArray t))):
    Runs P W N w0 M g s a nm (do pure (.value (← sem))) w (some (Sl nm 0 n c),some (.inl cs)):=by
  refine ⟨upd g nm (w.heap.size,0),_,_, ?_,fun n hn=>aW _ _ _ _ (fun e=>hnm (by rw[← e];exact hn)),h.uH hnm hcs t,rfl,Or.inr rfl⟩
  simp[hr,AV.ah,CV.ah,SV.ah,cu,aT]
theorem Jw (h:br W N w0 M g s a w) (hnm: ¬ M nm) {t:TypeId} {l c:AV} {e:c6} (he:iu nm (qU P t) (some l) (some c)=some e):
    Runs P W N w0 M g s a nm (do pure (.value (← Instr.makeSlice t (AV.ah g l) (AV.ah g c)))) w e:=by
  unfold iu at he
  split at he
  · rename_i z sz mq k l' k' c' hk hl hc
    simp only[Option.some.injEq]at hl hc;subst hl hc
    split at he
    · rename_i nT
      obtain ⟨⟨c0,c1,c2,c3⟩,c4,c5⟩:=nT
      simp only[Option.some.injEq]at he;subst he
      obtain ⟨el,i,v,hu,hi,hv,hz,hsz,hby,ky⟩:=lV hk
      refine uL h hnm (yq c4 c5 ky) el _ _ ?_
      rw[sL c4 ky]
      have:=run_make (P:=P) w t el i v hu hi hv k k' l' c' c0 c1 (by rw[hby];exact c2) c3
      rw[hsz]at this
      have Jv:v.cells=z.toArray:=by rw[← hz]
      rw[Jv]at this
      exact this
    · simp at he
  · simp at he
theorem Fo (h:br W N w0 M g s a w) {z:Nat}:
    ∀ (parts:List (Nat×Operand)) (cs l:List SV),(∀ x ∈ cs,SV.ok M x)→fg z s cs parts=some l→
      Instr.fill (fun i=>some (i*z,z)) (cs.map (SV.ah g)).toArray (parts.map fun x=>(x.1,a.eval x.2))=some (l.map (SV.ah g)).toArray∧ ∀ x ∈ l,SV.ok M x:=by
  intro parts
  induction parts with
  | nil=>
    intro cs l hcs he
    simp only[fg,Option.some.injEq]at he;subst he
    exact ⟨rfl,hcs⟩
  | cons p rest ih=>
    intro cs l hcs he
    obtain ⟨i,x⟩:=p
    unfold fg at he
    split at he
    · rename_i new hc
      split at he
      · rename_i nT
        obtain ⟨hlen,hle⟩:=nT
        cases hx:s.aK x with
        | none=>rw[hx]at hc;simp[cellsOf]at hc
        | some v=>
          rw[hx]at hc
          obtain ⟨hcells,hok⟩:=jT (g:=g) hc (h.names.aK hx)
          have Ju:=h.eval hx
          have Rh: ∀ x ∈ splice cs (i*z) new,SV.ok M x:=by
            intro y hy
            simp only[splice,List.mem_append]at hy
            rcases hy with (hy | hy) | hy
            · exact hcs y (List.mem_of_mem_take hy)
            · exact hok y hy
            · exact hcs y (List.mem_of_mem_drop hy)
          obtain ⟨h1,h2⟩:=ih _ l Rh he
          refine ⟨?_,h2⟩
          simp only[List.map_cons,Instr.fill,Ju,hcells]
          rw[if_neg (by simp;omega)]
          have hfs:=sI (g:=g) new cs (i*z) (by omega)
          rw[hfs]
          exact h1
      · simp at he
    · simp at he
theorem BX (h:br W N w0 M g s a w) (hnm: ¬ M nm) {t:TypeId} {n:Nat} {parts:Array (Nat×Operand)} {e:c6} (he:fC nm (qU P t) n s parts.toList=some e):
    Runs P W N w0 M g s a nm (do pure (.value (← Instr.buildSlice t n (parts.map fun x=>(x.1,a.eval x.2))))) w e:=by
  unfold fC at he
  split at he
  · rename_i z sz mq hk
    split at he
    · rename_i nT
      obtain ⟨c1,c2,c3⟩:=nT
      split at he
      · rename_i l hl
        simp only[Option.some.injEq]at he;subst he
        obtain ⟨el,i,v,hu,hi,hv,hz,hsz,hby,ky⟩:=lV hk
        obtain ⟨h1,h2⟩:=Fo h parts.toList _ l (yq c2 c3 ky) hl
        refine uL h hnm h2 el _ _ ?_
        rw[sL c2 ky]at h1
        have Jv:v.cells=z.toArray:=by rw[← hz]
        have S1:(parts.map fun x=>(x.1,a.eval x.2)).toList=parts.toList.map fun x=>(x.1,a.eval x.2):=by simp
        have n1: ¬ (16777216 < n*sz):=by omega
        have hsz':(sizeOf el).run P w= .ok sz w:=by simp[sizeOf,typeInfo,hi,hsz]
        have Rd:(zeroValue el).run P w= .ok v w:=by simp[zeroValue,typeInfo,hi,hv]
        have hmap:(Array.range (n*sz)).map (fun i=>(if n*sz=0 then #[] else z.toArray)[i%(if n*sz=0 then #[] else z.toArray).size]!)=(Array.range (n*sz)).map (fun i=>z.toArray[i%z.toArray.size]!):=by
          by_cases h0:n*sz=0
          · exact Array.ext (by simp) fun i hi _=>by simp[h0]at hi
          · simp only[h0,if_false]
        rw[← hmap, ← S1]at h1
        unfold Instr.buildSlice
        rw[Sem.run_bind,aP hu]
        simp only[Result.andThen_ok]
        rw[Sem.run_bind,hsz']
        simp only[Result.andThen_ok,gt_iff_lt,n1,if_false]
        by_cases h0:n*sz=0
        · simp only[h0,if_true]at h1 ⊢
          simp only[Sem.run_bind,Sem.run_pure,Result.andThen_ok]
          rw[h1]
          simp[newRow]
        · simp only[h0,if_false]at h1 ⊢
          simp only[Sem.run_bind,Sem.run_pure,Result.andThen_ok,Rd,Jv]
          rw[h1]
          simp[newRow]
      · simp at he
    · simp at he
  · simp at he
theorem BZ (h:br W N w0 M g s a w) {t:TypeId} {x:AV} (hx:AV.ok M x) {lo hi:Option Operand} {mx:Operand} {e:c6} (he:lS (sF P t) (some x) (fJ s lo) (fJ s hi) (fJ s (some mx))=some e):
    Runs P W N w0 M g s a nm (do pure (.value (← Instr.sliceAt t (AV.ah g x) (lo.map a.eval) (hi.map a.eval) (some (a.eval mx))))) w e:=by
  unfold lS at he
  split at he
  · rename_i z b o n c l' h' m' hk hx' hl hh hm
    simp only[Option.some.injEq]at hx';subst hx'
    split at he
    · rename_i hc
      obtain ⟨c0,c1,c2,c3⟩:=hc
      simp only[Option.some.injEq]at he;subst he
      obtain ⟨el,i,hi1,hz,hu | ⟨m,hm',_⟩⟩:=lU hk
      · refine bB h ?_ hx
        rcases mC h hl with ⟨_,h1⟩ | ⟨k1,i1,e1,h1⟩
        · cases h1
        cases h1
        rcases mC h hh with ⟨_,h2⟩ | ⟨k2,i2,e2,h2⟩
        · cases h2
        cases h2
        rcases mC h hm with ⟨_,h3⟩ | ⟨k3,i3,e3,h3⟩
        · cases h3
        cases h3
        have Yo:a.eval mx= .int k3 m':=by simpa using e3
        have hm0:((m'.toNat:Nat):Int)=m':=Int.toNat_of_nonneg (by omega)
        have Yp:((h'.toNat:Nat):Int)=h':=Int.toNat_of_nonneg (by omega)
        have hbd:(Instr.sliceBounds true n c (lo.map a.eval) (hi.map a.eval) (some (a.eval mx))).run P w= .ok (l'.toNat,h'.toNat,m'.toNat) w:=by
          rw[e1,e2,Yo]
          simp[Instr.sliceBounds,run_sliceBound,hm0,Yp,c0,c1,c2,c3,show (0:Int)≤m' by omega,show (0:Int)≤h' by omega]
        have hsz:(sizeOf el).run P w= .ok z w:=by simp[sizeOf,typeInfo,hi1,hz]
        simp only[Instr.sliceAt,Sem.run_bind,aP hu.2,Result.andThen_ok,AV.ah,CV.ah,SV.ah,cu,Instr.slice,hbd,hsz,Sem.run_pure,Option.map_some,add_eq]
        split<;>simp[Nat.add_assoc]
      · cases hm'
    · cases he
  · cases he
theorem uM (h:br W N w0 M g s a w): ∀ (xs:List Operand) (l:List Value),lr s xs=some l→xs.map a.eval=l.map (jS g)∧ ∀ c ∈ l,xQ M c
  | [],l,he=>by
    cases he
    exact ⟨rfl,fun c hc=>by cases hc⟩
  | x::r,l,he=>by
    unfold lr G2 at he
    split at he
    · rename_i v l' hv hl'
      cases he
      obtain ⟨h1,h2⟩:=uM h r l' hl'
      have key:a.eval x=jS g v∧xQ M v:=by
        unfold Oj at hv
        split at hv
        · rename_i t o hx
          cases hv
          exact ⟨h.eval hx,h.names.aK hx⟩
        · rename_i hx
          cases hv
          exact ⟨h.eval hx,trivial⟩
        · cases hv
      refine ⟨by rw[List.map_cons,List.map_cons,h1,key.1],fun c hc=> ?_⟩
      rcases List.mem_cons.1 hc with rfl | hc
      · exact key.2
      · exact h2 c hc
    · cases he
theorem fD (h:br W N w0 M g s a w) (hnm: ¬ M nm) {o:Oper} {e:c6} (he:dS P nm s o.op=some e):
    Runs P W N w0 M g s a nm (execOp a.eval o) w e:=by
  obtain ⟨dst,op,type,pos,after,guard⟩:=o
  cases op<;>simp only[dS,reduceCtorEq]at he<;>simp only[execOp]
  case move x=>
    split at he
    · rename_i v hv
      simp only[Option.some.injEq]at he;subst he
      have:=bB (P:=P) (nm:=nm) h (sem:=pure (a.eval x)) (v:=v) (by simp[h.eval hv]) (h.names.aK hv)
      simpa using this
    · simp at he
  case makeFunc fn first caps=>
    split at he<;>try (rename_i hop;cases hop;done)
    all_goals try (cases he;done)
    rename_i f caps hop
    cases hop
    unfold nQ at he
    split at he
    · rename_i l hl
      cases he
      obtain ⟨h1,h2⟩:=uM h _ _ hl
      have:=bB (P:=P) (nm:=nm) h (sem:=pure (.func (.func f) #[] (caps.map a.eval))) (v:=V (.func (.func f) #[] ⟨l⟩)) (by
        show _=Result.ok (iQ g (.func (.func f) #[] ⟨l⟩)) w
        simp only[Sem.run_pure,iQ]
        congr 2
        apply Array.ext'
        rw[Array.toList_map,h1]) h2
      simpa[Instr.makeFunc] using this
    · cases he
  case assign x=>
    split at he
    · rename_i v hv
      simp only[Option.some.injEq]at he;subst he
      have:=bB (P:=P) (nm:=nm) h (sem:=pure (a.eval x)) (v:=v) (by simp[h.eval hv]) (h.names.aK hv)
      simpa using this
    · simp at he
  case alloc t=>exact Ff h hnm he
  case box t x=>
    cases hx:s.aK x with
    | none=>rw[hx]at he;simp[pL,cellsOf]at he
    | some v=>rw[hx]at he;rw[h.eval hx];exact K7 h hnm (h.names.aK hx) he
  case build t parts=>exact Fl h he
  case load t x=>
    cases hx:s.aK x with
    | none=>rw[hx]at he;simp[dG]at he
    | some v=>rw[hx]at he;rw[h.eval hx];exact yo h he
  case store t x y=>
    cases hx:s.aK x with
    | none=>rw[hx]at he;simp[ea]at he
    | some v=>
      cases hy:s.aK y with
      | none=>rw[hx,hy]at he;simp[ea,cellsOf]at he
      | some u=>rw[hx,hy]at he;rw[h.eval hx,h.eval hy];exact Fe h (h.names.aK hy) he
  case binOp op t x y yt=>
    unfold qT at he
    split at he
    · rename_i hn
      obtain ⟨r,rfl,hok,hrun⟩:=Rf (M:=M) (g:=g) (w:=w) (P:=P) (x:=x) he (fun v hv=>h.eval hv) hn
      have hy:a.eval y= .nilIface:=by
        unfold Aq at hn
        split at hn
        · rfl
        · cases hn
      exact bB h (by rw[hy];exact hrun) hok
    cases hx:s.aK x with
    | none=>rw[hx]at he;simp[ni,bX]at he
    | some v=>
      cases hy:s.aK y with
      | none=>rw[hx,hy]at he;simp[ni,bX]at he
      | some u=>
        rw[hx,hy]at he
        obtain ⟨r,rfl,hok,hrun⟩:=K4 (M:=M) (g:=g) (w:=w) (P:=P) (t:=t) (x:=x) (y:=y) he (h.eval hx) (h.eval hy)
        exact bB h hrun hok
  case unOp op t x=>
    cases hx:s.aK x with
    | none=>rw[hx]at he;simp[nN]at he
    | some v=>rw[hx]at he;rw[h.eval hx];exact Ot h he
  case convert t u x=>
    cases hx:s.aK x with
    | none=>rw[hx]at he;simp[gP,gg]at he
    | some v=>rw[hx]at he;rw[h.eval hx];exact Fh h (h.names.aK hx) he
  case sliceToArrayPointer t x=>
    cases hx:s.aK x with
    | none=>rw[hx]at he;simp[nP]at he
    | some v=>rw[hx]at he;rw[h.eval hx];exact Fi h (h.names.aK hx) he
  case fieldAddr t x f=>
    cases hx:s.aK x with
    | none=>rw[hx]at he;simp[dH]at he
    | some v=>rw[hx]at he;rw[h.eval hx];exact uI h (h.names.aK hx) he
  case field t x f=>
    cases hx:s.aK x with
    | none=>rw[hx]at he;simp[ga]at he
    | some v=>rw[hx]at he;rw[h.eval hx];exact Fg h (h.names.aK hx) he
  case indexAddr t x i=>
    cases hx:s.aK x with
    | none=>rw[hx]at he;simp[cj]at he
    | some v=>
      cases hy:s.aK i with
      | none=>rw[hx,hy]at he;simp[cj]at he
      | some u=>rw[hx,hy]at he;rw[h.eval hx,h.eval hy];exact uJ h (h.names.aK hx) he
  case index t x i=>
    cases hx:s.aK x with
    | none=>rw[hx]at he;simp[gO]at he
    | some v=>
      cases hy:s.aK i with
      | none=>rw[hx,hy]at he;simp[gO]at he
      | some u=>rw[hx,hy]at he;rw[h.eval hx,h.eval hy];exact Fj h (h.names.aK hx) he
  case extract x i=>
    cases hx:s.aK x with
    | none=>rw[hx]at he;simp[gb]at he
    | some v=>rw[hx]at he;rw[h.eval hx];exact Av h (h.names.aK hx) he
  case slice t x lo hi mx=>
    cases mx with
    | some mx=>
      simp only[dS]at he
      cases hx:s.aK x with
      | none=>rw[hx]at he;simp[lS]at he
      | some v=>rw[hx]at he;rw[h.eval hx];exact BZ h (h.names.aK hx) he
    | none=>
      simp only[dS]at he
      cases hx:s.aK x with
      | none=>rw[hx]at he;simp[fB]at he
      | some v=>rw[hx]at he;rw[h.eval hx];exact Fm h (h.names.aK hx) he
  case makeSlice t l c=>
    cases hl:s.aK l with
    | none=>rw[hl]at he;simp[iu]at he
    | some v=>
      cases hc:s.aK c with
      | none=>rw[hl,hc]at he;simp[iu]at he
      | some u=>rw[hl,hc]at he;rw[h.eval hl,h.eval hc];exact Jw h hnm he
  case buildSlice t n parts=>exact BX h hnm he
  case nilCheck x=>
    unfold Ar at he
    split at he
    · rename_i b o hx
      simp only[Option.some.injEq]at he;subst he
      rw[h.eval hx]
      exact ⟨g,w,_,rfl,fun _ _=>rfl,h.mono fun _ hn=>Or.inl hn,rfl,AV.aI (fun _ hn=>Or.inl hn) (h.names.aK hx)⟩
    · simp at he
  case pick c x y=>
    unfold mA at he
    split at he
    · rename_i b hb
      unfold ym at he
      split at he
      · rename_i v hv
        simp only[Option.some.injEq]at he;subst he
        have hc:a.eval c= .bool b:=h.eval hb
        have hok:AV.ok M v:=by
          split at hv
          · exact h.names.aK hv
          · exact h.names.aK hv
        have Ju:(if b=true then a.eval x else a.eval y)=AV.ah g v:=by
          split at hv
          · rename_i VA;rw[if_pos VA];exact h.eval hv
          · rename_i VA;rw[if_neg VA];exact h.eval hv
        have:=bB (P:=P) (nm:=nm) h (sem:=do pure (if ← asBool (a.eval c) then a.eval x else a.eval y)) (v:=v) (by simp[hc,asBool,Ju]) hok
        simpa using this
      · simp at he
    · simp at he
theorem Ax {tys:Array TypeId} {type:TypeId} {cs:Array Bool} {l:List AV} {e:c6} (he:dI (nO P tys.toList) (some l)=some e):
    ∃ n:Int,e=(some (I .i64 n),none)∧ ∀ g w,(builtin .len tys type cs (l.map (AV.ah g)).toArray).run P w= .ok (.value (.int .i64 n)) w:=by
  unfold dI at he
  have key: ∀ {k:Nat},nO P tys.toList=k→k≠0→ ∃ t d,tys[0]? =some t∧P.underlying t=some d∧((k=1∧ ∃ e,d= .slice e)∨(k=2∧d= .string)):=by
    intro k hk hne
    unfold nO at hk
    split at hk
    · rename_i t r ht
      have h0:tys[0]? =some t:=by
        have:tys.toList[0]? =some t:=by rw[ht];rfl
        simpa using this
      split at hk
      · rename_i el hu;exact ⟨t,_,h0,hu, .inl ⟨hk.symm,_,rfl⟩⟩
      · rename_i hu;exact ⟨t,_,h0,hu, .inr ⟨hk.symm,rfl⟩⟩
      · exact absurd hk.symm hne
    · exact absurd hk.symm hne
  split at he
  · rename_i b o n c hk hl
    simp only[Option.some.injEq]at he hl;subst he hl
    obtain ⟨t,d,h0,hu,h⟩:=key hk (by omega)
    rcases h with ⟨_,el,rfl⟩ | ⟨h,_⟩
    · exact ⟨n,rfl,fun g w=>by simp[builtin,Builtin.len_,h0,aP hu,AV.ah,CV.ah,SV.ah,cu,goInt]⟩
    · omega
  · rename_i ad n c hk hl
    simp only[Option.some.injEq]at he hl;subst he hl
    obtain ⟨t,d,h0,hu,h⟩:=key hk (by omega)
    rcases h with ⟨_,el,rfl⟩ | ⟨h,_⟩
    · exact ⟨n,rfl,fun g w=>by simp[builtin,Builtin.len_,h0,aP hu,AV.ah,CV.ah,SV.ah,cu,goInt]⟩
    · omega
  · rename_i b hk hl
    simp only[Option.some.injEq]at he hl;subst he hl
    obtain ⟨t,d,h0,hu,h⟩:=key hk (by omega)
    rcases h with ⟨h,_⟩ | ⟨_,rfl⟩
    · omega
    · exact ⟨b.size,rfl,fun g w=>by simp[builtin,Builtin.len_,h0,aP hu,AV.ah,CV.ah,SV.ah,cu,goInt]⟩
  · simp at he
end
end Go.bM
