/-
  The field of remainders modulo the curve's prime, and the Edwards curve over it: its sums are again points, and they are associative. Nothing here speaks of a program.
-/
import Derived.Test.YtbipdofobgabhaaGreatDoorVcgAg2
set_option linter.unusedSimpArgs false
namespace Go.bA.Ag
set_option linter.unusedVariables false
set_option maxRecDepth 100000
set_option maxHeartbeats 8000000
abbrev K:=Fin PN
instance:NeZero PN:=⟨by decide⟩
theorem adG (x:K):x.val < PN:=x.isLt
theorem adH (x y:K):(x*y).val=x.val*y.val%PN:=rfl
theorem KM {x y:K} (h:x.val=y.val):x=y:=Fin.ext h
theorem aeX:(0:K).val=0:=rfl
theorem agF:(1:K).val=1:=rfl
theorem vk {x:K} (h:x≠0): ¬ PN ∣ x.val:=fun hd=>by
 have h1:=adG x
 have:x.val=0:=by
  rcases Nat.eq_zero_or_pos x.val with e | e
  ·exact e
  ·exact absurd (Nat.le_of_dvd e hd) (Nat.not_le.2 h1)
 exact h (KM this)
theorem mB {x y:K} (h:x*y=0):x=0∨y=0:=by
 have hv:x.val*y.val%PN=0:=congrArg Fin.val h
 rcases abj.mul (Nat.dvd_of_mod_eq_zero hv) with hd | hd
 ·exact .inl (Classical.byContradiction fun hn=>vk hn hd)
 ·exact .inr (Classical.byContradiction fun hn=>vk hn hd)
theorem iC {x y:K} (hx:x≠0) (hy:y≠0):x*y≠0:=fun h=>(mB h).elim hx hy
def oM (x:K):Nat→K
 | 0=>1
 | n+1=>oM x n*x
theorem D1 (x:K): ∀ n,(oM x n).val=x.val^n%PN
 | 0=>rfl
 | n+1=>by rw[oM,adH,D1 x n,Nat.pow_succ,Nat.mod_mul_mod]
theorem Nl {x:K} (h:x≠0):oM x (PN - 1)=1:=KM (by rw[D1,Nk abj (vk h)];rfl)
def wY (x:K):K:=oM x 57896044618658097711785492504343953926634992332820282019728792003956564819947
theorem me {x:K} (h:x≠0):x*wY x=1:=by
 have:=Nl h
 rw[show PN - 1=57896044618658097711785492504343953926634992332820282019728792003956564819947+1 from rfl,oM]at this
 rw[Fin.mul_comm];exact this
theorem D2 {a x y:K} (h:a≠0) (e:a*x=a*y):x=y:=by
 have:a*(x - y)=0:=by grobner
 rcases mB this with h1 | h1
 ·exact absurd h1 h
 ·grobner
theorem Nm (x:K) (n:Nat): ∀ m,oM (oM x n) m=oM x (n*m)
 | 0=>rfl
 | m+1=>by
  rw[oM,Nm x n m,Nat.mul_succ]
  have: ∀ k,oM x (n*m)*oM x k=oM x (n*m+k):=fun k=>by
   induction k with
   | zero=>show oM x (n*m)*1=oM x (n*m);grobner
   | succ k ih=>rw[oM, ← Nat.add_assoc,oM, ← ih];grobner
  exact this n
def dE:K:=20800338683988658368647408995589388737092878452977063003340006470870624536394
theorem abl:dE*121666=121665:=by decide+kernel
theorem YP:pm 256 dE.val ((PN - 1) / 2) PN=PN - 1:=by decide+kernel
theorem YQ {s:K}:s*s≠dE:=fun h=>by
 have h0:s≠0:=fun e=>by
  subst e
  have:(0:K)*0=0:=by grobner
  rw[this]at h
  exact absurd (congrArg Fin.val h) (by decide+kernel)
 have h1:=Nl h0
 have h2:oM (oM s 2) ((PN - 1) / 2)=1:=by
  rw[Nm]
  rw[show 2*((PN - 1) / 2)=PN - 1 by decide];exact h1
 have h3:oM s 2=dE:=by rw[← h];show 1*s*s=s*s;grobner
 rw[h3]at h2
 have h4:=congrArg Fin.val h2
 rw[D1, ← pm_eq _ _ 256 _ (by decide),YP]at h4
 exact absurd h4 (by decide)
def On (x y:K):Prop:=x*x+y*y=1+dE*x*x*y*y
theorem Ia {a b:K} (h:a*a=dE*(b*b)):b=0:=Classical.byContradiction fun hb=>by
 have hi:=me hb
 refine YQ (s:=a*wY b) ?_
 generalize wY b=c at*
 generalize dE=d at*
 have:a*c*(a*c)=(a*a)*(c*c):=by grobner
 rw[this,h];grobner
theorem vl:(2:K)≠0:=by decide
theorem Tg {x1 y1 x2 y2 e:K} (he:e*e=1) (h1:On x1 y1) (h2:On x2 y2):dE*x1*x2*y1*y2≠e:=fun h=>by
 have h3:=h1
 have h4:=h2
 unfold On at h3 h4
 have he0:e≠0:=fun e0=>by
  subst e0
  have:(0:K)=1:=by grobner
  exact absurd this (by decide)
 have k1:(x1+e*y1)*(x1+e*y1)=dE*((x1*y1*(x2+y2))*(x1*y1*(x2+y2))):=by
  generalize dE=d at*
  grobner
 have k2:(x1 - e*y1)*(x1 - e*y1)=dE*((x1*y1*(x2 - y2))*(x1*y1*(x2 - y2))):=by
  generalize dE=d at*
  grobner
 have n1:=Ia k1
 have n2:=Ia k2
 have hx:x1*y1≠0:=fun h0=>he0 (by rw[← h];generalize dE=d at *; grobner)
 have m1:=(mB n1).resolve_left hx
 have m2:=(mB n2).resolve_left hx
 have:2*x2=0:=by grobner
 have hx2:=(mB this).resolve_left vl
 exact he0 (by rw[← h,hx2];generalize dE=d at *; grobner)
theorem wG {x1 y1 x2 y2:K} (h1:On x1 y1) (h2:On x2 y2):1+dE*x1*x2*y1*y2≠0:=fun h=>
 Tg (e:= -1) (by grobner) h1 h2 (by generalize dE=d at *; grobner)
theorem pK {x1 y1 x2 y2:K} (h1:On x1 y1) (h2:On x2 y2):1 - dE*x1*x2*y1*y2≠0:=fun h=>
 Tg (e:=1) (by grobner) h1 h2 (by generalize dE=d at *; grobner)
theorem closure (d x1 y1 x2 y2:K) (h1:x1*x1+y1*y1=1+d*x1*x1*y1*y1) (h2:x2*x2+y2*y2=1+d*x2*x2*y2*y2):
  (x1*y2+y1*x2)*(x1*y2+y1*x2)*((1-d*x1*x2*y1*y2)*(1-d*x1*x2*y1*y2))+(y1*y2-x1*x2)*(y1*y2-x1*x2)*((1+d*x1*x2*y1*y2)*(1+d*x1*x2*y1*y2))
   =(1-d*x1*x2*y1*y2)*(1-d*x1*x2*y1*y2)*((1+d*x1*x2*y1*y2)*(1+d*x1*x2*y1*y2))+d*((x1*y2+y1*x2)*(x1*y2+y1*x2))*((y1*y2-x1*x2)*(y1*y2-x1*x2)):=by grobner
theorem YR (d x1 y1 x2 y2 x3 y3:K) (h1:x1*x1+y1*y1=1+d*x1*x1*y1*y1) (h2:x2*x2+y2*y2=1+d*x2*x2*y2*y2) (h3:x3*x3+y3*y3=1+d*x3*x3*y3*y3):
  ((x1*y2+y1*x2)*y3*(1-d*x1*x2*y1*y2)+(y1*y2-x1*x2)*x3*(1+d*x1*x2*y1*y2))*((1+d*x2*x3*y2*y3)*(1-d*x2*x3*y2*y3)+d*x1*(x2*y3+y2*x3)*y1*(y2*y3-x2*x3))=(x1*(y2*y3-x2*x3)*(1+d*x2*x3*y2*y3)+y1*(x2*y3+y2*x3)*(1-d*x2*x3*y2*y3))*((1+d*x1*x2*y1*y2)*(1-d*x1*x2*y1*y2)+d*(x1*y2+y1*x2)*x3*(y1*y2-x1*x2)*y3):=by grobner
theorem YS (d x1 y1 x2 y2 x3 y3:K) (h1:x1*x1+y1*y1=1+d*x1*x1*y1*y1) (h2:x2*x2+y2*y2=1+d*x2*x2*y2*y2) (h3:x3*x3+y3*y3=1+d*x3*x3*y3*y3):
  ((y1*y2-x1*x2)*y3*(1+d*x1*x2*y1*y2) - (x1*y2+y1*x2)*x3*(1-d*x1*x2*y1*y2))*((1+d*x2*x3*y2*y3)*(1-d*x2*x3*y2*y3) - d*x1*(x2*y3+y2*x3)*y1*(y2*y3-x2*x3))=(y1*(y2*y3-x2*x3)*(1+d*x2*x3*y2*y3) - x1*(x2*y3+y2*x3)*(1-d*x2*x3*y2*y3))*((1+d*x1*x2*y1*y2)*(1-d*x1*x2*y1*y2) - d*(x1*y2+y1*x2)*x3*(y1*y2-x1*x2)*y3):=by grobner
structure Pt where
 x:K
 y:K
 on:On x y
theorem Pt.ext' {a b:Pt} (hx:a.x=b.x) (hy:a.y=b.y):a=b:=by cases a;cases b;simp_all
theorem YT {x1 y1 x2 y2:K} (h1:On x1 y1) (h2:On x2 y2):
  On ((x1*y2+y1*x2)*wY (1+dE*x1*x2*y1*y2)) ((y1*y2 - x1*x2)*wY (1 - dE*x1*x2*y1*y2)):=by
 have hp:=me (wG h1 h2)
 have hm:=me (pK h1 h2)
 have hc:=closure dE x1 y1 x2 y2 h1 h2
 unfold On
 generalize wY (1+dE*x1*x2*y1*y2)=i at*
 generalize wY (1 - dE*x1*x2*y1*y2)=j at*
 generalize (1+dE*x1*x2*y1*y2)=p at*
 generalize (1 - dE*x1*x2*y1*y2)=m at*
 generalize x1*y2+y1*x2=n at*
 generalize y1*y2 - x1*x2=q at*
 generalize dE=d at*
 have e1:n*i*(n*i)=n*n*(m*m)*(i*i*(j*j)):=by grobner
 have e2:q*j*(q*j)=q*q*(p*p)*(i*i*(j*j)):=by grobner
 have e3:(1:K)=m*m*(p*p)*(i*i*(j*j)):=by grobner
 grobner
def Pt.add (a b:Pt):Pt:=⟨_,_,YT a.on b.on⟩
def Pt.zero:Pt:=⟨0,1,by unfold On;generalize dE=d;grobner⟩
def Pt.neg (a:Pt):Pt:=⟨-a.x,a.y,by have h:=a.on;unfold On at *; generalize dE=d at *; grobner⟩
theorem Pt.Ib (a b:Pt):(1+dE*a.x*b.x*a.y*b.y)*(a.add b).x=a.x*b.y+a.y*b.x:=by
 have hp:=me (wG a.on b.on)
 show _*((a.x*b.y+a.y*b.x)*wY (1+dE*a.x*b.x*a.y*b.y))=_
 generalize wY (1+dE*a.x*b.x*a.y*b.y)=i at*
 generalize (1+dE*a.x*b.x*a.y*b.y)=p at*
 grobner
theorem Pt.wH (a b:Pt):(1 - dE*a.x*b.x*a.y*b.y)*(a.add b).y=a.y*b.y - a.x*b.x:=by
 have hp:=me (pK a.on b.on)
 show _*((a.y*b.y - a.x*b.x)*wY (1 - dE*a.x*b.x*a.y*b.y))=_
 generalize wY (1 - dE*a.x*b.x*a.y*b.y)=i at*
 generalize (1 - dE*a.x*b.x*a.y*b.y)=p at*
 grobner
theorem Pt.Ic {a b c:Pt} (hx:(1+dE*a.x*b.x*a.y*b.y)*c.x=a.x*b.y+a.y*b.x) (hy:(1 - dE*a.x*b.x*a.y*b.y)*c.y=a.y*b.y - a.x*b.x):a.add b=c:=
 Pt.ext' (D2 (wG a.on b.on) ((Pt.Ib a b).trans hx.symm)) (D2 (pK a.on b.on) ((Pt.wH a b).trans hy.symm))
theorem Pt.comm (a b:Pt):a.add b=b.add a:=by
 have h1:=Pt.Ib b a
 have h2:=Pt.wH b a
 refine Pt.Ic ?_ ?_
 ·generalize (b.add a).x=z at *; generalize dE=d at *; grobner
 ·generalize (b.add a).y=z at *; generalize dE=d at *; grobner
theorem Pt.add_zero (a:Pt):a.add Pt.zero=a:=by
 refine Pt.Ic ?_ ?_<;>simp only[Pt.zero]<;>generalize dE=d at* <;>grobner
theorem Pt.zero_add (a:Pt):Pt.zero.add a=a:=(Pt.comm _ _).trans (Pt.add_zero a)
theorem Pt.add_neg (a:Pt):a.add a.neg=Pt.zero:=by
 have h:=a.on
 unfold On at h
 refine Pt.Ic ?_ ?_<;>simp only[Pt.zero,Pt.neg]<;>generalize dE=d at* <;>grobner
theorem Nn {p m p' m':K} (h1:p≠0) (h2:m≠0) (h3:p'≠0) (h4:m'≠0) {u v:K} (h:p*m*p'*m'*u=p*m*p'*m'*v):u=v:=
 D2 (iC (iC (iC h1 h2) h3) h4) h
theorem asx {p m p' m' X Y X' Y' x1 y1 x3 y3 d r:K} (h1:p≠0) (h2:m≠0) (h3:p'≠0) (h4:m'≠0)
  (t:(p*X*y3*m+m*Y*x3*p)*(p'*m'+d*x1*(p'*X')*y1*(m'*Y'))=(x1*(m'*Y')*p'+y1*(p'*X')*m')*(p*m+d*(p*X)*x3*(m*Y)*y3))
  (u:(1+d*x1*X'*y1*Y')*r=x1*Y'+y1*X'):(1+d*x1*X'*y1*Y')*((1+d*X*x3*Y*y3)*r)=(1+d*x1*X'*y1*Y')*(X*y3+Y*x3):=by
 have k:=Nn h1 h2 h3 h4 (u:=(X*y3+Y*x3)*(1+d*x1*X'*y1*Y')) (v:=(x1*Y'+y1*X')*(1+d*X*x3*Y*y3)) (by clear u;grobner)
 clear t
 rw[← u]at k
 clear u
 generalize 1+d*x1*X'*y1*Y'=a at*
 grobner
theorem asy {p m p' m' X Y X' Y' x1 y1 x3 y3 d r:K} (h1:p≠0) (h2:m≠0) (h3:p'≠0) (h4:m'≠0)
  (t:(m*Y*y3*p - p*X*x3*m)*(p'*m' - d*x1*(p'*X')*y1*(m'*Y'))=(y1*(m'*Y')*p' - x1*(p'*X')*m')*(p*m - d*(p*X)*x3*(m*Y)*y3))
  (u:(1 - d*x1*X'*y1*Y')*r=y1*Y' - x1*X'):(1 - d*x1*X'*y1*Y')*((1 - d*X*x3*Y*y3)*r)=(1 - d*x1*X'*y1*Y')*(Y*y3 - X*x3):=by
 have k:=Nn h1 h2 h3 h4 (u:=(Y*y3 - X*x3)*(1 - d*x1*X'*y1*Y')) (v:=(y1*Y' - x1*X')*(1 - d*X*x3*Y*y3)) (by clear u;grobner)
 clear t
 rw[← u]at k
 clear u
 generalize 1 - d*x1*X'*y1*Y'=a at*
 grobner
theorem Pt.assoc (a b c:Pt):(a.add b).add c=a.add (b.add c):=by
 have t1:=YR dE a.x a.y b.x b.y c.x c.y a.on b.on c.on
 have t2:=YS dE a.x a.y b.x b.y c.x c.y a.on b.on c.on
 rw[← Pt.Ib a b, ← Pt.wH a b, ← Pt.Ib b c, ← Pt.wH b c]at t1 t2
 exact Pt.Ic (D2 (wG a.on (b.add c).on) (asx (wG a.on b.on) (pK a.on b.on) (wG b.on c.on) (pK b.on c.on) t1 (Pt.Ib a (b.add c))))
  (D2 (pK a.on (b.add c).on) (asy (wG a.on b.on) (pK a.on b.on) (wG b.on c.on) (pK b.on c.on) t2 (Pt.wH a (b.add c))))
end Go.bA.Ag
