/-
  Multiples of a point; the ladder reckons them by one coordinate. Nothing here speaks of a program.
-/
import Derived.Test.YtbipdofobgabhaaGreatDoorVcgAg3
set_option linter.unusedSimpArgs false
namespace Go.bA.Ag
set_option linter.unusedVariables false
set_option maxRecDepth 100000
set_option maxHeartbeats 8000000
def Pt.mul:Nat→Pt→Pt
 | 0,_=>Pt.zero
 | n+1,a=>(Pt.mul n a).add a
theorem Pt.mul_add (a:Pt) (m:Nat): ∀ n,Pt.mul (m+n) a=(Pt.mul m a).add (Pt.mul n a)
 | 0=>(Pt.add_zero _).symm
 | n+1=>by rw[← Nat.add_assoc,Pt.mul,Pt.mul_add a m n,Pt.assoc, ← Pt.mul]
theorem Pt.xq (a:Pt) (n:Nat): ∀ m,Pt.mul (m*n) a=Pt.mul m (Pt.mul n a)
 | 0=>by rw[Nat.zero_mul];rfl
 | m+1=>by rw[Nat.succ_mul,Pt.mul_add,Pt.xq a n m, ← Pt.mul]
theorem Pt.Ph (a:Pt) (m n:Nat):Pt.mul m (Pt.mul n a)=Pt.mul n (Pt.mul m a):=by rw[← Pt.xq, ← Pt.xq,Nat.mul_comm]
theorem Pt.mul_zero: ∀ n,Pt.mul n Pt.zero=Pt.zero
 | 0=>rfl
 | n+1=>by rw[Pt.mul,Pt.mul_zero n,Pt.add_zero]
theorem Pt.mul_one (a:Pt):Pt.mul 1 a=a:=Pt.zero_add a
def Rp (X Z:K) (a:Pt):Prop:= ∃ c,c≠0∧X=c*(1+a.y)∧Z=c*(1 - a.y)
theorem Np {X Z:K} {a:Pt} (h:X*(1 - a.y)=Z*(1+a.y)) (hn:X=0→Z=0→False):Rp X Z a:=by
 have h2:=me vl
 refine ⟨wY 2*(X+Z),fun h0=> ?_, ?_, ?_⟩
 ·have hs:X+Z=0:=by
   generalize wY 2=i at*
   grobner
  have:2*X=0:=by grobner
  have hx:=(mB this).resolve_left vl
  exact hn hx (by grobner)
 ·generalize wY 2=i at *; grobner
 ·generalize wY 2=i at *; grobner
theorem Ie {a:Pt}:a.x*a.x+a.y*a.y=1+dE*a.x*a.x*a.y*a.y:=a.on
theorem abm {c:K} (h:c≠0):16*(c*c*(c*c))≠0:=iC (by decide) (iC (iC h h) (iC h h))
theorem Ti {X Z:K} {a:Pt} (h:Rp X Z a):Rp ((X+Z)*(X+Z)*((X - Z)*(X - Z))) (((X+Z)*(X+Z) - (X - Z)*(X - Z))*((X+Z)*(X+Z)+121665*((X+Z)*(X+Z) - (X - Z)*(X - Z)))) (a.add a):=by
 obtain ⟨c,hc,rfl,rfl⟩:=h
 have hy:=Pt.wH a a
 have hd:=pK a.on a.on
 have ho:=Ie (a:=a)
 have hE:=abl
 have hc4:=abm hc
 refine Np ?_ (fun h1 h2=> ?_)
 ·refine D2 hd ?_
  generalize (a.add a).y=y' at*
  generalize a.x=x at*
  generalize a.y=y at*
  generalize dE=d at*
  clear hd hc hc4
  have e1:(1 - d*x*x*y*y)*(1 - y')=2 - 2*(y*y):=by grobner
  have e2:(1 - d*x*x*y*y)*(1+y')=2 - 2*(x*x):=by grobner
  have e3:(1+121665*(1 - y*y))*(1 - x*x)=y*y:=by grobner
  have l:(c*(1+y)+c*(1 - y))*(c*(1+y)+c*(1 - y))*((c*(1+y) - c*(1 - y))*(c*(1+y) - c*(1 - y)))=16*(c*c*(c*c))*(y*y):=by clear hy ho hE e1 e2 e3;grobner
  have r:((c*(1+y)+c*(1 - y))*(c*(1+y)+c*(1 - y)) - (c*(1+y) - c*(1 - y))*(c*(1+y) - c*(1 - y)))*((c*(1+y)+c*(1 - y))*(c*(1+y)+c*(1 - y))+121665*((c*(1+y)+c*(1 - y))*(c*(1+y)+c*(1 - y)) - (c*(1+y) - c*(1 - y))*(c*(1+y) - c*(1 - y))))=
    16*(c*c*(c*c))*((1 - y*y)*(1+121665*(1 - y*y))):=by clear hy ho hE e1 e2 e3;grobner
  rw[l,r]
  clear l r hy ho hE
  generalize 16*(c*c*(c*c))=q at*
  generalize 1 - d*x*x*y*y=m at*
  generalize 1+121665*(1 - y*y)=t at*
  grobner
 ·clear hy hd
  have l:(c*(1+a.y)+c*(1 - a.y))*(c*(1+a.y)+c*(1 - a.y))*((c*(1+a.y) - c*(1 - a.y))*(c*(1+a.y) - c*(1 - a.y)))=16*(c*c*(c*c))*(a.y*a.y):=by clear ho hE h1 h2;grobner
  have r:((c*(1+a.y)+c*(1 - a.y))*(c*(1+a.y)+c*(1 - a.y)) - (c*(1+a.y) - c*(1 - a.y))*(c*(1+a.y) - c*(1 - a.y)))*((c*(1+a.y)+c*(1 - a.y))*(c*(1+a.y)+c*(1 - a.y))+121665*((c*(1+a.y)+c*(1 - a.y))*(c*(1+a.y)+c*(1 - a.y)) - (c*(1+a.y) - c*(1 - a.y))*(c*(1+a.y) - c*(1 - a.y))))=
    16*(c*c*(c*c))*((1 - a.y*a.y)*(1+121665*(1 - a.y*a.y))):=by clear ho hE h1 h2;grobner
  rw[l]at h1
  rw[r]at h2
  have y0:=(mB h1).resolve_left hc4
  have z0:=(mB h2).resolve_left hc4
  rw[y0]at z0
  exact absurd z0 (by decide)
theorem VG (d x2 y2 x3 y3:K) (h1:x2*x2+y2*y2=1+d*x2*x2*y2*y2) (h2:x3*x3+y3*y3=1+d*x3*x3*y3*y3):
  ((1 - d*x2*x3*y2*y3)+(y2*y3 - x2*x3))*((1+d*x2*x3*y2*y3)+(y2*y3+x2*x3))*((y3 - y2)*(y3 - y2))=((1 - d*x2*x3*y2*y3) - (y2*y3 - x2*x3))*((1+d*x2*x3*y2*y3) - (y2*y3+x2*x3))*((y3+y2)*(y3+y2)):=by grobner
theorem Tj {X Z X' Z' u:K} {a b:Pt} (h:Rp X Z a) (h':Rp X' Z' b) (hu:u*(1 - (b.add a.neg).y)=1+(b.add a.neg).y) (TV:u≠0):
  Rp (((X' - Z')*(X+Z)+(X'+Z')*(X - Z))*((X' - Z')*(X+Z)+(X'+Z')*(X - Z))) (u*(((X' - Z')*(X+Z) - (X'+Z')*(X - Z))*((X' - Z')*(X+Z) - (X'+Z')*(X - Z)))) (a.add b):=by
 obtain ⟨c,hc,rfl,rfl⟩:=h
 obtain ⟨c',mY,rfl,rfl⟩:=h'
 have hy:=Pt.wH a b
 have hp:(1 - dE*b.x* -a.x*b.y*a.y)*(b.add a.neg).y=b.y*a.y - b.x* -a.x:=Pt.wH b a.neg
 have hd:=pK a.on b.on
 have he:1 - dE*b.x* -a.x*b.y*a.y≠0:=pK b.on a.neg.on
 have o1:=Ie (a:=a)
 have o2:=Ie (a:=b)
 have hs:=VG dE a.x a.y b.x b.y a.on b.on
 have hcc:16*(c*c*(c'*c'))≠0:=iC (by decide) (iC (iC hc hc) (iC mY mY))
 have hw:1 - (b.add a.neg).y≠0:=fun h0=>by
  rw[h0]at hu
  have:(2:K)=0:=by generalize (b.add a.neg).y=w at *; grobner
  exact vl this
 have ed:1 - dE*b.x* -a.x*b.y*a.y=1+dE*a.x*b.x*a.y*b.y:=by generalize dE=d;grobner
 rw[ed]at hp he
 have l:((c'*(1+b.y) - c'*(1 - b.y))*(c*(1+a.y)+c*(1 - a.y))+(c'*(1+b.y)+c'*(1 - b.y))*(c*(1+a.y) - c*(1 - a.y)))*((c'*(1+b.y) - c'*(1 - b.y))*(c*(1+a.y)+c*(1 - a.y))+(c'*(1+b.y)+c'*(1 - b.y))*(c*(1+a.y) - c*(1 - a.y)))=
   16*(c*c*(c'*c'))*((b.y+a.y)*(b.y+a.y)):=by clear hy hp hd he o1 o2 hs hw hu;grobner
 have r:u*(((c'*(1+b.y) - c'*(1 - b.y))*(c*(1+a.y)+c*(1 - a.y)) - (c'*(1+b.y)+c'*(1 - b.y))*(c*(1+a.y) - c*(1 - a.y)))*((c'*(1+b.y) - c'*(1 - b.y))*(c*(1+a.y)+c*(1 - a.y)) - (c'*(1+b.y)+c'*(1 - b.y))*(c*(1+a.y) - c*(1 - a.y))))=
   16*(c*c*(c'*c'))*(u*((b.y - a.y)*(b.y - a.y))):=by clear hy hp hd he o1 o2 hs hw hu l;grobner
 rw[l,r]
 clear l r
 refine Np ?_ (fun h1 h2=> ?_)
 ·refine D2 hw (D2 hd (D2 he ?_))
  have e1:(1 - dE*a.x*b.x*a.y*b.y)*(1+(a.add b).y)=(1 - dE*a.x*b.x*a.y*b.y)+(a.y*b.y - a.x*b.x):=by rw[← hy];generalize 1 - dE*a.x*b.x*a.y*b.y=m;grobner
  have e2:(1 - dE*a.x*b.x*a.y*b.y)*(1 - (a.add b).y)=(1 - dE*a.x*b.x*a.y*b.y) - (a.y*b.y - a.x*b.x):=by rw[← hy];generalize 1 - dE*a.x*b.x*a.y*b.y=m;grobner
  have e3:(1+dE*a.x*b.x*a.y*b.y)*(1+(b.add a.neg).y)=(1+dE*a.x*b.x*a.y*b.y)+(a.y*b.y+a.x*b.x):=by
   have:a.y*b.y+a.x*b.x=b.y*a.y - b.x* -a.x:=by grobner
   rw[this, ← hp];generalize 1+dE*a.x*b.x*a.y*b.y=m;generalize (b.add a.neg).y=w;grobner
  have e4:(1+dE*a.x*b.x*a.y*b.y)*(1 - (b.add a.neg).y)=(1+dE*a.x*b.x*a.y*b.y) - (a.y*b.y+a.x*b.x):=by
   have:a.y*b.y+a.x*b.x=b.y*a.y - b.x* -a.x:=by grobner
   rw[this, ← hp];generalize 1+dE*a.x*b.x*a.y*b.y=m;generalize (b.add a.neg).y=w;grobner
  rw[← e1, ← e2, ← e3, ← e4]at hs
  clear e1 e2 e3 e4 hy hp hd he o1 o2 hw
  generalize (b.add a.neg).y=w at*
  generalize (a.add b).y=z at*
  generalize 1+dE*a.x*b.x*a.y*b.y=m at*
  generalize 1 - dE*a.x*b.x*a.y*b.y=m' at*
  generalize 16*(c*c*(c'*c'))=q at*
  generalize (b.y+a.y)*(b.y+a.y)=s at*
  generalize (b.y - a.y)*(b.y - a.y)=t at*
  rw[← hu]at hs
  clear hu
  grobner
 ·have s0:=(mB h1).resolve_left hcc
  have t0:=(mB ((mB h2).resolve_left hcc)).resolve_left TV
  have s1:b.y+a.y=0:=(mB s0).elim id id
  have t1:b.y - a.y=0:=(mB t0).elim id id
  have b0:2*b.y=0:=by grobner
  have b1:=(mB b0).resolve_left vl
  have a1:a.y=0:=by grobner
  generalize (b.add a.neg).y=w at*
  rw[a1]at o1 hp
  rw[b1]at o2 hp
  have x1:a.x*a.x=1:=by generalize dE=d at *; grobner
  have x2:b.x*b.x=1:=by generalize dE=d at *; grobner
  have w1:w=b.x*a.x:=by
   generalize dE=d at *; grobner
  rw[w1]at hu hw
  have w2:(b.x*a.x - 1)*(b.x*a.x+1)=0:=by grobner
  rcases mB w2 with h3 | h3
  ·exact hw (by grobner)
  ·have:2*u=0:=by grobner
   exact TV ((mB this).resolve_left vl)
structure K4 where
 x2:K
 z2:K
 x3:K
 z3:K
def K4.swap (b:Bool) (r:K4):K4:=if b then ⟨r.x3,r.z3,r.x2,r.z2⟩ else r
def K4.Tk (r:K4) (u:K):K4:=
 ⟨(r.x2+r.z2)*(r.x2+r.z2)*((r.x2 - r.z2)*(r.x2 - r.z2)),
  ((r.x2+r.z2)*(r.x2+r.z2) - (r.x2 - r.z2)*(r.x2 - r.z2))*((r.x2+r.z2)*(r.x2+r.z2)+121665*((r.x2+r.z2)*(r.x2+r.z2) - (r.x2 - r.z2)*(r.x2 - r.z2))),
  ((r.x3 - r.z3)*(r.x2+r.z2)+(r.x3+r.z3)*(r.x2 - r.z2))*((r.x3 - r.z3)*(r.x2+r.z2)+(r.x3+r.z3)*(r.x2 - r.z2)),
  u*(((r.x3 - r.z3)*(r.x2+r.z2) - (r.x3+r.z3)*(r.x2 - r.z2))*((r.x3 - r.z3)*(r.x2+r.z2) - (r.x3+r.z3)*(r.x2 - r.z2)))⟩
def pL (b:Nat→Bool) (u:K):Nat→K4
 | 0=>⟨1,0,u,1⟩
 | k+1=>(((pL b u k).swap (b k)).Tk u).swap (b k)
def num (b:Nat→Bool):Nat→Nat
 | 0=>0
 | k+1=>2*num b k+(if b k then 1 else 0)
theorem Pt.VH (a p:Pt):(a.add p).add a.neg=p:=by rw[Pt.comm a p,Pt.assoc,Pt.add_neg,Pt.add_zero]
theorem Pt.Tl (a p:Pt):a.add (a.add p).neg=p.neg:=by
 have h:((a.add p).neg).add (a.add p)=Pt.zero:=(Pt.comm _ _).trans (Pt.add_neg _)
 have:(a.add (a.add p).neg).add p=Pt.zero:=by rw[Pt.comm a,Pt.assoc,h]
 calc a.add (a.add p).neg=(a.add (a.add p).neg).add (p.add p.neg):=by rw[Pt.add_neg,Pt.add_zero]
  _=((a.add (a.add p).neg).add p).add p.neg:=(Pt.assoc _ _ _).symm
  _=p.neg:=by rw[this,Pt.zero_add]
theorem KN (b:Nat→Bool) {u:K} {p:Pt} (hu:u*(1 - p.y)=1+p.y) (TV:u≠0): ∀ k,Rp (pL b u k).x2 (pL b u k).z2 (Pt.mul (num b k) p)∧Rp (pL b u k).x3 (pL b u k).z3 (Pt.mul (num b k+1) p)
 | 0=>by
  refine ⟨Np (by simp only[pL,num,Pt.mul,Pt.zero];grobner) (fun h _=>absurd (show (1:K)=0 from h) (by decide)), ?_⟩
  rw[show num b 0+1=1 from rfl,Pt.mul_one]
  exact Np (by simp only[pL];generalize p.y=y at *; grobner) (fun _ h=>absurd (show (1:K)=0 from h) (by decide))
 | k+1=>by
  obtain ⟨h1,h2⟩:=KN b hu TV k
  have e2:Pt.mul (num b k+1) p=(Pt.mul (num b k) p).add p:=rfl
  cases hb:b k with
  | false=>
   simp only[pL,num,hb,K4.swap,if_neg (show ¬ (false=true) by decide),Nat.add_zero]
   rw[show 2*num b k=num b k+num b k by omega,Nat.add_assoc,Pt.mul_add _ _ (num b k),Pt.mul_add _ _ (num b k+1)]
   refine ⟨Ti h1,Tj h1 h2 ?_ TV⟩
   rw[e2,Pt.VH];exact hu
  | true=>
   simp only[pL,num,hb,K4.swap,if_true]
   rw[show 2*num b k+1=(num b k+1)+num b k by omega,show (num b k+1)+num b k+1=(num b k+1)+(num b k+1) by omega,Pt.mul_add _ _ (num b k),Pt.mul_add _ _ (num b k+1)]
   refine ⟨Tj h2 h1 ?_ TV,Ti h2⟩
   rw[e2,Pt.Tl];exact hu
end Go.bA.Ag
