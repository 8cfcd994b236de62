/-
  The order of the base point; both orders of two ladders come to one coordinate, and it is not nothing. Nothing here speaks of a program.
-/
import Derived.Test.YtbipdofobgabhaaGreatDoorVcgAg4
set_option linter.unusedSimpArgs false
set_option linter.unusedVariables false
set_option maxRecDepth 100000
set_option maxHeartbeats 8000000
namespace Go.bA.Ag

theorem Tm: ∀ n,oM 0 (n+1)=0
 | 0=>by decide
 | n+1=>by show oM 0 (n+1)*0=0;grobner
theorem abn:wY 0=0:=Tm 57896044618658097711785492504343953926634992332820282019728792003956564819946
theorem Ig (x y:K): ∀ n,oM (x*y) n=oM x n*oM y n
 | 0=>by simp only[oM];grobner
 | n+1=>by simp only[oM];rw[Ig x y n];grobner
theorem Tn (x y:K):wY (x*y)=wY x*wY y:=Ig x y _
def uK (a:Pt):K:=(1+a.y)*wY (1 - a.y)
theorem out_eq {X Z:K} {a:Pt} (h:Rp X Z a):X*wY Z=uK a:=by
 obtain ⟨c,hc,rfl,rfl⟩:=h
 have:=me hc
 unfold uK
 rw[Tn]
 generalize wY c=i at*
 generalize wY (1 - a.y)=j at*
 grobner
def P0:Pt:=⟨9771384041963202563870679428059935816164187996444183106833894008023910952347,46316835694926478169428394003475163141307993866256225615783033603165251855960,by unfold On;decide+kernel⟩
theorem Tp:(9:K)*(1 - P0.y)=1+P0.y:=by decide+kernel
theorem Nq:(9:K)≠0:=by decide
theorem W6 {a:Pt} (h:a.y=1):a=Pt.zero:=by
 have ho:=Ie (a:=a)
 rw[h]at ho
 have h1:(1 - dE)*(a.x*a.x)=0:=by generalize dE=d at *; grobner
 have h2:=(mB h1).resolve_left (by decide+kernel)
 exact Pt.ext' ((mB h2).elim id id) h
theorem abo:P0≠Pt.zero:=fun h=>absurd (congrArg Pt.y h) (by decide+kernel)
def bL (k:Nat):Bool:=LN / 2^(252 - k)%2==1
theorem abp:num bL 253=LN:=by decide+kernel
theorem abq:(pL bL 9 253).z2=0:=by decide+kernel
theorem order:Pt.mul LN P0=Pt.zero:=by
 obtain ⟨⟨c,hc,_,h⟩,_⟩:=KN bL Tp Nq 253
 rw[abq,abp]at h
 refine W6 ?_
 have:=(mB h.symm).resolve_left hc
 generalize (Pt.mul LN P0).y=y at*
 grobner
theorem YU {n:Nat} (h: ¬ LN ∣ n):Pt.mul n P0≠Pt.zero:=fun e=>
 abo (by
  have:=zone (Z:=fun n=>Pt.mul n P0=Pt.zero) (fun a b ha hb=>by rw[Pt.mul_add,ha,Pt.zero_add]at hb;exact hb) abk order e h
  rwa [Pt.mul_one]at this)
theorem abr {n:Nat} (h: ¬ LN ∣ 2*n):1 - (Pt.mul n P0).y≠0∧1+(Pt.mul n P0).y≠0:=by
 have h2:=YU h
 rw[show 2*n=n+n by omega,Pt.mul_add]at h2
 generalize Pt.mul n P0=a at*
 refine ⟨fun e=> ?_,fun e=> ?_⟩
 ·have:a=Pt.zero:=W6 (by generalize a.y=y at *; grobner)
  rw[this,Pt.add_zero]at h2
  exact h2 rfl
 ·refine h2 (Pt.Ic ?_ ?_)
  all_goals
   have ho:=Ie (a:=a)
   have hy:a.y= -1:=by generalize a.y=y at *; grobner
   rw[hy]at ho
   have h1:(1 - dE)*(a.x*a.x)=0:=by generalize dE=d at *; grobner
   have hx2:=(mB h1).resolve_left (by decide+kernel)
   have hx:a.x=0:=(mB hx2).elim id id
   simp only[Pt.zero]
   rw[hx,hy]
   generalize dE=d at*
   grobner
structure wI (b:Nat→Bool):Prop where
 top:b 0=true
 l0:b 252=false
 l1:b 253=false
 l2:b 254=false
theorem Tq (b:Nat→Bool) (h:b 0=true): ∀ k,2^k≤num b (k+1)∧num b (k+1) < 2^(k+1)
 | 0=>by simp[num,h]
 | k+1=>by
  have ih:=Tq b h k
  have e1:2^(k+1)=2*2^k:=by rw[Nat.pow_succ];omega
  have e2:2^(k+1+1)=2*2^(k+1):=by rw[Nat.pow_succ];omega
  rw[show num b (k+1+1)=2*num b (k+1)+(if b (k+1) then 1 else 0) from rfl]
  split<;>omega
theorem Pj {b:Nat→Bool} (h:wI b): ∃ m,num b 255=8*m∧0 < m∧m < LN:=by
 have hb:=Tq b h.top 251
 refine ⟨num b 252, ?_, ?_, ?_⟩
 ·rw[show num b 255=2*num b 254+(if b 254 then 1 else 0) from rfl,show num b 254=2*num b 253+(if b 253 then 1 else 0) from rfl,show num b 253=2*num b 252+(if b 252 then 1 else 0) from rfl,h.l0,h.l1,h.l2]
  simp only[Bool.false_eq_true,if_false]
  omega
 ·exact Nat.lt_of_lt_of_le (by decide+kernel) hb.1
 ·exact Nat.lt_of_lt_of_le hb.2 (by decide+kernel)
theorem adJ {n:Nat} (h0:0 < n) (h:n < LN): ¬ LN ∣ n:=fun hd=>absurd (Nat.le_of_dvd h0 hd) (Nat.not_le.2 h)
theorem zA {a b:Nat} (ha: ¬ LN ∣ a) (hb: ¬ LN ∣ b): ¬ LN ∣ a*b:=fun h=>(abk.mul h).elim ha hb
theorem zB {b:Nat→Bool} (h:wI b): ¬ LN ∣ num b 255:=by
 obtain ⟨m,hm,h0,h1⟩:=Pj h
 rw[hm]
 exact zA (by decide+kernel) (adJ h0 h1)
def cv (b:Nat→Bool) (u:K):K:=(pL b u 255).x2*wY (pL b u 255).z2
theorem W7 (b:Nat→Bool) {u:K} {p:Pt} (hu:u*(1 - p.y)=1+p.y) (TV:u≠0):cv b u=uK (Pt.mul (num b 255) p):=out_eq (KN b hu TV 255).1
theorem W8 {a:Pt} (h1:1 - a.y≠0) (h2:1+a.y≠0):uK a*(1 - a.y)=1+a.y∧uK a≠0:=by
 have hi:=me h1
 unfold uK
 refine ⟨by generalize wY (1 - a.y)=i at *; grobner,iC h2 fun h0=> ?_⟩
 rw[h0]at hi
 exact absurd (show (0:K)=1 by grobner) (by decide)
theorem Tr {n:Nat} (h: ¬ LN ∣ n): ¬ LN ∣ 2*n:=zA (by decide+kernel) h
theorem cv2 {b c:Nat→Bool} (hb:wI b) (hc:wI c):cv b (cv c 9)=uK (Pt.mul (num b 255) (Pt.mul (num c 255) P0)):=by
 obtain ⟨h1,h2⟩:=abr (Tr (zB hc))
 obtain ⟨h3,h4⟩:=W8 h1 h2
 rw[W7 c Tp Nq]
 exact W7 b h3 h4
theorem agree {b c:Nat→Bool} (hb:wI b) (hc:wI c):cv b (cv c 9)=cv c (cv b 9)∧cv b (cv c 9)≠0:=by
 refine ⟨by rw[cv2 hb hc,cv2 hc hb,Pt.Ph], ?_⟩
 rw[cv2 hb hc, ← Pt.xq]
 obtain ⟨h1,h2⟩:=abr (Tr (zA (zB hb) (zB hc)))
 exact (W8 h1 h2).2
end Go.bA.Ag
