/-
  Prime numbers: Fermat's little theorem, and primality by certificates. Nothing here speaks of a program.
-/
import Derived.Test.YtbipdofobgabhaaGreatDoorVcgQ0
set_option linter.unusedSimpArgs false
namespace Go.bA.Ag
set_option linter.unusedVariables false
def mD (n:Nat):Prop:=2≤n∧ ∀ d,d ∣ n→d=1∨d=n
theorem mD.cop {p a:Nat} (h:mD p) (ha: ¬ p ∣ a):p.Coprime a:=by
 rcases h.2 _ (Nat.gcd_dvd_left p a) with e | e
 ·exact e
 ·exact absurd (e▸Nat.gcd_dvd_right p a) ha
theorem mD.mul {p a b:Nat} (h:mD p) (hd:p ∣ a*b):p ∣ a∨p ∣ b:=by
 by_cases ha:p ∣ a
 ·exact .inl ha
 ·exact .inr ((h.cop ha).dvd_of_dvd_mul_left hd)
theorem abg {Z:Nat→Prop} (hz: ∀ a b,Z a→Z (a+b)→Z b) {a:Nat} (ha:Z a): ∀ n r,Z (a*n+r)→Z r
 | 0,r,h=>by simpa using h
 | n+1,r,h=>abg hz ha n r (hz a _ ha (by rw[show a+(a*n+r)=a*(n+1)+r by rw[Nat.mul_add];omega];exact h))
theorem adC {Z:Nat→Prop} (hz: ∀ a b,Z a→Z (a+b)→Z b) (a b:Nat):Z a→Z b→Z (Nat.gcd a b):=by
 induction a,b using Nat.gcd.induction with
 | H0 n=>intro _ h;simpa using h
 | H1 m n hm ih=>
  intro h1 h2
  rw[Nat.gcd_rec]
  exact ih (abg hz h1 (n / m) (n%m) (by rw[Nat.div_add_mod];exact h2)) h1
theorem zone {Z:Nat→Prop} (hz: ∀ a b,Z a→Z (a+b)→Z b) {p k:Nat} (hp:mD p) (h1:Z p) (h2:Z k) (hk: ¬ p ∣ k):Z 1:=by
 have:=adC hz p k h1 h2
 rwa [hp.cop hk]at this
def oL:Nat→Nat→Nat
 | _,0=>1
 | 0,_+1=>0
 | n+1,k+1=>oL n k+oL n (k+1)
theorem xp: ∀ n k,(k+1)*oL (n+1) (k+1)=(n+1)*oL n k
 | 0,0=>by simp[oL]
 | 0,k+1=>by simp[oL]
 | n+1,0=>by
  have h:=xp n 0
  simp only[oL,Nat.zero_add,Nat.one_mul,Nat.mul_one]at h ⊢
  omega
 | n+1,k+1=>by
  have h1:=xp n k
  have h2:=xp n (k+1)
  rw[show oL (n+2) (k+2)=oL (n+1) (k+1)+oL (n+1) (k+2) from rfl,Nat.mul_add,h2,show oL (n+1) (k+1)=oL n k+oL n (k+1) from rfl]at*
  generalize oL n k=x at*
  generalize oL n (k+1)=y at*
  have e1:(k+1+1)*(x+y)=(k+1)*(x+y)+(x+y):=by rw[Nat.add_mul,Nat.one_mul]
  have e2:(n+1+1)*(x+y)=(n+1)*(x+y)+(x+y):=by rw[Nat.add_mul (n+1),Nat.one_mul]
  rw[e1,e2,h1,Nat.mul_add];omega
theorem DZ: ∀ n k,n < k→oL n k=0
 | 0,k+1,_=>rfl
 | n+1,k+1,h=>by simp only[oL];rw[DZ n k (by omega),DZ n (k+1) (by omega)]
def bs (n x:Nat):Nat→Nat
 | 0=>0
 | m+1=>bs n x m+oL n m*x^m
theorem Nj (n x:Nat): ∀ m,bs (n+1) x (m+1)=bs n x (m+1)+x*bs n x m
 | 0=>by simp[bs,oL]
 | m+1=>by
  have h:=Nj n x m
  rw[show bs (n+1) x (m+1+1)=bs (n+1) x (m+1)+oL (n+1) (m+1)*x^(m+1) from rfl,h,
   show bs n x (m+1+1)=bs n x (m+1)+oL n (m+1)*x^(m+1) from rfl,
   show x*bs n x (m+1)=x*bs n x m+x*(oL n m*x^m) by rw[show bs n x (m+1)=bs n x m+oL n m*x^m from rfl,Nat.mul_add],
   show oL (n+1) (m+1)=oL n m+oL n (m+1) from rfl,Nat.add_mul,show x*(oL n m*x^m)=oL n m*x^(m+1) by rw[Nat.pow_succ,Nat.mul_left_comm,Nat.mul_comm x]]
  omega
theorem Td (x:Nat): ∀ n,bs n x (n+1)=(x+1)^n
 | 0=>by simp[bs,oL]
 | n+1=>by
  rw[Nj,show bs n x (n+1+1)=bs n x (n+1)+oL n (n+1)*x^(n+1) from rfl,DZ n (n+1) (by omega),Td x n,Nat.zero_mul,Nat.add_zero,Nat.pow_succ (n:=x+1),Nat.mul_add,Nat.mul_one,Nat.mul_comm x]
  omega
theorem VF {p:Nat} (hp:mD p) {k:Nat} (h0:0 < k) (hk:k < p):p ∣ oL p k:=by
 obtain ⟨n,rfl⟩: ∃ n,p=n+1:=⟨p - 1,by have:=hp.1;omega⟩
 obtain ⟨j,rfl⟩: ∃ j,k=j+1:=⟨k - 1,by omega⟩
 have h:=xp n j
 rcases hp.mul (a:=j+1) (b:=oL (n+1) (j+1)) (h▸Nat.dvd_mul_right _ _) with h1 | h1
 ·exact absurd (Nat.le_of_dvd (by omega) h1) (by omega)
 ·exact h1
theorem Te {p:Nat} (hp:mD p) (x:Nat): ∀ m,m < p→bs p x (m+1)%p=1
 | 0,_=>by
  have:=hp.1
  simp only[bs,oL,Nat.pow_zero,Nat.mul_one,Nat.zero_add]
  exact Nat.mod_eq_of_lt (by omega)
 | m+1,h=>by
  have ih:=Te hp x m (by omega)
  rw[show bs p x (m+1+1)=bs p x (m+1)+oL p (m+1)*x^(m+1) from rfl,Nat.add_mod,ih,Nat.mod_eq_zero_of_dvd (Nat.dvd_trans (VF hp (by omega) h) (Nat.dvd_mul_right _ _))]
  have:=hp.1
  exact Nat.mod_eq_of_lt (by omega)
theorem Tf {p:Nat} (hp:mD p): ∀ x,x^p%p=x%p
 | 0=>by have:=hp.1;rw[Nat.zero_pow (by omega)]
 | x+1=>by
  have h2:=hp.1
  obtain ⟨n,hn⟩: ∃ n,p=n+1:=⟨p - 1,by omega⟩
  rw[← Td x p,show bs p x (p+1)=bs p x p+oL p p*x^p from rfl]
  have hc: ∀ n,oL n n=1:=fun n=>by
   induction n with
   | zero=>rfl
   | succ n ih=>simp only[oL,ih,DZ n (n+1) (by omega),Nat.add_zero]
  have hb:=Te hp x n (by omega)
  rw[← hn]at hb
  rw[hc p,Nat.one_mul,Nat.add_mod,hb,Tf hp x, ← Nat.add_mod_mod,Nat.mod_mod,Nat.add_mod_mod,Nat.add_comm]
theorem Nk {p x:Nat} (hp:mD p) (hx: ¬ p ∣ x):x^(p - 1)%p=1:=by
 have h2:=hp.1
 have hx0:0 < x:=Nat.pos_of_ne_zero fun e=>hx (e▸Nat.dvd_zero p)
 have h:=Tf hp x
 have adD:x^p=x*x^(p - 1):=by
  rw[← Nat.pow_succ'];congr 1;omega
 have hpos:0 < x^(p - 1):=Nat.pow_pos hx0
 have hd:p ∣ x*(x^(p - 1) - 1):=by
  rw[Nat.mul_sub,Nat.mul_one, ← adD]
  exact Nat.dvd_of_mod_eq_zero (Nat.sub_mod_eq_zero_of_mod_eq h)
 rcases hp.mul hd with h1 | h1
 ·exact absurd h1 hx
 ·have e:x^(p - 1)=(x^(p - 1) - 1)+1:=by omega
  rw[e,Nat.add_mod,Nat.mod_eq_zero_of_dvd h1,Nat.zero_add,Nat.mod_mod]
  exact Nat.mod_eq_of_lt (by omega)
def pm (fuel a e n:Nat):Nat:=match fuel with
 | 0=>1%n
 | f+1=>if e=0 then 1%n else
  let h:=pm f a (e / 2) n
  if e%2=0 then h*h%n else h*h%n*a%n
theorem pm_eq (a n:Nat): ∀ fuel e,e < 2^fuel→pm fuel a e n=a^e%n
 | 0,e,h=>by
  have:e=0:=by simpa using h
  subst this;rfl
 | f+1,e,h=>by
  simp only[pm]
  split
  ·rename_i e0;subst e0;rfl
  ·have ih:=pm_eq a n f (e / 2) (by rw[Nat.pow_succ]at h;omega)
   rw[ih]
   split
   ·rename_i _ h2
    have e2:e=e / 2+e / 2:=by omega
    conv=>rhs;rw[e2,Nat.pow_add]
    rw[← Nat.mul_mod]
   ·have e2:e=e / 2+e / 2+1:=by omega
    conv=>rhs;rw[e2,Nat.pow_succ,Nat.pow_add]
    rw[← Nat.mul_mod,Nat.mod_mul_mod]
theorem D0: ∀ (k N:Nat),2≤N→(∀ d,2≤d→d < k→ ¬ d ∣ N)→k≤N→ ∃ r,mD r∧r ∣ N∧(r=N∨r*r≤N):=by
 intro k N hN hk hkN
 obtain ⟨m,hm⟩: ∃ m,m=N - k:=⟨_,rfl⟩
 induction m generalizing k with
 | zero=>
  have e:k=N:=by omega
  subst e
  refine ⟨k,⟨hN,fun d hd=> ?_⟩,Nat.dvd_refl _, .inl rfl⟩
  have hle:=Nat.le_of_dvd (by omega) hd
  by_cases h1:d=1
  ·exact .inl h1
  ·have h0:d≠0:=fun e=>by subst e;have:=Nat.eq_zero_of_zero_dvd hd;omega
   exact .inr (by
    rcases Nat.lt_or_ge d k with h | h
    ·exact absurd hd (hk d (by omega) h)
    ·omega)
 | succ m ih=>
  by_cases h2:k < 2
  ·exact ih (k+1) (fun d h3 h4=>by omega) (by omega) (by omega)
  ·by_cases hd:k ∣ N
   ·refine ⟨k,⟨by omega,fun d hdk=> ?_⟩,hd, ?_⟩
    ·have hle:=Nat.le_of_dvd (by omega) hdk
     by_cases h1:d=1
     ·exact .inl h1
     ·have h0:d≠0:=fun e=>by subst e;have:=Nat.eq_zero_of_zero_dvd hdk;omega
      exact .inr (by
       rcases Nat.lt_or_ge d k with h | h
       ·exact absurd (Nat.dvd_trans hdk hd) (hk d (by omega) h)
       ·omega)
    ·obtain ⟨c,hc⟩:=hd
     have hc0:c≠0:=fun e=>by subst e;omega
     by_cases WO:c=1
     ·left;subst WO;omega
     ·right
      have:k≤c:=by
       rcases Nat.lt_or_ge c k with h | h
       ·exact absurd ⟨k,by rw[Nat.mul_comm];exact hc⟩ (hk c (by omega) h)
       ·exact h
      rw[hc];exact Nat.mul_le_mul_left _ this
   ·refine ih (k+1) (fun d h3 h4=> ?_) (by omega) (by omega)
    rcases Nat.lt_or_ge d k with h | h
    ·exact hk d h3 h
    ·have:d=k:=by omega
     subst this;exact hd
theorem KL {N:Nat} (hN:2≤N) (h: ∀ r,mD r→r ∣ N→N < r*r):mD N:=by
 obtain ⟨r,hr,hd,h1 | h1⟩:=D0 0 N hN (fun d h1 h2=>by omega) (by omega)
 ·exact h1▸hr
 ·exact absurd (h r hr hd) (by omega)
theorem iO (N B:Nat) (hN:2≤N) (hB:N < B*B) (h:(List.range B).all (fun d=>decide (d < 2)||N%d != 0)=true):mD N:=KL hN fun r hr hd=>by
 rcases Nat.lt_or_ge r B with hlt | hge
 ·have:=List.all_eq_true.1 h r (List.mem_range.2 hlt)
  simp only[Bool.or_eq_true,decide_eq_true_eq,bne_iff_ne]at this
  rcases this with h1 | h1
  ·have:=hr.1;omega
  ·exact absurd (Nat.mod_eq_zero_of_dvd hd) h1
 ·exact Nat.lt_of_lt_of_le hB (Nat.mul_le_mul hge hge)
def wit (fuel N q a:Nat):Bool:=decide (N - 1 < 2^fuel)&&(pm fuel a (N - 1) N==1)&&decide ((N - 1) / q*q=N - 1)&&(Nat.gcd (pm fuel a ((N - 1) / q) N - 1) N==1)
theorem zy {fuel N q a:Nat} (hN:2≤N) (hq:mD q) (h:wit fuel N q a=true) {r:Nat} (hr:mD r) (hrN:r ∣ N):q ∣ r - 1:=by
 simp only[wit,Bool.and_eq_true,decide_eq_true_eq,beq_iff_eq]at h
 obtain ⟨⟨⟨h1,h2⟩,h3⟩,h4⟩:=h
 rw[pm_eq _ _ _ _ h1]at h2
 rw[pm_eq _ _ _ _ (Nat.lt_of_le_of_lt (Nat.div_le_self _ _) h1)]at h4
 have Wk:=hr.1
 have red: ∀ x,x%N=1→x%r=1:=fun x hx=>by
  rw[← Nat.mod_mod_of_dvd x hrN,hx];exact Nat.mod_eq_of_lt (by omega)
 generalize hb:a^((N - 1) / q)=b at h4
 have hbq:b^q%r=1:=by
  rw[← hb, ← Nat.pow_mul,h3];exact red _ h2
 have hnb: ¬ r ∣ b:=fun hd=>by
  have:b^q%r=0:=Nat.mod_eq_zero_of_dvd (Nat.dvd_trans hd ⟨b^(q - 1),by rw[← Nat.pow_succ'];congr 1;have:=hq.1;omega⟩)
  omega
 refine Classical.byContradiction fun hnq=> ?_
 have hz:=zone (Z:=fun n=>b^n%r=1) (fun x y hx hy=>by
  simp only[Nat.pow_add,Nat.mul_mod,hx,Nat.one_mul,Nat.mod_mod]at hy
  simpa[Nat.one_mul,Nat.mod_mod] using hy) hq hbq (Nk hr hnb) hnq
 simp only[Nat.pow_one]at hz
 have hpos:0 < b%N:=Nat.pos_of_ne_zero fun e=>hnb (Nat.dvd_trans hrN (Nat.dvd_of_mod_eq_zero e))
 have hd:r ∣ b%N - 1:=by
  have:b%N%r=1:=by rw[Nat.mod_mod_of_dvd _ hrN];exact hz
  exact ⟨b%N / r,by have:=Nat.div_add_mod (b%N) r;omega⟩
 have:=Nat.dvd_gcd hd hrN
 rw[h4]at this
 have:=Nat.le_of_dvd (by omega) this
 omega
theorem mb {N q:Nat} (fuel a:Nat) (hN:2≤N) (hq:mD q) (hs:N≤q*q) (h:wit fuel N q a=true):mD N:=KL hN fun r hr hd=>by
 have Wk:=hr.1
 have h1:=Nat.le_of_dvd (by omega) (zy hN hq h hr hd)
 exact Nat.lt_of_le_of_lt hs (Nat.mul_lt_mul_of_lt_of_lt (show q < r by omega) (show q < r by omega))
theorem qh {N q q':Nat} (fuel a a':Nat) (hN:2≤N) (hq:mD q) (Yz:mD q') (hne:q≠q') (hs:N≤q*q'*(q*q')) (h:wit fuel N q a=true) (h':wit fuel N q' a'=true):mD N:=KL hN fun r hr hd=>by
 have Wk:=hr.1
 have hnd: ¬ q ∣ q':=fun hx=>by
  rcases Yz.2 _ hx with e | e
  ·have:=hq.1;omega
  ·exact hne e
 have h1:=Nat.le_of_dvd (by omega) ((hq.cop hnd).mul_dvd_of_dvd_of_dvd (zy hN hq h hr hd) (zy hN Yz h' hr hd))
 exact Nat.lt_of_le_of_lt hs (Nat.mul_lt_mul_of_lt_of_lt (show q*q' < r by omega) (show q*q' < r by omega))
end Go.bA.Ag
