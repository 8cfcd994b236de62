/-
  Finding a record, in the document.
-/
import Derived.Test.YtaeagfdnfjenlaaGreatDoorVcgWM
import Derived.Test.YtaeagfdnfjenlaaGreatDoorVcgK4
import Derived.Test.YtaeagfdnfjenlaaGreatDoorVcgDk
import Derived.Test.YtaeagfdnfjenlaaGreatDoorVcgPz
import Derived.Test.YtaeagfdnfjenlaaGreatDoorVcgWj
import Derived.Test.YtaeagfdnfjenlaaGreatDoorVcgFv
import Derived.Test.YtaeagfdnfjenlaaGreatDoorVcgWi
import Derived.Test.YtaeagfdnfjenlaaGreatDoorVcgJ
import Derived.Test.YtaeagfdnfjenlaaGreatDoorVcgJF
import Derived.Test.YtaeagfdnfjenlaaGreatDoorVcgJM
import Derived.Test.YtaeagfdnfjenlaaGreatDoorVcgFacts
set_option maxHeartbeats 2000000
set_option maxRecDepth 20000
set_option linter.unusedSimpArgs false
set_option linter.unusedVariables false
set_option linter.unusedSectionVars false
namespace Go.Proofs.YtaeagfdnfjenlaaGreatDoor
open Go.cn
variable [aX]
theorem Oo {o n c:Nat} {f:Nat→Int} {cs:List SV} (hs:aY cs o n f) (hp:cs.all SV.plain=true) (hn:n≤1048576):
  bd Tryz.prog 65 [Sl 0 o n c] 1 (lk [(0,⟨false,cs⟩)]) (fun v out=>v=B (pN n f zF)∧out=fun _=>none):=by
 refine aG Tryz.func65 rfl (by kernel_rfl) (by simp[Tryz.ntmps65]) Tryz.tL (by simp[AV.ok,CV.ok,SV.names]) fF (fG hp) ?_
 have d1:(decide ((n:Int) < 0))=false:=decide_eq_false (by omega)
 simp only[Tryz.results65,vR,seval]
 refine ⟨by omega, ?_⟩
 refine (BA (o:=o) (o':=0) (c:=c) (c':=n) (f:=f) (g:=zF) hs (dL (n:=n) (f:=zF)) hp az (by omega)).cG (two 0 5) (jq (rw:=false) (rw':=true) ?_ hp ?_ az) rfl rfl ?_
 ·simp only[ae,vR,seval]
 ·simp only[ae,vR,seval];rfl
 ·rw[Ol]
  simp only[vR,seval]
  exact aJ rfl ⟨rfl,rfl⟩
def dJ (b:Bool) (q:Int) (pv:SV):AV:=Ag [Sum.inl (.bool b),Sum.inl (.int .u64 q),pv]
def mY (h:Nat→Int) (n:Nat):Bool:=decide (64≤n)&&(!decide (bB h=0)&&(!(h 0 != 74)&&(!(h 63 != 199)&&(!decide (n < 64*aO (aN h))&&pN (64*aO (aN h)) (gw (bB h) (aN h) (fun i=>h (64+i))) h))))
def LK (k:Nat) (h:Nat→Int) (n:Nat) (v:AV) (out:Nat→Option aI):Prop:=
 (mY h n=false∧v=dJ false 0 (.inl (.slice none 0 0))∧out=fun _=>none)∨
 (mY h n=true∧ ∃ c cs,aY cs 0 (aN h) (fun i=>h (64+i))∧aN h≤c∧cs.all SV.plain=true∧v=dJ true (bB h) (.inr (.inr (k,0,aN h,c)))∧out=lk [(k,⟨true,cs⟩)])
theorem Z1 {h:Nat→Int} (hh:eJ h):IntKind.u64.wrap (lK .u64 (IntKind.u64.wrap (Gd h 1)) 32+IntKind.u64.wrap (Gd h 5))=bB h:=by
 have b: ∀ i,0≤Gd h i∧Gd h i < 4294967296:=fun i=>by
  have h1:=hh i
  have h2:=hh (i+1)
  have h3:=hh (i+2)
  have h4:=hh (i+3)
  unfold Gd
  omega
 have b1:=b 1
 have b5:=b 5
 have e1:IntKind.u64.wrap (Gd h 1)=Gd h 1:=bT _ b1.1 (by omega)
 have e5:IntKind.u64.wrap (Gd h 5)=Gd h 5:=bT _ b5.1 (by omega)
 have s:lK .u64 (Gd h 1) 32=Gd h 1*4294967296:=by
  have:=lQ .u64 (Gd h 1) 32 (by decide)
  rw[show (32:Int)=((32:Nat):Int) from rfl,this]
  exact bT _ (by simp;omega) (by simp;omega)
 rw[e1,e5,s,bT _ (by omega) (by omega)]
 simp only[Gd,bB,p9,Nat.reduceAdd]
 omega
theorem Z2 {h:Nat→Int} (hh:eJ h):Gd h 9=((aN h:Nat):Int):=by
 have b:=iV (f:=fun i=>h (9+i)) (fun i=>hh _) 4
 have e:Cw h=Gd h 9:=by
  simp only[Gd,Cw,p9,Nat.reduceAdd]
  omega
 have:0≤Cw h:=b.1
 unfold aN
 rw[Int.toNat_of_nonneg this,e]
theorem yF {h:Nat→Int} (hh:eJ h):aN h < 4294967296:=by
 have b:=iV (f:=fun i=>h (9+i)) (fun i=>hh _) 4
 have e:(256:Int)^4=4294967296:=by decide
 rw[e]at b
 have:Cw h < 4294967296:=b.2
 unfold aN
 omega
theorem Jw {h:Nat→Int} (hh:eJ h):0≤bB h∧bB h < 18446744073709551616:=by
 have b:=iV (f:=fun i=>h (1+i)) (fun i=>hh _) 8
 have e:(256:Int)^8=18446744073709551616:=by decide
 rw[e]at b
 exact b
theorem S5 {a b c x:SV}:splice [a,b,c] 0 [x]=[x,b,c]:=rfl
theorem LL {a b c x:SV}:splice [a,b,c] 1 [x]=[a,x,c]:=rfl
theorem S6 {a b c x:SV}:splice [a,b,c] 2 [x]=[a,b,x]:=rfl
theorem S7 {a b c x y z:SV}:splice [a,b,c] 0 [x,y,z]=[x,y,z]:=rfl
theorem aM:type_of% @S5∧type_of% @LL∧type_of% @S6∧type_of% @S7:=
 ⟨@S5, @LL, @S6, @S7⟩
theorem fE:zeroOf Tryz.prog 101=some [.bool false, .int .u64 0, .slice none 0 0]:=by kernel_rfl
theorem S8 {s:AS} {k q n c:Nat} {x:Int} {b:Bool} {cs:List SV} {Post:AV→(Nat→Option aI)→Prop} (hq:k≤q) (hb:s.box q=some ⟨true,cs⟩) (hp:cs.all SV.plain=true) (h:Post (dJ b x (.inr (.inr (k,0,n,c)))) (lk [(k,⟨true,cs⟩)])):
  m8 k Post (dJ b x (.inr (.inr (q,0,n,c)))) s:=by
 refine dV (q:=q) (v0:=dJ b x (.inr (.inr (k,0,n,c)))) hq ?_ (fun x hx=> ?_) (fun x hx=> ?_) h
 ·simp only[dJ,AV.ren,CV.ren,List.map_cons,List.map_nil,SV.ren,fj,kt]
 ·simp only[bQ]at hx
  rcases hx with rfl | rfl | rfl
  ·exact ⟨trivial,rfl⟩
  ·exact ⟨trivial,rfl⟩
  ·exact ⟨Nat.lt_succ_self k,rfl⟩
 ·rw[List.mem_singleton]at hx
  subst hx
  exact ⟨Nat.lt_succ_self k,fun _=>rfl,ao hp,by rw[au hp,kt];exact hb⟩
section
variable {n o c:Nat} {h:Nat→Int} {cs:List SV}
theorem BD (hh:eJ h) (hs:aY cs o n h) (hc:n≤c) (hp:cs.all SV.plain=true) (hn:n≤1000000):
  bd Tryz.prog 63 [Sl 0 o n c] 1 (lk [(0,⟨false,cs⟩)]) (LK 1 h n):=by
 refine aG Tryz.func63 rfl (by kernel_rfl) (by simp[Tryz.ntmps63]) Tryz.tJ (by simp[AV.ok,CV.ok,SV.names]) fF (fG hp) ?_
 have no: ∀ {s:AS},mY h n=false→m8 1 (LK 1 h n) (dJ false 0 (.inl (.slice none 0 0))) s:=fun hb=>aJ rfl (Or.inl ⟨hb,rfl,rfl⟩)
 simp only[Tryz.results63,fE,vR,seval]
 by_cases d0:(n:Int) < 64
 ·simp only[decide_eq_true d0,fE,vR,seval]
  refine no ?_
  unfold mY
  rw[decide_eq_false (by omega)]
  rfl
 simp only[decide_eq_false d0,fE,vR,seval]
 refine uo (at':=1) hh rfl (rw:=false) (by simp only[ae,vR,seval]) hs hp (by omega) (by omega) ?_
 simp only[vR,seval]
 refine uo (at':=5) hh rfl (rw:=false) (by simp only[ae,vR,seval]) hs hp (by omega) (by omega) ?_
 simp only[Z1 hh,vR,seval]
 refine uo (at':=9) hh rfl (rw:=false) (by simp only[ae,vR,seval]) hs hp (by omega) (by omega) ?_
 have hl9:=Z2 hh
 have hL:=yF hh
 have wl:IntKind.i64.wrap ((aN h:Nat):Int)=((aN h:Nat):Int):=wrap_i64 _ (by omega) (by omega)
 have s0:cs[o]? =some (Sum.inl (.int .u8 (h 0))):=hs 0 (by omega)
 have s63:=hs 63 (by omega)
 have t0:((0:Int) < (n:Int))=True:=eq_true (by omega)
 have t63:((63:Int) < (n:Int))=True:=eq_true (by omega)
 simp only[hl9,wl,vR,seval]
 by_cases d1:(bB h==0)=true
 ·simp only[d1,fE,vR,seval]
  refine no ?_
  unfold mY
  rw[decide_eq_true (by simpa using d1:bB h=0)]
  simp
 have d1:(bB h==0)=false:=by simpa using d1
 have d1':decide (bB h=0)=false:=decide_eq_false (by simpa using d1)
 have uq:IntKind.i64.wrap (64*((aO (aN h):Nat):Int))=((64*aO (aN h):Nat):Int):=by
  have:aO (aN h)=1+(aN h+63) / 64:=rfl
  rw[wrap_i64 _ (by omega) (by omega)]
  omega
 by_cases d2:(h 0 != 74)=true
 ·simp only[d1,d2,t0,t63,s0,s63,aF,Nat.mul_one,Nat.add_zero,fE,vR,seval]
  refine no ?_
  unfold mY
  rw[d2]
  simp
 have d2:(h 0 != 74)=false:=by simpa using d2
 by_cases d3:(h 63 != 199)=true
 ·simp only[d1,d2,d3,t0,t63,s0,s63,aF,Nat.mul_one,Nat.add_zero,fE,vR,seval]
  refine no ?_
  unfold mY
  rw[d3]
  simp
 have d3:(h 63 != 199)=false:=by simpa using d3
 simp only[d1,d2,d3,t0,t63,s0,s63,aF,Nat.mul_one,Nat.add_zero,fE,vR,seval]
 refine (dX (show aN h < 9223372036854775000 by omega)).av ?_
 simp only[uq,vR,seval]
 by_cases d4:(n:Int) < ((64*aO (aN h):Nat):Int)
 ·simp only[decide_eq_true d4,fE,vR,seval]
  refine no ?_
  unfold mY
  rw[decide_eq_true (show n < 64*aO (aN h) by omega)]
  simp
 have w2:IntKind.i64.wrap (64+((aN h:Nat):Int))=((64+aN h:Nat):Int):=by
  rw[wrap_i64 _ (by omega) (by omega)]
  omega
 have w3:64+aN h - 64=aN h:=by omega
 have hNd:64*aO (aN h)=64+64*aT (aN h):=by
  have:aO (aN h)=1+aT (aN h):=rfl
  omega
 have hCt:aT (aN h)=(aN h+63) / 64:=rfl
 have hle:64+aN h≤n:=by omega
 have hsp:aY cs (if c=64 then o else o+64) (aN h) (fun i=>h (64+i)):=fun i hi=>by
  rw[if_neg (by omega),Nat.add_assoc]
  exact hs (64+i) (by omega)
 simp only[decide_eq_false d4,w2,w3,fE,vR,seval]
 refine ⟨⟨by omega,by omega⟩, ?_⟩
 refine dC (g:=fun i=>h (64+i)) Tryz.eK Tryz.fc (f:=fun _=>0) (cs:=ai .u8 0 fun _=>0) (n:=0) (by simp only[ae,vR,seval]) ⟨rfl,by decide,rfl,fun i hi=>by omega⟩ (.inr ⟨0,_,_,false,cs,rfl,by simp only[ae,vR,seval],hsp,by decide⟩) (by omega) fun c2 j7 fS=> ?_
 simp only[FL,Nat.zero_add]at fS
 simp only[Nat.zero_add,vR,seval]
 have hqb:=Jw hh
 refine ia (qN (n:=aN h) (q:=bB h) (pf:=fun i=>h (64+i)) (sv:= .inr (.inr (0,0,aN h,c2))) (.inr ⟨0,c2,rfl,fS.room,fS.shows⟩) fS.plain (fun i=>hh _) (by omega) hqb.1 hqb.2) (fun _=>45) (bZ (rw:=true) (by simp only[ae,vR,seval]) fS.plain) rfl fun c3 tail a1 a2 a3=> ?_
 simp only[uq,vR,seval]
 refine (dX (show aN h < 9223372036854775000 by omega)).av ?_
 simp only[uq,vR,seval]
 refine ⟨by omega, ?_⟩
 refine (BA (n:=64*aO (aN h)) (f:=gw (bB h) (aN h) (fun i=>h (64+i))) (g:=h) (o:=0) (o':=o) (c:=c3) (c':=c) (cs:=ai .u8 (64*aO (aN h)) (gw (bB h) (aN h) (fun i=>h (64+i)))++tail) (ds:=cs) dy (fun i hi=>hs i (by omega)) (bY a3) hp (by omega)).cG (two 49 0) (jq (rw:=true) (rw':=false) ?_ (bY a3) ?_ hp) rfl rfl ?_
 ·simp only[ae,vR,seval]
 ·simp only[ae,vR,seval]
 rw[Ol]
 have hf:mY h n=pN (64*aO (aN h)) (gw (bB h) (aN h) (fun i=>h (64+i))) h:=by
  unfold mY
  rw[decide_eq_true (show 64≤n by omega),d1',d2,d3,decide_eq_false (show ¬ n < 64*aO (aN h) by omega)]
  simp
 by_cases d5:pN (64*aO (aN h)) (gw (bB h) (aN h) (fun i=>h (64+i))) h=true
 ·simp only[d5,Bool.not_true,aM,fE,vR,seval]
  refine S8 (q:=45) (Post:=LK 1 h n) (by decide) ?_ fS.plain (Or.inr ⟨by rw[hf];exact d5,c2,j7,fS.shows,fS.room,fS.plain,rfl,rfl⟩)
  simp only[ae,vR,seval]
 ·have d5:pN (64*aO (aN h)) (gw (bB h) (aN h) (fun i=>h (64+i))) h=false:=by simpa using d5
  simp only[d5,Bool.not_false,aM,fE,vR,seval]
  exact no (by rw[hf];exact d5)
end
theorem Qc {a b:Nat} {f g:Nat→Int}:pN (a+b) f g=(pN a f g&&pN b (fun i=>f (a+i)) (fun i=>g (a+i))):=by
 rw[Bool.eq_iff_iff,Bool.and_eq_true,gI,gI,gI]
 constructor
 ·exact fun h=>⟨fun i hi=>h i (by omega),fun i hi=>h (a+i) (by omega)⟩
 ·rintro ⟨h1,h2⟩ i hi
  rcases Nat.lt_or_ge i a with h | h
  ·exact h1 i h
  ·have:=h2 (i - a) (by omega)
   rwa [show a+(i - a)=i by omega]at this
theorem Ep {n:Nat} {f f' g g':Nat→Int} (h: ∀ i,i < n→f i=f' i) (h': ∀ i,i < n→g i=g' i):pN n f g=pN n f' g':=by
 rw[Bool.eq_iff_iff,gI,gI]
 exact ⟨fun k i hi=>by rw[← h i hi, ← h' i hi];exact k i hi,fun k i hi=>by rw[h i hi,h' i hi];exact k i hi⟩
theorem S9 {f:Nat→Int} {a i:Nat}:dP f a i=aB f a (64+i):=by
 unfold dP aB
 rw[show (a+1)*64+i=a*64+(64+i) by omega]
theorem FM {f:Nat→Int} {a:Nat}:dP f a=fun i=>aB f a (64+i):=funext fun i=>S9
theorem form_eq {f:Nat→Int} {a:Nat}:pN (64*aO (aN (aB f a))) (gw (bB (aB f a)) (aN (aB f a)) (fun i=>aB f a (64+i))) (aB f a)=gP f a:=by
 have hN:64*aO (aN (aB f a))=64+64*aT (aN (aB f a)):=by
  have:aO (aN (aB f a))=1+aT (aN (aB f a)):=rfl
  omega
 rw[hN,Qc, ← FM]
 unfold gP
 refine congr (congrArg and (Ep (fun i hi=> ?_) (fun i hi=>rfl))) (Ep (fun i hi=> ?_) (fun i hi=>rfl))
 ·simp only[gw,bC,if_pos hi]
 ·simp only[gw,bC]
  rw[if_neg (by omega),show 64+i - 64=i by omega]
theorem vk {f:Nat→Int} {a e:Nat}:mY (aB f a) (64*(e - a))=okB f a e:=by
 unfold mY okB jd
 rw[form_eq]
 have hN:aO (aN (aB f a))=1+aT (aN (aB f a)):=rfl
 rw[Bool.eq_iff_iff]
 simp only[Bool.and_eq_true,decide_eq_true_eq,Bool.not_eq_true',decide_eq_false_iff_not,bne_eq_false_iff_eq]
 constructor
 ·rintro ⟨h1,h2,h3,h4,h5,h6⟩
  exact ⟨⟨h2,by omega⟩,h6⟩
 ·rintro ⟨⟨h1,h2⟩,h3⟩
  have h4:pN 64 (lC (bB (aB f a)) (aN (aB f a)) (dP f a)) (aB f a)=true:=by
   unfold gP at h3
   exact (Bool.and_eq_true _ _▸h3).1
  rw[gI]at h4
  exact ⟨by omega,h1,by rw[← h4 0 (by decide)];rfl,by rw[← h4 63 (by decide)];rfl,by omega,h3⟩
def CF (f:Nat→Int) (st:Nat):Nat→Int:=fun i=>f (st*64+i)
theorem rD {f:Nat→Int} {st p:Nat}:aB (CF f st) p=aB f (st+p):=by
 funext i
 unfold aB CF
 rw[show st*64+(p*64+i)=(st+p)*64+i by omega]
theorem FN {f:Nat→Int} {st p:Nat}:dP (CF f st) p=dP f (st+p):=by
 funext i
 unfold dP CF
 rw[show st*64+((p+1)*64+i)=(st+p+1)*64+i by omega]
theorem Ta {f:Nat→Int} {st p r:Nat}:okB (CF f st) p r=okB f (st+p) (st+r):=by
 unfold okB jd gP
 rw[rD,FN,show st+r - (st+p)=r - p by omega]
theorem vl {f:Nat→Int} {st p:Nat}:aE f (st+p)=st+aE (CF f st) p:=by
 unfold aE
 rw[rD]
 omega
theorem Z3 {f:Nat→Int} {st p r:Nat}:pO (CF f st) r p=pO f (st+r) (st+p):=by
 unfold pO
 rw[vl,Ta,rD,rD]
 congr 2
 exact decide_eq_decide.2 (by omega)
theorem Jx {f:Nat→Int} {st r:Nat}: ∀ (n p:Nat),walk f (st+r) n (st+p)=st+walk (CF f st) r n p
 | 0,p=>rfl
 | n+1,p=>by
  simp only[walk]
  rw[Z3]
  split
  ·rw[vl]
   exact Jx n _
  ·rfl
theorem Tb {f:Nat→Int} {st r p:Nat}:aC f (st+r) (st+p)=st+aC (CF f st) r p:=by
 unfold aC
 rw[show st+r - (st+p)=r - p by omega]
 exact Jx _ _
def yG (k:Nat) (g:Nat→Int) (r p:Nat) (sv:SV) (v:AV) (out:Nat→Option aI):Prop:=
 (aC g r p=p∧v=bE 0 (bB (aB g p)) 0 (aE g p) sv∧out=fun _=>none)∨
 (∃ c cs,aY cs 0 (aN (aB g (aC g r p))) (dP g (aC g r p))∧aN (aB g (aC g r p))≤c∧cs.all SV.plain=true∧v=bE 0 (bB (aB g (aC g r p))) 0 (aE g (aC g r p)) (.inr (.inr (k,0,aN (aB g (aC g r p)),c)))∧out=lk [(k,⟨true,cs⟩)])
theorem gV:zeroOf Tryz.prog 36=some [.int .i64 0, .int .u64 0, .int .i64 0, .int .i64 0, .slice none 0 0]:=by kernel_rfl
theorem Z4 {s:AS} {k:Nat} {v:AV} {Post:AV→(Nat→Option aI)→Prop} (hv:AV.ok (fun n=>n < k+1) v) (h:Post v (fun _=>none)):m8 k Post v s:=
 ⟨k,v,fun _=>none,Nat.le_refl k,by
  have:jY k k=fun n=>n:=by
   funext n
   unfold jY
   split
   ·rename_i e;exact e.symm
   ·rfl
  rw[this,AV.nL],hv,fun n b hb=>(by cases hb),h⟩
section
variable {o c r:Nat} {g:Nat→Int} {cs:List SV}
theorem Qd (hg:eJ g) (hs:aY cs o (64*r) g) (hc:64*r≤c) (hp:cs.all SV.plain=true) (hr:r≤8192): ∀ (n p:Nat) (sv:SV) (ps:List SV),r - p≤n→okB g p r=true→cS 1 sv (aN (aB g p)) (dP g p) ps→ps.all SV.plain=true→
  bd Tryz.prog 64 [Sl 0 o (64*r) c,I .i64 (aE g p),Ag [Sum.inl (.bool true),Sum.inl (.int .u64 (bB (aB g p))),sv]] 2 (lk [(0,⟨false,cs⟩),(1,⟨false,ps⟩)]) (yG 2 g r p sv):=by
 intro n
 induction n with
 | zero=>
  intro p sv ps hn hok
  have:=hU (f:=g) (p:=p)
  have:=po hok
  omega
 | succ n ih=>
  intro p sv ps hn hok hl hps
  have hlt:=hU (f:=g) (p:=p)
  have hle:=po hok
  have hfit: ∀ {M:Nat→Prop},M 1→SV.ok M sv:=fun h=>hl.ok h
  refine aG Tryz.func64 rfl (by kernel_rfl) (by simp[Tryz.ntmps64]) Tryz.o4 (fun v hv=>by
   simp only[bQ]at hv
   rcases hv with rfl | rfl | rfl
   ·exact (by decide:0 < 2)
   ·trivial
   ·intro x hx
    simp only[bQ]at hx
    rcases hx with rfl | rfl | rfl
    ·exact ⟨trivial,rfl⟩
    ·exact ⟨trivial,rfl⟩
    ·exact hl.ok (by decide)) pX (pY hp hps) ?_
  have hce:cellsOf (some (Sum.inl (Sum.inl sv)))=some [sv]:=by
   rcases hl with ⟨⟨a,rfl⟩,_⟩ | ⟨o,c,rfl,_⟩<;>rfl
  have uq:IntKind.i64.wrap (64*(aE g p:Int))=((64*aE g p:Nat):Int):=by
   rw[wrap_i64 _ (by omega) (by omega)]
   omega
  simp only[Tryz.results64,fE,gV,uq,aM,vR,seval]
  have fin: ∀ {s:AS},aC g r p=p→m8 2 (yG 2 g r p sv) (bE 0 (bB (aB g p)) 0 (aE g p) sv) s:=fun h=>Z4 (fun x hx=>by
   simp only[bQ]at hx
   rcases hx with rfl | rfl | rfl | rfl | rfl
   ·exact ⟨trivial,rfl⟩
   ·exact ⟨trivial,rfl⟩
   ·exact ⟨trivial,rfl⟩
   ·exact ⟨trivial,rfl⟩
   ·exact hl.ok (by decide)) (Or.inl ⟨h,rfl,rfl⟩)
  by_cases d0:aE g p < r
  case neg=>
   have ob:pO g r p=false:=by
    unfold pO
    rw[decide_eq_false d0]
    rfl
   refine bR (by rw[decide_eq_false (by omega)]) ?_
   simp only[fE,gV,hce,Bool.not_false,Bool.not_true,aM,aR,vR,seval]
   exact fin (gg ob)
  refine cz (by rw[decide_eq_true (by omega)]) ?_
  have w3:64*r - 64*aE g p=64*(r - aE g p):=by omega
  simp only[fE,gV,uq,w3,hce,Bool.not_false,Bool.not_true,aM,aR,vR,seval]
  refine ⟨⟨by omega,by omega⟩, ?_⟩
  have hsh:aY cs (if c=64*aE g p then o else o+64*aE g p) (64*(r - aE g p)) (aB g (aE g p)):=fun i hi=>by
   rw[if_neg (by omega),Nat.add_assoc]
   have:=hs (64*aE g p+i) (by omega)
   rw[this]
   unfold aB
   rw[show aE g p*64+i=64*aE g p+i by omega]
  refine (BD (h:=aB g (aE g p)) (fun i=>hg _) hsh (by omega) hp (by omega)).av (fun _=>0) none (bZ (rw:=false) (by simp only[ae,vR,seval]) hp) rfl ?_
  rintro v out (⟨hf,rfl,rfl⟩ | ⟨hf,c1,lr,g1,g2,g3,rfl,rfl⟩) _
  ·rw[vk]at hf
   have ob:pO g r p=false:=by
    unfold pO
    rw[hf,Bool.and_false,Bool.false_and]
   have e0: ∀ q,AV.ren q (dJ false 0 (.inl (.slice none 0 0)))=dJ false 0 (.inl (.slice none 0 0)):=fun q=>rfl
   rw[e0,dW]
   simp only[dJ,fE,gV,uq,w3,hce,Bool.not_false,Bool.not_true,aM,aR,vR,seval]
   exact fin (gg ob)
  ·rw[vk]at hf
   have e0: ∀ q:Nat→Nat,AV.ren (df q 1 16) (dJ true (bB (aB g (aE g p))) (.inr (.inr (1,0,aN (aB g (aE g p)),c1))))=dJ true (bB (aB g (aE g p))) (.inr (.inr (16,0,aN (aB g (aE g p)),c1))):=fun q=>rfl
   rw[e0,bX g3]
   simp only[dJ,fE,gV,uq,w3,hce,Bool.not_false,Bool.not_true,aM,aR,vR,seval]
   have hq:=Jw (h:=aB g (aE g p)) (fun i=>hg _)
   have hq0:bB (aB g (aE g p))≠0:=by
    intro h
    unfold okB jd at hf
    rw[decide_eq_true h]at hf
    cases hf
   have wq:IntKind.u64.wrap (bB (aB g (aE g p)) - 1)=bB (aB g (aE g p)) - 1:=bT _ (by omega) (by omega)
   rw[wq]
   by_cases d1:bB (aB g (aE g p))=bB (aB g p)+1
   case neg=>
    have ob:pO g r p=false:=by
     unfold pO
     rw[decide_eq_false d1,Bool.and_false]
    refine cz (by simp;omega) ?_
    simp only[dJ,fE,gV,uq,w3,hce,Bool.not_false,Bool.not_true,aM,aR,vR,seval]
    exact fin (gg ob)
   have ob:pO g r p=true:=by
    unfold pO
    rw[decide_eq_true d1,decide_eq_true d0,hf]
    rfl
   refine bR (by simp;omega) ?_
   simp only[dJ,fE,gV,uq,w3,hce,Bool.not_false,Bool.not_true,aM,aR,vR,seval]
   refine ⟨by kernel_rfl, ?_⟩
   refine pU.draw (dX (show aN (aB g (aE g p)) < 9223372036854775000 by have:=yF (h:=aB g (aE g p)) (fun i=>hg _);omega)) Tryz.oS ?_
   have ahB:=po hf
   have wn:IntKind.i64.wrap ((aE g p:Int)+((aO (aN (aB g (aE g p))):Nat):Int))=((aE g (aE g p):Nat):Int):=by
    have:aE g (aE g p)=aE g p+aO (aN (aB g (aE g p))):=rfl
    rw[wrap_i64 _ (by omega) (by omega)]
    omega
   simp only[wn,aM,aR,vR,seval]
   refine .inr (.inr (.inr ⟨by kernel_rfl, ?_⟩))
   simp only[wn,aM,aR,vR,seval]
   have g1':aY lr 0 (aN (aB g (aE g p))) (dP g (aE g p)):=by
    rw[FM]
    exact g1
   have hLL:=Bb ob
   refine (ih (aE g p) (.inr (.inr (1,0,aN (aB g (aE g p)),c1))) lr (by omega) hf (.inr ⟨0,c1,rfl,g2,g1'⟩) g3).av (two 0 16) none (jq (rw:=false) (rw':=true) ?_ hp ?_ g3) rfl ?_
   ·simp only[ae,vR,seval]
   ·simp only[ae,vR,seval]
   rintro v out (⟨hL,rfl,rfl⟩ | ⟨c2,j7,k1,k2,k3,rfl,rfl⟩) _
   ·rw[dW,show AV.ren (df (two 0 16) 2 41) (bE 0 (bB (aB g (aE g p))) 0 (aE g (aE g p)) (.inr (.inr (1,0,aN (aB g (aE g p)),c1))))=bE 0 (bB (aB g (aE g p))) 0 (aE g (aE g p)) (.inr (.inr (16,0,aN (aB g (aE g p)),c1))) from rfl]
    simp only[bE,gV,aM,aR,vR,seval]
    refine ig (q:=16) (Post:=yG 2 g r p sv) (by decide) ?_ g3 (Or.inr ⟨c1,lr, ?_⟩)
    ·simp only[ae,vR,seval]
    ·rw[hLL,hL]
     exact ⟨g1',g2,g3,rfl,rfl⟩
   ·rw[bX k3,show AV.ren (df (two 0 16) 2 41) (bE 0 (bB (aB g (aC g r (aE g p)))) 0 (aE g (aC g r (aE g p))) (.inr (.inr (2,0,aN (aB g (aC g r (aE g p))),c2))))=bE 0 (bB (aB g (aC g r (aE g p)))) 0 (aE g (aC g r (aE g p))) (.inr (.inr (41,0,aN (aB g (aC g r (aE g p))),c2))) from rfl]
    simp only[bE,gV,aM,aR,vR,seval]
    refine ig (q:=41) (Post:=yG 2 g r p sv) (by decide) ?_ k3 (Or.inr ⟨c2,j7, ?_⟩)
    ·simp only[ae,vR,seval]
    ·rw[hLL]
     exact ⟨k1,k2,k3,rfl,rfl⟩
def LM (k:Nat) (g:Nat→Int) (r:Nat) (v:AV) (out:Nat→Option aI):Prop:=
 ∃ c cs,aY cs 0 (aN (aB g (aC g r 0))) (dP g (aC g r 0))∧aN (aB g (aC g r 0))≤c∧cs.all SV.plain=true∧v=bE 0 (bB (aB g (aC g r 0))) 0 (aE g (aC g r 0)) (.inr (.inr (k,0,aN (aB g (aC g r 0)),c)))∧out=lk [(k,⟨true,cs⟩)]
theorem yH (hg:eJ g) (hs:aY cs o (64*r) g) (hc:64*r≤c) (hp:cs.all SV.plain=true) (hr:r≤8192) (hok:okB g 0 r=true):
  bd Tryz.prog 64 [Sl 0 o (64*r) c,I .i64 0,dJ false 0 (.inl (.slice none 0 0))] 1 (lk [(0,⟨false,cs⟩)]) (LM 1 g r):=by
 have hle:=po hok
 have hlt:=hU (f:=g) (p:=0)
 refine aG Tryz.func64 rfl (by kernel_rfl) (by simp[Tryz.ntmps64]) Tryz.o4 (fun v hv=>by
  simp only[bQ]at hv
  rcases hv with rfl | rfl | rfl
  ·exact (by decide:0 < 1)
  ·trivial
  ·exact ao rfl) fF (fG hp) ?_
 have w0:IntKind.i64.wrap 0=0:=rfl
 have BF:aB g 0=g:=by
  funext i
  unfold aB
  rw[Nat.zero_mul,Nat.zero_add]
 simp only[Tryz.results64,w0,dJ,fE,gV,aM,vR,seval]
 refine cz (by rw[decide_eq_true (by omega)]) ?_
 simp only[w0,Int.toNat_zero,Nat.sub_zero,Nat.add_zero,ite_self,dJ,fE,gV,Bool.not_false,Bool.not_true,aM,aR,vR,seval]
 refine ⟨by omega, ?_⟩
 refine (BD hg hs (by omega) hp (by omega)).av (fun _=>0) none (bZ (rw:=false) (by simp only[ae,vR,seval]) hp) rfl ?_
 have hfo:mY g (64*r)=true:=by
  have:=vk (f:=g) (a:=0) (e:=r)
  rw[BF,Nat.sub_zero]at this
  rw[this,hok]
 rintro v out (⟨hf,rfl,rfl⟩ | ⟨hf,c1,lr,g1,g2,g3,rfl,rfl⟩) _
 ·rw[hfo]at hf;cases hf
 have e0: ∀ q:Nat→Nat,AV.ren (df q 1 15) (dJ true (bB g) (.inr (.inr (1,0,aN g,c1))))=dJ true (bB g) (.inr (.inr (15,0,aN g,c1))):=fun q=>rfl
 rw[e0,bX g3]
 simp only[w0,Int.toNat_zero,Nat.sub_zero,Nat.add_zero,ite_self,dJ,fE,gV,Bool.not_false,Bool.not_true,aM,aR,vR,seval]
 refine ⟨by kernel_rfl, ?_⟩
 refine pU.draw (dX (show aN g < 9223372036854775000 by have:=yF hg;omega)) Tryz.oS ?_
 have hn0:aE g 0=aO (aN g):=by
  unfold aE
  rw[BF,Nat.zero_add]
 have wn:IntKind.i64.wrap (0+((aO (aN g):Nat):Int))=((aE g 0:Nat):Int):=by
  rw[hn0,wrap_i64 _ (by omega) (by omega)]
  omega
 simp only[wn,aM,aR,vR,seval]
 refine .inr (.inr (.inr ⟨by kernel_rfl, ?_⟩))
 simp only[wn,aM,aR,vR,seval]
 have g1':aY lr 0 (aN (aB g 0)) (dP g 0):=by
  rw[FM,BF]
  exact g1
 have jT:=Qd hg hs hc hp hr r 0 (.inr (.inr (1,0,aN (aB g 0),c1))) lr (by omega) hok (.inr ⟨0,c1,rfl,by rw[BF];exact g2,g1'⟩) g3
 rw[BF]at jT
 refine jT.av (two 0 15) none (jq (rw:=false) (rw':=true) ?_ hp ?_ g3) rfl ?_
 ·simp only[ae,vR,seval]
 ·simp only[ae,vR,seval]
 rintro v out (⟨hL,rfl,rfl⟩ | ⟨c2,j7,k1,k2,k3,rfl,rfl⟩) _
 ·rw[dW,show AV.ren (df (two 0 15) 2 40) (bE 0 (bB (aB g 0)) 0 (aE g 0) (.inr (.inr (1,0,aN g,c1))))=bE 0 (bB (aB g 0)) 0 (aE g 0) (.inr (.inr (15,0,aN g,c1))) from rfl]
  simp only[bE,gV,aM,aR,vR,seval]
  refine ig (q:=15) (Post:=LM 1 g r) (by decide) ?_ g3 ⟨c1,lr, ?_⟩
  ·simp only[ae,vR,seval]
  ·rw[hL]
   exact ⟨g1',by rw[BF];exact g2,g3,by rw[BF],rfl⟩
 ·rw[bX k3,show AV.ren (df (two 0 15) 2 40) (bE 0 (bB (aB g (aC g r 0))) 0 (aE g (aC g r 0)) (.inr (.inr (2,0,aN (aB g (aC g r 0)),c2))))=bE 0 (bB (aB g (aC g r 0))) 0 (aE g (aC g r 0)) (.inr (.inr (40,0,aN (aB g (aC g r 0)),c2))) from rfl]
  simp only[bE,gV,aM,aR,vR,seval]
  refine ig (q:=40) (Post:=LM 1 g r) (by decide) ?_ k3 ⟨c2,j7,k1,k2,k3,rfl,rfl⟩
  simp only[ae,vR,seval]
end
theorem di:type_of% @aH∧type_of% @bj∧type_of% @gV∧type_of% @aM∧type_of% @aR∧type_of% @dz∧type_of% @bI∧type_of% @aq∧type_of% @ay∧type_of% @bK∧type_of% @bm∧type_of% @vR:=⟨@aH, @bj, @gV, @aM, @aR, @dz, @bI, @aq, @ay, @bK, @bm, @vR⟩
theorem wHb:type_of% @aH∧type_of% @bj∧type_of% @dz∧type_of% @bI∧type_of% @aq∧type_of% @ay∧type_of% @bK∧type_of% @bm∧type_of% @vR:=⟨@aH, @bj, @dz, @bI, @aq, @ay, @bK, @bm, @vR⟩
def ur (k n:Nat) (f:Nat→Int) (v:AV) (out:Nat→Option aI):Prop:=
 ((gJ n=false∨gJ n=true∧dh f (n / 64 / 2)=none)∧v=bE 1 0 0 0 (.inl (.slice none 0 0))∧out=fun _=>none)∨
 (gJ n=true∧ ∃ st c cs,dh f (n / 64 / 2)=some st∧aY cs 0 (aN (aB f (aC f (st+n / 64 / 2) st))) (dP f (aC f (st+n / 64 / 2) st))∧aN (aB f (aC f (st+n / 64 / 2) st))≤c∧cs.all SV.plain=true∧
  v=bE 0 (bB (aB f (aC f (st+n / 64 / 2) st))) ((st / (n / 64 / 2):Nat):Int) ((aE f (aC f (st+n / 64 / 2) st) - st:Nat):Int) (.inr (.inr (k,0,aN (aB f (aC f (st+n / 64 / 2) st)),c)))∧out=lk [(k,⟨true,cs⟩)])
section
variable {n o c:Nat} {f:Nat→Int} {cs:List SV}
theorem Tc (hs:aY cs o n f) (hc:n≤c) (hp:cs.all SV.plain=true) (hn:n≤1048576) (hf:eJ f):
  bd Tryz.prog 32 [Sl 0 o n c] 1 (lk [(0,⟨false,cs⟩)]) (ur 1 n f):=by
 refine aG Tryz.func32 rfl (by kernel_rfl) (by simp[Tryz.ntmps32]) Tryz.oR (by simp[AV.ok,CV.ok,SV.names]) fF (fG hp) ?_
 simp only[Tryz.results32,gV,vR,seval]
 refine (jH (o:=o) (c:=c) hp (by omega)).cG (fun _=>0) (bZ (rw:=false) (by simp only[ae,vR,seval]) hp) rfl rfl ?_
 by_cases hb:gJ n=true
 case neg=>
  have hb:gJ n=false:=by simpa using hb
  have hr:nR n=0:=by unfold nR;rw[hb];rfl
  rw[hr]
  simp only[gV,aR,vR,seval]
  exact aJ rfl (show ur 1 n f _ _ from Or.inl ⟨Or.inl hb,rfl,rfl⟩)
 have Ge:128*(n / 64 / 2)=n∧8≤n / 64 / 2∧n / 64 / 2≤4096:=by
  unfold gJ at hb
  simp only[decide_eq_true_eq]at hb
  omega
 have hr:nR n=n / 64 / 2:=by
  unfold nR
  rw[if_pos hb]
  omega
 rw[hr]
 obtain ⟨r,rO⟩: ∃ r,r=n / 64 / 2:=⟨_,rfl⟩
 rw[← rO]at Ge ⊢
 have hr0:(((r:Nat):Int)==0)=false:=by simp;omega
 simp only[hr0,gV,aR,vR,seval]
 have uq:IntKind.i64.wrap (64*(r:Int))=((64*r:Nat):Int):=by
  rw[wrap_i64 _ (by omega) (by omega)]
  omega
 have w3:n - 64*r=64*r:=by omega
 have w5:(if c=64*r then o else o+64*r)=o+64*r:=if_neg (by omega)
 have BF:aB f 0=f:=by
  funext i
  unfold aB
  rw[Nat.zero_mul,Nat.zero_add]
 have Z5:aY cs o (64*r) f:=fun i hi=>hs i (by omega)
 have V7:aY cs (o+64*r) (64*r) (aB f r):=fun i hi=>by
  rw[Nat.add_assoc]
  have:=hs (64*r+i) (by omega)
  rw[this]
  unfold aB
  rw[show r*64+i=64*r+i by omega]
 have hf0:mY f (64*r)=okB f 0 r:=by
  have:=vk (f:=f) (a:=0) (e:=r)
  rw[BF,Nat.sub_zero]at this
  exact this
 have hf1:mY (aB f r) (64*r)=okB f r (2*r):=by
  have:=vk (f:=f) (a:=r) (e:=2*r)
  rw[show 2*r - r=r by omega]at this
  exact this
 have hL:aC f (r+r) r=r+aC (CF f r) r 0:=Tb (p:=0)
 have Cq:okB f r (2*r)=true→okB (aB f r) 0 r=true:=fun h=>by
  have:=Ta (f:=f) (st:=r) (p:=0) (r:=r)
  rw[Nat.add_zero,show r+r=2*r by omega,h]at this
  exact this
 have e2: ∀ (q:Nat→Nat) (N:Nat) (a b d e:Int) (l c:Nat),AV.ren (df q 1 N) (bE a b d e (.inr (.inr (1,0,l,c))))=bE a b d e (.inr (.inr (N,0,l,c))):=fun q N a b d e l c=>rfl
 simp only[uq,w3,w5,fE,gV,aM,aR,vR,seval]
 refine ⟨by omega, ?_⟩
 refine (BD hf Z5 (by omega) hp (by omega)).av (fun _=>0) none (bZ (rw:=false) (by simp only[ae,vR,seval]) hp) rfl ?_
 rintro v out (⟨k0,rfl,rfl⟩ | ⟨k0,c1,lr,g1,g2,g3,rfl,rfl⟩) _
 ·rw[hf0]at k0
  rw[show ∀ q,AV.ren q (dJ false 0 (.inl (.slice none 0 0)))=dJ false 0 (.inl (.slice none 0 0)) from fun q=>rfl,dW]
  simp only[uq,w3,w5,dJ,fE,gV,aM,aR,vR,seval]
  refine ⟨by omega, ?_⟩
  refine (BD (h:=aB f r) (fun i=>hf _) V7 (by omega) hp (by omega)).av (fun _=>0) none (bZ (rw:=false) (by simp only[ae,vR,seval]) hp) rfl ?_
  rintro v out (⟨k1,rfl,rfl⟩ | ⟨k1,c2,j7,a1,a2,a3,rfl,rfl⟩) _
  ·rw[hf1]at k1
   rw[show ∀ q,AV.ren q (dJ false 0 (.inl (.slice none 0 0)))=dJ false 0 (.inl (.slice none 0 0)) from fun q=>rfl,dW]
   simp only[uq,w3,w5,dJ,fE,gV,Bool.not_false,Bool.not_true,aM,aR,vR,seval]
   exact aJ rfl (show ur 1 n f _ _ from Or.inl ⟨Or.inr ⟨hb,by rw[← rO];unfold dh;rw[k0,k1];simp⟩,rfl,rfl⟩)
  ·rw[hf1]at k1
   rw[show AV.ren (df (fun _=>0) 1 18) (dJ true (bB (aB f r)) (.inr (.inr (1,0,aN (aB f r),c2))))=dJ true (bB (aB f r)) (.inr (.inr (18,0,aN (aB f r),c2))) from rfl,bX a3]
   simp only[uq,w3,w5,dJ,fE,gV,Bool.not_false,Bool.not_true,aM,aR,vR,seval]
   refine ⟨by omega, ?_⟩
   refine (yH (g:=aB f r) (r:=r) (fun i=>hf _) V7 (by omega) hp (by omega) (Cq k1)).av (fun _=>0) none (bZ (rw:=false) (by simp only[ae,vR,seval]) hp) rfl ?_
   rintro v out ⟨c3,sm,b1,b2,b3,rfl,rfl⟩ _
   rw[e2,bX b3]
   simp only[uq,w3,w5,bE,dJ,fE,gV,Bool.not_false,Bool.not_true,aM,aR,vR,seval]
   refine ig (Post:=ur 1 n f) ?_ ?_ b3 (Or.inr ⟨hb,r,c3,sm, ?_⟩)
   rotate_left
   ·simp only[ae,vR,seval]
   ·rw[← rO,hL, ← rD, ← FN,vl,Nat.add_sub_cancel_left,Nat.div_self (by omega)]
    exact ⟨by unfold dh;rw[k0,k1];simp,b1,b2,b3,rfl,rfl⟩
   decide
 ·rw[hf0]at k0
  rw[show AV.ren (df (fun _=>0) 1 11) (dJ true (bB f) (.inr (.inr (1,0,aN f,c1))))=dJ true (bB f) (.inr (.inr (11,0,aN f,c1))) from rfl,bX g3]
  simp only[uq,w3,w5,dJ,fE,gV,aM,aR,vR,seval]
  refine ⟨by omega, ?_⟩
  refine (BD (h:=aB f r) (fun i=>hf _) V7 (by omega) hp (by omega)).av (fun _=>0) none (bZ (rw:=false) (by simp only[ae,vR,seval]) hp) rfl ?_
  rintro v out (⟨k1,rfl,rfl⟩ | ⟨k1,c2,j7,a1,a2,a3,rfl,rfl⟩) _
  ·rw[hf1]at k1
   rw[show ∀ q,AV.ren q (dJ false 0 (.inl (.slice none 0 0)))=dJ false 0 (.inl (.slice none 0 0)) from fun q=>rfl,dW]
   simp only[uq,w3,w5,dJ,fE,gV,Bool.not_false,Bool.not_true,aM,aR,vR,seval]
   refine ⟨by omega, ?_⟩
   refine (yH (g:=f) (r:=r) hf Z5 (by omega) hp (by omega) k0).av (fun _=>0) none (bZ (rw:=false) (by simp only[ae,vR,seval]) hp) rfl ?_
   rintro v out ⟨c3,sm,b1,b2,b3,rfl,rfl⟩ _
   rw[e2,bX b3]
   simp only[uq,w3,w5,bE,dJ,fE,gV,Bool.not_false,Bool.not_true,aM,aR,vR,seval]
   refine ig (Post:=ur 1 n f) ?_ ?_ b3 (Or.inr ⟨hb,0,c3,sm, ?_⟩)
   rotate_left
   ·simp only[ae,vR,seval]
   ·rw[← rO,Nat.zero_add,Nat.zero_div,Nat.sub_zero]
    exact ⟨by unfold dh;rw[k0,k1];simp,b1,b2,b3,rfl,rfl⟩
   decide
  ·rw[hf1]at k1
   rw[show AV.ren (df (fun _=>0) 1 18) (dJ true (bB (aB f r)) (.inr (.inr (1,0,aN (aB f r),c2))))=dJ true (bB (aB f r)) (.inr (.inr (18,0,aN (aB f r),c2))) from rfl,bX a3]
   simp only[uq,w3,w5,dJ,fE,gV,Bool.not_false,Bool.not_true,aM,aR,vR,seval]
   by_cases hge:bB (aB f r)≤bB f
   ·refine cz (decide_eq_true hge) ?_
    simp only[uq,w3,w5,bE,dJ,fE,gV,Bool.not_false,Bool.not_true,aM,aR,vR,seval]
    refine ⟨by omega, ?_⟩
    refine (yH (g:=f) (r:=r) hf Z5 (by omega) hp (by omega) k0).av (fun _=>0) none (bZ (rw:=false) (by simp only[ae,vR,seval]) hp) rfl ?_
    rintro v out ⟨c3,sm,b1,b2,b3,rfl,rfl⟩ _
    rw[e2,bX b3]
    simp only[uq,w3,w5,bE,dJ,fE,gV,Bool.not_false,Bool.not_true,aM,aR,vR,seval]
    refine ig (Post:=ur 1 n f) ?_ ?_ b3 (Or.inr ⟨hb,0,c3,sm, ?_⟩)
    rotate_left
    ·simp only[ae,vR,seval]
    ·rw[← rO,Nat.zero_add,Nat.zero_div,Nat.sub_zero]
     exact ⟨by unfold dh;rw[k0,k1,BF];simp;omega,b1,b2,b3,rfl,rfl⟩
    decide
   ·refine bR (decide_eq_false hge) ?_
    simp only[uq,w3,w5,bE,dJ,fE,gV,Bool.not_false,Bool.not_true,aM,aR,vR,seval]
    refine ⟨by omega, ?_⟩
    refine (yH (g:=aB f r) (r:=r) (fun i=>hf _) V7 (by omega) hp (by omega) (Cq k1)).av (fun _=>0) none (bZ (rw:=false) (by simp only[ae,vR,seval]) hp) rfl ?_
    rintro v out ⟨c3,sm,b1,b2,b3,rfl,rfl⟩ _
    rw[e2,bX b3]
    simp only[uq,w3,w5,bE,dJ,fE,gV,Bool.not_false,Bool.not_true,aM,aR,vR,seval]
    refine ig (Post:=ur 1 n f) ?_ ?_ b3 (Or.inr ⟨hb,r,c3,sm, ?_⟩)
    rotate_left
    ·simp only[ae,vR,seval]
    ·rw[← rO,hL, ← rD, ← FN,vl,Nat.add_sub_cancel_left,Nat.div_self (by omega)]
     exact ⟨by unfold dh;rw[k0,k1,BF];simp;omega,b1,b2,b3,rfl,rfl⟩
    decide
end
end Go.Proofs.YtaeagfdnfjenlaaGreatDoor
