/-
  The beginning of a state, in the program and in the document.
-/
import Derived.Test.YtoakenpcooglpaaGreatDoorVcgK1
import Derived.Test.YtoakenpcooglpaaGreatDoorVcgJ3
import Derived.Test.YtoakenpcooglpaaGreatDoorVcgFacts
import Derived.Test.YtoakenpcooglpaaGreatDoorVcgI
import Derived.Test.YtoakenpcooglpaaGreatDoorVcgRx
set_option linter.unusedVariables false
set_option linter.unusedSimpArgs false
namespace Go.Proofs.YtoakenpcooglpaaGreatDoor
set_option maxHeartbeats 2000000
set_option maxRecDepth 20000
open Go.cA
set_option linter.unusedSectionVars false
variable [aX]
def val (N:Nat→Int):Nat→Int
 | 0=>0
 | n+1=>val N n+N n*65536^n
def sh (N:Nat→Int):Nat→Int
 | 0=>0
 | i+1=>(N i+sh N i) / 65536
def CC (N:Nat→Int) (i:Nat):Int:=(N i+sh N i)%65536
def dY (N:Nat→Int):Nat→Int:=upd (CC N) 0 (CC N 0+38*sh N 16)
def My (N:Nat→Int):Nat→Nat→Int
 | 0=>N
 | k+1=>dY (My N k)
def FU (N:Nat→Int):Nat→Int:=My N 3
def Bd (N:Nat→Int):Prop:= ∀ i,0≤N i∧N i < 4611686018427387904
def dU (N:Nat→Int):Prop:= ∀ i,0≤N i∧N i < 65536
theorem ri (N:Nat→Int) (h:Bd N): ∀ i,0≤sh N i∧sh N i < 140737488355328
 | 0=>by simp[sh]
 | i+1=>by
  have:=ri N h i
  have:=h i
  simp only[sh];omega
theorem kS (N:Nat→Int):dU (CC N):=by
 intro i;simp only[CC];omega
theorem si (N:Nat→Int) (h:Bd N):Bd (dY N):=by
 intro i
 have h1:=kS N i
 have h2:=kS N 0
 have h3:=ri N h 16
 simp only[dY,upd];split<;>omega
theorem UW (N:Nat→Int) (h:Bd N): ∀ k,Bd (My N k)
 | 0=>h
 | k+1=>si _ (UW N h k)
theorem aar (n:Nat):(0:Int) < 65536^n:=Int.pow_pos (by decide)
theorem mB (N:Nat→Int) (h:dU N): ∀ n,0≤val N n∧val N n < 65536^n
 | 0=>by simp[val]
 | n+1=>by
  have ih:=mB N h n
  have hn:=h n
  have hp:=aar n
  have h1:0≤N n*65536^n:=Int.mul_nonneg hn.1 (Int.le_of_lt hp)
  have h2:N n*65536^n≤65535*65536^n:=Int.mul_le_mul_of_nonneg_right (by omega) (Int.le_of_lt hp)
  rw[val,Int.pow_succ];omega
theorem sj (N:Nat→Int): ∀ n,val N n=val (CC N) n+sh N n*65536^n
 | 0=>by simp[val,sh]
 | n+1=>by
  have ih:=sj N n
  have e:N n+sh N n=CC N n+65536*sh N (n+1):=by simp only[CC,sh];omega
  rw[val,val,ih,Int.pow_succ]
  have:sh N (n+1)*(65536^n*65536)=(65536*sh N (n+1))*65536^n:=by grind
  rw[this]
  have e2:N n=CC N n+65536*sh N (n+1) - sh N n:=by omega
  rw[e2];grind
theorem G7 (N:Nat→Int) (i:Nat) (v:Int): ∀ n,i < n→val (upd N i v) n=val N n+(v - N i)*65536^i:=by
 have agx: ∀ n,n≤i→val (upd N i v) n=val N n:=by
  intro n
  induction n with
  | zero=>intro _;rfl
  | succ n ih=>
   intro h
   rw[val,val,ih (by omega)]
   simp only[upd,if_neg (show ¬ n=i by omega)]
 intro n
 induction n with
 | zero=>intro h;omega
 | succ n ih=>
  intro h
  rw[val,val]
  by_cases hn:n=i
  ·subst hn
   rw[agx n (Nat.le_refl n)]
   simp only[upd,if_true];grind
  ·rw[ih (by omega)]
   simp only[upd,if_neg hn];grind
theorem tD (N:Nat→Int):val (dY N) 16=val N 16 - sh N 16*115792089237316195423570985008687907853269984665640564039457584007913129639898:=by
 rw[dY,G7 _ 0 _ 16 (by decide)]
 have:=sj N 16
 rw[show (65536:Int)^16=115792089237316195423570985008687907853269984665640564039457584007913129639936 from by decide]at this
 rw[this];simp only[Int.pow_zero,Int.mul_one];omega
theorem rj (N:Nat→Int) (h:Bd N):dU (FU N)∧val (FU N) 16%PP=val N 16%PP:=by
 have hp:(65536:Int)^16=115792089237316195423570985008687907853269984665640564039457584007913129639936:=by decide
 have c0:=ri N h 16
 have v0:=sj N 16
 have d0:=mB _ (kS N) 16
 have e0:=tD N
 have v1:=sj (dY N) 16
 have d1:=mB _ (kS (dY N)) 16
 have e1:=tD (dY N)
 have v2:=sj (dY (dY N)) 16
 have d2:=mB _ (kS (dY (dY N))) 16
 have e2:=tD (dY (dY N))
 have c1:=ri _ (si N h) 16
 have c2:=ri _ (si _ (si N h)) 16
 rw[hp]at v0 d0 v1 d1 v2 d2
 have k1:sh (dY N) 16=0∨sh (dY N) 16=1:=by omega
 have k2:sh (dY (dY N)) 16=0:=by omega
 refine ⟨?_, ?_⟩
 ·intro i
  show 0≤dY (dY (dY N)) i∧dY (dY (dY N)) i < 65536
  have hd:=kS (dY (dY N)) i
  have N9:=kS (dY (dY N)) 0
  rw[dY,k2]
  simp only[upd];split<;>omega
 ·show val (dY (dY (dY N))) 16%PP=_
  rw[e2,e1,e0,k2]
  refine cg (q:= -2*(sh N 16+sh (dY N) 16)) ?_
  simp only[PP];omega
theorem fj {k:IntKind} {n m:Nat} {f g:Nat→Int}:ae k n (upd (fun i=>if i < m then f i else g i) m (f m))=ae k n (fun i=>if i < m+1 then f i else g i):=by
 refine aV fun i _=> ?_
 simp only[upd]
 by_cases h:i=m
 ·subst h;simp
 ·rw[if_neg h]
  by_cases h2:i < m
  ·rw[if_pos h2,if_pos (by omega)]
  ·rw[if_neg h2,if_neg (by omega)]
theorem BL (N:Nat→Int) (h:Bd N):cB Tryz.prog 75 [Ag (ae .u64 16 N)] (Ag (ae .u64 16 (FU N))):=by
 refine aK Tryz.func75 rfl (by kernel_rfl) (by simp[Tryz.ntmps75]) rfl rfl ?_
 simp only[Tryz.results75,Tryz.vr,Value.oneCell',simprocAttr, -List.reduceReplicate]
 refine aG 3 (fun k=>[(1,Ptr 0 0),(2,Ptr 1 0),(3,I .i64 k)])
  (fun k=>[(0,⟨true,ae .u64 16 (My N k)⟩),(1,⟨true,ae .u64 16 (fun _=>0)⟩)]) _ ?_ ?_ ?_
 ·simp only[bV,My,Tryz.vr,Value.oneCell',simprocAttr, -List.reduceReplicate]
 ·intro k hk
  have hb:=UW N h k
  have hs:My N (k+1)=dY (My N k):=rfl
  rw[hs]
  have hwk:=bD k (by omega)
  generalize My N k=M at*
  have hl3:((k:Int) < 3)=True:=cf (m:=3) hk
  simp only[Tryz.vr,Value.oneCell',simprocAttr, -List.reduceReplicate]
  refine aD (by simp;omega) ?_
  simp only[Tryz.vr,Value.oneCell',simprocAttr, -List.reduceReplicate]
  refine aG 16 (fun j=>[(1,Ptr 0 0),(2,Ptr 1 0),(3,I .i64 k),(4,I .u64 (sh M j)),(5,I .i64 j)])
   (fun j=>[(0,⟨true,ae .u64 16 (fun i=>if i < j then CC M i else M i)⟩),(1,⟨true,ae .u64 16 (fun _=>0)⟩)]) _ ?_ ?_ ?_
  ·simp only[bV,sh,Nat.not_lt_zero,Tryz.vr,Value.oneCell',simprocAttr, -List.reduceReplicate]
  ·intro j hj
   have hM:=hb j
   have hc:=ri M hb j
   have lf:((j:Int) < 16)=True:=cf (m:=16) hj
   have hw:IntKind.u64.wrap (M j+sh M j)=M j+sh M j:=au _ (by omega) (by omega)
   simp only[Tryz.vr,Value.oneCell',simprocAttr, -List.reduceReplicate]
   refine aD (by simp;omega) ?_
   simp only[lf,ay .u64 16 _ j hj,aA .u64 16 _ j hj,Nat.lt_irrefl,hw,bD j (by omega),Tryz.vr,Value.oneCell',simprocAttr, -List.reduceReplicate]
   rw[Int.tdiv_eq_ediv_of_nonneg (show 0≤M j+sh M j by omega),Int.tmod_eq_emod_of_nonneg (show 0≤M j+sh M j by omega),au _ (by omega) (by omega)]
   exact ⟨by omega,rfl,by rw[show (M j+sh M j)%65536=CC M j from rfl,fj]⟩
  ·simp only[Tryz.vr,Value.oneCell',simprocAttr, -List.reduceReplicate]
   refine aH (by decide) ?_
   simp only[ay .u64 16 _ 0 (by omega),aA .u64 16 _ 0 (by omega),hwk,Tryz.vr,Value.oneCell',simprocAttr, -List.reduceReplicate]
   have hc:=ri M hb 16
   have hd:=kS M 0
   rw[au (38*_) (by omega) (by omega),au _ (by omega) (by omega)]
   rw[aV (g:=dY M) fun i hi=> ?_]
   simp only[dY,upd,hi,if_true]
 ·simp only[Tryz.vr,Value.oneCell',simprocAttr, -List.reduceReplicate]
  refine aH (by decide) ?_
  simp only[Tryz.vr,Value.oneCell',simprocAttr, -List.reduceReplicate]
  rfl
theorem dG {k:IntKind} {n:Nat} {f g:Nat→Int}:ae k n (fun i=>if i < n then f i else g i)=ae k n f:=
 aV fun i hi=>by simp only[hi,if_true]
def iM (a b:Nat→Int):Nat→Int:=FU fun i=>a i+b i
def jM (i:Nat):Int:=if i=0 then 130996 else 131070
def fT (a b:Nat→Int):Nat→Int:=FU fun i=>a i+(jM i - b i)
theorem UX (a b:Nat→Int) (ha:dU a) (hb:dU b):Bd fun i=>a i+b i:=by
 intro i;have:=ha i;have:=hb i;simp only[];omega
theorem Mz (a b:Nat→Int) (ha:dU a) (hb:dU b):Bd fun i=>a i+(jM i - b i):=by
 intro i;have:=ha i;have:=hb i;simp only[jM];split<;>omega
theorem jF (a b:Nat→Int) (ha:dU a) (hb:dU b):cB Tryz.prog 94 [Ag (ae .u64 16 a),Ag (ae .u64 16 b)] (Ag (ae .u64 16 (iM a b))):=by
 refine aK Tryz.func94 rfl (by kernel_rfl) (by simp[Tryz.ntmps94]) rfl rfl ?_
 simp only[Tryz.results94,Tryz.vr,Value.oneCell',simprocAttr, -List.reduceReplicate]
 refine aG 16 (fun k=>[(2,Ptr 0 0),(3,Ptr 1 0),(4,Ptr 2 0),(5,I .i64 k)])
  (fun k=>[(0,⟨true,ae .u64 16 (fun i=>if i < k then a i+b i else a i)⟩),(1,⟨true,ae .u64 16 b⟩),(2,⟨true,ae .u64 16 (fun _=>0)⟩)]) _ ?_ ?_ ?_
 ·simp only[bV,Nat.not_lt_zero,Tryz.vr,Value.oneCell',simprocAttr, -List.reduceReplicate]
 ·intro j hj
  have h1:=ha j
  have h2:=hb j
  have lf:((j:Int) < 16)=True:=cf (m:=16) hj
  have hw:IntKind.u64.wrap (a j+b j)=a j+b j:=au _ (by omega) (by omega)
  simp only[Tryz.vr,Value.oneCell',simprocAttr, -List.reduceReplicate]
  refine aD (by simp;omega) ?_
  simp only[lf,ay .u64 16 _ j hj,aA .u64 16 _ j hj,Nat.lt_irrefl,hw,bD j (by omega),Tryz.vr,Value.oneCell',simprocAttr, -List.reduceReplicate]
  exact ⟨by kernel_rfl,by omega,congrArg (fun c=>some (aW.mk true c)) (fj (f:=fun i=>a i+b i) (g:=a))⟩
 ·simp only[Tryz.vr,Value.oneCell',simprocAttr, -List.reduceReplicate]
  refine aH (by decide) ?_
  have e:ae .u64 16 (fun i=>if i < 16 then a i+b i else a i)=ae .u64 16 (fun i=>a i+b i):=dG
  simp only[e,Tryz.vr,Value.oneCell',simprocAttr, -List.reduceReplicate]
  refine (BL _ (UX a b ha hb)).aB ?_
  simp only[Tryz.vr,Value.oneCell',simprocAttr, -List.reduceReplicate]
  rfl
theorem iN (a b:Nat→Int) (ha:dU a) (hb:dU b):cB Tryz.prog 95 [Ag (ae .u64 16 a),Ag (ae .u64 16 b)] (Ag (ae .u64 16 (fT a b))):=by
 refine aK Tryz.func95 rfl (by kernel_rfl) (by simp[Tryz.ntmps95]) rfl rfl ?_
 have hw: ∀ j,IntKind.u64.wrap (a j+IntKind.u64.wrap (jM j - b j))=a j+(jM j - b j):=fun j=>by
  have h1:=ha j
  have h2:=hb j
  have ho:130996≤jM j∧jM j≤131070:=by simp only[jM];split<;>omega
  rw[au (jM j - b j) (by omega) (by omega),au _ (by omega) (by omega)]
 have h0:=hw 0
 rw[show jM 0=130996 from rfl]at h0
 simp only[Tryz.results95,ay .u64 16 _ 0 (by omega),aA .u64 16 _ 0 (by omega),h0,Tryz.vr,Value.oneCell',simprocAttr, -List.reduceReplicate]
 refine aG 15 (fun k=>[(2,Ptr 0 0),(3,Ptr 1 0),(4,Ptr 2 0),(5,I .i64 ((k+1:Nat):Int))])
  (fun k=>[(0,⟨true,ae .u64 16 (fun i=>if i < k+1 then a i+(jM i - b i) else a i)⟩),(1,⟨true,ae .u64 16 b⟩),(2,⟨true,ae .u64 16 (fun _=>0)⟩)]) _ ?_ ?_ ?_
 ·have e:ae .u64 16 (upd a 0 (a 0+(130996 - b 0)))=ae .u64 16 (fun i=>if i < 0+1 then a i+(jM i - b i) else a i):=aV fun i _=>by
   by_cases hi:i=0
   ·subst hi;rfl
   ·simp only[upd,if_neg hi,if_neg (show ¬ i < 0+1 by omega)]
  simp only[bV,e,Tryz.vr,Value.oneCell',simprocAttr, -List.reduceReplicate]
 ·intro j hj
  have Wz:j+1 < 16:=by omega
  have lf:(((j+1:Nat):Int) < 16)=True:=cf (m:=16) Wz
  have ho:jM (j+1)=(131070:Int):=by simp[jM]
  have hwj:=hw (j+1)
  have he:ae .u64 16 (upd (fun i=>if i < j+1 then a i+(jM i - b i) else a i) (j+1) (a (j+1)+(131070 - b (j+1))))=ae .u64 16 (fun i=>if i < j+1+1 then a i+(jM i - b i) else a i):=by
   rw[← ho];exact fj (f:=fun i=>a i+(jM i - b i)) (g:=a)
  rw[ho]at hwj
  simp only[Tryz.vr,Value.oneCell',simprocAttr, -List.reduceReplicate]
  refine aD (by simp;omega) ?_
  simp only[lf,ay .u64 16 _ (j+1) Wz,aA .u64 16 _ (j+1) Wz,Nat.lt_irrefl,hwj,bD (j+1) (by omega),Tryz.vr,Value.oneCell',simprocAttr, -List.reduceReplicate]
  exact ⟨by kernel_rfl,by omega,by rw[he]⟩
 ·simp only[Tryz.vr,Value.oneCell',simprocAttr, -List.reduceReplicate]
  refine aH (by decide) ?_
  have e:ae .u64 16 (fun i=>if i < 15+1 then a i+(jM i - b i) else a i)=ae .u64 16 (fun i=>a i+(jM i - b i)):=dG
  have e':ae .u64 16 (fun i=>if i < 16 then a i+(jM i - b i) else a i)=ae .u64 16 (fun i=>a i+(jM i - b i)):=dG
  simp only[e,e',Tryz.vr,Value.oneCell',simprocAttr, -List.reduceReplicate]
  refine (BL _ (Mz a b ha hb)).aB ?_
  simp only[Tryz.vr,Value.oneCell',simprocAttr, -List.reduceReplicate]
  rfl
end Go.Proofs.YtoakenpcooglpaaGreatDoor
namespace Go.Proofs.YtoakenpcooglpaaGreatDoor
open Go.cA
set_option linter.unusedSectionVars false
variable [aX]
def MA (f:Nat→Int) (x:Int) (b:Nat→Int) (i:Nat):Nat→Nat→Int
 | 0=>f
 | j+1=>upd (MA f x b i j) (i+j) (MA f x b i j (i+j)+x*b j)
def MB (f:Nat→Int) (x:Int) (b:Nat→Int) (i:Nat):Nat→Nat→Int
 | 0=>f
 | m+1=>upd (MB f x b i m) m (MB f x b i m m+x*b (16 - i+m))
def lH (a b:Nat→Int):Nat→Nat→Int
 | 0=>fun _=>0
 | i+1=>MA (lH a b i) (a i) b i (16 - i)
def gA (a b:Nat→Int):Nat→Nat→Int
 | 0=>fun _=>0
 | i+1=>MB (gA a b i) (a i) b i i
theorem OZ (f:Nat→Int) (x:Int) (b:Nat→Int) (i:Nat): ∀ j k,MA f x b i j k=f k+if i≤k∧k < i+j then x*b (k - i) else 0
 | 0,k=>by simp only[MA];rw[if_neg (by omega)];omega
 | j+1,k=>by
  simp only[MA,upd]
  by_cases h:k=i+j
  ·subst h
   rw[if_pos rfl,OZ f x b i j,if_neg (by omega),if_pos (by omega),show i+j - i=j from by omega];omega
  ·rw[if_neg h,OZ f x b i j]
   by_cases h2:i≤k∧k < i+j
   ·rw[if_pos h2,if_pos (by omega)]
   ·rw[if_neg h2,if_neg (by omega)]
theorem O0 (f:Nat→Int) (x:Int) (b:Nat→Int) (i:Nat): ∀ m k,MB f x b i m k=f k+if k < m then x*b (16 - i+k) else 0
 | 0,k=>by simp only[MB];rw[if_neg (by omega)];omega
 | m+1,k=>by
  simp only[MB,upd]
  by_cases h:k=m
  ·subst h
   rw[if_pos rfl,O0 f x b i k,if_neg (by omega),if_pos (by omega)];omega
  ·rw[if_neg h,O0 f x b i m]
   by_cases h2:k < m
   ·rw[if_pos h2,if_pos (by omega)]
   ·rw[if_neg h2,if_neg (by omega)]
theorem UY {x y:Int} (hx:0≤x∧x < 65536) (hy:0≤y∧y < 65536):0≤x*y∧x*y≤4294836225:=
 pP hx.1 (show x≤65535 by omega) hy.1 (show y≤65535 by omega)
theorem aas {f:Nat→Int} {x:Int} {b:Nat→Int} {B:Int} (hx:0≤x∧x < 65536) (hb:dU b) (hf: ∀ k,0≤f k∧f k≤B) (i j k:Nat):0≤MA f x b i j k∧MA f x b i j k≤B+4294836225:=by
 rw[OZ]
 have:=hf k
 have:=UY hx (hb (k - i))
 split<;>omega
theorem aat {f:Nat→Int} {x:Int} {b:Nat→Int} {B:Int} (hx:0≤x∧x < 65536) (hb:dU b) (hf: ∀ k,0≤f k∧f k≤B) (i j k:Nat):0≤MB f x b i j k∧MB f x b i j k≤B+4294836225:=by
 rw[O0]
 have:=hf k
 have:=UY hx (hb (16 - i+k))
 split<;>omega
theorem wT (a b:Nat→Int) (ha:dU a) (hb:dU b): ∀ i k,0≤lH a b i k∧lH a b i k≤i*4294836225
 | 0,k=>by simp[lH]
 | i+1,k=>by
  have:=aas (ha i) hb (wT a b ha hb i) i (16 - i) k
  simp only[lH];omega
theorem sk (a b:Nat→Int) (ha:dU a) (hb:dU b): ∀ i k,0≤gA a b i k∧gA a b i k≤i*4294836225
 | 0,k=>by simp[gA]
 | i+1,k=>by
  have:=aat (ha i) hb (sk a b ha hb i) i i k
  simp only[gA];omega
def mC (a b:Nat→Int) (k:Nat):Int:=lH a b 16 k+38*gA a b 16 k
theorem FV (a b:Nat→Int) (ha:dU a) (hb:dU b):Bd (mC a b):=by
 intro i
 have:=wT a b ha hb 16 i
 have:=sk a b ha hb 16 i
 simp only[mC];omega
def du (a b:Nat→Int):Nat→Int:=FU (mC a b)
theorem FW (N:Nat→Int) (n:Nat):val N (n+1)=val N n+N n*65536^n:=rfl
theorem UZ (f:Nat→Int) (x:Int) (b:Nat→Int) (i:Nat) (hi:i < 16): ∀ j,i+j≤16→val (MA f x b i j) 16=val f 16+x*65536^i*val b j
 | 0,_=>by simp only[MA,val];omega
 | j+1,h=>by
  rw[MA,G7 _ _ _ 16 (by omega),UZ f x b i hi j (by omega),FW b j,Int.pow_add];grind
theorem U0 (f:Nat→Int) (x:Int) (b:Nat→Int) (i:Nat) (hi:i < 16): ∀ m,m≤i→65536^16*val (MB f x b i m) 16+x*65536^i*val b (16 - i)=65536^16*val f 16+x*65536^i*val b (16 - i+m)
 | 0,_=>by simp only[MB,Nat.add_zero]
 | m+1,h=>by
  have ih:=U0 f x b i hi m (by omega)
  have hp:(65536:Int)^16=65536^i*65536^(16 - i):=by rw[← Int.pow_add,show i+(16 - i)=16 from by omega]
  rw[MB,G7 _ _ _ 16 (by omega),show 16 - i+(m+1)=(16 - i+m)+1 from by omega,FW b (16 - i+m),Int.pow_add]
  generalize val (MB f x b i m) 16=v at*
  rw[hp]at ih ⊢
  grind
theorem MC (a b:Nat→Int): ∀ i,i≤16→val (lH a b i) 16+65536^16*val (gA a b i) 16=val a i*val b 16
 | 0,_=>by
  have h: ∀ n,val (fun _=>0) n=0:=by
   intro n;induction n with
   | zero=>rfl
   | succ n ih=>rw[val,ih];omega
  simp only[lH,gA,h,val];omega
 | i+1,h=>by
  have ih:=MC a b i (by omega)
  have h1:=UZ (lH a b i) (a i) b i (by omega) (16 - i) (by omega)
  have h2:=U0 (gA a b i) (a i) b i (by omega) i (Nat.le_refl i)
  rw[show 16 - i+i=16 from by omega]at h2
  rw[lH,gA,FW a i,h1]
  grind
theorem val_add (a b:Nat→Int): ∀ n,val (fun i=>a i+b i) n=val a n+val b n
 | 0=>by simp[val]
 | n+1=>by rw[val,val,val,val_add a b n];grind
theorem MD (c:Int) (a:Nat→Int): ∀ n,val (fun i=>c*a i) n=c*val a n
 | 0=>by simp[val]
 | n+1=>by rw[val,val,MD c a n];grind
theorem val_sub (a b:Nat→Int): ∀ n,val (fun i=>a i - b i) n=val a n - val b n
 | 0=>by simp[val]
 | n+1=>by rw[val,val,val,val_sub a b n];grind
theorem kT (a b:Nat→Int) (ha:dU a) (hb:dU b):dU (du a b)∧val (du a b) 16%PP=val a 16*val b 16%PP:=by
 obtain ⟨h1,h2⟩:=rj _ (FV a b ha hb)
 refine ⟨h1, ?_⟩
 rw[du,h2]
 have hp:=MC a b 16 (Nat.le_refl 16)
 have e:val (mC a b) 16=val (lH a b 16) 16+38*val (gA a b 16) 16:=by
  rw[show mC a b=fun k=>lH a b 16 k+(fun k=>38*gA a b 16 k) k from rfl,val_add,MD]
 rw[e, ← hp]
 refine cg (q:= -2*val (gA a b 16) 16) ?_
 rw[show (65536:Int)^16=115792089237316195423570985008687907853269984665640564039457584007913129639936 from by decide]
 simp only[PP];omega
theorem rk (a b:Nat→Int) (ha:dU a) (hb:dU b):dU (iM a b)∧val (iM a b) 16%PP=(val a 16+val b 16)%PP:=by
 obtain ⟨h1,h2⟩:=rj _ (UX a b ha hb)
 exact ⟨h1,by rw[iM,h2,val_add]⟩
theorem n8 (a b:Nat→Int) (ha:dU a) (hb:dU b):dU (fT a b)∧val (fT a b) 16%PP=(val a 16 - val b 16)%PP:=by
 obtain ⟨h1,h2⟩:=rj _ (Mz a b ha hb)
 refine ⟨h1, ?_⟩
 rw[fT,h2,show (fun i=>a i+(jM i - b i))=fun i=>a i+(fun i=>jM i - b i) i from rfl,val_add,val_sub]
 refine cg (q:=4) ?_
 have:val jM 16=4*PP:=by simp[val,jM,PP]
 omega
end Go.Proofs.YtoakenpcooglpaaGreatDoor
namespace Go.Proofs.YtoakenpcooglpaaGreatDoor
set_option maxHeartbeats 4000000
set_option maxRecDepth 20000
open Go.cA
set_option linter.unusedSectionVars false
variable [aX]
theorem I0 (n m:Nat) (h:n+m < 9223372036854775807):IntKind.i64.wrap ((n:Int)+(m:Int))=((n+m:Nat):Int):=wrap_i64 _ (by omega) (by omega)
theorem eW (a b:Nat→Int) (ha:dU a) (hb:dU b):cB Tryz.prog 48 [Ag (ae .u64 16 a),Ag (ae .u64 16 b)] (Ag (ae .u64 16 (du a b))):=by
 refine aK Tryz.func48 rfl (by kernel_rfl) (by simp[Tryz.ntmps48]) rfl rfl ?_
 simp only[Tryz.results48,Tryz.vr,Value.oneCell',simprocAttr, -List.reduceReplicate]
 refine aG 16 (fun i=>[(2,Ptr 0 0),(3,Ptr 1 0),(4,Ptr 2 0),(5,Ptr 3 0),(6,Ptr 4 0),(7,I .i64 i)])
  (fun i=>[(0,⟨true,ae .u64 16 a⟩),(1,⟨true,ae .u64 16 b⟩),(2,⟨true,ae .u64 16 (fun _=>0)⟩),(3,⟨true,ae .u64 16 (lH a b i)⟩),(4,⟨true,ae .u64 16 (gA a b i)⟩)]) _ ?_ ?_ ?_
 ·simp only[bV,lH,gA,Tryz.vr,Value.oneCell',simprocAttr, -List.reduceReplicate]
 ·intro i hi
  have lf:((i:Int) < 16)=True:=cf (m:=16) hi
  have hf:=wT a b ha hb i
  have hg:=sk a b ha hb i
  have hai:=ha i
  have hsl:lH a b (i+1)=MA (lH a b i) (a i) b i (16 - i):=rfl
  have hsh:gA a b (i+1)=MB (gA a b i) (a i) b i i:=rfl
  have FC:IntKind.i64.wrap ((16:Int) - i)=((16 - i:Nat):Int):=by rw[wrap_i64 _ (by omega) (by omega)];omega
  have hwi:=bD i (by omega)
  rw[hsl,hsh]
  generalize lH a b i=f at*
  generalize gA a b i=g at*
  simp only[Tryz.vr,Value.oneCell',simprocAttr, -List.reduceReplicate]
  refine aD (by simp;omega) ?_
  simp only[lf,ay .u64 16 _ i hi,Tryz.vr,Value.oneCell',simprocAttr, -List.reduceReplicate]
  refine aG (16 - i) (fun j=>[(2,Ptr 0 0),(3,Ptr 1 0),(4,Ptr 2 0),(5,Ptr 3 0),(6,Ptr 4 0),(7,I .i64 i),(8,I .u64 (a i)),(9,I .i64 j)])
   (fun j=>[(0,⟨true,ae .u64 16 a⟩),(1,⟨true,ae .u64 16 b⟩),(2,⟨true,ae .u64 16 (fun _=>0)⟩),(3,⟨true,ae .u64 16 (MA f (a i) b i j)⟩),(4,⟨true,ae .u64 16 g⟩)]) _ ?_ ?_ ?_
  ·simp only[bV,MA,Tryz.vr,Value.oneCell',simprocAttr, -List.reduceReplicate]
  ·intro j hj
   have aau:j < 16:=by omega
   have hij:i+j < 16:=by omega
   have Cy:((j:Int) < 16)=True:=cf (m:=16) aau
   have alX:(((i+j:Nat):Int) < 16)=True:=cf (m:=16) hij
   have hx:=aas (x:=a i) hai hb hf i j (i+j)
   have hd:=UY hai (hb j)
   have hm:IntKind.u64.wrap (a i*b j)=a i*b j:=au _ (by omega) (by omega)
   have hw:IntKind.u64.wrap (MA f (a i) b i j (i+j)+a i*b j)=MA f (a i) b i j (i+j)+a i*b j:=au _ (by omega) (by omega)
   simp only[FC,Tryz.vr,Value.oneCell',simprocAttr, -List.reduceReplicate]
   refine aD (by simp;omega) ?_
   simp only[Cy,alX,I0 i j (by omega),ay .u64 16 _ j aau,ay .u64 16 _ (i+j) hij,aA .u64 16 _ (i+j) hij,hm,hw,bD j (by omega),Tryz.vr,Value.oneCell',simprocAttr, -List.reduceReplicate]
   exact ⟨by kernel_rfl,by omega,rfl⟩
  ·simp only[FC,Tryz.vr,Value.oneCell',simprocAttr, -List.reduceReplicate]
   refine aH (by simp) ?_
   simp only[FC,Tryz.vr,Value.oneCell',simprocAttr, -List.reduceReplicate]
   refine aG i (fun m=>[(2,Ptr 0 0),(3,Ptr 1 0),(4,Ptr 2 0),(5,Ptr 3 0),(6,Ptr 4 0),(7,I .i64 i),(8,I .u64 (a i)),(10,I .i64 ((16 - i+m:Nat):Int))])
    (fun m=>[(0,⟨true,ae .u64 16 a⟩),(1,⟨true,ae .u64 16 b⟩),(2,⟨true,ae .u64 16 (fun _=>0)⟩),(3,⟨true,ae .u64 16 (MA f (a i) b i (16 - i))⟩),(4,⟨true,ae .u64 16 (MB g (a i) b i m)⟩)]) _ ?_ ?_ ?_
   ·simp only[bV,MB,Tryz.vr,Value.oneCell',simprocAttr, -List.reduceReplicate]
   ·intro m hm
    have agz:m < 16:=by omega
    have aau:16 - i+m < 16:=by omega
    have Cy:(((16 - i+m:Nat):Int) < 16)=True:=cf (m:=16) aau
    have hlm:((m:Int) < 16)=True:=cf (m:=16) agz
    have hx:=aat (x:=a i) hai hb hg i m m
    have hd:=UY hai (hb (16 - i+m))
    have hmu:IntKind.u64.wrap (a i*b (16 - i+m))=a i*b (16 - i+m):=au _ (by omega) (by omega)
    have hw:IntKind.u64.wrap (MB g (a i) b i m m+a i*b (16 - i+m))=MB g (a i) b i m m+a i*b (16 - i+m):=au _ (by omega) (by omega)
    have hs:IntKind.i64.wrap (((i+(16 - i+m):Nat):Int) - 16)=(m:Int):=by rw[wrap_i64 _ (by omega) (by omega)];omega
    simp only[Tryz.vr,Value.oneCell',simprocAttr, -List.reduceReplicate]
    refine aD (by simp;omega) ?_
    simp only[Cy,hlm,I0 i (16 - i+m) (by omega),hs,ay .u64 16 _ m agz,ay .u64 16 _ (16 - i+m) aau,aA .u64 16 _ m agz,hmu,hw,bD (16 - i+m) (by omega),Tryz.vr,Value.oneCell',simprocAttr, -List.reduceReplicate]
    exact ⟨by kernel_rfl,by omega,rfl,rfl⟩
   ·simp only[Tryz.vr,Value.oneCell',simprocAttr, -List.reduceReplicate]
    refine aH (by simp;omega) ?_
    simp only[hwi,Tryz.vr,Value.oneCell',simprocAttr, -List.reduceReplicate]
 ·simp only[Tryz.vr,Value.oneCell',simprocAttr, -List.reduceReplicate]
  refine aH (by decide) ?_
  simp only[Tryz.vr,Value.oneCell',simprocAttr, -List.reduceReplicate]
  have hf:=wT a b ha hb 16
  have hg:=sk a b ha hb 16
  refine aG 16 (fun k=>[(4,Ptr 2 0),(5,Ptr 3 0),(6,Ptr 4 0),(11,I .i64 k)])
   (fun k=>[(2,⟨true,ae .u64 16 (fun _=>0)⟩),(3,⟨true,ae .u64 16 (fun i=>if i < k then mC a b i else lH a b 16 i)⟩),(4,⟨true,ae .u64 16 (gA a b 16)⟩)]) _ ?_ ?_ ?_
  ·simp only[bV,Nat.not_lt_zero,Tryz.vr,Value.oneCell',simprocAttr, -List.reduceReplicate]
  ·intro k hk
   have h1:=hf k
   have h2:=hg k
   have lf:((k:Int) < 16)=True:=cf (m:=16) hk
   have hw1:IntKind.u64.wrap (38*gA a b 16 k)=38*gA a b 16 k:=au _ (by omega) (by omega)
   have hw:IntKind.u64.wrap (lH a b 16 k+38*gA a b 16 k)=mC a b k:=au _ (by omega) (by omega)
   simp only[Tryz.vr,Value.oneCell',simprocAttr, -List.reduceReplicate]
   refine aD (by simp;omega) ?_
   simp only[lf,ay .u64 16 _ k hk,aA .u64 16 _ k hk,Nat.lt_irrefl,hw1,hw,bD k (by omega),Tryz.vr,Value.oneCell',simprocAttr, -List.reduceReplicate]
   exact ⟨by kernel_rfl,by omega,by rw[fj]⟩
  ·simp only[Tryz.vr,Value.oneCell',simprocAttr, -List.reduceReplicate]
   refine aH (by decide) ?_
   have e:ae .u64 16 (fun i=>if i < 16 then mC a b i else lH a b 16 i)=ae .u64 16 (mC a b):=dG
   simp only[e,Tryz.vr,Value.oneCell',simprocAttr, -List.reduceReplicate]
   refine (BL _ (FV a b ha hb)).aB ?_
   simp only[Tryz.vr,Value.oneCell',simprocAttr, -List.reduceReplicate]
   rfl
end Go.Proofs.YtoakenpcooglpaaGreatDoor
namespace Go.Proofs.YtoakenpcooglpaaGreatDoor
set_option maxHeartbeats 2000000
set_option maxRecDepth 20000
open Go.cA
set_option linter.unusedSectionVars false
variable [aX]
def lN (a b c d:Nat→Int):List SV:=ae .u64 16 a++(ae .u64 16 b++(ae .u64 16 c++ae .u64 16 d))
theorem aN (a b c d:Nat→Int):(lN a b c d).length=64:=by simp[lN,ah]
theorem bp (a b c d:Nat→Int):List.take 64 (lN a b c d)=lN a b c d:=List.take_of_length_le (by rw[aN];exact Nat.le_refl _)
theorem cX (a b c d:Nat→Int):List.take 16 (lN a b c d)=ae .u64 16 a:=by
 rw[lN,List.take_append_of_le_length (by rw[ah];exact Nat.le_refl _),hY]
theorem jN (a:Nat→Int) (l:List SV) (n:Nat):List.drop (16+n) (ae .u64 16 a++l)=List.drop n l:=by
 rw[List.drop_append,ah,List.drop_of_length_le (by rw[ah];omega),List.nil_append];congr 1;omega
theorem G8 (a:Nat→Int) (l:List SV):List.take 16 (ae .u64 16 a++l)=ae .u64 16 a:=by
 rw[List.take_append_of_le_length (by rw[ah];exact Nat.le_refl _),hY]
theorem dg (a b c d:Nat→Int):List.take 16 (List.drop 16 (lN a b c d))=ae .u64 16 b:=by
 rw[lN,jN a _ 0,List.drop_zero,G8]
theorem dh (a b c d:Nat→Int):List.take 16 (List.drop 32 (lN a b c d))=ae .u64 16 c:=by
 rw[lN,jN a _ 16,jN b _ 0,List.drop_zero,G8]
theorem di (a b c d:Nat→Int):List.take 16 (List.drop 48 (lN a b c d))=ae .u64 16 d:=by
 rw[lN,jN a _ 32,jN b _ 16,jN c _ 0,List.drop_zero,hY]
theorem dk (a b c d a' b' c' d':Nat→Int):splice (lN a b c d) 0 (lN a' b' c' d')=lN a' b' c' d':=by
 rw[splice,List.take_zero,List.nil_append,List.drop_of_length_le (by simp[aN]),List.append_nil]
theorem cj (a b c d e:Nat→Int):splice (lN a b c d) 0 (ae .u64 16 e)=lN e b c d:=by
 rw[splice,ah,List.take_zero,List.nil_append,lN,jN a _ 0,List.drop_zero];rfl
theorem cl (a b c d e:Nat→Int):splice (lN a b c d) 16 (ae .u64 16 e)=lN a e c d:=by
 rw[splice,ah,cX,lN,jN a _ 16,jN b _ 0,List.drop_zero,lN,List.append_assoc]
theorem cn (a b c d e:Nat→Int):splice (lN a b c d) 32 (ae .u64 16 e)=lN a b e d:=by
 have h:List.take 32 (lN a b c d)=ae .u64 16 a++ae .u64 16 b:=by
  rw[lN,List.take_append,ah,List.take_of_length_le (by rw[ah];omega),G8]
 rw[splice,ah,h,lN,jN a _ 32,jN b _ 16,jN c _ 0,List.drop_zero,lN,List.append_assoc,List.append_assoc]
theorem cp (a b c d e:Nat→Int):splice (lN a b c d) 48 (ae .u64 16 e)=lN a b c e:=by
 have h:List.take 48 (lN a b c d)=ae .u64 16 a++(ae .u64 16 b++ae .u64 16 c):=by
  rw[lN,List.take_append,ah,List.take_of_length_le (by rw[ah];omega),List.take_append,ah,List.take_of_length_le (by rw[ah];omega),G8]
 rw[splice,ah,h,List.drop_of_length_le (by rw[aN];omega),lN,List.append_nil,List.append_assoc,List.append_assoc]
theorem al (n:Nat) (k:IntKind) (c:Int):List.replicate n (Sum.inl (Value.int k c):SV)=ae k n (fun _=>c):=by
 rw[← aF,List.map_replicate]
def zN:Nat→Int:=fun _=>0
theorem dn:ae .u64 64 (fun _=>0)=lN zN zN zN zN:=by kernel_rfl
theorem bI {M:Nat→Prop} (a b c d:Nat→Int):(∀ x ∈ lN a b c d,SV.ok M x)=True:=by
 have h: ∀ f:Nat→Int, ∀ x ∈ ae .u64 16 f,SV.ok M x:=fun f=>of_eq_true bV
 refine eq_true fun x hx=> ?_
 simp only[lN,List.mem_append]at hx
 rcases hx with hx | hx | hx | hx<;>exact h _ _ hx
theorem cD {a b:Nat→Int} (ha:dU a) (hb:dU b):dU (iM a b):=(rk a b ha hb).1
theorem cu {a b:Nat→Int} (ha:dU a) (hb:dU b):dU (fT a b):=(n8 a b ha hb).1
theorem aZ {a b:Nat→Int} (ha:dU a) (hb:dU b):dU (du a b):=(kT a b ha hb).1
def ME (a b c d:Nat→Int):Nat→Int:=iM (du (fT c d) (iM a b)) (du (iM c d) (fT a b))
def MF (a b c d:Nat→Int):Nat→Int:=fT (du (fT c d) (iM a b)) (du (iM c d) (fT a b))
theorem G9 (a b c d u:Nat→Int) (ha:dU a) (hb:dU b) (hc:dU c) (hd:dU d) (hu:dU u):
  cB Tryz.prog 72 [Ag (lN a b c d),Ag (ae .u64 16 u)] (Ag (lN (du (ME a b c d) (ME a b c d)) (du u (du (MF a b c d) (MF a b c d))) zN zN)):=by
 simp only[ME,MF]
 refine aK Tryz.func72 rfl (by kernel_rfl) (by simp[Tryz.ntmps72]) rfl rfl ?_
 simp only[Tryz.results72,aN,bp,cX,dg,dh,di,dn,dk,cj,cl,cn,cp,al,bI,Tryz.vr,Value.oneCell',simprocAttr, -List.reduceReplicate]
 refine (jF a b ha hb).aB ?_
 simp only[aN,bp,cX,dg,dh,di,dn,dk,cj,cl,cn,cp,al,bI,Tryz.vr,Value.oneCell',simprocAttr, -List.reduceReplicate]
 refine (iN a b ha hb).aB ?_
 simp only[aN,bp,cX,dg,dh,di,dn,dk,cj,cl,cn,cp,al,bI,Tryz.vr,Value.oneCell',simprocAttr, -List.reduceReplicate]
 refine (jF c d hc hd).aB ?_
 simp only[aN,bp,cX,dg,dh,di,dn,dk,cj,cl,cn,cp,al,bI,Tryz.vr,Value.oneCell',simprocAttr, -List.reduceReplicate]
 refine (iN c d hc hd).aB ?_
 have h1:=cD ha hb
 have h2:=cu ha hb
 have h3:=cD hc hd
 have h4:=cu hc hd
 simp only[aN,bp,cX,dg,dh,di,dn,dk,cj,cl,cn,cp,al,bI,Tryz.vr,Value.oneCell',simprocAttr, -List.reduceReplicate]
 refine (eW _ _ h4 h1).aB ?_
 simp only[aN,bp,cX,dg,dh,di,dn,dk,cj,cl,cn,cp,al,bI,Tryz.vr,Value.oneCell',simprocAttr, -List.reduceReplicate]
 refine (eW _ _ h3 h2).aB ?_
 have h5:=aZ h4 h1
 have h6:=aZ h3 h2
 simp only[aN,bp,cX,dg,dh,di,dn,dk,cj,cl,cn,cp,al,bI,Tryz.vr,Value.oneCell',simprocAttr, -List.reduceReplicate]
 refine (jF _ _ h5 h6).aB ?_
 simp only[aN,bp,cX,dg,dh,di,dn,dk,cj,cl,cn,cp,al,bI,Tryz.vr,Value.oneCell',simprocAttr, -List.reduceReplicate]
 refine (iN _ _ h5 h6).aB ?_
 have h7:=cD h5 h6
 have h8:=cu h5 h6
 simp only[aN,bp,cX,dg,dh,di,dn,dk,cj,cl,cn,cp,al,bI,Tryz.vr,Value.oneCell',simprocAttr, -List.reduceReplicate]
 refine ⟨by kernel_rfl, ?_⟩
 refine cB.draw (eW _ _ h7 h7) Tryz.gh ?_
 simp only[aN,bp,cX,dg,dh,di,dn,dk,cj,cl,cn,cp,al,bI,Tryz.vr,Value.oneCell',simprocAttr, -List.reduceReplicate]
 refine cB.draw (eW _ _ h8 h8) Tryz.gh ?_
 simp only[aN,bp,cX,dg,dh,di,dn,dk,cj,cl,cn,cp,al,bI,Tryz.vr,Value.oneCell',simprocAttr, -List.reduceReplicate]
 refine cB.draw (eW _ _ hu (aZ h8 h8)) Tryz.gh ?_
 simp only[aN,bp,cX,dg,dh,di,dn,dk,cj,cl,cn,cp,al,bI,Tryz.vr,Value.oneCell',simprocAttr, -List.reduceReplicate]
def acd (x z:Nat→Int):Nat→Int:=fT (du (iM x z) (iM x z)) (du (fT x z) (fT x z))
def cN:Nat→Int:=upd (upd (fun _=>0) 0 56129) 1 1
def O1:Nat→Int:=upd (fun _=>0) 0 1
theorem BM:dU cN:=by intro i;simp only[cN,upd];split<;>(try split)<;>omega
theorem BN:dU O1:=by intro i;simp only[O1,upd];split<;>omega
theorem agA:dU zN:=by intro i;simp only[zN];omega
def V5 (x z:Nat→Int):Nat→Int:=du (du (iM x z) (iM x z)) (du (fT x z) (fT x z))
def V6 (x z:Nat→Int):Nat→Int:=du (acd x z) (iM (du (iM x z) (iM x z)) (du cN (acd x z)))
theorem sm (x z:Nat→Int) (hx:dU x) (hz:dU z):
  cB Tryz.prog 73 [Ag (ae .u64 16 x),Ag (ae .u64 16 z)] (Ag (lN (V5 x z) (V6 x z) zN zN)):=by
 simp only[V5,V6,acd]
 have h1:=cD hx hz
 have h2:=cu hx hz
 have h3:=aZ h1 h1
 have h4:=aZ h2 h2
 have h5:=cu h3 h4
 have hc:=BM
 refine aK Tryz.func73 rfl (by kernel_rfl) (by simp[Tryz.ntmps73]) rfl rfl ?_
 simp only[Tryz.results73,aN,bp,cX,dg,dh,di,dn,dk,cj,cl,cn,cp,al,bI,Tryz.vr,Value.oneCell',simprocAttr, -List.reduceReplicate]
 refine (jF x z hx hz).aB ?_
 simp only[aN,bp,cX,dg,dh,di,dn,dk,cj,cl,cn,cp,al,bI,Tryz.vr,Value.oneCell',simprocAttr, -List.reduceReplicate]
 refine (iN x z hx hz).aB ?_
 simp only[aN,bp,cX,dg,dh,di,dn,dk,cj,cl,cn,cp,al,bI,Tryz.vr,Value.oneCell',simprocAttr, -List.reduceReplicate]
 refine (eW _ _ h1 h1).aB ?_
 simp only[aN,bp,cX,dg,dh,di,dn,dk,cj,cl,cn,cp,al,bI,Tryz.vr,Value.oneCell',simprocAttr, -List.reduceReplicate]
 refine (eW _ _ h2 h2).aB ?_
 simp only[aN,bp,cX,dg,dh,di,dn,dk,cj,cl,cn,cp,al,bI,Tryz.vr,Value.oneCell',simprocAttr, -List.reduceReplicate]
 refine (iN _ _ h3 h4).aB ?_
 simp only[aA .u64 16 _ 0 (by omega),aA .u64 16 _ 1 (by omega),aN,bp,cX,dg,dh,di,dn,dk,cj,cl,cn,cp,al,bI,Tryz.vr,Value.oneCell',simprocAttr, -List.reduceReplicate]
 refine ⟨by kernel_rfl, ?_⟩
 refine cB.draw (eW cN _ hc h5) Tryz.gh ?_
 simp only[aN,bp,cX,dg,dh,di,dn,dk,cj,cl,cn,cp,al,bI,Tryz.vr,Value.oneCell',simprocAttr, -List.reduceReplicate]
 refine cB.draw (jF _ _ h3 (aZ hc h5)) Tryz.qR ?_
 have h6:=cD h3 (aZ hc h5)
 simp only[aN,bp,cX,dg,dh,di,dn,dk,cj,cl,cn,cp,al,bI,Tryz.vr,Value.oneCell',simprocAttr, -List.reduceReplicate]
 refine ⟨by kernel_rfl, ?_⟩
 refine cB.draw (eW _ _ h3 h4) Tryz.gh ?_
 simp only[aN,bp,cX,dg,dh,di,dn,dk,cj,cl,cn,cp,al,bI,Tryz.vr,Value.oneCell',simprocAttr, -List.reduceReplicate]
 refine cB.draw (eW _ _ h5 h6) Tryz.gh ?_
 simp only[aN,bp,cX,dg,dh,di,dn,dk,cj,cl,cn,cp,al,bI,Tryz.vr,Value.oneCell',simprocAttr, -List.reduceReplicate]
end Go.Proofs.YtoakenpcooglpaaGreatDoor
namespace Go.Proofs.YtoakenpcooglpaaGreatDoor
set_option maxHeartbeats 2000000
set_option maxRecDepth 20000
open Go.cA
set_option linter.unusedSectionVars false
variable [aX]
def lI (z:Nat→Int):Nat→Nat→Int
 | 0=>O1
 | n+1=>if n=252∨n=250 then du (lI z n) (lI z n) else du (du (lI z n) (lI z n)) z
theorem lJ (z:Nat→Int) (hz:dU z): ∀ n,dU (lI z n)
 | 0=>BN
 | n+1=>by
  have ih:=lJ z hz n
  rw[lI];split
  ·exact aZ ih ih
  ·exact aZ (aZ ih ih) hz
theorem BO (z:Nat→Int) (hz:dU z): ∀ n:Nat,n≤255→cB Tryz.prog 46 [Ag (ae .u64 16 z),I .i64 ((n:Int) - 1)] (Ag (ae .u64 16 (lI z n)))
 | 0,_=>by
  refine aK Tryz.func46 rfl (by kernel_rfl) (by simp[Tryz.ntmps46]) rfl rfl ?_
  simp only[Tryz.results46,aN,bp,cX,dg,dh,di,dn,dk,cj,cl,cn,cp,al,bI,Tryz.vr,Value.oneCell',simprocAttr, -List.reduceReplicate]
  refine aD (by decide) ?_
  simp only[aA .u64 16 _ 0 (by omega),aN,bp,cX,dg,dh,di,dn,dk,cj,cl,cn,cp,al,bI,Tryz.vr,Value.oneCell',simprocAttr, -List.reduceReplicate]
  rfl
 | n+1,hn=>by
  have ih:=BO z hz n (by omega)
  have hd:=lJ z hz n
  have hq:=aZ hd hd
  have e1:(((n+1:Nat):Int) - 1)=(n:Int):=by omega
  have e2:IntKind.i64.wrap ((n:Int) - 1)=(n:Int) - 1:=wrap_i64 _ (by omega) (by omega)
  have e3:IntKind.i64.wrap ((254:Int) - n)=(254:Int) - n:=wrap_i64 _ (by omega) (by omega)
  rw[e1]
  refine aK Tryz.func46 rfl (by kernel_rfl) (by simp[Tryz.ntmps46]) rfl rfl ?_
  simp only[Tryz.results46,aN,bp,cX,dg,dh,di,dn,dk,cj,cl,cn,cp,al,bI,Tryz.vr,Value.oneCell',simprocAttr, -List.reduceReplicate]
  refine aH (by simp) ?_
  simp only[e2,aN,bp,cX,dg,dh,di,dn,dk,cj,cl,cn,cp,al,bI,Tryz.vr,Value.oneCell',simprocAttr, -List.reduceReplicate]
  refine ih.aB ?_
  simp only[aN,bp,cX,dg,dh,di,dn,dk,cj,cl,cn,cp,al,bI,Tryz.vr,Value.oneCell',simprocAttr, -List.reduceReplicate]
  refine (eW _ _ hd hd).aB ?_
  by_cases h2:n=252
  ·have t2:((254:Int) - n==2)=true:=by simp;omega
   simp only[e3,t2,aN,bp,cX,dg,dh,di,dn,dk,cj,cl,cn,cp,al,bI,Tryz.vr,Value.oneCell',simprocAttr, -List.reduceReplicate]
   rw[lI,if_pos (Or.inl h2)]
  ·have t2:((254:Int) - n==2)=false:=by simp;omega
   by_cases h4:n=250
   ·have t4:((254:Int) - n==4)=true:=by simp;omega
    simp only[e3,t2,t4,aN,bp,cX,dg,dh,di,dn,dk,cj,cl,cn,cp,al,bI,Tryz.vr,Value.oneCell',simprocAttr, -List.reduceReplicate]
    rw[lI,if_pos (Or.inr h4)]
   ·have t4:((254:Int) - n==4)=false:=by simp;omega
    simp only[e3,t2,t4,aN,bp,cX,dg,dh,di,dn,dk,cj,cl,cn,cp,al,bI,Tryz.vr,Value.oneCell',simprocAttr, -List.reduceReplicate]
    refine (eW _ _ hq hz).aB ?_
    simp only[aN,bp,cX,dg,dh,di,dn,dk,cj,cl,cn,cp,al,bI,Tryz.vr,Value.oneCell',simprocAttr, -List.reduceReplicate]
    rw[lI,if_neg (by omega)]
theorem ace (K:Nat→Int) (hK:By K) (t:Nat):((cr .u8 (K (t / 8)) ((t%8:Nat):Int)).tmod 2==0)= !lG K t:=by
 have h:=hK (t / 8)
 rw[dK .u8 _ _ (by simp[IntKind.bits];omega)]
 have hd:=wh h.1 (t%8)
 rw[Int.tmod_eq_emod_of_nonneg hd.1]
 simp only[lG]
 by_cases he:K (t / 8) / 2^(t%8)%2=1
 ·simp[he]
 ·have:K (t / 8) / 2^(t%8)%2=0:=by omega
  simp[this]
structure N4 where
 a:Nat→Int
 b:Nat→Int
 c:Nat→Int
 d:Nat→Int
def N4.l (r:N4):List SV:=lN r.a r.b r.c r.d
structure N4.dU (r:N4):Prop where
 a:Proofs.YtoakenpcooglpaaGreatDoor.dU r.a
 b:Proofs.YtoakenpcooglpaaGreatDoor.dU r.b
 c:Proofs.YtoakenpcooglpaaGreatDoor.dU r.c
 d:Proofs.YtoakenpcooglpaaGreatDoor.dU r.d
def U1 (s:Bool) (u:Nat→Int) (r:N4):N4:=
 if s then ⟨du (ME r.a r.b r.c r.d) (ME r.a r.b r.c r.d),du u (du (MF r.a r.b r.c r.d) (MF r.a r.b r.c r.d)),V5 r.c r.d,V6 r.c r.d⟩
 else ⟨V5 r.a r.b,V6 r.a r.b,du (ME r.a r.b r.c r.d) (ME r.a r.b r.c r.d),du u (du (MF r.a r.b r.c r.d) (MF r.a r.b r.c r.d))⟩
theorem aav {a b c d:Nat→Int} (ha:dU a) (hb:dU b) (hc:dU c) (hd:dU d):dU (ME a b c d):=
 cD (aZ (cu hc hd) (cD ha hb)) (aZ (cD hc hd) (cu ha hb))
theorem aaw {a b c d:Nat→Int} (ha:dU a) (hb:dU b) (hc:dU c) (hd:dU d):dU (MF a b c d):=
 cu (aZ (cu hc hd) (cD ha hb)) (aZ (cD hc hd) (cu ha hb))
theorem MG {x z:Nat→Int} (hx:dU x) (hz:dU z):dU (acd x z):=
 cu (aZ (cD hx hz) (cD hx hz)) (aZ (cu hx hz) (cu hx hz))
theorem MH {x z:Nat→Int} (hx:dU x) (hz:dU z):dU (V5 x z):=
 aZ (aZ (cD hx hz) (cD hx hz)) (aZ (cu hx hz) (cu hx hz))
theorem MI {x z:Nat→Int} (hx:dU x) (hz:dU z):dU (V6 x z):=
 aZ (MG hx hz) (cD (aZ (cD hx hz) (cD hx hz)) (aZ BM (MG hx hz)))
theorem V7 (s:Bool) (u:Nat→Int) (r:N4) (hu:dU u) (h:r.dU):(U1 s u r).dU:=by
 obtain ⟨ha,hb,hc,hd⟩:=h
 have hx:=aav ha hb hc hd
 have hz:=aaw ha hb hc hd
 cases s
 ·exact ⟨MH ha hb,MI ha hb,aZ hx hx,aZ hu (aZ hz hz)⟩
 ·exact ⟨aZ hx hx,aZ hu (aZ hz hz),MH hc hd,MI hc hd⟩
def pC (K u:Nat→Int):Nat→N4
 | 0=>⟨O1,zN,u,O1⟩
 | n+1=>U1 (lG K (254 - n)) u (pC K u n)
theorem lK (K u:Nat→Int) (hu:dU u): ∀ n,(pC K u n).dU
 | 0=>⟨BN,agA,hu,BN⟩
 | n+1=>V7 _ _ _ hu (lK K u hu n)
theorem FX (K u:Nat→Int) (hK:By K) (hu:dU u): ∀ n:Nat,n≤255→cB Tryz.prog 45 [Ag (ae .u64 16 u),Ag (ae .u8 32 K),I .i64 (255 - (n:Int))] (Ag (pC K u n).l)
 | 0,_=>by
  simp only[N4.l,pC]
  refine aK Tryz.func45 rfl (by kernel_rfl) (by simp[Tryz.ntmps45]) rfl rfl ?_
  simp only[Tryz.results45,aN,bp,cX,dg,dh,di,dn,dk,cj,cl,cn,cp,al,bI,Tryz.vr,Value.oneCell',simprocAttr, -List.reduceReplicate]
  refine aD (by decide) ?_
  simp only[aA .u64 16 _ 0 (by omega),aN,bp,cX,dg,dh,di,dn,dk,cj,cl,cn,cp,al,bI,Tryz.vr,Value.oneCell',simprocAttr, -List.reduceReplicate]
  rfl
 | n+1,hn=>by
  have ih:=FX K u hK hu n (by omega)
  obtain ⟨ha,hb,hc,hd⟩:=lK K u hu n
  have hsp:=G9 _ _ _ _ u ha hb hc hd hu
  obtain ⟨t,ht⟩: ∃ t:Nat,(255:Int) - ((n+1:Nat):Int)=t:=⟨254 - n,by omega⟩
  have e1:IntKind.i64.wrap ((t:Int)+1)=255 - (n:Int):=by rw[wrap_i64 _ (by omega) (by omega)];omega
  have hg:=ay .u8 32 K (t / 8) (by omega)
  have hq:=Xn t (by omega)
  have hlt:(((t / 8:Nat):Int) < 32)=True:=cf (m:=32) (by omega)
  have hu8:IntKind.u64.wrap ((t%8:Nat):Int)=((t%8:Nat):Int):=au _ (by omega) (by omega)
  have hs:pC K u (n+1)=U1 (lG K t) u (pC K u n):=by rw[pC,show 254 - n=t from by omega]
  rw[ht,hs]
  simp only[N4.l]at ih ⊢
  refine aK Tryz.func45 rfl (by kernel_rfl) (by simp[Tryz.ntmps45]) rfl rfl ?_
  simp only[Tryz.results45,aN,bp,cX,dg,dh,di,dn,dk,cj,cl,cn,cp,al,bI,Tryz.vr,Value.oneCell',simprocAttr, -List.reduceReplicate]
  refine aH (by simp;omega) ?_
  simp only[e1,aN,bp,cX,dg,dh,di,dn,dk,cj,cl,cn,cp,al,bI,Tryz.vr,Value.oneCell',simprocAttr, -List.reduceReplicate]
  refine ih.aB ?_
  simp only[hq,IZ,hg,hlt,hu8,aN,bp,cX,dg,dh,di,dn,dk,cj,cl,cn,cp,al,bI,Tryz.vr,Value.oneCell',simprocAttr, -List.reduceReplicate]
  refine hsp.aB ?_
  simp only[aN,bp,cX,dg,dh,di,dn,dk,cj,cl,cn,cp,al,bI,Tryz.vr,Value.oneCell',simprocAttr, -List.reduceReplicate]
  rw[ace K hK t]
  cases lG K t
  ·refine aD rfl ?_
   simp only[aN,bp,cX,dg,dh,di,dn,dk,cj,cl,cn,cp,al,bI,Tryz.vr,Value.oneCell',simprocAttr, -List.reduceReplicate]
   refine (sm _ _ ha hb).aB ?_
   simp only[aN,bp,cX,dg,dh,di,dn,dk,cj,cl,cn,cp,al,bI,Tryz.vr,Value.oneCell',simprocAttr, -List.reduceReplicate]
   rfl
  ·refine aH rfl ?_
   simp only[aN,bp,cX,dg,dh,di,dn,dk,cj,cl,cn,cp,al,bI,Tryz.vr,Value.oneCell',simprocAttr, -List.reduceReplicate]
   refine (sm _ _ hc hd).aB ?_
   simp only[aN,bp,cX,dg,dh,di,dn,dk,cj,cl,cn,cp,al,bI,Tryz.vr,Value.oneCell',simprocAttr, -List.reduceReplicate]
   rfl
end Go.Proofs.YtoakenpcooglpaaGreatDoor
namespace Go.Proofs.YtoakenpcooglpaaGreatDoor
set_option maxHeartbeats 2000000
set_option maxRecDepth 20000
open Go.cA
set_option linter.unusedSectionVars false
variable [aX]
def iO (i:Nat):Int:=if i=0 then 65517 else if i=15 then 32767 else 65535
def wC (n:Nat→Int):Nat→Int
 | 0=>0
 | i+1=>1 - (n i+65536 - iO i - wC n i) / 65536
def BP (n:Nat→Int) (i:Nat):Int:=(n i+65536 - iO i - wC n i)%65536
def pD (n:Nat→Int):Nat→Int:=if wC n 16=1 then n else BP n
theorem MJ (i:Nat):32767≤iO i∧iO i≤65535:=by simp only[iO];split<;>(try split)<;>omega
theorem G' (n:Nat→Int) (h:dU n): ∀ i,0≤wC n i∧wC n i≤1
 | 0=>by simp[wC]
 | i+1=>by
  have:=G' n h i
  have:=h i
  have:=MJ i
  simp only[wC];omega
theorem U2 (n:Nat→Int): ∀ k,val (BP n) k=val n k - val iO k+wC n k*65536^k
 | 0=>by simp[val,wC]
 | k+1=>by
  have ih:=U2 n k
  have e:BP n k=n k - iO k - wC n k+65536*wC n (k+1):=by simp only[BP,wC];omega
  rw[FW,FW,FW,ih,Int.pow_succ,e]
  grind
theorem mD (n:Nat→Int) (h:dU n):dU (pD n)∧val (pD n) 16=if val n 16 < PP then val n 16 else val n 16 - PP:=by
 have hb:=G' n h 16
 have hv:=U2 n 16
 have hp:val iO 16=PP:=by simp[val,iO,PP]
 have hd:dU (BP n):=by intro i;simp only[BP];omega
 have hm:=mB _ hd 16
 have hn:=mB _ h 16
 have FC:(65536:Int)^16=115792089237316195423570985008687907853269984665640564039457584007913129639936:=by decide
 rw[hp,FC]at hv
 rw[FC]at hm hn
 have hPP:PP=57896044618658097711785492504343953926634992332820282019728792003956564819949:=rfl
 simp only[pD]
 by_cases hc:wC n 16=1
 ·rw[if_pos hc];rw[hc]at hv
  exact ⟨h,by rw[if_pos (by omega)]⟩
 ·have hc0:wC n 16=0:=by omega
  rw[if_neg hc];rw[hc0]at hv
  exact ⟨hd,by rw[if_neg (by omega)];omega⟩
theorem CD (n:Nat→Int) (h:dU n):cB Tryz.prog 74 [Ag (ae .u64 16 n)] (Ag (ae .u64 16 (pD n))):=by
 refine aK Tryz.func74 rfl (by kernel_rfl) (by simp[Tryz.ntmps74]) rfl rfl ?_
 simp only[Tryz.results74,Tryz.vr,Value.oneCell',simprocAttr, -List.reduceReplicate]
 refine aG 16 (fun k=>[(1,Ptr 0 0),(2,Ptr 1 0),(3,Ptr 2 0),(4,I .u64 (wC n k)),(5,I .i64 k)])
  (fun k=>[(0,⟨true,ae .u64 16 n⟩),(1,⟨true,ae .u64 16 (fun _=>0)⟩),(2,⟨true,ae .u64 16 (fun i=>if i < k then BP n i else 0)⟩)]) _ ?_ ?_ ?_
 ·simp only[bV,wC,Nat.not_lt_zero,Tryz.vr,Value.oneCell',simprocAttr, -List.reduceReplicate]
 ·intro k hk
  have lf:((k:Int) < 16)=True:=cf (m:=16) hk
  have hn:=h k
  have hb:=G' n h k
  have hpd:=MJ k
  have w1:IntKind.u64.wrap (n k+65536)=n k+65536:=au _ (by omega) (by omega)
  have w2:IntKind.u64.wrap (n k+65536 - iO k)=n k+65536 - iO k:=au _ (by omega) (by omega)
  have w3:IntKind.u64.wrap (n k+65536 - iO k - wC n k)=n k+65536 - iO k - wC n k:=au _ (by omega) (by omega)
  have t1:(n k+65536 - iO k - wC n k).tmod 65536=BP n k:=Int.tmod_eq_emod_of_nonneg (by omega)
  have t2:IntKind.u64.wrap ((n k+65536 - iO k - wC n k).tdiv 65536)=1 - wC n (k+1):=by
   rw[Int.tdiv_eq_ediv_of_nonneg (by omega),au _ (by omega) (by omega),wC];omega
  have ux:=G' n h (k+1)
  have t3:IntKind.u64.wrap (1 - (1 - wC n (k+1)))=wC n (k+1):=by rw[au _ (by omega) (by omega)];omega
  have fin:ae .u64 16 (upd (fun i=>if i < k then BP n i else 0) k (BP n k))=ae .u64 16 (fun i=>if i < k+1 then BP n i else 0):=fc
  simp only[Tryz.vr,Value.oneCell',simprocAttr, -List.reduceReplicate]
  refine aD (by simp;omega) ?_
  by_cases h0:k=0
  ·have p:iO k=65517:=by rw[h0];rfl
   have c0:((k:Int)==0)=true:=by simp;omega
   have c15:((k:Int)==15)=false:=by simp;omega
   rw[p]at w2 w3 t1 t2
   simp only[c0,c15,lf,ay .u64 16 _ k hk,aA .u64 16 _ k hk,w1,w2,w3,t1,t2,t3,bD k (by omega),fin,Tryz.vr,Value.oneCell',simprocAttr, -List.reduceReplicate]
   omega
  ·have c0:((k:Int)==0)=false:=by simp;omega
   by_cases h15:k=15
   ·have p:iO k=32767:=by rw[h15];rfl
    have c15:((k:Int)==15)=true:=by simp;omega
    rw[p]at w2 w3 t1 t2
    simp only[c0,c15,lf,ay .u64 16 _ k hk,aA .u64 16 _ k hk,w1,w2,w3,t1,t2,t3,bD k (by omega),fin,Tryz.vr,Value.oneCell',simprocAttr, -List.reduceReplicate]
    omega
   ·have p:iO k=65535:=by rw[iO,if_neg h0,if_neg h15]
    have c15:((k:Int)==15)=false:=by simp;omega
    rw[p]at w2 w3 t1 t2
    simp only[c0,c15,lf,ay .u64 16 _ k hk,aA .u64 16 _ k hk,w1,w2,w3,t1,t2,t3,bD k (by omega),fin,Tryz.vr,Value.oneCell',simprocAttr, -List.reduceReplicate]
    omega
 ·simp only[Tryz.vr,Value.oneCell',simprocAttr, -List.reduceReplicate]
  refine aH (by decide) ?_
  simp only[Tryz.vr,Value.oneCell',simprocAttr, -List.reduceReplicate]
  by_cases hc:wC n 16=1
  ·refine aD (by simp[hc]) ?_
   simp only[Tryz.vr,Value.oneCell',simprocAttr, -List.reduceReplicate]
   rw[pD,if_pos hc]
  ·refine aH (by simp[hc]) ?_
   simp only[Tryz.vr,Value.oneCell',simprocAttr, -List.reduceReplicate]
   rw[pD,if_neg hc,dG]
def wD (K:Nat→Int):Nat→Nat→Int
 | 0=>fun _=>0
 | n+1=>upd (wD K n) (n / 2) (wD K n (n / 2)+(if n%2=0 then K n else 256*K n))
theorem Ha (K:Nat→Int): ∀ n j,wD K n j=(if 2*j < n then K (2*j) else 0)+(if 2*j+1 < n then 256*K (2*j+1) else 0)
 | 0,j=>by simp[wD]
 | n+1,j=>by
  simp only[wD,upd]
  by_cases hj:j=n / 2
  ·subst hj
   rw[if_pos rfl,Ha K n]
   by_cases hp:n%2=0
   ·have e:2*(n / 2)=n:=by omega
    rw[if_pos hp,e,if_neg (by omega),if_neg (by omega),if_pos (by omega),if_neg (by omega)];omega
   ·have e:2*(n / 2)+1=n:=by omega
    rw[if_neg hp,e,if_pos (by omega),if_neg (by omega),if_pos (by omega),if_pos (by omega)];omega
  ·rw[if_neg hj,Ha K n]
   have a1:(2*j < n)=(2*j < n+1):=by apply propext;omega
   have a2:(2*j+1 < n)=(2*j+1 < n+1):=by apply propext;omega
   simp only[a1,a2]
theorem Hb (K:Nat→Int) (hK:By K) (n:Nat):dU (wD K n):=by
 intro j
 have h1:=hK (2*j)
 have h2:=hK (2*j+1)
 rw[Ha];split<;>split<;>omega
theorem acf (t:Nat):(t:Int).tmod 2=((t%2:Nat):Int):=(Int.ofNat_tmod t 2).symm
theorem acg (t:Nat) (h:t < 9223372036854775808):IntKind.i64.wrap ((t:Int).tdiv 2)=((t / 2:Nat):Int):=Cv t 2 h
theorem O2 (K:Nat→Int) (hK:By K):cB Tryz.prog 44 [Ag (ae .u8 32 K)] (Ag (ae .u64 16 (wD K 32))):=by
 refine aK Tryz.func44 rfl (by kernel_rfl) (by simp[Tryz.ntmps44]) rfl rfl ?_
 simp only[Tryz.results44,Tryz.vr,Value.oneCell',simprocAttr, -List.reduceReplicate]
 refine aG 32 (fun k=>[(1,Ptr 0 0),(2,Ptr 1 0),(3,Ptr 2 0),(4,I .i64 k)])
  (fun k=>[(0,⟨true,ae .u8 32 K⟩),(1,⟨true,ae .u64 16 (fun _=>0)⟩),(2,⟨true,ae .u64 16 (wD K k)⟩)]) _ ?_ ?_ ?_
 ·simp only[bV,wD,Tryz.vr,Value.oneCell',simprocAttr, -List.reduceReplicate]
 ·intro k hk
  have G6:((k:Int) < 32)=True:=cf (m:=32) hk
  have lf:(((k / 2:Nat):Int) < 16)=True:=cf (m:=16) (by omega)
  have hb:=hK k
  have hd:=Hb K hK k (k / 2)
  have w1:IntKind.u64.wrap (K k)=K k:=au _ (by omega) (by omega)
  have w2:IntKind.u64.wrap (256*K k)=256*K k:=au _ (by omega) (by omega)
  have w3:IntKind.u64.wrap (wD K k (k / 2)+K k)=wD K k (k / 2)+K k:=au _ (by omega) (by omega)
  have w4:IntKind.u64.wrap (wD K k (k / 2)+256*K k)=wD K k (k / 2)+256*K k:=au _ (by omega) (by omega)
  simp only[Tryz.vr,Value.oneCell',simprocAttr, -List.reduceReplicate]
  refine aD (by simp;omega) ?_
  by_cases h2:k%2=0
  ·have c2:(((k%2:Nat):Int)==0)=true:=by rw[h2];rfl
   have e:wD K (k+1)=upd (wD K k) (k / 2) (wD K k (k / 2)+K k):=by rw[wD,if_pos h2]
   simp only[acf,c2,acg k (by omega),lf,G6,ay .u8 32 K k hk,ay .u64 16 _ (k / 2) (show k / 2 < 16 by omega),aA .u64 16 _ (k / 2) (show k / 2 < 16 by omega),w1,w3,bD k (by omega),e,Tryz.vr,Value.oneCell',simprocAttr, -List.reduceReplicate]
   exact ⟨by kernel_rfl,by omega⟩
  ·have c2:(((k%2:Nat):Int)==0)=false:=by rw[show k%2=1 from by omega];rfl
   have e:wD K (k+1)=upd (wD K k) (k / 2) (wD K k (k / 2)+256*K k):=by rw[wD,if_neg h2]
   simp only[acf,c2,acg k (by omega),lf,G6,ay .u8 32 K k hk,ay .u64 16 _ (k / 2) (show k / 2 < 16 by omega),aA .u64 16 _ (k / 2) (show k / 2 < 16 by omega),w1,w2,w4,bD k (by omega),e,Tryz.vr,Value.oneCell',simprocAttr, -List.reduceReplicate]
   exact ⟨by kernel_rfl,by omega⟩
 ·simp only[Tryz.vr,Value.oneCell',simprocAttr, -List.reduceReplicate]
  refine aH (by decide) ?_
  simp only[Tryz.vr,Value.oneCell',simprocAttr, -List.reduceReplicate]
def jV (n:Nat→Int):Nat→Nat→Int
 | 0=>n
 | k+1=>pD (jV n k)
theorem kh (n:Nat→Int) (h:dU n): ∀ k,dU (jV n k)
 | 0=>h
 | k+1=>(mD _ (kh n h k)).1
def BQ (m:Nat→Int) (i:Nat):Int:=(if i%2=1 then m (i / 2) / 256 else m (i / 2))%256
theorem Hc (n:Nat→Int) (h:dU n):cB Tryz.prog 47 [Ag (ae .u64 16 n)] (Ag (ae .u8 32 (BQ (jV n 3)))):=by
 refine aK Tryz.func47 rfl (by kernel_rfl) (by simp[Tryz.ntmps47]) rfl rfl ?_
 simp only[Tryz.results47,Tryz.vr,Value.oneCell',simprocAttr, -List.reduceReplicate]
 refine aG 3 (fun k=>[(1,Ptr 0 0),(2,Ptr 1 0),(3,I .i64 k)])
  (fun k=>[(0,⟨true,ae .u64 16 (jV n k)⟩),(1,⟨true,ae .u8 32 (fun _=>0)⟩)]) _ ?_ ?_ ?_
 ·simp only[bV,jV,Tryz.vr,Value.oneCell',simprocAttr, -List.reduceReplicate]
 ·intro k hk
  simp only[Tryz.vr,Value.oneCell',simprocAttr, -List.reduceReplicate]
  refine aD (by simp;omega) ?_
  simp only[Tryz.vr,Value.oneCell',simprocAttr, -List.reduceReplicate]
  refine (CD _ (kh n h k)).aB ?_
  simp only[bD k (by omega),Tryz.vr,Value.oneCell',simprocAttr, -List.reduceReplicate]
  rfl
 ·simp only[Tryz.vr,Value.oneCell',simprocAttr, -List.reduceReplicate]
  refine aH (by decide) ?_
  have hd:=kh n h 3
  generalize jV n 3=m at*
  simp only[Tryz.vr,Value.oneCell',simprocAttr, -List.reduceReplicate]
  refine aG 32 (fun k=>[(1,Ptr 0 0),(2,Ptr 1 0),(4,Ptr 5 0),(5,I .i64 k)])
   (fun k=>[(0,⟨true,ae .u64 16 m⟩),(1,⟨true,ae .u8 32 (fun _=>0)⟩),(5,⟨true,ae .u8 32 (fun i=>if i < k then BQ m i else 0)⟩)]) _ ?_ ?_ ?_
  ·simp only[bV,Nat.not_lt_zero,if_false,Tryz.vr,Value.oneCell',simprocAttr, -List.reduceReplicate]
  ·intro k hk
   have G6:((k:Int) < 32)=True:=cf (m:=32) hk
   have lf:(((k / 2:Nat):Int) < 16)=True:=cf (m:=16) (by omega)
   have hb:=hd (k / 2)
   have fin:ae .u8 32 (upd (fun i=>if i < k then BQ m i else 0) k (BQ m k))=ae .u8 32 (fun i=>if i < k+1 then BQ m i else 0):=fc
   have w1:IntKind.u64.wrap ((m (k / 2)).tdiv 256)=m (k / 2) / 256:=by
    rw[Int.tdiv_eq_ediv_of_nonneg hb.1,au _ (by omega) (by omega)]
   simp only[Tryz.vr,Value.oneCell',simprocAttr, -List.reduceReplicate]
   refine aD (by simp;omega) ?_
   by_cases h2:k%2=1
   ·have c2:(((k%2:Nat):Int)==1)=true:=by rw[h2];rfl
    have w2:IntKind.u8.wrap ((m (k / 2) / 256).tmod 256)=BQ m k:=by
     rw[Int.tmod_eq_emod_of_nonneg (by omega),wrap_u8,BQ,if_pos h2];omega
    simp only[acf,c2,acg k (by omega),lf,G6,ay .u64 16 _ (k / 2) (show k / 2 < 16 by omega),aA .u8 32 _ k hk,w1,w2,bD k (by omega),fin,Tryz.vr,Value.oneCell',simprocAttr, -List.reduceReplicate]
    omega
   ·have c2:(((k%2:Nat):Int)==1)=false:=by rw[show k%2=0 from by omega];rfl
    have w2:IntKind.u8.wrap ((m (k / 2)).tmod 256)=BQ m k:=by
     rw[Int.tmod_eq_emod_of_nonneg hb.1,wrap_u8,BQ,if_neg h2];omega
    simp only[acf,c2,acg k (by omega),lf,G6,ay .u64 16 _ (k / 2) (show k / 2 < 16 by omega),aA .u8 32 _ k hk,w2,bD k (by omega),fin,Tryz.vr,Value.oneCell',simprocAttr, -List.reduceReplicate]
    omega
  ·simp only[Tryz.vr,Value.oneCell',simprocAttr, -List.reduceReplicate]
   refine aH (by decide) ?_
   simp only[dG,Tryz.vr,Value.oneCell',simprocAttr, -List.reduceReplicate]
def O3 (U:Nat→Int):Nat→Int:=upd U 31 (U 31%128)
theorem Hd (U:Nat→Int) (h:By U):By (O3 U):=by
 intro i
 have:=h i
 have:=h 31
 simp only[O3,upd];split<;>omega
def ajR (K U:Nat→Int):Nat→Int:=
 BQ (jV (du (pC (gD K) (wD (O3 U) 32) 255).a (lI (pC (gD K) (wD (O3 U) 32) 255).b 255)) 3)
theorem sn (K U:Nat→Int) (hK:By K) (hU:By U):cB Tryz.prog 24 [Ag (ae .u8 32 K),Ag (ae .u8 32 U)] (Ag (ae .u8 32 (ajR K U))):=by
 have k0:=hK 0
 have k31:=hK 31
 have u31:=hU 31
 have hC:ae .u8 32 (upd (upd K 0 (K 0 - K 0%8)) 31 (K 31%64+64))=ae .u8 32 (gD K):=aV fun i _=>by
  simp only[gD,upd]
  by_cases h0:i=0
  ·subst h0;simp
  ·by_cases h1:i=31
   ·subst h1;simp
   ·simp[h0,h1]
 have w1:IntKind.u8.wrap (K 0 - K 0%8)=K 0 - K 0%8:=ja _ (by omega) (by omega)
 have w2:IntKind.u8.wrap (K 31%64+64)=K 31%64+64:=ja _ (by omega) (by omega)
 have t1:(K 0).tmod 8=K 0%8:=Int.tmod_eq_emod_of_nonneg k0.1
 have t2:(K 31).tmod 64=K 31%64:=Int.tmod_eq_emod_of_nonneg k31.1
 have t3:(U 31).tmod 128=U 31%128:=Int.tmod_eq_emod_of_nonneg u31.1
 have u1:upd K 0 (K 0 - K 0%8) 31=K 31:=by simp[upd]
 have hu:=Hb _ (Hd U hU) 32
 have hr:=lK (gD K) _ hu 255
 have hf:=lJ _ hr.b 255
 have hrf:=FX (gD K) _ (FP K hK) hu 255 (by decide)
 have hff:=BO _ hr.b 255 (by decide)
 simp only[N4.l]at hrf
 refine aK Tryz.func24 rfl (by kernel_rfl) (by simp[Tryz.ntmps24]) rfl rfl ?_
 simp only[Tryz.results24,ay .u8 32 _ 0 (show 0 < 32 by omega),ay .u8 32 _ 31 (show 31 < 32 by omega),aA .u8 32 _ 0 (show 0 < 32 by omega),aA .u8 32 _ 31 (show 31 < 32 by omega),t1,t2,t3,w1,w2,u1,hC,aN,bp,cX,dg,dh,di,dn,dk,cj,cl,cn,cp,al,bI,Tryz.vr,Value.oneCell',simprocAttr, -List.reduceReplicate]
 refine (O2 _ (Hd U hU)).aB ?_
 simp only[aN,bp,cX,dg,dh,di,dn,dk,cj,cl,cn,cp,al,bI,Tryz.vr,Value.oneCell',simprocAttr, -List.reduceReplicate]
 refine hrf.aB ?_
 simp only[aN,bp,cX,dg,dh,di,dn,dk,cj,cl,cn,cp,al,bI,Tryz.vr,Value.oneCell',simprocAttr, -List.reduceReplicate]
 refine hff.aB ?_
 simp only[aN,bp,cX,dg,dh,di,dn,dk,cj,cl,cn,cp,al,bI,Tryz.vr,Value.oneCell',simprocAttr, -List.reduceReplicate]
 refine (eW _ _ hr.a hf).aB ?_
 simp only[aN,bp,cX,dg,dh,di,dn,dk,cj,cl,cn,cp,al,bI,Tryz.vr,Value.oneCell',simprocAttr, -List.reduceReplicate]
 refine (Hc _ (aZ hr.a hf)).aB ?_
 simp only[aN,bp,cX,dg,dh,di,dn,dk,cj,cl,cn,cp,al,bI,Tryz.vr,Value.oneCell',simprocAttr, -List.reduceReplicate]
 rfl
end Go.Proofs.YtoakenpcooglpaaGreatDoor
namespace Go.Proofs.YtoakenpcooglpaaGreatDoor
open Go.cA
set_option linter.unusedSectionVars false
variable [aX]
def jW (f:F5) (n:Nat→Int):Prop:=f.v%PP=val n 16%PP
theorem ach {a b x y:Int} (h:a%PP=x%PP) (k:b%PP=y%PP):a*b%PP=x*y%PP:=by rw[Int.mul_emod,h,k, ← Int.mul_emod]
theorem ajS {a b x y:Int} (h:a%PP=x%PP) (k:b%PP=y%PP):(a+b)%PP=(x+y)%PP:=by rw[Int.add_emod,h,k, ← Int.add_emod]
theorem ajT {a b x y:Int} (h:a%PP=x%PP) (k:b%PP=y%PP):(a - b)%PP=(x - y)%PP:=by rw[Int.sub_emod,h,k, ← Int.sub_emod]
theorem jW.mul {f g:F5} {n m:Nat→Int} (h:jW f n) (k:jW g m) (hn:dU n) (hm:dU m):jW (dX f g) (du n m):=by
 rw[jW,OV,(kT n m hn hm).2];exact ach h k
theorem jW.ajU {f g:F5} {n m:Nat→Int} (h:jW f n) (k:jW g m) (hn:dU n) (hm:dU m):jW (dX f g) (du m n):=by
 rw[jW,OV,(kT m n hm hn).2,Int.mul_comm];exact ach k h
theorem jW.add {f g:F5} {n m:Nat→Int} (h:jW f n) (k:jW g m) (hn:dU n) (hm:dU m):jW (mN f g) (iM n m):=by
 rw[jW,mN,aan,(rk n m hn hm).2];exact ajS h k
theorem jW.alY {f g:F5} {n m:Nat→Int} (h:jW f n) (k:jW g m) (hn:dU n) (hm:dU m):jW (mN f g) (iM m n):=by
 rw[jW,mN,aan,(rk m n hm hn).2,Int.add_comm];exact ajS k h
theorem jW.sub {f g:F5} {n m:Nat→Int} (h:jW f n) (k:jW g m) (hn:dU n) (hm:dU m):jW (mO f g) (fT n m):=by
 rw[jW,mO,aao,(n8 n m hn hm).2];exact ajT h k
theorem jW.sqc {f g:F5} {n m:Nat→Int} (h:jW f n) (k:jW g m) (hn:dU n) (hm:dU m):jW (dX (mO f g) (mO f g)) (du (fT m n) (fT m n)):=by
 have hd:=cu hm hn
 have e1:(mO f g).v%PP=(val n 16 - val m 16)%PP:=by rw[mO,aao];exact ajT h k
 have e2:=(n8 m n hm hn).2
 rw[jW,OV,(kT _ _ hd hd).2,ach e1 e1,ach e2 e2]
 congr 1;grind
structure Rel (r:R4) (q:N4):Prop where
 a:jW r.x2 q.a
 b:jW r.z2 q.b
 c:jW r.x3 q.c
 d:jW r.z3 q.d
theorem c_eq:jW F5.c cN:=by
 rw[jW];simp[F5.v,F5.c,val,cN,upd]
theorem one_eq:jW F5.one O1:=by
 rw[jW];simp[F5.v,F5.one,val,O1,upd]
theorem zero_eq:jW F5.zero zN:=by
 rw[jW];simp[F5.v,F5.zero,val,zN]
theorem He {x z:F5} {n m:Nat→Int} (hx:jW x n) (hz:jW z m) (hn:dU n) (hm:dU m):
  jW (dX (dX (mN x z) (mN x z)) (dX (mO x z) (mO x z))) (V5 n m)∧
  jW (dX (mO (dX (mN x z) (mN x z)) (dX (mO x z) (mO x z))) (mN (dX (mN x z) (mN x z)) (dX F5.c (mO (dX (mN x z) (mN x z)) (dX (mO x z) (mO x z)))))) (V6 n m):=by
 have h1:=cD hn hm
 have h2:=cu hn hm
 have p:=hx.add hz hn hm
 have s:=hx.sub hz hn hm
 have pp:=p.mul p h1 h1
 have ss:=s.mul s h2 h2
 have d1:=aZ h1 h1
 have d2:=aZ h2 h2
 have e:=pp.sub ss d1 d2
 have de:=cu d1 d2
 refine ⟨pp.mul ss d1 d2,e.mul (pp.add (c_eq.mul e BM de) d1 (aZ BM de)) de (cD d1 (aZ BM de))⟩
theorem step_eq (s:Bool) {r:R4} {q:N4} {u:F5} {n:Nat→Int} (h:Rel r q) (hq:q.dU) (hu:jW u n) (hn:dU n):Rel (exF s (rh (exF s r) u)) (U1 s n q):=by
 obtain ⟨ha,hb,hc,hd⟩:=h
 obtain ⟨da,db,dc,dd⟩:=hq
 have P:=cD da db
 have M:=cu da db
 have P':=cD dc dd
 have M':=cu dc dd
 have T1:=aZ M' P
 have T2:=aZ P' M
 cases s
 ·have t1:=(hc.sub hd dc dd).mul (ha.add hb da db) M' P
  have t2:=(hc.add hd dc dd).mul (ha.sub hb da db) P' M
  have x:=t1.add t2 T1 T2
  have z:=t1.sub t2 T1 T2
  have dx:=cD T1 T2
  have dz:=cu T1 T2
  exact ⟨(He ha hb da db).1,(He ha hb da db).2,x.mul x dx dx,hu.mul (z.mul z dz dz) hn (aZ dz dz)⟩
 ·have t2:=(ha.sub hb da db).ajU (hc.add hd dc dd) M P'
  have t1:=(ha.add hb da db).ajU (hc.sub hd dc dd) P M'
  have x:=t2.alY t1 T2 T1
  have zz:=t2.sqc t1 T2 T1
  have dx:=cD T1 T2
  have dz:=cu T1 T2
  exact ⟨x.mul x dx dx,hu.mul zz hn (aZ dz dz),(He hc hd dc dd).1,(He hc hd dc dd).2⟩
theorem aax (K:Nat→Int) {u:F5} {n:Nat→Int} (hu:jW u n) (hn:dU n): ∀ k,Rel (oU K u k) (pC K n k)
 | 0=>⟨one_eq,zero_eq,hu,one_eq⟩
 | k+1=>step_eq _ (aax K hu hn k) (lK K n hn k) hu hn
theorem inv_eq {f:F5} {n:Nat→Int} (h:jW f n) (hn:dU n): ∀ k,jW (jj f k) (lI n k)
 | 0=>one_eq
 | k+1=>by
  have ih:=inv_eq h hn k
  have hd:=lJ n hn k
  have sq:=ih.mul ih hd hd
  rw[jj,lI]
  split
  ·exact sq
  ·exact sq.mul h (aZ hd hd) hn
theorem V8 (n:Nat→Int) (h:dU n):val (jV n 3) 16=val n 16%PP:=by
 have FC:(65536:Int)^16=115792089237316195423570985008687907853269984665640564039457584007913129639936:=by decide
 have hv:=mB _ h 16
 have s1:=(mD _ h).2
 have s2:=(mD _ (kh n h 1)).2
 have s3:=(mD _ (kh n h 2)).2
 have e1:jV n 1=pD n:=rfl
 have e2:jV n 2=pD (jV n 1):=rfl
 have e3:jV n 3=pD (jV n 2):=rfl
 rw[← e1]at s1
 rw[← e2]at s2
 rw[← e3]at s3
 rw[FC]at hv
 have hPP:PP=57896044618658097711785492504343953926634992332820282019728792003956564819949:=rfl
 generalize val (jV n 3) 16=v3 at*
 generalize val (jV n 2) 16=v2 at*
 generalize val (jV n 1) 16=v1 at*
 generalize val n 16=v at*
 clear e1 e2 e3
 rw[hPP]at*
 split at s1<;>split at s2<;>split at s3<;>omega
theorem V9 (U:Nat→Int) (hU:By U):jW (kC (mX U 32)) (wD (O3 U) 32):=by
 have h0:mX U 32 0=U 0+256*U 1+65536*U 2+16777216*U 3+4294967296*U 4+1099511627776*U 5+281474976710656*U 6+72057594037927936*U 7:=by
  simp[mX,upd];omega
 have h1:mX U 32 1=U 8+256*U 9+65536*U 10+16777216*U 11+4294967296*U 12+1099511627776*U 13+281474976710656*U 14+72057594037927936*U 15:=by
  simp[mX,upd];omega
 have h2:mX U 32 2=U 16+256*U 17+65536*U 18+16777216*U 19+4294967296*U 20+1099511627776*U 21+281474976710656*U 22+72057594037927936*U 23:=by
  simp[mX,upd];omega
 have h3:mX U 32 3=U 24+256*U 25+65536*U 26+16777216*U 27+4294967296*U 28+1099511627776*U 29+281474976710656*U 30+72057594037927936*U 31:=by
  simp[mX,upd];omega
 have b:=(mA U hU 32).1
 have b0:=b 0
 have b1:=b 1
 have b2:=b 2
 have b3:=b 3
 have hv:(kC (mX U 32)).v=mX U 32 0+18446744073709551616*mX U 32 1+340282366920938463463374607431768211456*mX U 32 2+6277101735386680763835789423207666416102355444464034512896*(mX U 32 3%9223372036854775808):=by
  simp only[kC,F5.v];omega
 have ht:mX U 32 3%9223372036854775808=U 24+256*U 25+65536*U 26+16777216*U 27+4294967296*U 28+1099511627776*U 29+281474976710656*U 30+72057594037927936*(U 31%128):=by
  have:=hU 24
  have:=hU 25
  have:=hU 26
  have:=hU 27
  have:=hU 28
  have:=hU 29
  have:=hU 30
  have:=hU 31
  rw[h3];omega
 have hd:val (wD (O3 U) 32) 16=(kC (mX U 32)).v:=by
  rw[hv,ht,h0,h1,h2]
  simp[val,Ha,O3,upd]
  omega
 rw[jW,hd]
end Go.Proofs.YtoakenpcooglpaaGreatDoor
namespace Go.Proofs.YtoakenpcooglpaaGreatDoor
open Go.cA
set_option linter.unusedSectionVars false
variable [aX]
theorem words_eq (W m:Nat→Int) (hW: ∀ j,0≤W j∧W j < 18446744073709551616) (hm:dU m)
  (h:W 0+18446744073709551616*W 1+340282366920938463463374607431768211456*W 2+6277101735386680763835789423207666416102355444464034512896*W 3=val m 16):
  (W 0=m 0+65536*m 1+4294967296*m 2+281474976710656*m 3)∧(W 1=m 4+65536*m 5+4294967296*m 6+281474976710656*m 7)∧
  (W 2=m 8+65536*m 9+4294967296*m 10+281474976710656*m 11)∧(W 3=m 12+65536*m 13+4294967296*m 14+281474976710656*m 15):=by
 have e:val m 16=(m 0+65536*m 1+4294967296*m 2+281474976710656*m 3)+18446744073709551616*(m 4+65536*m 5+4294967296*m 6+281474976710656*m 7)+340282366920938463463374607431768211456*(m 8+65536*m 9+4294967296*m 10+281474976710656*m 11)+6277101735386680763835789423207666416102355444464034512896*(m 12+65536*m 13+4294967296*m 14+281474976710656*m 15):=by
  simp[val];omega
 rw[e]at h
 have w0:=hW 0
 have w1:=hW 1
 have w2:=hW 2
 have w3:=hW 3
 have q: ∀ a b c d:Nat,0≤m a+65536*m b+4294967296*m c+281474976710656*m d∧m a+65536*m b+4294967296*m c+281474976710656*m d < 18446744073709551616:=by
  intro a b c d
  have:=hm a
  have:=hm b
  have:=hm c
  have:=hm d
  omega
 have q0:=q 0 1 2 3
 have q1:=q 4 5 6 7
 have q2:=q 8 9 10 11
 have q3:=q 12 13 14 15
 generalize m 0+65536*m 1+4294967296*m 2+281474976710656*m 3=d0 at*
 generalize m 4+65536*m 5+4294967296*m 6+281474976710656*m 7=d1 at*
 generalize m 8+65536*m 9+4294967296*m 10+281474976710656*m 11=d2 at*
 generalize m 12+65536*m 13+4294967296*m 14+281474976710656*m 15=d3 at*
 clear e hm hW
 omega
theorem wU (w a b c d:Int) (ha:0≤a∧a < 65536) (hb:0≤b∧b < 65536) (hc:0≤c∧c < 65536) (hd:0≤d∧d < 65536) (h:w=a+65536*b+4294967296*c+281474976710656*d):
  w / 2^0%256=a%256∧w / 2^8%256=a / 256%256∧w / 2^16%256=b%256∧w / 2^24%256=b / 256%256∧
  w / 2^32%256=c%256∧w / 2^40%256=c / 256%256∧w / 2^48%256=d%256∧w / 2^56%256=d / 256%256:=by
 simp only[Int.reducePow]
 subst h
 refine ⟨?_, ?_, ?_, ?_, ?_, ?_, ?_, ?_⟩<;>omega
theorem bytes_eq (W m:Nat→Int) (hW: ∀ j,0≤W j∧W j < 18446744073709551616) (hm:dU m)
  (h:W 0+18446744073709551616*W 1+340282366920938463463374607431768211456*W 2+6277101735386680763835789423207666416102355444464034512896*W 3=val m 16):
  ∀ i,i < 32→FR W i=BQ m i:=by
 obtain ⟨e0,e1,e2,e3⟩:=words_eq W m hW hm h
 have b0:=wU _ _ _ _ _ (hm 0) (hm 1) (hm 2) (hm 3) e0
 have b1:=wU _ _ _ _ _ (hm 4) (hm 5) (hm 6) (hm 7) e1
 have b2:=wU _ _ _ _ _ (hm 8) (hm 9) (hm 10) (hm 11) e2
 have b3:=wU _ _ _ _ _ (hm 12) (hm 13) (hm 14) (hm 15) e3
 intro i hi
 match i,hi with
 | 0,_=>exact b0.1
 | 1,_=>exact b0.2.1
 | 2,_=>exact b0.2.2.1
 | 3,_=>exact b0.2.2.2.1
 | 4,_=>exact b0.2.2.2.2.1
 | 5,_=>exact b0.2.2.2.2.2.1
 | 6,_=>exact b0.2.2.2.2.2.2.1
 | 7,_=>exact b0.2.2.2.2.2.2.2
 | 8,_=>exact b1.1
 | 9,_=>exact b1.2.1
 | 10,_=>exact b1.2.2.1
 | 11,_=>exact b1.2.2.2.1
 | 12,_=>exact b1.2.2.2.2.1
 | 13,_=>exact b1.2.2.2.2.2.1
 | 14,_=>exact b1.2.2.2.2.2.2.1
 | 15,_=>exact b1.2.2.2.2.2.2.2
 | 16,_=>exact b2.1
 | 17,_=>exact b2.2.1
 | 18,_=>exact b2.2.2.1
 | 19,_=>exact b2.2.2.2.1
 | 20,_=>exact b2.2.2.2.2.1
 | 21,_=>exact b2.2.2.2.2.2.1
 | 22,_=>exact b2.2.2.2.2.2.2.1
 | 23,_=>exact b2.2.2.2.2.2.2.2
 | 24,_=>exact b3.1
 | 25,_=>exact b3.2.1
 | 26,_=>exact b3.2.2.1
 | 27,_=>exact b3.2.2.2.1
 | 28,_=>exact b3.2.2.2.2.1
 | 29,_=>exact b3.2.2.2.2.2.1
 | 30,_=>exact b3.2.2.2.2.2.2.1
 | 31,_=>exact b3.2.2.2.2.2.2.2
 | n+32,h=>omega
theorem same (K U:Nat→Int) (hU:By U):ae .u8 32 (sg K U)=ae .u8 32 (ajR K U):=by
 refine aV fun i hi=> ?_
 have hu:(kC (mX U 32)).Ok:=FQ _ fun j=>⟨((mA U hU 32).1 j).1,((mA U hU 32).1 j).2.2⟩
 have hn:=Hb _ (Hd U hU) 32
 have hs:=V9 U hU
 have hr:=kb (gD K) _ hu 255
 have hq:=lK (gD K) _ hn 255
 have hl:=aax (gD K) hs hn 255
 have hi5:=inv_eq hl.b hq.b 255
 have hf:=lJ _ hq.b 255
 have hx:=hl.a.mul hi5 hq.a hf
 have ok:=gv _ _ hr.x2 (jt _ hr.z2 255)
 obtain ⟨hv,g0,g1,g2,g3,g4⟩:=Mw _ ok
 have hd:=aZ hq.a hf
 have hw:=aaq _ g0 g1 g2 g3 g4
 exact bytes_eq _ _ (UU _ g0 g1 g2 g3 g4) (kh _ hd 3) (by rw[← hw,hv,V8 _ hd];exact hx) i hi
theorem BR (K U:Nat→Int):By (sg K U):=by
 intro i;simp only[sg,FR];omega
end Go.Proofs.YtoakenpcooglpaaGreatDoor
namespace Go.Proofs.YtoakenpcooglpaaGreatDoor
set_option maxHeartbeats 2000000
open Go.cA
set_option linter.unusedSectionVars false
variable [aX]
def so:Nat→Int:=upd (fun _=>0) 0 9
theorem BS:By so:=by
 intro i;simp only[so,upd];split<;>omega
def agB (k:Nat→Int):Nat→Int:=sg k so
theorem Hf (k:Nat→Int) (hk:By k):cB Tryz.prog 61 [Ag (ae .u8 32 k)] (Ag (ae .u8 32 (agB k))):=by
 refine aK Tryz.func61 rfl (by kernel_rfl) (by simp[Tryz.ntmps61]) rfl rfl ?_
 simp only[Tryz.results61,Tryz.vs,Value.oneCell',simprocAttr, -List.reduceReplicate]
 have e:splice (ae .u8 32 fun _=>0) 0 [Sum.inl (Value.int .u8 9)]=ae .u8 32 so:=aA .u8 32 _ 0 (by decide) 9
 simp only[aF,al,e,Tryz.vr,Value.oneCell',simprocAttr, -List.reduceReplicate]
 refine (FT k so hk BS).aB ?_
 simp only[Tryz.vr,Value.oneCell',simprocAttr, -List.reduceReplicate]
 rfl
theorem O4 (k:Nat→Int) (hk:By k):cB Tryz.prog 25 [Ag (ae .u8 32 k)] (Ag (ae .u8 32 (agB k))):=by
 refine aK Tryz.func25 rfl (by kernel_rfl) (by simp[Tryz.ntmps25]) rfl rfl ?_
 simp only[Tryz.results25,Tryz.vs,Value.oneCell',simprocAttr, -List.reduceReplicate]
 have e:splice (ae .u8 32 fun _=>0) 0 [Sum.inl (Value.int .u8 9)]=ae .u8 32 so:=aA .u8 32 _ 0 (by decide) 9
 have r:=sn k so hk BS
 rw[← same k so BS]at r
 simp only[aF,al,e,Tryz.vr,Value.oneCell',simprocAttr, -List.reduceReplicate]
 refine r.aB ?_
 simp only[Tryz.vr,Value.oneCell',simprocAttr, -List.reduceReplicate]
 rfl
end Go.Proofs.YtoakenpcooglpaaGreatDoor
namespace Go.Proofs.YtoakenpcooglpaaGreatDoor
set_option maxHeartbeats 8000000
set_option maxRecDepth 20000
open Go.cA
set_option linter.unusedSectionVars false
variable [aX]
def kD (s:St) (seed:Nat→Int):St:=
 { s with priv:=seed,cQ:=agB seed,own:=true,has:=true,pn:=s.ns,ns:=0,se:=IntKind.u32.wrap (s.se+1),root:=Nj s.root (sg seed s.rU),send:=fun i=>Nj s.root (sg seed s.rU) (32+i) }
theorem FY {s:AS} {k:Nat} {v:AV} {x:St} {c:aW} {Post:AV→(Nat→Option aW)→Prop} (hk:0 < k) (hv:AV.plain v=true) (hb:s.box 0=some ⟨true,bO x⟩) (hx: ∀ r:Nat→Nat,(∀ n,n < k→r n=n)→SV.bh r x.store=x.store) (ho:SV.ok (fun n=>n < k+1) x.store) (h:Post v (lk [(0,⟨true,bO x⟩)])):Ct k Post v s:=by
 have hr: ∀ n,n < k→mH k k n=n:=fun n hn=>by unfold mH;rw[if_neg (by omega)]
 refine ⟨k,v,lk [(0,⟨true,bO x⟩)],Nat.le_refl k,(AV.cw hv _).symm,AV.bH hv,fun n b hn=> ?_,h⟩
 obtain ⟨rfl,rfl⟩:=NL hn
 exact ⟨by omega,fun e=>by omega,cO ho,⟨true,bO x⟩,by rw[NM hk];exact hb,fun _=>rfl,by rw[j7,hx _ hr]⟩
theorem BT {s:St} {seed:Nat→Int} {n:Nat} {f:Nat→En} {ds:List SV} (hs:iH s) (hb:bY seed) (h0:aY 1 s.store n f ds) (hq:ds.all SV.plain=true):
  bt Tryz.prog 36 [Ptr 0 0,Ag (ae .u8 32 seed)] 2 (lk [(0,⟨true,bO s⟩),(1,⟨false,ds⟩)]) (fun v out=>v= .inr []∧out=lk [(0,⟨true,bO (kD s seed)⟩)]):=by
 refine j9 Tryz.func36 rfl (by kernel_rfl) [] [] (by simp[Tryz.ntmps36]) Tryz.qj (fun y hy=>by
  simp only[List.mem_cons,List.not_mem_nil,or_false]at hy
  rcases hy with rfl | rfl
  ·exact (show 0 < 2 by decide)
  ·exact AV.bH (by simpa[AV.plain,CV.plain] using aw)) nq (fun m b hm=>by
  rcases HC hm with ⟨rfl,rfl⟩ | ⟨rfl,rfl⟩
  ·exact ⟨by decide,cO (h0.ok (by decide))⟩
  ·exact ⟨by decide,aJ hq⟩) ?_
 simp only[Tryz.results36,aq,az,aO,aj,ak,Tryz.vr,Value.oneCell',simprocAttr, -List.reduceReplicate]
 refine .inl ?_
 simp only[aq,az,aO,aj,ak,Tryz.vr,Value.oneCell',simprocAttr, -List.reduceReplicate]
 refine ⟨by kernel_rfl, ?_⟩
 refine (Hf seed hb).draw (by kernel_rfl) ?_
 simp only[aq,az,aO,aj,ak,Tryz.vr,Value.oneCell',simprocAttr, -List.reduceReplicate]
 refine .inl ?_
 simp only[aq,az,aO,aj,ak,Tryz.vr,Value.oneCell',simprocAttr, -List.reduceReplicate]
 refine ⟨by kernel_rfl, ?_⟩
 refine (FT seed s.rU hb hs.rU).draw (by kernel_rfl) ?_
 simp only[aq,az,aO,aj,ak,Tryz.vr,Value.oneCell',simprocAttr, -List.reduceReplicate]
 refine (Mm s.root (sg seed s.rU) hs.root (BR seed s.rU)).draw (by kernel_rfl) ?_
 simp only[sf,aq,az,aO,aj,ak,Tryz.vr,Value.oneCell',simprocAttr, -List.reduceReplicate]
 exact FY (x:=kD s seed) (c:=⟨false,ds⟩) (by decide) rfl (by simp only[aq,Tryz.vr,Value.oneCell',simprocAttr, -List.reduceReplicate];rfl) (fun r hr=>h0.bh (hr 1 (by decide))) (h0.ok (show 1 < 3 by decide)) ⟨rfl,rfl⟩
def lg (s:St):St:={ s with send:=sN s.send 2,ns:=IntKind.u32.wrap (s.ns+1) }
theorem Hg {s:St} {n:Nat} {f:Nat→En} {ds:List SV} (hs:bY s.send) (h0:aY 1 s.store n f ds) (hq:ds.all SV.plain=true):
  bt Tryz.prog 38 [Ptr 0 0] 2 (lk [(0,⟨true,bO s⟩),(1,⟨false,ds⟩)]) (fun v out=>v=Ag (ae .u8 32 (sN s.send 1))∧out=lk [(0,⟨true,bO (lg s)⟩)]):=by
 refine j9 Tryz.func38 rfl (by kernel_rfl) [] [] (by simp[Tryz.ntmps38]) Tryz.ql (fun y hy=>by
  simp only[List.mem_cons,List.not_mem_nil,or_false]at hy
  subst hy
  exact (show 0 < 2 by decide)) nq (fun m b hm=>by
  rcases HC hm with ⟨rfl,rfl⟩ | ⟨rfl,rfl⟩
  ·exact ⟨by decide,cO (h0.ok (by decide))⟩
  ·exact ⟨by decide,aJ hq⟩) ?_
 simp only[Tryz.results38,aq,az,aO,aj,ak,Tryz.vr,Value.oneCell',simprocAttr, -List.reduceReplicate]
 refine (G3 s.send hs).aB ?_
 simp only[sf,aq,az,aO,aj,ak,Tryz.vr,Value.oneCell',simprocAttr, -List.reduceReplicate]
 exact FY (x:=lg s) (c:=⟨false,ds⟩) (by decide) (by simpa[AV.plain,CV.plain] using aw) (by simp only[aq,Tryz.vr,Value.oneCell',simprocAttr, -List.reduceReplicate];rfl) (fun r hr=>h0.bh (hr 1 (by decide))) (h0.ok (show 1 < 3 by decide)) ⟨rfl,rfl⟩
end Go.Proofs.YtoakenpcooglpaaGreatDoor
namespace Go.Proofs.YtoakenpcooglpaaGreatDoor
set_option maxHeartbeats 8000000
set_option maxRecDepth 20000
open Go.cA
set_option linter.unusedSectionVars false
variable [aX]
def aay (k n:Nat) (s:St) (f:Nat→En) (v:AV) (out:Nat→Option aW):Prop:=
 v=Ptr k 0∧ ∃ sv bx,il (k+1) n f sv bx∧out=fun m=>if m=k then some ⟨true,bO { s with store:=sv }⟩ else if m=k+1 then bx else none
theorem BU {p q n:Nat} {f:Nat→En} {sv:SV} {bx:Option aW} (h:il q n f sv bx): ∃ Hh,il p n f Hh bx∧(∀ r:Nat→Nat,r p=q→SV.bh r Hh=sv)∧(∀ M:Nat→Prop,M p→SV.ok M Hh)∧ ∀ b,bx=some b→b.rw=true∧b.cells.all SV.plain=true:=by
 rcases h with ⟨h0,rfl,rfl⟩ | ⟨h0,c,cs,rfl,hg,rfl⟩
 ·exact ⟨_, .inl ⟨h0,rfl,rfl⟩,fun r hr=>rfl,fun M hM=>SV.bH rfl,fun b hb=>(by cases hb)⟩
 ·exact ⟨.inr (.inr (p,0,n,c)), .inr ⟨h0,c,cs,rfl,hg,rfl⟩,fun r hr=>by simp only[SV.bh,hr],fun M hM=>⟨hM,rfl⟩,fun b hb=>by cases hb;exact ⟨rfl,hg.plain⟩⟩
theorem O5 {s:AS} {k q p n:Nat} {x:St} {f:Nat→En} {sv:SV} {bx:Option aW} (hq:k≤q) (hp:k≤p) (hne:q≠p) (hb:s.box q=some ⟨true,bO { x with store:=sv }⟩) (hb':s.box p=bx) (hK:il p n f sv bx):Cz k 2 (aay k n x f) (Ptr q 0) s:=by
 obtain ⟨Hh,hK0,Zp,agC,lT⟩:=BU (p:=k+1) hK
 have r0:gM k (fun j=>if j=0 then q else p) k=q:=by unfold gM;rw[if_neg (by omega)];exact if_pos (by omega)
 have r1:gM k (fun j=>if j=0 then q else p) (k+1)=p:=by unfold gM;rw[if_neg (by omega)];exact if_neg (by omega)
 refine ⟨fun j=>if j=0 then q else p,Ptr k 0,fun m=>if m=k then some ⟨true,bO { x with store:=Hh }⟩ else if m=k+1 then bx else none,fun j hj=>by (dsimp only;split)<;>assumption,fun i j hi hj e=> ?_, ?_,(show k < k+2 by omega),fun m b hm=> ?_,rfl,Hh,bx,hK0,rfl⟩
 ·dsimp only at e
  split at e<;>split at e
  ·omega
  ·exact absurd e hne
  ·exact absurd e.symm hne
  ·omega
 ·show _=Ptr (gM k _ k) 0
  rw[r0]
 ·dsimp only at hm
  split at hm
  ·rename_i e;subst e;cases hm
   exact ⟨by omega,fun _=>rfl,cO (agC _ (by omega)),⟨true,bO { x with store:=sv }⟩,by rw[r0];exact hb,fun h=>h,by rw[j7,Zp _ r1]⟩
  ·split at hm
   ·rename_i _ e;subst e
    obtain ⟨h1,h2⟩:=lT b hm
    exact ⟨by omega,fun _=>h1,aJ h2,b,by rw[r1,hb',hm],fun h=>h,(bj h2 _).symm⟩
   ·cases hm
theorem V' {s:St} {n:Nat} {f:Nat→En} {cs:List SV} (h0:aY 0 s.store n f cs) (hp:cs.all SV.plain=true) (hn:n*72≤140737488355328):
  mL Tryz.prog 35 [Ag (bO s)] 1 2 (lk [(0,⟨false,cs⟩)]) (aay 1 n s f):=by
 refine jr Tryz.func35 rfl (by kernel_rfl) [1] [] (by simp[Tryz.ntmps35]) Tryz.qi (by decide) (fun y hy=>by
  obtain rfl:=List.mem_singleton.1 hy
  exact cO (h0.ok (by decide))) eG (eH hp) ?_
 simp only[Tryz.results35,bL,aq,az,aO,Tryz.vr,Value.oneCell',simprocAttr, -List.reduceReplicate]
 refine ⟨by decide, ?_⟩
 simp only[bL,aq,az,aO,Tryz.vr,Value.oneCell',simprocAttr, -List.reduceReplicate]
 refine sc (t:=0) (rw:=false) (by simp only[az,Tryz.vr,Value.oneCell',simprocAttr, -List.reduceReplicate]) hp h0 hn ?_
 intro sv bx hK
 simp only[bL,aq,az,aO,Tryz.vr,Value.oneCell',simprocAttr, -List.reduceReplicate]
 exact O5 (q:=19) (p:=11) (by decide) (by decide) (by decide) (by simp only[az,Tryz.vr,Value.oneCell',simprocAttr, -List.reduceReplicate]) (by simp only[az,Tryz.vr,Value.oneCell',simprocAttr, -List.reduceReplicate]) hK
theorem MK {p q n:Nat} {f:Nat→En} {sv:SV} {bx:Option aW} {r:Nat→Nat} (h:il p n f sv bx) (hr:r p=q):il q n f (SV.bh r sv) (bx.map (aW.bh r)):=by
 rcases h with ⟨h0,rfl,rfl⟩ | ⟨h0,c,cs,rfl,hg,rfl⟩
 ·exact .inl ⟨h0,rfl,rfl⟩
 ·exact .inr ⟨h0,c,cs,by simp only[SV.bh,hr],hg,ek hg.plain⟩
theorem CF {s:AS} {nm t n:Nat} {x:St} {f:Nat→En} {rw:Bool} {cs:List SV} (hb:s.box t=some ⟨rw,cs⟩) (hp:cs.all SV.plain=true) (hi:aY t x.store n f cs) (hn:n*72≤140737488355328) {dst:Option Nat} {K:AS→Prop}
  (hk: ∀ sv bx,il (nm+1) n f sv bx→K ((⟨s.env,upd (upd s.box nm (some ⟨true,bO { x with store:=sv }⟩)) (nm+1) bx,s.next⟩:AS).put dst (some (Ptr nm 0)))):bZ Tryz.prog nm 35 (some [Ag (bO x)]) dst K s:=by
 obtain ⟨v0,g0,e0⟩:=hi.name (k:=0)
 refine (V' (s:={ x with store:=v0 }) g0 hp hn).aB (fun _=>t) none (dp hb hp) ?_ ?_
 ·simp only[List.map_cons,List.map_nil,gX,e0 (fun _=>t) rfl]
 ·rintro v out ⟨rfl,sv,bx,hK,rfl⟩
  have e1:((⟨true,bO { x with store:=sv }⟩:aW)).bh (dt (fun _=>t) 1 nm)=⟨true,bO { x with store:=SV.bh (dt (fun _=>t) 1 nm) sv }⟩:=by unfold aW.bh;rw[j7]
  have e2:AV.bh (dt (fun _=>t) 1 nm) (Ptr 1 0)=Ptr nm 0:=by show Ptr (dt (fun _=>t) 1 nm 1) 0=_;rw[js]
  rw[Bw,e2]
  simp only[if_true,if_pos,if_neg (show ¬ (1+1=1) by decide),Option.map_some,e1]
  exact hk _ _ (MK hK Bv)
theorem U3 {s:AS} {t u:Nat} {x:St} {v0:SV} {rw:Bool} {ds:List SV} (h:s.box t=some ⟨true,bO x⟩) (h':s.box u=some ⟨rw,ds⟩) (hq:ds.all SV.plain=true) (hne:t≠u) (e:SV.bh (two t u) v0=x.store):
  Fits s (two t u) (lk [(0,⟨true,bO { x with store:=v0 }⟩),(1,⟨false,ds⟩)]) (some 0):=by
 refine ⟨fun m b hm=> ?_,fun m m' b b' hm hrw hm' e=> ?_,fun m b hm hrw=> ?_,fun m hm=> ?_⟩
 ·rcases HC hm with ⟨rfl,rfl⟩ | ⟨rfl,rfl⟩
  ·exact ⟨_,h,fun h=>h,by rw[j7];simp only[e]⟩
  ·exact ⟨_,h',fun h=>(by cases h),(bj hq _).symm⟩
 ·rcases HC hm with ⟨rfl,rfl⟩ | ⟨rfl,rfl⟩
  ·rcases HC hm' with ⟨rfl,rfl⟩ | ⟨rfl,rfl⟩
   ·rfl
   ·exact absurd e hne
  ·cases hrw
 ·rcases HC hm with ⟨rfl,rfl⟩ | ⟨rfl,rfl⟩
  ·rfl
  ·cases hrw
 ·cases hm;exact ⟨_,rfl,rfl⟩
theorem Wa {s:AS} {nm:Nat} {r:Nat→Nat} {k n:Nat} {out:Nat→Option aW} (h: ¬ (nm≤r n∧r n < nm+1)):ky s r k 1 nm (some n) out=upd (upd s.box (r n) ((out n).map (aW.bh (dt r k nm)))) nm ((out k).map (aW.bh (dt r k nm))):=by
 funext t
 unfold ky upd
 by_cases h1:t=nm
 ·subst h1;simp
 ·rw[if_neg (by omega)];simp[h1]
theorem O6 {s:AS} {nm t u n:Nat} {x:St} {seed:Nat→Int} {f:Nat→En} {rw:Bool} {ds:List SV} (hs:iH x) (hb:bY seed) (h:s.box t=some ⟨true,bO x⟩) (h':s.box u=some ⟨rw,ds⟩) (hq:ds.all SV.plain=true) (hne:t≠u) (hi:aY u x.store n f ds) {dst:Option Nat} {K:AS→Prop}
  (hk:K ((⟨s.env,upd s.box t (some ⟨true,bO (kD x seed)⟩),s.next⟩:AS).put dst (some (.inr [])))):aB Tryz.prog nm 36 (some [Ptr t 0,Ag (ae .u8 32 seed)]) dst K s:=by
 obtain ⟨v0,g0,e0⟩:=hi.name (k:=1)
 have e1:SV.bh (two t u) v0=x.store:=e0 _ rfl
 refine (BT (s:={ x with store:=v0 }) (hs.ws v0) hb g0 hq).aB (two t u) (some 0) (U3 h h' hq hne e1) ?_ ?_
 ·have:AV.bh (two t u) (Ag (ae .u8 32 seed))=Ag (ae .u8 32 seed):=AV.cw (by simpa[AV.plain,CV.plain] using aw) _
  simp only[List.map_cons,List.map_nil,this];rfl
 ·rintro v out ⟨rfl,rfl⟩ _
  have e2:SV.bh (fb (two t u) 2 nm) v0=x.store:=e0 _ rfl
  have:after s (two t u) 2 nm (some 0) (lk [(0,⟨true,bO (kD { x with store:=v0 } seed)⟩)])=upd s.box t (some ⟨true,bO (kD x seed)⟩):=by
   have e3:bO { (kD { x with store:=v0 } seed) with store:=x.store }=bO (kD x seed):=rfl
   simp only[after,lk,if_true,Option.map_some,aW.bh,j7]
   show upd s.box t (some ⟨true,bO { (kD { x with store:=v0 } seed) with store:=SV.bh (fb (two t u) 2 nm) v0 }⟩)=_
   rw[e2,e3]
  rw[this]
  exact hk
theorem O7 {s:AS} {nm t u n:Nat} {x:St} {f:Nat→En} {rw:Bool} {ds:List SV} (hs:bY x.send) (h:s.box t=some ⟨true,bO x⟩) (h':s.box u=some ⟨rw,ds⟩) (hq:ds.all SV.plain=true) (hne:t≠u) (hi:aY u x.store n f ds) (hnm:t≠nm) {dst:Option Nat} {K:AS→Prop}
  (hk:K ((⟨s.env,upd (upd s.box t (some ⟨true,bO (lg x)⟩)) nm none,s.next⟩:AS).put dst (some (Ag (ae .u8 32 (sN x.send 1)))))):bZ Tryz.prog nm 38 (some [Ptr t 0]) dst K s:=by
 obtain ⟨v0,g0,e0⟩:=hi.name (k:=1)
 have e1:SV.bh (two t u) v0=x.store:=e0 _ rfl
 refine (Hg (s:={ x with store:=v0 }) hs g0 hq).wide.aB (two t u) (some 0) (U3 h h' hq hne e1) ?_ ?_
 ·simp only[List.map_cons,List.map_nil];rfl
 ·rintro v out ⟨rfl,rfl⟩
  have e2:SV.bh (dt (two t u) 2 nm) v0=x.store:=e0 _ rfl
  have e4:AV.bh (dt (two t u) 2 nm) (Ag (ae .u8 32 (sN x.send 1)))=Ag (ae .u8 32 (sN x.send 1)):=AV.cw (by simpa[AV.plain,CV.plain] using aw) _
  rw[Wa (by show ¬ (nm≤t∧t < nm+1);omega),e4]
  have e3:bO { (lg { x with store:=v0 }) with store:=x.store }=bO (lg x):=rfl
  have:(some (⟨true,bO (lg { x with store:=v0 })⟩:aW)).map (aW.bh (dt (two t u) 2 nm))=some ⟨true,bO (lg x)⟩:=by
   simp only[Option.map_some,aW.bh,j7]
   show some (⟨true,bO { (lg { x with store:=v0 }) with store:=SV.bh (dt (two t u) 2 nm) v0 }⟩:aW)=_
   rw[e2,e3]
  have l0:lk [(0,(⟨true,bO (lg { x with store:=v0 })⟩:aW))] 0=some ⟨true,bO (lg { x with store:=v0 })⟩:=rfl
  have l2:lk [(0,(⟨true,bO (lg { x with store:=v0 })⟩:aW))] 2=none:=rfl
  rw[l0,l2,this]
  exact hk
end Go.Proofs.YtoakenpcooglpaaGreatDoor
namespace Go.Proofs.YtoakenpcooglpaaGreatDoor
open Go.cA
set_option linter.unusedSectionVars false
variable [aX]
end Go.Proofs.YtoakenpcooglpaaGreatDoor
namespace Go.Proofs.YtoakenpcooglpaaGreatDoor
set_option maxHeartbeats 8000000
set_option maxRecDepth 20000
open Go.cA
set_option linter.unusedSectionVars false
variable [aX]
theorem n9 {n o c:Nat} {f:Nat→Int} {cs:List SV} {x:Int} (hg:bR cs o n c f) (hn:n+4≤140737488355328):
  bt Tryz.prog 92 [Sl 0 o n c,I .u32 x] 1 (lk [(0,⟨true,cs⟩)]) (Made 1 (n+4) (aR n f (iI x))):=by
 refine aE Tryz.func92 rfl (by kernel_rfl) (by simp[Tryz.ntmps92]) Tryz.qP (by simp[AV.ok,CV.ok,SV.names]) eG (eH hg.plain) ?_
 have e0:IntKind.u8.wrap (cr .u32 x 24)=iI x 0:=rfl
 have e1:IntKind.u8.wrap (cr .u32 x 16)=iI x 1:=rfl
 have e2:IntKind.u8.wrap (cr .u32 x 8)=iI x 2:=rfl
 have e3:IntKind.u8.wrap x=iI x 3:=by unfold iI cr;simp
 simp only[Tryz.results92,e0,e1,e2,e3,af7,af8,af9,af',Tryz.vr,Value.oneCell',simprocAttr, -List.reduceReplicate]
 refine bn (g:=iI x) Tryz.bS Tryz.bW (by simp only[af,Tryz.vr,Value.oneCell',simprocAttr, -List.reduceReplicate]) hg (.inr ⟨14,0,4,true,_,rfl,by simp only[af,Tryz.vr,Value.oneCell',simprocAttr, -List.reduceReplicate],aga,by decide⟩) (by omega) ?_
 intro c2 kZ gC
 simp only[Tryz.vr,Value.oneCell',simprocAttr, -List.reduceReplicate]
 refine dS (k:=1) (q:=15) (cs:=kZ) (by decide) ?_ gC.plain gC.made
 simp only[Tryz.vr,Value.oneCell',simprocAttr, -List.reduceReplicate]
def iW (cQ:Nat→Int) (pn n:Int) (sv:SV) (tag:Nat→Int):List SV:=ae .u8 32 cQ++(Sum.inl (.int .u32 pn)::Sum.inl (.int .u32 n)::sv::ae .u8 32 tag)
def kU (cQ:Nat→Int) (pn n:Int):List SV:=ae .u8 32 cQ++[Sum.inl (.int .u32 pn),Sum.inl (.int .u32 n)]
section
variable {cQ tag:Nat→Int} {pn n:Int} {sv:SV}
theorem oI:(iW cQ pn n sv tag).length=67:=by simp[iW,ah]
theorem Hj:(kU cQ pn n).length=34:=by simp[kU,ah]
theorem U4:List.take 32 (iW cQ pn n sv tag)=ae .u8 32 cQ:=by
 unfold iW;rw[List.take_append_of_le_length (by rw[ah];omega)];exact hY _ _ _
theorem ML:List.take 34 (iW cQ pn n sv tag)=kU cQ pn n:=by
 unfold iW kU
 rw[List.take_append,ah,List.take_of_length_le (by rw[ah];omega)];rfl
theorem U5:List.take 32 (List.drop 35 (iW cQ pn n sv tag))=ae .u8 32 tag:=by
 unfold iW
 rw[List.drop_append,ah,List.drop_eq_nil_of_le (by rw[ah];omega),List.nil_append]
 exact hY _ _ _
theorem O8:(iW cQ pn n sv tag)[32]? =some (Sum.inl (.int .u32 pn)):=by
 unfold iW;rw[List.getElem?_append_right (by rw[ah];omega),ah];rfl
theorem O9:(iW cQ pn n sv tag)[33]? =some (Sum.inl (.int .u32 n)):=by
 unfold iW;rw[List.getElem?_append_right (by rw[ah];omega),ah];rfl
theorem tE:(iW cQ pn n sv tag)[34]? =some sv:=by
 unfold iW;rw[List.getElem?_append_right (by rw[ah];omega),ah];rfl
theorem su:List.take 67 (iW cQ pn n sv tag)=iW cQ pn n sv tag:=List.take_of_length_le (by rw[oI];omega)
theorem Hk:bE (iW cQ pn n sv tag) 0 32 cQ:=fun i hi=>by
 rw[Nat.zero_add];unfold iW;rw[List.getElem?_append_left (by rw[ah];exact hi),ay .u8 32 cQ i hi]
theorem sx:bE (iW cQ pn n sv tag) 35 32 tag:=fun i hi=>by
 unfold iW;rw[List.getElem?_append_right (by rw[ah];omega),ah,show 35+i - 32=i+1+1+1 by omega]
 simp only[List.getElem?_cons_succ]
 exact ay .u8 32 tag i hi
theorem aci {r:Nat→Nat}:(iW cQ pn n sv tag).map (SV.bh r)=iW cQ pn n (SV.bh r sv) tag:=by
 unfold iW
 rw[List.map_append,bj aw,List.map_cons,List.map_cons,List.map_cons,bj aw];rfl
theorem acj {x:SV} (h:x ∈ iW cQ pn n sv tag):x=sv∨SV.plain x=true:=by
 unfold iW at h
 rcases List.mem_append.1 h with h | h
 ·exact .inr (List.all_eq_true.1 aw x h)
 ·rcases List.mem_cons.1 h with rfl | h
  ·exact .inr rfl
  ·rcases List.mem_cons.1 h with rfl | h
   ·exact .inr rfl
   ·rcases List.mem_cons.1 h with rfl | h
    ·exact .inl rfl
    ·exact .inr (List.all_eq_true.1 aw x h)
theorem Hl {M:Nat→Prop} (h:SV.ok M sv): ∀ x ∈ iW cQ pn n sv tag,SV.ok M x:=fun x hx=>by
 rcases acj hx with rfl | h'
 ·exact h
 ·exact SV.bH h'
end
def U6 (cQ:Nat→Int) (pn n:Int) (m:Nat) (body tag:Nat→Int):Nat→Int:=
 aR (45+m) (aR 45 (aR 41 (aR 37 (aR 33 (aR 1 (fun _=>210) cQ) (iI pn)) (iI n)) (iI m)) body) tag
theorem sy {n:Nat} {sv:SV} {f:Nat→Int} {cs:List SV} {M:Nat→Prop} {t:Nat} (h:eD t (.inl (.inl sv)) n f cs) (hM:M t):SV.ok M sv:=by
 rcases h with ⟨⟨a,e⟩,h0⟩ | ⟨o,c,e,hs⟩
 ·cases e;exact ⟨trivial,rfl⟩
 ·cases e;exact ⟨hM,rfl⟩
theorem O' {n t:Nat} {sv:SV} {f:Nat→Int} {cs:List SV} (h:eD t (.inl (.inl sv)) n f cs): ∃ Hh,eD 0 (.inl (.inl Hh)) n f cs∧SV.bh (fun _=>t) Hh=sv:=by
 rcases h with ⟨⟨a,e⟩,h0⟩ | ⟨o,c,e,hs⟩
 ·cases e;exact ⟨_, .inl ⟨⟨a,rfl⟩,h0⟩,rfl⟩
 ·cases e;exact ⟨_, .inr ⟨o,c,rfl,hs⟩,rfl⟩
theorem BV {r:Nat→Nat} {cQ tag:Nat→Int} {pn n:Int} {sv:SV}:AV.bh r (Ag (iW cQ pn n sv tag))=Ag (iW cQ pn n (SV.bh r sv) tag):=by
 show AV.bh r (.inl (.inr _))=_
 simp only[AV.bh,CV.bh,aci]
theorem CG {cQ tag body:Nat→Int} {pn n:Int} {m:Nat} {sv:SV} {cs:List SV} (hp:cs.all SV.plain=true) (hb:eD 0 (.inl (.inl sv)) m body cs) (hm:m≤65536):
  bt Tryz.prog 69 [V (.slice none 0 0),Ag (iW cQ pn n sv tag)] 1 (lk [(0,⟨false,cs⟩)]) (Made 1 (45+m+32) (U6 cQ pn n m body tag)):=by
 refine aE Tryz.func69 rfl (by kernel_rfl) (by simp[Tryz.ntmps69]) Tryz.qC (fun u hu=>by
  simp only[List.mem_cons,List.not_mem_nil,or_false]at hu
  rcases hu with rfl | rfl
  ·trivial
  ·exact Hl (sy hb (by decide))) eG (eH hp) ?_
 have lenb:=fun {box:Nat→Option aW} (h:bC box (.inl (.inl sv)) m body)=>at_len h
 have Co:bC (lk [(0,(⟨false,cs⟩:aW))]) (.inl (.inl sv)) m body:=hb.at (t:=0) rfl hp
 simp only[Tryz.results69,oI,su,dL,Tryz.vr,Value.oneCell',simprocAttr, -List.reduceReplicate]
 refine ia (m:=1) (g:=fun _=>210) Tryz.bS Tryz.bW (.inr ⟨4,0,1,true,_,rfl,by simp only[af,Tryz.vr,Value.oneCell',simprocAttr, -List.reduceReplicate],rfl,b7⟩) (by decide) (fun h=>absurd h (by decide)) (fun _ c1 mT g1=> ?_)
 simp only[Tryz.vr,Value.oneCell',simprocAttr, -List.reduceReplicate]
 refine bn (m:=32) (g:=cQ) Tryz.bS Tryz.bW (by simp only[af,Tryz.vr,Value.oneCell',simprocAttr, -List.reduceReplicate]) g1 (.inr ⟨1,0,32,true,iW cQ pn n sv tag,rfl,by simp only[af,Tryz.vr,Value.oneCell',simprocAttr, -List.reduceReplicate],Hk,by decide⟩) (by omega) ?_
 intro c2 kZ g2
 simp only[O8,Tryz.vr,Value.oneCell',simprocAttr, -List.reduceReplicate]
 refine rN (n9 g2 (by omega)) (by simp only[af,Tryz.vr,Value.oneCell',simprocAttr, -List.reduceReplicate]) g2.plain rfl ?_
 intro c3 tt g3
 simp only[O9,Tryz.vr,Value.oneCell',simprocAttr, -List.reduceReplicate]
 refine rN (n9 g3 (by omega)) (by simp only[af,Tryz.vr,Value.oneCell',simprocAttr, -List.reduceReplicate]) g3.plain rfl ?_
 intro c4 Cn g4
 have hw:IntKind.u32.wrap (m:Int)=(m:Int):=kN _ (by omega) (by omega)
 simp only[tE,lenb Co,hw,Tryz.vr,Value.oneCell',simprocAttr, -List.reduceReplicate]
 refine rN (n9 g4 (by omega)) (by simp only[af,Tryz.vr,Value.oneCell',simprocAttr, -List.reduceReplicate]) g4.plain rfl ?_
 intro c5 cs5 g5
 simp only[tE,Tryz.vr,Value.oneCell',simprocAttr, -List.reduceReplicate]
 refine bn (m:=m) (g:=body) Tryz.bS Tryz.bW (by simp only[af,Tryz.vr,Value.oneCell',simprocAttr, -List.reduceReplicate]) g5 (lA (k:=1) Co (hb.ok (by decide)) (by decide) (fun t ht=> ?_)) (by omega) ?_
 ·obtain rfl:t=0:=by omega
  simp only[af,Tryz.vr,Value.oneCell',simprocAttr, -List.reduceReplicate]
 intro c6 cs6 g6
 simp only[Tryz.vr,Value.oneCell',simprocAttr, -List.reduceReplicate]
 refine bn (m:=32) (g:=tag) Tryz.bS Tryz.bW (by simp only[af,Tryz.vr,Value.oneCell',simprocAttr, -List.reduceReplicate]) g6 (.inr ⟨1,35,32,true,iW cQ pn n sv tag,rfl,by simp only[af,Tryz.vr,Value.oneCell',simprocAttr, -List.reduceReplicate],sx,by decide⟩) (by omega) ?_
 intro c7 cs7 g7
 simp only[Tryz.vr,Value.oneCell',simprocAttr, -List.reduceReplicate]
 refine dS (k:=1) (cs:=cs7) (by decide) ?_ g7.plain g7.made
 simp only[af,Tryz.vr,Value.oneCell',simprocAttr, -List.reduceReplicate]
theorem pE {cQ tag body:Nat→Int} {pn n:Int} {m:Nat} {sv:SV} {cs:List SV} (hp:cs.all SV.plain=true) (hb:eD 0 (.inl (.inl sv)) m body cs) (hm:m≤65536):
  bt Tryz.prog 40 [Ag (iW cQ pn n sv tag)] 1 (lk [(0,⟨false,cs⟩)]) (Made 1 (45+m+32) (U6 cQ pn n m body tag)):=by
 refine aE Tryz.func40 rfl (by kernel_rfl) (by simp[Tryz.ntmps40]) Tryz.mb (fun u hu=>by
  simp only[List.mem_cons,List.not_mem_nil,or_false]at hu
  subst hu
  exact Hl (sy hb (by decide))) eG (eH hp) ?_
 have lenb:=fun {box:Nat→Option aW} (h:bC box (.inl (.inl sv)) m body)=>at_len h
 have Co:bC (lk [(0,(⟨false,cs⟩:aW))]) (.inl (.inl sv)) m body:=hb.at (t:=0) rfl hp
 have d:decide (65536 < (m:Int))=false:=decide_eq_false (by omega)
 simp only[Tryz.results40,oI,su,tE,lenb Co,d,Tryz.vr,Value.oneCell',simprocAttr, -List.reduceReplicate]
 refine dW (CG (cQ:=cQ) (tag:=tag) (pn:=pn) (n:=n) hp hb hm) (fun _=>0) (dp (t:=0) (rw:=false) (by simp only[af,Tryz.vr,Value.oneCell',simprocAttr, -List.reduceReplicate]) hp) ?_ ?_
 ·have:SV.bh (fun _=>0) sv=sv:=by
   rcases hb with ⟨⟨a,e⟩,h0⟩ | ⟨o,c,e,hs⟩<;>cases e<;>rfl
  simp only[List.map_cons,List.map_nil,jS,BV,this]
 intro c tail h1 h2 h3
 simp only[Tryz.vr,Value.oneCell',simprocAttr, -List.reduceReplicate]
 refine eQ (k:=1) (by decide) (bR.row h1 h2 h3) ?_ rfl
 simp only[af,Tryz.vr,Value.oneCell',simprocAttr, -List.reduceReplicate]
theorem wE {cQ tag body:Nat→Int} {pn n:Int} {m:Nat} {sv:SV} {cs:List SV} (hp:cs.all SV.plain=true) (hb:eD 0 (.inl (.inl sv)) m body cs) (hm:65536 < m):
  bt Tryz.prog 40 [Ag (iW cQ pn n sv tag)] 1 (lk [(0,⟨false,cs⟩)]) (fun v out=>v=V (.slice none 0 0)∧out=fun _=>none):=by
 refine aE Tryz.func40 rfl (by kernel_rfl) (by simp[Tryz.ntmps40]) Tryz.mb (fun u hu=>by
  simp only[List.mem_cons,List.not_mem_nil,or_false]at hu
  subst hu
  exact Hl (sy hb (by decide))) eG (eH hp) ?_
 have lenb:=fun {box:Nat→Option aW} (h:bC box (.inl (.inl sv)) m body)=>at_len h
 have Co:bC (lk [(0,(⟨false,cs⟩:aW))]) (.inl (.inl sv)) m body:=hb.at (t:=0) rfl hp
 have d:decide (65536 < (m:Int))=true:=decide_eq_true (by omega)
 simp only[Tryz.results40,oI,su,tE,lenb Co,d,Tryz.vr,Value.oneCell',simprocAttr, -List.reduceReplicate]
 exact aC rfl ⟨rfl,rfl⟩
theorem MN {s:AS} {nm t m:Nat} {cQ tag body:Nat→Int} {pn n:Int} {sv:SV} {cs:List SV} {rw:Bool} (hb:s.box t=some ⟨rw,cs⟩) (hp:cs.all SV.plain=true) (hv:eD t (.inl (.inl sv)) m body cs) {dst:Option Nat} {K:AS→Prop}
  (aal:65536 < m→K (s.put dst (some (V (.slice none 0 0)))))
  (hk:m≤65536→ ∀ c cs',bR cs' 0 (45+m+32) c (U6 cQ pn n m body tag)→K ((⟨s.env,upd s.box nm (some ⟨true,cs'⟩),s.next⟩:AS).put dst (some (Sl nm 0 (45+m+32) c)))):
  aB Tryz.prog nm 40 (some [Ag (iW cQ pn n sv tag)]) dst K s:=by
 obtain ⟨Hh,h0,rfl⟩:=O' hv
 rcases Nat.lt_or_ge 65536 m with hm | hm
 ·exact (wE (cQ:=cQ) (tag:=tag) (pn:=pn) (n:=n) hp h0 hm).dV (fun _=>t) (dp hb hp) rfl (by simp only[List.map_cons,List.map_nil,BV]) (aal hm)
 ·exact dW (pE (cQ:=cQ) (tag:=tag) (pn:=pn) (n:=n) hp h0 hm) (fun _=>t) (dp hb hp) (by simp only[List.map_cons,List.map_nil,BV]) (fun c tail h1 h2 h3=>hk hm c _ (bR.row h1 h2 h3))
end Go.Proofs.YtoakenpcooglpaaGreatDoor
