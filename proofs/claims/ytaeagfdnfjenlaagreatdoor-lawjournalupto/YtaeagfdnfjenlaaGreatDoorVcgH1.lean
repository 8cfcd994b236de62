/-
  Words of the hash in the program: turning, the schedule of a block.
-/
import Derived.Test.YtaeagfdnfjenlaaGreatDoorVcgFacts
import Derived.Test.YtaeagfdnfjenlaaGreatDoorVcgZ1
import Derived.Test.YtaeagfdnfjenlaaGreatDoorVcgWM
set_option maxHeartbeats 8000000
set_option maxRecDepth 20000
set_option linter.unusedSimpArgs false
set_option linter.unusedVariables false
set_option linter.unusedSectionVars false
namespace Go.Proofs.YtaeagfdnfjenlaaGreatDoor
open Go.cn
variable [aX]
theorem jt (x n:Int) (h0:0≤n) (h1:n≤32):pU Tryz.prog 98 [I .u32 x,I .u64 n] (I .u32 (vH x n)):=by
 have w:IntKind.u64.wrap (32 - n)=32 - n:=bT _ (by omega) (by omega)
 have c1:(0≤32 - n)=True:=eq_true (by omega)
 have c0:(0≤n)=True:=eq_true h0
 refine fV Tryz.func98 rfl (by kernel_rfl) (by simp[Tryz.ntmps98]) rfl rfl ?_
 simp only[Tryz.results98,vS,seval, -List.reduceReplicate]
 simp only[w,c0,c1,vS,seval, -List.reduceReplicate]
 exact rfl
theorem RZ (x:Int) (n:Int) (h0:1≤n) (h1:n≤31):pU Tryz.prog 103 [I .u32 x,I .i64 (-n)] (I .u32 (vH x n)):=by
 have e:fu .and .u64 (IntKind.u64.wrap (-n)) 31=32 - n:=by
  rw[wrap_u64,show (31:Int)=2^5 - 1 from rfl,Ro _ 5 (by omega) (by omega) (by decide)];omega
 have w:IntKind.u64.wrap (32 - (32 - n))=n:=by rw[wrap_u64];omega
 have c1:(0≤32 - n)=True:=eq_true (by omega)
 have c0:(0≤n)=True:=eq_true (by omega)
 refine fV Tryz.func103 rfl (by kernel_rfl) (by simp[Tryz.ntmps103]) rfl rfl ?_
 simp only[Tryz.results103,vS,seval, -List.reduceReplicate]
 simp only[e,w,c0,c1,vS,seval, -List.reduceReplicate]
 exact congrArg (I .u32) (Rt _ _ _)
theorem ju (x n:Int) (h0:1≤n) (h1:n≤31):pU Tryz.prog 102 [I .u32 x,I .i64 n] (I .u32 (vH x n)):=by
 have w:IntKind.i64.wrap (0 - n)= -n:=by rw[wrap_i64 _ (by omega) (by omega)];omega
 refine fV Tryz.func102 rfl (by kernel_rfl) (by simp[Tryz.ntmps102]) rfl rfl ?_
 simp only[Tryz.results102,vS,seval, -List.reduceReplicate]
 simp only[w,vS,seval, -List.reduceReplicate]
 refine (RZ x n h0 h1).av ?_
 simp only[vS,seval, -List.reduceReplicate]
theorem Fc (v:Nat→Int):pU Tryz.prog 97 [Ag (ai .u32 8 v)] (Ag (ai .u8 32 (KE v))):=by
 refine fV Tryz.func97 rfl (by kernel_rfl) (by simp[Tryz.ntmps97]) rfl rfl ?_
 simp only[Tryz.results97,vR,seval, -List.reduceReplicate]
 refine bD 32 (fun k=>[(2,Ptr 1 0),(1,Ptr 0 0),(3,Ptr 2 0),(5,I .i64 k)])
  (fun k=>[(0,⟨true,ai .u32 8 v⟩),(1,⟨true,ai .u8 32 (fun _=>0)⟩),(2,⟨true,ai .u8 32 (fun i=>if i < k then KE v i else 0)⟩)]) _ ?_ ?_ ?_
 ·simp only[Nat.not_lt_zero,if_false,vR,seval, -List.reduceReplicate]
 ·intro j hj
  have a1:(((j / 4:Nat):Int) < 8)=True:=by simp;omega
  have a3:((j:Int) < 32)=True:=qp (m:=32) hj
  have q:=KB j 4 (by omega)
  have r:=zD j 4
  rw[show ((4:Nat):Int)=4 from rfl]at q r
  have w1:IntKind.i64.wrap (((j%4:Nat):Int)*8)=8*((j%4:Nat):Int):=by rw[wrap_i64 _ (by omega) (by omega)];omega
  have w2:IntKind.i64.wrap (24 - 8*((j%4:Nat):Int))=24 - 8*((j%4:Nat):Int):=wrap_i64 _ (by omega) (by omega)
  have a2:(0≤24 - 8*((j%4:Nat):Int))=True:=eq_true (by omega)
  have fin:ai .u8 32 (upd (fun i=>if i < j then KE v i else 0) j (KE v j))=ai .u8 32 (fun i=>if i < j+1 then KE v i else 0):=HN
  have eo:IntKind.u8.wrap (dK .u32 (v (j / 4)) (24 - 8*((j%4:Nat):Int)))=KE v j:=rfl
  simp only[vR,seval, -List.reduceReplicate]
  refine cz (by simp;omega) ?_
  simp only[q,r,w1,w2,a1,a2,a3,aF,bN .u32 8 v (j / 4) (by omega),Nat.mul_one,eo,dq .u8 32 _ j hj,fin,bU j (by omega),vR,seval, -List.reduceReplicate]
  omega
 ·simp only[vR,seval, -List.reduceReplicate]
  refine bR (by simp) ?_
  simp only[yl,vR,seval, -List.reduceReplicate]
theorem Zo {n:Nat} {f:Nat→Int} {o c:Nat} {cs:List SV} (hf:eJ f) (hc:aY cs o n f) (hp:cs.all SV.plain=true) (t:Nat) (ht:4*t+4≤n) (ht':t < 16):
  bd Tryz.prog 81 [Sl 0 o n c,I .i64 ((4*t:Nat):Int)] 1 (lk [(0,⟨false,cs⟩)]) (fun v out=>v=I .u32 (zM f t)∧out=fun _=>none):=by
 refine aG Tryz.func81 rfl (by kernel_rfl) (by simp[Tryz.ntmps81]) Tryz.o7 (by simp[AV.ok,CV.ok,SV.names]) fF (fG hp) ?_
 have a0:=hc (4*t) (by omega)
 have a1:=hc (4*t+1) (by omega)
 have a2:=hc (4*t+2) (by omega)
 have a3:=hc (4*t+3) (by omega)
 have w1:IntKind.i64.wrap (((4*t:Nat):Int)+1)=((4*t+1:Nat):Int):=wrap_i64 _ (by omega) (by omega)
 have w2:IntKind.i64.wrap (((4*t:Nat):Int)+2)=((4*t+2:Nat):Int):=wrap_i64 _ (by omega) (by omega)
 have w3:IntKind.i64.wrap (((4*t:Nat):Int)+3)=((4*t+3:Nat):Int):=wrap_i64 _ (by omega) (by omega)
 have w4:IntKind.i64.wrap (((4*t:Nat):Int)+4)=((4*t+4:Nat):Int):=wrap_i64 _ (by omega) (by omega)
 have d1:decide (((4*t:Nat):Int) < 0)=false:=decide_eq_false (by omega)
 have d2:decide ((n:Int) < ((4*t+4:Nat):Int))=false:=decide_eq_false (by omega)
 have l0:(((4*t:Nat):Int) < (n:Int))=True:=eq_true (by omega)
 have l1:(((4*t+1:Nat):Int) < (n:Int))=True:=eq_true (by omega)
 have l2:(((4*t+2:Nat):Int) < (n:Int))=True:=eq_true (by omega)
 have l3:(((4*t+3:Nat):Int) < (n:Int))=True:=eq_true (by omega)
 simp only[Tryz.results81,w1,w2,w3,w4,d1,d2,l0,l1,l2,l3,aF,a0,a1,a2,a3,Nat.mul_one,vR,seval, -List.reduceReplicate]
 have e:=Pp hf t
 simp only[e,vR,seval, -List.reduceReplicate]
 exact ⟨by kernel_rfl,aJ rfl ⟨rfl,rfl⟩⟩
def R0 (f:Nat→Int) (i t:Nat):Int:=if 4*t+4≤i then zM f t else if 4*t≤i then sH f t (i - 4*t) else 0
theorem R1 (f:Nat→Int): ∀ t,R0 f 0 t=0:=fun t=>by
 simp only[R0];rw[if_neg (by omega)]
 split
 ·rw[show 0 - 4*t=0 by omega];rfl
 ·rfl
theorem Zp (f:Nat→Int) (i:Nat):R0 f i (i / 4)=sH f (i / 4) (i%4):=by
 simp only[R0];rw[if_neg (by omega),if_pos (by omega),show i - 4*(i / 4)=i%4 by omega]
theorem R2 (f:Nat→Int) (i:Nat):upd (R0 f i) (i / 4) (sH f (i / 4) (i%4+1))=R0 f (i+1):=by
 funext t
 simp only[upd]
 split
 ·rename_i e;subst e
  simp only[R0]
  by_cases h:4*(i / 4)+4≤i+1
  ·rw[if_pos h,show i%4+1=4 by omega];rfl
  ·rw[if_neg h,if_pos (by omega),show i+1 - 4*(i / 4)=i%4+1 by omega]
 ·rename_i e
  simp only[R0]
  by_cases h:4*t+4≤i
  ·rw[if_pos h,if_pos (by omega)]
  ·rw[if_neg h,if_neg (show ¬ 4*t≤i by omega),if_neg (show ¬ 4*t+4≤i+1 by omega)]
   by_cases h3:4*t≤i+1
   ·rw[if_pos h3,show i+1 - 4*t=0 by omega];rfl
   ·rw[if_neg h3]
theorem VF (f:Nat→Int):ai .u32 64 (R0 f 64)=ai .u32 64 (jD f 16):=dB fun t ht=>by
 have: ∀ k,k≤16→jD f k t=if t < k then zM f t else 0:=fun k=>by
  induction k with
  | zero=>intro _;rfl
  | succ k ih=>
   intro hk
   simp only[jD,upd]
   split
   ·rename_i e;subst e;rw[if_pos (by omega),if_pos (by omega)]
   ·rw[ih (by omega)]
    by_cases h:t < k
    ·rw[if_pos h,if_pos (by omega)]
    ·rw[if_neg h,if_neg (by omega)]
 rw[this 16 (Nat.le_refl _)]
 simp only[R0]
 by_cases h:t < 16
 ·rw[if_pos (by omega),if_pos h]
 ·rw[if_neg (by omega),if_neg h]
  split
  ·rw[show 64 - 4*t=0 by omega];rfl
  ·rfl
theorem La {f:Nat→Int} {o c:Nat} {cs:List SV} (hf:eJ f) (hc:aY cs o 64 f) (hp:cs.all SV.plain=true):
  bd Tryz.prog 100 [Sl 0 o 64 c] 1 (lk [(0,⟨false,cs⟩)]) (fun v out=>v=Ag (ai .u32 64 (uJ f))∧out=fun _=>none):=by
 refine aG Tryz.func100 rfl (by kernel_rfl) (by simp[Tryz.ntmps100]) Tryz.Ij (by simp[AV.ok,CV.ok,SV.names]) fF (fG hp) ?_
 have nC: ∀ {M:Nat→Prop},(∀ x ∈ cs,SV.ok M x)=True:=eq_true (ao hp)
 simp only[Tryz.results100,vR,seval, -List.reduceReplicate]
 refine bD 64 (fun k=>[(2,Ptr 1 0),(3,Ptr 2 0),(9,Sl 0 o 64 c),(10,I .i64 64),(11,I .i64 k)])
  (fun k=>[(0,⟨false,cs⟩),(1,⟨true,ai .u32 64 (fun _=>0)⟩),(2,⟨true,ai .u32 64 (R0 f k)⟩)]) _ ?_ ?_ ?_
 ·simp only[nC,vR,seval, -List.reduceReplicate]
  exact congrArg (fun c=>some (aI.mk true c)) (dB fun i _=>(R1 f i).symm)
 ·intro j hj
  have a1:(((j / 4:Nat):Int) < 64)=True:=by simp;omega
  have a3:((j:Int) < 64)=True:=qp (m:=64) hj
  have q:=KB j 4 (by omega)
  rw[show ((4:Nat):Int)=4 from rfl]at q
  have st:=Po hf (j / 4) (j%4) (by omega)
  rw[show 4*(j / 4)+j%4=j by omega]at st
  simp only[vR,seval, -List.reduceReplicate]
  refine cz (by simp;omega) ?_
  simp only[q,a1,a3,aF,hc j hj,bN .u32 64 _ (j / 4) (show j / 4 < 64 by omega),Zp,st,Nat.mul_one,dq .u32 64 _ (j / 4) (show j / 4 < 64 by omega),R2,bU j (by omega),vR,seval, -List.reduceReplicate]
  exact ⟨by omega,ao hp⟩
 ·simp only[vR,seval, -List.reduceReplicate]
  refine bR (by simp) ?_
  simp only[VF,vR,seval, -List.reduceReplicate]
  refine bD 48 (fun k=>[(2,Ptr 1 0),(3,Ptr 2 0),(6,I .i64 ((16+k:Nat):Int))])
   (fun k=>[(1,⟨true,ai .u32 64 (fun _=>0)⟩),(2,⟨true,ai .u32 64 (jD f (16+k))⟩)]) _ ?_ ?_ ?_
  ·simp only[vR,seval, -List.reduceReplicate]
  ·intro k hk
   have VG:IntKind.i64.wrap (((16+k:Nat):Int) - 15)=((16+k - 15:Nat):Int):=by rw[wrap_i64 _ (by omega) (by omega)];omega
   have w2:IntKind.i64.wrap (((16+k:Nat):Int) - 2)=((16+k - 2:Nat):Int):=by rw[wrap_i64 _ (by omega) (by omega)];omega
   have w7:IntKind.i64.wrap (((16+k:Nat):Int) - 7)=((16+k - 7:Nat):Int):=by rw[wrap_i64 _ (by omega) (by omega)];omega
   have VH:IntKind.i64.wrap (((16+k:Nat):Int) - 16)=((16+k - 16:Nat):Int):=by rw[wrap_i64 _ (by omega) (by omega)];omega
   have VI:(((16+k - 15:Nat):Int) < 64)=True:=eq_true (by omega)
   have l2:(((16+k - 2:Nat):Int) < 64)=True:=eq_true (by omega)
   have l7:(((16+k - 7:Nat):Int) < 64)=True:=eq_true (by omega)
   have VJ:(((16+k - 16:Nat):Int) < 64)=True:=eq_true (by omega)
   have l0:(((16+k:Nat):Int) < 64)=True:=eq_true (by omega)
   have g: ∀ i,i < 64→(ai .u32 64 (jD f (16+k)))[i]? =some (Sum.inl (.int .u32 (jD f (16+k) i))):=fun i hi=>bN .u32 64 _ i hi
   simp only[vR,seval, -List.reduceReplicate]
   refine cz (by simp;omega) ?_
   simp only[VG,w2,w7,VH,VI,l2,l7,VJ,l0,aF,g _ (show 16+k - 15 < 64 by omega),g _ (show 16+k - 2 < 64 by omega),g _ (show 16+k - 7 < 64 by omega),g _ (show 16+k - 16 < 64 by omega),Nat.mul_one,vR,seval, -List.reduceReplicate]
   refine ⟨by kernel_rfl,pU.draw (ju _ 7 (by decide) (by decide)) Tryz.jQ ?_⟩
   simp only[VG,w2,w7,VH,VI,l2,l7,VJ,l0,aF,g _ (show 16+k - 15 < 64 by omega),g _ (show 16+k - 2 < 64 by omega),g _ (show 16+k - 7 < 64 by omega),g _ (show 16+k - 16 < 64 by omega),Nat.mul_one,vR,seval, -List.reduceReplicate]
   refine pU.draw (ju _ 18 (by decide) (by decide)) Tryz.jQ ?_
   simp only[VG,w2,w7,VH,VI,l2,l7,VJ,l0,aF,g _ (show 16+k - 15 < 64 by omega),g _ (show 16+k - 2 < 64 by omega),g _ (show 16+k - 7 < 64 by omega),g _ (show 16+k - 16 < 64 by omega),Nat.mul_one,vR,seval, -List.reduceReplicate]
   refine ⟨by kernel_rfl,pU.draw (ju _ 17 (by decide) (by decide)) Tryz.jQ ?_⟩
   simp only[VG,w2,w7,VH,VI,l2,l7,VJ,l0,aF,g _ (show 16+k - 15 < 64 by omega),g _ (show 16+k - 2 < 64 by omega),g _ (show 16+k - 7 < 64 by omega),g _ (show 16+k - 16 < 64 by omega),Nat.mul_one,vR,seval, -List.reduceReplicate]
   refine pU.draw (ju _ 19 (by decide) (by decide)) Tryz.jQ ?_
   simp only[VG,w2,w7,VH,VI,l2,l7,VJ,l0,aF,g _ (show 16+k - 15 < 64 by omega),g _ (show 16+k - 2 < 64 by omega),g _ (show 16+k - 7 < 64 by omega),g _ (show 16+k - 16 < 64 by omega),Nat.mul_one,vR,seval, -List.reduceReplicate]
   refine ⟨by kernel_rfl,by omega,congrArg (fun z=>some (I .i64 z)) (bU (16+k) (by omega)), ?_⟩
   have e:jD f (16+(k+1))=upd (jD f (16+k)) (16+k) (Rw (jD f (16+k)) (16+k)):=by
    show upd (jD f (16+k)) (16+k) (if 16+k < 16 then _ else _)=_
    rw[if_neg (by omega)];rfl
   rw[e, ← dq .u32 64 _ _ (by omega)]
   rfl
  ·simp only[vR,seval, -List.reduceReplicate]
   refine bR (by simp) ?_
   simp only[vR,seval, -List.reduceReplicate]
   exact aJ az ⟨rfl,rfl⟩
theorem Nx:[Sum.inl (Value.int IntKind.u32 0),Sum.inl (Value.int IntKind.u32 0),Sum.inl (Value.int IntKind.u32 0),Sum.inl (Value.int IntKind.u32 0),Sum.inl (Value.int IntKind.u32 0),Sum.inl (Value.int IntKind.u32 0),Sum.inl (Value.int IntKind.u32 0),Sum.inl (Value.int IntKind.u32 0)]=ai .u32 8 (fun _=>0):=rfl
theorem AB (v w:Nat→Int) (hv:Rv v):pU Tryz.prog 99 [Ag (ai .u32 8 v),Ag (ai .u32 64 w)] (Ag (ai .u32 8 (fun i=>IntKind.u32.wrap (v i+rounds kW v w 64 i)))):=by
 refine fV Tryz.func99 rfl (by kernel_rfl) (by simp[Tryz.ntmps99]) rfl rfl ?_
 have g: ∀ i,i < 8→(ai .u32 8 v)[i]? =some (Sum.inl (.int .u32 (v i))):=fun i hi=>bN .u32 8 _ i hi
 simp only[Tryz.results99,g 0 (by decide),g 1 (by decide),g 2 (by decide),g 3 (by decide),g 4 (by decide),g 5 (by decide),g 6 (by decide),g 7 (by decide),vR,seval, -List.reduceReplicate]
 refine ⟨by kernel_rfl,by kernel_rfl, ?_⟩
 refine bD 64 (fun k=>[(2,Ptr 0 0),(3,Ptr 1 0),(4,Ptr 2 0),(5,I .u32 (rounds kW v w k 0)),(6,I .u32 (rounds kW v w k 1)),(7,I .u32 (rounds kW v w k 2)),(8,I .u32 (rounds kW v w k 3)),(9,I .u32 (rounds kW v w k 4)),(10,I .u32 (rounds kW v w k 5)),(11,I .u32 (rounds kW v w k 6)),(12,I .u32 (rounds kW v w k 7)),(36,I .i64 k)])
  (fun k=>[(0,⟨true,ai .u32 8 v⟩),(1,⟨true,ai .u32 64 w⟩),(2,⟨true,ai .u32 8 (fun _=>0)⟩)]) _ ?_ ?_ ?_
 ·simp only[rounds,Nx,vR,seval, -List.reduceReplicate]
 ·intro k hk
  have hr:=vI (K:=kW) (w:=w) hv k
  have a3:((k:Int) < 64)=True:=qp (m:=64) hk
  have e: ∀ i,rounds kW v w (k+1) i=Pr (rounds kW v w k) (kW k) (w k) i:=fun i=>rfl
  have n4:=Vi _ (hr 4).1 (hr 4).2
  generalize rounds kW v w k=r at*
  simp only[vR,seval, -List.reduceReplicate]
  refine cz (by simp;omega) ?_
  simp only[a3,aF,bN .u32 64 w k hk,Nat.mul_one,vR,seval, -List.reduceReplicate]
  refine (ju _ 6 (by decide) (by decide)).av ?_
  simp only[vR,seval, -List.reduceReplicate]
  refine (ju _ 11 (by decide) (by decide)).av ?_
  simp only[vR,seval, -List.reduceReplicate]
  refine (ju _ 25 (by decide) (by decide)).av ?_
  simp only[a3,aF,bN .u32 64 w k hk,bN .u32 64 kW k hk,Nat.mul_one,vR,seval, -List.reduceReplicate]
  refine ⟨by kernel_rfl, ?_⟩
  refine (ju _ 2 (by decide) (by decide)).av ?_
  simp only[vR,seval, -List.reduceReplicate]
  refine (ju _ 13 (by decide) (by decide)).av ?_
  simp only[vR,seval, -List.reduceReplicate]
  refine (ju _ 22 (by decide) (by decide)).av ?_
  simp only[vR,seval, -List.reduceReplicate]
  have aeu:(if IntKind.u32.signed=true then -1 else IntKind.u32.max)=4294967295:=rfl
  simp only[e,bU k (by omega),aeu,n4,and_true]
  exact ⟨rfl,rfl,rfl,rfl,rfl,rfl,rfl,rfl⟩
 ·simp only[vR,seval, -List.reduceReplicate]
  refine bR (by simp) ?_
  simp only[vS,seval, -List.reduceReplicate]
  generalize rounds kW v w 64=r at*
  refine bD 8 (fun k=>[(2,Ptr 0 0),(4,Ptr 2 0),(109,Ag (ai .u32 8 r)),(110,I .i64 k)])
   (fun k=>[(0,⟨true,ai .u32 8 (fun i=>if i < k then IntKind.u32.wrap (v i+r i) else v i)⟩),(2,⟨true,ai .u32 8 (fun _=>0)⟩)]) _ ?_ ?_ ?_
  ·simp only[HO,vR,seval, -List.reduceReplicate]
   rfl
  ·intro k hk
   have a3:((k:Int) < 8)=True:=qp (m:=8) hk
   have hf:(if k < k then IntKind.u32.wrap (v k+r k) else v k)=v k:=if_neg (Nat.lt_irrefl k)
   have fin:ai .u32 8 (upd (fun i=>if i < k then IntKind.u32.wrap (v i+r i) else v i) k (IntKind.u32.wrap (v k+r k)))=ai .u32 8 (fun i=>if i < k+1 then IntKind.u32.wrap (v i+r i) else v i):=vF (f:=fun i=>IntKind.u32.wrap (v i+r i))
   simp only[vR,seval, -List.reduceReplicate]
   refine cz (by simp;omega) ?_
   simp only[a3,aF,bN .u32 8 _ k hk,hf,Nat.mul_one,dq .u32 8 _ k hk,fin,bU k (by omega),vR,seval, -List.reduceReplicate]
   omega
  ·simp only[vR,seval, -List.reduceReplicate]
   refine bR (by simp) ?_
   simp only[yl,vR,seval, -List.reduceReplicate]
theorem Lb {f v:Nat→Int} {o c:Nat} {cs:List SV} (hv:Rv v) (hf:eJ f) (hc:aY cs o 64 f) (hp:cs.all SV.plain=true):
  bd Tryz.prog 94 [Ag (ai .u32 8 v),Sl 0 o 64 c] 1 (lk [(0,⟨false,cs⟩)]) (fun u out=>u=Ag (ai .u32 8 (zN kW v f))∧out=fun _=>none):=by
 refine aG Tryz.func94 rfl (by kernel_rfl) (by simp[Tryz.ntmps94]) Tryz.K2 (fun u hu=>by
  simp only[bQ]at hu
  rcases hu with rfl | rfl
  ·exact ao az
  ·exact (by decide:0 < 1)) fF (fG hp) ?_
 have nC: ∀ {M:Nat→Prop},(∀ x ∈ cs,SV.ok M x)=True:=eq_true (ao hp)
 simp only[Tryz.results94,vR,seval, -List.reduceReplicate]
 refine bD 64 (fun k=>[(1,Sl 0 o 64 c),(2,Ptr 1 0),(4,Ptr 2 0),(5,Ptr 3 0),(6,I .i64 k)])
  (fun k=>[(0,⟨false,cs⟩),(1,⟨true,ai .u32 8 v⟩),(2,⟨true,ai .u32 8 (fun _=>0)⟩),(3,⟨true,ai .u32 64 (jD f k)⟩)]) _ ?_ ?_ ?_
 ·simp only[nC,Nx,jD,vR,seval, -List.reduceReplicate]
 ·intro k hk
  have l0:((k:Int) < 64)=True:=qp (m:=64) hk
  have ws:=bU k (by omega)
  simp only[vR,seval, -List.reduceReplicate]
  refine cz (by simp;omega) ?_
  by_cases h16:k < 16
  ·have e:jD f (k+1)=upd (jD f k) k (zM f k):=by
    show upd (jD f k) k (if k < 16 then _ else _)=_
    rw[if_pos h16]
   have w4:IntKind.i64.wrap (4*(k:Int))=((4*k:Nat):Int):=by rw[wrap_i64 _ (by omega) (by omega)];omega
   simp only[vR,seval, -List.reduceReplicate]
   refine cz (by simp;omega) ?_
   simp only[w4,vR,seval, -List.reduceReplicate]
   refine (Zo hf hc hp k (by omega) h16).cG (fun _=>0) (bZ (rw:=false) (by simp only[ae,vR,seval, -List.reduceReplicate]) hp) rfl rfl ?_
   simp only[nC,l0,aF,Nat.mul_one,ws,e,dq .u32 64 _ k hk,vR,seval, -List.reduceReplicate]
   omega
  ·have VG:IntKind.i64.wrap ((k:Int) - 15)=((k - 15:Nat):Int):=by rw[wrap_i64 _ (by omega) (by omega)];omega
   have w2:IntKind.i64.wrap ((k:Int) - 2)=((k - 2:Nat):Int):=by rw[wrap_i64 _ (by omega) (by omega)];omega
   have w7:IntKind.i64.wrap ((k:Int) - 7)=((k - 7:Nat):Int):=by rw[wrap_i64 _ (by omega) (by omega)];omega
   have VH:IntKind.i64.wrap ((k:Int) - 16)=((k - 16:Nat):Int):=by rw[wrap_i64 _ (by omega) (by omega)];omega
   have VI:(((k - 15:Nat):Int) < 64)=True:=eq_true (by omega)
   have l2:(((k - 2:Nat):Int) < 64)=True:=eq_true (by omega)
   have l7:(((k - 7:Nat):Int) < 64)=True:=eq_true (by omega)
   have VJ:(((k - 16:Nat):Int) < 64)=True:=eq_true (by omega)
   have g: ∀ i,i < 64→(ai .u32 64 (jD f k))[i]? =some (Sum.inl (.int .u32 (jD f k i))):=fun i hi=>bN .u32 64 _ i hi
   have e:jD f (k+1)=upd (jD f k) k (Rw (jD f k) k):=by
    show upd (jD f k) k (if k < 16 then _ else _)=_
    rw[if_neg h16]
   simp only[vR,seval, -List.reduceReplicate]
   refine bR (by simp;omega) ?_
   simp only[VG,w2,w7,VH,VI,l2,l7,VJ,l0,aF,g _ (show k - 15 < 64 by omega),g _ (show k - 2 < 64 by omega),g _ (show k - 7 < 64 by omega),g _ (show k - 16 < 64 by omega),Nat.mul_one,vR,seval, -List.reduceReplicate]
   refine ⟨by kernel_rfl,pU.draw (jt _ 17 (by decide) (by decide)) Tryz.gS ?_⟩
   simp only[vR,seval, -List.reduceReplicate]
   refine pU.draw (jt _ 19 (by decide) (by decide)) Tryz.gS ?_
   simp only[VG,w2,w7,VH,VI,l2,l7,VJ,l0,aF,g _ (show k - 15 < 64 by omega),g _ (show k - 2 < 64 by omega),g _ (show k - 7 < 64 by omega),g _ (show k - 16 < 64 by omega),Nat.mul_one,vR,seval, -List.reduceReplicate]
   refine pU.draw (jt _ 7 (by decide) (by decide)) Tryz.gS ?_
   simp only[vR,seval, -List.reduceReplicate]
   refine pU.draw (jt _ 18 (by decide) (by decide)) Tryz.gS ?_
   simp only[VG,w2,w7,VH,VI,l2,l7,VJ,l0,aF,g _ (show k - 15 < 64 by omega),g _ (show k - 2 < 64 by omega),g _ (show k - 7 < 64 by omega),g _ (show k - 16 < 64 by omega),Nat.mul_one,vR,seval, -List.reduceReplicate]
   simp only[nC,e,ws,true_and,and_true]
   refine ⟨by omega, ?_⟩
   rw[← dq .u32 64 _ k hk]
   rfl
 ·simp only[vR,seval, -List.reduceReplicate]
  refine bR (by simp) ?_
  simp only[dq .u32 8 _ _ (show 0 < 8 by decide),vR,seval, -List.reduceReplicate]
  have z8: ∀ r:Nat→Int,splice (ai .u32 8 (fun _=>0)) 0 (ai .u32 8 r)=ai .u32 8 r:=fun r=>gO .u32 8 _ _
  simp only[Nx,z8,vR,seval, -List.reduceReplicate]
  refine bD 64 (fun k=>[(2,Ptr 1 0),(4,Ptr 2 0),(5,Ptr 3 0),(9,Ptr 8 0),(10,I .i64 k)])
   (fun k=>[(1,⟨true,ai .u32 8 v⟩),(2,⟨true,ai .u32 8 (fun _=>0)⟩),(3,⟨true,ai .u32 64 (jD f 64)⟩),(8,⟨true,ai .u32 8 (rounds kW v (uJ f) k)⟩)]) _ ?_ ?_ ?_
  ·simp only[rounds,vR,seval, -List.reduceReplicate]
  ·intro k hk
   have hr:=vI (K:=kW) (w:=uJ f) hv k
   have l0:((k:Int) < 64)=True:=qp (m:=64) hk
   have ws:=bU k (by omega)
   have e: ∀ i,rounds kW v (uJ f) (k+1) i=Pr (rounds kW v (uJ f) k) (kW k) (jD f 64 k) i:=fun i=>rfl
   have ee:ai .u32 8 (rounds kW v (uJ f) (k+1))=ai .u32 8 (Pr (rounds kW v (uJ f) k) (kW k) (jD f 64 k)):=rfl
   have wx: ∀ r4:Int,0≤r4∧r4 < 4294967296→IntKind.u32.wrap (4294967295 - r4)=4294967295 - r4:=fun r4 h=>fR _ (by omega) (by omega)
   have w4:=wx _ (hr 4)
   rw[ee]
   generalize rounds kW v (uJ f) k=r at*
   have g: ∀ i,i < 8→(ai .u32 8 r)[i]? =some (Sum.inl (.int .u32 (r i))):=fun i hi=>bN .u32 8 _ i hi
   simp only[vR,seval, -List.reduceReplicate]
   refine cz (by simp;omega) ?_
   simp only[g 0 (by decide),g 1 (by decide),g 2 (by decide),g 3 (by decide),g 4 (by decide),g 5 (by decide),g 6 (by decide),g 7 (by decide),w4,vR,seval, -List.reduceReplicate]
   refine ⟨by kernel_rfl,pU.draw (jt _ 6 (by decide) (by decide)) Tryz.gS ?_⟩
   simp only[vR,seval, -List.reduceReplicate]
   refine pU.draw (jt _ 11 (by decide) (by decide)) Tryz.gS ?_
   simp only[vR,seval, -List.reduceReplicate]
   refine pU.draw (jt _ 25 (by decide) (by decide)) Tryz.gS ?_
   simp only[g 0 (by decide),g 1 (by decide),g 2 (by decide),g 3 (by decide),g 4 (by decide),g 5 (by decide),g 6 (by decide),g 7 (by decide),l0,aF,bN .u32 64 _ k hk,Nat.mul_one,w4,vR,seval, -List.reduceReplicate]
   refine (jt _ 2 (by decide) (by decide)).av ?_
   simp only[vR,seval, -List.reduceReplicate]
   refine (jt _ 13 (by decide) (by decide)).av ?_
   simp only[vR,seval, -List.reduceReplicate]
   refine (jt _ 22 (by decide) (by decide)).av ?_
   simp only[g 0 (by decide),g 1 (by decide),g 2 (by decide),g 3 (by decide),g 4 (by decide),g 5 (by decide),g 6 (by decide),g 7 (by decide),w4,vS,seval, -List.reduceReplicate]
   refine ⟨by rw[aD];decide,congrArg (fun z=>some (I .i64 z)) ws, ?_⟩
   rw[List.drop_of_length_le (by rw[aD];decide)]
   rfl
  ·simp only[vR,seval, -List.reduceReplicate]
   refine bR (by simp) ?_
   simp only[vR,seval, -List.reduceReplicate]
   generalize hR:rounds kW v (uJ f) 64=r at*
   refine bD 8 (fun k=>[(2,Ptr 1 0),(4,Ptr 2 0),(9,Ptr 8 0),(17,I .i64 k)])
    (fun k=>[(1,⟨true,ai .u32 8 v⟩),(2,⟨true,ai .u32 8 (fun _=>0)⟩),(8,⟨true,ai .u32 8 (fun i=>if i < k then IntKind.u32.wrap (v i+r i) else r i)⟩)]) _ ?_ ?_ ?_
   ·simp only[HO,vR,seval, -List.reduceReplicate]
   ·intro k hk
    have a3:((k:Int) < 8)=True:=qp (m:=8) hk
    have hf:(if k < k then IntKind.u32.wrap (v k+r k) else r k)=r k:=if_neg (Nat.lt_irrefl k)
    have fin:ai .u32 8 (upd (fun i=>if i < k then IntKind.u32.wrap (v i+r i) else r i) k (IntKind.u32.wrap (r k+v k)))=ai .u32 8 (fun i=>if i < k+1 then IntKind.u32.wrap (v i+r i) else r i):=by
     rw[Int.add_comm (r k)];exact vF (f:=fun i=>IntKind.u32.wrap (v i+r i))
    simp only[vR,seval, -List.reduceReplicate]
    refine cz (by simp;omega) ?_
    simp only[a3,aF,bN .u32 8 _ k hk,hf,Nat.mul_one,dq .u32 8 _ k hk,fin,bU k (by omega),vR,seval, -List.reduceReplicate]
    exact ⟨by kernel_rfl,by omega⟩
   ·simp only[vR,seval, -List.reduceReplicate]
    refine bR (by simp) ?_
    simp only[yl,vR,seval, -List.reduceReplicate]
    refine aJ az ⟨?_,rfl⟩
    refine congrArg Ag (dB fun i _=> ?_)
    simp only[zN,hR]
def lV (x:Int) (j:Nat):Int:=IntKind.u8.wrap (dK .u64 x (56 - 8*(j:Int)))
theorem Il {n o c:Nat} {f:Nat→Int} {cs:List SV} {x:Int} (hg:dQ cs o n c f) (hn:n+8≤140737488355328):
  bd Tryz.prog 101 [Sl 0 o n c,I .u64 x] 1 (lk [(0,⟨true,cs⟩)]) (Made 1 (n+8) (bC n f (lV x))):=by
 refine aG Tryz.func101 rfl (by kernel_rfl) (by simp[Tryz.ntmps101]) Tryz.qB (by simp[AV.ok,CV.ok,SV.names]) fF (fG hg.plain) ?_
 simp only[Tryz.results101,vR,seval]
 refine kE (β:=Nat×Nat×List SV) 8 (fun k y=>dQ y.2.2 y.1 (n+k) y.2.1 (bC n f (lV x))∧(k=0∨y.1=0))
  (fun k y=>[(0,Sl 30 y.1 (n+k) y.2.1),(1,I .u64 x),(5,I .i64 (56 - 8*(k:Int)))]) (fun k y=>[(30,⟨true,y.2.2⟩)]) 31 (o,c,cs) ?_ ?_ ?_ (by show 3≤31;decide)
 ·refine ⟨⟨⟨hg.len,hg.room,hg.plain,xy hg.shows fun i hi=> ?_⟩, .inl rfl⟩,30,0, ?_⟩
  ·simp only[bC,if_pos (show i < n from hi)]
  ·simp only[fJ,jM,iZ,sf,nu,hg.plain,true_or,vR,seval]
   simp
 ·rintro k ⟨o',c',cs'⟩ hk ⟨h1,h2⟩
  simp only at h1 h2
  have a2:(0≤56 - 8*(k:Int))=True:=eq_true (by omega)
  have ws:IntKind.i64.wrap (56 - 8*(k:Int) - 8)=56 - 8*((k+1:Nat):Int):=by rw[wrap_i64 _ (by omega) (by omega)];omega
  have eb:IntKind.u8.wrap (dK .u64 x (56 - 8*(k:Int)))=lV x k:=rfl
  simp only[vR,seval]
  refine cz (by simp;omega) ?_
  simp only[a2,eb,vR,seval]
  refine dC (g:=fun _=>lV x k) Tryz.eK Tryz.fc (by simp only[ae,vR,seval]) h1 (.inr ⟨38,0,1,true,[Sum.inl (.int .u8 (lV x k))],rfl,by simp only[ae,mD,vR,seval],jN,by decide⟩) (by omega) ?_
  intro c2 j7 fS
  simp only[ws,vR,seval]
  refine ⟨(0,c2,j7),⟨fS.congr (by omega) fun i hi=>KC i (by omega), .inr rfl⟩,30,39, ?_⟩
  simp only[fJ,jM,iZ,sf,nu,fS.plain,true_or,vR,seval]
  simp[Nat.add_assoc]
 ·rintro ⟨o',c',cs'⟩ ⟨h1,h2⟩
  simp only at h1 h2
  have:o'=0:=by omega
  subst this
  simp only[vR,seval]
  refine bR (by decide) ?_
  simp only[vR,seval]
  refine gR (k:=1) (q:=30) (cs:=cs') (by decide) ?_ h1.plain h1.made
  simp only[vR,seval]
theorem AE {f v:Nat→Int} {o c m:Nat} {cs:List SV} (hv:Rv v) (hf:eJ f) (hc:aY cs o (64*m) f) (hcap:64*m≤c) (hm:64*m < 4611686018427387904) (hp:cs.all SV.plain=true):
  bd Tryz.prog 95 [Ag (ai .u32 8 v),Sl 0 o (64*m) c] 1 (lk [(0,⟨false,cs⟩)]) (fun u out=>u=Ag (ai .u32 8 (j1 kW v f m))∧out=fun _=>none):=by
 refine aG Tryz.func95 rfl (by kernel_rfl) (by simp[Tryz.ntmps95]) Tryz.K3 (fun u hu=>by
  simp only[bQ]at hu
  rcases hu with rfl | rfl
  ·exact ao az
  ·exact (by decide:0 < 1)) fF (fG hp) ?_
 have nC: ∀ {M:Nat→Prop},(∀ x ∈ cs,SV.ok M x)=True:=eq_true (ao hp)
 simp only[Tryz.results95,vR,seval]
 refine bD m (fun k=>[(1,Sl 0 o (64*m) c),(2,Ptr 1 0),(4,Ptr 2 0),(5,I .i64 ((64*k:Nat):Int))])
  (fun k=>[(0,⟨false,cs⟩),(1,⟨true,ai .u32 8 (j1 kW v f k)⟩),(2,⟨true,ai .u32 8 (fun _=>0)⟩)]) _ ?_ ?_ ?_
 ·simp only[nC,Nx,j1,Nat.mul_zero,vR,seval]
 ·intro k hk
  have l1:(((64*k:Nat):Int)≤((64*k+64:Nat):Int))=True:=eq_true (by omega)
  have l2:(((64*k+64:Nat):Int)≤(c:Int))=True:=eq_true (by omega)
  have w1:IntKind.i64.wrap (((64*k:Nat):Int)+64)=((64*k+64:Nat):Int):=by rw[wrap_i64 _ (by omega) (by omega)];omega
  have h4:(if c=64*k then o else o+64*k)=o+64*k:=if_neg (by omega)
  have h5:64*k+64 - 64*k=64:=by omega
  have z8: ∀ r r':Nat→Int,splice (ai .u32 8 r') 0 (ai .u32 8 r)=ai .u32 8 r:=fun r r'=>gO .u32 8 _ _
  have ee:(fun i=>IntKind.u32.wrap (j1 kW v f k i+rounds kW (j1 kW v f k) (uJ (fun i=>f (64*k+i))) 64 i))=j1 kW v f (k+1):=rfl
  simp only[vR,seval]
  refine cz (by simp;omega) ?_
  simp only[w1,l1,l2,h4,h5,aF,Nat.mul_one,vR,seval]
  refine ⟨by kernel_rfl, ?_⟩
  refine (La (f:=fun i=>f (64*k+i)) (fun i=>hf _) (vG hc (64*k) 64 (by omega)) hp).eV (fun _=>0) (bZ (rw:=false) (by simp only[ae,vR,seval]) hp) az (by rfl) (fun M h n _=>h (Sl 0 (o+64*k) 64 (c - 64*k)) (List.Mem.head _)) ?_
  simp only[vR,seval]
  refine pU.draw (AB _ _ (EV hv k)) Tryz.K5 ?_
  rw[ee]
  simp only[z8,w1,nC,vR,seval]
  exact congrArg (fun z:Nat=>some (I .i64 (z:Int))) (by omega)
 ·simp only[vR,seval]
  refine bR (by simp) ?_
  simp only[vR,seval]
  exact aJ az ⟨rfl,rfl⟩
theorem R3 {l j:Nat} (hl:l < 140737488355328) (hj:j < 8):lV (IntKind.u64.wrap (IntKind.u64.wrap (l:Int)*8)) j=rM l j:=by
 rw[bT (l:Int) (by omega) (by omega),bT _ (by omega) (by omega)]
 have e:(56 - 8*(j:Int))=((56 - 8*j:Nat):Int):=by omega
 simp only[lV,rM]
 rw[e,dM .u64 _ _ (show 56 - 8*j≤IntKind.u64.bits by simp only[IntKind.bits];omega),wrap_u8]
 simp
theorem R4 {n o c l:Nat} {f:Nat→Int} {cs:List SV} (hc:aY cs o n f) (hp:cs.all SV.plain=true) (hn:n < 64) (hl:l < 140737488355328) (hln:l%64=n):
  bd Tryz.prog 96 [Sl 0 o n c,I .i64 l] 1 (lk [(0,⟨false,cs⟩)]) (Made 1 (64*(blocks l - l / 64)) (fun i=>lA (fun j=>f (j - l / 64*64)) l (l / 64*64+i))):=by
 refine aG Tryz.func96 rfl (by kernel_rfl) (by simp[Tryz.ntmps96]) Tryz.K4 (by simp[AV.ok,CV.ok,SV.names]) fF (fG hp) ?_
 have nC: ∀ {M:Nat→Prop},(∀ x ∈ cs,SV.ok M x)=True:=eq_true (ao hp)
 simp only[Tryz.results96,vR,seval]
 try refine ⟨by decide, ?_⟩
 have hz:dQ (ai .u8 128 (fun _=>0)) 0 0 128 (fun _=>0):=⟨by rw[aD],by decide,az,fun i hi=>by omega⟩
 refine dC (f:=fun _=>0) (g:=f) Tryz.eK Tryz.fc (by simp only[ae,vR,seval]) hz (.inr ⟨0,o,c,false,cs,rfl,by simp only[ae,vR,seval],hc,by decide⟩) (by omega) ?_
 intro c1 lr gE
 simp only[Nat.zero_add,vR,seval]
 refine dC (g:=fun _=>128) Tryz.eK Tryz.fc (by simp only[ae,Nat.zero_add,vR,seval]) (gE.congr (m:=n) (g:=f) (by omega) (fun i hi=>by simp only[bC];rw[if_neg (by omega),Nat.sub_zero])) (.inr ⟨9,0,1,true,[Sum.inl (.int .u8 128)],rfl,by simp only[ae,mD,vR,seval],jN,by decide⟩) (by omega) ?_
 intro c2 j7 fS
 simp only[vR,seval]
 have hE:64*(blocks l - l / 64)=if n < 56 then 64 else 128:=by
  simp only[blocks];split<;>omega
 generalize 64*(blocks l - l / 64)=E at*
 have hE1:n+9≤E∧E≤128:=by split at hE<;>omega
 have hF: ∀ i,i < E→lA (fun j=>f (j - l / 64*64)) l (l / 64*64+i)=bC (E - 8) (bC n f (bC 1 (fun _=>128) (fun _=>0))) (fun j=>rM l j) i:=fun i hi=>by
  have hb:64*blocks l - 8=l / 64*64+(E - 8):=by simp only[blocks];split at hE<;>omega
  simp only[lA,bC,hb]
  by_cases h1:i < n
  ·rw[if_pos (by omega),if_pos (by omega),if_pos h1,show l / 64*64+i - l / 64*64=i by omega]
  ·rw[if_neg (by omega)]
   by_cases h2:i=n
   ·rw[if_pos (by omega),if_pos (by omega),if_neg h1,if_pos (by omega)]
   ·rw[if_neg (by omega)]
    by_cases h3:i < E - 8
    ·rw[if_pos (by omega),if_pos h3,if_neg h1,if_neg (by omega)]
    ·rw[if_neg (by omega),if_neg h3,show l / 64*64+i - (l / 64*64+(E - 8))=i - (E - 8) by omega]
 refine kE (β:=Nat×List SV) (E - 8 - (n+1)) (fun k y=>dQ y.2 0 (n+1+k) y.1 (bC n f (bC 1 (fun _=>128) (fun _=>0))))
  (fun k y=>[(1,I .i64 l),(5,Sl 30 0 (n+1+k) y.1)]) (fun k y=>[(30,⟨true,y.2⟩)]) 31 (c2,j7) ?_ ?_ ?_ (by show 12≤31;decide)
 ·refine ⟨fS.congr rfl fun i hi=> ?_,30,10, ?_⟩
  ·simp only[bC];split
   ·rfl
   ·rw[if_pos (by omega)]
  ·simp only[fJ,jM,iZ,sf,nu,fS.plain,true_or,vR,seval]
   simp
 ·rintro k ⟨c',cs'⟩ hk h1
  simp only at h1
  have hr:=zD (n+1+k) 64
  rw[show ((64:Nat):Int)=64 from rfl]at hr
  have hne:(n+1+k)%64≠56:=by split at hE<;>omega
  simp only[hr,vR,seval]
  refine cz (by simp;omega) ?_
  simp only[vR,seval]
  refine dC (g:=fun _=>0) Tryz.eK Tryz.fc (by simp only[ae,vR,seval]) h1 (.inr ⟨_,_,_,true,[Sum.inl (.int .u8 0)],rfl,by simp only[ae,mD,vR,seval],jN,by decide⟩) (by omega) ?_
  intro c3 sm Cn
  simp only[vR,seval]
  refine ⟨(c3,sm),Cn.congr (by omega) fun i hi=> ?_,30,37, ?_⟩
  ·by_cases h:i < n+1+k
   ·simp only[bC,if_pos h]
   ·simp only[bC];rw[if_neg h,if_neg (by omega),if_neg (by omega)]
  ·simp only[fJ,jM,iZ,sf,nu,Cn.plain,true_or,vR,seval]
   simp[Nat.add_assoc]
 ·rintro ⟨c',cs'⟩ h1
  simp only at h1
  have hr:=zD (n+1+(E - 8 - (n+1))) 64
  rw[show ((64:Nat):Int)=64 from rfl]at hr
  have hne:(n+1+(E - 8 - (n+1)))%64=56:=by split at hE<;>omega
  simp only[hr,vR,seval]
  refine bR (by rw[hne];rfl) ?_
  simp only[vR,seval]
  refine Rs (Il h1 (by omega)) (t:=30) (by simp only[ae,vR,seval]) h1.plain rfl ?_
  intro c3 sm Cn
  simp only[vR,seval]
  have R5: ∀ i,i < E→bC (n+1+(E - 8 - (n+1))) (bC n f (bC 1 (fun _=>128) (fun _=>0))) (lV (IntKind.u64.wrap (IntKind.u64.wrap (l:Int)*8))) i=lA (fun j=>f (j - l / 64*64)) l (l / 64*64+i):=fun i hi=>by
   rw[hF i hi]
   simp only[bC]
   by_cases h:i < E - 8
   ·rw[if_pos (by omega),if_pos h]
   ·rw[if_neg (by omega),if_neg h,show n+1+(E - 8 - (n+1))=E - 8 by omega,R3 hl (by omega)]
  exact kF (k:=1) (by decide) (Cn.congr rfl fun i hi=>R5 i (by omega)) (by simp only[ae,vR,seval]) (by omega)
theorem R6 {n o c:Nat} {f:Nat→Int} {cs:List SV} (hf:eJ f) (hc:aY cs o n f) (hp:cs.all SV.plain=true) (hn:n < 140737488355328) (hcap:n≤c):
  bd Tryz.prog 90 [Sl 0 o n c] 1 (lk [(0,⟨false,cs⟩)]) (fun u out=>u=Ag (ai .u8 32 (pZ kW pH f n))∧out=fun _=>none):=by
 refine aG Tryz.func90 rfl (by kernel_rfl) (by simp[Tryz.ntmps90]) Tryz.ub (by simp[AV.ok,CV.ok,SV.names]) fF (fG hp) ?_
 have nC: ∀ {M:Nat→Prop},(∀ x ∈ cs,SV.ok M x)=True:=eq_true (ao hp)
 have hr:=zD n 64
 rw[show ((64:Nat):Int)=64 from rfl]at hr
 have w1:IntKind.i64.wrap ((n:Int) - ((n%64:Nat):Int))=((64*(n / 64):Nat):Int):=by rw[wrap_i64 _ (by omega) (by omega)];omega
 have l1:(((64*(n / 64):Nat):Int)≤(c:Int))=True:=eq_true (by omega)
 have l2:(((64*(n / 64):Nat):Int)≤(n:Int))=True:=eq_true (by omega)
 have l3:((n:Int)≤(c:Int))=True:=eq_true (by omega)
 simp only[Tryz.results90,hr,w1,l1,l2,l3,aF,vS,seval, -List.reduceReplicate]
 have ivE:[Sum.inl (Value.int IntKind.u32 1779033703),Sum.inl (Value.int IntKind.u32 3144134277),Sum.inl (Value.int IntKind.u32 1013904242),Sum.inl (Value.int IntKind.u32 2773480762),Sum.inl (Value.int IntKind.u32 1359893119),Sum.inl (Value.int IntKind.u32 2600822924),Sum.inl (Value.int IntKind.u32 528734635),Sum.inl (Value.int IntKind.u32 1541459225)]=ai .u32 8 pH:=rfl
 have z8: ∀ r r':Nat→Int,splice (ai .u32 8 r') 0 (ai .u32 8 r)=ai .u32 8 r:=fun r r'=>gO .u32 8 _ _
 refine ⟨ER _ _ _,by kernel_rfl, ?_⟩
 simp only[ivE,Int.toNat_natCast]
 refine (AE (c:=c) (m:=n / 64) KF hf (oM hc (by omega)) (by omega) (by omega) hp).eV (fun _=>0) (bZ (rw:=false) (by simp only[ae,vR,seval, -List.reduceReplicate]) hp) az (by rfl) (fun M h _ _=>h (Sl 0 o (64*(n / 64)) c) (List.Mem.tail _ (List.Mem.head _))) ?_
 have hsh: ∀ o',(o'=o+64*(n / 64)∨c=64*(n / 64))→aY cs o' (n - 64*(n / 64)) (fun i=>f (64*(n / 64)+i)):=fun o' h=>by
  rcases h with rfl | h
  ·exact vG hc _ _ (by omega)
  ·intro i hi;omega
 have ho:(if c=64*(n / 64) then o else o+64*(n / 64))=o+64*(n / 64)∨c=64*(n / 64):=by
  split
  ·exact .inr ‹_›
  ·exact .inl rfl
 have hs:=hsh _ ho
 simp only[z8,l1,l2,l3,aF,Nat.mul_one,vR,seval, -List.reduceReplicate]
 generalize (if c=64*(n / 64) then o else o+64*(n / 64))=o' at hs ⊢
 have w2:IntKind.i64.wrap ((n:Nat):Int)=(n:Int):=HM n (by omega)
 refine ⟨by kernel_rfl, ?_⟩
 refine Pl (R4 (c:=c - 64*(n / 64)) (l:=n) hs hp (by omega) (by omega) (by omega)) (fun _=>0) (bZ (rw:=false) (by simp only[ae,vR,seval, -List.reduceReplicate]) hp) rfl (fun M h _ _=>h (Sl 0 o' _ _) (List.Mem.head _)) (by kernel_rfl) ?_
 intro c1 mM h1 h2 h3
 simp only[vR,seval, -List.reduceReplicate]
 have hB:blocks n - n / 64+n / 64=blocks n:=by simp only[blocks];omega
 have hb2:64*(blocks n - n / 64)≤128:=by simp only[blocks];omega
 have Px:eJ (fun i=>lA (fun j=>f (64*(n / 64)+(j - n / 64*64))) n (n / 64*64+i)):=fun i=>HW (fun j=>hf _) n _
 refine (AE (o:=0) (c:=c1) (m:=blocks n - n / 64) (EV KF _) Px dy h1 (by omega) (bY h3)).eV (fun _=>24) (bZ (rw:=true) (by simp only[ae,vR,seval, -List.reduceReplicate]) (bY h3)) az (by rfl) (fun M h _ _=>h (Sl 24 0 (64*(blocks n - n / 64)) c1) (List.Mem.tail _ (List.Mem.head _))) ?_
 have eA:j1 kW (j1 kW pH f (n / 64)) (fun i=>lA (fun j=>f (64*(n / 64)+(j - n / 64*64))) n (n / 64*64+i)) (blocks n - n / 64)=j1 kW pH (lA f n) (blocks n):=by
  have h1:j1 kW pH f (n / 64)=j1 kW pH (lA f n) (n / 64):=vJ _ fun i hi=>by simp only[lA];rw[if_pos (by omega)]
  have h2:=HV kW pH (lA f n) (n / 64) (blocks n - n / 64)
  rw[show n / 64+(blocks n - n / 64)=blocks n by omega]at h2
  rw[h2,h1]
  refine vJ _ fun i hi=> ?_
  simp only[lA]
  rw[show n / 64*64+i=64*(n / 64)+i by omega,show 64*(n / 64)+(64*(n / 64)+i - n / 64*64)=64*(n / 64)+i by omega]
 rw[eA]
 simp only[z8,vR,seval, -List.reduceReplicate]
 refine (Fc _).av ?_
 simp only[vR,seval, -List.reduceReplicate]
 exact aJ az ⟨rfl,rfl⟩
theorem Im {s:AS} {nm t o n c:Nat} {rw:Bool} {f:Nat→Int} {cs:List SV} (hf:eJ f) (hb:s.box t=some ⟨rw,cs⟩) (hc:aY cs o n f) (hp:cs.all SV.plain=true) (hn:n < 140737488355328) (hcap:n≤c) {dst:Option Nat} {K:AS→Prop}
  (hk:K (s.put dst (some (Ag (ai .u8 32 (pZ kW pH f n)))))):av Tryz.prog nm 90 (some [Sl t o n c]) dst K s:=
 (R6 hf hc hp hn hcap).cG (fun _=>t) (bZ hb hp) az rfl hk
def Roomy (n:Nat) (v:AV) (out:Nat→Option aI):Prop:=(n=0∧v=V (.slice none 0 0)∧out=fun _=>none)∨(0 < n∧ ∃ c cs,v=Sl 0 0 0 c∧out=lk [(0,⟨true,cs⟩)]∧dQ cs 0 0 c (fun _=>0))
theorem Zq {n:Nat} (hn:n≤140737488355328):bd Tryz.prog 91 [V (.slice none 0 0),I .i64 n] 0 (fun _=>none) (Roomy n):=by
 refine aG Tryz.func91 rfl (by kernel_rfl) (by simp[Tryz.ntmps91]) Tryz.uc (by simp[AV.ok,CV.ok,SV.names]) rK rL ?_
 have w0:IntKind.i64.wrap 0=0:=rfl
 have w1:IntKind.i64.wrap ((n:Int) - 0)=(n:Int):=by rw[wrap_i64 _ (by omega) (by omega)];omega
 simp only[Tryz.results91,vR,seval]
 refine bR (by simp) ?_
 simp only[vR,seval]
 refine zI Tryz.fc ?_
 simp only[w0,w1,Int.sub_self,vR,seval]
 rcases Nat.eq_zero_or_pos n with rfl | hpos
 ·refine bR (by simp) ?_
  simp only[vR,seval]
  exact ⟨0,V (.slice none 0 0),fun _=>none,Nat.le_refl _,rfl,trivial,fun n b hb=>(by cases hb), .inl ⟨rfl,rfl,rfl⟩⟩
 ·refine cz (by simp;omega) ?_
  simp only[vR,seval]
  refine zI Tryz.fc ?_
  simp only[Int.toNat_zero,Nat.sub_self,vR,seval]
  refine ES (kn:= .i64) Tryz.eK Tryz.D1 hpos hn ?_
  intro c cs hg
  simp only[aF,Ph hg.room,vR,seval]
  refine gR (k:=0) (q:=18) (cs:=cs) (by decide) (by simp only[ae,vR,seval]) hg.plain (.inr ⟨hpos,c,cs,rfl,rfl, ?_⟩)
  exact ⟨hg.len,Nat.zero_le _,hg.plain,fun i hi=>by omega⟩
def kl (n:Nat→Nat):Nat→Nat
 | 0=>0
 | j+1=>kl n j+n j
def Fe (n:Nat→Nat) (f:Nat→Nat→Int):Nat→Nat→Int
 | 0=>fun _=>0
 | j+1=>bC (kl n j) (Fe n f j) (f j)
theorem wb (n:Nat→Nat) {j m:Nat} (h:j≤m):kl n j≤kl n m:=by
 induction m with
 | zero=>rw[show j=0 by omega];exact Nat.le_refl _
 | succ m ih=>
  by_cases e:j=m+1
  ·rw[e];exact Nat.le_refl _
  ·have:=ih (by omega);simp only[kl];omega
structure WW (l:List (Nat×aI)) (cs0:List SV) (k o m:Nat) (n:Nat→Nat) (f:Nat→Nat→Int):Prop where
 ro: ∀ x ∈ l,x.2.rw=false
 all: ∀ i,i < k→ ∃ b,lk l i=some b
 qY: ∀ x ∈ l,x.1 < k∧lk l x.1=some x.2∧ ∀ y ∈ x.2.cells,SV.ok (fun n=>n < k) y
 zero:lk l 0=some ⟨false,cs0⟩
 part: ∀ j,j < m→ ∃ sv,cs0[o+j]? =some sv∧fA (lk l) (.inl (.inl sv)) (n j) (f j)
theorem PF {box:Nat→Option aI} {v:AV} {n:Nat} {f:Nat→Int} (h:fA box v n f):eM 1 (some [v])=some (some (I .i64 n),none):=by
 rcases h with ⟨⟨a,rfl⟩,rfl⟩ | ⟨t,o,c,rw,cs,rfl,_⟩<;>rfl
theorem R7 {l:List (Nat×aI)} {cs0:List SV} {k o m c:Nat} {n:Nat→Nat} {f:Nat→Nat→Int} (hl:WW l cs0 k o m n f) (hk:0 < k) (hk2:k≤20) (hm:m < 4611686018427387904) (hN:kl n m≤140737488355328):
  bd Tryz.prog 76 [Sl 0 o m c] k (lk l) (Bytes k (kl n m) (Fe n f m)):=by
 refine aG Tryz.func76 rfl (by kernel_rfl) (by simp[Tryz.ntmps76]) Tryz.tS (by simp[AV.ok,CV.ok,SV.names];exact hk) hl.all (fun i b hb=>⟨(hl.qY _ (bt _ _ _ hb)).1,(hl.qY _ (bt _ _ _ hb)).2.2⟩) ?_
 have hz:=hl.zero
 have hin: ∀ (next:Nat),k≤next→ ∀ p ∈ l,lk l p.1=some p.2∧p.1 < next∧ ∀ x ∈ p.2.cells,SV.ok (fun n=>n < next) x:=fun next hn p hp=>⟨(hl.qY p hp).2.1,by have:=(hl.qY p hp).1;omega,fun y hy=>SV.aL (fun n h=>by omega) ((hl.qY p hp).2.2 y hy)⟩
 simp only[Tryz.results76,vR,seval]
 refine bD m (fun j=>[(0,Sl 0 o m c),(3,I .i64 (kl n j)),(9,Sl 0 o m c),(10,I .i64 m),(11,I .i64 j)]) (fun j=>l) _ ?_ ?_ ?_
 ·simp only[kl,vR,seval]
  exact ⟨by omega,hin _ (by omega)⟩
 ·intro j hj
  obtain ⟨sv,h1,h2⟩:=hl.part j hj
  have hlen:=PF h2
  have hmono:=wb n (show j+1≤m by omega)
  simp only[kl]at hmono
  have wa:=Rq (kl n j) (n j) (by omega)
  simp only[vR,seval]
  refine cz (by simp;omega) ?_
  simp only[aF,aP hj,hz,Nat.mul_one,h1,hlen,wa,bU j (by omega),vR,seval]
  refine bR (by simp;omega) ?_
  simp only[kl,bU j (by omega),vR,seval]
  exact ⟨by omega,hin _ (by omega)⟩
 ·simp only[vR,seval]
  refine bR (by simp) ?_
  simp only[vR,seval]
  refine (Zq hN).av (fun n=>n) none fQ rfl ?_
  rintro v out (⟨h0,rfl,rfl⟩ | ⟨hpos,c0,lr,rfl,rfl,hg⟩) _
  ·have hn0: ∀ j,j < m→n j=0:=fun j hj=>by
    have:=wb n (show j+1≤m by omega);simp only[kl]at this;omega
   simp only[after,nu,vR,seval]
   refine bD m (fun j=>[(6,V (.slice none 0 0)),(25,Sl 0 o m c),(26,I .i64 m),(27,I .i64 j)]) (fun j=>l) _ ?_ ?_ ?_
   ·simp only[vR,seval]
    exact ⟨⟨trivial,by omega⟩,hin _ (by omega)⟩
   ·intro j hj
    obtain ⟨sv,h1,h2⟩:=hl.part j hj
    simp only[vR,seval]
    refine cz (by simp;omega) ?_
    simp only[aF,aP hj,hz,Nat.mul_one,h1,bU j (by omega),vR,seval]
    refine Pn (m:=n j) (g:=f j) Tryz.eK Tryz.fc h2 (by rw[hn0 j hj];decide) (fun _=> ?_) (fun h=>by rw[hn0 j hj]at h;exact absurd h (by decide))
    simp only[bU j (by omega),vR,seval]
    exact ⟨⟨trivial,by omega⟩,hin _ (by omega)⟩
   ·simp only[vR,seval]
    refine bR (by simp) ?_
    simp only[vR,seval]
    exact ⟨k,V (.slice none 0 0),fun _=>none,Nat.le_refl _,rfl,trivial,fun n b hb=>(by cases hb), .inl ⟨h0,rfl,rfl⟩⟩
  ·rw[bX hg.plain]
   simp only[iZ,gF,vR,seval]
   refine kE (β:=Nat×List SV) m (fun j y=>dQ y.2 0 (kl n j) y.1 (Fe n f j))
    (fun j y=>[(6,Sl 60 0 (kl n j) y.1),(25,Sl 0 o m c),(26,I .i64 m),(27,I .i64 j)]) (fun j y=>(60,⟨true,y.2⟩)::l) 61 (c0,lr) ?_ ?_ ?_ ?_
   ·refine ⟨hg,60,k+1+1+3+1+1,jL (k:=k) (by show _≤60;simp only;omega) (by decide) (by simp only;omega) (by omega) ?_ ?_ hg.plain hl.qY (fun t ht=> ?_)⟩
    ·simp only[jM,iZ,kl,vR,seval]
    ·simp only[aQ]
    ·exact bh _ _ _ _ (by omega)
   ·rintro j ⟨c',cs'⟩ hj h1'
    obtain ⟨sv,h1,h2⟩:=hl.part j hj
    have hmono:=wb n (show j+1≤m by omega)
    simp only[kl]at hmono
    have hoff:uH (pF [(6,Sl 60 0 (kl n j) c'),(25,Sl 0 o m c),(26,I .i64 m),(27,I .i64 j)] ((60,⟨true,cs'⟩)::l) 61).box 60 (.inl (.inl sv)) (n j) (f j):=by
     rcases h2 with h | ⟨t,o1,c1,UW,ds,e1,e2,_,e4⟩
     ·exact .inl h
     ·have ht:t < k:=(hl.qY _ (bt _ _ _ e2)).1
      refine .inr ⟨t,o1,c1,UW,ds,e1, ?_,e4,by omega⟩
      show (if t=60 then _ else lk l t)=_
      rw[if_neg (by omega)];exact e2
    simp only at h1'
    simp only[vR,seval]
    refine cz (by simp;omega) ?_
    simp only[aF,aP hj,hz,Nat.mul_one,h1,bU j (by omega),vR,seval]
    refine dC (b:=60) (g:=f j) Tryz.eK Tryz.fc (by simp only[ae,vR,seval]) h1' (by exact hoff) (by omega) ?_
    intro c2 j7 fS
    simp only[bU j (by omega),vR,seval]
    refine ⟨(c2,j7),fS,60,67,jL (k:=k) (by omega) (by decide) (by omega) (by omega) ?_ ?_ fS.plain hl.qY (fun t ht=> ?_)⟩
    ·simp only[jM,iZ,kl,vR,seval]
    ·simp only[aQ]
    ·simp only[upd,vR,seval]
     rw[if_neg (by omega),if_neg (by omega),if_neg (by omega)]
   ·rintro ⟨c',cs'⟩ h1'
    simp only at h1'
    simp only[vR,seval]
    refine bR (by simp) ?_
    simp only[vR,seval]
    refine gR (k:=k) (q:=60) (by omega) (by simp only[vR,seval]) h1'.plain (.inr h1'.made)
   ·simp only;omega


def cj (x:Int) (j:Nat):Int:=IntKind.u8.wrap (dK .u32 x (24 - 8*(j:Int)))
theorem R8 (x:Int):dK .u32 x 0=x:=by
 have:=dM .u32 x 0 (by decide)
 simpa using this
theorem uR (x:Int):bd Tryz.prog 84 [I .u32 x] 0 (fun _=>none) (M5 0 4 (cj x)):=by
 refine aG Tryz.func84 rfl (by kernel_rfl) (by simp[Tryz.ntmps84]) Tryz.tX (by simp[AV.ok,CV.ok,SV.names]) rK rL ?_
 simp only[Tryz.results84,vS,seval]
 have e3:IntKind.u8.wrap x=cj x 3:=by simp[cj,R8]
 refine ⟨by decide,by decide,by decide,by decide, ?_⟩
 refine gR (k:=0) (q:=12) (cs:=ai .u8 4 (cj x)) (by decide) ?_ az ⟨rfl,rfl⟩
 rw[e3]
 simp only[aQ]
 rfl
theorem Zr {l:Nat} (hl:l < 140737488355328):bd Tryz.prog 83 [I .u64 (IntKind.u64.wrap (IntKind.u64.wrap (l:Int)*8))] 0 (fun _=>none) (Made 0 8 (rM l)):=by
 refine aG Tryz.func83 rfl (by kernel_rfl) (by simp[Tryz.ntmps83]) Tryz.o8 (by simp[AV.ok,CV.ok,SV.names]) rK rL ?_
 simp only[Tryz.results83,vR,seval]
 have e4: ∀ x:Int,IntKind.u32.wrap x=x%4294967296:=wrap_u32
 refine mE (uR _) (fun n=>n) fQ rfl ?_
 simp only[vR,seval]
 refine mE (uR _) (fun n=>n) fQ rfl ?_
 simp only[vR,seval]
 refine dC (g:=cj (IntKind.u32.wrap (IntKind.u64.wrap (IntKind.u64.wrap (l:Int)*8)))) Tryz.eK Tryz.fc (f:=cj (IntKind.u32.wrap (dK .u64 (IntKind.u64.wrap (IntKind.u64.wrap (l:Int)*8)) 32))) (b:=4) (cs:=ai .u8 4 (cj (IntKind.u32.wrap (dK .u64 (IntKind.u64.wrap (IntKind.u64.wrap (l:Int)*8)) 32)))) (by simp only[ae,vR,seval])
  ⟨by rw[aD],by decide,az,dL⟩ (.inr ⟨9,0,4,true,ai .u8 4 (cj (IntKind.u32.wrap (IntKind.u64.wrap (IntKind.u64.wrap (l:Int)*8)))),rfl,by simp only[ae,vR,seval],dL,by decide⟩) (by decide) ?_
 intro c2 j7 fS
 simp only[vR,seval]
 refine kF (k:=0) (by decide) (fS.congr (m:=8) rfl fun i hi=> ?_) (by simp only[ae,vR,seval]) rfl
 have w1:IntKind.u64.wrap (IntKind.u64.wrap (l:Int)*8)=(l:Int)*8:=by rw[bT (l:Int) (by omega) (by omega),bT _ (by omega) (by omega)]
 have s32:dK .u64 ((l:Int)*8) 32=(l:Int)*8 / 4294967296:=dM .u64 _ 32 (by decide)
 rw[w1,s32]
 have Y': ∀ x:Int,dK .u32 x 24=x / 16777216:=fun x=>dM .u32 x 24 (by decide)
 have Za: ∀ x:Int,dK .u32 x 16=x / 65536:=fun x=>dM .u32 x 16 (by decide)
 have s8: ∀ x:Int,dK .u32 x 8=x / 256:=fun x=>dM .u32 x 8 (by decide)
 have hc:i=0∨i=1∨i=2∨i=3∨i=4∨i=5∨i=6∨i=7:=by omega
 rcases hc with rfl | rfl | rfl | rfl | rfl | rfl | rfl | rfl
 ·show cj _ 0=_
  simp only[cj,rM]
  show IntKind.u8.wrap (dK .u32 _ 24)=((l*8 / 72057594037927936%256:Nat):Int)
  rw[Y',e4,wrap_u8];omega
 ·show cj _ 1=_
  simp only[cj,rM]
  show IntKind.u8.wrap (dK .u32 _ 16)=((l*8 / 281474976710656%256:Nat):Int)
  rw[Za,e4,wrap_u8];omega
 ·show cj _ 2=_
  simp only[cj,rM]
  show IntKind.u8.wrap (dK .u32 _ 8)=((l*8 / 1099511627776%256:Nat):Int)
  rw[s8,e4,wrap_u8];omega
 ·show cj _ 3=_
  simp only[cj,rM]
  show IntKind.u8.wrap (dK .u32 _ 0)=((l*8 / 4294967296%256:Nat):Int)
  rw[R8,e4,wrap_u8];omega
 ·show cj _ 0=_
  simp only[cj,rM]
  show IntKind.u8.wrap (dK .u32 _ 24)=((l*8 / 16777216%256:Nat):Int)
  rw[Y',e4,wrap_u8];omega
 ·show cj _ 1=_
  simp only[cj,rM]
  show IntKind.u8.wrap (dK .u32 _ 16)=((l*8 / 65536%256:Nat):Int)
  rw[Za,e4,wrap_u8];omega
 ·show cj _ 2=_
  simp only[cj,rM]
  show IntKind.u8.wrap (dK .u32 _ 8)=((l*8 / 256%256:Nat):Int)
  rw[s8,e4,wrap_u8];omega
 ·show cj _ 3=_
  simp only[cj,rM]
  show IntKind.u8.wrap (dK .u32 _ 0)=((l*8 / 1%256:Nat):Int)
  rw[R8,e4,wrap_u8];omega
theorem Io {k n:Nat} {v:AV} {f:Nat→Int} {ins:Nat→Option aI} (hf:eJ f) (hv:fA ins v n f) (hn:n < 100000000) (hok:AV.ok (fun n=>n < k) v) (hall: ∀ n,n < k→ ∃ b,ins n=some b) (fO: ∀ n b,ins n=some b→n < k∧ ∀ x ∈ b.cells,SV.ok (fun n=>n < k) x) (hk:k≤20):
  bd Tryz.prog 85 [v] k ins (fun u out=>u=Ag (ai .u8 32 (pZ kW pH f n))∧out=fun _=>none):=by
 refine aG Tryz.func85 rfl (by kernel_rfl) (by simp[Tryz.ntmps85]) Tryz.tY (fun u hu=>by rw[List.mem_singleton.1 hu];exact hok) hall fO ?_
 simp only[Tryz.results85,vR,seval, -List.reduceReplicate]
 have hG0:dQ (ai .u8 0 (fun _=>0)) 0 0 0 (fun _=>0):=⟨rfl,by decide,rfl,fun i hi=>by omega⟩
 refine dC (g:=f) Tryz.eK Tryz.fc (by simp only[aQ]) hG0 (Pm hv hok (by omega) (fun t ht=>by simp only[upd];rw[if_neg (by omega),if_neg (by omega)])) (by omega) ?_
 intro c1 lr gE
 replace gE:=gE.congr (m:=n) (g:=f) (by omega) (fun i hi=>by simp[bC])
 simp only[vR,seval, -List.reduceReplicate]
 refine dC (g:=fun _=>128) Tryz.eK Tryz.fc (by simp only[upd];rw[if_neg (by omega)];exact if_pos trivial) gE (.inr ⟨_,_,_,true,[Sum.inl (.int .u8 128)],rfl,by simp only[aQ];rfl,jN,by omega⟩) (by omega) ?_
 intro c2 j7 fS
 have eB:blocks n=(n+8) / 64+1:=rfl
 replace fS:=fS.congr (m:=n+1+0) (g:=lA f n) (by omega) (fun i hi=>by
  simp only[bC,lA];split
  ·rfl
  ·rw[if_pos (by omega)])
 have hR:n+1≤64*blocks n - 8:=by omega
 simp only[vR,seval, -List.reduceReplicate]
 refine kE (64*blocks n - 8 - (n+1)) (fun j (x:Nat×List SV)=>dQ x.2 0 (n+1+j) x.1 (lA f n)) (fun j x=>[(2,Ptr k 0),(0,v),(3,Sl 60 0 (n+1+j) x.1)]) (fun j x=>[(60,⟨true,x.2⟩),(k,⟨true,ai .u8 32 (fun _=>0)⟩)]) 100 (c2,j7) ⟨fS, ?_⟩ ?_ ?_ (by show _≤100;simp only[AS.put];omega)
 ·refine ⟨60,k+1+4+2,zG (by simp only[AS.put];omega) (by decide) ?_ (by simp only[aQ]) fS.plain ?_⟩
  ·have e1:AV.ren (upd (fun n=>n) 60 (k+1+4+2)) v=v:=ym (fun n hn=>bh _ _ _ _ (by omega)) hok
   have e2:AV.ok (fun n=>n < 100) v:=AV.aL (fun n hn=>by omega) hok
   simp[e1,e2,ae,sf,iZ,EO,MU,aa8]
   omega
  ·have q1:(k=k+1+4+2)=False:=eq_false (by omega)
   have q2:(k=k+1+2)=False:=eq_false (by omega)
   have q3:(k=k+1+4+1)=False:=eq_false (by omega)
   have q4:(k=k+1)=False:=eq_false (by omega)
   simp[ae,az,q1,q2,q3,q4]
   exact ⟨by omega,fun x hx=>List.all_eq_true.1 az x hx⟩
 ·rintro j ⟨c,cs⟩ hj hg
  have l1:n+1+j < 64*blocks n - 8:=by omega
  have r1:(((n+1+j:Nat):Int)).tmod 64=(((n+1+j)%64:Nat):Int):=zD (n+1+j) 64
  simp only[r1,vR,seval, -List.reduceReplicate]
  refine cz (by simp;omega) ?_
  simp only[vR,seval, -List.reduceReplicate]
  refine dC (g:=fun _=>0) Tryz.eK Tryz.fc (by simp only[ae,vR,seval, -List.reduceReplicate]) hg (.inr ⟨_,_,_,true,[Sum.inl (.int .u8 0)],rfl,by simp only[aQ];rfl,jN,by omega⟩) (by omega) ?_
  intro c3 sm Cn
  simp only[vR,seval, -List.reduceReplicate]
  refine ⟨(c3,sm),Cn.congr (by omega) (fun i hi=> ?_),60,106,zG (by omega) (by decide) ?_ (by simp only[aQ]) Cn.plain ?_⟩
  ·simp only[bC,lA];split
   ·rfl
   ·rw[if_neg (by omega),if_neg (by omega),if_pos (by omega)]
  ·have e1:AV.ren (upd (fun n=>n) 60 106) v=v:=ym (fun n hn=>bh _ _ _ _ (by omega)) hok
   have e2:AV.ok (fun n=>n < 100) v:=AV.aL (fun n hn=>by omega) hok
   simp[e1,e2,ae,lk,sf,iZ,EO,MU,aa8]
   omega
  ·have q1:(k=106)=False:=eq_false (by omega)
   have q2:(k=60)=False:=eq_false (by omega)
   have q3:(k=105)=False:=eq_false (by omega)
   simp[ae,lk,az,q1,q2,q3]
   exact ⟨by omega,fun x hx=>List.all_eq_true.1 az x hx⟩
 ·rintro ⟨c,cs⟩ hg
  have l1:n+1+(64*blocks n - 8 - (n+1))=64*blocks n - 8:=by omega
  rw[l1]at hg
  have r1:(((64*blocks n - 8:Nat):Int)).tmod 64=(((64*blocks n - 8)%64:Nat):Int):=zD (64*blocks n - 8) 64
  simp only[l1,r1,vR,seval, -List.reduceReplicate]
  refine bR (by simp;omega) ?_
  simp only[at_len hv,vR,seval, -List.reduceReplicate]
  refine ia (Zr (l:=n) (by omega)) (fun n=>n) fQ rfl ?_
  intro c4 abz h41 h42 h43
  simp only[vR,seval, -List.reduceReplicate]
  refine dC (g:=rM n) Tryz.eK Tryz.fc (by simp only[ae,vR,seval, -List.reduceReplicate]) hg (.inr ⟨_,_,_,true,ai .u8 8 (rM n)++abz,rfl,by simp only[aQ],dy,by decide⟩) (by omega) ?_
  intro c5 Zn PG
  replace PG:=PG.congr (m:=64*blocks n) (g:=lA f n) (by omega) (fun i hi=>by
   simp only[bC];split
   ·rfl
   ·simp only[lA];rw[if_neg (by omega),if_neg (by omega),if_neg (by omega)])
  simp only[vR,seval, -List.reduceReplicate]
  have e8:64*blocks n - 8+8=64*blocks n:=by omega
  have z8: ∀ r:Nat→Int,splice [Sum.inl (Value.int IntKind.u32 0),Sum.inl (Value.int IntKind.u32 0),Sum.inl (Value.int IntKind.u32 0),Sum.inl (Value.int IntKind.u32 0),Sum.inl (Value.int IntKind.u32 0),Sum.inl (Value.int IntKind.u32 0),Sum.inl (Value.int IntKind.u32 0),Sum.inl (Value.int IntKind.u32 0)] 0 (ai .u32 8 r)=ai .u32 8 r:=fun r=>gO .u32 8 (fun _=>0) r
  simp only[e8,z8]
  have ok5: ∀ {M:Nat→Prop},(∀ x ∈ Zn,SV.ok M x)=True:=eq_true (ao PG.plain)
  refine bD (blocks n) (fun i=>[(2,Ptr k 0),(3,Sl 110 0 (64*blocks n) c5),(4,Ptr 113 0),(5,I .i64 (64*i:Nat))])
   (fun i=>[(110,⟨true,Zn⟩),(113,⟨true,ai .u32 8 (j1 kW pH (lA f n) i)⟩),(k,⟨true,ai .u8 32 (fun _=>0)⟩)]) _ ?_ ?_ ?_
  ·have q1:(k=113)=False:=eq_false (by omega)
   have q2:(k=110)=False:=eq_false (by omega)
   have q3:(k=60)=False:=eq_false (by omega)
   have q4:(k=109)=False:=eq_false (by omega)
   simp only[q1,q2,q3,q4,if_false,ok5,j1,vR,seval, -List.reduceReplicate]
   omega
  ·intro i hi
   have w1:IntKind.i64.wrap (((64*i:Nat):Int)+64)=((64*(i+1):Nat):Int):=by rw[wrap_i64 _ (by omega) (by omega)];omega
   have k1:(((64*(i+1):Nat):Int)≤((64*blocks n:Nat):Int))=True:=eq_true (by omega)
   have k2:(((64*i:Nat):Int)≤((64*(i+1):Nat):Int))=True:=eq_true (by omega)
   have k3:(((64*(i+1):Nat):Int)≤(c5:Int))=True:=eq_true (by have:=PG.room;omega)
   simp only[w1,vR,seval, -List.reduceReplicate]
   refine cz (by simp only[k1];rfl) ?_
   simp only[w1,k1,k2,k3,aF,vR,seval, -List.reduceReplicate]
   refine ⟨by kernel_rfl, ?_⟩
   have eo:aY Zn (if c5=64*i then 0 else 64*i) 64 (fun j=>lA f n (64*i+j)):=by
    have hr:=PG.room
    rw[if_neg (by omega)]
    have:=vG PG.shows (64*i) 64 (by omega)
    rwa [Nat.zero_add]at this
   have el:64*(i+1) - 64*i=64:=by omega
   rw[el]
   generalize (if c5=64*i then 0 else 64*i)=o' at eo ⊢
   refine (Lb (c:=c5 - 64*i) (EV KF _) (fun j=>HW hf n _) eo PG.plain).eV (fun _=>110) (bZ (rw:=true) (by simp only[vR,seval, -List.reduceReplicate]) PG.plain) az rfl (fun M h _ _=>h (Sl 110 o' 64 (c5 - 64*i)) (List.Mem.tail _ (List.Mem.head _))) ?_
   have z8': ∀ r r':Nat→Int,splice (ai .u32 8 r') 0 (ai .u32 8 r)=ai .u32 8 r:=fun r r'=>gO .u32 8 _ _
   have q1:(k=113)=False:=eq_false (by omega)
   have q2:(k=110)=False:=eq_false (by omega)
   simp only[z8',q1,q2,w1,ok5,j1,vR,seval, -List.reduceReplicate]
   omega
  ·have w1:IntKind.i64.wrap (((64*blocks n:Nat):Int)+64)=((64*blocks n+64:Nat):Int):=by rw[wrap_i64 _ (by omega) (by omega)];omega
   simp only[w1,vR,seval, -List.reduceReplicate]
   refine bR (by simp;omega) ?_
   simp only[vR,seval, -List.reduceReplicate]
   refine bD 32 (fun j=>[(2,Ptr k 0),(4,Ptr 113 0),(6,Ptr 121 0),(7,I .i64 j)])
    (fun j=>[(113,⟨true,ai .u32 8 (j1 kW pH (lA f n) (blocks n))⟩),(121,⟨true,ai .u8 32 (fun i=>if i < j then pZ kW pH f n i else 0)⟩),(k,⟨true,ai .u8 32 (fun _=>0)⟩)]) _ ?_ ?_ ?_
   ·have q1:(k=121)=False:=eq_false (by omega)
    have q2:(k=110)=False:=eq_false (by omega)
    have q3:(k=113)=False:=eq_false (by omega)
    simp only[q1,q2,q3,if_false,Nat.not_lt_zero,vR,seval, -List.reduceReplicate]
    omega
   ·intro j hj
    have q1:(k=121)=False:=eq_false (by omega)
    have q2:(k=113)=False:=eq_false (by omega)
    have a1:(((j / 4:Nat):Int) < 8)=True:=by simp;omega
    have a3:((j:Int) < 32)=True:=qp (m:=32) hj
    have q:=KB j 4 (by omega)
    have r:=zD j 4
    rw[show ((4:Nat):Int)=4 from rfl]at q r
    have w1:IntKind.i64.wrap (8*((j%4:Nat):Int))=8*((j%4:Nat):Int):=wrap_i64 _ (by omega) (by omega)
    have w2:IntKind.i64.wrap (24 - 8*((j%4:Nat):Int))=24 - 8*((j%4:Nat):Int):=wrap_i64 _ (by omega) (by omega)
    have w3:IntKind.u64.wrap (24 - 8*((j%4:Nat):Int))=24 - 8*((j%4:Nat):Int):=bT _ (by omega) (by omega)
    have a2:(0≤24 - 8*((j%4:Nat):Int))=True:=eq_true (by omega)
    have fin:ai .u8 32 (upd (fun i=>if i < j then pZ kW pH f n i else 0) j (pZ kW pH f n j))=ai .u8 32 (fun i=>if i < j+1 then pZ kW pH f n i else 0):=HN
    have eo:IntKind.u8.wrap (dK .u32 (j1 kW pH (lA f n) (blocks n) (j / 4)) (24 - 8*((j%4:Nat):Int)))=pZ kW pH f n j:=rfl
    simp only[vR,seval, -List.reduceReplicate]
    refine cz (by simp;omega) ?_
    simp only[q1,q2,q,r,w1,w2,w3,a1,a2,a3,aF,bN .u32 8 (j1 kW pH (lA f n) (blocks n)) (j / 4) (by omega),Nat.mul_one,eo,dq .u8 32 _ j hj,fin,bU j (by omega),vR,seval, -List.reduceReplicate]
    omega
   ·simp only[vR,seval, -List.reduceReplicate]
    refine bR (by simp) ?_
    have hrow:ai .u8 32 (fun i=>if i < 32 then pZ kW pH f n i else 0)=ai .u8 32 (pZ kW pH f n):=dB fun i hi=>by rw[if_pos hi]
    have q1:(k=121)=False:=eq_false (by omega)
    have q2:(k=113)=False:=eq_false (by omega)
    simp only[hrow,q1,q2,vR,seval, -List.reduceReplicate]
    exact aJ az ⟨rfl,rfl⟩
structure afK (k:Nat) (l:List (Nat×aI)) (vm:AV) (m:Nat) (kf f:Nat→Int) (s:AS) (L:List (Nat×aI)) (v:AV) (n:Nat) (g:Nat→Int):Prop where
 e0:s.env 0=some v
 e1:s.env 1=some vm
 e4:s.env 4=some (Ptr k 0)
 next:s.next≤50
 qY: ∀ x ∈ L,x.1 < s.next∧lk L x.1=some x.2∧s.box x.1=some x.2∧x.2.cells.all SV.plain=true
 cell:lk L k=some ⟨true,ai .u8 32 (fun _=>0)⟩
 hv:fA (lk L) v n g
 hvm:fA (lk L) vm m f
 hok:AV.ok (fun n=>n < s.next) v
 agW:AV.ok (fun n=>n < s.next) vm
 hn:n≤64
 hg:eJ g
 heq: ∀ i,kf i=if i < n then g i else 0

def WX (n:Int) (a b c:Nat):Prop:=n < 0∨8160 < n∨1048576 < a∨1048576 < b∨1048576 < c
instance (n:Int) (a b c:Nat):Decidable (WX n a b c):=by unfold WX;infer_instance
theorem PH {n o c:Nat} {cs:List SV} (hp:cs.all SV.plain=true):bd Tryz.prog 89 [Sl 0 o n c] 1 (lk [(0,⟨false,cs⟩)]) (fun v out=>v=B (decide (1048576 < (n:Int)))∧out=fun _=>none):=by
 refine aG Tryz.func89 rfl (by kernel_rfl) (by simp[Tryz.ntmps89]) Tryz.ua (by simp[AV.ok,CV.ok,SV.names]) fF (fG hp) ?_
 simp only[Tryz.results89,vS,seval]
 exact aJ rfl ⟨rfl,rfl⟩
theorem Ff {s:AS} {nm t o n c:Nat} {rw:Bool} {cs:List SV} (hb:s.box t=some ⟨rw,cs⟩) (hp:cs.all SV.plain=true) {dst:Option Nat} {K:AS→Prop} (hk:K (s.put dst (some (B (decide (1048576 < (n:Int))))))):av Tryz.prog nm 89 (some [Sl t o n c]) dst K s:=
 (PH hp).cG (fun _=>t) (bZ hb hp) rfl rfl hk
end Go.Proofs.YtaeagfdnfjenlaaGreatDoor
