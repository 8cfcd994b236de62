/-
  Bytes cut into sectors, sectors joined.
-/
import Derived.Test.YtaeagfdnfjenlaaGreatDoorVcgJA
import Derived.Test.YtaeagfdnfjenlaaGreatDoorVcgRw
import Derived.Test.YtaeagfdnfjenlaaGreatDoorVcgWM
set_option maxHeartbeats 8000000
set_option maxRecDepth 20000
set_option linter.unusedSimpArgs false
set_option linter.unusedVariables false
set_option linter.unusedSectionVars false
namespace Go.Proofs.YtaeagfdnfjenlaaGreatDoor
open Go.cn
variable [aX]
def iL (n:Nat) (f:Nat→Int) (i:Nat):Int:=if i < n then f i else 0
def aT (n:Nat):Nat:=(n+63) / 64
theorem NQ {cs:List SV} {f:Nat→Int} {sv:SV} {n:Nat} (hl:cS 0 sv n f cs) (hp:cs.all SV.plain=true) (hn:n < 16777216):
  bd Tryz.prog 59 [Sum.inl (Sum.inl sv)] 1 (lk [(0,⟨false,cs⟩)]) (fun u out=>u=Sl 1 0 (aT n) (aT n)∧out=lk [(1,⟨true,ai .u8 (64*aT n) (iL n f)⟩)]):=by
 have hw:IntKind.u64.wrap (n:Int)=(n:Int):=bT _ (by omega) (by omega)
 have hlen:=hl.len
 have hone:=(hl.ok (M:=fun n=>n < 1) (by decide)).2
 have hok: ∀ {M:Nat→Prop},M 0→SV.ok M sv:=fun h=>hl.ok h
 have nC: ∀ {M:Nat→Prop},(∀ x ∈ cs,SV.ok M x)=True:=eq_true (ao hp)
 refine aG Tryz.func59 rfl (by kernel_rfl) (by simp[Tryz.ntmps59]) Tryz.tG (by simp[AV.ok,CV.ok];exact (hok (by decide)).1) fF (fG hp) ?_
 simp only[Tryz.results59,hlen,hw,vR,seval, -List.reduceReplicate]
 refine (pI (n:=n) (by omega)).av ?_
 have hc:(n+63) / 64=aT n:=rfl
 have Zt:aT n≤1048576:=by unfold aT;omega
 rw[hc]
 simp only[AP Zt,hlen,hw,vR,seval, -List.reduceReplicate]
 refine bD (aT n) (fun k=>[(0,Sum.inl (Sum.inl sv)),(3,Sl 6 0 (aT n) (aT n)),(11,I .i64 (aT n)),(12,I .i64 k)])
  (fun k=>[(0,⟨false,cs⟩),(6,⟨true,ai .u8 (64*aT n) (fun i=>if i < 64*k then iL n f i else 0)⟩)]) _ ?_ ?_ ?_
 ·simp only[Nat.mul_zero,Nat.not_lt_zero,if_false,nC,hok,hone,vR,seval, -List.reduceReplicate]
  exact (hok (by decide)).1
 ·intro j hj
  rcases hl with ⟨_,rfl⟩ | ⟨o,c,rfl,hc,hs⟩
  ·exact absurd hj (by unfold aT;omega)
  have hj2:64*j < n:=by unfold aT at hj;omega
  have a0:((j:Int) < ((aT n:Nat):Int))=True:=eq_true (by omega)
  have aj:((0:Int)≤(j:Int))=True:=eq_true (by omega)
  have a2:IntKind.i64.wrap ((j:Int)+1)=((j+1:Nat):Int):=by rw[wrap_i64 _ (by omega) (by omega)];rfl
  have a3:IntKind.i64.wrap ((j:Int)*64)=((j*64:Nat):Int):=by rw[wrap_i64 _ (by omega) (by omega)];omega
  have a4:(((j*64:Nat):Int)≤(n:Int))=True:=eq_true (by omega)
  have a5:((n:Int)≤(c:Int))=True:=eq_true (by omega)
  have a6:((0:Int)≤((j*64:Nat):Int))=True:=eq_true (by omega)
  simp only[a0,decide_true,aj,a2,a3,a4,a5,a6,nC,vR,seval, -List.reduceReplicate]
  have hs':=Pt (m:=j*64) hs (by omega) hc
  have hmin:Nat.min (n - j*64) 64=(if n < 64*(j+1) then n - 64*j else 64):=by
   show min _ _=_
   split<;>omega
  refine ⟨by kernel_rfl,by kernel_rfl, ?_⟩
  refine EP Tryz.eK Tryz.fc (cs:=ai .u8 (64*aT n) (fun i=>if i < 64*j then iL n f i else 0)) (bx:=⟨false,cs⟩) (news:=ai .u8 (Nat.min (n - j*64) 64) (fun i=>f (j*64+i))) (by simp only[ae,vR,seval, -List.reduceReplicate]) (by simp only[ae,vR,seval, -List.reduceReplicate])
   (by rw[aD]) (iU (oM hs' (Nat.min_le_left _ _))) (by rw[aD,hmin];split<;>omega) ?_
  rw[qo _ _ _ _ _ _ (by rw[hmin];split<;>omega)]
  simp only[a2,nC,vR,seval, -List.reduceReplicate]
  refine congrArg (fun c=>some (aI.mk true c)) (dB fun i hi=> ?_)
  rw[hmin]
  unfold iL
  split<;>(repeat' split)<;>first | rfl | (exfalso;omega) | (congr 1;omega)
 ·have e0:(((aT n:Nat):Int) < ((aT n:Nat):Int))=False:=eq_false (by omega)
  simp only[e0,decide_false,vR,seval, -List.reduceReplicate]
  refine gR (k:=1) (q:=6) (cs:=ai .u8 (64*aT n) (fun i=>if i < 64*aT n then iL n f i else 0)) (by decide) rfl az ⟨rfl, ?_⟩
  rw[dB fun i hi=>if_pos hi]
theorem IC {eD:Bool} {f:Nat→Int} {m c:Nat} (hm:m≤1048576):
  bd Tryz.prog 57 [Sl 0 0 m c] 1 (lk [(0,⟨eD,ai .u8 (64*m) f⟩)]) (Made 1 (64*m) f):=by
 refine aG Tryz.func57 rfl (by kernel_rfl) (by simp[Tryz.ntmps57]) Tryz.tF (by simp[AV.ok,CV.ok,SV.names]) fF (fG az) ?_
 have a1:IntKind.i64.wrap ((m:Int)*64)=((64*m:Nat):Int):=by rw[wrap_i64 _ (by omega) (by omega)];omega
 simp only[Tryz.results57,a1,vR,seval, -List.reduceReplicate]
 have a2:((0:Int)≤((64*m:Nat):Int))=True:=eq_true (by omega)
 have a3:(((1:Nat):Int)*((64*m:Nat):Int)≤281474976710656)=True:=eq_true (by omega)
 have a4:(((64*m:Nat):Int)≤9223372036854775807)=True:=eq_true (by omega)
 simp only[a2,a3,a4,vR,seval, -List.reduceReplicate]
 refine ⟨by omega, ?_⟩
 have hin: ∀ x ∈ [(0,(⟨eD,ai .u8 (64*m) f⟩:aI))],x.1 < 1∧lk [(0,(⟨eD,ai .u8 (64*m) f⟩:aI))] x.1=some x.2∧ ∀ y ∈ x.2.cells,SV.ok (fun n=>n < 1) y:=fun x hx=>by
  simp only[bQ]at hx
  subst hx
  exact ⟨Nat.zero_lt_one,rfl,ao az⟩
 refine kE (β:=Nat×List SV) m (fun k y=>dQ y.2 0 (64*k) y.1 f) (fun k y=>[(3,Sl 60 0 (64*k) y.1),(10,Sl 0 0 m c),(11,I .i64 m),(12,I .i64 k)])
  (fun k y=>(60,⟨true,y.2⟩)::[(0,⟨eD,ai .u8 (64*m) f⟩)]) 61 (64*m,ai .u8 (64*m) fun _=>0) ?_ ?_ ?_ ?_
 ·refine ⟨⟨by rw[aD,Nat.zero_add],by omega,az,fun i hi=>absurd hi (by omega)⟩,60,5,jL (k:=1) (show (10:Nat)≤60 by decide) (by decide) (show (1:Nat)≤10 by decide) (by decide) ?_ (by simp only[aQ]) az hin (fun t ht=> ?_)⟩
  ·simp only[jM,iZ,vR,seval, -List.reduceReplicate]
  ·exact bh _ _ _ _ (by omega)
 ·rintro j ⟨c',cs'⟩ hj h1
  have e1:List.take 64 (List.drop (j*64) (ai .u8 (64*m) f))=ai .u8 64 (fun i=>f (j*64+i)):=mC _ _ _ _ _ (by omega)
  have e2:(j*64+64≤64*m)=True:=eq_true (by omega)
  simp only[aF,aP hj,decide_true,e1,e2,bU j (by omega),vR,seval, -List.reduceReplicate]
  refine dC (b:=60) (g:=fun i=>f (j*64+i)) Tryz.eK Tryz.fc (by simp only[ae,vR,seval, -List.reduceReplicate]) h1 (.inr ⟨64,0,64,true,ai .u8 64 (fun i=>f (j*64+i)),rfl,by simp only[ae,vR,seval, -List.reduceReplicate],dL,by decide⟩) (by omega) ?_
  intro c2 j7 fS
  have Cn:dQ j7 0 (64*(j+1)) c2 f:=fS.congr (by omega) fun i hi=>by
   simp only[bC]
   split
   ·rfl
   ·congr 1;omega
  have e3:64*j+64=64*(j+1):=by omega
  simp only[bU j (by omega),e3,vR,seval, -List.reduceReplicate]
  refine ⟨(c2,j7),Cn,60,68,jL (k:=1) (show (10:Nat)≤60 by decide) (by decide) (show (1:Nat)≤10 by decide) (by decide) ?_ (by simp only[aQ]) Cn.plain hin (fun t ht=> ?_)⟩
  ·simp only[jM,iZ,vR,seval, -List.reduceReplicate]
  ·simp only[upd,vR,seval, -List.reduceReplicate]
   rw[if_neg (by omega),if_neg (by omega),if_neg (by omega),if_neg (by omega),if_neg (by omega)]
 ·rintro ⟨c',cs'⟩ h1
  simp only at h1
  simp only[vR,seval, -List.reduceReplicate]
  refine bR (by simp) ?_
  simp only[vR,seval, -List.reduceReplicate]
  exact gR (k:=1) (q:=60) (by omega) (by simp only[vR,seval, -List.reduceReplicate]) h1.plain h1.made
 ·show (10:Nat)≤61;decide
end Go.Proofs.YtaeagfdnfjenlaaGreatDoor
