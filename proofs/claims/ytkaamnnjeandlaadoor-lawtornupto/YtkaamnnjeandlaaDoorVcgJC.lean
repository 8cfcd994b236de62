/-
  Bytes cut into sectors, sectors joined.
-/
import Derived.Test.YtkaamnnjeandlaaDoorVcgJA
import Derived.Test.YtkaamnnjeandlaaDoorVcgRw
import Derived.Test.YtkaamnnjeandlaaDoorVcgWM
set_option maxHeartbeats 8000000
set_option maxRecDepth 20000
set_option linter.unusedSimpArgs false
set_option linter.unusedVariables false
set_option linter.unusedSectionVars false
namespace Go.Proofs.YtkaamnnjeandlaaDoor
open Go.bM
variable [aV]
def fX (n:Nat) (f:Nat→Int) (i:Nat):Int:=if i < n then f i else 0
def aO (n:Nat):Nat:=(n+63) / 64
theorem Iz {cs:List SV} {f:Nat→Int} {sv:SV} {n:Nat} (hl:cY 0 sv n f cs) (hp:cs.all SV.plain=true) (hn:n < 16777216):
  bC Tryd.prog 44 [Sum.inl (Sum.inl sv)] 1 (lk [(0,⟨false,cs⟩)]) (fun u out=>u=Sl 1 0 (aO n) (aO n)∧out=lk [(1,⟨true,aA .u8 (64*aO n) (fX n f)⟩)]):=by
 have hw:IntKind.u64.wrap (n:Int)=(n:Int):=cI _ (by omega) (by omega)
 have hlen:=hl.len
 have hone:=(hl.ok (M:=fun n=>n < 1) (by decide)).2
 have hok: ∀ {M:Nat→Prop},M 0→SV.ok M sv:=fun h=>hl.ok h
 have nJ: ∀ {M:Nat→Prop},(∀ x ∈ cs,SV.ok M x)=True:=eq_true (ai hp)
 refine aU Tryd.func44 rfl (by kernel_rfl) (by simp[Tryd.ntmps44]) Tryd.qn (by simp[AV.ok,CV.ok];exact (hok (by decide)).1) j0 (j5 hp) ?_
 simp only[Tryd.results44,hlen,hw,vR,seval, -List.reduceReplicate]
 refine (nj (n:=n) (by omega)).aB ?_
 have hc:(n+63) / 64=aO n:=rfl
 have RM:aO n≤1048576:=by unfold aO;omega
 rw[hc]
 simp only[wN RM,hlen,hw,vR,seval, -List.reduceReplicate]
 refine bY (aO n) (fun k=>[(0,Sum.inl (Sum.inl sv)),(3,Sl 6 0 (aO n) (aO n)),(11,I .i64 (aO n)),(12,I .i64 k)])
  (fun k=>[(0,⟨false,cs⟩),(6,⟨true,aA .u8 (64*aO n) (fun i=>if i < 64*k then fX n f i else 0)⟩)]) _ ?_ ?_ ?_
 ·simp only[Nat.mul_zero,Nat.not_lt_zero,if_false,nJ,hok,hone,vR,seval, -List.reduceReplicate]
  exact (hok (by decide)).1
 ·intro j hj
  rcases hl with ⟨_,rfl⟩ | ⟨o,c,rfl,hc,hs⟩
  ·exact absurd hj (by unfold aO;omega)
  have hj2:64*j < n:=by unfold aO at hj;omega
  have a0:((j:Int) < ((aO n:Nat):Int))=True:=eq_true (by omega)
  have aj:((0:Int)≤(j:Int))=True:=eq_true (by omega)
  have a2:IntKind.i64.wrap ((j:Int)+1)=((j+1:Nat):Int):=by rw[wrap_i64 _ (by omega) (by omega)];rfl
  have a3:IntKind.i64.wrap ((j:Int)*64)=((j*64:Nat):Int):=by rw[wrap_i64 _ (by omega) (by omega)];omega
  have a4:(((j*64:Nat):Int)≤(n:Int))=True:=eq_true (by omega)
  have a5:((n:Int)≤(c:Int))=True:=eq_true (by omega)
  have a6:((0:Int)≤((j*64:Nat):Int))=True:=eq_true (by omega)
  simp only[a0,decide_true,aj,a2,a3,a4,a5,a6,nJ,vR,seval, -List.reduceReplicate]
  have hs':=JT (m:=j*64) hs (by omega) hc
  have hmin:Nat.min (n - j*64) 64=(if n < 64*(j+1) then n - 64*j else 64):=by
   show min _ _=_
   split<;>omega
  refine ⟨by kernel_rfl,by kernel_rfl, ?_⟩
  refine AE Tryd.lH Tryd.kP (cs:=aA .u8 (64*aO n) (fun i=>if i < 64*j then fX n f i else 0)) (bx:=⟨false,cs⟩) (news:=aA .u8 (Nat.min (n - j*64) 64) (fun i=>f (j*64+i))) (by simp only[ae,vR,seval, -List.reduceReplicate]) (by simp only[ae,vR,seval, -List.reduceReplicate])
   (by rw[aH]) (lZ (mL hs' (Nat.min_le_left _ _))) (by rw[aH,hmin];split<;>omega) ?_
  rw[oa _ _ _ _ _ _ (by rw[hmin];split<;>omega)]
  simp only[a2,nJ,vR,seval, -List.reduceReplicate]
  refine congrArg (fun c=>some (aG.mk true c)) (c7 fun i hi=> ?_)
  rw[hmin]
  unfold fX
  split<;>(repeat' split)<;>first | rfl | (exfalso;omega) | (congr 1;omega)
 ·have e0:(((aO n:Nat):Int) < ((aO n:Nat):Int))=False:=eq_false (by omega)
  simp only[e0,decide_false,vR,seval, -List.reduceReplicate]
  refine gX (k:=1) (q:=6) (cs:=aA .u8 (64*aO n) (fun i=>if i < 64*aO n then fX n f i else 0)) (by decide) rfl aD ⟨rfl, ?_⟩
  rw[c7 fun i hi=>if_pos hi]
theorem D7 {eY:Bool} {f:Nat→Int} {m c:Nat} (hm:m≤1048576):
  bC Tryd.prog 38 [Sl 0 0 m c] 1 (lk [(0,⟨eY,aA .u8 (64*m) f⟩)]) (Made 1 (64*m) f):=by
 refine aU Tryd.func38 rfl (by kernel_rfl) (by simp[Tryd.ntmps38]) Tryd.qk (by simp[AV.ok,CV.ok,SV.names]) j0 (j5 aD) ?_
 have a1:IntKind.i64.wrap ((m:Int)*64)=((64*m:Nat):Int):=by rw[wrap_i64 _ (by omega) (by omega)];omega
 simp only[Tryd.results38,a1,vR,seval, -List.reduceReplicate]
 have a2:((0:Int)≤((64*m:Nat):Int))=True:=eq_true (by omega)
 have a3:(((1:Nat):Int)*((64*m:Nat):Int)≤281474976710656)=True:=eq_true (by omega)
 have a4:(((64*m:Nat):Int)≤9223372036854775807)=True:=eq_true (by omega)
 simp only[a2,a3,a4,vR,seval, -List.reduceReplicate]
 refine ⟨by omega, ?_⟩
 have hin: ∀ x ∈ [(0,(⟨eY,aA .u8 (64*m) f⟩:aG))],x.1 < 1∧lk [(0,(⟨eY,aA .u8 (64*m) f⟩:aG))] x.1=some x.2∧ ∀ y ∈ x.2.cells,SV.ok (fun n=>n < 1) y:=fun x hx=>by
  simp only[cz]at hx
  subst hx
  exact ⟨Nat.zero_lt_one,rfl,ai aD⟩
 refine oL (β:=Nat×List SV) m (fun k y=>eI y.2 0 (64*k) y.1 f) (fun k y=>[(3,Sl 60 0 (64*k) y.1),(10,Sl 0 0 m c),(11,I .i64 m),(12,I .i64 k)])
  (fun k y=>(60,⟨true,y.2⟩)::[(0,⟨eY,aA .u8 (64*m) f⟩)]) 61 (64*m,aA .u8 (64*m) fun _=>0) ?_ ?_ ?_ ?_
 ·refine ⟨⟨by rw[aH,Nat.zero_add],by omega,aD,fun i hi=>absurd hi (by omega)⟩,60,5,ij (k:=1) (show (10:Nat)≤60 by decide) (by decide) (show (1:Nat)≤10 by decide) (by decide) ?_ (by simp only[aT]) aD hin (fun t ht=> ?_)⟩
  ·simp only[jP,jQ,vR,seval, -List.reduceReplicate]
  ·exact aW _ _ _ _ (by omega)
 ·rintro j ⟨c',cs'⟩ hj h1
  have e1:List.take 64 (List.drop (j*64) (aA .u8 (64*m) f))=aA .u8 64 (fun i=>f (j*64+i)):=kE _ _ _ _ _ (by omega)
  have e2:(j*64+64≤64*m)=True:=eq_true (by omega)
  simp only[aE,aJ hj,decide_true,e1,e2,bQ j (by omega),vR,seval, -List.reduceReplicate]
  refine l5 (b:=60) (g:=fun i=>f (j*64+i)) Tryd.lH Tryd.kP (by simp only[ae,vR,seval, -List.reduceReplicate]) h1 (.inr ⟨64,0,64,true,aA .u8 64 (fun i=>f (j*64+i)),rfl,by simp only[ae,vR,seval, -List.reduceReplicate],mK,by decide⟩) (by omega) ?_
  intro c2 J6 gu
  have Pc:eI J6 0 (64*(j+1)) c2 f:=gu.congr (by omega) fun i hi=>by
   simp only[cN]
   split
   ·rfl
   ·congr 1;omega
  have e3:64*j+64=64*(j+1):=by omega
  simp only[bQ j (by omega),e3,vR,seval, -List.reduceReplicate]
  refine ⟨(c2,J6),Pc,60,68,ij (k:=1) (show (10:Nat)≤60 by decide) (by decide) (show (1:Nat)≤10 by decide) (by decide) ?_ (by simp only[aT]) Pc.plain hin (fun t ht=> ?_)⟩
  ·simp only[jP,jQ,vR,seval, -List.reduceReplicate]
  ·simp only[upd,vR,seval, -List.reduceReplicate]
   rw[if_neg (by omega),if_neg (by omega),if_neg (by omega),if_neg (by omega),if_neg (by omega)]
 ·rintro ⟨c',cs'⟩ h1
  simp only at h1
  simp only[vR,seval, -List.reduceReplicate]
  refine cy (by simp) ?_
  simp only[vR,seval, -List.reduceReplicate]
  exact gX (k:=1) (q:=60) (by omega) (by simp only[vR,seval, -List.reduceReplicate]) h1.plain h1.made
 ·show (10:Nat)≤61;decide
end Go.Proofs.YtkaamnnjeandlaaDoor
