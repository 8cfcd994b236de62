/-
  The journal's small functions: numbers in bytes, sectors counted.
-/
import Derived.Test.YtaeagfdnfjenlaaGreatDoorVcgH1
import Derived.Test.YtaeagfdnfjenlaaGreatDoorVcgPz
import Derived.Test.YtaeagfdnfjenlaaGreatDoorVcgWM
import Derived.Test.YtaeagfdnfjenlaaGreatDoorVcgFv
set_option maxHeartbeats 8000000
set_option maxRecDepth 20000
set_option linter.unusedSimpArgs false
set_option linter.unusedVariables false
set_option linter.unusedSectionVars false
namespace Go.Proofs.YtaeagfdnfjenlaaGreatDoor
open Go.cn
variable [aX]
def p9 (f:Nat→Int):Nat→Int
 | 0=>0
 | n+1=>p9 f n*256+f n
theorem iV {f:Nat→Int} (hf:eJ f): ∀ n,0≤p9 f n∧p9 f n < 256^n
 | 0=>by simp[p9]
 | n+1=>by
  have h:=iV hf n
  have b:=hf n
  have e:(256:Int)^(n+1)=256^n*256:=by rw[Int.pow_succ]
  simp only[p9,e]
  omega
theorem PJ {f:Nat→Int} (hf:eJ f) {n:Nat} (hn:n < 8):fu .or .u64 (lK .u64 (p9 f n) 8) (IntKind.u64.wrap (f n))=p9 f (n+1):=by
 have h:=iV hf n
 have b:=hf n
 have hp:(256:Int)^n≤256^7:=by
  have:(256:Nat)^n≤256^7:=Nat.pow_le_pow_right (by decide) (by omega)
  have e:((256^n:Nat):Int)≤((256^7:Nat):Int):=Int.ofNat_le.2 this
  rw[Int.natCast_pow,Int.natCast_pow]at e
  exact e
 have e7:(256:Int)^7=72057594037927936:=by decide
 have e8:lK .u64 (p9 f n) 8=p9 f n*2^8:=by
  rw[show (8:Int)=((8:Nat):Int) from rfl,lQ .u64 _ 8 (by decide),bT _ (by omega) (by omega)]
 rw[e8,bT _ (by omega) (by omega),Y7 _ _ 8 (by decide) h.1 (by omega) b.1 (by omega)]
 rfl
theorem Si {o n c:Nat} {f:Nat→Int} {cs:List SV} (hf:eJ f) (hs:aY cs o n f) (hp:cs.all SV.plain=true) (hn:n≤8):
  bd Tryz.prog 92 [Sl 0 o n c] 1 (lk [(0,⟨false,cs⟩)]) (fun u out=>u=I .u64 (p9 f n)∧out=fun _=>none):=by
 refine aG Tryz.func92 rfl (by kernel_rfl) (by simp[Tryz.ntmps92]) Tryz.ud (by simp[AV.ok,CV.ok,SV.names]) fF (fG hp) ?_
 have nC: ∀ {M:Nat→Prop},(∀ x ∈ cs,SV.ok M x)=True:=eq_true (ao hp)
 simp only[Tryz.results92,vR,seval]
 refine bD n (fun k=>[(6,Sl 0 o n c),(7,I .i64 n),(3,I .u64 (p9 f k)),(8,I .i64 k)]) (fun k=>[(0,⟨false,cs⟩)]) _ ?_ ?_ ?_
 ·simp only[nC,vR,seval];rfl
 ·intro j hj
  have a0:(((j:Nat):Int) < (n:Int))=True:=eq_true (by omega)
  have aj:((0:Int)≤(j:Int))=True:=eq_true (by omega)
  have a2:IntKind.i64.wrap ((j:Int)+1)=((j+1:Nat):Int):=by rw[wrap_i64 _ (by omega) (by omega)];rfl
  have a3:=hs j hj
  have a4:(((j:Nat):Int)).toNat=j:=by omega
  have a5:=PJ hf (show j < 8 by omega)
  simp only[a0,decide_true,aj,a2,a3,a4,a5,nC,vR,seval]
 ·have e0:((n:Int) < (n:Int))=False:=eq_false (by omega)
  simp only[e0,decide_false,vR,seval]
  exact aJ rfl ⟨rfl,rfl⟩
def Ix (x:Int) (n j:Nat):Int:=IntKind.u8.wrap (dK .u64 x (8*((n:Int) - 1 - (j:Int))))
theorem Iy (x:Int) (n:Nat):eJ (Ix x n):=fun j=>by
 unfold Ix
 rw[wrap_u8]
 omega
def Co (o n:Nat) (x:Int) (f:Nat→Int) (i:Nat):Int:=if o≤i∧i < o+n then Ix x n (i - o) else f i
theorem Iz {o n c N:Nat} {x:Int} {f:Nat→Int} (hon:o+n≤N) (hN:N≤64) (hn:n≤8):
  bd Tryz.prog 74 [Sl 0 o n c,I .u64 x] 1 (lk [(0,⟨true,ai .u8 N f⟩)]) (fun u out=>u=Sum.inr []∧out=lk [(0,⟨true,ai .u8 N (Co o n x f)⟩)]):=by
 refine aG Tryz.func74 rfl (by kernel_rfl) (by simp[Tryz.ntmps74]) Tryz.Ay (by simp[AV.ok,CV.ok,SV.names]) fF (fG az) ?_
 simp only[Tryz.results74,vR,seval]
 refine bD n (fun k=>[(0,Sl 0 o n c),(1,I .u64 x),(6,I .i64 n),(7,I .i64 k)]) (fun k=>[(0,⟨true,ai .u8 N (fun i=>if o≤i∧i < o+k then Ix x n (i - o) else f i)⟩)]) _ ?_ ?_ ?_
 ·have e:(fun i=>if o≤i∧i < o+0 then Ix x n (i - o) else f i)=f:=by
   funext i;rw[if_neg (by omega)]
  simp only[Nat.add_zero]at e
  simp only[e,vR,seval]
 ·intro j hj
  have a0:((j:Int) < (n:Int))=True:=eq_true (by omega)
  have aj:((0:Int)≤(j:Int))=True:=eq_true (by omega)
  have a2:IntKind.i64.wrap ((j:Int)+1)=((j+1:Nat):Int):=by rw[wrap_i64 _ (by omega) (by omega)];rfl
  have a4:(((j:Nat):Int)).toNat=j:=by omega
  have a5:IntKind.i64.wrap ((n:Int) - 1)=(n:Int) - 1:=by rw[wrap_i64 _ (by omega) (by omega)]
  have a6:IntKind.i64.wrap ((n:Int) - 1 - (j:Int))=(n:Int) - 1 - (j:Int):=by rw[wrap_i64 _ (by omega) (by omega)]
  have a7:IntKind.i64.wrap (8*((n:Int) - 1 - (j:Int)))=8*((n:Int) - 1 - (j:Int)):=by rw[wrap_i64 _ (by omega) (by omega)]
  have a8:(0≤8*((n:Int) - 1 - (j:Int)))=True:=eq_true (by omega)
  have a9:o+j < N:=by omega
  have a10:(o+j < N)=True:=eq_true a9
  simp only[a0,decide_true,aj,a2,a4,a5,a6,a7,a8,a10,vR,seval]
  refine ⟨by omega, ?_⟩
  rw[dq _ _ _ _ a9]
  refine congrArg (fun c=>some (aI.mk true c)) (dB fun i hi=> ?_)
  simp only[upd]
  by_cases e:i=o+j
  ·subst e
   rw[if_pos rfl,if_pos ⟨by omega,by omega⟩]
   unfold Ix
   rw[show ((o+j - o:Nat):Int)=(j:Int) by omega]
  ·rw[if_neg e]
   by_cases h:o≤i∧i < o+j
   ·rw[if_pos h,if_pos ⟨h.1,by omega⟩]
   ·rw[if_neg h,if_neg (by omega)]
 ·have e0:((n:Int) < (n:Int))=False:=eq_false (by omega)
  simp only[e0,decide_false,vR,seval]
  exact bM (by decide) rfl rfl az ⟨rfl,rfl⟩
theorem pI {n:Nat} (hn:n < 9223372036854775808):pU Tryz.prog 72 [I .u64 n] (I .u64 ((n+63) / 64:Nat)):=by
 refine fV Tryz.func72 rfl (by kernel_rfl) (by simp[Tryz.ntmps72]) rfl rfl ?_
 simp only[Tryz.results72,vS,seval]
 refine congrArg (fun z=>(Sum.inl (Sum.inl (Sum.inl (Value.int .u64 z))):AV)) ?_
 rw[bT ((n:Int)+64) (by omega) (by omega),bT ((n:Int)+64 - 1) (by omega) (by omega),Int.tdiv_eq_ediv_of_nonneg (by omega),bT _ (by omega) (by omega)]
 omega
def aO (n:Nat):Nat:=1+(n+63) / 64
theorem AO {n:Nat} (hn:n < 9223372036854775808):pU Tryz.prog 46 [I .u64 n] (I .u64 (aO n)):=by
 refine fV Tryz.func46 rfl (by kernel_rfl) (by simp[Tryz.ntmps46]) rfl rfl ?_
 simp only[Tryz.results46,vS,seval]
 refine (pI hn).av ?_
 simp only[vR,seval]
 refine congrArg (fun z=>(Sum.inl (Sum.inl (Sum.inl (Value.int .u64 z))):AV)) ?_
 rw[bT _ (by omega) (by omega)]
 unfold aO
 omega
def bJ (q:Int) (sv:SV):List SV:=[Sum.inl (.int .u64 q),sv]
theorem fZ {q:Int} {sv:SV}:(bJ q sv).length=2:=rfl
theorem j8 {r:Nat→Nat} {q:Int} {sv:SV}:AV.ren r (Ag (bJ q sv))=Ag (bJ q (SV.ren r sv)):=rfl
def cS (t:Nat) (sv:SV) (n:Nat) (f:Nat→Int) (cs:List SV):Prop:=((∃ a,sv= .inl (.slice a 0 0))∧n=0)∨ ∃ o c,sv= .inr (.inr (t,o,n,c))∧n≤c∧aY cs o n f
theorem cS.arg {t n:Nat} {sv:SV} {f:Nat→Int} {cs:List SV} (h:cS t sv n f cs):zH t (Sum.inl (Sum.inl sv)) n f cs:=by
 rcases h with ⟨⟨a,rfl⟩,h0⟩ | ⟨o,c,rfl,_,hs⟩
 ·exact .inl ⟨⟨a,rfl⟩,h0⟩
 ·exact .inr ⟨o,c,rfl,hs⟩
theorem cS.len {t n:Nat} {sv:SV} {f:Nat→Int} {cs:List SV} (h:cS t sv n f cs):eM 1 (some [Sum.inl (Sum.inl sv)])=some (some (I .i64 n),none):=by
 rcases h with ⟨⟨a,rfl⟩,rfl⟩ | ⟨o,c,rfl,_,hs⟩<;>rfl
theorem cS.ok {t n:Nat} {sv:SV} {f:Nat→Int} {cs:List SV} (h:cS t sv n f cs) {M:Nat→Prop} (hM:M t):SV.ok M sv:=by
 rcases h with ⟨⟨a,rfl⟩,h0⟩ | ⟨o,c,rfl,_,hs⟩
 ·exact ⟨trivial,rfl⟩
 ·exact ⟨hM,rfl⟩
theorem cS.ren {t u n:Nat} {sv:SV} {f:Nat→Int} {cs:List SV} {r:Nat→Nat} (h:cS t sv n f cs) (hr:r t=u):cS u (SV.ren r sv) n f cs:=by
 rcases h with ⟨⟨a,rfl⟩,h0⟩ | ⟨o,c,rfl,h1,hs⟩
 ·exact .inl ⟨⟨a,rfl⟩,h0⟩
 ·exact .inr ⟨o,c,by simp only[SV.ren,hr],h1,hs⟩
theorem cS.iW {u n:Nat} {sv:SV} {f:Nat→Int} {cs:List SV} (h:cS u sv n f cs) (t:Nat): ∃ s0,cS t s0 n f cs∧ ∀ r:Nat→Nat,r t=u→SV.ren r s0=sv:=by
 rcases h with ⟨⟨a,rfl⟩,h0⟩ | ⟨o,c,rfl,h1,hs⟩
 ·exact ⟨_, .inl ⟨⟨a,rfl⟩,h0⟩,fun r _=>rfl⟩
 ·exact ⟨.inr (.inr (t,o,n,c)), .inr ⟨o,c,rfl,h1,hs⟩,fun r hr=>by simp only[SV.ren,hr]⟩
theorem lW {q:Int} {sv:SV} {M:Nat→Prop} (h:SV.ok M sv): ∀ x ∈ bJ q sv,SV.ok M x:=fun x hx=>by
 simp only[bJ,bQ]at hx
 rcases hx with rfl | rfl
 ·exact ⟨trivial,rfl⟩
 ·exact h
theorem Fi {q:Int} {sv:SV} {M:Nat→Prop} (h:SV.ok M sv): ∀ v ∈ [Ag (bJ q sv)],AV.ok M v:=fun v hv=>by
 simp only[bQ]at hv
 subst hv
 exact lW h
theorem wu {eD:Bool} {cs:List SV} {f:Nat→Int} {q:Int} {sv:SV} {n:Nat} (hl:cS 0 sv n f cs) (hp:cs.all SV.plain=true) (hn:n < 9223372036854775000):
  bd Tryz.prog 24 [Ag (bJ q sv)] 1 (lk [(0,⟨eD,cs⟩)]) (fun u out=>u=I .i64 (aO n)∧out=fun _=>none):=by
 have hw:IntKind.u64.wrap (n:Int)=(n:Int):=bT _ (by omega) (by omega)
 have hw2:IntKind.i64.wrap ((aO n:Nat):Int)=((aO n:Nat):Int):=by
  have:aO n < 9223372036854775808:=by unfold aO;omega
  rw[wrap_i64 _ (by omega) (by omega)]
 have hlen:=hl.len
 have hone:=(hl.ok (M:=fun n=>n < 1) (by decide)).2
 have hok: ∀ {M:Nat→Prop},M 0→SV.ok M sv:=fun h=>hl.ok h
 have nC: ∀ {M:Nat→Prop},(∀ x ∈ cs,SV.ok M x)=True:=eq_true (ao hp)
 refine aG Tryz.func24 rfl (by kernel_rfl) (by simp[Tryz.ntmps24]) Tryz.sW (Fi (hok (by decide))) fF (fG hp) ?_
 simp only[Tryz.results24,bJ,hlen,hw,vR,seval]
 refine (AO (n:=n) (by omega)).av ?_
 simp only[hw2,vR,seval]
 exact aJ rfl ⟨rfl,rfl⟩
theorem lX {s:AS} {nm t:Nat} {eD:Bool} {cs:List SV} {f:Nat→Int} {q:Int} {sv:SV} {n:Nat} (hb:s.box t=some ⟨eD,cs⟩) (hl:cS t sv n f cs) (hp:cs.all SV.plain=true) (hn:n < 9223372036854775000) {dst:Option Nat} {K:AS→Prop}
  (hk:K (s.put dst (some (I .i64 (aO n))))):av Tryz.prog nm 24 (some [Ag (bJ q sv)]) dst K s:=by
 obtain ⟨s0,h0,h1⟩:=hl.iW 0
 refine (wu (eD:=false) (q:=q) h0 hp hn).cG (fun _=>t) (bZ hb hp) rfl ?_ hk
 simp only[List.map_cons,List.map_nil,j8,h1 (fun _=>t) rfl]
theorem uV {r:Int}:pU Tryz.prog 23 [I .i64 r] (B (decide (8≤r∧r≤4096))):=by
 by_cases h:8≤r
 ·by_cases h2:r≤4096
  ·have e:decide (8≤r∧r≤4096)=true:=decide_eq_true ⟨h,h2⟩
   have e1:decide (8≤r)=true:=decide_eq_true h
   have e2:decide (r≤4096)=true:=decide_eq_true h2
   rw[e]
   refine fV Tryz.func23 rfl (by kernel_rfl) (by simp[Tryz.ntmps23]) rfl rfl ?_
   simp only[Tryz.results23,e1,e2,vS,seval]
  ·have e:decide (8≤r∧r≤4096)=false:=decide_eq_false (fun x=>h2 x.2)
   have e1:decide (8≤r)=true:=decide_eq_true h
   have e2:decide (r≤4096)=false:=decide_eq_false h2
   rw[e]
   refine fV Tryz.func23 rfl (by kernel_rfl) (by simp[Tryz.ntmps23]) rfl rfl ?_
   simp only[Tryz.results23,e1,e2,vS,seval]
 ·have e:decide (8≤r∧r≤4096)=false:=decide_eq_false (fun x=>h x.1)
  have e1:decide (8≤r)=false:=decide_eq_false h
  rw[e]
  refine fV Tryz.func23 rfl (by kernel_rfl) (by simp[Tryz.ntmps23]) rfl rfl ?_
  simp only[Tryz.results23,e1,vS,seval]
end Go.Proofs.YtaeagfdnfjenlaaGreatDoor
