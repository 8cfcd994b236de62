/-
  The journal's small functions: numbers in bytes, sectors counted.
-/
import Derived.Test.YtkaamnnjeandlaaDoorVcgH1
import Derived.Test.YtkaamnnjeandlaaDoorVcgPz
import Derived.Test.YtkaamnnjeandlaaDoorVcgWM
import Derived.Test.YtkaamnnjeandlaaDoorVcgFv
set_option maxHeartbeats 8000000
set_option maxRecDepth 20000
set_option linter.unusedSimpArgs false
set_option linter.unusedVariables false
set_option linter.unusedSectionVars false
namespace Go.Proofs.YtkaamnnjeandlaaDoor
open Go.bM
variable [aV]
def ll (f:Nat→Int):Nat→Int
 | 0=>0
 | n+1=>ll f n*256+f n
theorem jt {f:Nat→Int} (hf:cU f): ∀ n,0≤ll f n∧ll f n < 256^n
 | 0=>by simp[ll]
 | n+1=>by
  have h:=jt hf n
  have b:=hf n
  have e:(256:Int)^(n+1)=256^n*256:=by rw[Int.pow_succ]
  simp only[ll,e]
  omega
theorem Kf {f:Nat→Int} (hf:cU f) {n:Nat} (hn:n < 8):eK .or .u64 (xV .u64 (ll f n) 8) (IntKind.u64.wrap (f n))=ll f (n+1):=by
 have h:=jt hf n
 have b:=hf n
 have hp:(256:Int)^n≤256^7:=by
  have:(256:Nat)^n≤256^7:=Nat.pow_le_pow_right (by decide) (by omega)
  have e:((256^n:Nat):Int)≤((256^7:Nat):Int):=Int.ofNat_le.2 this
  rw[Int.natCast_pow,Int.natCast_pow]at e
  exact e
 have e7:(256:Int)^7=72057594037927936:=by decide
 have e8:xV .u64 (ll f n) 8=ll f n*2^8:=by
  rw[show (8:Int)=((8:Nat):Int) from rfl,HN .u64 _ 8 (by decide),cI _ (by omega) (by omega)]
 rw[e8,cI _ (by omega) (by omega),Rr _ _ 8 (by decide) h.1 (by omega) b.1 (by omega)]
 rfl
theorem M4 {o n c:Nat} {f:Nat→Int} {cs:List SV} (hf:cU f) (hs:bu cs o n f) (hp:cs.all SV.plain=true) (hn:n≤8):
  bC Tryd.prog 64 [Sl 0 o n c] 1 (lk [(0,⟨false,cs⟩)]) (fun u out=>u=I .u64 (ll f n)∧out=fun _=>none):=by
 refine aU Tryd.func64 rfl (by kernel_rfl) (by simp[Tryd.ntmps64]) Tryd.qB (by simp[AV.ok,CV.ok,SV.names]) j0 (j5 hp) ?_
 have nJ: ∀ {M:Nat→Prop},(∀ x ∈ cs,SV.ok M x)=True:=eq_true (ai hp)
 simp only[Tryd.results64,vR,seval]
 refine bY n (fun k=>[(6,Sl 0 o n c),(7,I .i64 n),(3,I .u64 (ll f k)),(8,I .i64 k)]) (fun k=>[(0,⟨false,cs⟩)]) _ ?_ ?_ ?_
 ·simp only[nJ,vR,seval];rfl
 ·intro j hj
  have a0:(((j:Nat):Int) < (n:Int))=True:=eq_true (by omega)
  have aj:((0:Int)≤(j:Int))=True:=eq_true (by omega)
  have a2:IntKind.i64.wrap ((j:Int)+1)=((j+1:Nat):Int):=by rw[wrap_i64 _ (by omega) (by omega)];rfl
  have a3:=hs j hj
  have a4:(((j:Nat):Int)).toNat=j:=by omega
  have a5:=Kf hf (show j < 8 by omega)
  simp only[a0,decide_true,aj,a2,a3,a4,a5,nJ,vR,seval]
 ·have e0:((n:Int) < (n:Int))=False:=eq_false (by omega)
  simp only[e0,decide_false,vR,seval]
  exact aL rfl ⟨rfl,rfl⟩
def wL (x:Int) (n j:Nat):Int:=IntKind.u8.wrap (qS .u64 x (8*((n:Int) - 1 - (j:Int))))
theorem D3 (x:Int) (n:Nat):cU (wL x n):=fun j=>by
 unfold wL
 rw[wrap_u8]
 omega
def x7 (o n:Nat) (x:Int) (f:Nat→Int) (i:Nat):Int:=if o≤i∧i < o+n then wL x n (i - o) else f i
theorem D4 {o n c N:Nat} {x:Int} {f:Nat→Int} (XG:o+n≤N) (hN:N≤64) (hn:n≤8):
  bC Tryd.prog 50 [Sl 0 o n c,I .u64 x] 1 (lk [(0,⟨true,aA .u8 N f⟩)]) (fun u out=>u=Sum.inr []∧out=lk [(0,⟨true,aA .u8 N (x7 o n x f)⟩)]):=by
 refine aU Tryd.func50 rfl (by kernel_rfl) (by simp[Tryd.ntmps50]) Tryd.wA (by simp[AV.ok,CV.ok,SV.names]) j0 (j5 aD) ?_
 simp only[Tryd.results50,vR,seval]
 refine bY n (fun k=>[(0,Sl 0 o n c),(1,I .u64 x),(6,I .i64 n),(7,I .i64 k)]) (fun k=>[(0,⟨true,aA .u8 N (fun i=>if o≤i∧i < o+k then wL x n (i - o) else f i)⟩)]) _ ?_ ?_ ?_
 ·have e:(fun i=>if o≤i∧i < o+0 then wL x n (i - o) else f i)=f:=by
   funext i;rw[if_neg (by omega)]
  simp only[Nat.add_zero]at e
  simp only[e,vR,seval]
 ·intro j hj
  have a0:((j:Int) < (n:Int))=True:=eq_true (by omega)
  have aj:((0:Int)≤(j:Int))=True:=eq_true (by omega)
  have a2:IntKind.i64.wrap ((j:Int)+1)=((j+1:Nat):Int):=by rw[wrap_i64 _ (by omega) (by omega)];rfl
  have a4:(((j:Nat):Int)).toNat=j:=by omega
  have a5:IntKind.i64.wrap ((n:Int) - 1)=(n:Int) - 1:=by rw[wrap_i64 _ (by omega) (by omega)]
  have a6:IntKind.i64.wrap ((n:Int) - 1 - (j:Int))=(n:Int) - 1 - (j:Int):=by rw[wrap_i64 _ (by omega) (by omega)]
  have a7:IntKind.i64.wrap (8*((n:Int) - 1 - (j:Int)))=8*((n:Int) - 1 - (j:Int)):=by rw[wrap_i64 _ (by omega) (by omega)]
  have a8:(0≤8*((n:Int) - 1 - (j:Int)))=True:=eq_true (by omega)
  have a9:o+j < N:=by omega
  have YY:(o+j < N)=True:=eq_true a9
  simp only[a0,decide_true,aj,a2,a4,a5,a6,a7,a8,YY,vR,seval]
  refine ⟨by omega, ?_⟩
  rw[fM _ _ _ _ a9]
  refine congrArg (fun c=>some (aG.mk true c)) (c7 fun i hi=> ?_)
  simp only[upd]
  by_cases e:i=o+j
  ·subst e
   rw[if_pos rfl,if_pos ⟨by omega,by omega⟩]
   unfold wL
   rw[show ((o+j - o:Nat):Int)=(j:Int) by omega]
  ·rw[if_neg e]
   by_cases h:o≤i∧i < o+j
   ·rw[if_pos h,if_pos ⟨h.1,by omega⟩]
   ·rw[if_neg h,if_neg (by omega)]
 ·have e0:((n:Int) < (n:Int))=False:=eq_false (by omega)
  simp only[e0,decide_false,vR,seval]
  exact ig (by decide) rfl rfl aD ⟨rfl,rfl⟩
theorem nj {n:Nat} (hn:n < 9223372036854775808):sM Tryd.prog 48 [I .u64 n] (I .u64 ((n+63) / 64:Nat)):=by
 refine fE Tryd.func48 rfl (by kernel_rfl) (by simp[Tryd.ntmps48]) rfl rfl ?_
 simp only[Tryd.results48,vS,seval]
 refine congrArg (fun z=>(Sum.inl (Sum.inl (Sum.inl (Value.int .u64 z))):AV)) ?_
 rw[cI ((n:Int)+64) (by omega) (by omega),cI ((n:Int)+64 - 1) (by omega) (by omega),Int.tdiv_eq_ediv_of_nonneg (by omega),cI _ (by omega) (by omega)]
 omega
def aM (n:Nat):Nat:=1+(n+63) / 64
theorem wM {n:Nat} (hn:n < 9223372036854775808):sM Tryd.prog 27 [I .u64 n] (I .u64 (aM n)):=by
 refine fE Tryd.func27 rfl (by kernel_rfl) (by simp[Tryd.ntmps27]) rfl rfl ?_
 simp only[Tryd.results27,vS,seval]
 refine (nj hn).aB ?_
 simp only[vR,seval]
 refine congrArg (fun z=>(Sum.inl (Sum.inl (Sum.inl (Value.int .u64 z))):AV)) ?_
 rw[cI _ (by omega) (by omega)]
 unfold aM
 omega
def bj (q:Int) (sv:SV):List SV:=[Sum.inl (.int .u64 q),sv]
theorem eN {q:Int} {sv:SV}:(bj q sv).length=2:=rfl
theorem iJ {r:Nat→Nat} {q:Int} {sv:SV}:AV.ren r (Ag (bj q sv))=Ag (bj q (SV.ren r sv)):=rfl
def cY (t:Nat) (sv:SV) (n:Nat) (f:Nat→Int) (cs:List SV):Prop:=((∃ a,sv= .inl (.slice a 0 0))∧n=0)∨ ∃ o c,sv= .inr (.inr (t,o,n,c))∧n≤c∧bu cs o n f
theorem cY.arg {t n:Nat} {sv:SV} {f:Nat→Int} {cs:List SV} (h:cY t sv n f cs):vA t (Sum.inl (Sum.inl sv)) n f cs:=by
 rcases h with ⟨⟨a,rfl⟩,h0⟩ | ⟨o,c,rfl,_,hs⟩
 ·exact .inl ⟨⟨a,rfl⟩,h0⟩
 ·exact .inr ⟨o,c,rfl,hs⟩
theorem cY.len {t n:Nat} {sv:SV} {f:Nat→Int} {cs:List SV} (h:cY t sv n f cs):dI 1 (some [Sum.inl (Sum.inl sv)])=some (some (I .i64 n),none):=by
 rcases h with ⟨⟨a,rfl⟩,rfl⟩ | ⟨o,c,rfl,_,hs⟩<;>rfl
theorem cY.ok {t n:Nat} {sv:SV} {f:Nat→Int} {cs:List SV} (h:cY t sv n f cs) {M:Nat→Prop} (hM:M t):SV.ok M sv:=by
 rcases h with ⟨⟨a,rfl⟩,h0⟩ | ⟨o,c,rfl,_,hs⟩
 ·exact ⟨trivial,rfl⟩
 ·exact ⟨hM,rfl⟩
theorem cY.ren {t u n:Nat} {sv:SV} {f:Nat→Int} {cs:List SV} {r:Nat→Nat} (h:cY t sv n f cs) (hr:r t=u):cY u (SV.ren r sv) n f cs:=by
 rcases h with ⟨⟨a,rfl⟩,h0⟩ | ⟨o,c,rfl,h1,hs⟩
 ·exact .inl ⟨⟨a,rfl⟩,h0⟩
 ·exact .inr ⟨o,c,by simp only[SV.ren,hr],h1,hs⟩
theorem cY.jJ {u n:Nat} {sv:SV} {f:Nat→Int} {cs:List SV} (h:cY u sv n f cs) (t:Nat): ∃ s0,cY t s0 n f cs∧ ∀ r:Nat→Nat,r t=u→SV.ren r s0=sv:=by
 rcases h with ⟨⟨a,rfl⟩,h0⟩ | ⟨o,c,rfl,h1,hs⟩
 ·exact ⟨_, .inl ⟨⟨a,rfl⟩,h0⟩,fun r _=>rfl⟩
 ·exact ⟨.inr (.inr (t,o,n,c)), .inr ⟨o,c,rfl,h1,hs⟩,fun r hr=>by simp only[SV.ren,hr]⟩
theorem j8 {q:Int} {sv:SV} {M:Nat→Prop} (h:SV.ok M sv): ∀ x ∈ bj q sv,SV.ok M x:=fun x hx=>by
 simp only[bj,cz]at hx
 rcases hx with rfl | rfl
 ·exact ⟨trivial,rfl⟩
 ·exact h
theorem Bf {q:Int} {sv:SV} {M:Nat→Prop} (h:SV.ok M sv): ∀ v ∈ [Ag (bj q sv)],AV.ok M v:=fun v hv=>by
 simp only[cz]at hv
 subst hv
 exact j8 h
theorem sk {eY:Bool} {cs:List SV} {f:Nat→Int} {q:Int} {sv:SV} {n:Nat} (hl:cY 0 sv n f cs) (hp:cs.all SV.plain=true) (hn:n < 9223372036854775000):
  bC Tryd.prog 14 [Ag (bj q sv)] 1 (lk [(0,⟨eY,cs⟩)]) (fun u out=>u=I .i64 (aM n)∧out=fun _=>none):=by
 have hw:IntKind.u64.wrap (n:Int)=(n:Int):=cI _ (by omega) (by omega)
 have YZ:IntKind.i64.wrap ((aM n:Nat):Int)=((aM n:Nat):Int):=by
  have:aM n < 9223372036854775808:=by unfold aM;omega
  rw[wrap_i64 _ (by omega) (by omega)]
 have hlen:=hl.len
 have hone:=(hl.ok (M:=fun n=>n < 1) (by decide)).2
 have hok: ∀ {M:Nat→Prop},M 0→SV.ok M sv:=fun h=>hl.ok h
 have nJ: ∀ {M:Nat→Prop},(∀ x ∈ cs,SV.ok M x)=True:=eq_true (ai hp)
 refine aU Tryd.func14 rfl (by kernel_rfl) (by simp[Tryd.ntmps14]) Tryd.p6 (Bf (hok (by decide))) j0 (j5 hp) ?_
 simp only[Tryd.results14,bj,hlen,hw,vR,seval]
 refine (wM (n:=n) (by omega)).aB ?_
 simp only[YZ,vR,seval]
 exact aL rfl ⟨rfl,rfl⟩
theorem j9 {s:AS} {nm t:Nat} {eY:Bool} {cs:List SV} {f:Nat→Int} {q:Int} {sv:SV} {n:Nat} (hb:s.box t=some ⟨eY,cs⟩) (hl:cY t sv n f cs) (hp:cs.all SV.plain=true) (hn:n < 9223372036854775000) {dst:Option Nat} {K:AS→Prop}
  (hk:K (s.put dst (some (I .i64 (aM n))))):aB Tryd.prog nm 14 (some [Ag (bj q sv)]) dst K s:=by
 obtain ⟨s0,h0,h1⟩:=hl.jJ 0
 refine (sk (eY:=false) (q:=q) h0 hp hn).iB (fun _=>t) (dU hb hp) rfl ?_ hk
 simp only[List.map_cons,List.map_nil,iJ,h1 (fun _=>t) rfl]
theorem rr {r:Int}:sM Tryd.prog 13 [I .i64 r] (B (decide (8≤r∧r≤4096))):=by
 by_cases h:8≤r
 ·by_cases h2:r≤4096
  ·have e:decide (8≤r∧r≤4096)=true:=decide_eq_true ⟨h,h2⟩
   have e1:decide (8≤r)=true:=decide_eq_true h
   have e2:decide (r≤4096)=true:=decide_eq_true h2
   rw[e]
   refine fE Tryd.func13 rfl (by kernel_rfl) (by simp[Tryd.ntmps13]) rfl rfl ?_
   simp only[Tryd.results13,e1,e2,vS,seval]
  ·have e:decide (8≤r∧r≤4096)=false:=decide_eq_false (fun x=>h2 x.2)
   have e1:decide (8≤r)=true:=decide_eq_true h
   have e2:decide (r≤4096)=false:=decide_eq_false h2
   rw[e]
   refine fE Tryd.func13 rfl (by kernel_rfl) (by simp[Tryd.ntmps13]) rfl rfl ?_
   simp only[Tryd.results13,e1,e2,vS,seval]
 ·have e:decide (8≤r∧r≤4096)=false:=decide_eq_false (fun x=>h x.1)
  have e1:decide (8≤r)=false:=decide_eq_false h
  rw[e]
  refine fE Tryd.func13 rfl (by kernel_rfl) (by simp[Tryd.ntmps13]) rfl rfl ?_
  simp only[Tryd.results13,e1,vS,seval]
end Go.Proofs.YtkaamnnjeandlaaDoor
