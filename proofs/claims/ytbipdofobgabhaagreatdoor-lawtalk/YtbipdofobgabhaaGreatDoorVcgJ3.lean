/-
  What is answered where something stands against a message.
-/
import Derived.Test.YtbipdofobgabhaaGreatDoorVcgJ1
import Derived.Test.YtbipdofobgabhaaGreatDoorVcgWj
import Derived.Test.YtbipdofobgabhaaGreatDoorVcgTu
import Derived.Test.YtbipdofobgabhaaGreatDoorVcgFacts
import Derived.Test.YtbipdofobgabhaaGreatDoorVcgZ1
import Derived.Test.YtbipdofobgabhaaGreatDoorVcgSt
import Derived.Test.YtbipdofobgabhaaGreatDoorVcgG
import Derived.Test.YtbipdofobgabhaaGreatDoorVcgN
import Derived.Laws.Externs
set_option maxHeartbeats 8000000
set_option maxRecDepth 20000
set_option linter.unusedSimpArgs false
set_option linter.unusedVariables false
set_option linter.unusedSectionVars false
namespace Go.Proofs.YtbipdofobgabhaaGreatDoor
open Go.bA
variable [aG]
theorem Tryz.cz:dv Tryz.prog 50=some (false,1):=by kernel_rfl
def aaF (k n:Nat) (s:St) (f:Nat→En) (i:Nat) (v:AV) (out:Nat→Option aI):Prop:=
 (i=0∧v=Ag (dO 1 nC (.inl (.slice none 0 0)) 0 0)∧out=fun _=>none)∨(i≠0∧ ∃ sv,v=Ag (dO (oC i) { s with store:=sv } (.inl (.slice none 0 0)) 0 0)∧G7 k n f sv out)
def fK (nm n:Nat) (f:Nat→En) (sv:SV) (bx:Option aI):Prop:=
 (n=0∧sv= .inl (.slice none 0 0)∧bx=none)∨(0 < n∧ ∃ c cs,sv= .inr (.inr (nm,0,n,c))∧cF cs 0 n c f∧bx=some ⟨true,cs⟩)
theorem MH {k n nm:Nat} {f:Nat→En} {sv:SV} {out:Nat→Option aI} {r:Nat→Nat} (h:G7 k n f sv out) (hr:r k=nm):fK nm n f (SV.ren r sv) ((out k).map (aI.ren r)):=by
 rcases h with ⟨h0,rfl,rfl⟩ | ⟨h0,c,cs,rfl,hg,rfl⟩
 ·exact .inl ⟨h0,rfl,rfl⟩
 ·refine .inr ⟨h0,c,cs,by simp only[SV.ren,kY,hr],hg, ?_⟩
  have e:lk [(k,(⟨true,cs⟩:aI))] k=some ⟨true,cs⟩:=by simp[lk]
  rw[e];exact cG hg.plain
theorem RI {s:AS} {k q n:Nat} {f:Nat→En} {sv:SV} {bx:Option aI} {Post:AV→(Nat→Option aI)→Prop} (mk:SV→AV) (J0: ∀ r v,AV.ren r (mk v)=mk (SV.ren r v)) (hok: ∀ (M:Nat→Prop) v,SV.ok M v→AV.ok M (mk v))
  (hq:k≤q) (hb:s.box q=bx) (hK:fK q n f sv bx) (h: ∀ PE out,G7 k n f PE out→Post (mk PE) out):sV k Post (mk sv) s:=by
 rcases hK with ⟨h0,rfl,rfl⟩ | ⟨h0,c,cs,rfl,hg,rfl⟩
 ·refine ⟨q,mk (.inl (.slice none 0 0)),fun _=>none,hq,by rw[J0];rfl,hok _ _ (SV.aM rfl),fun m b hm=>(by simp at hm),h _ _ (.inl ⟨h0,rfl,rfl⟩)⟩
 ·refine ⟨q,mk (.inr (.inr (k,0,n,c))),lk [(k,⟨true,cs⟩)],hq, ?_,hok _ _ ⟨Nat.lt_succ_self k,rfl⟩,fun m b hm=> ?_,h _ _ (.inr ⟨h0,c,cs,rfl,hg,rfl⟩)⟩
  ·rw[J0];simp only[SV.ren,kY,kD]
  ·obtain ⟨rfl,rfl⟩:=JV hm
   exact ⟨Nat.lt_succ_self _,fun _=>rfl,aD hg.plain,⟨true,cs⟩,by rw[kD];exact hb,fun h=>h,(aN hg.plain _).symm⟩
theorem nX {s:AS} {nm t n:Nat} {x:St} {f:Nat→En} {rw:Bool} {cs:List SV} (hb:s.box t=some ⟨rw,cs⟩) (hp:cs.all SV.plain=true) (hi:aO t x.store n f cs) (hn:n*72≤140737488355328) {dst:Option Nat} {K:AS→Prop}
  (hk: ∀ sv bx,fK nm n f sv bx→K ((⟨s.env,upd s.box nm bx,s.next⟩:AS).put dst (some (Ag (aU { x with store:=sv }))))):bw Tryz.prog nm 28 (some [Ag (aU x)]) dst K s:=by
 obtain ⟨v0,g0,e0⟩:=hi.name (k:=0)
 refine (RE (s:={ x with store:=v0 }) g0 hp hn).bw (fun _=>t) (cy hb hp) ?_ ?_
 ·simp only[List.map_cons,List.map_nil,dW,e0 (fun _=>t) rfl]
 ·rintro v out ⟨sv,rfl,hK⟩
  rw[dW]
  exact hk _ _ (MH hK fU)
theorem Ow {s:St} {n i:Nat} {f:Nat→En} {cs:List SV} (h0:aO 0 s.store n f cs) (hp:cs.all SV.plain=true) (hi:i < 9) (hn:i≠0→n*72≤140737488355328):
  bz Tryz.prog 16 [Ag (aU s),V (fA i)] 1 (lk [(0,⟨false,cs⟩)]) (aaF 1 n s f i):=by
 refine fh Tryz.func16 rfl (by kernel_rfl) [3] [] (by simp[Tryz.ntmps16]) Tryz.rE (fun y hy=>by
  simp only[Tryz.cz,List.mem_cons,List.not_mem_nil,or_false]at hy
  rcases hy with rfl | rfl
  ·exact bR (h0.ok (by decide))
  ·trivial) eH (eL hp) ?_
 simp only[Tryz.cz,Tryz.results16,bY,dg,nV,fE,ak,aS,av,ay,vR,seval, -List.reduceReplicate]
 refine (nU (j:=0) hi (by decide)).aB ?_
 simp only[Tryz.cz,av,ay,vR,seval, -List.reduceReplicate]
 refine cJ (fun h=> ?_) (fun h=> ?_)
 ·obtain rfl:i=0:=by simpa using h
  simp only[Tryz.cz,bY,dg,nV,fE,ak,aS,av,ay,vR,seval, -List.reduceReplicate]
  exact ao (lZ rfl rfl) (.inl ⟨rfl,rfl,rfl⟩)
 have hi0:i≠0:=by simpa using h
 simp only[Tryz.cz,av,ay,vR,seval, -List.reduceReplicate]
 refine mT (by kernel_rfl) [0,2] [1,3] [] [4,5] [1] [9,11,10,12,13] (by kernel_rfl) (by kernel_rfl) (by kernel_rfl) ?_
 simp only[Tryz.cz,bY,dg,nV,fE,ak,aS,av,ay,vR,seval, -List.reduceReplicate]
 refine (JW hi).bw ?_
 simp only[Tryz.cz,bY,dg,nV,fE,ak,aS,av,ay,vR,seval, -List.reduceReplicate]
 refine nX (t:=0) (rw:=false) (by simp only[Tryz.cz,av,vR,seval, -List.reduceReplicate]) hp h0 (hn hi0) ?_
 intro sv bx hK
 simp only[Tryz.cz,bY,dg,nV,fE,ak,aS,av,ay,vR,seval, -List.reduceReplicate]
 exact RI (fun v=>Ag (dO (oC i) { s with store:=v } (.inl (.slice none 0 0)) 0 0)) (fun r v=>nW) (fun M v hv=>B1 hv (SV.aM rfl)) (q:=14) (by decide) (by simp only[Tryz.cz,av,vR,seval, -List.reduceReplicate]) hK fun PE out h=> .inr ⟨hi0,PE,rfl,h⟩
theorem RJ (x:Int) (n:Int) (h0:1≤n) (h1:n≤31):cO Tryz.prog 112 [I .u32 x,I .i64 (-n)] (I .u32 (wO x n)):=by
 have e:aV .and .u64 (IntKind.u64.wrap (-n)) 31=32 - n:=by
  rw[wrap_u64,show (31:Int)=2^5 - 1 from rfl,tC _ 5 (by omega) (by omega) (by decide)];omega
 have w:IntKind.u64.wrap (32 - (32 - n))=n:=by rw[wrap_u64];omega
 have c1:(0≤32 - n)=True:=eq_true (by omega)
 have c0:(0≤n)=True:=eq_true (by omega)
 refine bf Tryz.func112 rfl (by kernel_rfl) (by simp[Tryz.ntmps112]) rfl rfl ?_
 simp only[Tryz.results112,vS,seval, -List.reduceReplicate]
 simp only[e,w,c0,c1,vS,seval, -List.reduceReplicate]
 exact congrArg (I .u32) (QA _ _ _)
theorem iq (x n:Int) (h0:1≤n) (h1:n≤31):cO Tryz.prog 111 [I .u32 x,I .i64 n] (I .u32 (wO x n)):=by
 have w:IntKind.i64.wrap (0 - n)= -n:=by rw[wrap_i64 _ (by omega) (by omega)];omega
 refine bf Tryz.func111 rfl (by kernel_rfl) (by simp[Tryz.ntmps111]) rfl rfl ?_
 simp only[Tryz.results111,vS,seval, -List.reduceReplicate]
 simp only[w,vS,seval, -List.reduceReplicate]
 refine (RJ x n h0 h1).aB ?_
 simp only[vS,seval, -List.reduceReplicate]
theorem Dm (v:Nat→Int):cO Tryz.prog 103 [Ag (ah .u32 8 v)] (Ag (ah .u8 32 (CS v))):=by
 refine bf Tryz.func103 rfl (by kernel_rfl) (by simp[Tryz.ntmps103]) rfl rfl ?_
 simp only[Tryz.results103,vR,seval, -List.reduceReplicate]
 refine aQ 32 (fun k=>[(2,Ptr 1 0),(1,Ptr 0 0),(3,Ptr 2 0),(5,I .i64 k)])
  (fun k=>[(0,⟨true,ah .u32 8 v⟩),(1,⟨true,ah .u8 32 (fun _=>0)⟩),(2,⟨true,ah .u8 32 (fun i=>if i < k then CS v i else 0)⟩)]) _ ?_ ?_ ?_
 ·simp only[Nat.not_lt_zero,if_false,vR,seval, -List.reduceReplicate]
 ·intro j hj
  have a1:(((j / 4:Nat):Int) < 8)=True:=by simp;omega
  have a3:((j:Int) < 32)=True:=fw (m:=32) hj
  have q:=NV j 4 (by omega)
  have r:=Uo j 4
  rw[show ((4:Nat):Int)=4 from rfl]at q r
  have w1:IntKind.i64.wrap (((j%4:Nat):Int)*8)=8*((j%4:Nat):Int):=by rw[wrap_i64 _ (by omega) (by omega)];omega
  have w2:IntKind.i64.wrap (24 - 8*((j%4:Nat):Int))=24 - 8*((j%4:Nat):Int):=wrap_i64 _ (by omega) (by omega)
  have a2:(0≤24 - 8*((j%4:Nat):Int))=True:=eq_true (by omega)
  have fin:ah .u8 32 (upd (fun i=>if i < j then CS v i else 0) j (CS v j))=ah .u8 32 (fun i=>if i < j+1 then CS v i else 0):=kj
  have eo:IntKind.u8.wrap (ft .u32 (v (j / 4)) (24 - 8*((j%4:Nat):Int)))=CS v j:=rfl
  simp only[vR,seval, -List.reduceReplicate]
  refine aK (by simp;omega) ?_
  simp only[q,r,w1,w2,a1,a2,a3,cC,aE .u32 8 v (j / 4) (by omega),Nat.mul_one,eo,bb .u8 32 _ j hj,fin,dX j (by omega),vR,seval, -List.reduceReplicate]
  omega
 ·simp only[vR,seval, -List.reduceReplicate]
  refine aZ (by simp) ?_
  simp only[iy,vR,seval, -List.reduceReplicate]
def RK (f:Nat→Int) (i t:Nat):Int:=if 4*t+4≤i then QC f t else if 4*t≤i then tG f t (i - 4*t) else 0
theorem RL (f:Nat→Int): ∀ t,RK f 0 t=0:=fun t=>by
 simp only[RK];rw[if_neg (by omega)]
 split
 ·rw[show 0 - 4*t=0 by omega];rfl
 ·rfl
theorem X4 (f:Nat→Int) (i:Nat):RK f i (i / 4)=tG f (i / 4) (i%4):=by
 simp only[RK];rw[if_neg (by omega),if_pos (by omega),show i - 4*(i / 4)=i%4 by omega]
theorem RM (f:Nat→Int) (i:Nat):upd (RK f i) (i / 4) (tG f (i / 4) (i%4+1))=RK f (i+1):=by
 funext t
 simp only[upd]
 split
 ·rename_i e;subst e
  simp only[RK]
  by_cases h:4*(i / 4)+4≤i+1
  ·rw[if_pos h,show i%4+1=4 by omega];rfl
  ·rw[if_neg h,if_pos (by omega),show i+1 - 4*(i / 4)=i%4+1 by omega]
 ·rename_i e
  simp only[RK]
  by_cases h:4*t+4≤i
  ·rw[if_pos h,if_pos (by omega)]
  ·rw[if_neg h,if_neg (show ¬ 4*t≤i by omega),if_neg (show ¬ 4*t+4≤i+1 by omega)]
   by_cases h3:4*t≤i+1
   ·rw[if_pos h3,show i+1 - 4*t=0 by omega];rfl
   ·rw[if_neg h3]
theorem UM (f:Nat→Int):ah .u32 64 (RK f 64)=ah .u32 64 (oW f 16):=aW fun t ht=>by
 have: ∀ k,k≤16→oW f k t=if t < k then QC f t else 0:=fun k=>by
  induction k with
  | zero=>intro _;rfl
  | succ k ih=>
   intro hk
   simp only[oW,upd]
   split
   ·rename_i e;subst e;rw[if_pos (by omega),if_pos (by omega)]
   ·rw[ih (by omega)]
    by_cases h:t < k
    ·rw[if_pos h,if_pos (by omega)]
    ·rw[if_neg h,if_neg (by omega)]
 rw[this 16 (Nat.le_refl _)]
 simp only[RK]
 by_cases h:t < 16
 ·rw[if_pos (by omega),if_pos h]
 ·rw[if_neg (by omega),if_neg h]
  split
  ·rw[show 64 - 4*t=0 by omega];rfl
  ·rfl
theorem J1 {f:Nat→Int} {o c:Nat} {cs:List SV} (hf:bg f) (hc:br cs o 64 f) (hp:cs.all SV.plain=true):
  bz Tryz.prog 109 [Sl 0 o 64 c] 1 (lk [(0,⟨false,cs⟩)]) (fun v out=>v=Ag (ah .u32 64 (N0 f))∧out=fun _=>none):=by
 refine aA Tryz.func109 rfl (by kernel_rfl) (by simp[Tryz.ntmps109]) Tryz.GZ (by simp[AV.ok,CV.ok,SV.names]) eH (eL hp) ?_
 have zV: ∀ {M:Nat→Prop},(∀ x ∈ cs,SV.ok M x)=True:=eq_true (aD hp)
 simp only[Tryz.results109,vR,seval, -List.reduceReplicate]
 refine aQ 64 (fun k=>[(2,Ptr 1 0),(3,Ptr 2 0),(9,Sl 0 o 64 c),(10,I .i64 64),(11,I .i64 k)])
  (fun k=>[(0,⟨false,cs⟩),(1,⟨true,ah .u32 64 (fun _=>0)⟩),(2,⟨true,ah .u32 64 (RK f k)⟩)]) _ ?_ ?_ ?_
 ·simp only[zV,vR,seval, -List.reduceReplicate]
  exact congrArg (fun c=>some (aI.mk true c)) (aW fun i _=>(RL f i).symm)
 ·intro j hj
  have a1:(((j / 4:Nat):Int) < 64)=True:=by simp;omega
  have a3:((j:Int) < 64)=True:=fw (m:=64) hj
  have q:=NV j 4 (by omega)
  rw[show ((4:Nat):Int)=4 from rfl]at q
  have st:=NZ hf (j / 4) (j%4) (by omega)
  rw[show 4*(j / 4)+j%4=j by omega]at st
  simp only[vR,seval, -List.reduceReplicate]
  refine aK (by simp;omega) ?_
  simp only[q,a1,a3,cC,hc j hj,aE .u32 64 _ (j / 4) (show j / 4 < 64 by omega),X4,st,Nat.mul_one,bb .u32 64 _ (j / 4) (show j / 4 < 64 by omega),RM,dX j (by omega),vR,seval, -List.reduceReplicate]
  exact ⟨by omega,aD hp⟩
 ·simp only[vR,seval, -List.reduceReplicate]
  refine aZ (by simp) ?_
  simp only[UM,vR,seval, -List.reduceReplicate]
  refine aQ 48 (fun k=>[(2,Ptr 1 0),(3,Ptr 2 0),(6,I .i64 ((16+k:Nat):Int))])
   (fun k=>[(1,⟨true,ah .u32 64 (fun _=>0)⟩),(2,⟨true,ah .u32 64 (oW f (16+k))⟩)]) _ ?_ ?_ ?_
  ·simp only[vR,seval, -List.reduceReplicate]
  ·intro k hk
   have w15:IntKind.i64.wrap (((16+k:Nat):Int) - 15)=((16+k - 15:Nat):Int):=by rw[wrap_i64 _ (by omega) (by omega)];omega
   have w2:IntKind.i64.wrap (((16+k:Nat):Int) - 2)=((16+k - 2:Nat):Int):=by rw[wrap_i64 _ (by omega) (by omega)];omega
   have w7:IntKind.i64.wrap (((16+k:Nat):Int) - 7)=((16+k - 7:Nat):Int):=by rw[wrap_i64 _ (by omega) (by omega)];omega
   have w16:IntKind.i64.wrap (((16+k:Nat):Int) - 16)=((16+k - 16:Nat):Int):=by rw[wrap_i64 _ (by omega) (by omega)];omega
   have l15:(((16+k - 15:Nat):Int) < 64)=True:=eq_true (by omega)
   have l2:(((16+k - 2:Nat):Int) < 64)=True:=eq_true (by omega)
   have l7:(((16+k - 7:Nat):Int) < 64)=True:=eq_true (by omega)
   have WD:(((16+k - 16:Nat):Int) < 64)=True:=eq_true (by omega)
   have l0:(((16+k:Nat):Int) < 64)=True:=eq_true (by omega)
   have g: ∀ i,i < 64→(ah .u32 64 (oW f (16+k)))[i]? =some (Sum.inl (.int .u32 (oW f (16+k) i))):=fun i hi=>aE .u32 64 _ i hi
   simp only[vR,seval, -List.reduceReplicate]
   refine aK (by simp;omega) ?_
   simp only[w15,w2,w7,w16,l15,l2,l7,WD,l0,cC,g _ (show 16+k - 15 < 64 by omega),g _ (show 16+k - 2 < 64 by omega),g _ (show 16+k - 7 < 64 by omega),g _ (show 16+k - 16 < 64 by omega),Nat.mul_one,vR,seval, -List.reduceReplicate]
   refine ⟨by kernel_rfl,cO.draw (iq _ 7 (by decide) (by decide)) Tryz.iN ?_⟩
   simp only[w15,w2,w7,w16,l15,l2,l7,WD,l0,cC,g _ (show 16+k - 15 < 64 by omega),g _ (show 16+k - 2 < 64 by omega),g _ (show 16+k - 7 < 64 by omega),g _ (show 16+k - 16 < 64 by omega),Nat.mul_one,vR,seval, -List.reduceReplicate]
   refine cO.draw (iq _ 18 (by decide) (by decide)) Tryz.iN ?_
   simp only[w15,w2,w7,w16,l15,l2,l7,WD,l0,cC,g _ (show 16+k - 15 < 64 by omega),g _ (show 16+k - 2 < 64 by omega),g _ (show 16+k - 7 < 64 by omega),g _ (show 16+k - 16 < 64 by omega),Nat.mul_one,vR,seval, -List.reduceReplicate]
   refine ⟨by kernel_rfl,cO.draw (iq _ 17 (by decide) (by decide)) Tryz.iN ?_⟩
   simp only[w15,w2,w7,w16,l15,l2,l7,WD,l0,cC,g _ (show 16+k - 15 < 64 by omega),g _ (show 16+k - 2 < 64 by omega),g _ (show 16+k - 7 < 64 by omega),g _ (show 16+k - 16 < 64 by omega),Nat.mul_one,vR,seval, -List.reduceReplicate]
   refine cO.draw (iq _ 19 (by decide) (by decide)) Tryz.iN ?_
   simp only[w15,w2,w7,w16,l15,l2,l7,WD,l0,cC,g _ (show 16+k - 15 < 64 by omega),g _ (show 16+k - 2 < 64 by omega),g _ (show 16+k - 7 < 64 by omega),g _ (show 16+k - 16 < 64 by omega),Nat.mul_one,vR,seval, -List.reduceReplicate]
   refine ⟨by kernel_rfl,by omega,congrArg (fun z=>some (I .i64 z)) (dX (16+k) (by omega)), ?_⟩
   have e:oW f (16+(k+1))=upd (oW f (16+k)) (16+k) (Wi (oW f (16+k)) (16+k)):=by
    show upd (oW f (16+k)) (16+k) (if 16+k < 16 then _ else _)=_
    rw[if_neg (by omega)];rfl
   rw[e, ← bb .u32 64 _ _ (by omega)]
   rfl
  ·simp only[vR,seval, -List.reduceReplicate]
   refine aZ (by simp) ?_
   simp only[vR,seval, -List.reduceReplicate]
   exact ao az ⟨rfl,rfl⟩
theorem WE:[Sum.inl (Value.int IntKind.u32 0),Sum.inl (Value.int IntKind.u32 0),Sum.inl (Value.int IntKind.u32 0),Sum.inl (Value.int IntKind.u32 0),Sum.inl (Value.int IntKind.u32 0),Sum.inl (Value.int IntKind.u32 0),Sum.inl (Value.int IntKind.u32 0),Sum.inl (Value.int IntKind.u32 0)]=ah .u32 8 (fun _=>0):=rfl
theorem za (v w:Nat→Int) (hv:TT v):cO Tryz.prog 108 [Ag (ah .u32 8 v),Ag (ah .u32 64 w)] (Ag (ah .u32 8 (fun i=>IntKind.u32.wrap (v i+rounds kW v w 64 i)))):=by
 refine bf Tryz.func108 rfl (by kernel_rfl) (by simp[Tryz.ntmps108]) rfl rfl ?_
 have g: ∀ i,i < 8→(ah .u32 8 v)[i]? =some (Sum.inl (.int .u32 (v i))):=fun i hi=>aE .u32 8 _ i hi
 simp only[Tryz.results108,g 0 (by decide),g 1 (by decide),g 2 (by decide),g 3 (by decide),g 4 (by decide),g 5 (by decide),g 6 (by decide),g 7 (by decide),vR,seval, -List.reduceReplicate]
 refine ⟨by kernel_rfl,by kernel_rfl, ?_⟩
 refine aQ 64 (fun k=>[(2,Ptr 0 0),(3,Ptr 1 0),(4,Ptr 2 0),(5,I .u32 (rounds kW v w k 0)),(6,I .u32 (rounds kW v w k 1)),(7,I .u32 (rounds kW v w k 2)),(8,I .u32 (rounds kW v w k 3)),(9,I .u32 (rounds kW v w k 4)),(10,I .u32 (rounds kW v w k 5)),(11,I .u32 (rounds kW v w k 6)),(12,I .u32 (rounds kW v w k 7)),(36,I .i64 k)])
  (fun k=>[(0,⟨true,ah .u32 8 v⟩),(1,⟨true,ah .u32 64 w⟩),(2,⟨true,ah .u32 8 (fun _=>0)⟩)]) _ ?_ ?_ ?_
 ·simp only[rounds,WE,vR,seval, -List.reduceReplicate]
 ·intro k hk
  have hr:=Bw (K:=kW) (w:=w) hv k
  have a3:((k:Int) < 64)=True:=fw (m:=64) hk
  have e: ∀ i,rounds kW v w (k+1) i=Us (rounds kW v w k) (kW k) (w k) i:=fun i=>rfl
  have n4:=Uq _ (hr 4).1 (hr 4).2
  generalize rounds kW v w k=r at*
  simp only[vR,seval, -List.reduceReplicate]
  refine aK (by simp;omega) ?_
  simp only[a3,cC,aE .u32 64 w k hk,Nat.mul_one,vR,seval, -List.reduceReplicate]
  refine (iq _ 6 (by decide) (by decide)).aB ?_
  simp only[vR,seval, -List.reduceReplicate]
  refine (iq _ 11 (by decide) (by decide)).aB ?_
  simp only[vR,seval, -List.reduceReplicate]
  refine (iq _ 25 (by decide) (by decide)).aB ?_
  simp only[a3,cC,aE .u32 64 w k hk,aE .u32 64 kW k hk,Nat.mul_one,vR,seval, -List.reduceReplicate]
  refine ⟨by kernel_rfl, ?_⟩
  refine (iq _ 2 (by decide) (by decide)).aB ?_
  simp only[vR,seval, -List.reduceReplicate]
  refine (iq _ 13 (by decide) (by decide)).aB ?_
  simp only[vR,seval, -List.reduceReplicate]
  refine (iq _ 22 (by decide) (by decide)).aB ?_
  simp only[vR,seval, -List.reduceReplicate]
  have ac1:(if IntKind.u32.signed=true then -1 else IntKind.u32.max)=4294967295:=rfl
  simp only[e,dX k (by omega),ac1,n4,and_true]
  exact ⟨rfl,rfl,rfl,rfl,rfl,rfl,rfl,rfl⟩
 ·simp only[vR,seval, -List.reduceReplicate]
  refine aZ (by simp) ?_
  simp only[vS,seval, -List.reduceReplicate]
  generalize rounds kW v w 64=r at*
  refine aQ 8 (fun k=>[(2,Ptr 0 0),(4,Ptr 2 0),(109,Ag (ah .u32 8 r)),(110,I .i64 k)])
   (fun k=>[(0,⟨true,ah .u32 8 (fun i=>if i < k then IntKind.u32.wrap (v i+r i) else v i)⟩),(2,⟨true,ah .u32 8 (fun _=>0)⟩)]) _ ?_ ?_ ?_
  ·simp only[yw,vR,seval, -List.reduceReplicate]
   rfl
  ·intro k hk
   have a3:((k:Int) < 8)=True:=fw (m:=8) hk
   have hf:(if k < k then IntKind.u32.wrap (v k+r k) else v k)=v k:=if_neg (Nat.lt_irrefl k)
   have fin:ah .u32 8 (upd (fun i=>if i < k then IntKind.u32.wrap (v i+r i) else v i) k (IntKind.u32.wrap (v k+r k)))=ah .u32 8 (fun i=>if i < k+1 then IntKind.u32.wrap (v i+r i) else v i):=mO (f:=fun i=>IntKind.u32.wrap (v i+r i))
   simp only[vR,seval, -List.reduceReplicate]
   refine aK (by simp;omega) ?_
   simp only[a3,cC,aE .u32 8 _ k hk,hf,Nat.mul_one,bb .u32 8 _ k hk,fin,dX k (by omega),vR,seval, -List.reduceReplicate]
   omega
  ·simp only[vR,seval, -List.reduceReplicate]
   refine aZ (by simp) ?_
   simp only[iy,vR,seval, -List.reduceReplicate]
def lA (x:Int) (j:Nat):Int:=IntKind.u8.wrap (ft .u64 x (56 - 8*(j:Int)))
theorem G9 {n o c:Nat} {f:Nat→Int} {cs:List SV} {x:Int} (hg:bV cs o n c f) (hn:n+8≤140737488355328):
  bz Tryz.prog 80 [Sl 0 o n c,I .u64 x] 1 (lk [(0,⟨true,cs⟩)]) (Made 1 (n+8) (bh n f (lA x))):=by
 refine aA Tryz.func80 rfl (by kernel_rfl) (by simp[Tryz.ntmps80]) Tryz.nR (by simp[AV.ok,CV.ok,SV.names]) eH (eL hg.plain) ?_
 simp only[Tryz.results80,vR,seval, -List.reduceReplicate]
 refine pQ (β:=Nat×Nat×List SV) 8 (fun k y=>bV y.2.2 y.1 (n+k) y.2.1 (bh n f (lA x))∧(k=0∨y.1=0))
  (fun k y=>[(0,Sl 30 y.1 (n+k) y.2.1),(1,I .u64 x),(5,I .i64 (56 - 8*(k:Int)))]) (fun k y=>[(30,⟨true,y.2.2⟩)]) 31 (o,c,cs) ?_ ?_ ?_ (by show 3≤31;decide)
 ·refine ⟨⟨⟨hg.len,hg.room,hg.plain,kl hg.shows fun i hi=> ?_⟩, .inl rfl⟩,30,0, ?_⟩
  ·simp only[bh,if_pos (show i < n from hi)]
  ·simp only[gb,mP,fb,qD,oz,hg.plain,true_or,vR,seval, -List.reduceReplicate]
   simp
 ·rintro k ⟨o',c',cs'⟩ hk ⟨h1,h2⟩
  simp only at h1 h2
  have a2:(0≤56 - 8*(k:Int))=True:=eq_true (by omega)
  have ws:IntKind.i64.wrap (56 - 8*(k:Int) - 8)=56 - 8*((k+1:Nat):Int):=by rw[wrap_i64 _ (by omega) (by omega)];omega
  have eb:IntKind.u8.wrap (ft .u64 x (56 - 8*(k:Int)))=lA x k:=rfl
  simp only[vR,seval, -List.reduceReplicate]
  refine aK (by simp;omega) ?_
  simp only[a2,eb,vR,seval, -List.reduceReplicate]
  refine fI (g:=fun _=>lA x k) Tryz.gA Tryz.gi (by simp only[ae,vR,seval, -List.reduceReplicate]) h1 (.inr ⟨38,0,1,true,[Sum.inl (.int .u8 (lA x k))],rfl,by simp only[ae,fS,vR,seval, -List.reduceReplicate],gp,by decide⟩) (by omega) ?_
  intro c2 qH j6
  simp only[ws,vR,seval, -List.reduceReplicate]
  refine ⟨(0,c2,qH),⟨j6.congr (by omega) fun i hi=>I7 i (by omega), .inr rfl⟩,30,39, ?_⟩
  simp only[gb,mP,fb,qD,oz,j6.plain,true_or,vR,seval, -List.reduceReplicate]
  simp[Nat.add_assoc]
 ·rintro ⟨o',c',cs'⟩ ⟨h1,h2⟩
  simp only at h1 h2
  have:o'=0:=by omega
  subst this
  simp only[vR,seval, -List.reduceReplicate]
  refine aZ (by decide) ?_
  simp only[vR,seval, -List.reduceReplicate]
  refine gV (k:=1) (q:=30) (cs:=cs') (by decide) ?_ h1.plain h1.made
  simp only[vR,seval, -List.reduceReplicate]
theorem zb {f v:Nat→Int} {o c m:Nat} {cs:List SV} (hv:TT v) (hf:bg f) (hc:br cs o (64*m) f) (hcap:64*m≤c) (hm:64*m < 4611686018427387904) (hp:cs.all SV.plain=true):
  bz Tryz.prog 101 [Ag (ah .u32 8 v),Sl 0 o (64*m) c] 1 (lk [(0,⟨false,cs⟩)]) (fun u out=>u=Ag (ah .u32 8 (lj kW v f m))∧out=fun _=>none):=by
 refine aA Tryz.func101 rfl (by kernel_rfl) (by simp[Tryz.ntmps101]) Tryz.GV (fun u hu=>by
  simp only[List.mem_cons,List.not_mem_nil,or_false]at hu
  rcases hu with rfl | rfl
  ·exact aD az
  ·exact (by decide:0 < 1)) eH (eL hp) ?_
 have zV: ∀ {M:Nat→Prop},(∀ x ∈ cs,SV.ok M x)=True:=eq_true (aD hp)
 simp only[Tryz.results101,vR,seval, -List.reduceReplicate]
 refine aQ m (fun k=>[(1,Sl 0 o (64*m) c),(2,Ptr 1 0),(4,Ptr 2 0),(5,I .i64 ((64*k:Nat):Int))])
  (fun k=>[(0,⟨false,cs⟩),(1,⟨true,ah .u32 8 (lj kW v f k)⟩),(2,⟨true,ah .u32 8 (fun _=>0)⟩)]) _ ?_ ?_ ?_
 ·simp only[zV,WE,lj,Nat.mul_zero,vR,seval, -List.reduceReplicate]
 ·intro k hk
  have l1:(((64*k:Nat):Int)≤((64*k+64:Nat):Int))=True:=eq_true (by omega)
  have l2:(((64*k+64:Nat):Int)≤(c:Int))=True:=eq_true (by omega)
  have w1:IntKind.i64.wrap (((64*k:Nat):Int)+64)=((64*k+64:Nat):Int):=by rw[wrap_i64 _ (by omega) (by omega)];omega
  have h4:(if c=64*k then o else o+64*k)=o+64*k:=if_neg (by omega)
  have h5:64*k+64 - 64*k=64:=by omega
  have z8: ∀ r r':Nat→Int,splice (ah .u32 8 r') 0 (ah .u32 8 r)=ah .u32 8 r:=fun r r'=>dk .u32 8 _ _
  have ee:(fun i=>IntKind.u32.wrap (lj kW v f k i+rounds kW (lj kW v f k) (N0 (fun i=>f (64*k+i))) 64 i))=lj kW v f (k+1):=rfl
  simp only[vR,seval, -List.reduceReplicate]
  refine aK (by simp;omega) ?_
  simp only[w1,l1,l2,h4,h5,cC,Nat.mul_one,vR,seval, -List.reduceReplicate]
  refine ⟨by kernel_rfl, ?_⟩
  refine (J1 (f:=fun i=>f (64*k+i)) (fun i=>hf _) (Bq hc (64*k) 64 (by omega)) hp).cI (fun _=>0) (cy (rw:=false) (by simp only[ae,vR,seval, -List.reduceReplicate]) hp) az (by rfl) (fun M h n _=>h (Sl 0 (o+64*k) 64 (c - 64*k)) (List.Mem.head _)) ?_
  simp only[vR,seval, -List.reduceReplicate]
  refine cO.draw (za _ _ (L5 hv k)) Tryz.GY ?_
  rw[ee]
  simp only[z8,w1,zV,vR,seval, -List.reduceReplicate]
  exact congrArg (fun z:Nat=>some (I .i64 (z:Int))) (by omega)
 ·simp only[vR,seval, -List.reduceReplicate]
  refine aZ (by simp) ?_
  simp only[vR,seval, -List.reduceReplicate]
  exact ao az ⟨rfl,rfl⟩
theorem RN {l j:Nat} (hl:l < 140737488355328) (hj:j < 8):lA (IntKind.u64.wrap (IntKind.u64.wrap (l:Int)*8)) j=QE l j:=by
 rw[aC (l:Int) (by omega) (by omega),aC _ (by omega) (by omega)]
 have e:(56 - 8*(j:Int))=((56 - 8*j:Nat):Int):=by omega
 simp only[lA,QE]
 rw[e,tB .u64 _ _ (show 56 - 8*j≤IntKind.u64.bits by simp only[IntKind.bits];omega),wrap_u8]
 simp
theorem RO {n o c l:Nat} {f:Nat→Int} {cs:List SV} (hc:br cs o n f) (hp:cs.all SV.plain=true) (hn:n < 64) (hl:l < 140737488355328) (hln:l%64=n):
  bz Tryz.prog 102 [Sl 0 o n c,I .i64 l] 1 (lk [(0,⟨false,cs⟩)]) (Made 1 (64*(blocks l - l / 64)) (fun i=>oX (fun j=>f (j - l / 64*64)) l (l / 64*64+i))):=by
 refine aA Tryz.func102 rfl (by kernel_rfl) (by simp[Tryz.ntmps102]) Tryz.GX (by simp[AV.ok,CV.ok,SV.names]) eH (eL hp) ?_
 have zV: ∀ {M:Nat→Prop},(∀ x ∈ cs,SV.ok M x)=True:=eq_true (aD hp)
 simp only[Tryz.results102,vR,seval, -List.reduceReplicate]
 try refine ⟨by decide, ?_⟩
 have hz:bV (ah .u8 128 (fun _=>0)) 0 0 128 (fun _=>0):=⟨by rw[af],by decide,az,fun i hi=>by omega⟩
 refine fI (f:=fun _=>0) (g:=f) Tryz.gA Tryz.gi (by simp only[ae,vR,seval, -List.reduceReplicate]) hz (.inr ⟨0,o,c,false,cs,rfl,by simp only[ae,vR,seval, -List.reduceReplicate],hc,by decide⟩) (by omega) ?_
 intro c1 G0 fP
 simp only[Nat.zero_add,vR,seval, -List.reduceReplicate]
 refine fI (g:=fun _=>128) Tryz.gA Tryz.gi (by simp only[ae,Nat.zero_add,vR,seval, -List.reduceReplicate]) (fP.congr (m:=n) (g:=f) (by omega) (fun i hi=>by simp only[bh];rw[if_neg (by omega),Nat.sub_zero])) (.inr ⟨9,0,1,true,[Sum.inl (.int .u8 128)],rfl,by simp only[ae,fS,vR,seval, -List.reduceReplicate],gp,by decide⟩) (by omega) ?_
 intro c2 qH j6
 simp only[vR,seval, -List.reduceReplicate]
 have hE:64*(blocks l - l / 64)=if n < 56 then 64 else 128:=by
  simp only[blocks];split<;>omega
 generalize 64*(blocks l - l / 64)=E at*
 have hE1:n+9≤E∧E≤128:=by split at hE<;>omega
 have hF: ∀ i,i < E→oX (fun j=>f (j - l / 64*64)) l (l / 64*64+i)=bh (E - 8) (bh n f (bh 1 (fun _=>128) (fun _=>0))) (fun j=>QE l j) i:=fun i hi=>by
  have hb:64*blocks l - 8=l / 64*64+(E - 8):=by simp only[blocks];split at hE<;>omega
  simp only[oX,bh,hb]
  by_cases h1:i < n
  ·rw[if_pos (by omega),if_pos (by omega),if_pos h1,show l / 64*64+i - l / 64*64=i by omega]
  ·rw[if_neg (by omega)]
   by_cases h2:i=n
   ·rw[if_pos (by omega),if_pos (by omega),if_neg h1,if_pos (by omega)]
   ·rw[if_neg (by omega)]
    by_cases h3:i < E - 8
    ·rw[if_pos (by omega),if_pos h3,if_neg h1,if_neg (by omega)]
    ·rw[if_neg (by omega),if_neg h3,show l / 64*64+i - (l / 64*64+(E - 8))=i - (E - 8) by omega]
 refine pQ (β:=Nat×List SV) (E - 8 - (n+1)) (fun k y=>bV y.2 0 (n+1+k) y.1 (bh n f (bh 1 (fun _=>128) (fun _=>0))))
  (fun k y=>[(1,I .i64 l),(5,Sl 30 0 (n+1+k) y.1)]) (fun k y=>[(30,⟨true,y.2⟩)]) 31 (c2,qH) ?_ ?_ ?_ (by show 12≤31;decide)
 ·refine ⟨j6.congr rfl fun i hi=> ?_,30,10, ?_⟩
  ·simp only[bh];split
   ·rfl
   ·rw[if_pos (by omega)]
  ·simp only[gb,mP,fb,qD,oz,j6.plain,true_or,vR,seval, -List.reduceReplicate]
   simp
 ·rintro k ⟨c',cs'⟩ hk h1
  simp only at h1
  have hr:=Uo (n+1+k) 64
  rw[show ((64:Nat):Int)=64 from rfl]at hr
  have hne:(n+1+k)%64≠56:=by split at hE<;>omega
  simp only[hr,vR,seval, -List.reduceReplicate]
  refine aK (by simp;omega) ?_
  simp only[vR,seval, -List.reduceReplicate]
  refine fI (g:=fun _=>0) Tryz.gA Tryz.gi (by simp only[ae,vR,seval, -List.reduceReplicate]) h1 (.inr ⟨_,_,_,true,[Sum.inl (.int .u8 0)],rfl,by simp only[ae,fS,vR,seval, -List.reduceReplicate],gp,by decide⟩) (by omega) ?_
  intro c3 cs3 hg3
  simp only[vR,seval, -List.reduceReplicate]
  refine ⟨(c3,cs3),hg3.congr (by omega) fun i hi=> ?_,30,37, ?_⟩
  ·by_cases h:i < n+1+k
   ·simp only[bh,if_pos h]
   ·simp only[bh];rw[if_neg h,if_neg (by omega),if_neg (by omega)]
  ·simp only[gb,mP,fb,qD,oz,hg3.plain,true_or,vR,seval, -List.reduceReplicate]
   simp[Nat.add_assoc]
 ·rintro ⟨c',cs'⟩ h1
  simp only at h1
  have hr:=Uo (n+1+(E - 8 - (n+1))) 64
  rw[show ((64:Nat):Int)=64 from rfl]at hr
  have hne:(n+1+(E - 8 - (n+1)))%64=56:=by split at hE<;>omega
  simp only[hr,vR,seval, -List.reduceReplicate]
  refine aZ (by rw[hne];rfl) ?_
  simp only[vR,seval, -List.reduceReplicate]
  refine tE (G9 h1 (by omega)) (t:=30) (by simp only[ae,vR,seval, -List.reduceReplicate]) h1.plain rfl ?_
  intro c3 cs3 hg3
  simp only[vR,seval, -List.reduceReplicate]
  have ac2: ∀ i,i < E→bh (n+1+(E - 8 - (n+1))) (bh n f (bh 1 (fun _=>128) (fun _=>0))) (lA (IntKind.u64.wrap (IntKind.u64.wrap (l:Int)*8))) i=oX (fun j=>f (j - l / 64*64)) l (l / 64*64+i):=fun i hi=>by
   rw[hF i hi]
   simp only[bh]
   by_cases h:i < E - 8
   ·rw[if_pos (by omega),if_pos h]
   ·rw[if_neg (by omega),if_neg h,show n+1+(E - 8 - (n+1))=E - 8 by omega,RN hl (by omega)]
  exact Br (k:=1) (by decide) (hg3.congr rfl fun i hi=>ac2 i (by omega)) (by simp only[ae,vR,seval, -List.reduceReplicate]) (by omega)
theorem Ha {n o c:Nat} {f:Nat→Int} {cs:List SV} (hf:bg f) (hc:br cs o n f) (hp:cs.all SV.plain=true) (hn:n < 140737488355328) (hcap:n≤c):
  bz Tryz.prog 90 [Sl 0 o n c] 1 (lk [(0,⟨false,cs⟩)]) (fun u out=>u=Ag (ah .u8 32 (rl kW fD f n))∧out=fun _=>none):=by
 refine aA Tryz.func90 rfl (by kernel_rfl) (by simp[Tryz.ntmps90]) Tryz.sC (by simp[AV.ok,CV.ok,SV.names]) eH (eL hp) ?_
 have zV: ∀ {M:Nat→Prop},(∀ x ∈ cs,SV.ok M x)=True:=eq_true (aD hp)
 have hr:=Uo n 64
 rw[show ((64:Nat):Int)=64 from rfl]at hr
 have w1:IntKind.i64.wrap ((n:Int) - ((n%64:Nat):Int))=((64*(n / 64):Nat):Int):=by rw[wrap_i64 _ (by omega) (by omega)];omega
 have l1:(((64*(n / 64):Nat):Int)≤(c:Int))=True:=eq_true (by omega)
 have l2:(((64*(n / 64):Nat):Int)≤(n:Int))=True:=eq_true (by omega)
 have l3:((n:Int)≤(c:Int))=True:=eq_true (by omega)
 simp only[Tryz.results90,hr,w1,l1,l2,l3,cC,vS,seval, -List.reduceReplicate]
 have ivE:[Sum.inl (Value.int IntKind.u32 1779033703),Sum.inl (Value.int IntKind.u32 3144134277),Sum.inl (Value.int IntKind.u32 1013904242),Sum.inl (Value.int IntKind.u32 2773480762),Sum.inl (Value.int IntKind.u32 1359893119),Sum.inl (Value.int IntKind.u32 2600822924),Sum.inl (Value.int IntKind.u32 528734635),Sum.inl (Value.int IntKind.u32 1541459225)]=ah .u32 8 fD:=rfl
 have z8: ∀ r r':Nat→Int,splice (ah .u32 8 r') 0 (ah .u32 8 r)=ah .u32 8 r:=fun r r'=>dk .u32 8 _ _
 refine ⟨pP _ _ _,by kernel_rfl, ?_⟩
 simp only[ivE,Int.toNat_natCast]
 refine (zb (c:=c) (m:=n / 64) QH hf (rj hc (by omega)) (by omega) (by omega) hp).cI (fun _=>0) (cy (rw:=false) (by simp only[ae,vR,seval, -List.reduceReplicate]) hp) az (by rfl) (fun M h _ _=>h (Sl 0 o (64*(n / 64)) c) (List.Mem.tail _ (List.Mem.head _))) ?_
 have hsh: ∀ o',(o'=o+64*(n / 64)∨c=64*(n / 64))→br cs o' (n - 64*(n / 64)) (fun i=>f (64*(n / 64)+i)):=fun o' h=>by
  rcases h with rfl | h
  ·exact Bq hc _ _ (by omega)
  ·intro i hi;omega
 have ho:(if c=64*(n / 64) then o else o+64*(n / 64))=o+64*(n / 64)∨c=64*(n / 64):=by
  split
  ·exact .inr ‹_›
  ·exact .inl rfl
 have hs:=hsh _ ho
 simp only[z8,l1,l2,l3,cC,Nat.mul_one,vR,seval, -List.reduceReplicate]
 generalize (if c=64*(n / 64) then o else o+64*(n / 64))=o' at hs ⊢
 have w2:IntKind.i64.wrap ((n:Nat):Int)=(n:Int):=LR n (by omega)
 refine ⟨by kernel_rfl, ?_⟩
 refine uF (RO (c:=c - 64*(n / 64)) (l:=n) hs hp (by omega) (by omega) (by omega)) (fun _=>0) (cy (rw:=false) (by simp only[ae,vR,seval, -List.reduceReplicate]) hp) rfl (fun M h _ _=>h (Sl 0 o' _ _) (List.Mem.head _)) (by kernel_rfl) ?_
 intro c1 mU h1 h2 h3
 simp only[vR,seval, -List.reduceReplicate]
 have hB:blocks n - n / 64+n / 64=blocks n:=by simp only[blocks];omega
 have hb2:64*(blocks n - n / 64)≤128:=by simp only[blocks];omega
 have Eb:bg (fun i=>oX (fun j=>f (64*(n / 64)+(j - n / 64*64))) n (n / 64*64+i)):=fun i=>QG (fun j=>hf _) n _
 refine (zb (o:=0) (c:=c1) (m:=blocks n - n / 64) (L5 QH _) Eb jJ h1 (by omega) (fR h3)).cI (fun _=>24) (cy (rw:=true) (by simp only[ae,vR,seval, -List.reduceReplicate]) (fR h3)) az (by rfl) (fun M h _ _=>h (Sl 24 0 (64*(blocks n - n / 64)) c1) (List.Mem.tail _ (List.Mem.head _))) ?_
 have eA:lj kW (lj kW fD f (n / 64)) (fun i=>oX (fun j=>f (64*(n / 64)+(j - n / 64*64))) n (n / 64*64+i)) (blocks n - n / 64)=lj kW fD (oX f n) (blocks n):=by
  have h1:lj kW fD f (n / 64)=lj kW fD (oX f n) (n / 64):=uG _ fun i hi=>by simp only[oX];rw[if_pos (by omega)]
  have h2:=FV kW fD (oX f n) (n / 64) (blocks n - n / 64)
  rw[show n / 64+(blocks n - n / 64)=blocks n by omega]at h2
  rw[h2,h1]
  refine uG _ fun i hi=> ?_
  simp only[oX]
  rw[show n / 64*64+i=64*(n / 64)+i by omega,show 64*(n / 64)+(64*(n / 64)+i - n / 64*64)=64*(n / 64)+i by omega]
 rw[eA]
 simp only[z8,vR,seval, -List.reduceReplicate]
 refine (Dm _).aB ?_
 simp only[vR,seval, -List.reduceReplicate]
 exact ao az ⟨rfl,rfl⟩
theorem wx {s:AS} {nm t o n c:Nat} {rw:Bool} {f:Nat→Int} {cs:List SV} (hf:bg f) (hb:s.box t=some ⟨rw,cs⟩) (hc:br cs o n f) (hp:cs.all SV.plain=true) (hn:n < 140737488355328) (hcap:n≤c) {dst:Option Nat} {K:AS→Prop}
  (hk:K (s.put dst (some (Ag (ah .u8 32 (rl kW fD f n)))))):aB Tryz.prog nm 90 (some [Sl t o n c]) dst K s:=
 (Ha hf hc hp hn hcap).dP (fun _=>t) (cy hb hp) az rfl hk
theorem Hb {s:AS} {nm t o n c:Nat} {rw:Bool} {f:Nat→Int} {cs:List SV} (hf:bg f) (hb:s.box t=some ⟨rw,cs⟩) (hc:br cs o n f) (hp:cs.all SV.plain=true) (hn:n < 140737488355328) (hcap:n≤c) {ops:Array Oper} {i:Nat} {dst:Option Nat} {K:AS→Prop}
  (hk:K (s.put dst (some (Ag (ah .u8 32 (rl kW fD f n)))))):qt Tryz.prog ops i nm 90 (some [Sl t o n c]) dst K s:=
 (Ha hf hc hp hn hcap).cI (fun _=>t) (cy hb hp) az rfl (fun M h _ _=>h (Sl t o n c) (List.Mem.head _)) hk
def Roomy (n:Nat) (v:AV) (out:Nat→Option aI):Prop:=(n=0∧v=V (.slice none 0 0)∧out=fun _=>none)∨(0 < n∧ ∃ c cs,v=Sl 0 0 0 c∧out=lk [(0,⟨true,cs⟩)]∧bV cs 0 0 c (fun _=>0))
theorem X5 {n:Nat} (hn:n≤140737488355328):bz Tryz.prog 104 [V (.slice none 0 0),I .i64 n] 0 (fun _=>none) (Roomy n):=by
 refine aA Tryz.func104 rfl (by kernel_rfl) (by simp[Tryz.ntmps104]) Tryz.ph (by simp[AV.ok,CV.ok,SV.names]) I2 I3 ?_
 have w0:IntKind.i64.wrap 0=0:=rfl
 have w1:IntKind.i64.wrap ((n:Int) - 0)=(n:Int):=by rw[wrap_i64 _ (by omega) (by omega)];omega
 simp only[Tryz.results104,vR,seval, -List.reduceReplicate]
 refine aZ (by simp) ?_
 simp only[vR,seval, -List.reduceReplicate]
 refine yx Tryz.gi ?_
 simp only[w0,w1,Int.sub_self,vR,seval, -List.reduceReplicate]
 rcases Nat.eq_zero_or_pos n with rfl | hpos
 ·refine aZ (by simp) ?_
  simp only[vR,seval, -List.reduceReplicate]
  exact ⟨0,V (.slice none 0 0),fun _=>none,Nat.le_refl _,rfl,trivial,fun n b hb=>(by cases hb), .inl ⟨rfl,rfl,rfl⟩⟩
 ·refine aK (by simp;omega) ?_
  simp only[vR,seval, -List.reduceReplicate]
  refine yx Tryz.gi ?_
  simp only[Int.toNat_zero,Nat.sub_self,vR,seval, -List.reduceReplicate]
  refine CP (kn:= .i64) Tryz.gA Tryz.Rl hpos hn ?_
  intro c cs hg
  simp only[cC,NU hg.room,vR,seval, -List.reduceReplicate]
  refine gV (k:=0) (q:=18) (cs:=cs) (by decide) (by simp only[ae,vR,seval, -List.reduceReplicate]) hg.plain (.inr ⟨hpos,c,cs,rfl,rfl, ?_⟩)
  exact ⟨hg.len,Nat.zero_le _,hg.plain,fun i hi=>by omega⟩
def jj (n:Nat→Nat):Nat→Nat
 | 0=>0
 | j+1=>jj n j+n j
def zc (n:Nat→Nat) (f:Nat→Nat→Int):Nat→Nat→Int
 | 0=>fun _=>0
 | j+1=>bh (jj n j) (zc n f j) (f j)
theorem uR (n:Nat→Nat) {j m:Nat} (h:j≤m):jj n j≤jj n m:=by
 induction m with
 | zero=>rw[show j=0 by omega];exact Nat.le_refl _
 | succ m ih=>
  by_cases e:j=m+1
  ·rw[e];exact Nat.le_refl _
  ·have:=ih (by omega);simp only[jj];omega
structure Hc (l:List (Nat×aI)) (cs0:List SV) (k o m:Nat) (n:Nat→Nat) (f:Nat→Nat→Int):Prop where
 ro: ∀ x ∈ l,x.2.rw=false
 all: ∀ i,i < k→ ∃ b,lk l i=some b
 v7: ∀ x ∈ l,x.1 < k∧lk l x.1=some x.2∧ ∀ y ∈ x.2.cells,SV.ok (fun n=>n < k) y
 zero:lk l 0=some ⟨false,cs0⟩
 part: ∀ j,j < m→ ∃ sv,cs0[o+j]? =some sv∧cK (lk l) (.inl (.inl sv)) (n j) (f j)
theorem Ox {box:Nat→Option aI} {v:AV} {n:Nat} {f:Nat→Int} (h:cK box v n f):eJ 1 (some [v])=some (some (I .i64 n),none):=by
 rcases h with ⟨⟨a,rfl⟩,rfl⟩ | ⟨t,o,c,rw,cs,rfl,_⟩<;>rfl
theorem RP {l:List (Nat×aI)} {cs0:List SV} {k o m c:Nat} {n:Nat→Nat} {f:Nat→Nat→Int} (hl:Hc l cs0 k o m n f) (hk:0 < k) (hk2:k≤20) (hm:m < 4611686018427387904) (hN:jj n m≤140737488355328):
  bz Tryz.prog 92 [Sl 0 o m c] k (lk l) (Bytes k (jj n m) (zc n f m)):=by
 refine aA Tryz.func92 rfl (by kernel_rfl) (by simp[Tryz.ntmps92]) Tryz.sE (by simp[AV.ok,CV.ok,SV.names];exact hk) hl.all (fun i b hb=>⟨(hl.v7 _ (bC _ _ _ hb)).1,(hl.v7 _ (bC _ _ _ hb)).2.2⟩) ?_
 have hz:=hl.zero
 have hin: ∀ (next:Nat),k≤next→ ∀ p ∈ l,lk l p.1=some p.2∧p.1 < next∧ ∀ x ∈ p.2.cells,SV.ok (fun n=>n < next) x:=fun next hn p hp=>⟨(hl.v7 p hp).2.1,by have:=(hl.v7 p hp).1;omega,fun y hy=>SV.aY (fun n h=>by omega) ((hl.v7 p hp).2.2 y hy)⟩
 simp only[Tryz.results92,vR,seval, -List.reduceReplicate]
 refine aQ m (fun j=>[(0,Sl 0 o m c),(3,I .i64 (jj n j)),(9,Sl 0 o m c),(10,I .i64 m),(11,I .i64 j)]) (fun j=>l) _ ?_ ?_ ?_
 ·simp only[jj,vR,seval, -List.reduceReplicate]
  exact ⟨by omega,hin _ (by omega)⟩
 ·intro j hj
  obtain ⟨sv,h1,h2⟩:=hl.part j hj
  have hlen:=Ox h2
  have hmono:=uR n (show j+1≤m by omega)
  simp only[jj]at hmono
  have wa:=Wh (jj n j) (n j) (by omega)
  simp only[vR,seval, -List.reduceReplicate]
  refine aK (by simp;omega) ?_
  simp only[cC,fH hj,hz,Nat.mul_one,h1,hlen,wa,dX j (by omega),vR,seval, -List.reduceReplicate]
  refine aZ (by simp;omega) ?_
  simp only[jj,dX j (by omega),vR,seval, -List.reduceReplicate]
  exact ⟨by omega,hin _ (by omega)⟩
 ·simp only[vR,seval, -List.reduceReplicate]
  refine aZ (by simp) ?_
  simp only[vR,seval, -List.reduceReplicate]
  refine (X5 hN).aB (fun n=>n) none qC rfl ?_
  rintro v out (⟨h0,rfl,rfl⟩ | ⟨hpos,c0,G0,rfl,rfl,hg⟩) _
  ·have hn0: ∀ j,j < m→n j=0:=fun j hj=>by
    have:=uR n (show j+1≤m by omega);simp only[jj]at this;omega
   simp only[after,oz,vR,seval, -List.reduceReplicate]
   refine aQ m (fun j=>[(6,V (.slice none 0 0)),(25,Sl 0 o m c),(26,I .i64 m),(27,I .i64 j)]) (fun j=>l) _ ?_ ?_ ?_
   ·simp only[vR,seval, -List.reduceReplicate]
    exact ⟨⟨trivial,by omega⟩,hin _ (by omega)⟩
   ·intro j hj
    obtain ⟨sv,h1,h2⟩:=hl.part j hj
    simp only[vR,seval, -List.reduceReplicate]
    refine aK (by simp;omega) ?_
    simp only[cC,fH hj,hz,Nat.mul_one,h1,dX j (by omega),vR,seval, -List.reduceReplicate]
    refine mQ (m:=n j) (g:=f j) Tryz.gA Tryz.gi h2 (by rw[hn0 j hj];decide) (fun _=> ?_) (fun h=>by rw[hn0 j hj]at h;exact absurd h (by decide))
    simp only[dX j (by omega),vR,seval, -List.reduceReplicate]
    exact ⟨⟨trivial,by omega⟩,hin _ (by omega)⟩
   ·simp only[vR,seval, -List.reduceReplicate]
    refine aZ (by simp) ?_
    simp only[vR,seval, -List.reduceReplicate]
    exact ⟨k,V (.slice none 0 0),fun _=>none,Nat.le_refl _,rfl,trivial,fun n b hb=>(by cases hb), .inl ⟨h0,rfl,rfl⟩⟩
  ·rw[km hg.plain]
   simp only[fb,kt,vR,seval, -List.reduceReplicate]
   refine pQ (β:=Nat×List SV) m (fun j y=>bV y.2 0 (jj n j) y.1 (zc n f j))
    (fun j y=>[(6,Sl 60 0 (jj n j) y.1),(25,Sl 0 o m c),(26,I .i64 m),(27,I .i64 j)]) (fun j y=>(60,⟨true,y.2⟩)::l) 61 (c0,G0) ?_ ?_ ?_ ?_
   ·refine ⟨hg,60,k+1+1+3+1+1,v8 (k:=k) (by show _≤60;simp only;omega) (by decide) (by simp only;omega) (by omega) ?_ ?_ hg.plain hl.v7 (fun t ht=> ?_)⟩
    ·simp only[mP,fb,jj,vR,seval, -List.reduceReplicate]
    ·simp only[aJ]
    ·exact bI _ _ _ _ (by omega)
   ·rintro j ⟨c',cs'⟩ hj h1'
    obtain ⟨sv,h1,h2⟩:=hl.part j hj
    have hmono:=uR n (show j+1≤m by omega)
    simp only[jj]at hmono
    have hoff:tD (yi [(6,Sl 60 0 (jj n j) c'),(25,Sl 0 o m c),(26,I .i64 m),(27,I .i64 j)] ((60,⟨true,cs'⟩)::l) 61).box 60 (.inl (.inl sv)) (n j) (f j):=by
     rcases h2 with h | ⟨t,o1,c1,rw1,ds,e1,e2,_,e4⟩
     ·exact .inl h
     ·have ht:t < k:=(hl.v7 _ (bC _ _ _ e2)).1
      refine .inr ⟨t,o1,c1,rw1,ds,e1, ?_,e4,by omega⟩
      show (if t=60 then _ else lk l t)=_
      rw[if_neg (by omega)];exact e2
    simp only at h1'
    simp only[vR,seval, -List.reduceReplicate]
    refine aK (by simp;omega) ?_
    simp only[cC,fH hj,hz,Nat.mul_one,h1,dX j (by omega),vR,seval, -List.reduceReplicate]
    refine fI (b:=60) (g:=f j) Tryz.gA Tryz.gi (by simp only[ae,vR,seval, -List.reduceReplicate]) h1' (by exact hoff) (by omega) ?_
    intro c2 qH j6
    simp only[dX j (by omega),vR,seval, -List.reduceReplicate]
    refine ⟨(c2,qH),j6,60,67,v8 (k:=k) (by omega) (by decide) (by omega) (by omega) ?_ ?_ j6.plain hl.v7 (fun t ht=> ?_)⟩
    ·simp only[mP,fb,jj,vR,seval, -List.reduceReplicate]
    ·simp only[aJ]
    ·simp only[upd,vR,seval, -List.reduceReplicate]
     rw[if_neg (by omega),if_neg (by omega),if_neg (by omega)]
   ·rintro ⟨c',cs'⟩ h1'
    simp only at h1'
    simp only[vR,seval, -List.reduceReplicate]
    refine aZ (by simp) ?_
    simp only[vR,seval, -List.reduceReplicate]
    refine gV (k:=k) (q:=60) (by omega) (by simp only[vR,seval, -List.reduceReplicate]) h1'.plain (.inr h1'.made)
   ·simp only;omega
theorem Hd {n o c:Nat} {f:Nat→Int} {cs:List SV} {x:Int} (hf:bg f) (hc:br cs o n f) (hp:cs.all SV.plain=true) (hn:n < 140737488355328) (hcap:n≤c):
    bz Tryz.prog 91 [Sl 0 o n c,I .u8 x] 1 (lk [(0,⟨false,cs⟩)]) (FL 1 64 (nz kW fD f n x)):=by
  refine aA Tryz.func91 rfl (by kernel_rfl) (by simp[Tryz.ntmps91]) Tryz.sD (by simp[AV.ok,CV.ok,SV.names]) eH (eL hp) ?_
  have zV: ∀ {M:Nat→Prop},(∀ x ∈ cs,SV.ok M x)=True:=eq_true (aD hp)
  simp only[Tryz.results91,vR,Value.oneCell',Nat.reduceAdd,Nat.reduceMul,Nat.reduceSub,Nat.reduceLT,Nat.reduceLeDiff,Nat.reduceEqDiff,Int.reduceLE,Int.reduceLT,Int.reduceToNat,Int.reduceNe,Int.reduceEq,Nat.reduceBEq,Nat.reduceDiv,Int.reduceAdd,Int.reduceSub,reduceIte,↓reduceIte,reduceCtorEq]
  refine ⟨by decide, ?_⟩
  by_cases h:64 < n
  have hk: ∀ i,gu kW fD f n i=if i < 32 then rl kW fD f n i else 0:=fun i=>by simp only[gu,gt_iff_lt,if_pos h]
  refine aK (by simp;omega) ?_
  simp only[vR,Value.oneCell',Nat.reduceAdd,Nat.reduceMul,Nat.reduceSub,Nat.reduceLT,Nat.reduceLeDiff,Nat.reduceEqDiff,Int.reduceLE,Int.reduceLT,Int.reduceToNat,Int.reduceNe,Int.reduceEq,Nat.reduceBEq,Nat.reduceDiv,Int.reduceAdd,Int.reduceSub,reduceIte,↓reduceIte,reduceCtorEq]
  refine wx (rw:=false) hf (by simp only[ae,vR,Value.oneCell',Nat.reduceAdd,Nat.reduceMul,Nat.reduceSub,Nat.reduceLT,Nat.reduceLeDiff,Nat.reduceEqDiff,Int.reduceLE,Int.reduceLT,Int.reduceToNat,Int.reduceNe,Int.reduceEq,Nat.reduceBEq,Nat.reduceDiv,Int.reduceAdd,Int.reduceSub,reduceIte,↓reduceIte,reduceCtorEq]) hc hp hn hcap ?_
  simp only[vR,Value.oneCell',Nat.reduceAdd,Nat.reduceMul,Nat.reduceSub,Nat.reduceLT,Nat.reduceLeDiff,Nat.reduceEqDiff,Int.reduceLE,Int.reduceLT,Int.reduceToNat,Int.reduceNe,Int.reduceEq,Nat.reduceBEq,Nat.reduceDiv,Int.reduceAdd,Int.reduceSub,reduceIte,↓reduceIte,reduceCtorEq]
  refine CM Tryz.gA Tryz.gi (cs:=ah .u8 64 (fun _=>0)) (bx:=⟨true,ah .u8 32 (rl kW fD f n)⟩) (news:=ah .u8 32 (rl kW fD f n)) (by simp only[ae,vR,Value.oneCell',Nat.reduceAdd,Nat.reduceMul,Nat.reduceSub,Nat.reduceLT,Nat.reduceLeDiff,Nat.reduceEqDiff,Int.reduceLE,Int.reduceLT,Int.reduceToNat,Int.reduceNe,Int.reduceEq,Nat.reduceBEq,Nat.reduceDiv,Int.reduceAdd,Int.reduceSub,reduceIte,↓reduceIte,reduceCtorEq]) (by simp only[ae,vR,Value.oneCell',Nat.reduceAdd,Nat.reduceMul,Nat.reduceSub,Nat.reduceLT,Nat.reduceLeDiff,Nat.reduceEqDiff,Int.reduceLE,Int.reduceLT,Int.reduceToNat,Int.reduceNe,Int.reduceEq,Nat.reduceBEq,Nat.reduceDiv,Int.reduceAdd,Int.reduceSub,reduceIte,↓reduceIte,reduceCtorEq]) (by rw[af];rfl) (fun j u h=>by simpa using h) (by rw[af];decide) ?_
  rw[lh .u8 64 32 0 _ _ (by decide)]
  simp only[vR,Value.oneCell',Nat.reduceAdd,Nat.reduceMul,Nat.reduceSub,Nat.reduceLT,Nat.reduceLeDiff,Nat.reduceEqDiff,Int.reduceLE,Int.reduceLT,Int.reduceToNat,Int.reduceNe,Int.reduceEq,Nat.reduceBEq,Nat.reduceDiv,Int.reduceAdd,Int.reduceSub,reduceIte,↓reduceIte,reduceCtorEq]
  rotate_left 1
  have hk: ∀ i,i < 64→gu kW fD f n i=if i < n then f i else 0:=fun i hi=>by simp only[gu,gt_iff_lt,if_neg h]
  have aaJ:Nat.min n 64=n:=Nat.min_eq_left (by omega)
  refine aZ (by simp;omega) ?_
  simp only[vR,Value.oneCell',Nat.reduceAdd,Nat.reduceMul,Nat.reduceSub,Nat.reduceLT,Nat.reduceLeDiff,Nat.reduceEqDiff,Int.reduceLE,Int.reduceLT,Int.reduceToNat,Int.reduceNe,Int.reduceEq,Nat.reduceBEq,Nat.reduceDiv,Int.reduceAdd,Int.reduceSub,reduceIte,↓reduceIte,reduceCtorEq]
  refine CM Tryz.gA Tryz.gi (cs:=ah .u8 64 (fun _=>0)) (bx:=⟨false,cs⟩) (news:=ah .u8 n f) (by simp only[ae,vR,Value.oneCell',Nat.reduceAdd,Nat.reduceMul,Nat.reduceSub,Nat.reduceLT,Nat.reduceLeDiff,Nat.reduceEqDiff,Int.reduceLE,Int.reduceLT,Int.reduceToNat,Int.reduceNe,Int.reduceEq,Nat.reduceBEq,Nat.reduceDiv,Int.reduceAdd,Int.reduceSub,reduceIte,↓reduceIte,reduceCtorEq]) (by simp only[ae,vR,Value.oneCell',Nat.reduceAdd,Nat.reduceMul,Nat.reduceSub,Nat.reduceLT,Nat.reduceLeDiff,Nat.reduceEqDiff,Int.reduceLE,Int.reduceLT,Int.reduceToNat,Int.reduceNe,Int.reduceEq,Nat.reduceBEq,Nat.reduceDiv,Int.reduceAdd,Int.reduceSub,reduceIte,↓reduceIte,reduceCtorEq]) (by rw[af];exact aaJ.symm) (pR hc) (by rw[aaJ,af];omega) ?_
  rw[lh .u8 64 n 0 _ _ (by omega)]
  simp only[vR,Value.oneCell',Nat.reduceAdd,Nat.reduceMul,Nat.reduceSub,Nat.reduceLT,Nat.reduceLeDiff,Nat.reduceEqDiff,Int.reduceLE,Int.reduceLT,Int.reduceToNat,Int.reduceNe,Int.reduceEq,Nat.reduceBEq,Nat.reduceDiv,Int.reduceAdd,Int.reduceSub,reduceIte,↓reduceIte,reduceCtorEq]
  all_goals
    refine aQ 64 (fun k=>[(1,I .u8 x),(5,Sl 2 0 64 64),(21,I .i64 64),(22,I .i64 k)])
      (fun k=>[(2,⟨true,ah .u8 64 (fun i=>if i < k then nz kW fD f n x i else gu kW fD f n i)⟩)]) _ ?_ ?_ ?_
  all_goals first
    | (simp only[yw,vR,Value.oneCell',Nat.reduceAdd,Nat.reduceMul,Nat.reduceSub,Nat.reduceLT,Nat.reduceLeDiff,Nat.reduceEqDiff,Int.reduceLE,Int.reduceLT,Int.reduceToNat,Int.reduceNe,Int.reduceEq,Nat.reduceBEq,Nat.reduceDiv,Int.reduceAdd,Int.reduceSub,reduceIte,↓reduceIte,reduceCtorEq]
       refine congrArg (fun c=>some (aI.mk true c)) (aW fun i hi=> ?_)
       rw[hk i hi]
       simp)
    | (simp only[yw,vR,Value.oneCell',Nat.reduceAdd,Nat.reduceMul,Nat.reduceSub,Nat.reduceLT,Nat.reduceLeDiff,Nat.reduceEqDiff,Int.reduceLE,Int.reduceLT,Int.reduceToNat,Int.reduceNe,Int.reduceEq,Nat.reduceBEq,Nat.reduceDiv,Int.reduceAdd,Int.reduceSub,reduceIte,↓reduceIte,reduceCtorEq]
       refine congrArg (fun c=>some (aI.mk true c)) (aW fun i hi=> ?_)
       rw[hk i]
       simp)
    | (intro k hk'
       have a3:((k:Int) < 64)=True:=fw (m:=64) hk'
       have hfk:(if k < k then nz kW fD f n x k else gu kW fD f n k)=gu kW fD f n k:=if_neg (Nat.lt_irrefl k)
       have hpk:aV .xor .u8 (gu kW fD f n k) x=nz kW fD f n x k:=rfl
       simp only[vR,Value.oneCell',Nat.reduceAdd,Nat.reduceMul,Nat.reduceSub,Nat.reduceLT,Nat.reduceLeDiff,Nat.reduceEqDiff,Int.reduceLE,Int.reduceLT,Int.reduceToNat,Int.reduceNe,Int.reduceEq,Nat.reduceBEq,Nat.reduceDiv,Int.reduceAdd,Int.reduceSub,reduceIte,↓reduceIte,reduceCtorEq]
       refine aK (by simp;omega) ?_
       simp only[a3,cC,aE .u8 64 _ k hk',hfk,hpk,Nat.mul_one,bb .u8 64 _ k hk',mO,dX k (by omega),vR,Value.oneCell',Nat.reduceAdd,Nat.reduceMul,Nat.reduceSub,Nat.reduceLT,Nat.reduceLeDiff,Nat.reduceEqDiff,Int.reduceLE,Int.reduceLT,Int.reduceToNat,Int.reduceNe,Int.reduceEq,Nat.reduceBEq,Nat.reduceDiv,Int.reduceAdd,Int.reduceSub,reduceIte,↓reduceIte,reduceCtorEq]
       omega)
    | (simp only[vR,Value.oneCell',Nat.reduceAdd,Nat.reduceMul,Nat.reduceSub,Nat.reduceLT,Nat.reduceLeDiff,Nat.reduceEqDiff,Int.reduceLE,Int.reduceLT,Int.reduceToNat,Int.reduceNe,Int.reduceEq,Nat.reduceBEq,Nat.reduceDiv,Int.reduceAdd,Int.reduceSub,reduceIte,↓reduceIte,reduceCtorEq]
       refine aZ (by simp) ?_
       simp only[iy,vR,Value.oneCell',Nat.reduceAdd,Nat.reduceMul,Nat.reduceSub,Nat.reduceLT,Nat.reduceLeDiff,Nat.reduceEqDiff,Int.reduceLE,Int.reduceLT,Int.reduceToNat,Int.reduceNe,Int.reduceEq,Nat.reduceBEq,Nat.reduceDiv,Int.reduceAdd,Int.reduceSub,reduceIte,↓reduceIte,reduceCtorEq]
       exact gV (k:=1) (cs:=ah .u8 64 (nz kW fD f n x)) (by decide) (by simp only[ae,iy,vR,Value.oneCell',Nat.reduceAdd,Nat.reduceMul,Nat.reduceSub,Nat.reduceLT,Nat.reduceLeDiff,Nat.reduceEqDiff,Int.reduceLE,Int.reduceLT,Int.reduceToNat,Int.reduceNe,Int.reduceEq,Nat.reduceBEq,Nat.reduceDiv,Int.reduceAdd,Int.reduceSub,reduceIte,↓reduceIte,reduceCtorEq]) az ⟨rfl,rfl⟩)
theorem RQ (x:SV):SV.ren (fun n=>n) x=x:=SV.qT x
theorem UN {s:AS} {l:List (Nat×aI)} {k:Nat} (hro: ∀ x ∈ l,x.2.rw=false) (hin: ∀ x ∈ l,x.1 < k) (hs: ∀ t,t < k→s.box t=lk l t):Fits s (fun n=>n) (lk l) none:=by
  refine ⟨fun n b hb=>⟨b, ?_,fun h=>h, ?_⟩,fun n n' b b' _ _ _ e=>e,fun n b hb hrw=> ?_,fun n hn=>(by cases hn)⟩
  · rw[hs n (hin _ (bC _ _ _ hb))];exact hb
  · have h1:(fun x:SV=>SV.ren (fun n=>n) x)=id:=funext RQ
    show b.cells=b.cells.map (fun x:SV=>SV.ren (fun n=>n) x)
    rw[h1,List.map_id]
  · have:=hro _ (bC _ _ _ hb)
    simp only at this
    rw[this]at hrw;cases hrw
theorem He {n:Nat→Nat} {f:Nat→Nat→Int} {m:Nat} (h: ∀ j,j < m→bg (f j)): ∀ j,j≤m→bg (zc n f j)
  | 0,_=>fun i=>⟨Int.le_refl 0,by show (0:Int) < 256;decide⟩
  | j+1,hj=>uH (He h j (by omega)) (h j (by omega))
theorem RR {l:List (Nat×aI)} {cs0 wy:List SV} {k o m c tk ok nk ck:Nat} {n:Nat→Nat} {f:Nat→Nat→Int} {key:Nat→Int} (hl:Hc l cs0 k o m n f) (hk:0 < k) (hk2:k≤20) (hm:m < 4611686018427387904) (hN:jj n m < 100000000)
    (hf: ∀ j,j < m→bg (f j)) (htk:lk l tk=some ⟨false,wy⟩) (hp:wy.all SV.plain=true) (hkey:br wy ok nk key) (PF:bg key) (hnk:nk < 100000000) (PG:nk≤ck):
    bz Tryz.prog 76 [Sl tk ok nk ck,Sl 0 o m c] k (lk l) (fun v out=>v=Ag (ah .u8 32 (jy kW fD key nk (zc n f m) (jj n m)))∧out=fun _=>none):=by
  have aaK:tk < k:=(hl.v7 _ (bC _ _ _ htk)).1
  refine aA Tryz.func76 rfl (by kernel_rfl) (by simp[Tryz.ntmps76]) Tryz.sk (fun u hu=>by
    simp only[List.mem_cons,List.not_mem_nil,or_false]at hu
    rcases hu with rfl | rfl
    · exact aaK
    · exact hk) hl.all (fun i b hb=>⟨(hl.v7 _ (bC _ _ _ hb)).1,(hl.v7 _ (bC _ _ _ hb)).2.2⟩) ?_
  have hin: ∀ x ∈ l,x.1 < k:=fun x hx=>(hl.v7 x hx).1
  simp only[Tryz.results76,vR,Value.oneCell',Nat.reduceAdd,Nat.reduceMul,Nat.reduceSub,Nat.reduceLT,Nat.reduceLeDiff,Nat.reduceEqDiff,Int.reduceLE,Int.reduceLT,Int.reduceToNat,Int.reduceNe,Int.reduceEq,Nat.reduceBEq,Nat.reduceDiv,Int.reduceAdd,Int.reduceSub,reduceIte,↓reduceIte,reduceCtorEq]
  refine I9 (Hd (x:=54) PF hkey hp (by omega) PG) (fun _=>tk) (cy (rw:=false) (by simp only[upd];rw[if_neg (by omega)];exact htk) hp) rfl ?_
  simp only[vR,Value.oneCell',Nat.reduceAdd,Nat.reduceMul,Nat.reduceSub,Nat.reduceLT,Nat.reduceLeDiff,Nat.reduceEqDiff,Int.reduceLE,Int.reduceLT,Int.reduceToNat,Int.reduceNe,Int.reduceEq,Nat.reduceBEq,Nat.reduceDiv,Int.reduceAdd,Int.reduceSub,reduceIte,↓reduceIte,reduceCtorEq]
  have hG1:bV (ah .u8 64 (nz kW fD key nk 54)) 0 64 64 (nz kW fD key nk 54):=⟨by rw[af],by decide,az,bN⟩
  refine I8 (RP hl hk hk2 hm (by omega)) (fun n=>n) (UN hl.ro hin (fun t ht=>by simp only[upd];rw[if_neg (by omega),if_neg (by omega)])) rfl ?_
  intro x FK hx hoff _
  have hb1:FK (k+1+1)=some ⟨true,ah .u8 64 (nz kW fD key nk 54)⟩:=by rw[hx _ (by omega)];simp only[aJ]
  have ZL: ∀ t,t < k→FK t=lk l t:=fun t ht=>by
    rw[hx _ (by omega)];simp only[upd];rw[if_neg (by omega),if_neg (by omega)]
  simp only[vR,Value.oneCell',Nat.reduceAdd,Nat.reduceMul,Nat.reduceSub,Nat.reduceLT,Nat.reduceLeDiff,Nat.reduceEqDiff,Int.reduceLE,Int.reduceLT,Int.reduceToNat,Int.reduceNe,Int.reduceEq,Nat.reduceBEq,Nat.reduceDiv,Int.reduceAdd,Int.reduceSub,reduceIte,↓reduceIte,reduceCtorEq]
  refine fI (g:=zc n f m) Tryz.gA Tryz.gi hb1 hG1 (hoff _ (by omega)) (by omega) ?_
  intro c2 qH j6
  simp only[vR,Value.oneCell',Nat.reduceAdd,Nat.reduceMul,Nat.reduceSub,Nat.reduceLT,Nat.reduceLeDiff,Nat.reduceEqDiff,Int.reduceLE,Int.reduceLT,Int.reduceToNat,Int.reduceNe,Int.reduceEq,Nat.reduceBEq,Nat.reduceDiv,Int.reduceAdd,Int.reduceSub,reduceIte,↓reduceIte,reduceCtorEq]
  refine wx (rw:=true) (uH (FX _ _ _ _ _) (He hf m (Nat.le_refl _))) (by simp only[aJ]) j6.shows j6.plain (by omega) j6.room ?_
  simp only[vR,Value.oneCell',Nat.reduceAdd,Nat.reduceMul,Nat.reduceSub,Nat.reduceLT,Nat.reduceLeDiff,Nat.reduceEqDiff,Int.reduceLE,Int.reduceLT,Int.reduceToNat,Int.reduceNe,Int.reduceEq,Nat.reduceBEq,Nat.reduceDiv,Int.reduceAdd,Int.reduceSub,reduceIte,↓reduceIte,reduceCtorEq]
  refine ⟨by kernel_rfl, ?_⟩
  refine I' (Hd (x:=92) PF hkey hp (by omega) PG) (fun _=>tk) (cy (rw:=false) (by simp only[upd];rw[if_neg (by omega),if_neg (by omega),if_neg (by omega),if_neg (by omega),ZL tk aaK];exact htk) hp) rfl (fun M h _ _=>h (Sl tk ok nk ck) (List.Mem.head _)) ?_
  have hG3:bV (ah .u8 64 (nz kW fD key nk 92)) 0 64 64 (nz kW fD key nk 92):=⟨by rw[af],by decide,az,bN⟩
  simp only[vR,Value.oneCell',Nat.reduceAdd,Nat.reduceMul,Nat.reduceSub,Nat.reduceLT,Nat.reduceLeDiff,Nat.reduceEqDiff,Int.reduceLE,Int.reduceLT,Int.reduceToNat,Int.reduceNe,Int.reduceEq,Nat.reduceBEq,Nat.reduceDiv,Int.reduceAdd,Int.reduceSub,reduceIte,↓reduceIte,reduceCtorEq]
  refine ⟨by kernel_rfl, ?_⟩
  refine fI (g:=rl kW fD (bh 64 (nz kW fD key nk 54) (zc n f m)) (64+jj n m)) Tryz.gA Tryz.gi (by simp only[aJ]) hG3
    (.inr ⟨_,_,_,true,ah .u8 32 (rl kW fD (bh 64 (nz kW fD key nk 54) (zc n f m)) (64+jj n m)),rfl,(by simp only[upd];rw[if_neg (by omega)];exact if_pos trivial),bN,by omega⟩) (by decide) ?_
  intro c4 cs4 hg4
  simp only[vR,Value.oneCell',Nat.reduceAdd,Nat.reduceMul,Nat.reduceSub,Nat.reduceLT,Nat.reduceLeDiff,Nat.reduceEqDiff,Int.reduceLE,Int.reduceLT,Int.reduceToNat,Int.reduceNe,Int.reduceEq,Nat.reduceBEq,Nat.reduceDiv,Int.reduceAdd,Int.reduceSub,reduceIte,↓reduceIte,reduceCtorEq]
  refine Hb (rw:=true) (uH (FX _ _ _ _ _) (FW _ _ _ _)) (by simp only[aJ]) hg4.shows hg4.plain (by decide) hg4.room ?_
  simp only[vR,Value.oneCell',Nat.reduceAdd,Nat.reduceMul,Nat.reduceSub,Nat.reduceLT,Nat.reduceLeDiff,Nat.reduceEqDiff,Int.reduceLE,Int.reduceLT,Int.reduceToNat,Int.reduceNe,Int.reduceEq,Nat.reduceBEq,Nat.reduceDiv,Int.reduceAdd,Int.reduceSub,reduceIte,↓reduceIte,reduceCtorEq]
  have hbk:FK k=some ⟨true,ah .u8 32 (fun _=>0)⟩:=by rw[hx _ (by omega)];simp only[upd];rw[if_neg (by omega)];exact if_pos trivial
  rw[if_neg (by omega),if_neg (by omega),if_neg (by omega),if_neg (by omega),if_neg (by omega),if_neg (by omega),if_neg (by omega),hbk]
  simp only[vR,Value.oneCell',Nat.reduceAdd,Nat.reduceMul,Nat.reduceSub,Nat.reduceLT,Nat.reduceLeDiff,Nat.reduceEqDiff,Int.reduceLE,Int.reduceLT,Int.reduceToNat,Int.reduceNe,Int.reduceEq,Nat.reduceBEq,Nat.reduceDiv,Int.reduceAdd,Int.reduceSub,reduceIte,↓reduceIte,reduceCtorEq]
  exact ao az ⟨rfl,rfl⟩
theorem pq {box:Nat→Option aI} {sv:SV} {n tk:Nat} {f:Nat→Int} {J2:Bool} {wy:List SV} (h:cK box (.inl (.inl sv)) n f) (hk:box tk=some ⟨J2,wy⟩) (hkp:wy.all SV.plain=true):
  ∃ (t:Nat) (rw:Bool) (cs:List SV) (w:Nat→SV),box t=some ⟨rw,cs⟩∧cs.all SV.plain=true∧(∀ (r:Nat→Nat) j,r j=t→SV.ren r (w j)=sv)∧
   (∀ (bx:Nat→Option aI) j,bx j=some ⟨false,cs⟩→cK bx (.inl (.inl (w j))) n f)∧(∀ (M:Nat→Prop) j,M j→SV.ok M (w j))∧(∀ M:Nat→Prop,AV.ok M (.inl (.inl sv))→(t=tk∨M t)):=by
 rcases h with ⟨⟨a,e⟩,rfl⟩ | ⟨t,o,c,rw,cs,e,hb,hp,hs⟩
 ·cases e
  exact ⟨tk,J2,wy,fun _=> .inl (.slice a 0 0),hk,hkp,fun _ _ _=>rfl,fun _ _ _=> .inl ⟨⟨a,rfl⟩,rfl⟩,fun _ _ _=>⟨trivial,rfl⟩,fun _ _=> .inl rfl⟩
 ·cases e
  refine ⟨t,rw,cs,fun j=> .inr (.inr (j,o,n,c)),hb,hp,fun r j e=> ?_,fun bx j e=> .inr ⟨j,o,c,false,cs,rfl,e,hp,hs⟩,fun M j h=>⟨h,rfl⟩,fun M h=> .inr h⟩
  show SV.ren r (Sum.inr (Sum.inr (j,o,n,c)))=_
  simp only[SV.ren,kY,e]
def five (a b c d e:Nat):Nat→Nat
 | 0=>a
 | 1=>b
 | 2=>c
 | 3=>d
 | _=>e
theorem pY {s:AS} {nm t0 tk ok nk ck o c:Nat} {PH J2:Bool} {a0 a1 a2:SV} {wy:List SV} {n0 n1 n2:Nat} {f0 f1 f2 key:Nat→Int} (h0:s.box t0=some ⟨PH,[a0,a1,a2]⟩) (ho:o=0)
  (p0:cK s.box (.inl (.inl a0)) n0 f0) (p1:cK s.box (.inl (.inl a1)) n1 f1) (p2:cK s.box (.inl (.inl a2)) n2 f2) (b0:bg f0) (b1:bg f1) (b2:bg f2)
  (hk:s.box tk=some ⟨J2,wy⟩) (hkp:wy.all SV.plain=true) (hkey:br wy ok nk key) (PF:bg key) (hnk:nk < 100000000) (PG:nk≤ck) (hN:n0+n1+n2 < 100000000) {dst:Option Nat} {K:AS→Prop}
  (hK:K (s.put dst (some (Ag (ah .u8 32 (jy kW fD key nk (bh (n0+n1) (bh n0 f0 f1) f2) (n0+n1+n2))))))):aB Tryz.prog nm 76 (some [Sl tk ok nk ck,Sl t0 o 3 c]) dst K s:=by
 subst ho
 obtain ⟨u0,r0,c0,w0,e0,q0,g0,i0,k0,_⟩:=pq p0 hk hkp
 obtain ⟨u1,r1,c1,w1,e1,q1,g1,i1,k1,_⟩:=pq p1 hk hkp
 obtain ⟨u2,r2,c2,w2,e2,q2,g2,i2,k2,_⟩:=pq p2 hk hkp
 let l:List (Nat×aI):=[(0,⟨false,[w0 2,w1 3,w2 4]⟩),(1,⟨false,wy⟩),(2,⟨false,c0⟩),(3,⟨false,c1⟩),(4,⟨false,c2⟩)]
 let nn:Nat→Nat:=fun j=>if j=0 then n0 else if j=1 then n1 else n2
 let ff:Nat→Nat→Int:=fun j=>if j=0 then f0 else if j=1 then f1 else f2
 have hl:Hc l [w0 2,w1 3,w2 4] 5 0 3 nn ff:=by
  refine ⟨fun x hx=> ?_,fun i hi=> ?_,fun x hx=> ?_,rfl,fun j hj=> ?_⟩
  ·simp only[l,List.mem_cons,List.not_mem_nil,or_false]at hx
   rcases hx with rfl | rfl | rfl | rfl | rfl<;>rfl
  ·have:i=0∨i=1∨i=2∨i=3∨i=4:=by omega
   rcases this with rfl | rfl | rfl | rfl | rfl<;>exact ⟨_,rfl⟩
  ·simp only[l,List.mem_cons,List.not_mem_nil,or_false]at hx
   rcases hx with rfl | rfl | rfl | rfl | rfl
   ·refine ⟨show (0:Nat) < 5 by decide,rfl,fun y hy=> ?_⟩
    simp only[List.mem_cons,List.not_mem_nil,or_false]at hy
    rcases hy with rfl | rfl | rfl
    ·exact k0 _ _ (by decide)
    ·exact k1 _ _ (by decide)
    ·exact k2 _ _ (by decide)
   ·exact ⟨show (1:Nat) < 5 by decide,rfl,aD hkp⟩
   ·exact ⟨show (2:Nat) < 5 by decide,rfl,aD q0⟩
   ·exact ⟨show (3:Nat) < 5 by decide,rfl,aD q1⟩
   ·exact ⟨show (4:Nat) < 5 by decide,rfl,aD q2⟩
  ·have:j=0∨j=1∨j=2:=by omega
   rcases this with rfl | rfl | rfl
   ·exact ⟨_,rfl,i0 _ 2 rfl⟩
   ·exact ⟨_,rfl,i1 _ 3 rfl⟩
   ·exact ⟨_,rfl,i2 _ 4 rfl⟩
 have hfit:Fits s (five t0 tk u0 u1 u2) (lk l) none:=by
  refine ⟨fun n b hb=> ?_,fun n n' b b' hb hrw=> ?_,fun n b hb hrw=> ?_,fun n hn=>(by cases hn)⟩
  ·have:=bC _ _ _ hb
   simp only[l,List.mem_cons,List.not_mem_nil,or_false,Prod.mk.injEq]at this
   rcases this with ⟨rfl,rfl⟩ | ⟨rfl,rfl⟩ | ⟨rfl,rfl⟩ | ⟨rfl,rfl⟩ | ⟨rfl,rfl⟩
   ·refine ⟨_,h0,fun e=>(by cases e), ?_⟩
    simp only[List.map_cons,List.map_nil]
    rw[g0 _ 2 rfl,g1 _ 3 rfl,g2 _ 4 rfl]
   ·exact ⟨_,hk,fun e=>(by cases e),(aN hkp _).symm⟩
   ·exact ⟨_,e0,fun e=>(by cases e),(aN q0 _).symm⟩
   ·exact ⟨_,e1,fun e=>(by cases e),(aN q1 _).symm⟩
   ·exact ⟨_,e2,fun e=>(by cases e),(aN q2 _).symm⟩
  all_goals
   have:=hl.ro _ (bC _ _ _ hb)
   simp only at this
   rw[this]at hrw;cases hrw
 have hb: ∀ j,j < 3→bg (ff j):=fun j hj=>by
  have:j=0∨j=1∨j=2:=by omega
  rcases this with rfl | rfl | rfl
  ·exact b0
  ·exact b1
  ·exact b2
 have Hf:=RR (c:=c) (tk:=1) (ok:=ok) (nk:=nk) (ck:=ck) (key:=key) hl (by decide) (by decide) (by decide) (by show 0+n0+n1+n2 < _;omega) hb rfl hkp hkey PF hnk PG
 have RS:jy kW fD key nk (zc nn ff 3) (jj nn 3)=jy kW fD key nk (bh (n0+n1) (bh n0 f0 f1) f2) (n0+n1+n2):=by
  have e1:jj nn 3=n0+n1+n2:=by show 0+n0+n1+n2=_;omega
  rw[e1]
  refine kT (fun _ _=>rfl) fun i hi=> ?_
  show bh (0+n0+n1) (bh (0+n0) (bh 0 (fun _=>0) f0) f1) f2 i=_
  rw[Nat.zero_add]
  simp only[bh]
  split
  ·split
   ·rw[if_neg (by omega),Nat.sub_zero]
   ·rfl
  ·rfl
 rw[RS]at Hf
 exact Hf.dP (five t0 tk u0 u1 u2) hfit az rfl hK
theorem WG (x:Int):0≤IntKind.u8.wrap x∧IntKind.u8.wrap x < 256:=by rw[wrap_u8];omega
theorem WH (x:Int):IntKind.u8.wrap (IntKind.u8.wrap x+1)=IntKind.u8.wrap (x+1):=by simp only[wrap_u8];omega
theorem Dn {v:Value} {a b c:SV}:splice (splice (splice (iW [v] 3) 0 [a]) 1 [b]) 2 [c]=[a,b,c]:=rfl
theorem RT {K V p info:Nat→Int} {m k i:Nat} (h:i < 32):rm K V p info m (32*k+i)=Jc K V p info m (k+1) i:=by
 simp only[rm];rw[show (32*k+i) / 32=k by omega,show (32*k+i)%32=i by omega]
def Oy (k c:Nat):AV:=if k=0 then V (.slice none 0 0) else Sl 30 0 (32*k) c
def B3 (k:Nat):AV:=if k=0 then V (.slice none 0 0) else Sl 31 0 32 32
def sJ (k:Nat) (cs:List SV) (T:Nat→Int):List (Nat×aI):=if k=0 then [] else [(30,⟨true,cs⟩),(31,⟨true,ah .u8 32 T⟩)]
theorem Hg {o m c n:Nat} {p info:Nat→Int} {cs:List SV} (Eb:bg p) (Uh:bg info) (hc:br cs o m info) (hp:cs.all SV.plain=true) (hm:m < 10000000) (hn:n≤8160):
  bz Tryz.prog 75 [Ag (ah .u8 32 p),Sl 0 o m c,I .i64 n] 1 (lk [(0,⟨false,cs⟩)]) (Bytes 1 n (rm kW fD p info m)):=by
 refine aA Tryz.func75 rfl (by kernel_rfl) (by simp[Tryz.ntmps75]) Tryz.sj (fun u hu=>by
  simp only[List.mem_cons,List.not_mem_nil,or_false]at hu
  rcases hu with rfl | rfl | rfl
  ·exact aD az
  ·exact (by decide:0 < 1)
  ·trivial) eH (eL hp) ?_
 have zV: ∀ {M:Nat→Prop},(∀ x ∈ cs,SV.ok M x)=True:=eq_true (aD hp)
 simp only[Tryz.results75,vR,seval, -List.reduceReplicate]
 refine I6 (β:=Nat×List SV) ((n+31) / 32) (fun k y=>k=0∨bV y.2 0 (32*k) y.1 (rm kW fD p info m))
  (fun k y=>[(1,Sl 0 o m c),(2,I .i64 n),(3,Ptr 1 0),(7,Oy k y.1),(8,B3 k),(9,I .u8 (IntKind.u8.wrap ((k+1:Nat):Int)))])
  (fun k y=>[(0,⟨false,cs⟩),(1,⟨true,ah .u8 32 p⟩)]++sJ k y.2 (Jc kW fD p info m k)) 32 (0,[]) ?_ ?_ ?_ ?_
 ·refine ⟨.inl rfl,fun n=>n,fun _ _=>rfl, ?_, ?_, ?_⟩
  ·simp only[Oy,B3,if_true,fb,mP,qD,oz,vR,seval, -List.reduceReplicate]
   simp
   exact ⟨trivial,rfl⟩
  ·simp only[sJ,if_true,List.append_nil,ld,hp,vR,seval, -List.reduceReplicate]
  ·simp only[sJ,if_true,List.append_nil,vR,seval, -List.reduceReplicate]
   simp
 ·rintro k ⟨c',cs'⟩ hk hinv
  simp only at hinv
  by_cases Hh:k=0
  ·subst Hh
   have hn0:0 < n:=by omega
   simp only[Oy,B3,sJ,if_true,List.append_nil,vR,seval, -List.reduceReplicate]
   refine aK (by simp;omega) ?_
   simp only[vR,seval, -List.reduceReplicate]
   refine ⟨show 1≤3 by decide,show 2≤3 by decide,show 3≤3 by decide, ?_⟩
   refine pY (t0:=41) (tk:=1) (PH:=true) (J2:=true) (wy:=ah .u8 32 p) (key:=p) (n0:=0) (n1:=m) (n2:=1) (f0:=fun _=>0) (f1:=info) (f2:=fun _=>IntKind.u8.wrap ((0+1:Nat):Int)) (by simp only[ae,Dn,vR,seval, -List.reduceReplicate];rfl) rfl
    (.inl ⟨⟨_,rfl⟩,rfl⟩) (.inr ⟨0,o,c,false,cs,rfl,by simp only[ae,vR,seval, -List.reduceReplicate],hp,hc⟩) (.inr ⟨40,0,1,true,[Sum.inl (.int .u8 (IntKind.u8.wrap ((0+1:Nat):Int)))],rfl,by simp only[ae,fS,vR,seval, -List.reduceReplicate],rfl,gp⟩)
    (fun _=>⟨Int.le_refl 0,by show (0:Int) < 256;decide⟩) Uh (fun _=>WG _) (by simp only[ae,vR,seval, -List.reduceReplicate]) az bN Eb (by decide) (by decide) (by omega) ?_
   have hT:jy kW fD p 32 (bh (0+m) (bh 0 (fun _=>0) info) (fun _=>IntKind.u8.wrap ((0+1:Nat):Int))) (0+m+1)=Jc kW fD p info m 1:=by
    show _=jy kW fD p 32 (bh m info (fun _=>1)) (0+(m+1))
    rw[show 0+(m+1)=0+m+1 by omega]
    refine kT (fun _ _=>rfl) fun i hi=> ?_
    simp only[bh,Nat.zero_add,Nat.not_lt_zero,if_false,Nat.sub_zero]
    rfl
   rw[hT]
   have hTb:=CT kW fD p info m 1
   generalize hTe:Jc kW fD p info m 1=T at*
   simp only[vR,seval, -List.reduceReplicate]
   refine mQ (m:=32) (g:=T) Tryz.gA Tryz.gi (.inr ⟨43,0,32,true,ah .u8 32 T,rfl,by simp only[ae,vR,seval, -List.reduceReplicate],az,bN⟩) (by decide) (fun h=>absurd h (by decide)) ?_
   intro _ c2 qH j6
   simp only[vR,seval, -List.reduceReplicate]
   refine ⟨(c2,qH), .inr (j6.congr (by omega) fun i hi=> ?_),fun x=>if x=30 then 49 else if x=31 then 43 else x,fun x hx=> ?_, ?_, ?_, ?_⟩
   ·have h:=RT (K:=kW) (V:=fD) (p:=p) (info:=info) (m:=m) (k:=0) hi
    rw[show 32*0+i=i by omega]at h
    rw[h];exact congrFun hTe.symm i
   ·simp only;rw[if_neg (by omega),if_neg (by omega)]
   ·simp only[fb,mP,qD,oz,WH,vR,seval, -List.reduceReplicate]
   ·simp only[j6.plain,ld,hp,vR,seval, -List.reduceReplicate]
   ·simp only[vR,seval, -List.reduceReplicate]
    simp
  ·simp only[Oy,B3,sJ,if_neg Hh,if_neg (Nat.succ_ne_zero k),List.cons_append,List.nil_append,vR,seval, -List.reduceReplicate]
   refine aK (by simp;omega) ?_
   simp only[vR,seval, -List.reduceReplicate]
   refine ⟨show 1≤3 by decide,show 2≤3 by decide,show 3≤3 by decide, ?_⟩
   refine pY (t0:=41) (tk:=1) (PH:=true) (J2:=true) (wy:=ah .u8 32 p) (key:=p) (n0:=32) (n1:=m) (n2:=1) (f0:=Jc kW fD p info m k) (f1:=info) (f2:=fun _=>IntKind.u8.wrap ((k+1:Nat):Int)) (by simp only[ae,Dn,vR,seval, -List.reduceReplicate]) rfl
    (.inr ⟨31,0,32,true,ah .u8 32 (Jc kW fD p info m k),rfl,by simp only[ae,vR,seval, -List.reduceReplicate],az,bN⟩) (.inr ⟨0,o,c,false,cs,rfl,by simp only[ae,vR,seval, -List.reduceReplicate],hp,hc⟩) (.inr ⟨40,0,1,true,[Sum.inl (.int .u8 (IntKind.u8.wrap ((k+1:Nat):Int)))],rfl,by simp only[ae,fS,vR,seval, -List.reduceReplicate],rfl,gp⟩)
    (CT _ _ _ _ _ _) Uh (fun _=>WG _) (by simp only[ae,vR,seval, -List.reduceReplicate]) az bN Eb (by decide) (by decide) (by omega) ?_
   have hT:jy kW fD p 32 (bh (32+m) (bh 32 (Jc kW fD p info m k) info) (fun _=>IntKind.u8.wrap ((k+1:Nat):Int))) (32+m+1)=Jc kW fD p info m (k+1):=by
    show _=jy kW fD p 32 (if k=0 then _ else bh 32 (Jc kW fD p info m k) (bh m info (fun _=>IntKind.u8.wrap ((k+1:Nat):Int)))) ((if k=0 then 0 else 32)+(m+1))
    rw[if_neg Hh,if_neg Hh,show 32+(m+1)=32+m+1 by omega]
    refine kT (fun _ _=>rfl) fun i hi=> ?_
    simp only[bh]
    by_cases h1:i < 32
    ·rw[if_pos (by omega),if_pos h1,if_pos h1]
    ·rw[if_neg h1,if_neg h1]
     by_cases h2:i < 32+m
     ·rw[if_pos h2,if_pos (by omega)]
     ·rw[if_neg h2,if_neg (by omega)]
   rw[hT]
   have hg:=hinv.resolve_left Hh
   obtain ⟨T,hTe⟩: ∃ T,Jc kW fD p info m (k+1)=T:=⟨_,rfl⟩
   rw[hTe]
   simp only[vR,seval, -List.reduceReplicate]
   refine fI (b:=30) (g:=T) Tryz.gA Tryz.gi (by simp only[ae,vR,seval, -List.reduceReplicate]) hg (.inr ⟨43,0,32,true,ah .u8 32 T,rfl,by simp only[ae,vR,seval, -List.reduceReplicate],bN,by decide⟩) (by omega) ?_
   intro c2 qH j6
   simp only[vR,seval, -List.reduceReplicate]
   refine ⟨(c2,qH), .inr (j6.congr (by omega) fun i hi=> ?_),fun x=>if x=30 then 49 else if x=31 then 43 else x,fun x hx=> ?_, ?_, ?_, ?_⟩
   ·simp only[bh]
    split
    ·rfl
    ·have h:=RT (K:=kW) (V:=fD) (p:=p) (info:=info) (m:=m) (k:=k) (i:=i - 32*k) (by omega)
     rw[show 32*k+(i - 32*k)=i by omega]at h
     rw[h,hTe]
   ·simp only;rw[if_neg (by omega),if_neg (by omega)]
   ·simp only[fb,mP,qD,oz,WH,vR,seval, -List.reduceReplicate]
    exact ⟨congrArg (fun z=>some (Sl 49 0 z c2)) (by omega),congrArg (fun z=>some (I .u8 (IntKind.u8.wrap z))) (by omega)⟩
   ·simp only[j6.plain,ld,hp,vR,seval, -List.reduceReplicate]
   ·simp only[vR,seval, -List.reduceReplicate]
    simp
 ·rintro ⟨c',cs'⟩ hinv
  simp only at hinv
  by_cases Hh:(n+31) / 32=0
  ·have hn0:n=0:=by omega
   subst hn0
   simp only[Oy,B3,sJ,if_true,Hh,List.append_nil,vR,seval, -List.reduceReplicate]
   refine aZ (by simp) ?_
   simp only[vR,seval, -List.reduceReplicate]
   exact ⟨1,V (.slice none 0 0),fun _=>none,Nat.le_refl _,rfl,trivial,fun n b hb=>(by cases hb), .inl ⟨rfl,rfl,rfl⟩⟩
  ·have hg:=hinv.resolve_left Hh
   have hr:=hg.room
   have l1:((n:Int)≤(c':Int))=True:=eq_true (by omega)
   simp only[Oy,B3,sJ,if_neg Hh,List.cons_append,List.nil_append,vR,seval, -List.reduceReplicate]
   refine aZ (by simp;omega) ?_
   simp only[cC,l1,vR,seval, -List.reduceReplicate]
   exact gV (k:=1) (q:=30) (by decide) (by simp only[ae,vR,seval, -List.reduceReplicate]) hg.plain (.inr (bV.made ⟨hg.len,by omega,hg.plain,rj hg.shows (by omega)⟩))
 ·show 6≤32
  decide


structure aeJ (k:Nat) (l:List (Nat×aI)) (vm:AV) (m:Nat) (kf f:Nat→Int) (s:AS) (L:List (Nat×aI)) (v:AV) (n:Nat) (g:Nat→Int):Prop where
 e0:s.env 0=some v
 e1:s.env 1=some vm
 e4:s.env 4=some (Ptr k 0)
 next:s.next≤50
 v7: ∀ x ∈ L,x.1 < s.next∧lk L x.1=some x.2∧s.box x.1=some x.2∧x.2.cells.all SV.plain=true
 cell:lk L k=some ⟨true,ah .u8 32 (fun _=>0)⟩
 hv:cK (lk L) v n g
 hvm:cK (lk L) vm m f
 hok:AV.ok (fun n=>n < s.next) v
 af7:AV.ok (fun n=>n < s.next) vm
 hn:n≤64
 hg:bg g
 heq: ∀ i,kf i=if i < n then g i else 0

theorem B5 {s:AS} {nm t0 tk ok nk ck o c:Nat} {PH J2:Bool} {a0:SV} {wy:List SV} {n0:Nat} {f0 key:Nat→Int} (h0:s.box t0=some ⟨PH,[a0]⟩) (ho:o=0)
  (p0:cK s.box (.inl (.inl a0)) n0 f0) (b0:bg f0)
  (hk:s.box tk=some ⟨J2,wy⟩) (hkp:wy.all SV.plain=true) (hkey:br wy ok nk key) (PF:bg key) (hnk:nk < 100000000) (PG:nk≤ck) (hN:n0 < 100000000) {dst:Option Nat} {K:AS→Prop}
  (hK:K (s.put dst (some (Ag (ah .u8 32 (jy kW fD key nk f0 n0)))))):aB Tryz.prog nm 76 (some [Sl tk ok nk ck,Sl t0 o 1 c]) dst K s:=by
 subst ho
 obtain ⟨u0,r0,c0,w0,e0,q0,g0,i0,k0,_⟩:=pq p0 hk hkp
 let l:List (Nat×aI):=[(0,⟨false,[w0 2]⟩),(1,⟨false,wy⟩),(2,⟨false,c0⟩)]
 let nn:Nat→Nat:=fun j=>n0
 let ff:Nat→Nat→Int:=fun j=>f0
 have hl:Hc l [w0 2] 3 0 1 nn ff:=by
  refine ⟨fun x hx=> ?_,fun i hi=> ?_,fun x hx=> ?_,rfl,fun j hj=> ?_⟩
  ·simp only[l,List.mem_cons,List.not_mem_nil,or_false]at hx
   rcases hx with rfl | rfl | rfl<;>rfl
  ·have:i=0∨i=1∨i=2:=by omega
   rcases this with rfl | rfl | rfl<;>exact ⟨_,rfl⟩
  ·simp only[l,List.mem_cons,List.not_mem_nil,or_false]at hx
   rcases hx with rfl | rfl | rfl
   ·refine ⟨show (0:Nat) < 3 by decide,rfl,fun y hy=> ?_⟩
    simp only[List.mem_cons,List.not_mem_nil,or_false]at hy
    subst hy
    exact k0 _ _ (by decide)
   ·exact ⟨show (1:Nat) < 3 by decide,rfl,aD hkp⟩
   ·exact ⟨show (2:Nat) < 3 by decide,rfl,aD q0⟩
  ·obtain rfl:j=0:=by omega
   exact ⟨_,rfl,i0 _ 2 rfl⟩
 have hfit:Fits s (three t0 tk u0) (lk l) none:=by
  refine ⟨fun n b hb=> ?_,fun n n' b b' hb hrw=> ?_,fun n b hb hrw=> ?_,fun n hn=>(by cases hn)⟩
  ·have:=bC _ _ _ hb
   simp only[l,List.mem_cons,List.not_mem_nil,or_false,Prod.mk.injEq]at this
   rcases this with ⟨rfl,rfl⟩ | ⟨rfl,rfl⟩ | ⟨rfl,rfl⟩
   ·refine ⟨_,h0,fun e=>(by cases e), ?_⟩
    simp only[List.map_cons,List.map_nil]
    rw[g0 _ 2 rfl]
   ·exact ⟨_,hk,fun e=>(by cases e),(aN hkp _).symm⟩
   ·exact ⟨_,e0,fun e=>(by cases e),(aN q0 _).symm⟩
  all_goals
   have:=hl.ro _ (bC _ _ _ hb)
   simp only at this
   rw[this]at hrw;cases hrw
 have Hf:=RR (c:=c) (tk:=1) (ok:=ok) (nk:=nk) (ck:=ck) (key:=key) hl (by decide) (by decide) (by decide) (by show 0+n0 < _;omega) (fun j hj=>b0) rfl hkp hkey PF hnk PG
 have RS:jy kW fD key nk (zc nn ff 1) (jj nn 1)=jy kW fD key nk f0 n0:=by
  have e1:jj nn 1=n0:=by show 0+n0=_;omega
  rw[e1]
  refine kT (fun _ _=>rfl) fun i hi=> ?_
  show bh 0 (fun _=>0) f0 i=_
  simp only[bh]
  rw[if_neg (by omega),Nat.sub_zero]
 rw[RS]at Hf
 exact Hf.dP (three t0 tk u0) hfit az rfl hK
theorem Oz {s:AS} {nm t0 tk ok nk ck o c:Nat} {PH J2:Bool} {a0:SV} {wy:List SV} {n0:Nat} {f0 key:Nat→Int} (h0:s.box t0=some ⟨PH,[a0]⟩) (ho:o=0)
  (p0:cK s.box (.inl (.inl a0)) n0 f0) (b0:bg f0)
  (hk:s.box tk=some ⟨J2,wy⟩) (hkp:wy.all SV.plain=true) (hkey:br wy ok nk key) (PF:bg key) (hnk:nk < 100000000) (PG:nk≤ck) (hN:n0 < 100000000) {ops:Array Oper} {i:Nat} {dst:Option Nat} {K:AS→Prop}
  (hK:K (s.put dst (some (Ag (ah .u8 32 (jy kW fD key nk f0 n0)))))):qt Tryz.prog ops i nm 76 (some [Sl tk ok nk ck,Sl t0 o 1 c]) dst K s:=by
 subst ho
 obtain ⟨u0,r0,c0,w0,e0,q0,g0,i0,k0,nm0⟩:=pq p0 hk hkp
 let l:List (Nat×aI):=[(0,⟨false,[w0 2]⟩),(1,⟨false,wy⟩),(2,⟨false,c0⟩)]
 let nn:Nat→Nat:=fun j=>n0
 let ff:Nat→Nat→Int:=fun j=>f0
 have hl:Hc l [w0 2] 3 0 1 nn ff:=by
  refine ⟨fun x hx=> ?_,fun i hi=> ?_,fun x hx=> ?_,rfl,fun j hj=> ?_⟩
  ·simp only[l,List.mem_cons,List.not_mem_nil,or_false]at hx
   rcases hx with rfl | rfl | rfl<;>rfl
  ·have:i=0∨i=1∨i=2:=by omega
   rcases this with rfl | rfl | rfl<;>exact ⟨_,rfl⟩
  ·simp only[l,List.mem_cons,List.not_mem_nil,or_false]at hx
   rcases hx with rfl | rfl | rfl
   ·refine ⟨show (0:Nat) < 3 by decide,rfl,fun y hy=> ?_⟩
    simp only[List.mem_cons,List.not_mem_nil,or_false]at hy
    subst hy
    exact k0 _ _ (by decide)
   ·exact ⟨show (1:Nat) < 3 by decide,rfl,aD hkp⟩
   ·exact ⟨show (2:Nat) < 3 by decide,rfl,aD q0⟩
  ·obtain rfl:j=0:=by omega
   exact ⟨_,rfl,i0 _ 2 rfl⟩
 have hfit:Fits s (three t0 tk u0) (lk l) none:=by
  refine ⟨fun n b hb=> ?_,fun n n' b b' hb hrw=> ?_,fun n b hb hrw=> ?_,fun n hn=>(by cases hn)⟩
  ·have:=bC _ _ _ hb
   simp only[l,List.mem_cons,List.not_mem_nil,or_false,Prod.mk.injEq]at this
   rcases this with ⟨rfl,rfl⟩ | ⟨rfl,rfl⟩ | ⟨rfl,rfl⟩
   ·refine ⟨_,h0,fun e=>(by cases e), ?_⟩
    simp only[List.map_cons,List.map_nil]
    rw[g0 _ 2 rfl]
   ·exact ⟨_,hk,fun e=>(by cases e),(aN hkp _).symm⟩
   ·exact ⟨_,e0,fun e=>(by cases e),(aN q0 _).symm⟩
  all_goals
   have:=hl.ro _ (bC _ _ _ hb)
   simp only at this
   rw[this]at hrw;cases hrw
 have Hf:=RR (c:=c) (tk:=1) (ok:=ok) (nk:=nk) (ck:=ck) (key:=key) hl (by decide) (by decide) (by decide) (by show 0+n0 < _;omega) (fun j hj=>b0) rfl hkp hkey PF hnk PG
 have RS:jy kW fD key nk (zc nn ff 1) (jj nn 1)=jy kW fD key nk f0 n0:=by
  have e1:jj nn 1=n0:=by show 0+n0=_;omega
  rw[e1]
  refine kT (fun _ _=>rfl) fun i hi=> ?_
  show bh 0 (fun _=>0) f0 i=_
  simp only[bh]
  rw[if_neg (by omega),Nat.sub_zero]
 rw[RS]at Hf
 refine Hf.NT (three t0 tk u0) hfit az rfl (fun M h oI n hn=> ?_) hK
 have mk:M tk:=h (Sl tk ok nk ck) (List.Mem.head _)
 have mt:M t0:=h (Sl t0 0 1 c) (List.Mem.tail _ (List.Mem.head _))
 have mu:M u0:=by
  rcases nm0 M (oI 0 (by decide) mt _ h0 a0 (List.Mem.head _)).1 with e | e
  ·rw[e];exact mk
  ·exact e
 have:n=0∨n=1∨n=2:=by omega
 rcases this with rfl | rfl | rfl
 ·exact mt
 ·exact mk
 ·exact mu
def MI (n:Int) (a b c:Nat):Prop:=n < 0∨8160 < n∨1048576 < a∨1048576 < b∨1048576 < c
instance (n:Int) (a b c:Nat):Decidable (MI n a b c):=by unfold MI;infer_instance
theorem OA {n o c:Nat} {cs:List SV} (hp:cs.all SV.plain=true):bz Tryz.prog 53 [Sl 0 o n c] 1 (lk [(0,⟨false,cs⟩)]) (fun v out=>v=B (decide (1048576 < (n:Int)))∧out=fun _=>none):=by
 refine aA Tryz.func53 rfl (by kernel_rfl) (by simp[Tryz.ntmps53]) Tryz.nM (by simp[AV.ok,CV.ok,SV.names]) eH (eL hp) ?_
 simp only[Tryz.results53,vS,seval, -List.reduceReplicate]
 exact ao rfl ⟨rfl,rfl⟩
theorem cB {s:AS} {nm t o n c:Nat} {rw:Bool} {cs:List SV} (hb:s.box t=some ⟨rw,cs⟩) (hp:cs.all SV.plain=true) {dst:Option Nat} {K:AS→Prop} (hk:K (s.put dst (some (B (decide (1048576 < (n:Int))))))):aB Tryz.prog nm 53 (some [Sl t o n c]) dst K s:=
 (OA hp).dP (fun _=>t) (cy hb hp) rfl rfl hk


def UO (nk m:Nat) (key f:Nat→Int):Nat→Int:=if 1048576 < nk∨1048576 < m then fun _=>0 else jy kW fD key nk f m
theorem RU {nk ok ck m o c:Nat} {key f:Nat→Int} {cs ds:List SV} (PF:bg key) (hf:bg f) (hk:br cs ok nk key) (hp:cs.all SV.plain=true) (PG:nk≤ck) (hc:br ds o m f) (hq:ds.all SV.plain=true):
  bz Tryz.prog 81 [Sl 0 ok nk ck,Sl 1 o m c] 2 (lk [(0,⟨false,cs⟩),(1,⟨false,ds⟩)]) (fun u out=>u=Ag (ah .u8 32 (UO nk m key f))∧out=fun _=>none):=by
 refine aA Tryz.func81 rfl (by kernel_rfl) (by simp[Tryz.ntmps81]) Tryz.JM (by simp[AV.ok,CV.ok,SV.names]) lg (oU hp hq) ?_
 simp only[Tryz.results81,vR,seval, -List.reduceReplicate]
 refine cB (rw:=false) (by simp only[ae,vR,seval, -List.reduceReplicate]) hp ?_
 by_cases h1:1048576 < nk
 ·have d1:decide (1048576 < (nk:Int))=true:=decide_eq_true (by omega)
  have eA:UO nk m key f=fun _=>0:=if_pos (.inl h1)
  simp only[d1,eA,aH,vR,seval, -List.reduceReplicate]
  exact ao (v:=Ag (ah .u8 32 (fun _=>0))) az ⟨rfl,rfl⟩
 have d1:decide (1048576 < (nk:Int))=false:=decide_eq_false (by omega)
 simp only[d1,vR,seval, -List.reduceReplicate]
 refine cB (rw:=false) (by simp only[ae,vR,seval, -List.reduceReplicate]) hq ?_
 by_cases h2:1048576 < m
 ·have d2:decide (1048576 < (m:Int))=true:=decide_eq_true (by omega)
  have eA:UO nk m key f=fun _=>0:=if_pos (.inr h2)
  simp only[d2,eA,aH,vR,seval, -List.reduceReplicate]
  exact ao (v:=Ag (ah .u8 32 (fun _=>0))) az ⟨rfl,rfl⟩
 have d2:decide (1048576 < (m:Int))=false:=decide_eq_false (by omega)
 have eA:UO nk m key f=jy kW fD key nk f m:=if_neg (by omega)
 simp only[d2,vR,seval, -List.reduceReplicate]
 refine ⟨show 1≤1 by decide, ?_⟩
 refine B5 (PH:=true) (J2:=false) (by simp only[aJ];rfl) rfl (.inr ⟨1,o,c,false,ds,rfl,by simp only[ae,vR,seval, -List.reduceReplicate],hq,hc⟩) hf (by simp only[ae,vR,seval, -List.reduceReplicate]) hp hk PF (by omega) PG (by omega) ?_
 simp only[← eA,vR,seval, -List.reduceReplicate]
 exact ao az ⟨rfl,rfl⟩
theorem X6 {nk ok ck m om cm q oq cq:Nat} {n:Int} {RV f info:Nat→Int} {cs ds es:List SV} (PF:bg RV) (hf:bg f) (Uh:bg info) (hk:br cs ok nk RV) (hp:cs.all SV.plain=true) (PG:nk≤ck) (hc:br ds om m f) (hq:ds.all SV.plain=true)
  (hi:br es oq q info) (hr:es.all SV.plain=true) (hg: ¬ MI n nk m q):
  bz Tryz.prog 74 [Sl 0 ok nk ck,Sl 1 om m cm,Sl 2 oq q cq,I .i64 n] 3 (lk [(0,⟨false,cs⟩),(1,⟨false,ds⟩),(2,⟨false,es⟩)]) (Bytes 3 n.toNat (rm kW fD (jy kW fD RV nk f m) info q)):=by
 refine aA Tryz.func74 rfl (by kernel_rfl) (by simp[Tryz.ntmps74]) Tryz.JL (by simp[AV.ok,CV.ok,SV.names]) acG (acH hp hq hr) ?_
 simp only[MI]at hg
 have d0:decide (n < 0)=false:=decide_eq_false (by omega)
 have d1:decide (8160 < n)=false:=decide_eq_false (by omega)
 have d2:decide (1048576 < (nk:Int))=false:=decide_eq_false (by omega)
 have d3:decide (1048576 < (m:Int))=false:=decide_eq_false (by omega)
 have d4:decide (1048576 < (q:Int))=false:=decide_eq_false (by omega)
 simp only[Tryz.results74,d0,d1,vR,seval, -List.reduceReplicate]
 refine cB (rw:=false) (by simp only[ae,vR,seval, -List.reduceReplicate]) hp ?_
 simp only[d2,vR,seval, -List.reduceReplicate]
 refine cB (rw:=false) (by simp only[ae,vR,seval, -List.reduceReplicate]) hq ?_
 simp only[d3,vR,seval, -List.reduceReplicate]
 refine cB (rw:=false) (by simp only[ae,vR,seval, -List.reduceReplicate]) hr ?_
 simp only[d4,vR,seval, -List.reduceReplicate]
 refine ⟨show 1≤1 by decide, ?_⟩
 refine B5 (PH:=true) (J2:=false) (by simp only[aJ];rfl) rfl (.inr ⟨1,om,cm,false,ds,rfl,by simp only[ae,vR,seval, -List.reduceReplicate],hq,hc⟩) hf (by simp only[ae,vR,seval, -List.reduceReplicate]) hp hk PF (by omega) PG (by omega) ?_
 simp only[vR,seval, -List.reduceReplicate]
 obtain ⟨N,rfl⟩: ∃ N:Nat,n=(N:Int):=⟨n.toNat,by omega⟩
 rw[Int.toNat_natCast]
 obtain ⟨p,Zi⟩: ∃ p,jy kW fD RV nk f m=p:=⟨_,rfl⟩
 have Eb:bg p:=by rw[← Zi];exact il _ _ _ _ _ _
 rw[Zi]
 refine (Hg (o:=oq) (m:=q) (c:=cq) (n:=N) Eb Uh hi hr (by omega) (by omega)).aB (fun _=>2) none (cy (rw:=false) (by simp only[ae,vR,seval, -List.reduceReplicate]) hr) (by simp only[List.map_cons,List.map_nil,fc,mP,fb]) ?_
 rintro v out (⟨h0,rfl,rfl⟩ | ⟨c2,WI,rfl,rfl,h1,h2,h3⟩) _
 ·simp only[vR,seval, -List.reduceReplicate]
  exact ao (v:=V (.slice none 0 0)) rfl (.inl ⟨h0,rfl,rfl⟩)
 ·rw[km (fR h3)]
  simp only[fb,kt,vR,seval, -List.reduceReplicate]
  exact gV (k:=3) (q:=28) (cs:=ah .u8 N (rm kW fD p info q)++WI) (by decide) (by simp only[aJ]) (fR h3) (.inr ⟨c2,WI,rfl,rfl,h1,h2,h3⟩)
theorem uS {P:Program} [bA.Tables P] {f k:Nat} {args:List AV} {ins:Nat→Option aI} {Post Post':AV→(Nat→Option aI)→Prop} (h:bz P f args k ins Post) (hp: ∀ v out,Post v out→Post' v out):bz P f args k ins Post':=
 ⟨h.body,h.all,h.v7,fun W g w a b c d=>(h.call W g w a b c d).mono (by
  rintro e w' ⟨v,out,g',h1,h2,h3⟩
  exact ⟨v,out,g',h1,hp _ _ h2,h3⟩)⟩
theorem gj {n a m:Nat} {f:Nat→Int} {tail:List SV} (h:a+m≤n):List.take m (List.drop a (ah .u8 n f++tail))=ah .u8 m (fun i=>f (a+i)):=by
 apply List.ext_getElem?
 intro i
 by_cases hi:i < m
 ·rw[List.getElem?_take_of_lt hi,List.getElem?_drop,List.getElem?_append_left (by rw[af];omega),aE .u8 n f (a+i) (by omega),aE .u8 m _ i hi]
 ·rw[List.getElem?_eq_none (by rw[List.length_take];omega),List.getElem?_eq_none (by rw[af];omega)]
theorem gX {n m:Nat} {f:Nat→Int} {tail:List SV} (h:m≤n):List.take m (ah .u8 n f++tail)=ah .u8 m f:=by
 have:=gj (n:=n) (a:=0) (m:=m) (f:=f) (tail:=tail) (by omega)
 rw[List.drop_zero]at this
 rw[this]
 exact aW fun i _=>by rw[Nat.zero_add]
def pw (i:Nat):Int:=[114,97,116,99,104,101,116,32,114,111,111,116].getD i 0
theorem J3:bg pw:=fun i=>by
 by_cases h:i < 12
 ·have: ∀ j,j < 12→0≤pw j∧pw j < 256:=by decide
  exact this i h
 ·have:pw i=0:=by
   simp only[pw,List.getD_eq_getElem?_getD]
   rw[List.getElem?_eq_none (by simp;omega)];rfl
  rw[this];decide
def MJ (root shared:Nat→Int):Nat→Int:=rm kW fD (jy kW fD root 32 shared 32) pw 12
def WJ:aT:=
 let e0:aT:= .cons 9 .nil .nil
 let e1:aT:= .cons 8 e0 .nil
 let e2:aT:= .cons 3 e1 .nil
 let e3:aT:= .cons 2 e2 .nil
 let e4:aT:= .cons 1 e3 .nil
 let e5:aT:= .cons 0 e4 .nil
 let e6:aT:= .cons 7 e0 .nil
 let e7:aT:= .cons 7 e1 (.cons 8 e6 .nil)
 let e8:aT:= .cons 3 e7 (.cons 7 e2 .nil)
 let e9:aT:= .cons 2 e8 (.cons 7 e3 .nil)
 let X7:aT:= .cons 1 e9 (.cons 7 e4 .nil)
 let X8:aT:= .cons 0 X7 (.cons 7 e5 .nil)
 let X9:aT:= .cons 6 e6 .nil
 let WK:aT:= .cons 6 e7 (.cons 8 X9 .nil)
 let Ya:aT:= .cons 3 WK (.cons 6 e8 .nil)
 let Yb:aT:= .cons 2 Ya (.cons 6 e9 .nil)
 let Yc:aT:= .cons 1 Yb (.cons 6 X7 .nil)
 let e17:aT:= .cons 0 Yc (.cons 6 X8 .nil)
 let e18:aT:= .cons 5 X9 .nil
 let e19:aT:= .cons 5 WK (.cons 8 e18 .nil)
 let e20:aT:= .cons 3 e19 (.cons 5 Ya .nil)
 let e21:aT:= .cons 2 e20 (.cons 5 Yb .nil)
 let e22:aT:= .cons 1 e21 (.cons 5 Yc .nil)
 let e23:aT:= .cons 0 e22 (.cons 5 e17 .nil)
 let e24:aT:= .cons 4 e18 .nil
 let e25:aT:= .cons 4 e19 (.cons 8 e24 .nil)
 let e26:aT:= .cons 3 e25 (.cons 4 e20 .nil)
 let e27:aT:= .cons 2 e26 (.cons 4 e21 .nil)
 let e28:aT:= .cons 1 e27 (.cons 4 e22 .nil)
 let e29:aT:= .cons 0 e28 (.cons 4 e23 .nil)
 e29
def B6 (f g:Nat→Int):AV:= .inr [.inr (ah .u8 32 f), .inr (ah .u8 32 g)]
theorem wz (r x:Nat→Int) (hr:bg r) (hx:bg x):cO Tryz.prog 52 [Ag (ah .u8 32 r),Ag (ah .u8 32 x)] (B6 (MJ r x) (fun i=>MJ r x (32+i))):=by
 refine yy Tryz.func52 rfl (by kernel_rfl) (by simp[Tryz.ntmps52]) rfl rfl ?_
 simp only[Tryz.results52,vL,seval, -List.reduceReplicate]
 refine .inl ?_
 simp only[vL,seval, -List.reduceReplicate]
 refine ⟨by kernel_rfl,by decide,by decide,by decide,by decide,by decide,by decide,by decide,by decide,by decide,by decide,by decide, ?_⟩
 refine uF (uS (Post':=Made 3 64 (MJ r x)) (X6 (ok:=0) (ck:=32) (om:=0) (cm:=32) (oq:=0) (cq:=12) (nk:=32) (m:=32) (q:=12) (n:=64) (RV:=r) (f:=x) (info:=pw) (cs:=ah .u8 32 r) (ds:=ah .u8 32 x) (es:=ah .u8 12 pw) hr hx J3 bN az (by decide) bN az bN az (by decide)) (fun v out h=>h.resolve_left (fun e=>by cases e.1))) (three 0 1 6)
  (Z7 (r0:=true) (r1:=true) (r2:=true) (by simp only[ae,vR,seval, -List.reduceReplicate]) az (by simp only[ae,vR,seval, -List.reduceReplicate]) az (by simp only[aJ];rfl) az) rfl (fun M h n hn=> ?_) (by kernel_rfl) ?_
 ·have a:=h (Sl 0 0 32 32) (List.Mem.head _)
  have b:=h (Sl 1 0 32 32) (List.Mem.tail _ (List.Mem.head _))
  have c:=h (Sl 6 0 12 12) (List.Mem.tail _ (List.Mem.tail _ (List.Mem.head _)))
  simp only[three];split
  ·exact a
  ·split
   ·exact b
   ·exact c
 intro c1 mU h1 h2 h3
 simp only[vL,seval, -List.reduceReplicate]
 refine .inr ⟨Tryz.mixed,WJ,by kernel_rfl, ?_⟩
 have n1:(c1=32)=False:=eq_false (by omega)
 have l1:(32≤(c1:Int))=True:=eq_true (by omega)
 have l2:(64≤(c1:Int))=True:=eq_true (by omega)
 have len: ∀ m,m≤64→(m≤(ah .u8 64 (MJ r x)++mU).length)=True:=fun m hm=>eq_true (by rw[List.length_append,af];omega)
 have p0:=gX (n:=64) (m:=32) (f:=MJ r x) (tail:=mU) (by decide)
 have p1:=gj (n:=64) (a:=32) (m:=32) (f:=MJ r x) (tail:=mU) (by decide)
 simp only[WJ,n1,l1,l2,len 32 (by decide),len 64 (by decide),p0,p1,vL,seval, -List.reduceReplicate]
 rfl
def lN (k:Nat→Int) (x:Int):Nat→Int:=jy kW fD k 32 (fun _=>x) 1
theorem tU (k:Nat→Int) (hk:bg k):cO Tryz.prog 57 [Ag (ah .u8 32 k)] (B6 (lN k 2) (lN k 1)):=by
 refine bf Tryz.func57 rfl (by kernel_rfl) (by simp[Tryz.ntmps57]) rfl rfl ?_
 simp only[Tryz.results57,fS,vR,seval, -List.reduceReplicate]
 refine ⟨by kernel_rfl, ?_⟩
 have hb2:bg (fun _=>(2:Int)):=fun i=>by show (0:Int)≤2∧(2:Int) < 256;decide
 have hb1:bg (fun _=>(1:Int)):=fun i=>by show (0:Int)≤1∧(1:Int) < 256;decide
 have ac8:bz Tryz.prog 81 [Sl 0 0 32 32,Sl 1 0 1 1] 2 (lk [(0,⟨false,ah .u8 32 k⟩),(1,⟨false,[Sum.inl (.int .u8 2)]⟩)]) (fun u out=>u=Ag (ah .u8 32 (lN k 2))∧out=fun _=>none):=RU (nk:=32) (m:=1) hk hb2 bN az (by decide) gp rfl
 have ac9:bz Tryz.prog 81 [Sl 0 0 32 32,Sl 1 0 1 1] 2 (lk [(0,⟨false,ah .u8 32 k⟩),(1,⟨false,[Sum.inl (.int .u8 1)]⟩)]) (fun u out=>u=Ag (ah .u8 32 (lN k 1))∧out=fun _=>none):=RU (nk:=32) (m:=1) hk hb1 bN az (by decide) gp rfl
 refine ac8.cI (two 0 4) (ik (rw:=true) (rw':=true) (by simp only[ae,vR,seval, -List.reduceReplicate]) az (by simp only[ae,vR,seval, -List.reduceReplicate]) rfl) az rfl (fun M h n hn=> ?_) ?_
 ·have a:=h (Sl 0 0 32 32) (List.Mem.head _)
  have b:=h (Sl 4 0 1 1) (List.Mem.tail _ (List.Mem.head _))
  simp only[two];split
  ·exact a
  ·exact b
 simp only[fS,vR,seval, -List.reduceReplicate]
 refine ac9.cI (two 0 7) (ik (rw:=true) (rw':=true) (by simp only[ae,vR,seval, -List.reduceReplicate]) az (by simp only[ae,vR,seval, -List.reduceReplicate]) rfl) az rfl (fun M h n hn=> ?_) ?_
 ·have a:=h (Sl 0 0 32 32) (List.Mem.head _)
  have b:=h (Sl 7 0 1 1) (List.Mem.tail _ (List.Mem.head _))
  simp only[two];split
  ·exact a
  ·exact b
 simp only[fS,vR,seval, -List.reduceReplicate]
 rfl
theorem OB (x y c:Int) (hx:0≤x) (hy:0≤y) (h0:0≤c) (h1:c≤1): ∀ (g:Where) (w:World),(callFunc 71 (([I .u64 x,I .u64 y,I .u64 c]:List AV).map (AV.aq g)).toArray).run Tryz.prog w=
  .ok (.value (AV.aq g (.inr [.inl (.inl (.int .u64 ((x+y+c)%18446744073709551616))), .inl (.inl (.int .u64 ((x+y+c) / 18446744073709551616)))]))) w:=by
 intro g w
 show (callFunc 71 #[.int .u64 x, .int .u64 y, .int .u64 c]).run Tryz.prog w=_
 rw[run_callFunc_extern Tryz.func71 (by kernel_rfl) (by kernel_rfl) (by kernel_rfl) (e:=add64Entry) (by kernel_rfl),run_add64 x y c hx hy h0 h1]
 rfl
theorem Add64.call {x y c:Int} (hx:0≤x) (hy:0≤y) (h0:0≤c) (h1:c≤1) {dst:Option Nat} {K:AS→Prop} {s:AS}
  (hk:K (s.put dst (some (.inr [.inl (.inl (.int .u64 ((x+y+c)%18446744073709551616))), .inl (.inl (.int .u64 ((x+y+c) / 18446744073709551616)))])))):
  ox Tryz.prog 71 (some [I .u64 x,I .u64 y,I .u64 c]) dst K s:=
 ⟨_,by intro v hv;simp at hv;rcases hv with rfl | rfl<;>trivial,OB x y c hx hy h0 h1,hk⟩
theorem OC (x y:Int) (hx:0≤x) (hx':x < 18446744073709551616) (hy:0≤y) (hy':y < 18446744073709551616):
  cO Tryz.prog 70 [I .u64 x,I .u64 y] (.inr [.inl (.inl (.int .u64 (x*y / 18446744073709551616))), .inl (.inl (.int .u64 (x*y%18446744073709551616)))]):=by
 refine bf Tryz.func70 rfl (by kernel_rfl) (by simp[Tryz.ntmps70]) rfl rfl ?_
 simp only[Tryz.results70,vS,seval, -List.reduceReplicate]
 rw[I4 x y hx hx' hy hy',wrap_u64]
def dK (W:Int):List SV:=[Sum.inl (.int .u64 (W / 18446744073709551616)),Sum.inl (.int .u64 (W%18446744073709551616))]
theorem cu (W x y:Int) (hW:0≤W) (hx:0≤x) (hx':x < 18446744073709551616) (hy:0≤y) (hy':y < 18446744073709551616) (hs:W+x*y < 340282366920938463463374607431768211456):
  cO Tryz.prog 42 [Ag (dK W),I .u64 x,I .u64 y] (Ag (dK (W+x*y))):=by
 have hxy:0≤x*y:=Int.mul_nonneg hx hy
 refine bf Tryz.func42 rfl (by kernel_rfl) (by simp[Tryz.ntmps42]) rfl rfl ?_
 simp only[dK,Tryz.results42,vS,seval, -List.reduceReplicate]
 refine (OC x y hx hx' hy hy').aB ?_
 simp only[vS,seval, -List.reduceReplicate]
 refine Add64.call (by omega) (by omega) (by omega) (by omega) ?_
 simp only[vS,seval, -List.reduceReplicate]
 refine Add64.call (by omega) (by omega) (by omega) (by omega) ?_
 simp only[vS,seval, -List.reduceReplicate]
 generalize x*y=p at*
 rw[show (W / 18446744073709551616+p / 18446744073709551616+(W%18446744073709551616+p%18446744073709551616+0) / 18446744073709551616)%18446744073709551616=(W+p) / 18446744073709551616 from by omega,
  show (W%18446744073709551616+p%18446744073709551616+0)%18446744073709551616=(W+p)%18446744073709551616 from by omega]
theorem mV (W:Int) (hW:0≤W) (hW':W < 41538374868278621028243970633760768):cO Tryz.prog 44 [Ag (dK W)] (I .u64 (W / 2251799813685248)):=by
 refine bf Tryz.func44 rfl (by kernel_rfl) (by simp[Tryz.ntmps44]) rfl rfl ?_
 simp only[dK,Tryz.results44,vS,seval, -List.reduceReplicate]
 rw[Z5,oy,Int.emod_eq_of_lt (by omega) (by omega)]
 have:=Qx (W / 18446744073709551616) (W%18446744073709551616 / 2251799813685248) 13 (by decide) (by omega) (by omega) (by omega) (by omega)
 rw[show (2:Int)^13=8192 from rfl]at this
 rw[this]
 rw[show W / 18446744073709551616*8192+W%18446744073709551616 / 2251799813685248=W / 2251799813685248 from by omega]
structure F5 where
 a0:Int
 a1:Int
 a2:Int
 a3:Int
 a4:Int
def F5.l (f:F5):List SV:=[Sum.inl (.int .u64 f.a0),Sum.inl (.int .u64 f.a1),Sum.inl (.int .u64 f.a2),Sum.inl (.int .u64 f.a3),Sum.inl (.int .u64 f.a4)]
def dU (f:F5):F5:=
 ⟨f.a0%2251799813685248+19*(f.a4 / 2251799813685248),f.a1%2251799813685248+f.a0 / 2251799813685248,f.a2%2251799813685248+f.a1 / 2251799813685248,
  f.a3%2251799813685248+f.a2 / 2251799813685248,f.a4%2251799813685248+f.a3 / 2251799813685248⟩
structure F5.U (f:F5):Prop where
 h0:0≤f.a0∧f.a0 < 18446744073709551616
 h1:0≤f.a1∧f.a1 < 18446744073709551616
 h2:0≤f.a2∧f.a2 < 18446744073709551616
 h3:0≤f.a3∧f.a3 < 18446744073709551616
 h4:0≤f.a4∧f.a4 < 18446744073709551616
theorem pz (f:F5) (h:f.U):cO Tryz.prog 43 [I .u64 f.a0,I .u64 f.a1,I .u64 f.a2,I .u64 f.a3,I .u64 f.a4] (Ag (dU f).l):=by
 obtain ⟨⟨h0,wP⟩,⟨h1,h1'⟩,⟨h2,h2'⟩,⟨h3,h3'⟩,⟨h4,h4'⟩⟩:=h
 refine bf Tryz.func43 rfl (by kernel_rfl) (by simp[Tryz.ntmps43]) rfl rfl ?_
 simp only[Tryz.results43,vS,seval, -List.reduceReplicate]
 simp only[oy,iK f.a0 h0 wP,iK f.a1 h1 h1',iK f.a2 h2 h2',iK f.a3 h3 h3',iK f.a4 h4 h4']
 rw[aC (19*_) (by omega) (by omega),aC _ (by omega) (by omega),aC _ (by omega) (by omega),aC _ (by omega) (by omega),aC _ (by omega) (by omega),aC _ (by omega) (by omega)]
 rfl
structure F5.Ok (f:F5):Prop where
 h0:0≤f.a0∧f.a0 < 2251799813686272
 h1:0≤f.a1∧f.a1 < 2251799813686272
 h2:0≤f.a2∧f.a2 < 2251799813686272
 h3:0≤f.a3∧f.a3 < 2251799813686272
 h4:0≤f.a4∧f.a4 < 2251799813686272
def Hj (a b:F5):F5:=⟨a.a0+b.a0,a.a1+b.a1,a.a2+b.a2,a.a3+b.a3,a.a4+b.a4⟩
def Hl (a b:F5):F5:=⟨a.a0+4503599627370458 - b.a0,a.a1+4503599627370494 - b.a1,a.a2+4503599627370494 - b.a2,a.a3+4503599627370494 - b.a3,a.a4+4503599627370494 - b.a4⟩
theorem UQ (a b:F5) (ha:a.Ok) (hb:b.Ok):cO Tryz.prog 39 [Ag a.l,Ag b.l] (Ag (dU (Hj a b)).l):=by
 obtain ⟨⟨h0,wP⟩,⟨h1,h1'⟩,⟨h2,h2'⟩,⟨h3,h3'⟩,⟨h4,h4'⟩⟩:=ha
 obtain ⟨⟨k0,Il⟩,⟨k1,Im⟩,⟨k2,Io⟩,⟨k3,Ip⟩,⟨k4,Iq⟩⟩:=hb
 refine bf Tryz.func39 rfl (by kernel_rfl) (by simp[Tryz.ntmps39]) rfl rfl ?_
 simp only[F5.l,Tryz.results39,vS,seval, -List.reduceReplicate]
 rw[aC (a.a0+b.a0) (by omega) (by omega),aC (a.a1+b.a1) (by omega) (by omega),aC (a.a2+b.a2) (by omega) (by omega),aC (a.a3+b.a3) (by omega) (by omega),aC (a.a4+b.a4) (by omega) (by omega)]
 refine (pz (Hj a b) ⟨?_, ?_, ?_, ?_, ?_⟩).aB ?_
 iterate 5 (simp only[Hj];omega)
 simp only[F5.l,vS,seval, -List.reduceReplicate]
theorem UR (a b:F5) (ha:a.Ok) (hb:b.Ok):cO Tryz.prog 40 [Ag a.l,Ag b.l] (Ag (dU (Hl a b)).l):=by
 obtain ⟨⟨h0,wP⟩,⟨h1,h1'⟩,⟨h2,h2'⟩,⟨h3,h3'⟩,⟨h4,h4'⟩⟩:=ha
 obtain ⟨⟨k0,Il⟩,⟨k1,Im⟩,⟨k2,Io⟩,⟨k3,Ip⟩,⟨k4,Iq⟩⟩:=hb
 refine bf Tryz.func40 rfl (by kernel_rfl) (by simp[Tryz.ntmps40]) rfl rfl ?_
 simp only[F5.l,Tryz.results40,vS,seval, -List.reduceReplicate]
 rw[aC (a.a0+_) (by omega) (by omega),aC (a.a1+_) (by omega) (by omega),aC (a.a2+_) (by omega) (by omega),aC (a.a3+_) (by omega) (by omega),aC (a.a4+_) (by omega) (by omega),
  aC (a.a0+_ - b.a0) (by omega) (by omega),aC (a.a1+_ - b.a1) (by omega) (by omega),aC (a.a2+_ - b.a2) (by omega) (by omega),aC (a.a3+_ - b.a3) (by omega) (by omega),aC (a.a4+_ - b.a4) (by omega) (by omega)]
 refine (pz (Hl a b) ⟨?_, ?_, ?_, ?_, ?_⟩).aB ?_
 iterate 5 (simp only[Hl];omega)
 simp only[F5.l,vS,seval, -List.reduceReplicate]
theorem cO.draw {P:Program} [bA.Tables P] {f:Nat} {l:List AV} {r:AV} (h:cO P f l r) (hc:au P f=true) {ops:Array Oper} {i nm:Nat} {dst:Option Nat} {K:AS→Prop} {s:AS} (hk:K (s.put dst (some r))):qt P ops i nm f (some l) dst K s:=
 .inl ⟨l,r,rfl, .inl ⟨hc,h⟩,hk⟩
def kx (a b:F5):F5:=
 ⟨0+a.a0*b.a0+a.a1*(19*b.a4)+a.a2*(19*b.a3)+a.a3*(19*b.a2)+a.a4*(19*b.a1),
  0+a.a0*b.a1+a.a1*b.a0+a.a2*(19*b.a4)+a.a3*(19*b.a3)+a.a4*(19*b.a2),
  0+a.a0*b.a2+a.a1*b.a1+a.a2*b.a0+a.a3*(19*b.a4)+a.a4*(19*b.a3),
  0+a.a0*b.a3+a.a1*b.a2+a.a2*b.a1+a.a3*b.a0+a.a4*(19*b.a4),
  0+a.a0*b.a4+a.a1*b.a3+a.a2*b.a2+a.a3*b.a1+a.a4*b.a0⟩
def dq (a b:F5):F5:=dU
 ⟨(kx a b).a0%18446744073709551616%2251799813685248+19*((kx a b).a4 / 2251799813685248),(kx a b).a1%18446744073709551616%2251799813685248+(kx a b).a0 / 2251799813685248,
  (kx a b).a2%18446744073709551616%2251799813685248+(kx a b).a1 / 2251799813685248,(kx a b).a3%18446744073709551616%2251799813685248+(kx a b).a2 / 2251799813685248,
  (kx a b).a4%18446744073709551616%2251799813685248+(kx a b).a3 / 2251799813685248⟩
theorem cw {x y:Int} (hx:0≤x) (hx':x < 2251799813686272) (hy:0≤y) (hy':y < 2251799813686272):0≤x*y∧x*y≤5070602400917524788405613885441:=
 qZ hx (show x≤2251799813686271 by omega) hy (show y≤2251799813686271 by omega)
theorem cD {x y:Int} (hx:0≤x) (hx':x < 2251799813686272) (hy:0≤y) (hy':y < 2251799813686272):0≤x*(19*y)∧x*(19*y)≤96341445617432970979706663823379:=
 qZ hx (show x≤2251799813686271 by omega) (show 0≤19*y by omega) (show 19*y≤42784196460039149 by omega)
theorem kL (a b:F5) (ha:a.Ok) (hb:b.Ok):cO Tryz.prog 23 [Ag a.l,Ag b.l] (Ag (dq a b).l):=by
 obtain ⟨⟨h0,wP⟩,⟨h1,h1'⟩,⟨h2,h2'⟩,⟨h3,h3'⟩,⟨h4,h4'⟩⟩:=ha
 obtain ⟨⟨k0,Il⟩,⟨k1,Im⟩,⟨k2,Io⟩,⟨k3,Ip⟩,⟨k4,Iq⟩⟩:=hb
 have XE:=cw h0 wP k0 Il
 have Zj:=cD h1 h1' k4 Iq
 have Zk:=cD h2 h2' k3 Ip
 have Zl:=cD h3 h3' k2 Io
 have Zm:=cD h4 h4' k1 Im
 have XD:=cw h0 wP k1 Im
 have XC:=cw h1 h1' k0 Il
 have Zn:=cD h2 h2' k4 Iq
 have Zo:=cD h3 h3' k3 Ip
 have Zp:=cD h4 h4' k2 Io
 have Zq:=cw h0 wP k2 Io
 have XB:=cw h1 h1' k1 Im
 have Zr:=cw h2 h2' k0 Il
 have Zs:=cD h3 h3' k4 Iq
 have Zt:=cD h4 h4' k3 Ip
 have Zu:=cw h0 wP k3 Ip
 have Zv:=cw h1 h1' k2 Io
 have Zw:=cw h2 h2' k1 Im
 have Zx:=cw h3 h3' k0 Il
 have Zy:=cD h4 h4' k4 Iq
 have Zz:=cw h0 wP k4 Iq
 have ZA:=cw h1 h1' k3 Ip
 have ZB:=cw h2 h2' k2 Io
 have ZC:=cw h3 h3' k1 Im
 have ZD:=cw h4 h4' k0 Il
 have e1:IntKind.u64.wrap (19*b.a1)=19*b.a1:=aC _ (by omega) (by omega)
 have e2:IntKind.u64.wrap (19*b.a2)=19*b.a2:=aC _ (by omega) (by omega)
 have e3:IntKind.u64.wrap (19*b.a3)=19*b.a3:=aC _ (by omega) (by omega)
 have e4:IntKind.u64.wrap (19*b.a4)=19*b.a4:=aC _ (by omega) (by omega)
 refine bf Tryz.func23 rfl (by kernel_rfl) (by simp[Tryz.ntmps23]) rfl rfl ?_
 simp only[F5.l,Tryz.results23,e1,e2,e3,e4,vS,seval, -List.reduceReplicate]
 refine ⟨by kernel_rfl, ?_⟩
 refine ⟨by kernel_rfl, ?_⟩
 refine cO.draw (cu (0) a.a0 b.a0 (by omega) (by omega) (by omega) (by omega) (by omega) (by omega)) Tryz.bG ?_
 simp only[dK,vS,seval, -List.reduceReplicate]
 refine cO.draw (cu (0+a.a0*b.a0) a.a1 (19*b.a4) (by omega) (by omega) (by omega) (by omega) (by omega) (by omega)) Tryz.bG ?_
 simp only[dK,vS,seval, -List.reduceReplicate]
 refine cO.draw (cu (0+a.a0*b.a0+a.a1*(19*b.a4)) a.a2 (19*b.a3) (by omega) (by omega) (by omega) (by omega) (by omega) (by omega)) Tryz.bG ?_
 simp only[dK,vS,seval, -List.reduceReplicate]
 refine cO.draw (cu (0+a.a0*b.a0+a.a1*(19*b.a4)+a.a2*(19*b.a3)) a.a3 (19*b.a2) (by omega) (by omega) (by omega) (by omega) (by omega) (by omega)) Tryz.bG ?_
 simp only[dK,vS,seval, -List.reduceReplicate]
 refine cO.draw (cu (0+a.a0*b.a0+a.a1*(19*b.a4)+a.a2*(19*b.a3)+a.a3*(19*b.a2)) a.a4 (19*b.a1) (by omega) (by omega) (by omega) (by omega) (by omega) (by omega)) Tryz.bG ?_
 simp only[dK,vS,seval, -List.reduceReplicate]
 refine ⟨by kernel_rfl, ?_⟩
 refine cO.draw (cu (0) a.a0 b.a1 (by omega) (by omega) (by omega) (by omega) (by omega) (by omega)) Tryz.bG ?_
 simp only[dK,vS,seval, -List.reduceReplicate]
 refine cO.draw (cu (0+a.a0*b.a1) a.a1 b.a0 (by omega) (by omega) (by omega) (by omega) (by omega) (by omega)) Tryz.bG ?_
 simp only[dK,vS,seval, -List.reduceReplicate]
 refine cO.draw (cu (0+a.a0*b.a1+a.a1*b.a0) a.a2 (19*b.a4) (by omega) (by omega) (by omega) (by omega) (by omega) (by omega)) Tryz.bG ?_
 simp only[dK,vS,seval, -List.reduceReplicate]
 refine cO.draw (cu (0+a.a0*b.a1+a.a1*b.a0+a.a2*(19*b.a4)) a.a3 (19*b.a3) (by omega) (by omega) (by omega) (by omega) (by omega) (by omega)) Tryz.bG ?_
 simp only[dK,vS,seval, -List.reduceReplicate]
 refine cO.draw (cu (0+a.a0*b.a1+a.a1*b.a0+a.a2*(19*b.a4)+a.a3*(19*b.a3)) a.a4 (19*b.a2) (by omega) (by omega) (by omega) (by omega) (by omega) (by omega)) Tryz.bG ?_
 simp only[dK,vS,seval, -List.reduceReplicate]
 refine ⟨by kernel_rfl, ?_⟩
 refine cO.draw (cu (0) a.a0 b.a2 (by omega) (by omega) (by omega) (by omega) (by omega) (by omega)) Tryz.bG ?_
 simp only[dK,vS,seval, -List.reduceReplicate]
 refine cO.draw (cu (0+a.a0*b.a2) a.a1 b.a1 (by omega) (by omega) (by omega) (by omega) (by omega) (by omega)) Tryz.bG ?_
 simp only[dK,vS,seval, -List.reduceReplicate]
 refine cO.draw (cu (0+a.a0*b.a2+a.a1*b.a1) a.a2 b.a0 (by omega) (by omega) (by omega) (by omega) (by omega) (by omega)) Tryz.bG ?_
 simp only[dK,vS,seval, -List.reduceReplicate]
 refine cO.draw (cu (0+a.a0*b.a2+a.a1*b.a1+a.a2*b.a0) a.a3 (19*b.a4) (by omega) (by omega) (by omega) (by omega) (by omega) (by omega)) Tryz.bG ?_
 simp only[dK,vS,seval, -List.reduceReplicate]
 refine cO.draw (cu (0+a.a0*b.a2+a.a1*b.a1+a.a2*b.a0+a.a3*(19*b.a4)) a.a4 (19*b.a3) (by omega) (by omega) (by omega) (by omega) (by omega) (by omega)) Tryz.bG ?_
 simp only[dK,vS,seval, -List.reduceReplicate]
 refine ⟨by kernel_rfl, ?_⟩
 refine cO.draw (cu (0) a.a0 b.a3 (by omega) (by omega) (by omega) (by omega) (by omega) (by omega)) Tryz.bG ?_
 simp only[dK,vS,seval, -List.reduceReplicate]
 refine cO.draw (cu (0+a.a0*b.a3) a.a1 b.a2 (by omega) (by omega) (by omega) (by omega) (by omega) (by omega)) Tryz.bG ?_
 simp only[dK,vS,seval, -List.reduceReplicate]
 refine cO.draw (cu (0+a.a0*b.a3+a.a1*b.a2) a.a2 b.a1 (by omega) (by omega) (by omega) (by omega) (by omega) (by omega)) Tryz.bG ?_
 simp only[dK,vS,seval, -List.reduceReplicate]
 refine cO.draw (cu (0+a.a0*b.a3+a.a1*b.a2+a.a2*b.a1) a.a3 b.a0 (by omega) (by omega) (by omega) (by omega) (by omega) (by omega)) Tryz.bG ?_
 simp only[dK,vS,seval, -List.reduceReplicate]
 refine cO.draw (cu (0+a.a0*b.a3+a.a1*b.a2+a.a2*b.a1+a.a3*b.a0) a.a4 (19*b.a4) (by omega) (by omega) (by omega) (by omega) (by omega) (by omega)) Tryz.bG ?_
 simp only[dK,vS,seval, -List.reduceReplicate]
 refine ⟨by kernel_rfl, ?_⟩
 refine cO.draw (cu (0) a.a0 b.a4 (by omega) (by omega) (by omega) (by omega) (by omega) (by omega)) Tryz.bG ?_
 simp only[dK,vS,seval, -List.reduceReplicate]
 refine cO.draw (cu (0+a.a0*b.a4) a.a1 b.a3 (by omega) (by omega) (by omega) (by omega) (by omega) (by omega)) Tryz.bG ?_
 simp only[dK,vS,seval, -List.reduceReplicate]
 refine cO.draw (cu (0+a.a0*b.a4+a.a1*b.a3) a.a2 b.a2 (by omega) (by omega) (by omega) (by omega) (by omega) (by omega)) Tryz.bG ?_
 simp only[dK,vS,seval, -List.reduceReplicate]
 refine cO.draw (cu (0+a.a0*b.a4+a.a1*b.a3+a.a2*b.a2) a.a3 b.a1 (by omega) (by omega) (by omega) (by omega) (by omega) (by omega)) Tryz.bG ?_
 simp only[dK,vS,seval, -List.reduceReplicate]
 refine cO.draw (cu (0+a.a0*b.a4+a.a1*b.a3+a.a2*b.a2+a.a3*b.a1) a.a4 b.a0 (by omega) (by omega) (by omega) (by omega) (by omega) (by omega)) Tryz.bG ?_
 simp only[dK,vS,seval, -List.reduceReplicate]
 have q0:0≤0+a.a0*b.a0+a.a1*(19*b.a4)+a.a2*(19*b.a3)+a.a3*(19*b.a2)+a.a4*(19*b.a1)∧0+a.a0*b.a0+a.a1*(19*b.a4)+a.a2*(19*b.a3)+a.a3*(19*b.a2)+a.a4*(19*b.a1)≤390436384870649408707232269178957:=by omega
 have q1:0≤0+a.a0*b.a1+a.a1*b.a0+a.a2*(19*b.a4)+a.a3*(19*b.a3)+a.a4*(19*b.a2)∧0+a.a0*b.a1+a.a1*b.a0+a.a2*(19*b.a4)+a.a3*(19*b.a3)+a.a4*(19*b.a2)≤299165541654133962515931219241019:=by omega
 have q2:0≤0+a.a0*b.a2+a.a1*b.a1+a.a2*b.a0+a.a3*(19*b.a4)+a.a4*(19*b.a3)∧0+a.a0*b.a2+a.a1*b.a1+a.a2*b.a0+a.a3*(19*b.a4)+a.a4*(19*b.a3)≤207894698437618516324630169303081:=by omega
 have q3:0≤0+a.a0*b.a3+a.a1*b.a2+a.a2*b.a1+a.a3*b.a0+a.a4*(19*b.a4)∧0+a.a0*b.a3+a.a1*b.a2+a.a2*b.a1+a.a3*b.a0+a.a4*(19*b.a4)≤116623855221103070133329119365143:=by omega
 have q4:0≤0+a.a0*b.a4+a.a1*b.a3+a.a2*b.a2+a.a3*b.a1+a.a4*b.a0∧0+a.a0*b.a4+a.a1*b.a3+a.a2*b.a2+a.a3*b.a1+a.a4*b.a0≤25353012004587623942028069427205:=by omega
 clear XE XD Zq Zu Zz XC XB Zv ZA Zj Zr Zw ZB Zk Zn Zx ZC Zl Zo Zs ZD Zm Zp Zt Zy
 generalize TS:0+a.a0*b.a0+a.a1*(19*b.a4)+a.a2*(19*b.a3)+a.a3*(19*b.a2)+a.a4*(19*b.a1)=W0 at*
 generalize hW1:0+a.a0*b.a1+a.a1*b.a0+a.a2*(19*b.a4)+a.a3*(19*b.a3)+a.a4*(19*b.a2)=W1 at*
 generalize hW2:0+a.a0*b.a2+a.a1*b.a1+a.a2*b.a0+a.a3*(19*b.a4)+a.a4*(19*b.a3)=W2 at*
 generalize hW3:0+a.a0*b.a3+a.a1*b.a2+a.a2*b.a1+a.a3*b.a0+a.a4*(19*b.a4)=W3 at*
 generalize hW4:0+a.a0*b.a4+a.a1*b.a3+a.a2*b.a2+a.a3*b.a1+a.a4*b.a0=W4 at*
 refine ⟨by kernel_rfl, ?_⟩
 refine cO.draw (mV W4 (by omega) (by omega)) Tryz.lz ?_
 simp only[dK,vS,seval, -List.reduceReplicate]
 refine cO.draw (mV W0 (by omega) (by omega)) Tryz.lz ?_
 simp only[dK,vS,seval, -List.reduceReplicate]
 refine cO.draw (mV W1 (by omega) (by omega)) Tryz.lz ?_
 simp only[dK,vS,seval, -List.reduceReplicate]
 refine cO.draw (mV W2 (by omega) (by omega)) Tryz.lz ?_
 simp only[dK,vS,seval, -List.reduceReplicate]
 refine cO.draw (mV W3 (by omega) (by omega)) Tryz.lz ?_
 simp only[dK,vS,seval, -List.reduceReplicate]
 simp only[iK (W0%18446744073709551616) (by omega) (by omega),iK (W1%18446744073709551616) (by omega) (by omega),iK (W2%18446744073709551616) (by omega) (by omega),iK (W3%18446744073709551616) (by omega) (by omega),iK (W4%18446744073709551616) (by omega) (by omega)]
 rw[aC (19*_) (by omega) (by omega),aC _ (by omega) (by omega),aC _ (by omega) (by omega),aC _ (by omega) (by omega),aC _ (by omega) (by omega),aC _ (by omega) (by omega)]
 refine cO.draw (pz ⟨W0%18446744073709551616%2251799813685248+19*(W4 / 2251799813685248),W1%18446744073709551616%2251799813685248+W0 / 2251799813685248,
  W2%18446744073709551616%2251799813685248+W1 / 2251799813685248,W3%18446744073709551616%2251799813685248+W2 / 2251799813685248,
  W4%18446744073709551616%2251799813685248+W3 / 2251799813685248⟩ ⟨?_, ?_, ?_, ?_, ?_⟩) Tryz.rQ ?_
 iterate 5 (simp only[];omega)
 simp only[F5.l,vS,seval, -List.reduceReplicate]
 subst TS hW1 hW2 hW3 hW4
 rfl
def F5.v (f:F5):Int:=f.a0+2251799813685248*f.a1+5070602400912917605986812821504*f.a2+11417981541647679048466287755595961091061972992*f.a3+25711008708143844408671393477458601640355247900524685364822016*f.a4
def PP:Int:=57896044618658097711785492504343953926634992332820282019728792003956564819949
theorem sK (f:F5):(dU f).v=f.v+PP* -(f.a4 / 2251799813685248):=by
 simp only[dU,F5.v,PP]
 omega
theorem Hm (f:F5) (h:f.U) (h0:f.a0 < 2305843009213693952) (h1:f.a1 < 2305843009213693952) (h2:f.a2 < 2305843009213693952) (h3:f.a3 < 2305843009213693952) (h4:f.a4 < 108086391056891904):(dU f).Ok:=by
 obtain ⟨⟨k0,Il⟩,⟨k1,Im⟩,⟨k2,Io⟩,⟨k3,Ip⟩,⟨k4,Iq⟩⟩:=h
 constructor<;>simp only[dU]<;>constructor<;>omega
theorem US (a b:F5) (ha:a.Ok) (hb:b.Ok):(dU (Hj a b)).Ok:=by
 obtain ⟨⟨h0,wP⟩,⟨h1,h1'⟩,⟨h2,h2'⟩,⟨h3,h3'⟩,⟨h4,h4'⟩⟩:=ha
 obtain ⟨⟨k0,Il⟩,⟨k1,Im⟩,⟨k2,Io⟩,⟨k3,Ip⟩,⟨k4,Iq⟩⟩:=hb
 constructor<;>simp only[dU,Hj]<;>constructor<;>omega
theorem UT (a b:F5) (ha:a.Ok) (hb:b.Ok):(dU (Hl a b)).Ok:=by
 obtain ⟨⟨h0,wP⟩,⟨h1,h1'⟩,⟨h2,h2'⟩,⟨h3,h3'⟩,⟨h4,h4'⟩⟩:=ha
 obtain ⟨⟨k0,Il⟩,⟨k1,Im⟩,⟨k2,Io⟩,⟨k3,Ip⟩,⟨k4,Iq⟩⟩:=hb
 constructor<;>simp only[dU,Hl]<;>constructor<;>omega
theorem UU (a b:F5) (ha:a.Ok) (hb:b.Ok):(0≤(kx a b).a0∧(kx a b).a0≤390436384870649408707232269178957)∧(0≤(kx a b).a1∧(kx a b).a1≤299165541654133962515931219241019)∧
  (0≤(kx a b).a2∧(kx a b).a2≤207894698437618516324630169303081)∧(0≤(kx a b).a3∧(kx a b).a3≤116623855221103070133329119365143)∧(0≤(kx a b).a4∧(kx a b).a4≤25353012004587623942028069427205):=by
 obtain ⟨⟨h0,wP⟩,⟨h1,h1'⟩,⟨h2,h2'⟩,⟨h3,h3'⟩,⟨h4,h4'⟩⟩:=ha
 obtain ⟨⟨k0,Il⟩,⟨k1,Im⟩,⟨k2,Io⟩,⟨k3,Ip⟩,⟨k4,Iq⟩⟩:=hb
 have XE:=cw h0 wP k0 Il
 have Zj:=cD h1 h1' k4 Iq
 have Zk:=cD h2 h2' k3 Ip
 have Zl:=cD h3 h3' k2 Io
 have Zm:=cD h4 h4' k1 Im
 have XD:=cw h0 wP k1 Im
 have XC:=cw h1 h1' k0 Il
 have Zn:=cD h2 h2' k4 Iq
 have Zo:=cD h3 h3' k3 Ip
 have Zp:=cD h4 h4' k2 Io
 have Zq:=cw h0 wP k2 Io
 have XB:=cw h1 h1' k1 Im
 have Zr:=cw h2 h2' k0 Il
 have Zs:=cD h3 h3' k4 Iq
 have Zt:=cD h4 h4' k3 Ip
 have Zu:=cw h0 wP k3 Ip
 have Zv:=cw h1 h1' k2 Io
 have Zw:=cw h2 h2' k1 Im
 have Zx:=cw h3 h3' k0 Il
 have Zy:=cD h4 h4' k4 Iq
 have Zz:=cw h0 wP k4 Iq
 have ZA:=cw h1 h1' k3 Ip
 have ZB:=cw h2 h2' k2 Io
 have ZC:=cw h3 h3' k1 Im
 have ZD:=cw h4 h4' k0 Il
 simp only[kx]
 refine ⟨?_, ?_, ?_, ?_, ?_⟩
 ·clear XD XC Zn Zo Zp Zq XB Zr Zs Zt Zu Zv Zw Zx Zy Zz ZA ZB ZC ZD;omega
 ·clear XE Zj Zk Zl Zm Zq XB Zr Zs Zt Zu Zv Zw Zx Zy Zz ZA ZB ZC ZD;omega
 ·clear XE Zj Zk Zl Zm XD XC Zn Zo Zp Zu Zv Zw Zx Zy Zz ZA ZB ZC ZD;omega
 ·clear XE Zj Zk Zl Zm XD XC Zn Zo Zp Zq XB Zr Zs Zt Zz ZA ZB ZC ZD;omega
 ·clear XE Zj Zk Zl Zm XD XC Zn Zo Zp Zq XB Zr Zs Zt Zu Zv Zw Zx Zy;omega
theorem gB (a b:F5) (ha:a.Ok) (hb:b.Ok):(dq a b).Ok:=by
 obtain ⟨⟨h0,wP⟩,⟨h1,h1'⟩,⟨h2,h2'⟩,⟨h3,h3'⟩,⟨h4,h4'⟩⟩:=UU a b ha hb
 simp only[dq]
 generalize kx a b=W at*
 refine Hm _ ⟨?_, ?_, ?_, ?_, ?_⟩ ?_ ?_ ?_ ?_ ?_<;>simp only[]<;>omega
theorem Yd (a b:F5):(kx a b).v=a.v*b.v+PP* -(a.a1*b.a4+a.a2*b.a3+a.a3*b.a2+a.a4*b.a1+2251799813685248*(a.a2*b.a4+a.a3*b.a3+a.a4*b.a2)+5070602400912917605986812821504*(a.a3*b.a4+a.a4*b.a3)+11417981541647679048466287755595961091061972992*(a.a4*b.a4)):=by
 simp only[kx,F5.v,PP]
 grind
theorem cg {x y q:Int} (h:x=y+PP*q):x%PP=y%PP:=by rw[h,Int.add_mul_emod_self_left]
theorem Dp (a b:F5):(dq a b).v%PP=a.v*b.v%PP:=by
 rw[dq,cg (sK _)]
 refine Eq.trans ?_ (cg (Yd a b))
 generalize kx a b=W at*
 refine cg (q:= -(W.a4 / 2251799813685248)) ?_
 simp only[F5.v,PP]
 omega
theorem J4 (a b:F5):(dU (Hj a b)).v%PP=(a.v+b.v)%PP:=by
 rw[cg (sK _)]
 congr 1
 simp only[Hj,F5.v];omega
theorem J5 (a b:F5):(dU (Hl a b)).v%PP=(a.v - b.v)%PP:=by
 rw[cg (sK _)]
 refine cg (q:=2) ?_
 simp only[Hl,F5.v,PP];omega
theorem lB (a:F5) (ha:a.Ok):cO Tryz.prog 41 [Ag a.l] (Ag (dq a a).l):=by
 refine bf Tryz.func41 rfl (by kernel_rfl) (by simp[Tryz.ntmps41]) rfl rfl ?_
 simp only[F5.l,Tryz.results41,vS,seval, -List.reduceReplicate]
 refine (kL a a ha ha).aB ?_
 simp only[F5.l,vS,seval, -List.reduceReplicate]
def F5.one:F5:=⟨1,0,0,0,0⟩
theorem F5.J6:F5.one.Ok:=by
 constructor<;>simp[F5.one]
def iR (a:F5):Nat→F5
 | 0=>F5.one
 | k+1=>if k=252∨k=250 then dq (iR a k) (iR a k) else dq (dq (iR a k) (iR a k)) a
theorem jk (a:F5) (ha:a.Ok): ∀ k,(iR a k).Ok
 | 0=>F5.J6
 | k+1=>by
  simp only[iR]
  split
  ·exact gB _ _ (jk a ha k) (jk a ha k)
  ·exact gB _ _ (gB _ _ (jk a ha k) (jk a ha k)) ha
theorem Hn (a:F5) (ha:a.Ok):cO Tryz.prog 24 [Ag a.l] (Ag (iR a 255).l):=by
 refine bf Tryz.func24 rfl (by kernel_rfl) (by simp[Tryz.ntmps24]) rfl rfl ?_
 simp only[F5.l,Tryz.results24,vS,seval, -List.reduceReplicate]
 refine aQ 255 (fun k=>[(1,Ptr 0 0),(2,Ptr 1 0),(3,Ptr 3 0),(4,I .i64 (254 - k))])
  (fun k=>[(0,⟨true,a.l⟩),(1,⟨true,[Sum.inl (Value.int IntKind.u64 0),Sum.inl (Value.int IntKind.u64 0),Sum.inl (Value.int IntKind.u64 0),Sum.inl (Value.int IntKind.u64 0),Sum.inl (Value.int IntKind.u64 0)]⟩),(3,⟨true,(iR a k).l⟩)]) _ ?_ ?_ ?_
 ·simp only[F5.l,iR,F5.one,vS,seval, -List.reduceReplicate]
 ·intro k hk
  have ht:((254:Int) - k) - 1=254 - ((k+1:Nat):Int):=by omega
  have hw:IntKind.i64.wrap ((254:Int) - k - 1)=254 - ((k+1:Nat):Int):=by rw[wrap_i64 _ (by omega) (by omega)];omega
  simp only[F5.l,vS,seval, -List.reduceReplicate]
  refine aK (by simp;omega) ?_
  simp only[vS,seval, -List.reduceReplicate]
  refine (lB (iR a k) (jk a ha k)).aB ?_
  by_cases h2:k=252
  ·have e2:((254:Int) - k != 2)=false:=by subst h2;rfl
   have hs:iR a (k+1)=dq (iR a k) (iR a k):=by rw[iR,if_pos (Or.inl h2)]
   simp only[F5.l,e2,hw,hs,vS,seval, -List.reduceReplicate]
  ·have e2:((254:Int) - k != 2)=true:=by simp;omega
   by_cases h4:k=250
   ·have e4:((254:Int) - k != 4)=false:=by subst h4;rfl
    have hs:iR a (k+1)=dq (iR a k) (iR a k):=by rw[iR,if_pos (Or.inr h4)]
    simp only[F5.l,e2,e4,hw,hs,vS,seval, -List.reduceReplicate]
   ·have e4:((254:Int) - k != 4)=true:=by simp;omega
    simp only[F5.l,e2,e4,vS,seval, -List.reduceReplicate]
    refine (kL _ a (gB _ _ (jk a ha k) (jk a ha k)) ha).aB ?_
    have hs:iR a (k+1)=dq (dq (iR a k) (iR a k)) a:=by rw[iR,if_neg (by omega)]
    simp only[F5.l,hw,hs,vS,seval, -List.reduceReplicate]
 ·simp only[F5.l,vS,seval, -List.reduceReplicate]
  refine aZ (by simp) ?_
  simp only[vS,seval, -List.reduceReplicate]
theorem iu {α:Type} (x:α):List.replicate 20 x=[x,x,x,x,x,x,x,x,x,x,x,x,x,x,x,x,x,x,x,x]:=rfl
structure R4 where
 x2:F5
 z2:F5
 x3:F5
 z3:F5
def R4.l (r:R4):List SV:=[Sum.inl (.int .u64 r.x2.a0),Sum.inl (.int .u64 r.x2.a1),Sum.inl (.int .u64 r.x2.a2),Sum.inl (.int .u64 r.x2.a3),Sum.inl (.int .u64 r.x2.a4),
 Sum.inl (.int .u64 r.z2.a0),Sum.inl (.int .u64 r.z2.a1),Sum.inl (.int .u64 r.z2.a2),Sum.inl (.int .u64 r.z2.a3),Sum.inl (.int .u64 r.z2.a4),
 Sum.inl (.int .u64 r.x3.a0),Sum.inl (.int .u64 r.x3.a1),Sum.inl (.int .u64 r.x3.a2),Sum.inl (.int .u64 r.x3.a3),Sum.inl (.int .u64 r.x3.a4),
 Sum.inl (.int .u64 r.z3.a0),Sum.inl (.int .u64 r.z3.a1),Sum.inl (.int .u64 r.z3.a2),Sum.inl (.int .u64 r.z3.a3),Sum.inl (.int .u64 r.z3.a4)]
structure R4.Ok (r:R4):Prop where
 x2:r.x2.Ok
 z2:r.z2.Ok
 x3:r.x3.Ok
 z3:r.z3.Ok
def nY (a b:F5):F5:=dU (Hj a b)
def n3 (a b:F5):F5:=dU (Hl a b)
theorem xe (a b:F5) (ha:a.Ok) (hb:b.Ok):cO Tryz.prog 39 [Ag a.l,Ag b.l] (Ag (nY a b).l):=UQ a b ha hb
theorem xg (a b:F5) (ha:a.Ok) (hb:b.Ok):cO Tryz.prog 40 [Ag a.l,Ag b.l] (Ag (n3 a b).l):=UR a b ha hb
theorem zd (a b:F5) (ha:a.Ok) (hb:b.Ok):(nY a b).Ok:=US a b ha hb
theorem ze (a b:F5) (ha:a.Ok) (hb:b.Ok):(n3 a b).Ok:=UT a b ha hb
def F5.c:F5:=⟨121665,0,0,0,0⟩
theorem F5.Ye:F5.c.Ok:=by
 constructor<;>simp[F5.c]
def n5 (r:R4) (u:F5):R4:=
 ⟨dq (dq (nY r.x2 r.z2) (nY r.x2 r.z2)) (dq (n3 r.x2 r.z2) (n3 r.x2 r.z2)),
  dq (n3 (dq (nY r.x2 r.z2) (nY r.x2 r.z2)) (dq (n3 r.x2 r.z2) (n3 r.x2 r.z2)))
  (nY (dq (nY r.x2 r.z2) (nY r.x2 r.z2)) (dq F5.c (n3 (dq (nY r.x2 r.z2) (nY r.x2 r.z2)) (dq (n3 r.x2 r.z2) (n3 r.x2 r.z2))))),
  dq (nY (dq (n3 r.x3 r.z3) (nY r.x2 r.z2)) (dq (nY r.x3 r.z3) (n3 r.x2 r.z2))) (nY (dq (n3 r.x3 r.z3) (nY r.x2 r.z2)) (dq (nY r.x3 r.z3) (n3 r.x2 r.z2))),
  dq u (dq (n3 (dq (n3 r.x3 r.z3) (nY r.x2 r.z2)) (dq (nY r.x3 r.z3) (n3 r.x2 r.z2))) (n3 (dq (n3 r.x3 r.z3) (nY r.x2 r.z2)) (dq (nY r.x3 r.z3) (n3 r.x2 r.z2))))⟩
theorem Ca (r:R4) (u:F5) (hr:r.Ok) (hu:u.Ok):(n5 r u).Ok:=by
 obtain ⟨h1,h2,h3,h4⟩:=hr
 constructor<;>simp only[n5]<;>repeat (first | assumption | exact F5.Ye | apply gB | apply zd | apply ze)
theorem Ho (r:R4) (u:F5) (hr:r.Ok) (hu:u.Ok):cO Tryz.prog 22 [Ag r.l,Ag u.l] (Ag (n5 r u).l):=by
 obtain ⟨h1,h2,h3,h4⟩:=hr
 have hA:=zd _ _ h1 h2
 have hB:=ze _ _ h1 h2
 have hC:=zd _ _ h3 h4
 have hD:=ze _ _ h3 h4
 have hAA:=gB _ _ hA hA
 have hBB:=gB _ _ hB hB
 have hE:=ze _ _ hAA hBB
 have hDA:=gB _ _ hD hA
 have hCB:=gB _ _ hC hB
 have hcE:=gB _ _ F5.Ye hE
 have hs:=zd _ _ hAA hcE
 have hp:=zd _ _ hDA hCB
 have hm:=ze _ _ hDA hCB
 have hmm:=gB _ _ hm hm
 simp only[n5]
 refine bf Tryz.func22 rfl (by kernel_rfl) (by simp[Tryz.ntmps22]) rfl rfl ?_
 simp only[F5.l,R4.l,Tryz.results22,iu,vS,seval, -List.reduceReplicate]
 refine ⟨by kernel_rfl, ?_⟩
 refine cO.draw (xe r.x2 r.z2 h1 h2) Tryz.nL ?_
 generalize nY r.x2 r.z2=A at*
 simp only[F5.l,iu,vS,seval, -List.reduceReplicate]
 refine cO.draw (xg r.x2 r.z2 h1 h2) Tryz.ly ?_
 generalize n3 r.x2 r.z2=B at*
 simp only[F5.l,iu,vS,seval, -List.reduceReplicate]
 refine ⟨by kernel_rfl, ?_⟩
 refine cO.draw (xe r.x3 r.z3 h3 h4) Tryz.nL ?_
 generalize nY r.x3 r.z3=C at*
 simp only[F5.l,iu,vS,seval, -List.reduceReplicate]
 refine cO.draw (xg r.x3 r.z3 h3 h4) Tryz.ly ?_
 generalize n3 r.x3 r.z3=D at*
 simp only[F5.l,iu,vS,seval, -List.reduceReplicate]
 refine ⟨by kernel_rfl, ?_⟩
 refine cO.draw (lB A hA) Tryz.jO ?_
 generalize dq A A=AA at*
 simp only[F5.l,iu,vS,seval, -List.reduceReplicate]
 refine cO.draw (lB B hB) Tryz.jO ?_
 generalize dq B B=BB at*
 simp only[F5.l,iu,vS,seval, -List.reduceReplicate]
 refine (xg AA BB hAA hBB).aB ?_
 generalize n3 AA BB=E at*
 simp only[F5.l,iu,vS,seval, -List.reduceReplicate]
 refine ⟨by kernel_rfl, ?_⟩
 refine cO.draw (kL D A hD hA) Tryz.fV ?_
 generalize dq D A=DA at*
 simp only[F5.l,iu,vS,seval, -List.reduceReplicate]
 refine cO.draw (kL C B hC hB) Tryz.fV ?_
 generalize dq C B=CB at*
 simp only[F5.l,iu,vS,seval, -List.reduceReplicate]
 refine ⟨by kernel_rfl, ?_⟩
 refine cO.draw (kL AA BB hAA hBB) Tryz.fV ?_
 simp only[F5.l,iu,vS,seval, -List.reduceReplicate]
 refine cO.draw (kL F5.c E F5.Ye hE) Tryz.fV ?_
 simp only[F5.l,iu,vS,seval, -List.reduceReplicate]
 refine cO.draw (xe AA _ hAA hcE) Tryz.nL ?_
 generalize nY AA (dq F5.c E)=S at*
 simp only[F5.l,iu,vS,seval, -List.reduceReplicate]
 refine cO.draw (kL E S hE hs) Tryz.fV ?_
 simp only[F5.l,iu,vS,seval, -List.reduceReplicate]
 refine cO.draw (xe DA CB hDA hCB) Tryz.nL ?_
 generalize nY DA CB=Q at*
 simp only[F5.l,iu,vS,seval, -List.reduceReplicate]
 refine cO.draw (lB Q hp) Tryz.jO ?_
 simp only[F5.l,iu,vS,seval, -List.reduceReplicate]
 refine cO.draw (xg DA CB hDA hCB) Tryz.ly ?_
 generalize n3 DA CB=M at*
 simp only[F5.l,iu,vS,seval, -List.reduceReplicate]
 refine cO.draw (lB M hm) Tryz.jO ?_
 generalize dq M M=MM at*
 simp only[F5.l,iu,vS,seval, -List.reduceReplicate]
 refine cO.draw (kL u MM hu hmm) Tryz.fV ?_
 simp only[F5.l,R4.l,iu,vS,seval, -List.reduceReplicate]
end Go.Proofs.YtbipdofobgabhaaGreatDoor
