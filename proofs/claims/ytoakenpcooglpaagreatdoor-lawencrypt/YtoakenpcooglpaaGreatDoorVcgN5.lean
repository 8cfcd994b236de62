/-
  LawEncrypt answers true at every state, every message and every seed and leaves its arguments as they were. Conditions: arguments are plain data; the listed tables and sentinels start as the program's text lays them (tied).
-/
import Derived.Test.YtoakenpcooglpaaGreatDoorVcgJ6
import Derived.Test.YtoakenpcooglpaaGreatDoorVcgRx
import Derived.Test.YtoakenpcooglpaaGreatDoorVcgE1
import Derived.Test.YtoakenpcooglpaaGreatDoorVcgE3
import Derived.Test.YtoakenpcooglpaaGreatDoorVcgPL
import Derived.Test.YtoakenpcooglpaaGreatDoorCards
import Derived.Test.YtoakenpcooglpaaGreatDoorTie
import Derived.SevenTiedAt
set_option linter.unusedVariables false
set_option linter.unusedSimpArgs false
namespace Go.Proofs.YtoakenpcooglpaaGreatDoor
set_option maxHeartbeats 16000000
set_option maxRecDepth 20000
open Go.cA
set_option linter.unusedSectionVars false
variable [aX]
theorem Hy {s:St} {n m o c:Nat} {f:Nat→En} {g seed:Nat→Int} {cs ds:List SV} (h0:aY 0 s.store n f cs) (hp:cs.all SV.plain=true) (hs:iH s) (hf: ∀ i,la (f i)) (hn:n*72≤140737488355328) {vp:AV} (hv:eD 1 vp m g ds) (hq:ds.all SV.plain=true) (hg:bY g) (B7:bY seed):
  mL Tryz.prog 10 [Ag (bO s),vp,Ag (ae .u8 32 seed)] 2 2 (lk [(0,⟨false,cs⟩),(1,⟨false,ds⟩)]) (akb 2 n s f m g seed):=by
 have hok:AV.ok (fun n=>n < 2) vp:=by
  rcases hv with ⟨⟨a,rfl⟩,_⟩ | ⟨o,c,rfl,_⟩
  ·trivial
  ·exact (show 1 < 2 by decide)
 refine jr Tryz.func10 rfl (by kernel_rfl) [23] [] (by simp[Tryz.ntmps10]) Tryz.pS (by decide) (fun y hy=>by
  simp only[List.mem_cons,List.not_mem_nil,or_false]at hy
  rcases hy with rfl | rfl | rfl
  ·exact cO (h0.ok (by decide))
  ·exact hok
  ·exact AV.bH (by simpa[AV.plain,CV.plain] using aw)) nq (rI hp hq) ?_
 have Co: ∀ {box:Nat→Option aW},box 0=some ⟨false,cs⟩→gS box s.store n f:=fun hb=>⟨0,false,cs,hb,hp,h0⟩
 have hl:fB 1 (some [vp])=some (some (I .i64 m),none):=by
  rcases hv with ⟨⟨a,rfl⟩,rfl⟩ | ⟨o,c,rfl,_⟩<;>rfl
 simp only[Tryz.results10,bL,bP,fW,cU,aq,aI,br,bF,bk,cz,bK,bm,aT,bJ,dM,az,aO,aj,ak,Tryz.vr,Value.oneCell',simprocAttr, -List.reduceReplicate]
 refine gS.calls (n:=n) (f:=f) (w:=B (iq s n f)) (Co (by simp only[az,aj,ak,Tryz.vr,Value.oneCell',simprocAttr, -List.reduceReplicate])) rfl (fun v cs hv hp=>by have:=Pq (s:={ s with store:=v }) hv hp (hs.ws v) hf (by omega);rwa [Ox]at this) ?_
 simp only[bL,bP,fW,cU,aq,aI,br,bF,bk,cz,bK,bm,aT,bJ,dM,az,aO,aj,ak,Tryz.vr,Value.oneCell',simprocAttr, -List.reduceReplicate]
 rcases Bool.eq_false_or_eq_true (iq s n f) with hb | hb
 rotate_left 1
 ·simp only[hb,Bool.not_false,bL,bP,fW,cU,aq,aI,br,bF,bk,cz,bK,bm,aT,bJ,dM,az,aO,aj,ak,Tryz.vr,Value.oneCell',simprocAttr, -List.reduceReplicate]
  refine eF (t:=0) (rw:=false) (cs:=cs) (by simp only[az,aj,ak,Tryz.vr,Value.oneCell',simprocAttr, -List.reduceReplicate]) hp h0 (fun h=>absurd rfl h) (fun _=> ?_) (fun h=>absurd rfl h)
  simp only[bL,bP,fW,cU,aq,aI,br,bF,bk,cz,bK,bm,aT,bJ,dM,az,aO,aj,ak,Tryz.vr,Value.oneCell',simprocAttr, -List.reduceReplicate]
  exact Cb (q:=0) (ik rfl rfl) (.inl ⟨0,by simp[iJ,hb], .inl ⟨rfl,rfl,rfl⟩⟩)
 simp only[hb,Bool.not_true,hl,bL,bP,fW,cU,aq,aI,br,bF,bk,cz,bK,bm,aT,bJ,dM,az,aO,aj,ak,Tryz.vr,Value.oneCell',simprocAttr, -List.reduceReplicate]
 refine dC (fun h=> ?_) (fun h=> ?_)
 ·have h':65536 < m:=by have:=of_decide_eq_true h;omega
  simp only[bL,bP,fW,cU,aq,aI,br,bF,bk,cz,bK,bm,aT,bJ,dM,az,aO,aj,ak,Tryz.vr,Value.oneCell',simprocAttr, -List.reduceReplicate]
  refine eF (t:=0) (rw:=false) (cs:=cs) (by simp only[az,aj,ak,Tryz.vr,Value.oneCell',simprocAttr, -List.reduceReplicate]) hp h0 (fun _=>hn) (fun h=>absurd h (by decide)) (fun _ c1 mT g1=> ?_)
  simp only[bL,bP,fW,cU,aq,aI,br,bF,bk,cz,bK,bm,aT,bJ,dM,az,aO,aj,ak,Tryz.vr,Value.oneCell',simprocAttr, -List.reduceReplicate]
  exact jn (sJ (by decide) (by decide) (by simp only[az,aj,ak,Tryz.vr,Value.oneCell',simprocAttr, -List.reduceReplicate]) g1) (fun v out h=> .inl ⟨1,by simp[iJ,hb,h'],h⟩)
 have h1: ¬ 65536 < m:=by have:=of_decide_eq_false h;omega
 simp only[bL,bP,fW,cU,aq,aI,br,bF,bk,cz,bK,bm,aT,bJ,dM,az,aO,aj,ak,Tryz.vr,Value.oneCell',simprocAttr, -List.reduceReplicate]
 rcases Bool.eq_false_or_eq_true s.peer with L8 | L8
 rotate_left 1
 ·have e:(!s.peer)=true:=by rw[L8];rfl
  simp only[e,bL,bP,fW,cU,aq,aI,br,bF,bk,cz,bK,bm,aT,bJ,dM,az,aO,aj,ak,Tryz.vr,Value.oneCell',simprocAttr, -List.reduceReplicate]
  refine eF (t:=0) (rw:=false) (cs:=cs) (by simp only[az,aj,ak,Tryz.vr,Value.oneCell',simprocAttr, -List.reduceReplicate]) hp h0 (fun _=>hn) (fun h=>absurd h (by decide)) (fun _ c1 mT g1=> ?_)
  simp only[bL,bP,fW,cU,aq,aI,br,bF,bk,cz,bK,bm,aT,bJ,dM,az,aO,aj,ak,Tryz.vr,Value.oneCell',simprocAttr, -List.reduceReplicate]
  exact jn (sJ (by decide) (by decide) (by simp only[az,aj,ak,Tryz.vr,Value.oneCell',simprocAttr, -List.reduceReplicate]) g1) (fun v out h=> .inl ⟨2,by simp[iJ,hb,h1,L8],h⟩)
 have e:(!s.peer)=false:=by rw[L8];rfl
 simp only[e,bL,bP,fW,cU,aq,aI,br,bF,bk,cz,bK,bm,aT,bJ,dM,az,aO,aj,ak,Tryz.vr,Value.oneCell',simprocAttr, -List.reduceReplicate]
 rcases Bool.eq_false_or_eq_true s.has with hh | hh
 ·simp only[hh,bL,bP,fW,cU,aq,aI,br,bF,bk,cz,bK,bm,aT,bJ,dM,az,aO,aj,ak,Tryz.vr,Value.oneCell',simprocAttr, -List.reduceReplicate]
  rcases Bool.eq_false_or_eq_true (s.ns==4294967295) with h | h
  ·have h2:s.ns=4294967295:=by simpa using h
   simp only[h,bL,bP,fW,cU,aq,aI,br,bF,bk,cz,bK,bm,aT,bJ,dM,az,aO,aj,ak,Tryz.vr,Value.oneCell',simprocAttr, -List.reduceReplicate]
   refine eF (t:=0) (rw:=false) (cs:=cs) (by simp only[az,aj,ak,Tryz.vr,Value.oneCell',simprocAttr, -List.reduceReplicate]) hp h0 (fun _=>hn) (fun h=>absurd h (by decide)) (fun _ c1 mT g1=> ?_)
   simp only[bL,bP,fW,cU,aq,aI,br,bF,bk,cz,bK,bm,aT,bJ,dM,az,aO,aj,ak,Tryz.vr,Value.oneCell',simprocAttr, -List.reduceReplicate]
   exact jn (sJ (by decide) (by decide) (by simp only[az,aj,ak,Tryz.vr,Value.oneCell',simprocAttr, -List.reduceReplicate]) g1) (fun v out h=> .inl ⟨3,by simp[iJ,hb,h1,L8,hh,h2],h⟩)
  have h2: ¬ s.ns=4294967295:=by simpa using h
  have e2:(!s.has)=false:=by rw[hh];rfl
  have hR:iJ s n f m=none:=by simp[iJ,hb,h1,L8,hh,h2]
  have es:gR s seed=s:=if_pos hh
  simp only[h,hh,Bool.not_true,bL,bP,fW,cU,aq,aI,br,bF,bk,cz,bK,bm,aT,bJ,dM,az,aO,aj,ak,Tryz.vr,Value.oneCell',simprocAttr, -List.reduceReplicate]
  refine eF (t:=0) (rw:=false) (cs:=cs) (by simp only[az,aj,ak,Tryz.vr,Value.oneCell',simprocAttr, -List.reduceReplicate]) hp h0 (fun _=>hn) (fun h=>absurd h (by decide)) (fun _ c1 mT g1=> ?_)
  simp only[e2,bL,bP,fW,cU,aq,aI,br,bF,bk,cz,bK,bm,aT,bJ,dM,az,aO,aj,ak,Tryz.vr,Value.oneCell',simprocAttr, -List.reduceReplicate]
  refine ⟨by decide, ?_⟩
  refine Cc hs.send ?_
  intro c2 kZ p2 k0 k1 l2 hc2
  have m1:(32≤kZ.length)=True:=eq_true (by omega)
  have m2:(32+32≤kZ.length)=True:=eq_true (by omega)
  have m3:(64≤kZ.length)=True:=eq_true l2
  simp only[k0,k1,m1,m2,m3,bL,bP,fW,cU,aq,aI,br,bF,bk,cz,bK,bm,aT,bJ,dM,az,aO,aj,ak,Tryz.vr,Value.oneCell',simprocAttr, -List.reduceReplicate]
  refine iK (by kernel_rfl) [0,1,2,3,5] [4,6] [7] [8] [48,53] [104,105,106,107,109,108,110,12] (by kernel_rfl) (by kernel_rfl) (by kernel_rfl) ?_
  simp only[k0,k1,m1,m2,m3,bL,bP,fW,cU,aq,aI,br,bF,bk,cz,bK,bm,aT,bJ,dM,az,aO,aj,ak,Tryz.vr,Value.oneCell',simprocAttr, -List.reduceReplicate]
  refine pG ?_
  intro c3 tt g3
  simp only[k0,k1,m1,m2,m3,bL,bP,fW,cU,aq,aI,br,bF,bk,cz,bK,bm,aT,bJ,dM,az,aO,aj,ak,Tryz.vr,Value.oneCell',simprocAttr, -List.reduceReplicate]
  refine pI (na:=41) (n:=m) (ad:=Np s.cQ s.pn s.ns) (f:=g) (sH _ _) (wY hs.cQ) hg (.inr ⟨59,0,c3,true,tt,rfl,by simp only[az,aj,ak,Tryz.vr,Value.oneCell',simprocAttr, -List.reduceReplicate],g3.plain,g3.ez⟩) (hv.at (t:=1) (rw:=false) (by simp only[az,aj,ak,Tryz.vr,Value.oneCell',simprocAttr, -List.reduceReplicate]) hq) (by omega) ?_
  intro sv bx hB
  have hcell:cellsOf (some (.inl (.inl sv)))=some [sv]:=by
   rcases hB (fun _=>bx) rfl with ⟨⟨a,e⟩,_⟩ | ⟨t,o,c,rw',ds,e,_⟩
   ·obtain rfl:sv= .inl (.slice a 0 0):=by injection e with e;injection e
    rfl
   ·obtain rfl:sv= .inr (.inr (t,o,m,c)):=by injection e with e;injection e
    rfl
  simp only[k0,k1,m1,m2,m3,bL,bP,fW,cU,aq,aI,br,bF,bk,cz,bK,bm,aT,bJ,dM,az,aO,aj,ak,Tryz.vr,Value.oneCell',simprocAttr, -List.reduceReplicate]
  refine ⟨by decide, ?_⟩
  simp only[hcell,k0,k1,m1,m2,m3,bL,bP,fW,cU,aq,aI,br,bF,bk,cz,bK,bm,aT,bJ,dM,az,aO,aj,ak,Tryz.vr,Value.oneCell',simprocAttr, -List.reduceReplicate]
  refine oh (z:=0) (rw:=false) (cs:=cs) (body:=fz (sN s.send 1) g) (by simp only[az,aj,ak,Tryz.vr,Value.oneCell',simprocAttr, -List.reduceReplicate]) hp (hB _ (by simp only[az,aj,ak,Tryz.vr,Value.oneCell',simprocAttr, -List.reduceReplicate])) (by omega) ?_
  intro c4 Cn g4
  simp only[hcell,k0,k1,m1,m2,m3,bL,bP,fW,cU,aq,aI,br,bF,bk,cz,bK,bm,aT,bJ,dM,az,aO,aj,ak,Tryz.vr,Value.oneCell',simprocAttr, -List.reduceReplicate]
  exact jn (M8 (x:=s) (q:=93) (p:=32) (by decide) (by decide) (by decide) (by simp only[az,aj,ak,Tryz.vr,Value.oneCell',simprocAttr, -List.reduceReplicate]) (by simp only[az,aj,ak,Tryz.vr,Value.oneCell',simprocAttr, -List.reduceReplicate]) g1 g4) (fun v out h=> .inr ⟨hR,by rw[es];exact h⟩)
 ·simp only[hh,Bool.not_false,bL,bP,fW,cU,aq,aI,br,bF,bk,cz,bK,bm,aT,bJ,dM,az,aO,aj,ak,Tryz.vr,Value.oneCell',simprocAttr, -List.reduceReplicate]
  refine dC (fun h=> ?_) (fun h=> ?_)
  ·have h2:s.se=4294967295:=by simpa using h
   simp only[bL,bP,fW,cU,aq,aI,br,bF,bk,cz,bK,bm,aT,bJ,dM,az,aO,aj,ak,Tryz.vr,Value.oneCell',simprocAttr, -List.reduceReplicate]
   refine eF (t:=0) (rw:=false) (cs:=cs) (by simp only[az,aj,ak,Tryz.vr,Value.oneCell',simprocAttr, -List.reduceReplicate]) hp h0 (fun _=>hn) (fun h=>absurd h (by decide)) (fun _ c1 mT g1=> ?_)
   simp only[bL,bP,fW,cU,aq,aI,br,bF,bk,cz,bK,bm,aT,bJ,dM,az,aO,aj,ak,Tryz.vr,Value.oneCell',simprocAttr, -List.reduceReplicate]
   exact jn (sJ (by decide) (by decide) (by simp only[az,aj,ak,Tryz.vr,Value.oneCell',simprocAttr, -List.reduceReplicate]) g1) (fun v out h=> .inl ⟨3,by simp[iJ,hb,h1,L8,hh,h2],h⟩)
  have h2: ¬ s.se=4294967295:=by simpa using h
  have e2:(!s.has)=true:=by rw[hh];rfl
  have hR:iJ s n f m=none:=by simp[iJ,hb,h1,L8,hh,h2]
  have es:gR s seed=kD s seed:=if_neg (by rw[hh];decide)
  have hB0:=Vj hs B7
  have rc:=sn seed s.rU B7 hs.rU
  rw[← same seed s.rU hs.rU]at rc
  simp only[bL,bP,fW,cU,aq,aI,br,bF,bk,cz,bK,bm,aT,bJ,dM,az,aO,aj,ak,Tryz.vr,Value.oneCell',simprocAttr, -List.reduceReplicate]
  refine eF (t:=0) (rw:=false) (cs:=cs) (by simp only[az,aj,ak,Tryz.vr,Value.oneCell',simprocAttr, -List.reduceReplicate]) hp h0 (fun _=>hn) (fun h=>absurd h (by decide)) (fun _ c1 mT g1=> ?_)
  simp only[e2,bL,bP,fW,cU,aq,aI,br,bF,bk,cz,bK,bm,aT,bJ,dM,az,aO,aj,ak,Tryz.vr,Value.oneCell',simprocAttr, -List.reduceReplicate]
  refine .inl ?_
  simp only[bL,bP,fW,cU,aq,aI,br,bF,bk,cz,bK,bm,aT,bJ,dM,az,aO,aj,ak,Tryz.vr,Value.oneCell',simprocAttr, -List.reduceReplicate]
  refine ⟨by kernel_rfl, ?_⟩
  refine rc.draw (by kernel_rfl) ?_
  simp only[bL,bP,fW,cU,aq,aI,br,bF,bk,cz,bK,bm,aT,bJ,dM,az,aO,aj,ak,Tryz.vr,Value.oneCell',simprocAttr, -List.reduceReplicate]
  refine (BH s.root (sg seed s.rU) hs.root (BR seed s.rU)).draw (by kernel_rfl) ?_
  simp only[sf,bL,bP,fW,cU,aq,aI,br,bF,bk,cz,bK,bm,aT,bJ,dM,az,aO,aj,ak,Tryz.vr,Value.oneCell',simprocAttr, -List.reduceReplicate]
  refine (O4 seed B7).aB ?_
  simp only[bL,bP,fW,cU,aq,aI,br,bF,bk,cz,bK,bm,aT,bJ,dM,az,aO,aj,ak,Tryz.vr,Value.oneCell',simprocAttr, -List.reduceReplicate]
  refine ⟨by decide, ?_⟩
  refine Cc hB0.send ?_
  intro c2 kZ p2 k0 k1 l2 hc2
  have m1:(32≤kZ.length)=True:=eq_true (by omega)
  have m2:(32+32≤kZ.length)=True:=eq_true (by omega)
  have m3:(64≤kZ.length)=True:=eq_true l2
  simp only[k0,k1,m1,m2,m3,bL,bP,fW,cU,aq,aI,br,bF,bk,cz,bK,bm,aT,bJ,dM,az,aO,aj,ak,Tryz.vr,Value.oneCell',simprocAttr, -List.reduceReplicate]
  refine iK (by kernel_rfl) [0,1,2,3,5] [4,6] [7] [8] [99,104] [104,105,106,107,109,108,110,12] (by kernel_rfl) (by kernel_rfl) (by kernel_rfl) ?_
  simp only[k0,k1,m1,m2,m3,bL,bP,fW,cU,aq,aI,br,bF,bk,cz,bK,bm,aT,bJ,dM,az,aO,aj,ak,Tryz.vr,Value.oneCell',simprocAttr, -List.reduceReplicate]
  refine pG ?_
  intro c3 tt g3
  simp only[k0,k1,m1,m2,m3,bL,bP,fW,cU,aq,aI,br,bF,bk,cz,bK,bm,aT,bJ,dM,az,aO,aj,ak,Tryz.vr,Value.oneCell',simprocAttr, -List.reduceReplicate]
  refine pI (na:=41) (n:=m) (ad:=Np (kD s seed).cQ (kD s seed).pn (kD s seed).ns) (f:=g) (sH _ _) (wY hB0.cQ) hg (.inr ⟨110,0,c3,true,tt,rfl,by simp only[az,aj,ak,Tryz.vr,Value.oneCell',simprocAttr, -List.reduceReplicate],g3.plain,g3.ez⟩) (hv.at (t:=1) (rw:=false) (by simp only[az,aj,ak,Tryz.vr,Value.oneCell',simprocAttr, -List.reduceReplicate]) hq) (by omega) ?_
  intro sv bx hB
  have hcell:cellsOf (some (.inl (.inl sv)))=some [sv]:=by
   rcases hB (fun _=>bx) rfl with ⟨⟨a,e⟩,_⟩ | ⟨t,o,c,rw',ds,e,_⟩
   ·obtain rfl:sv= .inl (.slice a 0 0):=by injection e with e;injection e
    rfl
   ·obtain rfl:sv= .inr (.inr (t,o,m,c)):=by injection e with e;injection e
    rfl
  simp only[k0,k1,m1,m2,m3,bL,bP,fW,cU,aq,aI,br,bF,bk,cz,bK,bm,aT,bJ,dM,az,aO,aj,ak,Tryz.vr,Value.oneCell',simprocAttr, -List.reduceReplicate]
  refine ⟨by decide, ?_⟩
  simp only[hcell,k0,k1,m1,m2,m3,bL,bP,fW,cU,aq,aI,br,bF,bk,cz,bK,bm,aT,bJ,dM,az,aO,aj,ak,Tryz.vr,Value.oneCell',simprocAttr, -List.reduceReplicate]
  refine oh (z:=0) (rw:=false) (cs:=cs) (body:=fz (sN (kD s seed).send 1) g) (by simp only[az,aj,ak,Tryz.vr,Value.oneCell',simprocAttr, -List.reduceReplicate]) hp (hB _ (by simp only[az,aj,ak,Tryz.vr,Value.oneCell',simprocAttr, -List.reduceReplicate])) (by omega) ?_
  intro c4 Cn g4
  simp only[hcell,k0,k1,m1,m2,m3,bL,bP,fW,cU,aq,aI,br,bF,bk,cz,bK,bm,aT,bJ,dM,az,aO,aj,ak,Tryz.vr,Value.oneCell',simprocAttr, -List.reduceReplicate]
  exact jn (M8 (x:=(kD s seed)) (q:=144) (p:=32) (by decide) (by decide) (by decide) (by simp only[az,aj,ak,Tryz.vr,Value.oneCell',simprocAttr, -List.reduceReplicate]) (by simp only[az,aj,ak,Tryz.vr,Value.oneCell',simprocAttr, -List.reduceReplicate]) g1 g4) (fun v out h=> .inr ⟨hR,by rw[es];exact h⟩)
end Go.Proofs.YtoakenpcooglpaaGreatDoor
namespace Go.Proofs.YtoakenpcooglpaaGreatDoor
set_option maxHeartbeats 8000000
set_option maxRecDepth 20000
open Go.cA
set_option linter.unusedSectionVars false
variable [aX]
theorem M9 {n:Nat} {f:Nat→En} {v:SV} {cs:List SV} (h0:aY 0 v n f cs) (hp:cs.all SV.plain=true) (hn:(n+2)*72≤140737488355328):
  bt Tryz.prog 4 [.inl (.inl v)] 1 (lk [(0,⟨false,cs⟩)]) (ZF 1 n f):=by
 refine aE Tryz.func4 rfl (by kernel_rfl) (by simp[Tryz.ntmps4]) Tryz.tg (fun y hy=>by
  obtain rfl:=List.mem_singleton.1 hy
  exact (h0.ok (by decide)).1) eG (eH hp) ?_
 have hl:=h0.len
 simp only[Tryz.results4,zL0,zEn,Ov,Fq,abH,fK,Tryz.vr,Value.oneCell',simprocAttr, -List.reduceReplicate]
 have g0:df [] 0 0 0 f:=⟨rfl,by decide,rfl,fun i hi=>by omega⟩
 rcases h0 with ⟨⟨a,rfl⟩,rfl⟩ | ⟨o,c,rfl,hc,hs⟩
 ·refine Ft (lM:=72) Tryz.rT Tryz.rS (by simp only[af,Tryz.vr,Value.oneCell',simprocAttr, -List.reduceReplicate]) g0 (by decide) (by decide) ?_
  intro c1 mT g1
  simp only[ZC,LR,ZD,ZE,zEn,Ov,Fq,abH,fK,Tryz.vr,Value.oneCell',simprocAttr, -List.reduceReplicate]
  refine rY (lM:=72) (rw:=true) Tryz.rT Tryz.rS (by simp only[af,Tryz.vr,Value.oneCell',simprocAttr, -List.reduceReplicate]) g1 (by simp only[af,Tryz.vr,Value.oneCell',simprocAttr, -List.reduceReplicate]) (by decide) qU (by omega) (by omega) ?_
  intro c2 kZ g2
  simp only[aeJ,aeK,jU,Tryz.vr,Value.oneCell',simprocAttr, -List.reduceReplicate]
  refine Fu (by decide) (by simp only[af,Tryz.vr,Value.oneCell',simprocAttr, -List.reduceReplicate]) (g2.congr (by omega) (fun i hi=>by rw[if_neg (by omega),mK,if_neg (by omega)]))
 ·refine rY (lM:=72) (rw:=false) Tryz.rT Tryz.rS (by simp only[af,Tryz.vr,Value.oneCell',simprocAttr, -List.reduceReplicate]) g0 (by simp only[af,Tryz.vr,Value.oneCell',simprocAttr, -List.reduceReplicate]) (by decide) hs (by omega) (by omega) ?_
  intro c1 mT g1
  replace g1:df mT 0 n c1 f:=g1.congr (Nat.zero_add n) (fun i hi=>by rw[if_neg (by omega)];rfl)
  simp only[ZC,LR,ZD,ZE,zEn,Ov,Fq,abH,fK,Tryz.vr,Value.oneCell',simprocAttr, -List.reduceReplicate]
  refine rY (lM:=72) (rw:=true) Tryz.rT Tryz.rS (by simp only[af,Tryz.vr,Value.oneCell',simprocAttr, -List.reduceReplicate]) g1 (by simp only[af,Tryz.vr,Value.oneCell',simprocAttr, -List.reduceReplicate]) (by decide) qU (by omega) (by omega) ?_
  intro c2 kZ g2
  simp only[hl,aeJ,aeK,jU,Tryz.vr,Value.oneCell',simprocAttr, -List.reduceReplicate]
  refine Fu (by decide) (by simp only[af,Tryz.vr,Value.oneCell',simprocAttr, -List.reduceReplicate]) (g2.congr (by omega) (fun i hi=>by unfold mK;split<;>rfl))
theorem Wr {x:St} {n m c:Nat} {f:Nat→En} {cs ds:List SV} (hi:aY 1 x.store m f ds) (hp:cs.all SV.plain=true) (hq:ds.all SV.plain=true) (hn:n+2≤c):
  bt Tryz.prog 7 [shV 0 n c,Ag (bO x)] 2 (lk [(0,⟨false,cs⟩),(1,⟨false,ds⟩)]) (fun v out=>v=Ag (bO { x with store:= .inr (.inr (0,0,n,c)) })∧out=fun _=>none):=by
 refine aE Tryz.func7 rfl (by kernel_rfl) (by simp[Tryz.ntmps7]) Tryz.tj (fun y hy=>by
  simp only[List.mem_cons,List.not_mem_nil,or_false]at hy
  rcases hy with rfl | rfl
  ·exact fun z hz=>by
    simp only[Bh,List.mem_cons,List.not_mem_nil,or_false]at hz
    rcases hz with rfl | rfl
    ·exact ⟨show 0 < 2 by decide,rfl⟩
    ·exact ⟨trivial,rfl⟩
  ·exact cO (hi.ok (by decide))) nq (rI hp hq) ?_
 have l1:((n:Int)≤(c:Int))=True:=eq_true (by omega)
 simp only[Tryz.results7,Bh,l1,bl,bL,aq,Tryz.vr,Value.oneCell',simprocAttr, -List.reduceReplicate]
 have hok:AV.ok (fun n=>n < 2) (Ag (bO { x with store:= .inr (.inr (0,0,n,c)) })):=cO ⟨show 0 < 2 by decide,rfl⟩
 have e: ∀ n,mH 2 2 n=n:=fun n=>by unfold mH;split<;>omega
 exact ⟨2,_,fun _=>none,Nat.le_refl _,(gu (k:=2) (fun n _=>e n) hok).symm,AV.bA (fun n hn=>by omega) hok,fun m b h=>(by cases h),rfl,rfl⟩
end Go.Proofs.YtoakenpcooglpaaGreatDoor
namespace Go.Proofs.YtoakenpcooglpaaGreatDoor
set_option maxHeartbeats 8000000
set_option maxRecDepth 20000
open Go.cA
set_option linter.unusedSectionVars false
variable [aX]
theorem oo {s:AS} {nm t u o c n:Nat} {f:Nat→En} {w:SV} {cs ds:List SV} {ra rb:Bool} (hb:s.box t=some ⟨ra,cs⟩) (hp:cs.all SV.plain=true) (hb':s.box u=some ⟨rb,ds⟩) (hq:ds.all SV.plain=true)
  (hc:n≤c) (h0:dw cs o n f) (h1:aY u w n f ds) (hn:n < 4611686018427387904) {ops:Array Oper} {i:Nat} {dst:Option Nat} {K:AS→Prop} (hk:K (s.put dst (some (B true)))):
  mG Tryz.prog ops i nm 30 (some [Sl t o n c, .inl (.inl w)]) dst K s:=by
 rcases h1 with ⟨⟨a,rfl⟩,rfl⟩ | ⟨o',c',rfl,Cm,hs'⟩
 ·refine (nQ (u:= .inr (.inr (0,o,0,c))) (v:= .inl (.slice a 0 0)) (f:=f) (.inr ⟨o,c,rfl,hc,h0⟩) (.inl ⟨⟨a,rfl⟩,rfl⟩) hp hp hn).en (fun _=>t) ?_ rfl rfl (fun M h n _=>h _ (List.Mem.head _)) hk
  refine ⟨fun m b hm=> ?_,fun m m' b b' hm hrw=> ?_,fun m b hm hrw=> ?_,fun m hm=>(by cases hm)⟩
  ·rcases HC hm with ⟨rfl,rfl⟩ | ⟨rfl,rfl⟩<;>exact ⟨_,hb,fun h=>(by cases h),(bj hp _).symm⟩
  ·rcases HC hm with ⟨rfl,rfl⟩ | ⟨rfl,rfl⟩<;>cases hrw
  ·rcases HC hm with ⟨rfl,rfl⟩ | ⟨rfl,rfl⟩<;>cases hrw
 ·refine (nQ (u:= .inr (.inr (0,o,n,c))) (v:= .inr (.inr (1,o',n,c'))) (.inr ⟨o,c,rfl,hc,h0⟩) (.inr ⟨o',c',rfl,Cm,hs'⟩) hp hq hn).en (two t u) (jz hb hp hb' hq) rfl rfl (fun M h n hn=> ?_) hk
  have a:=h (Sl t o _ c) (List.Mem.head _)
  have b:=h _ (List.Mem.tail _ (List.Mem.head _))
  simp only[two];split
  ·exact a
  ·exact b
theorem Na {n c:Nat} {f:Nat→En} {v:SV} {cs ds:List SV} (hg:df cs 0 (n+2) c (mK n f)) (h1:aY 1 v n f ds) (hq:ds.all SV.plain=true) (hn:n < 4611686018427387904):
  bt Tryz.prog 14 [shV 0 n c, .inl (.inl v)] 2 (lk [(0,⟨false,cs⟩),(1,⟨false,ds⟩)]) (fun v out=>v=B true∧out=fun _=>none):=by
 have hp:=hg.plain
 have hr:=hg.room
 refine aE Tryz.func14 rfl (by kernel_rfl) (by simp[Tryz.ntmps14]) Tryz.pV (fun y hy=>by
  simp only[List.mem_cons,List.not_mem_nil,or_false]at hy
  rcases hy with rfl | rfl
  ·exact fun z hz=>by
    simp only[Bh,List.mem_cons,List.not_mem_nil,or_false]at hz
    rcases hz with rfl | rfl
    ·exact ⟨show 0 < 2 by decide,rfl⟩
    ·exact ⟨trivial,rfl⟩
  ·exact (h1.ok (by decide)).1) nq (rI hp hq) ?_
 have l1:((n:Int)≤(c:Int))=True:=eq_true (by omega)
 have l2:((n:Int)≤((n+2:Nat):Int))=True:=eq_true (by omega)
 have l3:(((n+2:Nat):Int)≤(c:Int))=True:=eq_true (by omega)
 have l4:(if c=n then 0 else n*66)=n*66:=by rw[if_neg (by omega)]
 have l5:n+2 - n=2:=by omega
 simp only[Tryz.results14,Bh,l1,bl,Tryz.vr,Value.oneCell',simprocAttr, -List.reduceReplicate]
 refine ⟨by kernel_rfl, ?_⟩
 refine oo (t:=0) (u:=1) (ra:=false) (rb:=false) (f:=f) (by simp only[af,Tryz.vr,Value.oneCell',simprocAttr, -List.reduceReplicate]) hp (by simp only[af,Tryz.vr,Value.oneCell',simprocAttr, -List.reduceReplicate]) hq (by omega) (nT hg) h1 hn ?_
 simp only[Bh,l1,l2,l3,l4,l5,bl,mk2,Tryz.vr,Value.oneCell',simprocAttr, -List.reduceReplicate]
 refine oo (t:=0) (u:=17) (ra:=false) (rb:=true) (f:=fun _=>qS) (by simp only[af,Tryz.vr,Value.oneCell',simprocAttr, -List.reduceReplicate]) hp (by simp only[af,Tryz.vr,Value.oneCell',simprocAttr, -List.reduceReplicate]) Oy (by omega) (OA hg) (.inr ⟨0,2,rfl,Nat.le_refl 2,qU⟩) (by decide) ?_
 simp only[Tryz.vr,Value.oneCell',simprocAttr, -List.reduceReplicate]
 exact aC rfl ⟨rfl,rfl⟩
theorem acE {n c:Nat} {f:Nat→En} {cs:List SV} (hg:df cs 0 n c f) (hn:n < 4611686018427387904):
  bt Tryz.prog 12 [Sl 0 0 n c] 1 (lk [(0,⟨true,cs⟩)]) (fun v out=>v= .inr []∧ ∃ ds,ds.all SV.plain=true∧out=lk [(0,⟨true,ds⟩)]):=by
 have hp:=hg.plain
 have hr:=hg.room
 have hlen:=hg.len
 refine aE Tryz.func12 rfl (by kernel_rfl) (by simp[Tryz.ntmps12]) Tryz.pU (by simp[AV.ok,CV.ok,SV.names]) eG (eH hp) ?_
 simp only[Tryz.results12,Tryz.vr,Value.oneCell',simprocAttr, -List.reduceReplicate]
 refine ZB n (fun k t=> ∃ ds g,ds.length=cs.length∧ds.all SV.plain=true∧dw ds 0 n g∧t=ou [(0,Sl 0 0 n c),(4,I .i64 n),(5,I .i64 k)] [(0,⟨true,ds⟩)] 10) ?_ ?_ ?_ ?_
 ·rintro k t ⟨ds,g,_,_,_,rfl⟩;exact Nat.le_of_ble_eq_true rfl
 ·refine ⟨_,⟨cs,f,rfl,hp,hg.ez,rfl⟩,_,ga.dv ⟨ajl ⟨rfl,show 0 < 10 by decide⟩ ⟨rfl,trivial⟩ ⟨rfl,trivial⟩,abG ⟨rfl,show 0 < 10 by decide,aJ hp⟩⟩,fun _ _=>rfl⟩
 ·rintro j t hj ⟨ds,g,hl,hd,hs,rfl⟩
  have q1:=hs.num hj
  have b1:=hs.lt hj
  simp only[fE,Tryz.vr,Value.oneCell',simprocAttr, -List.reduceReplicate]
  refine aD (by simp;omega) ?_
  rw[Nat.zero_add]at q1
  have e0:(0+j*66)=j*66:=Nat.zero_add _
  rw[e0]at b1
  simp only[bl,dO hj,q1,bD j (by omega),Tryz.vr,Value.oneCell',simprocAttr, -List.reduceReplicate]
  have hd2:(splice ds (j*66+1) [Sum.inl (Value.int .u32 (IntKind.u32.wrap ((g j).n+1)))]).all SV.plain=true:=GV hd rfl
  exact ⟨by omega,_,⟨_,_,by rw[LS (by omega)];exact hl,hd2,age hs hj,rfl⟩,_,ga.dv ⟨ajl ⟨rfl,show 0 < 10 by decide⟩ ⟨rfl,trivial⟩ ⟨rfl,trivial⟩,abG ⟨rfl,show 0 < 10 by decide,aJ hd2⟩⟩,fun _ _=>rfl⟩
 ·rintro t ⟨ds,g,hl,hd,hs,rfl⟩
  simp only[fE,Tryz.vr,Value.oneCell',simprocAttr, -List.reduceReplicate]
  refine aH (by simp) ?_
  simp only[Tryz.vr,Value.oneCell',simprocAttr, -List.reduceReplicate]
  exact sX (cs:=ds) (by decide) rfl (by simp only[Tryz.vr,Value.oneCell',simprocAttr, -List.reduceReplicate]) hd ⟨rfl,ds,hd,rfl⟩
end Go.Proofs.YtoakenpcooglpaaGreatDoor
namespace Go.Proofs.YtoakenpcooglpaaGreatDoor
set_option maxHeartbeats 8000000
set_option maxRecDepth 20000
open Go.cA
set_option linter.unusedSectionVars false
variable [aX]
section
variable {s:AS} {nm:Nat} {dst:Option Nat} {K:AS→Prop}
theorem Ce {t n:Nat} {f:Nat→En} {v:SV} {rw:Bool} {cs:List SV} (hb:s.box t=some ⟨rw,cs⟩) (hp:cs.all SV.plain=true) (hi:aY t v n f cs) (hn:(n+2)*72≤140737488355328)
  (hk: ∀ c ds,df ds 0 (n+2) c (mK n f)→K ((⟨s.env,upd s.box nm (some ⟨true,ds⟩),s.next⟩:AS).put dst (some (shV nm n c)))):aB Tryz.prog nm 4 (some [.inl (.inl v)]) dst K s:=by
 obtain ⟨v0,g0,e0⟩:=hi.name (k:=0)
 exact Oz (M9 g0 hp hn) hb hp (by simp only[List.map_cons,List.map_nil,AV.bh,CV.bh,e0 (fun _=>t) rfl]) hk
theorem Cf {t u n:Nat} {x:St} {f:Nat→En} {v w:SV} {ra rb:Bool} {cs ds:List SV} (hb:s.box t=some ⟨ra,cs⟩) (hp:cs.all SV.plain=true) (hb':s.box u=some ⟨rb,ds⟩) (hq:ds.all SV.plain=true) (h0:aY t v n f cs) (h1:aY u w n f ds) (hn:n < 4611686018427387904)
  (hk:K (s.put dst (some (B true)))):aB Tryz.prog nm 20 (some [Ag (bO { x with store:=v }),Ag (bO { x with store:=w })]) dst K s:=by
 obtain ⟨v0,g0,e0⟩:=h0.name (k:=0)
 obtain ⟨w0,g1,e1⟩:=h1.name (k:=1)
 refine (LP (x:=x) g0 g1 hp hq hn).dV (two t u) (jz hb hp hb' hq) rfl ?_ hk
 simp only[List.map_cons,List.map_nil,gX,e0 (two t u) rfl,e1 (two t u) rfl]
theorem Cg {t u n c:Nat} {f:Nat→En} {v:SV} {ra rb:Bool} {cs ds:List SV} (hb:s.box t=some ⟨ra,cs⟩) (hg:df cs 0 (n+2) c (mK n f)) (hb':s.box u=some ⟨rb,ds⟩) (hq:ds.all SV.plain=true) (h1:aY u v n f ds) (hn:n < 4611686018427387904)
  (hk:K (s.put dst (some (B true)))):aB Tryz.prog nm 14 (some [shV t n c, .inl (.inl v)]) dst K s:=by
 obtain ⟨v0,g0,e0⟩:=h1.name (k:=1)
 refine (Na hg g0 hq hn).dV (two t u) (jz hb hg.plain hb' hq) rfl ?_ hk
 simp only[List.map_cons,List.map_nil,AV.bh,CV.bh,e0 (two t u) rfl]
 rfl
theorem Pr {t n c:Nat} {f:Nat→En} {cs:List SV} (hb:s.box t=some ⟨true,cs⟩) (hg:df cs 0 n c f) (hn:n < 4611686018427387904)
  (hk: ∀ ds,ds.all SV.plain=true→K ((⟨s.env,upd s.box t (some ⟨true,ds⟩),s.next⟩:AS).put dst (some (.inr [])))):aB Tryz.prog nm 12 (some [Sl t 0 n c]) dst K s:=by
 refine (acE hg hn).aB (fun _=>t) (some 0) (Gr hb hg.plain) rfl ?_
 rintro v out ⟨rfl,ds,hd,rfl⟩ _
 have e:after s (fun _=>t) 1 nm (some 0) (lk [(0,⟨true,ds⟩)])=upd s.box t (some ⟨true,ds⟩):=by
  simp[after,lk,aW.bh,bj hd]
 rw[e];exact hk ds hd
end
theorem acF:cB Tryz.prog 12 [V (.slice none 0 0)] (.inr []):=by
 refine aK Tryz.func12 rfl (by kernel_rfl) (by simp[Tryz.ntmps12]) rfl rfl ?_
 simp only[Tryz.results12,Tryz.vr,Value.oneCell',simprocAttr, -List.reduceReplicate]
 refine aG 0 (fun k=>[(4,I .i64 0),(5,I .i64 k)]) (fun k=>[]) _ ?_ ?_ ?_
 ·simp only[Tryz.vr,Value.oneCell',simprocAttr, -List.reduceReplicate]
 ·intro j hj;omega
 ·simp only[Tryz.vr,Value.oneCell',simprocAttr, -List.reduceReplicate]
  refine aH (by simp) ?_
  simp only[Tryz.vr,Value.oneCell',simprocAttr, -List.reduceReplicate]
theorem CO {s:AS} {nm t n c:Nat} {f:Nat→Int} {cs:List SV} (hb:s.box t=some ⟨true,cs⟩) (hg:bR cs 0 n c f) (hn:n < 4611686018427387904) {dst:Option Nat} {K:AS→Prop}
  (hk: ∀ ds,ds.all SV.plain=true→K ((⟨s.env,upd s.box t (some ⟨true,ds⟩),s.next⟩:AS).put dst (some (.inr [])))):aB Tryz.prog nm 11 (some [Sl t 0 n c]) dst K s:=by
 obtain ⟨c2,tail,h1,h2,h3,h4,h5⟩:=hg.made (k:=t)
 obtain rfl:c=c2:=by cases h1;rfl
 have e:cs=ae .u8 n f++tail:=by
  have:=congrFun h2 t
  simpa[lk] using this
 subst e
 refine (Ph (o:=0) (c:=c) h5 hn rfl).aB (fun _=>t) (some 0) (Gr hb hg.plain) rfl ?_
 rintro v out ⟨rfl,rfl⟩ _
 have e2:after s (fun _=>t) 1 nm (some 0) (lk [(0,⟨true,ae .u8 n (fun i=>aS .xor .u8 (f i) 165)++tail⟩)])=upd s.box t (some ⟨true,ae .u8 n (fun i=>aS .xor .u8 (f i) 165)++tail⟩):=by
  simp[after,lk,aW.bh,bj (cH (n:=n) (f:=fun i=>aS .xor .u8 (f i) 165) h5)]
 rw[e2];exact hk _ (cH h5)
def four (a b c d:Nat) (n:Nat):Nat:=if n=0 then a else if n=1 then b else if n=2 then c else d
theorem lk4 {b0 b1 b2 b3 b':aW} {n:Nat} (h:lk [(0,b0),(1,b1),(2,b2),(3,b3)] n=some b'):(n=0∧b'=b0)∨(n=1∧b'=b1)∨(n=2∧b'=b2)∨(n=3∧b'=b3):=by
 simp only[lk]at h
 (repeat' split at h)<;>simp_all
theorem akh {s:AS} {a b c d:Nat} {r0 r1 r2 r3:Bool} {c0 c1 c2 c3:List SV} (h0:s.box a=some ⟨r0,c0⟩) (p0:c0.all SV.plain=true) (h1:s.box b=some ⟨r1,c1⟩) (p1:c1.all SV.plain=true) (h2:s.box c=some ⟨r2,c2⟩) (p2:c2.all SV.plain=true) (h3:s.box d=some ⟨r3,c3⟩) (p3:c3.all SV.plain=true):
  Fits s (four a b c d) (lk [(0,⟨false,c0⟩),(1,⟨false,c1⟩),(2,⟨false,c2⟩),(3,⟨false,c3⟩)]) none:=by
 refine ⟨fun n b hb=> ?_,fun n n' b b' hb hrw=> ?_,fun n b hb hrw=> ?_,fun n h=>(by cases h)⟩
 ·rcases lk4 hb with ⟨rfl,rfl⟩ | ⟨rfl,rfl⟩ | ⟨rfl,rfl⟩ | ⟨rfl,rfl⟩
  ·exact ⟨_,h0,fun h=>(by cases h),(bj p0 _).symm⟩
  ·exact ⟨_,h1,fun h=>(by cases h),(bj p1 _).symm⟩
  ·exact ⟨_,h2,fun h=>(by cases h),(bj p2 _).symm⟩
  ·exact ⟨_,h3,fun h=>(by cases h),(bj p3 _).symm⟩
 ·rcases lk4 hb with ⟨rfl,rfl⟩ | ⟨rfl,rfl⟩ | ⟨rfl,rfl⟩ | ⟨rfl,rfl⟩<;>cases hrw
 ·rcases lk4 hb with ⟨rfl,rfl⟩ | ⟨rfl,rfl⟩ | ⟨rfl,rfl⟩ | ⟨rfl,rfl⟩<;>cases hrw
theorem Ps {x:St} {n m:Nat} {y ep nn:Int} {f:Nat→En} {G:Nat→Int} {u v o1 o2:SV} {c0 c1 c2 c3:List SV} (h0:aY 0 u n f c0) (h1:aY 1 v n f c1) (h2:eD 2 (.inl (.inl o1)) m G c2) (h3:eD 3 (.inl (.inl o2)) m G c3)
  (p0:c0.all SV.plain=true) (p1:c1.all SV.plain=true) (p2:c2.all SV.plain=true) (p3:c3.all SV.plain=true) (hn:n < 4611686018427387904) (hm:m < 4611686018427387904):
  bt Tryz.prog 9 [Ag (dD y { x with store:=u } o1 ep nn),Ag (dD y { x with store:=v } o2 ep nn)] 4 (lk [(0,⟨false,c0⟩),(1,⟨false,c1⟩),(2,⟨false,c2⟩),(3,⟨false,c3⟩)]) (fun v out=>v=B true∧out=fun _=>none):=by
 have VW: ∀ {t:Nat} {w:SV} {cs:List SV},t < 4→eD t (.inl (.inl w)) m G cs→SV.ok (fun n=>n < 4) w:=fun ht h=>sy h ht
 refine aE Tryz.func9 rfl (by kernel_rfl) (by simp[Tryz.ntmps9]) Tryz.tq (fun z hz=>by
  simp only[List.mem_cons,List.not_mem_nil,or_false]at hz
  rcases hz with rfl | rfl
  ·exact v9 (h0.ok (show 0 < 4 by decide)) (VW (by decide) h2)
  ·exact v9 (h1.ok (show 1 < 4 by decide)) (VW (by decide) h3)) (fun n hn=>by
  have:n=0∨n=1∨n=2∨n=3:=by omega
  rcases this with rfl | rfl | rfl | rfl<;>exact ⟨_,rfl⟩) (fun n b hb=>by
  rcases lk4 hb with ⟨rfl,rfl⟩ | ⟨rfl,rfl⟩ | ⟨rfl,rfl⟩ | ⟨rfl,rfl⟩
  ·exact ⟨by decide,aJ p0⟩
  ·exact ⟨by decide,aJ p1⟩
  ·exact ⟨by decide,aJ p2⟩
  ·exact ⟨by decide,aJ p3⟩) ?_
 simp only[Tryz.results9,beq_self_eq_true,aI,aq,Tryz.vr,Value.oneCell',simprocAttr, -List.reduceReplicate]
 refine Wi hm (h2.at (t:=2) (rw:=false) (by simp only[af,Tryz.vr,Value.oneCell',simprocAttr, -List.reduceReplicate]) p2) (h3.at (t:=3) (rw:=false) (by simp only[af,Tryz.vr,Value.oneCell',simprocAttr, -List.reduceReplicate]) p3) ?_
 simp only[beq_self_eq_true,aI,aq,Tryz.vr,Value.oneCell',simprocAttr, -List.reduceReplicate]
 refine Cf (t:=0) (u:=1) (ra:=false) (rb:=false) (x:=x) (by simp only[af,Tryz.vr,Value.oneCell',simprocAttr, -List.reduceReplicate]) p0 (by simp only[af,Tryz.vr,Value.oneCell',simprocAttr, -List.reduceReplicate]) p1 h0 h1 hn ?_
 simp only[beq_self_eq_true,aI,aq,Tryz.vr,Value.oneCell',simprocAttr, -List.reduceReplicate]
 exact aC rfl ⟨rfl,rfl⟩
end Go.Proofs.YtoakenpcooglpaaGreatDoor
namespace Go.Proofs.YtoakenpcooglpaaGreatDoor
open Go.cA
set_option linter.unusedSectionVars false
variable [aX]
structure Ans where
 y:Int
 x:St
 ep:Int
 nn:Int
 n:Nat
 m:Nat
 G:Nat→Int
def lL (s:St) (n:Nat) (f:Nat→En) (m:Nat) (g seed:Nat→Int):Ans:=match iJ s n f m with
 | some i=>if i=0 then ⟨1,stZ,0,0,0,0,fun _=>0⟩ else ⟨pw i,s,0,0,n,0,fun _=>0⟩
 | none=>⟨0,lg (gR s seed),(gR s seed).se,(gR s seed).ns,n,45+m+32,Wo (gR s seed) m g⟩
def sK (q n:Nat) (f:Nat→En) (sv:SV) (bx:Option aW):Prop:=
 (n=0∧sv= .inl (.slice none 0 0)∧bx=none)∨ ∃ c cs,sv= .inr (.inr (q,0,n,c))∧df cs 0 n c f∧bx=some ⟨true,cs⟩
def wo (q m:Nat) (G:Nat→Int) (o:SV) (bx:Option aW):Prop:=
 (m=0∧o= .inl (.slice none 0 0)∧bx=none)∨ ∃ c cs,o= .inr (.inr (q,0,m,c))∧bR cs 0 m c G∧bx=some ⟨true,cs⟩
def ag3 (k:Nat) (A:Ans) (f:Nat→En) (v:AV) (out:Nat→Option aW):Prop:=
 ∃ sv o,v=Ag (dD A.y { A.x with store:=sv } o A.ep A.nn)∧sK k A.n f sv (out k)∧wo (k+1) A.m A.G o (out (k+1))
theorem ag4 {q n:Nat} {f:Nat→En} {sv:SV} {bx:Option aW} (h:il q n f sv bx):sK q n f sv bx:=by
 rcases h with h | ⟨_,c,cs,h⟩
 ·exact .inl h
 ·exact .inr ⟨c,cs,h⟩
theorem acG {s:St} {v:SV} {n m:Nat} {f:Nat→En}:iJ { s with store:=v } n f m=iJ s n f m:=by unfold iJ;rw[Ox]
theorem aaX {s:St} {v:SV} {seed:Nat→Int}:gR { s with store:=v } seed={ gR s seed with store:=v }:=by unfold gR;dsimp only;split<;>rfl
theorem aaY {k n m:Nat} {s:St} {w:SV} {f:Nat→En} {g seed:Nat→Int} {v:AV} {out:Nat→Option aW} (h:ag0 k n { s with store:=w } f m g seed v out):ag3 k (lL s n f m g seed) f v out:=by
 unfold ag0 at h
 rw[acG,aaX]at h
 rcases h with ⟨i,hi,⟨h0,rfl,rfl⟩ | ⟨h0,sv,rfl,hK⟩⟩ | ⟨hi,sv,bx,c,cs,rfl,hK,hG,rfl⟩
 ·refine ⟨.inl (.slice none 0 0), .inl (.slice none 0 0), ?_, ?_, ?_⟩<;>simp only[lL,hi,h0,if_true]
  ·rfl
  ·exact .inl ⟨rfl,rfl,rfl⟩
  ·exact .inl ⟨rfl,rfl,rfl⟩
 ·refine ⟨sv, .inl (.slice none 0 0), ?_, ?_, ?_⟩<;>simp only[lL,hi,h0,if_false]
  ·rcases hK with ⟨h1,h2,rfl⟩ | ⟨h1,c,cs,h2,hg,rfl⟩
   ·exact .inl ⟨h1,h2,rfl⟩
   ·exact .inr ⟨c,cs,h2,hg,by simp[lk]⟩
  ·rcases hK with ⟨h1,h2,rfl⟩ | ⟨h1,c,cs,h2,hg,rfl⟩
   ·exact .inl ⟨rfl,rfl,rfl⟩
   ·exact .inl ⟨rfl,rfl,by simp[lk]⟩
 ·refine ⟨sv, .inr (.inr (k+1,0,45+m+32,c)), ?_, ?_, ?_⟩<;>simp only[lL,hi]
  ·rfl
  ·rw[if_pos trivial];exact ag4 hK
  ·rw[if_neg (by omega),if_pos trivial];exact .inr ⟨c,cs,rfl,hG,rfl⟩
theorem aaZ {k n m:Nat} {s:St} {f:Nat→En} {g seed:Nat→Int} {v:AV} {out:Nat→Option aW} (h:akb k n s f m g seed v out):ag3 k (lL s n f m g seed) f v out:=by
 rcases h with ⟨i,hi,h⟩ | ⟨hi,c,cs,c',cs',rfl,hK,hG,rfl⟩
 ·by_cases h0:i=0
  ·subst h0
   rcases h with ⟨_,rfl,rfl⟩ | ⟨h1,_⟩
   ·refine ⟨.inl (.slice none 0 0), .inl (.slice none 0 0), ?_, ?_, ?_⟩<;>simp only[lL,hi,if_true]
    ·rfl
    ·exact .inl ⟨rfl,rfl,rfl⟩
    ·exact .inl ⟨rfl,rfl,rfl⟩
   ·exact absurd rfl h1
  ·have hc:pw i≠1:=by
    have:=Um hi
    have:i=1∨i=2∨i=3:=by omega
    rcases this with rfl | rfl | rfl<;>decide
   rcases h with ⟨h1,_⟩ | ⟨_,c,cs,rfl,hg,rfl⟩
   ·exact absurd h1 hc
   ·refine ⟨.inr (.inr (k,0,n,c)), .inl (.slice none 0 0), ?_, ?_, ?_⟩<;>simp only[lL,hi,h0,if_false]
    ·exact .inr ⟨c,cs,rfl,hg,by simp[lk]⟩
    ·exact .inl ⟨rfl,rfl,by simp[lk]⟩
 ·refine ⟨.inr (.inr (k,0,n,c)), .inr (.inr (k+1,0,45+m+32,c')), ?_, ?_, ?_⟩<;>simp only[lL,hi]
  ·rw[if_pos trivial];exact .inr ⟨c,cs,rfl,hK,rfl⟩
  ·rw[if_neg (by omega),if_pos trivial];exact .inr ⟨c',cs',rfl,hG,rfl⟩
theorem Ws {p q n:Nat} {f:Nat→En} {sv:SV} {bx:Option aW} {r:Nat→Nat} (h:sK p n f sv bx) (hr:r p=q):sK q n f (SV.bh r sv) (bx.map (aW.bh r)):=by
 rcases h with ⟨h0,rfl,rfl⟩ | ⟨c,cs,rfl,hg,rfl⟩
 ·exact .inl ⟨h0,rfl,rfl⟩
 ·exact .inr ⟨c,cs,by simp only[SV.bh,hr],hg,ek hg.plain⟩
theorem Wt {p q m:Nat} {G:Nat→Int} {o:SV} {bx:Option aW} {r:Nat→Nat} (h:wo p m G o bx) (hr:r p=q):wo q m G (SV.bh r o) (bx.map (aW.bh r)):=by
 rcases h with ⟨h0,rfl,rfl⟩ | ⟨c,cs,rfl,hg,rfl⟩
 ·exact .inl ⟨h0,rfl,rfl⟩
 ·exact .inr ⟨c,cs,by simp only[SV.bh,hr],hg,ek hg.plain⟩
theorem F9 {s:AS} {nm fn:Nat} {A:Ans} {f:Nat→En} {args l:List AV} {ins:Nat→Option aW} {Post:AV→(Nat→Option aW)→Prop} (h:mL Tryz.prog fn args 2 2 ins Post) (hP: ∀ v out,Post v out→ag3 2 A f v out) (r:Nat→Nat) (hfit:Fits s r ins none) (hl:l=args.map (AV.bh r)) {dst:Option Nat} {K:AS→Prop}
  (hk: ∀ sv bx o bo,sK nm A.n f sv bx→wo (nm+1) A.m A.G o bo→K ((⟨s.env,upd (upd s.box nm bx) (nm+1) bo,s.next⟩:AS).put dst (some (Ag (dD A.y { A.x with store:=sv } o A.ep A.nn))))):bZ Tryz.prog nm fn (some l) dst K s:=by
 refine h.aB r none hfit hl fun v out hv=> ?_
 obtain ⟨sv,o,rfl,hS,hO⟩:=hP v out hv
 rw[Bw,kz]
 exact hk _ _ _ _ (Ws hS js) (Wt hO Bv)
theorem Nb {s:AS} {q z n:Nat} {f:Nat→En} {sv:SV} {bx:Option aW} {rw:Bool} {cs:List SV} (hK:sK q n f sv bx) (hb:s.box q=bx) (hf:s.box z=some ⟨rw,cs⟩) (hp:cs.all SV.plain=true):
  ∃ u rw' ds,s.box u=some ⟨rw',ds⟩∧ds.all SV.plain=true∧aY u sv n f ds:=by
 rcases hK with ⟨h0,rfl,rfl⟩ | ⟨c,ds,rfl,hg,rfl⟩
 ·exact ⟨z,rw,cs,hf,hp, .inl ⟨⟨none,rfl⟩,h0⟩⟩
 ·exact ⟨q,true,ds,hb,hg.plain, .inr ⟨0,c,rfl,hg.room,hg.ez⟩⟩
theorem Nc {s:AS} {q z m:Nat} {G:Nat→Int} {o:SV} {bx:Option aW} {rw:Bool} {cs:List SV} (hK:wo q m G o bx) (hb:s.box q=bx) (hf:s.box z=some ⟨rw,cs⟩) (hp:cs.all SV.plain=true):
  ∃ u rw' ds,s.box u=some ⟨rw',ds⟩∧ds.all SV.plain=true∧eD u (.inl (.inl o)) m G ds:=by
 rcases hK with ⟨h0,rfl,rfl⟩ | ⟨c,ds,rfl,hg,rfl⟩
 ·exact ⟨z,rw,cs,hf,hp, .inl ⟨⟨none,rfl⟩,h0⟩⟩
 ·exact ⟨q,true,ds,hb,hg.plain, .inr ⟨0,c,rfl,hg.ez⟩⟩
theorem Ch {t k n:Nat} {sv:SV} {f:Nat→Int} {cs:List SV} (h:eD t (.inl (.inl sv)) n f cs): ∃ Hh,eD k (.inl (.inl Hh)) n f cs∧ ∀ r:Nat→Nat,r k=t→SV.bh r Hh=sv:=by
 rcases h with ⟨⟨a,e⟩,h0⟩ | ⟨o,c,e,hs⟩
 ·obtain rfl:sv= .inl (.slice a 0 0):=by injection e with e;injection e
  exact ⟨.inl (.slice a 0 0), .inl ⟨⟨a,rfl⟩,h0⟩,fun r hr=>rfl⟩
 ·obtain rfl:sv= .inr (.inr (t,o,n,c)):=by injection e with e;injection e
  exact ⟨.inr (.inr (k,o,n,c)), .inr ⟨o,c,rfl,hs⟩,fun r hr=>by simp only[SV.bh,hr]⟩
theorem Ci {s:AS} {nm q q' z:Nat} {A:Ans} {f:Nat→En} {sv wA o o':SV} {bx bo bx' bo':Option aW} {rw:Bool} {cs:List SV} (hS:sK q A.n f sv bx) (hO:wo (q+1) A.m A.G o bo) (hS':sK q' A.n f wA bx') (hO':wo (q'+1) A.m A.G o' bo')
  (b1:s.box q=bx) (b2:s.box (q+1)=bo) (b3:s.box q'=bx') (b4:s.box (q'+1)=bo') (hf:s.box z=some ⟨rw,cs⟩) (hp:cs.all SV.plain=true) (hn:A.n < 4611686018427387904) (hm:A.m < 4611686018427387904) {dst:Option Nat} {K:AS→Prop}
  (hk:K ((⟨s.env,upd s.box nm none,s.next⟩:AS).put dst (some (B true)))):
  bZ Tryz.prog nm 9 (some [Ag (dD A.y { A.x with store:=sv } o A.ep A.nn),Ag (dD A.y { A.x with store:=wA } o' A.ep A.nn)]) dst K s:=by
 obtain ⟨u0,r0,c0,e0,p0,i0⟩:=Nb hS b1 hf hp
 obtain ⟨u1,r1,c1,e1,p1,i1⟩:=Nb hS' b3 hf hp
 obtain ⟨u2,r2,c2,e2,p2,i2⟩:=Nc hO b2 hf hp
 obtain ⟨u3,r3,c3,e3,p3,i3⟩:=Nc hO' b4 hf hp
 obtain ⟨w0,g0,n0⟩:=i0.name (k:=0)
 obtain ⟨w1,g1,n1⟩:=i1.name (k:=1)
 obtain ⟨w2,g2,n2⟩:=Ch (k:=2) i2
 obtain ⟨w3,g3,n3⟩:=Ch (k:=3) i3
 refine (Ps (x:=A.x) (y:=A.y) (ep:=A.ep) (nn:=A.nn) g0 g1 g2 g3 p0 p1 p2 p3 hn hm).abV (four u0 u1 u2 u3) (akh e0 p0 e1 p1 e2 p2 e3 p3) rfl ?_ hk
 have x0:SV.bh (four u0 u1 u2 u3) w0=sv:=n0 _ rfl
 have x1:SV.bh (four u0 u1 u2 u3) w1=wA:=n1 _ rfl
 have x2:SV.bh (four u0 u1 u2 u3) w2=o:=n2 _ rfl
 have x3:SV.bh (four u0 u1 u2 u3) w3=o':=n3 _ rfl
 simp only[List.map_cons,List.map_nil,kz,x0,x1,x2,x3]
theorem Nd {s:AS} {q:Nat} (h:s.box q=none):upd s.box q none=s.box:=funext fun t=>by
 unfold upd;split
 ·rename_i e;subst e;exact h.symm
 ·rfl
theorem Pt {s:AS} {nm q m:Nat} {G:Nat→Int} {o:SV} {bo:Option aW} (hO:wo q m G o bo) (hb:s.box q=bo) (hm:m < 4611686018427387904) {dst:Option Nat} {K:AS→Prop}
  (hk: ∀ b2,K ((⟨s.env,upd s.box q b2,s.next⟩:AS).put dst (some (.inr [])))):aB Tryz.prog nm 11 (some [.inl (.inl o)]) dst K s:=by
 rcases hO with ⟨h0,rfl,rfl⟩ | ⟨c,cs,rfl,hg,rfl⟩
 ·refine Pj.aB ?_
  have:=hk none
  rwa [Nd hb]at this
 ·exact CO hb hg hm fun ds _=>hk _
theorem acH {s:AS} {nm q n:Nat} {f:Nat→En} {sv:SV} {bx:Option aW} (hS:sK q n f sv bx) (hb:s.box q=bx) (hn:n < 4611686018427387904) {dst:Option Nat} {K:AS→Prop}
  (hk: ∀ b2,K ((⟨s.env,upd s.box q b2,s.next⟩:AS).put dst (some (.inr [])))):aB Tryz.prog nm 12 (some [.inl (.inl sv)]) dst K s:=by
 rcases hS with ⟨h0,rfl,rfl⟩ | ⟨c,cs,rfl,hg,rfl⟩
 ·refine acF.aB ?_
  have:=hk none
  rwa [Nd hb]at this
 ·exact Pr hb hg hn fun ds _=>hk _
end Go.Proofs.YtoakenpcooglpaaGreatDoor
namespace Go.Proofs.YtoakenpcooglpaaGreatDoor
set_option maxHeartbeats 16000000
set_option maxRecDepth 20000
open Go.cA
set_option linter.unusedSectionVars false
variable [aX]
theorem CP {s:AS} {nm t u n m c:Nat} {x:St} {f:Nat→En} {ra rb:Bool} {cs ds:List SV} (hb:s.box t=some ⟨ra,cs⟩) (hp:cs.all SV.plain=true) (hb':s.box u=some ⟨rb,ds⟩) (hq:ds.all SV.plain=true) (hi:aY u x.store m f ds) (hn:n+2≤c) {dst:Option Nat} {K:AS→Prop}
  (hk:K ((⟨s.env,upd s.box nm none,s.next⟩:AS).put dst (some (Ag (bO { x with store:= .inr (.inr (t,0,n,c)) }))))):bZ Tryz.prog nm 7 (some [Ag [Sum.inr (.inr (t,0,n+2,c)),Sum.inl (.int .i64 n)],Ag (bO x)]) dst K s:=by
 obtain ⟨v0,g0,e0⟩:=hi.name (k:=1)
 refine (Wr (x:={ x with store:=v0 }) g0 hp hq hn).bZ (two t u) (jz hb hp hb' hq) ?_ ?_
 ·simp only[List.map_cons,List.map_nil,gX,e0 (two t u) rfl]
  rfl
 ·rintro v out ⟨rfl,rfl⟩
  have e2:AV.bh (dt (two t u) 2 nm) (Ag (bO { x with store:= .inr (.inr (0,0,n,c)) }))=Ag (bO { x with store:= .inr (.inr (t,0,n,c)) }):=by rw[gX];rfl
  rw[e2];exact hk
theorem Pu {s:AS} {nm t n c:Nat} {rw:Bool} {cs:List SV} (hn:n+64≤c) (hb:s.box t=some ⟨rw,cs⟩) (hp:cs.all SV.plain=true) {dst:Option Nat} {K:AS→Prop} (hk:K ((⟨s.env,upd s.box nm none,s.next⟩:AS).put dst (some (Sl t 0 n c)))):
  bZ Tryz.prog nm 8 (some [Ag [Sum.inr (.inr (t,0,n+64,c)),Sum.inl (.int .i64 n)]]) dst K s:=by
 refine (agO hn hp).bZ (fun _=>t) (dp hb hp) rfl ?_
 rintro v out ⟨rfl,rfl⟩
 exact hk
def st0 (s:St) (seed:Nat→Int) (cs ds:List SV) (vp:AV):AS:=ou [(1,vp),(3,Ptr 2 0),(5,Ptr 3 0)] [(0,⟨false,cs⟩),(1,⟨false,ds⟩),(2,⟨false,bO s⟩),(3,⟨false,ae .u8 32 seed⟩)] 6
noncomputable def afo:Code:=match Tryz.f3.body with
 | some c=>kR 1 c
 | none=> .skip
theorem ame {s:St} {n m:Nat} {f:Nat→En} {g seed:Nat→Int} (hn:n < 4611686018427387904) (hm:m < 4611686018427387000):(lL s n f m g seed).n < 4611686018427387904∧(lL s n f m g seed).m < 4611686018427387904:=by
 unfold lL
 split
 ·split
  ·exact ⟨by decide,by decide⟩
  ·exact ⟨hn,by show 0 < 4611686018427387904;decide⟩
 ·exact ⟨hn,by show 45+m+32 < 4611686018427387904;omega⟩
theorem ag5 {s:St} {n m:Nat} {f:Nat→En} {g seed:Nat→Int} {vp:AV} {cs ds:List SV} (hp:cs.all SV.plain=true) (hq:ds.all SV.plain=true) (hv:aY 0 s.store n f cs) (hr:eD 1 vp m g ds)
  (hs:iH s) (hf: ∀ i,la (f i)) (hg:bY g) (B7:bY seed) (hn:(n+2)*72≤140737488355328) (hL:m+64≤140737488355328) (k:Nat) (hk:k≤2):
  VP Tryz.prog [3,4] k [] afo (kY Tryz.prog Tryz.f3.results.toList (Ct k (fun v out=>v=B true∧out=fun _=>none))) (st0 s seed cs ds vp):=by
 obtain ⟨an,am⟩:=ame (s:=s) (n:=n) (m:=m) (f:=f) (g:=g) (seed:=seed) (by omega) (by omega)
 simp only[afo,Tryz.f3,gk,gj,st0]
 simp only[fE,bL,bP,fW,cU,Bh,jU,eO,sF,aq,aI,az,aO,aj,ak,Tryz.vr,Value.oneCell',simprocAttr, -List.reduceReplicate]
 refine Ce (t:=0) (rw:=false) (f:=f) (by simp only[az,aj,ak,Tryz.vr,Value.oneCell',simprocAttr, -List.reduceReplicate]) hp hv hn ?_
 intro c1 es gx
 have hr1:=gx.room
 simp only[bL,bP,fW,cU,Bh,jU,eO,sF,aq,aI,az,aO,aj,ak,Tryz.vr,Value.oneCell',simprocAttr, -List.reduceReplicate]
 refine acz (t:=1) (rw:=false) (by simp only[az,aj,ak,Tryz.vr,Value.oneCell',simprocAttr, -List.reduceReplicate]) hq hr hL ?_
 intro c2 pA g1 g2 g3
 simp only[bL,bP,fW,cU,Bh,jU,eO,sF,aq,aI,az,aO,aj,ak,Tryz.vr,Value.oneCell',simprocAttr, -List.reduceReplicate]
 refine iK (by kernel_rfl) [0,1,3,5] [2,4,6] [7] [8] [9,13] [15,16,18,20,17,19,21,9] (by kernel_rfl) (by kernel_rfl) (by kernel_rfl) ?_
 simp only[bL,bP,fW,cU,Bh,jU,eO,sF,aq,aI,az,aO,aj,ak,Tryz.vr,Value.oneCell',simprocAttr, -List.reduceReplicate]
 refine CP (t:=8) (u:=0) (m:=n) (f:=f) (ra:=true) (rb:=false) (cs:=es) (ds:=cs) (by simp only[az,aj,ak,Tryz.vr,Value.oneCell',simprocAttr, -List.reduceReplicate]) gx.plain (by simp only[az,aj,ak,Tryz.vr,Value.oneCell',simprocAttr, -List.reduceReplicate]) hp hv hr1 ?_
 simp only[bL,bP,fW,cU,Bh,jU,eO,sF,aq,aI,az,aO,aj,ak,Tryz.vr,Value.oneCell',simprocAttr, -List.reduceReplicate]
 refine Pu (t:=12) (rw:=true) (cs:=ae .u8 m g++(ae .u8 64 (fun _=>0)++pA)) g1 (by simp only[az,aj,ak,Tryz.vr,Value.oneCell',simprocAttr, -List.reduceReplicate]) (iP g3) ?_
 simp only[bL,bP,fW,cU,Bh,jU,eO,sF,aq,aI,az,aO,aj,ak,Tryz.vr,Value.oneCell',simprocAttr, -List.reduceReplicate]
 have iE:aY 8 (.inr (.inr (8,0,n,c1))) n f es:= .inr ⟨0,c1,rfl,by omega,nT gx⟩
 have iE0:aY 0 (.inr (.inr (0,0,n,c1))) n f es:= .inr ⟨0,c1,rfl,by omega,nT gx⟩
 refine F9 (A:=lL s n f m g seed) (CL (s:={ s with store:= .inr (.inr (0,0,n,c1)) }) (o:=0) (c:=c2) (m:=m) (g:=g) (seed:=seed) (f:=f) (cs:=es) (ds:=ae .u8 m g++(ae .u8 64 (fun _=>0)++pA)) iE0 gx.plain (hs.ws _) hf (by omega) cV (iP g3) hg B7) (fun v out h=>aaY h) (two 8 12)
  (jz (rw:=true) (rw':=true) (by simp only[az,aj,ak,Tryz.vr,Value.oneCell',simprocAttr, -List.reduceReplicate]) gx.plain (by simp only[az,aj,ak,Tryz.vr,Value.oneCell',simprocAttr, -List.reduceReplicate]) (iP g3)) ?_ ?_
 ·have e1:AV.bh (two 8 12) (Ag (ae .u8 32 seed))=Ag (ae .u8 32 seed):=AV.cw (by simpa[AV.plain,CV.plain] using aw) _
  simp only[List.map_cons,List.map_nil,gX,e1];rfl
 intro sv bx o bo hS hO
 simp only[bL,bP,fW,cU,Bh,jU,eO,sF,aq,aI,az,aO,aj,ak,Tryz.vr,Value.oneCell',simprocAttr, -List.reduceReplicate]
 refine iK (by kernel_rfl) [0,1,2,3] [4,5] [] [6] [31] [22,23,24,25,26,27,28] (by kernel_rfl) (by kernel_rfl) (by kernel_rfl) ?_
 simp only[bL,bP,fW,cU,Bh,jU,eO,sF,aq,aI,az,aO,aj,ak,Tryz.vr,Value.oneCell',simprocAttr, -List.reduceReplicate]
 refine F9 (A:=lL s n f m g seed) (Hy (o:=0) (c:=0) (vp:=vp) (m:=m) (g:=g) (seed:=seed) (f:=f) hv hp hs hf (by omega) hr hq hg B7) (fun v out h=>aaZ h) (two 0 1)
  (jz (rw:=false) (rw':=false) (by simp only[az,aj,ak,Tryz.vr,Value.oneCell',simprocAttr, -List.reduceReplicate]) hp (by simp only[az,aj,ak,Tryz.vr,Value.oneCell',simprocAttr, -List.reduceReplicate]) hq) ?_ ?_
 ·have e1:AV.bh (two 0 1) (Ag (ae .u8 32 seed))=Ag (ae .u8 32 seed):=AV.cw (by simpa[AV.plain,CV.plain] using aw) _
  have e2:SV.bh (two 0 1) s.store=s.store:=hv.bh rfl
  have e3:AV.bh (two 0 1) vp=vp:=by
   rcases hr with ⟨⟨a,rfl⟩,_⟩ | ⟨o,c,rfl,_⟩<;>rfl
  simp only[List.map_cons,List.map_nil,gX,e1,e2,e3]
 intro wA bx' o' bo' hS' hO'
 simp only[bL,bP,fW,cU,Bh,jU,eO,sF,aq,aI,az,aO,aj,ak,Tryz.vr,Value.oneCell',simprocAttr, -List.reduceReplicate]
 refine Ci (q:=27) (q':=43) (z:=0) (rw:=false) (cs:=cs) hS hO hS' hO' (by simp only[az,aj,ak,Tryz.vr,Value.oneCell',simprocAttr, -List.reduceReplicate]) (by simp only[az,aj,ak,Tryz.vr,Value.oneCell',simprocAttr, -List.reduceReplicate]) (by simp only[az,aj,ak,Tryz.vr,Value.oneCell',simprocAttr, -List.reduceReplicate]) (by simp only[az,aj,ak,Tryz.vr,Value.oneCell',simprocAttr, -List.reduceReplicate]) (by simp only[az,aj,ak,Tryz.vr,Value.oneCell',simprocAttr, -List.reduceReplicate]) hp an am ?_
 simp only[Bool.not_true,bL,bP,fW,cU,Bh,jU,eO,sF,aq,aI,az,aO,aj,ak,Tryz.vr,Value.oneCell',simprocAttr, -List.reduceReplicate]
 refine Pt (q:=28) hO (by simp only[az,aj,ak,Tryz.vr,Value.oneCell',simprocAttr, -List.reduceReplicate]) am ?_
 intro b1
 simp only[bL,bP,fW,cU,Bh,jU,eO,sF,aq,aI,az,aO,aj,ak,Tryz.vr,Value.oneCell',simprocAttr, -List.reduceReplicate]
 refine acH (q:=27) hS (by simp only[az,aj,ak,Tryz.vr,Value.oneCell',simprocAttr, -List.reduceReplicate]) an ?_
 intro b2
 simp only[bL,bP,fW,cU,Bh,jU,eO,sF,aq,aI,az,aO,aj,ak,Tryz.vr,Value.oneCell',simprocAttr, -List.reduceReplicate]
 refine acA (u:=12) (t:=1) (rw:=true) (rw':=false) (f:=g) (tail:=pA) (cs:=ds) (by simp only[az,aj,ak,Tryz.vr,Value.oneCell',simprocAttr, -List.reduceReplicate]) g3 g1 (by simp only[az,aj,ak,Tryz.vr,Value.oneCell',simprocAttr, -List.reduceReplicate]) hq hr (by omega) ?_
 simp only[bL,bP,fW,cU,Bh,jU,eO,sF,aq,aI,az,aO,aj,ak,Tryz.vr,Value.oneCell',simprocAttr, -List.reduceReplicate]
 refine Cg (t:=8) (u:=0) (ra:=true) (rb:=false) (cs:=es) (ds:=cs) (by simp only[az,aj,ak,Tryz.vr,Value.oneCell',simprocAttr, -List.reduceReplicate]) gx (by simp only[az,aj,ak,Tryz.vr,Value.oneCell',simprocAttr, -List.reduceReplicate]) hp hv (by omega) ?_
 simp only[bL,bP,fW,cU,Bh,jU,eO,sF,aq,aI,az,aO,aj,ak,Tryz.vr,Value.oneCell',simprocAttr, -List.reduceReplicate]
 exact aC rfl ⟨rfl,rfl⟩
end Go.Proofs.YtoakenpcooglpaaGreatDoor
namespace Go.Proofs.YtoakenpcooglpaaGreatDoor
set_option maxHeartbeats 8000000
set_option maxRecDepth 20000
open Go.cA
set_option linter.unusedSectionVars false
variable [aX]
theorem Vl {s:St} {n L k:Nat} {f:Nat→En} {raw seed:Nat→Int} {wA:SV} {vr vr':AV} {cs ds:List SV} {ins:Nat→Option aW} (hk:k≤2) (r:Nat→Nat) (Zp: ∀ j,j < k→r j=j) (hall: ∀ n,n < k→ ∃ b,ins n=some b) (j6: ∀ n b,ins n=some b→n < k∧ ∀ x ∈ b.cells,SV.ok (fun n=>n < k) x)
  (hsv:SV.bh r s.store=wA) (hvr:AV.bh r vr=vr') (h2:r 2=k) (h3:r 3=k+1) (fy:SV.ok (fun n=>n < k) wA) (iU:AV.ok (fun n=>n < k) vr')
  (h0: ∃ b',upd (upd ins k (some ⟨true,bO { s with store:=wA }⟩)) (k+1) (some ⟨true,ae .u8 32 seed⟩) (r 0)=some b'∧b'.cells=cs) (h1: ∃ b',upd (upd ins k (some ⟨true,bO { s with store:=wA }⟩)) (k+1) (some ⟨true,ae .u8 32 seed⟩) (r 1)=some b'∧b'.cells=ds)
  (hp:cs.all SV.plain=true) (hq:ds.all SV.plain=true) (hv:aY 0 s.store n f cs) (hr:eD 1 vr L raw ds)
  (hs:iH s) (hf: ∀ i,la (f i)) (Pv:bY raw) (B7:bY seed) (hn:(n+2)*72≤140737488355328) (hL:L+64≤140737488355328):
  bt Tryz.prog 3 [Ag (bO { s with store:=wA }),vr',Ag (ae .u8 32 seed)] k ins (fun v out=>v=B true∧out=fun _=>none):=by
 refine j9 Tryz.func3 rfl (by kernel_rfl) [3,4] [1] (by simp[Tryz.ntmps3]) Tryz.tf (fun u hu=>by
  simp only[List.mem_cons,List.not_mem_nil,or_false]at hu
  rcases hu with rfl | rfl | rfl
  ·exact cO fy
  ·exact iU
  ·exact AV.bH (by simpa[AV.plain,CV.plain] using aw)) hall j6 ?_
 refine ⟨fun s2=>s2=st0 s seed cs ds vr, ?_,fun s2 h=> ?_⟩
 ·simp only[Tryz.results3,aq,az,aO,aj,ak,Tryz.vr,Value.oneCell',simprocAttr, -List.reduceReplicate]
  refine ⟨_, ?_, ?_,rfl⟩
  ·refine Zq r Zp ?_ ?_ (fun x hx hrw=> ?_)
   ·intro x hx
    simp only[List.mem_cons,List.not_mem_nil,or_false]at hx
    rcases hx with rfl | rfl | rfl
    ·exact ⟨by rw[hvr];rfl,hr.ok (by decide)⟩
    ·exact ⟨by rw[iT,h2];rfl,show (2:Nat) < 6 by decide⟩
    ·exact ⟨by rw[iT,h3];rfl,show (3:Nat) < 6 by decide⟩
   ·intro x hx
    simp only[List.mem_cons,List.not_mem_nil,or_false]at hx
    rcases hx with rfl | rfl | rfl | rfl
    ·obtain ⟨b',e1,e2⟩:=h0
     exact ⟨⟨b',e1,fun h=>(by cases h),by rw[e2];exact (bj hp _).symm⟩,show (0:Nat) < 6 by decide,aJ hp⟩
    ·obtain ⟨b',e1,e2⟩:=h1
     exact ⟨⟨b',e1,fun h=>(by cases h),by rw[e2];exact (bj hq _).symm⟩,show (1:Nat) < 6 by decide,aJ hq⟩
    ·exact ⟨⟨⟨true,bO { s with store:=wA }⟩,by show upd (upd ins k _) (k+1) _ (r 2)=_;rw[h2,bg _ _ _ _ (by omega)];exact ax _ _ _,fun h=>(by cases h),by rw[j7,hsv]⟩,show (2:Nat) < 6 by decide,cO (hv.ok (by decide))⟩
    ·exact ⟨⟨⟨true,ae .u8 32 seed⟩,by show upd (upd ins k _) (k+1) _ (r 3)=_;rw[h3];exact ax _ _ _,fun h=>(by cases h),(bj aw _).symm⟩,show (3:Nat) < 6 by decide,aJ aw⟩
   ·simp only[List.mem_cons,List.not_mem_nil,or_false]at hx
    rcases hx with rfl | rfl | rfl | rfl<;>cases hrw
  ·show k≤6;omega
 ·subst h
  exact ag5 hp hq hv hr hs hf Pv B7 hn hL k hk
section
variable {s:St} {n L:Nat} {f:Nat→En} {raw seed:Nat→Int} (hs:iH s) (hf: ∀ i,la (f i)) (Pv:bY raw) (B7:bY seed)
include hs hf Pv B7
theorem ag6 {o c o' c':Nat} {cs ds:List SV} (hp:cs.all SV.plain=true) (hq:ds.all SV.plain=true) (hsh:dw cs o n f) (hc0:n≤c) (hs':bE ds o' L raw) (hn:(n+2)*72≤140737488355328) (hL:L+64≤140737488355328):
  bt Tryz.prog 3 [Ag (bO { s with store:= .inr (.inr (0,o,n,c)) }),Sl 1 o' L c',Ag (ae .u8 32 seed)] 2 (lk [(0,⟨false,cs⟩),(1,⟨false,ds⟩)]) (fun v out=>v=B true∧out=fun _=>none):=
 Vl (s:={ s with store:= .inr (.inr (0,o,n,c)) }) (wA:= .inr (.inr (0,o,n,c))) (Nat.le_refl 2) (fun n=>n) (fun _ _=>rfl) nq (rI hp hq) (vr:=Sl 1 o' L c') rfl rfl rfl rfl ⟨show (0:Nat) < 2 by decide,rfl⟩ (show (1:Nat) < 2 by decide) ⟨_,rfl,rfl⟩ ⟨_,rfl,rfl⟩ hp hq (.inr ⟨o,c,rfl,hc0,hsh⟩) (.inr ⟨o',c',rfl,hs'⟩) (hs.ws _) hf Pv B7 hn hL
theorem ag7 {o c:Nat} {a:Option Addr} {cs:List SV} (hp:cs.all SV.plain=true) (hsh:dw cs o n f) (hc0:n≤c) (hn:(n+2)*72≤140737488355328):
  bt Tryz.prog 3 [Ag (bO { s with store:= .inr (.inr (0,o,n,c)) }),V (.slice a 0 0),Ag (ae .u8 32 seed)] 1 (lk [(0,⟨false,cs⟩)]) (fun v out=>v=B true∧out=fun _=>none):=
 Vl (s:={ s with store:= .inr (.inr (0,o,n,c)) }) (wA:= .inr (.inr (0,o,n,c))) (L:=0) (by decide) (fun n=>n - 1) (fun j hj=>by show j - 1=j;omega) eG (eH hp) (vr:=V (.slice a 0 0)) rfl rfl rfl rfl ⟨show (0:Nat) < 1 by decide,rfl⟩ trivial ⟨_,rfl,rfl⟩ ⟨_,rfl,rfl⟩ hp hp (.inr ⟨o,c,rfl,hc0,hsh⟩) (.inl ⟨⟨a,rfl⟩,rfl⟩) (hs.ws _) hf Pv B7 hn (by decide)
theorem ag8 {o c:Nat} {a:Option Addr} {ds:List SV} (hp:ds.all SV.plain=true) (hs':bE ds o L raw) (hL:L+64≤140737488355328):
  bt Tryz.prog 3 [Ag (bO { s with store:= .inl (.slice a 0 0) }),Sl 0 o L c,Ag (ae .u8 32 seed)] 1 (lk [(0,⟨false,ds⟩)]) (fun v out=>v=B true∧out=fun _=>none):=
 Vl (s:={ s with store:= .inl (.slice a 0 0) }) (wA:= .inl (.slice a 0 0)) (n:=0) (by decide) (fun n=>n - 1) (fun j hj=>by show j - 1=j;omega) eG (eH hp) (vr:=Sl 1 o L c) rfl rfl rfl rfl (SV.bH rfl) (show (0:Nat) < 1 by decide) ⟨_,rfl,rfl⟩ ⟨_,rfl,rfl⟩ hp hp (.inl ⟨⟨a,rfl⟩,rfl⟩) (.inr ⟨o,c,rfl,hs'⟩) (hs.ws _) hf Pv B7 (by decide) hL
theorem ag9 {a a':Option Addr}:
  bt Tryz.prog 3 [Ag (bO { s with store:= .inl (.slice a 0 0) }),V (.slice a' 0 0),Ag (ae .u8 32 seed)] 0 (fun _=>none) (fun v out=>v=B true∧out=fun _=>none):=
 Vl (s:={ s with store:= .inl (.slice a 0 0) }) (wA:= .inl (.slice a 0 0)) (n:=0) (L:=0) (by decide) (fun n=>n - 2) (fun j hj=>by omega) xQ xR (vr:=V (.slice a' 0 0)) rfl rfl rfl rfl (SV.bH rfl) trivial ⟨_,rfl,rfl⟩ ⟨_,rfl,rfl⟩ (tu rfl) (tu rfl) (.inl ⟨⟨a,rfl⟩,rfl⟩) (.inl ⟨⟨a',rfl⟩,rfl⟩) (hs.ws _) hf Pv B7 (by decide) (by decide)
end
end Go.Proofs.YtoakenpcooglpaaGreatDoor
namespace Go.Proofs.YtoakenpcooglpaaGreatDoor.lawEncryptDone
set_option maxRecDepth 100000
open Go.ChangeShapes Go.WideShapes Go.ChangeAt Go.RowKit
open Go.cA
theorem own:ownKnob Tryz.prog.godebug=none:=by kernel_rfl
theorem laidOut:laidOutB Tryz.prog=true:=by kernel_rfl
theorem aha:Tryz.prog.bytesOf 5=1:=by kernel_rfl
theorem Ga:Tryz.prog.cellsOf 5=1:=by kernel_rfl
theorem iR:Tryz.prog.cellsOf 23=32:=by kernel_rfl
theorem ahP:Tryz.prog.cellsOf 28=1:=by kernel_rfl
theorem tJ:Tryz.prog.cellsOf 4=1:=by kernel_rfl
theorem Nf:Tryz.prog.cellsOf 3=1:=by kernel_rfl
theorem Pw:Tryz.prog.cellsOf 25=1:=by kernel_rfl
theorem Cj:Tryz.prog.cellsOf 47=66:=by kernel_rfl
theorem Px:Tryz.prog.cellsOf 27=203:=by kernel_rfl
theorem acI:Tryz.prog.bytesOf 47=72:=by kernel_rfl
def Py (w:World) (v:Value) (n:Nat) (f:Nat→Int):Prop:=
 (∃ a,v= .slice a 0 0∧n=0)∨ ∃ b o c,v= .slice (some ⟨b,o,none⟩) n c∧b < w.heap.size∧n≤c∧ ∀ i,i < n→w.cell? ⟨b,o+i,none⟩=some (.int .u8 (f i))
def bytesOf (cs:List Value) (i:Nat):Int:=match cs[i]? with
 | some (.int _ x)=>x
 | _=>0
theorem ahb (cs:List Value) (hl:cs.length=32) (h: ∀ i,i < 32→ ∃ x,cs[i]? =some (.int .u8 x)∧0≤x∧x < 256):bY (bytesOf cs)∧cs=(List.range 32).map fun i=> .int .u8 (bytesOf cs i):=by
 refine ⟨fun i=> ?_, ?_⟩
 ·by_cases hi:i < 32
  ·obtain ⟨x,hx,h0,h1⟩:=h i hi
   simp only[bytesOf,hx];exact ⟨h0,h1⟩
  ·rw[bytesOf,List.getElem?_eq_none (by omega)];simp
 ·apply List.ext_getElem?
  intro i
  by_cases hi:i < 32
  ·obtain ⟨x,hx,_⟩:=h i hi
   rw[List.getElem?_map,List.getElem?_range hi,hx]
   simp only[Option.map_some,bytesOf,hx]
  ·rw[List.getElem?_eq_none (show cs.length≤i by omega),List.getElem?_eq_none (by rw[List.length_map,List.length_range];omega)]
theorem jI {H:Type} {enc:TypeId×Value→H} {W:World} {fuel:Nat} {l:List Value} {x:DataW H×List MemPlace}
  (hf:DataW.trod enc Tryz.prog W 0 (fun _=>true) true fuel 23 l=some x) (hl:l.length=32): ∃ K,bY K∧l=(List.range 32).map fun i=> .int .u8 (K i):=by
 obtain ⟨xs,m,rfl,hx,hlen,hxl,hel⟩:=DataW.trod_array Tryz.underlying23 hf
 have hrow: ∀ i,i < 32→ ∃ x,l[i]? =some (.int .u8 x)∧0≤x∧x < 256:=by
  intro i hi
  have he:=hel i hi
  rw[Ga,Nat.mul_one]at he
  have hxi:i < xs.length:=by omega
  rw[List.getElem?_eq_getElem hxi]at he
  obtain ⟨n,hc,_,hw⟩:=DataW.trod_int Tryz.underlying5 he
  have hb:=bounds_u8 hw
  refine ⟨n, ?_,hb.1,by omega⟩
  have:((l.drop i).take 1)[0]? =some (.int .u8 n):=by rw[hc];rfl
  rw[List.getElem?_take_of_lt (by decide),List.getElem?_drop]at this
  simpa using this
 obtain ⟨hb,he⟩:=ahb l hl hrow
 exact ⟨bytesOf l,hb,he⟩
theorem Wu {H:Type} {enc:TypeId×Value→H} {W:World} {fuel:Nat} {cs:List Value} {d:DataW H} {p:List MemPlace} (hfu:DataW.trod enc Tryz.prog W 0 (fun _=>true) true fuel 28 cs=some (d,p))
  (hw: ∀ l r,d= .slice l r→(l.length+r.length)*1≤reachBytes): ∃ v n f,cs=[v]∧bY f∧n+64≤140737488355328∧Py W v n f:=by
 rcases open_ints Tryz.underlying28 Tryz.underlying5 (by kernel_rfl) hfu with ⟨hcs,_⟩ | ⟨x,len,cap,zs,hcs,_,hl,hm,hz,hd,hcell,hwz⟩
 ·exact ⟨_,0,fun _=>0,hcs,fun _=>⟨by simp,by simp⟩,by decide, .inl ⟨none,rfl,rfl⟩⟩
 ·simp only[if_true]at hz
  have hd2:d= .slice (lits .u8 (zs.take len)) (lits .u8 (zs.drop len)):=by
   have:=congrArg Prod.fst hd
   simpa using this
  have hw2:=hw _ _ hd2
  simp only[lits,List.length_map,List.length_take,List.length_drop,reachBytes]at hw2
  have hb: ∀ i,0≤zs.getD i 0∧zs.getD i 0 < 256:=fun i=>by
   by_cases hi:i < zs.length
   ·have hmz:zs.getD i 0 ∈ zs:=by
     rw[List.getD_eq_getElem?_getD,List.getElem?_eq_getElem hi];exact List.getElem_mem hi
    have:=bounds_u8 (hwz _ hmz)
    exact ⟨this.1,by omega⟩
   ·rw[List.getD_eq_getElem?_getD,List.getElem?_eq_none (by omega)];decide
  refine ⟨_,len,fun i=>zs.getD i 0,hcs,hb,by omega, ?_⟩
  by_cases hc0:cap=0
  ·subst hc0
   obtain rfl:len=0:=by omega
   exact .inl ⟨_,rfl,rfl⟩
  ·obtain ⟨b,off,spot⟩:=x
   have hc:=hcell 0 (by omega)
   have aa0:spot=none:=by simpa[Addr.add] using World.cell?_spot hc
   subst aa0
   rw[add_eq]at hc
   refine .inr ⟨b,off,cap,rfl,mo hc,hl,fun i hi=> ?_⟩
   have:=hcell i (by omega)
   rwa [add_eq]at this
theorem Pf {x:Int} (h:0≤x∧x≤4294967295):HD x:=⟨h.1,by omega⟩
theorem aki {x:Int} (h: -9223372036854775808≤x∧x≤9223372036854775807): -9223372036854775808≤x∧x < 9223372036854775808:=⟨h.1,by omega⟩
theorem aa1:la qS:=by
 have z:bY (fun _=>(0:Int)):=fun _=>by show (0:Int)≤0∧(0:Int) < 256;decide
 exact ⟨⟨by decide,by decide⟩,⟨by decide,by decide⟩,z,z⟩
theorem Ck {g:bG} (f:Nat→Int):(ae .u8 32 f).map (SV.av g)=(List.range 32).map fun i=>Value.int .u8 (f i):=by
 rw[ae,List.map_map];rfl
theorem take_one {l:List Value} {o:Nat} (h:o < l.length):List.drop o l=List.take 1 (List.drop o l)++List.drop (o+1) l:=by
 rw[← List.drop_drop,List.take_append_drop]
theorem eM {l:List Value} (o k:Nat):List.drop o l=List.take k (List.drop o l)++List.drop (o+k) l:=by
 rw[← List.drop_drop,List.take_append_drop]
section
variable {H:Type} {enc:TypeId×Value→H} {W:World}
theorem Pz {fuel:Nat} {l:List Value} {x:DataW H×List MemPlace} (hf:DataW.trod enc Tryz.prog W 0 (fun _=>true) true fuel 47 l=some x): ∃ e:En,la e∧ ∀ g:bG,(fQ e).map (SV.av g)=l:=by
 obtain ⟨xs,m,_,rfl,hl,hlen,hel⟩:=DataW.trod_struct Tryz.underlying47 hf
 rw[Cj]at hl
 match xs,hlen with
 | [y0,y1,y2,y3],_=>
  have h0:DataW.trod enc Tryz.prog W 0 (fun _=>true) true m 24 (List.take (Tryz.prog.cellsOf 24) (List.drop 0 l))=some y0:=hel 0 _ rfl
  rw[ig]at h0
  have h1:DataW.trod enc Tryz.prog W 0 (fun _=>true) true m 24 (List.take (Tryz.prog.cellsOf 24) (List.drop 1 l))=some y1:=hel 1 _ rfl
  rw[ig]at h1
  have h2:DataW.trod enc Tryz.prog W 0 (fun _=>true) true m 23 (List.take (Tryz.prog.cellsOf 23) (List.drop 2 l))=some y2:=hel 2 _ rfl
  rw[iR]at h2
  have h3:DataW.trod enc Tryz.prog W 0 (fun _=>true) true m 23 (List.take (Tryz.prog.cellsOf 23) (List.drop 34 l))=some y3:=hel 3 _ rfl
  rw[iR]at h3
  obtain ⟨a,ea,_,wa⟩:=DataW.trod_int Tryz.underlying24 h0
  obtain ⟨b,eb,_,wb⟩:=DataW.trod_int Tryz.underlying24 h1
  obtain ⟨K,hK,eK⟩:=jI h2 (by simp;omega)
  obtain ⟨T,hT,eT⟩:=jI h3 (by simp;omega)
  have ba:=bounds_u32 wa
  have bb:=bounds_u32 wb
  refine ⟨⟨a,b,K,T⟩,⟨Pf ba,Pf bb,hK,hT⟩,fun g=> ?_⟩
  have e0:l=List.take 1 (List.drop 0 l)++(List.take 1 (List.drop 1 l)++(List.take 32 (List.drop 2 l)++List.take 32 (List.drop 34 l))):=by
   have s3:List.drop 34 l=List.take 32 (List.drop 34 l):=(List.take_of_length_le (by rw[List.length_drop];omega)).symm
   have s2:=eM (l:=l) 2 32
   have s1:=eM (l:=l) 1 1
   have s0:=eM (l:=l) 0 1
   simp only[Nat.reduceAdd]at s0 s1 s2
   rw[← s3, ← s2, ← s1, ← s0];rfl
  rw[e0,ea,eb,eK,eT]
  unfold fQ
  rw[List.map_cons,List.map_cons,List.map_append,Ck,Ck];rfl
def Hz (w:World) (v:Value) (n:Nat) (f:Nat→En):Prop:=
 (∃ a,v= .slice a 0 0∧n=0)∨ ∃ b o c,v= .slice (some ⟨b,o,none⟩) n c∧b < w.heap.size∧n≤c∧ ∀ (g:bG) j x,(iG n f)[j]? =some x→w.cell? ⟨b,o+j,none⟩=some (SV.av g x)
theorem PA {fuel:Nat} {cs:List Value} {d:DataW H} {p:List MemPlace} (h:DataW.trod enc Tryz.prog W 0 (fun _=>true) true fuel 25 cs=some (d,p))
  (hw: ∀ l r,d= .slice l r→(l.length+r.length)*72≤reachBytes): ∃ v n f,cs=[v]∧(∀ i,la (f i))∧(n+2)*72≤140737488355328∧Hz W v n f:=by
 rcases DataW.trod_slice Tryz.underlying25 h with ⟨rfl,_⟩ | ⟨a,len,cap,elems,rest,m,_,rfl,hx,_,hlc,_,hlen,hel,hsp,_⟩
 ·exact ⟨_,0,fun _=>qS,rfl,fun _=>aa1,by decide, .inl ⟨none,rfl,rfl⟩⟩
 ·obtain ⟨hrl,PE⟩:=hsp rfl
  have hd:d= .slice (elems.map (·.1)) (rest.map (·.1)):=congrArg Prod.fst hx
  have hw2:=hw _ _ hd
  simp only[List.length_map,reachBytes]at hw2
  rw[Cj]at hel PE
  have each: ∀ i,i < len→ ∃ e:En,la e∧ ∃ l,W.cells? 0 (a.add (i*66)) 66=some l∧ ∀ g:bG,(fQ e).map (SV.av g)=l:=fun i hi=>by
   have h1:=hel i hi
   have hi2:i < elems.length:=by omega
   rw[List.getElem?_eq_getElem hi2,Option.bind_eq_some_iff]at h1
   obtain ⟨l,hl1,hl2⟩:=h1
   obtain ⟨e,he,hc⟩:=Pz hl2
   exact ⟨e,he,l,hl1,hc⟩
  have zero:=aa1
  have pick: ∃ f:Nat→En,(∀ i,la (f i))∧ ∀ i,i < len→ ∃ l,W.cells? 0 (a.add (i*66)) 66=some l∧ ∀ g:bG,(fQ (f i)).map (SV.av g)=l:=by
   refine ⟨fun i=>if hi:i < len then (each i hi).choose else qS,fun i=> ?_,fun i hi=> ?_⟩
   ·show la (if hi:i < len then (each i hi).choose else qS)
    by_cases hi:i < len
    ·rw[dif_pos hi];exact (each i hi).choose_spec.1
    ·rw[dif_neg hi];exact zero
   ·show ∃ l,W.cells? 0 (a.add (i*66)) 66=some l∧ ∀ g:bG,(fQ (if hi:i < len then (each i hi).choose else qS)).map (SV.av g)=l
    rw[dif_pos hi];exact (each i hi).choose_spec.2
  obtain ⟨f,hf,hcell⟩:=pick
  refine ⟨_,len,f,rfl,hf,by omega, ?_⟩
  by_cases hc0:cap=0
  ·subst hc0
   obtain rfl:len=0:=by omega
   exact .inl ⟨_,rfl,rfl⟩
  ·have ahc: ∃ v,W.cell? (a.add 0)=some v:=by
    have akj: ∃ l,W.cells? 0 (a.add (0*66)) 66=some l:=by
     by_cases h0:0 < len
     ·obtain ⟨l,hl,_⟩:=hcell 0 h0;exact ⟨l,hl⟩
     ·have h1:=PE 0 (by omega)
      have h2:0 < rest.length:=by omega
      rw[List.getElem?_eq_getElem h2,Option.bind_eq_some_iff]at h1
      obtain ⟨l,hl,_⟩:=h1
      rw[show len+0=0 by omega]at hl
      exact ⟨l,hl⟩
    obtain ⟨l,hl⟩:=akj
    obtain ⟨_,h2,h3⟩:=World.cells?_some hl
    have h4:=h3 0 (by decide)
    rw[Nat.zero_mul]at h4
    have h5:l[0]? =some l[0]:=List.getElem?_eq_getElem (by omega)
    have h6:(a.add 0).add 0=a.add 0:=by cases a;simp[Addr.add]
    rw[h6,h5]at h4
    exact ⟨_,h4⟩
   obtain ⟨v0,Vs⟩:=ahc
   obtain ⟨b,off,spot⟩:=a
   have aa0:spot=none:=by simpa[Addr.add] using World.cell?_spot Vs
   subst aa0
   rw[add_eq]at Vs
   refine .inr ⟨b,off,cap,rfl,mo Vs,hlc,fun g j x hj=> ?_⟩
   have hj2:j < len*66:=by
    have:=(List.getElem?_eq_some_iff.1 hj).1
    rwa [jD]at this
   have hq:j / 66 < len:=by omega
   obtain ⟨l,hl,sL⟩:=hcell (j / 66) hq
   obtain ⟨_,h2,h3⟩:=World.cells?_some hl
   have h4:=h3 (j%66) (Nat.mod_lt _ (by decide))
   rw[add_eq,add_eq]at h4
   have e1:off+j / 66*66+j%66=off+j:=by omega
   rw[e1]at h4
   rw[h4, ← sL g,List.getElem?_map]
   have h5:=LN (n:=len) (f:=f) (i:=j / 66) (tail:=[]) hq
   rw[List.append_nil]at h5
   have h6:=congrArg (fun q:List SV=>q[j%66]?) h5
   rw[List.getElem?_take_of_lt (Nat.mod_lt _ (by decide)),List.getElem?_drop,show j / 66*66+j%66=j by omega,hj]at h6
   rw[← h6];rfl
theorem PB {base:Nat} {v:Value} {d:DataW H} {p:List MemPlace} {ts:List TypeId} {dds:List (DataW H)}
  (hv:Value.okWide Tryz.prog W .any base 27 v) (h:DataW.Trod enc Tryz.prog W 0 (fun _=>true) true 27 v d p) (hsz:(DataW.weightsEach Tryz.prog (27::ts) (d::dds)).all (· ≤reachBytes)=true):
  ∃ (s:St) (u:Value) (n:Nat) (f:Nat→En),iH s∧(∀ i,la (f i))∧(n+2)*72≤140737488355328∧Hz W u n f∧ ∀ (g:bG) (sv:SV),SV.av g sv=u→AV.av g (Ag (bO { s with store:=sv }))=v:=by
 obtain ⟨cs,rfl,hcs,_⟩: ∃ cs,v= .agg cs∧cs.size=Tryz.prog.cellsOf 27∧Row.okWide Tryz.prog W .any base 27 cs:=by
  simpa[Value.okWide,Tryz.underlying27] using hv
 rw[Px]at hcs
 obtain ⟨l⟩:=cs
 obtain ⟨fuel,hf⟩:=h
 have hl:l.length=203:=by simpa using hcs
 have hf:DataW.trod enc Tryz.prog W 0 (fun _=>true) true fuel 27 l=some (d,p):=by simpa[Value.cells] using hf
 obtain ⟨xs,m,_,hx,_,hlen,hel⟩:=DataW.trod_struct Tryz.underlying27 hf
 have hd:d= .agg (xs.map (·.1)):=congrArg Prod.fst hx
 have hxs: ∃ y0 y1 y2 y3 y4 y5 y6 y7 y8 y9 y10 y11 y12 y13 y14 y15 y16,xs=[y0,y1,y2,y3,y4,y5,y6,y7,y8,y9,y10,y11,y12,y13,y14,y15,y16]:=by
  match xs,hlen with
  | [y0,y1,y2,y3,y4,y5,y6,y7,y8,y9,y10,y11,y12,y13,y14,y15,y16],_=>exact ⟨y0,y1,y2,y3,y4,y5,y6,y7,y8,y9,y10,y11,y12,y13,y14,y15,y16,rfl⟩
 obtain ⟨y0,y1,y2,y3,y4,y5,y6,y7,y8,y9,y10,y11,y12,y13,y14,y15,y16,rfl⟩:=hxs
 have h0:DataW.trod enc Tryz.prog W 0 (fun _=>true) true m 4 (List.take (Tryz.prog.cellsOf 4) (List.drop 0 l))=some y0:=hel 0 _ rfl
 rw[tJ]at h0
 have h1:DataW.trod enc Tryz.prog W 0 (fun _=>true) true m 4 (List.take (Tryz.prog.cellsOf 4) (List.drop 1 l))=some y1:=hel 1 _ rfl
 rw[tJ]at h1
 have h2:DataW.trod enc Tryz.prog W 0 (fun _=>true) true m 4 (List.take (Tryz.prog.cellsOf 4) (List.drop 2 l))=some y2:=hel 2 _ rfl
 rw[tJ]at h2
 have h3:DataW.trod enc Tryz.prog W 0 (fun _=>true) true m 23 (List.take (Tryz.prog.cellsOf 23) (List.drop 3 l))=some y3:=hel 3 _ rfl
 rw[iR]at h3
 have h4:DataW.trod enc Tryz.prog W 0 (fun _=>true) true m 23 (List.take (Tryz.prog.cellsOf 23) (List.drop 35 l))=some y4:=hel 4 _ rfl
 rw[iR]at h4
 have h5:DataW.trod enc Tryz.prog W 0 (fun _=>true) true m 23 (List.take (Tryz.prog.cellsOf 23) (List.drop 67 l))=some y5:=hel 5 _ rfl
 rw[iR]at h5
 have h6:DataW.trod enc Tryz.prog W 0 (fun _=>true) true m 23 (List.take (Tryz.prog.cellsOf 23) (List.drop 99 l))=some y6:=hel 6 _ rfl
 rw[iR]at h6
 have h7:DataW.trod enc Tryz.prog W 0 (fun _=>true) true m 23 (List.take (Tryz.prog.cellsOf 23) (List.drop 131 l))=some y7:=hel 7 _ rfl
 rw[iR]at h7
 have h8:DataW.trod enc Tryz.prog W 0 (fun _=>true) true m 23 (List.take (Tryz.prog.cellsOf 23) (List.drop 163 l))=some y8:=hel 8 _ rfl
 rw[iR]at h8
 have h9:DataW.trod enc Tryz.prog W 0 (fun _=>true) true m 24 (List.take (Tryz.prog.cellsOf 24) (List.drop 195 l))=some y9:=hel 9 _ rfl
 rw[ig]at h9
 have h10:DataW.trod enc Tryz.prog W 0 (fun _=>true) true m 24 (List.take (Tryz.prog.cellsOf 24) (List.drop 196 l))=some y10:=hel 10 _ rfl
 rw[ig]at h10
 have h11:DataW.trod enc Tryz.prog W 0 (fun _=>true) true m 24 (List.take (Tryz.prog.cellsOf 24) (List.drop 197 l))=some y11:=hel 11 _ rfl
 rw[ig]at h11
 have h12:DataW.trod enc Tryz.prog W 0 (fun _=>true) true m 24 (List.take (Tryz.prog.cellsOf 24) (List.drop 198 l))=some y12:=hel 12 _ rfl
 rw[ig]at h12
 have h13:DataW.trod enc Tryz.prog W 0 (fun _=>true) true m 24 (List.take (Tryz.prog.cellsOf 24) (List.drop 199 l))=some y13:=hel 13 _ rfl
 rw[ig]at h13
 have h14:DataW.trod enc Tryz.prog W 0 (fun _=>true) true m 3 (List.take (Tryz.prog.cellsOf 3) (List.drop 200 l))=some y14:=hel 14 _ rfl
 rw[Nf]at h14
 have h15:DataW.trod enc Tryz.prog W 0 (fun _=>true) true m 3 (List.take (Tryz.prog.cellsOf 3) (List.drop 201 l))=some y15:=hel 15 _ rfl
 rw[Nf]at h15
 have FC:DataW.trod enc Tryz.prog W 0 (fun _=>true) true m 25 (List.take (Tryz.prog.cellsOf 25) (List.drop 202 l))=some y16:=hel 16 _ rfl
 rw[Pw]at FC
 obtain ⟨b0,eb0,_⟩:=DataW.trod_bool Tryz.underlying4 h0
 obtain ⟨b1,eb1,_⟩:=DataW.trod_bool Tryz.underlying4 h1
 obtain ⟨b2,eb2,_⟩:=DataW.trod_bool Tryz.underlying4 h2
 obtain ⟨K3,hK3,eK3⟩:=jI h3 (by simp;omega)
 obtain ⟨K4,hK4,eK4⟩:=jI h4 (by simp;omega)
 obtain ⟨K5,hK5,eK5⟩:=jI h5 (by simp;omega)
 obtain ⟨K6,hK6,eK6⟩:=jI h6 (by simp;omega)
 obtain ⟨K7,hK7,eK7⟩:=jI h7 (by simp;omega)
 obtain ⟨K8,hK8,eK8⟩:=jI h8 (by simp;omega)
 obtain ⟨x9,ex9,_,wx9⟩:=DataW.trod_int Tryz.underlying24 h9
 have bx9:=bounds_u32 wx9
 obtain ⟨Cw,ami,_,amj⟩:=DataW.trod_int Tryz.underlying24 h10
 have amk:=bounds_u32 amj
 obtain ⟨AB,aml,_,amm⟩:=DataW.trod_int Tryz.underlying24 h11
 have amn:=bounds_u32 amm
 obtain ⟨x12,amo,_,amq⟩:=DataW.trod_int Tryz.underlying24 h12
 have amr:=bounds_u32 amq
 obtain ⟨x13,ams,_,amt⟩:=DataW.trod_int Tryz.underlying24 h13
 have amu:=bounds_u32 amt
 obtain ⟨x14,amv,_,amw⟩:=DataW.trod_int Tryz.underlying3 h14
 have amx:=bounds_i64 amw
 obtain ⟨x15,amy,_,amz⟩:=DataW.trod_int Tryz.underlying3 h15
 have amA:=bounds_i64 amz
 obtain ⟨u,n,f,eu,hfe,hn,hst⟩:=PA (d:=y16.1) (p:=y16.2) FC (fun q r e=>by
  have h1:((q.length+r.length)*72) ∈ DataW.weightsEach Tryz.prog (27::ts) (d::dds):=by
   refine DataW.weights_mem_each (j:=0) rfl rfl _ ?_
   rw[hd]
   simp only[DataW.weights,Tryz.underlying27]
   refine DataW.weights_mem_each (j:=16) (t:=25) (d:=y16.1) rfl rfl _ ?_
   rw[e]
   have hb:=acI
   simp only[DataW.weights,Tryz.underlying25,hb]
   simp
  have:=List.all_eq_true.1 hsz _ h1
  simpa using this)
 refine ⟨⟨b0,b1,b2,K3,K4,K5,K6,K7,K8,x9,Cw,AB,x12,x13,x14,x15,Sum.inl (.slice none 0 0)⟩,u,n,f,⟨hK3,hK4,hK5,hK6,hK7,hK8,Pf bx9,Pf amk,Pf amn,Pf amr,Pf amu,aki amx,aki amA⟩,hfe,hn,hst,fun g sv hsv=> ?_⟩
 have e0:l=List.take 1 (List.drop 0 l)++(List.take 1 (List.drop 1 l)++(List.take 1 (List.drop 2 l)++(List.take 32 (List.drop 3 l)++(List.take 32 (List.drop 35 l)++(List.take 32 (List.drop 67 l)++(List.take 32 (List.drop 99 l)++(List.take 32 (List.drop 131 l)++(List.take 32 (List.drop 163 l)++(List.take 1 (List.drop 195 l)++(List.take 1 (List.drop 196 l)++(List.take 1 (List.drop 197 l)++(List.take 1 (List.drop 198 l)++(List.take 1 (List.drop 199 l)++(List.take 1 (List.drop 200 l)++(List.take 1 (List.drop 201 l)++(List.take 1 (List.drop 202 l))))))))))))))))):=by
  have s16:List.drop 202 l=List.take 1 (List.drop 202 l):=(List.take_of_length_le (by rw[List.length_drop];omega)).symm
  have s15:=eM (l:=l) 201 1
  have s14:=eM (l:=l) 200 1
  have s13:=eM (l:=l) 199 1
  have s12:=eM (l:=l) 198 1
  have s11:=eM (l:=l) 197 1
  have s10:=eM (l:=l) 196 1
  have s9:=eM (l:=l) 195 1
  have s8:=eM (l:=l) 163 32
  have s7:=eM (l:=l) 131 32
  have s6:=eM (l:=l) 99 32
  have s5:=eM (l:=l) 67 32
  have s4:=eM (l:=l) 35 32
  have s3:=eM (l:=l) 3 32
  have s2:=eM (l:=l) 2 1
  have s1:=eM (l:=l) 1 1
  have s0:=eM (l:=l) 0 1
  simp only[Nat.reduceAdd]at s0 s1 s2 s3 s4 s5 s6 s7 s8 s9 s10 s11 s12 s13 s14 s15
  rw[← s16, ← s15, ← s14, ← s13, ← s12, ← s11, ← s10, ← s9, ← s8, ← s7, ← s6, ← s5, ← s4, ← s3, ← s2, ← s1, ← s0];rfl
 show Value.agg ((bO _).map (SV.av g)).toArray= .agg ⟨l⟩
 rw[e0,eb0,eb1,eb2,eK3,eK4,eK5,eK6,eK7,eK8,ex9,ami,aml,amo,ams,amv,amy,eu]
 unfold bO oE
 simp only[List.map_append,Ck,List.map_cons,List.map_nil,hsv]
 rfl
end
theorem akq {w:World} {b o:Nat} {cs:List SV} (hb:b < w.heap.size) (hc: ∀ (g:bG) i x,cs[i]? =some x→w.cell? ⟨b,o+i,none⟩=some (SV.av g x)):eX (fun _=>(b,o)) (wz (lk [(0,⟨false,cs⟩)])) w:=by
 refine ⟨fun t bx ht=>hb,fun t bx ht i x hx=> ?_,fun t bx ht hrw=> ?_,fun t t' bx bx' ht hrw=> ?_⟩
 ·obtain ⟨rfl,rfl⟩:=NL ht;exact hc _ i x hx
 ·obtain ⟨rfl,rfl⟩:=NL ht;cases hrw
 ·obtain ⟨rfl,rfl⟩:=NL ht;cases hrw
theorem amC {w:World} {b o b' o':Nat} {cs ds:List SV} (hb:b < w.heap.size) (hc: ∀ (g:bG) i x,cs[i]? =some x→w.cell? ⟨b,o+i,none⟩=some (SV.av g x)) (hb':b' < w.heap.size) (Cm: ∀ (g:bG) i x,ds[i]? =some x→w.cell? ⟨b',o'+i,none⟩=some (SV.av g x)):
  eX (fun t=>if t=0 then (b,o) else (b',o')) (wz (lk [(0,⟨false,cs⟩),(1,⟨false,ds⟩)])) w:=by
 refine ⟨fun t bx ht=> ?_,fun t bx ht i x hx=> ?_,fun t bx ht hrw=> ?_,fun t t' bx bx' ht hrw=> ?_⟩
 ·rcases HC ht with ⟨rfl,rfl⟩ | ⟨rfl,rfl⟩
  ·exact hb
  ·exact hb'
 ·rcases HC ht with ⟨rfl,rfl⟩ | ⟨rfl,rfl⟩
  ·exact hc _ i x hx
  ·exact Cm _ i x hx
 ·rcases HC ht with ⟨rfl,rfl⟩ | ⟨rfl,rfl⟩<;>cases hrw
 ·rcases HC ht with ⟨rfl,rfl⟩ | ⟨rfl,rfl⟩<;>cases hrw
theorem Gb {w:World} {b o n:Nat} {f:Nat→Int} (hc: ∀ i,i < n→w.cell? ⟨b,o+i,none⟩=some (.int .u8 (f i))): ∀ (g:bG) i x,(ae .u8 n f)[i]? =some x→w.cell? ⟨b,o+i,none⟩=some (SV.av g x):=fun g i x hx=>by
 by_cases hi:i < n
 ·rw[ay .u8 n f i hi]at hx
  obtain rfl:=Option.some.inj hx
  exact hc i hi
 ·rw[List.getElem?_eq_none (by rw[ah];omega)]at hx;cases hx
theorem HA {g:bG} {T:Nat→Int}:AV.av g (Ag (ae .u8 32 T))=AV.val (Ag (ae .u8 32 T)):=AV.fI (by simpa[AV.plain,CV.plain] using aw) g
theorem walk [aX] {w:World} {v u v2:Value} {T:Nat→Int} (hl:Laid Tryz.prog w) (bT:bY T) {s:St} {n1 n2:Nat} {f1:Nat→En} {f2:Nat→Int} (hs:iH s) (hf: ∀ i,la (f1 i)) (b2:bY f2) (m1:(n1+2)*72≤140737488355328) (m2:n2+64≤140737488355328) (h1:Hz w u n1 f1) (h2:Py w v2 n2 f2)
  (hv: ∀ (g:bG) (sv:SV),SV.av g sv=u→AV.av g (Ag (bO { s with store:=sv }))=v):
  Calls Tryz.prog 3 #[v,v2,AV.val (Ag (ae .u8 32 T))] w fun e w'=>e= .returned (.bool true)∧Below w.heap.size w w':=by
 rcases h1 with ⟨a1,rfl,rfl⟩ | ⟨x1,o1,c1,rfl,lt1,cc1,afq⟩<;>rcases h2 with ⟨a2,rfl,rfl⟩ | ⟨x2,o2,c2,rfl,lt2,cp2,afr⟩
 ·have hc:=(ag9 (f:=f1) (raw:=f2) (a:=a1) (a':=a2) hs hf b2 bT).call (fun _=>False) (fun _=>(0,0)) w hl (fun _ _ _ h=>h) ⟨fun t bx ht=>by simp[wz]at ht,fun t bx ht=>by simp[wz]at ht,fun t bx ht=>by simp[wz]at ht,fun t t' bx bx' ht=>by simp[wz]at ht⟩ (fun t bx ht=>by simp at ht)
  simp only[List.map_cons,List.map_nil,HA,hv (fun _=>(0,0)) (Sum.inl (.slice a1 0 0)) rfl]at hc
  refine hc.mono ?_
  rintro e w' ⟨r,out,g',rfl,⟨rfl,rfl⟩,_,_,_,_,_,hfr⟩
  exact ⟨rfl,Kept.below hfr⟩
 ·have hc:=(ag8 (f:=f1) (a:=a1) (c:=c2) hs hf b2 bT aw aP m2).call (fun _=>False) (fun _=>(x2,o2)) w hl (fun _ _ _ h=>h) (akq lt2 (Gb afr)) (fun t bx ht hrw=>by obtain ⟨rfl,rfl⟩:=NL ht;cases hrw)
  simp only[List.map_cons,List.map_nil,HA,hv (fun _=>(x2,o2)) (Sum.inl (.slice a1 0 0)) rfl]at hc
  refine hc.mono ?_
  rintro e w' ⟨r,out,g',rfl,⟨rfl,rfl⟩,_,_,_,_,_,hfr⟩
  exact ⟨rfl,Kept.below hfr⟩
 ·have hc:=(ag7 (raw:=f2) (a:=a2) (c:=c1) hs hf b2 bT qT vY cc1 m1).call (fun _=>False) (fun _=>(x1,o1)) w hl (fun _ _ _ h=>h) (akq lt1 afq) (fun t bx ht hrw=>by obtain ⟨rfl,rfl⟩:=NL ht;cases hrw)
  simp only[List.map_cons,List.map_nil,HA,hv (fun _=>(x1,o1)) (Sum.inr (.inr (0,0,n1,c1))) rfl]at hc
  refine hc.mono ?_
  rintro e w' ⟨r,out,g',rfl,⟨rfl,rfl⟩,_,_,_,_,_,hfr⟩
  exact ⟨rfl,Kept.below hfr⟩
 ·have hc:=(ag6 (c:=c1) (c':=c2) hs hf b2 bT qT aw vY cc1 aP m1 m2).call (fun _=>False) (fun t=>if t=0 then (x1,o1) else (x2,o2)) w hl (fun _ _ _ h=>h) (amC lt1 afq lt2 (Gb afr)) (fun t bx ht hrw=>by rcases HC ht with ⟨rfl,rfl⟩ | ⟨rfl,rfl⟩<;>cases hrw)
  simp only[List.map_cons,List.map_nil,HA,hv (fun t=>if t=0 then (x1,o1) else (x2,o2)) (Sum.inr (.inr (0,0,n1,c1))) rfl]at hc
  refine hc.mono ?_
  rintro e w' ⟨r,out,g',rfl,⟨rfl,rfl⟩,_,_,_,_,_,hfr⟩
  exact ⟨rfl,Kept.below hfr⟩
theorem acJ (cs:List Value) (hl:cs.length=32) (h: ∀ i,i < 32→ ∃ x,cs[i]? =some (.int .u8 x)∧0≤x∧x < 256):bY (bytesOf cs)∧(ae .u8 32 (bytesOf cs)).map (SV.av (fun _=>(0,0)))=cs:=by
 refine ⟨fun i=> ?_, ?_⟩
 ·by_cases hi:i < 32
  ·obtain ⟨x,hx,h0,h1⟩:=h i hi
   simp only[bytesOf,hx];exact ⟨h0,h1⟩
  ·rw[bytesOf,List.getElem?_eq_none (by omega)];simp
 ·apply List.ext_getElem?
  intro i
  by_cases hi:i < 32
  ·obtain ⟨x,hx,_⟩:=h i hi
   rw[List.getElem?_map,ay .u8 32 _ i hi,hx]
   simp only[Option.map_some,SV.av,bytesOf,hx]
  ·rw[List.getElem?_eq_none (by rw[List.length_map,ah];omega),List.getElem?_eq_none (by omega)]
theorem Wv {H:Type} {enc:TypeId×Value→H} {W:World} {base:Nat} {v:Value} {d:DataW H} {p:List MemPlace}
  (hv:Value.okWide Tryz.prog W .any base 23 v) (h:DataW.Trod enc Tryz.prog W 0 (fun _=>true) true 23 v d p): ∃ K,bY K∧v=AV.val (Ag (ae .u8 32 K)):=by
 obtain ⟨cs,rfl,hsz,_⟩: ∃ cs,v= .agg cs∧cs.size=Tryz.prog.cellsOf 23∧Row.okWide Tryz.prog W .any base 23 cs:=by
  simpa[Value.okWide,Tryz.underlying23] using hv
 rw[iR]at hsz
 obtain ⟨l⟩:=cs
 obtain ⟨fuel,hf⟩:=h
 obtain ⟨xs,m,rfl,hx,hlen,hxl,hel⟩:=DataW.trod_array Tryz.underlying23 hf
 have hl:l.length=32:=by simpa using hsz
 have hrow: ∀ i,i < 32→ ∃ x,l[i]? =some (.int .u8 x)∧0≤x∧x < 256:=by
  intro i hi
  have he:=hel i hi
  rw[Ga,Nat.mul_one]at he
  have hxi:i < xs.length:=by omega
  rw[List.getElem?_eq_getElem hxi]at he
  obtain ⟨n,hc,_,hw⟩:=DataW.trod_int Tryz.underlying5 he
  have hb:=bounds_u8 hw
  refine ⟨n, ?_,hb.1,by omega⟩
  have Cm:(l.drop i).take 1=[.int .u8 n]:=by simpa[Value.cells] using hc
  have:((l.drop i).take 1)[0]? =some (.int .u8 n):=by rw[Cm];rfl
  rw[List.getElem?_take_of_lt (by decide),List.getElem?_drop]at this
  simpa using this
 obtain ⟨hb,he⟩:=acJ l hl hrow
 refine ⟨bytesOf l,hb, ?_⟩
 show Value.agg ⟨l⟩= .agg ((ae .u8 32 (bytesOf l)).map (SV.av (fun _=>(0,0)))).toArray
 rw[he]
theorem aa2 (os:Os) (args:Array Value):laidMetH Tryz.prog tabs ((World.doorLaid Tryz.prog 4000 os).forCall (fun _ _=>0) ⟨#[],args,[]⟩).memory:=
 laidMetH_of_parts3 (fuel:=8) (laidMet_of_run' 8 (by kernel_rfl) (by kernel_rfl)) (by kernel_rfl) (by kernel_rfl)
theorem lifted (os:Os) (started:os.Started) (H:Type) (enc:TypeId×Value→H):
  ReturnsInHanded {} Tryz.checked os 3 .any (fun w args=>(Rows.lawEncryptSpec.pre enc Tryz.prog Tryz.f3 [] false w args∧laidMetH Tryz.prog tabs w)∧sizedMet enc Tryz.prog Tryz.f3 (OpenSpec.ofChange Rows.lawEncryptSpec) false w args)
   (Rows.lawEncryptSpec.post enc Tryz.prog Tryz.f3 false true false false):=by
 refine returnsInHanded_of_change_and (C:=Tryz.checked) (X:=fun w _=>laidMetH Tryz.prog tabs w) (fun _ _ _ hh h=>h.of_heap hh) own started (by kernel_rfl) Tryz.func3
  (ChangeSpec.witness_shaped (enc:=enc) (C:=Tryz.checked) (os:=os) (X:=fun w _=>laidMetH Tryz.prog tabs w) false (World.doorLaid Tryz.prog 4000 os) #[.agg (List.replicate 3 (Value.bool false)++List.replicate 192 (Value.int .u8 0)++List.replicate 5 (Value.int .u32 0)++List.replicate 2 (Value.int .i64 0)++[Value.slice none 0 0]).toArray, .slice none 0 0, .agg ((List.replicate 32 (Value.int .u8 0)).toArray)] 40 rfl (World.shaped_of_RefB (by kernel_rfl) (by kernel_rfl)) (by kernel_rfl) (by kernel_rfl) (by kernel_rfl) (aa2 os _)) ?_
 intro W base args ds gs before afs hW _ amD hL _
 have hval: ∀ (j:Nat) t v,Tryz.f3.params[j]? =some t→args[j]? =some v→Value.okWide Tryz.prog W .any base t v:=afs
 have hW':=hW
 have hsz:(DataW.weightsEach Tryz.prog (Tryz.f3.params.toList++Rows.lawEncryptSpec.plain.varTypes Tryz.prog) (ds++gs)).all (· ≤reachBytes)=true:=amD
 obtain ⟨p,q,hA0,hV,rfl,hfz,hnd⟩:=hW
 have hA:DataW.TrodAll enc Tryz.prog W 0 (fun _=>true) true Tryz.f3.params.toList args.toList ds p:=hA0
 rw[Tryz.params3]at hA hval hsz
 obtain ⟨v0,vs0,e0,ds0,p0,q0,hargs,rfl,rfl,h0,r0⟩:=trodAll_cons hA
 obtain ⟨v1,vs1,e1,ds1,p1,q1,rfl,rfl,rfl,h1,r1⟩:=trodAll_cons r0
 obtain ⟨v2,vs2,e2,ds2,p2,q2,rfl,rfl,rfl,h2,r2⟩:=trodAll_cons r1
 obtain ⟨rfl,rfl,rfl⟩:=trodAll_nil r2
 obtain rfl:args= #[v0,v1,v2]:=by cases args;simp_all
 obtain ⟨rfl,rfl⟩:=trodVars_none hV
 obtain ⟨s,u,n1,f1,hs,hfe,m1,i1,ZQ⟩:=PB (hval 0 27 v0 rfl rfl) h0 hsz
 obtain ⟨T,bT,rfl⟩:=Wv (hval 2 23 v2 rfl rfl) h2
 have lt0: ∀ x ∈ p0,x.block < W.heap.size:=by obtain ⟨m,hm⟩:=h0;exact DataW.trod_lt m _ _ _ hm
 have lt1: ∀ x ∈ p1,x.block < W.heap.size:=by obtain ⟨m,hm⟩:=h1;exact DataW.trod_lt m _ _ _ hm
 have lt2: ∀ x ∈ p2,x.block < W.heap.size:=by obtain ⟨m,hm⟩:=h2;exact DataW.trod_lt m _ _ _ hm
 obtain ⟨a2,akr,aks,rfl⟩:=okWide_slice Tryz.underlying28 (hval 1 28 v1 rfl rfl)
 obtain ⟨n2,f2,b2,m2,i2⟩: ∃ n f,bY f∧n+64≤140737488355328∧Py W (.slice a2 akr aks) n f:=by
  have h1':=h1
  obtain ⟨fuel,hfu⟩:=h1'
  obtain ⟨v,n,f,e,g1,g2,g3⟩:=Wu hfu (fun l r e=>by
   subst e
   have hw:=sized_slice hsz (j:=1) (t:=28) (e:=5) rfl rfl Tryz.underlying28
   rwa [aha]at hw)
  obtain rfl:Value.slice a2 akr aks=v:=by simpa[Value.cells] using e
  exact ⟨n,f,g1,g2,g3⟩
 clear hA0 afs
 obtain ⟨E,hLd⟩:=abA hL
 refine (walk hLd bT hs hfe b2 m1 m2 i1 i2 ZQ).mono fun e W' ⟨he,bel⟩=> ?_
 subst he
 exact ⟨_,rfl,_,_,_,[],_,[],hW',trodAll_mk1 (shut_bool Tryz.underlying4 _),
  (trodAll_cons_mk (Below.trod laidOut (by kernel_rfl) (of_decide_eq_true (by kernel_rfl)) h0 bel lt0) (trodAll_cons_mk (Below.trod laidOut (by kernel_rfl) (of_decide_eq_true (by kernel_rfl)) h1 bel lt1) (trodAll_cons_mk (Below.trod laidOut (by kernel_rfl) (of_decide_eq_true (by kernel_rfl)) h2 bel lt2) trodAll_mk0))),rfl,bel.frame _,fun h=>by cases h⟩
theorem over:Rows.LawEncryptSaid:=
 OpenClaim.holds_of_wide 3 Tryz.f3 rfl rfl rfl rfl rfl rfl rfl ⟨rfl,rfl,rfl,rfl,rfl⟩ rfl rfl rfl rfl rfl (by kernel_rfl) Tryz.func3 (by kernel_rfl)
  (of_decide_eq_true (by kernel_rfl)) (by unfold Func.isWrapper;first | (rw[if_pos (by decide+kernel)];kernel_rfl) | (rw[if_neg (by decide+kernel)];exact ⟨rfl,rfl⟩))
  (fun os started H enc _=>lifted os started H enc)
end Go.Proofs.YtoakenpcooglpaaGreatDoor.lawEncryptDone
namespace Go.Proofs.YtoakenpcooglpaaGreatDoor.lawEncryptDone
open Go
theorem proved:Rows.LawEncryptCardSaid:=
 Claim7.holds_tied_plain_at .later [] [.data, .data, .data, .sentinel, .sentinel, .sentinel, .sentinel, .sentinel, .sentinel, .sentinel, .sentinel, .sentinel] true (true,"acf20825b91dec2fffa432590d1aad25a010ce2b78a5eafa27dec22f43c59d98") true
  over (fun _ h=>by cases h) (by kernel_rfl) (fun _ h=>by cases h) lawEncrypt_row_tie rfl ⟨rfl,rfl⟩ (by kernel_rfl) rfl
  (fun f fn hf hfn=>by
   obtain rfl:f=3:=Option.some.inj ((show Tryz.prog.funcNamed "ratchet/ratchetlaw.LawEncrypt" =some 3 by kernel_rfl).symm.trans hf) |>.symm
   obtain rfl:fn=Tryz.f3:=(Option.some.inj (Tryz.func3.symm.trans hfn)).symm
   exact ⟨by kernel_rfl,fun j t ht=>by
    rw[Tryz.params3]at ht
    have hm:t ∈ [27,28,23]:=by simpa using Array.mem_of_getElem? ht
    have hall:([27,28,23].all fun u=> !Tryz.prog.wantsStandIn u)=true:=by kernel_rfl
    exact (show Tryz.prog.wantsStandIn t=false by simpa using List.all_eq_true.1 hall t hm)⟩)
  (by kernel_rfl)
#print axioms proved
end Go.Proofs.YtoakenpcooglpaaGreatDoor.lawEncryptDone
