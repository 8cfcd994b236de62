/-
  Stores and states held against each other.
-/
import Derived.Test.YtoakenpcooglpaaGreatDoorVcgFacts
import Derived.Test.YtoakenpcooglpaaGreatDoorVcgSk
set_option linter.unusedVariables false
set_option linter.unusedSimpArgs false
namespace Go.Proofs.YtoakenpcooglpaaGreatDoor
set_option maxHeartbeats 8000000
set_option maxRecDepth 20000
open Go.cA
set_option linter.unusedSectionVars false
variable [aX]
theorem nQ {n:Nat} {f:Nat→En} {u v:SV} {cs ds:List SV} (h0:aY 0 u n f cs) (h1:aY 1 v n f ds) (hp:cs.all SV.plain=true) (hq:ds.all SV.plain=true) (hn:n < 4611686018427387904):
  bt Tryz.prog 30 [.inl (.inl u), .inl (.inl v)] 2 (lk [(0,⟨false,cs⟩),(1,⟨false,ds⟩)]) (fun v out=>v=B true∧out=fun _=>none):=by
 refine aE Tryz.func30 rfl (by kernel_rfl) (by simp[Tryz.ntmps30]) Tryz.qf (fun x hx=>by
  simp only[List.mem_cons,List.not_mem_nil,or_false]at hx
  rcases hx with rfl | rfl
  ·exact (h0.ok (by decide)).1
  ·exact (h1.ok (by decide)).1) nq (rI hp hq) ?_
 have fy: ∀ {M:Nat→Prop},(∀ x ∈ cs,SV.ok M x)=True:=eq_true (aJ hp)
 have iU: ∀ {M:Nat→Prop},(∀ x ∈ ds,SV.ok M x)=True:=eq_true (aJ hq)
 have oku:AV.ok (fun k=>k < 2) (.inl (.inl u))=True:=eq_true (h0.ok (by decide)).1
 have okv:AV.ok (fun k=>k < 2) (.inl (.inl v))=True:=eq_true (h1.ok (by decide)).1
 simp only[Tryz.results30,h0.len,h1.len,bne_self_eq_false,Tryz.vr,Value.oneCell',Nat.reduceAdd,Nat.reduceMul,Nat.reduceSub,Nat.reduceLT,Nat.reduceLeDiff,Nat.reduceEqDiff,Int.reduceLE,Int.reduceLT,Int.reduceToNat,Int.reduceNe,Int.reduceEq,Nat.reduceBEq,Nat.reduceDiv,Int.reduceAdd,Int.reduceSub,reduceIte,↓reduceIte,reduceCtorEq]
 refine aG n (fun k=>[(0, .inl (.inl u)),(1, .inl (.inl v)),(12,I .i64 n),(13,I .i64 k)])
  (fun k=>[(0,⟨false,cs⟩),(1,⟨false,ds⟩)]) _ ?_ ?_ ?_
 ·simp only[fy,iU,Tryz.vr,Value.oneCell',Nat.reduceAdd,Nat.reduceMul,Nat.reduceSub,Nat.reduceLT,Nat.reduceLeDiff,Nat.reduceEqDiff,Int.reduceLE,Int.reduceLT,Int.reduceToNat,Int.reduceNe,Int.reduceEq,Nat.reduceBEq,Nat.reduceDiv,Int.reduceAdd,Int.reduceSub,reduceIte,↓reduceIte,reduceCtorEq]
  exact ⟨(h0.ok (by decide)).1,(h1.ok (by decide)).1⟩
 ·intro j hj
  rcases h0 with ⟨_,rfl⟩ | ⟨o,c,rfl,_,hs⟩
  ·omega
  rcases h1 with ⟨_,rfl⟩ | ⟨o',c',rfl,_,hs'⟩
  ·omega
  have b1:=hs.lt hj
  have b2:=hs'.lt hj
  simp only[Tryz.vr,Value.oneCell',Nat.reduceAdd,Nat.reduceMul,Nat.reduceSub,Nat.reduceLT,Nat.reduceLeDiff,Nat.reduceEqDiff,Int.reduceLE,Int.reduceLT,Int.reduceToNat,Int.reduceNe,Int.reduceEq,Nat.reduceBEq,Nat.reduceDiv,Int.reduceAdd,Int.reduceSub,reduceIte,↓reduceIte,reduceCtorEq]
  refine aD (by simp;omega) ?_
  simp only[bl,dO hj,hs j hj,hs' j hj,b1,b2,af6,bD j (by omega),Tryz.vr,Value.oneCell',Nat.reduceAdd,Nat.reduceMul,Nat.reduceSub,Nat.reduceLT,Nat.reduceLeDiff,Nat.reduceEqDiff,Int.reduceLE,Int.reduceLT,Int.reduceToNat,Int.reduceNe,Int.reduceEq,Nat.reduceBEq,Nat.reduceDiv,Int.reduceAdd,Int.reduceSub,reduceIte,↓reduceIte,reduceCtorEq]
  refine ⟨by kernel_rfl, ?_⟩
  simp only[Bool.not_true,bD j (by omega),Tryz.vr,Value.oneCell',Nat.reduceAdd,Nat.reduceMul,Nat.reduceSub,Nat.reduceLT,Nat.reduceLeDiff,Nat.reduceEqDiff,Int.reduceLE,Int.reduceLT,Int.reduceToNat,Int.reduceNe,Int.reduceEq,Nat.reduceBEq,Nat.reduceDiv,Int.reduceAdd,Int.reduceSub,reduceIte,↓reduceIte,reduceCtorEq]
  exact ⟨aJ hp,aJ hq⟩
 ·simp only[Tryz.vr,Value.oneCell',Nat.reduceAdd,Nat.reduceMul,Nat.reduceSub,Nat.reduceLT,Nat.reduceLeDiff,Nat.reduceEqDiff,Int.reduceLE,Int.reduceLT,Int.reduceToNat,Int.reduceNe,Int.reduceEq,Nat.reduceBEq,Nat.reduceDiv,Int.reduceAdd,Int.reduceSub,reduceIte,↓reduceIte,reduceCtorEq]
  refine aH (by simp) ?_
  simp only[Tryz.vr,Value.oneCell',Nat.reduceAdd,Nat.reduceMul,Nat.reduceSub,Nat.reduceLT,Nat.reduceLeDiff,Nat.reduceEqDiff,Int.reduceLE,Int.reduceLT,Int.reduceToNat,Int.reduceNe,Int.reduceEq,Nat.reduceBEq,Nat.reduceDiv,Int.reduceAdd,Int.reduceSub,reduceIte,↓reduceIte,reduceCtorEq]
  exact aC rfl ⟨rfl,rfl⟩
theorem Be {s:AS} {nm t u n:Nat} {f:Nat→En} {v w:SV} {cs ds:List SV} {ra rb:Bool} (hb:s.box t=some ⟨ra,cs⟩) (hp:cs.all SV.plain=true) (hb':s.box u=some ⟨rb,ds⟩) (hq:ds.all SV.plain=true)
  (h0:aY t v n f cs) (h1:aY u w n f ds) (hn:n < 4611686018427387904) {dst:Option Nat} {K:AS→Prop} (hk:K (s.put dst (some (B true)))):
  aB Tryz.prog nm 30 (some [.inl (.inl v), .inl (.inl w)]) dst K s:=by
 obtain ⟨v0,g0,e0⟩:=h0.name (k:=0)
 obtain ⟨w0,g1,e1⟩:=h1.name (k:=1)
 refine (nQ g0 g1 hp hq hn).dV (two t u) (jz hb hp hb' hq) rfl ?_ hk
 simp only[List.map_cons,List.map_nil,AV.bh,CV.bh,e0 (two t u) rfl,e1 (two t u) rfl]
theorem LP {x:St} {n:Nat} {f:Nat→En} {u v:SV} {cs ds:List SV} (h0:aY 0 u n f cs) (h1:aY 1 v n f ds) (hp:cs.all SV.plain=true) (hq:ds.all SV.plain=true) (hn:n < 4611686018427387904):
  bt Tryz.prog 20 [Ag (bO { x with store:=u }),Ag (bO { x with store:=v })] 2 (lk [(0,⟨false,cs⟩),(1,⟨false,ds⟩)]) (fun v out=>v=B true∧out=fun _=>none):=by
 refine aE Tryz.func20 rfl (by kernel_rfl) (by simp[Tryz.ntmps20]) Tryz.pZ (fun y hy=>by
  simp only[List.mem_cons,List.not_mem_nil,or_false]at hy
  rcases hy with rfl | rfl
  ·exact cO (h0.ok (by decide))
  ·exact cO (h1.ok (by decide))) nq (rI hp hq) ?_
 simp only[Tryz.results20,aq,Tryz.vr,Value.oneCell',Nat.reduceAdd,Nat.reduceMul,Nat.reduceSub,Nat.reduceLT,Nat.reduceLeDiff,Nat.reduceEqDiff,Int.reduceLE,Int.reduceLT,Int.reduceToNat,Int.reduceNe,Int.reduceEq,Nat.reduceBEq,Nat.reduceDiv,Int.reduceAdd,Int.reduceSub,reduceIte,↓reduceIte,reduceCtorEq]
 refine Be (n:=n) (f:=f) (t:=0) (u:=1) (ra:=false) (rb:=false) (by simp only[af,Tryz.vr,Value.oneCell',Nat.reduceAdd,Nat.reduceMul,Nat.reduceSub,Nat.reduceLT,Nat.reduceLeDiff,Nat.reduceEqDiff,Int.reduceLE,Int.reduceLT,Int.reduceToNat,Int.reduceNe,Int.reduceEq,Nat.reduceBEq,Nat.reduceDiv,Int.reduceAdd,Int.reduceSub,reduceIte,↓reduceIte,reduceCtorEq]) hp (by simp only[af,Tryz.vr,Value.oneCell',Nat.reduceAdd,Nat.reduceMul,Nat.reduceSub,Nat.reduceLT,Nat.reduceLeDiff,Nat.reduceEqDiff,Int.reduceLE,Int.reduceLT,Int.reduceToNat,Int.reduceNe,Int.reduceEq,Nat.reduceBEq,Nat.reduceDiv,Int.reduceAdd,Int.reduceSub,reduceIte,↓reduceIte,reduceCtorEq]) hq h0 h1 hn ?_
 simp only[Bool.not_true,bne_self_eq_false,beq_self_eq_true,Ow,aq,Tryz.vr,Value.oneCell',Nat.reduceAdd,Nat.reduceMul,Nat.reduceSub,Nat.reduceLT,Nat.reduceLeDiff,Nat.reduceEqDiff,Int.reduceLE,Int.reduceLT,Int.reduceToNat,Int.reduceNe,Int.reduceEq,Nat.reduceBEq,Nat.reduceDiv,Int.reduceAdd,Int.reduceSub,reduceIte,↓reduceIte,reduceCtorEq]
 exact aC rfl ⟨rfl,rfl⟩
end Go.Proofs.YtoakenpcooglpaaGreatDoor
namespace Go.Proofs.YtoakenpcooglpaaGreatDoor
set_option maxHeartbeats 8000000
set_option maxRecDepth 20000
open Go.cA
set_option linter.unusedSectionVars false
variable [aX]
theorem Zv {s:St} {n:Nat} {f:Nat→En} {cs:List SV} (h0:aY 0 s.store n f cs) (hp:cs.all SV.plain=true):
  bt Tryz.prog 54 [Ag (bO s)] 1 (lk [(0,⟨false,cs⟩)]) (fun v out=>v=B (gL s n)∧out=fun _=>none):=by
 refine aE Tryz.func54 rfl (by kernel_rfl) (by simp[Tryz.ntmps54]) Tryz.qu (fun y hy=>by
  obtain rfl:=List.mem_singleton.1 hy
  exact cO (h0.ok (by decide))) eG (eH hp) ?_
 have hl:=h0.len
 rcases Bool.eq_false_or_eq_true (decide (0≤s.skip)) with h0 | h0
 ·rcases Bool.eq_false_or_eq_true (decide (s.skip≤1000)) with h1 | h1
  ·rcases Bool.eq_false_or_eq_true (decide (0≤s.room)) with h2 | h2
   ·rcases Bool.eq_false_or_eq_true (decide (s.room≤1000)) with h3 | h3
    ·rcases Bool.eq_false_or_eq_true (decide ((n:Int)≤s.room)) with h4 | h4
     ·(have e:gL s n=true:=(by simp[gL,h0,h1,h2,h3,h4]);rw[e];simp only[Tryz.results54,h0,h1,h2,h3,h4,Bool.not_true,Bool.not_false,bne,aL,aM,aF,al,aq,hl,Tryz.vr,Value.oneCell',simprocAttr, -List.reduceReplicate];exact aC rfl ⟨rfl,rfl⟩)
     ·(have e:gL s n=false:=(by simp[gL,h0,h1,h2,h3,h4]);rw[e];simp only[Tryz.results54,h0,h1,h2,h3,h4,Bool.not_true,Bool.not_false,bne,aL,aM,aF,al,aq,hl,Tryz.vr,Value.oneCell',simprocAttr, -List.reduceReplicate];exact aC rfl ⟨rfl,rfl⟩)
    ·(have e:gL s n=false:=(by simp[gL,h0,h1,h2,h3]);rw[e];simp only[Tryz.results54,h0,h1,h2,h3,Bool.not_true,Bool.not_false,bne,aL,aM,aF,al,aq,hl,Tryz.vr,Value.oneCell',simprocAttr, -List.reduceReplicate];exact aC rfl ⟨rfl,rfl⟩)
   ·(have e:gL s n=false:=(by simp[gL,h0,h1,h2]);rw[e];simp only[Tryz.results54,h0,h1,h2,Bool.not_true,Bool.not_false,bne,aL,aM,aF,al,aq,hl,Tryz.vr,Value.oneCell',simprocAttr, -List.reduceReplicate];exact aC rfl ⟨rfl,rfl⟩)
  ·(have e:gL s n=false:=(by simp[gL,h0,h1]);rw[e];simp only[Tryz.results54,h0,h1,Bool.not_true,Bool.not_false,bne,aL,aM,aF,al,aq,hl,Tryz.vr,Value.oneCell',simprocAttr, -List.reduceReplicate];exact aC rfl ⟨rfl,rfl⟩)
 ·(have e:gL s n=false:=(by simp[gL,h0]);rw[e];simp only[Tryz.results54,h0,Bool.not_true,Bool.not_false,bne,aL,aM,aF,al,aq,hl,Tryz.vr,Value.oneCell',simprocAttr, -List.reduceReplicate];exact aC rfl ⟨rfl,rfl⟩)
theorem Zw {s:St} {n:Nat} {f:Nat→En} {cs:List SV} (h0:aY 0 s.store n f cs) (hp:cs.all SV.plain=true):
  bt Tryz.prog 55 [Ag (bO s)] 1 (lk [(0,⟨false,cs⟩)]) (fun v out=>v=B (cY s)∧out=fun _=>none):=by
 refine aE Tryz.func55 rfl (by kernel_rfl) (by simp[Tryz.ntmps55]) Tryz.qv (fun y hy=>by
  obtain rfl:=List.mem_singleton.1 hy
  exact cO (h0.ok (by decide))) eG (eH hp) ?_
 have hl:=h0.len
 rcases Bool.eq_false_or_eq_true (s.own) with h0 | h0
 ·rcases Bool.eq_false_or_eq_true (s.peer) with h1 | h1
  ·rcases Bool.eq_false_or_eq_true (s.has) with h2 | h2
   ·(have e:cY s=true:=(by simp[cY,h0,h1,h2]);rw[e];simp only[Tryz.results55,h0,h1,h2,Bool.not_true,Bool.not_false,bne,aL,aM,aF,al,aq,hl,Tryz.vr,Value.oneCell',simprocAttr, -List.reduceReplicate];exact aC rfl ⟨rfl,rfl⟩)
   ·rcases Bool.eq_false_or_eq_true (tv s.send) with h3 | h3
    ·(have e:cY s=true:=(by simp[cY,h0,h1,h2,h3]);rw[e];simp only[Tryz.results55,h0,h1,h2,h3,Bool.not_true,Bool.not_false,bne,aL,aM,aF,al,aq,hl,Tryz.vr,Value.oneCell',simprocAttr, -List.reduceReplicate];exact aC rfl ⟨rfl,rfl⟩)
    ·(have e:cY s=false:=(by simp[cY,h0,h1,h2,h3]);rw[e];simp only[Tryz.results55,h0,h1,h2,h3,Bool.not_true,Bool.not_false,bne,aL,aM,aF,al,aq,hl,Tryz.vr,Value.oneCell',simprocAttr, -List.reduceReplicate];exact aC rfl ⟨rfl,rfl⟩)
  ·rcases Bool.eq_false_or_eq_true (tv s.rU) with h2 | h2
   ·rcases Bool.eq_false_or_eq_true (s.has) with h3 | h3
    ·(have e:cY s=true:=(by simp[cY,h0,h1,h2,h3]);rw[e];simp only[Tryz.results55,h0,h1,h2,h3,Bool.not_true,Bool.not_false,bne,aL,aM,aF,al,aq,hl,Tryz.vr,Value.oneCell',simprocAttr, -List.reduceReplicate];exact aC rfl ⟨rfl,rfl⟩)
    ·rcases Bool.eq_false_or_eq_true (tv s.send) with h4 | h4
     ·(have e:cY s=true:=(by simp[cY,h0,h1,h2,h3,h4]);rw[e];simp only[Tryz.results55,h0,h1,h2,h3,h4,Bool.not_true,Bool.not_false,bne,aL,aM,aF,al,aq,hl,Tryz.vr,Value.oneCell',simprocAttr, -List.reduceReplicate];exact aC rfl ⟨rfl,rfl⟩)
     ·(have e:cY s=false:=(by simp[cY,h0,h1,h2,h3,h4]);rw[e];simp only[Tryz.results55,h0,h1,h2,h3,h4,Bool.not_true,Bool.not_false,bne,aL,aM,aF,al,aq,hl,Tryz.vr,Value.oneCell',simprocAttr, -List.reduceReplicate];exact aC rfl ⟨rfl,rfl⟩)
   ·(have e:cY s=false:=(by simp[cY,h0,h1,h2]);rw[e];simp only[Tryz.results55,h0,h1,h2,Bool.not_true,Bool.not_false,bne,aL,aM,aF,al,aq,hl,Tryz.vr,Value.oneCell',simprocAttr, -List.reduceReplicate];exact aC rfl ⟨rfl,rfl⟩)
 ·rcases Bool.eq_false_or_eq_true (tv s.priv) with h1 | h1
  ·rcases Bool.eq_false_or_eq_true (tv s.cQ) with h2 | h2
   ·rcases Bool.eq_false_or_eq_true (s.peer) with h3 | h3
    ·rcases Bool.eq_false_or_eq_true (s.has) with h4 | h4
     ·(have e:cY s=true:=(by simp[cY,h0,h1,h2,h3,h4]);rw[e];simp only[Tryz.results55,h0,h1,h2,h3,h4,Bool.not_true,Bool.not_false,bne,aL,aM,aF,al,aq,hl,Tryz.vr,Value.oneCell',simprocAttr, -List.reduceReplicate];exact aC rfl ⟨rfl,rfl⟩)
     ·rcases Bool.eq_false_or_eq_true (tv s.send) with h5 | h5
      ·(have e:cY s=true:=(by simp[cY,h0,h1,h2,h3,h4,h5]);rw[e];simp only[Tryz.results55,h0,h1,h2,h3,h4,h5,Bool.not_true,Bool.not_false,bne,aL,aM,aF,al,aq,hl,Tryz.vr,Value.oneCell',simprocAttr, -List.reduceReplicate];exact aC rfl ⟨rfl,rfl⟩)
      ·(have e:cY s=false:=(by simp[cY,h0,h1,h2,h3,h4,h5]);rw[e];simp only[Tryz.results55,h0,h1,h2,h3,h4,h5,Bool.not_true,Bool.not_false,bne,aL,aM,aF,al,aq,hl,Tryz.vr,Value.oneCell',simprocAttr, -List.reduceReplicate];exact aC rfl ⟨rfl,rfl⟩)
    ·rcases Bool.eq_false_or_eq_true (tv s.rU) with h4 | h4
     ·rcases Bool.eq_false_or_eq_true (s.has) with h5 | h5
      ·(have e:cY s=true:=(by simp[cY,h0,h1,h2,h3,h4,h5]);rw[e];simp only[Tryz.results55,h0,h1,h2,h3,h4,h5,Bool.not_true,Bool.not_false,bne,aL,aM,aF,al,aq,hl,Tryz.vr,Value.oneCell',simprocAttr, -List.reduceReplicate];exact aC rfl ⟨rfl,rfl⟩)
      ·rcases Bool.eq_false_or_eq_true (tv s.send) with h6 | h6
       ·(have e:cY s=true:=(by simp[cY,h0,h1,h2,h3,h4,h5,h6]);rw[e];simp only[Tryz.results55,h0,h1,h2,h3,h4,h5,h6,Bool.not_true,Bool.not_false,bne,aL,aM,aF,al,aq,hl,Tryz.vr,Value.oneCell',simprocAttr, -List.reduceReplicate];exact aC rfl ⟨rfl,rfl⟩)
       ·(have e:cY s=false:=(by simp[cY,h0,h1,h2,h3,h4,h5,h6]);rw[e];simp only[Tryz.results55,h0,h1,h2,h3,h4,h5,h6,Bool.not_true,Bool.not_false,bne,aL,aM,aF,al,aq,hl,Tryz.vr,Value.oneCell',simprocAttr, -List.reduceReplicate];exact aC rfl ⟨rfl,rfl⟩)
     ·(have e:cY s=false:=(by simp[cY,h0,h1,h2,h3,h4]);rw[e];simp only[Tryz.results55,h0,h1,h2,h3,h4,Bool.not_true,Bool.not_false,bne,aL,aM,aF,al,aq,hl,Tryz.vr,Value.oneCell',simprocAttr, -List.reduceReplicate];exact aC rfl ⟨rfl,rfl⟩)
   ·(have e:cY s=false:=(by simp[cY,h0,h1,h2]);rw[e];simp only[Tryz.results55,h0,h1,h2,Bool.not_true,Bool.not_false,bne,aL,aM,aF,al,aq,hl,Tryz.vr,Value.oneCell',simprocAttr, -List.reduceReplicate];exact aC rfl ⟨rfl,rfl⟩)
  ·(have e:cY s=false:=(by simp[cY,h0,h1]);rw[e];simp only[Tryz.results55,h0,h1,Bool.not_true,Bool.not_false,bne,aL,aM,aF,al,aq,hl,Tryz.vr,Value.oneCell',simprocAttr, -List.reduceReplicate];exact aC rfl ⟨rfl,rfl⟩)
theorem VG {s:St} {n:Nat} {f:Nat→En} {cs:List SV} (h0:aY 0 s.store n f cs) (hp:cs.all SV.plain=true):
  bt Tryz.prog 56 [Ag (bO s)] 1 (lk [(0,⟨false,cs⟩)]) (fun v out=>v=B (dT s)∧out=fun _=>none):=by
 refine aE Tryz.func56 rfl (by kernel_rfl) (by simp[Tryz.ntmps56]) Tryz.qw (fun y hy=>by
  obtain rfl:=List.mem_singleton.1 hy
  exact cO (h0.ok (by decide))) eG (eH hp) ?_
 have hl:=h0.len
 rcases Bool.eq_false_or_eq_true (s.re==0) with h0 | h0
 ·rcases Bool.eq_false_or_eq_true (tv s.recv) with h1 | h1
  ·rcases Bool.eq_false_or_eq_true (s.nr==0) with h2 | h2
   ·rcases Bool.eq_false_or_eq_true (decide (0 < s.se)) with h3 | h3
    ·(have e:dT s=true:=(by simp[dT,h0,h1,h2,h3]);rw[e];simp only[Tryz.results56,h0,h1,h2,h3,Bool.not_true,Bool.not_false,bne,aL,aM,aF,al,aq,hl,Tryz.vr,Value.oneCell',simprocAttr, -List.reduceReplicate];exact aC rfl ⟨rfl,rfl⟩)
    ·rcases Bool.eq_false_or_eq_true (s.has) with h4 | h4
     ·(have e:dT s=false:=(by simp[dT,h0,h1,h2,h3,h4]);rw[e];simp only[Tryz.results56,h0,h1,h2,h3,h4,Bool.not_true,Bool.not_false,bne,aL,aM,aF,al,aq,hl,Tryz.vr,Value.oneCell',simprocAttr, -List.reduceReplicate];exact aC rfl ⟨rfl,rfl⟩)
     ·rcases Bool.eq_false_or_eq_true (s.ns==0) with h5 | h5
      ·rcases Bool.eq_false_or_eq_true (s.pn==0) with h6 | h6
       ·(have e:dT s=true:=(by simp[dT,h0,h1,h2,h3,h4,h5,h6]);rw[e];simp only[Tryz.results56,h0,h1,h2,h3,h4,h5,h6,Bool.not_true,Bool.not_false,bne,aL,aM,aF,al,aq,hl,Tryz.vr,Value.oneCell',simprocAttr, -List.reduceReplicate];exact aC rfl ⟨rfl,rfl⟩)
       ·(have e:dT s=false:=(by simp[dT,h0,h1,h2,h3,h4,h5,h6]);rw[e];simp only[Tryz.results56,h0,h1,h2,h3,h4,h5,h6,Bool.not_true,Bool.not_false,bne,aL,aM,aF,al,aq,hl,Tryz.vr,Value.oneCell',simprocAttr, -List.reduceReplicate];exact aC rfl ⟨rfl,rfl⟩)
      ·(have e:dT s=false:=(by simp[dT,h0,h1,h2,h3,h4,h5]);rw[e];simp only[Tryz.results56,h0,h1,h2,h3,h4,h5,Bool.not_true,Bool.not_false,bne,aL,aM,aF,al,aq,hl,Tryz.vr,Value.oneCell',simprocAttr, -List.reduceReplicate];exact aC rfl ⟨rfl,rfl⟩)
   ·(have e:dT s=false:=(by simp[dT,h0,h1,h2]);rw[e];simp only[Tryz.results56,h0,h1,h2,Bool.not_true,Bool.not_false,bne,aL,aM,aF,al,aq,hl,Tryz.vr,Value.oneCell',simprocAttr, -List.reduceReplicate];exact aC rfl ⟨rfl,rfl⟩)
  ·(have e:dT s=false:=(by simp[dT,h0,h1]);rw[e];simp only[Tryz.results56,h0,h1,Bool.not_true,Bool.not_false,bne,aL,aM,aF,al,aq,hl,Tryz.vr,Value.oneCell',simprocAttr, -List.reduceReplicate];exact aC rfl ⟨rfl,rfl⟩)
 ·rcases Bool.eq_false_or_eq_true (decide (0 < s.se)) with h1 | h1
  ·(have e:dT s=true:=(by simp[dT,h0,h1]);rw[e];simp only[Tryz.results56,h0,h1,Bool.not_true,Bool.not_false,bne,aL,aM,aF,al,aq,hl,Tryz.vr,Value.oneCell',simprocAttr, -List.reduceReplicate];exact aC rfl ⟨rfl,rfl⟩)
  ·rcases Bool.eq_false_or_eq_true (s.has) with h2 | h2
   ·(have e:dT s=false:=(by simp[dT,h0,h1,h2]);rw[e];simp only[Tryz.results56,h0,h1,h2,Bool.not_true,Bool.not_false,bne,aL,aM,aF,al,aq,hl,Tryz.vr,Value.oneCell',simprocAttr, -List.reduceReplicate];exact aC rfl ⟨rfl,rfl⟩)
   ·rcases Bool.eq_false_or_eq_true (s.ns==0) with h3 | h3
    ·rcases Bool.eq_false_or_eq_true (s.pn==0) with h4 | h4
     ·(have e:dT s=true:=(by simp[dT,h0,h1,h2,h3,h4]);rw[e];simp only[Tryz.results56,h0,h1,h2,h3,h4,Bool.not_true,Bool.not_false,bne,aL,aM,aF,al,aq,hl,Tryz.vr,Value.oneCell',simprocAttr, -List.reduceReplicate];exact aC rfl ⟨rfl,rfl⟩)
     ·(have e:dT s=false:=(by simp[dT,h0,h1,h2,h3,h4]);rw[e];simp only[Tryz.results56,h0,h1,h2,h3,h4,Bool.not_true,Bool.not_false,bne,aL,aM,aF,al,aq,hl,Tryz.vr,Value.oneCell',simprocAttr, -List.reduceReplicate];exact aC rfl ⟨rfl,rfl⟩)
    ·(have e:dT s=false:=(by simp[dT,h0,h1,h2,h3]);rw[e];simp only[Tryz.results56,h0,h1,h2,h3,Bool.not_true,Bool.not_false,bne,aL,aM,aF,al,aq,hl,Tryz.vr,Value.oneCell',simprocAttr, -List.reduceReplicate];exact aC rfl ⟨rfl,rfl⟩)
theorem Zx {s:St} {n:Nat} {f:Nat→En} {cs:List SV} (h0:aY 0 s.store n f cs) (hp:cs.all SV.plain=true):
  bt Tryz.prog 57 [Ag (bO s)] 1 (lk [(0,⟨false,cs⟩)]) (fun v out=>v=B (mW s)∧out=fun _=>none):=by
 refine aE Tryz.func57 rfl (by kernel_rfl) (by simp[Tryz.ntmps57]) Tryz.qx (fun y hy=>by
  obtain rfl:=List.mem_singleton.1 hy
  exact cO (h0.ok (by decide))) eG (eH hp) ?_
 have hl:=h0.len
 rcases Bool.eq_false_or_eq_true (decide (0 < s.se)) with h0 | h0
 ·rcases Bool.eq_false_or_eq_true (s.own) with h1 | h1
  ·rcases Bool.eq_false_or_eq_true (s.peer) with h2 | h2
   ·(have e:mW s=true:=(by simp[mW,h0,h1,h2]);rw[e];simp only[Tryz.results57,h0,h1,h2,Bool.not_true,Bool.not_false,bne,aL,aM,aF,al,aq,hl,Tryz.vr,Value.oneCell',simprocAttr, -List.reduceReplicate];exact aC rfl ⟨rfl,rfl⟩)
   ·(have e:mW s=false:=(by simp[mW,h0,h1,h2]);rw[e];simp only[Tryz.results57,h0,h1,h2,Bool.not_true,Bool.not_false,bne,aL,aM,aF,al,aq,hl,Tryz.vr,Value.oneCell',simprocAttr, -List.reduceReplicate];exact aC rfl ⟨rfl,rfl⟩)
  ·(have e:mW s=false:=(by simp[mW,h0,h1]);rw[e];simp only[Tryz.results57,h0,h1,Bool.not_true,Bool.not_false,bne,aL,aM,aF,al,aq,hl,Tryz.vr,Value.oneCell',simprocAttr, -List.reduceReplicate];exact aC rfl ⟨rfl,rfl⟩)
 ·rcases Bool.eq_false_or_eq_true (decide (0 < s.re)) with h1 | h1
  ·rcases Bool.eq_false_or_eq_true (s.own) with h2 | h2
   ·rcases Bool.eq_false_or_eq_true (s.peer) with h3 | h3
    ·(have e:mW s=true:=(by simp[mW,h0,h1,h2,h3]);rw[e];simp only[Tryz.results57,h0,h1,h2,h3,Bool.not_true,Bool.not_false,bne,aL,aM,aF,al,aq,hl,Tryz.vr,Value.oneCell',simprocAttr, -List.reduceReplicate];exact aC rfl ⟨rfl,rfl⟩)
    ·(have e:mW s=false:=(by simp[mW,h0,h1,h2,h3]);rw[e];simp only[Tryz.results57,h0,h1,h2,h3,Bool.not_true,Bool.not_false,bne,aL,aM,aF,al,aq,hl,Tryz.vr,Value.oneCell',simprocAttr, -List.reduceReplicate];exact aC rfl ⟨rfl,rfl⟩)
   ·(have e:mW s=false:=(by simp[mW,h0,h1,h2]);rw[e];simp only[Tryz.results57,h0,h1,h2,Bool.not_true,Bool.not_false,bne,aL,aM,aF,al,aq,hl,Tryz.vr,Value.oneCell',simprocAttr, -List.reduceReplicate];exact aC rfl ⟨rfl,rfl⟩)
  ·(have e:mW s=true:=(by simp[mW,h0,h1]);rw[e];simp only[Tryz.results57,h0,h1,Bool.not_true,Bool.not_false,bne,aL,aM,aF,al,aq,hl,Tryz.vr,Value.oneCell',simprocAttr, -List.reduceReplicate];exact aC rfl ⟨rfl,rfl⟩)
end Go.Proofs.YtoakenpcooglpaaGreatDoor
namespace Go.Proofs.YtoakenpcooglpaaGreatDoor
set_option maxHeartbeats 8000000
set_option maxRecDepth 20000
open Go.cA
set_option linter.unusedSectionVars false
variable [aX]
theorem ajj {M:Nat→Prop} {e:En}:AV.ok M (Ag (fQ e)):=fun x hx=>SV.bH (List.all_eq_true.1 kg x hx)
theorem rX {s:St} {e:En} (hs:iH s) (he:la e):rW s e=true↔1≤e.ep∧(e.ep < s.re∨e.ep=s.re∧e.n < s.nr):=by
 have w1:=he.ep;have w2:=he.n;have w3:=hs.re;have w4:=hs.nr
 simp only[HD]at w1 w2 w3 w4
 simp only[rW,Bool.and_eq_true,Bool.not_eq_true',beq_eq_false_iff_ne,decide_eq_true_eq]
 unfold rV
 constructor
 ·intro h;have:=h.1;have:=h.2;omega
 ·intro h;exact ⟨by omega,by omega⟩
theorem Zy {s:St} {e:En} {n:Nat} {f:Nat→En} {cs:List SV} (h0:aY 0 s.store n f cs) (hp:cs.all SV.plain=true) (hs:iH s) (he:la e):
  bt Tryz.prog 78 [Ag (bO s),Ag (fQ e)] 1 (lk [(0,⟨false,cs⟩)]) (fun v out=>v=B (rW s e)∧out=fun _=>none):=by
 refine aE Tryz.func78 rfl (by kernel_rfl) (by simp[Tryz.ntmps78]) Tryz.qE (fun y hy=>by
  rcases List.mem_cons.1 hy with rfl | hy
  ·exact cO (h0.ok (by decide))
  ·obtain rfl:=List.mem_singleton.1 hy
   exact ajj) eG (eH hp) ?_
 have w1:=he.ep;have w2:=he.n;have w3:=hs.re;have w4:=hs.nr
 simp only[HD]at w1 w2 w3 w4
 rcases Bool.eq_false_or_eq_true (decide (e.ep < 1)) with h0 | h0
 ·(have gh0:(e.ep < 1):=(by simpa using h0);have e:rW s e=false:=(Bool.eq_false_iff.2 fun hh=>by have:=(rX hs he).1 hh;omega);rw[e];simp only[Tryz.results78,h0,fK,aq,Tryz.vr,Value.oneCell',simprocAttr, -List.reduceReplicate];exact aC rfl ⟨rfl,rfl⟩)
 ·rcases Bool.eq_false_or_eq_true (decide (s.re < e.ep)) with h1 | h1
  ·(have gh0: ¬ (e.ep < 1):=(by simpa using h0);have gh1:(s.re < e.ep):=(by simpa using h1);have e:rW s e=false:=(Bool.eq_false_iff.2 fun hh=>by have:=(rX hs he).1 hh;omega);rw[e];simp only[Tryz.results78,h0,h1,fK,aq,Tryz.vr,Value.oneCell',simprocAttr, -List.reduceReplicate];exact aC rfl ⟨rfl,rfl⟩)
  ·rcases Bool.eq_false_or_eq_true (decide (e.ep < s.re)) with h2 | h2
   ·(have gh0: ¬ (e.ep < 1):=(by simpa using h0);have gh1: ¬ (s.re < e.ep):=(by simpa using h1);have gh2:(e.ep < s.re):=(by simpa using h2);have e:rW s e=true:=((rX hs he).2 (by omega));rw[e];simp only[Tryz.results78,h0,h1,h2,fK,aq,Tryz.vr,Value.oneCell',simprocAttr, -List.reduceReplicate];exact aC rfl ⟨rfl,rfl⟩)
   ·rcases Bool.eq_false_or_eq_true (decide (e.n < s.nr)) with h3 | h3
    ·(have gh0: ¬ (e.ep < 1):=(by simpa using h0);have gh1: ¬ (s.re < e.ep):=(by simpa using h1);have gh2: ¬ (e.ep < s.re):=(by simpa using h2);have gh3:(e.n < s.nr):=(by simpa using h3);have e:rW s e=true:=((rX hs he).2 (by omega));rw[e];simp only[Tryz.results78,h0,h1,h2,h3,fK,aq,Tryz.vr,Value.oneCell',simprocAttr, -List.reduceReplicate];exact aC rfl ⟨rfl,rfl⟩)
    ·(have gh0: ¬ (e.ep < 1):=(by simpa using h0);have gh1: ¬ (s.re < e.ep):=(by simpa using h1);have gh2: ¬ (e.ep < s.re):=(by simpa using h2);have gh3: ¬ (e.n < s.nr):=(by simpa using h3);have e:rW s e=false:=(Bool.eq_false_iff.2 fun hh=>by have:=(rX hs he).1 hh;omega);rw[e];simp only[Tryz.results78,h0,h1,h2,h3,fK,aq,Tryz.vr,Value.oneCell',simprocAttr, -List.reduceReplicate];exact aC rfl ⟨rfl,rfl⟩)
def nR (x y:Int):Int:=if x < y then -1 else if y < x then 1 else 0
def Wy (a b:Int):Int:=if a=0 then b else a
theorem Fs (x:Int):cB Tryz.prog 117 [I .u32 x] (B false):=by
 refine aK Tryz.func117 rfl (by kernel_rfl) (by simp[Tryz.ntmps117]) rfl rfl ?_
 simp only[Tryz.results117,Tryz.vs,Value.oneCell',simprocAttr, -List.reduceReplicate]
 simp
theorem vZ (x y:Int):cB Tryz.prog 101 [I .u32 x,I .u32 y] (I .i64 (nR x y)):=by
 refine aK Tryz.func101 rfl (by kernel_rfl) (by simp[Tryz.ntmps101]) rfl rfl ?_
 simp only[Tryz.results101,Tryz.vs,Value.oneCell',simprocAttr, -List.reduceReplicate]
 refine (Fs x).aB ?_
 simp only[Tryz.vr,Value.oneCell',simprocAttr, -List.reduceReplicate]
 refine (Fs y).aB ?_
 simp only[Tryz.vr,Value.oneCell',simprocAttr, -List.reduceReplicate]
 by_cases h1:x < y
 ·simp only[nR,h1,decide_true,Tryz.vr,Value.oneCell',simprocAttr, -List.reduceReplicate]
 ·by_cases h2:y < x
  ·simp only[nR,h1,h2,decide_true,decide_false,Tryz.vr,Value.oneCell',simprocAttr, -List.reduceReplicate]
  ·simp only[nR,h1,h2,decide_true,decide_false,Tryz.vr,Value.oneCell',simprocAttr, -List.reduceReplicate]
theorem alx (a b:Int):bt Tryz.prog 100 [Sl 0 0 2 2] 1 (lk [(0,⟨false,[Sum.inl (.int .i64 a),Sum.inl (.int .i64 b)]⟩)]) (fun v out=>v=I .i64 (Wy a b)∧out=fun _=>none):=by
 refine aE Tryz.func100 rfl (by kernel_rfl) (by simp[Tryz.ntmps100]) Tryz.nw (by simp[AV.ok,CV.ok,SV.names]) eG (eH rfl) ?_
 simp only[Tryz.results100,Tryz.vr,Value.oneCell',simprocAttr, -List.reduceReplicate]
 have w0:IntKind.i64.wrap 1=1:=by decide
 have w1:IntKind.i64.wrap 2=2:=by decide
 by_cases ha:a=0
 ·have da:(a != 0)=false:=by simp[ha]
  by_cases hb:b=0
  ·have db:(b != 0)=false:=by simp[hb]
   refine aG 2 (fun k=>[(3,I .i64 0),(6,Sl 0 0 2 2),(7,I .i64 2),(8,I .i64 k)]) (fun k=>[(0,⟨false,[Sum.inl (.int .i64 a),Sum.inl (.int .i64 b)]⟩)]) _ ?_ ?_ ?_
   ·simp only[Tryz.vr,Value.oneCell',simprocAttr, -List.reduceReplicate]
   ·intro j hj
    have:j=0∨j=1:=by omega
    rcases this with rfl | rfl
    ·simp only[Tryz.vr,Value.oneCell',simprocAttr, -List.reduceReplicate]
     refine aD rfl ?_
     simp only[da,w0,Tryz.vr,Value.oneCell',simprocAttr, -List.reduceReplicate]
    ·simp only[Tryz.vr,Value.oneCell',simprocAttr, -List.reduceReplicate]
     refine aD rfl ?_
     simp only[db,w1,Tryz.vr,Value.oneCell',simprocAttr, -List.reduceReplicate]
   ·simp only[Tryz.vr,Value.oneCell',simprocAttr, -List.reduceReplicate]
    refine aH rfl ?_
    have e:Wy a b=0:=by simp[Wy,ha,hb]
    simp only[e,Tryz.vr,Value.oneCell',simprocAttr, -List.reduceReplicate]
    exact aC rfl ⟨rfl,rfl⟩
  ·have db:(b != 0)=true:=by simp[hb]
   refine aG 1 (fun k=>[(3,I .i64 0),(6,Sl 0 0 2 2),(7,I .i64 2),(8,I .i64 k)]) (fun k=>[(0,⟨false,[Sum.inl (.int .i64 a),Sum.inl (.int .i64 b)]⟩)]) _ ?_ ?_ ?_
   ·simp only[Tryz.vr,Value.oneCell',simprocAttr, -List.reduceReplicate]
   ·intro j hj
    obtain rfl:j=0:=by omega
    simp only[Tryz.vr,Value.oneCell',simprocAttr, -List.reduceReplicate]
    refine aD rfl ?_
    simp only[da,w0,Tryz.vr,Value.oneCell',simprocAttr, -List.reduceReplicate]
   ·simp only[Tryz.vr,Value.oneCell',simprocAttr, -List.reduceReplicate]
    refine aD rfl ?_
    have e:Wy a b=b:=by simp[Wy,ha]
    simp only[db,e,Tryz.vr,Value.oneCell',simprocAttr, -List.reduceReplicate]
    exact aC rfl ⟨rfl,rfl⟩
 ·have da:(a != 0)=true:=by simp[ha]
  refine aG 0 (fun k=>[(3,I .i64 0),(6,Sl 0 0 2 2),(7,I .i64 2),(8,I .i64 k)]) (fun k=>[(0,⟨false,[Sum.inl (.int .i64 a),Sum.inl (.int .i64 b)]⟩)]) _ ?_ ?_ ?_
  ·simp only[Tryz.vr,Value.oneCell',simprocAttr, -List.reduceReplicate]
  ·intro j hj;omega
  ·simp only[Tryz.vr,Value.oneCell',simprocAttr, -List.reduceReplicate]
   refine aD rfl ?_
   have e:Wy a b=a:=by simp[Wy,ha]
   simp only[da,e,Tryz.vr,Value.oneCell',simprocAttr, -List.reduceReplicate]
   exact aC rfl ⟨rfl,rfl⟩
theorem Ug {x y:En} (hx:la x) (hy:la y):(0≤Wy (nR x.ep y.ep) (nR x.n y.n))↔ ¬ (rV x.ep x.n < rV y.ep y.n):=by
 have w1:=hx.ep;have w2:=hx.n;have w3:=hy.ep;have w4:=hy.n
 simp only[HD]at w1 w2 w3 w4
 unfold rV Wy nR
 constructor
 ·intro h h';revert h;split<;>(try split)<;>(try split)<;>(try split)<;>omega
 ·intro h;split<;>(try split)<;>(try split)<;>(try split)<;>omega
theorem Bf (x y:En):cB Tryz.prog 79 [Ag (fQ x),Ag (fQ y)] (I .i64 (Wy (nR x.ep y.ep) (nR x.n y.n))):=by
 refine aK Tryz.func79 rfl (by kernel_rfl) (by simp[Tryz.ntmps79]) (by simp only[List.all_cons,List.all_nil,Bool.and_true];exact Bool.and_eq_true_iff.2 ⟨show List.all (fQ x) SV.plain=true from kg,show List.all (fQ y) SV.plain=true from kg⟩) rfl ?_
 simp only[Tryz.results79,fK,Tryz.vr,Value.oneCell',simprocAttr, -List.reduceReplicate]
 refine ⟨by kernel_rfl, ?_⟩
 refine cB.draw (vZ x.ep y.ep) Tryz.kP ?_
 simp only[fK,Tryz.vr,Value.oneCell',simprocAttr, -List.reduceReplicate]
 refine cB.draw (vZ x.n y.n) Tryz.kP ?_
 have spl: ∀ a b:SV,splice (splice (ae IntKind.i64 2 fun _=>0) 0 [a]) 1 [b]=[a,b]:=fun _ _=>rfl
 simp only[spl,fK,Tryz.vr,Value.oneCell',simprocAttr, -List.reduceReplicate]
 refine ⟨Nat.le_refl 2, ?_⟩
 refine (alx (nR x.ep y.ep) (nR x.n y.n)).en (fun _=>13) (dp (rw:=true) (cs:=[Sum.inl (Value.int IntKind.i64 (nR x.ep y.ep)),Sum.inl (Value.int IntKind.i64 (nR x.n y.n))]) ?_ rfl) rfl rfl (fun M h n _=>h _ (List.Mem.head _)) ?_
 ·simp only[ax]
 simp only[Tryz.vr,Value.oneCell',simprocAttr, -List.reduceReplicate]
end Go.Proofs.YtoakenpcooglpaaGreatDoor
namespace Go.Proofs.YtoakenpcooglpaaGreatDoor
set_option maxHeartbeats 16000000
set_option maxRecDepth 20000
open Go.cA
set_option linter.unusedSectionVars false
variable [aX]
theorem lC {s:St} {f:Nat→En} {j n:Nat} (hj:j < n) (h:Bc s f j=false):kt s f n=false:=by
 induction n with
 | zero=>omega
 | succ n ih=>
  rw[kt]
  by_cases e:j=n
  ·subst e;rw[h,Bool.and_false]
  ·rw[ih (by omega),Bool.false_and]
theorem Zz {M:Nat→Prop} {s:St} {t o n c:Nat} (e:s.store= .inr (.inr (t,o,n,c))) (h:AV.ok M (Ag (bO s))):M t:=by
 have:s.store ∈ bO s:=by simp[bO,oE]
 have:=(h _ this).1
 rw[e]at this;exact this
theorem GR {s:St} {n:Nat} {f:Nat→En} {cs:List SV} (h0:aY 0 s.store n f cs) (hp:cs.all SV.plain=true) (hs:iH s) (hf: ∀ i,la (f i)) (hn:n < 4611686018427387904):
  bt Tryz.prog 58 [Ag (bO s)] 1 (lk [(0,⟨false,cs⟩)]) (fun v out=>v=B (kt s f n)∧out=fun _=>none):=by
 refine aE Tryz.func58 rfl (by kernel_rfl) (by simp[Tryz.ntmps58]) Tryz.qy (fun y hy=>by
  obtain rfl:=List.mem_singleton.1 hy
  exact cO (h0.ok (by decide))) eG (eH hp) ?_
 have fy: ∀ {M:Nat→Prop},(∀ x ∈ cs,SV.ok M x)=True:=eq_true (aJ hp)
 have hl:=h0.len
 simp only[Tryz.results58,hl,aq,Tryz.vr,Value.oneCell',simprocAttr, -List.reduceReplicate]
 refine xS n (fun k=>kt s f k=true) (fun k=>[(1,Ptr 1 0),(6, .inl (.inl s.store)),(7,I .i64 n),(8,I .i64 k)]) (fun k=>[(0,⟨false,cs⟩),(1,⟨true,bO s⟩)]) _ ?_ ?_ ?_
 ·refine ⟨rfl, ?_⟩
  simp only[fy,Tryz.vr,Value.oneCell',simprocAttr, -List.reduceReplicate]
  exact ⟨(h0.ok (M:=fun n=>n < 7) (by decide)).1,cO (h0.ok (by decide))⟩
 ·intro j hj hinv
  have h1:=h0
  rcases h0 with ⟨_,rfl⟩ | ⟨o,c,e,hc,hsh⟩
  ·omega
  have b1:=hsh.lt hj
  simp only[Tryz.vr,Value.oneCell',simprocAttr, -List.reduceReplicate]
  refine aD (by simp;omega) ?_
  simp only[e,bl,dO hj,hsh j hj,b1,fK,aq,Tryz.vr,Value.oneCell',simprocAttr, -List.reduceReplicate]
  refine ⟨by kernel_rfl, ?_⟩
  refine (Zy h1 hp hs (hf j)).en (fun _=>0) (dp (rw:=false) ?_ hp) rfl ?_ (fun M h n _=>Zz e (h _ (List.Mem.head _))) ?_
  ·simp only[af,Tryz.vr,Value.oneCell',simprocAttr, -List.reduceReplicate]
  ·have:AV.bh (fun _=>0) (Ag (bO s))=Ag (bO s):=by rw[gX];rw[e];simp only[SV.bh];rw[← e]
   have h2:AV.bh (fun _=>0) (Ag (fQ (f j)))=Ag (fQ (f j)):=AV.cw (show AV.plain (Ag (fQ (f j)))=true from kg (e:=f j)) _
   simp only[List.map_cons,List.map_nil,this,h2]
  have nb:AV.ok (fun n=>n < 7) (Ag (bO s)):=cO (h1.ok (by decide))
  rcases Bool.eq_false_or_eq_true (rW s (f j)) with p1 | p1
  ·by_cases j0:j=0
   ·have d0:decide (0 < (j:Int))=false:=decide_eq_false (by omega)
    have g1:kt s f (j+1)=true:=by rw[kt,hinv,Bc,p1,decide_eq_true j0];rfl
    simp only[p1,d0,g1,Bool.not_true,bD j (by omega),Tryz.vr,Value.oneCell',simprocAttr, -List.reduceReplicate]
    exact ⟨aJ hp,nb⟩
   ·have d0:decide (0 < (j:Int))=true:=decide_eq_true (by omega)
    have w1:IntKind.i64.wrap ((j:Int) - 1)=((j - 1:Nat):Int):=ac9 j 1 (by omega) (by omega)
    have Wz:j - 1 < n:=by omega
    have b2:=hsh.lt Wz
    simp only[p1,d0,e,w1,bl,dO Wz,hsh (j - 1) Wz,b2,Bool.not_true,fK,aq,Tryz.vr,Value.oneCell',simprocAttr, -List.reduceReplicate]
    refine cB.draw (Bf (f (j - 1)) (f j)) Tryz.qF ?_
    by_cases hc0:rV (f (j - 1)).ep (f (j - 1)).n < rV (f j).ep (f j).n
    ·have d1:decide (0≤Wy (nR (f (j - 1)).ep (f j).ep) (nR (f (j - 1)).n (f j).n))=false:=decide_eq_false fun h=>(Ug (hf _) (hf _)).1 h hc0
     have g1:kt s f (j+1)=true:=by rw[kt,hinv,Bc,p1,decide_eq_true hc0];simp
     simp only[d1,g1,bD j (by omega),Tryz.vr,Value.oneCell',simprocAttr, -List.reduceReplicate]
     exact ⟨aJ hp,nb⟩
    ·have d1:decide (0≤Wy (nR (f (j - 1)).ep (f j).ep) (nR (f (j - 1)).n (f j).n))=true:=decide_eq_true ((Ug (hf _) (hf _)).2 hc0)
     have g1:kt s f n=false:=lC hj (by rw[Bc,decide_eq_false hc0,decide_eq_false j0];simp)
     simp only[d1,g1,Tryz.vr,Value.oneCell',simprocAttr, -List.reduceReplicate]
     exact aC rfl ⟨rfl,rfl⟩
  ·have g1:kt s f n=false:=lC hj (by rw[Bc,p1];rfl)
   simp only[p1,g1,Bool.not_false,Tryz.vr,Value.oneCell',simprocAttr, -List.reduceReplicate]
   exact aC rfl ⟨rfl,rfl⟩
 ·intro hinv
  simp only[Tryz.vr,Value.oneCell',simprocAttr, -List.reduceReplicate]
  refine aH (by simp) ?_
  simp only[hinv,Tryz.vr,Value.oneCell',simprocAttr, -List.reduceReplicate]
  exact aC rfl ⟨rfl,rfl⟩
theorem gS.calls {P:Program} [cA.Tables P] {s:AS} {nm n fn:Nat} {f:Nat→En} {x:St} {w:AV} (h:gS s.box x.store n f) (hw:AV.plain w=true)
  (hm: ∀ (v:SV) (cs:List SV),aY 0 v n f cs→cs.all SV.plain=true→bt P fn [Ag (bO { x with store:=v })] 1 (lk [(0,⟨false,cs⟩)]) (fun u out=>u=w∧out=fun _=>none)) {dst:Option Nat} {K:AS→Prop} (hk:K (s.put dst (some w))):
  aB P nm fn (some [Ag (bO x)]) dst K s:=by
 obtain ⟨t,rw,cs,hb,hp,hi⟩:=h
 obtain ⟨v0,g0,e0⟩:=hi.name (k:=0)
 refine (hm v0 cs g0 hp).dV (fun _=>t) (dp hb hp) hw ?_ hk
 simp only[List.map_cons,List.map_nil,gX,e0 (fun _=>t) rfl]
theorem ZA {s:St} {v:SV} {f:Nat→En} {n:Nat}:kt { s with store:=v } f n=kt s f n:=by
 induction n with
 | zero=>rfl
 | succ n ih=>rw[kt,kt,ih];rfl
theorem Ox {s:St} {v:SV} {f:Nat→En} {n:Nat}:iq { s with store:=v } n f=iq s n f:=by
 unfold iq;rw[ZA];rfl
theorem abF {s:St} {n:Nat} {f:Nat→En} {cs:List SV} (h0:aY 0 s.store n f cs) (hp:cs.all SV.plain=true) (hs:iH s) (hf: ∀ i,la (f i)) (hn:n < 4611686018427387904):
  bt Tryz.prog 31 [Ag (bO s)] 1 (lk [(0,⟨false,cs⟩)]) (fun v out=>v=B (iq s n f)∧out=fun _=>none):=by
 refine aE Tryz.func31 rfl (by kernel_rfl) (by simp[Tryz.ntmps31]) Tryz.qg (fun y hy=>by
  obtain rfl:=List.mem_singleton.1 hy
  exact cO (h0.ok (by decide))) eG (eH hp) ?_
 have Co: ∀ {box:Nat→Option aW},box 0=some ⟨false,cs⟩→gS box s.store n f:=fun hb=>⟨0,false,cs,hb,hp,h0⟩
 simp only[Tryz.results31,aq,Tryz.vr,Value.oneCell',simprocAttr, -List.reduceReplicate]
 refine gS.calls (n:=n) (f:=f) (w:=B (gL s n)) (Co (by simp only[af,Tryz.vr,Value.oneCell',simprocAttr, -List.reduceReplicate])) rfl (fun v cs hv hp=>Zv (s:={ s with store:=v }) hv hp) ?_
 rcases Bool.eq_false_or_eq_true (gL s n) with b1 | b1
 rotate_left 1
 ·simp only[iq,b1,Bool.false_and,aq,Tryz.vr,Value.oneCell',simprocAttr, -List.reduceReplicate]
  exact aC rfl ⟨rfl,rfl⟩
 have fin: ∀ {t:AS} {b:Bool},b=iq s n f→Ct 1 (fun v out=>v=B (iq s n f)∧out=fun _=>none) (B b) t:=fun e=>aC rfl ⟨by rw[e],rfl⟩
 rcases Bool.eq_false_or_eq_true s.own with b2 | b2
 rotate_left 1
 rcases Bool.eq_false_or_eq_true s.peer with b3 | b3
 rotate_left 1
 ·simp only[b1,b2,b3,aq,Tryz.vr,Value.oneCell',simprocAttr, -List.reduceReplicate]
  exact fin (by simp[iq,b2,b3])
 all_goals
  simp only[b1,b2,aq,Tryz.vr,Value.oneCell',simprocAttr, -List.reduceReplicate]
  try simp only[b3,aq,Tryz.vr,Value.oneCell',simprocAttr, -List.reduceReplicate]
  refine gS.calls (n:=n) (f:=f) (w:=B (cY s)) (Co (by simp only[af,Tryz.vr,Value.oneCell',simprocAttr, -List.reduceReplicate])) rfl (fun v cs hv hp=>Zw (s:={ s with store:=v }) hv hp) ?_
  rcases Bool.eq_false_or_eq_true (cY s) with b4 | b4
  rotate_left 1
  ·simp only[b4,aq,Tryz.vr,Value.oneCell',simprocAttr, -List.reduceReplicate]
   exact fin (by simp[iq,b4])
  simp only[b4,aq,Tryz.vr,Value.oneCell',simprocAttr, -List.reduceReplicate]
  refine gS.calls (n:=n) (f:=f) (w:=B (dT s)) (Co (by simp only[af,Tryz.vr,Value.oneCell',simprocAttr, -List.reduceReplicate])) rfl (fun v cs hv hp=>VG (s:={ s with store:=v }) hv hp) ?_
  rcases Bool.eq_false_or_eq_true (dT s) with b5 | b5
  rotate_left 1
  ·simp only[b5,aq,Tryz.vr,Value.oneCell',simprocAttr, -List.reduceReplicate]
   exact fin (by simp[iq,b5])
  simp only[b5,aq,Tryz.vr,Value.oneCell',simprocAttr, -List.reduceReplicate]
  refine gS.calls (n:=n) (f:=f) (w:=B (mW s)) (Co (by simp only[af,Tryz.vr,Value.oneCell',simprocAttr, -List.reduceReplicate])) rfl (fun v cs hv hp=>Zx (s:={ s with store:=v }) hv hp) ?_
  rcases Bool.eq_false_or_eq_true (mW s) with b6 | b6
  rotate_left 1
  ·simp only[b6,aq,Tryz.vr,Value.oneCell',simprocAttr, -List.reduceReplicate]
   exact fin (by simp[iq,b6])
  simp only[b6,aq,Tryz.vr,Value.oneCell',simprocAttr, -List.reduceReplicate]
  refine gS.calls (n:=n) (f:=f) (w:=B (kt s f n)) (Co (by simp only[af,Tryz.vr,Value.oneCell',simprocAttr, -List.reduceReplicate])) rfl (fun v cs hv hp=>by have:=GR (s:={ s with store:=v }) hv hp (hs.ws v) hf hn;rwa [ZA]at this) ?_
  simp only[aq,Tryz.vr,Value.oneCell',simprocAttr, -List.reduceReplicate]
  exact fin (by simp[iq,b1,b2,b4,b5,b6, *])
end Go.Proofs.YtoakenpcooglpaaGreatDoor
namespace Go.cA
set_option linter.unusedSectionVars false
def iI (x:Int) (j:Nat):Int:=IntKind.u8.wrap (cr .u32 x (24 - 8*(j:Int)))
theorem Bg (x:Int):bY (iI x):=fun i=>by simp only[iI,wrap_u8];omega
theorem aly {g:Nat→Int}:ae .u8 4 g=[Sum.inl (.int .u8 (g 0)),Sum.inl (.int .u8 (g 1)),Sum.inl (.int .u8 (g 2)),Sum.inl (.int .u8 (g 3))]:=rfl
theorem af7 {g:Nat→Int} {a:SV}:splice (ae .u8 4 g) 0 [a]=[a,Sum.inl (.int .u8 (g 1)),Sum.inl (.int .u8 (g 2)),Sum.inl (.int .u8 (g 3))]:=rfl
theorem af8 {a x b c d:SV}:splice [a,x,c,d] 1 [b]=[a,b,c,d]:=rfl
theorem af9 {a b x c d:SV}:splice [a,b,x,d] 2 [c]=[a,b,c,d]:=rfl
theorem af' {a b c x d:SV}:splice [a,b,c,x] 3 [d]=[a,b,c,d]:=rfl
theorem aga {g:Nat→Int}:bE [Sum.inl (.int .u8 (g 0)),Sum.inl (.int .u8 (g 1)),Sum.inl (.int .u8 (g 2)),Sum.inl (.int .u8 (g 3))] 0 4 g:=fun i hi=>by
 rw[← aly];exact aP i hi
theorem abG {α:Type} {Q:α→Prop} {a0:α} (h0:Q a0): ∀ x ∈ [a0],Q x:=fun x hx=>by
 simp only[List.mem_cons,List.not_mem_nil,or_false]at hx
 subst hx
 exact h0
theorem ajk {α:Type} {Q:α→Prop} {a0 a1:α} (h0:Q a0) (h1:Q a1): ∀ x ∈ [a0,a1],Q x:=fun x hx=>by
 simp only[List.mem_cons,List.not_mem_nil,or_false]at hx
 rcases hx with rfl | rfl
 ·exact h0
 ·exact h1
theorem ajl {α:Type} {Q:α→Prop} {a0 a1 a2:α} (h0:Q a0) (h1:Q a1) (h2:Q a2): ∀ x ∈ [a0,a1,a2],Q x:=fun x hx=>by
 simp only[List.mem_cons,List.not_mem_nil,or_false]at hx
 rcases hx with rfl | rfl | rfl
 ·exact h0
 ·exact h1
 ·exact h2
theorem agb {α:Type} {Q:α→Prop} {a0 a1 a2 a3:α} (h0:Q a0) (h1:Q a1) (h2:Q a2) (h3:Q a3): ∀ x ∈ [a0,a1,a2,a3],Q x:=fun x hx=>by
 simp only[List.mem_cons,List.not_mem_nil,or_false]at hx
 rcases hx with rfl | rfl | rfl | rfl
 ·exact h0
 ·exact h1
 ·exact h2
 ·exact h3
theorem agc {s:AS} {k:Nat} {P Q:AV→(Nat→Option aW)→Prop} {v:AV} (h:Ct k P v s) (hi: ∀ v out,P v out→Q v out):Ct k Q v s:=by
 obtain ⟨q,v0,out,h1,h2,h3,h4,h5⟩:=h
 exact ⟨q,v0,out,h1,h2,h3,h4,hi _ _ h5⟩
theorem dw.cell {cs:List SV} {o n:Nat} {f:Nat→En} (h:dw cs o n f) {i k:Nat} (hi:i < n) (hk:k < 66):cs[o+i*66+k]? =(fQ (f i))[k]? :=by
 rw[← h i hi,List.getElem?_take_of_lt hk,List.getElem?_drop]
theorem dw.ep {cs:List SV} {o n:Nat} {f:Nat→En} (h:dw cs o n f) {i:Nat} (hi:i < n):cs[o+i*66]? =some (Sum.inl (.int .u32 (f i).ep)):=h.cell (k:=0) hi (by decide)
theorem dw.num {cs:List SV} {o n:Nat} {f:Nat→En} (h:dw cs o n f) {i:Nat} (hi:i < n):cs[o+i*66+1]? =some (Sum.inl (.int .u32 (f i).n)):=h.cell (k:=1) hi (by decide)
theorem dw.cQ {cs:List SV} {o n:Nat} {f:Nat→En} (h:dw cs o n f) {i:Nat} (hi:i < n):bE cs (o+i*66+2) 32 (f i).cQ:=fun j hj=>by
 have:=h.cell (k:=2+j) hi (by omega)
 rw[af5 j hj]at this
 rw[← this];congr 1;omega
theorem dw.key {cs:List SV} {o n:Nat} {f:Nat→En} (h:dw cs o n f) {i:Nat} (hi:i < n):bE cs (o+i*66+34) 32 (f i).key:=fun j hj=>by
 have:=h.cell (k:=34+j) hi (by omega)
 rw[abE j hj]at this
 rw[← this];congr 1;omega
def K6 (a b c d e f:Nat→Int):List SV:=ae .u8 32 a++(ae .u8 32 b++(ae .u8 32 c++(ae .u8 32 d++(ae .u8 32 e++ae .u8 32 f))))
section
variable {a b c d e f g:Nat→Int}
end
end Go.cA
