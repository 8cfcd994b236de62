/-
  What the statement lends, and how it holds lists against each other.
-/
import Derived.Test.YtoakenpcooglpaaGreatDoorVcgFacts
import Derived.Test.YtoakenpcooglpaaGreatDoorVcgK
import Derived.Test.YtoakenpcooglpaaGreatDoorVcgFR
import Derived.Test.YtoakenpcooglpaaGreatDoorVcgH7
import Derived.Test.YtoakenpcooglpaaGreatDoorVcgK1
import Derived.Test.YtoakenpcooglpaaGreatDoorVcgY
set_option linter.unusedVariables false
set_option linter.unusedSimpArgs false
namespace Go.Proofs.YtoakenpcooglpaaGreatDoor
set_option maxHeartbeats 8000000
set_option maxRecDepth 20000
open Go.cA
set_option linter.unusedSectionVars false
variable [aX]
theorem Vd {n:Nat} {f:Nat→Int} {o o' c c':Nat} {cs ds:List SV} (hc:bE cs o n f) (hd:bE ds o' n f) (hp:cs.all SV.plain=true) (hq:ds.all SV.plain=true) (hn:n < 4611686018427387904):
  bt Tryz.prog 19 [Sl 0 o n c,Sl 1 o' n c'] 2 (lk [(0,⟨false,cs⟩),(1,⟨false,ds⟩)]) (fun v out=>v=B true∧out=fun _=>none):=by
 refine aE Tryz.func19 rfl (by kernel_rfl) (by simp[Tryz.ntmps19]) Tryz.jf (by simp[AV.ok,CV.ok,SV.names]) nq (rI hp hq) ?_
 have fy: ∀ {M:Nat→Prop},(∀ x ∈ cs,SV.ok M x)=True:=eq_true (aJ hp)
 have iU: ∀ {M:Nat→Prop},(∀ x ∈ ds,SV.ok M x)=True:=eq_true (aJ hq)
 simp only[Tryz.results19,bne_self_eq_false,Tryz.vr,Value.oneCell',Nat.reduceAdd,Nat.reduceMul,Nat.reduceSub,Nat.reduceLT,Nat.reduceLeDiff,Nat.reduceEqDiff,Int.reduceLE,Int.reduceLT,Int.reduceToNat,Int.reduceNe,Int.reduceEq,Nat.reduceBEq,Nat.reduceDiv,Int.reduceAdd,Int.reduceSub,reduceIte,↓reduceIte,reduceCtorEq]
 refine aG n (fun k=>[(0,Sl 0 o n c),(1,Sl 1 o' n c'),(12,I .i64 n),(13,I .i64 k)])
  (fun k=>[(0,⟨false,cs⟩),(1,⟨false,ds⟩)]) _ ?_ ?_ ?_
 ·simp only[fy,iU,Tryz.vr,Value.oneCell',Nat.reduceAdd,Nat.reduceMul,Nat.reduceSub,Nat.reduceLT,Nat.reduceLeDiff,Nat.reduceEqDiff,Int.reduceLE,Int.reduceLT,Int.reduceToNat,Int.reduceNe,Int.reduceEq,Nat.reduceBEq,Nat.reduceDiv,Int.reduceAdd,Int.reduceSub,reduceIte,↓reduceIte,reduceCtorEq]
 ·intro j hj
  simp only[Tryz.vr,Value.oneCell',Nat.reduceAdd,Nat.reduceMul,Nat.reduceSub,Nat.reduceLT,Nat.reduceLeDiff,Nat.reduceEqDiff,Int.reduceLE,Int.reduceLT,Int.reduceToNat,Int.reduceNe,Int.reduceEq,Nat.reduceBEq,Nat.reduceDiv,Int.reduceAdd,Int.reduceSub,reduceIte,↓reduceIte,reduceCtorEq]
  refine aD (by simp;omega) ?_
  simp only[bl,dO hj,hc j hj,hd j hj,bne_self_eq_false,bD j (by omega),Tryz.vr,Value.oneCell',Nat.reduceAdd,Nat.reduceMul,Nat.reduceSub,Nat.reduceLT,Nat.reduceLeDiff,Nat.reduceEqDiff,Int.reduceLE,Int.reduceLT,Int.reduceToNat,Int.reduceNe,Int.reduceEq,Nat.reduceBEq,Nat.reduceDiv,Int.reduceAdd,Int.reduceSub,reduceIte,↓reduceIte,reduceCtorEq]
  exact ⟨by kernel_rfl,aJ hp,aJ hq⟩
 ·simp only[Tryz.vr,Value.oneCell',Nat.reduceAdd,Nat.reduceMul,Nat.reduceSub,Nat.reduceLT,Nat.reduceLeDiff,Nat.reduceEqDiff,Int.reduceLE,Int.reduceLT,Int.reduceToNat,Int.reduceNe,Int.reduceEq,Nat.reduceBEq,Nat.reduceDiv,Int.reduceAdd,Int.reduceSub,reduceIte,↓reduceIte,reduceCtorEq]
  refine aH (by simp) ?_
  simp only[Tryz.vr,Value.oneCell',Nat.reduceAdd,Nat.reduceMul,Nat.reduceSub,Nat.reduceLT,Nat.reduceLeDiff,Nat.reduceEqDiff,Int.reduceLE,Int.reduceLT,Int.reduceToNat,Int.reduceNe,Int.reduceEq,Nat.reduceBEq,Nat.reduceDiv,Int.reduceAdd,Int.reduceSub,reduceIte,↓reduceIte,reduceCtorEq]
  exact aC rfl ⟨rfl,rfl⟩
theorem Ve {a:Option Addr} {o c:Nat} {cs:List SV} (hp:cs.all SV.plain=true):
  bt Tryz.prog 19 [V (.slice a 0 0),Sl 0 o 0 c] 1 (lk [(0,⟨false,cs⟩)]) (fun v out=>v=B true∧out=fun _=>none):=by
 refine aE Tryz.func19 rfl (by kernel_rfl) (by simp[Tryz.ntmps19]) Tryz.jf (by simp[AV.ok,CV.ok,SV.names]) eG (eH hp) ?_
 simp only[Tryz.results19,bne_self_eq_false,Tryz.vr,Value.oneCell',Nat.reduceAdd,Nat.reduceMul,Nat.reduceSub,Nat.reduceLT,Nat.reduceLeDiff,Nat.reduceEqDiff,Int.reduceLE,Int.reduceLT,Int.reduceToNat,Int.reduceNe,Int.reduceEq,Nat.reduceBEq,Nat.reduceDiv,Int.reduceAdd,Int.reduceSub,reduceIte,↓reduceIte,reduceCtorEq]
 refine aG 0 (fun k=>[(12,I .i64 0),(13,I .i64 k)]) (fun k=>[]) _ ?_ ?_ ?_
 ·simp only[Tryz.vr,Value.oneCell',Nat.reduceAdd,Nat.reduceMul,Nat.reduceSub,Nat.reduceLT,Nat.reduceLeDiff,Nat.reduceEqDiff,Int.reduceLE,Int.reduceLT,Int.reduceToNat,Int.reduceNe,Int.reduceEq,Nat.reduceBEq,Nat.reduceDiv,Int.reduceAdd,Int.reduceSub,reduceIte,↓reduceIte,reduceCtorEq]
 ·intro j hj;omega
 ·simp only[Tryz.vr,Value.oneCell',Nat.reduceAdd,Nat.reduceMul,Nat.reduceSub,Nat.reduceLT,Nat.reduceLeDiff,Nat.reduceEqDiff,Int.reduceLE,Int.reduceLT,Int.reduceToNat,Int.reduceNe,Int.reduceEq,Nat.reduceBEq,Nat.reduceDiv,Int.reduceAdd,Int.reduceSub,reduceIte,↓reduceIte,reduceCtorEq]
  refine aH (by simp) ?_
  simp only[Tryz.vr,Value.oneCell',Nat.reduceAdd,Nat.reduceMul,Nat.reduceSub,Nat.reduceLT,Nat.reduceLeDiff,Nat.reduceEqDiff,Int.reduceLE,Int.reduceLT,Int.reduceToNat,Int.reduceNe,Int.reduceEq,Nat.reduceBEq,Nat.reduceDiv,Int.reduceAdd,Int.reduceSub,reduceIte,↓reduceIte,reduceCtorEq]
  exact aC rfl ⟨rfl,rfl⟩
theorem Vf {a:Option Addr} {o c:Nat} {cs:List SV} (hp:cs.all SV.plain=true):
  bt Tryz.prog 19 [Sl 0 o 0 c,V (.slice a 0 0)] 1 (lk [(0,⟨false,cs⟩)]) (fun v out=>v=B true∧out=fun _=>none):=by
 refine aE Tryz.func19 rfl (by kernel_rfl) (by simp[Tryz.ntmps19]) Tryz.jf (by simp[AV.ok,CV.ok,SV.names]) eG (eH hp) ?_
 simp only[Tryz.results19,bne_self_eq_false,Tryz.vr,Value.oneCell',Nat.reduceAdd,Nat.reduceMul,Nat.reduceSub,Nat.reduceLT,Nat.reduceLeDiff,Nat.reduceEqDiff,Int.reduceLE,Int.reduceLT,Int.reduceToNat,Int.reduceNe,Int.reduceEq,Nat.reduceBEq,Nat.reduceDiv,Int.reduceAdd,Int.reduceSub,reduceIte,↓reduceIte,reduceCtorEq]
 refine aG 0 (fun k=>[(12,I .i64 0),(13,I .i64 k)]) (fun k=>[]) _ ?_ ?_ ?_
 ·simp only[Tryz.vr,Value.oneCell',Nat.reduceAdd,Nat.reduceMul,Nat.reduceSub,Nat.reduceLT,Nat.reduceLeDiff,Nat.reduceEqDiff,Int.reduceLE,Int.reduceLT,Int.reduceToNat,Int.reduceNe,Int.reduceEq,Nat.reduceBEq,Nat.reduceDiv,Int.reduceAdd,Int.reduceSub,reduceIte,↓reduceIte,reduceCtorEq]
 ·intro j hj;omega
 ·simp only[Tryz.vr,Value.oneCell',Nat.reduceAdd,Nat.reduceMul,Nat.reduceSub,Nat.reduceLT,Nat.reduceLeDiff,Nat.reduceEqDiff,Int.reduceLE,Int.reduceLT,Int.reduceToNat,Int.reduceNe,Int.reduceEq,Nat.reduceBEq,Nat.reduceDiv,Int.reduceAdd,Int.reduceSub,reduceIte,↓reduceIte,reduceCtorEq]
  refine aH (by simp) ?_
  simp only[Tryz.vr,Value.oneCell',Nat.reduceAdd,Nat.reduceMul,Nat.reduceSub,Nat.reduceLT,Nat.reduceLeDiff,Nat.reduceEqDiff,Int.reduceLE,Int.reduceLT,Int.reduceToNat,Int.reduceNe,Int.reduceEq,Nat.reduceBEq,Nat.reduceDiv,Int.reduceAdd,Int.reduceSub,reduceIte,↓reduceIte,reduceCtorEq]
  exact aC rfl ⟨rfl,rfl⟩
theorem Vg {a a':Option Addr}:bt Tryz.prog 19 [V (.slice a 0 0),V (.slice a' 0 0)] 0 (fun _=>none) (fun v out=>v=B true∧out=fun _=>none):=by
 refine aE Tryz.func19 rfl (by kernel_rfl) (by simp[Tryz.ntmps19]) Tryz.jf (by simp[AV.ok,CV.ok,SV.names]) xQ xR ?_
 simp only[Tryz.results19,bne_self_eq_false,Tryz.vr,Value.oneCell',Nat.reduceAdd,Nat.reduceMul,Nat.reduceSub,Nat.reduceLT,Nat.reduceLeDiff,Nat.reduceEqDiff,Int.reduceLE,Int.reduceLT,Int.reduceToNat,Int.reduceNe,Int.reduceEq,Nat.reduceBEq,Nat.reduceDiv,Int.reduceAdd,Int.reduceSub,reduceIte,↓reduceIte,reduceCtorEq]
 refine aG 0 (fun k=>[(12,I .i64 0),(13,I .i64 k)]) (fun k=>[]) _ ?_ ?_ ?_
 ·simp only[Tryz.vr,Value.oneCell',Nat.reduceAdd,Nat.reduceMul,Nat.reduceSub,Nat.reduceLT,Nat.reduceLeDiff,Nat.reduceEqDiff,Int.reduceLE,Int.reduceLT,Int.reduceToNat,Int.reduceNe,Int.reduceEq,Nat.reduceBEq,Nat.reduceDiv,Int.reduceAdd,Int.reduceSub,reduceIte,↓reduceIte,reduceCtorEq]
 ·intro j hj;omega
 ·simp only[Tryz.vr,Value.oneCell',Nat.reduceAdd,Nat.reduceMul,Nat.reduceSub,Nat.reduceLT,Nat.reduceLeDiff,Nat.reduceEqDiff,Int.reduceLE,Int.reduceLT,Int.reduceToNat,Int.reduceNe,Int.reduceEq,Nat.reduceBEq,Nat.reduceDiv,Int.reduceAdd,Int.reduceSub,reduceIte,↓reduceIte,reduceCtorEq]
  refine aH (by simp) ?_
  simp only[Tryz.vr,Value.oneCell',Nat.reduceAdd,Nat.reduceMul,Nat.reduceSub,Nat.reduceLT,Nat.reduceLeDiff,Nat.reduceEqDiff,Int.reduceLE,Int.reduceLT,Int.reduceToNat,Int.reduceNe,Int.reduceEq,Nat.reduceBEq,Nat.reduceDiv,Int.reduceAdd,Int.reduceSub,reduceIte,↓reduceIte,reduceCtorEq]
  exact aC rfl ⟨rfl,rfl⟩
theorem Wi {s:AS} {nm:Nat} {v u:AV} {n:Nat} {f:Nat→Int} (hn:n < 4611686018427387904) (h1:bC s.box v n f) (h2:bC s.box u n f) {dst:Option Nat} {K:AS→Prop} (hk:K (s.put dst (some (B true)))):
  aB Tryz.prog nm 19 (some [v,u]) dst K s:=by
 rcases h1 with ⟨⟨a,rfl⟩,rfl⟩ | ⟨t,o,c,rw1,cs,rfl,hb,hp,hc⟩<;>rcases h2 with ⟨⟨a',rfl⟩,h0⟩ | ⟨t',o',c',rw2,ds,rfl,hb',hq,hd⟩
 ·exact Vg.dV (fun n=>n) gI rfl rfl hk
 ·exact (Ve hq).dV (fun _=>t') (dp hb' hq) rfl rfl hk
 ·subst h0
  exact (Vf hp).dV (fun _=>t) (dp hb hp) rfl rfl hk
 ·exact (Vd hc hd hp hq hn).dV (two t t') (jz hb hp hb' hq) rfl rfl hk
theorem oK {s:AS} {nm:Nat} {v u:AV} {n:Nat} {f:Nat→Int} (hn:n < 4611686018427387904) (h1:bC s.box v n f) (h2:bC s.box u n f) {ops:Array Oper} {i:Nat} {dst:Option Nat} {K:AS→Prop} (hk:K (s.put dst (some (B true)))):
  mG Tryz.prog ops i nm 19 (some [v,u]) dst K s:=by
 rcases h1 with ⟨⟨a,rfl⟩,rfl⟩ | ⟨t,o,c,rw1,cs,rfl,hb,hp,hc⟩<;>rcases h2 with ⟨⟨a',rfl⟩,h0⟩ | ⟨t',o',c',rw2,ds,rfl,hb',hq,hd⟩
 ·exact Vg.en (fun n=>n) gI rfl rfl (fun M h n hn=>by omega) hk
 ·exact (Ve hq).en (fun _=>t') (dp hb' hq) rfl rfl (fun M h n _=>h (Sl t' o' 0 c') (List.Mem.tail _ (List.Mem.head _))) hk
 ·subst h0
  exact (Vf hp).en (fun _=>t) (dp hb hp) rfl rfl (fun M h n _=>h (Sl t o 0 c) (List.Mem.head _)) hk
 ·exact (Vd hc hd hp hq hn).en (two t t') (jz hb hp hb' hq) rfl rfl (fun M h n' hn'=>by
   rcases Nat.lt_or_ge n' 1 with h0 | h0
   ·rw[show n'=0 by omega];exact h (Sl t o n c) (List.Mem.head _)
   ·rw[show n'=1 by omega];exact h (Sl t' o' n c') (List.Mem.tail _ (List.Mem.head _))) hk
theorem aaI {n:Nat} {f:Nat→Int} {o c:Nat} {cs:List SV} (hc:bE cs o n f) (hp:cs.all SV.plain=true) (hn:n≤140737488355328):
  bt Tryz.prog 15 [Sl 0 o n c] 1 (lk [(0,⟨false,cs⟩)]) (Made 1 n f):=by
 refine aE Tryz.func15 rfl (by kernel_rfl) (by simp[Tryz.ntmps15]) Tryz.l9 (by simp[AV.ok,CV.ok,SV.names]) eG (eH hp) ?_
 simp only[Tryz.results15,Tryz.vr,Value.oneCell',Nat.reduceAdd,Nat.reduceMul,Nat.reduceSub,Nat.reduceLT,Nat.reduceLeDiff,Nat.reduceEqDiff,Int.reduceLE,Int.reduceLT,Int.reduceToNat,Int.reduceNe,Int.reduceEq,Nat.reduceBEq,Nat.reduceDiv,Int.reduceAdd,Int.reduceSub,reduceIte,↓reduceIte,reduceCtorEq]
 refine hH (b:=2) (olds:=[]) (news:=ae .u8 n f) (m:=n) Tryz.bS Tryz.bW rfl (by decide) rfl rfl rfl (Nat.le_refl _) rfl QA aw
  (.inl ⟨0,o,c,⟨false,cs⟩,rfl,rfl,by rw[ah,Nat.mul_one],fk hc,by decide⟩) (by omega) (by omega) ?_
 intro c' tail h1 h2 h3
 simp only[Tryz.vr,Value.oneCell',Nat.reduceAdd,Nat.reduceMul,Nat.reduceSub,Nat.reduceLT,Nat.reduceLeDiff,Nat.reduceEqDiff,Int.reduceLE,Int.reduceLT,Int.reduceToNat,Int.reduceNe,Int.reduceEq,Nat.reduceBEq,Nat.reduceDiv,Int.reduceAdd,Int.reduceSub,reduceIte,↓reduceIte,reduceCtorEq]
 refine dS (k:=1) (q:=4) (cs:=ae .u8 n f++tail) (by decide) ?_ (cH h3) ⟨c',tail,rfl,rfl,by omega,by omega,h3⟩
 simp only[Tryz.vr,Value.oneCell',Nat.reduceAdd,Nat.reduceMul,Nat.reduceSub,Nat.reduceLT,Nat.reduceLeDiff,Nat.reduceEqDiff,Int.reduceLE,Int.reduceLT,Int.reduceToNat,Int.reduceNe,Int.reduceEq,Nat.reduceBEq,Nat.reduceDiv,Int.reduceAdd,Int.reduceSub,reduceIte,↓reduceIte,reduceCtorEq]
theorem aaJ {a:Option Addr} {f:Nat→Int}:bt Tryz.prog 15 [V (.slice a 0 0)] 0 (fun _=>none) (Made 0 0 f):=by
 refine aE Tryz.func15 rfl (by kernel_rfl) (by simp[Tryz.ntmps15]) Tryz.l9 (by simp[AV.ok,CV.ok,SV.names]) xQ xR ?_
 simp only[Tryz.results15,Tryz.vr,Value.oneCell',Nat.reduceAdd,Nat.reduceMul,Nat.reduceSub,Nat.reduceLT,Nat.reduceLeDiff,Nat.reduceEqDiff,Int.reduceLE,Int.reduceLT,Int.reduceToNat,Int.reduceNe,Int.reduceEq,Nat.reduceBEq,Nat.reduceDiv,Int.reduceAdd,Int.reduceSub,reduceIte,↓reduceIte,reduceCtorEq]
 refine hH (b:=1) (olds:=[]) (news:=[]) (m:=0) Tryz.bS Tryz.bW rfl (by decide) rfl rfl rfl (Nat.le_refl _) rfl QA aw
  (.inr ⟨⟨_,rfl⟩,rfl,rfl⟩) (by omega) (by omega) ?_
 intro c' tail h1 h2 h3
 simp only[Tryz.vr,Value.oneCell',Nat.reduceAdd,Nat.reduceMul,Nat.reduceSub,Nat.reduceLT,Nat.reduceLeDiff,Nat.reduceEqDiff,Int.reduceLE,Int.reduceLT,Int.reduceToNat,Int.reduceNe,Int.reduceEq,Nat.reduceBEq,Nat.reduceDiv,Int.reduceAdd,Int.reduceSub,reduceIte,↓reduceIte,reduceCtorEq]
 refine dS (k:=0) (q:=3) (cs:=ae .u8 0 f++tail) (by decide) ?_ (cH h3) ⟨c',tail,rfl,rfl,by omega,by omega,h3⟩
 simp only[Tryz.vr,Value.oneCell',Nat.reduceAdd,Nat.reduceMul,Nat.reduceSub,Nat.reduceLT,Nat.reduceLeDiff,Nat.reduceEqDiff,Int.reduceLE,Int.reduceLT,Int.reduceToNat,Int.reduceNe,Int.reduceEq,Nat.reduceBEq,Nat.reduceDiv,Int.reduceAdd,Int.reduceSub,reduceIte,↓reduceIte,reduceCtorEq]
 rfl
def eO (k n c:Nat):AV:=Ag [Sum.inr (Sum.inr (k,0,n+64,c)),Sum.inl (.int .i64 n)]
def acw (k n:Nat) (f:Nat→Int) (v:AV) (out:Nat→Option aW):Prop:=
 ∃ c tail,v=eO k n c∧out=lk [(k,⟨true,ae .u8 n f++(ae .u8 64 (fun _=>0)++tail)⟩)]∧n+64≤c∧tail.length=c - (n+64)∧tail.all SV.plain=true
theorem iP {n:Nat} {f:Nat→Int} {tail:List SV} (h:tail.all SV.plain=true):(ae .u8 n f++(ae .u8 64 (fun _=>0)++tail)).all SV.plain=true:=by
 rw[List.all_append,aw,cH h];rfl
theorem Ht {M:Nat→Prop} {k n c:Nat} (h:M k):AV.ok M (eO k n c):=by
 intro x hx
 simp only[List.mem_cons,List.not_mem_nil,or_false]at hx
 rcases hx with rfl | rfl
 ·exact ⟨h,rfl⟩
 ·exact ⟨trivial,rfl⟩
theorem MT {s:AS} {k q n c:Nat} {f:Nat→Int} {tail:List SV} (hq:k≤q) (hb:s.box q=some ⟨true,ae .u8 n f++(ae .u8 64 (fun _=>0)++tail)⟩) (h1:n+64≤c) (h2:tail.length=c - (n+64)) (h3:tail.all SV.plain=true):
  Ct k (acw k n f) (eO q n c) s:=by
 refine ⟨q,eO k n c,lk [(k,⟨true,ae .u8 n f++(ae .u8 64 (fun _=>0)++tail)⟩)],hq, ?_, ?_,fun m b hm=> ?_,c,tail,rfl,rfl,h1,h2,h3⟩
 ·show eO q n c=eO (mH k q k) n c
  rw[kM]
 ·intro x hx
  simp only[List.mem_cons,List.not_mem_nil,or_false]at hx
  rcases hx with rfl | rfl
  ·exact ⟨Nat.lt_succ_self k,rfl⟩
  ·exact ⟨trivial,rfl⟩
 ·simp only[lk]at hm
  split at hm
  ·rename_i e
   simp only[Option.some.injEq]at hm;subst e hm
   exact ⟨Nat.lt_succ_self m,fun _=>rfl,aJ (iP h3),_,by rw[kM];exact hb,fun _=>rfl,(bj (iP h3) _).symm⟩
  ·cases hm
theorem agM {n:Nat} {f:Nat→Int} {o c:Nat} {cs:List SV} (hc:bE cs o n f) (hp:cs.all SV.plain=true) (hn:n+64≤140737488355328):
  bt Tryz.prog 5 [Sl 0 o n c] 1 (lk [(0,⟨false,cs⟩)]) (acw 1 n f):=by
 refine aE Tryz.func5 rfl (by kernel_rfl) (by simp[Tryz.ntmps5]) Tryz.oD (by simp[AV.ok,CV.ok,SV.names]) eG (eH hp) ?_
 simp only[Tryz.results5,Tryz.vr,Value.oneCell',Nat.reduceAdd,Nat.reduceMul,Nat.reduceSub,Nat.reduceLT,Nat.reduceLeDiff,Nat.reduceEqDiff,Int.reduceLE,Int.reduceLT,Int.reduceToNat,Int.reduceNe,Int.reduceEq,Nat.reduceBEq,Nat.reduceDiv,Int.reduceAdd,Int.reduceSub,reduceIte,↓reduceIte,reduceCtorEq]
 refine dW (aaI hc hp (by omega)) (fun _=>0) (dp (rw:=false) (by simp only[af,Tryz.vr,Value.oneCell',Nat.reduceAdd,Nat.reduceMul,Nat.reduceSub,Nat.reduceLT,Nat.reduceLeDiff,Nat.reduceEqDiff,Int.reduceLE,Int.reduceLT,Int.reduceToNat,Int.reduceNe,Int.reduceEq,Nat.reduceBEq,Nat.reduceDiv,Int.reduceAdd,Int.reduceSub,reduceIte,↓reduceIte,reduceCtorEq]) hp) rfl ?_
 intro c1 eJ h1 h2 h3
 simp only[Tryz.vr,Value.oneCell',Nat.reduceAdd,Nat.reduceMul,Nat.reduceSub,Nat.reduceLT,Nat.reduceLeDiff,Nat.reduceEqDiff,Int.reduceLE,Int.reduceLT,Int.reduceToNat,Int.reduceNe,Int.reduceEq,Nat.reduceBEq,Nat.reduceDiv,Int.reduceAdd,Int.reduceSub,reduceIte,↓reduceIte,reduceCtorEq]
 refine mI (b:=3) (o:=0) (n:=n) (c:=c1) (m:=64) (cs:=ae .u8 n f++eJ) (olds:=ae .u8 n f) Tryz.bS Tryz.I7 rfl (by decide) rfl (by simp only[af,Tryz.vr,Value.oneCell',Nat.reduceAdd,Nat.reduceMul,Nat.reduceSub,Nat.reduceLT,Nat.reduceLeDiff,Nat.reduceEqDiff,Int.reduceLE,Int.reduceLT,Int.reduceToNat,Int.reduceNe,Int.reduceEq,Nat.reduceBEq,Nat.reduceDiv,Int.reduceAdd,Int.reduceSub,reduceIte,↓reduceIte,reduceCtorEq]) (by rw[List.length_append,ah];omega)
  (by rw[ah,Nat.mul_one]) (fk cV) (cH h3) (by decide) (by decide) (by decide) (by omega) (by omega) ?_
 intro c' tail h1' h2' h3'
 simp only[xZ,List.append_assoc,Tryz.vs,Value.oneCell',Nat.reduceAdd,Nat.reduceMul,Nat.reduceSub,Nat.reduceLT,Nat.reduceLeDiff,Nat.reduceEqDiff,Int.reduceLE,Int.reduceLT,Int.reduceToNat,Int.reduceNe,Int.reduceEq,Nat.reduceBEq,Nat.reduceDiv,Int.reduceAdd,Int.reduceSub,reduceIte,↓reduceIte,reduceCtorEq]
 refine MT (k:=1) (q:=4) (by decide) ?_ h1' (by omega) h3'
 simp only[Tryz.vr,Value.oneCell',Nat.reduceAdd,Nat.reduceMul,Nat.reduceSub,Nat.reduceLT,Nat.reduceLeDiff,Nat.reduceEqDiff,Int.reduceLE,Int.reduceLT,Int.reduceToNat,Int.reduceNe,Int.reduceEq,Nat.reduceBEq,Nat.reduceDiv,Int.reduceAdd,Int.reduceSub,reduceIte,↓reduceIte,reduceCtorEq]
theorem agN {a:Option Addr} {f:Nat→Int}:bt Tryz.prog 5 [V (.slice a 0 0)] 0 (fun _=>none) (acw 0 0 f):=by
 refine aE Tryz.func5 rfl (by kernel_rfl) (by simp[Tryz.ntmps5]) Tryz.oD (by simp[AV.ok,CV.ok,SV.names]) xQ xR ?_
 simp only[Tryz.results5,Tryz.vr,Value.oneCell',Nat.reduceAdd,Nat.reduceMul,Nat.reduceSub,Nat.reduceLT,Nat.reduceLeDiff,Nat.reduceEqDiff,Int.reduceLE,Int.reduceLT,Int.reduceToNat,Int.reduceNe,Int.reduceEq,Nat.reduceBEq,Nat.reduceDiv,Int.reduceAdd,Int.reduceSub,reduceIte,↓reduceIte,reduceCtorEq]
 refine dW (f:=f) aaJ (fun n=>n) gI rfl ?_
 intro c1 eJ h1 h2 h3
 simp only[Tryz.vr,Value.oneCell',Nat.reduceAdd,Nat.reduceMul,Nat.reduceSub,Nat.reduceLT,Nat.reduceLeDiff,Nat.reduceEqDiff,Int.reduceLE,Int.reduceLT,Int.reduceToNat,Int.reduceNe,Int.reduceEq,Nat.reduceBEq,Nat.reduceDiv,Int.reduceAdd,Int.reduceSub,reduceIte,↓reduceIte,reduceCtorEq]
 refine mI (b:=2) (o:=0) (n:=0) (c:=c1) (m:=64) (cs:=ae .u8 0 f++eJ) (olds:=ae .u8 0 f) Tryz.bS Tryz.I7 rfl (by decide) rfl (by simp only[af,Tryz.vr,Value.oneCell',Nat.reduceAdd,Nat.reduceMul,Nat.reduceSub,Nat.reduceLT,Nat.reduceLeDiff,Nat.reduceEqDiff,Int.reduceLE,Int.reduceLT,Int.reduceToNat,Int.reduceNe,Int.reduceEq,Nat.reduceBEq,Nat.reduceDiv,Int.reduceAdd,Int.reduceSub,reduceIte,↓reduceIte,reduceCtorEq]) (by rw[List.length_append,ah];omega)
  (by rw[ah,Nat.mul_one]) (fk cV) (cH h3) (by decide) (by decide) (by decide) (by omega) (by omega) ?_
 intro c' tail h1' h2' h3'
 simp only[xZ,List.append_assoc,Tryz.vs,Value.oneCell',Nat.reduceAdd,Nat.reduceMul,Nat.reduceSub,Nat.reduceLT,Nat.reduceLeDiff,Nat.reduceEqDiff,Int.reduceLE,Int.reduceLT,Int.reduceToNat,Int.reduceNe,Int.reduceEq,Nat.reduceBEq,Nat.reduceDiv,Int.reduceAdd,Int.reduceSub,reduceIte,↓reduceIte,reduceCtorEq]
 refine MT (k:=0) (q:=3) (by decide) ?_ h1' (by omega) h3'
 simp only[Tryz.vr,Value.oneCell',Nat.reduceAdd,Nat.reduceMul,Nat.reduceSub,Nat.reduceLT,Nat.reduceLeDiff,Nat.reduceEqDiff,Int.reduceLE,Int.reduceLT,Int.reduceToNat,Int.reduceNe,Int.reduceEq,Nat.reduceBEq,Nat.reduceDiv,Int.reduceAdd,Int.reduceSub,reduceIte,↓reduceIte,reduceCtorEq]
theorem agO {n c:Nat} {cs:List SV} (hn:n+64≤c) (hp:cs.all SV.plain=true):bt Tryz.prog 8 [eO 0 n c] 1 (lk [(0,⟨false,cs⟩)]) (fun v out=>v=Sl 0 0 n c∧out=fun _=>none):=by
 refine aE Tryz.func8 rfl (by kernel_rfl) (by simp[Tryz.ntmps8]) Tryz.tm (fun v hv=>by rw[List.mem_singleton.1 hv];exact Ht (by decide)) eG (eH hp) ?_
 have h1:((n:Int)≤(c:Int))=True:=eq_true (by omega)
 simp only[Tryz.results8,eO,bl,h1,Tryz.vr,Value.oneCell',Nat.reduceAdd,Nat.reduceMul,Nat.reduceSub,Nat.reduceLT,Nat.reduceLeDiff,Nat.reduceEqDiff,Int.reduceLE,Int.reduceLT,Int.reduceToNat,Int.reduceNe,Int.reduceEq,Nat.reduceBEq,Nat.reduceDiv,Int.reduceAdd,Int.reduceSub,reduceIte,↓reduceIte,reduceCtorEq]
 exact afU (by decide) ⟨rfl,rfl⟩
theorem Ph {n o c:Nat} {f:Nat→Int} {tail:List SV} (hp:tail.all SV.plain=true) (hn:n < 4611686018427387904) (ho:o=0):
  bt Tryz.prog 11 [Sl 0 o n c] 1 (lk [(0,⟨true,ae .u8 n f++tail⟩)]) (fun v out=>v= .inr []∧out=lk [(0,⟨true,ae .u8 n (fun i=>aS .xor .u8 (f i) 165)++tail⟩)]):=by
 subst ho
 refine aE Tryz.func11 rfl (by kernel_rfl) (by simp[Tryz.ntmps11]) Tryz.pT (by simp[AV.ok,CV.ok,SV.names]) eG (eH (cH hp)) ?_
 simp only[Tryz.results11,Tryz.vr,Value.oneCell',Nat.reduceAdd,Nat.reduceMul,Nat.reduceSub,Nat.reduceLT,Nat.reduceLeDiff,Nat.reduceEqDiff,Int.reduceLE,Int.reduceLT,Int.reduceToNat,Int.reduceNe,Int.reduceEq,Nat.reduceBEq,Nat.reduceDiv,Int.reduceAdd,Int.reduceSub,reduceIte,↓reduceIte,reduceCtorEq]
 refine aG n (fun k=>[(0,Sl 0 0 n c),(4,I .i64 n),(5,I .i64 k)])
  (fun k=>[(0,⟨true,ae .u8 n (fun i=>if i < k then aS .xor .u8 (f i) 165 else f i)++tail⟩)]) _ ?_ ?_ ?_
 ·simp only[Nat.not_lt_zero,if_false,Tryz.vr,Value.oneCell',Nat.reduceAdd,Nat.reduceMul,Nat.reduceSub,Nat.reduceLT,Nat.reduceLeDiff,Nat.reduceEqDiff,Int.reduceLE,Int.reduceLT,Int.reduceToNat,Int.reduceNe,Int.reduceEq,Nat.reduceBEq,Nat.reduceDiv,Int.reduceAdd,Int.reduceSub,reduceIte,↓reduceIte,reduceCtorEq]
  exact aJ (cH hp)
 ·intro j hj
  have hg: ∀ g:Nat→Int,(ae .u8 n g++tail)[j]? =some (Sum.inl (.int .u8 (g j))):=fun g=>by
   have:=cV (n:=n) (f:=g) (tail:=tail) j hj
   rwa [Nat.zero_add]at this
  have hs: ∀ (g:Nat→Int) (v:Int),splice (ae .u8 n g++tail) j [Sum.inl (Value.int .u8 v)]=ae .u8 n (upd g j v)++tail:=fun g v=>by
   rw[← aA .u8 n g j hj]
   simp only[splice,List.length_singleton]
   rw[List.take_append_of_le_length (by rw[ah];omega),List.drop_append_of_le_length (by rw[ah];omega)]
   simp only[List.append_assoc]
  simp only[Tryz.vr,Value.oneCell',Nat.reduceAdd,Nat.reduceMul,Nat.reduceSub,Nat.reduceLT,Nat.reduceLeDiff,Nat.reduceEqDiff,Int.reduceLE,Int.reduceLT,Int.reduceToNat,Int.reduceNe,Int.reduceEq,Nat.reduceBEq,Nat.reduceDiv,Int.reduceAdd,Int.reduceSub,reduceIte,↓reduceIte,reduceCtorEq]
  refine aD (by simp;omega) ?_
  simp only[bl,dO hj,hg,hs,Nat.lt_irrefl,if_false,bD j (by omega),Tryz.vr,Value.oneCell',Nat.reduceAdd,Nat.reduceMul,Nat.reduceSub,Nat.reduceLT,Nat.reduceLeDiff,Nat.reduceEqDiff,Int.reduceLE,Int.reduceLT,Int.reduceToNat,Int.reduceNe,Int.reduceEq,Nat.reduceBEq,Nat.reduceDiv,Int.reduceAdd,Int.reduceSub,reduceIte,↓reduceIte,reduceCtorEq]
  refine ⟨by rw[List.length_append,ah];omega, ?_⟩
  exact ⟨congrArg (fun c=>some (aW.mk true (c++tail))) (fj (f:=fun i=>aS .xor .u8 (f i) 165) (g:=f)),aJ (cH hp)⟩
 ·simp only[Tryz.vr,Value.oneCell',Nat.reduceAdd,Nat.reduceMul,Nat.reduceSub,Nat.reduceLT,Nat.reduceLeDiff,Nat.reduceEqDiff,Int.reduceLE,Int.reduceLT,Int.reduceToNat,Int.reduceNe,Int.reduceEq,Nat.reduceBEq,Nat.reduceDiv,Int.reduceAdd,Int.reduceSub,reduceIte,↓reduceIte,reduceCtorEq]
  refine aH (by simp) ?_
  simp only[dG,Tryz.vr,Value.oneCell',Nat.reduceAdd,Nat.reduceMul,Nat.reduceSub,Nat.reduceLT,Nat.reduceLeDiff,Nat.reduceEqDiff,Int.reduceLE,Int.reduceLT,Int.reduceToNat,Int.reduceNe,Int.reduceEq,Nat.reduceBEq,Nat.reduceDiv,Int.reduceAdd,Int.reduceSub,reduceIte,↓reduceIte,reduceCtorEq]
  exact sX (cs:=ae .u8 n (fun i=>aS .xor .u8 (f i) 165)++tail) (by decide) rfl (by simp only[Tryz.vr,Value.oneCell',Nat.reduceAdd,Nat.reduceMul,Nat.reduceSub,Nat.reduceLT,Nat.reduceLeDiff,Nat.reduceEqDiff,Int.reduceLE,Int.reduceLT,Int.reduceToNat,Int.reduceNe,Int.reduceEq,Nat.reduceBEq,Nat.reduceDiv,Int.reduceAdd,Int.reduceSub,reduceIte,↓reduceIte,reduceCtorEq]) (cH hp) ⟨rfl,rfl⟩
theorem Pj:cB Tryz.prog 11 [V (.slice none 0 0)] (.inr []):=by
 refine aK Tryz.func11 rfl (by kernel_rfl) (by simp[Tryz.ntmps11]) rfl rfl ?_
 simp only[Tryz.results11,Tryz.vr,Value.oneCell',Nat.reduceAdd,Nat.reduceMul,Nat.reduceSub,Nat.reduceLT,Nat.reduceLeDiff,Nat.reduceEqDiff,Int.reduceLE,Int.reduceLT,Int.reduceToNat,Int.reduceNe,Int.reduceEq,Nat.reduceBEq,Nat.reduceDiv,Int.reduceAdd,Int.reduceSub,reduceIte,↓reduceIte,reduceCtorEq]
 refine aG 0 (fun k=>[(4,I .i64 0),(5,I .i64 k)]) (fun k=>[]) _ ?_ ?_ ?_
 ·simp only[Tryz.vr,Value.oneCell',Nat.reduceAdd,Nat.reduceMul,Nat.reduceSub,Nat.reduceLT,Nat.reduceLeDiff,Nat.reduceEqDiff,Int.reduceLE,Int.reduceLT,Int.reduceToNat,Int.reduceNe,Int.reduceEq,Nat.reduceBEq,Nat.reduceDiv,Int.reduceAdd,Int.reduceSub,reduceIte,↓reduceIte,reduceCtorEq]
 ·intro j hj;omega
 ·simp only[Tryz.vr,Value.oneCell',Nat.reduceAdd,Nat.reduceMul,Nat.reduceSub,Nat.reduceLT,Nat.reduceLeDiff,Nat.reduceEqDiff,Int.reduceLE,Int.reduceLT,Int.reduceToNat,Int.reduceNe,Int.reduceEq,Nat.reduceBEq,Nat.reduceDiv,Int.reduceAdd,Int.reduceSub,reduceIte,↓reduceIte,reduceCtorEq]
  refine aH (by simp) ?_
  simp only[Tryz.vr,Value.oneCell',Nat.reduceAdd,Nat.reduceMul,Nat.reduceSub,Nat.reduceLT,Nat.reduceLeDiff,Nat.reduceEqDiff,Int.reduceLE,Int.reduceLT,Int.reduceToNat,Int.reduceNe,Int.reduceEq,Nat.reduceBEq,Nat.reduceDiv,Int.reduceAdd,Int.reduceSub,reduceIte,↓reduceIte,reduceCtorEq]
theorem agP {n o c c':Nat} {f:Nat→Int} {tail cs:List SV} (hc:n+64≤c) (hn:n < 4611686018427387904) (hp:tail.all SV.plain=true) (hs:bE cs o n f) (hq:cs.all SV.plain=true):
  bt Tryz.prog 13 [eO 0 n c,Sl 1 o n c'] 2 (lk [(0,⟨false,ae .u8 n f++(ae .u8 64 (fun _=>0)++tail)⟩),(1,⟨false,cs⟩)]) (fun v out=>v=B true∧out=fun _=>none):=by
 have hsh:bE (ae .u8 n f++(ae .u8 64 (fun _=>0)++tail)) n 64 (fun _=>0):=fun i hi=>by
  rw[List.getElem?_append_right (by rw[ah];omega),ah,show n+i - n=i by omega,List.getElem?_append_left (by rw[ah];exact hi),ay .u8 64 _ i hi]
 refine aE Tryz.func13 rfl (by kernel_rfl) (by simp[Tryz.ntmps13]) Tryz.l8 (fun v hv=>by
  simp only[List.mem_cons,List.not_mem_nil,or_false]at hv
  rcases hv with rfl | rfl
  ·exact Ht (by decide)
  ·exact (by decide:1 < 2)) nq (rI (iP hp) hq) ?_
 have h1:((n:Int)≤(c:Int))=True:=eq_true (by omega)
 have h2:((n:Int)≤((n+64:Nat):Int))=True:=eq_true (by omega)
 have h3:(((n+64:Nat):Int)≤(c:Int))=True:=eq_true (by omega)
 have h4:(if c=n then 0 else n)=n:=if_neg (by omega)
 have h5:n+64 - n=64:=by omega
 simp only[Tryz.results13,eO,bl,h1,h2,h3,Tryz.vr,Value.oneCell',Nat.reduceAdd,Nat.reduceMul,Nat.reduceSub,Nat.reduceLT,Nat.reduceLeDiff,Nat.reduceEqDiff,Int.reduceLE,Int.reduceLT,Int.reduceToNat,Int.reduceNe,Int.reduceEq,Nat.reduceBEq,Nat.reduceDiv,Int.reduceAdd,Int.reduceSub,reduceIte,↓reduceIte,reduceCtorEq]
 refine ⟨by kernel_rfl, ?_⟩
 refine oK hn (.inr ⟨0,0,c,false,_,rfl,by simp only[af,Tryz.vr,Value.oneCell',Nat.reduceAdd,Nat.reduceMul,Nat.reduceSub,Nat.reduceLT,Nat.reduceLeDiff,Nat.reduceEqDiff,Int.reduceLE,Int.reduceLT,Int.reduceToNat,Int.reduceNe,Int.reduceEq,Nat.reduceBEq,Nat.reduceDiv,Int.reduceAdd,Int.reduceSub,reduceIte,↓reduceIte,reduceCtorEq],iP hp,cV⟩) (.inr ⟨1,o,c',false,cs,rfl,by simp only[af,Tryz.vr,Value.oneCell',Nat.reduceAdd,Nat.reduceMul,Nat.reduceSub,Nat.reduceLT,Nat.reduceLeDiff,Nat.reduceEqDiff,Int.reduceLE,Int.reduceLT,Int.reduceToNat,Int.reduceNe,Int.reduceEq,Nat.reduceBEq,Nat.reduceDiv,Int.reduceAdd,Int.reduceSub,reduceIte,↓reduceIte,reduceCtorEq],hq,hs⟩) ?_
 simp only[bl,h1,h2,h3,h4,h5,Tryz.vr,Value.oneCell',Nat.reduceAdd,Nat.reduceMul,Nat.reduceSub,Nat.reduceLT,Nat.reduceLeDiff,Nat.reduceEqDiff,Int.reduceLE,Int.reduceLT,Int.reduceToNat,Int.reduceNe,Int.reduceEq,Nat.reduceBEq,Nat.reduceDiv,Int.reduceAdd,Int.reduceSub,reduceIte,↓reduceIte,reduceCtorEq]
 refine ⟨by decide, ?_⟩
 refine oK (by decide) (.inr ⟨0,n,c - n,false,_,rfl,by simp only[af,Tryz.vr,Value.oneCell',Nat.reduceAdd,Nat.reduceMul,Nat.reduceSub,Nat.reduceLT,Nat.reduceLeDiff,Nat.reduceEqDiff,Int.reduceLE,Int.reduceLT,Int.reduceToNat,Int.reduceNe,Int.reduceEq,Nat.reduceBEq,Nat.reduceDiv,Int.reduceAdd,Int.reduceSub,reduceIte,↓reduceIte,reduceCtorEq],iP hp,hsh⟩) (.inr ⟨17,0,64,true,ae .u8 64 (fun _=>0),rfl,by simp only[af,Tryz.vr,Value.oneCell',Nat.reduceAdd,Nat.reduceMul,Nat.reduceSub,Nat.reduceLT,Nat.reduceLeDiff,Nat.reduceEqDiff,Int.reduceLE,Int.reduceLT,Int.reduceToNat,Int.reduceNe,Int.reduceEq,Nat.reduceBEq,Nat.reduceDiv,Int.reduceAdd,Int.reduceSub,reduceIte,↓reduceIte,reduceCtorEq],aw,aP⟩) ?_
 simp only[Tryz.vr,Value.oneCell',Nat.reduceAdd,Nat.reduceMul,Nat.reduceSub,Nat.reduceLT,Nat.reduceLeDiff,Nat.reduceEqDiff,Int.reduceLE,Int.reduceLT,Int.reduceToNat,Int.reduceNe,Int.reduceEq,Nat.reduceBEq,Nat.reduceDiv,Int.reduceAdd,Int.reduceSub,reduceIte,↓reduceIte,reduceCtorEq]
 exact aC rfl ⟨rfl,rfl⟩
theorem agQ {a:Option Addr} {c:Nat} {f:Nat→Int} {tail:List SV} (hc:0+64≤c) (hp:tail.all SV.plain=true):
  bt Tryz.prog 13 [eO 0 0 c,V (.slice a 0 0)] 1 (lk [(0,⟨false,ae .u8 0 f++(ae .u8 64 (fun _=>0)++tail)⟩)]) (fun v out=>v=B true∧out=fun _=>none):=by
 have hsh:bE (ae .u8 0 f++(ae .u8 64 (fun _=>0)++tail)) 0 64 (fun _=>0):=fun i hi=>by
  rw[List.getElem?_append_right (by rw[ah];omega),ah,show 0+i - 0=i by omega,List.getElem?_append_left (by rw[ah];exact hi),ay .u8 64 _ i hi]
 refine aE Tryz.func13 rfl (by kernel_rfl) (by simp[Tryz.ntmps13]) Tryz.l8 (fun v hv=>by
  simp only[List.mem_cons,List.not_mem_nil,or_false]at hv
  rcases hv with rfl | rfl
  ·exact Ht (by decide)
  ·trivial) eG (eH (iP hp)) ?_
 have h0:(0≤(c:Int))=True:=eq_true (by omega)
 have h3:(64≤(c:Int))=True:=eq_true (by omega)
 have h4:(if c=0 then 0 else 0)=0:=by split<;>rfl
 simp only[Tryz.results13,eO,bl,h0,h3,Tryz.vr,Value.oneCell',Nat.reduceAdd,Nat.reduceMul,Nat.reduceSub,Nat.reduceLT,Nat.reduceLeDiff,Nat.reduceEqDiff,Int.reduceLE,Int.reduceLT,Int.reduceToNat,Int.reduceNe,Int.reduceEq,Nat.reduceBEq,Nat.reduceDiv,Int.reduceAdd,Int.reduceSub,reduceIte,↓reduceIte,reduceCtorEq]
 refine ⟨by kernel_rfl, ?_⟩
 refine oK (n:=0) (f:=f) (by decide) (.inr ⟨0,0,c,false,_,rfl,by simp only[af,Tryz.vr,Value.oneCell',Nat.reduceAdd,Nat.reduceMul,Nat.reduceSub,Nat.reduceLT,Nat.reduceLeDiff,Nat.reduceEqDiff,Int.reduceLE,Int.reduceLT,Int.reduceToNat,Int.reduceNe,Int.reduceEq,Nat.reduceBEq,Nat.reduceDiv,Int.reduceAdd,Int.reduceSub,reduceIte,↓reduceIte,reduceCtorEq],iP hp,cV⟩) (.inl ⟨⟨_,rfl⟩,rfl⟩) ?_
 simp only[bl,h0,h3,h4,Tryz.vr,Value.oneCell',Nat.reduceAdd,Nat.reduceMul,Nat.reduceSub,Nat.reduceLT,Nat.reduceLeDiff,Nat.reduceEqDiff,Int.reduceLE,Int.reduceLT,Int.reduceToNat,Int.reduceNe,Int.reduceEq,Nat.reduceBEq,Nat.reduceDiv,Int.reduceAdd,Int.reduceSub,reduceIte,↓reduceIte,reduceCtorEq]
 refine ⟨by decide, ?_⟩
 refine oK (by decide) (.inr ⟨0,0,c - 0,false,_,rfl,by simp only[af,Tryz.vr,Value.oneCell',Nat.reduceAdd,Nat.reduceMul,Nat.reduceSub,Nat.reduceLT,Nat.reduceLeDiff,Nat.reduceEqDiff,Int.reduceLE,Int.reduceLT,Int.reduceToNat,Int.reduceNe,Int.reduceEq,Nat.reduceBEq,Nat.reduceDiv,Int.reduceAdd,Int.reduceSub,reduceIte,↓reduceIte,reduceCtorEq],iP hp,hsh⟩) (.inr ⟨16,0,64,true,ae .u8 64 (fun _=>0),rfl,by simp only[af,Tryz.vr,Value.oneCell',Nat.reduceAdd,Nat.reduceMul,Nat.reduceSub,Nat.reduceLT,Nat.reduceLeDiff,Nat.reduceEqDiff,Int.reduceLE,Int.reduceLT,Int.reduceToNat,Int.reduceNe,Int.reduceEq,Nat.reduceBEq,Nat.reduceDiv,Int.reduceAdd,Int.reduceSub,reduceIte,↓reduceIte,reduceCtorEq],aw,aP⟩) ?_
 simp only[Tryz.vr,Value.oneCell',Nat.reduceAdd,Nat.reduceMul,Nat.reduceSub,Nat.reduceLT,Nat.reduceLeDiff,Nat.reduceEqDiff,Int.reduceLE,Int.reduceLT,Int.reduceToNat,Int.reduceNe,Int.reduceEq,Nat.reduceBEq,Nat.reduceDiv,Int.reduceAdd,Int.reduceSub,reduceIte,↓reduceIte,reduceCtorEq]
 exact aC rfl ⟨rfl,rfl⟩
theorem F3 {s:AS} {fn k n nm:Nat} {f:Nat→Int} {args l:List AV} {ins:Nat→Option aW} (h:bt Tryz.prog fn args k ins (acw k n f)) (r:Nat→Nat) (hfit:Fits s r ins none) (hl:l=args.map (AV.bh r)) {dst:Option Nat} {K:AS→Prop}
  (hk: ∀ c tail,n+64≤c→tail.length=c - (n+64)→tail.all SV.plain=true→K ((⟨s.env,upd s.box nm (some ⟨true,ae .u8 n f++(ae .u8 64 (fun _=>0)++tail)⟩),s.next⟩:AS).put dst (some (eO nm n c)))):aB Tryz.prog nm fn (some l) dst K s:=by
 refine h.aB r none hfit hl ?_
 rintro v out ⟨c,tail,rfl,rfl,h1,h2,h3⟩ _
 rw[gb (iP h3)]
 have e:AV.bh (fb r k nm) (eO k n c)=eO nm n c:=by show eO (fb r k nm k) n c=_;rw[iB]
 rw[e]
 exact hk c tail h1 h2 h3
end Go.Proofs.YtoakenpcooglpaaGreatDoor
namespace Go.Proofs.YtoakenpcooglpaaGreatDoor
set_option maxHeartbeats 8000000
set_option maxRecDepth 20000
open Go.cA
set_option linter.unusedSectionVars false
variable [aX]
theorem wm (t:Nat):(t:Int).tmod 16=((t%16:Nat):Int):=(Int.ofNat_tmod t 16).symm
def aj2 (K J:Nat→Int) (i:Nat):Int:=aaB (kc K) (gE J ((i / 16:Nat):Int)) (i%16)
def og (K J f:Nat→Int) (i:Nat):Int:=aS .xor .u8 (f i) (aj2 K J i)
def Hu (k:Nat):Nat:=(k+15) / 16
def MU (K J:Nat→Int) (k:Nat):Nat→Int:=if k=0 then fun _=>0 else aaB (kc K) (gE J (((k - 1) / 16:Nat):Int))
theorem aj3 {n o c:Nat} {K J f:Nat→Int} {cs:List SV} (hK:bY K) (hJ:bY J) (hs:bE cs o n f) (hp:cs.all SV.plain=true) (hn:n≤140737488355328):
  bt Tryz.prog 66 [Ag (ae .u8 32 K),Ag (ae .u8 16 J),Sl 0 o n c] 1 (lk [(0,⟨false,cs⟩)]) (fun v out=>v=Sl 1 0 n n∧out=lk [(1,⟨true,ae .u8 n (og K J f)⟩)]):=by
 refine aE Tryz.func66 rfl (by kernel_rfl) (by simp[Tryz.ntmps66]) Tryz.qA (by simp[AV.ok,CV.ok,SV.names];exact ⟨aJ aw,aJ aw⟩) eG (eH hp) ?_
 have fy: ∀ {M:Nat→Prop},(∀ x ∈ cs,SV.ok M x)=True:=eq_true (aJ hp)
 simp only[Tryz.results66,Tryz.vr,Value.oneCell',simprocAttr, -List.reduceReplicate]
 refine (Hp K hK).aB ?_
 have hby:(1*(n:Int)≤281474976710656)=True:=eq_true (by omega)
 have h63:((n:Int)≤9223372036854775807)=True:=eq_true (by omega)
 have hnn:((n:Int)≤(n:Int))=True:=eq_true (by omega)
 simp only[bl,hby,h63,hnn,Tryz.vr,Value.oneCell',simprocAttr, -List.reduceReplicate]
 refine aG n (fun k=>[(2,Sl 0 o n c),(4,Ptr 2 0),(7,Ptr 6 0),(8,Sl 10 0 n n),(9,Ptr 12 0),(17,I .i64 n),(18,I .i64 k)])
  (fun k=>[(0,⟨false,cs⟩),(2,⟨true,ae .u8 16 (gE J (Hu k:Nat))⟩),(6,⟨true,ae .u8 496 (kc K)⟩),(10,⟨true,ae .u8 n (fun i=>if i < k then og K J f i else 0)⟩),(12,⟨true,ae .u8 16 (MU K J k)⟩)]) _ ?_ ?_ ?_
 ·simp only[bV,fy,Nat.not_lt_zero,if_false,MU,Tryz.vr,Value.oneCell',simprocAttr, -List.reduceReplicate]
  exact congrArg (fun c=>some (aW.mk true c)) (aV fun i hi=>(Wf J hJ i).symm)
 ·intro k hk
  have Wj:k%16 < 16:=Nat.mod_lt _ (by decide)
  have Ng:(((k%16:Nat):Int) < 16)=True:=eq_true (by omega)
  have eb:MU K J (k+1)=aaB (kc K) (gE J ((k / 16:Nat):Int)):=by simp only[MU];rw[if_neg (by omega),show k+1 - 1=k by omega]
  have ec:aS .xor .u8 (f k) (MU K J (k+1) (k%16))=og K J f k:=by rw[eb];rfl
  have fin:ae .u8 n (upd (fun i=>if i < k then og K J f i else 0) k (og K J f k))=ae .u8 n (fun i=>if i < k+1 then og K J f i else 0):=fc
  simp only[Tryz.vr,Value.oneCell',simprocAttr, -List.reduceReplicate]
  refine aD (by simp;omega) ?_
  by_cases h0:k%16=0
  ·have e0:((((k%16:Nat):Int))==0)=true:=by rw[h0];rfl
   have ecn:Hu k=k / 16:=by simp only[Hu];omega
   have agR:Hu (k+1)=k / 16+1:=by simp only[Hu];omega
   have ej:ae .u8 16 (gE (gE J ((k / 16:Nat):Int)) 1)=ae .u8 16 (gE J ((k / 16+1:Nat):Int)):=aV fun i hi=>Wd J _ i hi
   simp only[wm,e0,Tryz.vr,Value.oneCell',simprocAttr, -List.reduceReplicate]
   refine (Wg (kc K) (gE J (Hu k:Nat))).dV (fun _=>6) (dp (rw:=true) (by simp only[af,Tryz.vr,Value.oneCell',simprocAttr, -List.reduceReplicate]) aw) aw (by rfl) ?_
   simp only[ecn, ← eb,Tryz.vr,Value.oneCell',simprocAttr, -List.reduceReplicate]
   refine (CH (gE J ((k / 16:Nat):Int)) (aaA _ _)).aB ?_
   simp only[wm,ej,bl,Ng,dO hk,hs k hk,ay .u8 16 _ _ Wj,ec,aA .u8 n _ k hk,bD k (by omega),agR,fin,Tryz.vr,Value.oneCell',simprocAttr, -List.reduceReplicate]
   exact ⟨by kernel_rfl,by omega,aJ hp⟩
  ·have e0:((((k%16:Nat):Int))==0)=false:=by simp;omega
   have agR:Hu (k+1)=Hu k:=by simp only[Hu];omega
   have ebk:MU K J (k+1)=MU K J k:=by
    rw[eb];simp only[MU];rw[if_neg (by omega),show (k - 1) / 16=k / 16 by omega]
   rw[ebk]at ec
   simp only[wm,e0,bl,Ng,dO hk,hs k hk,ay .u8 16 _ _ Wj,ec,aA .u8 n _ k hk,bD k (by omega),agR,ebk,fin,Tryz.vr,Value.oneCell',simprocAttr, -List.reduceReplicate]
   exact ⟨by kernel_rfl,by omega,aJ hp⟩
 ·simp only[Tryz.vr,Value.oneCell',simprocAttr, -List.reduceReplicate]
  refine aH (by simp) ?_
  simp only[dG,Tryz.vr,Value.oneCell',simprocAttr, -List.reduceReplicate]
  refine dS (k:=1) (q:=10) (cs:=ae .u8 n (og K J f)) (by decide) ?_ aw ⟨rfl,rfl⟩
  simp only[Tryz.vr,Value.oneCell',simprocAttr, -List.reduceReplicate]
theorem aaK {s:AS} {fn k n nm:Nat} {cs:List SV} {args l:List AV} {ins:Nat→Option aW} (h:bt Tryz.prog fn args k ins (fun v out=>v=Sl k 0 n n∧out=lk [(k,⟨true,cs⟩)])) (hp:cs.all SV.plain=true) (r:Nat→Nat) (hfit:Fits s r ins none) (hl:l=args.map (AV.bh r)) {dst:Option Nat} {K:AS→Prop}
  (hk:K ((⟨s.env,upd s.box nm (some ⟨true,cs⟩),s.next⟩:AS).put dst (some (Sl nm 0 n n)))):aB Tryz.prog nm fn (some l) dst K s:=by
 refine h.aB r none hfit hl ?_
 rintro v out ⟨rfl,rfl⟩ _
 rw[gb hp]
 have e:AV.bh (fb r k nm) (Sl k 0 n n)=Sl nm 0 n n:=by show Sl (fb r k nm k) 0 n n=_;rw[iB]
 rw[e]
 exact hk
end Go.Proofs.YtoakenpcooglpaaGreatDoor
namespace Go.Proofs.YtoakenpcooglpaaGreatDoor
set_option maxHeartbeats 16000000
set_option maxRecDepth 20000
open Go.cA
set_option linter.unusedSectionVars false
variable [aX]
def aj5 (K J:Nat→Int) (i:Nat):Int:=jm (gE J ((i / 16:Nat):Int)) (cG dy K 240) dy 14 (i%16)
def kd (K J f:Nat→Int) (i:Nat):Int:=aS .xor .u8 (f i) (aj5 K J i)
theorem agS {K J f:Nat→Int} (hK:bY K) (i:Nat):og K J f i=kd K J f i:=by
 simp only[og,kd,aj2,aj5]
 rw[block_eq K _ hK _ (Nat.mod_lt _ (by decide))]
def Pk (K J:Nat→Int) (k:Nat):Nat→Int:=if k=0 then fun _=>0 else jm (gE J (((k - 1) / 16:Nat):Int)) (cG dy K 240) dy 14
def Wk (p k c:Nat):AV:=if k=0 then V (.slice none 0 0) else Sl p 0 k c
theorem aj6 {n o c:Nat} {K J f:Nat→Int} {cs:List SV} (hK:bY K) (hJ:bY J) (hs:bE cs o n f) (hp:cs.all SV.plain=true) (hn:n≤1048576) (h0:0 < n):
  bt Tryz.prog 76 [Ag (ae .u8 32 K),Ag (ae .u8 16 J),Sl 0 o n c] 1 (lk [(0,⟨false,cs⟩)]) (Made 1 n (kd K J f)):=by
 refine aE Tryz.func76 rfl (by kernel_rfl) (by simp[Tryz.ntmps76]) Tryz.me (by simp[AV.ok,CV.ok,SV.names];exact ⟨aJ aw,aJ aw⟩) eG (eH hp) ?_
 have fy: ∀ {M:Nat→Prop},(∀ x ∈ cs,SV.ok M x)=True:=eq_true (aJ hp)
 simp only[Tryz.results76,Tryz.vr,Value.oneCell',simprocAttr, -List.reduceReplicate]
 refine aH (by simp;omega) ?_
 simp only[Tryz.vr,Value.oneCell',simprocAttr, -List.reduceReplicate]
 refine Hn.aB ?_
 simp only[Tryz.vr,Value.oneCell',simprocAttr, -List.reduceReplicate]
 refine (jO K dy hK).aB ?_
 simp only[Tryz.vr,Value.oneCell',simprocAttr, -List.reduceReplicate]
 refine Vu (β:=Nat×List SV) n (fun k x=>k=0∨(k≤x.1∧x.2.length=x.1 - k∧x.2.all SV.plain=true))
  (fun k x=>[(2,Sl 0 o n c),(4,Ptr 2 0),(7,Ptr 8 0),(8,Ptr 13 0),(9,Wk 18 k x.1),(10,Ptr 16 0),(11,I .i64 k)])
  (fun k x=>[(0,⟨false,cs⟩),(2,⟨true,ae .u8 16 J⟩),(8,⟨true,ae .u8 256 dy⟩),(13,⟨true,ae .u8 240 (cG dy K 240)⟩),(16,⟨true,ae .u8 16 (Pk K J k)⟩)]++
   (if k=0 then [] else [(18,⟨true,ae .u8 k (kd K J f)++x.2⟩)])) 19 (0,[]) ?_ ?_ ?_ (by show 18≤19;decide)
 ·refine ⟨.inl rfl,18,18,Nat.le_refl _,Nat.le_refl _, ?_, ?_⟩
  ·intro x hx
   simp only[List.mem_cons,List.not_mem_nil,or_false]at hx
   rcases hx with rfl | rfl | rfl | rfl | rfl | rfl | rfl
   all_goals refine ⟨rfl, ?_⟩
   all_goals simp[AV.ok,CV.ok,SV.names,Wk]
  ·intro x hx
   simp only[if_true,List.append_nil,List.mem_cons,List.not_mem_nil,or_false]at hx
   rcases hx with rfl | rfl | rfl | rfl | rfl
   ·exact ⟨.inl (by simp),rfl,by simp,hp⟩
   all_goals exact ⟨.inl (by simp),rfl,by simp,aw⟩
 ·rintro k ⟨c1,tail⟩ hk hinv
  have Wj:k%16 < 16:=Nat.mod_lt _ (by decide)
  have Ng:(((k%16:Nat):Int) < 16)=True:=eq_true (by omega)
  have q16:IntKind.i64.wrap ((k:Int).tdiv 16)=((k / 16:Nat):Int):=Cv k 16 (by omega)
  have u16:IntKind.u64.wrap ((k / 16:Nat):Int)=((k / 16:Nat):Int):=au _ (by omega) (by omega)
  have eb:Pk K J (k+1)=jm (gE J ((k / 16:Nat):Int)) (cG dy K 240) dy 14:=by simp only[Pk];rw[if_neg (by omega),show k+1 - 1=k by omega]
  have ec:aS .xor .u8 (f k) (Pk K J (k+1) (k%16))=kd K J f k:=by rw[eb];rfl
  have one:splice (ae .u8 1 (fun _=>0)) 0 [Sum.inl (Value.int .u8 (kd K J f k))]=[Sum.inl (Value.int .u8 (kd K J f k))]:=rfl
  have sap:ae .u8 (k+1) (kd K J f)=ae .u8 k (kd K J f)++[Sum.inl (Value.int .u8 (kd K J f k))]:=by
   simp only[ae,List.range_succ,List.map_append,List.map_cons,List.map_nil]
  by_cases FC:k%16=0
  ·have e0:((((k%16:Nat):Int))==0)=true:=by rw[FC];rfl
   by_cases FL:k=0
   ·simp only[Wk,if_pos FL,if_neg (Nat.succ_ne_zero k),List.cons_append,List.nil_append,List.append_nil,Tryz.vr,Value.oneCell',simprocAttr, -List.reduceReplicate]
    refine aD (by simp;omega) ?_
    simp only[wm,e0,q16,u16,Tryz.vr,Value.oneCell',simprocAttr, -List.reduceReplicate]
    refine ⟨by kernel_rfl, ?_⟩
    refine cB.draw (F1 J hJ ((k / 16:Nat):Int) (by omega) (by omega)) Tryz.mm ?_
    simp only[Tryz.vr,Value.oneCell',simprocAttr, -List.reduceReplicate]
    refine cB.draw (rp (gE J ((k / 16:Nat):Int)) (cG dy K 240) dy B4 14 (by decide)) Tryz.mh ?_
    simp only[← eb,wm,bl,Ng,dO hk,hs k hk,ay .u8 16 _ _ Wj,ec,one,Tryz.vr,Value.oneCell',simprocAttr, -List.reduceReplicate]
    refine ⟨by kernel_rfl,by kernel_rfl, ?_⟩
    have hz:ae .u8 k (kd K J f)=[]:=by rw[FL];rfl
    refine gJ (m:=k+1) (news:=[Sum.inl (Value.int .u8 (kd K J f k))]) Tryz.bS Tryz.bW rfl (by decide) rfl (.inl ⟨45,0,1,⟨true,[Sum.inl (Value.int .u8 (kd K J f k))]⟩,by rw[FL],by simp only[af,Tryz.vr,Value.oneCell',simprocAttr, -List.reduceReplicate],by rw[FL];rfl,fun j u h=>by simpa using h,by decide⟩) (by omega) (by omega) (fun h=>by omega) ?_
    intro _ c' tail' g1 g2 g3
    simp only[bD k (by omega),Tryz.vr,Value.oneCell',simprocAttr, -List.reduceReplicate]
    refine ⟨(c',tail'), .inr ⟨by simp only;omega,by simp only[g2];omega,g3⟩,18,46,Nat.le_refl _,by decide,fun x hx=> ?_,fun x hx=> ?_⟩
    ·simp only[List.mem_cons,List.not_mem_nil,or_false]at hx
     rcases hx with rfl | rfl | rfl | rfl | rfl | rfl | rfl
     all_goals refine ⟨rfl, ?_⟩
     all_goals simp[AV.ok,CV.ok,SV.names]
    ·simp only[List.mem_cons,List.not_mem_nil,or_false]at hx
     rcases hx with rfl | rfl | rfl | rfl | rfl | rfl
     ·exact ⟨.inl (by simp),rfl,by simp,hp⟩
     ·exact ⟨.inl (by simp),rfl,by simp,aw⟩
     ·exact ⟨.inl (by simp),rfl,by simp,aw⟩
     ·exact ⟨.inl (by simp),rfl,by simp,aw⟩
     ·exact ⟨.inl (by simp),rfl,by simp,aw⟩
     ·refine ⟨.inr rfl, ?_,by simp,cH g3⟩
      simp only[sap,hz,List.nil_append]
      rfl
   ·simp only[Wk,if_neg FL,if_neg (Nat.succ_ne_zero k),List.cons_append,List.nil_append,Tryz.vr,Value.oneCell',simprocAttr, -List.reduceReplicate]
    refine aD (by simp;omega) ?_
    simp only[wm,e0,q16,u16,Tryz.vr,Value.oneCell',simprocAttr, -List.reduceReplicate]
    refine ⟨by kernel_rfl, ?_⟩
    refine cB.draw (F1 J hJ ((k / 16:Nat):Int) (by omega) (by omega)) Tryz.mm ?_
    simp only[Tryz.vr,Value.oneCell',simprocAttr, -List.reduceReplicate]
    refine cB.draw (rp (gE J ((k / 16:Nat):Int)) (cG dy K 240) dy B4 14 (by decide)) Tryz.mh ?_
    simp only[← eb,wm,bl,Ng,dO hk,hs k hk,ay .u8 16 _ _ Wj,ec,one,Tryz.vr,Value.oneCell',simprocAttr, -List.reduceReplicate]
    refine ⟨by kernel_rfl,by kernel_rfl, ?_⟩
    obtain ⟨i1,i2,i3⟩:=hinv.resolve_left FL
    simp only at i1 i2 i3
    refine hH (b:=18) (m:=1) (olds:=ae .u8 k (kd K J f)) (news:=[Sum.inl (Value.int .u8 (kd K J f k))]) Tryz.bS Tryz.bW rfl (by decide) rfl (cs:=ae .u8 k (kd K J f)++tail) (by simp only[af,Tryz.vr,Value.oneCell',simprocAttr, -List.reduceReplicate]) (by rw[List.length_append,ah];omega) i1 (by rw[ah,Nat.mul_one]) (fk cV) (cH i3)
     (.inl ⟨45,0,1,⟨true,[Sum.inl (Value.int .u8 (kd K J f k))]⟩,rfl,by simp only[af,Tryz.vr,Value.oneCell',simprocAttr, -List.reduceReplicate],rfl,fun j u h=>by simpa using h,by decide⟩) (by omega) (by omega) ?_
    intro c' tail' g1 g2 g3
    simp only[bD k (by omega),Tryz.vr,Value.oneCell',simprocAttr, -List.reduceReplicate]
    refine ⟨(c',tail'), .inr ⟨by simp only;omega,by simp only[g2];omega,g3⟩,18,46,Nat.le_refl _,by decide,fun x hx=> ?_,fun x hx=> ?_⟩
    ·simp only[List.mem_cons,List.not_mem_nil,or_false]at hx
     rcases hx with rfl | rfl | rfl | rfl | rfl | rfl | rfl
     all_goals refine ⟨rfl, ?_⟩
     all_goals simp[AV.ok,CV.ok,SV.names]
    ·simp only[List.mem_cons,List.not_mem_nil,or_false]at hx
     rcases hx with rfl | rfl | rfl | rfl | rfl | rfl
     ·exact ⟨.inl (by simp),rfl,by simp,hp⟩
     ·exact ⟨.inl (by simp),rfl,by simp,aw⟩
     ·exact ⟨.inl (by simp),rfl,by simp,aw⟩
     ·exact ⟨.inl (by simp),rfl,by simp,aw⟩
     ·exact ⟨.inl (by simp),rfl,by simp,aw⟩
     ·refine ⟨.inr rfl, ?_,by simp,cH g3⟩
      simp only[sap]
      rfl
  ·have FL:k≠0:=fun h=>FC (by rw[h])
   have e0:((((k%16:Nat):Int))==0)=false:=by simp;omega
   have ebk:Pk K J (k+1)=Pk K J k:=by
    rw[eb];simp only[Pk];rw[if_neg FL,show (k - 1) / 16=k / 16 by omega]
   rw[ebk]at ec
   simp only[Wk,if_neg FL,if_neg (Nat.succ_ne_zero k),List.cons_append,List.nil_append,Tryz.vr,Value.oneCell',simprocAttr, -List.reduceReplicate]
   refine aD (by simp;omega) ?_
   simp only[wm,e0,ebk,bl,Ng,dO hk,hs k hk,ay .u8 16 _ _ Wj,ec,one,Tryz.vr,Value.oneCell',simprocAttr, -List.reduceReplicate]
   refine ⟨by kernel_rfl,by kernel_rfl, ?_⟩
   obtain ⟨i1,i2,i3⟩:=hinv.resolve_left FL
   simp only at i1 i2 i3
   refine hH (b:=18) (m:=1) (olds:=ae .u8 k (kd K J f)) (news:=[Sum.inl (Value.int .u8 (kd K J f k))]) Tryz.bS Tryz.bW rfl (by decide) rfl (cs:=ae .u8 k (kd K J f)++tail) (by simp only[af,Tryz.vr,Value.oneCell',simprocAttr, -List.reduceReplicate]) (by rw[List.length_append,ah];omega) i1 (by rw[ah,Nat.mul_one]) (fk cV) (cH i3)
    (.inl ⟨36,0,1,⟨true,[Sum.inl (Value.int .u8 (kd K J f k))]⟩,rfl,by simp only[af,Tryz.vr,Value.oneCell',simprocAttr, -List.reduceReplicate],rfl,fun j u h=>by simpa using h,by decide⟩) (by omega) (by omega) ?_
   intro c' tail' g1 g2 g3
   simp only[bD k (by omega),Tryz.vr,Value.oneCell',simprocAttr, -List.reduceReplicate]
   refine ⟨(c',tail'), .inr ⟨by simp only;omega,by simp only[g2];omega,g3⟩,18,37,Nat.le_refl _,by decide,fun x hx=> ?_,fun x hx=> ?_⟩
   ·simp only[List.mem_cons,List.not_mem_nil,or_false]at hx
    rcases hx with rfl | rfl | rfl | rfl | rfl | rfl | rfl
    all_goals refine ⟨rfl, ?_⟩
    all_goals simp[AV.ok,CV.ok,SV.names]
   ·simp only[List.mem_cons,List.not_mem_nil,or_false]at hx
    rcases hx with rfl | rfl | rfl | rfl | rfl | rfl
    ·exact ⟨.inl (by simp),rfl,by simp,hp⟩
    ·exact ⟨.inl (by simp),rfl,by simp,aw⟩
    ·exact ⟨.inl (by simp),rfl,by simp,aw⟩
    ·exact ⟨.inl (by simp),rfl,by simp,aw⟩
    ·exact ⟨.inl (by simp),rfl,by simp,aw⟩
    ·refine ⟨.inr rfl, ?_,by simp,cH g3⟩
     simp only[sap]
     rfl
 ·rintro ⟨c1,tail⟩ hinv
  simp only[if_neg (show ¬ n=0 by omega),Wk,List.cons_append,List.nil_append,Tryz.vr,Value.oneCell',simprocAttr, -List.reduceReplicate]
  refine aH (by simp) ?_
  simp only[Tryz.vr,Value.oneCell',simprocAttr, -List.reduceReplicate]
  obtain ⟨i1,i2,i3⟩:=hinv.resolve_left (by omega)
  refine dS (k:=1) (q:=18) (cs:=ae .u8 n (kd K J f)++tail) (by decide) ?_ (cH i3) ⟨c1,tail,rfl,rfl,i1,i2,i3⟩
  simp only[Tryz.vr,Value.oneCell',simprocAttr, -List.reduceReplicate]
theorem agT {o c:Nat} {K J:Nat→Int} {cs:List SV} (hK:bY K) (hp:cs.all SV.plain=true):
  bt Tryz.prog 76 [Ag (ae .u8 32 K),Ag (ae .u8 16 J),Sl 0 o 0 c] 1 (lk [(0,⟨false,cs⟩)]) (fun v out=>v=V (.slice none 0 0)∧out=fun _=>none):=by
 refine aE Tryz.func76 rfl (by kernel_rfl) (by simp[Tryz.ntmps76]) Tryz.me (by simp[AV.ok,CV.ok,SV.names];exact ⟨aJ aw,aJ aw⟩) eG (eH hp) ?_
 simp only[Tryz.results76,Tryz.vr,Value.oneCell',simprocAttr, -List.reduceReplicate]
 refine aH (by simp) ?_
 simp only[Tryz.vr,Value.oneCell',simprocAttr, -List.reduceReplicate]
 refine Hn.aB ?_
 simp only[Tryz.vr,Value.oneCell',simprocAttr, -List.reduceReplicate]
 refine (jO K dy hK).aB ?_
 simp only[Tryz.vr,Value.oneCell',simprocAttr, -List.reduceReplicate]
 refine aG 0 (fun k=>[(2,Sl 0 o 0 c),(9,V (.slice none 0 0)),(11,I .i64 k)]) (fun k=>[]) _ ?_ ?_ ?_
 ·simp only[Tryz.vr,Value.oneCell',simprocAttr, -List.reduceReplicate]
  trivial
 ·intro j hj;omega
 ·simp only[Tryz.vr,Value.oneCell',simprocAttr, -List.reduceReplicate]
  refine aH (by simp) ?_
  simp only[Tryz.vr,Value.oneCell',simprocAttr, -List.reduceReplicate]
  exact aC rfl ⟨rfl,rfl⟩
theorem agU {a:Option Addr} {K J:Nat→Int} (hK:bY K):cB Tryz.prog 76 [Ag (ae .u8 32 K),Ag (ae .u8 16 J),V (.slice a 0 0)] (V (.slice none 0 0)):=by
 refine aK Tryz.func76 rfl (by kernel_rfl) (by simp[Tryz.ntmps76]) rfl rfl ?_
 simp only[Tryz.results76,Tryz.vr,Value.oneCell',simprocAttr, -List.reduceReplicate]
 refine aH (by simp) ?_
 simp only[Tryz.vr,Value.oneCell',simprocAttr, -List.reduceReplicate]
 refine Hn.aB ?_
 simp only[Tryz.vr,Value.oneCell',simprocAttr, -List.reduceReplicate]
 refine (jO K dy hK).aB ?_
 simp only[Tryz.vr,Value.oneCell',simprocAttr, -List.reduceReplicate]
 refine aG 0 (fun k=>[(2,V (.slice a 0 0)),(9,V (.slice none 0 0)),(11,I .i64 k)]) (fun k=>[]) _ ?_ ?_ ?_
 ·simp only[Tryz.vr,Value.oneCell',simprocAttr, -List.reduceReplicate]
  trivial
 ·intro j hj;omega
 ·simp only[Tryz.vr,Value.oneCell',simprocAttr, -List.reduceReplicate]
  refine aH (by simp) ?_
  simp only[Tryz.vr,Value.oneCell',simprocAttr, -List.reduceReplicate]
end Go.Proofs.YtoakenpcooglpaaGreatDoor
namespace Go.Proofs.YtoakenpcooglpaaGreatDoor
set_option maxHeartbeats 8000000
set_option maxRecDepth 20000
open Go.cA
set_option linter.unusedSectionVars false
variable [aX]
theorem Wl {f g:Nat→Int}:splice (splice (splice (ae .u8 80 g) 0 (ae .u8 32 f)) 32 (ae .u8 32 (fun i=>f (32+i)))) 64 (ae .u8 16 (fun i=>f (64+i)))=ae .u8 80 f:=by
 rw[kr .u8 80 32 0 _ _ (by decide),kr .u8 80 32 32 _ _ (by decide),kr .u8 80 16 64 _ _ (by decide)]
 refine aV fun i hi=> ?_
 by_cases h1:64≤i
 ·rw[if_pos (by omega),show 64+(i - 64)=i by omega]
 ·rw[if_neg (by omega)]
  by_cases h2:32≤i
  ·rw[if_pos (by omega),show 32+(i - 32)=i by omega]
  ·rw[if_neg (by omega),if_pos (by omega),Nat.sub_zero]
def gZ (i:Nat):Int:=[114,97,116,99,104,101,116,32,115,101,97,108].getD i 0
theorem B5:bY gZ:=fun i=>by
 by_cases h:i < 12
 ·have: ∀ j,j < 12→0≤gZ j∧gZ j < 256:=by decide
  exact this i h
 ·have:gZ i=0:=by
   simp only[gZ,List.getD_eq_getElem?_getD]
   rw[List.getElem?_eq_none (by simp;omega)];rfl
  rw[this];decide
def MV (mk:Nat→Int):Nat→Int:=gK kW b9 (fA kW b9 (fun _=>0) 32 mk 32) gZ 12
theorem aj7 (p info:Nat→Int) (m c:Nat):bY (oQ kW b9 p info m c):=rR _ _ _ _ _ _
theorem oM (mk:Nat→Int):bY (MV mk):=fun i=>aj7 _ _ _ _ _
theorem CI (mk:Nat→Int) (hb:bY mk):cB Tryz.prog 65 [Ag (ae .u8 32 mk)] (Ag (ae .u8 80 (MV mk))):=by
 refine aK Tryz.func65 rfl (by kernel_rfl) (by simp[Tryz.ntmps65]) rfl rfl ?_
 have tv: ∀ r:Nat→Int,splice (ae .u8 32 (fun _=>0)) 0 (ae .u8 32 r)=ae .u8 32 r:=fun r=>dP .u8 32 _ _
 simp only[Tryz.results65,al,tv,Tryz.vr,Value.oneCell',simprocAttr, -List.reduceReplicate]
 refine ⟨by kernel_rfl,show 1≤1 by decide, ?_⟩
 refine VX (rw0:=true) (UR:=true) (key:=fun _=>0) (f0:=mk) (n0:=32) (by simp only[ax];rfl) rfl (.inr ⟨0,0,32,true,ae .u8 32 mk,rfl,by simp only[af,Tryz.vr,Value.oneCell',simprocAttr, -List.reduceReplicate],aw,aP⟩) hb (by simp only[af,Tryz.vr,Value.oneCell',simprocAttr, -List.reduceReplicate]) aw aP (fun _=>⟨Int.le_refl 0,by show (0:Int) < 256;decide⟩) (by decide) (by decide) (by decide) ?_
 obtain ⟨p,hpE⟩: ∃ p,fA kW b9 (fun _=>0) 32 mk 32=p:=⟨_,rfl⟩
 have G2:bY p:=by rw[← hpE];exact lB _ _ _ _ _ _
 have eS:MV mk=gK kW b9 p gZ 12:=by rw[MV,hpE]
 rw[hpE]
 simp only[Tryz.vr,Value.oneCell',simprocAttr, -List.reduceReplicate]
 refine ⟨by decide,by decide,by decide,by decide,by decide,by decide,by decide,by decide,by decide,by decide,by decide, ?_⟩
 refine oz (FN (Post':=Made 1 80 (gK kW b9 p gZ 12)) (Mj (o:=0) (m:=12) (c:=12) (n:=80) (cs:=ae .u8 12 gZ) G2 B5 aP aw (by decide) (by decide)) (fun v out h=>h.resolve_left (fun e=>by cases e.1))) (fun _=>9) (dp (rw:=true) (by simp only[ax];rfl) aw)
  (by simp only[List.map_cons,List.map_nil,fV,er];rfl) (fun M h n _=>h (Sl 9 0 12 12) (List.Mem.tail _ (List.Mem.head _))) (by kernel_rfl) ?_
 intro c1 eJ h1 h2 h3
 have n1:(c1=32)=False:=eq_false (by omega)
 have n2:(c1=64)=False:=eq_false (by omega)
 have l1:(32≤(c1:Int))=True:=eq_true (by omega)
 have l2:(64≤(c1:Int))=True:=eq_true (by omega)
 have l3:(80≤(c1:Int))=True:=eq_true (by omega)
 have len: ∀ m,m≤80→(m≤(ae .u8 80 (gK kW b9 p gZ 12)++eJ).length)=True:=fun m hm=>eq_true (by rw[List.length_append,ah];omega)
 have p0:=tC (n:=80) (m:=32) (f:=gK kW b9 p gZ 12) (tail:=eJ) (by decide)
 have p1:=n5 (n:=80) (a:=32) (m:=32) (f:=gK kW b9 p gZ 12) (tail:=eJ) (by decide)
 have p2:=n5 (n:=80) (a:=64) (m:=16) (f:=gK kW b9 p gZ 12) (tail:=eJ) (by decide)
 simp only[n1,n2,l1,l2,l3,len 32 (by decide),len 64 (by decide),len 80 (by decide),p0,p1,p2,al,Wl,Tryz.vr,Value.oneCell',simprocAttr, -List.reduceReplicate]
 have ls: ∀ (l:List SV) (o:Nat) (m:List SV),o+m.length≤l.length→(splice l o m).length=l.length:=fun l o m h=>oZ l o m h
 refine ⟨by kernel_rfl, ?_, ?_,by rw[eS]⟩
 ·rw[ls _ _ _ (by rw[ah,ah];decide),ah];decide
 ·rw[ls _ _ _ (by rw[ls _ _ _ (by rw[ah,ah];decide),ah,ah];decide),ls _ _ _ (by rw[ah,ah];decide),ah];decide
end Go.Proofs.YtoakenpcooglpaaGreatDoor
namespace Go.Proofs.YtoakenpcooglpaaGreatDoor
set_option maxHeartbeats 8000000
set_option maxRecDepth 20000
open Go.cA
set_option linter.unusedSectionVars false
variable [aX]
theorem MW {x:Int}:bt Tryz.prog 90 [V (.slice none 0 0),I .u64 x] 0 (fun _=>none) (Made 0 8 (gP x)):=by
 refine aE Tryz.func90 rfl (by kernel_rfl) (by simp[Tryz.ntmps90]) Tryz.mg (by simp[AV.ok,CV.ok,SV.names]) xQ xR ?_
 simp only[Tryz.results90,Tryz.vr,Value.oneCell',simprocAttr, -List.reduceReplicate]
 refine lz (β:=Nat×List SV) 8 (fun k y=>k=0∨bR y.2 0 k y.1 (gP x))
  (fun k y=>[(0,if k=0 then V (.slice none 0 0) else Sl 30 0 k y.1),(1,I .u64 x),(5,I .i64 (56 - 8*(k:Int)))]) (fun k y=>if k=0 then [] else [(30,⟨true,y.2⟩)]) 31 (0,[]) ?_ ?_ ?_ (by show _≤31;simp only[AS.put];omega)
 ·refine ⟨.inl rfl,30,0, ?_⟩
  simp only[eI,if_true,gy,er,iT,jS,Tryz.vr,Value.oneCell',simprocAttr, -List.reduceReplicate]
  simp
  trivial
 ·rintro k ⟨c',cs'⟩ hk h1
  simp only at h1
  have eb:IntKind.u8.wrap (cr .u64 x (56 - 8*(k:Int)))=gP x k:=rfl
  have ws:IntKind.i64.wrap (56 - 8*(k:Int) - 8)=56 - 8*((k+1:Nat):Int):=by rw[wrap_i64 _ (by omega) (by omega)];omega
  rcases k with _ | k
  ·have eb:IntKind.u8.wrap (cr .u64 x 56)=gP x 0:=rfl
   have a0:(56 - 8*(0:Int))=56:=rfl
   have ws:IntKind.i64.wrap 48=56 - 8*1:=by decide
   simp only[a0,Tryz.vr,Value.oneCell',simprocAttr, -List.reduceReplicate]
   refine aD (by decide) ?_
   simp only[eb,Tryz.vr,Value.oneCell',simprocAttr, -List.reduceReplicate]
   refine ia (g:=fun _=>gP x 0) Tryz.bS Tryz.bW (.inr ⟨_,_,_,true,[Sum.inl (.int .u8 (gP x 0))],rfl,by simp only[ax];rfl,rfl,b7⟩) (by decide) (fun h=>by cases h) ?_
   intro _ c2 kZ gC
   simp only[ws,Tryz.vr,Value.oneCell',simprocAttr, -List.reduceReplicate]
   refine ⟨(c2,kZ), .inr (gC.congr rfl fun i hi=>by rw[show i=0 by omega]),30,39, ?_⟩
   simp only[eI,gy,er,iT,jS,gC.plain,true_or,Tryz.vr,Value.oneCell',simprocAttr, -List.reduceReplicate]
   simp
  ·have hg:=h1.resolve_left (by omega)
   have a2:(0≤56 - 8*((k+1:Nat):Int))=True:=eq_true (by omega)
   simp only[Nat.add_one_ne_zero,if_false,Tryz.vr,Value.oneCell',simprocAttr, -List.reduceReplicate]
   refine aD (by simp;omega) ?_
   simp only[a2,eb,Tryz.vr,Value.oneCell',simprocAttr, -List.reduceReplicate]
   refine bn (g:=fun _=>gP x (k+1)) Tryz.bS Tryz.bW (by simp only[af,Tryz.vr,Value.oneCell',simprocAttr, -List.reduceReplicate]) hg (.inr ⟨_,0,1,true,[Sum.inl (.int .u8 (gP x (k+1)))],rfl,by simp only[ax];rfl,b7,by decide⟩) (by omega) ?_
   intro c2 kZ gC
   simp only[ws,Tryz.vr,Value.oneCell',simprocAttr, -List.reduceReplicate]
   refine ⟨(c2,kZ), .inr (gC.congr rfl fun i hi=> ?_),30,39, ?_⟩
   ·simp only[aR];split
    ·rfl
    ·rw[show i=k+1 by omega]
   simp only[eI,gy,er,iT,jS,gC.plain,true_or,Tryz.vr,Value.oneCell',simprocAttr, -List.reduceReplicate]
   simp
 ·rintro ⟨c',cs'⟩ h1
  have h1:=h1.resolve_left (by decide)
  simp only at h1
  simp only[Tryz.vr,Value.oneCell',simprocAttr, -List.reduceReplicate]
  refine aH (by decide) ?_
  simp only[Tryz.vr,Value.oneCell',simprocAttr, -List.reduceReplicate]
  refine dS (k:=0) (q:=30) (cs:=cs') (by decide) ?_ h1.plain h1.made
  simp only[Tryz.vr,Value.oneCell',simprocAttr, -List.reduceReplicate]
theorem MX (x:Int):bY (gP x):=fun i=>by simp only[gP,wrap_u8];omega
def al3 (na nb:Nat) (ad body:Nat→Int):Nat→Int:=aR (8+na) (aR 8 (gP (na:Int)) ad) body
def aaL (K:Nat→Int) (na nb:Nat) (ad body:Nat→Int):Nat→Int:=fA kW b9 (fun i=>K (32+i)) 32 (al3 na nb ad body) (8+na+nb)
theorem aj8 {oa na ca ob nb cb:Nat} {K ad body:Nat→Int} {cs ds:List SV} (hK:bY K) (ha:bY ad) (hb:bY body) (hs:bE cs oa na ad) (hp:cs.all SV.plain=true) (hs':bE ds ob nb body) (hq:ds.all SV.plain=true) (hna:na < 40000000) (hnb:nb < 40000000):
  bt Tryz.prog 67 [Ag (ae .u8 80 K),Sl 0 oa na ca,Sl 1 ob nb cb] 2 (lk [(0,⟨false,cs⟩),(1,⟨false,ds⟩)]) (fun u out=>u=Ag (ae .u8 32 (aaL K na nb ad body))∧out=fun _=>none):=by
 refine aE Tryz.func67 rfl (by kernel_rfl) (by simp[Tryz.ntmps67]) Tryz.qB (fun u hu=>by
  simp only[List.mem_cons,List.not_mem_nil,or_false]at hu
  rcases hu with rfl | rfl | rfl
  ·exact aJ aw
  ·exact (by decide:0 < 2)
  ·exact (by decide:1 < 2)) nq (rI hp hq) ?_
 have hw:IntKind.u64.wrap (na:Int)=(na:Int):=au _ (by omega) (by omega)
 simp only[Tryz.results67,hw,Tryz.vr,Value.oneCell',simprocAttr, -List.reduceReplicate]
 refine dW MW (fun n=>n) gI rfl ?_
 intro c1 eJ h1 h2 h3
 simp only[Tryz.vr,Value.oneCell',simprocAttr, -List.reduceReplicate]
 refine ⟨show 1≤3 by decide,show 2≤3 by decide,show 3≤3 by decide, ?_⟩
 have hk:bE (ae .u8 80 K) 32 32 (fun i=>K (32+i)):=fun i hi=>ay .u8 80 K (32+i) (by omega)
 refine tB (rw0:=true) (UR:=true) (wB:=ae .u8 80 K) (key:=fun i=>K (32+i)) (n0:=8) (n1:=na) (n2:=nb) (f0:=gP (na:Int)) (f1:=ad) (f2:=body) (by simp only[ax,OR]) rfl
  (.inr ⟨7,0,c1,true,ae .u8 8 (gP (na:Int))++eJ,rfl,by simp only[af,Tryz.vr,Value.oneCell',simprocAttr, -List.reduceReplicate],cH h3,cV⟩) (.inr ⟨0,oa,ca,false,cs,rfl,by simp only[af,Tryz.vr,Value.oneCell',simprocAttr, -List.reduceReplicate],hp,hs⟩) (.inr ⟨1,ob,cb,false,ds,rfl,by simp only[af,Tryz.vr,Value.oneCell',simprocAttr, -List.reduceReplicate],hq,hs'⟩)
  (MX _) ha hb (by simp only[af,Tryz.vr,Value.oneCell',simprocAttr, -List.reduceReplicate]) aw hk (fun i=>hK _) (by decide) (by decide) (by omega) ?_
 simp only[Tryz.vr,Value.oneCell',simprocAttr, -List.reduceReplicate]
 exact aC aw ⟨rfl,rfl⟩
theorem jE (k:IntKind) (n:Nat) (f:Nat→Int):cZ k (ae k n f)=some ((List.range n).map f):=by
 rw[ae]
 generalize List.range n=l
 induction l with
 | nil=>rfl
 | cons a l ih=>simp only[List.map_cons,cZ,ih,if_true]
end Go.Proofs.YtoakenpcooglpaaGreatDoor
namespace Go.Proofs.YtoakenpcooglpaaGreatDoor
set_option maxHeartbeats 8000000
set_option maxRecDepth 20000
open Go.cA
set_option linter.unusedSectionVars false
variable [aX]
def fz (mk f:Nat→Int):Nat→Int:=og (MV mk) (fun i=>MV mk (64+i)) f
def F4 (mk:Nat→Int) (na n:Nat) (ad body:Nat→Int):Nat→Int:=aaL (MV mk) na n ad body
def bJ (k n c:Nat) (tag:Nat→Int):AV:=Ag (Sum.inr (Sum.inr (k,0,n,c))::ae .u8 32 tag)
theorem MY (K J f:Nat→Int):bY (og K J f):=fun i=>gq _ _ _
theorem bm:List.map Sum.inl (List.replicate 1 (Value.slice none 0 0)++List.replicate 32 (Value.int IntKind.u8 0))=(Sum.inl (Value.slice none 0 0)::ae .u8 32 (fun _=>0):List SV):=rfl
theorem aT:(List.replicate 1 (Sum.inl (Value.slice none 0 0))++List.replicate 32 (Sum.inl (Value.int IntKind.u8 0)):List SV)=Sum.inl (Value.slice none 0 0)::ae .u8 32 (fun _=>0):=rfl
theorem aaM {a0 a:SV} {g:Nat→Int}:splice (a0::ae .u8 32 g) 0 [a]=a::ae .u8 32 g:=rfl
theorem aaN {a:SV} {g r:Nat→Int}:splice (a::ae .u8 32 g) 1 (ae .u8 32 r)=a::ae .u8 32 r:=by simp[splice,ah]
theorem aaO {a0 a:SV} {g r:Nat→Int}:splice (a0::ae .u8 32 g) 0 (a::ae .u8 32 r)=a::ae .u8 32 r:=by simp[splice,ah]
theorem Vh {a:SV} {g:Nat→Int}:(a::ae .u8 32 g).length=33:=by simp[ah]
theorem Pl {a:SV} {g:Nat→Int}:List.take 33 (a::ae .u8 32 g)=a::ae .u8 32 g:=List.take_of_length_le (by rw[Vh];exact Nat.le_refl _)
theorem rq {r:Nat→Nat} {k n c:Nat} {tag:Nat→Int}:AV.bh r (bJ k n c tag)=bJ (r k) n c tag:=by
 show AV.bh r (.inl (.inr _))=_
 simp only[AV.bh,CV.bh,List.map_cons,bj aw]
 rfl
theorem B6 {s:AS} {k q n c:Nat} {tag:Nat→Int} {cs:List SV} (hq:k≤q) (hb:s.box q=some ⟨true,cs⟩) (hp:cs.all SV.plain=true):Ct k (fun v out=>v=bJ k n c tag∧out=lk [(k,⟨true,cs⟩)]) (bJ q n c tag) s:=by
 refine ⟨q,bJ k n c tag,lk [(k,⟨true,cs⟩)],hq, ?_, ?_,fun m b hm=> ?_,rfl,rfl⟩
 ·rw[rq,kM]
 ·intro x hx
  rcases List.mem_cons.1 hx with rfl | hx
  ·exact ⟨Nat.lt_succ_self k,rfl⟩
  ·exact SV.bH (List.all_eq_true.1 aw x hx)
 ·simp only[lk]at hm
  split at hm
  ·rename_i e
   simp only[Option.some.injEq]at hm;subst e hm
   exact ⟨Nat.lt_succ_self m,fun _=>rfl,aJ hp,_,by rw[kM];exact hb,fun _=>rfl,(bj hp _).symm⟩
  ·cases hm
theorem MZ {a b:Nat} (h: ¬ (1048576 < a∨1048576 < b)):decide (1048576 < (a:Int))=false∧decide (1048576 < (b:Int))=false:=⟨decide_eq_false (by omega),decide_eq_false (by omega)⟩
theorem agV {oa na ca od n cd:Nat} {mk ad f:Nat→Int} {cs ds:List SV} (hmk:bY mk) (ha:bY ad) (hf:bY f) (hs:bE cs oa na ad) (hp:cs.all SV.plain=true) (hs':bE ds od n f) (hq:ds.all SV.plain=true) (hg: ¬ (1048576 < na∨1048576 < n)):
  bt Tryz.prog 37 [Ag (ae .u8 32 mk),Sl 0 oa na ca,Sl 1 od n cd] 2 (lk [(0,⟨false,cs⟩),(1,⟨false,ds⟩)]) (fun v out=>v=bJ 2 n n (F4 mk na n ad (fz mk f))∧out=lk [(2,⟨true,ae .u8 n (fz mk f)⟩)]):=by
 refine aE Tryz.func37 rfl (by kernel_rfl) (by simp[Tryz.ntmps37]) Tryz.qk (fun u hu=>by
  simp only[List.mem_cons,List.not_mem_nil,or_false]at hu
  rcases hu with rfl | rfl | rfl
  ·exact aJ aw
  ·exact (by decide:0 < 2)
  ·exact (by decide:1 < 2)) nq (rI hp hq) ?_
 obtain ⟨d1,d2⟩:=MZ hg
 simp only[Tryz.results37,bm,Tryz.vr,Value.oneCell',simprocAttr, -List.reduceReplicate]
 refine ⟨by decide, ?_⟩
 refine fM (rw:=false) (by simp only[af,Tryz.vr,Value.oneCell',simprocAttr, -List.reduceReplicate]) hp ?_
 simp only[d1,Tryz.vr,Value.oneCell',simprocAttr, -List.reduceReplicate]
 refine fM (rw:=false) (by simp only[af,Tryz.vr,Value.oneCell',simprocAttr, -List.reduceReplicate]) hq ?_
 simp only[d2,Tryz.vr,Value.oneCell',simprocAttr, -List.reduceReplicate]
 refine (CI mk hmk).aB ?_
 have t0:=tC (n:=80) (m:=32) (f:=MV mk) (tail:=[]) (by decide)
 have t2:=n5 (n:=80) (a:=64) (m:=16) (f:=MV mk) (tail:=[]) (by decide)
 rw[List.append_nil]at t0 t2
 simp only[al,dP,t0,t2,Tryz.vr,Value.oneCell',simprocAttr, -List.reduceReplicate]
 refine aaK (aj3 (c:=cd) (oM mk) (fun i=>oM mk (64+i)) hs' hq (by omega)) aw (fun _=>1) (dp (rw:=false) (by simp only[af,Tryz.vr,Value.oneCell',simprocAttr, -List.reduceReplicate]) hq) (by simp only[List.map_cons,List.map_nil,fV,er]) ?_
 obtain ⟨bd,hbd⟩: ∃ bd,og (MV mk) (fun i=>MV mk (64+i)) f=bd:=⟨_,rfl⟩
 have hbb:bY bd:=by rw[← hbd];exact MY _ _ _
 have eb:fz mk f=bd:=hbd
 rw[eb,hbd]
 simp only[Tryz.vr,Value.oneCell',simprocAttr, -List.reduceReplicate]
 refine (aj8 (ca:=ca) (cb:=n) (oM mk) ha hbb hs hp (aP (n:=n) (f:=bd)) aw (by omega) (by omega)).dV (two 0 19) (jz (rw:=false) (rw':=true) (by simp only[af,Tryz.vr,Value.oneCell',simprocAttr, -List.reduceReplicate]) hp (by simp only[af,Tryz.vr,Value.oneCell',simprocAttr, -List.reduceReplicate]) aw) aw (by simp only[List.map_cons,List.map_nil,fV,er];rfl) ?_
 simp only[aT,aaM,aaN,aaO,Vh,Pl,Tryz.vr,Value.oneCell',simprocAttr, -List.reduceReplicate]
 exact B6 (by decide) (by simp only[af,Tryz.vr,Value.oneCell',simprocAttr, -List.reduceReplicate]) aw
end Go.Proofs.YtoakenpcooglpaaGreatDoor
namespace Go.Proofs.YtoakenpcooglpaaGreatDoor
set_option maxHeartbeats 8000000
set_option maxRecDepth 20000
open Go.cA
set_option linter.unusedSectionVars false
variable [aX]
theorem aaP (mk:Nat→Int) (hb:bY mk):bt Tryz.prog 50 [Ag (ae .u8 32 mk)] 0 (fun _=>none) (Made 0 80 (MV mk)):=by
 refine aE Tryz.func50 rfl (by kernel_rfl) (by simp[Tryz.ntmps50]) Tryz.qp (fun u hu=>by rw[List.mem_singleton.1 hu];exact aJ aw) xQ xR ?_
 simp only[Tryz.results50,Tryz.vr,Value.oneCell',Nat.reduceAdd,Nat.reduceMul,Nat.reduceSub,Nat.reduceLT,Nat.reduceLeDiff,Nat.reduceEqDiff,Int.reduceLE,Int.reduceLT,Int.reduceToNat,Int.reduceNe,Int.reduceEq,Nat.reduceBEq,Nat.reduceDiv,Int.reduceAdd,Int.reduceSub,reduceIte,↓reduceIte,reduceCtorEq]
 refine ⟨by kernel_rfl,by decide,by decide,by decide,by decide,by decide,by decide,by decide,by decide,by decide,by decide,by decide,by decide, ?_⟩
 refine sd (t0:=2) (t1:=0) (t2:=4) (nk:=32) (m:=32) (q:=12) (N:=80) (r0:=true) (r1:=true) (r2:=true) (oT:=fun _=>0) (f:=mk) (info:=gZ) (cs:=ae .u8 32 (fun _=>0)) (ds:=ae .u8 32 mk) (es:=ae .u8 12 gZ)
  (fun _=>⟨Int.le_refl 0,by show (0:Int) < 256;decide⟩) hb B5 (by simp only[af,Tryz.vr,Value.oneCell',Nat.reduceAdd,Nat.reduceMul,Nat.reduceSub,Nat.reduceLT,Nat.reduceLeDiff,Nat.reduceEqDiff,Int.reduceLE,Int.reduceLT,Int.reduceToNat,Int.reduceNe,Int.reduceEq,Nat.reduceBEq,Nat.reduceDiv,Int.reduceAdd,Int.reduceSub,reduceIte,↓reduceIte,reduceCtorEq]) aw (by simp only[af,Tryz.vr,Value.oneCell',Nat.reduceAdd,Nat.reduceMul,Nat.reduceSub,Nat.reduceLT,Nat.reduceLeDiff,Nat.reduceEqDiff,Int.reduceLE,Int.reduceLT,Int.reduceToNat,Int.reduceNe,Int.reduceEq,Nat.reduceBEq,Nat.reduceDiv,Int.reduceAdd,Int.reduceSub,reduceIte,↓reduceIte,reduceCtorEq]) aw (by simp only[ax];rfl) aw
  (.inr ⟨0,32,rfl,aP⟩) (.inr ⟨0,32,rfl,aP⟩) (.inr ⟨0,12,rfl,aP⟩) (by decide) (by kernel_rfl) ?_
 intro c tail h1 h2 h3
 simp only[Tryz.vr,Value.oneCell',Nat.reduceAdd,Nat.reduceMul,Nat.reduceSub,Nat.reduceLT,Nat.reduceLeDiff,Nat.reduceEqDiff,Int.reduceLE,Int.reduceLT,Int.reduceToNat,Int.reduceNe,Int.reduceEq,Nat.reduceBEq,Nat.reduceDiv,Int.reduceAdd,Int.reduceSub,reduceIte,↓reduceIte,reduceCtorEq]
 exact eQ (f:=MV mk) (by decide) (bR.row h1 h2 h3) (by simp only[ax];rfl) rfl
theorem agW {x:Int} (h0:0≤x) (h1:x < 18446744073709551616):bt Tryz.prog 77 [I .u64 x] 0 (fun _=>none) (Made 0 8 (gP x)):=by
 refine aE Tryz.func77 rfl (by kernel_rfl) (by simp[Tryz.ntmps77]) Tryz.mf (by simp[AV.ok,CV.ok,SV.names]) xQ xR ?_
 simp only[Tryz.results77,Tryz.vr,Value.oneCell',Nat.reduceAdd,Nat.reduceMul,Nat.reduceSub,Nat.reduceLT,Nat.reduceLeDiff,Nat.reduceEqDiff,Int.reduceLE,Int.reduceLT,Int.reduceToNat,Int.reduceNe,Int.reduceEq,Nat.reduceBEq,Nat.reduceDiv,Int.reduceAdd,Int.reduceSub,reduceIte,↓reduceIte,reduceCtorEq]
 refine jd (wP _) (fun n=>n) gI rfl ?_
 simp only[Tryz.vr,Value.oneCell',Nat.reduceAdd,Nat.reduceMul,Nat.reduceSub,Nat.reduceLT,Nat.reduceLeDiff,Nat.reduceEqDiff,Int.reduceLE,Int.reduceLT,Int.reduceToNat,Int.reduceNe,Int.reduceEq,Nat.reduceBEq,Nat.reduceDiv,Int.reduceAdd,Int.reduceSub,reduceIte,↓reduceIte,reduceCtorEq]
 refine jd (wP _) (fun n=>n) gI rfl ?_
 simp only[Tryz.vr,Value.oneCell',Nat.reduceAdd,Nat.reduceMul,Nat.reduceSub,Nat.reduceLT,Nat.reduceLeDiff,Nat.reduceEqDiff,Int.reduceLE,Int.reduceLT,Int.reduceToNat,Int.reduceNe,Int.reduceEq,Nat.reduceBEq,Nat.reduceDiv,Int.reduceAdd,Int.reduceSub,reduceIte,↓reduceIte,reduceCtorEq]
 refine bn (g:=cy (IntKind.u32.wrap x)) Tryz.bS Tryz.bW (f:=cy (IntKind.u32.wrap (cr .u64 x 32))) (b:=4) (cs:=ae .u8 4 (cy (IntKind.u32.wrap (cr .u64 x 32)))) (by simp only[af,Tryz.vr,Value.oneCell',Nat.reduceAdd,Nat.reduceMul,Nat.reduceSub,Nat.reduceLT,Nat.reduceLeDiff,Nat.reduceEqDiff,Int.reduceLE,Int.reduceLT,Int.reduceToNat,Int.reduceNe,Int.reduceEq,Nat.reduceBEq,Nat.reduceDiv,Int.reduceAdd,Int.reduceSub,reduceIte,↓reduceIte,reduceCtorEq])
  ⟨by rw[ah],by decide,aw,aP⟩ (.inr ⟨9,0,4,true,ae .u8 4 (cy (IntKind.u32.wrap x)),rfl,by simp only[af,Tryz.vr,Value.oneCell',Nat.reduceAdd,Nat.reduceMul,Nat.reduceSub,Nat.reduceLT,Nat.reduceLeDiff,Nat.reduceEqDiff,Int.reduceLE,Int.reduceLT,Int.reduceToNat,Int.reduceNe,Int.reduceEq,Nat.reduceBEq,Nat.reduceDiv,Int.reduceAdd,Int.reduceSub,reduceIte,↓reduceIte,reduceCtorEq],aP,by decide⟩) (by decide) ?_
 intro c2 kZ gC
 simp only[Tryz.vr,Value.oneCell',Nat.reduceAdd,Nat.reduceMul,Nat.reduceSub,Nat.reduceLT,Nat.reduceLeDiff,Nat.reduceEqDiff,Int.reduceLE,Int.reduceLT,Int.reduceToNat,Int.reduceNe,Int.reduceEq,Nat.reduceBEq,Nat.reduceDiv,Int.reduceAdd,Int.reduceSub,reduceIte,↓reduceIte,reduceCtorEq]
 refine eQ (k:=0) (by decide) (gC.congr (m:=8) rfl fun i hi=> ?_) (by simp only[af,Tryz.vr,Value.oneCell',Nat.reduceAdd,Nat.reduceMul,Nat.reduceSub,Nat.reduceLT,Nat.reduceLeDiff,Nat.reduceEqDiff,Int.reduceLE,Int.reduceLT,Int.reduceToNat,Int.reduceNe,Int.reduceEq,Nat.reduceBEq,Nat.reduceDiv,Int.reduceAdd,Int.reduceSub,reduceIte,↓reduceIte,reduceCtorEq]) rfl
 have e4: ∀ x:Int,IntKind.u32.wrap x=x%4294967296:=wrap_u32
 have s32:cr .u64 x 32=x / 4294967296:=dK .u64 _ 32 (by decide)
 rw[s32]
 have sz:cr .u64 x 0=x:=by have:=dK .u64 x 0 (by decide);simpa using this
 have s24: ∀ x:Int,cr .u32 x 24=x / 16777216:=fun x=>dK .u32 x 24 (by decide)
 have s16: ∀ x:Int,cr .u32 x 16=x / 65536:=fun x=>dK .u32 x 16 (by decide)
 have s8: ∀ x:Int,cr .u32 x 8=x / 256:=fun x=>dK .u32 x 8 (by decide)
 have b56:cr .u64 x 56=x / 72057594037927936:=dK .u64 _ 56 (by decide)
 have b48:cr .u64 x 48=x / 281474976710656:=dK .u64 _ 48 (by decide)
 have b40:cr .u64 x 40=x / 1099511627776:=dK .u64 _ 40 (by decide)
 have b32:cr .u64 x 32=x / 4294967296:=dK .u64 _ 32 (by decide)
 have b24:cr .u64 x 24=x / 16777216:=dK .u64 _ 24 (by decide)
 have b16:cr .u64 x 16=x / 65536:=dK .u64 _ 16 (by decide)
 have b8:cr .u64 x 8=x / 256:=dK .u64 _ 8 (by decide)
 have hc:i=0∨i=1∨i=2∨i=3∨i=4∨i=5∨i=6∨i=7:=by omega
 rcases hc with rfl | rfl | rfl | rfl | rfl | rfl | rfl | rfl
 ·show cy _ 0=_
  simp only[cy,gP]
  show IntKind.u8.wrap (cr .u32 _ 24)=IntKind.u8.wrap (cr .u64 x 56)
  rw[s24,b56,e4,wrap_u8,wrap_u8];omega
 ·show cy _ 1=_
  simp only[cy,gP]
  show IntKind.u8.wrap (cr .u32 _ 16)=IntKind.u8.wrap (cr .u64 x 48)
  rw[s16,b48,e4,wrap_u8,wrap_u8];omega
 ·show cy _ 2=_
  simp only[cy,gP]
  show IntKind.u8.wrap (cr .u32 _ 8)=IntKind.u8.wrap (cr .u64 x 40)
  rw[s8,b40,e4,wrap_u8,wrap_u8];omega
 ·show cy _ 3=_
  simp only[cy,gP]
  show IntKind.u8.wrap (cr .u32 _ 0)=IntKind.u8.wrap (cr .u64 x 32)
  rw[VV,b32,e4,wrap_u8,wrap_u8];omega
 ·show cy _ 0=_
  simp only[cy,gP]
  show IntKind.u8.wrap (cr .u32 _ 24)=IntKind.u8.wrap (cr .u64 x 24)
  rw[s24,b24,e4,wrap_u8,wrap_u8];omega
 ·show cy _ 1=_
  simp only[cy,gP]
  show IntKind.u8.wrap (cr .u32 _ 16)=IntKind.u8.wrap (cr .u64 x 16)
  rw[s16,b16,e4,wrap_u8,wrap_u8];omega
 ·show cy _ 2=_
  simp only[cy,gP]
  show IntKind.u8.wrap (cr .u32 _ 8)=IntKind.u8.wrap (cr .u64 x 8)
  rw[s8,b8,e4,wrap_u8,wrap_u8];omega
 ·show cy _ 3=_
  simp only[cy,gP]
  show IntKind.u8.wrap (cr .u32 _ 0)=IntKind.u8.wrap (cr .u64 x 0)
  rw[VV,sz,e4,wrap_u8,wrap_u8];omega
theorem acx {k co na nb:Nat} {l:List (Nat×aW)} {va vb vo:AV} {K ad body:Nat→Int} (hg:Handed k l) (hK:bY K) (ha:bY ad) (hb:bY body) (ho:Arg k l vo 80 K) (GZ: ∃ t o,vo=Sl t o 80 co∧80≤co) (hva:Arg k l va na ad) (hvb:Arg k l vb nb body) (hna:na < 40000000) (hnb:nb < 40000000):
  bt Tryz.prog 52 [vo,va,vb] k (lk l) (fun u out=>u=Ag (ae .u8 32 (aaL K na nb ad body))∧out=fun _=>none):=by
 refine aE Tryz.func52 rfl (by kernel_rfl) (by simp[Tryz.ntmps52]) Tryz.qt (fun u hu=>by
  simp only[List.mem_cons,List.not_mem_nil,or_false]at hu
  rcases hu with rfl | rfl | rfl
  ·exact ho.ok
  ·exact hva.ok
  ·exact hvb.ok) hg.all hg.j6 ?_
 have hw:IntKind.u64.wrap (na:Int)=(na:Int):=au _ (by omega) (by omega)
 have hk:=hg.le
 simp only[Tryz.results52,at_len hva.at_,hw,Tryz.vr,Value.oneCell',Nat.reduceAdd,Nat.reduceMul,Nat.reduceSub,Nat.reduceLT,Nat.reduceLeDiff,Nat.reduceEqDiff,Int.reduceLE,Int.reduceLT,Int.reduceToNat,Int.reduceNe,Int.reduceEq,Nat.reduceBEq,Nat.reduceDiv,Int.reduceAdd,Int.reduceSub,reduceIte,↓reduceIte,reduceCtorEq]
 refine dW (agW (by omega) (by omega)) (fun n=>n) gI rfl ?_
 intro c1 eJ h1 h2 h3
 simp only[Tryz.vr,Value.oneCell',Nat.reduceAdd,Nat.reduceMul,Nat.reduceSub,Nat.reduceLT,Nat.reduceLeDiff,Nat.reduceEqDiff,Int.reduceLE,Int.reduceLT,Int.reduceToNat,Int.reduceNe,Int.reduceEq,Nat.reduceBEq,Nat.reduceDiv,Int.reduceAdd,Int.reduceSub,reduceIte,↓reduceIte,reduceCtorEq]
 refine bn (g:=ad) Tryz.bS Tryz.bW (by simp only[ax]) (bR.row (f:=gP (na:Int)) h1 h2 h3) (lA hva.at_ hva.ok (by omega) (fun t ht=>by simp only[upd];rw[if_neg (by omega),if_neg (by omega)])) (by omega) ?_
 intro c2 kZ gC
 simp only[Tryz.vr,Value.oneCell',Nat.reduceAdd,Nat.reduceMul,Nat.reduceSub,Nat.reduceLT,Nat.reduceLeDiff,Nat.reduceEqDiff,Int.reduceLE,Int.reduceLT,Int.reduceToNat,Int.reduceNe,Int.reduceEq,Nat.reduceBEq,Nat.reduceDiv,Int.reduceAdd,Int.reduceSub,reduceIte,↓reduceIte,reduceCtorEq]
 refine bn (g:=body) Tryz.bS Tryz.bW (by simp only[ax]) gC (lA hvb.at_ hvb.ok (by omega) (fun t ht=>by simp only[upd];rw[if_neg (by omega),if_neg (by omega),if_neg (by omega),if_neg (by omega)])) (by omega) ?_
 intro c3 tt kH
 obtain ⟨t,o,rfl,al5⟩:=GZ
 have ht:t < k:=ho.ok
 obtain ⟨t',o',c',rw,cs,e,lT,hp,hs⟩:=oA ho.at_ (by decide)
 cases e
 have n1:(co=32)=False:=eq_false (by omega)
 have l2:(64≤(co:Int))=True:=eq_true (by omega)
 simp only[n1,l2,Tryz.vr,Value.oneCell',Nat.reduceAdd,Nat.reduceMul,Nat.reduceSub,Nat.reduceLT,Nat.reduceLeDiff,Nat.reduceEqDiff,Int.reduceLE,Int.reduceLT,Int.reduceToNat,Int.reduceNe,Int.reduceEq,Nat.reduceBEq,Nat.reduceDiv,Int.reduceAdd,Int.reduceSub,reduceIte,↓reduceIte,reduceCtorEq]
 refine gm (rwa:=rw) (rwb:=true) (key:=fun i=>K (32+i)) (f:=aR (8+na) (aR 8 (gP (na:Int)) ad) body) (cs:=cs) (ds:=tt) (fun i=>hK _) (eV (eV (MX _) ha) hb) (by simp only[upd];rw[if_neg (by omega),if_neg (by omega),if_neg (by omega),if_neg (by omega),if_neg (by omega),if_neg (by omega)];exact lT) (jc hs 32 32 (by decide)) hp (by simp only[ax]) kH.ez kH.plain (by decide) (by omega) ?_
 have q1:(k=k+1+5+4+2)=False:=eq_false (by omega)
 have q2:(k=k+1+5+2)=False:=eq_false (by omega)
 have q3:(k=k+1+3)=False:=eq_false (by omega)
 simp only[q1,q2,q3,Tryz.vr,Value.oneCell',Nat.reduceAdd,Nat.reduceMul,Nat.reduceSub,Nat.reduceLT,Nat.reduceLeDiff,Nat.reduceEqDiff,Int.reduceLE,Int.reduceLT,Int.reduceToNat,Int.reduceNe,Int.reduceEq,Nat.reduceBEq,Nat.reduceDiv,Int.reduceAdd,Int.reduceSub,reduceIte,↓reduceIte,reduceCtorEq]
 exact aC aw ⟨rfl,rfl⟩
theorem aaR {k co n:Nat} {l:List (Nat×aW)} {vd vo:AV} {K f:Nat→Int} (hg:Handed k l) (hK:bY K) (hf:bY f) (ho:Arg k l vo 80 K) (GZ: ∃ t o,vo=Sl t o 80 co∧80≤co) (hvd:Arg k l vd n f) (hn:n≤1048576):
  bt Tryz.prog 51 [vo,vd] k (lk l) (Bytes k n (og K (fun i=>K (64+i)) f)):=by
 refine aE Tryz.func51 rfl (by kernel_rfl) (by simp[Tryz.ntmps51]) Tryz.qq (fun u hu=>by
  simp only[List.mem_cons,List.not_mem_nil,or_false]at hu
  rcases hu with rfl | rfl
  ·exact ho.ok
  ·exact hvd.ok) hg.all hg.j6 ?_
 have hk:=hg.le
 obtain ⟨t,o,rfl,al5⟩:=GZ
 have ht:t < k:=ho.ok
 obtain ⟨t',o',c',rw,cs,e,lT,hp,hs⟩:=oA ho.at_ (by decide)
 cases e
 have n2:(co=64)=False:=eq_false (by omega)
 have l1:(32≤(co:Int))=True:=eq_true (by omega)
 have l2:(80≤(co:Int))=True:=eq_true (by omega)
 simp only[Tryz.results51,n2,l1,l2,Tryz.vr,Value.oneCell',Nat.reduceAdd,Nat.reduceMul,Nat.reduceSub,Nat.reduceLT,Nat.reduceLeDiff,Nat.reduceEqDiff,Int.reduceLE,Int.reduceLT,Int.reduceToNat,Int.reduceNe,Int.reduceEq,Nat.reduceBEq,Nat.reduceDiv,Int.reduceAdd,Int.reduceSub,reduceIte,↓reduceIte,reduceCtorEq]
 refine ⟨by kernel_rfl,by kernel_rfl, ?_⟩
 refine rH Tryz.bS Tryz.bW (cs:=ae .u8 32 (fun _=>0)) (bx:=⟨rw,cs⟩) (news:=ae .u8 32 K) (by simp only[upd];rw[if_neg (by omega)];exact if_pos trivial) (by simp only[upd];rw[if_neg (by omega),if_neg (by omega)];exact lT) (by rw[ah];rfl) (fk (lZ hs (by decide))) (by rw[ah];decide) ?_
 have c1:splice (ae .u8 32 (fun _=>0)) 0 (ae .u8 32 K)=ae .u8 32 K:=dP _ _ _ _
 simp only[n2,l1,l2,c1,Tryz.vr,Value.oneCell',Nat.reduceAdd,Nat.reduceMul,Nat.reduceSub,Nat.reduceLT,Nat.reduceLeDiff,Nat.reduceEqDiff,Int.reduceLE,Int.reduceLT,Int.reduceToNat,Int.reduceNe,Int.reduceEq,Nat.reduceBEq,Nat.reduceDiv,Int.reduceAdd,Int.reduceSub,reduceIte,↓reduceIte,reduceCtorEq]
 refine ⟨by kernel_rfl,by kernel_rfl, ?_⟩
 refine rH Tryz.bS Tryz.bW (cs:=ae .u8 16 (fun _=>0)) (bx:=⟨rw,cs⟩) (news:=ae .u8 16 (fun i=>K (64+i))) (by simp only[upd];rw[if_neg (by omega)];exact if_pos trivial) (by simp only[upd];rw[if_neg (by omega),if_neg (by omega),if_neg (by omega)];exact lT) (by rw[ah];rfl) (fk (jc hs 64 16 (by decide))) (by rw[ah];decide) ?_
 have c2:splice (ae .u8 16 (fun _=>0)) 0 (ae .u8 16 (fun i=>K (64+i)))=ae .u8 16 (fun i=>K (64+i)):=dP _ _ _ _
 have q1:(k+1=k+2)=False:=eq_false (by omega)
 simp only[n2,l1,l2,c2,q1,Tryz.vr,Value.oneCell',Nat.reduceAdd,Nat.reduceMul,Nat.reduceSub,Nat.reduceLT,Nat.reduceLeDiff,Nat.reduceEqDiff,Int.reduceLE,Int.reduceLT,Int.reduceToNat,Int.reduceNe,Int.reduceEq,Nat.reduceBEq,Nat.reduceDiv,Int.reduceAdd,Int.reduceSub,reduceIte,↓reduceIte,reduceCtorEq]
 have hJ:bY (fun i=>K (64+i)):=fun i=>hK _
 have eC: ∀ i,i < n→kd K (fun i=>K (64+i)) f i=og K (fun i=>K (64+i)) f i:=fun i _=>(agS hK i).symm
 rcases hvd.at_ with ⟨⟨a,rfl⟩,rfl⟩ | ⟨td,od,cd,rwd,ds,rfl,hbd,hq,B7⟩
 ·refine (agU hK).aB ?_
  simp only[Tryz.vr,Value.oneCell',Nat.reduceAdd,Nat.reduceMul,Nat.reduceSub,Nat.reduceLT,Nat.reduceLeDiff,Nat.reduceEqDiff,Int.reduceLE,Int.reduceLT,Int.reduceToNat,Int.reduceNe,Int.reduceEq,Nat.reduceBEq,Nat.reduceDiv,Int.reduceAdd,Int.reduceSub,reduceIte,↓reduceIte,reduceCtorEq]
  exact aC (v:=V (.slice none 0 0)) rfl (.inl ⟨rfl,rfl,rfl⟩)
 ·have htd:td < k:=hvd.ok
  by_cases h0:n=0
  ·subst h0
   refine (agT (J:=fun i=>K (64+i)) (o:=od) (c:=cd) hK hq).dV (fun _=>td) (dp (rw:=rwd) (by simp only[upd];rw[if_neg (by omega),if_neg (by omega),if_neg (by omega),if_neg (by omega)];exact hbd) hq) rfl (by simp only[List.map_cons,List.map_nil,fV,er]) ?_
   simp only[Tryz.vr,Value.oneCell',Nat.reduceAdd,Nat.reduceMul,Nat.reduceSub,Nat.reduceLT,Nat.reduceLeDiff,Nat.reduceEqDiff,Int.reduceLE,Int.reduceLT,Int.reduceToNat,Int.reduceNe,Int.reduceEq,Nat.reduceBEq,Nat.reduceDiv,Int.reduceAdd,Int.reduceSub,reduceIte,↓reduceIte,reduceCtorEq]
   exact aC (v:=V (.slice none 0 0)) rfl (.inl ⟨rfl,rfl,rfl⟩)
  ·refine dW (aj6 (o:=od) (c:=cd) hK hJ B7 hq hn (by omega)) (fun _=>td) (dp (rw:=rwd) (by simp only[upd];rw[if_neg (by omega),if_neg (by omega),if_neg (by omega),if_neg (by omega)];exact hbd) hq) (by simp only[List.map_cons,List.map_nil,fV,er]) ?_
   intro c3 afl h1 h2 h3
   simp only[Tryz.vr,Value.oneCell',Nat.reduceAdd,Nat.reduceMul,Nat.reduceSub,Nat.reduceLT,Nat.reduceLeDiff,Nat.reduceEqDiff,Int.reduceLE,Int.reduceLT,Int.reduceToNat,Int.reduceNe,Int.reduceEq,Nat.reduceBEq,Nat.reduceDiv,Int.reduceAdd,Int.reduceSub,reduceIte,↓reduceIte,reduceCtorEq]
   have eR:ae .u8 n (kd K (fun i=>K (64+i)) f)=ae .u8 n (og K (fun i=>K (64+i)) f):=aV eC
   rw[eR]
   exact dS (k:=k) (q:=k+1+1+1+4+4+3) (cs:=ae .u8 n (og K (fun i=>K (64+i)) f)++afl) (by omega) (by simp only[ax]) (cH h3) (.inr ⟨c3,afl,rfl,rfl,h1,h2,h3⟩)
end Go.Proofs.YtoakenpcooglpaaGreatDoor
namespace Go.Proofs.YtoakenpcooglpaaGreatDoor
set_option maxHeartbeats 8000000
set_option maxRecDepth 20000
open Go.cA
set_option linter.unusedSectionVars false
variable [aX]
theorem kE {s:AS} {k n:Nat} {l:List (Nat×aW)} {r:Nat→Nat} {L:List AV} {v:AV} {f:Nat→Int} (h:xX s k l r L) (hk:k < 20) (hv:bC s.box v n f):
  ∃ k' l' r' v',k'≤k+1∧xX s k' l' r' (v::L)∧Arg k' l' v' n f∧AV.bh r' v'=v∧ ∀ u m g,Arg k l u m g→Arg k' l' u m g∧AV.bh r' u=AV.bh r u:=by
 rcases hv with ⟨⟨a,rfl⟩,h0⟩ | ⟨t,o,c,rw,cs,rfl,hb,hp,hs⟩
 ·exact ⟨k,l,r,V (.slice a 0 0),by omega,⟨h.good,h.fits,fun M hM=>h.named M fun u hu=>hM u (List.Mem.tail _ hu)⟩,⟨.inl ⟨⟨_,rfl⟩,h0⟩,trivial⟩,rfl,fun u m g hu=>⟨hu,rfl⟩⟩
 ·exact oC h hk (.inr ⟨o,c,rfl,hs⟩) hb hp
theorem F6 {k o co to:Nat} {l:List (Nat×aW)} {r:Nat→Nat} {v:AV} {f:Nat→Int} (h:Arg k l v 80 f) (e:AV.bh r v=Sl to o 80 co) (hc:80≤co): ∃ t o,v=Sl t o 80 co∧80≤co:=by
 obtain ⟨t',o',c',rw,cs,rfl,_⟩:=oA h.at_ (by decide)
 rw[er]at e
 cases e
 exact ⟨t',_,rfl,hc⟩
theorem M0 {s:AS} {nm to o co n:Nat} {vd:AV} {K f:Nat→Int} (hK:bY K) (hf:bY f) (ho:bC s.box (Sl to o 80 co) 80 K) (GZ:80≤co) (hd:bC s.box vd n f) (hn:n≤1048576) {dst:Option Nat} {K':AS→Prop}
  (h0:n=0→K' (s.put dst (some (V (.slice none 0 0)))))
  (h1: ∀ c tail,n≤c→tail.length=c - n→tail.all SV.plain=true→K' ((⟨s.env,upd s.box nm (some ⟨true,ae .u8 n (og K (fun i=>K (64+i)) f)++tail⟩),s.next⟩:AS).put dst (some (Sl nm 0 n c)))):
  aB Tryz.prog nm 51 (some [Sl to o 80 co,vd]) dst K' s:=by
 obtain ⟨k1,l1,r1,v1,q1,P1,A1,e1,_⟩:=kE (s:=s) oB (by decide) hd
 obtain ⟨k2,l2,r2,v2,q2,P2,A2,e2,T2⟩:=kE P1 (by omega) ho
 obtain ⟨B1,f1⟩:=T2 _ _ _ A1
 refine (aaR (co:=co) P2.good hK hf A2 (F6 A2 e2 GZ) B1 hn).aB r2 none P2.fits (by simp only[List.map_cons,List.map_nil,e2,f1,e1]) ?_
 rintro v out (⟨g0,rfl,rfl⟩ | ⟨c,tail,rfl,rfl,g1,g2,g3⟩) _
 ·have e:after s r2 k2 nm none (fun _=>none)=s.box:=by funext x;simp[after]
  rw[e]
  exact h0 g0
 ·rw[gb (cH g3)]
  have e:AV.bh (fb r2 k2 nm) (Sl k2 0 n c)=Sl nm 0 n c:=by show Sl (fb r2 k2 nm k2) 0 n c=_;rw[iB]
  rw[e]
  exact h1 c tail g1 g2 g3
theorem M3 {s:AS} {to o co na nb:Nat} {va vb:AV} {K ad body:Nat→Int} (ho:bC s.box (Sl to o 80 co) 80 K) (GZ:80≤co) (ha:bC s.box va na ad) (hb:bC s.box vb nb body):
  ∃ k l r v0 v1 v2,xX s k l r [Sl to o 80 co,va,vb]∧Arg k l v0 80 K∧(∃ t o,v0=Sl t o 80 co∧80≤co)∧Arg k l v1 na ad∧Arg k l v2 nb body∧[Sl to o 80 co,va,vb]=[v0,v1,v2].map (AV.bh r):=by
 obtain ⟨k1,l1,r1,v1,q1,P1,A1,e1,_⟩:=kE (s:=s) oB (by decide) hb
 obtain ⟨k2,l2,r2,v2,q2,P2,A2,e2,T2⟩:=kE P1 (by omega) ha
 obtain ⟨k3,l3,r3,v3,q3,P3,A3,e3,T3⟩:=kE P2 (by omega) ho
 obtain ⟨B1,f1⟩:=T2 _ _ _ A1
 obtain ⟨C1,g1⟩:=T3 _ _ _ B1
 obtain ⟨C2,g2⟩:=T3 _ _ _ A2
 exact ⟨k3,l3,r3,v3,v2,v1,P3,A3,F6 A3 e3 GZ,C2,C1,by simp only[List.map_cons,List.map_nil,e3,g2,e2,g1,f1,e1]⟩
theorem B8 {s:AS} {nm to o co na nb:Nat} {va vb:AV} {K ad body:Nat→Int} (hK:bY K) (hab:bY ad) (hbb:bY body) (ho:bC s.box (Sl to o 80 co) 80 K) (GZ:80≤co) (ha:bC s.box va na ad) (hb:bC s.box vb nb body) (hna:na < 40000000) (hnb:nb < 40000000) {dst:Option Nat} {K':AS→Prop}
  (hk:K' (s.put dst (some (Ag (ae .u8 32 (aaL K na nb ad body)))))):aB Tryz.prog nm 52 (some [Sl to o 80 co,va,vb]) dst K' s:=by
 obtain ⟨k,l,r,v0,v1,v2,P,A0,hc,A1,A2,e⟩:=M3 ho GZ ha hb
 exact (acx (co:=co) P.good hK hab hbb A0 hc A1 A2 hna hnb).dV r P.fits aw e hk
def Wm (k n:Nat) (body tag:Nat→Int) (v:AV) (out:Nat→Option aW):Prop:=
 (n=0∧v=Ag (Sum.inl (.slice none 0 0)::ae .u8 32 tag)∧out=fun _=>none)∨ ∃ c tail,v=bJ k n c tag∧out=lk [(k,⟨true,ae .u8 n body++tail⟩)]∧n≤c∧tail.length=c - n∧tail.all SV.plain=true
theorem agX {r:Nat→Int}:(Sum.inl (Value.slice none 0 0)::ae .u8 32 r:List SV).all SV.plain=true:=by
 rw[List.all_cons,aw];rfl
theorem Wn {k na n:Nat} {l:List (Nat×aW)} {va vd:AV} {mk ad f:Nat→Int} (hg:Handed k l) (hmk:bY mk) (ha:bY ad) (hf:bY f) (hva:Arg k l va na ad) (hvd:Arg k l vd n f) (agY: ¬ (1048576 < na∨1048576 < n)):
  bt Tryz.prog 27 [Ag (ae .u8 32 mk),va,vd] k (lk l) (Wm k n (fz mk f) (F4 mk na n ad (fz mk f))):=by
 refine aE Tryz.func27 rfl (by kernel_rfl) (by simp[Tryz.ntmps27]) Tryz.qc (fun u hu=>by
  simp only[List.mem_cons,List.not_mem_nil,or_false]at hu
  rcases hu with rfl | rfl | rfl
  ·exact aJ aw
  ·exact hva.ok
  ·exact hvd.ok) hg.all hg.j6 ?_
 have hk:=hg.le
 obtain ⟨d1,d2⟩:=MZ agY
 have q1:(k=k+1)=False:=eq_false (by omega)
 simp only[Tryz.results27,at_len hva.at_,at_len hvd.at_,d1,d2,bm,q1,Tryz.vr,Value.oneCell',simprocAttr, -List.reduceReplicate]
 refine ⟨by decide, ?_⟩
 refine dW (aaP mk hmk) (fun n=>n) gI (by simp only[List.map_cons,List.map_nil,fV]) ?_
 intro c1 eJ h1 h2 h3
 have hbb:bY (fz mk f):=MY _ _ _
 obtain ⟨T,hT⟩: ∃ T,aaL (MV mk) na n ad (fz mk f)=T:=⟨_,rfl⟩
 have eT:F4 mk na n ad (fz mk f)=T:=hT
 rw[eT]
 have hO:bE (ae .u8 80 (MV mk)++eJ) 0 80 (MV mk):=cV
 have pO:=cH (n:=80) (f:=MV mk) h3
 simp only[q1,Tryz.vr,Value.oneCell',simprocAttr, -List.reduceReplicate]
 refine M0 (oM mk) hf (.inr ⟨_,_,_,true,_,rfl,by simp only[ax],pO,hO⟩) h1 (l6 hvd.at_ fun t b hb=> ?_) (by omega) (fun hn0=> ?_) (fun c2 pA g1 g2 g3=> ?_)
 ·have:=(hg.np _ (bq _ _ _ hb)).1
  simp only at this
  simp only[upd];rw[if_neg (by omega),if_neg (by omega),if_neg (by omega)];exact hb
 ·simp only[Tryz.vr,Value.oneCell',simprocAttr, -List.reduceReplicate]
  refine B8 (ad:=ad) (body:=fz mk f) (oM mk) ha hbb (.inr ⟨_,_,_,true,_,rfl,by simp only[ax],pO,hO⟩) h1 (l6 hva.at_ fun t b hb=> ?_) (.inl ⟨⟨_,rfl⟩,hn0⟩) (by omega) (by omega) ?_
  ·have:=(hg.np _ (bq _ _ _ hb)).1
   simp only at this
   simp only[upd];rw[if_neg (by omega),if_neg (by omega),if_neg (by omega)];exact hb
  have q2:(k+1=k+2+8+1)=False:=eq_false (by omega)
  rw[hT]
  simp only[q2,aT,aaM,aaN,aaO,Vh,Pl,Tryz.vr,Value.oneCell',simprocAttr, -List.reduceReplicate]
  exact aC (v:=Ag (Sum.inl (.slice none 0 0)::ae .u8 32 T)) (agX (r:=T)) (.inl ⟨hn0,rfl,rfl⟩)
 ·simp only[Tryz.vr,Value.oneCell',simprocAttr, -List.reduceReplicate]
  refine B8 (ad:=ad) (body:=fz mk f) (nb:=n) (oM mk) ha hbb (.inr ⟨_,_,_,true,_,rfl,by simp only[upd];rw[if_neg (by omega)];exact if_pos trivial,pO,hO⟩) h1 (l6 hva.at_ fun t b hb=> ?_) (.inr ⟨_,_,_,true,ae .u8 n (fz mk f)++pA,rfl,by simp only[ax];rfl,cH g3,cV⟩) (by omega) (by omega) ?_
  ·have:=(hg.np _ (bq _ _ _ hb)).1
   simp only at this
   simp only[upd];rw[if_neg (by omega),if_neg (by omega),if_neg (by omega),if_neg (by omega)];exact hb
  have q2:(k+1=k+2+8+1)=False:=eq_false (by omega)
  have q3:(k+1=k+2+8+3+2)=False:=eq_false (by omega)
  rw[hT]
  simp only[q2,q3,aT,aaM,aaN,aaO,Vh,Pl,Tryz.vr,Value.oneCell',simprocAttr, -List.reduceReplicate]
  refine agc (B6 (k:=k) (q:=k+2+8+3+2) (cs:=ae .u8 n (fz mk f)++pA) (by omega) ?_ (cH g3)) (fun v out h=> .inr ⟨c2,pA,h.1,h.2,g1,g2,g3⟩)
  have q4:(k+2+8+3+2=k+1)=False:=eq_false (by omega)
  simp only[af,q4,Tryz.vr,Value.oneCell',simprocAttr, -List.reduceReplicate]
  rfl
end Go.Proofs.YtoakenpcooglpaaGreatDoor
namespace Go.Proofs.YtoakenpcooglpaaGreatDoor
open Go.cA
set_option linter.unusedSectionVars false
variable [aX]
theorem acz {s:AS} {nm t n:Nat} {v:AV} {rw:Bool} {f:Nat→Int} {cs:List SV} (hb:s.box t=some ⟨rw,cs⟩) (hp:cs.all SV.plain=true) (hv:eD t v n f cs) (hn:n+64≤140737488355328) {dst:Option Nat} {K:AS→Prop}
  (hk: ∀ c tail,n+64≤c→tail.length=c - (n+64)→tail.all SV.plain=true→K ((⟨s.env,upd s.box nm (some ⟨true,ae .u8 n f++(ae .u8 64 (fun _=>0)++tail)⟩),s.next⟩:AS).put dst (some (eO nm n c)))):aB Tryz.prog nm 5 (some [v]) dst K s:=by
 rcases hv with ⟨⟨a,rfl⟩,rfl⟩ | ⟨o,c,rfl,hs⟩
 ·exact F3 agN (fun n=>n) gI rfl hk
 ·exact F3 (agM hs hp hn) (fun _=>t) (dp hb hp) rfl hk
theorem acA {s:AS} {nm t u n c:Nat} {v:AV} {rw rw':Bool} {f:Nat→Int} {tail cs:List SV} (hb:s.box u=some ⟨rw,ae .u8 n f++(ae .u8 64 (fun _=>0)++tail)⟩) (ht:tail.all SV.plain=true) (hc:n+64≤c) (hb':s.box t=some ⟨rw',cs⟩) (hp:cs.all SV.plain=true) (hv:eD t v n f cs) (hn:n < 4611686018427387904) {dst:Option Nat} {K:AS→Prop}
  (hk:K (s.put dst (some (B true)))):aB Tryz.prog nm 13 (some [eO u n c,v]) dst K s:=by
 rcases hv with ⟨⟨a,rfl⟩,rfl⟩ | ⟨o,c',rfl,hs⟩
 ·exact (agQ hc ht).dV (fun _=>u) (dp hb (iP ht)) rfl rfl hk
 ·exact (agP hc hn ht hs hp).dV (two u t) (jz hb (iP ht) hb' hp) rfl rfl hk
theorem sF (a b:SV):splice [Sum.inl (Value.slice none 0 0),Sum.inl (Value.int IntKind.i64 0)] 0 [a,b]=[a,b]:=rfl
end Go.Proofs.YtoakenpcooglpaaGreatDoor
namespace Go.Proofs.YtoakenpcooglpaaGreatDoor
open Go.cA
set_option linter.unusedSectionVars false
variable [aX]
end Go.Proofs.YtoakenpcooglpaaGreatDoor
