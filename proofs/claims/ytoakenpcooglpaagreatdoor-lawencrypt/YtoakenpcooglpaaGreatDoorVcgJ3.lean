/-
  What is answered where something stands against a message.
-/
import Derived.Test.YtoakenpcooglpaaGreatDoorVcgJ1
import Derived.Test.YtoakenpcooglpaaGreatDoorVcgTu
import Derived.Test.YtoakenpcooglpaaGreatDoorVcgFacts
import Derived.Test.YtoakenpcooglpaaGreatDoorVcgZ1
set_option linter.unusedVariables false
set_option linter.unusedSimpArgs false
namespace Go.Proofs.YtoakenpcooglpaaGreatDoor
set_option maxHeartbeats 8000000
set_option maxRecDepth 20000
open Go.cA
set_option linter.unusedSectionVars false
variable [aX]
theorem Tryz.pz:bu Tryz.prog 50=some (false,1):=by kernel_rfl
def ajv (k n:Nat) (s:St) (f:Nat→En) (i:Nat) (v:AV) (out:Nat→Option aW):Prop:=
 (i=0∧v=Ag (dD 1 stZ (.inl (.slice none 0 0)) 0 0)∧out=fun _=>none)∨(i≠0∧ ∃ sv,v=Ag (dD (pw i) { s with store:=sv } (.inl (.slice none 0 0)) 0 0)∧LQ k n f sv out)
def il (nm n:Nat) (f:Nat→En) (sv:SV) (bx:Option aW):Prop:=
 (n=0∧sv= .inl (.slice none 0 0)∧bx=none)∨(0 < n∧ ∃ c cs,sv= .inr (.inr (nm,0,n,c))∧df cs 0 n c f∧bx=some ⟨true,cs⟩)
theorem UQ {k n nm:Nat} {f:Nat→En} {sv:SV} {out:Nat→Option aW} {r:Nat→Nat} (h:LQ k n f sv out) (hr:r k=nm):il nm n f (SV.bh r sv) ((out k).map (aW.bh r)):=by
 rcases h with ⟨h0,rfl,rfl⟩ | ⟨h0,c,cs,rfl,hg,rfl⟩
 ·exact .inl ⟨h0,rfl,rfl⟩
 ·refine .inr ⟨h0,c,cs,by simp only[SV.bh,hr],hg, ?_⟩
  have e:lk [(k,(⟨true,cs⟩:aW))] k=some ⟨true,cs⟩:=by simp[lk]
  rw[e];exact ek hg.plain
theorem Z5 {s:AS} {k q n:Nat} {f:Nat→En} {sv:SV} {bx:Option aW} {Post:AV→(Nat→Option aW)→Prop} (mk:SV→AV) (Z6: ∀ r v,AV.bh r (mk v)=mk (SV.bh r v)) (hok: ∀ (M:Nat→Prop) v,SV.ok M v→AV.ok M (mk v))
  (hq:k≤q) (hb:s.box q=bx) (hK:il q n f sv bx) (h: ∀ wA out,LQ k n f wA out→Post (mk wA) out):Ct k Post (mk sv) s:=by
 rcases hK with ⟨h0,rfl,rfl⟩ | ⟨h0,c,cs,rfl,hg,rfl⟩
 ·refine ⟨q,mk (.inl (.slice none 0 0)),fun _=>none,hq,by rw[Z6];rfl,hok _ _ (SV.bH rfl),fun m b hm=>(by simp at hm),h _ _ (.inl ⟨h0,rfl,rfl⟩)⟩
 ·refine ⟨q,mk (.inr (.inr (k,0,n,c))),lk [(k,⟨true,cs⟩)],hq, ?_,hok _ _ ⟨Nat.lt_succ_self k,rfl⟩,fun m b hm=> ?_,h _ _ (.inr ⟨h0,c,cs,rfl,hg,rfl⟩)⟩
  ·rw[Z6];simp only[SV.bh,kM]
  ·obtain ⟨rfl,rfl⟩:=tw hm
   exact ⟨Nat.lt_succ_self _,fun _=>rfl,aJ hg.plain,⟨true,cs⟩,by rw[kM];exact hb,fun h=>h,(bj hg.plain _).symm⟩
theorem sc {s:AS} {nm t n:Nat} {x:St} {f:Nat→En} {rw:Bool} {cs:List SV} (hb:s.box t=some ⟨rw,cs⟩) (hp:cs.all SV.plain=true) (hi:aY t x.store n f cs) (hn:n*72≤140737488355328) {dst:Option Nat} {K:AS→Prop}
  (hk: ∀ sv bx,il nm n f sv bx→K ((⟨s.env,upd s.box nm bx,s.next⟩:AS).put dst (some (Ag (bO { x with store:=sv }))))):bZ Tryz.prog nm 34 (some [Ag (bO x)]) dst K s:=by
 obtain ⟨v0,g0,e0⟩:=hi.name (k:=0)
 refine (ZT (s:={ x with store:=v0 }) g0 hp hn).bZ (fun _=>t) (dp hb hp) ?_ ?_
 ·simp only[List.map_cons,List.map_nil,gX,e0 (fun _=>t) rfl]
 ·rintro v out ⟨sv,rfl,hK⟩
  rw[gX]
  exact hk _ _ (UQ hK js)
theorem VS {s:St} {n i:Nat} {f:Nat→En} {cs:List SV} (h0:aY 0 s.store n f cs) (hp:cs.all SV.plain=true) (hi:i < 9) (hn:i≠0→n*72≤140737488355328):
  bt Tryz.prog 17 [Ag (bO s),V (mS i)] 1 (lk [(0,⟨false,cs⟩)]) (ajv 1 n s f i):=by
 refine j9 Tryz.func17 rfl (by kernel_rfl) [3] [] (by simp[Tryz.ntmps17]) Tryz.pX (fun y hy=>by
  simp only[Tryz.pz,List.mem_cons,List.not_mem_nil,or_false]at hy
  rcases hy with rfl | rfl
  ·exact cO (h0.ok (by decide))
  ·trivial) eG (eH hp) ?_
 simp only[Tryz.pz,Tryz.results17,bL,bP,fW,cU,aq,aI,az,aO,Tryz.vr,Value.oneCell',simprocAttr, -List.reduceReplicate]
 refine (mq (j:=0) hi (by decide)).aB ?_
 simp only[Tryz.pz,az,aO,Tryz.vr,Value.oneCell',simprocAttr, -List.reduceReplicate]
 refine dC (fun h=> ?_) (fun h=> ?_)
 ·obtain rfl:i=0:=by simpa using h
  simp only[Tryz.pz,bL,bP,fW,cU,aq,aI,az,aO,Tryz.vr,Value.oneCell',simprocAttr, -List.reduceReplicate]
  exact aC (ik rfl rfl) (.inl ⟨rfl,rfl,rfl⟩)
 have wH:i≠0:=by simpa using h
 simp only[Tryz.pz,az,aO,Tryz.vr,Value.oneCell',simprocAttr, -List.reduceReplicate]
 refine iK (by kernel_rfl) [0,2] [1,3] [] [4,5] [1] [9,11,10,12,13] (by kernel_rfl) (by kernel_rfl) (by kernel_rfl) ?_
 simp only[Tryz.pz,bL,bP,fW,cU,aq,aI,az,aO,Tryz.vr,Value.oneCell',simprocAttr, -List.reduceReplicate]
 refine (OL hi).bZ ?_
 simp only[Tryz.pz,bL,bP,fW,cU,aq,aI,az,aO,Tryz.vr,Value.oneCell',simprocAttr, -List.reduceReplicate]
 refine sc (t:=0) (rw:=false) (by simp only[Tryz.pz,az,Tryz.vr,Value.oneCell',simprocAttr, -List.reduceReplicate]) hp h0 (hn wH) ?_
 intro sv bx hK
 simp only[Tryz.pz,bL,bP,fW,cU,aq,aI,az,aO,Tryz.vr,Value.oneCell',simprocAttr, -List.reduceReplicate]
 exact Z5 (fun v=>Ag (dD (pw i) { s with store:=v } (.inl (.slice none 0 0)) 0 0)) (fun r v=>kz) (fun M v hv=>v9 hv (SV.bH rfl)) (q:=14) (by decide) (by simp only[Tryz.pz,az,Tryz.vr,Value.oneCell',simprocAttr, -List.reduceReplicate]) hK fun wA out h=> .inr ⟨wH,wA,rfl,h⟩
end Go.Proofs.YtoakenpcooglpaaGreatDoor
namespace Go.Proofs.YtoakenpcooglpaaGreatDoor
set_option maxHeartbeats 8000000
set_option maxRecDepth 20000
open Go.cA
set_option linter.unusedSectionVars false
variable [aX]
theorem gN (x n:Int) (h0:0≤n) (h1:n≤32):cB Tryz.prog 132 [I .u32 x,I .u64 n] (I .u32 (sY x n)):=by
 have w:IntKind.u64.wrap (32 - n)=32 - n:=au _ (by omega) (by omega)
 have c1:(0≤32 - n)=True:=eq_true (by omega)
 have c0:(0≤n)=True:=eq_true h0
 refine aK Tryz.func132 rfl (by kernel_rfl) (by simp[Tryz.ntmps132]) rfl rfl ?_
 simp only[Tryz.results132,Tryz.vs,Value.oneCell',simprocAttr, -List.reduceReplicate]
 simp only[w,c0,c1,Tryz.vs,Value.oneCell',simprocAttr, -List.reduceReplicate]
 exact rfl
theorem Z7 (x:Int) (n:Int) (h0:1≤n) (h1:n≤31):cB Tryz.prog 139 [I .u32 x,I .i64 (-n)] (I .u32 (sY x n)):=by
 have e:aS .and .u64 (IntKind.u64.wrap (-n)) 31=32 - n:=by
  rw[wrap_u64,show (31:Int)=2^5 - 1 from rfl,rL _ 5 (by omega) (by omega) (by decide)];omega
 have w:IntKind.u64.wrap (32 - (32 - n))=n:=by rw[wrap_u64];omega
 have c1:(0≤32 - n)=True:=eq_true (by omega)
 have c0:(0≤n)=True:=eq_true (by omega)
 refine aK Tryz.func139 rfl (by kernel_rfl) (by simp[Tryz.ntmps139]) rfl rfl ?_
 simp only[Tryz.results139,Tryz.vs,Value.oneCell',simprocAttr, -List.reduceReplicate]
 simp only[e,w,c0,c1,Tryz.vs,Value.oneCell',simprocAttr, -List.reduceReplicate]
 exact congrArg (I .u32) (Xr _ _ _)
theorem gO (x n:Int) (h0:1≤n) (h1:n≤31):cB Tryz.prog 138 [I .u32 x,I .i64 n] (I .u32 (sY x n)):=by
 have w:IntKind.i64.wrap (0 - n)= -n:=by rw[wrap_i64 _ (by omega) (by omega)];omega
 refine aK Tryz.func138 rfl (by kernel_rfl) (by simp[Tryz.ntmps138]) rfl rfl ?_
 simp only[Tryz.results138,Tryz.vs,Value.oneCell',simprocAttr, -List.reduceReplicate]
 simp only[w,Tryz.vs,Value.oneCell',simprocAttr, -List.reduceReplicate]
 refine (Z7 x n h0 h1).aB ?_
 simp only[Tryz.vs,Value.oneCell',simprocAttr, -List.reduceReplicate]
theorem G1 (v:Nat→Int):cB Tryz.prog 126 [Ag (ae .u32 8 v)] (Ag (ae .u8 32 (Gv v))):=by
 refine aK Tryz.func126 rfl (by kernel_rfl) (by simp[Tryz.ntmps126]) rfl rfl ?_
 simp only[Tryz.results126,Tryz.vr,Value.oneCell',simprocAttr, -List.reduceReplicate]
 refine aG 32 (fun k=>[(2,Ptr 1 0),(1,Ptr 0 0),(3,Ptr 2 0),(5,I .i64 k)])
  (fun k=>[(0,⟨true,ae .u32 8 v⟩),(1,⟨true,ae .u8 32 (fun _=>0)⟩),(2,⟨true,ae .u8 32 (fun i=>if i < k then Gv v i else 0)⟩)]) _ ?_ ?_ ?_
 ·simp only[Nat.not_lt_zero,if_false,Tryz.vr,Value.oneCell',simprocAttr, -List.reduceReplicate]
 ·intro j hj
  have a1:(((j / 4:Nat):Int) < 8)=True:=by simp;omega
  have a3:((j:Int) < 32)=True:=cf (m:=32) hj
  have q:=Cv j 4 (by omega)
  have r:=NO j 4
  rw[show ((4:Nat):Int)=4 from rfl]at q r
  have w1:IntKind.i64.wrap (((j%4:Nat):Int)*8)=8*((j%4:Nat):Int):=by rw[wrap_i64 _ (by omega) (by omega)];omega
  have w2:IntKind.i64.wrap (24 - 8*((j%4:Nat):Int))=24 - 8*((j%4:Nat):Int):=wrap_i64 _ (by omega) (by omega)
  have a2:(0≤24 - 8*((j%4:Nat):Int))=True:=eq_true (by omega)
  have fin:ae .u8 32 (upd (fun i=>if i < j then Gv v i else 0) j (Gv v j))=ae .u8 32 (fun i=>if i < j+1 then Gv v i else 0):=fc
  have eo:IntKind.u8.wrap (cr .u32 (v (j / 4)) (24 - 8*((j%4:Nat):Int)))=Gv v j:=rfl
  simp only[Tryz.vr,Value.oneCell',simprocAttr, -List.reduceReplicate]
  refine aD (by simp;omega) ?_
  simp only[q,r,w1,w2,a1,a2,a3,bl,ay .u32 8 v (j / 4) (by omega),Nat.mul_one,eo,aA .u8 32 _ j hj,fin,bD j (by omega),Tryz.vr,Value.oneCell',simprocAttr, -List.reduceReplicate]
  omega
 ·simp only[Tryz.vr,Value.oneCell',simprocAttr, -List.reduceReplicate]
  refine aH (by simp) ?_
  simp only[dG,Tryz.vr,Value.oneCell',simprocAttr, -List.reduceReplicate]
theorem agm {n:Nat} {f:Nat→Int} {o c:Nat} {cs:List SV} (hf:bY f) (hc:bE cs o n f) (hp:cs.all SV.plain=true) (t:Nat) (ht:4*t+4≤n) (ht':t < 16):
  bt Tryz.prog 131 [Sl 0 o n c,I .i64 ((4*t:Nat):Int)] 1 (lk [(0,⟨false,cs⟩)]) (fun v out=>v=I .u32 (yc f t)∧out=fun _=>none):=by
 refine aE Tryz.func131 rfl (by kernel_rfl) (by simp[Tryz.ntmps131]) Tryz.nN (by simp[AV.ok,CV.ok,SV.names]) eG (eH hp) ?_
 have a0:=hc (4*t) (by omega)
 have a1:=hc (4*t+1) (by omega)
 have a2:=hc (4*t+2) (by omega)
 have a3:=hc (4*t+3) (by omega)
 have w1:IntKind.i64.wrap (((4*t:Nat):Int)+1)=((4*t+1:Nat):Int):=wrap_i64 _ (by omega) (by omega)
 have w2:IntKind.i64.wrap (((4*t:Nat):Int)+2)=((4*t+2:Nat):Int):=wrap_i64 _ (by omega) (by omega)
 have w3:IntKind.i64.wrap (((4*t:Nat):Int)+3)=((4*t+3:Nat):Int):=wrap_i64 _ (by omega) (by omega)
 have w4:IntKind.i64.wrap (((4*t:Nat):Int)+4)=((4*t+4:Nat):Int):=wrap_i64 _ (by omega) (by omega)
 have d1:decide (((4*t:Nat):Int) < 0)=false:=decide_eq_false (by omega)
 have d2:decide ((n:Int) < ((4*t+4:Nat):Int))=false:=decide_eq_false (by omega)
 have l0:(((4*t:Nat):Int) < (n:Int))=True:=eq_true (by omega)
 have l1:(((4*t+1:Nat):Int) < (n:Int))=True:=eq_true (by omega)
 have l2:(((4*t+2:Nat):Int) < (n:Int))=True:=eq_true (by omega)
 have l3:(((4*t+3:Nat):Int) < (n:Int))=True:=eq_true (by omega)
 simp only[Tryz.results131,w1,w2,w3,w4,d1,d2,l0,l1,l2,l3,bl,a0,a1,a2,a3,Nat.mul_one,Tryz.vr,Value.oneCell',simprocAttr, -List.reduceReplicate]
 have e:=VA hf t
 simp only[e,Tryz.vr,Value.oneCell',simprocAttr, -List.reduceReplicate]
 exact ⟨by kernel_rfl,aC rfl ⟨rfl,rfl⟩⟩
def Z8 (f:Nat→Int) (i t:Nat):Int:=if 4*t+4≤i then yc f t else if 4*t≤i then pQ f t (i - 4*t) else 0
theorem Z9 (f:Nat→Int): ∀ t,Z8 f 0 t=0:=fun t=>by
 simp only[Z8];rw[if_neg (by omega)]
 split
 ·rw[show 0 - 4*t=0 by omega];rfl
 ·rfl
theorem agn (f:Nat→Int) (i:Nat):Z8 f i (i / 4)=pQ f (i / 4) (i%4):=by
 simp only[Z8];rw[if_neg (by omega),if_pos (by omega),show i - 4*(i / 4)=i%4 by omega]
theorem Z' (f:Nat→Int) (i:Nat):upd (Z8 f i) (i / 4) (pQ f (i / 4) (i%4+1))=Z8 f (i+1):=by
 funext t
 simp only[upd]
 split
 ·rename_i e;subst e
  simp only[Z8]
  by_cases h:4*(i / 4)+4≤i+1
  ·rw[if_pos h,show i%4+1=4 by omega];rfl
  ·rw[if_neg h,if_pos (by omega),show i+1 - 4*(i / 4)=i%4+1 by omega]
 ·rename_i e
  simp only[Z8]
  by_cases h:4*t+4≤i
  ·rw[if_pos h,if_pos (by omega)]
  ·rw[if_neg h,if_neg (show ¬ 4*t≤i by omega),if_neg (show ¬ 4*t+4≤i+1 by omega)]
   by_cases h3:4*t≤i+1
   ·rw[if_pos h3,show i+1 - 4*t=0 by omega];rfl
   ·rw[if_neg h3]
theorem abW (f:Nat→Int):ae .u32 64 (Z8 f 64)=ae .u32 64 (gW f 16):=aV fun t ht=>by
 have: ∀ k,k≤16→gW f k t=if t < k then yc f t else 0:=fun k=>by
  induction k with
  | zero=>intro _;rfl
  | succ k ih=>
   intro hk
   simp only[gW,upd]
   split
   ·rename_i e;subst e;rw[if_pos (by omega),if_pos (by omega)]
   ·rw[ih (by omega)]
    by_cases h:t < k
    ·rw[if_pos h,if_pos (by omega)]
    ·rw[if_neg h,if_neg (by omega)]
 rw[this 16 (Nat.le_refl _)]
 simp only[Z8]
 by_cases h:t < 16
 ·rw[if_pos (by omega),if_pos h]
 ·rw[if_neg (by omega),if_neg h]
  split
  ·rw[show 64 - 4*t=0 by omega];rfl
  ·rfl
theorem OP {f:Nat→Int} {o c:Nat} {cs:List SV} (hf:bY f) (hc:bE cs o 64 f) (hp:cs.all SV.plain=true):
  bt Tryz.prog 136 [Sl 0 o 64 c] 1 (lk [(0,⟨false,cs⟩)]) (fun v out=>v=Ag (ae .u32 64 (rO f))∧out=fun _=>none):=by
 refine aE Tryz.func136 rfl (by kernel_rfl) (by simp[Tryz.ntmps136]) Tryz.nP (by simp[AV.ok,CV.ok,SV.names]) eG (eH hp) ?_
 have fy: ∀ {M:Nat→Prop},(∀ x ∈ cs,SV.ok M x)=True:=eq_true (aJ hp)
 simp only[Tryz.results136,Tryz.vr,Value.oneCell',simprocAttr, -List.reduceReplicate]
 refine aG 64 (fun k=>[(2,Ptr 1 0),(3,Ptr 2 0),(9,Sl 0 o 64 c),(10,I .i64 64),(11,I .i64 k)])
  (fun k=>[(0,⟨false,cs⟩),(1,⟨true,ae .u32 64 (fun _=>0)⟩),(2,⟨true,ae .u32 64 (Z8 f k)⟩)]) _ ?_ ?_ ?_
 ·simp only[fy,Tryz.vr,Value.oneCell',simprocAttr, -List.reduceReplicate]
  exact congrArg (fun c=>some (aW.mk true c)) (aV fun i _=>(Z9 f i).symm)
 ·intro j hj
  have a1:(((j / 4:Nat):Int) < 64)=True:=by simp;omega
  have a3:((j:Int) < 64)=True:=cf (m:=64) hj
  have q:=Cv j 4 (by omega)
  rw[show ((4:Nat):Int)=4 from rfl]at q
  have st:=Vz hf (j / 4) (j%4) (by omega)
  rw[show 4*(j / 4)+j%4=j by omega]at st
  simp only[Tryz.vr,Value.oneCell',simprocAttr, -List.reduceReplicate]
  refine aD (by simp;omega) ?_
  simp only[q,a1,a3,bl,hc j hj,ay .u32 64 _ (j / 4) (show j / 4 < 64 by omega),agn,st,Nat.mul_one,aA .u32 64 _ (j / 4) (show j / 4 < 64 by omega),Z',bD j (by omega),Tryz.vr,Value.oneCell',simprocAttr, -List.reduceReplicate]
  exact ⟨by omega,aJ hp⟩
 ·simp only[Tryz.vr,Value.oneCell',simprocAttr, -List.reduceReplicate]
  refine aH (by simp) ?_
  simp only[abW,Tryz.vr,Value.oneCell',simprocAttr, -List.reduceReplicate]
  refine aG 48 (fun k=>[(2,Ptr 1 0),(3,Ptr 2 0),(6,I .i64 ((16+k:Nat):Int))])
   (fun k=>[(1,⟨true,ae .u32 64 (fun _=>0)⟩),(2,⟨true,ae .u32 64 (gW f (16+k))⟩)]) _ ?_ ?_ ?_
  ·simp only[Tryz.vr,Value.oneCell',simprocAttr, -List.reduceReplicate]
  ·intro k hk
   have w15:IntKind.i64.wrap (((16+k:Nat):Int) - 15)=((16+k - 15:Nat):Int):=by rw[wrap_i64 _ (by omega) (by omega)];omega
   have w2:IntKind.i64.wrap (((16+k:Nat):Int) - 2)=((16+k - 2:Nat):Int):=by rw[wrap_i64 _ (by omega) (by omega)];omega
   have w7:IntKind.i64.wrap (((16+k:Nat):Int) - 7)=((16+k - 7:Nat):Int):=by rw[wrap_i64 _ (by omega) (by omega)];omega
   have WC:IntKind.i64.wrap (((16+k:Nat):Int) - 16)=((16+k - 16:Nat):Int):=by rw[wrap_i64 _ (by omega) (by omega)];omega
   have l15:(((16+k - 15:Nat):Int) < 64)=True:=eq_true (by omega)
   have l2:(((16+k - 2:Nat):Int) < 64)=True:=eq_true (by omega)
   have l7:(((16+k - 7:Nat):Int) < 64)=True:=eq_true (by omega)
   have Ng:(((16+k - 16:Nat):Int) < 64)=True:=eq_true (by omega)
   have l0:(((16+k:Nat):Int) < 64)=True:=eq_true (by omega)
   have g: ∀ i,i < 64→(ae .u32 64 (gW f (16+k)))[i]? =some (Sum.inl (.int .u32 (gW f (16+k) i))):=fun i hi=>ay .u32 64 _ i hi
   simp only[Tryz.vr,Value.oneCell',simprocAttr, -List.reduceReplicate]
   refine aD (by simp;omega) ?_
   simp only[w15,w2,w7,WC,l15,l2,l7,Ng,l0,bl,g _ (show 16+k - 15 < 64 by omega),g _ (show 16+k - 2 < 64 by omega),g _ (show 16+k - 7 < 64 by omega),g _ (show 16+k - 16 < 64 by omega),Nat.mul_one,Tryz.vr,Value.oneCell',simprocAttr, -List.reduceReplicate]
   refine ⟨by kernel_rfl,cB.draw (gO _ 7 (by decide) (by decide)) Tryz.ie ?_⟩
   simp only[w15,w2,w7,WC,l15,l2,l7,Ng,l0,bl,g _ (show 16+k - 15 < 64 by omega),g _ (show 16+k - 2 < 64 by omega),g _ (show 16+k - 7 < 64 by omega),g _ (show 16+k - 16 < 64 by omega),Nat.mul_one,Tryz.vr,Value.oneCell',simprocAttr, -List.reduceReplicate]
   refine cB.draw (gO _ 18 (by decide) (by decide)) Tryz.ie ?_
   simp only[w15,w2,w7,WC,l15,l2,l7,Ng,l0,bl,g _ (show 16+k - 15 < 64 by omega),g _ (show 16+k - 2 < 64 by omega),g _ (show 16+k - 7 < 64 by omega),g _ (show 16+k - 16 < 64 by omega),Nat.mul_one,Tryz.vr,Value.oneCell',simprocAttr, -List.reduceReplicate]
   refine ⟨by kernel_rfl,cB.draw (gO _ 17 (by decide) (by decide)) Tryz.ie ?_⟩
   simp only[w15,w2,w7,WC,l15,l2,l7,Ng,l0,bl,g _ (show 16+k - 15 < 64 by omega),g _ (show 16+k - 2 < 64 by omega),g _ (show 16+k - 7 < 64 by omega),g _ (show 16+k - 16 < 64 by omega),Nat.mul_one,Tryz.vr,Value.oneCell',simprocAttr, -List.reduceReplicate]
   refine cB.draw (gO _ 19 (by decide) (by decide)) Tryz.ie ?_
   simp only[w15,w2,w7,WC,l15,l2,l7,Ng,l0,bl,g _ (show 16+k - 15 < 64 by omega),g _ (show 16+k - 2 < 64 by omega),g _ (show 16+k - 7 < 64 by omega),g _ (show 16+k - 16 < 64 by omega),Nat.mul_one,Tryz.vr,Value.oneCell',simprocAttr, -List.reduceReplicate]
   refine ⟨by kernel_rfl,by omega,congrArg (fun z=>some (I .i64 z)) (bD (16+k) (by omega)), ?_⟩
   have e:gW f (16+(k+1))=upd (gW f (16+k)) (16+k) (Xv (gW f (16+k)) (16+k)):=by
    show upd (gW f (16+k)) (16+k) (if 16+k < 16 then _ else _)=_
    rw[if_neg (by omega)];rfl
   rw[e, ← aA .u32 64 _ _ (by omega)]
   rfl
  ·simp only[Tryz.vr,Value.oneCell',simprocAttr, -List.reduceReplicate]
   refine aH (by simp) ?_
   simp only[Tryz.vr,Value.oneCell',simprocAttr, -List.reduceReplicate]
   exact aC aw ⟨rfl,rfl⟩
end Go.Proofs.YtoakenpcooglpaaGreatDoor
namespace Go.Proofs.YtoakenpcooglpaaGreatDoor
set_option maxHeartbeats 8000000
set_option maxRecDepth 20000
open Go.cA
set_option linter.unusedSectionVars false
variable [aX]
theorem yh:[Sum.inl (Value.int IntKind.u32 0),Sum.inl (Value.int IntKind.u32 0),Sum.inl (Value.int IntKind.u32 0),Sum.inl (Value.int IntKind.u32 0),Sum.inl (Value.int IntKind.u32 0),Sum.inl (Value.int IntKind.u32 0),Sum.inl (Value.int IntKind.u32 0),Sum.inl (Value.int IntKind.u32 0)]=ae .u32 8 (fun _=>0):=rfl
theorem Bz (v w:Nat→Int) (hv:Xu v):cB Tryz.prog 135 [Ag (ae .u32 8 v),Ag (ae .u32 64 w)] (Ag (ae .u32 8 (fun i=>IntKind.u32.wrap (v i+rounds kW v w 64 i)))):=by
 refine aK Tryz.func135 rfl (by kernel_rfl) (by simp[Tryz.ntmps135]) rfl rfl ?_
 have g: ∀ i,i < 8→(ae .u32 8 v)[i]? =some (Sum.inl (.int .u32 (v i))):=fun i hi=>ay .u32 8 _ i hi
 simp only[Tryz.results135,g 0 (by decide),g 1 (by decide),g 2 (by decide),g 3 (by decide),g 4 (by decide),g 5 (by decide),g 6 (by decide),g 7 (by decide),Tryz.vr,Value.oneCell',simprocAttr, -List.reduceReplicate]
 refine ⟨by kernel_rfl,by kernel_rfl, ?_⟩
 refine aG 64 (fun k=>[(2,Ptr 0 0),(3,Ptr 1 0),(4,Ptr 2 0),(5,I .u32 (rounds kW v w k 0)),(6,I .u32 (rounds kW v w k 1)),(7,I .u32 (rounds kW v w k 2)),(8,I .u32 (rounds kW v w k 3)),(9,I .u32 (rounds kW v w k 4)),(10,I .u32 (rounds kW v w k 5)),(11,I .u32 (rounds kW v w k 6)),(12,I .u32 (rounds kW v w k 7)),(36,I .i64 k)])
  (fun k=>[(0,⟨true,ae .u32 8 v⟩),(1,⟨true,ae .u32 64 w⟩),(2,⟨true,ae .u32 8 (fun _=>0)⟩)]) _ ?_ ?_ ?_
 ·simp only[rounds,yh,Tryz.vr,Value.oneCell',simprocAttr, -List.reduceReplicate]
 ·intro k hk
  have hr:=sZ (K:=kW) (w:=w) hv k
  have a3:((k:Int) < 64)=True:=cf (m:=64) hk
  have e: ∀ i,rounds kW v w (k+1) i=VC (rounds kW v w k) (kW k) (w k) i:=fun i=>rfl
  have n4:=abv _ (hr 4).1 (hr 4).2
  generalize rounds kW v w k=r at*
  simp only[Tryz.vr,Value.oneCell',simprocAttr, -List.reduceReplicate]
  refine aD (by simp;omega) ?_
  simp only[a3,bl,ay .u32 64 w k hk,Nat.mul_one,Tryz.vr,Value.oneCell',simprocAttr, -List.reduceReplicate]
  refine (gO _ 6 (by decide) (by decide)).aB ?_
  simp only[Tryz.vr,Value.oneCell',simprocAttr, -List.reduceReplicate]
  refine (gO _ 11 (by decide) (by decide)).aB ?_
  simp only[Tryz.vr,Value.oneCell',simprocAttr, -List.reduceReplicate]
  refine (gO _ 25 (by decide) (by decide)).aB ?_
  simp only[a3,bl,ay .u32 64 w k hk,ay .u32 64 kW k hk,Nat.mul_one,Tryz.vr,Value.oneCell',simprocAttr, -List.reduceReplicate]
  refine ⟨by kernel_rfl, ?_⟩
  refine (gO _ 2 (by decide) (by decide)).aB ?_
  simp only[Tryz.vr,Value.oneCell',simprocAttr, -List.reduceReplicate]
  refine (gO _ 13 (by decide) (by decide)).aB ?_
  simp only[Tryz.vr,Value.oneCell',simprocAttr, -List.reduceReplicate]
  refine (gO _ 22 (by decide) (by decide)).aB ?_
  simp only[Tryz.vr,Value.oneCell',simprocAttr, -List.reduceReplicate]
  have alI:(if IntKind.u32.signed=true then -1 else IntKind.u32.max)=4294967295:=rfl
  simp only[e,bD k (by omega),alI,n4,and_true]
  exact ⟨rfl,rfl,rfl,rfl,rfl,rfl,rfl,rfl⟩
 ·simp only[Tryz.vr,Value.oneCell',simprocAttr, -List.reduceReplicate]
  refine aH (by simp) ?_
  simp only[Tryz.vs,Value.oneCell',simprocAttr, -List.reduceReplicate]
  generalize rounds kW v w 64=r at*
  refine aG 8 (fun k=>[(2,Ptr 0 0),(4,Ptr 2 0),(109,Ag (ae .u32 8 r)),(110,I .i64 k)])
   (fun k=>[(0,⟨true,ae .u32 8 (fun i=>if i < k then IntKind.u32.wrap (v i+r i) else v i)⟩),(2,⟨true,ae .u32 8 (fun _=>0)⟩)]) _ ?_ ?_ ?_
  ·simp only[rM,Tryz.vr,Value.oneCell',simprocAttr, -List.reduceReplicate]
   rfl
  ·intro k hk
   have a3:((k:Int) < 8)=True:=cf (m:=8) hk
   have hf:(if k < k then IntKind.u32.wrap (v k+r k) else v k)=v k:=if_neg (Nat.lt_irrefl k)
   have fin:ae .u32 8 (upd (fun i=>if i < k then IntKind.u32.wrap (v i+r i) else v i) k (IntKind.u32.wrap (v k+r k)))=ae .u32 8 (fun i=>if i < k+1 then IntKind.u32.wrap (v i+r i) else v i):=fj (f:=fun i=>IntKind.u32.wrap (v i+r i))
   simp only[Tryz.vr,Value.oneCell',simprocAttr, -List.reduceReplicate]
   refine aD (by simp;omega) ?_
   simp only[a3,bl,ay .u32 8 _ k hk,hf,Nat.mul_one,aA .u32 8 _ k hk,fin,bD k (by omega),Tryz.vr,Value.oneCell',simprocAttr, -List.reduceReplicate]
   omega
  ·simp only[Tryz.vr,Value.oneCell',simprocAttr, -List.reduceReplicate]
   refine aH (by simp) ?_
   simp only[dG,Tryz.vr,Value.oneCell',simprocAttr, -List.reduceReplicate]
theorem OQ {f v:Nat→Int} {o c:Nat} {cs:List SV} (hv:Xu v) (hf:bY f) (hc:bE cs o 64 f) (hp:cs.all SV.plain=true):
  bt Tryz.prog 115 [Ag (ae .u32 8 v),Sl 0 o 64 c] 1 (lk [(0,⟨false,cs⟩)]) (fun u out=>u=Ag (ae .u32 8 (yd kW v f))∧out=fun _=>none):=by
 refine aE Tryz.func115 rfl (by kernel_rfl) (by simp[Tryz.ntmps115]) Tryz.nH (fun u hu=>by
  simp only[List.mem_cons,List.not_mem_nil,or_false]at hu
  rcases hu with rfl | rfl
  ·exact aJ aw
  ·exact (by decide:0 < 1)) eG (eH hp) ?_
 have fy: ∀ {M:Nat→Prop},(∀ x ∈ cs,SV.ok M x)=True:=eq_true (aJ hp)
 simp only[Tryz.results115,Tryz.vr,Value.oneCell',simprocAttr, -List.reduceReplicate]
 refine aG 64 (fun k=>[(1,Sl 0 o 64 c),(2,Ptr 1 0),(4,Ptr 2 0),(5,Ptr 3 0),(6,I .i64 k)])
  (fun k=>[(0,⟨false,cs⟩),(1,⟨true,ae .u32 8 v⟩),(2,⟨true,ae .u32 8 (fun _=>0)⟩),(3,⟨true,ae .u32 64 (gW f k)⟩)]) _ ?_ ?_ ?_
 ·simp only[fy,yh,gW,Tryz.vr,Value.oneCell',simprocAttr, -List.reduceReplicate]
 ·intro k hk
  have l0:((k:Int) < 64)=True:=cf (m:=64) hk
  have ws:=bD k (by omega)
  simp only[Tryz.vr,Value.oneCell',simprocAttr, -List.reduceReplicate]
  refine aD (by simp;omega) ?_
  by_cases FC:k < 16
  ·have e:gW f (k+1)=upd (gW f k) k (yc f k):=by
    show upd (gW f k) k (if k < 16 then _ else _)=_
    rw[if_pos FC]
   have w4:IntKind.i64.wrap (4*(k:Int))=((4*k:Nat):Int):=by rw[wrap_i64 _ (by omega) (by omega)];omega
   simp only[Tryz.vr,Value.oneCell',simprocAttr, -List.reduceReplicate]
   refine aD (by simp;omega) ?_
   simp only[w4,Tryz.vr,Value.oneCell',simprocAttr, -List.reduceReplicate]
   refine (agm hf hc hp k (by omega) FC).dV (fun _=>0) (dp (rw:=false) (by simp only[af,Tryz.vr,Value.oneCell',simprocAttr, -List.reduceReplicate]) hp) rfl rfl ?_
   simp only[fy,l0,bl,Nat.mul_one,ws,e,aA .u32 64 _ k hk,Tryz.vr,Value.oneCell',simprocAttr, -List.reduceReplicate]
   omega
  ·have w15:IntKind.i64.wrap ((k:Int) - 15)=((k - 15:Nat):Int):=by rw[wrap_i64 _ (by omega) (by omega)];omega
   have w2:IntKind.i64.wrap ((k:Int) - 2)=((k - 2:Nat):Int):=by rw[wrap_i64 _ (by omega) (by omega)];omega
   have w7:IntKind.i64.wrap ((k:Int) - 7)=((k - 7:Nat):Int):=by rw[wrap_i64 _ (by omega) (by omega)];omega
   have WC:IntKind.i64.wrap ((k:Int) - 16)=((k - 16:Nat):Int):=by rw[wrap_i64 _ (by omega) (by omega)];omega
   have l15:(((k - 15:Nat):Int) < 64)=True:=eq_true (by omega)
   have l2:(((k - 2:Nat):Int) < 64)=True:=eq_true (by omega)
   have l7:(((k - 7:Nat):Int) < 64)=True:=eq_true (by omega)
   have Ng:(((k - 16:Nat):Int) < 64)=True:=eq_true (by omega)
   have g: ∀ i,i < 64→(ae .u32 64 (gW f k))[i]? =some (Sum.inl (.int .u32 (gW f k i))):=fun i hi=>ay .u32 64 _ i hi
   have e:gW f (k+1)=upd (gW f k) k (Xv (gW f k) k):=by
    show upd (gW f k) k (if k < 16 then _ else _)=_
    rw[if_neg FC]
   simp only[Tryz.vr,Value.oneCell',simprocAttr, -List.reduceReplicate]
   refine aH (by simp;omega) ?_
   simp only[w15,w2,w7,WC,l15,l2,l7,Ng,l0,bl,g _ (show k - 15 < 64 by omega),g _ (show k - 2 < 64 by omega),g _ (show k - 7 < 64 by omega),g _ (show k - 16 < 64 by omega),Nat.mul_one,Tryz.vr,Value.oneCell',simprocAttr, -List.reduceReplicate]
   refine ⟨by kernel_rfl,cB.draw (gN _ 17 (by decide) (by decide)) Tryz.ft ?_⟩
   simp only[Tryz.vr,Value.oneCell',simprocAttr, -List.reduceReplicate]
   refine cB.draw (gN _ 19 (by decide) (by decide)) Tryz.ft ?_
   simp only[w15,w2,w7,WC,l15,l2,l7,Ng,l0,bl,g _ (show k - 15 < 64 by omega),g _ (show k - 2 < 64 by omega),g _ (show k - 7 < 64 by omega),g _ (show k - 16 < 64 by omega),Nat.mul_one,Tryz.vr,Value.oneCell',simprocAttr, -List.reduceReplicate]
   refine cB.draw (gN _ 7 (by decide) (by decide)) Tryz.ft ?_
   simp only[Tryz.vr,Value.oneCell',simprocAttr, -List.reduceReplicate]
   refine cB.draw (gN _ 18 (by decide) (by decide)) Tryz.ft ?_
   simp only[w15,w2,w7,WC,l15,l2,l7,Ng,l0,bl,g _ (show k - 15 < 64 by omega),g _ (show k - 2 < 64 by omega),g _ (show k - 7 < 64 by omega),g _ (show k - 16 < 64 by omega),Nat.mul_one,Tryz.vr,Value.oneCell',simprocAttr, -List.reduceReplicate]
   simp only[fy,e,ws,true_and,and_true]
   refine ⟨by omega, ?_⟩
   rw[← aA .u32 64 _ k hk]
   rfl
 ·simp only[Tryz.vr,Value.oneCell',simprocAttr, -List.reduceReplicate]
  refine aH (by simp) ?_
  simp only[aA .u32 8 _ _ (show 0 < 8 by decide),Tryz.vr,Value.oneCell',simprocAttr, -List.reduceReplicate]
  have z8: ∀ r:Nat→Int,splice (ae .u32 8 (fun _=>0)) 0 (ae .u32 8 r)=ae .u32 8 r:=fun r=>dP .u32 8 _ _
  simp only[yh,z8,Tryz.vr,Value.oneCell',simprocAttr, -List.reduceReplicate]
  refine aG 64 (fun k=>[(2,Ptr 1 0),(4,Ptr 2 0),(5,Ptr 3 0),(9,Ptr 8 0),(10,I .i64 k)])
   (fun k=>[(1,⟨true,ae .u32 8 v⟩),(2,⟨true,ae .u32 8 (fun _=>0)⟩),(3,⟨true,ae .u32 64 (gW f 64)⟩),(8,⟨true,ae .u32 8 (rounds kW v (rO f) k)⟩)]) _ ?_ ?_ ?_
  ·simp only[rounds,Tryz.vr,Value.oneCell',simprocAttr, -List.reduceReplicate]
  ·intro k hk
   have hr:=sZ (K:=kW) (w:=rO f) hv k
   have l0:((k:Int) < 64)=True:=cf (m:=64) hk
   have ws:=bD k (by omega)
   have e: ∀ i,rounds kW v (rO f) (k+1) i=VC (rounds kW v (rO f) k) (kW k) (gW f 64 k) i:=fun i=>rfl
   have ee:ae .u32 8 (rounds kW v (rO f) (k+1))=ae .u32 8 (VC (rounds kW v (rO f) k) (kW k) (gW f 64 k)):=rfl
   have wx: ∀ r4:Int,0≤r4∧r4 < 4294967296→IntKind.u32.wrap (4294967295 - r4)=4294967295 - r4:=fun r4 h=>kN _ (by omega) (by omega)
   have w4:=wx _ (hr 4)
   rw[ee]
   generalize rounds kW v (rO f) k=r at*
   have g: ∀ i,i < 8→(ae .u32 8 r)[i]? =some (Sum.inl (.int .u32 (r i))):=fun i hi=>ay .u32 8 _ i hi
   simp only[Tryz.vr,Value.oneCell',simprocAttr, -List.reduceReplicate]
   refine aD (by simp;omega) ?_
   simp only[g 0 (by decide),g 1 (by decide),g 2 (by decide),g 3 (by decide),g 4 (by decide),g 5 (by decide),g 6 (by decide),g 7 (by decide),w4,Tryz.vr,Value.oneCell',simprocAttr, -List.reduceReplicate]
   refine ⟨by kernel_rfl,cB.draw (gN _ 6 (by decide) (by decide)) Tryz.ft ?_⟩
   simp only[Tryz.vr,Value.oneCell',simprocAttr, -List.reduceReplicate]
   refine cB.draw (gN _ 11 (by decide) (by decide)) Tryz.ft ?_
   simp only[Tryz.vr,Value.oneCell',simprocAttr, -List.reduceReplicate]
   refine cB.draw (gN _ 25 (by decide) (by decide)) Tryz.ft ?_
   simp only[g 0 (by decide),g 1 (by decide),g 2 (by decide),g 3 (by decide),g 4 (by decide),g 5 (by decide),g 6 (by decide),g 7 (by decide),l0,bl,ay .u32 64 _ k hk,Nat.mul_one,w4,Tryz.vr,Value.oneCell',simprocAttr, -List.reduceReplicate]
   refine (gN _ 2 (by decide) (by decide)).aB ?_
   simp only[Tryz.vr,Value.oneCell',simprocAttr, -List.reduceReplicate]
   refine (gN _ 13 (by decide) (by decide)).aB ?_
   simp only[Tryz.vr,Value.oneCell',simprocAttr, -List.reduceReplicate]
   refine (gN _ 22 (by decide) (by decide)).aB ?_
   simp only[g 0 (by decide),g 1 (by decide),g 2 (by decide),g 3 (by decide),g 4 (by decide),g 5 (by decide),g 6 (by decide),g 7 (by decide),w4,Tryz.vs,Value.oneCell',simprocAttr, -List.reduceReplicate]
   refine ⟨by rw[ah];decide,congrArg (fun z=>some (I .i64 z)) ws, ?_⟩
   rw[List.drop_of_length_le (by rw[ah];decide)]
   rfl
  ·simp only[Tryz.vr,Value.oneCell',simprocAttr, -List.reduceReplicate]
   refine aH (by simp) ?_
   simp only[Tryz.vr,Value.oneCell',simprocAttr, -List.reduceReplicate]
   generalize hR:rounds kW v (rO f) 64=r at*
   refine aG 8 (fun k=>[(2,Ptr 1 0),(4,Ptr 2 0),(9,Ptr 8 0),(17,I .i64 k)])
    (fun k=>[(1,⟨true,ae .u32 8 v⟩),(2,⟨true,ae .u32 8 (fun _=>0)⟩),(8,⟨true,ae .u32 8 (fun i=>if i < k then IntKind.u32.wrap (v i+r i) else r i)⟩)]) _ ?_ ?_ ?_
   ·simp only[rM,Tryz.vr,Value.oneCell',simprocAttr, -List.reduceReplicate]
   ·intro k hk
    have a3:((k:Int) < 8)=True:=cf (m:=8) hk
    have hf:(if k < k then IntKind.u32.wrap (v k+r k) else r k)=r k:=if_neg (Nat.lt_irrefl k)
    have fin:ae .u32 8 (upd (fun i=>if i < k then IntKind.u32.wrap (v i+r i) else r i) k (IntKind.u32.wrap (r k+v k)))=ae .u32 8 (fun i=>if i < k+1 then IntKind.u32.wrap (v i+r i) else r i):=by
     rw[Int.add_comm (r k)];exact fj (f:=fun i=>IntKind.u32.wrap (v i+r i))
    simp only[Tryz.vr,Value.oneCell',simprocAttr, -List.reduceReplicate]
    refine aD (by simp;omega) ?_
    simp only[a3,bl,ay .u32 8 _ k hk,hf,Nat.mul_one,aA .u32 8 _ k hk,fin,bD k (by omega),Tryz.vr,Value.oneCell',simprocAttr, -List.reduceReplicate]
    exact ⟨by kernel_rfl,by omega⟩
   ·simp only[Tryz.vr,Value.oneCell',simprocAttr, -List.reduceReplicate]
    refine aH (by simp) ?_
    simp only[dG,Tryz.vr,Value.oneCell',simprocAttr, -List.reduceReplicate]
    refine aC aw ⟨?_,rfl⟩
    refine congrArg Ag (aV fun i _=> ?_)
    simp only[yd,hR]
end Go.Proofs.YtoakenpcooglpaaGreatDoor
namespace Go.Proofs.YtoakenpcooglpaaGreatDoor
set_option maxHeartbeats 8000000
set_option maxRecDepth 20000
open Go.cA
set_option linter.unusedSectionVars false
variable [aX]
def gP (x:Int) (j:Nat):Int:=IntKind.u8.wrap (cr .u64 x (56 - 8*(j:Int)))
theorem Mc {n o c:Nat} {f:Nat→Int} {cs:List SV} {x:Int} (hg:bR cs o n c f) (hn:n+8≤140737488355328):
  bt Tryz.prog 90 [Sl 0 o n c,I .u64 x] 1 (lk [(0,⟨true,cs⟩)]) (Made 1 (n+8) (aR n f (gP x))):=by
 refine aE Tryz.func90 rfl (by kernel_rfl) (by simp[Tryz.ntmps90]) Tryz.mg (by simp[AV.ok,CV.ok,SV.names]) eG (eH hg.plain) ?_
 simp only[Tryz.results90,Tryz.vr,Value.oneCell',Nat.reduceAdd,Nat.reduceMul,Nat.reduceSub,Nat.reduceLT,Nat.reduceLeDiff,Nat.reduceEqDiff,Int.reduceLE,Int.reduceLT,Int.reduceToNat,Int.reduceNe,Int.reduceEq,Nat.reduceBEq,Nat.reduceDiv,Int.reduceAdd,Int.reduceSub,reduceIte,↓reduceIte,reduceCtorEq]
 refine lz (β:=Nat×Nat×List SV) 8 (fun k y=>bR y.2.2 y.1 (n+k) y.2.1 (aR n f (gP x))∧(k=0∨y.1=0))
  (fun k y=>[(0,Sl 30 y.1 (n+k) y.2.1),(1,I .u64 x),(5,I .i64 (56 - 8*(k:Int)))]) (fun k y=>[(30,⟨true,y.2.2⟩)]) 31 (o,c,cs) ?_ ?_ ?_ (by show 3≤31;decide)
 ·refine ⟨⟨⟨hg.len,hg.room,hg.plain,kO hg.ez fun i hi=> ?_⟩, .inl rfl⟩,30,0, ?_⟩
  ·simp only[aR,if_pos (show i < n from hi)]
  ·simp only[eI,gy,er,iT,jS,hg.plain,true_or,Tryz.vr,Value.oneCell',Nat.reduceAdd,Nat.reduceMul,Nat.reduceSub,Nat.reduceLT,Nat.reduceLeDiff,Nat.reduceEqDiff,Int.reduceLE,Int.reduceLT,Int.reduceToNat,Int.reduceNe,Int.reduceEq,Nat.reduceBEq,Nat.reduceDiv,Int.reduceAdd,Int.reduceSub,reduceIte,↓reduceIte,reduceCtorEq]
   simp
 ·rintro k ⟨o',c',cs'⟩ hk ⟨h1,h2⟩
  simp only at h1 h2
  have a2:(0≤56 - 8*(k:Int))=True:=eq_true (by omega)
  have ws:IntKind.i64.wrap (56 - 8*(k:Int) - 8)=56 - 8*((k+1:Nat):Int):=by rw[wrap_i64 _ (by omega) (by omega)];omega
  have eb:IntKind.u8.wrap (cr .u64 x (56 - 8*(k:Int)))=gP x k:=rfl
  simp only[Tryz.vr,Value.oneCell',Nat.reduceAdd,Nat.reduceMul,Nat.reduceSub,Nat.reduceLT,Nat.reduceLeDiff,Nat.reduceEqDiff,Int.reduceLE,Int.reduceLT,Int.reduceToNat,Int.reduceNe,Int.reduceEq,Nat.reduceBEq,Nat.reduceDiv,Int.reduceAdd,Int.reduceSub,reduceIte,↓reduceIte,reduceCtorEq]
  refine aD (by simp;omega) ?_
  simp only[a2,eb,Tryz.vr,Value.oneCell',Nat.reduceAdd,Nat.reduceMul,Nat.reduceSub,Nat.reduceLT,Nat.reduceLeDiff,Nat.reduceEqDiff,Int.reduceLE,Int.reduceLT,Int.reduceToNat,Int.reduceNe,Int.reduceEq,Nat.reduceBEq,Nat.reduceDiv,Int.reduceAdd,Int.reduceSub,reduceIte,↓reduceIte,reduceCtorEq]
  refine bn (g:=fun _=>gP x k) Tryz.bS Tryz.bW (by simp only[af,Tryz.vr,Value.oneCell',Nat.reduceAdd,Nat.reduceMul,Nat.reduceSub,Nat.reduceLT,Nat.reduceLeDiff,Nat.reduceEqDiff,Int.reduceLE,Int.reduceLT,Int.reduceToNat,Int.reduceNe,Int.reduceEq,Nat.reduceBEq,Nat.reduceDiv,Int.reduceAdd,Int.reduceSub,reduceIte,↓reduceIte,reduceCtorEq]) h1 (.inr ⟨38,0,1,true,[Sum.inl (.int .u8 (gP x k))],rfl,by simp only[af,dL,Tryz.vr,Value.oneCell',Nat.reduceAdd,Nat.reduceMul,Nat.reduceSub,Nat.reduceLT,Nat.reduceLeDiff,Nat.reduceEqDiff,Int.reduceLE,Int.reduceLT,Int.reduceToNat,Int.reduceNe,Int.reduceEq,Nat.reduceBEq,Nat.reduceDiv,Int.reduceAdd,Int.reduceSub,reduceIte,↓reduceIte,reduceCtorEq],b7,by decide⟩) (by omega) ?_
  intro c2 kZ gC
  simp only[ws,Tryz.vr,Value.oneCell',Nat.reduceAdd,Nat.reduceMul,Nat.reduceSub,Nat.reduceLT,Nat.reduceLeDiff,Nat.reduceEqDiff,Int.reduceLE,Int.reduceLT,Int.reduceToNat,Int.reduceNe,Int.reduceEq,Nat.reduceBEq,Nat.reduceDiv,Int.reduceAdd,Int.reduceSub,reduceIte,↓reduceIte,reduceCtorEq]
  refine ⟨(0,c2,kZ),⟨gC.congr (by omega) fun i hi=>NP i (by omega), .inr rfl⟩,30,39, ?_⟩
  simp only[eI,gy,er,iT,jS,gC.plain,true_or,Tryz.vr,Value.oneCell',Nat.reduceAdd,Nat.reduceMul,Nat.reduceSub,Nat.reduceLT,Nat.reduceLeDiff,Nat.reduceEqDiff,Int.reduceLE,Int.reduceLT,Int.reduceToNat,Int.reduceNe,Int.reduceEq,Nat.reduceBEq,Nat.reduceDiv,Int.reduceAdd,Int.reduceSub,reduceIte,↓reduceIte,reduceCtorEq]
  simp[Nat.add_assoc]
 ·rintro ⟨o',c',cs'⟩ ⟨h1,h2⟩
  simp only at h1 h2
  have:o'=0:=by omega
  subst this
  simp only[Tryz.vr,Value.oneCell',Nat.reduceAdd,Nat.reduceMul,Nat.reduceSub,Nat.reduceLT,Nat.reduceLeDiff,Nat.reduceEqDiff,Int.reduceLE,Int.reduceLT,Int.reduceToNat,Int.reduceNe,Int.reduceEq,Nat.reduceBEq,Nat.reduceDiv,Int.reduceAdd,Int.reduceSub,reduceIte,↓reduceIte,reduceCtorEq]
  refine aH (by decide) ?_
  simp only[Tryz.vr,Value.oneCell',Nat.reduceAdd,Nat.reduceMul,Nat.reduceSub,Nat.reduceLT,Nat.reduceLeDiff,Nat.reduceEqDiff,Int.reduceLE,Int.reduceLT,Int.reduceToNat,Int.reduceNe,Int.reduceEq,Nat.reduceBEq,Nat.reduceDiv,Int.reduceAdd,Int.reduceSub,reduceIte,↓reduceIte,reduceCtorEq]
  refine dS (k:=1) (q:=30) (cs:=cs') (by decide) ?_ h1.plain h1.made
  simp only[Tryz.vr,Value.oneCell',Nat.reduceAdd,Nat.reduceMul,Nat.reduceSub,Nat.reduceLT,Nat.reduceLeDiff,Nat.reduceEqDiff,Int.reduceLE,Int.reduceLT,Int.reduceToNat,Int.reduceNe,Int.reduceEq,Nat.reduceBEq,Nat.reduceDiv,Int.reduceAdd,Int.reduceSub,reduceIte,↓reduceIte,reduceCtorEq]
theorem BA {f v:Nat→Int} {o c m:Nat} {cs:List SV} (hv:Xu v) (hf:bY f) (hc:bE cs o (64*m) f) (hcap:64*m≤c) (hm:64*m < 4611686018427387904) (hp:cs.all SV.plain=true):
  bt Tryz.prog 124 [Ag (ae .u32 8 v),Sl 0 o (64*m) c] 1 (lk [(0,⟨false,cs⟩)]) (fun u out=>u=Ag (ae .u32 8 (iC kW v f m))∧out=fun _=>none):=by
 refine aE Tryz.func124 rfl (by kernel_rfl) (by simp[Tryz.ntmps124]) Tryz.nJ (fun u hu=>by
  simp only[List.mem_cons,List.not_mem_nil,or_false]at hu
  rcases hu with rfl | rfl
  ·exact aJ aw
  ·exact (by decide:0 < 1)) eG (eH hp) ?_
 have fy: ∀ {M:Nat→Prop},(∀ x ∈ cs,SV.ok M x)=True:=eq_true (aJ hp)
 simp only[Tryz.results124,Tryz.vr,Value.oneCell',Nat.reduceAdd,Nat.reduceMul,Nat.reduceSub,Nat.reduceLT,Nat.reduceLeDiff,Nat.reduceEqDiff,Int.reduceLE,Int.reduceLT,Int.reduceToNat,Int.reduceNe,Int.reduceEq,Nat.reduceBEq,Nat.reduceDiv,Int.reduceAdd,Int.reduceSub,reduceIte,↓reduceIte,reduceCtorEq]
 refine aG m (fun k=>[(1,Sl 0 o (64*m) c),(2,Ptr 1 0),(4,Ptr 2 0),(5,I .i64 ((64*k:Nat):Int))])
  (fun k=>[(0,⟨false,cs⟩),(1,⟨true,ae .u32 8 (iC kW v f k)⟩),(2,⟨true,ae .u32 8 (fun _=>0)⟩)]) _ ?_ ?_ ?_
 ·simp only[fy,yh,iC,Nat.mul_zero,Tryz.vr,Value.oneCell',Nat.reduceAdd,Nat.reduceMul,Nat.reduceSub,Nat.reduceLT,Nat.reduceLeDiff,Nat.reduceEqDiff,Int.reduceLE,Int.reduceLT,Int.reduceToNat,Int.reduceNe,Int.reduceEq,Nat.reduceBEq,Nat.reduceDiv,Int.reduceAdd,Int.reduceSub,reduceIte,↓reduceIte,reduceCtorEq]
 ·intro k hk
  have l1:(((64*k:Nat):Int)≤((64*k+64:Nat):Int))=True:=eq_true (by omega)
  have l2:(((64*k+64:Nat):Int)≤(c:Int))=True:=eq_true (by omega)
  have w1:IntKind.i64.wrap (((64*k:Nat):Int)+64)=((64*k+64:Nat):Int):=by rw[wrap_i64 _ (by omega) (by omega)];omega
  have h4:(if c=64*k then o else o+64*k)=o+64*k:=if_neg (by omega)
  have h5:64*k+64 - 64*k=64:=by omega
  have z8: ∀ r r':Nat→Int,splice (ae .u32 8 r') 0 (ae .u32 8 r)=ae .u32 8 r:=fun r r'=>dP .u32 8 _ _
  have ee:(fun i=>IntKind.u32.wrap (iC kW v f k i+rounds kW (iC kW v f k) (rO (fun i=>f (64*k+i))) 64 i))=iC kW v f (k+1):=rfl
  simp only[Tryz.vr,Value.oneCell',Nat.reduceAdd,Nat.reduceMul,Nat.reduceSub,Nat.reduceLT,Nat.reduceLeDiff,Nat.reduceEqDiff,Int.reduceLE,Int.reduceLT,Int.reduceToNat,Int.reduceNe,Int.reduceEq,Nat.reduceBEq,Nat.reduceDiv,Int.reduceAdd,Int.reduceSub,reduceIte,↓reduceIte,reduceCtorEq]
  refine aD (by simp;omega) ?_
  simp only[w1,l1,l2,h4,h5,bl,Nat.mul_one,Tryz.vr,Value.oneCell',Nat.reduceAdd,Nat.reduceMul,Nat.reduceSub,Nat.reduceLT,Nat.reduceLeDiff,Nat.reduceEqDiff,Int.reduceLE,Int.reduceLT,Int.reduceToNat,Int.reduceNe,Int.reduceEq,Nat.reduceBEq,Nat.reduceDiv,Int.reduceAdd,Int.reduceSub,reduceIte,↓reduceIte,reduceCtorEq]
  refine ⟨by kernel_rfl, ?_⟩
  refine (OP (f:=fun i=>f (64*k+i)) (fun i=>hf _) (jc hc (64*k) 64 (by omega)) hp).en (fun _=>0) (dp (rw:=false) (by simp only[af,Tryz.vr,Value.oneCell',Nat.reduceAdd,Nat.reduceMul,Nat.reduceSub,Nat.reduceLT,Nat.reduceLeDiff,Nat.reduceEqDiff,Int.reduceLE,Int.reduceLT,Int.reduceToNat,Int.reduceNe,Int.reduceEq,Nat.reduceBEq,Nat.reduceDiv,Int.reduceAdd,Int.reduceSub,reduceIte,↓reduceIte,reduceCtorEq]) hp) aw (by rfl) (fun M h n _=>h (Sl 0 (o+64*k) 64 (c - 64*k)) (List.Mem.head _)) ?_
  simp only[Tryz.vr,Value.oneCell',Nat.reduceAdd,Nat.reduceMul,Nat.reduceSub,Nat.reduceLT,Nat.reduceLeDiff,Nat.reduceEqDiff,Int.reduceLE,Int.reduceLT,Int.reduceToNat,Int.reduceNe,Int.reduceEq,Nat.reduceBEq,Nat.reduceDiv,Int.reduceAdd,Int.reduceSub,reduceIte,↓reduceIte,reduceCtorEq]
  refine cB.draw (Bz _ _ (Gu hv k)) Tryz.nO ?_
  rw[ee]
  simp only[z8,w1,fy,Tryz.vr,Value.oneCell',Nat.reduceAdd,Nat.reduceMul,Nat.reduceSub,Nat.reduceLT,Nat.reduceLeDiff,Nat.reduceEqDiff,Int.reduceLE,Int.reduceLT,Int.reduceToNat,Int.reduceNe,Int.reduceEq,Nat.reduceBEq,Nat.reduceDiv,Int.reduceAdd,Int.reduceSub,reduceIte,↓reduceIte,reduceCtorEq]
  exact congrArg (fun z:Nat=>some (I .i64 (z:Int))) (by omega)
 ·simp only[Tryz.vr,Value.oneCell',Nat.reduceAdd,Nat.reduceMul,Nat.reduceSub,Nat.reduceLT,Nat.reduceLeDiff,Nat.reduceEqDiff,Int.reduceLE,Int.reduceLT,Int.reduceToNat,Int.reduceNe,Int.reduceEq,Nat.reduceBEq,Nat.reduceDiv,Int.reduceAdd,Int.reduceSub,reduceIte,↓reduceIte,reduceCtorEq]
  refine aH (by simp) ?_
  simp only[Tryz.vr,Value.oneCell',Nat.reduceAdd,Nat.reduceMul,Nat.reduceSub,Nat.reduceLT,Nat.reduceLeDiff,Nat.reduceEqDiff,Int.reduceLE,Int.reduceLT,Int.reduceToNat,Int.reduceNe,Int.reduceEq,Nat.reduceBEq,Nat.reduceDiv,Int.reduceAdd,Int.reduceSub,reduceIte,↓reduceIte,reduceCtorEq]
  exact aC aw ⟨rfl,rfl⟩
theorem aac {l j:Nat} (hl:l < 140737488355328) (hj:j < 8):gP (IntKind.u64.wrap (IntKind.u64.wrap (l:Int)*8)) j=oP l j:=by
 rw[au (l:Int) (by omega) (by omega),au _ (by omega) (by omega)]
 have e:(56 - 8*(j:Int))=((56 - 8*j:Nat):Int):=by omega
 simp only[gP,oP]
 rw[e,dK .u64 _ _ (show 56 - 8*j≤IntKind.u64.bits by simp only[IntKind.bits];omega),wrap_u8]
 simp
theorem aad {n o c l:Nat} {f:Nat→Int} {cs:List SV} (hc:bE cs o n f) (hp:cs.all SV.plain=true) (hn:n < 64) (hl:l < 140737488355328) (hln:l%64=n):
  bt Tryz.prog 125 [Sl 0 o n c,I .i64 l] 1 (lk [(0,⟨false,cs⟩)]) (Made 1 (64*(blocks l - l / 64)) (fun i=>iS (fun j=>f (j - l / 64*64)) l (l / 64*64+i))):=by
 refine aE Tryz.func125 rfl (by kernel_rfl) (by simp[Tryz.ntmps125]) Tryz.nK (by simp[AV.ok,CV.ok,SV.names]) eG (eH hp) ?_
 have fy: ∀ {M:Nat→Prop},(∀ x ∈ cs,SV.ok M x)=True:=eq_true (aJ hp)
 simp only[Tryz.results125,Tryz.vr,Value.oneCell',Nat.reduceAdd,Nat.reduceMul,Nat.reduceSub,Nat.reduceLT,Nat.reduceLeDiff,Nat.reduceEqDiff,Int.reduceLE,Int.reduceLT,Int.reduceToNat,Int.reduceNe,Int.reduceEq,Nat.reduceBEq,Nat.reduceDiv,Int.reduceAdd,Int.reduceSub,reduceIte,↓reduceIte,reduceCtorEq]
 refine ⟨by decide, ?_⟩
 have hz:bR (ae .u8 128 (fun _=>0)) 0 0 128 (fun _=>0):=⟨by rw[ah],by decide,aw,fun i hi=>by omega⟩
 refine bn (f:=fun _=>0) (g:=f) Tryz.bS Tryz.bW (by simp only[af,Tryz.vr,Value.oneCell',Nat.reduceAdd,Nat.reduceMul,Nat.reduceSub,Nat.reduceLT,Nat.reduceLeDiff,Nat.reduceEqDiff,Int.reduceLE,Int.reduceLT,Int.reduceToNat,Int.reduceNe,Int.reduceEq,Nat.reduceBEq,Nat.reduceDiv,Int.reduceAdd,Int.reduceSub,reduceIte,↓reduceIte,reduceCtorEq]) hz (.inr ⟨0,o,c,false,cs,rfl,by simp only[af,Tryz.vr,Value.oneCell',Nat.reduceAdd,Nat.reduceMul,Nat.reduceSub,Nat.reduceLT,Nat.reduceLeDiff,Nat.reduceEqDiff,Int.reduceLE,Int.reduceLT,Int.reduceToNat,Int.reduceNe,Int.reduceEq,Nat.reduceBEq,Nat.reduceDiv,Int.reduceAdd,Int.reduceSub,reduceIte,↓reduceIte,reduceCtorEq],hc,by decide⟩) (by omega) ?_
 intro c1 mT gx
 simp only[Nat.zero_add,Tryz.vr,Value.oneCell',Nat.reduceAdd,Nat.reduceMul,Nat.reduceSub,Nat.reduceLT,Nat.reduceLeDiff,Nat.reduceEqDiff,Int.reduceLE,Int.reduceLT,Int.reduceToNat,Int.reduceNe,Int.reduceEq,Nat.reduceBEq,Nat.reduceDiv,Int.reduceAdd,Int.reduceSub,reduceIte,↓reduceIte,reduceCtorEq]
 refine bn (g:=fun _=>128) Tryz.bS Tryz.bW (by simp only[af,Nat.zero_add,Tryz.vr,Value.oneCell',Nat.reduceAdd,Nat.reduceMul,Nat.reduceSub,Nat.reduceLT,Nat.reduceLeDiff,Nat.reduceEqDiff,Int.reduceLE,Int.reduceLT,Int.reduceToNat,Int.reduceNe,Int.reduceEq,Nat.reduceBEq,Nat.reduceDiv,Int.reduceAdd,Int.reduceSub,reduceIte,↓reduceIte,reduceCtorEq]) (gx.congr (m:=n) (g:=f) (by omega) (fun i hi=>by simp only[aR];rw[if_neg (by omega),Nat.sub_zero])) (.inr ⟨9,0,1,true,[Sum.inl (.int .u8 128)],rfl,by simp only[af,dL,Tryz.vr,Value.oneCell',Nat.reduceAdd,Nat.reduceMul,Nat.reduceSub,Nat.reduceLT,Nat.reduceLeDiff,Nat.reduceEqDiff,Int.reduceLE,Int.reduceLT,Int.reduceToNat,Int.reduceNe,Int.reduceEq,Nat.reduceBEq,Nat.reduceDiv,Int.reduceAdd,Int.reduceSub,reduceIte,↓reduceIte,reduceCtorEq],b7,by decide⟩) (by omega) ?_
 intro c2 kZ gC
 simp only[Tryz.vr,Value.oneCell',Nat.reduceAdd,Nat.reduceMul,Nat.reduceSub,Nat.reduceLT,Nat.reduceLeDiff,Nat.reduceEqDiff,Int.reduceLE,Int.reduceLT,Int.reduceToNat,Int.reduceNe,Int.reduceEq,Nat.reduceBEq,Nat.reduceDiv,Int.reduceAdd,Int.reduceSub,reduceIte,↓reduceIte,reduceCtorEq]
 have hE:64*(blocks l - l / 64)=if n < 56 then 64 else 128:=by
  simp only[blocks];split<;>omega
 generalize 64*(blocks l - l / 64)=E at*
 have hE1:n+9≤E∧E≤128:=by split at hE<;>omega
 have hF: ∀ i,i < E→iS (fun j=>f (j - l / 64*64)) l (l / 64*64+i)=aR (E - 8) (aR n f (aR 1 (fun _=>128) (fun _=>0))) (fun j=>oP l j) i:=fun i hi=>by
  have hb:64*blocks l - 8=l / 64*64+(E - 8):=by simp only[blocks];split at hE<;>omega
  simp only[iS,aR,hb]
  by_cases h1:i < n
  ·rw[if_pos (by omega),if_pos (by omega),if_pos h1,show l / 64*64+i - l / 64*64=i by omega]
  ·rw[if_neg (by omega)]
   by_cases h2:i=n
   ·rw[if_pos (by omega),if_pos (by omega),if_neg h1,if_pos (by omega)]
   ·rw[if_neg (by omega)]
    by_cases h3:i < E - 8
    ·rw[if_pos (by omega),if_pos h3,if_neg h1,if_neg (by omega)]
    ·rw[if_neg (by omega),if_neg h3,show l / 64*64+i - (l / 64*64+(E - 8))=i - (E - 8) by omega]
 refine lz (β:=Nat×List SV) (E - 8 - (n+1)) (fun k y=>bR y.2 0 (n+1+k) y.1 (aR n f (aR 1 (fun _=>128) (fun _=>0))))
  (fun k y=>[(1,I .i64 l),(5,Sl 30 0 (n+1+k) y.1)]) (fun k y=>[(30,⟨true,y.2⟩)]) 31 (c2,kZ) ?_ ?_ ?_ (by show 12≤31;decide)
 ·refine ⟨gC.congr rfl fun i hi=> ?_,30,10, ?_⟩
  ·simp only[aR];split
   ·rfl
   ·rw[if_pos (by omega)]
  ·simp only[eI,gy,er,iT,jS,gC.plain,true_or,Tryz.vr,Value.oneCell',Nat.reduceAdd,Nat.reduceMul,Nat.reduceSub,Nat.reduceLT,Nat.reduceLeDiff,Nat.reduceEqDiff,Int.reduceLE,Int.reduceLT,Int.reduceToNat,Int.reduceNe,Int.reduceEq,Nat.reduceBEq,Nat.reduceDiv,Int.reduceAdd,Int.reduceSub,reduceIte,↓reduceIte,reduceCtorEq]
   simp
 ·rintro k ⟨c',cs'⟩ hk h1
  simp only at h1
  have hr:=NO (n+1+k) 64
  rw[show ((64:Nat):Int)=64 from rfl]at hr
  have hne:(n+1+k)%64≠56:=by split at hE<;>omega
  simp only[hr,Tryz.vr,Value.oneCell',Nat.reduceAdd,Nat.reduceMul,Nat.reduceSub,Nat.reduceLT,Nat.reduceLeDiff,Nat.reduceEqDiff,Int.reduceLE,Int.reduceLT,Int.reduceToNat,Int.reduceNe,Int.reduceEq,Nat.reduceBEq,Nat.reduceDiv,Int.reduceAdd,Int.reduceSub,reduceIte,↓reduceIte,reduceCtorEq]
  refine aD (by simp;omega) ?_
  simp only[Tryz.vr,Value.oneCell',Nat.reduceAdd,Nat.reduceMul,Nat.reduceSub,Nat.reduceLT,Nat.reduceLeDiff,Nat.reduceEqDiff,Int.reduceLE,Int.reduceLT,Int.reduceToNat,Int.reduceNe,Int.reduceEq,Nat.reduceBEq,Nat.reduceDiv,Int.reduceAdd,Int.reduceSub,reduceIte,↓reduceIte,reduceCtorEq]
  refine bn (g:=fun _=>0) Tryz.bS Tryz.bW (by simp only[af,Tryz.vr,Value.oneCell',Nat.reduceAdd,Nat.reduceMul,Nat.reduceSub,Nat.reduceLT,Nat.reduceLeDiff,Nat.reduceEqDiff,Int.reduceLE,Int.reduceLT,Int.reduceToNat,Int.reduceNe,Int.reduceEq,Nat.reduceBEq,Nat.reduceDiv,Int.reduceAdd,Int.reduceSub,reduceIte,↓reduceIte,reduceCtorEq]) h1 (.inr ⟨_,_,_,true,[Sum.inl (.int .u8 0)],rfl,by simp only[af,dL,Tryz.vr,Value.oneCell',Nat.reduceAdd,Nat.reduceMul,Nat.reduceSub,Nat.reduceLT,Nat.reduceLeDiff,Nat.reduceEqDiff,Int.reduceLE,Int.reduceLT,Int.reduceToNat,Int.reduceNe,Int.reduceEq,Nat.reduceBEq,Nat.reduceDiv,Int.reduceAdd,Int.reduceSub,reduceIte,↓reduceIte,reduceCtorEq],b7,by decide⟩) (by omega) ?_
  intro c3 tt kH
  simp only[Tryz.vr,Value.oneCell',Nat.reduceAdd,Nat.reduceMul,Nat.reduceSub,Nat.reduceLT,Nat.reduceLeDiff,Nat.reduceEqDiff,Int.reduceLE,Int.reduceLT,Int.reduceToNat,Int.reduceNe,Int.reduceEq,Nat.reduceBEq,Nat.reduceDiv,Int.reduceAdd,Int.reduceSub,reduceIte,↓reduceIte,reduceCtorEq]
  refine ⟨(c3,tt),kH.congr (by omega) fun i hi=> ?_,30,37, ?_⟩
  ·by_cases h:i < n+1+k
   ·simp only[aR,if_pos h]
   ·simp only[aR];rw[if_neg h,if_neg (by omega),if_neg (by omega)]
  ·simp only[eI,gy,er,iT,jS,kH.plain,true_or,Tryz.vr,Value.oneCell',Nat.reduceAdd,Nat.reduceMul,Nat.reduceSub,Nat.reduceLT,Nat.reduceLeDiff,Nat.reduceEqDiff,Int.reduceLE,Int.reduceLT,Int.reduceToNat,Int.reduceNe,Int.reduceEq,Nat.reduceBEq,Nat.reduceDiv,Int.reduceAdd,Int.reduceSub,reduceIte,↓reduceIte,reduceCtorEq]
   simp[Nat.add_assoc]
 ·rintro ⟨c',cs'⟩ h1
  simp only at h1
  have hr:=NO (n+1+(E - 8 - (n+1))) 64
  rw[show ((64:Nat):Int)=64 from rfl]at hr
  have hne:(n+1+(E - 8 - (n+1)))%64=56:=by split at hE<;>omega
  simp only[hr,Tryz.vr,Value.oneCell',Nat.reduceAdd,Nat.reduceMul,Nat.reduceSub,Nat.reduceLT,Nat.reduceLeDiff,Nat.reduceEqDiff,Int.reduceLE,Int.reduceLT,Int.reduceToNat,Int.reduceNe,Int.reduceEq,Nat.reduceBEq,Nat.reduceDiv,Int.reduceAdd,Int.reduceSub,reduceIte,↓reduceIte,reduceCtorEq]
  refine aH (by rw[hne];rfl) ?_
  simp only[Tryz.vr,Value.oneCell',Nat.reduceAdd,Nat.reduceMul,Nat.reduceSub,Nat.reduceLT,Nat.reduceLeDiff,Nat.reduceEqDiff,Int.reduceLE,Int.reduceLT,Int.reduceToNat,Int.reduceNe,Int.reduceEq,Nat.reduceBEq,Nat.reduceDiv,Int.reduceAdd,Int.reduceSub,reduceIte,↓reduceIte,reduceCtorEq]
  refine rN (Mc h1 (by omega)) (t:=30) (by simp only[af,Tryz.vr,Value.oneCell',Nat.reduceAdd,Nat.reduceMul,Nat.reduceSub,Nat.reduceLT,Nat.reduceLeDiff,Nat.reduceEqDiff,Int.reduceLE,Int.reduceLT,Int.reduceToNat,Int.reduceNe,Int.reduceEq,Nat.reduceBEq,Nat.reduceDiv,Int.reduceAdd,Int.reduceSub,reduceIte,↓reduceIte,reduceCtorEq]) h1.plain rfl ?_
  intro c3 tt kH
  simp only[Tryz.vr,Value.oneCell',Nat.reduceAdd,Nat.reduceMul,Nat.reduceSub,Nat.reduceLT,Nat.reduceLeDiff,Nat.reduceEqDiff,Int.reduceLE,Int.reduceLT,Int.reduceToNat,Int.reduceNe,Int.reduceEq,Nat.reduceBEq,Nat.reduceDiv,Int.reduceAdd,Int.reduceSub,reduceIte,↓reduceIte,reduceCtorEq]
  have alJ: ∀ i,i < E→aR (n+1+(E - 8 - (n+1))) (aR n f (aR 1 (fun _=>128) (fun _=>0))) (gP (IntKind.u64.wrap (IntKind.u64.wrap (l:Int)*8))) i=iS (fun j=>f (j - l / 64*64)) l (l / 64*64+i):=fun i hi=>by
   rw[hF i hi]
   simp only[aR]
   by_cases h:i < E - 8
   ·rw[if_pos (by omega),if_pos h]
   ·rw[if_neg (by omega),if_neg h,show n+1+(E - 8 - (n+1))=E - 8 by omega,aac hl (by omega)]
  exact eQ (k:=1) (by decide) (kH.congr rfl fun i hi=>alJ i (by omega)) (by simp only[af,Tryz.vr,Value.oneCell',Nat.reduceAdd,Nat.reduceMul,Nat.reduceSub,Nat.reduceLT,Nat.reduceLeDiff,Nat.reduceEqDiff,Int.reduceLE,Int.reduceLT,Int.reduceToNat,Int.reduceNe,Int.reduceEq,Nat.reduceBEq,Nat.reduceDiv,Int.reduceAdd,Int.reduceSub,reduceIte,↓reduceIte,reduceCtorEq]) (by omega)
end Go.Proofs.YtoakenpcooglpaaGreatDoor
namespace Go.Proofs.YtoakenpcooglpaaGreatDoor
set_option maxHeartbeats 8000000
set_option maxRecDepth 20000
open Go.cA
set_option linter.unusedSectionVars false
variable [aX]
theorem Md {n o c:Nat} {f:Nat→Int} {cs:List SV} (hf:bY f) (hc:bE cs o n f) (hp:cs.all SV.plain=true) (hn:n < 140737488355328) (hcap:n≤c):
  bt Tryz.prog 107 [Sl 0 o n c] 1 (lk [(0,⟨false,cs⟩)]) (fun u out=>u=Ag (ae .u8 32 (iD kW b9 f n))∧out=fun _=>none):=by
 refine aE Tryz.func107 rfl (by kernel_rfl) (by simp[Tryz.ntmps107]) Tryz.nA (by simp[AV.ok,CV.ok,SV.names]) eG (eH hp) ?_
 have fy: ∀ {M:Nat→Prop},(∀ x ∈ cs,SV.ok M x)=True:=eq_true (aJ hp)
 have hr:=NO n 64
 rw[show ((64:Nat):Int)=64 from rfl]at hr
 have w1:IntKind.i64.wrap ((n:Int) - ((n%64:Nat):Int))=((64*(n / 64):Nat):Int):=by rw[wrap_i64 _ (by omega) (by omega)];omega
 have l1:(((64*(n / 64):Nat):Int)≤(c:Int))=True:=eq_true (by omega)
 have l2:(((64*(n / 64):Nat):Int)≤(n:Int))=True:=eq_true (by omega)
 have l3:((n:Int)≤(c:Int))=True:=eq_true (by omega)
 simp only[Tryz.results107,hr,w1,l1,l2,l3,bl,Tryz.vs,Value.oneCell',simprocAttr, -List.reduceReplicate]
 have ivE:[Sum.inl (Value.int IntKind.u32 1779033703),Sum.inl (Value.int IntKind.u32 3144134277),Sum.inl (Value.int IntKind.u32 1013904242),Sum.inl (Value.int IntKind.u32 2773480762),Sum.inl (Value.int IntKind.u32 1359893119),Sum.inl (Value.int IntKind.u32 2600822924),Sum.inl (Value.int IntKind.u32 528734635),Sum.inl (Value.int IntKind.u32 1541459225)]=ae .u32 8 b9:=rfl
 have z8: ∀ r r':Nat→Int,splice (ae .u32 8 r') 0 (ae .u32 8 r)=ae .u32 8 r:=fun r r'=>dP .u32 8 _ _
 refine ⟨ov _ _ _,by kernel_rfl, ?_⟩
 simp only[ivE,Int.toNat_natCast]
 refine (BA (c:=c) (m:=n / 64) NT hf (lZ hc (by omega)) (by omega) (by omega) hp).en (fun _=>0) (dp (rw:=false) (by simp only[af,Tryz.vr,Value.oneCell',simprocAttr, -List.reduceReplicate]) hp) aw (by rfl) (fun M h _ _=>h (Sl 0 o (64*(n / 64)) c) (List.Mem.tail _ (List.Mem.head _))) ?_
 have hsh: ∀ o',(o'=o+64*(n / 64)∨c=64*(n / 64))→bE cs o' (n - 64*(n / 64)) (fun i=>f (64*(n / 64)+i)):=fun o' h=>by
  rcases h with rfl | h
  ·exact jc hc _ _ (by omega)
  ·intro i hi;omega
 have ho:(if c=64*(n / 64) then o else o+64*(n / 64))=o+64*(n / 64)∨c=64*(n / 64):=by
  split
  ·exact .inr ‹_›
  ·exact .inl rfl
 have hs:=hsh _ ho
 simp only[z8,l1,l2,l3,bl,Nat.mul_one,Tryz.vr,Value.oneCell',simprocAttr, -List.reduceReplicate]
 generalize (if c=64*(n / 64) then o else o+64*(n / 64))=o' at hs ⊢
 have w2:IntKind.i64.wrap ((n:Nat):Int)=(n:Int):=Xo n (by omega)
 refine ⟨by kernel_rfl, ?_⟩
 refine oz (aad (c:=c - 64*(n / 64)) (l:=n) hs hp (by omega) (by omega) (by omega)) (fun _=>0) (dp (rw:=false) (by simp only[af,Tryz.vr,Value.oneCell',simprocAttr, -List.reduceReplicate]) hp) rfl (fun M h _ _=>h (Sl 0 o' _ _) (List.Mem.head _)) (by kernel_rfl) ?_
 intro c1 eJ h1 h2 h3
 simp only[Tryz.vr,Value.oneCell',simprocAttr, -List.reduceReplicate]
 have hB:blocks n - n / 64+n / 64=blocks n:=by simp only[blocks];omega
 have sW:64*(blocks n - n / 64)≤128:=by simp only[blocks];omega
 have G2:bY (fun i=>iS (fun j=>f (64*(n / 64)+(j - n / 64*64))) n (n / 64*64+i)):=fun i=>I6 (fun j=>hf _) n _
 refine (BA (o:=0) (c:=c1) (m:=blocks n - n / 64) (Gu NT _) G2 cV h1 (by omega) (cH h3)).en (fun _=>24) (dp (rw:=true) (by simp only[af,Tryz.vr,Value.oneCell',simprocAttr, -List.reduceReplicate]) (cH h3)) aw (by rfl) (fun M h _ _=>h (Sl 24 0 (64*(blocks n - n / 64)) c1) (List.Mem.tail _ (List.Mem.head _))) ?_
 have eA:iC kW (iC kW b9 f (n / 64)) (fun i=>iS (fun j=>f (64*(n / 64)+(j - n / 64*64))) n (n / 64*64+i)) (blocks n - n / 64)=iC kW b9 (iS f n) (blocks n):=by
  have h1:iC kW b9 f (n / 64)=iC kW b9 (iS f n) (n / 64):=tc _ fun i hi=>by simp only[iS];rw[if_pos (by omega)]
  have h2:=I5 kW b9 (iS f n) (n / 64) (blocks n - n / 64)
  rw[show n / 64+(blocks n - n / 64)=blocks n by omega]at h2
  rw[h2,h1]
  refine tc _ fun i hi=> ?_
  simp only[iS]
  rw[show n / 64*64+i=64*(n / 64)+i by omega,show 64*(n / 64)+(64*(n / 64)+i - n / 64*64)=64*(n / 64)+i by omega]
 rw[eA]
 simp only[z8,Tryz.vr,Value.oneCell',simprocAttr, -List.reduceReplicate]
 refine (G1 _).aB ?_
 simp only[Tryz.vr,Value.oneCell',simprocAttr, -List.reduceReplicate]
 exact aC aw ⟨rfl,rfl⟩
theorem we {s:AS} {nm t o n c:Nat} {rw:Bool} {f:Nat→Int} {cs:List SV} (hf:bY f) (hb:s.box t=some ⟨rw,cs⟩) (hc:bE cs o n f) (hp:cs.all SV.plain=true) (hn:n < 140737488355328) (hcap:n≤c) {dst:Option Nat} {K:AS→Prop}
  (hk:K (s.put dst (some (Ag (ae .u8 32 (iD kW b9 f n)))))):aB Tryz.prog nm 107 (some [Sl t o n c]) dst K s:=
 (Md hf hc hp hn hcap).dV (fun _=>t) (dp hb hp) aw rfl hk
theorem Me {s:AS} {nm t o n c:Nat} {rw:Bool} {f:Nat→Int} {cs:List SV} (hf:bY f) (hb:s.box t=some ⟨rw,cs⟩) (hc:bE cs o n f) (hp:cs.all SV.plain=true) (hn:n < 140737488355328) (hcap:n≤c) {ops:Array Oper} {i:Nat} {dst:Option Nat} {K:AS→Prop}
  (hk:K (s.put dst (some (Ag (ae .u8 32 (iD kW b9 f n)))))):mG Tryz.prog ops i nm 107 (some [Sl t o n c]) dst K s:=
 (Md hf hc hp hn hcap).en (fun _=>t) (dp hb hp) aw rfl (fun M h _ _=>h (Sl t o n c) (List.Mem.head _)) hk
end Go.Proofs.YtoakenpcooglpaaGreatDoor
namespace Go.Proofs.YtoakenpcooglpaaGreatDoor
set_option maxHeartbeats 8000000
set_option maxRecDepth 20000
open Go.cA
set_option linter.unusedSectionVars false
variable [aX]
def Roomy (n:Nat) (v:AV) (out:Nat→Option aW):Prop:=(n=0∧v=V (.slice none 0 0)∧out=fun _=>none)∨(0 < n∧ ∃ c cs,v=Sl 0 0 0 c∧out=lk [(0,⟨true,cs⟩)]∧bR cs 0 0 c (fun _=>0))
theorem ago {n:Nat} (hn:n≤140737488355328):bt Tryz.prog 127 [V (.slice none 0 0),I .i64 n] 0 (fun _=>none) (Roomy n):=by
 refine aE Tryz.func127 rfl (by kernel_rfl) (by simp[Tryz.ntmps127]) Tryz.nL (by simp[AV.ok,CV.ok,SV.names]) xQ xR ?_
 have w0:IntKind.i64.wrap 0=0:=rfl
 have w1:IntKind.i64.wrap ((n:Int) - 0)=(n:Int):=by rw[wrap_i64 _ (by omega) (by omega)];omega
 simp only[Tryz.results127,Tryz.vr,Value.oneCell',simprocAttr, -List.reduceReplicate]
 refine aH (by simp) ?_
 simp only[Tryz.vr,Value.oneCell',simprocAttr, -List.reduceReplicate]
 refine yb Tryz.bW ?_
 simp only[w0,w1,Int.sub_self,Tryz.vr,Value.oneCell',simprocAttr, -List.reduceReplicate]
 rcases Nat.eq_zero_or_pos n with rfl | hpos
 ·refine aH (by simp) ?_
  simp only[Tryz.vr,Value.oneCell',simprocAttr, -List.reduceReplicate]
  exact ⟨0,V (.slice none 0 0),fun _=>none,Nat.le_refl _,rfl,trivial,fun n b hb=>(by cases hb), .inl ⟨rfl,rfl,rfl⟩⟩
 ·refine aD (by simp;omega) ?_
  simp only[Tryz.vr,Value.oneCell',simprocAttr, -List.reduceReplicate]
  refine yb Tryz.bW ?_
  simp only[Int.toNat_zero,Nat.sub_self,Tryz.vr,Value.oneCell',simprocAttr, -List.reduceReplicate]
  refine Gt (kn:= .i64) Tryz.bS Tryz.I7 hpos hn ?_
  intro c cs hg
  simp only[bl,Vv hg.room,Tryz.vr,Value.oneCell',simprocAttr, -List.reduceReplicate]
  refine dS (k:=0) (q:=18) (cs:=cs) (by decide) (by simp only[af,Tryz.vr,Value.oneCell',simprocAttr, -List.reduceReplicate]) hg.plain (.inr ⟨hpos,c,cs,rfl,rfl, ?_⟩)
  exact ⟨hg.len,Nat.zero_le _,hg.plain,fun i hi=>by omega⟩
def iL (n:Nat→Nat):Nat→Nat
 | 0=>0
 | j+1=>iL n j+n j
def BD (n:Nat→Nat) (f:Nat→Nat→Int):Nat→Nat→Int
 | 0=>fun _=>0
 | j+1=>aR (iL n j) (BD n f j) (f j)
theorem tA (n:Nat→Nat) {j m:Nat} (h:j≤m):iL n j≤iL n m:=by
 induction m with
 | zero=>rw[show j=0 by omega];exact Nat.le_refl _
 | succ m ih=>
  by_cases e:j=m+1
  ·rw[e];exact Nat.le_refl _
  ·have:=ih (by omega);simp only[iL];omega
structure Mf (l:List (Nat×aW)) (cs0:List SV) (k o m:Nat) (n:Nat→Nat) (f:Nat→Nat→Int):Prop where
 ro: ∀ x ∈ l,x.2.rw=false
 all: ∀ i,i < k→ ∃ b,lk l i=some b
 np: ∀ x ∈ l,x.1 < k∧lk l x.1=some x.2∧ ∀ y ∈ x.2.cells,SV.ok (fun n=>n < k) y
 zero:lk l 0=some ⟨false,cs0⟩
 part: ∀ j,j < m→ ∃ sv,cs0[o+j]? =some sv∧bC (lk l) (.inl (.inl sv)) (n j) (f j)
theorem VT {box:Nat→Option aW} {v:AV} {n:Nat} {f:Nat→Int} (h:bC box v n f):fB 1 (some [v])=some (some (I .i64 n),none):=by
 rcases h with ⟨⟨a,rfl⟩,rfl⟩ | ⟨t,o,c,rw,cs,rfl,_⟩<;>rfl
theorem aae {l:List (Nat×aW)} {cs0:List SV} {k o m c:Nat} {n:Nat→Nat} {f:Nat→Nat→Int} (hl:Mf l cs0 k o m n f) (hk:0 < k) (hk2:k≤20) (hm:m < 4611686018427387904) (hN:iL n m≤140737488355328):
  bt Tryz.prog 109 [Sl 0 o m c] k (lk l) (Bytes k (iL n m) (BD n f m)):=by
 refine aE Tryz.func109 rfl (by kernel_rfl) (by simp[Tryz.ntmps109]) Tryz.nC (by simp[AV.ok,CV.ok,SV.names];exact hk) hl.all (fun i b hb=>⟨(hl.np _ (bq _ _ _ hb)).1,(hl.np _ (bq _ _ _ hb)).2.2⟩) ?_
 have hz:=hl.zero
 have hin: ∀ (next:Nat),k≤next→ ∀ p ∈ l,lk l p.1=some p.2∧p.1 < next∧ ∀ x ∈ p.2.cells,SV.ok (fun n=>n < next) x:=fun next hn p hp=>⟨(hl.np p hp).2.1,by have:=(hl.np p hp).1;omega,fun y hy=>SV.bA (fun n h=>by omega) ((hl.np p hp).2.2 y hy)⟩
 simp only[Tryz.results109,Tryz.vr,Value.oneCell',simprocAttr, -List.reduceReplicate]
 refine aG m (fun j=>[(0,Sl 0 o m c),(3,I .i64 (iL n j)),(9,Sl 0 o m c),(10,I .i64 m),(11,I .i64 j)]) (fun j=>l) _ ?_ ?_ ?_
 ·simp only[iL,Tryz.vr,Value.oneCell',simprocAttr, -List.reduceReplicate]
  exact ⟨by omega,hin _ (by omega)⟩
 ·intro j hj
  obtain ⟨sv,h1,h2⟩:=hl.part j hj
  have hlen:=VT h2
  have hmono:=tA n (show j+1≤m by omega)
  simp only[iL]at hmono
  have wa:=I0 (iL n j) (n j) (by omega)
  simp only[Tryz.vr,Value.oneCell',simprocAttr, -List.reduceReplicate]
  refine aD (by simp;omega) ?_
  simp only[bl,dO hj,hz,Nat.mul_one,h1,hlen,wa,bD j (by omega),Tryz.vr,Value.oneCell',simprocAttr, -List.reduceReplicate]
  refine aH (by simp;omega) ?_
  simp only[iL,bD j (by omega),Tryz.vr,Value.oneCell',simprocAttr, -List.reduceReplicate]
  exact ⟨by omega,hin _ (by omega)⟩
 ·simp only[Tryz.vr,Value.oneCell',simprocAttr, -List.reduceReplicate]
  refine aH (by simp) ?_
  simp only[Tryz.vr,Value.oneCell',simprocAttr, -List.reduceReplicate]
  refine (ago hN).aB (fun n=>n) none gI rfl ?_
  rintro v out (⟨h0,rfl,rfl⟩ | ⟨hpos,c0,mT,rfl,rfl,hg⟩) _
  ·have hn0: ∀ j,j < m→n j=0:=fun j hj=>by
    have:=tA n (show j+1≤m by omega);simp only[iL]at this;omega
   simp only[after,jS,Tryz.vr,Value.oneCell',simprocAttr, -List.reduceReplicate]
   refine aG m (fun j=>[(6,V (.slice none 0 0)),(25,Sl 0 o m c),(26,I .i64 m),(27,I .i64 j)]) (fun j=>l) _ ?_ ?_ ?_
   ·simp only[Tryz.vr,Value.oneCell',simprocAttr, -List.reduceReplicate]
    exact ⟨⟨trivial,by omega⟩,hin _ (by omega)⟩
   ·intro j hj
    obtain ⟨sv,h1,h2⟩:=hl.part j hj
    simp only[Tryz.vr,Value.oneCell',simprocAttr, -List.reduceReplicate]
    refine aD (by simp;omega) ?_
    simp only[bl,dO hj,hz,Nat.mul_one,h1,bD j (by omega),Tryz.vr,Value.oneCell',simprocAttr, -List.reduceReplicate]
    refine ia (m:=n j) (g:=f j) Tryz.bS Tryz.bW h2 (by rw[hn0 j hj];decide) (fun _=> ?_) (fun h=>by rw[hn0 j hj]at h;exact absurd h (by decide))
    simp only[bD j (by omega),Tryz.vr,Value.oneCell',simprocAttr, -List.reduceReplicate]
    exact ⟨⟨trivial,by omega⟩,hin _ (by omega)⟩
   ·simp only[Tryz.vr,Value.oneCell',simprocAttr, -List.reduceReplicate]
    refine aH (by simp) ?_
    simp only[Tryz.vr,Value.oneCell',simprocAttr, -List.reduceReplicate]
    exact ⟨k,V (.slice none 0 0),fun _=>none,Nat.le_refl _,rfl,trivial,fun n b hb=>(by cases hb), .inl ⟨h0,rfl,rfl⟩⟩
  ·rw[gb hg.plain]
   simp only[er,iB,Tryz.vr,Value.oneCell',simprocAttr, -List.reduceReplicate]
   refine lz (β:=Nat×List SV) m (fun j y=>bR y.2 0 (iL n j) y.1 (BD n f j))
    (fun j y=>[(6,Sl 60 0 (iL n j) y.1),(25,Sl 0 o m c),(26,I .i64 m),(27,I .i64 j)]) (fun j y=>(60,⟨true,y.2⟩)::l) 61 (c0,mT) ?_ ?_ ?_ ?_
   ·refine ⟨hg,60,k+1+1+3+1+1,uy (k:=k) (by show _≤60;simp only;omega) (by decide) (by simp only;omega) (by omega) ?_ ?_ hg.plain hl.np (fun t ht=> ?_)⟩
    ·simp only[gy,er,iL,Tryz.vr,Value.oneCell',simprocAttr, -List.reduceReplicate]
    ·simp only[ax]
    ·exact bg _ _ _ _ (by omega)
   ·rintro j ⟨c',cs'⟩ hj h1'
    obtain ⟨sv,h1,h2⟩:=hl.part j hj
    have hmono:=tA n (show j+1≤m by omega)
    simp only[iL]at hmono
    have hoff:nt (ou [(6,Sl 60 0 (iL n j) c'),(25,Sl 0 o m c),(26,I .i64 m),(27,I .i64 j)] ((60,⟨true,cs'⟩)::l) 61).box 60 (.inl (.inl sv)) (n j) (f j):=by
     rcases h2 with h | ⟨t,o1,c1,rw1,ds,e1,e2,_,e4⟩
     ·exact .inl h
     ·have ht:t < k:=(hl.np _ (bq _ _ _ e2)).1
      refine .inr ⟨t,o1,c1,rw1,ds,e1, ?_,e4,by omega⟩
      show (if t=60 then _ else lk l t)=_
      rw[if_neg (by omega)];exact e2
    simp only at h1'
    simp only[Tryz.vr,Value.oneCell',simprocAttr, -List.reduceReplicate]
    refine aD (by simp;omega) ?_
    simp only[bl,dO hj,hz,Nat.mul_one,h1,bD j (by omega),Tryz.vr,Value.oneCell',simprocAttr, -List.reduceReplicate]
    refine bn (b:=60) (g:=f j) Tryz.bS Tryz.bW (by simp only[af,Tryz.vr,Value.oneCell',simprocAttr, -List.reduceReplicate]) h1' (by exact hoff) (by omega) ?_
    intro c2 kZ gC
    simp only[bD j (by omega),Tryz.vr,Value.oneCell',simprocAttr, -List.reduceReplicate]
    refine ⟨(c2,kZ),gC,60,67,uy (k:=k) (by omega) (by decide) (by omega) (by omega) ?_ ?_ gC.plain hl.np (fun t ht=> ?_)⟩
    ·simp only[gy,er,iL,Tryz.vr,Value.oneCell',simprocAttr, -List.reduceReplicate]
    ·simp only[ax]
    ·simp only[upd,Tryz.vr,Value.oneCell',simprocAttr, -List.reduceReplicate]
     rw[if_neg (by omega),if_neg (by omega),if_neg (by omega)]
   ·rintro ⟨c',cs'⟩ h1'
    simp only at h1'
    simp only[Tryz.vr,Value.oneCell',simprocAttr, -List.reduceReplicate]
    refine aH (by simp) ?_
    simp only[Tryz.vr,Value.oneCell',simprocAttr, -List.reduceReplicate]
    refine dS (k:=k) (q:=60) (by omega) (by simp only[Tryz.vr,Value.oneCell',simprocAttr, -List.reduceReplicate]) h1'.plain (.inr h1'.made)
   ·simp only;omega
end Go.Proofs.YtoakenpcooglpaaGreatDoor
namespace Go.Proofs.YtoakenpcooglpaaGreatDoor
set_option maxHeartbeats 8000000
set_option maxRecDepth 20000
open Go.cA
set_option linter.unusedSectionVars false
variable [aX]
theorem Mg {n o c:Nat} {f:Nat→Int} {cs:List SV} {x:Int} (hf:bY f) (hc:bE cs o n f) (hp:cs.all SV.plain=true) (hn:n < 140737488355328) (hcap:n≤c):
    bt Tryz.prog 108 [Sl 0 o n c,I .u8 x] 1 (lk [(0,⟨false,cs⟩)]) (xY 1 64 (eU kW b9 f n x)):=by
  refine aE Tryz.func108 rfl (by kernel_rfl) (by simp[Tryz.ntmps108]) Tryz.nB (by simp[AV.ok,CV.ok,SV.names]) eG (eH hp) ?_
  have fy: ∀ {M:Nat→Prop},(∀ x ∈ cs,SV.ok M x)=True:=eq_true (aJ hp)
  simp only[Tryz.results108,Tryz.vr,Value.oneCell',Nat.reduceAdd,Nat.reduceMul,Nat.reduceSub,Nat.reduceLT,Nat.reduceLeDiff,Nat.reduceEqDiff,Int.reduceLE,Int.reduceLT,Int.reduceToNat,Int.reduceNe,Int.reduceEq,Nat.reduceBEq,Nat.reduceDiv,Int.reduceAdd,Int.reduceSub,reduceIte,↓reduceIte,reduceCtorEq]
  refine ⟨by decide, ?_⟩
  by_cases h:64 < n
  have hk: ∀ i,gf kW b9 f n i=if i < 32 then iD kW b9 f n i else 0:=fun i=>by simp only[gf,gt_iff_lt,if_pos h]
  refine aD (by simp;omega) ?_
  simp only[Tryz.vr,Value.oneCell',Nat.reduceAdd,Nat.reduceMul,Nat.reduceSub,Nat.reduceLT,Nat.reduceLeDiff,Nat.reduceEqDiff,Int.reduceLE,Int.reduceLT,Int.reduceToNat,Int.reduceNe,Int.reduceEq,Nat.reduceBEq,Nat.reduceDiv,Int.reduceAdd,Int.reduceSub,reduceIte,↓reduceIte,reduceCtorEq]
  refine we (rw:=false) hf (by simp only[af,Tryz.vr,Value.oneCell',Nat.reduceAdd,Nat.reduceMul,Nat.reduceSub,Nat.reduceLT,Nat.reduceLeDiff,Nat.reduceEqDiff,Int.reduceLE,Int.reduceLT,Int.reduceToNat,Int.reduceNe,Int.reduceEq,Nat.reduceBEq,Nat.reduceDiv,Int.reduceAdd,Int.reduceSub,reduceIte,↓reduceIte,reduceCtorEq]) hc hp hn hcap ?_
  simp only[Tryz.vr,Value.oneCell',Nat.reduceAdd,Nat.reduceMul,Nat.reduceSub,Nat.reduceLT,Nat.reduceLeDiff,Nat.reduceEqDiff,Int.reduceLE,Int.reduceLT,Int.reduceToNat,Int.reduceNe,Int.reduceEq,Nat.reduceBEq,Nat.reduceDiv,Int.reduceAdd,Int.reduceSub,reduceIte,↓reduceIte,reduceCtorEq]
  refine rH Tryz.bS Tryz.bW (cs:=ae .u8 64 (fun _=>0)) (bx:=⟨true,ae .u8 32 (iD kW b9 f n)⟩) (news:=ae .u8 32 (iD kW b9 f n)) (by simp only[af,Tryz.vr,Value.oneCell',Nat.reduceAdd,Nat.reduceMul,Nat.reduceSub,Nat.reduceLT,Nat.reduceLeDiff,Nat.reduceEqDiff,Int.reduceLE,Int.reduceLT,Int.reduceToNat,Int.reduceNe,Int.reduceEq,Nat.reduceBEq,Nat.reduceDiv,Int.reduceAdd,Int.reduceSub,reduceIte,↓reduceIte,reduceCtorEq]) (by simp only[af,Tryz.vr,Value.oneCell',Nat.reduceAdd,Nat.reduceMul,Nat.reduceSub,Nat.reduceLT,Nat.reduceLeDiff,Nat.reduceEqDiff,Int.reduceLE,Int.reduceLT,Int.reduceToNat,Int.reduceNe,Int.reduceEq,Nat.reduceBEq,Nat.reduceDiv,Int.reduceAdd,Int.reduceSub,reduceIte,↓reduceIte,reduceCtorEq]) (by rw[ah];rfl) (fun j u h=>by simpa using h) (by rw[ah];decide) ?_
  rw[kr .u8 64 32 0 _ _ (by decide)]
  simp only[Tryz.vr,Value.oneCell',Nat.reduceAdd,Nat.reduceMul,Nat.reduceSub,Nat.reduceLT,Nat.reduceLeDiff,Nat.reduceEqDiff,Int.reduceLE,Int.reduceLT,Int.reduceToNat,Int.reduceNe,Int.reduceEq,Nat.reduceBEq,Nat.reduceDiv,Int.reduceAdd,Int.reduceSub,reduceIte,↓reduceIte,reduceCtorEq]
  rotate_left 1
  have hk: ∀ i,i < 64→gf kW b9 f n i=if i < n then f i else 0:=fun i hi=>by simp only[gf,gt_iff_lt,if_neg h]
  have ajw:Nat.min n 64=n:=Nat.min_eq_left (by omega)
  refine aH (by simp;omega) ?_
  simp only[Tryz.vr,Value.oneCell',Nat.reduceAdd,Nat.reduceMul,Nat.reduceSub,Nat.reduceLT,Nat.reduceLeDiff,Nat.reduceEqDiff,Int.reduceLE,Int.reduceLT,Int.reduceToNat,Int.reduceNe,Int.reduceEq,Nat.reduceBEq,Nat.reduceDiv,Int.reduceAdd,Int.reduceSub,reduceIte,↓reduceIte,reduceCtorEq]
  refine rH Tryz.bS Tryz.bW (cs:=ae .u8 64 (fun _=>0)) (bx:=⟨false,cs⟩) (news:=ae .u8 n f) (by simp only[af,Tryz.vr,Value.oneCell',Nat.reduceAdd,Nat.reduceMul,Nat.reduceSub,Nat.reduceLT,Nat.reduceLeDiff,Nat.reduceEqDiff,Int.reduceLE,Int.reduceLT,Int.reduceToNat,Int.reduceNe,Int.reduceEq,Nat.reduceBEq,Nat.reduceDiv,Int.reduceAdd,Int.reduceSub,reduceIte,↓reduceIte,reduceCtorEq]) (by simp only[af,Tryz.vr,Value.oneCell',Nat.reduceAdd,Nat.reduceMul,Nat.reduceSub,Nat.reduceLT,Nat.reduceLeDiff,Nat.reduceEqDiff,Int.reduceLE,Int.reduceLT,Int.reduceToNat,Int.reduceNe,Int.reduceEq,Nat.reduceBEq,Nat.reduceDiv,Int.reduceAdd,Int.reduceSub,reduceIte,↓reduceIte,reduceCtorEq]) (by rw[ah];exact ajw.symm) (fk hc) (by rw[ajw,ah];omega) ?_
  rw[kr .u8 64 n 0 _ _ (by omega)]
  simp only[Tryz.vr,Value.oneCell',Nat.reduceAdd,Nat.reduceMul,Nat.reduceSub,Nat.reduceLT,Nat.reduceLeDiff,Nat.reduceEqDiff,Int.reduceLE,Int.reduceLT,Int.reduceToNat,Int.reduceNe,Int.reduceEq,Nat.reduceBEq,Nat.reduceDiv,Int.reduceAdd,Int.reduceSub,reduceIte,↓reduceIte,reduceCtorEq]
  all_goals
    refine aG 64 (fun k=>[(1,I .u8 x),(5,Sl 2 0 64 64),(21,I .i64 64),(22,I .i64 k)])
      (fun k=>[(2,⟨true,ae .u8 64 (fun i=>if i < k then eU kW b9 f n x i else gf kW b9 f n i)⟩)]) _ ?_ ?_ ?_
  all_goals first
    | (simp only[rM,Tryz.vr,Value.oneCell',Nat.reduceAdd,Nat.reduceMul,Nat.reduceSub,Nat.reduceLT,Nat.reduceLeDiff,Nat.reduceEqDiff,Int.reduceLE,Int.reduceLT,Int.reduceToNat,Int.reduceNe,Int.reduceEq,Nat.reduceBEq,Nat.reduceDiv,Int.reduceAdd,Int.reduceSub,reduceIte,↓reduceIte,reduceCtorEq]
       refine congrArg (fun c=>some (aW.mk true c)) (aV fun i hi=> ?_)
       rw[hk i hi]
       simp)
    | (simp only[rM,Tryz.vr,Value.oneCell',Nat.reduceAdd,Nat.reduceMul,Nat.reduceSub,Nat.reduceLT,Nat.reduceLeDiff,Nat.reduceEqDiff,Int.reduceLE,Int.reduceLT,Int.reduceToNat,Int.reduceNe,Int.reduceEq,Nat.reduceBEq,Nat.reduceDiv,Int.reduceAdd,Int.reduceSub,reduceIte,↓reduceIte,reduceCtorEq]
       refine congrArg (fun c=>some (aW.mk true c)) (aV fun i hi=> ?_)
       rw[hk i]
       simp)
    | (intro k hk'
       have a3:((k:Int) < 64)=True:=cf (m:=64) hk'
       have hfk:(if k < k then eU kW b9 f n x k else gf kW b9 f n k)=gf kW b9 f n k:=if_neg (Nat.lt_irrefl k)
       have hpk:aS .xor .u8 (gf kW b9 f n k) x=eU kW b9 f n x k:=rfl
       simp only[Tryz.vr,Value.oneCell',Nat.reduceAdd,Nat.reduceMul,Nat.reduceSub,Nat.reduceLT,Nat.reduceLeDiff,Nat.reduceEqDiff,Int.reduceLE,Int.reduceLT,Int.reduceToNat,Int.reduceNe,Int.reduceEq,Nat.reduceBEq,Nat.reduceDiv,Int.reduceAdd,Int.reduceSub,reduceIte,↓reduceIte,reduceCtorEq]
       refine aD (by simp;omega) ?_
       simp only[a3,bl,ay .u8 64 _ k hk',hfk,hpk,Nat.mul_one,aA .u8 64 _ k hk',fj,bD k (by omega),Tryz.vr,Value.oneCell',Nat.reduceAdd,Nat.reduceMul,Nat.reduceSub,Nat.reduceLT,Nat.reduceLeDiff,Nat.reduceEqDiff,Int.reduceLE,Int.reduceLT,Int.reduceToNat,Int.reduceNe,Int.reduceEq,Nat.reduceBEq,Nat.reduceDiv,Int.reduceAdd,Int.reduceSub,reduceIte,↓reduceIte,reduceCtorEq]
       omega)
    | (simp only[Tryz.vr,Value.oneCell',Nat.reduceAdd,Nat.reduceMul,Nat.reduceSub,Nat.reduceLT,Nat.reduceLeDiff,Nat.reduceEqDiff,Int.reduceLE,Int.reduceLT,Int.reduceToNat,Int.reduceNe,Int.reduceEq,Nat.reduceBEq,Nat.reduceDiv,Int.reduceAdd,Int.reduceSub,reduceIte,↓reduceIte,reduceCtorEq]
       refine aH (by simp) ?_
       simp only[dG,Tryz.vr,Value.oneCell',Nat.reduceAdd,Nat.reduceMul,Nat.reduceSub,Nat.reduceLT,Nat.reduceLeDiff,Nat.reduceEqDiff,Int.reduceLE,Int.reduceLT,Int.reduceToNat,Int.reduceNe,Int.reduceEq,Nat.reduceBEq,Nat.reduceDiv,Int.reduceAdd,Int.reduceSub,reduceIte,↓reduceIte,reduceCtorEq]
       exact dS (k:=1) (cs:=ae .u8 64 (eU kW b9 f n x)) (by decide) (by simp only[af,dG,Tryz.vr,Value.oneCell',Nat.reduceAdd,Nat.reduceMul,Nat.reduceSub,Nat.reduceLT,Nat.reduceLeDiff,Nat.reduceEqDiff,Int.reduceLE,Int.reduceLT,Int.reduceToNat,Int.reduceNe,Int.reduceEq,Nat.reduceBEq,Nat.reduceDiv,Int.reduceAdd,Int.reduceSub,reduceIte,↓reduceIte,reduceCtorEq]) aw ⟨rfl,rfl⟩)
theorem aaf (x:SV):SV.bh (fun n=>n) x=x:=by rcases x with v | ⟨t,o⟩ | ⟨t,o,n,c⟩<;>rfl
theorem abZ {s:AS} {l:List (Nat×aW)} {k:Nat} (hro: ∀ x ∈ l,x.2.rw=false) (hin: ∀ x ∈ l,x.1 < k) (hs: ∀ t,t < k→s.box t=lk l t):Fits s (fun n=>n) (lk l) none:=by
  refine ⟨fun n b hb=>⟨b, ?_,fun h=>h, ?_⟩,fun n n' b b' _ _ _ e=>e,fun n b hb hrw=> ?_,fun n hn=>(by cases hn)⟩
  · rw[hs n (hin _ (bq _ _ _ hb))];exact hb
  · have h1:(fun x:SV=>SV.bh (fun n=>n) x)=id:=funext aaf
    show b.cells=b.cells.map (fun x:SV=>SV.bh (fun n=>n) x)
    rw[h1,List.map_id]
  · have:=hro _ (bq _ _ _ hb)
    simp only at this
    rw[this]at hrw;cases hrw
theorem Mh {n:Nat→Nat} {f:Nat→Nat→Int} {m:Nat} (h: ∀ j,j < m→bY (f j)): ∀ j,j≤m→bY (BD n f j)
  | 0,_=>fun i=>⟨Int.le_refl 0,by show (0:Int) < 256;decide⟩
  | j+1,hj=>eV (Mh h j (by omega)) (h j (by omega))
theorem aag {l:List (Nat×aW)} {cs0 wB:List SV} {k o m c tk ok nk ck:Nat} {n:Nat→Nat} {f:Nat→Nat→Int} {key:Nat→Int} (hl:Mf l cs0 k o m n f) (hk:0 < k) (hk2:k≤20) (hm:m < 4611686018427387904) (hN:iL n m < 100000000)
    (hf: ∀ j,j < m→bY (f j)) (htk:lk l tk=some ⟨false,wB⟩) (hp:wB.all SV.plain=true) (hkey:bE wB ok nk key) (Nh:bY key) (hnk:nk < 100000000) (WD:nk≤ck):
    bt Tryz.prog 86 [Sl tk ok nk ck,Sl 0 o m c] k (lk l) (fun v out=>v=Ag (ae .u8 32 (fA kW b9 key nk (BD n f m) (iL n m)))∧out=fun _=>none):=by
  have ajx:tk < k:=(hl.np _ (bq _ _ _ htk)).1
  refine aE Tryz.func86 rfl (by kernel_rfl) (by simp[Tryz.ntmps86]) Tryz.qM (fun u hu=>by
    simp only[List.mem_cons,List.not_mem_nil,or_false]at hu
    rcases hu with rfl | rfl
    · exact ajx
    · exact hk) hl.all (fun i b hb=>⟨(hl.np _ (bq _ _ _ hb)).1,(hl.np _ (bq _ _ _ hb)).2.2⟩) ?_
  have hin: ∀ x ∈ l,x.1 < k:=fun x hx=>(hl.np x hx).1
  simp only[Tryz.results86,Tryz.vr,Value.oneCell',Nat.reduceAdd,Nat.reduceMul,Nat.reduceSub,Nat.reduceLT,Nat.reduceLeDiff,Nat.reduceEqDiff,Int.reduceLE,Int.reduceLT,Int.reduceToNat,Int.reduceNe,Int.reduceEq,Nat.reduceBEq,Nat.reduceDiv,Int.reduceAdd,Int.reduceSub,reduceIte,↓reduceIte,reduceCtorEq]
  refine jd (Mg (x:=54) Nh hkey hp (by omega) WD) (fun _=>tk) (dp (rw:=false) (by simp only[upd];rw[if_neg (by omega)];exact htk) hp) rfl ?_
  simp only[Tryz.vr,Value.oneCell',Nat.reduceAdd,Nat.reduceMul,Nat.reduceSub,Nat.reduceLT,Nat.reduceLeDiff,Nat.reduceEqDiff,Int.reduceLE,Int.reduceLT,Int.reduceToNat,Int.reduceNe,Int.reduceEq,Nat.reduceBEq,Nat.reduceDiv,Int.reduceAdd,Int.reduceSub,reduceIte,↓reduceIte,reduceCtorEq]
  have hG1:bR (ae .u8 64 (eU kW b9 key nk 54)) 0 64 64 (eU kW b9 key nk 54):=⟨by rw[ah],by decide,aw,aP⟩
  refine NQ (aae hl hk hk2 hm (by omega)) (fun n=>n) (abZ hl.ro hin (fun t ht=>by simp only[upd];rw[if_neg (by omega),if_neg (by omega)])) rfl ?_
  intro x I3 hx hoff _
  have ux:I3 (k+1+1)=some ⟨true,ae .u8 64 (eU kW b9 key nk 54)⟩:=by rw[hx _ (by omega)];simp only[ax]
  have hbt: ∀ t,t < k→I3 t=lk l t:=fun t ht=>by
    rw[hx _ (by omega)];simp only[upd];rw[if_neg (by omega),if_neg (by omega)]
  simp only[Tryz.vr,Value.oneCell',Nat.reduceAdd,Nat.reduceMul,Nat.reduceSub,Nat.reduceLT,Nat.reduceLeDiff,Nat.reduceEqDiff,Int.reduceLE,Int.reduceLT,Int.reduceToNat,Int.reduceNe,Int.reduceEq,Nat.reduceBEq,Nat.reduceDiv,Int.reduceAdd,Int.reduceSub,reduceIte,↓reduceIte,reduceCtorEq]
  refine bn (g:=BD n f m) Tryz.bS Tryz.bW ux hG1 (hoff _ (by omega)) (by omega) ?_
  intro c2 kZ gC
  simp only[Tryz.vr,Value.oneCell',Nat.reduceAdd,Nat.reduceMul,Nat.reduceSub,Nat.reduceLT,Nat.reduceLeDiff,Nat.reduceEqDiff,Int.reduceLE,Int.reduceLT,Int.reduceToNat,Int.reduceNe,Int.reduceEq,Nat.reduceBEq,Nat.reduceDiv,Int.reduceAdd,Int.reduceSub,reduceIte,↓reduceIte,reduceCtorEq]
  refine we (rw:=true) (eV (rQ _ _ _ _ _) (Mh hf m (Nat.le_refl _))) (by simp only[ax]) gC.ez gC.plain (by omega) gC.room ?_
  simp only[Tryz.vr,Value.oneCell',Nat.reduceAdd,Nat.reduceMul,Nat.reduceSub,Nat.reduceLT,Nat.reduceLeDiff,Nat.reduceEqDiff,Int.reduceLE,Int.reduceLT,Int.reduceToNat,Int.reduceNe,Int.reduceEq,Nat.reduceBEq,Nat.reduceDiv,Int.reduceAdd,Int.reduceSub,reduceIte,↓reduceIte,reduceCtorEq]
  refine ⟨by kernel_rfl, ?_⟩
  refine NR (Mg (x:=92) Nh hkey hp (by omega) WD) (fun _=>tk) (dp (rw:=false) (by simp only[upd];rw[if_neg (by omega),if_neg (by omega),if_neg (by omega),if_neg (by omega),hbt tk ajx];exact htk) hp) rfl (fun M h _ _=>h (Sl tk ok nk ck) (List.Mem.head _)) ?_
  have hG3:bR (ae .u8 64 (eU kW b9 key nk 92)) 0 64 64 (eU kW b9 key nk 92):=⟨by rw[ah],by decide,aw,aP⟩
  simp only[Tryz.vr,Value.oneCell',Nat.reduceAdd,Nat.reduceMul,Nat.reduceSub,Nat.reduceLT,Nat.reduceLeDiff,Nat.reduceEqDiff,Int.reduceLE,Int.reduceLT,Int.reduceToNat,Int.reduceNe,Int.reduceEq,Nat.reduceBEq,Nat.reduceDiv,Int.reduceAdd,Int.reduceSub,reduceIte,↓reduceIte,reduceCtorEq]
  refine ⟨by kernel_rfl, ?_⟩
  refine bn (g:=iD kW b9 (aR 64 (eU kW b9 key nk 54) (BD n f m)) (64+iL n m)) Tryz.bS Tryz.bW (by simp only[ax]) hG3
    (.inr ⟨_,_,_,true,ae .u8 32 (iD kW b9 (aR 64 (eU kW b9 key nk 54) (BD n f m)) (64+iL n m)),rfl,(by simp only[upd];rw[if_neg (by omega)];exact if_pos trivial),aP,by omega⟩) (by decide) ?_
  intro c4 Cn oH
  simp only[Tryz.vr,Value.oneCell',Nat.reduceAdd,Nat.reduceMul,Nat.reduceSub,Nat.reduceLT,Nat.reduceLeDiff,Nat.reduceEqDiff,Int.reduceLE,Int.reduceLT,Int.reduceToNat,Int.reduceNe,Int.reduceEq,Nat.reduceBEq,Nat.reduceDiv,Int.reduceAdd,Int.reduceSub,reduceIte,↓reduceIte,reduceCtorEq]
  refine Me (rw:=true) (eV (rQ _ _ _ _ _) (rP _ _ _ _)) (by simp only[ax]) oH.ez oH.plain (by decide) oH.room ?_
  simp only[Tryz.vr,Value.oneCell',Nat.reduceAdd,Nat.reduceMul,Nat.reduceSub,Nat.reduceLT,Nat.reduceLeDiff,Nat.reduceEqDiff,Int.reduceLE,Int.reduceLT,Int.reduceToNat,Int.reduceNe,Int.reduceEq,Nat.reduceBEq,Nat.reduceDiv,Int.reduceAdd,Int.reduceSub,reduceIte,↓reduceIte,reduceCtorEq]
  have hbk:I3 k=some ⟨true,ae .u8 32 (fun _=>0)⟩:=by rw[hx _ (by omega)];simp only[upd];rw[if_neg (by omega)];exact if_pos trivial
  rw[if_neg (by omega),if_neg (by omega),if_neg (by omega),if_neg (by omega),if_neg (by omega),if_neg (by omega),if_neg (by omega),hbk]
  simp only[Tryz.vr,Value.oneCell',Nat.reduceAdd,Nat.reduceMul,Nat.reduceSub,Nat.reduceLT,Nat.reduceLeDiff,Nat.reduceEqDiff,Int.reduceLE,Int.reduceLT,Int.reduceToNat,Int.reduceNe,Int.reduceEq,Nat.reduceBEq,Nat.reduceDiv,Int.reduceAdd,Int.reduceSub,reduceIte,↓reduceIte,reduceCtorEq]
  exact aC aw ⟨rfl,rfl⟩
end Go.Proofs.YtoakenpcooglpaaGreatDoor
