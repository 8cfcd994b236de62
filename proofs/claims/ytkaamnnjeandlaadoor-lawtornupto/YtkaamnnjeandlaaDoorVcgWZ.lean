/-
  Bundles of rules.
-/
import Derived.Test.YtkaamnnjeandlaaDoorVcgDk
import Derived.Test.YtkaamnnjeandlaaDoorVcgPz
import Derived.Test.YtkaamnnjeandlaaDoorVcgWj
import Derived.Test.YtkaamnnjeandlaaDoorVcgFv
import Derived.Test.YtkaamnnjeandlaaDoorVcgWi
import Derived.Test.YtkaamnnjeandlaaDoorVcgJ
import Derived.Test.YtkaamnnjeandlaaDoorVcgJF
import Derived.Test.YtkaamnnjeandlaaDoorVcgJM
import Derived.Test.YtkaamnnjeandlaaDoorVcgFacts
import Derived.Test.YtkaamnnjeandlaaDoorVcgWM
import Derived.WalkKit
import Derived.LaidEql
import Derived.Stop.Asserts
import Derived.RowKitTokens
set_option linter.unusedVariables false
set_option linter.unusedSimpArgs false
set_option linter.unusedSectionVars false
set_option maxRecDepth 100000
set_option maxHeartbeats 1000000
namespace Go.Proofs.YtkaamnnjeandlaaDoor
open Go.bM
variable [aV]
theorem bJ:type_of% @fV∧type_of% @aQ∧type_of% @cO∧type_of% @bm∧type_of% @ao∧type_of% @aq∧type_of% @bq∧type_of% @aS∧type_of% @vR:=⟨@fV, @aQ, @cO, @bm, @ao, @aq, @bq, @aS, @vR⟩
theorem rG {s:AS} {k m:Nat} {f:Nat→Int} {cnt:Int} (hk:5≤k) (h2:s.box 2=some ⟨true,[Sum.inl (.slice none 0 0)]⟩) (h3:s.box 3=some ⟨true,[Sum.inl (.int .i64 cnt)]⟩) (h4:s.box 4=some ⟨true,aA .u8 (64*m) f⟩):Bd k eR (fun out=>out=lk (cr m f cnt)) (.panic eR) s:=by
 refine Gk fun x hx=> ?_
 simp only[cr,cz]at hx
 rcases hx with rfl | rfl | rfl
 ·exact ⟨(by omega:2 < k),ai rfl,h2⟩
 ·exact ⟨(by omega:3 < k),ai rfl,h3⟩
 ·exact ⟨(by omega:4 < k),ai aD,h4⟩
theorem gH {s:AS} {k m:Nat} {f:Nat→Int} {cnt:Int} {v:AV} (hv:AV.plain v=true) (hk:5≤k) (h2:s.box 2=some ⟨true,[Sum.inl (.slice none 0 0)]⟩) (h3:s.box 3=some ⟨true,[Sum.inl (.int .i64 cnt)]⟩) (h4:s.box 4=some ⟨true,aA .u8 (64*m) f⟩):nA k (fun u out=>u=v∧out=lk (cr m f cnt)) v s:=by
 have hr: ∀ n,n < k→iT k k n=n:=fun n hn=>by unfold iT;rw[if_neg (by omega)]
 refine dD (q:=k) (v0:=v) (Nat.le_refl _) (AV.cJ hv _).symm (AV.dq hv) (fun x hx=> ?_) ⟨rfl,rfl⟩
 simp only[cr,cz]at hx
 rcases hx with rfl | rfl | rfl
 ·exact ⟨(by omega:2 < k+1),fun h=>(by omega:False).elim,ai rfl,by rw[hr _ (by simp only;omega)];exact h2⟩
 ·exact ⟨(by omega:3 < k+1),fun h=>(by omega:False).elim,ai rfl,by rw[hr _ (by simp only;omega)];exact h3⟩
 ·exact ⟨(by omega:4 < k+1),fun h=>(by omega:False).elim,ai aD,by rw[hr _ (by simp only;omega),az aD];exact h4⟩
theorem R5 {m:Nat} {f:Nat→Int} {pc nc kc:List SV} (h:fY pc nc kc):bC Tryd.prog 54 [Ag (eE 0 1 2 3),V (.slice none 0 0)] 6 (lk (ju m f pc nc kc)) (fun v out=>v=Sum.inr []∧out=fun _=>none):=by
 refine bO Tryd.func54 rfl (by kernel_rfl) [] [] (by simp[Tryd.ntmps54]) Tryd.kQ (fun v hv=>by
  simp only[cz]at hv
  rcases hv with rfl | rfl
  ·exact dg fun n hn=>by omega
  ·trivial) ke (kg h) ?_
 simp only[Tryd.results54,ju,bJ,seval]
 exact aL rfl ⟨rfl,rfl⟩
theorem Ex {s:AS} {nm m:Nat} {f:Nat→Int} {pc nc kc:List SV} (hd:m5 s (ju m f pc nc kc)) (h:fY pc nc kc) {dst:Option Nat} {K:AS→Prop} (hk:K (({ s with box:=upd s.box nm none }:AS).put dst (some (Sum.inr [])))):bD Tryd.prog nm 54 (some [Ag (eE 0 1 2 3),V (.slice none 0 0)]) dst K s:=by
 refine (R5 (f:=f) h).wide.aB (fun n=>n) none (hd.fits jj) (fw _) ?_
 rintro v out ⟨rfl,rfl⟩
 rw[dJ]
 exact hk
theorem nw {s:AS} {nm m t st nx np c0:Nat} {q:Int} {f pf:Nat→Int} {eY:Bool} {pc nc kc ps:List SV} (hd:m5 s (ju m f pc nc kc)) (h:fY pc nc kc) (hm:m≤8192) (hb:s.box t=some ⟨eY,ps⟩) (hs:bu ps 0 np pf) (hc:np≤c0) (hp:ps.all SV.plain=true) {dst:Option Nat} {K:AS→Prop}
  (h0:cx f st nx m=[]→K (({ s with box:=upd s.box nm none }:AS).put dst (some (V (.slice none 0 0)))))
  (h1:cx f st nx m≠[]→ ∀ c cs,eU cs (cx f st nx m) c→K (({ s with box:=upd s.box nm (some ⟨true,cs⟩) }:AS).put dst (some (Sl nm 0 (cx f st nx m).length c)))):
  bD Tryd.prog nm 47 (some [Ag (eE 0 1 2 3),Ag (aX st nx q (.inr (.inr (t,0,np,c0))))]) dst K s:=by
 refine (tQ (q:=q) (sv:= .inr (.inr (6,0,np,c0))) (pf:=pf) (st:=st) (nx:=nx) (f:=f) h hm (.inr ⟨0,c0,rfl,hc,hs⟩) hp).wide.aB (six t) none (xc hd h hb hp) ?_ ?_
 ·simp only[List.map_cons,List.map_nil,lM,kj,SV.ren,dT]
  rfl
 ·rintro v out (⟨e,rfl,rfl⟩ | ⟨e,c,cs,g,rfl,rfl⟩)
  ·rw[dJ]
   exact h0 e
  ·rw[dJ]
   have e1:(lk [(7,(⟨true,cs⟩:aG))] 7).map (aG.ren (aR (six t) 7 nm))=some ⟨true,cs⟩:=by simp[lk,aG.ren,az g.plain]
   have e2:AV.ren (aR (six t) 7 nm) (Sl 7 0 (cx f st nx m).length c)=Sl nm 0 (cx f st nx m).length c:=by
    show Sl (aR (six t) 7 nm 7) 0 _ _=_
    rw[lC]
   rw[e1,e2]
   exact h1 e c cs g
def kk (m:Nat) (f:Nat→Int) (pc kc:List SV) (cnt:Int):List (Nat×aG):=
 [(0,⟨false,[Sum.inr (.inr (4,0,m,m))]⟩),(1,⟨false,pc⟩),(2,⟨true,[Sum.inl (.slice none 0 0)]⟩),(3,⟨true,[Sum.inl (.int .i64 cnt)]⟩),(4,⟨true,aA .u8 (64*m) f⟩),(5,⟨false,kc⟩)]
abbrev nI:=Option Nat×List (List Pd)
def nI.val (r:nI):AV:=match r.1 with
 | none=>V .nilIface
 | some g=>V (bR g)
def bZ (f:Nat→Int) (m:Nat):nI:=match cX f (m / 2) with
 | none=>(some 1,[])
 | some st=>(none,[zL (eZ f m st)])
def yd (k m kn:Nat) (kb:Nat→Bool) (f:Nat→Int) (at_ cut cnt:Int) (r:nI) (rs:List ResultVar):Exit→AS→Prop:=
 dw Tryd.prog rs k (bk at_ cnt (dF r.2)) eR (fun v out=>v=r.val∧out=lk (cr m (iY f r.2) (cnt+(dF r.2:Nat)))) (fun out=>out=lk (cr m (gN kn kb (dO cut) f r.2 (at_ - cnt - 1).toNat) at_))
theorem z6 {f:Nat→Int} {st nx n:Nat}: ∀ a ∈ cx f st nx n,a < n:=fun a ha=>by
 unfold cx at ha
 exact List.mem_range.1 (List.mem_filter.1 ha).1
theorem Kr {m kn:Nat} {kb:Nat→Bool} {f:Nat→Int} {ks:SV} {kc:List SV} {at_ cut cnt:Int} (hk:fR ks kn kb kc) (hf:cU f) (hm:m≤8192) (h2:2≤m) (h0:0≤cnt) (h1:cnt < 800000):
  ∀ c,Tryd.f43.body=some c→iX Tryd.prog [4] [4] c (yd 6 m kn kb f at_ cut cnt (bZ f m) [.tmp 2]) (bM.start [Ag (eE 0 1 2 3)] (lk (kk m f (cL at_ cut ks) kc cnt)) 6):=by
 intro c hc
 cases hc
 have dk:=xl (at_:=at_) (cut:=cut) (cnt:=cnt) hk
 simp only[kk,bJ,seval]
 refine rz (f:=f) (m:=m) (iK (m:=m) (f:=f) (pc:=cL at_ cut ks) (nc:=[Sum.inl (.int .i64 cnt)]) (kc:=kc) (r0:=false) (r1:=false) (r2:=true) (r3:=true) (r4:=true) (r5:=false) (by simp only[ao,aq,ae,vR,seval]) (by simp only[ao,aq,ae,vR,seval]) (by simp only[ao,aq,ae,vR,seval]) (by simp only[ao,aq,ae,vR,seval]) (by simp only[ao,aq,ae,vR,seval]) (by simp only[ao,aq,ae,vR,seval])) dk hf hm h2 (fun hl=> ?_) fun st c1 wB hl g1 g2 g3=> ?_
 ·have hr:bZ f m=(some 1,[]):=by unfold bZ;rw[hl]
  have qP:bk at_ cnt 0=false:=decide_eq_false (by omega)
  unfold yd dw
  simp only[hr,dF,iY,qP,List.foldl_nil,Int.add_zero,cK,jG,bR,nI.val,av,bJ,seval]
  refine gH (by rfl) (by decide) ?_ ?_ ?_<;>(simp only[ae,vR,seval];done)
 ·have hr:bZ f m=(none,[zL (eZ f m st)]):=by unfold bZ;rw[hl]
  have XP:(eZ f m st).length≤8192:=Nat.le_trans qJ hm
  simp only[cK,bF,aX,av,bJ,seval]
  by_cases hs:bk at_ cnt (eZ f m st).length=true
  ·have hb:=of_decide_eq_true hs
   refine .inr ⟨by kernel_rfl, ?_⟩
   simp only[bJ,seval]
   have hne:eZ f m st≠[]:=fun h=>by rw[h]at hb;simp at hb;omega
   refine dK (by kernel_rfl) [0,1,2] [3] [] [] [6,13] [13,14,15,16] (by kernel_rfl) (by kernel_rfl) (by kernel_rfl) ?_
   simp only[bF,aX,av,bJ,seval]
   refine nw (t:=9) (eY:=true) (np:=bd (aF f (aC f (st+m / 2) st))) (c0:=c1) (pf:=dc f (aC f (st+m / 2) st)) (ps:=wB) (iK (m:=m) (f:=f) (pc:=cL at_ cut ks) (nc:=[Sum.inl (.int .i64 cnt)]) (kc:=kc) (r0:=false) (r1:=false) (r2:=true) (r3:=true) (r4:=true) (r5:=false) (by simp only[ao,aq,ae,vR,seval]) (by simp only[ao,aq,ae,vR,seval]) (by simp only[ao,aq,ae,vR,seval]) (by simp only[ao,aq,ae,vR,seval]) (by simp only[ao,aq,ae,vR,seval]) (by simp only[ao,aq,ae,vR,seval])) dk hm (by simp only[ao,aq,ae,vR,seval]) g1 g2 g3 (fun e=>absurd e hne) fun e c2 J6 k1=> ?_
   simp only[bF,aX,av,bJ,seval]
   refine Et (kc:=kc) (cut:=cut) (at_:=at_) (m:=m) (f:=f) (cnt:=cnt) (t:=22) (eY:=true) (ps:=J6) ⟨?_, ?_, ?_, ?_, ?_, ?_⟩ hk ?_ (by decide) k1 z6 hne hm XP h0 (by omega) hs ?_<;>try (simp only[ao,aq,ae,vR,seval];done)
   simp only[fa]
   unfold yd dw
   rw[hr,if_pos (show bk at_ cnt (dF [zL (eZ f m st)])=true by rw[oX];exact hs)]
   rw[← zZ (f:=f) (A:=eZ f m st) (by omega)]
   exact rG (by decide) (by simp only[eZ,iZ,ae,vR,seval]) (by simp only[eZ,iZ,ae,vR,seval]) (by simp only[eZ,iZ,ae,vR,seval])
  ·have qP:bk at_ cnt (eZ f m st).length=false:=by simpa using hs
   have hnb: ¬ bk at_ cnt (dF [zL (eZ f m st)])=true:=by rw[oX];exact hs
   refine .inl ?_
   refine dK (by kernel_rfl) [0,1,2] [3,4] [] [] [6,13] [13,14,15,16,17] (by kernel_rfl) (by kernel_rfl) (by kernel_rfl) ?_
   simp only[bF,aX,av,bJ,seval]
   refine nw (t:=9) (eY:=true) (np:=bd (aF f (aC f (st+m / 2) st))) (c0:=c1) (pf:=dc f (aC f (st+m / 2) st)) (ps:=wB) (iK (m:=m) (f:=f) (pc:=cL at_ cut ks) (nc:=[Sum.inl (.int .i64 cnt)]) (kc:=kc) (r0:=false) (r1:=false) (r2:=true) (r3:=true) (r4:=true) (r5:=false) (by simp only[ao,aq,ae,vR,seval]) (by simp only[ao,aq,ae,vR,seval]) (by simp only[ao,aq,ae,vR,seval]) (by simp only[ao,aq,ae,vR,seval]) (by simp only[ao,aq,ae,vR,seval]) (by simp only[ao,aq,ae,vR,seval])) dk hm (by simp only[ao,aq,ae,vR,seval]) g1 g2 g3 (fun e=> ?_) fun e c2 J6 k1=> ?_
   ·simp only[bF,aX,av,bJ,seval]
    refine Ex (iK (m:=m) (f:=f) (pc:=cL at_ cut ks) (nc:=[Sum.inl (.int .i64 cnt)]) (kc:=kc) (r0:=false) (r1:=false) (r2:=true) (r3:=true) (r4:=true) (r5:=false) (by simp only[ao,aq,ae,vR,seval]) (by simp only[ao,aq,ae,vR,seval]) (by simp only[ao,aq,ae,vR,seval]) (by simp only[ao,aq,ae,vR,seval]) (by simp only[ao,aq,ae,vR,seval]) (by simp only[ao,aq,ae,vR,seval])) dk ?_
    simp only[av,bJ,seval]
    unfold yd dw
    rw[hr,if_neg hnb]
    have e1:eZ f m st=[]:=e
    simp only[e1,zL,dF,iY,nI.val,List.map_nil,List.length_nil,List.foldl_cons,List.foldl_nil,kS,Nat.add_zero,Int.add_zero,av,bJ,seval]
    refine gH (by rfl) (by decide) ?_ ?_ ?_<;>(simp only[av,bJ,seval];done)
   ·simp only[bF,aX,av,bJ,seval]
    refine xh (kc:=kc) (cut:=cut) (at_:=at_) (m:=m) (f:=f) (cnt:=cnt) (t:=22) (eY:=true) (ps:=J6) ⟨?_, ?_, ?_, ?_, ?_, ?_⟩ hk ?_ (by decide) k1 z6 e hm XP h0 (by omega) qP ?_<;>try (simp only[ao,aq,ae,vR,seval];done)
    simp only[iZ,av,bJ,seval]
    unfold yd dw
    rw[hr,if_neg hnb]
    have e2:iY f [zL (eZ f m st)]=qI f (eZ f m st):=rfl
    have e3:dF [zL (eZ f m st)]=(eZ f m st).length:=oX
    simp only[e2,e3,nI.val,av,bJ,seval]
    refine gH (by rfl) (by decide) ?_ ?_ ?_<;>(simp only[eZ,av,bJ,seval];done)
theorem pI {s:AS} {nm m:Nat} {f:Nat→Int} {pc nc kc:List SV} (hd:m5 s (ju m f pc nc kc)) (h:fY pc nc kc) (hf:cU f) (hm:m≤8192) (h2:2≤m) {dst:Option Nat} {K:AS→Prop}
  (h0:cX f (m / 2)=none→K (s.put dst (some (cK jG (bR 1)))))
  (hD: ∀ st,cX f (m / 2)=some st→eZ f m st≠[]→K (s.put dst (some (cK jG (bR 2)))))
  (h1: ∀ st c cs,cX f (m / 2)=some st→eZ f m st=[]→bu cs 0 (bd (aF f (aC f (st+m / 2) st))) (dc f (aC f (st+m / 2) st))→bd (aF f (aC f (st+m / 2) st))≤c→cs.all SV.plain=true→
   K (({ s with box:=upd s.box nm (some ⟨true,cs⟩) }:AS).put dst (some (cK (bF f st (aC f (st+m / 2) st) (.inr (.inr (nm,0,bd (aF f (aC f (st+m / 2) st)),c)))) .nilIface)))):
  aB Tryd.prog nm 25 (some [Ag (eE 0 1 2 3)]) dst K s:=by
 refine (xe h hf hm h2).aB (fun n=>n) none (hd.fits jj) (fw _) ?_
 rintro v out (⟨hr,rfl,rfl⟩ | ⟨st,hr,hl,rfl,rfl⟩ | ⟨st,c,cs,hr,hl,g1,g2,g3,rfl,rfl⟩) _
 ·rw[jm,AV.cJ (show AV.plain (cK jG (bR 1))=true from rfl)]
  exact h0 hr
 ·rw[jm,AV.cJ (show AV.plain (cK jG (bR 2))=true from rfl)]
  exact hD st hr hl
 ·rw[dv g3]
  have e2:AV.ren (dy (fun n=>n) 6 nm) (cK (bF f st (aC f (st+m / 2) st) (.inr (.inr (6,0,bd (aF f (aC f (st+m / 2) st)),c)))) .nilIface)=cK (bF f st (aC f (st+m / 2) st) (.inr (.inr (nm,0,bd (aF f (aC f (st+m / 2) st)),c)))) .nilIface:=by
   simp only[cK,bF,aX,AV.ren,CV.ren,List.map_cons,List.map_nil,SV.ren,dT,gl]
  rw[e2]
  exact h1 st c cs hr hl g1 g2 g3
theorem oE {s:AS} {nm t u st nx np n0:Nat} {q:Int} {sv ry:SV} {f f0:Nat→Int} {r0 r1:Bool} {ps cs:List SV} (hb:s.box t=some ⟨r0,ps⟩) (hb':s.box u=some ⟨r1,cs⟩) (hl:cY t sv np f ps) (hp:ps.all SV.plain=true) (lI:cY u ry n0 f0 cs) (hc:cs.all SV.plain=true) (KV:0≤q) (hq:q≤18446744073709551615) {dst:Option Nat} {K:AS→Prop}
  (hK:K (s.put dst (some (nq q ry)))):aB Tryd.prog nm 41 (some [Ag (aX st nx q sv),Sum.inl (Sum.inl ry)]) dst K s:=by
 obtain ⟨s1,g1,k1⟩:=hl.jJ 0
 obtain ⟨s2,g2,k2⟩:=lI.jJ 1
 refine (Ek (st:=st) (nx:=nx) (q:=q) g1 hp g2 hc KV hq).aB (two t u) none (lY hb hp hb' hc) ?_ ?_
 ·simp only[List.map_cons,List.map_nil,kj,k1 (two t u) rfl]
  show _=[_,Sum.inl (Sum.inl (SV.ren (two t u) s2))]
  rw[k2 (two t u) rfl]
 ·rintro v out ⟨rfl,rfl⟩ _
  rw[jm]
  have e:AV.ren (dy (two t u) 2 nm) (nq q s2)=nq q ry:=by
   unfold nq
   split
   ·exact AV.cJ rfl _
   ·simp only[cK,bj,AV.ren,CV.ren,List.map_cons,List.map_nil]
    have:=k2 (dy (two t u) 2 nm) (by unfold dy;rfl)
    rw[this]
    rfl
  rw[e]
  exact hK
theorem Bw {f:Nat→Int} {r st:Nat} (h:cX f r=some st):okB f st (st+r)=true∧(st=0∨st=r):=by
 unfold cX at h
 split at h
 ·rename_i h1
  simp only[Option.some.injEq]at h
  subst h
  exact ⟨by rw[← Nat.two_mul];exact h1.1, .inr rfl⟩
 ·split at h
  ·rename_i h1
   simp only[Option.some.injEq]at h
   subst h
   exact ⟨by rw[Nat.zero_add];exact h1, .inl rfl⟩
  ·cases h
theorem uA {f:Nat→Int} {e:Nat}: ∀ (n p:Nat),okB f p e=true→okB f (walk f e n p) e=true∧p≤walk f e n p
 | 0,p,h=>⟨h,Nat.le_refl _⟩
 | n+1,p,h=>by
  simp only[walk]
  split
  ·rename_i hg
   have h1:okB f (ay f p) e=true:=by
    unfold lL at hg
    simp only[Bool.and_eq_true]at hg
    exact hg.1.2
   obtain ⟨k1,k2⟩:=uA n _ h1
   exact ⟨k1,Nat.le_trans (Nat.le_of_lt cW) k2⟩
  ·exact ⟨h,Nat.le_refl _⟩
theorem Bx {f:Nat→Int} {p e:Nat} (h:okB f p e=true):ay f p≤e:=by
 unfold okB gU at h
 simp only[Bool.and_eq_true,decide_eq_true_eq]at h
 have h4:=h.1.2
 unfold ay
 unfold aM at h4 ⊢
 omega
theorem IY {f:Nat→Int} (hf:cU f) {p:Nat}:0≤bW (aF f p)∧bW (aF f p)≤18446744073709551615:=by
 have b2:=jt (f:=fun i=>aF f p (1+i)) (fun i=>hf _) 8
 change 0≤bW _∧bW _ < _ at b2
 rw[show (256:Int)^8=18446744073709551616 by decide]at b2
 exact ⟨b2.1,by omega⟩
def sev (t u n:Nat):Nat:=if n=6 then t else if n=7 then u else n
theorem R6 {t u:Nat} {l:List SV} (h: ∀ x ∈ l,SV.ok (fun n=>n=5) x):l.map (SV.ren (sev t u))=l:=by
 conv=>rhs;rw[← List.map_id l]
 exact List.map_congr_left fun x hx=>SV.jc (SV.aY (fun n hn=>by subst hn;rfl) (h x hx).1)
theorem IZ {s:AS} {m t u:Nat} {f:Nat→Int} {pc kc ps ls:List SV} {cnt:Int} {r0 r1:Bool} (hd:wU s m f pc kc cnt (Sum.inl (.slice none 0 0))) (hb:s.box t=some ⟨r0,ps⟩) (ht:5≤t) (hb':s.box u=some ⟨r1,ls⟩) (hu:5≤u) (hp: ∀ x ∈ pc,SV.ok (fun n=>n=5) x) (hk:kc.all SV.plain=true) (hps:ps.all SV.plain=true) (hls:ls.all SV.plain=true):iW s (sev t u) (lk (xk m f pc kc cnt ps ls)) [2,3,4]:=by
 refine kd (fun x hx=> ?_) fun n hn=> ?_
 ·have inj: ∀ a,a=2∨a=3∨a=4→ ∀ y ∈ xk m f pc kc cnt ps ls,sev t u a=sev t u y.1→a=y.1:=fun a ha y hy e=>by
   have:y.1 < 8:=by
    simp only[xk,cz]at hy
    rcases hy with rfl | rfl | rfl | rfl | rfl | rfl | rfl | rfl<;>(simp only;omega)
   unfold sev at e
   (repeat' split at e)<;>omega
  simp only[xk,cz]at hx
  rcases hx with rfl | rfl | rfl | rfl | rfl | rfl | rfl | rfl
  ·exact ⟨⟨_,hd.b0,fun h=>h⟩,fun h=>(by cases h)⟩
  ·exact ⟨⟨_,by rw[R6 hp];exact hd.b1,fun h=>h⟩,fun h=>(by cases h)⟩
  ·exact ⟨⟨_,hd.b2,fun h=>rfl⟩,fun h=>⟨(by decide:(2:Nat) ∈ [2,3,4]),inj 2 (by decide)⟩⟩
  ·exact ⟨⟨_,hd.b3,fun h=>rfl⟩,fun h=>⟨(by decide:(3:Nat) ∈ [2,3,4]),inj 3 (by decide)⟩⟩
  ·exact ⟨⟨_,by rw[az aD];exact hd.b4,fun h=>rfl⟩,fun h=>⟨(by decide:(4:Nat) ∈ [2,3,4]),inj 4 (by decide)⟩⟩
  ·exact ⟨⟨_,by rw[az hk];exact hd.b5,fun h=>h⟩,fun h=>(by cases h)⟩
  ·exact ⟨⟨_,by rw[az hps];exact hb,fun h=>(by cases h)⟩,fun h=>(by cases h)⟩
  ·exact ⟨⟨_,by rw[az hls];exact hb',fun h=>(by cases h)⟩,fun h=>(by cases h)⟩
 ·simp only[cz]at hn
  rcases hn with rfl | rfl | rfl<;>exact ⟨_,rfl,rfl⟩
theorem R7 {s:AS} {m t u nm:Nat} {f:Nat→Int} {cnt:Int}:dL s (sev t u) 8 1 nm [2,3,4] (lk (cr m f cnt))=upd (iZ s m f cnt) nm none:=by
 rw[fc]
 simp only[cr,iZ,List.foldr_cons,List.foldr_nil,lk,Option.map_some,Option.map_none,aG.ren,List.map_cons,List.map_nil,SV.ren,dT,az aD,Nat.reduceEqDiff,reduceIte,show sev t u 2=2 from rfl,show sev t u 3=3 from rfl,show sev t u 4=4 from rfl]
theorem R8 {s:AS} {m t u nm:Nat} {f:Nat→Int} {cnt:Int}:dL s (sev t u) 8 0 nm [2,3,4] (lk (cr m f cnt))=iZ s m f cnt:=by
 rw[ma]
 simp only[cr,iZ,List.foldr_cons,List.foldr_nil,lk,Option.map_some,Option.map_none,aG.ren,List.map_cons,List.map_nil,SV.ren,dT,az aD,Nat.reduceEqDiff,reduceIte,show sev t u 2=2 from rfl,show sev t u 3=3 from rfl,show sev t u 4=4 from rfl]
theorem I0 {st nx:Nat} {q q0:Int} {sv ry:SV} (h:SV.ok (fun n=>n < 8) sv) (h0:SV.ok (fun n=>n < 8) ry): ∀ v ∈ [Ag (eE 0 1 2 3),Ag (aX st nx q0 ry),Ag (bj q sv)],AV.ok (fun n=>n < 8) v:=fun v hv=>by
 simp only[cz]at hv
 rcases hv with rfl | rfl | rfl
 ·exact dg fun n hn=>by omega
 ·exact fx h0
 ·exact j8 h
section
variable {s:AS} {nm m a n kn t u st nn np nx:Nat} {kb:Nat→Bool} {f pf lf:Nat→Int} {ks sv ry:SV} {kc ps ls:List SV} {at_ cut cnt q q0:Int} {r0 r1:Bool} {dst:Option Nat} {K:AS→Prop} {F:Exit→AS→Prop}
theorem z7 (hd:wU s m f (cL at_ cut ks) kc cnt (Sum.inl (.slice none 0 0))) (hk:fR ks kn kb kc) (hb:s.box t=some ⟨r0,ps⟩) (ht:5≤t) (hl:cY t sv n pf ps) (hp:ps.all SV.plain=true) (hpf:cU pf) (hb':s.box u=some ⟨r1,ls⟩) (hu:5≤u) (lI:cY u ry np lf ls) (hls:ls.all SV.plain=true) (hm:m≤8192) (ha:a+aO n < m) (hn:n < 600000) (h0:0≤cnt) (h1:cnt < 800000)
  (hst:((m / 2:Nat):Int) - (st:Int)=(a:Int)) (QA:0 < nn) (RD:st+nn≤m) (uk:nx=st+nn) (hfl:bk at_ cnt (aO n+1+nn)=false)
  (hK:K (({ s with box:=upd (iZ s m (iY f (qQ a n q pf st nn)) (cnt+(aO n:Nat)+1+nn)) nm none }:AS).put dst (some (Sum.inr [])))):aB Tryd.prog nm 42 (some [Ag (eE 0 1 2 3),Ag (aX st nx q0 ry),Ag (bj q sv)]) dst K s:=by
 subst uk
 obtain ⟨s1,g1,k1⟩:=hl.jJ 6
 obtain ⟨s2,g2,k2⟩:=lI.jJ 7
 have hm0:bC Tryd.prog 42 [Ag (eE 0 1 2 3),Ag (aX st (st+nn) q0 s2),Ag (bj q s1)] 8 (lk (xk m f (cL at_ cut ks) kc cnt ps ls)) (fun v out=>v=Sum.inr []∧out=lk (cr m (iY f (qQ a n q pf st nn)) (cnt+(aO n:Nat)+1+nn))):=
  iL Tryd.func42 rfl (by kernel_rfl) [1,2] [1,2] (by simp[Tryd.ntmps42]) Tryd.mW (I0 (g1.ok (by decide)) (g2.ok (by decide))) Eu (Ev (dW hk) hk.c hp hls) hfl (Nq hk g1 hp hpf g2 hls hm ha hn h0 h1 hst QA RD _ rfl)
 refine hm0.wide.lE (Nat.le_refl 1) (sev t u) [2,3,4] (IZ hd hb ht hb' hu (dW hk) hk.c hp hls) ?_ ?_
 ·simp only[List.map_cons,List.map_nil,kj,iJ,k1 (sev t u) rfl,k2 (sev t u) rfl]
  rfl
 ·rintro v out ⟨rfl,rfl⟩
  rw[R7]
  exact hK
theorem Ey (hd:wU s m f (cL at_ cut ks) kc cnt (Sum.inl (.slice none 0 0))) (hk:fR ks kn kb kc) (hb:s.box t=some ⟨r0,ps⟩) (ht:5≤t) (hl:cY t sv n pf ps) (hp:ps.all SV.plain=true) (hpf:cU pf) (hb':s.box u=some ⟨r1,ls⟩) (hu:5≤u) (lI:cY u ry np lf ls) (hls:ls.all SV.plain=true) (hm:m≤8192) (ha:a+aO n < m) (hn:n < 600000) (h0:0≤cnt) (h1:cnt < 800000)
  (hst:((m / 2:Nat):Int) - (st:Int)=(a:Int)) (QA:0 < nn) (RD:st+nn≤m) (uk:nx=st+nn) (hfl:bk at_ cnt (aO n+1+nn)=true)
  (hK:F (.panic eR) { s with box:=iZ s m (gN kn kb (dO cut) f (qQ a n q pf st nn) (at_ - cnt - 1).toNat) at_ }):dV Tryd.prog 42 (some [Ag (eE 0 1 2 3),Ag (aX st nx q0 ry),Ag (bj q sv)]) F s:=by
 subst uk
 obtain ⟨s1,g1,k1⟩:=hl.jJ 6
 obtain ⟨s2,g2,k2⟩:=lI.jJ 7
 have hm0:ud Tryd.prog 42 [Ag (eE 0 1 2 3),Ag (aX st (st+nn) q0 s2),Ag (bj q s1)] 8 (lk (xk m f (cL at_ cut ks) kc cnt ps ls)) eR (fun out=>out=lk (cr m (gN kn kb (dO cut) f (qQ a n q pf st nn) (at_ - cnt - 1).toNat) at_)):=
  iM Tryd.func42 rfl (by kernel_rfl) [1,2] [1,2] (by simp[Tryd.ntmps42]) Tryd.mW (I0 (g1.ok (by decide)) (g2.ok (by decide))) Eu (Ev (dW hk) hk.c hp hls) hfl (Nq hk g1 hp hpf g2 hls hm ha hn h0 h1 hst QA RD _ rfl)
 refine hm0.oT (sev t u) [2,3,4] (IZ hd hb ht hb' hu (dW hk) hk.c hp hls) ?_ ?_
 ·simp only[List.map_cons,List.map_nil,kj,iJ,k1 (sev t u) rfl,k2 (sev t u) rfl]
  rfl
 ·rintro out rfl
  rw[R8]
  exact hK
end
def bE (f:Nat→Int) (m:Nat):nI:=match cX f (m / 2) with
 | none=>(some 1,[])
 | some st=>if eZ f m st≠[] then (some 2,[]) else
  if bW (aF f (aC f (st+m / 2) st))=18446744073709551615 then (some 3,[]) else
   (none,qQ (m / 2 - st) (bd (aF f (aC f (st+m / 2) st))) (bW (aF f (aC f (st+m / 2) st))+1) (dc f (aC f (st+m / 2) st)) st (ay f (aC f (st+m / 2) st) - st))
theorem I1 {f:Nat→Int} (hf:cU f) {p:Nat}:cU (dc f p):=fun i=>hf _
theorem Ks {m kn:Nat} {kb:Nat→Bool} {f:Nat→Int} {ks:SV} {kc:List SV} {at_ cut cnt:Int} (hk:fR ks kn kb kc) (hf:cU f) (hm:m≤8192) (h2:2≤m) (h0:0≤cnt) (h1:cnt < 800000):
  ∀ c,Tryd.f22.body=some c→iX Tryd.prog [] [7] c (yd 6 m kn kb f at_ cut cnt (bE f m) [.tmp 2]) (bM.start [Ag (eE 0 1 2 3)] (lk (kk m f (cL at_ cut ks) kc cnt)) 6):=by
 intro c hc
 cases hc
 have dk:=xl (at_:=at_) (cut:=cut) (cnt:=cnt) hk
 have qP:bk at_ cnt 0=false:=decide_eq_false (by omega)
 simp only[kk,bJ,seval]
 refine pI (f:=f) (m:=m) (iK (m:=m) (f:=f) (pc:=cL at_ cut ks) (nc:=[Sum.inl (.int .i64 cnt)]) (kc:=kc) (r0:=false) (r1:=false) (r2:=true) (r3:=true) (r4:=true) (r5:=false) (by simp only[ao,aq,ae,vR,seval]) (by simp only[ao,aq,ae,vR,seval]) (by simp only[ao,aq,ae,vR,seval]) (by simp only[ao,aq,ae,vR,seval]) (by simp only[ao,aq,ae,vR,seval]) (by simp only[ao,aq,ae,vR,seval])) dk hf hm h2 (fun hl=> ?_) (fun st hl hd=> ?_) fun st c1 wB hl hd g1 g2 g3=> ?_
 ·have hr:bE f m=(some 1,[]):=by unfold bE;rw[hl]
  unfold yd dw
  simp only[hr,dF,iY,qP,List.foldl_nil,Int.add_zero,cK,jG,bR,nI.val,av,bJ,seval]
  refine gH (by rfl) (by decide) ?_ ?_ ?_<;>(simp only[ae,vR,seval];done)
 ·have hr:bE f m=(some 2,[]):=by unfold bE;rw[hl];simp only;rw[if_pos hd]
  unfold yd dw
  simp only[hr,dF,iY,qP,List.foldl_nil,Int.add_zero,cK,jG,bR,nI.val,av,bJ,seval]
  refine gH (by rfl) (by decide) ?_ ?_ ?_<;>(simp only[ae,vR,seval];done)
 ·obtain ⟨hok,hst⟩:=Bw hl
  obtain ⟨dP,hle⟩:=uA (f:=f) (e:=st+m / 2) (st+m / 2 - st) st hok
  change okB f (aC f (st+m / 2) st) (st+m / 2)=true at dP
  change st≤aC f (st+m / 2) st at hle
  have uk:=Bx dP
  have hlt:=cW (f:=f) (p:=aC f (st+m / 2) st)
  have zk:aM (bd (aF f (aC f (st+m / 2) st)))≤m / 2:=by
   have e:ay f (aC f (st+m / 2) st)=aC f (st+m / 2) st+aM (bd (aF f (aC f (st+m / 2) st))):=rfl
   omega
  have Uo:aO (bd (aF f (aC f (st+m / 2) st)))+1≤m / 2:=by unfold aM at zk;unfold aO;omega
  have hlen:bd (aF f (aC f (st+m / 2) st)) < 600000:=by unfold aM at zk;omega
  obtain ⟨b1,b2⟩:=IY hf (p:=aC f (st+m / 2) st)
  simp only[cK,bF,aX,av,bJ,seval]
  refine oE (t:=9) (u:=9) (r0:=true) (r1:=true) (f:=dc f (aC f (st+m / 2) st)) (f0:=dc f (aC f (st+m / 2) st)) (ps:=wB) (cs:=wB) (by simp only[ae,vR,seval]) (by simp only[ae,vR,seval]) (.inr ⟨0,c1,rfl,g2,g1⟩) g3 (.inr ⟨0,c1,rfl,g2,g1⟩) g3 b1 b2 ?_
  by_cases hq:bW (aF f (aC f (st+m / 2) st))=18446744073709551615
  ·have hr:bE f m=(some 3,[]):=by unfold bE;rw[hl];simp only;rw[if_neg (fun h=>h hd),if_pos hq]
   have e1:nq (bW (aF f (aC f (st+m / 2) st))) (.inr (.inr (9,0,bd (aF f (aC f (st+m / 2) st)),c1)))=cK eu (bR 3):=if_pos hq
   unfold yd dw
   simp only[e1,hr,dF,iY,qP,List.foldl_nil,Int.add_zero,cK,eu,jG,bR,nI.val,av,bJ,seval]
   refine gH (by rfl) (by decide) ?_ ?_ ?_<;>(simp only[ae,vR,seval];done)
  ·have hr:bE f m=(none,qQ (m / 2 - st) (bd (aF f (aC f (st+m / 2) st))) (bW (aF f (aC f (st+m / 2) st))+1) (dc f (aC f (st+m / 2) st)) st (ay f (aC f (st+m / 2) st) - st)):=by
    unfold bE;rw[hl];simp only;rw[if_neg (fun h=>h hd),if_neg hq]
   have e1:nq (bW (aF f (aC f (st+m / 2) st))) (.inr (.inr (9,0,bd (aF f (aC f (st+m / 2) st)),c1)))=cK (bj (bW (aF f (aC f (st+m / 2) st))+1) (.inr (.inr (9,0,bd (aF f (aC f (st+m / 2) st)),c1)))) .nilIface:=if_neg hq
   simp only[e1,cK,bj,bF,aX,av,bJ,seval]
   by_cases hs:bk at_ cnt (aO (bd (aF f (aC f (st+m / 2) st)))+1+(ay f (aC f (st+m / 2) st) - st))=true
   ·refine .inr ⟨by kernel_rfl, ?_⟩
    simp only[cK,bj,bF,aX,av,bJ,seval]
    refine Ey (a:=m / 2 - st) (n:=bd (aF f (aC f (st+m / 2) st))) (pf:=dc f (aC f (st+m / 2) st)) (nn:=ay f (aC f (st+m / 2) st) - st) (kc:=kc) (cut:=cut) (at_:=at_) (m:=m) (f:=f) (cnt:=cnt) (t:=9) (u:=9) (r0:=true) (r1:=true) (ps:=wB) (ls:=wB) ⟨?_, ?_, ?_, ?_, ?_, ?_⟩ hk ?_ (by decide) (.inr ⟨0,c1,rfl,g2,g1⟩) g3 (I1 hf) ?_ (by decide) (.inr ⟨0,c1,rfl,g2,g1⟩) g3 hm (by omega) hlen h0 h1 (by omega) (by omega) (by omega) (by omega) hs ?_<;>try (simp only[ao,aq,ae,vR,seval];done)
    simp only[fa]
    unfold yd dw
    have hT:=rF (a:=m / 2 - st) (n:=bd (aF f (aC f (st+m / 2) st))) (q:=bW (aF f (aC f (st+m / 2) st))+1) (pf:=dc f (aC f (st+m / 2) st)) (st:=st) (nn:=ay f (aC f (st+m / 2) st) - st)
    rw[hr]
    simp only[hT]
    rw[if_pos hs]
    exact rG (by decide) (by simp only[iZ,ae,vR,seval]) (by simp only[iZ,ae,vR,seval]) (by simp only[iZ,ae,vR,seval])
   ·have hs':bk at_ cnt (aO (bd (aF f (aC f (st+m / 2) st)))+1+(ay f (aC f (st+m / 2) st) - st))=false:=by simpa using hs
    refine .inl ?_
    refine z7 (a:=m / 2 - st) (n:=bd (aF f (aC f (st+m / 2) st))) (pf:=dc f (aC f (st+m / 2) st)) (nn:=ay f (aC f (st+m / 2) st) - st) (kc:=kc) (cut:=cut) (at_:=at_) (m:=m) (f:=f) (cnt:=cnt) (t:=9) (u:=9) (r0:=true) (r1:=true) (ps:=wB) (ls:=wB) ⟨?_, ?_, ?_, ?_, ?_, ?_⟩ hk ?_ (by decide) (.inr ⟨0,c1,rfl,g2,g1⟩) g3 (I1 hf) ?_ (by decide) (.inr ⟨0,c1,rfl,g2,g1⟩) g3 hm (by omega) hlen h0 h1 (by omega) (by omega) (by omega) (by omega) hs' ?_<;>try (simp only[ao,aq,ae,vR,seval];done)
    simp only[iZ,av,bJ,seval]
    unfold yd dw
    have hT:=rF (a:=m / 2 - st) (n:=bd (aF f (aC f (st+m / 2) st))) (q:=bW (aF f (aC f (st+m / 2) st))+1) (pf:=dc f (aC f (st+m / 2) st)) (st:=st) (nn:=ay f (aC f (st+m / 2) st) - st)
    rw[hr]
    simp only[hT]
    rw[if_neg hs]
    simp only[nI.val,av,bJ,seval]
    refine gH (by rfl) (by decide) ?_ ?_ ?_
    ·simp only[ae,vR,seval]
    ·simp only[ae,vR,seval]
     refine congrArg (fun x=>some (aG.mk true [Sum.inl (Value.int .i64 x)])) ?_
     omega
    ·simp only[ae,vR,seval]
theorem ye {s:AS} {nm t n:Nat} {r0:Bool} {cs:List SV} {f:Nat→Int} {q:Int} {sv:SV} (hb:s.box t=some ⟨r0,cs⟩) (hl:cY t sv n f cs) (hp:cs.all SV.plain=true) (hn:n < 9223372036854775000) {dst:Option Nat} {K:AS→Prop}
  (hk:K (({ s with box:=upd s.box nm none }:AS).put dst (some (I .i64 (aM n))))):bD Tryd.prog nm 14 (some [Ag (bj q sv)]) dst K s:=by
 obtain ⟨s0,h0,h1⟩:=hl.jJ 0
 refine (sk (eY:=false) (q:=q) h0 hp hn).wide.aB (fun _=>t) none (dU hb hp) ?_ ?_
 ·simp only[List.map_cons,List.map_nil,iJ,h1 (fun _=>t) rfl]
 ·rintro v out ⟨rfl,rfl⟩
  rw[dJ]
  exact hk
section
variable {s:AS} {nm m a n kn t:Nat} {kb:Nat→Bool} {f pf:Nat→Int} {ks sv:SV} {kc ps:List SV} {at_ cut cnt q:Int} {eY:Bool} {dst:Option Nat} {K:AS→Prop}
theorem Nr (hd:wU s m f (cL at_ cut ks) kc cnt (Sum.inl (.slice none 0 0))) (hk:fR ks kn kb kc) (hb:s.box t=some ⟨eY,ps⟩) (ht:5≤t) (hl:cY t sv n pf ps) (hp:ps.all SV.plain=true) (hpf:cU pf) (hm:m≤8192) (ha:a+aO n < m) (hn:n < 600000) (h0:0≤cnt) (h1:cnt < 900000) (hfl:bk at_ cnt (aO n+1)=false) {x:Int} (hx:x=(a:Int))
  (hK:K (({ s with box:=upd (iZ s m (lK f a n q pf) (cnt+(aO n:Nat)+1)) nm none }:AS).put dst (some (Sum.inr [])))):aB Tryd.prog nm 16 (some [Ag (eE 0 1 2 3),I .i64 x,Ag (bj q sv)]) dst K s:=by
 subst hx
 obtain ⟨s0,g0,g1⟩:=hl.jJ 6
 refine (Np (q:=q) (cut:=cut) (f:=f) hk g0 hp hpf hm ha hn h0 h1 hfl).wide.lE (Nat.le_refl 1) (six t) [2,3,4] (rC hd hb ht (dW hk) hk.c hp) (xg (g1 (six t) rfl)) ?_
 rintro v out ⟨rfl,rfl⟩
 rw[Nn]
 exact hK
end
def aN (f:Nat→Int) (m n:Nat) (pf:Nat→Int):nI:=match cX f (m / 2) with
 | none=>(some 1,[])
 | some st=>if eZ f m st≠[] then (some 2,[]) else
  if bW (aF f (aC f (st+m / 2) st))=18446744073709551615 then (some 3,[]) else
  if m / 2 < aM n then (some 4,[]) else
  if st+m / 2 < ay f (aC f (st+m / 2) st)+aM n then
   (none,qQ (m / 2 - st) n (bW (aF f (aC f (st+m / 2) st))+1) pf st (ay f (aC f (st+m / 2) st) - st))
  else (none,eX (ay f (aC f (st+m / 2) st)) n (bW (aF f (aC f (st+m / 2) st))+1) pf)
theorem Ez {m n kn:Nat} {kb:Nat→Bool} {f pf:Nat→Int} {ks sv:SV} {kc ps:List SV} {at_ cut cnt:Int} (hk:fR ks kn kb kc) (hf:cU f) (lI:cY 6 sv n pf ps) (hp:ps.all SV.plain=true) (hpf:cU pf) (hm:m≤8192) (h2:2≤m) (hn:n < 9223372036854775000) (h0:0≤cnt) (h1:cnt < 800000):
  ∀ c,Tryd.f20.body=some c→iX Tryd.prog [11] [8,12] c (yd 7 m kn kb f at_ cut cnt (aN f m n pf) [.tmp 4]) (bM.start [Ag (eE 0 1 2 3),Sum.inl (Sum.inl sv)] (lk (xP m f (cL at_ cut ks) kc cnt ps)) 7):=by
 intro c hc
 cases hc
 have dk:=xl (at_:=at_) (cut:=cut) (cnt:=cnt) hk
 have qP:bk at_ cnt 0=false:=decide_eq_false (by omega)
 simp only[xP,bJ,seval]
 refine pI (f:=f) (m:=m) (iK (m:=m) (f:=f) (pc:=cL at_ cut ks) (nc:=[Sum.inl (.int .i64 cnt)]) (kc:=kc) (r0:=false) (r1:=false) (r2:=true) (r3:=true) (r4:=true) (r5:=false) (by simp only[ao,aq,ae,vR,seval]) (by simp only[ao,aq,ae,vR,seval]) (by simp only[ao,aq,ae,vR,seval]) (by simp only[ao,aq,ae,vR,seval]) (by simp only[ao,aq,ae,vR,seval]) (by simp only[ao,aq,ae,vR,seval])) dk hf hm h2 (fun hl=> ?_) (fun st hl hd=> ?_) fun st c1 wB hl hd g1 g2 g3=> ?_
 ·have hr:aN f m n pf=(some 1,[]):=by unfold aN;rw[hl]
  unfold yd dw
  simp only[hr,dF,iY,qP,List.foldl_nil,Int.add_zero,cK,jG,bR,nI.val,av,bJ,seval]
  refine gH (by rfl) (by decide) ?_ ?_ ?_<;>(simp only[ae,vR,seval];done)
 ·have hr:aN f m n pf=(some 2,[]):=by unfold aN;rw[hl];simp only;rw[if_pos hd]
  unfold yd dw
  simp only[hr,dF,iY,qP,List.foldl_nil,Int.add_zero,cK,jG,bR,nI.val,av,bJ,seval]
  refine gH (by rfl) (by decide) ?_ ?_ ?_<;>(simp only[ae,vR,seval];done)
 ·obtain ⟨hok,hst⟩:=Bw hl
  obtain ⟨dP,hle⟩:=uA (f:=f) (e:=st+m / 2) (st+m / 2 - st) st hok
  change okB f (aC f (st+m / 2) st) (st+m / 2)=true at dP
  change st≤aC f (st+m / 2) st at hle
  have uk:=Bx dP
  have hlt:=cW (f:=f) (p:=aC f (st+m / 2) st)
  obtain ⟨b1,b2⟩:=IY hf (p:=aC f (st+m / 2) st)
  simp only[cK,bF,aX,av,bJ,seval]
  refine oE (t:=10) (u:=6) (r0:=true) (r1:=false) (f:=dc f (aC f (st+m / 2) st)) (f0:=pf) (ps:=wB) (cs:=ps) (by simp only[ae,vR,seval]) (by simp only[ae,vR,seval]) (.inr ⟨0,c1,rfl,g2,g1⟩) g3 lI hp b1 b2 ?_
  by_cases hq:bW (aF f (aC f (st+m / 2) st))=18446744073709551615
  ·have hr:aN f m n pf=(some 3,[]):=by unfold aN;rw[hl];simp only;rw[if_neg (fun h=>h hd),if_pos hq]
   have e1:nq (bW (aF f (aC f (st+m / 2) st))) sv=cK eu (bR 3):=if_pos hq
   unfold yd dw
   simp only[e1,hr,dF,iY,qP,List.foldl_nil,Int.add_zero,cK,eu,jG,bR,nI.val,av,bJ,seval]
   refine gH (by rfl) (by decide) ?_ ?_ ?_<;>(simp only[ae,vR,seval];done)
  ·have e1:nq (bW (aF f (aC f (st+m / 2) st))) sv=cK (bj (bW (aF f (aC f (st+m / 2) st))+1) sv) .nilIface:=if_neg hq
   simp only[e1,cK,bj,bF,aX,av,bJ,seval]
   refine jL (iK (m:=m) (f:=f) (pc:=cL at_ cut ks) (nc:=[Sum.inl (.int .i64 cnt)]) (kc:=kc) (r0:=false) (r1:=false) (r2:=true) (r3:=true) (r4:=true) (r5:=false) (by simp only[ao,aq,ae,vR,seval]) (by simp only[ao,aq,ae,vR,seval]) (by simp only[ao,aq,ae,vR,seval]) (by simp only[ao,aq,ae,vR,seval]) (by simp only[ao,aq,ae,vR,seval]) (by simp only[ao,aq,ae,vR,seval])) dk (by omega) ?_
   simp only[e1,cK,bj,bF,aX,av,bJ,seval]
   refine j9 (t:=6) (eY:=false) (cs:=ps) (f:=pf) (by simp only[ae,vR,seval]) lI hp (by omega) ?_
   by_cases hfull:m / 2 < aM n
   ·have hr:aN f m n pf=(some 4,[]):=by unfold aN;rw[hl];simp only;rw[if_neg (fun h=>h hd),if_neg hq,if_pos hfull]
    have d1:(((m / 2:Nat):Int) < ((aM n:Nat):Int))=True:=eq_true (by omega)
    unfold yd dw
    simp only[d1,decide_true,hr,dF,iY,qP,List.foldl_nil,Int.add_zero,cK,eu,jG,bR,nI.val,Tryd.bt,av,bJ,seval]
    refine gH (by rfl) (by decide) ?_ ?_ ?_<;>(simp only[ae,vR,seval];done)
   ·have d1:(((m / 2:Nat):Int) < ((aM n:Nat):Int))=False:=eq_false (by omega)
    have SI:n < 600000:=by unfold aM at hfull;omega
    have RM:aO n+1=aM n:=by unfold aM aO;omega
    simp only[d1,decide_false,cK,bj,bF,aX,av,bJ,seval]
    have w1:IntKind.i64.wrap (((ay f (aC f (st+m / 2) st):Nat):Int)+((aM n:Nat):Int))=((ay f (aC f (st+m / 2) st)+aM n:Nat):Int):=by rw[wrap_i64 _ (by omega) (by omega)];omega
    have w2:IntKind.i64.wrap ((st:Int)+((m / 2:Nat):Int))=((st+m / 2:Nat):Int):=by rw[wrap_i64 _ (by omega) (by omega)];omega
    refine dK (by kernel_rfl) [0,1,2,5,6,7,8] [3,4,9] [] [10] [14,25] [40,41,42,45,46,47,48,43,44,49,39] (by kernel_rfl) (by kernel_rfl) (by kernel_rfl) ?_
    simp only[w2,cK,bj,bF,aX,av,bJ,seval]
    refine ye (t:=6) (r0:=false) (cs:=ps) (f:=pf) (by simp only[ao,aq,ae,vR,seval]) lI hp (by omega) ?_
    by_cases Ti:st+m / 2 < ay f (aC f (st+m / 2) st)+aM n
    ·have hr:aN f m n pf=(none,qQ (m / 2 - st) n (bW (aF f (aC f (st+m / 2) st))+1) pf st (ay f (aC f (st+m / 2) st) - st)):=by
      unfold aN;rw[hl];simp only;rw[if_neg (fun h=>h hd),if_neg hq,if_neg hfull,if_pos Ti]
     have hT:=rF (a:=m / 2 - st) (n:=n) (q:=bW (aF f (aC f (st+m / 2) st))+1) (pf:=pf) (st:=st) (nn:=ay f (aC f (st+m / 2) st) - st)
     have d2:(((st+m / 2:Nat):Int) < ((ay f (aC f (st+m / 2) st)+aM n:Nat):Int))=True:=eq_true (by omega)
     simp only[w1,w2,d2,decide_true,cK,bj,bF,aX,av,bJ,seval]
     by_cases hs:bk at_ cnt (aO n+1+(ay f (aC f (st+m / 2) st) - st))=true
     ·refine .inr ⟨by kernel_rfl, ?_⟩
      simp only[cK,bj,bF,aX,av,bJ,seval]
      refine Ey (a:=m / 2 - st) (n:=n) (pf:=pf) (lf:=dc f (aC f (st+m / 2) st)) (nn:=ay f (aC f (st+m / 2) st) - st) (kc:=kc) (cut:=cut) (at_:=at_) (m:=m) (f:=f) (cnt:=cnt) (t:=6) (u:=10) (r0:=false) (r1:=true) (ps:=ps) (ls:=wB) ⟨?_, ?_, ?_, ?_, ?_, ?_⟩ hk ?_ (by decide) lI hp hpf ?_ (by decide) (.inr ⟨0,c1,rfl,g2,g1⟩) g3 hm (by omega) SI h0 h1 (by omega) (by omega) (by omega) (by omega) hs ?_<;>try (simp only[ao,aq,ae,vR,seval];done)
      simp only[fa,eD]
      unfold yd dw
      rw[hr]
      simp only[hT]
      rw[if_pos hs]
      exact rG (by decide) (by simp only[iZ,ae,vR,seval]) (by simp only[iZ,ae,vR,seval]) (by simp only[iZ,ae,vR,seval])
     ·have hs':bk at_ cnt (aO n+1+(ay f (aC f (st+m / 2) st) - st))=false:=by simpa using hs
      refine .inl ?_
      refine z7 (a:=m / 2 - st) (n:=n) (pf:=pf) (lf:=dc f (aC f (st+m / 2) st)) (nn:=ay f (aC f (st+m / 2) st) - st) (kc:=kc) (cut:=cut) (at_:=at_) (m:=m) (f:=f) (cnt:=cnt) (t:=6) (u:=10) (r0:=false) (r1:=true) (ps:=ps) (ls:=wB) ⟨?_, ?_, ?_, ?_, ?_, ?_⟩ hk ?_ (by decide) lI hp hpf ?_ (by decide) (.inr ⟨0,c1,rfl,g2,g1⟩) g3 hm (by omega) SI h0 h1 (by omega) (by omega) (by omega) (by omega) hs' ?_<;>try (simp only[ao,aq,ae,vR,seval];done)
      simp only[iZ,av,bJ,seval]
      unfold yd dw
      rw[hr]
      simp only[hT]
      rw[if_neg hs]
      simp only[nI.val,av,bJ,seval]
      refine gH (by rfl) (by decide) ?_ ?_ ?_
      ·simp only[ae,vR,seval]
      ·simp only[ae,vR,seval]
       refine congrArg (fun x=>some (aG.mk true [Sum.inl (Value.int .i64 x)])) ?_
       omega
      ·simp only[ae,vR,seval]
    ·have hr:aN f m n pf=(none,eX (ay f (aC f (st+m / 2) st)) n (bW (aF f (aC f (st+m / 2) st))+1) pf):=by
      unfold aN;rw[hl];simp only;rw[if_neg (fun h=>h hd),if_neg hq,if_neg hfull,if_neg Ti]
     have hT:=kU (a:=ay f (aC f (st+m / 2) st)) (n:=n) (q:=bW (aF f (aC f (st+m / 2) st))+1) (pf:=pf)
     have d2:(((st+m / 2:Nat):Int) < ((ay f (aC f (st+m / 2) st)+aM n:Nat):Int))=False:=eq_false (by omega)
     simp only[w1,w2,d2,decide_false,cK,bj,bF,aX,av,bJ,seval]
     by_cases hs:bk at_ cnt (aO n+1)=true
     ·have hb:=of_decide_eq_true hs
      refine .inr ⟨by kernel_rfl, ?_⟩
      simp only[cK,bj,bF,aX,av,bJ,seval]
      refine IX (a:=ay f (aC f (st+m / 2) st)) (n:=n) (pf:=pf) (kc:=kc) (cut:=cut) (at_:=at_) (m:=m) (f:=f) (cnt:=cnt) (t:=6) (eY:=false) (ps:=ps) ⟨?_, ?_, ?_, ?_, ?_, ?_⟩ hk ?_ (by decide) lI hp hpf hm (by omega) SI h0 (by omega) hs rfl ?_<;>try (simp only[ao,aq,ae,vR,seval];done)
      simp only[fa,eD]
      unfold yd dw
      rw[hr]
      simp only[hT]
      rw[if_pos hs, ← Es (by omega)]
      exact rG (by decide) (by simp only[iZ,ae,vR,seval]) (by simp only[iZ,ae,vR,seval]) (by simp only[iZ,ae,vR,seval])
     ·have hs':bk at_ cnt (aO n+1)=false:=by simpa using hs
      refine .inl ?_
      refine Nr (a:=ay f (aC f (st+m / 2) st)) (n:=n) (pf:=pf) (kc:=kc) (cut:=cut) (at_:=at_) (m:=m) (f:=f) (cnt:=cnt) (t:=6) (eY:=false) (ps:=ps) ⟨?_, ?_, ?_, ?_, ?_, ?_⟩ hk ?_ (by decide) lI hp hpf hm (by omega) SI h0 (by omega) hs' rfl ?_<;>try (simp only[ao,aq,ae,vR,seval];done)
      simp only[iZ,av,bJ,seval]
      unfold yd dw
      rw[hr]
      simp only[hT]
      rw[if_neg hs, ← Bu]
      simp only[nI.val,av,bJ,seval]
      refine gH (by rfl) (by decide) ?_ ?_ ?_
      ·simp only[ae,vR,seval]
      ·simp only[ae,vR,seval]
       refine congrArg (fun x=>some (aG.mk true [Sum.inl (Value.int .i64 x)])) ?_
       omega
      ·simp only[ae,vR,seval]
open Go.RowKit Go.Extern.Stop Go.Stop Go.Extern
theorem Tryd.Aa (v:Value) (w:World):(Extern.ReflectliteType.typeOf #[.iface 135 v]).run Tryd.prog w= .ok (.iface 113 (.agg #[.pointer (some ⟨6,135,none⟩)])) w:=by kernel_rfl
def Ns (t:TypeId):Sem Value:=do Extern.Rtype.noPackHeld "Comparable" t;pure (.bool (← typeInfo t).comparable)
theorem Tryd.EA (w:World):((Extern.ReflectliteType.method Ns) #[.agg #[.pointer (some ⟨6,135,none⟩)]]).run Tryd.prog w= .ok (.bool true) w:=by kernel_rfl
theorem Tryd.tR (v:Value) (w:World):(Go.method 271 113 v "Comparable").run Tryd.prog w= .ok (92,v) w:=by kernel_rfl
theorem Tryd.Ab:(Tryd.prog.info? 135).map (·.comparable)=some true:=by kernel_rfl
theorem Tryd.Ac:(Tryd.prog.info? 159).map (·.size)=some 1:=by kernel_rfl
theorem Tryd.Pn (v:Value) (xT:TypeId) (w:World):(Instr.typeAssert (.iface 135 v) xT 115 true).run Tryd.prog w= .ok (.tuple #[.nilIface, .bool false]) w:=run_typeAssert_lacksB Tryd.underlying115 (by kernel_rfl) (by kernel_rfl) v xT w
theorem Tryd.EB (v:Value) (xT:TypeId) (w:World):(Instr.typeAssert (.iface 135 v) xT 118 true).run Tryd.prog w= .ok (.tuple #[.nilIface, .bool false]) w:=run_typeAssert_lacksB Tryd.underlying118 (by kernel_rfl) (by kernel_rfl) v xT w
theorem Tryd.Bz (v:Value) (xT:TypeId) (w:World):(Instr.typeAssert (.iface 135 v) xT 120 true).run Tryd.prog w= .ok (.tuple #[.nilIface, .bool false]) w:=run_typeAssert_lacksB Tryd.underlying120 (by kernel_rfl) (by kernel_rfl) v xT w
theorem Up (a:Addr) (w:World):
  Calls Tryd.prog 45 #[.iface 135 (.pointer (some a)), .iface 135 (.pointer (some a))] w fun e w'=>e= .returned (.bool true)∧Kept w w':=by
 obtain ⟨i,hi,hcmp⟩:=Option.map_eq_some_iff.1 Tryd.Ab
 obtain ⟨j,hj,XQ⟩:=Option.map_eq_some_iff.1 Tryd.Ac
 have hTy:= @run_callFunc_extern Tryd.prog 56 _ Extern.ReflectliteType.typeOf Tryd.func56 (by kernel_rfl) (by kernel_rfl) (by kernel_rfl) (by kernel_rfl)
 have Zj:= @run_callFunc_extern Tryd.prog 92 _ (Extern.ReflectliteType.method Ns) Tryd.func92 (by kernel_rfl) (by kernel_rfl) (by kernel_rfl) (by kernel_rfl)
 have tT:=Tryd.Aa
 have cT:=Tryd.EA
 have mR:=Tryd.tR
 have heq:=run_eql_iface_ptr_same (P:=Tryd.prog) w a Tryd.underlying57 Tryd.underlying135 hi hcmp hj
 go_enter Tryd.func45,Tryd.ntmps45
 go_wp2
 refine wp_loop_rounds 1 ?_
 rw[rounds_succ]
 go_wp2
 go_ret
 exact ⟨rfl,Frame.refl _ _⟩
theorem Uq (a b:Addr) (ca cb:Array Value) (ta tb:TypeId) (w:World) (hne:a≠b) (ha:w.heap[a.block]? =some (.cells ca ta (0,0))) (hb:w.heap[b.block]? =some (.cells cb tb (0,0))):
  Calls Tryd.prog 45 #[.iface 135 (.pointer (some a)), .iface 135 (.pointer (some b))] w fun e w'=>e= .returned (.bool false)∧Kept w w':=by
 obtain ⟨i,hi,hcmp⟩:=Option.map_eq_some_iff.1 Tryd.Ab
 obtain ⟨j,hj,XQ⟩:=Option.map_eq_some_iff.1 Tryd.Ac
 have hTy:= @run_callFunc_extern Tryd.prog 56 _ Extern.ReflectliteType.typeOf Tryd.func56 (by kernel_rfl) (by kernel_rfl) (by kernel_rfl) (by kernel_rfl)
 have Zj:= @run_callFunc_extern Tryd.prog 92 _ (Extern.ReflectliteType.method Ns) Tryd.func92 (by kernel_rfl) (by kernel_rfl) (by kernel_rfl) (by kernel_rfl)
 have tT:=Tryd.Aa
 have cT:=Tryd.EA
 have mR:=Tryd.tR
 have nE:=Tryd.Pn
 have uE:=Tryd.EB
 have vE:=Tryd.Bz
 have heq:=run_eql_iface_ptr_other (P:=Tryd.prog) w Tryd.underlying57 Tryd.underlying135 hi hcmp hj (by rw[XQ];decide) hne ha hb
 go_enter Tryd.func45,Tryd.ntmps45
 go_wp2
 refine wp_loop_rounds 1 ?_
 rw[rounds_succ]
 go_wp2
 go_ret
 exact ⟨rfl,Frame.refl _ _⟩
theorem GA {i:Nat} (h:i < 5): ∃ k,wx (aV.place i).block=some k:=by
 unfold wx
 rcases hf:(List.range 5).find? (fun k=>(aV.place k).block==(aV.place i).block) with _ | k
 ·have:=List.find?_eq_none.1 hf i (List.mem_range.2 h)
  simp at this
 ·exact ⟨k,rfl⟩
theorem xm {i:Nat} (h:i < 5): ∃ c t,Tables.Ob Tryd.prog (aV.place i).block=some (.cells c t (0,0)):=by
 obtain ⟨k,hk⟩:=GA h
 refine ⟨aV.cells k,aV.ty k, ?_⟩
 show pW _=_
 unfold pW
 rw[hk]
theorem GB (i:Nat):AV.plain (V (bR i))=true:=rfl
theorem iO {i j:Nat} (hi:i < 5) (hj:j < 5):sM Tryd.prog 45 [V (bR i),V (bR j)] (B (i==j)):=by
 refine ⟨by simp[GB],fun r h=>by subst h;rfl,fun w hL=> ?_⟩
 by_cases h:i=j
 ·subst h
  refine (Up (aV.place i) w).mono ?_
  rintro e w' ⟨rfl,hk⟩
  exact ⟨_,rfl,by rw[beq_self_eq_true];rfl,hk⟩
 ·obtain ⟨c1,t1,h1⟩:=xm hi
  obtain ⟨c2,t2,h2⟩:=xm hj
  refine (Uq (aV.place i) (aV.place j) _ _ _ _ w (fun e=>h (aV.inj i j hi hj e)) (hL.Ra _ _ h1) (hL.Ra _ _ h2)).mono ?_
  rintro e w' ⟨rfl,hk⟩
  exact ⟨_,rfl,by rw[beq_eq_false_iff_ne.2 h];rfl,hk⟩
def lq (e:Option Nat):AV:=match e with
 | none=>V .nilIface
 | some g=>V (bR g)
def eB:Option Nat→Int
 | none=>0
 | some 0=>12
 | some 2=>11
 | some 3=>6
 | some 4=>7
 | some _=>1
theorem kV {e:Option Nat} (he: ∀ i,e=some i→i < 5):sM Tryd.prog 24 [lq e] (I .i64 (eB e)):=by
 rcases e with _ | i
 ·refine jf Tryd.func24 rfl (by kernel_rfl) (by simp[Tryd.ntmps24]) rfl rfl ?_
  simp only[Tryd.results24,lq,eB,bR,Tryd.bt,Nat.reduceBEq,aS,vR,seval]
 ·have hi:=he i rfl
  rcases (show i=0∨i=1∨i=2∨i=3∨i=4 by omega) with rfl | rfl | rfl | rfl | rfl
  ·refine jf Tryd.func24 rfl (by kernel_rfl) (by simp[Tryd.ntmps24]) rfl rfl ?_
   simp only[Tryd.results24,lq,eB,bR,Tryd.bt,Nat.reduceBEq,aS,vR,seval]
   refine (iO (i:=0) (j:=2) (by decide) (by decide)).aB ?_
   simp only[Tryd.results24,lq,eB,bR,Tryd.bt,Nat.reduceBEq,aS,vR,seval]
   refine (iO (i:=0) (j:=3) (by decide) (by decide)).aB ?_
   simp only[Tryd.results24,lq,eB,bR,Tryd.bt,Nat.reduceBEq,aS,vR,seval]
   refine (iO (i:=0) (j:=4) (by decide) (by decide)).aB ?_
   simp only[Tryd.results24,lq,eB,bR,Tryd.bt,Nat.reduceBEq,aS,vR,seval]
   refine (iO (i:=0) (j:=0) (by decide) (by decide)).aB ?_
   simp only[Tryd.results24,lq,eB,bR,Tryd.bt,Nat.reduceBEq,aS,vR,seval]
  ·refine jf Tryd.func24 rfl (by kernel_rfl) (by simp[Tryd.ntmps24]) rfl rfl ?_
   simp only[Tryd.results24,lq,eB,bR,Tryd.bt,Nat.reduceBEq,aS,vR,seval]
   refine (iO (i:=1) (j:=2) (by decide) (by decide)).aB ?_
   simp only[Tryd.results24,lq,eB,bR,Tryd.bt,Nat.reduceBEq,aS,vR,seval]
   refine (iO (i:=1) (j:=3) (by decide) (by decide)).aB ?_
   simp only[Tryd.results24,lq,eB,bR,Tryd.bt,Nat.reduceBEq,aS,vR,seval]
   refine (iO (i:=1) (j:=4) (by decide) (by decide)).aB ?_
   simp only[Tryd.results24,lq,eB,bR,Tryd.bt,Nat.reduceBEq,aS,vR,seval]
   refine (iO (i:=1) (j:=0) (by decide) (by decide)).aB ?_
   simp only[Tryd.results24,lq,eB,bR,Tryd.bt,Nat.reduceBEq,aS,vR,seval]
  ·refine jf Tryd.func24 rfl (by kernel_rfl) (by simp[Tryd.ntmps24]) rfl rfl ?_
   simp only[Tryd.results24,lq,eB,bR,Tryd.bt,Nat.reduceBEq,aS,vR,seval]
   refine (iO (i:=2) (j:=2) (by decide) (by decide)).aB ?_
   simp only[Tryd.results24,lq,eB,bR,Tryd.bt,Nat.reduceBEq,aS,vR,seval]
  ·refine jf Tryd.func24 rfl (by kernel_rfl) (by simp[Tryd.ntmps24]) rfl rfl ?_
   simp only[Tryd.results24,lq,eB,bR,Tryd.bt,Nat.reduceBEq,aS,vR,seval]
   refine (iO (i:=3) (j:=2) (by decide) (by decide)).aB ?_
   simp only[Tryd.results24,lq,eB,bR,Tryd.bt,Nat.reduceBEq,aS,vR,seval]
   refine (iO (i:=3) (j:=3) (by decide) (by decide)).aB ?_
   simp only[Tryd.results24,lq,eB,bR,Tryd.bt,Nat.reduceBEq,aS,vR,seval]
  ·refine jf Tryd.func24 rfl (by kernel_rfl) (by simp[Tryd.ntmps24]) rfl rfl ?_
   simp only[Tryd.results24,lq,eB,bR,Tryd.bt,Nat.reduceBEq,aS,vR,seval]
   refine (iO (i:=4) (j:=2) (by decide) (by decide)).aB ?_
   simp only[Tryd.results24,lq,eB,bR,Tryd.bt,Nat.reduceBEq,aS,vR,seval]
   refine (iO (i:=4) (j:=3) (by decide) (by decide)).aB ?_
   simp only[Tryd.results24,lq,eB,bR,Tryd.bt,Nat.reduceBEq,aS,vR,seval]
   refine (iO (i:=4) (j:=4) (by decide) (by decide)).aB ?_
   simp only[Tryd.results24,lq,eB,bR,Tryd.bt,Nat.reduceBEq,aS,vR,seval]
def kl (n:Nat):Bool:=decide (n%128=0∧8≤n / 128∧n / 128≤4096)
def xn (v:SV) (e:Value):AV:= .inr [.inl v, .inl (.inl e)]
def QU (k n:Nat) (f:Nat→Int) (v:AV) (out:Nat→Option aG):Prop:=
 (kl n=false∧v=xn (.inl (.slice none 0 0)) (bR 1)∧out=fun _=>none)∨
 (kl n=true∧v=xn (.inr (.inr (k,0,n / 64,n / 64))) .nilIface∧out=lk [(k,⟨true,aA .u8 n f⟩)])
theorem kX {o n c:Nat} {f:Nat→Int} {cs:List SV} (hs:bu cs o n f) (hc:n≤c) (hp:cs.all SV.plain=true) (hn:n≤1048576):
  bC Tryd.prog 23 [Sl 0 o n c] 1 (lk [(0,⟨false,cs⟩)]) (QU 1 n f):=by
 refine bO Tryd.func23 rfl (by kernel_rfl) [] [] (by simp[Tryd.ntmps23]) Tryd.qb (by simp[AV.ok,CV.ok,SV.names]) j0 (j5 hp) ?_
 have w1:(n:Int).tmod 128=((n%128:Nat):Int):=LU n 128
 have w2:IntKind.i64.wrap ((n:Int).tdiv 128)=((n / 128:Nat):Int):=OJ n 128 (by omega)
 simp only[Tryd.results23,w1,w2,bJ,seval]
 have Po: ∀ {s:AS},kl n=false→nA 1 (QU 1 n f) (xn (.inl (.slice none 0 0)) (bR 1)) s:=fun {s} h=>aL rfl (.inl ⟨h,rfl,rfl⟩)
 by_cases h1:n%128=0
 ·have d1:(((n%128:Nat):Int) != 0)=false:=by rw[h1];rfl
  simp only[d1,w2,bJ,seval]
  refine (rr (r:=((n / 128:Nat):Int))).aB ?_
  by_cases h2:8≤n / 128∧n / 128≤4096
  ·have d2:((8:Int)≤((n / 128:Nat):Int)∧((n / 128:Nat):Int)≤4096)=True:=eq_true (by omega)
   have hi:kl n=true:=decide_eq_true ⟨h1,h2⟩
   simp only[d2,decide_true,Bool.not_true,Bool.not_false,bJ,seval]
   have RM:aO n=n / 64:=by unfold aO;omega
   have QV:64*(n / 64)=n:=by omega
   refine (Iz (sv:= .inr (.inr (0,o,n,c))) (.inr ⟨o,c,rfl,hc,hs⟩) hp (by omega)).aB (fun _=>0) none (dU (rw:=false) (by simp only[ae,vR,seval]) hp) rfl ?_
   rintro v out ⟨rfl,rfl⟩ _
   rw[dv aD]
   have e2:AV.ren (dy (fun _=>0) 1 15) (Sl 1 0 (aO n) (aO n))=Sl 15 0 (aO n) (aO n):=by
    show Sl (dy (fun _=>0) 1 15 1) 0 _ _=_
    rw[gl]
   have e3:aA .u8 (64*aO n) (fX n f)=aA .u8 n f:=by
    rw[RM,QV]
    exact c7 fun i hi=>if_pos hi
   rw[e2,e3,RM]
   simp only[bJ,seval]
   refine dD (q:=15) (v0:=xn (.inr (.inr (1,0,n / 64,n / 64))) .nilIface) (by decide) ?_ (fun y hy=> ?_) (fun y hy=> ?_) (.inr ⟨hi,rfl,rfl⟩)
   ·simp only[xn,AV.ren,CV.ren,List.map_cons,List.map_nil,SV.ren,dT,jO]
   ·simp only[cz]at hy
    rcases hy with rfl | rfl
    ·exact (by decide:1 < 2)
    ·exact trivial
   ·rw[List.mem_singleton]at hy
    subst hy
    exact ⟨(by decide:1 < 2),fun _=>rfl,ai aD,by rw[az aD,jO];simp only[ae,vR,seval]⟩
  ·have d2:((8:Int)≤((n / 128:Nat):Int)∧((n / 128:Nat):Int)≤4096)=False:=eq_false (by omega)
   have hb:kl n=false:=decide_eq_false (fun h=>h2 h.2)
   simp only[d2,decide_false,Bool.not_true,Bool.not_false,bJ,seval]
   refine .inl ?_
   simp only[Tryd.bt,bJ,seval]
   first | exact ⟨by kernel_rfl,Po hb⟩ | (refine ⟨by kernel_rfl, ?_⟩;simp only[Tryd.bt,bJ,seval];exact Po hb)
 ·have d1:(((n%128:Nat):Int) != 0)=true:=by simp;omega
  have hb:kl n=false:=decide_eq_false (fun h=>h1 h.1)
  simp only[d1,bJ,seval]
  refine .inl ?_
  simp only[Tryd.bt,bJ,seval]
  first | exact ⟨by kernel_rfl,Po hb⟩ | (refine ⟨by kernel_rfl, ?_⟩;simp only[Tryd.bt,bJ,seval];exact Po hb)
def R9 (k a m:Nat) (at_ cut:Int) (ks:SV) (v:AV) (out:Nat→Option aG):Prop:=
 v=Ag (eE k (k+1) (k+2) (k+3))∧out=lk [(k,⟨true,[Sum.inr (.inr (a,0,m,m))]⟩),(k+1,⟨true,cL at_ cut ks⟩),(k+2,⟨true,[Sum.inl (.slice none 0 0)]⟩),(k+3,⟨true,[Sum.inl (.int .i64 0)]⟩)]
theorem Pp {a b c d:Nat} {M:Nat→Prop} (ha:M a) (hb:M b) (hc:M c) (hd:M d): ∀ x ∈ eE a b c d,SV.ok M x:=fun x hx=>by
 simp only[eE,cz]at hx
 rcases hx with rfl | rfl | rfl | rfl
 ·refine ⟨fun c hc=> ?_,rfl⟩
  simp only[cz]at hc
  rcases hc with rfl | rfl | rfl | rfl<;>assumption
 ·refine ⟨fun c hc=> ?_,rfl⟩
  simp only[cz]at hc
  rcases hc with rfl | rfl<;>assumption
 ·refine ⟨fun c hc=> ?_,rfl⟩
  simp only[cz]at hc
  rcases hc with rfl | rfl<;>assumption
 ·refine ⟨fun c hc=> ?_,rfl⟩
  simp only[cz]at hc
  subst hc
  assumption
def QW (j:Nat):Nat:=if j < 2 then j+2 else j+3
theorem Zk:o6 2 QW 2=2:=rfl
theorem Zl:o6 2 QW 3=3:=rfl
theorem Zm:o6 2 QW 4=5:=rfl
theorem Zn:o6 2 QW 5=6:=rfl
theorem Nt {f:Nat} {l:List Value}:cellsOf (some (V (.func (.func f) #[] ⟨l⟩)))=some [Sum.inl (.func (.func f) #[] ⟨l⟩)]:=rfl
section
variable {a b c d x:SV}
theorem Sb:splice [a,b,c,d] 2 [x]=[a,b,x,d]:=rfl
theorem Sc:splice [a,b,c,d] 3 [x]=[a,b,c,x]:=rfl
end
theorem xp {m kn:Nat} {kb:Nat→Bool} {at_ cut:Int} {ks:SV} {cs kc:List SV} (hp:cs.all SV.plain=true) (hk:ft 1 ks kn kb kc) (hq:kc.all SV.plain=true):
  lB Tryd.prog 15 [Sl 0 0 m m,Ag (cL at_ cut ks)] 2 4 (lk [(0,⟨false,cs⟩),(1,⟨false,kc⟩)]) (R9 2 0 m at_ cut ks):=by
 have Wg: ∀ {M:Nat→Prop},M 1→SV.ok M ks:=fun h=>hk.ok h
 have hone:=(hk.ok (M:=fun n=>n < 2) (by decide)).2
 refine x6 Tryd.func15 rfl (by kernel_rfl) [] [] (by simp[Tryd.ntmps15]) Tryd.p7 (by decide) (fun v hv=>by
  simp only[cz]at hv
  rcases hv with rfl | rfl
  ·exact (by decide:0 < 2)
  ·intro x hx
   simp only[cL,cz]at hx
   rcases hx with rfl | rfl | rfl
   ·exact ⟨trivial,rfl⟩
   ·exact Wg (by decide)
   ·exact ⟨trivial,rfl⟩) xX (xY hp hq) ?_
 simp only[Tryd.results15,Nt,Sb,Sc,kT,av,bJ,seval]
 refine ⟨QW,Ag (eE 2 3 4 5),lk [(2,⟨true,[Sum.inr (.inr (0,0,m,m))]⟩),(3,⟨true,cL at_ cut ks⟩),(4,⟨true,[Sum.inl (.slice none 0 0)]⟩),(5,⟨true,[Sum.inl (.int .i64 0)]⟩)],fun j hj=> ?_,fun i j hi hj e=> ?_,rfl,Pp (by decide) (by decide) (by decide) (by decide),fun n b hn=> ?_,⟨rfl,rfl⟩⟩
 ·unfold QW
  split<;>omega
 ·unfold QW at e
  split at e<;>split at e<;>omega
 ·have h1:=bg _ _ _ hn
  simp only[cz,Prod.mk.injEq]at h1
  rcases h1 with ⟨rfl,rfl⟩ | ⟨rfl,rfl⟩ | ⟨rfl,rfl⟩ | ⟨rfl,rfl⟩
  ·exact ⟨by decide,fun _=>rfl,fun x hx=>by rw[List.mem_singleton]at hx;subst hx;exact ⟨(by decide:0 < 6),rfl⟩,⟨true,[Sum.inr (.inr (0,0,m,m))]⟩,by rw[Zk];simp only[ae,vR,seval],fun _=>rfl,rfl⟩
  ·refine ⟨by decide,fun _=>rfl,fun x hx=> ?_,⟨true,cL at_ cut ks⟩,by rw[Zl];simp only[ae,vR,seval],fun _=>rfl, ?_⟩
   ·simp only[cL,cz]at hx
    rcases hx with rfl | rfl | rfl
    ·exact ⟨trivial,rfl⟩
    ·exact Wg (by decide)
    ·exact ⟨trivial,rfl⟩
   ·have:SV.ren (o6 2 QW) ks=ks:=SV.jc (SV.aY (fun n hn=>by subst hn;rfl) (hk.ok (M:=fun n=>n=1) rfl).1)
    simp only[cL,List.map_cons,List.map_nil,this]
    rfl
  ·exact ⟨by decide,fun _=>rfl,ai rfl,⟨true,[Sum.inl (.slice none 0 0)]⟩,by rw[Zm];simp only[ae,vR,seval],fun _=>rfl,rfl⟩
  ·exact ⟨by decide,fun _=>rfl,ai rfl,⟨true,[Sum.inl (.int .i64 0)]⟩,by rw[Zn];simp only[kT,ae,vR,seval],fun _=>rfl,rfl⟩
end Go.Proofs.YtkaamnnjeandlaaDoor
