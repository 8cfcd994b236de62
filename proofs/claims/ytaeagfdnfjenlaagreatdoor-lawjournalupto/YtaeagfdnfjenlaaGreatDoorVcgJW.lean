/-
  What an interrupted call has left is wiped.
-/
import Derived.Test.YtaeagfdnfjenlaaGreatDoorVcgJF
import Derived.Test.YtaeagfdnfjenlaaGreatDoorVcgWM
import Derived.Test.YtaeagfdnfjenlaaGreatDoorVcgJM
import Derived.Test.YtaeagfdnfjenlaaGreatDoorVcgFacts
import Derived.WalkKit
import Derived.LaidEql
import Derived.Stop.Asserts
import Derived.RowKitTokens
set_option maxRecDepth 100000
set_option maxHeartbeats 1000000
set_option linter.unusedSimpArgs false
set_option linter.unusedVariables false
set_option linter.unusedSectionVars false
namespace Go.Proofs.YtaeagfdnfjenlaaGreatDoor
open Go.cn
variable [aX]
theorem vf {s:AS} {k m:Nat} {f:Nat→Int} {cnt:Int} (hk:5≤k) (h2:s.box 2=some ⟨true,[Sum.inl (.slice none 0 0)]⟩) (h3:s.box 3=some ⟨true,[Sum.inl (.int .i64 cnt)]⟩) (h4:s.box 4=some ⟨true,ai .u8 (64*m) f⟩):Fh k ga (fun out=>out=lk (dg m f cnt)) (.panic ga) s:=by
 refine Lh fun x hx=> ?_
 simp only[dg,bQ]at hx
 rcases hx with rfl | rfl | rfl
 ·exact ⟨(by omega:2 < k),ao rfl,h2⟩
 ·exact ⟨(by omega:3 < k),ao rfl,h3⟩
 ·exact ⟨(by omega:4 < k),ao az,h4⟩
theorem iY {s:AS} {k m:Nat} {f:Nat→Int} {cnt:Int} {v:AV} (hv:AV.plain v=true) (hk:5≤k) (h2:s.box 2=some ⟨true,[Sum.inl (.slice none 0 0)]⟩) (h3:s.box 3=some ⟨true,[Sum.inl (.int .i64 cnt)]⟩) (h4:s.box 4=some ⟨true,ai .u8 (64*m) f⟩):m8 k (fun u out=>u=v∧out=lk (dg m f cnt)) v s:=by
 have hr: ∀ n,n < k→jY k k n=n:=fun n hn=>by unfold jY;rw[if_neg (by omega)]
 refine dV (q:=k) (v0:=v) (Nat.le_refl _) (AV.dG hv _).symm (AV.ek hv) (fun x hx=> ?_) ⟨rfl,rfl⟩
 simp only[dg,bQ]at hx
 rcases hx with rfl | rfl | rfl
 ·exact ⟨(by omega:2 < k+1),fun h=>(by omega:False).elim,ao rfl,by rw[hr _ (by simp only;omega)];exact h2⟩
 ·exact ⟨(by omega:3 < k+1),fun h=>(by omega:False).elim,ao rfl,by rw[hr _ (by simp only;omega)];exact h3⟩
 ·exact ⟨(by omega:4 < k+1),fun h=>(by omega:False).elim,ao az,by rw[hr _ (by simp only;omega),au az];exact h4⟩
theorem ZM {m:Nat} {f:Nat→Int} {pc nc kc:List SV} (h:iy pc nc kc):bd Tryz.prog 70 [Ag (fP 0 1 2 3),V (.slice none 0 0)] 6 (lk (kU m f pc nc kc)) (fun v out=>v=Sum.inr []∧out=fun _=>none):=by
 refine cy Tryz.func70 rfl (by kernel_rfl) [] [] (by simp[Tryz.ntmps70]) Tryz.mK (fun v hv=>by
  simp only[bQ]at hv
  rcases hv with rfl | rfl
  ·exact dY fun n hn=>by omega
  ·trivial) lZ (l5 h) ?_
 simp only[Tryz.results70,kU,aH,bH,seval]
 exact aJ rfl ⟨rfl,rfl⟩
theorem Jb {s:AS} {nm m:Nat} {f:Nat→Int} {pc nc kc:List SV} (hd:pb s (kU m f pc nc kc)) (h:iy pc nc kc) {dst:Option Nat} {K:AS→Prop} (hk:K (({ s with box:=upd s.box nm none }:AS).put dst (some (Sum.inr [])))):cq Tryz.prog nm 70 (some [Ag (fP 0 1 2 3),V (.slice none 0 0)]) dst K s:=by
 refine (ZM (f:=f) h).wide.av (fun n=>n) none (hd.fits kJ) (fC _) ?_
 rintro v out ⟨rfl,rfl⟩
 rw[fq]
 exact hk
theorem pQ {s:AS} {nm m t st nx np c0:Nat} {q:Int} {f pf:Nat→Int} {eD:Bool} {pc nc kc ps:List SV} (hd:pb s (kU m f pc nc kc)) (h:iy pc nc kc) (hm:m≤8192) (hb:s.box t=some ⟨eD,ps⟩) (hs:aY ps 0 np pf) (hc:np≤c0) (hp:ps.all SV.plain=true) {dst:Option Nat} {K:AS→Prop}
  (h0:dD f st nx m=[]→K (({ s with box:=upd s.box nm none }:AS).put dst (some (V (.slice none 0 0)))))
  (h1:dD f st nx m≠[]→ ∀ c cs,gb cs (dD f st nx m) c→K (({ s with box:=upd s.box nm (some ⟨true,cs⟩) }:AS).put dst (some (Sl nm 0 (dD f st nx m).length c)))):
  cq Tryz.prog nm 62 (some [Ag (fP 0 1 2 3),Ag (bA st nx q (.inr (.inr (t,0,np,c0))))]) dst K s:=by
 refine (xU (q:=q) (sv:= .inr (.inr (6,0,np,c0))) (pf:=pf) (st:=st) (nx:=nx) (f:=f) h hm (.inr ⟨0,c0,rfl,hc,hs⟩) hp).wide.av (six t) none (Bg hd h hb hp) ?_ ?_
 ·simp only[List.map_cons,List.map_nil,nG,l9,SV.ren,fj]
  rfl
 ·rintro v out (⟨e,rfl,rfl⟩ | ⟨e,c,cs,g,rfl,rfl⟩)
  ·rw[fq]
   exact h0 e
  ·rw[fq]
   have e1:(lk [(7,(⟨true,cs⟩:aI))] 7).map (aI.ren (aV (six t) 7 nm))=some ⟨true,cs⟩:=by simp[lk,aI.ren,au g.plain]
   have e2:AV.ren (aV (six t) 7 nm) (Sl 7 0 (dD f st nx m).length c)=Sl nm 0 (dD f st nx m).length c:=by
    show Sl (aV (six t) 7 nm 7) 0 _ _=_
    rw[nz]
   rw[e1,e2]
   exact h1 e c cs g
def ma (m:Nat) (f:Nat→Int) (pc kc:List SV) (cnt:Int):List (Nat×aI):=
 [(0,⟨false,[Sum.inr (.inr (4,0,m,m))]⟩),(1,⟨false,pc⟩),(2,⟨true,[Sum.inl (.slice none 0 0)]⟩),(3,⟨true,[Sum.inl (.int .i64 cnt)]⟩),(4,⟨true,ai .u8 (64*m) f⟩),(5,⟨false,kc⟩)]
abbrev pR:=Option Nat×List (List Pd)
def pR.val (r:pR):AV:=match r.1 with
 | none=>V .nilIface
 | some g=>V (cH g)
def eG (f:Nat→Int) (m:Nat):pR:=match dh f (m / 2) with
 | none=>(some 1,[])
 | some st=>(none,[zL (cM f m st)])
def Cz (k m kn:Nat) (kb:Nat→Bool) (f:Nat→Int) (at_ cut cnt:Int) (r:pR) (rs:List ResultVar):Exit→AS→Prop:=
 eX Tryz.prog rs k (bG at_ cnt (eN r.2)) ga (fun v out=>v=r.val∧out=lk (dg m (pk f r.2) (cnt+(eN r.2:Nat)))) (fun out=>out=lk (dg m (lH kn kb (eE cut) f r.2 (at_ - cnt - 1).toNat) at_))
theorem wG {f:Nat→Int} {st nx n:Nat}: ∀ a ∈ dD f st nx n,a < n:=fun a ha=>by
 unfold dD at ha
 exact List.mem_range.1 (List.mem_filter.1 ha).1
theorem PW {m kn:Nat} {kb:Nat→Bool} {f:Nat→Int} {ks:SV} {kc:List SV} {at_ cut cnt:Int} (hk:gU ks kn kb kc) (hf:eJ f) (hm:m≤8192) (h2:2≤m) (h0:0≤cnt) (h1:cnt < 800000):
  ∀ c,Tryz.f40.body=some c→kT Tryz.prog [4] [4] c (Cz 6 m kn kb f at_ cut cnt (eG f m) [.tmp 2]) (cn.start [Ag (fP 0 1 2 3)] (lk (ma m f (cI at_ cut ks) kc cnt)) 6):=by
 intro c hc
 cases hc
 have dk:=Bo (at_:=at_) (cut:=cut) (cnt:=cnt) hk
 simp only[ma,aH,bH,seval]
 refine uY (f:=f) (m:=m) (j9 (m:=m) (f:=f) (pc:=cI at_ cut ks) (nc:=[Sum.inl (.int .i64 cnt)]) (kc:=kc) (r0:=false) (r1:=false) (r2:=true) (r3:=true) (r4:=true) (r5:=false) (by simp only[aq,ay,ae,vR,seval]) (by simp only[aq,ay,ae,vR,seval]) (by simp only[aq,ay,ae,vR,seval]) (by simp only[aq,ay,ae,vR,seval]) (by simp only[aq,ay,ae,vR,seval]) (by simp only[aq,ay,ae,vR,seval])) dk hf hm h2 (fun hl=> ?_) fun st c1 lr hl g1 g2 g3=> ?_
 ·have hr:eG f m=(some 1,[]):=by unfold eG;rw[hl]
  have qc:bG at_ cnt 0=false:=decide_eq_false (by omega)
  unfold Cz eX
  simp only[hr,eN,pk,qc,List.foldl_nil,Int.add_zero,dH,lx,cH,pR.val,aA,aH,bH,seval]
  refine iY (by rfl) (by decide) ?_ ?_ ?_<;>(simp only[ae,vR,seval];done)
 ·have hr:eG f m=(none,[zL (cM f m st)]):=by unfold eG;rw[hl]
  have hll:(cM f m st).length≤8192:=Nat.le_trans mV hm
  simp only[dH,cr,bA,aA,aH,bH,seval]
  by_cases hs:bG at_ cnt (cM f m st).length=true
  ·have hb:=of_decide_eq_true hs
   refine .inr ⟨by kernel_rfl, ?_⟩
   simp only[aH,bH,seval]
   have hne:cM f m st≠[]:=fun h=>by rw[h]at hb;simp at hb;omega
   refine eW (by kernel_rfl) [0,1,2] [3] [] [] [6,13] [13,14,15,16] (by kernel_rfl) (by kernel_rfl) (by kernel_rfl) ?_
   simp only[cr,bA,aA,aH,bH,seval]
   refine pQ (t:=9) (eD:=true) (np:=aN (aB f (aC f (st+m / 2) st))) (c0:=c1) (pf:=dP f (aC f (st+m / 2) st)) (ps:=lr) (j9 (m:=m) (f:=f) (pc:=cI at_ cut ks) (nc:=[Sum.inl (.int .i64 cnt)]) (kc:=kc) (r0:=false) (r1:=false) (r2:=true) (r3:=true) (r4:=true) (r5:=false) (by simp only[aq,ay,ae,vR,seval]) (by simp only[aq,ay,ae,vR,seval]) (by simp only[aq,ay,ae,vR,seval]) (by simp only[aq,ay,ae,vR,seval]) (by simp only[aq,ay,ae,vR,seval]) (by simp only[aq,ay,ae,vR,seval])) dk hm (by simp only[aq,ay,ae,vR,seval]) g1 g2 g3 (fun e=>absurd e hne) fun e c2 j7 k1=> ?_
   simp only[cr,bA,aA,aH,bH,seval]
   refine I8 (kc:=kc) (cut:=cut) (at_:=at_) (m:=m) (f:=f) (cnt:=cnt) (t:=22) (eD:=true) (ps:=j7) ⟨?_, ?_, ?_, ?_, ?_, ?_⟩ hk ?_ (by decide) k1 wG hne hm hll h0 (by omega) hs ?_<;>try (simp only[aq,ay,ae,vR,seval];done)
   simp only[fI]
   unfold Cz eX
   rw[hr,if_pos (show bG at_ cnt (eN [zL (cM f m st)])=true by rw[rz];exact hs)]
   rw[← Ed (f:=f) (A:=cM f m st) (by omega)]
   exact vf (by decide) (by simp only[cM,ku,ae,vR,seval]) (by simp only[cM,ku,ae,vR,seval]) (by simp only[cM,ku,ae,vR,seval])
  ·have qc:bG at_ cnt (cM f m st).length=false:=by simpa using hs
   have hnb: ¬ bG at_ cnt (eN [zL (cM f m st)])=true:=by rw[rz];exact hs
   refine .inl ?_
   refine eW (by kernel_rfl) [0,1,2] [3,4] [] [] [6,13] [13,14,15,16,17] (by kernel_rfl) (by kernel_rfl) (by kernel_rfl) ?_
   simp only[cr,bA,aA,aH,bH,seval]
   refine pQ (t:=9) (eD:=true) (np:=aN (aB f (aC f (st+m / 2) st))) (c0:=c1) (pf:=dP f (aC f (st+m / 2) st)) (ps:=lr) (j9 (m:=m) (f:=f) (pc:=cI at_ cut ks) (nc:=[Sum.inl (.int .i64 cnt)]) (kc:=kc) (r0:=false) (r1:=false) (r2:=true) (r3:=true) (r4:=true) (r5:=false) (by simp only[aq,ay,ae,vR,seval]) (by simp only[aq,ay,ae,vR,seval]) (by simp only[aq,ay,ae,vR,seval]) (by simp only[aq,ay,ae,vR,seval]) (by simp only[aq,ay,ae,vR,seval]) (by simp only[aq,ay,ae,vR,seval])) dk hm (by simp only[aq,ay,ae,vR,seval]) g1 g2 g3 (fun e=> ?_) fun e c2 j7 k1=> ?_
   ·simp only[cr,bA,aA,aH,bH,seval]
    refine Jb (j9 (m:=m) (f:=f) (pc:=cI at_ cut ks) (nc:=[Sum.inl (.int .i64 cnt)]) (kc:=kc) (r0:=false) (r1:=false) (r2:=true) (r3:=true) (r4:=true) (r5:=false) (by simp only[aq,ay,ae,vR,seval]) (by simp only[aq,ay,ae,vR,seval]) (by simp only[aq,ay,ae,vR,seval]) (by simp only[aq,ay,ae,vR,seval]) (by simp only[aq,ay,ae,vR,seval]) (by simp only[aq,ay,ae,vR,seval])) dk ?_
    simp only[aA,aH,bH,seval]
    unfold Cz eX
    rw[hr,if_neg hnb]
    have e1:cM f m st=[]:=e
    simp only[e1,zL,eN,pk,pR.val,List.map_nil,List.length_nil,List.foldl_cons,List.foldl_nil,mS,Nat.add_zero,Int.add_zero,aA,aH,bH,seval]
    refine iY (by rfl) (by decide) ?_ ?_ ?_<;>(simp only[aA,aH,bH,seval];done)
   ·simp only[cr,bA,aA,aH,bH,seval]
    refine Bl (kc:=kc) (cut:=cut) (at_:=at_) (m:=m) (f:=f) (cnt:=cnt) (t:=22) (eD:=true) (ps:=j7) ⟨?_, ?_, ?_, ?_, ?_, ?_⟩ hk ?_ (by decide) k1 wG e hm hll h0 (by omega) qc ?_<;>try (simp only[aq,ay,ae,vR,seval];done)
    simp only[ku,aA,aH,bH,seval]
    unfold Cz eX
    rw[hr,if_neg hnb]
    have e2:pk f [zL (cM f m st)]=uk f (cM f m st):=rfl
    have e3:eN [zL (cM f m st)]=(cM f m st).length:=rz
    simp only[e2,e3,pR.val,aA,aH,bH,seval]
    refine iY (by rfl) (by decide) ?_ ?_ ?_<;>(simp only[cM,aA,aH,bH,seval];done)
theorem sx {s:AS} {nm m:Nat} {f:Nat→Int} {pc nc kc:List SV} (hd:pb s (kU m f pc nc kc)) (h:iy pc nc kc) (hf:eJ f) (hm:m≤8192) (h2:2≤m) {dst:Option Nat} {K:AS→Prop}
  (h0:dh f (m / 2)=none→K (s.put dst (some (dH lx (cH 1)))))
  (hD: ∀ st,dh f (m / 2)=some st→cM f m st≠[]→K (s.put dst (some (dH lx (cH 2)))))
  (h1: ∀ st c cs,dh f (m / 2)=some st→cM f m st=[]→aY cs 0 (aN (aB f (aC f (st+m / 2) st))) (dP f (aC f (st+m / 2) st))→aN (aB f (aC f (st+m / 2) st))≤c→cs.all SV.plain=true→
   K (({ s with box:=upd s.box nm (some ⟨true,cs⟩) }:AS).put dst (some (dH (cr f st (aC f (st+m / 2) st) (.inr (.inr (nm,0,aN (aB f (aC f (st+m / 2) st)),c)))) .nilIface)))):
  av Tryz.prog nm 30 (some [Ag (fP 0 1 2 3)]) dst K s:=by
 refine (Bi h hf hm h2).av (fun n=>n) none (hd.fits kJ) (fC _) ?_
 rintro v out (⟨hr,rfl,rfl⟩ | ⟨st,hr,hl,rfl,rfl⟩ | ⟨st,c,cs,hr,hl,g1,g2,g3,rfl,rfl⟩) _
 ·rw[kL,AV.dG (show AV.plain (dH lx (cH 1))=true from rfl)]
  exact h0 hr
 ·rw[kL,AV.dG (show AV.plain (dH lx (cH 2))=true from rfl)]
  exact hD st hr hl
 ·rw[bX g3]
  have e2:AV.ren (df (fun n=>n) 6 nm) (dH (cr f st (aC f (st+m / 2) st) (.inr (.inr (6,0,aN (aB f (aC f (st+m / 2) st)),c)))) .nilIface)=dH (cr f st (aC f (st+m / 2) st) (.inr (.inr (nm,0,aN (aB f (aC f (st+m / 2) st)),c)))) .nilIface:=by
   simp only[dH,cr,bA,AV.ren,CV.ren,List.map_cons,List.map_nil,SV.ren,fj,gF]
  rw[e2]
  exact h1 st c cs hr hl g1 g2 g3
theorem qK {s:AS} {nm t u st nx np n0:Nat} {q:Int} {sv sw:SV} {f f0:Nat→Int} {r0 r1:Bool} {ps cs:List SV} (hb:s.box t=some ⟨r0,ps⟩) (hb':s.box u=some ⟨r1,cs⟩) (hl:cS t sv np f ps) (hp:ps.all SV.plain=true) (rN:cS u sw n0 f0 cs) (hc:cs.all SV.plain=true) (hq0:0≤q) (hq:q≤18446744073709551615) {dst:Option Nat} {K:AS→Prop}
  (hK:K (s.put dst (some (pK q sw)))):av Tryz.prog nm 68 (some [Ag (bA st nx q sv),Sum.inl (Sum.inl sw)]) dst K s:=by
 obtain ⟨s1,g1,k1⟩:=hl.iW 0
 obtain ⟨s2,g2,k2⟩:=rN.iW 1
 refine (I0 (st:=st) (nx:=nx) (q:=q) g1 hp g2 hc hq0 hq).av (two t u) none (jq hb hp hb' hc) ?_ ?_
 ·simp only[List.map_cons,List.map_nil,l9,k1 (two t u) rfl]
  show _=[_,Sum.inl (Sum.inl (SV.ren (two t u) s2))]
  rw[k2 (two t u) rfl]
 ·rintro v out ⟨rfl,rfl⟩ _
  rw[kL]
  have e:AV.ren (df (two t u) 2 nm) (pK q s2)=pK q sw:=by
   unfold pK
   split
   ·exact AV.dG rfl _
   ·simp only[dH,bJ,AV.ren,CV.ren,List.map_cons,List.map_nil]
    have:=k2 (df (two t u) 2 nm) (by unfold df;rfl)
    rw[this]
    rfl
  rw[e]
  exact hK
theorem vg {f:Nat→Int} {r st:Nat} (h:dh f r=some st):okB f st (st+r)=true∧(st=0∨st=r):=by
 unfold dh at h
 split at h
 ·rename_i h1
  simp only[Option.some.injEq]at h
  subst h
  exact ⟨by rw[← Nat.two_mul];exact h1.1, .inr rfl⟩
 ·split at h
  ·rename_i h1
   simp only[Option.some.injEq]at h
   subst h
   exact ⟨by rw[Nat.zero_add];exact h1, .inl rfl⟩
  ·cases h
theorem rB {f:Nat→Int} {e:Nat}: ∀ (n p:Nat),okB f p e=true→okB f (walk f e n p) e=true∧p≤walk f e n p
 | 0,p,h=>⟨h,Nat.le_refl _⟩
 | n+1,p,h=>by
  simp only[walk]
  split
  ·rename_i hg
   have h1:okB f (aE f p) e=true:=by
    unfold pO at hg
    simp only[Bool.and_eq_true]at hg
    exact hg.1.2
   obtain ⟨k1,k2⟩:=rB n _ h1
   exact ⟨k1,Nat.le_trans (Nat.le_of_lt hU) k2⟩
  ·exact ⟨h,Nat.le_refl _⟩
theorem po {f:Nat→Int} {p e:Nat} (h:okB f p e=true):aE f p≤e:=by
 unfold okB jd at h
 simp only[Bool.and_eq_true,decide_eq_true_eq]at h
 have h4:=h.1.2
 unfold aE
 unfold aO at h4 ⊢
 omega
theorem yE {f:Nat→Int} (hf:eJ f) {p:Nat}:0≤bB (aB f p)∧bB (aB f p)≤18446744073709551615:=by
 have b2:=iV (f:=fun i=>aB f p (1+i)) (fun i=>hf _) 8
 change 0≤bB _∧bB _ < _ at b2
 rw[show (256:Int)^8=18446744073709551616 by decide]at b2
 exact ⟨b2.1,by omega⟩
def sev (t u n:Nat):Nat:=if n=6 then t else if n=7 then u else n
theorem ZN {t u:Nat} {l:List SV} (h: ∀ x ∈ l,SV.ok (fun n=>n=5) x):l.map (SV.ren (sev t u))=l:=by
 conv=>rhs;rw[← List.map_id l]
 exact List.map_congr_left fun x hx=>SV.je (SV.br (fun n hn=>by subst hn;rfl) (h x hx).1)
theorem N7 {s:AS} {m t u:Nat} {f:Nat→Int} {pc kc ps ls:List SV} {cnt:Int} {r0 r1:Bool} (hd:AY s m f pc kc cnt (Sum.inl (.slice none 0 0))) (hb:s.box t=some ⟨r0,ps⟩) (ht:5≤t) (hb':s.box u=some ⟨r1,ls⟩) (hu:5≤u) (hp: ∀ x ∈ pc,SV.ok (fun n=>n=5) x) (hk:kc.all SV.plain=true) (hps:ps.all SV.plain=true) (hls:ls.all SV.plain=true):jr s (sev t u) (lk (Bn m f pc kc cnt ps ls)) [2,3,4]:=by
 refine lY (fun x hx=> ?_) fun n hn=> ?_
 ·have inj: ∀ a,a=2∨a=3∨a=4→ ∀ y ∈ Bn m f pc kc cnt ps ls,sev t u a=sev t u y.1→a=y.1:=fun a ha y hy e=>by
   have:y.1 < 8:=by
    simp only[Bn,bQ]at hy
    rcases hy with rfl | rfl | rfl | rfl | rfl | rfl | rfl | rfl<;>(simp only;omega)
   unfold sev at e
   (repeat' split at e)<;>omega
  simp only[Bn,bQ]at hx
  rcases hx with rfl | rfl | rfl | rfl | rfl | rfl | rfl | rfl
  ·exact ⟨⟨_,hd.b0,fun h=>h⟩,fun h=>(by cases h)⟩
  ·exact ⟨⟨_,by rw[ZN hp];exact hd.b1,fun h=>h⟩,fun h=>(by cases h)⟩
  ·exact ⟨⟨_,hd.b2,fun h=>rfl⟩,fun h=>⟨(by decide:(2:Nat) ∈ [2,3,4]),inj 2 (by decide)⟩⟩
  ·exact ⟨⟨_,hd.b3,fun h=>rfl⟩,fun h=>⟨(by decide:(3:Nat) ∈ [2,3,4]),inj 3 (by decide)⟩⟩
  ·exact ⟨⟨_,by rw[au az];exact hd.b4,fun h=>rfl⟩,fun h=>⟨(by decide:(4:Nat) ∈ [2,3,4]),inj 4 (by decide)⟩⟩
  ·exact ⟨⟨_,by rw[au hk];exact hd.b5,fun h=>h⟩,fun h=>(by cases h)⟩
  ·exact ⟨⟨_,by rw[au hps];exact hb,fun h=>(by cases h)⟩,fun h=>(by cases h)⟩
  ·exact ⟨⟨_,by rw[au hls];exact hb',fun h=>(by cases h)⟩,fun h=>(by cases h)⟩
 ·simp only[bQ]at hn
  rcases hn with rfl | rfl | rfl<;>exact ⟨_,rfl,rfl⟩
theorem ZO {s:AS} {m t u nm:Nat} {f:Nat→Int} {cnt:Int}:cL s (sev t u) 8 1 nm [2,3,4] (lk (dg m f cnt))=upd (ku s m f cnt) nm none:=by
 rw[gl]
 simp only[dg,ku,List.foldr_cons,List.foldr_nil,lk,Option.map_some,Option.map_none,aI.ren,List.map_cons,List.map_nil,SV.ren,fj,au az,Nat.reduceEqDiff,reduceIte,show sev t u 2=2 from rfl,show sev t u 3=3 from rfl,show sev t u 4=4 from rfl]
theorem ZP {s:AS} {m t u nm:Nat} {f:Nat→Int} {cnt:Int}:cL s (sev t u) 8 0 nm [2,3,4] (lk (dg m f cnt))=ku s m f cnt:=by
 rw[oq]
 simp only[dg,ku,List.foldr_cons,List.foldr_nil,lk,Option.map_some,Option.map_none,aI.ren,List.map_cons,List.map_nil,SV.ren,fj,au az,Nat.reduceEqDiff,reduceIte,show sev t u 2=2 from rfl,show sev t u 3=3 from rfl,show sev t u 4=4 from rfl]
theorem N8 {st nx:Nat} {q q0:Int} {sv sw:SV} (h:SV.ok (fun n=>n < 8) sv) (h0:SV.ok (fun n=>n < 8) sw): ∀ v ∈ [Ag (fP 0 1 2 3),Ag (bA st nx q0 sw),Ag (bJ q sv)],AV.ok (fun n=>n < 8) v:=fun v hv=>by
 simp only[bQ]at hv
 rcases hv with rfl | rfl | rfl
 ·exact dY fun n hn=>by omega
 ·exact gB h0
 ·exact lW h
section
variable {s:AS} {nm m a n kn t u st nn np nx:Nat} {kb:Nat→Bool} {f pf lf:Nat→Int} {ks sv sw:SV} {kc ps ls:List SV} {at_ cut cnt q q0:Int} {r0 r1:Bool} {dst:Option Nat} {K:AS→Prop} {F:Exit→AS→Prop}
theorem Ee (hd:AY s m f (cI at_ cut ks) kc cnt (Sum.inl (.slice none 0 0))) (hk:gU ks kn kb kc) (hb:s.box t=some ⟨r0,ps⟩) (ht:5≤t) (hl:cS t sv n pf ps) (hp:ps.all SV.plain=true) (hpf:eJ pf) (hb':s.box u=some ⟨r1,ls⟩) (hu:5≤u) (rN:cS u sw np lf ls) (hls:ls.all SV.plain=true) (hm:m≤8192) (ha:a+aT n < m) (hn:n < 600000) (h0:0≤cnt) (h1:cnt < 800000)
  (hst:((m / 2:Nat):Int) - (st:Int)=(a:Int)) (Nz:0 < nn) (UU:st+nn≤m) (rJ:nx=st+nn) (hfl:bG at_ cnt (aT n+1+nn)=false)
  (hK:K (({ s with box:=upd (ku s m (pk f (wF a n q pf st nn)) (cnt+(aT n:Nat)+1+nn)) nm none }:AS).put dst (some (Sum.inr [])))):av Tryz.prog nm 69 (some [Ag (fP 0 1 2 3),Ag (bA st nx q0 sw),Ag (bJ q sv)]) dst K s:=by
 subst rJ
 obtain ⟨s1,g1,k1⟩:=hl.iW 6
 obtain ⟨s2,g2,k2⟩:=rN.iW 7
 have hm0:bd Tryz.prog 69 [Ag (fP 0 1 2 3),Ag (bA st (st+nn) q0 s2),Ag (bJ q s1)] 8 (lk (Bn m f (cI at_ cut ks) kc cnt ps ls)) (fun v out=>v=Sum.inr []∧out=lk (dg m (pk f (wF a n q pf st nn)) (cnt+(aT n:Nat)+1+nn))):=
  ka Tryz.func69 rfl (by kernel_rfl) [1,2] [1,2] (by simp[Tryz.ntmps69]) Tryz.o5 (N8 (g1.ok (by decide)) (g2.ok (by decide))) I9 (I' (fD hk) hk.c hp hls) hfl (SF hk g1 hp hpf g2 hls hm ha hn h0 h1 hst Nz UU _ rfl)
 refine hm0.wide.nA (Nat.le_refl 1) (sev t u) [2,3,4] (N7 hd hb ht hb' hu (fD hk) hk.c hp hls) ?_ ?_
 ·simp only[List.map_cons,List.map_nil,l9,j8,k1 (sev t u) rfl,k2 (sev t u) rfl]
  rfl
 ·rintro v out ⟨rfl,rfl⟩
  rw[ZO]
  exact hK
theorem Jc (hd:AY s m f (cI at_ cut ks) kc cnt (Sum.inl (.slice none 0 0))) (hk:gU ks kn kb kc) (hb:s.box t=some ⟨r0,ps⟩) (ht:5≤t) (hl:cS t sv n pf ps) (hp:ps.all SV.plain=true) (hpf:eJ pf) (hb':s.box u=some ⟨r1,ls⟩) (hu:5≤u) (rN:cS u sw np lf ls) (hls:ls.all SV.plain=true) (hm:m≤8192) (ha:a+aT n < m) (hn:n < 600000) (h0:0≤cnt) (h1:cnt < 800000)
  (hst:((m / 2:Nat):Int) - (st:Int)=(a:Int)) (Nz:0 < nn) (UU:st+nn≤m) (rJ:nx=st+nn) (hfl:bG at_ cnt (aT n+1+nn)=true)
  (hK:F (.panic ga) { s with box:=ku s m (lH kn kb (eE cut) f (wF a n q pf st nn) (at_ - cnt - 1).toNat) at_ }):fB Tryz.prog 69 (some [Ag (fP 0 1 2 3),Ag (bA st nx q0 sw),Ag (bJ q sv)]) F s:=by
 subst rJ
 obtain ⟨s1,g1,k1⟩:=hl.iW 6
 obtain ⟨s2,g2,k2⟩:=rN.iW 7
 have hm0:yi Tryz.prog 69 [Ag (fP 0 1 2 3),Ag (bA st (st+nn) q0 s2),Ag (bJ q s1)] 8 (lk (Bn m f (cI at_ cut ks) kc cnt ps ls)) ga (fun out=>out=lk (dg m (lH kn kb (eE cut) f (wF a n q pf st nn) (at_ - cnt - 1).toNat) at_)):=
  kd Tryz.func69 rfl (by kernel_rfl) [1,2] [1,2] (by simp[Tryz.ntmps69]) Tryz.o5 (N8 (g1.ok (by decide)) (g2.ok (by decide))) I9 (I' (fD hk) hk.c hp hls) hfl (SF hk g1 hp hpf g2 hls hm ha hn h0 h1 hst Nz UU _ rfl)
 refine hm0.rq (sev t u) [2,3,4] (N7 hd hb ht hb' hu (fD hk) hk.c hp hls) ?_ ?_
 ·simp only[List.map_cons,List.map_nil,l9,j8,k1 (sev t u) rfl,k2 (sev t u) rfl]
  rfl
 ·rintro out rfl
  rw[ZP]
  exact hK
end
def cU (f:Nat→Int) (m:Nat):pR:=match dh f (m / 2) with
 | none=>(some 1,[])
 | some st=>if cM f m st≠[] then (some 2,[]) else
  if bB (aB f (aC f (st+m / 2) st))=18446744073709551615 then (some 3,[]) else
   (none,wF (m / 2 - st) (aN (aB f (aC f (st+m / 2) st))) (bB (aB f (aC f (st+m / 2) st))+1) (dP f (aC f (st+m / 2) st)) st (aE f (aC f (st+m / 2) st) - st))
theorem FE {f:Nat→Int} (hf:eJ f) {p:Nat}:eJ (dP f p):=fun i=>hf _
theorem PX {m kn:Nat} {kb:Nat→Bool} {f:Nat→Int} {ks:SV} {kc:List SV} {at_ cut cnt:Int} (hk:gU ks kn kb kc) (hf:eJ f) (hm:m≤8192) (h2:2≤m) (h0:0≤cnt) (h1:cnt < 800000):
  ∀ c,Tryz.f39.body=some c→kT Tryz.prog [] [7] c (Cz 6 m kn kb f at_ cut cnt (cU f m) [.tmp 2]) (cn.start [Ag (fP 0 1 2 3)] (lk (ma m f (cI at_ cut ks) kc cnt)) 6):=by
 intro c hc
 cases hc
 have dk:=Bo (at_:=at_) (cut:=cut) (cnt:=cnt) hk
 have qc:bG at_ cnt 0=false:=decide_eq_false (by omega)
 simp only[ma,aH,bH,seval]
 refine sx (f:=f) (m:=m) (j9 (m:=m) (f:=f) (pc:=cI at_ cut ks) (nc:=[Sum.inl (.int .i64 cnt)]) (kc:=kc) (r0:=false) (r1:=false) (r2:=true) (r3:=true) (r4:=true) (r5:=false) (by simp only[aq,ay,ae,vR,seval]) (by simp only[aq,ay,ae,vR,seval]) (by simp only[aq,ay,ae,vR,seval]) (by simp only[aq,ay,ae,vR,seval]) (by simp only[aq,ay,ae,vR,seval]) (by simp only[aq,ay,ae,vR,seval])) dk hf hm h2 (fun hl=> ?_) (fun st hl hd=> ?_) fun st c1 lr hl hd g1 g2 g3=> ?_
 ·have hr:cU f m=(some 1,[]):=by unfold cU;rw[hl]
  unfold Cz eX
  simp only[hr,eN,pk,qc,List.foldl_nil,Int.add_zero,dH,lx,cH,pR.val,aA,aH,bH,seval]
  refine iY (by rfl) (by decide) ?_ ?_ ?_<;>(simp only[ae,vR,seval];done)
 ·have hr:cU f m=(some 2,[]):=by unfold cU;rw[hl];simp only;rw[if_pos hd]
  unfold Cz eX
  simp only[hr,eN,pk,qc,List.foldl_nil,Int.add_zero,dH,lx,cH,pR.val,aA,aH,bH,seval]
  refine iY (by rfl) (by decide) ?_ ?_ ?_<;>(simp only[ae,vR,seval];done)
 ·obtain ⟨hok,hst⟩:=vg hl
  obtain ⟨fw,hle⟩:=rB (f:=f) (e:=st+m / 2) (st+m / 2 - st) st hok
  change okB f (aC f (st+m / 2) st) (st+m / 2)=true at fw
  change st≤aC f (st+m / 2) st at hle
  have rJ:=po fw
  have hlt:=hU (f:=f) (p:=aC f (st+m / 2) st)
  have MX:aO (aN (aB f (aC f (st+m / 2) st)))≤m / 2:=by
   have e:aE f (aC f (st+m / 2) st)=aC f (st+m / 2) st+aO (aN (aB f (aC f (st+m / 2) st))):=rfl
   omega
  have ab0:aT (aN (aB f (aC f (st+m / 2) st)))+1≤m / 2:=by unfold aO at MX;unfold aT;omega
  have hlen:aN (aB f (aC f (st+m / 2) st)) < 600000:=by unfold aO at MX;omega
  obtain ⟨b1,b2⟩:=yE hf (p:=aC f (st+m / 2) st)
  simp only[dH,cr,bA,aA,aH,bH,seval]
  refine qK (t:=9) (u:=9) (r0:=true) (r1:=true) (f:=dP f (aC f (st+m / 2) st)) (f0:=dP f (aC f (st+m / 2) st)) (ps:=lr) (cs:=lr) (by simp only[ae,vR,seval]) (by simp only[ae,vR,seval]) (.inr ⟨0,c1,rfl,g2,g1⟩) g3 (.inr ⟨0,c1,rfl,g2,g1⟩) g3 b1 b2 ?_
  by_cases hq:bB (aB f (aC f (st+m / 2) st))=18446744073709551615
  ·have hr:cU f m=(some 3,[]):=by unfold cU;rw[hl];simp only;rw[if_neg (fun h=>h hd),if_pos hq]
   have e1:pK (bB (aB f (aC f (st+m / 2) st))) (.inr (.inr (9,0,aN (aB f (aC f (st+m / 2) st)),c1)))=dH fK (cH 3):=if_pos hq
   unfold Cz eX
   simp only[e1,hr,eN,pk,qc,List.foldl_nil,Int.add_zero,dH,fK,lx,cH,pR.val,aA,aH,bH,seval]
   refine iY (by rfl) (by decide) ?_ ?_ ?_<;>(simp only[ae,vR,seval];done)
  ·have hr:cU f m=(none,wF (m / 2 - st) (aN (aB f (aC f (st+m / 2) st))) (bB (aB f (aC f (st+m / 2) st))+1) (dP f (aC f (st+m / 2) st)) st (aE f (aC f (st+m / 2) st) - st)):=by
    unfold cU;rw[hl];simp only;rw[if_neg (fun h=>h hd),if_neg hq]
   have e1:pK (bB (aB f (aC f (st+m / 2) st))) (.inr (.inr (9,0,aN (aB f (aC f (st+m / 2) st)),c1)))=dH (bJ (bB (aB f (aC f (st+m / 2) st))+1) (.inr (.inr (9,0,aN (aB f (aC f (st+m / 2) st)),c1)))) .nilIface:=if_neg hq
   simp only[e1,dH,bJ,cr,bA,aA,aH,bH,seval]
   by_cases hs:bG at_ cnt (aT (aN (aB f (aC f (st+m / 2) st)))+1+(aE f (aC f (st+m / 2) st) - st))=true
   ·refine .inr ⟨by kernel_rfl, ?_⟩
    simp only[dH,bJ,cr,bA,aA,aH,bH,seval]
    refine Jc (a:=m / 2 - st) (n:=aN (aB f (aC f (st+m / 2) st))) (pf:=dP f (aC f (st+m / 2) st)) (nn:=aE f (aC f (st+m / 2) st) - st) (kc:=kc) (cut:=cut) (at_:=at_) (m:=m) (f:=f) (cnt:=cnt) (t:=9) (u:=9) (r0:=true) (r1:=true) (ps:=lr) (ls:=lr) ⟨?_, ?_, ?_, ?_, ?_, ?_⟩ hk ?_ (by decide) (.inr ⟨0,c1,rfl,g2,g1⟩) g3 (FE hf) ?_ (by decide) (.inr ⟨0,c1,rfl,g2,g1⟩) g3 hm (by omega) hlen h0 h1 (by omega) (by omega) (by omega) (by omega) hs ?_<;>try (simp only[aq,ay,ae,vR,seval];done)
    simp only[fI]
    unfold Cz eX
    have hT:=FC (a:=m / 2 - st) (n:=aN (aB f (aC f (st+m / 2) st))) (q:=bB (aB f (aC f (st+m / 2) st))+1) (pf:=dP f (aC f (st+m / 2) st)) (st:=st) (nn:=aE f (aC f (st+m / 2) st) - st)
    rw[hr]
    simp only[hT]
    rw[if_pos hs]
    exact vf (by decide) (by simp only[ku,ae,vR,seval]) (by simp only[ku,ae,vR,seval]) (by simp only[ku,ae,vR,seval])
   ·have hs':bG at_ cnt (aT (aN (aB f (aC f (st+m / 2) st)))+1+(aE f (aC f (st+m / 2) st) - st))=false:=by simpa using hs
    refine .inl ?_
    refine Ee (a:=m / 2 - st) (n:=aN (aB f (aC f (st+m / 2) st))) (pf:=dP f (aC f (st+m / 2) st)) (nn:=aE f (aC f (st+m / 2) st) - st) (kc:=kc) (cut:=cut) (at_:=at_) (m:=m) (f:=f) (cnt:=cnt) (t:=9) (u:=9) (r0:=true) (r1:=true) (ps:=lr) (ls:=lr) ⟨?_, ?_, ?_, ?_, ?_, ?_⟩ hk ?_ (by decide) (.inr ⟨0,c1,rfl,g2,g1⟩) g3 (FE hf) ?_ (by decide) (.inr ⟨0,c1,rfl,g2,g1⟩) g3 hm (by omega) hlen h0 h1 (by omega) (by omega) (by omega) (by omega) hs' ?_<;>try (simp only[aq,ay,ae,vR,seval];done)
    simp only[ku,aA,aH,bH,seval]
    unfold Cz eX
    have hT:=FC (a:=m / 2 - st) (n:=aN (aB f (aC f (st+m / 2) st))) (q:=bB (aB f (aC f (st+m / 2) st))+1) (pf:=dP f (aC f (st+m / 2) st)) (st:=st) (nn:=aE f (aC f (st+m / 2) st) - st)
    rw[hr]
    simp only[hT]
    rw[if_neg hs]
    simp only[pR.val,aA,aH,bH,seval]
    refine iY (by rfl) (by decide) ?_ ?_ ?_
    ·simp only[ae,vR,seval]
    ·simp only[ae,vR,seval]
     refine congrArg (fun x=>some (aI.mk true [Sum.inl (Value.int .i64 x)])) ?_
     omega
    ·simp only[ae,vR,seval]
theorem CA {s:AS} {nm t n:Nat} {r0:Bool} {cs:List SV} {f:Nat→Int} {q:Int} {sv:SV} (hb:s.box t=some ⟨r0,cs⟩) (hl:cS t sv n f cs) (hp:cs.all SV.plain=true) (hn:n < 9223372036854775000) {dst:Option Nat} {K:AS→Prop}
  (hk:K (({ s with box:=upd s.box nm none }:AS).put dst (some (I .i64 (aO n))))):cq Tryz.prog nm 24 (some [Ag (bJ q sv)]) dst K s:=by
 obtain ⟨s0,h0,h1⟩:=hl.iW 0
 refine (wu (eD:=false) (q:=q) h0 hp hn).wide.av (fun _=>t) none (bZ hb hp) ?_ ?_
 ·simp only[List.map_cons,List.map_nil,j8,h1 (fun _=>t) rfl]
 ·rintro v out ⟨rfl,rfl⟩
  rw[fq]
  exact hk
section
variable {s:AS} {nm m a n kn t:Nat} {kb:Nat→Bool} {f pf:Nat→Int} {ks sv:SV} {kc ps:List SV} {at_ cut cnt q:Int} {eD:Bool} {dst:Option Nat} {K:AS→Prop}
theorem SG (hd:AY s m f (cI at_ cut ks) kc cnt (Sum.inl (.slice none 0 0))) (hk:gU ks kn kb kc) (hb:s.box t=some ⟨eD,ps⟩) (ht:5≤t) (hl:cS t sv n pf ps) (hp:ps.all SV.plain=true) (hpf:eJ pf) (hm:m≤8192) (ha:a+aT n < m) (hn:n < 600000) (h0:0≤cnt) (h1:cnt < 900000) (hfl:bG at_ cnt (aT n+1)=false) {x:Int} (hx:x=(a:Int))
  (hK:K (({ s with box:=upd (ku s m (nF f a n q pf) (cnt+(aT n:Nat)+1)) nm none }:AS).put dst (some (Sum.inr [])))):av Tryz.prog nm 26 (some [Ag (fP 0 1 2 3),I .i64 x,Ag (bJ q sv)]) dst K s:=by
 subst hx
 obtain ⟨s0,g0,g1⟩:=hl.iW 6
 refine (SE (q:=q) (cut:=cut) (f:=f) hk g0 hp hpf hm ha hn h0 h1 hfl).wide.nA (Nat.le_refl 1) (six t) [2,3,4] (vb hd hb ht (fD hk) hk.c hp) (Bk (g1 (six t) rfl)) ?_
 rintro v out ⟨rfl,rfl⟩
 rw[SD]
 exact hK
end
def aW (f:Nat→Int) (m n:Nat) (pf:Nat→Int):pR:=match dh f (m / 2) with
 | none=>(some 1,[])
 | some st=>if cM f m st≠[] then (some 2,[]) else
  if bB (aB f (aC f (st+m / 2) st))=18446744073709551615 then (some 3,[]) else
  if m / 2 < aO n then (some 4,[]) else
  if st+m / 2 < aE f (aC f (st+m / 2) st)+aO n then
   (none,wF (m / 2 - st) n (bB (aB f (aC f (st+m / 2) st))+1) pf st (aE f (aC f (st+m / 2) st) - st))
  else (none,nP (aE f (aC f (st+m / 2) st)) n (bB (aB f (aC f (st+m / 2) st))+1) pf)
theorem Jd {m n kn:Nat} {kb:Nat→Bool} {f pf:Nat→Int} {ks sv:SV} {kc ps:List SV} {at_ cut cnt:Int} (hk:gU ks kn kb kc) (hf:eJ f) (rN:cS 6 sv n pf ps) (hp:ps.all SV.plain=true) (hpf:eJ pf) (hm:m≤8192) (h2:2≤m) (hn:n < 9223372036854775000) (h0:0≤cnt) (h1:cnt < 800000):
  ∀ c,Tryz.f38.body=some c→kT Tryz.prog [11] [8,12] c (Cz 7 m kn kb f at_ cut cnt (aW f m n pf) [.tmp 4]) (cn.start [Ag (fP 0 1 2 3),Sum.inl (Sum.inl sv)] (lk (Ca m f (cI at_ cut ks) kc cnt ps)) 7):=by
 intro c hc
 cases hc
 have dk:=Bo (at_:=at_) (cut:=cut) (cnt:=cnt) hk
 have qc:bG at_ cnt 0=false:=decide_eq_false (by omega)
 simp only[Ca,aH,bH,seval]
 refine sx (f:=f) (m:=m) (j9 (m:=m) (f:=f) (pc:=cI at_ cut ks) (nc:=[Sum.inl (.int .i64 cnt)]) (kc:=kc) (r0:=false) (r1:=false) (r2:=true) (r3:=true) (r4:=true) (r5:=false) (by simp only[aq,ay,ae,vR,seval]) (by simp only[aq,ay,ae,vR,seval]) (by simp only[aq,ay,ae,vR,seval]) (by simp only[aq,ay,ae,vR,seval]) (by simp only[aq,ay,ae,vR,seval]) (by simp only[aq,ay,ae,vR,seval])) dk hf hm h2 (fun hl=> ?_) (fun st hl hd=> ?_) fun st c1 lr hl hd g1 g2 g3=> ?_
 ·have hr:aW f m n pf=(some 1,[]):=by unfold aW;rw[hl]
  unfold Cz eX
  simp only[hr,eN,pk,qc,List.foldl_nil,Int.add_zero,dH,lx,cH,pR.val,aA,aH,bH,seval]
  refine iY (by rfl) (by decide) ?_ ?_ ?_<;>(simp only[ae,vR,seval];done)
 ·have hr:aW f m n pf=(some 2,[]):=by unfold aW;rw[hl];simp only;rw[if_pos hd]
  unfold Cz eX
  simp only[hr,eN,pk,qc,List.foldl_nil,Int.add_zero,dH,lx,cH,pR.val,aA,aH,bH,seval]
  refine iY (by rfl) (by decide) ?_ ?_ ?_<;>(simp only[ae,vR,seval];done)
 ·obtain ⟨hok,hst⟩:=vg hl
  obtain ⟨fw,hle⟩:=rB (f:=f) (e:=st+m / 2) (st+m / 2 - st) st hok
  change okB f (aC f (st+m / 2) st) (st+m / 2)=true at fw
  change st≤aC f (st+m / 2) st at hle
  have rJ:=po fw
  have hlt:=hU (f:=f) (p:=aC f (st+m / 2) st)
  obtain ⟨b1,b2⟩:=yE hf (p:=aC f (st+m / 2) st)
  simp only[dH,cr,bA,aA,aH,bH,seval]
  refine qK (t:=10) (u:=6) (r0:=true) (r1:=false) (f:=dP f (aC f (st+m / 2) st)) (f0:=pf) (ps:=lr) (cs:=ps) (by simp only[ae,vR,seval]) (by simp only[ae,vR,seval]) (.inr ⟨0,c1,rfl,g2,g1⟩) g3 rN hp b1 b2 ?_
  by_cases hq:bB (aB f (aC f (st+m / 2) st))=18446744073709551615
  ·have hr:aW f m n pf=(some 3,[]):=by unfold aW;rw[hl];simp only;rw[if_neg (fun h=>h hd),if_pos hq]
   have e1:pK (bB (aB f (aC f (st+m / 2) st))) sv=dH fK (cH 3):=if_pos hq
   unfold Cz eX
   simp only[e1,hr,eN,pk,qc,List.foldl_nil,Int.add_zero,dH,fK,lx,cH,pR.val,aA,aH,bH,seval]
   refine iY (by rfl) (by decide) ?_ ?_ ?_<;>(simp only[ae,vR,seval];done)
  ·have e1:pK (bB (aB f (aC f (st+m / 2) st))) sv=dH (bJ (bB (aB f (aC f (st+m / 2) st))+1) sv) .nilIface:=if_neg hq
   simp only[e1,dH,bJ,cr,bA,aA,aH,bH,seval]
   refine lG (j9 (m:=m) (f:=f) (pc:=cI at_ cut ks) (nc:=[Sum.inl (.int .i64 cnt)]) (kc:=kc) (r0:=false) (r1:=false) (r2:=true) (r3:=true) (r4:=true) (r5:=false) (by simp only[aq,ay,ae,vR,seval]) (by simp only[aq,ay,ae,vR,seval]) (by simp only[aq,ay,ae,vR,seval]) (by simp only[aq,ay,ae,vR,seval]) (by simp only[aq,ay,ae,vR,seval]) (by simp only[aq,ay,ae,vR,seval])) dk (by omega) ?_
   simp only[e1,dH,bJ,cr,bA,aA,aH,bH,seval]
   refine lX (t:=6) (eD:=false) (cs:=ps) (f:=pf) (by simp only[ae,vR,seval]) rN hp (by omega) ?_
   by_cases hfull:m / 2 < aO n
   ·have hr:aW f m n pf=(some 4,[]):=by unfold aW;rw[hl];simp only;rw[if_neg (fun h=>h hd),if_neg hq,if_pos hfull]
    have d1:(((m / 2:Nat):Int) < ((aO n:Nat):Int))=True:=eq_true (by omega)
    unfold Cz eX
    simp only[d1,decide_true,hr,eN,pk,qc,List.foldl_nil,Int.add_zero,dH,fK,lx,cH,pR.val,Tryz.bO,aA,aH,bH,seval]
    refine iY (by rfl) (by decide) ?_ ?_ ?_<;>(simp only[ae,vR,seval];done)
   ·have d1:(((m / 2:Nat):Int) < ((aO n:Nat):Int))=False:=eq_false (by omega)
    have hn6:n < 600000:=by unfold aO at hfull;omega
    have Zt:aT n+1=aO n:=by unfold aO aT;omega
    simp only[d1,decide_false,dH,bJ,cr,bA,aA,aH,bH,seval]
    have w1:IntKind.i64.wrap (((aE f (aC f (st+m / 2) st):Nat):Int)+((aO n:Nat):Int))=((aE f (aC f (st+m / 2) st)+aO n:Nat):Int):=by rw[wrap_i64 _ (by omega) (by omega)];omega
    have w2:IntKind.i64.wrap ((st:Int)+((m / 2:Nat):Int))=((st+m / 2:Nat):Int):=by rw[wrap_i64 _ (by omega) (by omega)];omega
    refine eW (by kernel_rfl) [0,1,2,5,6,7,8] [3,4,9] [] [10] [14,25] [40,41,42,45,46,47,48,43,44,49,39] (by kernel_rfl) (by kernel_rfl) (by kernel_rfl) ?_
    simp only[w2,dH,bJ,cr,bA,aA,aH,bH,seval]
    refine CA (t:=6) (r0:=false) (cs:=ps) (f:=pf) (by simp only[aq,ay,ae,vR,seval]) rN hp (by omega) ?_
    by_cases J1:st+m / 2 < aE f (aC f (st+m / 2) st)+aO n
    ·have hr:aW f m n pf=(none,wF (m / 2 - st) n (bB (aB f (aC f (st+m / 2) st))+1) pf st (aE f (aC f (st+m / 2) st) - st)):=by
      unfold aW;rw[hl];simp only;rw[if_neg (fun h=>h hd),if_neg hq,if_neg hfull,if_pos J1]
     have hT:=FC (a:=m / 2 - st) (n:=n) (q:=bB (aB f (aC f (st+m / 2) st))+1) (pf:=pf) (st:=st) (nn:=aE f (aC f (st+m / 2) st) - st)
     have d2:(((st+m / 2:Nat):Int) < ((aE f (aC f (st+m / 2) st)+aO n:Nat):Int))=True:=eq_true (by omega)
     simp only[w1,w2,d2,decide_true,dH,bJ,cr,bA,aA,aH,bH,seval]
     by_cases hs:bG at_ cnt (aT n+1+(aE f (aC f (st+m / 2) st) - st))=true
     ·refine .inr ⟨by kernel_rfl, ?_⟩
      simp only[dH,bJ,cr,bA,aA,aH,bH,seval]
      refine Jc (a:=m / 2 - st) (n:=n) (pf:=pf) (lf:=dP f (aC f (st+m / 2) st)) (nn:=aE f (aC f (st+m / 2) st) - st) (kc:=kc) (cut:=cut) (at_:=at_) (m:=m) (f:=f) (cnt:=cnt) (t:=6) (u:=10) (r0:=false) (r1:=true) (ps:=ps) (ls:=lr) ⟨?_, ?_, ?_, ?_, ?_, ?_⟩ hk ?_ (by decide) rN hp hpf ?_ (by decide) (.inr ⟨0,c1,rfl,g2,g1⟩) g3 hm (by omega) hn6 h0 h1 (by omega) (by omega) (by omega) (by omega) hs ?_<;>try (simp only[aq,ay,ae,vR,seval];done)
      simp only[fI,fh]
      unfold Cz eX
      rw[hr]
      simp only[hT]
      rw[if_pos hs]
      exact vf (by decide) (by simp only[ku,ae,vR,seval]) (by simp only[ku,ae,vR,seval]) (by simp only[ku,ae,vR,seval])
     ·have hs':bG at_ cnt (aT n+1+(aE f (aC f (st+m / 2) st) - st))=false:=by simpa using hs
      refine .inl ?_
      refine Ee (a:=m / 2 - st) (n:=n) (pf:=pf) (lf:=dP f (aC f (st+m / 2) st)) (nn:=aE f (aC f (st+m / 2) st) - st) (kc:=kc) (cut:=cut) (at_:=at_) (m:=m) (f:=f) (cnt:=cnt) (t:=6) (u:=10) (r0:=false) (r1:=true) (ps:=ps) (ls:=lr) ⟨?_, ?_, ?_, ?_, ?_, ?_⟩ hk ?_ (by decide) rN hp hpf ?_ (by decide) (.inr ⟨0,c1,rfl,g2,g1⟩) g3 hm (by omega) hn6 h0 h1 (by omega) (by omega) (by omega) (by omega) hs' ?_<;>try (simp only[aq,ay,ae,vR,seval];done)
      simp only[ku,aA,aH,bH,seval]
      unfold Cz eX
      rw[hr]
      simp only[hT]
      rw[if_neg hs]
      simp only[pR.val,aA,aH,bH,seval]
      refine iY (by rfl) (by decide) ?_ ?_ ?_
      ·simp only[ae,vR,seval]
      ·simp only[ae,vR,seval]
       refine congrArg (fun x=>some (aI.mk true [Sum.inl (Value.int .i64 x)])) ?_
       omega
      ·simp only[ae,vR,seval]
    ·have hr:aW f m n pf=(none,nP (aE f (aC f (st+m / 2) st)) n (bB (aB f (aC f (st+m / 2) st))+1) pf):=by
      unfold aW;rw[hl];simp only;rw[if_neg (fun h=>h hd),if_neg hq,if_neg hfull,if_neg J1]
     have hT:=uZ (a:=aE f (aC f (st+m / 2) st)) (n:=n) (q:=bB (aB f (aC f (st+m / 2) st))+1) (pf:=pf)
     have d2:(((st+m / 2:Nat):Int) < ((aE f (aC f (st+m / 2) st)+aO n:Nat):Int))=False:=eq_false (by omega)
     simp only[w1,w2,d2,decide_false,dH,bJ,cr,bA,aA,aH,bH,seval]
     by_cases hs:bG at_ cnt (aT n+1)=true
     ·have hb:=of_decide_eq_true hs
      refine .inr ⟨by kernel_rfl, ?_⟩
      simp only[dH,bJ,cr,bA,aA,aH,bH,seval]
      refine N6 (a:=aE f (aC f (st+m / 2) st)) (n:=n) (pf:=pf) (kc:=kc) (cut:=cut) (at_:=at_) (m:=m) (f:=f) (cnt:=cnt) (t:=6) (eD:=false) (ps:=ps) ⟨?_, ?_, ?_, ?_, ?_, ?_⟩ hk ?_ (by decide) rN hp hpf hm (by omega) hn6 h0 (by omega) hs rfl ?_<;>try (simp only[aq,ay,ae,vR,seval];done)
      simp only[fI,fh]
      unfold Cz eX
      rw[hr]
      simp only[hT]
      rw[if_pos hs, ← I7 (by omega)]
      exact vf (by decide) (by simp only[ku,ae,vR,seval]) (by simp only[ku,ae,vR,seval]) (by simp only[ku,ae,vR,seval])
     ·have hs':bG at_ cnt (aT n+1)=false:=by simpa using hs
      refine .inl ?_
      refine SG (a:=aE f (aC f (st+m / 2) st)) (n:=n) (pf:=pf) (kc:=kc) (cut:=cut) (at_:=at_) (m:=m) (f:=f) (cnt:=cnt) (t:=6) (eD:=false) (ps:=ps) ⟨?_, ?_, ?_, ?_, ?_, ?_⟩ hk ?_ (by decide) rN hp hpf hm (by omega) hn6 h0 (by omega) hs' rfl ?_<;>try (simp only[aq,ay,ae,vR,seval];done)
      simp only[ku,aA,aH,bH,seval]
      unfold Cz eX
      rw[hr]
      simp only[hT]
      rw[if_neg hs, ← FB]
      simp only[pR.val,aA,aH,bH,seval]
      refine iY (by rfl) (by decide) ?_ ?_ ?_
      ·simp only[ae,vR,seval]
      ·simp only[ae,vR,seval]
       refine congrArg (fun x=>some (aI.mk true [Sum.inl (Value.int .i64 x)])) ?_
       omega
      ·simp only[ae,vR,seval]
open Go.RowKit Go.Extern.Stop Go.Stop Go.Extern
theorem Tryz.Ef (v:Value) (w:World):(Extern.ReflectliteType.typeOf #[.iface 161 v]).run Tryz.prog w= .ok (.iface 140 (.agg #[.pointer (some ⟨8,161,none⟩)])) w:=by kernel_rfl
def SH (t:TypeId):Sem Value:=do Extern.Rtype.noPackHeld "Comparable" t;pure (.bool (← typeInfo t).comparable)
theorem Tryz.Je (w:World):((Extern.ReflectliteType.method SH) #[.agg #[.pointer (some ⟨8,161,none⟩)]]).run Tryz.prog w= .ok (.bool true) w:=by kernel_rfl
theorem Tryz.xV (v:Value) (w:World):(Go.method 297 140 v "Comparable").run Tryz.prog w= .ok (122,v) w:=by kernel_rfl
theorem Tryz.Eg:(Tryz.prog.info? 161).map (·.comparable)=some true:=by kernel_rfl
theorem Tryz.Eh:(Tryz.prog.info? 185).map (·.size)=some 1:=by kernel_rfl
theorem Tryz.VW (v:Value) (xT:TypeId) (w:World):(Instr.typeAssert (.iface 161 v) xT 142 true).run Tryz.prog w= .ok (.tuple #[.nilIface, .bool false]) w:=run_typeAssert_lacksB Tryz.underlying142 (by kernel_rfl) (by kernel_rfl) v xT w
theorem Tryz.Jf (v:Value) (xT:TypeId) (w:World):(Instr.typeAssert (.iface 161 v) xT 145 true).run Tryz.prog w= .ok (.tuple #[.nilIface, .bool false]) w:=run_typeAssert_lacksB Tryz.underlying145 (by kernel_rfl) (by kernel_rfl) v xT w
theorem Tryz.FG (v:Value) (xT:TypeId) (w:World):(Instr.typeAssert (.iface 161 v) xT 147 true).run Tryz.prog w= .ok (.tuple #[.nilIface, .bool false]) w:=run_typeAssert_lacksB Tryz.underlying147 (by kernel_rfl) (by kernel_rfl) v xT w
theorem ab1 (a:Addr) (w:World):
  Calls Tryz.prog 60 #[.iface 161 (.pointer (some a)), .iface 161 (.pointer (some a))] w fun e w'=>e= .returned (.bool true)∧Kept w w':=by
 obtain ⟨i,hi,hcmp⟩:=Option.map_eq_some_iff.1 Tryz.Eg
 obtain ⟨j,hj,hjs⟩:=Option.map_eq_some_iff.1 Tryz.Eh
 have hTy:= @run_callFunc_extern Tryz.prog 77 _ Extern.ReflectliteType.typeOf Tryz.func77 (by kernel_rfl) (by kernel_rfl) (by kernel_rfl) (by kernel_rfl)
 have hCm:= @run_callFunc_extern Tryz.prog 122 _ (Extern.ReflectliteType.method SH) Tryz.func122 (by kernel_rfl) (by kernel_rfl) (by kernel_rfl) (by kernel_rfl)
 have tT:=Tryz.Ef
 have cT:=Tryz.Je
 have mR:=Tryz.xV
 have heq:=run_eql_iface_ptr_same (P:=Tryz.prog) w a Tryz.underlying62 Tryz.underlying161 hi hcmp hj
 go_enter Tryz.func60,Tryz.ntmps60
 go_wp2
 refine wp_loop_rounds 1 ?_
 rw[rounds_succ]
 go_wp2
 go_ret
 exact ⟨rfl,Frame.refl _ _⟩
theorem ab3 (a b:Addr) (ca cb:Array Value) (ta tb:TypeId) (w:World) (hne:a≠b) (ha:w.heap[a.block]? =some (.cells ca ta (0,0))) (hb:w.heap[b.block]? =some (.cells cb tb (0,0))):
  Calls Tryz.prog 60 #[.iface 161 (.pointer (some a)), .iface 161 (.pointer (some b))] w fun e w'=>e= .returned (.bool false)∧Kept w w':=by
 obtain ⟨i,hi,hcmp⟩:=Option.map_eq_some_iff.1 Tryz.Eg
 obtain ⟨j,hj,hjs⟩:=Option.map_eq_some_iff.1 Tryz.Eh
 have hTy:= @run_callFunc_extern Tryz.prog 77 _ Extern.ReflectliteType.typeOf Tryz.func77 (by kernel_rfl) (by kernel_rfl) (by kernel_rfl) (by kernel_rfl)
 have hCm:= @run_callFunc_extern Tryz.prog 122 _ (Extern.ReflectliteType.method SH) Tryz.func122 (by kernel_rfl) (by kernel_rfl) (by kernel_rfl) (by kernel_rfl)
 have tT:=Tryz.Ef
 have cT:=Tryz.Je
 have mR:=Tryz.xV
 have nE:=Tryz.VW
 have uE:=Tryz.Jf
 have vE:=Tryz.FG
 have heq:=run_eql_iface_ptr_other (P:=Tryz.prog) w Tryz.underlying62 Tryz.underlying161 hi hcmp hj (by rw[hjs];decide) hne ha hb
 go_enter Tryz.func60,Tryz.ntmps60
 go_wp2
 refine wp_loop_rounds 1 ?_
 rw[rounds_succ]
 go_wp2
 go_ret
 exact ⟨rfl,Frame.refl _ _⟩
theorem Lu {i:Nat} (h:i < 5): ∃ k,Av (aX.place i).block=some k:=by
 unfold Av
 rcases hf:(List.range 5).find? (fun k=>(aX.place k).block==(aX.place i).block) with _ | k
 ·have:=List.find?_eq_none.1 hf i (List.mem_range.2 h)
  simp at this
 ·exact ⟨k,rfl⟩
theorem Bp {i:Nat} (h:i < 5): ∃ c t,Tables.UO Tryz.prog (aX.place i).block=some (.cells c t (0,0)):=by
 obtain ⟨k,hk⟩:=Lu h
 refine ⟨aX.cells k,aX.ty k, ?_⟩
 show sM _=_
 unfold sM
 rw[hk]
theorem Lv (i:Nat):AV.plain (V (cH i))=true:=rfl
theorem kh {i j:Nat} (hi:i < 5) (hj:j < 5):pU Tryz.prog 60 [V (cH i),V (cH j)] (B (i==j)):=by
 refine ⟨by simp[Lv],fun r h=>by subst h;rfl,fun w hL=> ?_⟩
 by_cases h:i=j
 ·subst h
  refine (ab1 (aX.place i) w).mono ?_
  rintro e w' ⟨rfl,hk⟩
  exact ⟨_,rfl,by rw[beq_self_eq_true];rfl,hk⟩
 ·obtain ⟨c1,t1,h1⟩:=Bp hi
  obtain ⟨c2,t2,h2⟩:=Bp hj
  refine (ab3 (aX.place i) (aX.place j) _ _ _ _ w (fun e=>h (aX.inj i j hi hj e)) (hL.YN _ _ h1) (hL.YN _ _ h2)).mono ?_
  rintro e w' ⟨rfl,hk⟩
  exact ⟨_,rfl,by rw[beq_eq_false_iff_ne.2 h];rfl,hk⟩
def nh (e:Option Nat):AV:=match e with
 | none=>V .nilIface
 | some g=>V (cH g)
def fL:Option Nat→Int
 | none=>0
 | some 0=>12
 | some 2=>11
 | some 3=>6
 | some 4=>7
 | some _=>1
theorem mW {e:Option Nat} (he: ∀ i,e=some i→i < 5):pU Tryz.prog 29 [nh e] (I .i64 (fL e)):=by
 rcases e with _ | i
 ·refine kG Tryz.func29 rfl (by kernel_rfl) (by simp[Tryz.ntmps29]) rfl rfl ?_
  simp only[Tryz.results29,nh,fL,cH,Tryz.bO,Nat.reduceBEq,bm,vR,seval]
 ·have hi:=he i rfl
  rcases (show i=0∨i=1∨i=2∨i=3∨i=4 by omega) with rfl | rfl | rfl | rfl | rfl
  ·refine kG Tryz.func29 rfl (by kernel_rfl) (by simp[Tryz.ntmps29]) rfl rfl ?_
   simp only[Tryz.results29,nh,fL,cH,Tryz.bO,Nat.reduceBEq,bm,vR,seval]
   refine (kh (i:=0) (j:=2) (by decide) (by decide)).av ?_
   simp only[Tryz.results29,nh,fL,cH,Tryz.bO,Nat.reduceBEq,bm,vR,seval]
   refine (kh (i:=0) (j:=3) (by decide) (by decide)).av ?_
   simp only[Tryz.results29,nh,fL,cH,Tryz.bO,Nat.reduceBEq,bm,vR,seval]
   refine (kh (i:=0) (j:=4) (by decide) (by decide)).av ?_
   simp only[Tryz.results29,nh,fL,cH,Tryz.bO,Nat.reduceBEq,bm,vR,seval]
   refine (kh (i:=0) (j:=0) (by decide) (by decide)).av ?_
   simp only[Tryz.results29,nh,fL,cH,Tryz.bO,Nat.reduceBEq,bm,vR,seval]
  ·refine kG Tryz.func29 rfl (by kernel_rfl) (by simp[Tryz.ntmps29]) rfl rfl ?_
   simp only[Tryz.results29,nh,fL,cH,Tryz.bO,Nat.reduceBEq,bm,vR,seval]
   refine (kh (i:=1) (j:=2) (by decide) (by decide)).av ?_
   simp only[Tryz.results29,nh,fL,cH,Tryz.bO,Nat.reduceBEq,bm,vR,seval]
   refine (kh (i:=1) (j:=3) (by decide) (by decide)).av ?_
   simp only[Tryz.results29,nh,fL,cH,Tryz.bO,Nat.reduceBEq,bm,vR,seval]
   refine (kh (i:=1) (j:=4) (by decide) (by decide)).av ?_
   simp only[Tryz.results29,nh,fL,cH,Tryz.bO,Nat.reduceBEq,bm,vR,seval]
   refine (kh (i:=1) (j:=0) (by decide) (by decide)).av ?_
   simp only[Tryz.results29,nh,fL,cH,Tryz.bO,Nat.reduceBEq,bm,vR,seval]
  ·refine kG Tryz.func29 rfl (by kernel_rfl) (by simp[Tryz.ntmps29]) rfl rfl ?_
   simp only[Tryz.results29,nh,fL,cH,Tryz.bO,Nat.reduceBEq,bm,vR,seval]
   refine (kh (i:=2) (j:=2) (by decide) (by decide)).av ?_
   simp only[Tryz.results29,nh,fL,cH,Tryz.bO,Nat.reduceBEq,bm,vR,seval]
  ·refine kG Tryz.func29 rfl (by kernel_rfl) (by simp[Tryz.ntmps29]) rfl rfl ?_
   simp only[Tryz.results29,nh,fL,cH,Tryz.bO,Nat.reduceBEq,bm,vR,seval]
   refine (kh (i:=3) (j:=2) (by decide) (by decide)).av ?_
   simp only[Tryz.results29,nh,fL,cH,Tryz.bO,Nat.reduceBEq,bm,vR,seval]
   refine (kh (i:=3) (j:=3) (by decide) (by decide)).av ?_
   simp only[Tryz.results29,nh,fL,cH,Tryz.bO,Nat.reduceBEq,bm,vR,seval]
  ·refine kG Tryz.func29 rfl (by kernel_rfl) (by simp[Tryz.ntmps29]) rfl rfl ?_
   simp only[Tryz.results29,nh,fL,cH,Tryz.bO,Nat.reduceBEq,bm,vR,seval]
   refine (kh (i:=4) (j:=2) (by decide) (by decide)).av ?_
   simp only[Tryz.results29,nh,fL,cH,Tryz.bO,Nat.reduceBEq,bm,vR,seval]
   refine (kh (i:=4) (j:=3) (by decide) (by decide)).av ?_
   simp only[Tryz.results29,nh,fL,cH,Tryz.bO,Nat.reduceBEq,bm,vR,seval]
   refine (kh (i:=4) (j:=4) (by decide) (by decide)).av ?_
   simp only[Tryz.results29,nh,fL,cH,Tryz.bO,Nat.reduceBEq,bm,vR,seval]
def gJ (n:Nat):Bool:=decide (n%128=0∧8≤n / 128∧n / 128≤4096)
def Bq (v:SV) (e:Value):AV:= .inr [.inl v, .inl (.inl e)]
def Xi (k n:Nat) (f:Nat→Int) (v:AV) (out:Nat→Option aI):Prop:=
 (gJ n=false∧v=Bq (.inl (.slice none 0 0)) (cH 1)∧out=fun _=>none)∨
 (gJ n=true∧v=Bq (.inr (.inr (k,0,n / 64,n / 64))) .nilIface∧out=lk [(k,⟨true,ai .u8 n f⟩)])
theorem mX {o n c:Nat} {f:Nat→Int} {cs:List SV} (hs:aY cs o n f) (hc:n≤c) (hp:cs.all SV.plain=true) (hn:n≤1048576):
  bd Tryz.prog 28 [Sl 0 o n c] 1 (lk [(0,⟨false,cs⟩)]) (Xi 1 n f):=by
 refine cy Tryz.func28 rfl (by kernel_rfl) [] [] (by simp[Tryz.ntmps28]) Tryz.sZ (by simp[AV.ok,CV.ok,SV.names]) fF (fG hp) ?_
 have w1:(n:Int).tmod 128=((n%128:Nat):Int):=zD n 128
 have w2:IntKind.i64.wrap ((n:Int).tdiv 128)=((n / 128:Nat):Int):=KB n 128 (by omega)
 simp only[Tryz.results28,w1,w2,aH,bH,seval]
 have VX: ∀ {s:AS},gJ n=false→m8 1 (Xi 1 n f) (Bq (.inl (.slice none 0 0)) (cH 1)) s:=fun {s} h=>aJ rfl (.inl ⟨h,rfl,rfl⟩)
 by_cases h1:n%128=0
 ·have d1:(((n%128:Nat):Int) != 0)=false:=by rw[h1];rfl
  simp only[d1,w2,aH,bH,seval]
  refine (uV (r:=((n / 128:Nat):Int))).av ?_
  by_cases h2:8≤n / 128∧n / 128≤4096
  ·have d2:((8:Int)≤((n / 128:Nat):Int)∧((n / 128:Nat):Int)≤4096)=True:=eq_true (by omega)
   have hi:gJ n=true:=decide_eq_true ⟨h1,h2⟩
   simp only[d2,decide_true,Bool.not_true,Bool.not_false,aH,bH,seval]
   have Zt:aT n=n / 64:=by unfold aT;omega
   have Ge:64*(n / 64)=n:=by omega
   refine (NQ (sv:= .inr (.inr (0,o,n,c))) (.inr ⟨o,c,rfl,hc,hs⟩) hp (by omega)).av (fun _=>0) none (bZ (rw:=false) (by simp only[ae,vR,seval]) hp) rfl ?_
   rintro v out ⟨rfl,rfl⟩ _
   rw[bX az]
   have e2:AV.ren (df (fun _=>0) 1 15) (Sl 1 0 (aT n) (aT n))=Sl 15 0 (aT n) (aT n):=by
    show Sl (df (fun _=>0) 1 15 1) 0 _ _=_
    rw[gF]
   have e3:ai .u8 (64*aT n) (iL n f)=ai .u8 n f:=by
    rw[Zt,Ge]
    exact dB fun i hi=>if_pos hi
   rw[e2,e3,Zt]
   simp only[aH,bH,seval]
   refine dV (q:=15) (v0:=Bq (.inr (.inr (1,0,n / 64,n / 64))) .nilIface) (by decide) ?_ (fun y hy=> ?_) (fun y hy=> ?_) (.inr ⟨hi,rfl,rfl⟩)
   ·simp only[Bq,AV.ren,CV.ren,List.map_cons,List.map_nil,SV.ren,fj,kt]
   ·simp only[bQ]at hy
    rcases hy with rfl | rfl
    ·exact (by decide:1 < 2)
    ·exact trivial
   ·rw[List.mem_singleton]at hy
    subst hy
    exact ⟨(by decide:1 < 2),fun _=>rfl,ao az,by rw[au az,kt];simp only[ae,vR,seval]⟩
  ·have d2:((8:Int)≤((n / 128:Nat):Int)∧((n / 128:Nat):Int)≤4096)=False:=eq_false (by omega)
   have hb:gJ n=false:=decide_eq_false (fun h=>h2 h.2)
   simp only[d2,decide_false,Bool.not_true,Bool.not_false,aH,bH,seval]
   refine .inl ?_
   simp only[Tryz.bO,aH,bH,seval]
   first | exact ⟨by kernel_rfl,VX hb⟩ | (refine ⟨by kernel_rfl, ?_⟩;simp only[Tryz.bO,aH,bH,seval];exact VX hb)
 ·have d1:(((n%128:Nat):Int) != 0)=true:=by simp;omega
  have hb:gJ n=false:=decide_eq_false (fun h=>h1 h.1)
  simp only[d1,aH,bH,seval]
  refine .inl ?_
  simp only[Tryz.bO,aH,bH,seval]
  first | exact ⟨by kernel_rfl,VX hb⟩ | (refine ⟨by kernel_rfl, ?_⟩;simp only[Tryz.bO,aH,bH,seval];exact VX hb)
def ZQ (k a m:Nat) (at_ cut:Int) (ks:SV) (v:AV) (out:Nat→Option aI):Prop:=
 v=Ag (fP k (k+1) (k+2) (k+3))∧out=lk [(k,⟨true,[Sum.inr (.inr (a,0,m,m))]⟩),(k+1,⟨true,cI at_ cut ks⟩),(k+2,⟨true,[Sum.inl (.slice none 0 0)]⟩),(k+3,⟨true,[Sum.inl (.int .i64 0)]⟩)]
theorem VY {a b c d:Nat} {M:Nat→Prop} (ha:M a) (hb:M b) (hc:M c) (hd:M d): ∀ x ∈ fP a b c d,SV.ok M x:=fun x hx=>by
 simp only[fP,bQ]at hx
 rcases hx with rfl | rfl | rfl | rfl
 ·refine ⟨fun c hc=> ?_,rfl⟩
  simp only[bQ]at hc
  rcases hc with rfl | rfl | rfl | rfl<;>assumption
 ·refine ⟨fun c hc=> ?_,rfl⟩
  simp only[bQ]at hc
  rcases hc with rfl | rfl<;>assumption
 ·refine ⟨fun c hc=> ?_,rfl⟩
  simp only[bQ]at hc
  rcases hc with rfl | rfl<;>assumption
 ·refine ⟨fun c hc=> ?_,rfl⟩
  simp only[bQ]at hc
  subst hc
  assumption
def Xj (j:Nat):Nat:=if j < 2 then j+2 else j+3
theorem dq2:iu 2 Xj 2=2:=rfl
theorem dq3:iu 2 Xj 3=3:=rfl
theorem dq4:iu 2 Xj 4=5:=rfl
theorem dq5:iu 2 Xj 5=6:=rfl
theorem SI {f:Nat} {l:List Value}:cellsOf (some (V (.func (.func f) #[] ⟨l⟩)))=some [Sum.inl (.func (.func f) #[] ⟨l⟩)]:=rfl
section
variable {a b c d x:SV}
theorem ZR:splice [a,b,c,d] 2 [x]=[a,b,x,d]:=rfl
theorem ZS:splice [a,b,c,d] 3 [x]=[a,b,c,x]:=rfl
end
theorem Br {m kn:Nat} {kb:Nat→Bool} {at_ cut:Int} {ks:SV} {cs kc:List SV} (hp:cs.all SV.plain=true) (hk:dE 1 ks kn kb kc) (hq:kc.all SV.plain=true):
  ln Tryz.prog 25 [Sl 0 0 m m,Ag (cI at_ cut ks)] 2 4 (lk [(0,⟨false,cs⟩),(1,⟨false,kc⟩)]) (ZQ 2 0 m at_ cut ks):=by
 have hko: ∀ {M:Nat→Prop},M 1→SV.ok M ks:=fun h=>hk.ok h
 have hone:=(hk.ok (M:=fun n=>n < 2) (by decide)).2
 refine Cm Tryz.func25 rfl (by kernel_rfl) [] [] (by simp[Tryz.ntmps25]) Tryz.sX (by decide) (fun v hv=>by
  simp only[bQ]at hv
  rcases hv with rfl | rfl
  ·exact (by decide:0 < 2)
  ·intro x hx
   simp only[cI,bQ]at hx
   rcases hx with rfl | rfl | rfl
   ·exact ⟨trivial,rfl⟩
   ·exact hko (by decide)
   ·exact ⟨trivial,rfl⟩) pX (pY hp hq) ?_
 simp only[Tryz.results25,SI,ZR,ZS,mT,aA,aH,bH,seval]
 refine ⟨Xj,Ag (fP 2 3 4 5),lk [(2,⟨true,[Sum.inr (.inr (0,0,m,m))]⟩),(3,⟨true,cI at_ cut ks⟩),(4,⟨true,[Sum.inl (.slice none 0 0)]⟩),(5,⟨true,[Sum.inl (.int .i64 0)]⟩)],fun j hj=> ?_,fun i j hi hj e=> ?_,rfl,VY (by decide) (by decide) (by decide) (by decide),fun n b hn=> ?_,⟨rfl,rfl⟩⟩
 ·unfold Xj
  split<;>omega
 ·unfold Xj at e
  split at e<;>split at e<;>omega
 ·have h1:=bt _ _ _ hn
  simp only[bQ,Prod.mk.injEq]at h1
  rcases h1 with ⟨rfl,rfl⟩ | ⟨rfl,rfl⟩ | ⟨rfl,rfl⟩ | ⟨rfl,rfl⟩
  ·exact ⟨by decide,fun _=>rfl,fun x hx=>by rw[List.mem_singleton]at hx;subst hx;exact ⟨(by decide:0 < 6),rfl⟩,⟨true,[Sum.inr (.inr (0,0,m,m))]⟩,by rw[dq2];simp only[ae,vR,seval],fun _=>rfl,rfl⟩
  ·refine ⟨by decide,fun _=>rfl,fun x hx=> ?_,⟨true,cI at_ cut ks⟩,by rw[dq3];simp only[ae,vR,seval],fun _=>rfl, ?_⟩
   ·simp only[cI,bQ]at hx
    rcases hx with rfl | rfl | rfl
    ·exact ⟨trivial,rfl⟩
    ·exact hko (by decide)
    ·exact ⟨trivial,rfl⟩
   ·have:SV.ren (iu 2 Xj) ks=ks:=SV.je (SV.br (fun n hn=>by subst hn;rfl) (hk.ok (M:=fun n=>n=1) rfl).1)
    simp only[cI,List.map_cons,List.map_nil,this]
    rfl
  ·exact ⟨by decide,fun _=>rfl,ao rfl,⟨true,[Sum.inl (.slice none 0 0)]⟩,by rw[dq4];simp only[ae,vR,seval],fun _=>rfl,rfl⟩
  ·exact ⟨by decide,fun _=>rfl,ao rfl,⟨true,[Sum.inl (.int .i64 0)]⟩,by rw[dq5];simp only[mT,ae,vR,seval],fun _=>rfl,rfl⟩
end Go.Proofs.YtaeagfdnfjenlaaGreatDoor
