/-
  What a tag covers of a header.
-/
import Derived.Test.YtoakenpcooglpaaGreatDoorVcgR1
import Derived.Test.YtoakenpcooglpaaGreatDoorVcgFR
import Derived.Test.YtoakenpcooglpaaGreatDoorVcgE1
import Derived.Test.YtoakenpcooglpaaGreatDoorVcgRx
import Derived.Test.YtoakenpcooglpaaGreatDoorVcgE3
set_option linter.unusedVariables false
set_option linter.unusedSimpArgs false
namespace Go.Proofs.YtoakenpcooglpaaGreatDoor
set_option maxHeartbeats 8000000
set_option maxRecDepth 20000
open Go.cA
set_option linter.unusedSectionVars false
variable [aX]
def Np (cQ:Nat→Int) (pn n:Int):Nat→Int:=U6 cQ pn n 0 (fun _=>0) (fun _=>0)
def aj9 (k:Nat) (cQ:Nat→Int) (pn n:Int) (v:AV) (out:Nat→Option aW):Prop:= ∃ c cs,v=Sl k 0 41 c∧41≤c∧bE cs 0 41 (Np cQ pn n)∧cs.all SV.plain=true∧out=lk [(k,⟨true,cs⟩)]
theorem CJ {cQ:Nat→Int} {pn n:Int}:bt Tryz.prog 39 [Ag (kU cQ pn n)] 0 (fun _=>none) (aj9 0 cQ pn n):=by
 refine aE Tryz.func39 rfl (by kernel_rfl) (by simp[Tryz.ntmps39]) Tryz.qm (fun y hy=>by
  obtain rfl:=List.mem_singleton.1 hy
  exact AV.bH jG) (fun n hn=>by omega) (fun n b hb=>by cases hb) ?_
 simp only[Tryz.results39,br,bF,bk,Tryz.vr,Value.oneCell',simprocAttr, -List.reduceReplicate]
 refine MN (t:=0) (rw:=true) (cs:=kU cQ pn n) (m:=0) (body:=fun _=>0) (by simp only[af,Tryz.vr,Value.oneCell',simprocAttr, -List.reduceReplicate]) FZ (.inl ⟨⟨none,rfl⟩,rfl⟩) (fun h=>absurd h (by decide)) (fun _ c cs hg=> ?_)
 have hr:=hg.room
 have l1:((41:Int)≤(c:Int))=True:=eq_true (by omega)
 simp only[l1,Tryz.vr,Value.oneCell',simprocAttr, -List.reduceReplicate]
 exact dS (k:=0) (q:=4) (by decide) (by simp only[af,Tryz.vr,Value.oneCell',simprocAttr, -List.reduceReplicate]) hg.plain ⟨c,cs,rfl,by omega,fun i hi=>hg.ez i (by omega),hg.plain,rfl⟩
theorem kV {s:AS} {nm:Nat} {cQ:Nat→Int} {pn n:Int} {dst:Option Nat} {K:AS→Prop}
  (hk: ∀ c cs,41≤c→bE cs 0 41 (Np cQ pn n)→cs.all SV.plain=true→K ((⟨s.env,upd s.box nm (some ⟨true,cs⟩),s.next⟩:AS).put dst (some (Sl nm 0 41 c)))):bZ Tryz.prog nm 39 (some [Ag (kU cQ pn n)]) dst K s:=by
 refine (CJ (cQ:=cQ) (pn:=pn) (n:=n)).bZ (fun n=>n) gI ?_ ?_
 ·simp only[List.map_cons,List.map_nil,AV.cw jG]
 ·rintro v out ⟨c,cs,rfl,hc,hs,hp,rfl⟩
  have l0:lk [(0,(⟨true,cs⟩:aW))] 0=some ⟨true,cs⟩:=rfl
  have e:AV.bh (dt (fun n=>n) 0 nm) (Sl 0 0 41 c)=Sl nm 0 41 c:=by show Sl (dt _ 0 nm 0) 0 41 c=_;rw[js]
  rw[l0,ek hp,e]
  exact hk c cs hc hs hp
theorem B9 {s:AS} {nm ta oa na ca td od n cd:Nat} {mk ad f:Nat→Int} {cs ds:List SV} {ra rd:Bool} (hmk:bY mk) (ha:bY ad) (hf:bY f) (hb:s.box ta=some ⟨ra,cs⟩) (hs:bE cs oa na ad) (hp:cs.all SV.plain=true) (hb':s.box td=some ⟨rd,ds⟩) (hs':bE ds od n f) (hq:ds.all SV.plain=true) (hg: ¬ (1048576 < na∨1048576 < n)) {dst:Option Nat} {K:AS→Prop}
  (hk:K ((⟨s.env,upd s.box nm (some ⟨true,ae .u8 n (fz mk f)⟩),s.next⟩:AS).put dst (some (bJ nm n n (F4 mk na n ad (fz mk f)))))):
  bZ Tryz.prog nm 37 (some [Ag (ae .u8 32 mk),Sl ta oa na ca,Sl td od n cd]) dst K s:=by
 refine (agV (ca:=ca) (cd:=cd) hmk ha hf hs hp hs' hq hg).bZ (two ta td) (jz hb hp hb' hq) (by simp only[List.map_cons,List.map_nil,fV,er];rfl) ?_
 rintro v out ⟨rfl,rfl⟩
 have l0:lk [(2,(⟨true,ae .u8 n (fz mk f)⟩:aW))] 2=some ⟨true,ae .u8 n (fz mk f)⟩:=rfl
 rw[l0,ek aw,rq,js]
 exact hk
theorem sG {s:AS} {nm t m:Nat} {cQ tag body:Nat→Int} {pn n:Int} {sv:SV} {cs:List SV} {rw:Bool} (hb:s.box t=some ⟨rw,cs⟩) (hp:cs.all SV.plain=true) (hv:eD t (.inl (.inl sv)) m body cs) (hm:m≤65536) {dst:Option Nat} {K:AS→Prop}
  (hk: ∀ c cs',bR cs' 0 (45+m+32) c (U6 cQ pn n m body tag)→K ((⟨s.env,upd s.box nm (some ⟨true,cs'⟩),s.next⟩:AS).put dst (some (Sl nm 0 (45+m+32) c)))):
  bZ Tryz.prog nm 40 (some [Ag (iW cQ pn n sv tag)]) dst K s:=by
 obtain ⟨Hh,h0,rfl⟩:=O' hv
 refine (pE (cQ:=cQ) (tag:=tag) (pn:=pn) (n:=n) hp h0 hm).bZ (fun _=>t) (dp hb hp) (by simp only[List.map_cons,List.map_nil,BV]) ?_
 rintro v out ⟨c,tail,rfl,rfl,h1,h2,h3⟩
 have hp2:=cH (n:=45+m+32) (f:=U6 cQ pn n m body tag) h3
 have l0:lk [(1,(⟨true,ae .u8 (45+m+32) (U6 cQ pn n m body tag)++tail⟩:aW))] 1=some ⟨true,ae .u8 (45+m+32) (U6 cQ pn n m body tag)++tail⟩:=rfl
 have e:AV.bh (dt (fun _=>t) 1 nm) (Sl 1 0 (45+m+32) c)=Sl nm 0 (45+m+32) c:=by show Sl (dt _ 1 nm 1) 0 _ c=_;rw[js]
 rw[l0,ek hp2,e]
 exact hk c _ (bR.row h1 h2 h3)
end Go.Proofs.YtoakenpcooglpaaGreatDoor
namespace Go.Proofs.YtoakenpcooglpaaGreatDoor
set_option maxHeartbeats 8000000
set_option maxRecDepth 20000
open Go.cA
set_option linter.unusedSectionVars false
variable [aX]
theorem sH (k:Nat→Int) (x:Int):bY (sN k x):=lB _ _ _ _ _ _
theorem aj':bY (fun _=>0):=fun i=>by show (0:Int)≤0∧(0:Int) < 256;decide
theorem acB {cQ tag body:Nat→Int} {pn n:Int} {m:Nat} (al6:bY cQ) (al7:bY tag) (hbody:bY body):bY (U6 cQ pn n m body tag):=by
 have al8:bY (fun _=>(210:Int)):=fun i=>by show (0:Int)≤210∧(210:Int) < 256;decide
 have jb: ∀ {k:Nat} {f g:Nat→Int},bY f→bY g→bY (aR k f g):=fun hf hg i=>by
  simp only[aR];split
  ·exact hf i
  ·exact hg _
 exact jb (jb (jb (jb (jb (jb al8 al6) (Bg _)) (Bg _)) (Bg _)) hbody) al7
theorem wY {cQ:Nat→Int} {pn n:Int} (h:bY cQ):bY (Np cQ pn n):=acB h aj' aj'
theorem dM {a b:SV} {f h:Nat→Int}:splice (a::ae .u8 32 f) 0 (b::ae .u8 32 h)=b::ae .u8 32 h:=by
 unfold splice
 rw[List.take_zero,List.nil_append,List.drop_eq_nil_of_le (by simp[ah]),List.append_nil]
theorem B' {s:AS} {p z n:Nat} {f:Nat→En} {sv:SV} {bx:Option aW} {rw:Bool} {cs:List SV} (hK:il p n f sv bx) (hb:s.box p=bx) (hf:s.box z=some ⟨rw,cs⟩) (hp:cs.all SV.plain=true):
  ∃ u rw' ds,(u=p∨u=z)∧s.box u=some ⟨rw',ds⟩∧ds.all SV.plain=true∧aY u sv n f ds:=by
 rcases hK with ⟨h0,rfl,rfl⟩ | ⟨h0,c,ds,rfl,hg,rfl⟩
 ·exact ⟨z,rw,cs, .inr rfl,hf,hp, .inl ⟨⟨none,rfl⟩,h0⟩⟩
 ·exact ⟨p,true,ds, .inl rfl,hb,hg.plain, .inr ⟨0,c,rfl,hg.room,hg.ez⟩⟩
theorem M4 {s:AS} {nm t p z n:Nat} {x:St} {seed:Nat→Int} {f:Nat→En} {bx:Option aW} {rw:Bool} {cs:List SV} (hs:iH x) (hb:bY seed) (h:s.box t=some ⟨true,bO x⟩) (hK:il p n f x.store bx) (lT:s.box p=bx) (hf:s.box z=some ⟨rw,cs⟩) (hp:cs.all SV.plain=true) (h1:t≠p) (h2:t≠z) {dst:Option Nat} {K:AS→Prop}
  (hk:K ((⟨s.env,upd s.box t (some ⟨true,bO (kD x seed)⟩),s.next⟩:AS).put dst (some (.inr [])))):aB Tryz.prog nm 36 (some [Ptr t 0,Ag (ae .u8 32 seed)]) dst K s:=by
 obtain ⟨u,rw',ds,hu,hb',hq,hi⟩:=B' hK lT hf hp
 exact O6 hs hb h hb' hq (by rcases hu with rfl | rfl<;>assumption) hi hk
theorem Ca {s:AS} {nm t p z n:Nat} {x:St} {f:Nat→En} {bx:Option aW} {rw:Bool} {cs:List SV} (hs:bY x.send) (h:s.box t=some ⟨true,bO x⟩) (hK:il p n f x.store bx) (lT:s.box p=bx) (hf:s.box z=some ⟨rw,cs⟩) (hp:cs.all SV.plain=true) (h1:t≠p) (h2:t≠z) (hnm:t≠nm) {dst:Option Nat} {K:AS→Prop}
  (hk:K ((⟨s.env,upd (upd s.box t (some ⟨true,bO (lg x)⟩)) nm none,s.next⟩:AS).put dst (some (Ag (ae .u8 32 (sN x.send 1)))))):bZ Tryz.prog nm 38 (some [Ptr t 0]) dst K s:=by
 obtain ⟨u,rw',ds,hu,hb',hq,hi⟩:=B' hK lT hf hp
 exact O7 hs h hb' hq (by rcases hu with rfl | rfl<;>assumption) hi hnm hk
def al9 (s:St) (m:Nat) (g:Nat→Int):Nat→Int:=F4 (sN s.send 1) 41 m (Np s.cQ s.pn s.ns) (fz (sN s.send 1) g)
def Wo (s:St) (m:Nat) (g:Nat→Int):Nat→Int:=U6 s.cQ s.pn s.ns m (fz (sN s.send 1) g) (al9 s m g)
def gR (s:St) (seed:Nat→Int):St:=if s.has=true then s else kD s seed
def aaS (k n:Nat) (x:St) (f:Nat→En) (m:Nat) (g:Nat→Int) (v:AV) (out:Nat→Option aW):Prop:=
 ∃ sv bx c cs,v=Ag (dD 0 { lg x with store:=sv } (.inr (.inr (k+1,0,45+m+32,c))) x.se x.ns)∧il k n f sv bx∧bR cs 0 (45+m+32) c (Wo x m g)∧out=fun j=>if j=k then bx else if j=k+1 then some ⟨true,cs⟩ else none
theorem M5 {s:AS} {nm t p z n:Nat} {x:St} {sv:SV} {seed:Nat→Int} {f:Nat→En} {bx:Option aW} {rw:Bool} {cs:List SV} (hs:iH x) (hb:bY seed) (h:s.box t=some ⟨true,bO { x with store:=sv }⟩) (hK:il p n f sv bx) (lT:s.box p=bx) (hf:s.box z=some ⟨rw,cs⟩) (hp:cs.all SV.plain=true) (h1:t≠p) (h2:t≠z) {dst:Option Nat} {K:AS→Prop}
  (hk:K ((⟨s.env,upd s.box t (some ⟨true,bO { kD x seed with store:=sv }⟩),s.next⟩:AS).put dst (some (.inr [])))):aB Tryz.prog nm 36 (some [Ptr t 0,Ag (ae .u8 32 seed)]) dst K s:=
 M4 (x:={ x with store:=sv }) (hs.ws sv) hb h hK lT hf hp h1 h2 hk
theorem Vi (r x:Nat→Int):bY (Nj r x):=fun i=>by
 unfold Nj gK
 rw[oQ]
 exact lB _ _ _ _ _ _ _
theorem Vj {s:St} {seed:Nat→Int} (h:iH s) (hb:bY seed):iH (kD s seed):=
 ⟨Vi _ _,hb,fun i=>BR seed so i,h.rU,fun i=>Vi _ _ _,h.recv,by show HD (IntKind.u32.wrap (s.se+1));rw[wrap_u32];unfold HD;omega,h.re,by show HD 0;unfold HD;omega,h.nr,h.ns,h.skip,h.room⟩
theorem tI {s:AS} {k q p n m c:Nat} {x:St} {f:Nat→En} {g:Nat→Int} {sv:SV} {bx:Option aW} {cs:List SV} (hq:k≤q) (hp:k≤p) (hne:p≠q) (hb:s.box q=some ⟨true,cs⟩) (hb':s.box p=bx) (hK:il p n f sv bx) (hg:bR cs 0 (45+m+32) c (Wo x m g)):
  Cz k 2 (aaS k n x f m g) (Ag (dD 0 { lg x with store:=sv } (.inr (.inr (q,0,45+m+32,c))) x.se x.ns)) s:=by
 obtain ⟨Hh,hK0,Zp,agC,lT⟩:=BU (p:=k) hK
 have r0:gM k (fun j=>if j=0 then p else q) k=p:=by unfold gM;rw[if_neg (by omega)];exact if_pos (by omega)
 have r1:gM k (fun j=>if j=0 then p else q) (k+1)=q:=by unfold gM;rw[if_neg (by omega)];exact if_neg (by omega)
 refine ⟨fun j=>if j=0 then p else q,Ag (dD 0 { lg x with store:=Hh } (.inr (.inr (k+1,0,45+m+32,c))) x.se x.ns),fun j=>if j=k then bx else if j=k+1 then some ⟨true,cs⟩ else none,fun j hj=>by (dsimp only;split)<;>assumption,fun i j hi hj e=> ?_, ?_,v9 (agC _ (by omega)) ⟨(show k+1 < k+2 by omega),rfl⟩,fun m b hm=> ?_,Hh,bx,c,cs,rfl,hK0,hg,rfl⟩
 ·dsimp only at e
  split at e<;>split at e
  ·omega
  ·exact absurd e hne
  ·exact absurd e.symm hne
  ·omega
 ·have e2:SV.bh (gM k (fun j=>if j=0 then p else q)) (.inr (.inr (k+1,0,45+m+32,c)))= .inr (.inr (q,0,45+m+32,c)):=by simp only[SV.bh,r1]
  rw[kz,e2]
  show _=Ag (dD 0 { lg x with store:=SV.bh (gM k (fun j=>if j=0 then p else q)) Hh } _ _ _)
  rw[Zp _ r0]
 ·dsimp only at hm
  split at hm
  ·rename_i e;subst e
   obtain ⟨h1,h2⟩:=lT b hm
   exact ⟨by omega,fun _=>h1,aJ h2,b,by rw[r0,hb',hm],fun h=>h,(bj h2 _).symm⟩
  ·split at hm
   ·rename_i _ e;subst e;cases hm
    exact ⟨by omega,fun _=>rfl,aJ hg.plain,⟨true,cs⟩,by rw[r1];exact hb,fun h=>h,(bj hg.plain _).symm⟩
   ·cases hm
theorem agZ {s:St} {n m o c:Nat} {f:Nat→En} {g seed:Nat→Int} {cs ds:List SV} (h0:aY 0 s.store n f cs) (hp:cs.all SV.plain=true) (hs:iH s) (hn:n*72≤140737488355328) (hv:bE ds o m g) (hq:ds.all SV.plain=true) (hm:m≤65536) (hg:bY g) (B7:bY seed):
  mL Tryz.prog 18 [Ag (bO s),Sl 1 o m c,Ag (ae .u8 32 seed)] 2 2 (lk [(0,⟨false,cs⟩),(1,⟨false,ds⟩)]) (aaS 2 n (gR s seed) f m g):=by
 refine jr Tryz.func18 rfl (by kernel_rfl) [1,5,7] [] (by simp[Tryz.ntmps18]) Tryz.pY (by decide) (fun y hy=>by
  simp only[List.mem_cons,List.not_mem_nil,or_false]at hy
  rcases hy with rfl | rfl | rfl
  ·exact cO (h0.ok (by decide))
  ·exact (show 1 < 2 by decide)
  ·exact AV.bH (by simpa[AV.plain,CV.plain] using aw)) nq (rI hp hq) ?_
 simp only[Tryz.results18,bL,bP,fW,cU,br,bF,bk,aq,aI,az,aO,aj,ak,Tryz.vr,Value.oneCell',simprocAttr, -List.reduceReplicate]
 refine ⟨by decide, ?_⟩
 simp only[aq,aI,az,aO,aj,ak,Tryz.vr,Value.oneCell',simprocAttr, -List.reduceReplicate]
 refine CF (t:=0) (rw:=false) (by simp only[az,aj,ak,Tryz.vr,Value.oneCell',simprocAttr, -List.reduceReplicate]) hp h0 hn ?_
 intro sv bx hK
 simp only[aq,aI,az,aO,aj,ak,Tryz.vr,Value.oneCell',simprocAttr, -List.reduceReplicate]
 rcases Bool.eq_false_or_eq_true s.has with hh | hh
 ·have e:(!s.has)=false:=by rw[hh];rfl
  have es:gR s seed=s:=if_pos hh
  rw[es]
  simp only[e,aq,aI,br,bF,bk,cz,bK,bm,aT,az,aO,aj,ak,Tryz.vr,Value.oneCell',simprocAttr, -List.reduceReplicate]
  refine .inl ?_
  simp only[aq,aI,br,bF,bk,cz,bK,bm,aT,az,aO,aj,ak,Tryz.vr,Value.oneCell',simprocAttr, -List.reduceReplicate]
  refine ⟨by kernel_rfl, ?_⟩
  refine ⟨by decide, ?_⟩
  refine iK (by kernel_rfl) [0,2,4] [1,3,5] [6] [7] [43] [38,40,42,39,41,43,9] (by kernel_rfl) (by kernel_rfl) (by kernel_rfl) ?_
  simp only[aq,aI,br,bF,bk,cz,bK,bm,aT,az,aO,aj,ak,Tryz.vr,Value.oneCell',simprocAttr, -List.reduceReplicate]
  refine Ca (t:=13) (p:=14) (z:=0) (x:={ s with store:=sv }) (rw:=false) (cs:=cs) hs.send (by simp only[az,aj,ak,Tryz.vr,Value.oneCell',simprocAttr, -List.reduceReplicate]) hK (by simp only[az,aj,ak,Tryz.vr,Value.oneCell',simprocAttr, -List.reduceReplicate]) (by simp only[az,aj,ak,Tryz.vr,Value.oneCell',simprocAttr, -List.reduceReplicate]) hp (by decide) (by decide) (by decide) ?_
  simp only[aq,aI,br,bF,bk,cz,bK,bm,aT,az,aO,aj,ak,Tryz.vr,Value.oneCell',simprocAttr, -List.reduceReplicate]
  refine kV ?_
  intro c1 mT hc1 hs1 hp1
  simp only[aq,aI,br,bF,bk,cz,bK,bm,aT,az,aO,aj,ak,Tryz.vr,Value.oneCell',simprocAttr, -List.reduceReplicate]
  refine B9 (ta:=53) (td:=1) (ra:=true) (rd:=false) (cs:=mT) (ds:=ds) (sH _ _) (wY hs.cQ) hg (by simp only[az,aj,ak,Tryz.vr,Value.oneCell',simprocAttr, -List.reduceReplicate]) hs1 hp1 (by simp only[az,aj,ak,Tryz.vr,Value.oneCell',simprocAttr, -List.reduceReplicate]) hv hq (by omega) ?_
  simp only[aq,aI,br,bF,bk,cz,bK,bm,aT,az,aO,aj,ak,Tryz.vr,Value.oneCell',simprocAttr, -List.reduceReplicate]
  refine ⟨by decide, ?_⟩
  simp only[bJ,dM,aq,aI,br,bF,bk,cz,bK,bm,aT,az,aO,aj,ak,Tryz.vr,Value.oneCell',simprocAttr, -List.reduceReplicate]
  refine ⟨by decide, ?_⟩
  refine iK (by kernel_rfl) [0,1,2,3,4,6,7,8,9,10,11,12] [5] [] [13,14] [13,75] [50,51,52,53,54,56,57,58,59,60,61,62,55,63] (by kernel_rfl) (by kernel_rfl) (by kernel_rfl) ?_
  simp only[aq,aI,br,bF,bk,cz,bK,bm,aT,az,aO,aj,ak,Tryz.vr,Value.oneCell',simprocAttr, -List.reduceReplicate]
  refine sG (t:=57) (rw:=true) (cs:=ae .u8 m (fz (sN s.send 1) g)) (m:=m) (body:=fz (sN s.send 1) g) (by simp only[az,aj,ak,Tryz.vr,Value.oneCell',simprocAttr, -List.reduceReplicate]) aw (.inr ⟨0,m,rfl,aP⟩) hm ?_
  intro c2 kZ g2
  simp only[aq,aI,br,bF,bk,cz,bK,bm,aT,az,aO,aj,ak,Tryz.vr,Value.oneCell',simprocAttr, -List.reduceReplicate]
  exact tI (x:=s) (q:=81) (p:=14) (by decide) (by decide) (by decide) (by simp only[az,aj,ak,Tryz.vr,Value.oneCell',simprocAttr, -List.reduceReplicate]) (by simp only[az,aj,ak,Tryz.vr,Value.oneCell',simprocAttr, -List.reduceReplicate]) hK g2
 ·have e:(!s.has)=true:=by rw[hh];rfl
  have es:gR s seed=kD s seed:=if_neg (by rw[hh];decide)
  have hB:=Vj hs B7
  rw[es]
  simp only[e,aq,aI,br,bF,bk,cz,bK,bm,aT,az,aO,aj,ak,Tryz.vr,Value.oneCell',simprocAttr, -List.reduceReplicate]
  refine M5 (t:=13) (p:=14) (z:=0) (x:=s) (sv:=sv) (rw:=false) (cs:=cs) hs B7 (by simp only[az,aj,ak,Tryz.vr,Value.oneCell',simprocAttr, -List.reduceReplicate]) hK (by simp only[az,aj,ak,Tryz.vr,Value.oneCell',simprocAttr, -List.reduceReplicate]) (by simp only[az,aj,ak,Tryz.vr,Value.oneCell',simprocAttr, -List.reduceReplicate]) hp (by decide) (by decide) ?_
  simp only[aq,aI,br,bF,bk,cz,bK,bm,aT,az,aO,aj,ak,Tryz.vr,Value.oneCell',simprocAttr, -List.reduceReplicate]
  refine .inl ?_
  simp only[aq,aI,br,bF,bk,cz,bK,bm,aT,az,aO,aj,ak,Tryz.vr,Value.oneCell',simprocAttr, -List.reduceReplicate]
  refine ⟨by kernel_rfl, ?_⟩
  refine ⟨by decide, ?_⟩
  refine iK (by kernel_rfl) [0,2,4] [1,3,5] [6] [7] [46] [38,40,42,39,41,43,9] (by kernel_rfl) (by kernel_rfl) (by kernel_rfl) ?_
  simp only[aq,aI,br,bF,bk,cz,bK,bm,aT,az,aO,aj,ak,Tryz.vr,Value.oneCell',simprocAttr, -List.reduceReplicate]
  refine Ca (t:=13) (p:=14) (z:=0) (x:={ (kD s seed) with store:=sv }) (rw:=false) (cs:=cs) hB.send (by simp only[az,aj,ak,Tryz.vr,Value.oneCell',simprocAttr, -List.reduceReplicate]) hK (by simp only[az,aj,ak,Tryz.vr,Value.oneCell',simprocAttr, -List.reduceReplicate]) (by simp only[az,aj,ak,Tryz.vr,Value.oneCell',simprocAttr, -List.reduceReplicate]) hp (by decide) (by decide) (by decide) ?_
  simp only[aq,aI,br,bF,bk,cz,bK,bm,aT,az,aO,aj,ak,Tryz.vr,Value.oneCell',simprocAttr, -List.reduceReplicate]
  refine kV ?_
  intro c1 mT hc1 hs1 hp1
  simp only[aq,aI,br,bF,bk,cz,bK,bm,aT,az,aO,aj,ak,Tryz.vr,Value.oneCell',simprocAttr, -List.reduceReplicate]
  refine B9 (ta:=56) (td:=1) (ra:=true) (rd:=false) (cs:=mT) (ds:=ds) (sH _ _) (wY hB.cQ) hg (by simp only[az,aj,ak,Tryz.vr,Value.oneCell',simprocAttr, -List.reduceReplicate]) hs1 hp1 (by simp only[az,aj,ak,Tryz.vr,Value.oneCell',simprocAttr, -List.reduceReplicate]) hv hq (by omega) ?_
  simp only[aq,aI,br,bF,bk,cz,bK,bm,aT,az,aO,aj,ak,Tryz.vr,Value.oneCell',simprocAttr, -List.reduceReplicate]
  refine ⟨by decide, ?_⟩
  simp only[bJ,dM,aq,aI,br,bF,bk,cz,bK,bm,aT,az,aO,aj,ak,Tryz.vr,Value.oneCell',simprocAttr, -List.reduceReplicate]
  refine ⟨by decide, ?_⟩
  refine iK (by kernel_rfl) [0,1,2,3,4,6,7,8,9,10,11,12] [5] [] [13,14] [13,78] [50,51,52,53,54,56,57,58,59,60,61,62,55,63] (by kernel_rfl) (by kernel_rfl) (by kernel_rfl) ?_
  simp only[aq,aI,br,bF,bk,cz,bK,bm,aT,az,aO,aj,ak,Tryz.vr,Value.oneCell',simprocAttr, -List.reduceReplicate]
  refine sG (t:=60) (rw:=true) (cs:=ae .u8 m (fz (sN (kD s seed).send 1) g)) (m:=m) (body:=fz (sN (kD s seed).send 1) g) (by simp only[az,aj,ak,Tryz.vr,Value.oneCell',simprocAttr, -List.reduceReplicate]) aw (.inr ⟨0,m,rfl,aP⟩) hm ?_
  intro c2 kZ g2
  simp only[aq,aI,br,bF,bk,cz,bK,bm,aT,az,aO,aj,ak,Tryz.vr,Value.oneCell',simprocAttr, -List.reduceReplicate]
  exact tI (x:=(kD s seed)) (q:=84) (p:=14) (by decide) (by decide) (by decide) (by simp only[az,aj,ak,Tryz.vr,Value.oneCell',simprocAttr, -List.reduceReplicate]) (by simp only[az,aj,ak,Tryz.vr,Value.oneCell',simprocAttr, -List.reduceReplicate]) hK g2
end Go.Proofs.YtoakenpcooglpaaGreatDoor
namespace Go.Proofs.YtoakenpcooglpaaGreatDoor
set_option maxHeartbeats 8000000
set_option maxRecDepth 20000
open Go.cA
set_option linter.unusedSectionVars false
variable [aX]
def ag0 (k n:Nat) (s:St) (f:Nat→En) (m:Nat) (g seed:Nat→Int) (v:AV) (out:Nat→Option aW):Prop:=
 (∃ i,iJ s n f m=some i∧ajv k n s f i v out)∨(iJ s n f m=none∧aaS k n (gR s seed) f m g v out)
theorem jn {s:AS} {k m:Nat} {P Q:AV→(Nat→Option aW)→Prop} {v:AV} (h:Cz k m P v s) (hi: ∀ v out,P v out→Q v out):Cz k m Q v s:=by
 obtain ⟨q,v0,out,h1,h2,h3,h4,h5,h6⟩:=h
 exact ⟨q,v0,out,h1,h2,h3,h4,h5,hi _ _ h6⟩
theorem Cb {s:AS} {k m q:Nat} {v:AV} {P:AV→(Nat→Option aW)→Prop} (hv:AV.plain v=true) (h:P v (fun _=>none)):Cz k m P v s:=
 ⟨fun j=>k+j,v,fun _=>none,fun j hj=>Nat.le_add_right k j,fun i j hi hj e=>Nat.add_left_cancel e,(AV.cw hv _).symm,AV.bH hv,fun n b hb=>(by cases hb),h⟩
theorem Wp {s:AS} {k q n:Nat} {f:Nat→En} {sv:SV} {bx:Option aW} {Post:AV→(Nat→Option aW)→Prop} (mk:SV→AV) (Z6: ∀ r v,AV.bh r (mk v)=mk (SV.bh r v)) (hok: ∀ (M:Nat→Prop) v,SV.ok M v→AV.ok M (mk v))
  (hq:k≤q) (hb:s.box q=bx) (hK:il q n f sv bx) (h: ∀ wA out,LQ k n f wA out→Post (mk wA) out):Cz k 2 Post (mk sv) s:=by
 have r0:gM k (fun j=>q+j) k=q:=by unfold gM;rw[if_neg (by omega),Nat.sub_self];rfl
 rcases hK with ⟨h0,rfl,rfl⟩ | ⟨h0,c,cs,rfl,hg,rfl⟩
 ·exact ⟨fun j=>q+j,mk (.inl (.slice none 0 0)),fun _=>none,fun j hj=>Nat.le_trans hq (Nat.le_add_right q j),fun i j hi hj e=>Nat.add_left_cancel e,by rw[Z6];rfl,hok _ _ (SV.bH rfl),fun m b hm=>(by cases hm),h _ _ (.inl ⟨h0,rfl,rfl⟩)⟩
 ·refine ⟨fun j=>q+j,mk (.inr (.inr (k,0,n,c))),lk [(k,⟨true,cs⟩)],fun j hj=>Nat.le_trans hq (Nat.le_add_right q j),fun i j hi hj e=>Nat.add_left_cancel e, ?_,hok _ _ ⟨(show k < k+2 by omega),rfl⟩,fun m b hm=> ?_,h _ _ (.inr ⟨h0,c,cs,rfl,hg,rfl⟩)⟩
  ·rw[Z6];simp only[SV.bh,r0]
  ·obtain ⟨rfl,rfl⟩:=tw hm
   exact ⟨by omega,fun _=>rfl,aJ hg.plain,⟨true,cs⟩,by rw[r0];exact hb,fun h=>h,(bj hg.plain _).symm⟩
theorem CK {s:AS} {nm t n i:Nat} {x:St} {f:Nat→En} {rw:Bool} {cs:List SV} (hb:s.box t=some ⟨rw,cs⟩) (hp:cs.all SV.plain=true) (hi:aY t x.store n f cs) (hi9:i < 9) (hn:i≠0→n*72≤140737488355328) {dst:Option Nat} {K:AS→Prop}
  (h0:i=0→K ((⟨s.env,upd s.box nm none,s.next⟩:AS).put dst (some (Ag (dD 1 stZ (.inl (.slice none 0 0)) 0 0)))))
  (hk:i≠0→ ∀ sv bx,il nm n f sv bx→K ((⟨s.env,upd s.box nm bx,s.next⟩:AS).put dst (some (Ag (dD (pw i) { x with store:=sv } (.inl (.slice none 0 0)) 0 0))))):bZ Tryz.prog nm 17 (some [Ag (bO x),V (mS i)]) dst K s:=by
 obtain ⟨v0,g0,e0⟩:=hi.name (k:=0)
 refine (VS (s:={ x with store:=v0 }) g0 hp hi9 hn).bZ (fun _=>t) (dp hb hp) ?_ ?_
 ·simp only[List.map_cons,List.map_nil,gX,jS,e0 (fun _=>t) rfl]
 ·rintro v out (⟨wH,rfl,rfl⟩ | ⟨wH,sv,rfl,hK⟩)
  ·rw[AV.cw (ik rfl rfl)]
   exact h0 wH
  ·rw[kz]
   exact hk wH _ _ (UQ hK js)
theorem Pm {s:AS} {nm t u n m o c:Nat} {x:St} {f:Nat→En} {g seed:Nat→Int} {ra rb:Bool} {cs ds:List SV} (hb:s.box t=some ⟨ra,cs⟩) (hp:cs.all SV.plain=true) (hi:aY t x.store n f cs) (hs:iH x) (hn:n*72≤140737488355328)
  (hb':s.box u=some ⟨rb,ds⟩) (hv:bE ds o m g) (hq:ds.all SV.plain=true) (hm:m≤65536) (hg:bY g) (B7:bY seed) {dst:Option Nat} {K:AS→Prop}
  (hk: ∀ sv bx c' cs',il nm n f sv bx→bR cs' 0 (45+m+32) c' (Wo (gR x seed) m g)→
   K ((⟨s.env,upd (upd s.box nm bx) (nm+1) (some ⟨true,cs'⟩),s.next⟩:AS).put dst (some (Ag (dD 0 { lg (gR x seed) with store:=sv } (.inr (.inr (nm+1,0,45+m+32,c'))) (gR x seed).se (gR x seed).ns))))):
  bZ Tryz.prog nm 18 (some [Ag (bO x),Sl u o m c,Ag (ae .u8 32 seed)]) dst K s:=by
 obtain ⟨v0,g0,e0⟩:=hi.name (k:=0)
 have es: ∀ v,gR { x with store:=v } seed={ gR x seed with store:=v }:=fun v=>by unfold gR;dsimp only;split<;>rfl
 refine (agZ (s:={ x with store:=v0 }) (c:=c) g0 hp (hs.ws v0) hn hv hq hm hg B7).aB (two t u) none (jz hb hp hb' hq) ?_ ?_
 ·have e1:AV.bh (two t u) (Ag (ae .u8 32 seed))=Ag (ae .u8 32 seed):=AV.cw (by simpa[AV.plain,CV.plain] using aw) _
  have e2:SV.bh (two t u) v0=x.store:=e0 _ rfl
  simp only[List.map_cons,List.map_nil,gX,e1,e2];rfl
 ·rintro v out ⟨sv,bx,c',cs',rfl,hK,hG,rfl⟩
  rw[es]at hG ⊢
  have k1:=js (r:=two t u) (k:=2) (nm:=nm)
  have k2:=Bv (r:=two t u) (k:=2) (nm:=nm)
  have e2:SV.bh (dt (two t u) 2 nm) (.inr (.inr (2+1,0,45+m+32,c')))= .inr (.inr (nm+1,0,45+m+32,c')):=by simp only[SV.bh,k2]
  rw[Bw,kz,e2]
  simp only[if_true,if_neg (show ¬ (2+1=2) by decide),ek hG.plain]
  exact hk _ _ c' cs' (MK hK k1) hG
theorem CL {s:St} {n m o c:Nat} {f:Nat→En} {g seed:Nat→Int} {cs ds:List SV} (h0:aY 0 s.store n f cs) (hp:cs.all SV.plain=true) (hs:iH s) (hf: ∀ i,la (f i)) (hn:n*72≤140737488355328) (hv:bE ds o m g) (hq:ds.all SV.plain=true) (hg:bY g) (B7:bY seed):
  mL Tryz.prog 6 [Ag (bO s),Sl 1 o m c,Ag (ae .u8 32 seed)] 2 2 (lk [(0,⟨false,cs⟩),(1,⟨false,ds⟩)]) (ag0 2 n s f m g seed):=by
 refine jr Tryz.func6 rfl (by kernel_rfl) [3,4] [] (by simp[Tryz.ntmps6]) Tryz.ti (by decide) (fun y hy=>by
  simp only[List.mem_cons,List.not_mem_nil,or_false]at hy
  rcases hy with rfl | rfl | rfl
  ·exact cO (h0.ok (by decide))
  ·exact (show 1 < 2 by decide)
  ·exact AV.bH (by simpa[AV.plain,CV.plain] using aw)) nq (rI hp hq) ?_
 simp only[Tryz.results6,bL,bP,fW,cU,aq,aI,az,aO,aj,ak,Tryz.vr,Value.oneCell',simprocAttr, -List.reduceReplicate]
 refine (VR (vp:=Sl 1 o m c) h0 hp hs hf (by omega) (.inr ⟨o,c,rfl,hv⟩) hq).dV (two 0 1) (jz (rw:=false) (rw':=false) (by simp only[az,aj,ak,Tryz.vr,Value.oneCell',simprocAttr, -List.reduceReplicate]) hp (by simp only[az,aj,ak,Tryz.vr,Value.oneCell',simprocAttr, -List.reduceReplicate]) hq) (OM _) ?_ ?_
 ·have e2:SV.bh (two 0 1) s.store=s.store:=h0.bh rfl
  simp only[List.map_cons,List.map_nil,gX,e2];rfl
 rcases hR:iJ s n f m with _ | i
 ·simp only[Bu,bL,bP,fW,cU,aq,aI,az,aO,aj,ak,Tryz.vr,Value.oneCell',simprocAttr, -List.reduceReplicate]
  refine ⟨by decide, ?_⟩
  simp only[bL,bP,fW,cU,aq,aI,az,aO,aj,ak,Tryz.vr,Value.oneCell',simprocAttr, -List.reduceReplicate]
  have hm:m≤65536:=by
   unfold iJ at hR
   split at hR
   ·cases hR
   ·split at hR
    ·cases hR
    ·omega
  refine Pm (t:=0) (u:=1) (ra:=false) (rb:=false) (cs:=cs) (ds:=ds) (by simp only[az,aj,ak,Tryz.vr,Value.oneCell',simprocAttr, -List.reduceReplicate]) hp h0 hs hn (by simp only[az,aj,ak,Tryz.vr,Value.oneCell',simprocAttr, -List.reduceReplicate]) hv hq hm hg B7 ?_
  intro sv bx c' cs' hK hG
  simp only[bL,bP,fW,cU,aq,aI,az,aO,aj,ak,Tryz.vr,Value.oneCell',simprocAttr, -List.reduceReplicate]
  exact jn (tI (q:=28) (p:=27) (by decide) (by decide) (by decide) (by simp only[az,aj,ak,Tryz.vr,Value.oneCell',simprocAttr, -List.reduceReplicate]) (by simp only[az,aj,ak,Tryz.vr,Value.oneCell',simprocAttr, -List.reduceReplicate]) hK hG) (fun v out h=> .inr ⟨hR,h⟩)
 ·simp only[Bu,mS,bL,bP,fW,cU,aq,aI,az,aO,aj,ak,Tryz.vr,Value.oneCell',simprocAttr, -List.reduceReplicate]
  refine ⟨by decide, ?_⟩
  simp only[bL,bP,fW,cU,aq,aI,az,aO,aj,ak,Tryz.vr,Value.oneCell',simprocAttr, -List.reduceReplicate]
  have hi:=Um hR
  refine CK (t:=0) (rw:=false) (i:=i) (cs:=cs) (by simp only[az,aj,ak,Tryz.vr,Value.oneCell',simprocAttr, -List.reduceReplicate]) hp h0 (by omega) (fun _=>hn) (fun wH=> ?_) (fun wH sv bx hK=> ?_)
  ·simp only[bL,bP,fW,cU,aq,aI,az,aO,aj,ak,Tryz.vr,Value.oneCell',simprocAttr, -List.reduceReplicate]
   exact Cb (q:=0) (ik rfl rfl) (.inl ⟨i,hR, .inl ⟨wH,rfl,rfl⟩⟩)
  ·simp only[bL,bP,fW,cU,aq,aI,az,aO,aj,ak,Tryz.vr,Value.oneCell',simprocAttr, -List.reduceReplicate]
   exact Wp (fun v=>Ag (dD (pw i) { s with store:=v } (.inl (.slice none 0 0)) 0 0)) (fun r v=>kz) (fun M v hv=>v9 hv (SV.bH rfl)) (q:=23) (by decide) (by simp only[az,aj,ak,Tryz.vr,Value.oneCell',simprocAttr, -List.reduceReplicate]) hK fun wA out h=> .inl ⟨i,hR, .inr ⟨wH,wA,rfl,h⟩⟩
end Go.Proofs.YtoakenpcooglpaaGreatDoor
namespace Go.Proofs.YtoakenpcooglpaaGreatDoor
set_option maxHeartbeats 8000000
set_option maxRecDepth 20000
open Go.cA
set_option linter.unusedSectionVars false
variable [aX]
def ag1 (k n:Nat) (s:St) (f:Nat→En) (x:Int) (v:AV) (out:Nat→Option aW):Prop:=
 (x=1∧v=Ag (dD 1 stZ (.inl (.slice none 0 0)) 0 0)∧out=fun _=>none)∨
  (x≠1∧ ∃ c cs,v=Ag (dD x { s with store:= .inr (.inr (k,0,n,c)) } (.inl (.slice none 0 0)) 0 0)∧df cs 0 n c f∧out=lk [(k,⟨true,cs⟩)])
theorem M6 {s:AS} {k q n c:Nat} {x:Int} {y:St} {cs:List SV} {Post:AV→(Nat→Option aW)→Prop} (hq:k≤q) (hb:s.box q=some ⟨true,cs⟩) (hp:cs.all SV.plain=true)
  (h:Post (Ag (dD x { y with store:= .inr (.inr (k,0,n,c)) } (.inl (.slice none 0 0)) 0 0)) (lk [(k,⟨true,cs⟩)])):Ct k Post (Ag (dD x { y with store:= .inr (.inr (q,0,n,c)) } (.inl (.slice none 0 0)) 0 0)) s:=by
 refine ⟨q,Ag (dD x { y with store:= .inr (.inr (k,0,n,c)) } (.inl (.slice none 0 0)) 0 0),lk [(k,⟨true,cs⟩)],hq, ?_,v9 ⟨Nat.lt_succ_self k,rfl⟩ (SV.bH rfl),fun m b hm=> ?_,h⟩
 ·rw[kz];simp only[SV.bh,kM]
 ·obtain ⟨rfl,rfl⟩:=tw hm
  exact ⟨Nat.lt_succ_self _,fun _=>rfl,aJ hp,⟨true,cs⟩,by rw[kM];exact hb,fun h=>h,(bj hp _).symm⟩
theorem Hv {s:St} {n:Nat} {x:Int} {f:Nat→En} {cs:List SV} (h0:aY 0 s.store n f cs) (hp:cs.all SV.plain=true) (hn:x≠1→n*72≤140737488355328):
  bt Tryz.prog 22 [I .i64 x,Ag (bO s)] 1 (lk [(0,⟨false,cs⟩)]) (ag1 1 n s f x):=by
 refine aE Tryz.func22 rfl (by kernel_rfl) (by simp[Tryz.ntmps22]) Tryz.qa (fun y hy=>by
  simp only[List.mem_cons,List.not_mem_nil,or_false]at hy
  rcases hy with rfl | rfl
  ·trivial
  ·exact cO (h0.ok (by decide))) eG (eH hp) ?_
 simp only[Tryz.results22,bL,bP,fW,cU,aq,aI,Tryz.vr,Value.oneCell',simprocAttr, -List.reduceReplicate]
 refine dC (fun h=> ?_) (fun h=> ?_)
 ·obtain rfl:x=1:=by simpa using h
  simp only[bL,bP,fW,cU,aq,aI,Tryz.vr,Value.oneCell',simprocAttr, -List.reduceReplicate]
  exact aC (ik rfl rfl) (.inl ⟨rfl,rfl,rfl⟩)
 have hx:x≠1:=by simpa using h
 have hn':=hn hx
 simp only[bL,bP,fW,cU,zL0,zEn,Ov,Fq,abH,fK,aq,aI,Tryz.vr,Value.oneCell',simprocAttr, -List.reduceReplicate]
 have g0:df [] 0 0 0 f:=⟨rfl,by decide,rfl,fun i hi=>by omega⟩
 rcases h0 with ⟨⟨a,e0⟩,rfl⟩ | ⟨o,c,e0,hc,hs⟩
 ·rw[e0]
  refine Ft (lM:=72) Tryz.rT Tryz.rS (by simp only[af,Tryz.vr,Value.oneCell',simprocAttr, -List.reduceReplicate]) g0 (by decide) (by decide) ?_
  intro c1 mT g1
  simp only[bL,bP,fW,cU,aq,aI,Tryz.vr,Value.oneCell',simprocAttr, -List.reduceReplicate]
  exact M6 (q:=8) (by decide) (by simp only[af,Tryz.vr,Value.oneCell',simprocAttr, -List.reduceReplicate]) g1.plain (.inr ⟨hx,c1,mT,rfl,g1,rfl⟩)
 ·rw[e0]
  refine rY (lM:=72) (rw:=false) Tryz.rT Tryz.rS (by simp only[af,Tryz.vr,Value.oneCell',simprocAttr, -List.reduceReplicate]) g0 (by simp only[af,Tryz.vr,Value.oneCell',simprocAttr, -List.reduceReplicate]) (by decide) hs (by omega) (by omega) ?_
  intro c1 mT g1
  replace g1:df mT 0 n c1 f:=g1.congr (Nat.zero_add n) (fun i hi=>by rw[if_neg (by omega)];rfl)
  simp only[bL,bP,fW,cU,aq,aI,Tryz.vr,Value.oneCell',simprocAttr, -List.reduceReplicate]
  exact M6 (q:=8) (by decide) (by simp only[af,Tryz.vr,Value.oneCell',simprocAttr, -List.reduceReplicate]) g1.plain (.inr ⟨hx,c1,mT,rfl,g1,rfl⟩)
end Go.Proofs.YtoakenpcooglpaaGreatDoor
namespace Go.Proofs.YtoakenpcooglpaaGreatDoor
set_option maxHeartbeats 8000000
set_option maxRecDepth 20000
open Go.cA
set_option linter.unusedSectionVars false
variable [aX]
theorem aaT (x:Int):bt Tryz.prog 53 [I .u32 x] 0 (fun _=>none) (xY 0 4 (iI x)):=by
 refine aE Tryz.func53 rfl (by kernel_rfl) (by simp[Tryz.ntmps53]) Tryz.mc (by simp[AV.ok,CV.ok,SV.names]) xQ xR ?_
 simp only[Tryz.results53,Tryz.vs,Value.oneCell',simprocAttr, -List.reduceReplicate]
 have e3:IntKind.u8.wrap x=iI x 3:=by simp[iI,VV]
 refine ⟨by decide,by decide,by decide,by decide, ?_⟩
 refine dS (k:=0) (q:=12) (cs:=ae .u8 4 (iI x)) (by decide) ?_ aw ⟨rfl,rfl⟩
 rw[e3]
 simp only[ax]
 rfl
theorem rr {s:AS} {nm:Nat} {x:Int} {dst:Option Nat} {K:AS→Prop} (hk:K ((⟨s.env,upd s.box nm (some ⟨true,ae .u8 4 (iI x)⟩),s.next⟩:AS).put dst (some (Sl nm 0 4 4)))):aB Tryz.prog nm 53 (some [I .u32 x]) dst K s:=
 jd (aaT x) (fun n=>n) gI rfl hk
theorem aaU {cQ:Nat→Int} {pn n:Int} {i:Nat} (h:i < 41):aR 37 (aR 33 (aR 1 (fun _=>210) cQ) (iI pn)) (iI n) i=Np cQ pn n i:=by
 have e:Np cQ pn n i=aR 41 (aR 37 (aR 33 (aR 1 (fun _=>210) cQ) (iI pn)) (iI n)) (iI ((0:Nat):Int)) i:=by
  unfold Np U6
  rw[aR,if_pos (by omega),aR,if_pos (by omega)]
 rw[e]
 conv=>rhs;rw[aR,if_pos h]
theorem F7 {cQ:Nat→Int} {pn n:Int}:bt Tryz.prog 28 [Ag (kU cQ pn n)] 0 (fun _=>none) (Made 0 41 (Np cQ pn n)):=by
 refine aE Tryz.func28 rfl (by kernel_rfl) (by simp[Tryz.ntmps28]) Tryz.qd (fun y hy=>by
  obtain rfl:=List.mem_singleton.1 hy
  exact AV.bH jG) (fun n hn=>by omega) (fun n b hb=>by cases hb) ?_
 simp only[Tryz.results28,br,dL,Tryz.vr,Value.oneCell',simprocAttr, -List.reduceReplicate]
 have g1:bR [Sum.inl (.int .u8 210)] 0 1 1 (fun _=>210):=⟨rfl,by decide,rfl,b7⟩
 refine bn (m:=32) (g:=cQ) Tryz.bS Tryz.bW (by simp only[af,Tryz.vr,Value.oneCell',simprocAttr, -List.reduceReplicate]) g1 (.inr ⟨0,0,32,true,kU cQ pn n,rfl,by simp only[af,Tryz.vr,Value.oneCell',simprocAttr, -List.reduceReplicate],Wb,by decide⟩) (by omega) ?_
 intro c2 kZ g2
 simp only[br,Tryz.vr,Value.oneCell',simprocAttr, -List.reduceReplicate]
 refine rr ?_
 simp only[Tryz.vr,Value.oneCell',simprocAttr, -List.reduceReplicate]
 refine bn (m:=4) (g:=iI pn) Tryz.bS Tryz.bW (by simp only[af,Tryz.vr,Value.oneCell',simprocAttr, -List.reduceReplicate]) g2 (.inr ⟨12,0,4,true,_,rfl,by simp only[af,Tryz.vr,Value.oneCell',simprocAttr, -List.reduceReplicate],aP,by decide⟩) (by omega) ?_
 intro c3 tt g3
 simp only[br,Tryz.vr,Value.oneCell',simprocAttr, -List.reduceReplicate]
 refine rr ?_
 simp only[Tryz.vr,Value.oneCell',simprocAttr, -List.reduceReplicate]
 refine bn (m:=4) (g:=iI n) Tryz.bS Tryz.bW (by simp only[af,Tryz.vr,Value.oneCell',simprocAttr, -List.reduceReplicate]) g3 (.inr ⟨_,0,4,true,_,rfl,by simp only[af,Tryz.vr,Value.oneCell',simprocAttr, -List.reduceReplicate],aP,by decide⟩) (by omega) ?_
 intro c4 Cn g4
 simp only[Tryz.vr,Value.oneCell',simprocAttr, -List.reduceReplicate]
 have g5:bR Cn 0 41 c4 (Np cQ pn n):=g4.congr rfl (fun i hi=>aaU hi)
 refine dS (k:=0) (cs:=Cn) (by decide) ?_ g5.plain g5.made
 simp only[af,Tryz.vr,Value.oneCell',simprocAttr, -List.reduceReplicate]
theorem pG {s:AS} {nm:Nat} {cQ:Nat→Int} {pn n:Int} {dst:Option Nat} {K:AS→Prop}
  (hk: ∀ c cs,bR cs 0 41 c (Np cQ pn n)→K ((⟨s.env,upd s.box nm (some ⟨true,cs⟩),s.next⟩:AS).put dst (some (Sl nm 0 41 c)))):bZ Tryz.prog nm 28 (some [Ag (kU cQ pn n)]) dst K s:=by
 refine (F7 (cQ:=cQ) (pn:=pn) (n:=n)).bZ (fun n=>n) gI ?_ ?_
 ·simp only[List.map_cons,List.map_nil,AV.cw jG]
 ·rintro v out ⟨c,tail,rfl,rfl,h1,h2,h3⟩
  have l0:lk [(0,(⟨true,ae .u8 41 (Np cQ pn n)++tail⟩:aW))] 0=some ⟨true,ae .u8 41 (Np cQ pn n)++tail⟩:=rfl
  have e:AV.bh (dt (fun n=>n) 0 nm) (Sl 0 0 41 c)=Sl nm 0 41 c:=by show Sl (dt _ 0 nm 0) 0 41 c=_;rw[js]
  rw[l0,ek (cH h3),e]
  exact hk c _ (bR.row h1 h2 h3)
theorem Hw {s:AS} {nm:Nat} {cQ:Nat→Int} {pn n:Int} {dst:Option Nat} {K:AS→Prop}
  (hk: ∀ c cs,bR cs 0 41 c (Np cQ pn n)→K ((⟨s.env,upd s.box nm (some ⟨true,cs⟩),s.next⟩:AS).put dst (some (Sl nm 0 41 c)))):aB Tryz.prog nm 28 (some [Ag (kU cQ pn n)]) dst K s:=
 dW (F7 (cQ:=cQ) (pn:=pn) (n:=n)) (fun n=>n) gI (by simp only[List.map_cons,List.map_nil,AV.cw jG]) (fun c tail h1 h2 h3=>hk c _ (bR.row h1 h2 h3))
theorem Pn {cQ tag body:Nat→Int} {pn n:Int} {m:Nat} {sv:SV} {cs:List SV} (hp:cs.all SV.plain=true) (hb:eD 0 (.inl (.inl sv)) m body cs) (hm:m≤65536):
  bt Tryz.prog 29 [Ag (iW cQ pn n sv tag)] 1 (lk [(0,⟨false,cs⟩)]) (Made 1 (45+m+32) (U6 cQ pn n m body tag)):=by
 refine aE Tryz.func29 rfl (by kernel_rfl) (by simp[Tryz.ntmps29]) Tryz.qe (fun u hu=>by
  obtain rfl:=List.mem_singleton.1 hu
  exact Hl (sy hb (by decide))) eG (eH hp) ?_
 have lenb:=fun {box:Nat→Option aW} (h:bC box (.inl (.inl sv)) m body)=>at_len h
 have Co:bC (lk [(0,(⟨false,cs⟩:aW))]) (.inl (.inl sv)) m body:=hb.at (t:=0) rfl hp
 have l1:decide ((m:Int) > 65536)=false:=decide_eq_false (by omega)
 have l2:decide ((65536:Int) < (m:Int))=false:=decide_eq_false (by omega)
 have hw:IntKind.u32.wrap (m:Int)=(m:Int):=kN _ (by omega) (by omega)
 simp only[Tryz.results29,br,lenb Co,l1,l2,dL,Tryz.vr,Value.oneCell',simprocAttr, -List.reduceReplicate]
 refine Hw ?_
 intro c1 mT g1
 simp only[br,lenb Co,hw,Tryz.vr,Value.oneCell',simprocAttr, -List.reduceReplicate]
 refine rr ?_
 simp only[Tryz.vr,Value.oneCell',simprocAttr, -List.reduceReplicate]
 refine bn (m:=4) (g:=iI m) Tryz.bS Tryz.bW (by simp only[af,Tryz.vr,Value.oneCell',simprocAttr, -List.reduceReplicate]) g1 (.inr ⟨_,0,4,true,_,rfl,by simp only[af,Tryz.vr,Value.oneCell',simprocAttr, -List.reduceReplicate],aP,by decide⟩) (by omega) ?_
 intro c2 kZ g2
 simp only[br,Tryz.vr,Value.oneCell',simprocAttr, -List.reduceReplicate]
 refine bn (m:=m) (g:=body) Tryz.bS Tryz.bW (by simp only[af,Tryz.vr,Value.oneCell',simprocAttr, -List.reduceReplicate]) g2 (lA (k:=1) Co (hb.ok (by decide)) (by decide) (fun t ht=> ?_)) (by omega) ?_
 ·obtain rfl:t=0:=by omega
  simp only[af,Tryz.vr,Value.oneCell',simprocAttr, -List.reduceReplicate]
 intro c3 tt g3
 simp only[br,Tryz.vr,Value.oneCell',simprocAttr, -List.reduceReplicate]
 refine bn (m:=32) (g:=tag) Tryz.bS Tryz.bW (by simp only[af,Tryz.vr,Value.oneCell',simprocAttr, -List.reduceReplicate]) g3 (.inr ⟨1,35,32,true,iW cQ pn n sv tag,rfl,by simp only[af,Tryz.vr,Value.oneCell',simprocAttr, -List.reduceReplicate],sx,by decide⟩) (by omega) ?_
 intro c4 Cn g4
 simp only[Tryz.vr,Value.oneCell',simprocAttr, -List.reduceReplicate]
 have e:aR 41 (Np cQ pn n) (iI m)=aR 41 (aR 37 (aR 33 (aR 1 (fun _=>210) cQ) (iI pn)) (iI n)) (iI m):=funext fun i=>by
  rcases Nat.lt_or_ge i 41 with h | h
  ·conv=>lhs;rw[aR,if_pos h, ← aaU h]
   conv=>rhs;rw[aR,if_pos h]
  ·conv=>lhs;rw[aR,if_neg (by omega)]
   conv=>rhs;rw[aR,if_neg (by omega)]
 rw[e]at g4
 refine dS (k:=1) (cs:=Cn) (by decide) ?_ g4.plain g4.made
 simp only[af,Tryz.vr,Value.oneCell',simprocAttr, -List.reduceReplicate]
theorem pH {s:AS} {nm t m:Nat} {cQ tag body:Nat→Int} {pn n:Int} {sv:SV} {cs:List SV} {rw:Bool} (hb:s.box t=some ⟨rw,cs⟩) (hp:cs.all SV.plain=true) (hv:eD t (.inl (.inl sv)) m body cs) (hm:m≤65536) {dst:Option Nat} {K:AS→Prop}
  (hk: ∀ c cs',bR cs' 0 (45+m+32) c (U6 cQ pn n m body tag)→K ((⟨s.env,upd s.box nm (some ⟨true,cs'⟩),s.next⟩:AS).put dst (some (Sl nm 0 (45+m+32) c)))):
  aB Tryz.prog nm 29 (some [Ag (iW cQ pn n sv tag)]) dst K s:=by
 obtain ⟨Hh,h0,rfl⟩:=O' hv
 exact dW (Pn (cQ:=cQ) (tag:=tag) (pn:=pn) (n:=n) hp h0 hm) (fun _=>t) (dp hb hp) (by simp only[List.map_cons,List.map_nil,BV]) (fun c tail h1 h2 h3=>hk c _ (bR.row h1 h2 h3))
end Go.Proofs.YtoakenpcooglpaaGreatDoor
namespace Go.cA
def sI (f:Nat→Nat→Int) (j:Nat):Int:=f (j / 32) (j%32)
structure jo (cs:List SV) (n c:Nat) (f:Nat→Nat→Int):Prop where
 len:cs.length=c*32
 room:n≤c
 plain:cs.all SV.plain=true
 ez:bE cs 0 (n*32) (sI f)
theorem jo.key {cs:List SV} {n c:Nat} {f:Nat→Nat→Int} (h:jo cs n c f) {i:Nat} (hi:i < n):bE cs (i*32) 32 (f i):=fun j hj=>by
 have:=h.ez (i*32+j) (by omega)
 rw[Nat.zero_add]at this
 rw[this]
 unfold sI
 rw[show (i*32+j) / 32=i by omega,show (i*32+j)%32=j by omega]
theorem Po {n:Nat} {f:Nat→Nat→Int} {key:Nat→Int} {i:Nat} (hi:i < n*32+32):(if i < n*32 then sI f i else key (i - n*32))=sI (upd f n key) i:=by
 unfold sI upd
 split
 ·rename_i h;rw[if_neg (by omega)]
 ·rename_i h;rw[if_pos (by omega),show i - n*32=i%32 by omega]
theorem jo.snoc {n c:Nat} {f:Nat→Nat→Int} {key:Nat→Int} {tail:List SV} (h1:n+1≤c) (h2:tail.length=(c - (n+1))*32) (h3:tail.all SV.plain=true):
  jo (ae .u8 (n*32) (sI f)++ae .u8 32 key++tail) (n+1) c (upd f n key):=by
 rw[I1]
 refine ⟨by rw[List.length_append,ah,h2];omega,h1,cH h3,fun i hi=> ?_⟩
 have hi':i < n*32+32:=by omega
 rw[cV i hi',Po hi']
theorem acC:iw (List.replicate 32 (Value.int IntKind.u8 0)) 32=ae .u8 32 (fun _=>0):=by rfl
theorem Hx:(List.replicate 32 (Value.int IntKind.u8 0)).length=32:=by rfl
section
variable {P:Program} [Tables P]
def kyZ:List Value:=List.replicate 32 (Value.int IntKind.u8 0)
theorem M7 {t tx:Nat} (hk:ru P t=some (kyZ,32,32)) (hx:ln P tx=some (none,32)) {s:AS} {nm b u n c c0:Nat} {f:Nat→Nat→Int} {key:Nat→Int} {cs:List SV} {rw:Bool} (hb:s.box b=some ⟨true,cs⟩) (hg:jo cs n c f)
  (hb':s.box u=some ⟨rw,ae .u8 32 key⟩) (hne:b≠u) (hby:(n+1)*32≤140737488355328) {ty:TypeId} {ct:Array Bool} {dst:Option Nat} {K:AS→Prop}
  (hK: ∀ c' cs',jo cs' (n+1) c' (upd f n key)→K ((⟨s.env,upd (upd s.box b none) nm (some ⟨true,cs'⟩),s.next⟩:AS).put dst (some (Sl nm 0 (n+1) c')))):
  cC P nm .append #[t,tx] ty ct (some [Sl b 0 n c,Sl u 0 1 c0]) dst K s:=
 hH (m:=1) (olds:=ae .u8 (n*32) (sI f)) (news:=ae .u8 32 key) (sz:=32) hk hx rfl (by decide) (by decide) hb (by rw[hg.len,Nat.zero_add]) hg.room (ah _ _ _) (fk hg.ez) hg.plain
  (.inl ⟨u,0,c0,_,rfl,hb',ah _ _ _,fun j v h=>by rw[Nat.zero_add];exact h,by simpa using hne⟩) (by omega) hby (fun c' tail h1 h2 h3=>hK c' _ (jo.snoc h1 h2 h3))
theorem F8 {t tx:Nat} (hk:ru P t=some (kyZ,32,32)) (hx:ln P tx=some (none,32)) {s:AS} {nm u c0:Nat} {key:Nat→Int} {rw:Bool}
  (hb':s.box u=some ⟨rw,ae .u8 32 key⟩) {f:Nat→Nat→Int} {ty:TypeId} {ct:Array Bool} {dst:Option Nat} {K:AS→Prop}
  (hK: ∀ c' cs',jo cs' 1 c' (upd f 0 key)→K ((⟨s.env,upd s.box nm (some ⟨true,cs'⟩),s.next⟩:AS).put dst (some (Sl nm 0 1 c')))):
  cC P nm .append #[t,tx] ty ct (some [V (.slice none 0 0),Sl u 0 1 c0]) dst K s:=
 gJ (m:=1) (news:=ae .u8 32 key) (sz:=32) hk hx rfl (by decide) (by decide)
  (.inl ⟨u,0,c0,_,rfl,hb',ah _ _ _,fun j v h=>by rw[Nat.zero_add];exact h,by simp⟩) (by decide) (by decide) (fun h=>absurd h (by decide))
  (fun _ c' tail h1 h2 h3=>hK c' _ (by have:=jo.snoc (n:=0) (f:=f) (key:=key) h1 h2 h3;rwa [show ae .u8 (0*32) (sI f)=[] from rfl,List.nil_append]at this))
end
end Go.cA
namespace Go.Proofs.YtoakenpcooglpaaGreatDoor
set_option maxHeartbeats 8000000
set_option maxRecDepth 20000
open Go.cA
set_option linter.unusedSectionVars false
variable [aX]
def chN (ch:Nat→Int):Nat→(Nat→Int)
 | 0=>ch
 | k+1=>sN (chN ch k) 2
theorem Vk {ch:Nat→Int} (h:bY ch): ∀ k,bY (chN ch k)
 | 0=>h
 | k+1=>sH _ _
def acD (ch:Nat→Int) (i:Nat):Nat→Int:=sN (chN ch i) 1
def afm (ch:Nat→Int) (n i:Nat):Nat→Int:=if i < n then acD ch i else chN ch n
theorem ke {cs:List SV} {n c:Nat} {f g:Nat→Nat→Int} (h:jo cs n c f) (e: ∀ i,i < n→f i=g i):jo cs n c g:=
 ⟨h.len,h.room,h.plain,fun i hi=>by rw[h.ez i hi];unfold sI;rw[e (i / 32) (by omega)]⟩
def aka (k n:Nat) (ch:Nat→Int) (v:AV) (out:Nat→Option aW):Prop:= ∃ c cs,v=Sl k 0 (n+1) c∧jo cs (n+1) c (afm ch n)∧out=lk [(k,⟨true,cs⟩)]
def wkS (n:Nat) (ch:Nat→Int) (k:Nat) (v5:AV) (l:List (Nat×aW)):AS:=ou [(1,I .i64 n),(2,Ptr 0 0),(5,v5),(6,I .i64 k)] (l++[(0,⟨true,ae .u8 32 (chN ch k)⟩)]) 100
def WkI (n:Nat) (ch:Nat→Int) (k:Nat) (t:AS):Prop:=
 (k=0∧t=wkS n ch 0 (V (.slice none 0 0)) [])∨(0 < k∧ ∃ c cs,jo cs k c (acD ch)∧t=wkS n ch k (Sl 60 0 k c) [(60,⟨true,cs⟩)])
theorem ag2 {ch:Nat→Int} {n:Nat} (hc:bY ch) (hn:n < 1000000):bt Tryz.prog 26 [Ag (ae .u8 32 ch),I .i64 n] 0 (fun _=>none) (aka 0 n ch):=by
 refine aE Tryz.func26 rfl (by kernel_rfl) (by simp[Tryz.ntmps26]) Tryz.qb (fun y hy=>by
  simp only[List.mem_cons,List.not_mem_nil,or_false]at hy
  rcases hy with rfl | rfl
  ·exact AV.bH (by simpa[AV.plain,CV.plain] using aw)
  ·trivial) (fun n hn=>by omega) (fun n b hb=>by cases hb) ?_
 simp only[Tryz.results26,Tryz.vr,Value.oneCell',simprocAttr, -List.reduceReplicate]
 refine ZB n (WkI n ch) ?_ ?_ ?_ ?_
 ·rintro k t (⟨rfl,rfl⟩ | ⟨_,c,cs,_,rfl⟩)<;>exact Nat.le_of_ble_eq_true rfl
 ·refine ⟨_, .inl ⟨rfl,rfl⟩,eI.dv (p:=60) (q:=60) ⟨Nat.le_of_ble_eq_true rfl, .inr (abG (show 0≠60 by decide)),agb ⟨rfl,trivial⟩ ⟨rfl,show 0 < 100 by decide⟩ ⟨rfl,trivial⟩ ⟨rfl,trivial⟩,abG ⟨.inl (Nat.lt_of_lt_of_le Nat.zero_lt_one (Nat.le_of_ble_eq_true rfl)),rfl,show 0 < 100 by decide, .inl aw⟩⟩⟩
 ·rintro k t hk (⟨rfl,rfl⟩ | ⟨h0,c,cs,hg,rfl⟩)
  ·simp only[wkS,List.nil_append,fE,Tryz.vr,Value.oneCell',simprocAttr, -List.reduceReplicate]
   refine aD (by simp;omega) ?_
   simp only[Tryz.vr,Value.oneCell',simprocAttr, -List.reduceReplicate]
   refine (mM (chN ch 0) (Vk hc 0)).aB ?_
   simp only[sf,acC,Hx,Tryz.vr,Value.oneCell',simprocAttr, -List.reduceReplicate]
   refine F8 (f:=acD ch) (key:=sN (chN ch 0) 1) (rw:=true) Tryz.ES Tryz.ER (by simp only[af,Tryz.vr,Value.oneCell',simprocAttr, -List.reduceReplicate]) ?_
   intro c1 mT g1
   simp only[Tryz.vr,Value.oneCell',simprocAttr, -List.reduceReplicate]
   refine ⟨_, .inr ⟨by decide,c1,mT,ke g1 (fun i hi=> ?_),rfl⟩,eI.dv (p:=60) (q:=115) ⟨Nat.le_of_ble_eq_true rfl, .inl (Nat.le_of_ble_eq_true rfl),agb ⟨rfl,trivial⟩ ⟨rfl,show 0 < 100 by decide⟩ ⟨rfl,show 60 < 100 by decide⟩ ⟨rfl,trivial⟩,ajk ⟨.inr rfl,by simp only[af,Tryz.vr,Value.oneCell',simprocAttr, -List.reduceReplicate],show 60 < 100 by decide, .inl g1.plain⟩ ⟨.inl (Nat.lt_of_lt_of_le Nat.zero_lt_one (Nat.le_of_ble_eq_true rfl)),by simp only[af,Tryz.vr,Value.oneCell',simprocAttr, -List.reduceReplicate];rfl,show 0 < 100 by decide, .inl aw⟩⟩⟩
   obtain rfl:i=0:=by omega
   exact ax _ _ _
  ·simp only[wkS,List.cons_append,List.nil_append,fE,Tryz.vr,Value.oneCell',simprocAttr, -List.reduceReplicate]
   refine aD (by simp;omega) ?_
   simp only[Tryz.vr,Value.oneCell',simprocAttr, -List.reduceReplicate]
   refine (mM (chN ch k) (Vk hc k)).aB ?_
   simp only[sf,acC,Hx,Tryz.vr,Value.oneCell',simprocAttr, -List.reduceReplicate]
   refine M7 (key:=sN (chN ch k) 1) (rw:=true) Tryz.ES Tryz.ER (by simp only[af,Tryz.vr,Value.oneCell',simprocAttr, -List.reduceReplicate]) hg (by simp only[af,Tryz.vr,Value.oneCell',simprocAttr, -List.reduceReplicate]) (by decide) (by omega) ?_
   intro c1 mT g1
   simp only[Tryz.vr,Value.oneCell',simprocAttr, -List.reduceReplicate]
   refine ⟨_, .inr ⟨by omega,c1,mT,ke g1 (fun i hi=> ?_),rfl⟩,eI.dv (p:=60) (q:=115) ⟨Nat.le_of_ble_eq_true rfl, .inl (Nat.le_of_ble_eq_true rfl),agb ⟨rfl,trivial⟩ ⟨rfl,show 0 < 100 by decide⟩ ⟨rfl,show 60 < 100 by decide⟩ ⟨?_,trivial⟩,ajk ⟨.inr rfl,by simp only[af,Tryz.vr,Value.oneCell',simprocAttr, -List.reduceReplicate],show 60 < 100 by decide, .inl g1.plain⟩ ⟨.inl (Nat.lt_of_lt_of_le Nat.zero_lt_one (Nat.le_of_ble_eq_true rfl)),by simp only[af,Tryz.vr,Value.oneCell',simprocAttr, -List.reduceReplicate];rfl,show 0 < 100 by decide, .inl aw⟩⟩⟩
   ·unfold upd;split
    ·rename_i e;subst e;rfl
    ·rfl
   ·simp only[af,Tryz.vr,Value.oneCell',simprocAttr, -List.reduceReplicate]
    rw[bD k (by omega)]
    rfl
 ·rintro t (⟨rfl,rfl⟩ | ⟨h0,c,cs,hg,rfl⟩)
  ·simp only[wkS,List.nil_append,fE,Tryz.vr,Value.oneCell',simprocAttr, -List.reduceReplicate]
   refine aH (by simp) ?_
   simp only[acC,Hx,Tryz.vr,Value.oneCell',simprocAttr, -List.reduceReplicate]
   refine F8 (f:=acD ch) (key:=chN ch 0) (rw:=true) Tryz.ES Tryz.ER (by simp only[af,Tryz.vr,Value.oneCell',simprocAttr, -List.reduceReplicate]) ?_
   intro c1 mT g1
   simp only[Tryz.vr,Value.oneCell',simprocAttr, -List.reduceReplicate]
   refine dS (k:=0) (cs:=mT) (by decide) (by simp only[af,Tryz.vr,Value.oneCell',simprocAttr, -List.reduceReplicate]) g1.plain ⟨c1,mT,rfl,ke g1 (fun i hi=> ?_),rfl⟩
   obtain rfl:i=0:=by omega
   exact ax _ _ _
  ·simp only[wkS,List.cons_append,List.nil_append,fE,Tryz.vr,Value.oneCell',simprocAttr, -List.reduceReplicate]
   refine aH (by simp) ?_
   simp only[acC,Hx,Tryz.vr,Value.oneCell',simprocAttr, -List.reduceReplicate]
   refine M7 (key:=chN ch n) (rw:=true) Tryz.ES Tryz.ER (by simp only[af,Tryz.vr,Value.oneCell',simprocAttr, -List.reduceReplicate]) hg (by simp only[af,Tryz.vr,Value.oneCell',simprocAttr, -List.reduceReplicate]) (by decide) (by omega) ?_
   intro c1 mT g1
   simp only[Tryz.vr,Value.oneCell',simprocAttr, -List.reduceReplicate]
   refine dS (k:=0) (cs:=mT) (by decide) (by simp only[af,Tryz.vr,Value.oneCell',simprocAttr, -List.reduceReplicate]) g1.plain ⟨c1,mT,rfl,ke g1 (fun i hi=> ?_),rfl⟩
   unfold upd afm;split
   ·rename_i e;subst e;rw[if_neg (by omega)]
   ·rw[if_pos (by omega)]
end Go.Proofs.YtoakenpcooglpaaGreatDoor
namespace Go.Proofs.YtoakenpcooglpaaGreatDoor
open Go.cA
set_option linter.unusedSectionVars false
variable [aX]
theorem pI {s:AS} {nm na n:Nat} {va vd:AV} {mk ad f:Nat→Int} (hmk:bY mk) (ha:bY ad) (hf:bY f) (hva:bC s.box va na ad) (hvd:bC s.box vd n f) (agY: ¬ (1048576 < na∨1048576 < n)) {dst:Option Nat} {K:AS→Prop}
  (hk: ∀ sv bx,(∀ b2:Nat→Option aW,b2 nm=bx→bC b2 (.inl (.inl sv)) n (fz mk f))→K ((⟨s.env,upd s.box nm bx,s.next⟩:AS).put dst (some (Ag (sv::ae .u8 32 (F4 mk na n ad (fz mk f))))))):
  bZ Tryz.prog nm 27 (some [Ag (ae .u8 32 mk),va,vd]) dst K s:=by
 obtain ⟨k1,l1,r1,v1,q1,P1,A1,e1,_⟩:=kE (s:=s) oB (by decide) hvd
 obtain ⟨k2,l2,r2,v2,q2,P2,A2,e2,T2⟩:=kE P1 (by omega) hva
 obtain ⟨B1,f1⟩:=T2 _ _ _ A1
 refine (Wn P2.good hmk ha hf A2 B1 agY).bZ r2 P2.fits (by simp only[List.map_cons,List.map_nil,fV,e2,f1,e1]) ?_
 rintro v out (⟨g0,rfl,rfl⟩ | ⟨c,tail,rfl,rfl,g1,g2,g3⟩)
 ·have e': ∀ T:Nat→Int,AV.bh (dt r2 k2 nm) (Ag (Sum.inl (.slice none 0 0)::ae .u8 32 T))=Ag (Sum.inl (.slice none 0 0)::ae .u8 32 T):=fun T=>by
   show AV.bh _ (.inl (.inr _))=_
   simp only[AV.bh,CV.bh,List.map_cons,bj aw];rfl
  rw[e']
  exact hk (.inl (.slice none 0 0)) none (fun _ _=> .inl ⟨⟨none,rfl⟩,g0⟩)
 ·have l0:lk [(k2,(⟨true,ae .u8 n (fz mk f)++tail⟩:aW))] k2=some ⟨true,ae .u8 n (fz mk f)++tail⟩:=by simp[lk]
  rw[l0,ek (cH g3),rq,js]
  exact hk (.inr (.inr (nm,0,n,c))) _ (fun b2 sW=> .inr ⟨nm,0,c,true,_,rfl,sW,cH g3,cV⟩)
theorem Cc {s:AS} {nm:Nat} {ch:Nat→Int} (hc:bY ch) {dst:Option Nat} {K:AS→Prop}
  (hk: ∀ c cs',cs'.all SV.plain=true→List.take 32 cs'=ae .u8 32 (sN ch 1)→List.take 32 (List.drop 32 cs')=ae .u8 32 (sN ch 2)→64≤cs'.length→2≤c→K ((⟨s.env,upd s.box nm (some ⟨true,cs'⟩),s.next⟩:AS).put dst (some (Sl nm 0 2 c)))):
  aB Tryz.prog nm 26 (some [Ag (ae .u8 32 ch),I .i64 1]) dst K s:=by
 refine (ag2 (ch:=ch) (n:=1) hc (by decide)).aB (fun n=>n) none gI ?_ ?_
 ·simp only[List.map_cons,List.map_nil,fV];rfl
 ·rintro v out ⟨c,cs,rfl,hg,rfl⟩ _
  have e:AV.bh (fb (fun n=>n) 0 nm) (Sl 0 0 (1+1) c)=Sl nm 0 2 c:=by show Sl (fb _ 0 nm 0) 0 2 c=_;rw[iB]
  rw[gb hg.plain,e]
  have h1:=hg.key (i:=0) (by decide)
  have h2:=hg.key (i:=1) (by decide)
  refine hk c cs hg.plain (AH (o:=0) h1 (Nat.le_refl 32)) (AH h2 (Nat.le_refl 32)) ?_ hg.room
  have:=hg.len;have:=hg.room;omega
theorem oh {s:AS} {nm z m:Nat} {cQ tag body:Nat→Int} {pn n:Int} {sv:SV} {cs:List SV} {rw:Bool} (hz:s.box z=some ⟨rw,cs⟩) (hp:cs.all SV.plain=true) (hv:bC s.box (.inl (.inl sv)) m body) (hm:m≤65536) {dst:Option Nat} {K:AS→Prop}
  (hk: ∀ c cs',bR cs' 0 (45+m+32) c (U6 cQ pn n m body tag)→K ((⟨s.env,upd s.box nm (some ⟨true,cs'⟩),s.next⟩:AS).put dst (some (Sl nm 0 (45+m+32) c)))):
  aB Tryz.prog nm 29 (some [Ag (iW cQ pn n sv tag)]) dst K s:=by
 rcases hv with ⟨⟨a,e⟩,h0⟩ | ⟨t,o,c,rw',ds,e,hb,hq,hs⟩
 ·exact pH hz hp (.inl ⟨⟨a,e⟩,h0⟩) hm hk
 ·exact pH hb hq (.inr ⟨o,c,e,hs⟩) hm hk
theorem eF {s:AS} {nm t n:Nat} {y:Int} {x:St} {f:Nat→En} {rw:Bool} {cs:List SV} (hb:s.box t=some ⟨rw,cs⟩) (hp:cs.all SV.plain=true) (hi:aY t x.store n f cs) (hn:y≠1→n*72≤140737488355328) {dst:Option Nat} {K:AS→Prop}
  (h0:y=1→K (s.put dst (some (Ag (dD 1 stZ (.inl (.slice none 0 0)) 0 0)))))
  (hk:y≠1→ ∀ c cs',df cs' 0 n c f→K ((⟨s.env,upd s.box nm (some ⟨true,cs'⟩),s.next⟩:AS).put dst (some (Ag (dD y { x with store:= .inr (.inr (nm,0,n,c)) } (.inl (.slice none 0 0)) 0 0))))):aB Tryz.prog nm 22 (some [I .i64 y,Ag (bO x)]) dst K s:=by
 obtain ⟨v0,g0,e0⟩:=hi.name (k:=0)
 refine (Hv (s:={ x with store:=v0 }) g0 hp hn).aB (fun _=>t) none (dp hb hp) ?_ ?_
 ·simp only[List.map_cons,List.map_nil,gX,e0 (fun _=>t) rfl];rfl
 ·rintro v out (⟨hy,rfl,rfl⟩ | ⟨hy,c,cs',rfl,hg,rfl⟩) _
  ·have e:after s (fun _=>t) 1 nm none (fun _=>none)=s.box:=by funext x;simp[after]
   rw[e,AV.cw (ik rfl rfl)]
   exact h0 hy
  ·have e2:SV.bh (fb (fun _=>t) 1 nm) (.inr (.inr (1,0,n,c)))= .inr (.inr (nm,0,n,c)):=by simp only[SV.bh,iB]
   rw[gb hg.plain,kz]
   dsimp only
   rw[e2]
   exact hk hy c cs' hg
def afn (k n:Nat) (x:St) (f:Nat→En) (m:Nat) (g:Nat→Int) (v:AV) (out:Nat→Option aW):Prop:=
 ∃ c cs c' cs',v=Ag (dD 0 { lg x with store:= .inr (.inr (k,0,n,c)) } (.inr (.inr (k+1,0,45+m+32,c'))) x.se x.ns)∧df cs 0 n c f∧bR cs' 0 (45+m+32) c' (Wo x m g)∧out=fun j=>if j=k then some ⟨true,cs⟩ else if j=k+1 then some ⟨true,cs'⟩ else none
def akb (k n:Nat) (s:St) (f:Nat→En) (m:Nat) (g seed:Nat→Int) (v:AV) (out:Nat→Option aW):Prop:=
 (∃ i,iJ s n f m=some i∧ag1 k n s f (pw i) v out)∨(iJ s n f m=none∧afn k n (gR s seed) f m g v out)
theorem M8 {s:AS} {k q p n m c c':Nat} {x:St} {f:Nat→En} {g:Nat→Int} {cs cs':List SV} (hq:k≤q) (hp:k≤p) (hne:p≠q) (hb:s.box q=some ⟨true,cs'⟩) (hb':s.box p=some ⟨true,cs⟩) (hK:df cs 0 n c f) (hg:bR cs' 0 (45+m+32) c' (Wo x m g)):
  Cz k 2 (afn k n x f m g) (Ag (dD 0 { lg x with store:= .inr (.inr (p,0,n,c)) } (.inr (.inr (q,0,45+m+32,c'))) x.se x.ns)) s:=by
 have r0:gM k (fun j=>if j=0 then p else q) k=p:=by unfold gM;rw[if_neg (by omega)];exact if_pos (by omega)
 have r1:gM k (fun j=>if j=0 then p else q) (k+1)=q:=by unfold gM;rw[if_neg (by omega)];exact if_neg (by omega)
 refine ⟨fun j=>if j=0 then p else q,Ag (dD 0 { lg x with store:= .inr (.inr (k,0,n,c)) } (.inr (.inr (k+1,0,45+m+32,c'))) x.se x.ns),fun j=>if j=k then some ⟨true,cs⟩ else if j=k+1 then some ⟨true,cs'⟩ else none,fun j hj=>by (dsimp only;split)<;>assumption,fun i j hi hj e=> ?_, ?_,v9 ⟨(show k < k+2 by omega),rfl⟩ ⟨(show k+1 < k+2 by omega),rfl⟩,fun m b hm=> ?_,c,cs,c',cs',rfl,hK,hg,rfl⟩
 ·dsimp only at e
  split at e<;>split at e
  ·omega
  ·exact absurd e hne
  ·exact absurd e.symm hne
  ·omega
 ·have e1:SV.bh (gM k (fun j=>if j=0 then p else q)) (.inr (.inr (k,0,n,c)))= .inr (.inr (p,0,n,c)):=by simp only[SV.bh,r0]
  have e2:SV.bh (gM k (fun j=>if j=0 then p else q)) (.inr (.inr (k+1,0,45+m+32,c')))= .inr (.inr (q,0,45+m+32,c')):=by simp only[SV.bh,r1]
  rw[kz,e2]
  dsimp only
  rw[e1]
 ·dsimp only at hm
  split at hm
  ·rename_i e;subst e;cases hm
   exact ⟨by omega,fun _=>rfl,aJ hK.plain,⟨true,cs⟩,by rw[r0];exact hb',fun h=>h,(bj hK.plain _).symm⟩
  ·split at hm
   ·rename_i _ e;subst e;cases hm
    exact ⟨by omega,fun _=>rfl,aJ hg.plain,⟨true,cs'⟩,by rw[r1];exact hb,fun h=>h,(bj hg.plain _).symm⟩
   ·cases hm
theorem sJ {s:AS} {k q n c:Nat} {x:Int} {y:St} {f:Nat→En} {cs:List SV} (hx:x≠1) (hq:k≤q) (hb:s.box q=some ⟨true,cs⟩) (hg:df cs 0 n c f):Cz k 2 (ag1 k n y f x) (Ag (dD x { y with store:= .inr (.inr (q,0,n,c)) } (.inl (.slice none 0 0)) 0 0)) s:=by
 have r0:gM k (fun j=>q+j) k=q:=by unfold gM;rw[if_neg (by omega),Nat.sub_self];rfl
 refine ⟨fun j=>q+j,Ag (dD x { y with store:= .inr (.inr (k,0,n,c)) } (.inl (.slice none 0 0)) 0 0),lk [(k,⟨true,cs⟩)],fun j hj=>Nat.le_trans hq (Nat.le_add_right q j),fun i j hi hj e=>Nat.add_left_cancel e, ?_,v9 ⟨(show k < k+2 by omega),rfl⟩ (SV.bH rfl),fun m b hm=> ?_, .inr ⟨hx,c,cs,rfl,hg,rfl⟩⟩
 ·rw[kz];simp only[SV.bh,r0]
 ·obtain ⟨rfl,rfl⟩:=tw hm
  exact ⟨by omega,fun _=>rfl,aJ hg.plain,⟨true,cs⟩,by rw[r0];exact hb,fun h=>h,(bj hg.plain _).symm⟩
end Go.Proofs.YtoakenpcooglpaaGreatDoor
namespace Go.Proofs.YtoakenpcooglpaaGreatDoor
set_option maxHeartbeats 16000000
set_option maxRecDepth 20000
open Go.cA
set_option linter.unusedSectionVars false
variable [aX]
theorem oN {e n:Int} (he:HD e) (hn:HD n):cB Tryz.prog 41 [I .u32 e,I .u32 n] (I .u64 (rV e n)):=by
 refine aK Tryz.func41 rfl (by kernel_rfl) (by simp[Tryz.ntmps41]) rfl rfl ?_
 simp only[Tryz.results41,Tryz.vs,Value.oneCell',simprocAttr, -List.reduceReplicate]
 simp only[HD]at he hn
 have e1:IntKind.u64.wrap e=e:=by rw[wrap_u64];omega
 have e2:IntKind.u64.wrap n=n:=by rw[wrap_u64];omega
 have e3:gT .u64 e 32=e*4294967296:=by
  have:=lY .u64 e 32 (by decide)
  rw[wrap_u64]at this
  show gT .u64 e 32=_
  rw[show (32:Int)=((32:Nat):Int) from rfl,this];omega
 have e4:IntKind.u64.wrap (e*4294967296+n)=rV e n:=by rw[wrap_u64];unfold rV;omega
 rw[e1,e2,e3,e4]
def CM (s:St):Bool:=s.own||s.peer
def vE:Nat→List Bool→List (Nat×AV)
 | _,[]=>[]
 | k,b::r=>(k,B b)::vE (k+1) r
theorem kF {k:Nat}:vE k []=[]:=rfl
theorem iQ {k:Nat} {b:Bool} {r:List Bool}:vE k (b::r)=(k,B b)::vE (k+1) r:=rfl
def oX (bs:List Bool):List (Nat×AV):=(1,Ptr 1 0)::(3,Ptr 4 0)::vE 4 bs
def oY (s:St) (cs:List SV):List (Nat×aW):=[(0,⟨false,cs⟩),(1,⟨true,bO s⟩),(4,⟨true,ae .u8 32 (fun _=>0)⟩)]
def CN (s:St) (cs:List SV) (k:Nat) (bs:List Bool) (s2:AS):Prop:=s2=ou (oX bs) (oY s cs) (100*k)
theorem akc {s:St} {n:Nat} {f:Nat→En} {cs:List SV} (h0:aY 0 s.store n f cs) (hp:cs.all SV.plain=true) (hs:iH s)  {F:Exit→AS→Prop}:
  jT Tryz.prog 1 (CN s cs 1 [gL s n]) 3 (Tryz.f21.body.getD .skip) F (cA.start [Ag (bO s)] (lk [(0,⟨false,cs⟩)]) 1):=by
 have hl:=h0.len
 have Cd:(s.re==0)= !decide (0 < s.re):=by have:=hs.re.1;rcases Bool.eq_false_or_eq_true (decide (0 < s.re)) with h | h<;>rw[h]<;>simp at h ⊢ <;>omega
 have se0:(s.se==0)= !decide (0 < s.se):=by have:=hs.se.1;rcases Bool.eq_false_or_eq_true (decide (0 < s.se)) with h | h<;>rw[h]<;>simp at h ⊢ <;>omega
 have fy:(∀ x ∈ cs,SV.ok (fun n=>n < 100) x)=True:=eq_true (aJ hp)
 have iU:(∀ x ∈ bO s,SV.ok (fun n=>n < 100) x)=True:=eq_true (cO (h0.ok (by decide)))
 have ki:(∀ x ∈ ae .u8 32 (fun _=>(0:Int)),SV.ok (fun n=>n < 100) x)=True:=eq_true (aJ aw)
 have Wq: ∀ {t:AS} {c:Code} {b:Bool},(gL s n)=b→ga t [(1,Ptr 1 0),(3,Ptr 4 0),(4,B b)] [(0,⟨false,cs⟩),(1,⟨true,bO s⟩),(4,⟨true,ae .u8 32 (fun _=>0)⟩)] 100→jT Tryz.prog 1 (CN s cs 1 [gL s n]) 0 c F t:=fun e h=>ku h (by decide) (by rw[← e];rfl)
 simp only[Tryz.f21,Option.getD_some,gj,gk,oX,iQ,kF,oY,fE]
 rcases Bool.eq_false_or_eq_true (decide (0≤s.skip)) with h0 | h0
 ·rcases Bool.eq_false_or_eq_true (decide (s.skip≤1000)) with h1 | h1
  ·rcases Bool.eq_false_or_eq_true (decide (0≤s.room)) with h2 | h2
   ·rcases Bool.eq_false_or_eq_true (decide (s.room≤1000)) with h3 | h3
    ·rcases Bool.eq_false_or_eq_true (decide ((n:Int)≤s.room)) with h4 | h4
     ·(have e:gL s n=true:=(by simp[gL,h0,h1,h2,h3,h4]);simp only[h0,h1,h2,h3,h4,hl,Bool.not_true,Bool.not_false,bne,aL,aM,aF,al,aq,aj,ak,Tryz.vr,Value.oneCell',simprocAttr, -List.reduceReplicate];refine Wq e ?_;simp only[fy,iU,ki,aj,ak,Tryz.vr,Value.oneCell',simprocAttr, -List.reduceReplicate])
     ·(have e:gL s n=false:=(by simp[gL,h0,h1,h2,h3,h4]);simp only[h0,h1,h2,h3,h4,hl,Bool.not_true,Bool.not_false,bne,aL,aM,aF,al,aq,aj,ak,Tryz.vr,Value.oneCell',simprocAttr, -List.reduceReplicate];refine Wq e ?_;simp only[fy,iU,ki,aj,ak,Tryz.vr,Value.oneCell',simprocAttr, -List.reduceReplicate])
    ·(have e:gL s n=false:=(by simp[gL,h0,h1,h2,h3]);simp only[h0,h1,h2,h3,hl,Bool.not_true,Bool.not_false,bne,aL,aM,aF,al,aq,aj,ak,Tryz.vr,Value.oneCell',simprocAttr, -List.reduceReplicate];refine Wq e ?_;simp only[fy,iU,ki,aj,ak,Tryz.vr,Value.oneCell',simprocAttr, -List.reduceReplicate])
   ·(have e:gL s n=false:=(by simp[gL,h0,h1,h2]);simp only[h0,h1,h2,hl,Bool.not_true,Bool.not_false,bne,aL,aM,aF,al,aq,aj,ak,Tryz.vr,Value.oneCell',simprocAttr, -List.reduceReplicate];refine Wq e ?_;simp only[fy,iU,ki,aj,ak,Tryz.vr,Value.oneCell',simprocAttr, -List.reduceReplicate])
  ·(have e:gL s n=false:=(by simp[gL,h0,h1]);simp only[h0,h1,hl,Bool.not_true,Bool.not_false,bne,aL,aM,aF,al,aq,aj,ak,Tryz.vr,Value.oneCell',simprocAttr, -List.reduceReplicate];refine Wq e ?_;simp only[fy,iU,ki,aj,ak,Tryz.vr,Value.oneCell',simprocAttr, -List.reduceReplicate])
 ·(have e:gL s n=false:=(by simp[gL,h0]);simp only[h0,hl,Bool.not_true,Bool.not_false,bne,aL,aM,aF,al,aq,aj,ak,Tryz.vr,Value.oneCell',simprocAttr, -List.reduceReplicate];refine Wq e ?_;simp only[fy,iU,ki,aj,ak,Tryz.vr,Value.oneCell',simprocAttr, -List.reduceReplicate])
theorem akd {s:St} {n:Nat} {f:Nat→En} {cs:List SV} (h0:aY 0 s.store n f cs) (hp:cs.all SV.plain=true) (hs:iH s) {c0:Bool} {F:Exit→AS→Prop}:
  jT Tryz.prog 1 (CN s cs 2 [c0,CM s]) 1 (kR 3 (Tryz.f21.body.getD .skip)) F (ou (oX [c0]) (oY s cs) 100):=by
 have hl:=h0.len
 have Cd:(s.re==0)= !decide (0 < s.re):=by have:=hs.re.1;rcases Bool.eq_false_or_eq_true (decide (0 < s.re)) with h | h<;>rw[h]<;>simp at h ⊢ <;>omega
 have se0:(s.se==0)= !decide (0 < s.se):=by have:=hs.se.1;rcases Bool.eq_false_or_eq_true (decide (0 < s.se)) with h | h<;>rw[h]<;>simp at h ⊢ <;>omega
 have fy:(∀ x ∈ cs,SV.ok (fun n=>n < 200) x)=True:=eq_true (aJ hp)
 have iU:(∀ x ∈ bO s,SV.ok (fun n=>n < 200) x)=True:=eq_true (cO (h0.ok (by decide)))
 have ki:(∀ x ∈ ae .u8 32 (fun _=>(0:Int)),SV.ok (fun n=>n < 200) x)=True:=eq_true (aJ aw)
 have fin1: ∀ {t:AS} {c:Code} {b:Bool},(CM s)=b→ga t [(1,Ptr 1 0),(3,Ptr 4 0),(4,B c0),(5,B b)] [(0,⟨false,cs⟩),(1,⟨true,bO s⟩),(4,⟨true,ae .u8 32 (fun _=>0)⟩)] 200→jT Tryz.prog 1 (CN s cs 2 [c0,CM s]) 0 c F t:=fun e h=>ku h (by decide) (by rw[← e];rfl)
 simp only[Tryz.f21,Option.getD_some,gj,gk,oX,iQ,kF,oY,fE]
 rcases Bool.eq_false_or_eq_true (s.own) with h0 | h0
 ·(have e:CM s=true:=(by simp[CM,h0]);simp only[h0,hl,Bool.not_true,Bool.not_false,bne,aL,aM,aF,al,aq,aj,ak,Tryz.vr,Value.oneCell',simprocAttr, -List.reduceReplicate];refine fin1 e ?_;simp only[fy,iU,ki,aj,ak,Tryz.vr,Value.oneCell',simprocAttr, -List.reduceReplicate])
 ·rcases Bool.eq_false_or_eq_true (s.peer) with h1 | h1
  ·(have e:CM s=true:=(by simp[CM,h0,h1]);simp only[h0,h1,hl,Bool.not_true,Bool.not_false,bne,aL,aM,aF,al,aq,aj,ak,Tryz.vr,Value.oneCell',simprocAttr, -List.reduceReplicate];refine fin1 e ?_;simp only[fy,iU,ki,aj,ak,Tryz.vr,Value.oneCell',simprocAttr, -List.reduceReplicate])
  ·(have e:CM s=false:=(by simp[CM,h0,h1]);simp only[h0,h1,hl,Bool.not_true,Bool.not_false,bne,aL,aM,aF,al,aq,aj,ak,Tryz.vr,Value.oneCell',simprocAttr, -List.reduceReplicate];refine fin1 e ?_;simp only[fy,iU,ki,aj,ak,Tryz.vr,Value.oneCell',simprocAttr, -List.reduceReplicate])
theorem ake {s:St} {n:Nat} {f:Nat→En} {cs:List SV} (h0:aY 0 s.store n f cs) (hp:cs.all SV.plain=true) (hs:iH s) {c0 c1:Bool} {F:Exit→AS→Prop}:
  jT Tryz.prog 1 (CN s cs 3 [c0,c1,cY s]) 1 (kR 4 (Tryz.f21.body.getD .skip)) F (ou (oX [c0,c1]) (oY s cs) 200):=by
 have hl:=h0.len
 have Cd:(s.re==0)= !decide (0 < s.re):=by have:=hs.re.1;rcases Bool.eq_false_or_eq_true (decide (0 < s.re)) with h | h<;>rw[h]<;>simp at h ⊢ <;>omega
 have se0:(s.se==0)= !decide (0 < s.se):=by have:=hs.se.1;rcases Bool.eq_false_or_eq_true (decide (0 < s.se)) with h | h<;>rw[h]<;>simp at h ⊢ <;>omega
 have fy:(∀ x ∈ cs,SV.ok (fun n=>n < 300) x)=True:=eq_true (aJ hp)
 have iU:(∀ x ∈ bO s,SV.ok (fun n=>n < 300) x)=True:=eq_true (cO (h0.ok (by decide)))
 have ki:(∀ x ∈ ae .u8 32 (fun _=>(0:Int)),SV.ok (fun n=>n < 300) x)=True:=eq_true (aJ aw)
 have fin2: ∀ {t:AS} {c:Code} {b:Bool},(cY s)=b→ga t [(1,Ptr 1 0),(3,Ptr 4 0),(4,B c0),(5,B c1),(6,B b)] [(0,⟨false,cs⟩),(1,⟨true,bO s⟩),(4,⟨true,ae .u8 32 (fun _=>0)⟩)] 300→jT Tryz.prog 1 (CN s cs 3 [c0,c1,cY s]) 0 c F t:=fun e h=>ku h (by decide) (by rw[← e];rfl)
 simp only[Tryz.f21,Option.getD_some,gj,gk,oX,iQ,kF,oY,fE]
 rcases Bool.eq_false_or_eq_true (s.own) with h0 | h0
 ·rcases Bool.eq_false_or_eq_true (s.peer) with h1 | h1
  ·rcases Bool.eq_false_or_eq_true (s.has) with h2 | h2
   ·(have e:cY s=true:=(by simp[cY,h0,h1,h2]);simp only[h0,h1,h2,hl,Bool.not_true,Bool.not_false,bne,aL,aM,aF,al,aq,aj,ak,Tryz.vr,Value.oneCell',simprocAttr, -List.reduceReplicate];refine fin2 e ?_;simp only[fy,iU,ki,aj,ak,Tryz.vr,Value.oneCell',simprocAttr, -List.reduceReplicate])
   ·rcases Bool.eq_false_or_eq_true (tv s.send) with h3 | h3
    ·(have e:cY s=true:=(by simp[cY,h0,h1,h2,h3]);simp only[h0,h1,h2,h3,hl,Bool.not_true,Bool.not_false,bne,aL,aM,aF,al,aq,aj,ak,Tryz.vr,Value.oneCell',simprocAttr, -List.reduceReplicate];refine fin2 e ?_;simp only[fy,iU,ki,aj,ak,Tryz.vr,Value.oneCell',simprocAttr, -List.reduceReplicate])
    ·(have e:cY s=false:=(by simp[cY,h0,h1,h2,h3]);simp only[h0,h1,h2,h3,hl,Bool.not_true,Bool.not_false,bne,aL,aM,aF,al,aq,aj,ak,Tryz.vr,Value.oneCell',simprocAttr, -List.reduceReplicate];refine fin2 e ?_;simp only[fy,iU,ki,aj,ak,Tryz.vr,Value.oneCell',simprocAttr, -List.reduceReplicate])
  ·rcases Bool.eq_false_or_eq_true (tv s.rU) with h2 | h2
   ·rcases Bool.eq_false_or_eq_true (s.has) with h3 | h3
    ·(have e:cY s=true:=(by simp[cY,h0,h1,h2,h3]);simp only[h0,h1,h2,h3,hl,Bool.not_true,Bool.not_false,bne,aL,aM,aF,al,aq,aj,ak,Tryz.vr,Value.oneCell',simprocAttr, -List.reduceReplicate];refine fin2 e ?_;simp only[fy,iU,ki,aj,ak,Tryz.vr,Value.oneCell',simprocAttr, -List.reduceReplicate])
    ·rcases Bool.eq_false_or_eq_true (tv s.send) with h4 | h4
     ·(have e:cY s=true:=(by simp[cY,h0,h1,h2,h3,h4]);simp only[h0,h1,h2,h3,h4,hl,Bool.not_true,Bool.not_false,bne,aL,aM,aF,al,aq,aj,ak,Tryz.vr,Value.oneCell',simprocAttr, -List.reduceReplicate];refine fin2 e ?_;simp only[fy,iU,ki,aj,ak,Tryz.vr,Value.oneCell',simprocAttr, -List.reduceReplicate])
     ·(have e:cY s=false:=(by simp[cY,h0,h1,h2,h3,h4]);simp only[h0,h1,h2,h3,h4,hl,Bool.not_true,Bool.not_false,bne,aL,aM,aF,al,aq,aj,ak,Tryz.vr,Value.oneCell',simprocAttr, -List.reduceReplicate];refine fin2 e ?_;simp only[fy,iU,ki,aj,ak,Tryz.vr,Value.oneCell',simprocAttr, -List.reduceReplicate])
   ·(have e:cY s=false:=(by simp[cY,h0,h1,h2]);simp only[h0,h1,h2,hl,Bool.not_true,Bool.not_false,bne,aL,aM,aF,al,aq,aj,ak,Tryz.vr,Value.oneCell',simprocAttr, -List.reduceReplicate];refine fin2 e ?_;simp only[fy,iU,ki,aj,ak,Tryz.vr,Value.oneCell',simprocAttr, -List.reduceReplicate])
 ·rcases Bool.eq_false_or_eq_true (tv s.priv) with h1 | h1
  ·rcases Bool.eq_false_or_eq_true (tv s.cQ) with h2 | h2
   ·rcases Bool.eq_false_or_eq_true (s.peer) with h3 | h3
    ·rcases Bool.eq_false_or_eq_true (s.has) with h4 | h4
     ·(have e:cY s=true:=(by simp[cY,h0,h1,h2,h3,h4]);simp only[h0,h1,h2,h3,h4,hl,Bool.not_true,Bool.not_false,bne,aL,aM,aF,al,aq,aj,ak,Tryz.vr,Value.oneCell',simprocAttr, -List.reduceReplicate];refine fin2 e ?_;simp only[fy,iU,ki,aj,ak,Tryz.vr,Value.oneCell',simprocAttr, -List.reduceReplicate])
     ·rcases Bool.eq_false_or_eq_true (tv s.send) with h5 | h5
      ·(have e:cY s=true:=(by simp[cY,h0,h1,h2,h3,h4,h5]);simp only[h0,h1,h2,h3,h4,h5,hl,Bool.not_true,Bool.not_false,bne,aL,aM,aF,al,aq,aj,ak,Tryz.vr,Value.oneCell',simprocAttr, -List.reduceReplicate];refine fin2 e ?_;simp only[fy,iU,ki,aj,ak,Tryz.vr,Value.oneCell',simprocAttr, -List.reduceReplicate])
      ·(have e:cY s=false:=(by simp[cY,h0,h1,h2,h3,h4,h5]);simp only[h0,h1,h2,h3,h4,h5,hl,Bool.not_true,Bool.not_false,bne,aL,aM,aF,al,aq,aj,ak,Tryz.vr,Value.oneCell',simprocAttr, -List.reduceReplicate];refine fin2 e ?_;simp only[fy,iU,ki,aj,ak,Tryz.vr,Value.oneCell',simprocAttr, -List.reduceReplicate])
    ·rcases Bool.eq_false_or_eq_true (tv s.rU) with h4 | h4
     ·rcases Bool.eq_false_or_eq_true (s.has) with h5 | h5
      ·(have e:cY s=true:=(by simp[cY,h0,h1,h2,h3,h4,h5]);simp only[h0,h1,h2,h3,h4,h5,hl,Bool.not_true,Bool.not_false,bne,aL,aM,aF,al,aq,aj,ak,Tryz.vr,Value.oneCell',simprocAttr, -List.reduceReplicate];refine fin2 e ?_;simp only[fy,iU,ki,aj,ak,Tryz.vr,Value.oneCell',simprocAttr, -List.reduceReplicate])
      ·rcases Bool.eq_false_or_eq_true (tv s.send) with h6 | h6
       ·(have e:cY s=true:=(by simp[cY,h0,h1,h2,h3,h4,h5,h6]);simp only[h0,h1,h2,h3,h4,h5,h6,hl,Bool.not_true,Bool.not_false,bne,aL,aM,aF,al,aq,aj,ak,Tryz.vr,Value.oneCell',simprocAttr, -List.reduceReplicate];refine fin2 e ?_;simp only[fy,iU,ki,aj,ak,Tryz.vr,Value.oneCell',simprocAttr, -List.reduceReplicate])
       ·(have e:cY s=false:=(by simp[cY,h0,h1,h2,h3,h4,h5,h6]);simp only[h0,h1,h2,h3,h4,h5,h6,hl,Bool.not_true,Bool.not_false,bne,aL,aM,aF,al,aq,aj,ak,Tryz.vr,Value.oneCell',simprocAttr, -List.reduceReplicate];refine fin2 e ?_;simp only[fy,iU,ki,aj,ak,Tryz.vr,Value.oneCell',simprocAttr, -List.reduceReplicate])
     ·(have e:cY s=false:=(by simp[cY,h0,h1,h2,h3,h4]);simp only[h0,h1,h2,h3,h4,hl,Bool.not_true,Bool.not_false,bne,aL,aM,aF,al,aq,aj,ak,Tryz.vr,Value.oneCell',simprocAttr, -List.reduceReplicate];refine fin2 e ?_;simp only[fy,iU,ki,aj,ak,Tryz.vr,Value.oneCell',simprocAttr, -List.reduceReplicate])
   ·(have e:cY s=false:=(by simp[cY,h0,h1,h2]);simp only[h0,h1,h2,hl,Bool.not_true,Bool.not_false,bne,aL,aM,aF,al,aq,aj,ak,Tryz.vr,Value.oneCell',simprocAttr, -List.reduceReplicate];refine fin2 e ?_;simp only[fy,iU,ki,aj,ak,Tryz.vr,Value.oneCell',simprocAttr, -List.reduceReplicate])
  ·(have e:cY s=false:=(by simp[cY,h0,h1]);simp only[h0,h1,hl,Bool.not_true,Bool.not_false,bne,aL,aM,aF,al,aq,aj,ak,Tryz.vr,Value.oneCell',simprocAttr, -List.reduceReplicate];refine fin2 e ?_;simp only[fy,iU,ki,aj,ak,Tryz.vr,Value.oneCell',simprocAttr, -List.reduceReplicate])
theorem akf {s:St} {n:Nat} {f:Nat→En} {cs:List SV} (h0:aY 0 s.store n f cs) (hp:cs.all SV.plain=true) (hs:iH s) {c0 c1 c2:Bool} {F:Exit→AS→Prop}:
  jT Tryz.prog 1 (CN s cs 4 [c0,c1,c2,dT s]) 1 (kR 5 (Tryz.f21.body.getD .skip)) F (ou (oX [c0,c1,c2]) (oY s cs) 300):=by
 have hl:=h0.len
 have Cd:(s.re==0)= !decide (0 < s.re):=by have:=hs.re.1;rcases Bool.eq_false_or_eq_true (decide (0 < s.re)) with h | h<;>rw[h]<;>simp at h ⊢ <;>omega
 have se0:(s.se==0)= !decide (0 < s.se):=by have:=hs.se.1;rcases Bool.eq_false_or_eq_true (decide (0 < s.se)) with h | h<;>rw[h]<;>simp at h ⊢ <;>omega
 have fy:(∀ x ∈ cs,SV.ok (fun n=>n < 400) x)=True:=eq_true (aJ hp)
 have iU:(∀ x ∈ bO s,SV.ok (fun n=>n < 400) x)=True:=eq_true (cO (h0.ok (by decide)))
 have ki:(∀ x ∈ ae .u8 32 (fun _=>(0:Int)),SV.ok (fun n=>n < 400) x)=True:=eq_true (aJ aw)
 have wG: ∀ {t:AS} {c:Code} {b:Bool},(dT s)=b→ga t [(1,Ptr 1 0),(3,Ptr 4 0),(4,B c0),(5,B c1),(6,B c2),(7,B b)] [(0,⟨false,cs⟩),(1,⟨true,bO s⟩),(4,⟨true,ae .u8 32 (fun _=>0)⟩)] 400→jT Tryz.prog 1 (CN s cs 4 [c0,c1,c2,dT s]) 0 c F t:=fun e h=>ku h (by decide) (by rw[← e];rfl)
 simp only[Tryz.f21,Option.getD_some,gj,gk,oX,iQ,kF,oY,fE]
 rcases Bool.eq_false_or_eq_true (decide (0 < s.re)) with h0 | h0
 ·rcases Bool.eq_false_or_eq_true (decide (0 < s.se)) with h1 | h1
  ·(have e:dT s=true:=(by have q:(s.re==0)= !decide (0 < s.re):=Cd;simp[dT,q,h0,h1]);simp only[h0,h1,hl,Bool.not_true,Bool.not_false,bne,aL,aM,aF,al,aq,aj,ak,Tryz.vr,Value.oneCell',simprocAttr, -List.reduceReplicate];refine wG e ?_;simp only[fy,iU,ki,aj,ak,Tryz.vr,Value.oneCell',simprocAttr, -List.reduceReplicate])
  ·rcases Bool.eq_false_or_eq_true (s.has) with h2 | h2
   ·(have e:dT s=false:=(by have q:(s.re==0)= !decide (0 < s.re):=Cd;simp[dT,q,h0,h1,h2]);simp only[h0,h1,h2,hl,Bool.not_true,Bool.not_false,bne,aL,aM,aF,al,aq,aj,ak,Tryz.vr,Value.oneCell',simprocAttr, -List.reduceReplicate];refine wG e ?_;simp only[fy,iU,ki,aj,ak,Tryz.vr,Value.oneCell',simprocAttr, -List.reduceReplicate])
   ·rcases Bool.eq_false_or_eq_true (s.ns==0) with h3 | h3
    ·rcases Bool.eq_false_or_eq_true (s.pn==0) with h4 | h4
     ·(have e:dT s=true:=(by have q:(s.re==0)= !decide (0 < s.re):=Cd;simp[dT,q,h0,h1,h2,h3,h4]);simp only[h0,h1,h2,h3,h4,hl,Bool.not_true,Bool.not_false,bne,aL,aM,aF,al,aq,aj,ak,Tryz.vr,Value.oneCell',simprocAttr, -List.reduceReplicate];refine wG e ?_;simp only[fy,iU,ki,aj,ak,Tryz.vr,Value.oneCell',simprocAttr, -List.reduceReplicate])
     ·(have e:dT s=false:=(by have q:(s.re==0)= !decide (0 < s.re):=Cd;simp[dT,q,h0,h1,h2,h3,h4]);simp only[h0,h1,h2,h3,h4,hl,Bool.not_true,Bool.not_false,bne,aL,aM,aF,al,aq,aj,ak,Tryz.vr,Value.oneCell',simprocAttr, -List.reduceReplicate];refine wG e ?_;simp only[fy,iU,ki,aj,ak,Tryz.vr,Value.oneCell',simprocAttr, -List.reduceReplicate])
    ·(have e:dT s=false:=(by have q:(s.re==0)= !decide (0 < s.re):=Cd;simp[dT,q,h0,h1,h2,h3]);simp only[h0,h1,h2,h3,hl,Bool.not_true,Bool.not_false,bne,aL,aM,aF,al,aq,aj,ak,Tryz.vr,Value.oneCell',simprocAttr, -List.reduceReplicate];refine wG e ?_;simp only[fy,iU,ki,aj,ak,Tryz.vr,Value.oneCell',simprocAttr, -List.reduceReplicate])
 ·rcases Bool.eq_false_or_eq_true (tv s.recv) with h1 | h1
  ·rcases Bool.eq_false_or_eq_true (s.nr==0) with h2 | h2
   ·rcases Bool.eq_false_or_eq_true (decide (0 < s.se)) with h3 | h3
    ·(have e:dT s=true:=(by have q:(s.re==0)= !decide (0 < s.re):=Cd;simp[dT,q,h0,h1,h2,h3]);simp only[h0,h1,h2,h3,hl,Bool.not_true,Bool.not_false,bne,aL,aM,aF,al,aq,aj,ak,Tryz.vr,Value.oneCell',simprocAttr, -List.reduceReplicate];refine wG e ?_;simp only[fy,iU,ki,aj,ak,Tryz.vr,Value.oneCell',simprocAttr, -List.reduceReplicate])
    ·rcases Bool.eq_false_or_eq_true (s.has) with h4 | h4
     ·(have e:dT s=false:=(by have q:(s.re==0)= !decide (0 < s.re):=Cd;simp[dT,q,h0,h1,h2,h3,h4]);simp only[h0,h1,h2,h3,h4,hl,Bool.not_true,Bool.not_false,bne,aL,aM,aF,al,aq,aj,ak,Tryz.vr,Value.oneCell',simprocAttr, -List.reduceReplicate];refine wG e ?_;simp only[fy,iU,ki,aj,ak,Tryz.vr,Value.oneCell',simprocAttr, -List.reduceReplicate])
     ·rcases Bool.eq_false_or_eq_true (s.ns==0) with h5 | h5
      ·rcases Bool.eq_false_or_eq_true (s.pn==0) with h6 | h6
       ·(have e:dT s=true:=(by have q:(s.re==0)= !decide (0 < s.re):=Cd;simp[dT,q,h0,h1,h2,h3,h4,h5,h6]);simp only[h0,h1,h2,h3,h4,h5,h6,hl,Bool.not_true,Bool.not_false,bne,aL,aM,aF,al,aq,aj,ak,Tryz.vr,Value.oneCell',simprocAttr, -List.reduceReplicate];refine wG e ?_;simp only[fy,iU,ki,aj,ak,Tryz.vr,Value.oneCell',simprocAttr, -List.reduceReplicate])
       ·(have e:dT s=false:=(by have q:(s.re==0)= !decide (0 < s.re):=Cd;simp[dT,q,h0,h1,h2,h3,h4,h5,h6]);simp only[h0,h1,h2,h3,h4,h5,h6,hl,Bool.not_true,Bool.not_false,bne,aL,aM,aF,al,aq,aj,ak,Tryz.vr,Value.oneCell',simprocAttr, -List.reduceReplicate];refine wG e ?_;simp only[fy,iU,ki,aj,ak,Tryz.vr,Value.oneCell',simprocAttr, -List.reduceReplicate])
      ·(have e:dT s=false:=(by have q:(s.re==0)= !decide (0 < s.re):=Cd;simp[dT,q,h0,h1,h2,h3,h4,h5]);simp only[h0,h1,h2,h3,h4,h5,hl,Bool.not_true,Bool.not_false,bne,aL,aM,aF,al,aq,aj,ak,Tryz.vr,Value.oneCell',simprocAttr, -List.reduceReplicate];refine wG e ?_;simp only[fy,iU,ki,aj,ak,Tryz.vr,Value.oneCell',simprocAttr, -List.reduceReplicate])
   ·(have e:dT s=false:=(by have q:(s.re==0)= !decide (0 < s.re):=Cd;simp[dT,q,h0,h1,h2]);simp only[h0,h1,h2,hl,Bool.not_true,Bool.not_false,bne,aL,aM,aF,al,aq,aj,ak,Tryz.vr,Value.oneCell',simprocAttr, -List.reduceReplicate];refine wG e ?_;simp only[fy,iU,ki,aj,ak,Tryz.vr,Value.oneCell',simprocAttr, -List.reduceReplicate])
  ·(have e:dT s=false:=(by have q:(s.re==0)= !decide (0 < s.re):=Cd;simp[dT,q,h0,h1]);simp only[h0,h1,hl,Bool.not_true,Bool.not_false,bne,aL,aM,aF,al,aq,aj,ak,Tryz.vr,Value.oneCell',simprocAttr, -List.reduceReplicate];refine wG e ?_;simp only[fy,iU,ki,aj,ak,Tryz.vr,Value.oneCell',simprocAttr, -List.reduceReplicate])
theorem akg {s:St} {n:Nat} {f:Nat→En} {cs:List SV} (h0:aY 0 s.store n f cs) (hp:cs.all SV.plain=true) (hs:iH s) {c0 c1 c2 c3:Bool} {F:Exit→AS→Prop}:
  jT Tryz.prog 1 (CN s cs 5 [c0,c1,c2,c3,mW s]) 1 (kR 6 (Tryz.f21.body.getD .skip)) F (ou (oX [c0,c1,c2,c3]) (oY s cs) 400):=by
 have hl:=h0.len
 have Cd:(s.re==0)= !decide (0 < s.re):=by have:=hs.re.1;rcases Bool.eq_false_or_eq_true (decide (0 < s.re)) with h | h<;>rw[h]<;>simp at h ⊢ <;>omega
 have se0:(s.se==0)= !decide (0 < s.se):=by have:=hs.se.1;rcases Bool.eq_false_or_eq_true (decide (0 < s.se)) with h | h<;>rw[h]<;>simp at h ⊢ <;>omega
 have fy:(∀ x ∈ cs,SV.ok (fun n=>n < 500) x)=True:=eq_true (aJ hp)
 have iU:(∀ x ∈ bO s,SV.ok (fun n=>n < 500) x)=True:=eq_true (cO (h0.ok (by decide)))
 have ki:(∀ x ∈ ae .u8 32 (fun _=>(0:Int)),SV.ok (fun n=>n < 500) x)=True:=eq_true (aJ aw)
 have Pp: ∀ {t:AS} {c:Code} {b:Bool},(mW s)=b→ga t [(1,Ptr 1 0),(3,Ptr 4 0),(4,B c0),(5,B c1),(6,B c2),(7,B c3),(8,B b)] [(0,⟨false,cs⟩),(1,⟨true,bO s⟩),(4,⟨true,ae .u8 32 (fun _=>0)⟩)] 500→jT Tryz.prog 1 (CN s cs 5 [c0,c1,c2,c3,mW s]) 0 c F t:=fun e h=>ku h (by decide) (by rw[← e];rfl)
 simp only[Tryz.f21,Option.getD_some,gj,gk,oX,iQ,kF,oY,fE]
 rcases Bool.eq_false_or_eq_true (s.se==0) with h0 | h0
 ·rcases Bool.eq_false_or_eq_true (s.re==0) with h1 | h1
  ·(have e:mW s=true:=(by have q:(s.re==0)= !decide (0 < s.re):=Cd;have q2:(s.se==0)= !decide (0 < s.se):=se0;simp only[mW,h0,h1,q,q2]at *; simp_all);simp only[h0,h1,hl,Bool.not_true,Bool.not_false,bne,aL,aM,aF,al,aq,aj,ak,Tryz.vr,Value.oneCell',simprocAttr, -List.reduceReplicate];refine Pp e ?_;simp only[fy,iU,ki,aj,ak,Tryz.vr,Value.oneCell',simprocAttr, -List.reduceReplicate])
  ·rcases Bool.eq_false_or_eq_true (s.own) with h2 | h2
   ·rcases Bool.eq_false_or_eq_true (s.peer) with h3 | h3
    ·(have e:mW s=true:=(by have q:(s.re==0)= !decide (0 < s.re):=Cd;have q2:(s.se==0)= !decide (0 < s.se):=se0;simp only[mW,h0,h1,h2,h3,q,q2]at *; simp_all);simp only[h0,h1,h2,h3,hl,Bool.not_true,Bool.not_false,bne,aL,aM,aF,al,aq,aj,ak,Tryz.vr,Value.oneCell',simprocAttr, -List.reduceReplicate];refine Pp e ?_;simp only[fy,iU,ki,aj,ak,Tryz.vr,Value.oneCell',simprocAttr, -List.reduceReplicate])
    ·(have e:mW s=false:=(by have q:(s.re==0)= !decide (0 < s.re):=Cd;have q2:(s.se==0)= !decide (0 < s.se):=se0;simp only[mW,h0,h1,h2,h3,q,q2]at *; simp_all);simp only[h0,h1,h2,h3,hl,Bool.not_true,Bool.not_false,bne,aL,aM,aF,al,aq,aj,ak,Tryz.vr,Value.oneCell',simprocAttr, -List.reduceReplicate];refine Pp e ?_;simp only[fy,iU,ki,aj,ak,Tryz.vr,Value.oneCell',simprocAttr, -List.reduceReplicate])
   ·(have e:mW s=false:=(by have q:(s.re==0)= !decide (0 < s.re):=Cd;have q2:(s.se==0)= !decide (0 < s.se):=se0;simp only[mW,h0,h1,h2,q,q2]at *; simp_all);simp only[h0,h1,h2,hl,Bool.not_true,Bool.not_false,bne,aL,aM,aF,al,aq,aj,ak,Tryz.vr,Value.oneCell',simprocAttr, -List.reduceReplicate];refine Pp e ?_;simp only[fy,iU,ki,aj,ak,Tryz.vr,Value.oneCell',simprocAttr, -List.reduceReplicate])
 ·rcases Bool.eq_false_or_eq_true (s.own) with h1 | h1
  ·rcases Bool.eq_false_or_eq_true (s.peer) with h2 | h2
   ·(have e:mW s=true:=(by have q:(s.re==0)= !decide (0 < s.re):=Cd;have q2:(s.se==0)= !decide (0 < s.se):=se0;simp only[mW,h0,h1,h2,q,q2]at *; simp_all);simp only[h0,h1,h2,hl,Bool.not_true,Bool.not_false,bne,aL,aM,aF,al,aq,aj,ak,Tryz.vr,Value.oneCell',simprocAttr, -List.reduceReplicate];refine Pp e ?_;simp only[fy,iU,ki,aj,ak,Tryz.vr,Value.oneCell',simprocAttr, -List.reduceReplicate])
   ·(have e:mW s=false:=(by have q:(s.re==0)= !decide (0 < s.re):=Cd;have q2:(s.se==0)= !decide (0 < s.se):=se0;simp only[mW,h0,h1,h2,q,q2]at *; simp_all);simp only[h0,h1,h2,hl,Bool.not_true,Bool.not_false,bne,aL,aM,aF,al,aq,aj,ak,Tryz.vr,Value.oneCell',simprocAttr, -List.reduceReplicate];refine Pp e ?_;simp only[fy,iU,ki,aj,ak,Tryz.vr,Value.oneCell',simprocAttr, -List.reduceReplicate])
  ·(have e:mW s=false:=(by have q:(s.re==0)= !decide (0 < s.re):=Cd;have q2:(s.se==0)= !decide (0 < s.se):=se0;simp only[mW,h0,h1,q,q2]at *; simp_all);simp only[h0,h1,hl,Bool.not_true,Bool.not_false,bne,aL,aM,aF,al,aq,aj,ak,Tryz.vr,Value.oneCell',simprocAttr, -List.reduceReplicate];refine Pp e ?_;simp only[fy,iU,ki,aj,ak,Tryz.vr,Value.oneCell',simprocAttr, -List.reduceReplicate])
end Go.Proofs.YtoakenpcooglpaaGreatDoor
namespace Go.Proofs.YtoakenpcooglpaaGreatDoor
set_option maxHeartbeats 16000000
set_option maxRecDepth 20000
open Go.cA
set_option linter.unusedSectionVars false
variable [aX]
theorem Pq {s:St} {n:Nat} {f:Nat→En} {cs:List SV} (h0:aY 0 s.store n f cs) (hp:cs.all SV.plain=true) (hs:iH s) (hf: ∀ i,la (f i)) (hn:n < 4611686018427387904):
  bt Tryz.prog 21 [Ag (bO s)] 1 (lk [(0,⟨false,cs⟩)]) (fun v out=>v=B (iq s n f)∧out=fun _=>none):=by
 refine LL Tryz.func21 rfl (by kernel_rfl) [3,1,1,1,1] (by simp[Tryz.ntmps21]) Tryz.p' (fun y hy=>by
  obtain rfl:=List.mem_singleton.1 hy
  exact cO (h0.ok (by decide))) eG (eH hp) ?_
 refine ⟨_,akc h0 hp hs,fun s2 e2=> ?_⟩
 rw[show s2=_ from e2];clear e2 s2
 refine ⟨_,akd h0 hp hs,fun s2 e2=> ?_⟩
 rw[show s2=_ from e2];clear e2 s2
 refine ⟨_,ake h0 hp hs,fun s2 e2=> ?_⟩
 rw[show s2=_ from e2];clear e2 s2
 refine ⟨_,akf h0 hp hs,fun s2 e2=> ?_⟩
 rw[show s2=_ from e2];clear e2 s2
 refine ⟨_,akg h0 hp hs,fun s2 e2=> ?_⟩
 rw[show s2=_ from e2];clear e2 s2
 have hl:=h0.len
 have fin: ∀ {t:AS} {b:Bool},b=iq s n f→Ct 1 (fun v out=>v=B (iq s n f)∧out=fun _=>none) (B b) t:=fun e=>aC rfl ⟨by rw[e],rfl⟩
 rcases Bool.eq_false_or_eq_true (gL s n) with b1 | b1
 rotate_left 1
 ·simp only[Tryz.results21,b1,oX,iQ,kF,oY,fE,Bool.not_false,aj,ak,Tryz.vr,Value.oneCell',simprocAttr, -List.reduceReplicate]
  exact fin (by simp[iq,b1])
 rcases Bool.eq_false_or_eq_true (CM s) with b2 | b2
 rotate_left 1
 ·simp only[Tryz.results21,b1,b2,oX,iQ,kF,oY,fE,Bool.not_false,Bool.not_true,aj,ak,Tryz.vr,Value.oneCell',simprocAttr, -List.reduceReplicate]
  exact fin (by unfold iq;rw[b1,show (s.own||s.peer)=false from b2];rfl)
 rcases Bool.eq_false_or_eq_true (cY s) with b3 | b3
 rotate_left 1
 ·simp only[Tryz.results21,b1,b2,b3,oX,iQ,kF,oY,fE,Bool.not_false,Bool.not_true,aj,ak,Tryz.vr,Value.oneCell',simprocAttr, -List.reduceReplicate]
  exact fin (by unfold iq;rw[b1,b3];simp)
 rcases Bool.eq_false_or_eq_true (dT s) with b4 | b4
 rotate_left 1
 ·simp only[Tryz.results21,b1,b2,b3,b4,oX,iQ,kF,oY,fE,Bool.not_false,Bool.not_true,aj,ak,Tryz.vr,Value.oneCell',simprocAttr, -List.reduceReplicate]
  exact fin (by unfold iq;rw[b1,b4];simp)
 rcases Bool.eq_false_or_eq_true (mW s) with b5 | b5
 rotate_left 1
 ·simp only[Tryz.results21,b1,b2,b3,b4,b5,oX,iQ,kF,oY,fE,Bool.not_false,Bool.not_true,aj,ak,Tryz.vr,Value.oneCell',simprocAttr, -List.reduceReplicate]
  exact fin (by unfold iq;rw[b1,b5];simp)
 have ev:iq s n f=kt s f n:=by unfold iq;rw[b1,show (s.own||s.peer)=true from b2,b3,b4,b5];rfl
 have fy: ∀ {M:Nat→Prop},(∀ x ∈ cs,SV.ok M x)=True:=eq_true (aJ hp)
 have iU:(∀ x ∈ bO s,SV.ok (fun n=>n < 519) x)=True:=eq_true (cO (h0.ok (by decide)))
 simp only[Tryz.results21,b1,b2,b3,b4,b5,oX,iQ,kF,oY,fE,Bool.not_false,Bool.not_true,aj,ak,Tryz.vr,Value.oneCell',simprocAttr, -List.reduceReplicate]
 refine xS n (fun k=>kt s f k=true) (fun k=>[(1,Ptr 1 0),(9,I .i64 k)]) (fun k=>[(0,⟨false,cs⟩),(1,⟨true,bO s⟩)]) _ ?_ ?_ ?_
 ·refine ⟨rfl, ?_⟩
  simp only[fy,iU,Tryz.vr,Value.oneCell',simprocAttr, -List.reduceReplicate]
 ·intro j hj hinv
  have h1:=h0
  rcases h0 with ⟨_,rfl⟩ | ⟨o,c,e,hc,hsh⟩
  ·omega
  have b1:=hsh.lt hj
  simp only[hl,aq,Tryz.vr,Value.oneCell',simprocAttr, -List.reduceReplicate]
  refine aD (by simp;omega) ?_
  simp only[e,bl,dO hj,hsh j hj,b1,fK,aq,Tryz.vr,Value.oneCell',simprocAttr, -List.reduceReplicate]
  refine ⟨by kernel_rfl, ?_⟩
  have w:=hf j
  rcases Bool.eq_false_or_eq_true ((f j).ep==0) with p0 | p0
  ·have g1:iq s n f=false:=by rw[ev];exact lC hj (by simp[Bc,rW,p0])
   simp only[p0,Tryz.vr,Value.oneCell',simprocAttr, -List.reduceReplicate]
   exact fin (by rw[g1])
  simp only[p0,fK,aq,Tryz.vr,Value.oneCell',simprocAttr, -List.reduceReplicate]
  refine cB.draw (oN w.ep w.n) Tryz.jg ?_
  simp only[fK,aq,Tryz.vr,Value.oneCell',simprocAttr, -List.reduceReplicate]
  refine cB.draw (oN hs.re hs.nr) Tryz.jg ?_
  by_cases p1:rV s.re s.nr≤rV (f j).ep (f j).n
  ·have g1:iq s n f=false:=by
    rw[ev];refine lC hj ?_
    have: ¬ rV (f j).ep (f j).n < rV s.re s.nr:=by omega
    simp[Bc,rW,this]
   have d1:decide (rV s.re s.nr≤rV (f j).ep (f j).n)=true:=decide_eq_true p1
   simp only[d1,Tryz.vr,Value.oneCell',simprocAttr, -List.reduceReplicate]
   exact fin (by rw[g1])
  have d1:decide (rV s.re s.nr≤rV (f j).ep (f j).n)=false:=decide_eq_false p1
  have pas:rW s (f j)=true:=by
   have:rV (f j).ep (f j).n < rV s.re s.nr:=by omega
   simp[rW,p0,this]
  by_cases j0:j=0
  ·have d0:decide (0 < (j:Int))=false:=decide_eq_false (by omega)
   have g1:kt s f (j+1)=true:=by rw[kt,hinv,Bc,pas,decide_eq_true j0];rfl
   simp only[d1,d0,Tryz.vr,Value.oneCell',simprocAttr, -List.reduceReplicate]
   refine ⟨by kernel_rfl, ?_⟩
   simp only[g1,bD j (by omega),Tryz.vr,Value.oneCell',simprocAttr, -List.reduceReplicate]
   exact ⟨aJ hp,cO (h1.ok (by decide))⟩
  have d0:decide (0 < (j:Int))=true:=decide_eq_true (by omega)
  have w1:IntKind.i64.wrap ((j:Int) - 1)=((j - 1:Nat):Int):=ac9 j 1 (by omega) (by omega)
  have Wz:j - 1 < n:=by omega
  have b2:=hsh.lt Wz
  have w2:=hf (j - 1)
  have q0:cs[o+(j - 1)*66]? =some (Sum.inl (.int .u32 (f (j - 1)).ep)):=by
   have:=congrArg (fun l:List SV=>l[0]?) (hsh (j - 1) Wz)
   simp only[Oq]at this
   rwa [List.getElem?_take_of_lt (by decide),List.getElem?_drop,Nat.add_zero]at this
  have q1:cs[o+(j - 1)*66+1]? =some (Sum.inl (.int .u32 (f (j - 1)).n)):=by
   have:=congrArg (fun l:List SV=>l[1]?) (hsh (j - 1) Wz)
   simp only[Ot]at this
   rwa [List.getElem?_take_of_lt (by decide),List.getElem?_drop]at this
  simp only[d1,d0,Tryz.vr,Value.oneCell',simprocAttr, -List.reduceReplicate]
  refine ⟨by kernel_rfl, ?_⟩
  simp only[e,w1,bl,dO Wz,q0,q1,fK,aq,Tryz.vr,Value.oneCell',simprocAttr, -List.reduceReplicate]
  refine cB.draw (oN w2.ep w2.n) Tryz.jg ?_
  simp only[fK,aq,Tryz.vr,Value.oneCell',simprocAttr, -List.reduceReplicate]
  refine cB.draw (oN w.ep w.n) Tryz.jg ?_
  by_cases hc0:rV (f (j - 1)).ep (f (j - 1)).n < rV (f j).ep (f j).n
  ·have d2:decide (rV (f j).ep (f j).n≤rV (f (j - 1)).ep (f (j - 1)).n)=false:=decide_eq_false (by omega)
   have g1:kt s f (j+1)=true:=by rw[kt,hinv,Bc,pas,decide_eq_true hc0];simp
   simp only[d2,g1,bD j (by omega),Tryz.vr,Value.oneCell',simprocAttr, -List.reduceReplicate]
   exact ⟨aJ hp,cO (h1.ok (by decide))⟩
  ·have d2:decide (rV (f j).ep (f j).n≤rV (f (j - 1)).ep (f (j - 1)).n)=true:=decide_eq_true (by omega)
   have g1:iq s n f=false:=by rw[ev];exact lC hj (by rw[Bc,decide_eq_false hc0,decide_eq_false j0];simp)
   simp only[d2,Tryz.vr,Value.oneCell',simprocAttr, -List.reduceReplicate]
   exact fin (by rw[g1])
 ·intro hinv
  simp only[hl,aq,Tryz.vr,Value.oneCell',simprocAttr, -List.reduceReplicate]
  refine aH (by simp) ?_
  simp only[hinv,Tryz.vr,Value.oneCell',simprocAttr, -List.reduceReplicate]
  exact fin (by rw[ev,hinv])
end Go.Proofs.YtoakenpcooglpaaGreatDoor
