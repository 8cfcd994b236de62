/-
  Opening where the body is no slice: nothing is to be read.
-/
import Derived.Test.YtpnehhpadofcbaaGreatDoorVcgE1
import Derived.Test.YtpnehhpadofcbaaGreatDoorVcgWZ
import Derived.Test.YtpnehhpadofcbaaGreatDoorVcgJ1
import Derived.Test.YtpnehhpadofcbaaGreatDoorVcgJ3
import Derived.Test.YtpnehhpadofcbaaGreatDoorVcgR5
set_option maxHeartbeats 16000000
set_option maxRecDepth 20000
set_option linter.unusedSimpArgs false
set_option linter.unusedVariables false
set_option linter.unusedSectionVars false
namespace Go.Proofs.YtpnehhpadofcbaaGreatDoor
open Go.bU
variable [aO]
theorem RS {a:Option Addr}:bf Tryz.prog 98 [V (.slice a 0 0)] 0 (fun _=>none) (fun v out=>v=B false∧out=fun _=>none):=by
 refine av Tryz.func98 rfl (by kernel_rfl) (by simp[Tryz.ntmps98]) Tryz.pD (by simp[AV.ok,CV.ok,SV.names]) tq tu ?_
 simp only[Tryz.results98,vR,seval, -List.reduceReplicate]
 exact ak rfl ⟨rfl,rfl⟩
theorem sS {s:AS} {nm:Nat} {a:Option Addr} {dst:Option Nat} {K:AS→Prop} (hk:K (s.put dst (some (B false)))):ax Tryz.prog nm 98 (some [V (.slice a 0 0)]) dst K s:=
 RS.cW (fun n=>n) gF rfl rfl hk
theorem Yx {oa na ca:Nat} {a:Option Addr} {K ad body:Nat→Int} {cs:List SV} (hK:br K) (ha:br ad) (hb:br body) (hs:aZ cs oa na ad) (hp:cs.all SV.plain=true) (hna:na < 40000000):
  bf Tryz.prog 101 [Ag (af .u8 80 K),Sl 0 oa na ca,V (.slice a 0 0)] 1 (lk [(0,⟨false,cs⟩)]) (fun u out=>u=Ag (af .u8 32 (uY K na 0 ad body))∧out=fun _=>none):=by
 refine av Tryz.func101 rfl (by kernel_rfl) (by simp[Tryz.ntmps101]) Tryz.yY (fun u hu=>by
  simp only[List.mem_cons,List.not_mem_nil,or_false]at hu
  rcases hu with rfl | rfl | rfl
  ·exact aC aw
  ·exact (by decide:0 < 1)
  ·trivial) dG (dH hp) ?_
 have hw:IntKind.u64.wrap (na:Int)=(na:Int):=au _ (by omega) (by omega)
 simp only[Tryz.results101,hw,vR,seval, -List.reduceReplicate]
 refine dS zn (fun n=>n) gF rfl ?_
 intro c1 eU h1 h2 h3
 simp only[vR,seval, -List.reduceReplicate]
 have hk:aZ (af .u8 80 K) 32 32 (fun i=>K (32+i)):=fun i hi=>aA .u8 80 K (32+i) (by omega)
 refine ⟨show 1≤3 by decide,show 2≤3 by decide,show 3≤3 by decide, ?_⟩
 refine rS (Sj:=true) (MS:=true) (ze:=af .u8 80 K) (key:=fun i=>K (32+i)) (n0:=8) (n1:=na) (n2:=0) (f0:=iO (na:Int)) (f1:=ad) (f2:=body) (by simp only[ay,Gk]) rfl
  (.inr ⟨6,0,c1,true,af .u8 8 (iO (na:Int))++eU,rfl,by simp only[ae,vR,seval, -List.reduceReplicate],cD h3,dg⟩) (.inr ⟨0,oa,ca,false,cs,rfl,by simp only[ae,vR,seval, -List.reduceReplicate],hp,hs⟩) (.inl ⟨⟨a,rfl⟩,rfl⟩)
  (Cx _) ha hb (by simp only[ae,vR,seval, -List.reduceReplicate]) aw hk (fun i=>hK _) (by decide) (by decide) (by omega) ?_
 simp only[vR,seval, -List.reduceReplicate]
 exact ak aw ⟨rfl,rfl⟩
theorem acK {a:Option Addr} {K J f:Nat→Int} (hK:br K) (hJ:br J):
  bf Tryz.prog 102 [Ag (af .u8 32 K),Ag (af .u8 16 J),V (.slice a 0 0)] 0 (fun _=>none) (fun v out=>v=Sl 0 0 0 0∧out=lk [(0,⟨true,af .u8 0 (pP K J f)⟩)]):=by
 refine av Tryz.func102 rfl (by kernel_rfl) (by simp[Tryz.ntmps102]) Tryz.nG (by simp[AV.ok,CV.ok,SV.names];exact ⟨aC aw,aC aw⟩) tq tu ?_
 simp only[Tryz.results102,vR,seval, -List.reduceReplicate]
 refine (wN K hK).ax ?_
 simp only[vR,seval, -List.reduceReplicate]
 refine aE 0 (fun k=>[(8,Sl 9 0 0 0),(17,I .i64 0),(18,I .i64 k)]) (fun k=>[(9,⟨true,af .u8 0 (pP K J f)⟩)]) _ ?_ ?_ ?_
 ·simp only[vR,seval, -List.reduceReplicate];exact congrArg (fun c=>some (aN.mk true c)) (aX fun i hi=>absurd hi (by omega))
 ·intro k hk;omega
 ·simp only[vR,seval, -List.reduceReplicate]
  refine aD (by simp) ?_
  simp only[vR,seval, -List.reduceReplicate]
  refine dV (k:=0) (q:=9) (cs:=af .u8 0 (pP K J f)) (by decide) ?_ aw ⟨rfl,rfl⟩
  simp only[vR,seval, -List.reduceReplicate]
theorem Z7 {oa na ca:Nat} {a:Option Addr} {mk ad f tag:Nat→Int} {cs:List SV} (hmk:br mk) (ha:br ad) (hf:br f) (ht:br tag) (hs:aZ cs oa na ad) (hp:cs.all SV.plain=true) (hg: ¬ 1048576 < na) (hsame:gN tag (nc mk na 0 ad f)=true):
  bf Tryz.prog 81 [Ag (af .u8 32 mk),Sl 0 oa na ca,Ag (Sum.inl (.slice a 0 0)::af .u8 32 tag)] 1 (lk [(0,⟨false,cs⟩)]) (fun v out=>v=gY 1 0∧out=lk [(1,⟨true,af .u8 0 (gu mk f)⟩)]):=by
 refine av Tryz.func81 rfl (by kernel_rfl) (by simp[Tryz.ntmps81]) Tryz.kR (fun u hu=>by
  simp only[List.mem_cons,List.not_mem_nil,or_false]at hu
  rcases hu with rfl | rfl | rfl
  ·exact aC aw
  ·exact (by decide:0 < 1)
  ·intro x hx
   rcases List.mem_cons.1 hx with rfl | hx
   ·trivial
   ·exact SV.bk (List.all_eq_true.1 aw x hx)) dG (dH hp) ?_
 have d1:decide (1048576 < (na:Int))=false:=decide_eq_false (by omega)
 simp only[Tryz.results81,vR,seval, -List.reduceReplicate]
 refine eJ (rw:=false) (by simp only[ae,vR,seval, -List.reduceReplicate]) hp ?_
 simp only[d1,nP,vR,seval, -List.reduceReplicate]
 refine sS ?_
 simp only[vR,seval, -List.reduceReplicate]
 refine (lp mk hmk).ax ?_
 have t0:=kT (n:=80) (m:=32) (f:=ry mk) (tail:=[]) (by decide)
 have t2:=jr (n:=80) (a:=64) (m:=16) (f:=ry mk) (tail:=[]) (by decide)
 rw[List.append_nil]at t0 t2
 have tt:List.take 32 (af .u8 32 tag)=af .u8 32 tag:=ft _ _ _
 simp only[aj,du,t0,t2,tt,nP,vR,seval, -List.reduceReplicate]
 refine ⟨by kernel_rfl, ?_⟩
 refine (Yx (ca:=ca) (a:=a) (kt mk) ha hf hs hp (by omega)).cQ (fun _=>0) (bS (rw:=false) (by simp only[ae,vR,seval, -List.reduceReplicate]) hp) aw (by simp only[List.map_cons,List.map_nil,fg,eF];rfl) (fun M h m hm=> ?_) ?_
 ·exact h (Sl 0 oa na ca) (List.Mem.tail _ (List.Mem.head _))
 simp only[vR,seval, -List.reduceReplicate]
 refine cI.draw (nO tag (uY (ry mk) na 0 ad f) ht (jj _ _ _ _ _ _)) Tryz.nF ?_
 have ng:gN tag (uY (ry mk) na 0 ad f)=true:=hsame
 simp only[ng,t0,t2,Bool.not_true,vR,seval, -List.reduceReplicate]
 refine KI (acK (a:=a) (f:=f) (kt mk) (fun i=>kt mk (64+i))) aw (fun n=>n) gF (by simp only[List.map_cons,List.map_nil,fg];rfl) ?_
 simp only[vR,seval, -List.reduceReplicate]
 exact Cy (by decide) (by simp only[ae,vR,seval, -List.reduceReplicate];rfl) aw
theorem Nr {oa na ca:Nat} {a:Option Addr} {mk ad f tag:Nat→Int} {cs:List SV} (hmk:br mk) (ha:br ad) (hf:br f) (ht:br tag) (hs:aZ cs oa na ad) (hp:cs.all SV.plain=true) (hg: ¬ 1048576 < na) (hsame:gN tag (nc mk na 0 ad f)=false):
  bf Tryz.prog 81 [Ag (af .u8 32 mk),Sl 0 oa na ca,Ag (Sum.inl (.slice a 0 0)::af .u8 32 tag)] 1 (lk [(0,⟨false,cs⟩)]) (fun v out=>v=ku∧out=fun _=>none):=by
 refine av Tryz.func81 rfl (by kernel_rfl) (by simp[Tryz.ntmps81]) Tryz.kR (fun u hu=>by
  simp only[List.mem_cons,List.not_mem_nil,or_false]at hu
  rcases hu with rfl | rfl | rfl
  ·exact aC aw
  ·exact (by decide:0 < 1)
  ·intro x hx
   rcases List.mem_cons.1 hx with rfl | hx
   ·trivial
   ·exact SV.bk (List.all_eq_true.1 aw x hx)) dG (dH hp) ?_
 have d1:decide (1048576 < (na:Int))=false:=decide_eq_false (by omega)
 simp only[Tryz.results81,vR,seval, -List.reduceReplicate]
 refine eJ (rw:=false) (by simp only[ae,vR,seval, -List.reduceReplicate]) hp ?_
 simp only[d1,nP,vR,seval, -List.reduceReplicate]
 refine sS ?_
 simp only[vR,seval, -List.reduceReplicate]
 refine (lp mk hmk).ax ?_
 have t0:=kT (n:=80) (m:=32) (f:=ry mk) (tail:=[]) (by decide)
 have t2:=jr (n:=80) (a:=64) (m:=16) (f:=ry mk) (tail:=[]) (by decide)
 rw[List.append_nil]at t0 t2
 have tt:List.take 32 (af .u8 32 tag)=af .u8 32 tag:=ft _ _ _
 simp only[aj,du,t0,t2,tt,nP,vR,seval, -List.reduceReplicate]
 refine ⟨by kernel_rfl, ?_⟩
 refine (Yx (ca:=ca) (a:=a) (kt mk) ha hf hs hp (by omega)).cQ (fun _=>0) (bS (rw:=false) (by simp only[ae,vR,seval, -List.reduceReplicate]) hp) aw (by simp only[List.map_cons,List.map_nil,fg,eF];rfl) (fun M h m hm=> ?_) ?_
 ·exact h (Sl 0 oa na ca) (List.Mem.tail _ (List.Mem.head _))
 simp only[vR,seval, -List.reduceReplicate]
 refine cI.draw (nO tag (uY (ry mk) na 0 ad f) ht (jj _ _ _ _ _ _)) Tryz.nF ?_
 have ng:gN tag (uY (ry mk) na 0 ad f)=false:=hsame
 simp only[ng,Bool.not_false,vR,seval, -List.reduceReplicate]
 exact ak (v:=ku) rfl ⟨rfl,rfl⟩
def kZ (t m:Nat) (f:Nat→Int) (sv:SV) (cs:List SV):Prop:=(m=0∧sv=Sum.inl (.slice none 0 0))∨ ∃ o c,sv=Sum.inr (.inr (t,o,m,c))∧aZ cs o m f
theorem Ns {s:AS} {nm ta oa na ca td n:Nat} {mk ad f tag:Nat→Int} {sv:SV} {cs ds:List SV} {ra rd:Bool} (hmk:br mk) (ha:br ad) (hf:br f) (ht:br tag) (hb:s.box ta=some ⟨ra,cs⟩) (hs:aZ cs oa na ad) (hp:cs.all SV.plain=true) (hb':s.box td=some ⟨rd,ds⟩) (hv:kZ td n f sv ds) (hq:ds.all SV.plain=true) (hg: ¬ (1048576 < na∨1048576 < n)) {dst:Option Nat} {K:AS→Prop}
  (h1:gN tag (nc mk na n ad f)=true→K ((⟨s.env,upd s.box nm (some ⟨true,af .u8 n (gu mk f)⟩),s.next⟩:AS).put dst (some (gY nm n))))
  (h0:gN tag (nc mk na n ad f)=false→K ((⟨s.env,upd s.box nm none,s.next⟩:AS).put dst (some ku))):
  bA Tryz.prog nm 81 (some [Ag (af .u8 32 mk),Sl ta oa na ca,Ag (sv::af .u8 32 tag)]) dst K s:=by
 rcases hv with ⟨rfl,rfl⟩ | ⟨o,c,rfl,hs'⟩
 ·have el:[Ag (af .u8 32 mk),Sl ta oa na ca,Ag (Sum.inl (.slice none 0 0)::af .u8 32 tag)]=[Ag (af .u8 32 mk),Sl 0 oa na ca,Ag (Sum.inl (.slice none 0 0)::af .u8 32 tag)].map (AV.aI fun _=>ta):=by
   have e3:AV.aI (fun _=>ta) (Ag (Sum.inl (.slice none 0 0)::af .u8 32 tag))=Ag (Sum.inl (.slice none 0 0)::af .u8 32 tag):=by
    show AV.aI _ (.inl (.inr _))=_
    simp only[AV.aI,CV.aI,List.map_cons,aQ aw];rfl
   simp only[List.map_cons,List.map_nil,fg,eF,e3]
  cases hsame:gN tag (nc mk na 0 ad f) with
  | true=>
   refine (Z7 (ca:=ca) (a:=none) hmk ha hf ht hs hp (by omega) hsame).bA (fun _=>ta) (bS hb hp) el ?_
   rintro v out ⟨rfl,rfl⟩
   have l0:lk [(1,(⟨true,af .u8 0 (gu mk f)⟩:aN))] 1=some ⟨true,af .u8 0 (gu mk f)⟩:=rfl
   have e:AV.aI (bI (fun _=>ta) 1 nm) (gY 1 0)=gY nm 0:=by show gY (bI _ 1 nm 1) 0=_;rw[iN]
   rw[l0,fh aw,e]
   exact h1 hsame
  | false=>
   refine (Nr (ca:=ca) (a:=none) hmk ha hf ht hs hp (by omega) hsame).bA (fun _=>ta) (bS hb hp) el ?_
   rintro v out ⟨rfl,rfl⟩
   exact h0 hsame
 ·have el:[Ag (af .u8 32 mk),Sl ta oa na ca,Ag (Sum.inr (Sum.inr (td,o,n,c))::af .u8 32 tag)]=[Ag (af .u8 32 mk),Sl 0 oa na ca,Ag (Sum.inr (Sum.inr (1,o,n,c))::af .u8 32 tag)].map (AV.aI (two ta td)):=by
   have e3:AV.aI (two ta td) (Ag (Sum.inr (Sum.inr (1,o,n,c))::af .u8 32 tag))=Ag (Sum.inr (Sum.inr (td,o,n,c))::af .u8 32 tag):=by
    show AV.aI _ (.inl (.inr _))=_
    simp only[AV.aI,CV.aI,List.map_cons,aQ aw];rfl
   simp only[List.map_cons,List.map_nil,fg,eF,e3]
   rfl
  cases hsame:gN tag (nc mk na n ad f) with
  | true=>
   refine (Z3 (ca:=ca) (cb:=c) hmk ha hf ht hs hp hs' hq hg hsame).bA (two ta td) (ie hb hp hb' hq) el ?_
   rintro v out ⟨rfl,rfl⟩
   have l0:lk [(2,(⟨true,af .u8 n (gu mk f)⟩:aN))] 2=some ⟨true,af .u8 n (gu mk f)⟩:=rfl
   have e:AV.aI (bI (two ta td) 2 nm) (gY 2 n)=gY nm n:=by show gY (bI _ 2 nm 2) n=_;rw[iN]
   rw[l0,fh aw,e]
   exact h1 hsame
  | false=>
   refine (RM (ca:=ca) (cb:=c) hmk ha hf ht hs hp hs' hq hg hsame).bA (two ta td) (ie hb hp hb' hq) el ?_
   rintro v out ⟨rfl,rfl⟩
   exact h0 hsame
def wU (k m:Nat):AV:= .inr [.inl (.inr (.inr (k,0,m,m))), .inl (.inl .nilIface)]
def yd (mk aG:Nat→Int) (pn x:Int) (m:Nat) (f tag:Nat→Int):Bool:=gN tag (nc mk 41 m (KO aG pn x) f)
def pR [aO]:AV:= .inr [.inl (.inl (.slice none 0 0)), .inl (.inl (gH 5))]
def ae0 [aO] (k:Nat) (mk aG:Nat→Int) (pn x:Int) (m:Nat) (f tag:Nat→Int) (v:AV) (out:Nat→Option aN):Prop:=
 (yd mk aG pn x m f tag=true∧v=wU k m∧out=lk [(k,⟨true,af .u8 m (gu mk f)⟩)])∨(yd mk aG pn x m f tag=false∧v=pR∧out=fun _=>none)
theorem Xe {s:AS} {k q n:Nat} {cs:List SV} (hq:k≤q) (hb:s.box q=some ⟨true,cs⟩) (hp:cs.all SV.plain=true):qA k (fun v out=>v=wU k n∧out=lk [(k,⟨true,cs⟩)]) (wU q n) s:=by
 refine ⟨q,wU k n,lk [(k,⟨true,cs⟩)],hq, ?_, ?_,fun m b hm=> ?_,rfl,rfl⟩
 ·show wU q n=wU (kc k q k) n
  rw[iR]
 ·intro x hx
  simp only[List.mem_cons,List.not_mem_nil,or_false]at hx
  rcases hx with rfl | rfl
  ·exact Nat.lt_succ_self k
  ·trivial
 ·simp only[lk]at hm
  split at hm
  ·rename_i e
   simp only[Option.some.injEq]at hm;subst e hm
   exact ⟨Nat.lt_succ_self m,fun _=>rfl,aC hp,_,by rw[iR];exact hb,fun _=>rfl,(aQ hp _).symm⟩
  ·cases hm
def U5:bn:=
 let e0:bn:=(.cons 14 .nil .nil)
 let e1:bn:=(.cons 13 e0 .nil)
 let e2:bn:=(.cons 12 e0 .nil)
 let e3:bn:=(.cons 12 e1 (.cons 13 e2 .nil))
 let e4:bn:=(.cons 11 e1 .nil)
 (.cons 10 (.cons 11 e3 (.cons 12 e4 .nil)) .nil)
theorem U6 {mk aG f tag:Nat→Int} {pn x:Int} {m:Nat} {sv:SV} {ds:List SV} (hmk:br mk) (ic:br aG) (hf:br f) (ht:br tag) (hv:kZ 0 m f sv ds) (hq:ds.all SV.plain=true) (hm:m≤65536):
  bf Tryz.prog 55 [Ag (af .u8 32 mk),Ag (fT aG pn x sv tag)] 1 (lk [(0,⟨false,ds⟩)]) (ae0 1 mk aG pn x m f tag):=by
 have N8: ∀ {M:Nat→Prop},M 0→SV.ok M sv:=fun h=>by
  rcases hv with ⟨_,rfl⟩ | ⟨o,c,rfl,_⟩
  ·trivial
  ·exact ⟨h,rfl⟩
 have hone:SV.one sv=true:=by rcases hv with ⟨_,rfl⟩ | ⟨o,c,rfl,_⟩<;>rfl
 have hc:cellsOf (some (Sum.inl (Sum.inl sv)))=some [sv]:=if_pos hone
 refine gX Tryz.func55 rfl (by kernel_rfl) [1] [] (by simp[Tryz.ntmps55]) Tryz.ur (fun y hy=>by
  simp only[List.mem_cons,List.not_mem_nil,or_false]at hy
  rcases hy with rfl | rfl
  ·exact AV.bk (by simpa[AV.plain,CV.plain] using aw)
  ·exact jF (N8 (by decide))) dG (dH hq) ?_
 simp only[Tryz.results55,df,cB,bV,aK,aR,vL,seval, -List.reduceReplicate]
 refine oA (by kernel_rfl) [0,1,2,4,5,6,7,8] [3,9] [] [10,11,12,13,14] [1,2] [] [9,10,11,13,14,15,16,17,12,18,8,19,20,6,7] U5 (by kernel_rfl) (by kernel_rfl) (by kernel_rfl) (by kernel_rfl) (fun t h=>nomatch h) ?_
 simp only[hc,df,cB,gO,gP,gQ,bV,aK,aR,vL,seval, -List.reduceReplicate]
 refine wT ?_
 intro c1 kk Ys hs1 hp1
 simp only[df,cB,bV,aK,aR,vL,seval, -List.reduceReplicate]
 refine Ns (ta:=9) (td:=0) (ra:=true) (rd:=false) (cs:=kk) (ds:=ds) (f:=f) hmk (GM ic) hf ht (by simp only[vP,seval, -List.reduceReplicate]) hs1 hp1 (by simp only[vP,seval, -List.reduceReplicate]) hv hq (by omega) ?_ ?_
 ·intro hs
  simp only[gY,U5,cp,Bool.not_true,df,cB,dv,bV,aK,aR,vL,seval, -List.reduceReplicate]
  refine ⟨⟨?_, ?_⟩, ?_⟩
  all_goals
   exact qG (Xe (q:=13) (by decide) (by simp only[cp,vP,seval, -List.reduceReplicate]) aw) fun v out h=> .inl ⟨hs,h⟩
 ·intro hs
  simp only[ku,U5,cp,Bool.not_false,df,cB,dv,bV,aK,aR,vL,seval, -List.reduceReplicate]
  refine ⟨⟨?_, ?_⟩, ?_⟩
  all_goals
   refine .inl ?_
   simp only[cp,Bool.not_false,dv,aK,aR,vL,seval, -List.reduceReplicate]
   refine ⟨by kernel_rfl, ?_⟩
   simp only[Tryz.di,vR,seval, -List.reduceReplicate]
   exact qG (ak (v:=pR) rfl ⟨rfl,rfl⟩) fun v out h=> .inr ⟨hs,h⟩
def GP (f:Nat→En) (i:Nat):Nat→En:=fun j=>if j < i then f j else f (j+1)
theorem RT {cs:List SV} {o n:Nat} {f:Nat→En} (h: ∀ j,j < n→ ∀ k,k < 66→cs[o+j*66+k]? =(gB (f j))[k]?):cO cs o n f:=fun j hj=>List.ext_getElem? fun k=>by
 rw[List.getElem?_take]
 split
 ·rename_i hk;rw[List.getElem?_drop];exact h j hj k hk
 ·symm;exact List.getElem?_eq_none (by rw[eO];omega)
theorem Nt {n c i:Nat} {f:Nat→En} {cs X Z:List SV} (hg:bz cs 0 n c f) (hi:i < n) (hX:X=(cs.drop ((i+1)*66)).take ((n - (i+1))*66)) (hZ:Z.length=66) (hz:Z.all SV.plain=true):
  bz (splice (splice cs (i*66) X) ((n - 1)*66) Z) 0 (n - 1) c (GP f i):=by
 have hr:=hg.room
 have hl:=hg.len
 have hcn:n*66≤c*66:=Nat.mul_le_mul_right _ hr
 have hXl:X.length=(n - (i+1))*66:=by rw[hX,List.length_take,List.length_drop,hl];omega
 have l1:(splice cs (i*66) X).length=cs.length:=jd _ _ _ (by rw[hXl];omega)
 refine ⟨?_,by omega,pG (pG hg.plain ?_) hz,RT fun j hj k hk=> ?_⟩
 ·rw[jd _ _ _ (by rw[hZ,l1];omega),l1,hl]
 ·rw[hX];exact List.all_eq_true.2 fun x hx=>List.all_eq_true.1 hg.plain x (List.mem_of_mem_drop (List.mem_of_mem_take hx))
 ·rw[fw _ _ _ (by rw[hZ,l1];omega),if_pos (by omega),fw _ _ _ (by rw[hXl];omega)]
  unfold GP
  by_cases e:j < i
  ·rw[if_pos (by omega),if_pos e]
   exact hg.shows.cell (i:=j) (by omega) hk
  ·rw[if_neg (by omega),if_pos (by rw[hXl];omega),if_neg e,hX,List.getElem?_take,if_pos (by omega),List.getElem?_drop, ← hg.shows.cell (i:=j+1) (by omega) hk]
   congr 1;omega
theorem Z8 {s:AS} {k o n c:Nat} {cs:List SV} {Post:AV→(Nat→Option aN)→Prop} (ht:0 < k) (hb:s.box 0=some ⟨true,cs⟩) (hp:cs.all SV.plain=true) (h:Post (Sl 0 o n c) (lk [(0,⟨true,cs⟩)])):qA k Post (Sl 0 o n c) s:=by
 refine ⟨k,Sl 0 o n c,lk [(0,⟨true,cs⟩)],Nat.le_refl _, ?_,(show 0 < k+1 by omega),fun m b hm=> ?_,h⟩
 ·show Sl 0 o n c=Sl (kc k k 0) o n c
  rw[A8 ht]
 ·obtain ⟨rfl,rfl⟩:=A6 hm
  exact ⟨by omega,fun _=>rfl,aC hp,⟨true,cs⟩,by rw[A8 ht];exact hb,fun h=>h,(aQ hp _).symm⟩
theorem U7 {n c i:Nat} {f:Nat→En} {cs:List SV} (hg:bz cs 0 n c f) (hi:i < n) (hn:n < 4611686018427387904):
  bf Tryz.prog 56 [Sl 0 0 n c,I .i64 i,I .i64 (i+1)] 1 (lk [(0,⟨true,cs⟩)]) (fun v out=>v=Sl 0 0 (n - 1) c∧ ∃ ds,bz ds 0 (n - 1) c (GP f i)∧out=lk [(0,⟨true,ds⟩)]):=by
 refine av Tryz.func56 rfl (by kernel_rfl) (by simp[Tryz.ntmps56]) Tryz.uv (fun y hy=>by
  simp only[List.mem_cons,List.not_mem_nil,or_false]at hy
  rcases hy with rfl | rfl | rfl
  ·exact (show 0 < 1 by decide)
  ·trivial
  ·trivial) dG (dH hg.plain) ?_
 have hr:=hg.room
 have hl:=hg.len
 simp only[Tryz.results56,tE,bw,vR,seval]
 refine ⟨⟨by omega,by omega,by omega⟩, ?_⟩
 have e1:((i:Int)==i+1)=false:=by simp;omega
 simp only[e1,tE,bw,vR,seval]
 have t1:((i:Int)+1).toNat=i+1:=by omega
 simp only[t1]at*
 refine ⟨by kernel_rfl,by omega,⟨by omega,by omega,by omega⟩,by kernel_rfl, ?_⟩
 refine Gc (sz:=66) (by':=72) Tryz.jQ Tryz.ki (cs:=cs) (by simp only[ae,vR,seval]) (by omega) (by omega) ?_ ?_ rfl
 ·split<;>omega
 have n1:i+(n - (i+1))=n - 1:=by omega
 have n2:n - (n - 1)=1:=by omega
 have c1:(c=n - 1)=False:=eq_false (by omega)
 simp only[n1,n2,c1,if_false,tE,bw,vR,seval]
 refine ⟨⟨by omega,by omega⟩, ?_⟩
 have hX:List.take ((n - (i+1))*66) (List.drop (if c=i+1 then 0 else (i+1)*66) cs)=List.take ((n - (i+1))*66) (List.drop ((i+1)*66) cs):=by
  by_cases e:n - (i+1)=0
  ·rw[e];simp
  ·rw[if_neg (by omega)]
 have hcn:n*66≤c*66:=Nat.mul_le_mul_right _ hr
 have l1:(splice cs (i*66) (List.take ((n - (i+1))*66) (List.drop ((i+1)*66) cs))).length=cs.length:=jd _ _ _ (by rw[List.length_take,List.length_drop,hl];omega)
 rw[hX]
 refine T0 Tryz.jQ (by simp) (by simp) rfl (by simp only[ae,vR,seval];rfl) (by rw[l1];omega) ?_
 have gI:=Nt (Z:=cC (List.replicate 2 (Value.int IntKind.u32 0)++List.replicate 64 (Value.int IntKind.u8 0)) 1) hg hi rfl (by rw[jB];simp) (dh (by simp) rfl rfl)
 simp only[tE,bw,vR,seval]
 exact Z8 (by decide) (by simp only[ae,vR,seval]) gI.plain ⟨rfl,_,gI,rfl⟩
theorem bd {P:Program} [bU.Tables P] {s:AS} {nm k:Nat} {x:Operand} {dst:Option Nat} {ty:TypeId} {pos:String} {after:Array Edge} {K:AS→Prop}:sg P nm (some ⟨dst, .extract x k,ty,pos,after,none⟩) K s=bO (gq (s.aT x) k) nm dst K s:=rfl
theorem kZ.name {t m:Nat} {f:Nat→Int} {sv:SV} {cs:List SV} (h:kZ t m f sv cs) (k:Nat): ∃ v0,kZ k m f v0 cs∧ ∀ r:Nat→Nat,r k=t→SV.aI r v0=sv:=by
 rcases h with ⟨h0,rfl⟩ | ⟨o,c,rfl,hs⟩
 ·exact ⟨.inl (.slice none 0 0), .inl ⟨h0,rfl⟩,fun r hr=>rfl⟩
 ·exact ⟨.inr (.inr (k,o,m,c)), .inr ⟨o,c,rfl,hs⟩,fun r hr=>by simp only[SV.aI,hr]⟩
theorem my {s:AS} {nm td m:Nat} {mk aG f tag:Nat→Int} {pn x:Int} {sv:SV} {ds:List SV} {rd:Bool} (hmk:br mk) (ic:br aG) (hf:br f) (ht:br tag) (hb:s.box td=some ⟨rd,ds⟩) (hv:kZ td m f sv ds) (hq:ds.all SV.plain=true) (hm:m≤65536) {dst:Option Nat} {K:AS→Prop}
  (h1:yd mk aG pn x m f tag=true→K ((⟨s.env,upd s.box nm (some ⟨true,af .u8 m (gu mk f)⟩),s.next⟩:AS).put dst (some (wU nm m))))
  (h0:yd mk aG pn x m f tag=false→K ((⟨s.env,upd s.box nm none,s.next⟩:AS).put dst (some pR))):
  bA Tryz.prog nm 55 (some [Ag (af .u8 32 mk),Ag (fT aG pn x sv tag)]) dst K s:=by
 obtain ⟨v0,g0,e0⟩:=hv.name 0
 refine (U6 (pn:=pn) (x:=x) hmk ic hf ht g0 hq hm).bA (fun _=>td) (bS hb hq) (by simp only[List.map_cons,List.map_nil,fg,lX,e0 (fun _=>td) rfl]) ?_
 rintro v out (⟨h,rfl,rfl⟩ | ⟨h,rfl,rfl⟩)
 ·have l0:lk [(1,(⟨true,af .u8 m (gu mk f)⟩:aN))] 1=some ⟨true,af .u8 m (gu mk f)⟩:=rfl
  have e:AV.aI (bI (fun _=>td) 1 nm) (wU 1 m)=wU nm m:=by show wU (bI _ 1 nm 1) m=_;rw[iN]
  rw[l0,fh aw,e]
  exact h1 h
 ·exact h0 h
theorem KQ {s:AS} {nm p n c i:Nat} {f:Nat→En} {cs:List SV} (hb:s.box p=some ⟨true,cs⟩) (hg:bz cs 0 n c f) (hi:i < n) (hn:n < 4611686018427387904) {dst:Option Nat} {K:AS→Prop}
  (hk: ∀ ds,bz ds 0 (n - 1) c (GP f i)→K ((⟨s.env,upd s.box p (some ⟨true,ds⟩),s.next⟩:AS).put dst (some (Sl p 0 (n - 1) c)))):ax Tryz.prog nm 56 (some [Sl p 0 n c,I .i64 i,I .i64 (i+1)]) dst K s:=by
 refine (U7 hg hi hn).ax (fun _=>p) (some 0) (A7 hb hg.plain) rfl ?_
 rintro v out ⟨rfl,ds,hd,rfl⟩ _
 have e:after s (fun _=>p) 1 nm (some 0) (lk [(0,⟨true,ds⟩)])=upd s.box p (some ⟨true,ds⟩):=by
  simp only[after,lk]
  show upd s.box p (Option.map _ (some _))=_
  simp only[Option.map_some,aN.aI,aQ hd.plain]
 rw[e]
 exact hk ds hd
theorem RU {s:AS} {k m:Nat} {P Q:AV→(Nat→Option aN)→Prop} {v:AV} (h:zB k m P v s) (hi: ∀ v out,P v out→Q v out):zB k m Q v s:=by
 obtain ⟨q,v0,out,h1,h2,h3,h4,h5,h6⟩:=h
 exact ⟨q,v0,out,h1,h2,h3,h4,h5,hi _ _ h6⟩
theorem eY {s:AS} {k m q:Nat} {v:AV} {P:AV→(Nat→Option aN)→Prop} (hv:AV.plain v=true) (h:P v (fun _=>none)):zB k m P v s:=
 ⟨fun j=>k+j,v,fun _=>none,fun j hj=>Nat.le_add_right k j,fun i j hi hj e=>Nat.add_left_cancel e,(AV.bB hv _).symm,AV.bk hv,fun n b hb=>(by cases hb),h⟩
theorem zX {s:AS} {k q p m:Nat} {ep x:Int} {st:St} {sv sk:SV} {bx:Option aN} {ds:List SV} {Post:AV→(Nat→Option aN)→Prop} (hq:k≤q) (hp:k≤p) (hne:p≠q) (hb:s.box q=some ⟨true,ds⟩) (hd:ds.all SV.plain=true) (hb':s.box p=bx)
  (Tm: ∀ r:Nat→Nat,r k=p→SV.aI r sk=sv) (ZK: ∀ M:Nat→Prop,M k→SV.ok M sk) (l6: ∀ b,bx=some b→b.rw=true∧b.cells.all SV.plain=true)
  (h:Post (.inr [.inr (eV 0 { st with store:=sk } (.inr (.inr (k+1,0,m,m))) ep x), .inl (.inl .nilIface)]) (fun j=>if j=k then bx else if j=k+1 then some ⟨true,ds⟩ else none)):
  zB k 2 Post (.inr [.inr (eV 0 { st with store:=sv } (.inr (.inr (q,0,m,m))) ep x), .inl (.inl .nilIface)]) s:=by
 have r0:hY k (fun j=>if j=0 then p else q) k=p:=by unfold hY;rw[if_neg (by omega)];exact if_pos (by omega)
 have r1:hY k (fun j=>if j=0 then p else q) (k+1)=q:=by unfold hY;rw[if_neg (by omega)];exact if_neg (by omega)
 refine ⟨fun j=>if j=0 then p else q, .inr [.inr (eV 0 { st with store:=sk } (.inr (.inr (k+1,0,m,m))) ep x), .inl (.inl .nilIface)],fun j=>if j=k then bx else if j=k+1 then some ⟨true,ds⟩ else none,fun j hj=>by (dsimp only;split)<;>assumption,fun i j hi hj e=> ?_, ?_,fun y hy=> ?_,fun m b hm=> ?_,h⟩
 ·dsimp only at e
  split at e<;>split at e
  ·omega
  ·exact absurd e hne
  ·exact absurd e.symm hne
  ·omega
 ·have e2:SV.aI (hY k (fun j=>if j=0 then p else q)) (.inr (.inr (k+1,0,m,m)))= .inr (.inr (q,0,m,m)):=by simp only[SV.aI,r1]
  show _=(Sum.inr [Sum.inr ((eV 0 { st with store:=sk } (.inr (.inr (k+1,0,m,m))) ep x).map (SV.aI (hY k (fun j=>if j=0 then p else q)))), .inl (.inl .nilIface)]:AV)
  rw[B3,e2]
  show _=(Sum.inr [Sum.inr (eV 0 { st with store:=SV.aI (hY k (fun j=>if j=0 then p else q)) sk } _ _ _), .inl (.inl .nilIface)]:AV)
  rw[Tm _ r0]
 ·simp only[List.mem_cons,List.not_mem_nil,or_false]at hy
  rcases hy with rfl | rfl
  ·exact wv (ZK _ (by omega)) ⟨(show k+1 < k+2 by omega),rfl⟩
  ·trivial
 ·dsimp only at hm
  split at hm
  ·rename_i e;subst e
   obtain ⟨h1,h2⟩:=l6 b hm
   exact ⟨by omega,fun _=>h1,aC h2,b,by rw[r0,hb',hm],fun h=>h,(aQ h2 _).symm⟩
  ·split at hm
   ·rename_i _ e;subst e;cases hm
    exact ⟨by omega,fun _=>rfl,aC hd,⟨true,ds⟩,by rw[r1];exact hb,fun h=>h,(aQ hd _).symm⟩
   ·cases hm
def Yy [aO] (k n m i:Nat) (s:St) (f:Nat→En) (aG g tag:Nat→Int) (pn x:Int) (v:AV) (out:Nat→Option aN):Prop:=
 (yd (f i).key aG pn x m g tag=false∧v= .inr [.inr (eV 0 rM (.inl (.slice none 0 0)) 0 0), .inl (.inl (gH 5))]∧out=fun _=>none)∨
 (yd (f i).key aG pn x m g tag=true∧ ∃ c cs,bz cs 0 (n - 1) c (GP f i)∧v= .inr [.inr (eV 0 { s with store:= .inr (.inr (k,0,n - 1,c)) } (.inr (.inr (k+1,0,m,m))) (f i).ep (f i).n), .inl (.inl .nilIface)]∧
  out=fun j=>if j=k then some ⟨true,cs⟩ else if j=k+1 then some ⟨true,af .u8 m (gu (f i).key g)⟩ else none)
theorem U8 {s:St} {n m i:Nat} {f:Nat→En} {aG g tag:Nat→Int} {pn x:Int} {sv:SV} {cs ds:List SV} (h0:aH 0 s.store n f cs) (hp:cs.all SV.plain=true) (hn:n*72≤140737488355328) (hi:i < n) (hk:br (f i).key) (ic:br aG) (hf:br g) (ht:br tag) (hv:kZ 1 m g sv ds) (hq:ds.all SV.plain=true) (hm:m≤65536):
  gL Tryz.prog 30 [Ag (bC s),Ag (fT aG pn x sv tag),I .i64 i] 2 2 (lk [(0,⟨false,cs⟩),(1,⟨false,ds⟩)]) (Yy 2 n m i s f aG g tag pn x):=by
 have N8: ∀ {M:Nat→Prop},M 1→SV.ok M sv:=fun h=>by
  rcases hv with ⟨_,rfl⟩ | ⟨o,c,rfl,_⟩
  ·trivial
  ·exact ⟨h,rfl⟩
 have h1:=h0
 rcases h0 with ⟨_,h0⟩ | ⟨o,c,hst,hc,hsh⟩
 ·omega
 have b1:=hsh.lt hi
 refine dF Tryz.func30 rfl (by kernel_rfl) [2,5] [] (by simp[Tryz.ntmps30]) Tryz.tX (by decide) (fun y hy=>by
  simp only[List.mem_cons,List.not_mem_nil,or_false]at hy
  rcases hy with rfl | rfl | rfl
  ·exact bF (h1.ok (by decide))
  ·exact jF (N8 (by decide))
  ·trivial) lC (nU hp hq) ?_
 simp only[Tryz.results30,hst,aW,cF hi,hsh i hi,eO,b1,iZ,vL,seval, -List.reduceReplicate]
 refine ⟨by decide, ?_⟩
 simp only[iZ,vL,seval, -List.reduceReplicate]
 refine my (td:=1) (rd:=false) (ds:=ds) (f:=g) hk ic hf ht (by simp only[vP,seval, -List.reduceReplicate]) hv hq hm ?_ ?_
 ·intro hs
  simp only[wU,bd,iZ,vL,seval, -List.reduceReplicate]
  refine ⟨by decide, ?_⟩
  simp only[iZ,vL,seval, -List.reduceReplicate]
  refine pH (t:=0) (rw:=false) (x:=s) (by simp only[vP,seval, -List.reduceReplicate]) hp h1 hn ?_
  rintro U9 Xf (⟨h2,_⟩ | ⟨h2,c2,mD,rfl,hg,rfl⟩)
  ·omega
  simp only[iZ,vL,seval, -List.reduceReplicate]
  have wi:IntKind.i64.wrap ((i:Int)+1)=i+1:=by rw[IntKind.wrap_i64];omega
  simp only[wi,iZ,vL,seval, -List.reduceReplicate]
  refine KQ (cs:=mD) (by simp only[vP,seval, -List.reduceReplicate]) hg hi (by omega) ?_
  intro es hes
  simp only[iZ,vL,seval, -List.reduceReplicate]
  exact zX (st:=s) (q:=29) (p:=63) (sk:= .inr (.inr (2,0,n - 1,c2))) (bx:=some ⟨true,es⟩) (by decide) (by decide) (by decide) (by simp only[vP,seval, -List.reduceReplicate]) aw (by simp only[vP,seval, -List.reduceReplicate])
   (fun r hr=>by simp only[SV.aI,hr]) (fun M h=>⟨h,rfl⟩) (fun b hb=>by cases hb;exact ⟨rfl,hes.plain⟩) (.inr ⟨hs,c2,es,hes,rfl,rfl⟩)
 ·intro hs
  have hni:lZ BinOp.neq true (some (Sum.inl (Sum.inl (Sum.inl (gH 5)))))=some (some (B true),none):=rfl
  simp only[pR,bd,hni,iZ,vL,seval, -List.reduceReplicate]
  exact eY (q:=0) (v:= .inr [.inr (eV 0 rM (.inl (.slice none 0 0)) 0 0), .inl (.inl (gH 5))]) (by rfl) (.inl ⟨hs,rfl,rfl⟩)
def fq (s:St) (pn:Int):Int:=if s.re=0 then s.nr else if s.nr < pn then pn else s.nr
theorem Va {M:Nat→Prop} {aG:Nat→Int} {pn n:Int}:AV.ok M (Ag (lQ aG pn n)):=AV.bk dU
theorem KR {s:St} {n:Nat} {f:Nat→En} {cs:List SV} {aG:Nat→Int} {pn x:Int} (h0:aH 0 s.store n f cs) (hp:cs.all SV.plain=true):
  bf Tryz.prog 60 [Ag (bC s),Ag (lQ aG pn x)] 1 (lk [(0,⟨false,cs⟩)]) (fun v out=>v=I .u32 (fq s pn)∧out=fun _=>none):=by
 refine av Tryz.func60 rfl (by kernel_rfl) (by simp[Tryz.ntmps60]) Tryz.pw (fun y hy=>by
  simp only[List.mem_cons,List.not_mem_nil,or_false]at hy
  rcases hy with rfl | rfl
  ·exact bF (h0.ok (by decide))
  ·exact Va) dG (dH hp) ?_
 by_cases h:s.re=0
 ·simp only[Tryz.results60,h,beq_self_eq_true,bV,ao,vR,seval]
  exact ak rfl ⟨by simp[fq,h],rfl⟩
 ·have hb:(s.re==0)=false:=by simpa using h
  simp only[Tryz.results60,hb,bV,ao,vR,seval]
  refine Gb ?_
  simp only[bV,ao,vR,seval]
  exact ak rfl ⟨by simp[fq,h],rfl⟩
def ni (s:St) (n:Nat) (old now:Int):Option Nat:=if s.skip < (if now > old then now else old) then some 6 else if s.room < n+old+now then some 7 else none
theorem qe {s:St} {n:Nat} {f:Nat→En} {cs:List SV} {old now:Int} (h0:aH 0 s.store n f cs) (hp:cs.all SV.plain=true) (hl:fx s n=true) (h1:mC old) (h2:mC now):
  bf Tryz.prog 83 [Ag (bC s),I .u32 old,I .u32 now] 1 (lk [(0,⟨false,cs⟩)]) (fun v out=>v=oC (ni s n old now)∧out=fun _=>none):=by
 refine av Tryz.func83 rfl (by kernel_rfl) (by simp[Tryz.ntmps83]) Tryz.pA (fun y hy=>by
  simp only[List.mem_cons,List.not_mem_nil,or_false]at hy
  rcases hy with rfl | rfl | rfl
  ·exact bF (h0.ok (by decide))
  ·trivial
  ·trivial) dG (dH hp) ?_
 have Yl:=h0.len
 simp only[fx,Bool.and_eq_true,decide_eq_true_eq]at hl
 obtain ⟨⟨⟨⟨l1,l2⟩,l3⟩,l4⟩,l5⟩:=hl
 simp only[mC]at h1 h2
 have w1: ∀ x:Int,0≤x→x < 18446744073709551616→IntKind.u64.wrap x=x:=fun x a b=>by rw[IntKind.wrap_u64];omega
 have m0:(0:Int)≤(if now > old then now else old)∧(if now > old then now else old) < 4294967296:=by split<;>omega
 simp only[Tryz.results83,ao,vR,seval]
 refine Gb ?_
 simp only[w1 _ m0.1 (by omega),w1 s.skip l1 (by omega),ao,vR,seval]
 refine dI (fun h=> ?_) (fun h=> ?_)
 ·have h':=of_decide_eq_true h
  simp only[vR,seval]
  exact ak rfl ⟨by simp[ni,h',oC],rfl⟩
 have h':=of_decide_eq_false h
 simp only[Yl,w1 old h1.1 (by omega),w1 now h2.1 (by omega),w1 (n:Int) (by omega) (by omega),w1 (n+old) (by omega) (by omega),w1 (n+old+now) (by omega) (by omega),w1 s.room l3 (by omega),ao,vR,seval]
 refine dI (fun h=> ?_) (fun h=> ?_)
 ·have h3:=of_decide_eq_true h
  simp only[vR,seval]
  exact ak rfl ⟨by simp[ni,h',h3,oC],rfl⟩
 ·have h3:=of_decide_eq_false h
  simp only[vR,seval]
  exact ak rfl ⟨by simp[ni,h',h3,oC],rfl⟩
def lN (s:St) (n:Nat) (pr:Bool) (pn x:Int):Option Nat:=
 if pr=true then (if x < s.nr then some 8 else ni s n 0 (x - s.nr))
 else if s.own=false then some 2 else if s.re=4294967295 then some 3 else ni s n (fq s pn - s.nr) x
theorem Fl {s:St}:s.store ∈ bC s:=by simp[bC,xh]
theorem GQ {o:Option Nat} {F:AV→AS→Prop} {s:AS}:vB (lA (Ob (YR (some (oC o))) (some []))) F s=F (oC o) s:=by cases o<;>rfl
theorem Vb {s:St} {a:Option Addr} {aG:Nat→Int} {pn x:Int} (h0:s.store= .inl (.slice a 0 0)):
  bf Tryz.prog 60 [Ag (bC s),Ag (lQ aG pn x)] 0 (fun _=>none) (fun v out=>v=I .u32 (fq s pn)∧out=fun _=>none):=by
 refine av Tryz.func60 rfl (by kernel_rfl) (by simp[Tryz.ntmps60]) Tryz.pw (fun y hy=>by
  simp only[List.mem_cons,List.not_mem_nil,or_false]at hy
  rcases hy with rfl | rfl
  ·exact bF (by rw[h0];trivial)
  ·exact Va) tq tu ?_
 by_cases h:s.re=0
 ·simp only[Tryz.results60,h,beq_self_eq_true,bV,ao,vR,seval, -List.reduceReplicate]
  exact ak rfl ⟨by simp[fq,h],rfl⟩
 ·have hb:(s.re==0)=false:=by simpa using h
  simp only[Tryz.results60,hb,bV,ao,vR,seval, -List.reduceReplicate]
  refine Gb ?_
  simp only[bV,ao,vR,seval, -List.reduceReplicate]
  exact ak rfl ⟨by simp[fq,h],rfl⟩
theorem zH {s:St} {a:Option Addr} {old now:Int} (h0:s.store= .inl (.slice a 0 0)) (hl:fx s 0=true) (h1:mC old) (h2:mC now):
  bf Tryz.prog 83 [Ag (bC s),I .u32 old,I .u32 now] 0 (fun _=>none) (fun v out=>v=oC (ni s 0 old now)∧out=fun _=>none):=by
 refine av Tryz.func83 rfl (by kernel_rfl) (by simp[Tryz.ntmps83]) Tryz.pA (fun y hy=>by
  simp only[List.mem_cons,List.not_mem_nil,or_false]at hy
  rcases hy with rfl | rfl | rfl
  ·exact bF (by rw[h0];trivial)
  ·trivial
  ·trivial) tq tu ?_
 have Yl:gR 1 (some [.inl (.inl s.store)])=some (some (I .i64 (0:Nat)),none):=by rw[h0];rfl
 simp only[fx,Bool.and_eq_true,decide_eq_true_eq]at hl
 obtain ⟨⟨⟨⟨l1,l2⟩,l3⟩,l4⟩,l5⟩:=hl
 simp only[mC]at h1 h2
 have w1: ∀ x:Int,0≤x→x < 18446744073709551616→IntKind.u64.wrap x=x:=fun x a b=>by rw[IntKind.wrap_u64];omega
 have m0:(0:Int)≤(if now > old then now else old)∧(if now > old then now else old) < 4294967296:=by split<;>omega
 simp only[Tryz.results83,ao,vR,seval, -List.reduceReplicate]
 refine Gb ?_
 simp only[w1 _ m0.1 (by omega),w1 s.skip l1 (by omega),ao,vR,seval, -List.reduceReplicate]
 refine dI (fun h=> ?_) (fun h=> ?_)
 ·have h':=of_decide_eq_true h
  simp only[vR,seval, -List.reduceReplicate]
  exact ak rfl ⟨by simp[ni,h',oC],rfl⟩
 have h':=of_decide_eq_false h
 simp only[Yl,w1 old h1.1 (by omega),w1 now h2.1 (by omega),w1 0 (by omega) (by omega),w1 (0+old) (by omega) (by omega),w1 (0+old+now) (by omega) (by omega),Int.zero_add,w1 (old+now) (by omega) (by omega),w1 s.room l3 (by omega),ao,vR,seval, -List.reduceReplicate]
 refine dI (fun h=> ?_) (fun h=> ?_)
 ·have h3:=of_decide_eq_true h
  have h4:s.room < old+now:=by omega
  simp only[vR,seval, -List.reduceReplicate]
  exact ak rfl ⟨by simp[ni,h',h4,oC],rfl⟩
 ·have h3:=of_decide_eq_false h
  have h4: ¬ s.room < old+now:=by omega
  simp only[vR,seval, -List.reduceReplicate]
  exact ak rfl ⟨by simp[ni,h',h4,oC],rfl⟩
theorem qf {s:St} {n:Nat} {f:Nat→En} {cs:List SV} {aG:Nat→Int} {pn x:Int} {pr:Bool} (h0:aH 0 s.store n f cs) (hp:cs.all SV.plain=true) (hl:fx s n=true) (hs:gy s) (hx:mC x) (xg:mC pn):
  bf Tryz.prog 57 [Ag (bC s),Ag (lQ aG pn x),B pr] 1 (lk [(0,⟨false,cs⟩)]) (fun v out=>v=oC (lN s n pr pn x)∧out=fun _=>none):=by
 refine av Tryz.func57 rfl (by kernel_rfl) (by simp[Tryz.ntmps57]) Tryz.uw (fun y hy=>by
  simp only[List.mem_cons,List.not_mem_nil,or_false]at hy
  rcases hy with rfl | rfl | rfl
  ·exact bF (h0.ok (by decide))
  ·exact Va
  ·trivial) dG (dH hp) ?_
 have Fm:=hs.nr
 simp only[mC]at hx xg Fm
 have w1: ∀ y:Int,0≤y→y < 4294967296→IntKind.u32.wrap y=y:=fun y a b=>by rw[wrap_u32];omega
 cases pr with
 | true=>
  by_cases h:x < s.nr
  ·have h':decide (x < s.nr)=true:=decide_eq_true h
   simp only[Tryz.results57,h',bV,ao,Tryz.di,vR,seval, -List.reduceReplicate]
   exact ak rfl ⟨by simp[lN,h,oC],rfl⟩
  ·have h':decide (x < s.nr)=false:=decide_eq_false h
   simp only[Tryz.results57,h',w1 (x - s.nr) (by omega) (by omega),bV,ao,Tryz.di,vR,seval, -List.reduceReplicate]
   refine (qe (old:=0) (now:=x - s.nr) h0 hp hl ⟨by decide,by decide⟩ ⟨by omega,by omega⟩).cW (fun _=>0) (bS (rw:=false) (by simp only[ae,vR,seval, -List.reduceReplicate]) hp) (iD _) ?_ ?_
   ·have e:=h0.aI (r:=fun _=>0) rfl
    simp only[List.map_cons,List.map_nil,eM,e];rfl
   ·simp only[Tryz.di,vR,seval, -List.reduceReplicate]
    rw[GQ]
    exact ak (v:=oC (ni s n 0 (x - s.nr))) (iD _) ⟨by simp[lN,h],rfl⟩
 | false=>
  rcases Bool.eq_false_or_eq_true s.own with ho | ho
  ·by_cases h:s.re=4294967295
   ·have h':(s.re==4294967295)=true:=by simp[h]
    simp only[Tryz.results57,ho,h',Bool.not_true,bV,ao,Tryz.di,vR,seval, -List.reduceReplicate]
    exact ak rfl ⟨by simp[lN,ho,h,oC],rfl⟩
   ·have h':(s.re==4294967295)=false:=by simp[h]
    simp only[Tryz.results57,ho,h',Bool.not_true,bV,ao,Tryz.di,vR,seval, -List.reduceReplicate]
    refine ⟨by kernel_rfl, ?_⟩
    have e0:0≤fq s pn∧fq s pn < 4294967296∧s.nr≤fq s pn:=by unfold fq;split<;>(try split)<;>omega
    rcases h0 with ⟨⟨a,h1⟩,rfl⟩ | ⟨o,c,h1,hc,hsh⟩
    ·refine (Vb (aG:=aG) (pn:=pn) (x:=x) h1).cQ (fun n=>n) gF rfl ?_ (fun M h n hn=>by omega) ?_
     ·have e:=(show SV.aI (fun n=>n) s.store=s.store by rw[h1];rfl)
      simp only[List.map_cons,List.map_nil,eM,e,AV.bB dU]
     ·simp only[w1 (fq s pn - s.nr) (by omega) (by omega),bV,ao,Tryz.di,vR,seval, -List.reduceReplicate]
      refine (zH (old:=fq s pn - s.nr) (now:=x) h1 hl ⟨by omega,by omega⟩ ⟨by omega,by omega⟩).cQ (fun n=>n) gF (iD _) ?_ (fun M h n hn=>by omega) ?_
      ·have e:=(show SV.aI (fun n=>n) s.store=s.store by rw[h1];rfl)
       simp only[List.map_cons,List.map_nil,eM,e];rfl
      ·simp only[bV,ao,Tryz.di,vR,seval, -List.reduceReplicate]
       rw[GQ]
       exact ak (iD _) ⟨by simp[lN,ho,h],rfl⟩
    ·have h0:aH 0 s.store n f cs:= .inr ⟨o,c,h1,hc,hsh⟩
     refine (KR (aG:=aG) (pn:=pn) (x:=x) h0 hp).cQ (fun _=>0) (bS (rw:=false) (by simp only[ae,vR,seval, -List.reduceReplicate]) hp) rfl ?_ (fun M h n hn=> ?_) ?_
     ·have e:=h0.aI (r:=fun _=>0) rfl
      simp only[List.map_cons,List.map_nil,eM,e,AV.bB dU]
     ·have:=h (Ag (bC s)) (List.Mem.head _) s.store Fl
      rw[h1]at this
      exact this.1
     ·simp only[w1 (fq s pn - s.nr) (by omega) (by omega),bV,ao,Tryz.di,vR,seval, -List.reduceReplicate]
      refine (qe (old:=fq s pn - s.nr) (now:=x) h0 hp hl ⟨by omega,by omega⟩ ⟨by omega,by omega⟩).cQ (fun _=>0) (bS (rw:=false) (by simp only[ae,vR,seval, -List.reduceReplicate]) hp) (iD _) ?_ (fun M h n hn=> ?_) ?_
      ·have e:=h0.aI (r:=fun _=>0) rfl
       simp only[List.map_cons,List.map_nil,eM,e];rfl
      ·have:=h (Ag (bC s)) (List.Mem.head _) s.store Fl
       rw[h1]at this
       exact this.1
      ·simp only[bV,ao,Tryz.di,vR,seval, -List.reduceReplicate]
       rw[GQ]
       exact ak (iD _) ⟨by simp[lN,ho,h],rfl⟩
  ·simp only[Tryz.results57,ho,Bool.not_false,bV,ao,Tryz.di,vR,seval, -List.reduceReplicate]
   exact ak rfl ⟨by simp[lN,ho,oC],rfl⟩
def la (s:St):St:={ s with recv:=qk s.recv 2,nr:=IntKind.u32.wrap (s.nr+1) }
theorem qg {s:St} {n:Nat} {f:Nat→En} {ds:List SV} (hs:br s.recv) (h0:aH 1 s.store n f ds) (hq:ds.all SV.plain=true):
  bf Tryz.prog 62 [Ptr 0 0] 2 (lk [(0,⟨true,bC s⟩),(1,⟨false,ds⟩)]) (fun v out=>v=Ag (af .u8 32 (qk s.recv 1))∧out=lk [(0,⟨true,bC (la s)⟩)]):=by
 refine gX Tryz.func62 rfl (by kernel_rfl) [] [] (by simp[Tryz.ntmps62]) Tryz.uz (fun y hy=>by
  simp only[List.mem_cons,List.not_mem_nil,or_false]at hy
  subst hy
  exact (show 0 < 2 by decide)) lC (fun m b hm=>by
  rcases vD hm with ⟨rfl,rfl⟩ | ⟨rfl,rfl⟩
  ·exact ⟨by decide,bF (h0.ok (by decide))⟩
  ·exact ⟨by decide,aC hq⟩) ?_
 simp only[Tryz.results62,ao,aK,aR,vL,seval, -List.reduceReplicate]
 refine (Gl s.recv hs).ax ?_
 simp only[wA,ao,aK,aR,vL,seval, -List.reduceReplicate]
 exact Ff (x:=la s) (c:=⟨false,ds⟩) (by decide) (by simpa[AV.plain,CV.plain] using aw) (by simp only[ao,vR,seval, -List.reduceReplicate];rfl) (fun r hr=>h0.aI (hr 1 (by decide))) (h0.ok (show 1 < 3 by decide)) ⟨rfl,rfl⟩
def Vc:bn:=
 let e0:bn:=(.cons 10 .nil .nil)
 let e1:bn:=(.cons 9 e0 .nil)
 let e2:bn:=(.cons 8 e1 .nil)
 let e3:bn:=(.cons 7 e2 .nil)
 let e4:bn:=(.cons 6 e3 .nil)
 let e5:bn:=(.cons 5 e4 .nil)
 let e6:bn:=(.cons 4 e5 .nil)
 let e7:bn:=(.cons 3 e6 .nil)
 let e8:bn:=(.cons 2 e3 .nil)
 let e9:bn:=(.cons 2 e4 (.cons 6 e8 .nil))
 let Wo:bn:=(.cons 2 e5 (.cons 5 e9 .nil))
 let Zs:bn:=(.cons 2 e6 (.cons 4 Wo .nil))
 let e12:bn:=(.cons 2 e7 (.cons 3 Zs .nil))
 let e13:bn:=(.cons 1 e3 .nil)
 let WB:bn:=(.cons 1 e4 (.cons 6 e13 .nil))
 let e15:bn:=(.cons 1 e5 (.cons 5 WB .nil))
 let VE:bn:=(.cons 1 e6 (.cons 4 e15 .nil))
 let e17:bn:=(.cons 1 e7 (.cons 3 VE .nil))
 let e18:bn:=(.cons 1 e8 (.cons 2 e13 .nil))
 let e19:bn:=(.cons 1 e9 (.cons 2 WB (.cons 6 e18 .nil)))
 let Yp:bn:=(.cons 1 Wo (.cons 2 e15 (.cons 5 e19 .nil)))
 let e21:bn:=(.cons 1 Zs (.cons 2 VE (.cons 4 Yp .nil)))
 let e22:bn:=(.cons 1 e12 (.cons 2 e17 (.cons 3 e21 .nil)))
 let e23:bn:=(.cons 0 e7 .nil)
 let e24:bn:=(.cons 0 e12 (.cons 2 e23 .nil))
 let e25:bn:=(.cons 0 e17 (.cons 1 e23 .nil))
 let e26:bn:=(.cons 0 e22 (.cons 1 e24 (.cons 2 e25 .nil)))
 e26
def gJ (s:St) (pk:Nat→Int):St:=
 { s with root:=Ll s.root (zj s.priv pk),recv:=fun i=>Ll s.root (zj s.priv pk) (32+i),re:=IntKind.u32.wrap (s.re+1),peer:=true,zA:=pk,has:=false,send:=fun _=>0,nr:=0 }
theorem ye {s:St} {pk:Nat→Int} {n:Nat} {f:Nat→En} {ds:List SV} (hs:gy s) (hb:br pk) (h0:aH 1 s.store n f ds) (hq:ds.all SV.plain=true):
  bf Tryz.prog 61 [Ptr 0 0,Ag (af .u8 32 pk)] 2 (lk [(0,⟨true,bC s⟩),(1,⟨false,ds⟩)]) (fun v out=>v= .inr []∧out=lk [(0,⟨true,bC (gJ s pk)⟩)]):=by
 refine gX Tryz.func61 rfl (by kernel_rfl) [] [] (by simp[Tryz.ntmps61]) Tryz.uy (fun y hy=>by
  simp only[List.mem_cons,List.not_mem_nil,or_false]at hy
  rcases hy with rfl | rfl
  ·exact (show 0 < 2 by decide)
  ·exact AV.bk (by simpa[AV.plain,CV.plain] using aw)) lC (fun m b hm=>by
  rcases vD hm with ⟨rfl,rfl⟩ | ⟨rfl,rfl⟩
  ·exact ⟨by decide,bF (h0.ok (by decide))⟩
  ·exact ⟨by decide,aC hq⟩) ?_
 simp only[Tryz.results61,ao,aK,aR,vL,seval, -List.reduceReplicate]
 refine .inl ?_
 simp only[ao,aK,aR,vL,seval, -List.reduceReplicate]
 refine ⟨by kernel_rfl, ?_⟩
 refine (Ru s.priv pk hs.priv hb).draw (by kernel_rfl) ?_
 simp only[ao,aK,aR,vL,seval, -List.reduceReplicate]
 refine (J' s.root (zj s.priv pk) hs.root (Kx s.priv pk)).draw (by kernel_rfl) ?_
 simp only[wA,ao,aK,aR,vL,seval, -List.reduceReplicate]
 refine .inr ⟨Tryz.mixed,Vc,by kernel_rfl, ?_⟩
 simp only[Vc,aj,dv,ao,aK,aR,vL,seval, -List.reduceReplicate]
 (repeat' apply And.intro)<;>
  exact Ff (x:=gJ s pk) (c:=⟨false,ds⟩) (by decide) rfl (by simp only[ao,vR,seval, -List.reduceReplicate];rfl) (fun r hr=>h0.aI (hr 1 (by decide))) (h0.ok (show 1 < 3 by decide)) ⟨rfl,rfl⟩
theorem pS {s:AS} {nm t u n:Nat} {x:St} {f:Nat→En} {rw:Bool} {ds:List SV} (hs:br x.recv) (h:s.box t=some ⟨true,bC x⟩) (h':s.box u=some ⟨rw,ds⟩) (hq:ds.all SV.plain=true) (hne:t≠u) (hi:aH u x.store n f ds) {dst:Option Nat} {K:AS→Prop}
  (hk:K ((⟨s.env,upd s.box t (some ⟨true,bC (la x)⟩),s.next⟩:AS).put dst (some (Ag (af .u8 32 (qk x.recv 1)))))):ax Tryz.prog nm 62 (some [Ptr t 0]) dst K s:=by
 obtain ⟨v0,g0,e0⟩:=hi.name (k:=1)
 have e1:SV.aI (two t u) v0=x.store:=e0 _ rfl
 refine (qg (s:={ x with store:=v0 }) hs g0 hq).ax (two t u) (some 0) (GA h h' hq hne e1) rfl ?_
 rintro v out ⟨rfl,rfl⟩ _
 have e2:SV.aI (dJ (two t u) 2 nm) v0=x.store:=e0 _ rfl
 have e4:AV.aI (dJ (two t u) 2 nm) (Ag (af .u8 32 (qk x.recv 1)))=Ag (af .u8 32 (qk x.recv 1)):=AV.bB (by simpa[AV.plain,CV.plain] using aw) _
 have:after s (two t u) 2 nm (some 0) (lk [(0,⟨true,bC (la { x with store:=v0 })⟩)])=upd s.box t (some ⟨true,bC (la x)⟩):=by
  have e3:bC { (la { x with store:=v0 }) with store:=x.store }=bC (la x):=rfl
  simp only[after,lk,if_true,Option.map_some,aN.aI,eN]
  show upd s.box t (some ⟨true,bC { (la { x with store:=v0 }) with store:=SV.aI (dJ (two t u) 2 nm) v0 }⟩)=_
  rw[e2,e3]
 rw[this,e4]
 exact hk
theorem KS {s:AS} {nm t u n:Nat} {x:St} {f:Nat→En} {rw:Bool} {ds:List SV} (hs:br x.recv) (h:s.box t=some ⟨true,bC x⟩) (h':s.box u=some ⟨rw,ds⟩) (hq:ds.all SV.plain=true) (hne:t≠u) (hi:aH u x.store n f ds) (hnm:t≠nm) {dst:Option Nat} {K:AS→Prop}
  (hk:K ((⟨s.env,upd (upd s.box t (some ⟨true,bC (la x)⟩)) nm none,s.next⟩:AS).put dst (some (Ag (af .u8 32 (qk x.recv 1)))))):bA Tryz.prog nm 62 (some [Ptr t 0]) dst K s:=by
 obtain ⟨v0,g0,e0⟩:=hi.name (k:=1)
 have e1:SV.aI (two t u) v0=x.store:=e0 _ rfl
 refine (qg (s:={ x with store:=v0 }) hs g0 hq).wide.ax (two t u) (some 0) (GA h h' hq hne e1) ?_ ?_
 ·simp only[List.map_cons,List.map_nil];rfl
 ·rintro v out ⟨rfl,rfl⟩
  have e2:SV.aI (bI (two t u) 2 nm) v0=x.store:=e0 _ rfl
  have e4:AV.aI (bI (two t u) 2 nm) (Ag (af .u8 32 (qk x.recv 1)))=Ag (af .u8 32 (qk x.recv 1)):=AV.bB (by simpa[AV.plain,CV.plain] using aw) _
  rw[RB (by show ¬ (nm≤t∧t < nm+1);omega),e4]
  have e3:bC { (la { x with store:=v0 }) with store:=x.store }=bC (la x):=rfl
  have:(some (⟨true,bC (la { x with store:=v0 })⟩:aN)).map (aN.aI (bI (two t u) 2 nm))=some ⟨true,bC (la x)⟩:=by
   simp only[Option.map_some,aN.aI,eN]
   show some (⟨true,bC { (la { x with store:=v0 }) with store:=SV.aI (bI (two t u) 2 nm) v0 }⟩:aN)=_
   rw[e2,e3]
  have l0:lk [(0,(⟨true,bC (la { x with store:=v0 })⟩:aN))] 0=some ⟨true,bC (la { x with store:=v0 })⟩:=rfl
  have l2:lk [(0,(⟨true,bC (la { x with store:=v0 })⟩:aN))] 2=none:=rfl
  rw[l0,l2,this]
  exact hk
theorem KT {s:AS} {nm t u n:Nat} {x:St} {pk:Nat→Int} {f:Nat→En} {rw:Bool} {ds:List SV} (hs:gy x) (hb:br pk) (h:s.box t=some ⟨true,bC x⟩) (h':s.box u=some ⟨rw,ds⟩) (hq:ds.all SV.plain=true) (hne:t≠u) (hi:aH u x.store n f ds) {dst:Option Nat} {K:AS→Prop}
  (hk:K ((⟨s.env,upd s.box t (some ⟨true,bC (gJ x pk)⟩),s.next⟩:AS).put dst (some (.inr [])))):ax Tryz.prog nm 61 (some [Ptr t 0,Ag (af .u8 32 pk)]) dst K s:=by
 obtain ⟨v0,g0,e0⟩:=hi.name (k:=1)
 have e1:SV.aI (two t u) v0=x.store:=e0 _ rfl
 refine (ye (s:={ x with store:=v0 }) (hs.ws v0) hb g0 hq).ax (two t u) (some 0) (GA h h' hq hne e1) ?_ ?_
 ·have:AV.aI (two t u) (Ag (af .u8 32 pk))=Ag (af .u8 32 pk):=AV.bB (by simpa[AV.plain,CV.plain] using aw) _
  simp only[List.map_cons,List.map_nil,this];rfl
 ·rintro v out ⟨rfl,rfl⟩ _
  have e2:SV.aI (dJ (two t u) 2 nm) v0=x.store:=e0 _ rfl
  have:after s (two t u) 2 nm (some 0) (lk [(0,⟨true,bC (gJ { x with store:=v0 } pk)⟩)])=upd s.box t (some ⟨true,bC (gJ x pk)⟩):=by
   have e3:bC { (gJ { x with store:=v0 } pk) with store:=x.store }=bC (gJ x pk):=rfl
   simp only[after,lk,if_true,Option.map_some,aN.aI,eN]
   show upd s.box t (some ⟨true,bC { (gJ { x with store:=v0 } pk) with store:=SV.aI (dJ (two t u) 2 nm) v0 }⟩)=_
   rw[e2,e3]
  rw[this]
  exact hk
def fJ (s:St):Nat→St
 | 0=>s
 | k+1=>la (fJ s k)
theorem n8 {s:St} {v:SV}: ∀ k,fJ { s with store:=v } k={ fJ s k with store:=v }
 | 0=>rfl
 | k+1=>by rw[fJ,fJ,n8 k];rfl
theorem uZ {s:St}: ∀ k,(fJ s k).re=s.re∧(fJ s k).zA=s.zA
 | 0=>⟨rfl,rfl⟩
 | k+1=>uZ k
theorem pT {s:St} (h:br s.recv): ∀ k,br (fJ s k).recv
 | 0=>h
 | k+1=>pQ _ _
theorem CD {s:St} (h:0≤s.nr): ∀ k:Nat,s.nr+k < 4294967296→(fJ s k).nr=s.nr+k
 | 0,_=>by simp[fJ]
 | k+1,hk=>by
  show IntKind.u32.wrap ((fJ s k).nr+1)=_
  rw[CD h k (by omega),IntKind.wrap_u32];omega
def Nu (s:St) (k:Nat):En:=⟨s.re,(fJ s k).nr,s.zA,qk (fJ s k).recv 1⟩
def gA (n:Nat) (f:Nat→En) (s:St) (i:Nat):En:=if i < n then f i else Nu s (i - n)
def Sm (x:Int) (s:St) (k:Nat) (sv:SV) (l:List (Nat×aN)):AS:=oZ [(0,Ptr 0 0),(1,I .u32 x)] (l++[(0,⟨true,bC { fJ s k with store:=sv }⟩)]) 100
def Qw (k N:Nat) (f:Nat→En) (s:St) (m:Nat) (v:AV) (out:Nat→Option aN):Prop:=
 v= .inr []∧ ∃ sv,out 0=some ⟨true,bC { fJ s m with store:=sv }⟩∧((m=0∧iT 1 N f sv (out 1)∧out k=none)∨(0 < m∧iT k (N+m) (gA N f s) sv (out k)∧(k≠1→out 1=none)))
theorem iF {x:St}:(la x).store=x.store:=rfl
theorem Nv:jx (List.replicate 2 (Value.int IntKind.u32 0)++List.replicate 64 (Value.int IntKind.u8 0)) 66=gB sL:=by rfl
theorem ve:(List.replicate 2 (Value.int IntKind.u32 0)++List.replicate 64 (Value.int IntKind.u8 0)).length=66:=by rfl
theorem rz {e:En}:cO (gB e) 0 1 (fun _=>e):=fun i hi=>by
 obtain rfl:i=0:=by omega
 exact vX
theorem rW {N k:Nat} {f:Nat→En} {s:St}: ∀ i,i < N+k+1→(if i < N+k then gA N f s i else Nu s k)=gA N f s i:=fun i hi=>by
 split
 ·rfl
 ·obtain rfl:i=N+k:=by omega
  rw[gA,if_neg (by omega)];congr 1;omega
def SkI (x:Int) (s:St) (N:Nat) (f:Nat→En) (k:Nat) (t:AS):Prop:=
 ∃ p c cs,(p=1∧k=0∨p=60∧0 < k)∧bz cs 0 (N+k) c (gA N f s)∧t=Sm x s k (.inr (.inr (p,0,N+k,c))) [(p,⟨true,cs⟩)]
theorem Nw {x:Int} {s:St} {n k c q m:Nat} {F:Nat→En} {t:AS} {cs:List SV} (hm:m≤60) (hg:bz cs 0 n c F) (hq:q≠0) (e0:t.env 0=some (Ptr 0 0)) (e1:t.env 1=some (I .u32 x)) (b0:t.box 0=some ⟨true,bC { fJ s k with store:= .inr (.inr (q,0,n,c)) }⟩) (b1:t.box q=some ⟨true,cs⟩):
  oU m t (Sm x s k (.inr (.inr (60,0,n,c))) [(60,⟨true,cs⟩)]):=by
 have n0:(0:Nat)≠60:=by decide
 have e2:upd (fun n=>n) 60 q 0=0:=bj _ _ _ _ n0
 have e3:upd (fun n=>n) 60 q 60=q:=ay _ _ _
 refine Bo (upd (fun n=>n) 60 q) (fun n hn=>bj _ _ _ _ (by omega)) (Dc ⟨e0,show 0 < 100 by decide⟩ ⟨e1,trivial⟩) (Dc ⟨⟨_,by rw[ay];exact b1,fun h=>h,(aQ hg.plain _).symm⟩,show 60 < 100 by decide,aC hg.plain⟩ ⟨⟨⟨true,bC { fJ s k with store:= .inr (.inr (q,0,n,c)) }⟩, ?_,fun h=>h, ?_⟩,show 0 < 100 by decide,bF ⟨(show 60 < 100 by decide),rfl⟩⟩) (Dc (fun _=>Dc (fun _=>rfl) (fun e=> ?_)) (fun _=>Dc (fun e=> ?_) (fun _=>rfl)))
 ·show t.box (upd (fun n=>n) 60 q 0)=_
  rw[e2];exact b0
 ·rw[eN]
  have:SV.aI (upd (fun n=>n) 60 q) (.inr (.inr (60,0,n,c)))= .inr (.inr (q,0,n,c)):=by simp only[SV.aI,ay]
  simp only[this]
 ·have e':upd (fun n=>n) 60 q 60=upd (fun n=>n) 60 q 0:=e
  rw[e2,e3]at e';exact absurd e' hq
 ·have e':upd (fun n=>n) 60 q 0=upd (fun n=>n) 60 q 60:=e
  rw[e2,e3]at e';exact absurd e'.symm hq
theorem Vd {x:Int} {s:St} {N k c q m:Nat} {f:Nat→En} {t:AS} {cs:List SV} (hm:m≤60) (hk:0 < k) (hg:bz cs 0 (N+k) c (gA N f s)) (hq:q≠0) (hm0:0 < m) (e0:t.env 0=some (Ptr 0 0)) (e1:t.env 1=some (I .u32 x)) (b0:t.box 0=some ⟨true,bC { fJ s k with store:= .inr (.inr (q,0,N+k,c)) }⟩) (b1:t.box q=some ⟨true,cs⟩):
  ∃ t',SkI x s N f k t'∧oU m t t':=
 ⟨_,⟨60,c,cs, .inr ⟨rfl,hk⟩,hg,rfl⟩,Nw hm hg hq e0 e1 b0 b1⟩
theorem Nx {s:AS} {N c:Nat} {f:Nat→En} {x:St} {cs:List SV} (hN:0 < N) (hg:bz cs 0 N c (gA N f x)) (b0:s.box 0=some ⟨true,bC { fJ x 0 with store:= .inr (.inr (1,0,N,c)) }⟩) (b1:s.box 1=some ⟨true,cs⟩):zB 2 1 (Qw 2 N f x 0) (.inr []) s:=by
 have r: ∀ n,n < 2→hY 2 (fun j=>2+j) n=n:=fun n hn=>by unfold hY;rw[if_pos hn]
 refine ⟨fun j=>2+j, .inr [],lk [(0,⟨true,bC { fJ x 0 with store:= .inr (.inr (1,0,N,c)) }⟩),(1,⟨true,cs⟩)],(fun j hj=>by show _≤_+j;omega),(fun i j _ _ e=>Nat.add_left_cancel e),rfl,(fun y hy=>by cases hy),fun n b hb=> ?_,rfl,_,rfl, .inl ⟨rfl, .inr ⟨hN,c,cs,rfl,hg.congr rfl (fun i hi=>by simp[gA,hi]),rfl⟩,rfl⟩⟩
 rcases vD hb with ⟨rfl,rfl⟩ | ⟨rfl,rfl⟩
 ·refine ⟨by decide,fun h=>by omega,bF ⟨(show 1 < 2+1 by decide),rfl⟩,⟨true,bC { fJ x 0 with store:= .inr (.inr (1,0,N,c)) }⟩,by rw[r 0 (by decide)];exact b0,fun h=>h, ?_⟩
  rw[eN]
  have:SV.aI (hY 2 (fun j=>2+j)) (.inr (.inr (1,0,N,c)))= .inr (.inr (1,0,N,c)):=by simp only[SV.aI,r 1 (by decide)]
  simp only[this]
 ·exact ⟨by decide,fun h=>by omega,aC hg.plain,_,by rw[r 1 (by decide)];exact b1,fun h=>h,(aQ hg.plain _).symm⟩
theorem Fo {s:AS} {K N m c q n:Nat} {f:Nat→En} {x:St} {cs:List SV} (hK:K=1∨K=2) (hm:0 < m) (hn:n=N+m) (hq:K≤q) (hg:bz cs 0 n c (gA N f x)) (b0:s.box 0=some ⟨true,bC { fJ x m with store:= .inr (.inr (q,0,n,c)) }⟩) (b1:s.box q=some ⟨true,cs⟩):zB K 1 (Qw K N f x m) (.inr []) s:=by
 subst hn
 have r0:hY K (fun j=>q+j) 0=0:=by unfold hY;rw[if_pos (by omega)]
 have r2:hY K (fun j=>q+j) K=q:=by unfold hY;rw[if_neg (by omega),Nat.sub_self];rfl
 have hl0:lk [(0,(⟨true,bC { fJ x m with store:= .inr (.inr (K,0,N+m,c)) }⟩:aN)),(K,⟨true,cs⟩)] 0=some ⟨true,bC { fJ x m with store:= .inr (.inr (K,0,N+m,c)) }⟩:=rfl
 have hlK:lk [(0,(⟨true,bC { fJ x m with store:= .inr (.inr (K,0,N+m,c)) }⟩:aN)),(K,⟨true,cs⟩)] K=some ⟨true,cs⟩:=by rcases hK with rfl | rfl<;>rfl
 have hl1:K≠1→lk [(0,(⟨true,bC { fJ x m with store:= .inr (.inr (K,0,N+m,c)) }⟩:aN)),(K,⟨true,cs⟩)] 1=none:=fun h=>by
  rcases hK with rfl | rfl
  ·exact absurd rfl h
  ·rfl
 refine ⟨fun j=>q+j, .inr [],lk [(0,⟨true,bC { fJ x m with store:= .inr (.inr (K,0,N+m,c)) }⟩),(K,⟨true,cs⟩)],(fun j hj=>by show _≤_+j;omega),(fun i j _ _ e=>Nat.add_left_cancel e),rfl,(fun y hy=>by cases hy),fun n b hb=> ?_,rfl,_,hl0, .inr ⟨hm, .inr ⟨by omega,c,cs,rfl,hg,hlK⟩,hl1⟩⟩
 have hb':(n=0∧b=⟨true,bC { fJ x m with store:= .inr (.inr (K,0,N+m,c)) }⟩)∨(n=K∧b=⟨true,cs⟩):=by
  simp only[lk]at hb
  split at hb
  ·cases hb;rename_i e;exact .inl ⟨e,rfl⟩
  ·split at hb
   ·cases hb;rename_i e;exact .inr ⟨e,rfl⟩
   ·cases hb
 rcases hb' with ⟨rfl,rfl⟩ | ⟨rfl,rfl⟩
 ·refine ⟨by omega,fun h=>by omega,bF ⟨(show K < K+1 by omega),rfl⟩,⟨true,bC { fJ x m with store:= .inr (.inr (q,0,N+m,c)) }⟩,by rw[r0];exact b0,fun h=>h, ?_⟩
  rw[eN]
  have:SV.aI (hY K (fun j=>q+j)) (.inr (.inr (K,0,N+m,c)))= .inr (.inr (q,0,N+m,c)):=by simp only[SV.aI,r2]
  simp only[this]
 ·exact ⟨by omega,fun _=>rfl,aC hg.plain,_,by rw[r2];exact b1,fun h=>h,(aQ hg.plain _).symm⟩
theorem Ve {s:St} {N c m:Nat} {f:Nat→En} {cs:List SV} {x:Int} (hs:br s.recv) (hg:bz cs 0 N c f) (hN:0 < N) (hx:x=s.nr+m) (h0:0≤s.nr) (hx2:x < 4294967296) (hsz:(N+m)*72≤140737488355328):
  gL Tryz.prog 59 [Ptr 0 0,I .u32 x] 2 1 (lk [(0,⟨true,bC { s with store:= .inr (.inr (1,0,N,c)) }⟩),(1,⟨true,cs⟩)]) (Qw 2 N f s m):=by
 refine dF Tryz.func59 rfl (by kernel_rfl) [3] [] (by simp[Tryz.ntmps59]) Tryz.pv (by decide) (fun y hy=>by
  simp only[List.mem_cons,List.not_mem_nil,or_false]at hy
  rcases hy with rfl | rfl
  ·exact (show 0 < 2 by decide)
  ·trivial) lC (fun i b hb=>by
  rcases vD hb with ⟨rfl,rfl⟩ | ⟨rfl,rfl⟩
  ·exact ⟨by decide,bF ⟨(show 1 < 2 by decide),rfl⟩⟩
  ·exact ⟨by decide,aC hg.plain⟩) ?_
 simp only[Tryz.results59,ao,aK,aR,vL,seval, -List.reduceReplicate]
 have wnr: ∀ k,k≤m→(fJ s k).nr=s.nr+k:=fun k hk=>CD h0 k (by omega)
 refine Gd m (SkI x s N f) ?_ ?_ ?_ ?_
 ·rintro k t ⟨p,c1,kk,_,_,rfl⟩;exact Nat.le_of_ble_eq_true rfl
 ·refine ⟨_,⟨1,c,cs, .inl ⟨rfl,rfl⟩,bz.congr hg rfl (fun i hi=>by simp[gA,hi]),rfl⟩, ?_⟩
  refine vW (Dc ⟨rfl,show 0 < 100 by decide⟩ ⟨rfl,trivial⟩) (Dc ⟨⟨_,rfl,fun h=>h,(aQ hg.plain _).symm⟩,show 1 < 100 by decide,aC hg.plain⟩ ⟨⟨_,rfl,fun h=>h, ?_⟩,show 0 < 100 by decide,bF ⟨(show 1 < 100 by decide),rfl⟩⟩)
  rw[eN];rfl
 ·rintro k t hk ⟨p,c1,kk,hpk,g1,rfl⟩
  have hlt:(fJ s k).nr < x:=by rw[wnr k (by omega)];omega
  have hp0:p≠0:=by rcases hpk with ⟨rfl,_⟩ | ⟨rfl,_⟩<;>decide
  rcases hpk with ⟨rfl,rfl⟩ | ⟨rfl,vj⟩
  ·simp only[Sm,List.cons_append,List.nil_append,dr,ao,aK,aR,vL,seval, -List.reduceReplicate]
   refine az (decide_eq_true hlt) ?_
   simp only[ao,bw,aK,aR,vL,seval, -List.reduceReplicate]
   refine .inl ?_
   simp only[ao,bw,aK,aR,vL,seval, -List.reduceReplicate]
   refine ⟨by kernel_rfl, ?_⟩
   refine pS (t:=0) (u:=1) (rw:=true) (x:={ fJ s 0 with store:= .inr (.inr (1,0,N+0,c1)) }) (pT hs 0) (by simp only[vP,seval, -List.reduceReplicate]) (by simp only[vP,seval, -List.reduceReplicate]) g1.plain (by decide) (.inr ⟨0,c1,rfl,g1.room,g1.shows⟩) ?_
   simp only[ao,bw,aK,aR,vL,seval, -List.reduceReplicate]
   refine wm (by kernel_rfl) [0,1,2,3,4,5,6] [7,8] [] [9,10,11,12] [0,123] [0] [31,32,33,34,35,36,37,38,39,40,41,42] (by kernel_rfl) (by kernel_rfl) (by kernel_rfl) (F0 ⟨by decide,_,by simp only[vP,seval, -List.reduceReplicate];rfl⟩) ?_
   simp only[iF,Nv,ve,ao,bw,aK,aR,vL,seval, -List.reduceReplicate]
   refine xI (by':=72) (rw:=true) (g:=fun _=>Nu s 0) (m:=1) Tryz.jQ Tryz.ki (by simp only[vP,seval, -List.reduceReplicate]) g1 (by simp only[vP,seval, -List.reduceReplicate,Nu,uZ]) (by decide) rz (by omega) (by omega) ?_
   intro c2 mD g2
   simp only[iF,ao,bw,aK,aR,vL,seval, -List.reduceReplicate]
   exact Vd (k:=0+1) (q:=137) (by decide) (by omega) (g2.congr rfl (rW (N:=N) (k:=0) (f:=f) (s:=s))) (by decide) (by decide) (by simp only[vP,seval, -List.reduceReplicate]) (by simp only[vP,seval, -List.reduceReplicate]) (by simp only[vP,seval, -List.reduceReplicate];rfl) (by simp only[vP,seval, -List.reduceReplicate])
  ·simp only[Sm,List.cons_append,List.nil_append,dr,ao,aK,aR,vL,seval, -List.reduceReplicate]
   refine az (decide_eq_true hlt) ?_
   simp only[ao,bw,aK,aR,vL,seval, -List.reduceReplicate]
   refine .inl ?_
   simp only[ao,bw,aK,aR,vL,seval, -List.reduceReplicate]
   refine ⟨by kernel_rfl, ?_⟩
   refine pS (t:=0) (u:=60) (rw:=true) (x:={ fJ s k with store:= .inr (.inr (60,0,N+k,c1)) }) (pT hs k) (by simp only[vP,seval, -List.reduceReplicate]) (by simp only[vP,seval, -List.reduceReplicate]) g1.plain (by decide) (.inr ⟨0,c1,rfl,g1.room,g1.shows⟩) ?_
   simp only[ao,bw,aK,aR,vL,seval, -List.reduceReplicate]
   refine wm (by kernel_rfl) [0,1,2,3,4,5,6] [7,8] [] [9,10,11,12] [0,123] [0] [31,32,33,34,35,36,37,38,39,40,41,42] (by kernel_rfl) (by kernel_rfl) (by kernel_rfl) (F0 ⟨by decide,_,by simp only[vP,seval, -List.reduceReplicate];rfl⟩) ?_
   simp only[iF,Nv,ve,ao,bw,aK,aR,vL,seval, -List.reduceReplicate]
   refine xI (by':=72) (rw:=true) (g:=fun _=>Nu s k) (m:=1) Tryz.jQ Tryz.ki (by simp only[vP,seval, -List.reduceReplicate]) g1 (by simp only[vP,seval, -List.reduceReplicate,Nu,uZ]) (by decide) rz (by omega) (by omega) ?_
   intro c2 mD g2
   simp only[iF,ao,bw,aK,aR,vL,seval, -List.reduceReplicate]
   exact Vd (k:=k+1) (q:=137) (by decide) (by omega) (g2.congr rfl (rW (N:=N) (k:=k) (f:=f) (s:=s))) (by decide) (by decide) (by simp only[vP,seval, -List.reduceReplicate]) (by simp only[vP,seval, -List.reduceReplicate]) (by simp only[vP,seval, -List.reduceReplicate];rfl) (by simp only[vP,seval, -List.reduceReplicate])
 ·rintro t ⟨p,c1,kk,hpk,g1,rfl⟩
  have hge: ¬ (fJ s m).nr < x:=by rw[wnr m (Nat.le_refl _)];omega
  rcases hpk with ⟨rfl,rfl⟩ | ⟨rfl,vj⟩
  ·simp only[Sm,List.cons_append,List.nil_append,dr,ao,aK,aR,vL,seval, -List.reduceReplicate]
   refine aD (decide_eq_false hge) ?_
   simp only[ao,bw,aK,aR,vL,seval, -List.reduceReplicate]
   exact Nx hN g1 (by simp only[vP,seval, -List.reduceReplicate]) (by simp only[vP,seval, -List.reduceReplicate])
  ·simp only[Sm,List.cons_append,List.nil_append,dr,ao,aK,aR,vL,seval, -List.reduceReplicate]
   refine aD (decide_eq_false hge) ?_
   simp only[ao,bw,aK,aR,vL,seval, -List.reduceReplicate]
   exact Fo (q:=60) (.inr rfl) vj rfl (by decide) g1 (by simp only[vP,seval, -List.reduceReplicate]) (by simp only[vP,seval, -List.reduceReplicate])
theorem Xg {k n:Nat} {q:Nat→Nat} (h:n < k):hY k q n=n:=by unfold hY;rw[if_pos h]
def SkN (x:Int) (s:St) (f:Nat→En) (k:Nat) (t:AS):Prop:=
 (k=0∧t=Sm x s 0 (.inl (.slice none 0 0)) [])∨(0 < k∧ ∃ c cs,bz cs 0 k c (gA 0 f s)∧t=Sm x s k (.inr (.inr (60,0,k,c))) [(60,⟨true,cs⟩)])
theorem Vf {s:St} {m:Nat} {f:Nat→En} {x:Int} (hs:br s.recv) (hx:x=s.nr+m) (h0:0≤s.nr) (hx2:x < 4294967296) (hsz:m*72≤140737488355328):
  gL Tryz.prog 59 [Ptr 0 0,I .u32 x] 1 1 (lk [(0,⟨true,bC { s with store:= .inl (.slice none 0 0) }⟩)]) (Qw 1 0 f s m):=by
 refine dF Tryz.func59 rfl (by kernel_rfl) [3] [] (by simp[Tryz.ntmps59]) Tryz.pv (by decide) (fun y hy=>by
  simp only[List.mem_cons,List.not_mem_nil,or_false]at hy
  rcases hy with rfl | rfl
  ·exact (show 0 < 1 by decide)
  ·trivial) dG (fun i b hb=>by
  obtain ⟨rfl,rfl⟩:=A6 hb
  exact ⟨by decide,bF (SV.bk rfl)⟩) ?_
 simp only[Tryz.results59,ao,aK,aR,vL,seval, -List.reduceReplicate]
 have wnr: ∀ k,k≤m→(fJ s k).nr=s.nr+k:=fun k hk=>CD h0 k (by omega)
 refine Gd m (SkN x s f) ?_ ?_ ?_ ?_
 ·rintro k t (⟨rfl,rfl⟩ | ⟨_,c1,kk,_,rfl⟩)<;>exact Nat.le_of_ble_eq_true rfl
 ·refine ⟨_, .inl ⟨rfl,rfl⟩, ?_⟩
  refine vW (Dc ⟨rfl,show 0 < 100 by decide⟩ ⟨rfl,trivial⟩) (F0 ⟨⟨_,rfl,fun h=>h, ?_⟩,show 0 < 100 by decide,bF (SV.bk rfl)⟩)
  rw[eN];rfl
 ·rintro k t hk h
  have hlt:(fJ s k).nr < x:=by rw[wnr k (by omega)];omega
  rcases h with ⟨rfl,rfl⟩ | ⟨vj,c1,kk,g1,rfl⟩
  ·simp only[Sm,List.cons_append,List.nil_append,dr,ao,aK,aR,vL,seval, -List.reduceReplicate]
   refine az (decide_eq_true hlt) ?_
   simp only[ao,bw,aK,aR,vL,seval, -List.reduceReplicate]
   refine .inl ?_
   simp only[ao,bw,aK,aR,vL,seval, -List.reduceReplicate]
   refine ⟨by kernel_rfl, ?_⟩
   refine pS (t:=0) (u:=123) (rw:=true) (f:=f) (n:=0+0) (x:={ fJ s 0 with store:= .inl (.slice none 0 0) }) (pT hs 0) (by simp only[vP,seval, -List.reduceReplicate]) (by simp only[vP,seval, -List.reduceReplicate];rfl) jO (by decide) (.inl ⟨⟨none,rfl⟩,rfl⟩) ?_
   simp only[ao,bw,aK,aR,vL,seval, -List.reduceReplicate]
   refine wm (by kernel_rfl) [0,1,2,3,4,5,6] [7,8] [] [9,10,11,12] [0,123] [0] [31,32,33,34,35,36,37,38,39,40,41,42] (by kernel_rfl) (by kernel_rfl) (by kernel_rfl) (F0 ⟨by decide,_,by simp only[vP,seval, -List.reduceReplicate];rfl⟩) ?_
   simp only[iF,Nv,ve,ao,bw,aK,aR,vL,seval, -List.reduceReplicate]
   refine Mt (by':=72) (rw:=true) (g:=fun _=>Nu s 0) (m:=1) Tryz.jQ Tryz.ki (by simp only[vP,seval, -List.reduceReplicate,Nu,uZ]) rz (by omega) (by omega) (by omega) ?_
   intro c2 mD g2
   simp only[iF,ao,bw,aK,aR,vL,seval, -List.reduceReplicate]
   replace g2:bz mD 0 (0+1) c2 (gA 0 f s):=(bz.congr g2 rfl (fun i (hi:i < 1)=>by
    obtain rfl:i=0:=by omega
    show Nu s 0=gA 0 f s 0
    rw[gA,if_neg (Nat.lt_irrefl 0)]))
   exact ⟨_, .inr ⟨by omega,c2,mD,g2,rfl⟩,Nw (k:=0+1) (q:=137) (by decide) g2 (by decide) (by simp only[vP,seval, -List.reduceReplicate]) (by simp only[vP,seval, -List.reduceReplicate]) (by simp only[vP,seval, -List.reduceReplicate];rfl) (by simp only[vP,seval, -List.reduceReplicate])⟩
  ·simp only[Sm,List.cons_append,List.nil_append,dr,ao,aK,aR,vL,seval, -List.reduceReplicate]
   refine az (decide_eq_true hlt) ?_
   simp only[ao,bw,aK,aR,vL,seval, -List.reduceReplicate]
   refine .inl ?_
   simp only[ao,bw,aK,aR,vL,seval, -List.reduceReplicate]
   refine ⟨by kernel_rfl, ?_⟩
   refine pS (t:=0) (u:=60) (rw:=true) (f:=gA 0 f s) (n:=k) (x:={ fJ s k with store:= .inr (.inr (60,0,k,c1)) }) (pT hs k) (by simp only[vP,seval, -List.reduceReplicate]) (by simp only[vP,seval, -List.reduceReplicate]) g1.plain (by decide) (.inr ⟨0,c1,rfl,g1.room,g1.shows⟩) ?_
   simp only[ao,bw,aK,aR,vL,seval, -List.reduceReplicate]
   refine wm (by kernel_rfl) [0,1,2,3,4,5,6] [7,8] [] [9,10,11,12] [0,123] [0] [31,32,33,34,35,36,37,38,39,40,41,42] (by kernel_rfl) (by kernel_rfl) (by kernel_rfl) (F0 ⟨by decide,_,by simp only[vP,seval, -List.reduceReplicate];rfl⟩) ?_
   simp only[iF,Nv,ve,ao,bw,aK,aR,vL,seval, -List.reduceReplicate]
   refine xI (by':=72) (rw:=true) (g:=fun _=>Nu s k) (m:=1) Tryz.jQ Tryz.ki (by simp only[vP,seval, -List.reduceReplicate]) g1 (by simp only[vP,seval, -List.reduceReplicate,Nu,uZ]) (by decide) rz (by omega) (by omega) ?_
   intro c2 mD g2
   simp only[iF,ao,bw,aK,aR,vL,seval, -List.reduceReplicate]
   replace g2:bz mD 0 (k+1) c2 (gA 0 f s):=g2.congr rfl (fun i hi=>by
    have:=rW (N:=0) (k:=k) (f:=f) (s:=s) i (by omega)
    rw[Nat.zero_add]at this;exact this)
   exact ⟨_, .inr ⟨by omega,c2,mD,g2,rfl⟩,Nw (k:=k+1) (q:=137) (by decide) g2 (by decide) (by simp only[vP,seval, -List.reduceReplicate]) (by simp only[vP,seval, -List.reduceReplicate]) (by simp only[vP,seval, -List.reduceReplicate];rfl) (by simp only[vP,seval, -List.reduceReplicate])⟩
 ·rintro t h
  have hge: ¬ (fJ s m).nr < x:=by rw[wnr m (Nat.le_refl _)];omega
  rcases h with ⟨rfl,rfl⟩ | ⟨vj,c1,kk,g1,rfl⟩
  ·simp only[Sm,List.cons_append,List.nil_append,dr,ao,aK,aR,vL,seval, -List.reduceReplicate]
   refine aD (decide_eq_false hge) ?_
   simp only[ao,bw,aK,aR,vL,seval, -List.reduceReplicate]
   refine ⟨fun j=>1+j, .inr [],lk [(0,⟨true,bC { fJ s 0 with store:= .inl (.slice none 0 0) }⟩)],(fun j hj=>Nat.le_add_right _ _),(fun i j _ _ e=>Nat.add_left_cancel e),rfl,(fun y hy=>by cases hy),fun n b hb=> ?_,rfl,_,rfl, .inl ⟨rfl, .inl ⟨rfl,rfl,rfl⟩,rfl⟩⟩
   obtain ⟨rfl,rfl⟩:=A6 hb
   refine ⟨by decide,fun h=>by omega,bF (SV.bk rfl),_,by rw[Xg (by decide)];simp only[vP,seval, -List.reduceReplicate],fun h=>h, ?_⟩
   rw[eN];rfl
  ·simp only[Sm,List.cons_append,List.nil_append,dr,ao,aK,aR,vL,seval, -List.reduceReplicate]
   refine aD (decide_eq_false hge) ?_
   simp only[ao,bw,aK,aR,vL,seval, -List.reduceReplicate]
   exact Fo (q:=60) (.inl rfl) vj (Nat.zero_add m).symm (by decide) g1 (by simp only[vP,seval, -List.reduceReplicate]) (by simp only[vP,seval, -List.reduceReplicate])
theorem rB {s:AS} {nm t p N m:Nat} {x:St} {f:Nat→En} {sv:SV} {bx:Option aN} {X:Int} (hs:br x.recv) (hX:X=x.nr+m) (h0:0≤x.nr) (hX2:X < 4294967296) (hsz:(N+m)*72≤140737488355328)
  (h:s.box t=some ⟨true,bC { x with store:=sv }⟩) (hK:iT p N f sv bx) (l6:s.box p=bx) (hne:t≠p) (h1:t≠nm) (h2:p≠nm) {dst:Option Nat} {K:AS→Prop}
  (hk: ∀ xj p' VA,(p'=p∨p'=nm)→iT p' (N+m) (gA N f x) xj VA→K ((⟨s.env,upd (upd (upd (upd s.box nm none) t (some ⟨true,bC { fJ x m with store:=xj }⟩)) p none) p' VA,s.next⟩:AS).put dst (some (.inr [])))):ax Tryz.prog nm 59 (some [Ptr t 0,I .u32 X]) dst K s:=by
 rcases hK with ⟨rfl,rfl,rfl⟩ | ⟨hN,c,cs,rfl,hg,rfl⟩
 ·refine (Vf (f:=f) (s:=x) hs hX h0 hX2 (by omega)).PB (by decide) (fun _=>t) [0] ⟨fun n b hb=> ?_,fun n n' b b' hb _ hb' _=> ?_,fun n b hb _=> ?_,fun n hn=> ?_⟩ rfl ?_
  ·obtain ⟨rfl,rfl⟩:=A6 hb
   exact ⟨_,h,fun h=>h,by rw[eN];rfl⟩
  ·rw[(A6 hb).1,(A6 hb').1]
  ·rw[(A6 hb).1];exact List.mem_singleton.2 rfl
  ·rw[List.mem_singleton.1 hn];exact ⟨_,rfl,rfl⟩
  ·rintro v out ⟨rfl,sv,e0,hh⟩
   have r1:bI (fun _=>t) 1 nm 1=nm:=iN
   have e3:mU s (fun _=>t) 1 1 nm [0] out=upd (upd (upd (upd s.box nm none) t (some ⟨true,bC { fJ x m with store:=SV.aI (bI (fun _=>t) 1 nm) sv }⟩)) p none) nm ((out 1).map (aN.aI (bI (fun _=>t) 1 nm))):=by
    funext u
    unfold mU o7
    simp only[upd]
    by_cases a1:u=nm
    ·subst a1;simp
    ·rw[if_neg (by omega),if_neg a1]
     by_cases a2:u=t
     ·subst a2
      rw[if_pos rfl,if_neg hne,if_pos rfl]
      simp only[e0,Option.map_some,aN.aI,eN]
     ·rw[if_neg a2]
      by_cases a3:u=p
      ·subst a3;rw[if_pos rfl];exact l6
      ·rw[if_neg a3,if_neg a2,if_neg a1];rfl
   rw[e3]
   rcases hh with ⟨rfl,hk1,_⟩ | ⟨hm,hk1,_⟩
   all_goals
    have hk2:=wG (q:=nm) hk1 r1
   ·exact hk _ nm _ (.inr rfl) (by
     rcases hk2 with ⟨a,b,c⟩ | ⟨a,_⟩
     ·exact .inl ⟨a,b,c⟩
     ·exact absurd a (by decide))
   ·exact hk _ nm _ (.inr rfl) hk2
 ·refine (Ve (s:=x) hs hg hN hX h0 hX2 hsz).PB (by decide) (two t p) [0,1] ⟨fun n b hb=> ?_,fun n n' b b' hb _ hb' e=> ?_,fun n b hb _=> ?_,fun n hn=> ?_⟩ rfl ?_
  ·rcases vD hb with ⟨rfl,rfl⟩ | ⟨rfl,rfl⟩
   ·exact ⟨_,h,fun h=>h,by rw[eN];rfl⟩
   ·exact ⟨_,l6,fun h=>h,(aQ hg.plain _).symm⟩
  ·rcases vD hb with ⟨rfl,rfl⟩ | ⟨rfl,rfl⟩<;>rcases vD hb' with ⟨rfl,rfl⟩ | ⟨rfl,rfl⟩
   ·rfl
   ·exact absurd e hne
   ·exact absurd e.symm hne
   ·rfl
  ·rcases vD hb with ⟨rfl,rfl⟩ | ⟨rfl,rfl⟩<;>simp
  ·rcases List.mem_cons.1 hn with rfl | hn
   ·exact ⟨_,rfl,rfl⟩
   ·rw[List.mem_singleton.1 hn];exact ⟨_,rfl,rfl⟩
  ·rintro v out ⟨rfl,sv,e0,hh⟩
   have r1:bI (two t p) 2 nm 1=p:=rfl
   have r2:bI (two t p) 2 nm 2=nm:=iN
   have e3: ∀ u,mU s (two t p) 2 1 nm [0,1] out u=if u=nm then (out 2).map (aN.aI (bI (two t p) 2 nm)) else if u=t then some ⟨true,bC { fJ x m with store:=SV.aI (bI (two t p) 2 nm) sv }⟩ else if u=p then (out 1).map (aN.aI (bI (two t p) 2 nm)) else s.box u:=fun u=>by
    unfold mU o7 o7
    by_cases a1:u=nm
    ·subst a1;simp
    ·rw[if_neg (by omega),if_neg a1]
     have t0:two t p 0=t:=rfl
     have t1:two t p 1=p:=rfl
     rw[t0,t1]
     by_cases a2:u=t
     ·rw[if_pos a2,if_pos a2]
      simp only[e0,Option.map_some,aN.aI,eN]
     ·rw[if_neg a2,if_neg a2]
      by_cases a3:u=p
      ·rw[if_pos a3,if_pos a3]
      ·rw[if_neg a3,if_neg a3];rfl
   rcases hh with ⟨rfl,hk1,h3⟩ | ⟨hm,hk1,h3⟩
   ·have hk2:=wG (q:=p) hk1 r1
    have e4:mU s (two t p) 2 1 nm [0,1] out=upd (upd (upd (upd s.box nm none) t (some ⟨true,bC { fJ x 0 with store:=SV.aI (bI (two t p) 2 nm) sv }⟩)) p none) p ((out 1).map (aN.aI (bI (two t p) 2 nm))):=funext fun u=>by
     rw[e3 u,h3]
     simp only[upd]
     by_cases a1:u=nm
     ·subst a1;rw[if_pos rfl,if_neg (fun e=>h2 e.symm),if_neg (fun e=>h2 e.symm),if_neg (fun e=>h1 e.symm),if_pos rfl];rfl
     ·rw[if_neg a1]
      by_cases a2:u=t
      ·subst a2;rw[if_pos rfl,if_neg hne,if_neg hne,if_pos rfl]
      ·rw[if_neg a2,if_neg a2,if_neg a1]
       by_cases a3:u=p
       ·rw[if_pos a3,if_pos a3]
       ·rw[if_neg a3,if_neg a3,if_neg a3]
    rw[e4]
    refine hk _ p _ (.inl rfl) ?_
    rcases hk2 with ⟨a,_⟩ | ⟨a,c',cs',e5,g5,e6⟩
    ·omega
    ·exact .inr ⟨a,c',cs',e5,g5.congr rfl (fun i hi=>by simp[gA,hi]),e6⟩
   ·have hk2:=wG (q:=nm) hk1 r2
    have e4:mU s (two t p) 2 1 nm [0,1] out=upd (upd (upd (upd s.box nm none) t (some ⟨true,bC { fJ x m with store:=SV.aI (bI (two t p) 2 nm) sv }⟩)) p none) nm ((out 2).map (aN.aI (bI (two t p) 2 nm))):=funext fun u=>by
     rw[e3 u,h3 (by decide)]
     simp only[upd]
     by_cases a1:u=nm
     ·rw[if_pos a1,if_pos a1]
     ·rw[if_neg a1,if_neg a1]
      by_cases a2:u=t
      ·subst a2;rw[if_pos rfl,if_neg hne,if_pos rfl]
      ·rw[if_neg a2,if_neg a2,if_neg a1]
       by_cases a3:u=p
       ·rw[if_pos a3,if_pos a3];rfl
       ·rw[if_neg a3,if_neg a3]
    rw[e4]
    exact hk _ nm _ (.inr rfl) hk2
theorem Xh {s:St} (h:gy s):gy (la s):=
 ⟨h.root,h.priv,h.aG,h.zA,h.send,pQ _ _,h.se,h.re,h.ns,by show mC (IntKind.u32.wrap (s.nr+1));rw[wrap_u32];unfold mC;omega,h.pn,h.skip,h.room⟩
theorem GR {s:St} (h:gy s): ∀ k,gy (fJ s k)
 | 0=>h
 | k+1=>Xh (GR h k)
theorem GS {s:St} {pk:Nat→Int} (h:gy s) (hb:br pk):gy (gJ s pk):=
 ⟨Qv _ _,h.priv,h.aG,hb,Z6,fun i=>Qv _ _ _,h.se,by show mC (IntKind.u32.wrap (s.re+1));rw[wrap_u32];unfold mC;omega,h.ns,by show mC 0;unfold mC;omega,h.pn,h.skip,h.room⟩
def preB (s:St) (aG:Nat→Int):Bool:=decide (0 < s.re)&&yb aG s.zA
def G7 (s:St) (aG:Nat→Int) (pn:Int):St:=if preB s aG=true then s else gJ (fJ s (fq s pn - s.nr).toNat) aG
def Ny (s:St) (n:Nat) (aG:Nat→Int) (pn:Int):Nat:=if preB s aG=true then n else n+(fq s pn - s.nr).toNat
def VG (s:St) (n:Nat) (f:Nat→En) (aG:Nat→Int) (pn:Int):Nat→En:=if preB s aG=true then f else gA n f s
theorem rC {s:AS} {nm t p z n:Nat} {x:St} {f:Nat→En} {bx:Option aN} {rw:Bool} {cs:List SV} (hs:br x.recv) (h:s.box t=some ⟨true,bC x⟩) (hK:iT p n f x.store bx) (l6:s.box p=bx) (hf:s.box z=some ⟨rw,cs⟩) (hp:cs.all SV.plain=true) (h1:t≠p) (h2:t≠z) (hnm:t≠nm) {dst:Option Nat} {K:AS→Prop}
  (hk:K ((⟨s.env,upd (upd s.box t (some ⟨true,bC (la x)⟩)) nm none,s.next⟩:AS).put dst (some (Ag (af .u8 32 (qk x.recv 1)))))):bA Tryz.prog nm 62 (some [Ptr t 0]) dst K s:=by
 obtain ⟨u,rw',ds,hu,hb',hq,hi⟩:=CA hK l6 hf hp
 exact KS hs h hb' hq (by rcases hu with rfl | rfl<;>assumption) hi hnm hk
def pU:bn:=
 let e0:bn:=(.cons 8 .nil .nil)
 let e1:bn:=(.cons 7 e0 .nil)
 let e2:bn:=(.cons 6 e0 .nil)
 let e3:bn:=(.cons 6 e1 (.cons 7 e2 .nil))
 let e4:bn:=(.cons 5 e1 .nil)
 (.cons 4 (.cons 5 e3 (.cons 6 e4 .nil)) .nil)
def GU [aO] (k n m:Nat) (s:St) (f:Nat→En) (aG g tag:Nat→Int) (pn x:Int) (v:AV) (out:Nat→Option aN):Prop:=
 (∃ i,lN s n (preB s aG) pn x=some i∧v= .inr [.inr (eV 0 rM (.inl (.slice none 0 0)) 0 0), .inl (.inl (gH i))]∧out=fun _=>none)∨
 (lN s n (preB s aG) pn x=none∧
  (let d:=G7 s aG pn
   let j:=(x - d.nr).toNat
   (yd (qk (fJ d j).recv 1) aG pn x m g tag=false∧v= .inr [.inr (eV 0 rM (.inl (.slice none 0 0)) 0 0), .inl (.inl (gH 5))]∧out=fun _=>none)∨
   (yd (qk (fJ d j).recv 1) aG pn x m g tag=true∧ ∃ sv bx,iT k (Ny s n aG pn+j) (gA (Ny s n aG pn) (VG s n f aG pn) d) sv bx∧
    v= .inr [.inr (eV 0 { fJ d (j+1) with store:=sv } (.inr (.inr (k+1,0,m,m))) d.re x), .inl (.inl .nilIface)]∧
    out=fun q=>if q=k then bx else if q=k+1 then some ⟨true,af .u8 m (gu (qk (fJ d j).recv 1) g)⟩ else none)))
theorem KU {s:St} {n m:Nat} {f:Nat→En} {aG g tag:Nat→Int} {pn x:Int} {sv:SV} {cs ds:List SV} (h0:aH 0 s.store n f cs) (hp:cs.all SV.plain=true) (hs:gy s) (hl:fx s n=true) (hn:n*72≤140737488355328) (ic:br aG) (hf:br g) (ht:br tag) (hv:kZ 1 m g sv ds) (hq:ds.all SV.plain=true) (hm:m≤65536) (hx:mC x) (xg:mC pn) (nj:preB s aG=true):
  gL Tryz.prog 31 [Ag (bC s),Ag (fT aG pn x sv tag)] 2 2 (lk [(0,⟨false,cs⟩),(1,⟨false,ds⟩)]) (GU 2 n m s f aG g tag pn x):=by
 have N8: ∀ {M:Nat→Prop},M 1→SV.ok M sv:=fun h=>by
  rcases hv with ⟨_,rfl⟩ | ⟨o,c,rfl,_⟩
  ·trivial
  ·exact ⟨h,rfl⟩
 refine dF Tryz.func31 rfl (by kernel_rfl) [5,10] [] (by simp[Tryz.ntmps31]) Tryz.pb (by decide) (fun y hy=>by
  simp only[List.mem_cons,List.not_mem_nil,or_false]at hy
  rcases hy with rfl | rfl
  ·exact bF (h0.ok (by decide))
  ·exact jF (N8 (by decide))) lC (nU hp hq) ?_
 have acM:=nj
 simp only[preB,Bool.and_eq_true,decide_eq_true_eq]at acM
 obtain ⟨hr1,hr2⟩:=acM
 have Zo:decide (s.re > 0)=true:=decide_eq_true hr1
 simp only[Tryz.results31,Zo,hr2,kv,iZ,vL,seval, -List.reduceReplicate]
 refine (qf (aG:=aG) (pr:=true) h0 hp hl hs hx xg).cW (fun _=>0) (bS (rw:=false) (by simp only[vP,seval, -List.reduceReplicate]) hp) (iD _) (by
  have e:=h0.aI (r:=fun _=>0) rfl
  simp only[List.map_cons,List.map_nil,eM,e,AV.bB dU];rfl) ?_
 cases hst:lN s n true pn x with
 | some i=>
  have hni:lZ BinOp.neq true (some (oC (some i)))=some (some (B true),none):=rfl
  simp only[hni,iZ,vL,seval, -List.reduceReplicate]
  exact eY (q:=0) (v:= .inr [.inr (eV 0 rM (.inl (.slice none 0 0)) 0 0), .inl (.inl (gH i))]) (by rfl) (.inl ⟨i,by rw[nj];exact hst,rfl,rfl⟩)
 | none=>
  have hni:lZ BinOp.neq true (some (oC none))=some (some (B false),none):=rfl
  have hb:s.nr≤x∧n+(x - s.nr)≤1000:=by
   have hl':=hl
   simp only[fx,Bool.and_eq_true,decide_eq_true_eq]at hl'
   obtain ⟨⟨⟨⟨l1,l2⟩,l3⟩,l4⟩,l5⟩:=hl'
   unfold lN at hst
   rw[if_pos rfl]at hst
   by_cases a1:x < s.nr
   ·rw[if_pos a1]at hst;cases hst
   rw[if_neg a1]at hst
   unfold ni at hst
   by_cases a2:s.skip < (if x - s.nr > 0 then x - s.nr else 0)
   ·rw[if_pos a2]at hst;cases hst
   rw[if_neg a2]at hst
   by_cases a3:s.room < n+0+(x - s.nr)
   ·rw[if_pos a3]at hst;cases hst
   omega
  simp only[mC]at hx xg
  have Fm:=hs.nr
  simp only[mC]at Fm
  simp only[hni,iZ,vL,seval, -List.reduceReplicate]
  refine ⟨by decide, ?_⟩
  simp only[iZ,vL,seval, -List.reduceReplicate]
  refine sQ (t:=0) (rw:=false) (by simp only[vP,seval, -List.reduceReplicate]) hp h0 hn ?_
  intro U9 Xf hK
  simp only[Bool.not_true,iZ,vL,seval, -List.reduceReplicate]
  refine rB (t:=34) (p:=35) (x:=s) (sv:=U9) (m:=(x - s.nr).toNat) hs.recv (by omega) Fm.1 (by omega) (by omega) (by simp only[vP,seval, -List.reduceReplicate]) hK (by simp only[vP,seval, -List.reduceReplicate]) (by decide) (by decide) (by decide) ?_
  intro Yz p2 bx2 Y9 hK2
  simp only[Bool.not_true,iZ,vL,seval, -List.reduceReplicate]
  obtain ⟨sk,k0,r0,o0,b0⟩:=uS (p:=2) hK2
  have ed:G7 s aG pn=s:=if_pos nj
  have en:Ny s n aG pn=n:=if_pos nj
  have ef:VG s n f aG pn=f:=if_pos nj
  have er:(fJ s (x - s.nr).toNat).re=s.re:=(uZ _).1
  rcases Y9 with rfl | rfl
  ·refine oA (by kernel_rfl) [0,2] [1,3] [] [4,5,6,7,8] [3] [] [52,54,53,55,51,56,57,9,10] pU (by kernel_rfl) (by kernel_rfl) (by kernel_rfl) (by kernel_rfl) (fun t h=>nomatch h) ?_
   simp only[Bool.not_true,iZ,vL,seval, -List.reduceReplicate]
   refine rC (t:=34) (p:=35) (z:=0) (x:={ fJ s (x - s.nr).toNat with store:=Yz }) (rw:=false) (cs:=cs) (pT hs.recv _) (by simp only[vP,seval, -List.reduceReplicate]) hK2 (by simp only[vP,seval, -List.reduceReplicate]) (by simp only[vP,seval, -List.reduceReplicate]) hp (by decide) (by decide) (by decide) ?_
   simp only[Bool.not_true,iZ,vL,seval, -List.reduceReplicate]
   refine my (td:=1) (rd:=false) (ds:=ds) (f:=g) (pQ _ _) ic hf ht (by simp only[vP,seval, -List.reduceReplicate]) hv hq hm ?_ ?_
   ·intro ho
    simp only[wU,pU,cp,dv,Bool.not_true,iZ,vL,seval, -List.reduceReplicate]
    refine ⟨⟨?_, ?_⟩, ?_⟩
    all_goals
     refine .inl ?_
     simp only[cp,dv,Bool.not_true,iZ,vL,seval, -List.reduceReplicate]
     refine ⟨by kernel_rfl, ?_⟩
     exact zX (st:=la (fJ s (x - s.nr).toNat)) (q:=57) (p:=35) (sk:=sk) (bx:=bx2) (ds:=af .u8 m (gu (qk (fJ s (x - s.nr).toNat).recv 1) g)) (by decide) (by decide) (by decide) (by simp only[cp,vP,seval, -List.reduceReplicate]) aw (by simp only[cp,vP,seval, -List.reduceReplicate]) r0 o0 b0
      (.inr ⟨by rw[nj];exact hst, .inr ⟨by rw[ed];exact ho,sk,bx2,by rw[ed,en,ef];exact k0,by rw[ed, ← er];rfl,by rw[ed]⟩⟩)
   ·intro ho
    have Vg:lZ BinOp.neq true (some (Sum.inl (Sum.inl (Sum.inl (gH 5)))))=some (some (B true),none):=rfl
    simp only[pR,Vg,pU,cp,dv,Bool.not_true,iZ,vL,seval, -List.reduceReplicate]
    refine ⟨⟨?_, ?_⟩, ?_⟩
    all_goals
     exact eY (q:=0) (v:= .inr [.inr (eV 0 rM (.inl (.slice none 0 0)) 0 0), .inl (.inl (gH 5))]) (by rfl) (.inr ⟨by rw[nj];exact hst, .inl ⟨by rw[G7,if_pos nj];exact ho,rfl,rfl⟩⟩)
  ·refine oA (by kernel_rfl) [0,2] [1,3] [] [4,5,6,7,8] [3] [] [52,54,53,55,51,56,57,9,10] pU (by kernel_rfl) (by kernel_rfl) (by kernel_rfl) (by kernel_rfl) (fun t h=>nomatch h) ?_
   simp only[Bool.not_true,iZ,vL,seval, -List.reduceReplicate]
   refine rC (t:=34) (p:=48) (z:=0) (x:={ fJ s (x - s.nr).toNat with store:=Yz }) (rw:=false) (cs:=cs) (pT hs.recv _) (by simp only[vP,seval, -List.reduceReplicate]) hK2 (by simp only[vP,seval, -List.reduceReplicate]) (by simp only[vP,seval, -List.reduceReplicate]) hp (by decide) (by decide) (by decide) ?_
   simp only[Bool.not_true,iZ,vL,seval, -List.reduceReplicate]
   refine my (td:=1) (rd:=false) (ds:=ds) (f:=g) (pQ _ _) ic hf ht (by simp only[vP,seval, -List.reduceReplicate]) hv hq hm ?_ ?_
   ·intro ho
    simp only[wU,pU,cp,dv,Bool.not_true,iZ,vL,seval, -List.reduceReplicate]
    refine ⟨⟨?_, ?_⟩, ?_⟩
    all_goals
     refine .inl ?_
     simp only[cp,dv,Bool.not_true,iZ,vL,seval, -List.reduceReplicate]
     refine ⟨by kernel_rfl, ?_⟩
     exact zX (st:=la (fJ s (x - s.nr).toNat)) (q:=57) (p:=48) (sk:=sk) (bx:=bx2) (ds:=af .u8 m (gu (qk (fJ s (x - s.nr).toNat).recv 1) g)) (by decide) (by decide) (by decide) (by simp only[cp,vP,seval, -List.reduceReplicate]) aw (by simp only[cp,vP,seval, -List.reduceReplicate]) r0 o0 b0
      (.inr ⟨by rw[nj];exact hst, .inr ⟨by rw[ed];exact ho,sk,bx2,by rw[ed,en,ef];exact k0,by rw[ed, ← er];rfl,by rw[ed]⟩⟩)
   ·intro ho
    have Vg:lZ BinOp.neq true (some (Sum.inl (Sum.inl (Sum.inl (gH 5)))))=some (some (B true),none):=rfl
    simp only[pR,Vg,pU,cp,dv,Bool.not_true,iZ,vL,seval, -List.reduceReplicate]
    refine ⟨⟨?_, ?_⟩, ?_⟩
    all_goals
     exact eY (q:=0) (v:= .inr [.inr (eV 0 rM (.inl (.slice none 0 0)) 0 0), .inl (.inl (gH 5))]) (by rfl) (.inr ⟨by rw[nj];exact hst, .inl ⟨by rw[G7,if_pos nj];exact ho,rfl,rfl⟩⟩)
end Go.Proofs.YtpnehhpadofcbaaGreatDoor
