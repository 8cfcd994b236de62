/-
  What stands against a step, in the program: where the old chain ends, the limits.
-/
import Derived.Test.YtbipdofobgabhaaGreatDoorVcgJ1
import Derived.Test.YtbipdofobgabhaaGreatDoorVcgW1
import Derived.Test.YtbipdofobgabhaaGreatDoorVcgJ3
import Derived.Test.YtbipdofobgabhaaGreatDoorVcgU5
import Derived.Test.YtbipdofobgabhaaGreatDoorVcgWZ
set_option maxHeartbeats 16000000
set_option maxRecDepth 20000
set_option linter.unusedSimpArgs false
set_option linter.unusedVariables false
set_option linter.unusedSectionVars false
namespace Go.Proofs.YtbipdofobgabhaaGreatDoor
open Go.bA
variable [aG]
def fN (s:St) (pn:Int):Int:=if s.re=0 then s.nr else if s.nr < pn then pn else s.nr
theorem SI {M:Nat→Prop} {aF:Nat→Int} {pn n:Int}:AV.ok M (Ag (lO aF pn n)):=AV.aM dY
theorem HU {s:St} {n:Nat} {f:Nat→En} {cs:List SV} {aF:Nat→Int} {pn x:Int} (h0:aO 0 s.store n f cs) (hp:cs.all SV.plain=true):
  bz Tryz.prog 67 [Ag (aU s),Ag (lO aF pn x)] 1 (lk [(0,⟨false,cs⟩)]) (fun v out=>v=I .u32 (fN s pn)∧out=fun _=>none):=by
 refine aA Tryz.func67 rfl (by kernel_rfl) (by simp[Tryz.ntmps67]) Tryz.nQ (fun y hy=>by
  simp only[List.mem_cons,List.not_mem_nil,or_false]at hy
  rcases hy with rfl | rfl
  ·exact bR (h0.ok (by decide))
  ·exact SI) eH (eL hp) ?_
 by_cases h:s.re=0
 ·simp only[Tryz.results67,h,beq_self_eq_true,bJ,ak,vR,seval, -List.reduceReplicate]
  exact ao rfl ⟨by simp[fN,h],rfl⟩
 ·have hb:(s.re==0)=false:=by simpa using h
  simp only[Tryz.results67,hb,bJ,ak,vR,seval, -List.reduceReplicate]
  refine De ?_
  simp only[bJ,ak,vR,seval, -List.reduceReplicate]
  exact ao rfl ⟨by simp[fN,h],rfl⟩
def oK (s:St) (n:Nat) (old now:Int):Option Nat:=if s.skip < (if now > old then now else old) then some 6 else if s.room < n+old+now then some 7 else none
theorem oF {s:St} {n:Nat} {f:Nat→En} {cs:List SV} {old now:Int} (h0:aO 0 s.store n f cs) (hp:cs.all SV.plain=true) (hl:iF s n=true) (h1:kU old) (h2:kU now):
  bz Tryz.prog 87 [Ag (aU s),I .u32 old,I .u32 now] 1 (lk [(0,⟨false,cs⟩)]) (fun v out=>v=iQ (oK s n old now)∧out=fun _=>none):=by
 refine aA Tryz.func87 rfl (by kernel_rfl) (by simp[Tryz.ntmps87]) Tryz.nS (fun y hy=>by
  simp only[List.mem_cons,List.not_mem_nil,or_false]at hy
  rcases hy with rfl | rfl | rfl
  ·exact bR (h0.ok (by decide))
  ·trivial
  ·trivial) eH (eL hp) ?_
 have hln:=h0.len
 simp only[iF,Bool.and_eq_true,decide_eq_true_eq]at hl
 obtain ⟨⟨⟨⟨l1,l2⟩,l3⟩,l4⟩,l5⟩:=hl
 simp only[kU]at h1 h2
 have w1: ∀ x:Int,0≤x→x < 18446744073709551616→IntKind.u64.wrap x=x:=fun x a b=>by rw[IntKind.wrap_u64];omega
 have m0:(0:Int)≤(if now > old then now else old)∧(if now > old then now else old) < 4294967296:=by split<;>omega
 simp only[Tryz.results87,ak,vR,seval, -List.reduceReplicate]
 refine De ?_
 simp only[w1 _ m0.1 (by omega),w1 s.skip l1 (by omega),ak,vR,seval, -List.reduceReplicate]
 refine cJ (fun h=> ?_) (fun h=> ?_)
 ·have h':=of_decide_eq_true h
  simp only[vR,seval, -List.reduceReplicate]
  exact ao rfl ⟨by simp[oK,h',iQ],rfl⟩
 have h':=of_decide_eq_false h
 simp only[hln,w1 old h1.1 (by omega),w1 now h2.1 (by omega),w1 (n:Int) (by omega) (by omega),w1 (n+old) (by omega) (by omega),w1 (n+old+now) (by omega) (by omega),w1 s.room l3 (by omega),ak,vR,seval, -List.reduceReplicate]
 refine cJ (fun h=> ?_) (fun h=> ?_)
 ·have h3:=of_decide_eq_true h
  simp only[vR,seval, -List.reduceReplicate]
  exact ao rfl ⟨by simp[oK,h',h3,iQ],rfl⟩
 ·have h3:=of_decide_eq_false h
  simp only[vR,seval, -List.reduceReplicate]
  exact ao rfl ⟨by simp[oK,h',h3,iQ],rfl⟩
def jX (s:St) (n:Nat) (pr:Bool) (pn x:Int):Option Nat:=
 if pr=true then (if x < s.nr then some 8 else oK s n 0 (x - s.nr))
 else if s.own=false then some 2 else if s.re=4294967295 then some 3 else oK s n (fN s pn - s.nr) x
theorem Cg {s:St}:s.store ∈ aU s:=by simp[aU,pT]
theorem DL {o:Option Nat} {F:AV→AS→Prop} {s:AS}:wM (kC (KZ (Xo (some (iQ o))) (some []))) F s=F (iQ o) s:=by cases o<;>rfl
theorem SJ {s:St} {a:Option Addr} {aF:Nat→Int} {pn x:Int} (h0:s.store= .inl (.slice a 0 0)):
  bz Tryz.prog 67 [Ag (aU s),Ag (lO aF pn x)] 0 (fun _=>none) (fun v out=>v=I .u32 (fN s pn)∧out=fun _=>none):=by
 refine aA Tryz.func67 rfl (by kernel_rfl) (by simp[Tryz.ntmps67]) Tryz.nQ (fun y hy=>by
  simp only[List.mem_cons,List.not_mem_nil,or_false]at hy
  rcases hy with rfl | rfl
  ·exact bR (by rw[h0];trivial)
  ·exact SI) I2 I3 ?_
 by_cases h:s.re=0
 ·simp only[Tryz.results67,h,beq_self_eq_true,bJ,ak,vR,seval, -List.reduceReplicate]
  exact ao rfl ⟨by simp[fN,h],rfl⟩
 ·have hb:(s.re==0)=false:=by simpa using h
  simp only[Tryz.results67,hb,bJ,ak,vR,seval, -List.reduceReplicate]
  refine De ?_
  simp only[bJ,ak,vR,seval, -List.reduceReplicate]
  exact ao rfl ⟨by simp[fN,h],rfl⟩
theorem wW {s:St} {a:Option Addr} {old now:Int} (h0:s.store= .inl (.slice a 0 0)) (hl:iF s 0=true) (h1:kU old) (h2:kU now):
  bz Tryz.prog 87 [Ag (aU s),I .u32 old,I .u32 now] 0 (fun _=>none) (fun v out=>v=iQ (oK s 0 old now)∧out=fun _=>none):=by
 refine aA Tryz.func87 rfl (by kernel_rfl) (by simp[Tryz.ntmps87]) Tryz.nS (fun y hy=>by
  simp only[List.mem_cons,List.not_mem_nil,or_false]at hy
  rcases hy with rfl | rfl | rfl
  ·exact bR (by rw[h0];trivial)
  ·trivial
  ·trivial) I2 I3 ?_
 have hln:eJ 1 (some [.inl (.inl s.store)])=some (some (I .i64 (0:Nat)),none):=by rw[h0];rfl
 simp only[iF,Bool.and_eq_true,decide_eq_true_eq]at hl
 obtain ⟨⟨⟨⟨l1,l2⟩,l3⟩,l4⟩,l5⟩:=hl
 simp only[kU]at h1 h2
 have w1: ∀ x:Int,0≤x→x < 18446744073709551616→IntKind.u64.wrap x=x:=fun x a b=>by rw[IntKind.wrap_u64];omega
 have m0:(0:Int)≤(if now > old then now else old)∧(if now > old then now else old) < 4294967296:=by split<;>omega
 simp only[Tryz.results87,ak,vR,seval, -List.reduceReplicate]
 refine De ?_
 simp only[w1 _ m0.1 (by omega),w1 s.skip l1 (by omega),ak,vR,seval, -List.reduceReplicate]
 refine cJ (fun h=> ?_) (fun h=> ?_)
 ·have h':=of_decide_eq_true h
  simp only[vR,seval, -List.reduceReplicate]
  exact ao rfl ⟨by simp[oK,h',iQ],rfl⟩
 have h':=of_decide_eq_false h
 simp only[hln,w1 old h1.1 (by omega),w1 now h2.1 (by omega),w1 0 (by omega) (by omega),w1 (0+old) (by omega) (by omega),w1 (0+old+now) (by omega) (by omega),Int.zero_add,w1 (old+now) (by omega) (by omega),w1 s.room l3 (by omega),ak,vR,seval, -List.reduceReplicate]
 refine cJ (fun h=> ?_) (fun h=> ?_)
 ·have h3:=of_decide_eq_true h
  have h4:s.room < old+now:=by omega
  simp only[vR,seval, -List.reduceReplicate]
  exact ao rfl ⟨by simp[oK,h',h4,iQ],rfl⟩
 ·have h3:=of_decide_eq_false h
  have h4: ¬ s.room < old+now:=by omega
  simp only[vR,seval, -List.reduceReplicate]
  exact ao rfl ⟨by simp[oK,h',h4,iQ],rfl⟩
theorem oG {s:St} {n:Nat} {f:Nat→En} {cs:List SV} {aF:Nat→Int} {pn x:Int} {pr:Bool} (h0:aO 0 s.store n f cs) (hp:cs.all SV.plain=true) (hl:iF s n=true) (hs:fy s) (hx:kU x) (zG:kU pn):
  bz Tryz.prog 65 [Ag (aU s),Ag (lO aF pn x),B pr] 1 (lk [(0,⟨false,cs⟩)]) (fun v out=>v=iQ (jX s n pr pn x)∧out=fun _=>none):=by
 refine aA Tryz.func65 rfl (by kernel_rfl) (by simp[Tryz.ntmps65]) Tryz.sg (fun y hy=>by
  simp only[List.mem_cons,List.not_mem_nil,or_false]at hy
  rcases hy with rfl | rfl | rfl
  ·exact bR (h0.ok (by decide))
  ·exact SI
  ·trivial) eH (eL hp) ?_
 have Yy:=hs.nr
 simp only[kU]at hx zG Yy
 have w1: ∀ y:Int,0≤y→y < 4294967296→IntKind.u32.wrap y=y:=fun y a b=>by rw[wrap_u32];omega
 cases pr with
 | true=>
  by_cases h:x < s.nr
  ·have h':decide (x < s.nr)=true:=decide_eq_true h
   simp only[Tryz.results65,h',bJ,ak,Tryz.cz,vR,seval, -List.reduceReplicate]
   exact ao rfl ⟨by simp[jX,h,iQ],rfl⟩
  ·have h':decide (x < s.nr)=false:=decide_eq_false h
   simp only[Tryz.results65,h',w1 (x - s.nr) (by omega) (by omega),bJ,ak,Tryz.cz,vR,seval, -List.reduceReplicate]
   refine (oF (old:=0) (now:=x - s.nr) h0 hp hl ⟨by decide,by decide⟩ ⟨by omega,by omega⟩).dP (fun _=>0) (cy (rw:=false) (by simp only[ae,vR,seval, -List.reduceReplicate]) hp) (fW _) ?_ ?_
   ·have e:=h0.ren (r:=fun _=>0) rfl
    simp only[List.map_cons,List.map_nil,dW,e];rfl
   ·simp only[Tryz.cz,vR,seval, -List.reduceReplicate]
    rw[DL]
    exact ao (v:=iQ (oK s n 0 (x - s.nr))) (fW _) ⟨by simp[jX,h],rfl⟩
 | false=>
  rcases Bool.eq_false_or_eq_true s.own with ho | ho
  ·by_cases h:s.re=4294967295
   ·have h':(s.re==4294967295)=true:=by simp[h]
    simp only[Tryz.results65,ho,h',Bool.not_true,bJ,ak,Tryz.cz,vR,seval, -List.reduceReplicate]
    exact ao rfl ⟨by simp[jX,ho,h,iQ],rfl⟩
   ·have h':(s.re==4294967295)=false:=by simp[h]
    simp only[Tryz.results65,ho,h',Bool.not_true,bJ,ak,Tryz.cz,vR,seval, -List.reduceReplicate]
    refine ⟨by kernel_rfl, ?_⟩
    have e0:0≤fN s pn∧fN s pn < 4294967296∧s.nr≤fN s pn:=by unfold fN;split<;>(try split)<;>omega
    rcases h0 with ⟨⟨a,h1⟩,rfl⟩ | ⟨o,c,h1,hc,hsh⟩
    ·refine (SJ (aF:=aF) (pn:=pn) (x:=x) h1).cI (fun n=>n) qC rfl ?_ (fun M h n hn=>by omega) ?_
     ·have e:=(show SV.ren (fun n=>n) s.store=s.store by rw[h1];rfl)
      simp only[List.map_cons,List.map_nil,dW,e,AV.bj dY]
     ·simp only[w1 (fN s pn - s.nr) (by omega) (by omega),bJ,ak,Tryz.cz,vR,seval, -List.reduceReplicate]
      refine (wW (old:=fN s pn - s.nr) (now:=x) h1 hl ⟨by omega,by omega⟩ ⟨by omega,by omega⟩).cI (fun n=>n) qC (fW _) ?_ (fun M h n hn=>by omega) ?_
      ·have e:=(show SV.ren (fun n=>n) s.store=s.store by rw[h1];rfl)
       simp only[List.map_cons,List.map_nil,dW,e];rfl
      ·simp only[bJ,ak,Tryz.cz,vR,seval, -List.reduceReplicate]
       rw[DL]
       exact ao (fW _) ⟨by simp[jX,ho,h],rfl⟩
    ·have h0:aO 0 s.store n f cs:= .inr ⟨o,c,h1,hc,hsh⟩
     refine (HU (aF:=aF) (pn:=pn) (x:=x) h0 hp).cI (fun _=>0) (cy (rw:=false) (by simp only[ae,vR,seval, -List.reduceReplicate]) hp) rfl ?_ (fun M h n hn=> ?_) ?_
     ·have e:=h0.ren (r:=fun _=>0) rfl
      simp only[List.map_cons,List.map_nil,dW,e,AV.bj dY]
     ·have:=h (Ag (aU s)) (List.Mem.head _) s.store Cg
      rw[h1]at this
      exact this.1
     ·simp only[w1 (fN s pn - s.nr) (by omega) (by omega),bJ,ak,Tryz.cz,vR,seval, -List.reduceReplicate]
      refine (oF (old:=fN s pn - s.nr) (now:=x) h0 hp hl ⟨by omega,by omega⟩ ⟨by omega,by omega⟩).cI (fun _=>0) (cy (rw:=false) (by simp only[ae,vR,seval, -List.reduceReplicate]) hp) (fW _) ?_ (fun M h n hn=> ?_) ?_
      ·have e:=h0.ren (r:=fun _=>0) rfl
       simp only[List.map_cons,List.map_nil,dW,e];rfl
      ·have:=h (Ag (aU s)) (List.Mem.head _) s.store Cg
       rw[h1]at this
       exact this.1
      ·simp only[bJ,ak,Tryz.cz,vR,seval, -List.reduceReplicate]
       rw[DL]
       exact ao (fW _) ⟨by simp[jX,ho,h],rfl⟩
  ·simp only[Tryz.results65,ho,Bool.not_false,bJ,ak,Tryz.cz,vR,seval, -List.reduceReplicate]
   exact ao rfl ⟨by simp[jX,ho,iQ],rfl⟩
def kP (s:St):St:={ s with recv:=lN s.recv 2,nr:=IntKind.u32.wrap (s.nr+1) }
theorem oH {s:St} {n:Nat} {f:Nat→En} {ds:List SV} (hs:bg s.recv) (h0:aO 1 s.store n f ds) (hq:ds.all SV.plain=true):
  bz Tryz.prog 69 [Ptr 0 0] 2 (lk [(0,⟨true,aU s⟩),(1,⟨false,ds⟩)]) (fun v out=>v=Ag (ah .u8 32 (lN s.recv 1))∧out=lk [(0,⟨true,aU (kP s)⟩)]):=by
 refine fh Tryz.func69 rfl (by kernel_rfl) [] [] (by simp[Tryz.ntmps69]) Tryz.si (fun y hy=>by
  simp only[List.mem_cons,List.not_mem_nil,or_false]at hy
  subst hy
  exact (show 0 < 2 by decide)) lg (fun m b hm=>by
  rcases yn hm with ⟨rfl,rfl⟩ | ⟨rfl,rfl⟩
  ·exact ⟨by decide,bR (h0.ok (by decide))⟩
  ·exact ⟨by decide,aD hq⟩) ?_
 simp only[Tryz.results69,ak,av,ay,vL,seval, -List.reduceReplicate]
 refine (tU s.recv hs).aB ?_
 simp only[B6,ak,av,ay,vL,seval, -List.reduceReplicate]
 exact qb (x:=kP s) (c:=⟨false,ds⟩) (by decide) (by simpa[AV.plain,CV.plain] using az) (by simp only[ak,vR,seval, -List.reduceReplicate];rfl) (fun r hr=>h0.ren (hr 1 (by decide))) (h0.ok (show 1 < 3 by decide)) ⟨rfl,rfl⟩
def SK:aT:=
 let e0:aT:=(.cons 10 .nil .nil)
 let e1:aT:=(.cons 9 e0 .nil)
 let e2:aT:=(.cons 8 e1 .nil)
 let e3:aT:=(.cons 7 e2 .nil)
 let e4:aT:=(.cons 6 e3 .nil)
 let e5:aT:=(.cons 5 e4 .nil)
 let e6:aT:=(.cons 4 e5 .nil)
 let e7:aT:=(.cons 3 e6 .nil)
 let e8:aT:=(.cons 2 e3 .nil)
 let e9:aT:=(.cons 2 e4 (.cons 6 e8 .nil))
 let X7:aT:=(.cons 2 e5 (.cons 5 e9 .nil))
 let X8:aT:=(.cons 2 e6 (.cons 4 X7 .nil))
 let X9:aT:=(.cons 2 e7 (.cons 3 X8 .nil))
 let WK:aT:=(.cons 1 e3 .nil)
 let Ya:aT:=(.cons 1 e4 (.cons 6 WK .nil))
 let Yb:aT:=(.cons 1 e5 (.cons 5 Ya .nil))
 let Yc:aT:=(.cons 1 e6 (.cons 4 Yb .nil))
 let e17:aT:=(.cons 1 e7 (.cons 3 Yc .nil))
 let e18:aT:=(.cons 1 e8 (.cons 2 WK .nil))
 let e19:aT:=(.cons 1 e9 (.cons 2 Ya (.cons 6 e18 .nil)))
 let e20:aT:=(.cons 1 X7 (.cons 2 Yb (.cons 5 e19 .nil)))
 let e21:aT:=(.cons 1 X8 (.cons 2 Yc (.cons 4 e20 .nil)))
 let e22:aT:=(.cons 1 X9 (.cons 2 e17 (.cons 3 e21 .nil)))
 let e23:aT:=(.cons 0 e7 .nil)
 let e24:aT:=(.cons 0 X9 (.cons 2 e23 .nil))
 let e25:aT:=(.cons 0 e17 (.cons 1 e23 .nil))
 let e26:aT:=(.cons 0 e22 (.cons 1 e24 (.cons 2 e25 .nil)))
 e26
def ib (s:St) (pk:Nat→Int):St:=
 { s with root:=MJ s.root (bW s.priv pk),recv:=fun i=>MJ s.root (bW s.priv pk) (32+i),re:=IntKind.u32.wrap (s.re+1),peer:=true,rq:=pk,has:=false,send:=fun _=>0,nr:=0 }
theorem vd {s:St} {pk:Nat→Int} {n:Nat} {f:Nat→En} {ds:List SV} (hs:fy s) (hb:bg pk) (h0:aO 1 s.store n f ds) (hq:ds.all SV.plain=true):
  bz Tryz.prog 68 [Ptr 0 0,Ag (ah .u8 32 pk)] 2 (lk [(0,⟨true,aU s⟩),(1,⟨false,ds⟩)]) (fun v out=>v= .inr []∧out=lk [(0,⟨true,aU (ib s pk)⟩)]):=by
 refine fh Tryz.func68 rfl (by kernel_rfl) [] [] (by simp[Tryz.ntmps68]) Tryz.sh (fun y hy=>by
  simp only[List.mem_cons,List.not_mem_nil,or_false]at hy
  rcases hy with rfl | rfl
  ·exact (show 0 < 2 by decide)
  ·exact AV.aM (by simpa[AV.plain,CV.plain] using az)) lg (fun m b hm=>by
  rcases yn hm with ⟨rfl,rfl⟩ | ⟨rfl,rfl⟩
  ·exact ⟨by decide,bR (h0.ok (by decide))⟩
  ·exact ⟨by decide,aD hq⟩) ?_
 simp only[Tryz.results68,ak,av,ay,vL,seval, -List.reduceReplicate]
 refine .inl ?_
 simp only[ak,av,ay,vL,seval, -List.reduceReplicate]
 refine ⟨by kernel_rfl, ?_⟩
 refine (pZ s.priv pk hs.priv hb).draw (by kernel_rfl) ?_
 simp only[ak,av,ay,vL,seval, -List.reduceReplicate]
 refine (wz s.root (bW s.priv pk) hs.root (eB s.priv pk)).draw (by kernel_rfl) ?_
 simp only[B6,ak,av,ay,vL,seval, -List.reduceReplicate]
 refine .inr ⟨Tryz.mixed,SK,by kernel_rfl, ?_⟩
 simp only[SK,aH,eu,ak,av,ay,vL,seval, -List.reduceReplicate]
 (repeat' apply And.intro)<;>
  exact qb (x:=ib s pk) (c:=⟨false,ds⟩) (by decide) rfl (by simp only[ak,vR,seval, -List.reduceReplicate];rfl) (fun r hr=>h0.ren (hr 1 (by decide))) (h0.ok (show 1 < 3 by decide)) ⟨rfl,rfl⟩
theorem ou {s:AS} {nm t u n:Nat} {x:St} {f:Nat→En} {rw:Bool} {ds:List SV} (hs:bg x.recv) (h:s.box t=some ⟨true,aU x⟩) (h':s.box u=some ⟨rw,ds⟩) (hq:ds.all SV.plain=true) (hne:t≠u) (hi:aO u x.store n f ds) {dst:Option Nat} {K:AS→Prop}
  (hk:K ((⟨s.env,upd s.box t (some ⟨true,aU (kP x)⟩),s.next⟩:AS).put dst (some (Ag (ah .u8 32 (lN x.recv 1)))))):aB Tryz.prog nm 69 (some [Ptr t 0]) dst K s:=by
 obtain ⟨v0,g0,e0⟩:=hi.name (k:=1)
 have e1:SV.ren (two t u) v0=x.store:=e0 _ rfl
 refine (oH (s:={ x with store:=v0 }) hs g0 hq).aB (two t u) (some 0) (tZ h h' hq hne e1) rfl ?_
 rintro v out ⟨rfl,rfl⟩ _
 have e2:SV.ren (dy (two t u) 2 nm) v0=x.store:=e0 _ rfl
 have e4:AV.ren (dy (two t u) 2 nm) (Ag (ah .u8 32 (lN x.recv 1)))=Ag (ah .u8 32 (lN x.recv 1)):=AV.bj (by simpa[AV.plain,CV.plain] using az) _
 have:after s (two t u) 2 nm (some 0) (lk [(0,⟨true,aU (kP { x with store:=v0 })⟩)])=upd s.box t (some ⟨true,aU (kP x)⟩):=by
  have e3:aU { (kP { x with store:=v0 }) with store:=x.store }=aU (kP x):=rfl
  simp only[after,lk,if_true,Option.map_some,aI.ren,du]
  show upd s.box t (some ⟨true,aU { (kP { x with store:=v0 }) with store:=SV.ren (dy (two t u) 2 nm) v0 }⟩)=_
  rw[e2,e3]
 rw[this,e4]
 exact hk
theorem HV {s:AS} {nm t u n:Nat} {x:St} {f:Nat→En} {rw:Bool} {ds:List SV} (hs:bg x.recv) (h:s.box t=some ⟨true,aU x⟩) (h':s.box u=some ⟨rw,ds⟩) (hq:ds.all SV.plain=true) (hne:t≠u) (hi:aO u x.store n f ds) (hnm:t≠nm) {dst:Option Nat} {K:AS→Prop}
  (hk:K ((⟨s.env,upd (upd s.box t (some ⟨true,aU (kP x)⟩)) nm none,s.next⟩:AS).put dst (some (Ag (ah .u8 32 (lN x.recv 1)))))):bw Tryz.prog nm 69 (some [Ptr t 0]) dst K s:=by
 obtain ⟨v0,g0,e0⟩:=hi.name (k:=1)
 have e1:SV.ren (two t u) v0=x.store:=e0 _ rfl
 refine (oH (s:={ x with store:=v0 }) hs g0 hq).wide.aB (two t u) (some 0) (tZ h h' hq hne e1) ?_ ?_
 ·simp only[List.map_cons,List.map_nil];rfl
 ·rintro v out ⟨rfl,rfl⟩
  have e2:SV.ren (bt (two t u) 2 nm) v0=x.store:=e0 _ rfl
  have e4:AV.ren (bt (two t u) 2 nm) (Ag (ah .u8 32 (lN x.recv 1)))=Ag (ah .u8 32 (lN x.recv 1)):=AV.bj (by simpa[AV.plain,CV.plain] using az) _
  rw[Cc (by show ¬ (nm≤t∧t < nm+1);omega),e4]
  have e3:aU { (kP { x with store:=v0 }) with store:=x.store }=aU (kP x):=rfl
  have:(some (⟨true,aU (kP { x with store:=v0 })⟩:aI)).map (aI.ren (bt (two t u) 2 nm))=some ⟨true,aU (kP x)⟩:=by
   simp only[Option.map_some,aI.ren,du]
   show some (⟨true,aU { (kP { x with store:=v0 }) with store:=SV.ren (bt (two t u) 2 nm) v0 }⟩:aI)=_
   rw[e2,e3]
  have l0:lk [(0,(⟨true,aU (kP { x with store:=v0 })⟩:aI))] 0=some ⟨true,aU (kP { x with store:=v0 })⟩:=rfl
  have l2:lk [(0,(⟨true,aU (kP { x with store:=v0 })⟩:aI))] 2=none:=rfl
  rw[l0,l2,this]
  exact hk
theorem HW {s:AS} {nm t u n:Nat} {x:St} {pk:Nat→Int} {f:Nat→En} {rw:Bool} {ds:List SV} (hs:fy x) (hb:bg pk) (h:s.box t=some ⟨true,aU x⟩) (h':s.box u=some ⟨rw,ds⟩) (hq:ds.all SV.plain=true) (hne:t≠u) (hi:aO u x.store n f ds) {dst:Option Nat} {K:AS→Prop}
  (hk:K ((⟨s.env,upd s.box t (some ⟨true,aU (ib x pk)⟩),s.next⟩:AS).put dst (some (.inr [])))):aB Tryz.prog nm 68 (some [Ptr t 0,Ag (ah .u8 32 pk)]) dst K s:=by
 obtain ⟨v0,g0,e0⟩:=hi.name (k:=1)
 have e1:SV.ren (two t u) v0=x.store:=e0 _ rfl
 refine (vd (s:={ x with store:=v0 }) (hs.ws v0) hb g0 hq).aB (two t u) (some 0) (tZ h h' hq hne e1) ?_ ?_
 ·have:AV.ren (two t u) (Ag (ah .u8 32 pk))=Ag (ah .u8 32 pk):=AV.bj (by simpa[AV.plain,CV.plain] using az) _
  simp only[List.map_cons,List.map_nil,this];rfl
 ·rintro v out ⟨rfl,rfl⟩ _
  have e2:SV.ren (dy (two t u) 2 nm) v0=x.store:=e0 _ rfl
  have:after s (two t u) 2 nm (some 0) (lk [(0,⟨true,aU (ib { x with store:=v0 } pk)⟩)])=upd s.box t (some ⟨true,aU (ib x pk)⟩):=by
   have e3:aU { (ib { x with store:=v0 } pk) with store:=x.store }=aU (ib x pk):=rfl
   simp only[after,lk,if_true,Option.map_some,aI.ren,du]
   show upd s.box t (some ⟨true,aU { (ib { x with store:=v0 } pk) with store:=SV.ren (dy (two t u) 2 nm) v0 }⟩)=_
   rw[e2,e3]
  rw[this]
  exact hk
def fm (s:St):Nat→St
 | 0=>s
 | k+1=>kP (fm s k)
theorem pG {s:St} {v:SV}: ∀ k,fm { s with store:=v } k={ fm s k with store:=v }
 | 0=>rfl
 | k+1=>by rw[fm,fm,pG k];rfl
theorem sT {s:St}: ∀ k,(fm s k).re=s.re∧(fm s k).rq=s.rq
 | 0=>⟨rfl,rfl⟩
 | k+1=>sT k
theorem ov {s:St} (h:bg s.recv): ∀ k,bg (fm s k).recv
 | 0=>h
 | k+1=>kM _ _
theorem Kt {s:St} (h:0≤s.nr): ∀ k:Nat,s.nr+k < 4294967296→(fm s k).nr=s.nr+k
 | 0,_=>by simp[fm]
 | k+1,hk=>by
  show IntKind.u32.wrap ((fm s k).nr+1)=_
  rw[Kt h k (by omega),IntKind.wrap_u32];omega
def Ku (s:St) (k:Nat):En:=⟨s.re,(fm s k).nr,s.rq,lN (fm s k).recv 1⟩
def fY (n:Nat) (f:Nat→En) (s:St) (i:Nat):En:=if i < n then f i else Ku s (i - n)
def PJ (x:Int) (s:St) (k:Nat) (sv:SV) (l:List (Nat×aI)):AS:=yi [(0,Ptr 0 0),(1,I .u32 x)] (l++[(0,⟨true,aU { fm s k with store:=sv }⟩)]) 100
def M9 (k N:Nat) (f:Nat→En) (s:St) (m:Nat) (v:AV) (out:Nat→Option aI):Prop:=
 v= .inr []∧ ∃ sv,out 0=some ⟨true,aU { fm s m with store:=sv }⟩∧((m=0∧fK 1 N f sv (out 1)∧out k=none)∨(0 < m∧fK k (N+m) (fY N f s) sv (out k)∧(k≠1→out 1=none)))
theorem gR {x:St}:(kP x).store=x.store:=rfl
theorem Vi:iW (List.replicate 2 (Value.int IntKind.u32 0)++List.replicate 64 (Value.int IntKind.u8 0)) 66=je Wj:=by rfl
theorem DM:(List.replicate 2 (Value.int IntKind.u32 0)++List.replicate 64 (Value.int IntKind.u8 0)).length=66:=by rfl
theorem uj {e:En}:dQ (je e) 0 1 (fun _=>e):=fun i hi=>by
 obtain rfl:i=0:=by omega
 exact w6
theorem ve {N k:Nat} {f:Nat→En} {s:St}: ∀ i,i < N+k+1→(if i < N+k then fY N f s i else Ku s k)=fY N f s i:=fun i hi=>by
 split
 ·rfl
 ·obtain rfl:i=N+k:=by omega
  rw[fY,if_neg (by omega)];congr 1;omega
def SkI (x:Int) (s:St) (N:Nat) (f:Nat→En) (k:Nat) (t:AS):Prop:=
 ∃ p c cs,(p=1∧k=0∨p=60∧0 < k)∧cF cs 0 (N+k) c (fY N f s)∧t=PJ x s k (.inr (.inr (p,0,N+k,c))) [(p,⟨true,cs⟩)]
theorem Kv {x:Int} {s:St} {n k c q m:Nat} {F:Nat→En} {t:AS} {cs:List SV} (hm:m≤60) (hg:cF cs 0 n c F) (hq:q≠0) (e0:t.env 0=some (Ptr 0 0)) (e1:t.env 1=some (I .u32 x)) (b0:t.box 0=some ⟨true,aU { fm s k with store:= .inr (.inr (q,0,n,c)) }⟩) (b1:t.box q=some ⟨true,cs⟩):
  mh m t (PJ x s k (.inr (.inr (60,0,n,c))) [(60,⟨true,cs⟩)]):=by
 have n0:(0:Nat)≠60:=by decide
 have e2:upd (fun n=>n) 60 q 0=0:=bI _ _ _ _ n0
 have e3:upd (fun n=>n) 60 q 60=q:=aJ _ _ _
 refine F1 (upd (fun n=>n) 60 q) (fun n hn=>bI _ _ _ _ (by omega)) (Gr ⟨e0,show 0 < 100 by decide⟩ ⟨e1,trivial⟩) (Gr ⟨⟨_,by rw[aJ];exact b1,fun h=>h,(aN hg.plain _).symm⟩,show 60 < 100 by decide,aD hg.plain⟩ ⟨⟨⟨true,aU { fm s k with store:= .inr (.inr (q,0,n,c)) }⟩, ?_,fun h=>h, ?_⟩,show 0 < 100 by decide,bR ⟨(show 60 < 100 by decide),rfl⟩⟩) (Gr (fun _=>Gr (fun _=>rfl) (fun e=> ?_)) (fun _=>Gr (fun e=> ?_) (fun _=>rfl)))
 ·show t.box (upd (fun n=>n) 60 q 0)=_
  rw[e2];exact b0
 ·rw[du]
  have:SV.ren (upd (fun n=>n) 60 q) (.inr (.inr (60,0,n,c)))= .inr (.inr (q,0,n,c)):=by simp only[SV.ren,aJ]
  simp only[this]
 ·have e':upd (fun n=>n) 60 q 60=upd (fun n=>n) 60 q 0:=e
  rw[e2,e3]at e';exact absurd e' hq
 ·have e':upd (fun n=>n) 60 q 0=upd (fun n=>n) 60 q 60:=e
  rw[e2,e3]at e';exact absurd e'.symm hq
theorem SL {x:Int} {s:St} {N k c q m:Nat} {f:Nat→En} {t:AS} {cs:List SV} (hm:m≤60) (hk:0 < k) (hg:cF cs 0 (N+k) c (fY N f s)) (hq:q≠0) (hm0:0 < m) (e0:t.env 0=some (Ptr 0 0)) (e1:t.env 1=some (I .u32 x)) (b0:t.box 0=some ⟨true,aU { fm s k with store:= .inr (.inr (q,0,N+k,c)) }⟩) (b1:t.box q=some ⟨true,cs⟩):
  ∃ t',SkI x s N f k t'∧mh m t t':=
 ⟨_,⟨60,c,cs, .inr ⟨rfl,hk⟩,hg,rfl⟩,Kv hm hg hq e0 e1 b0 b1⟩
theorem Kw {s:AS} {N c:Nat} {f:Nat→En} {x:St} {cs:List SV} (hN:0 < N) (hg:cF cs 0 N c (fY N f x)) (b0:s.box 0=some ⟨true,aU { fm x 0 with store:= .inr (.inr (1,0,N,c)) }⟩) (b1:s.box 1=some ⟨true,cs⟩):tK 2 1 (M9 2 N f x 0) (.inr []) s:=by
 have r: ∀ n,n < 2→eM 2 (fun j=>2+j) n=n:=fun n hn=>by unfold eM;rw[if_pos hn]
 refine ⟨fun j=>2+j, .inr [],lk [(0,⟨true,aU { fm x 0 with store:= .inr (.inr (1,0,N,c)) }⟩),(1,⟨true,cs⟩)],(fun j hj=>by show _≤_+j;omega),(fun i j _ _ e=>Nat.add_left_cancel e),rfl,(fun y hy=>by cases hy),fun n b hb=> ?_,rfl,_,rfl, .inl ⟨rfl, .inr ⟨hN,c,cs,rfl,hg.congr rfl (fun i hi=>by simp[fY,hi]),rfl⟩,rfl⟩⟩
 rcases yn hb with ⟨rfl,rfl⟩ | ⟨rfl,rfl⟩
 ·refine ⟨by decide,fun h=>by omega,bR ⟨(show 1 < 2+1 by decide),rfl⟩,⟨true,aU { fm x 0 with store:= .inr (.inr (1,0,N,c)) }⟩,by rw[r 0 (by decide)];exact b0,fun h=>h, ?_⟩
  rw[du]
  have:SV.ren (eM 2 (fun j=>2+j)) (.inr (.inr (1,0,N,c)))= .inr (.inr (1,0,N,c)):=by simp only[SV.ren,r 1 (by decide)]
  simp only[this]
 ·exact ⟨by decide,fun h=>by omega,aD hg.plain,_,by rw[r 1 (by decide)];exact b1,fun h=>h,(aN hg.plain _).symm⟩
theorem Ch {s:AS} {K N m c q n:Nat} {f:Nat→En} {x:St} {cs:List SV} (hK:K=1∨K=2) (hm:0 < m) (hn:n=N+m) (hq:K≤q) (hg:cF cs 0 n c (fY N f x)) (b0:s.box 0=some ⟨true,aU { fm x m with store:= .inr (.inr (q,0,n,c)) }⟩) (b1:s.box q=some ⟨true,cs⟩):tK K 1 (M9 K N f x m) (.inr []) s:=by
 subst hn
 have r0:eM K (fun j=>q+j) 0=0:=by unfold eM;rw[if_pos (by omega)]
 have r2:eM K (fun j=>q+j) K=q:=by unfold eM;rw[if_neg (by omega),Nat.sub_self];rfl
 have hl0:lk [(0,(⟨true,aU { fm x m with store:= .inr (.inr (K,0,N+m,c)) }⟩:aI)),(K,⟨true,cs⟩)] 0=some ⟨true,aU { fm x m with store:= .inr (.inr (K,0,N+m,c)) }⟩:=rfl
 have hlK:lk [(0,(⟨true,aU { fm x m with store:= .inr (.inr (K,0,N+m,c)) }⟩:aI)),(K,⟨true,cs⟩)] K=some ⟨true,cs⟩:=by rcases hK with rfl | rfl<;>rfl
 have hl1:K≠1→lk [(0,(⟨true,aU { fm x m with store:= .inr (.inr (K,0,N+m,c)) }⟩:aI)),(K,⟨true,cs⟩)] 1=none:=fun h=>by
  rcases hK with rfl | rfl
  ·exact absurd rfl h
  ·rfl
 refine ⟨fun j=>q+j, .inr [],lk [(0,⟨true,aU { fm x m with store:= .inr (.inr (K,0,N+m,c)) }⟩),(K,⟨true,cs⟩)],(fun j hj=>by show _≤_+j;omega),(fun i j _ _ e=>Nat.add_left_cancel e),rfl,(fun y hy=>by cases hy),fun n b hb=> ?_,rfl,_,hl0, .inr ⟨hm, .inr ⟨by omega,c,cs,rfl,hg,hlK⟩,hl1⟩⟩
 have hb':(n=0∧b=⟨true,aU { fm x m with store:= .inr (.inr (K,0,N+m,c)) }⟩)∨(n=K∧b=⟨true,cs⟩):=by
  simp only[lk]at hb
  split at hb
  ·cases hb;rename_i e;exact .inl ⟨e,rfl⟩
  ·split at hb
   ·cases hb;rename_i e;exact .inr ⟨e,rfl⟩
   ·cases hb
 rcases hb' with ⟨rfl,rfl⟩ | ⟨rfl,rfl⟩
 ·refine ⟨by omega,fun h=>by omega,bR ⟨(show K < K+1 by omega),rfl⟩,⟨true,aU { fm x m with store:= .inr (.inr (q,0,N+m,c)) }⟩,by rw[r0];exact b0,fun h=>h, ?_⟩
  rw[du]
  have:SV.ren (eM K (fun j=>q+j)) (.inr (.inr (K,0,N+m,c)))= .inr (.inr (q,0,N+m,c)):=by simp only[SV.ren,r2]
  simp only[this]
 ·exact ⟨by omega,fun _=>rfl,aD hg.plain,_,by rw[r2];exact b1,fun h=>h,(aN hg.plain _).symm⟩
theorem SM {s:St} {N c m:Nat} {f:Nat→En} {cs:List SV} {x:Int} (hs:bg s.recv) (hg:cF cs 0 N c f) (hN:0 < N) (hx:x=s.nr+m) (h0:0≤s.nr) (hx2:x < 4294967296) (hsz:(N+m)*72≤140737488355328):
  gy Tryz.prog 66 [Ptr 0 0,I .u32 x] 2 1 (lk [(0,⟨true,aU { s with store:= .inr (.inr (1,0,N,c)) }⟩),(1,⟨true,cs⟩)]) (M9 2 N f s m):=by
 refine cW Tryz.func66 rfl (by kernel_rfl) [3] [] (by simp[Tryz.ntmps66]) Tryz.nP (by decide) (fun y hy=>by
  simp only[List.mem_cons,List.not_mem_nil,or_false]at hy
  rcases hy with rfl | rfl
  ·exact (show 0 < 2 by decide)
  ·trivial) lg (fun i b hb=>by
  rcases yn hb with ⟨rfl,rfl⟩ | ⟨rfl,rfl⟩
  ·exact ⟨by decide,bR ⟨(show 1 < 2 by decide),rfl⟩⟩
  ·exact ⟨by decide,aD hg.plain⟩) ?_
 simp only[Tryz.results66,ak,av,ay,vL,seval, -List.reduceReplicate]
 have wnr: ∀ k,k≤m→(fm s k).nr=s.nr+k:=fun k hk=>Kt h0 k (by omega)
 refine Dg m (SkI x s N f) ?_ ?_ ?_ ?_
 ·rintro k t ⟨p,c1,G0,_,_,rfl⟩;exact Nat.le_of_ble_eq_true rfl
 ·refine ⟨_,⟨1,c,cs, .inl ⟨rfl,rfl⟩,cF.congr hg rfl (fun i hi=>by simp[fY,hi]),rfl⟩, ?_⟩
  refine F3 (Gr ⟨rfl,show 0 < 100 by decide⟩ ⟨rfl,trivial⟩) (Gr ⟨⟨_,rfl,fun h=>h,(aN hg.plain _).symm⟩,show 1 < 100 by decide,aD hg.plain⟩ ⟨⟨_,rfl,fun h=>h, ?_⟩,show 0 < 100 by decide,bR ⟨(show 1 < 100 by decide),rfl⟩⟩)
  rw[du];rfl
 ·rintro k t hk ⟨p,c1,G0,hpk,g1,rfl⟩
  have hlt:(fm s k).nr < x:=by rw[wnr k (by omega)];omega
  have ZJ:p≠0:=by rcases hpk with ⟨rfl,_⟩ | ⟨rfl,_⟩<;>decide
  rcases hpk with ⟨rfl,rfl⟩ | ⟨rfl,Hh⟩
  ·simp only[PJ,List.cons_append,List.nil_append,ml,ak,av,ay,vL,seval, -List.reduceReplicate]
   refine aK (decide_eq_true hlt) ?_
   simp only[ak,bO,av,ay,vL,seval, -List.reduceReplicate]
   refine .inl ?_
   simp only[ak,bO,av,ay,vL,seval, -List.reduceReplicate]
   refine ⟨by kernel_rfl, ?_⟩
   refine ou (t:=0) (u:=1) (rw:=true) (x:={ fm s 0 with store:= .inr (.inr (1,0,N+0,c1)) }) (ov hs 0) (by simp only[vP,seval, -List.reduceReplicate]) (by simp only[vP,seval, -List.reduceReplicate]) g1.plain (by decide) (.inr ⟨0,c1,rfl,g1.room,g1.shows⟩) ?_
   simp only[ak,bO,av,ay,vL,seval, -List.reduceReplicate]
   refine pd (by kernel_rfl) [0,1,2,3,4,5,6] [7,8] [] [9,10,11,12] [0,123] [0] [31,32,33,34,35,36,37,38,39,40,41,42] (by kernel_rfl) (by kernel_rfl) (by kernel_rfl) (QX ⟨by decide,_,by simp only[vP,seval, -List.reduceReplicate];rfl⟩) ?_
   simp only[gR,Vi,DM,ak,bO,av,ay,vL,seval, -List.reduceReplicate]
   refine uL (kB:=72) (rw:=true) (g:=fun _=>Ku s 0) (m:=1) Tryz.tO Tryz.wq (by simp only[vP,seval, -List.reduceReplicate]) g1 (by simp only[vP,seval, -List.reduceReplicate,Ku,sT]) (by decide) uj (by omega) (by omega) ?_
   intro c2 qH g2
   simp only[gR,ak,bO,av,ay,vL,seval, -List.reduceReplicate]
   exact SL (k:=0+1) (q:=137) (by decide) (by omega) (g2.congr rfl (ve (N:=N) (k:=0) (f:=f) (s:=s))) (by decide) (by decide) (by simp only[vP,seval, -List.reduceReplicate]) (by simp only[vP,seval, -List.reduceReplicate]) (by simp only[vP,seval, -List.reduceReplicate];rfl) (by simp only[vP,seval, -List.reduceReplicate])
  ·simp only[PJ,List.cons_append,List.nil_append,ml,ak,av,ay,vL,seval, -List.reduceReplicate]
   refine aK (decide_eq_true hlt) ?_
   simp only[ak,bO,av,ay,vL,seval, -List.reduceReplicate]
   refine .inl ?_
   simp only[ak,bO,av,ay,vL,seval, -List.reduceReplicate]
   refine ⟨by kernel_rfl, ?_⟩
   refine ou (t:=0) (u:=60) (rw:=true) (x:={ fm s k with store:= .inr (.inr (60,0,N+k,c1)) }) (ov hs k) (by simp only[vP,seval, -List.reduceReplicate]) (by simp only[vP,seval, -List.reduceReplicate]) g1.plain (by decide) (.inr ⟨0,c1,rfl,g1.room,g1.shows⟩) ?_
   simp only[ak,bO,av,ay,vL,seval, -List.reduceReplicate]
   refine pd (by kernel_rfl) [0,1,2,3,4,5,6] [7,8] [] [9,10,11,12] [0,123] [0] [31,32,33,34,35,36,37,38,39,40,41,42] (by kernel_rfl) (by kernel_rfl) (by kernel_rfl) (QX ⟨by decide,_,by simp only[vP,seval, -List.reduceReplicate];rfl⟩) ?_
   simp only[gR,Vi,DM,ak,bO,av,ay,vL,seval, -List.reduceReplicate]
   refine uL (kB:=72) (rw:=true) (g:=fun _=>Ku s k) (m:=1) Tryz.tO Tryz.wq (by simp only[vP,seval, -List.reduceReplicate]) g1 (by simp only[vP,seval, -List.reduceReplicate,Ku,sT]) (by decide) uj (by omega) (by omega) ?_
   intro c2 qH g2
   simp only[gR,ak,bO,av,ay,vL,seval, -List.reduceReplicate]
   exact SL (k:=k+1) (q:=137) (by decide) (by omega) (g2.congr rfl (ve (N:=N) (k:=k) (f:=f) (s:=s))) (by decide) (by decide) (by simp only[vP,seval, -List.reduceReplicate]) (by simp only[vP,seval, -List.reduceReplicate]) (by simp only[vP,seval, -List.reduceReplicate];rfl) (by simp only[vP,seval, -List.reduceReplicate])
 ·rintro t ⟨p,c1,G0,hpk,g1,rfl⟩
  have hge: ¬ (fm s m).nr < x:=by rw[wnr m (Nat.le_refl _)];omega
  rcases hpk with ⟨rfl,rfl⟩ | ⟨rfl,Hh⟩
  ·simp only[PJ,List.cons_append,List.nil_append,ml,ak,av,ay,vL,seval, -List.reduceReplicate]
   refine aZ (decide_eq_false hge) ?_
   simp only[ak,bO,av,ay,vL,seval, -List.reduceReplicate]
   exact Kw hN g1 (by simp only[vP,seval, -List.reduceReplicate]) (by simp only[vP,seval, -List.reduceReplicate])
  ·simp only[PJ,List.cons_append,List.nil_append,ml,ak,av,ay,vL,seval, -List.reduceReplicate]
   refine aZ (decide_eq_false hge) ?_
   simp only[ak,bO,av,ay,vL,seval, -List.reduceReplicate]
   exact Ch (q:=60) (.inr rfl) Hh rfl (by decide) g1 (by simp only[vP,seval, -List.reduceReplicate]) (by simp only[vP,seval, -List.reduceReplicate])
theorem Vj {k n:Nat} {q:Nat→Nat} (h:n < k):eM k q n=n:=by unfold eM;rw[if_pos h]
def SkN (x:Int) (s:St) (f:Nat→En) (k:Nat) (t:AS):Prop:=
 (k=0∧t=PJ x s 0 (.inl (.slice none 0 0)) [])∨(0 < k∧ ∃ c cs,cF cs 0 k c (fY 0 f s)∧t=PJ x s k (.inr (.inr (60,0,k,c))) [(60,⟨true,cs⟩)])
theorem SN {s:St} {m:Nat} {f:Nat→En} {x:Int} (hs:bg s.recv) (hx:x=s.nr+m) (h0:0≤s.nr) (hx2:x < 4294967296) (hsz:m*72≤140737488355328):
  gy Tryz.prog 66 [Ptr 0 0,I .u32 x] 1 1 (lk [(0,⟨true,aU { s with store:= .inl (.slice none 0 0) }⟩)]) (M9 1 0 f s m):=by
 refine cW Tryz.func66 rfl (by kernel_rfl) [3] [] (by simp[Tryz.ntmps66]) Tryz.nP (by decide) (fun y hy=>by
  simp only[List.mem_cons,List.not_mem_nil,or_false]at hy
  rcases hy with rfl | rfl
  ·exact (show 0 < 1 by decide)
  ·trivial) eH (fun i b hb=>by
  obtain ⟨rfl,rfl⟩:=D8 hb
  exact ⟨by decide,bR (SV.aM rfl)⟩) ?_
 simp only[Tryz.results66,ak,av,ay,vL,seval, -List.reduceReplicate]
 have wnr: ∀ k,k≤m→(fm s k).nr=s.nr+k:=fun k hk=>Kt h0 k (by omega)
 refine Dg m (SkN x s f) ?_ ?_ ?_ ?_
 ·rintro k t (⟨rfl,rfl⟩ | ⟨_,c1,G0,_,rfl⟩)<;>exact Nat.le_of_ble_eq_true rfl
 ·refine ⟨_, .inl ⟨rfl,rfl⟩, ?_⟩
  refine F3 (Gr ⟨rfl,show 0 < 100 by decide⟩ ⟨rfl,trivial⟩) (QX ⟨⟨_,rfl,fun h=>h, ?_⟩,show 0 < 100 by decide,bR (SV.aM rfl)⟩)
  rw[du];rfl
 ·rintro k t hk h
  have hlt:(fm s k).nr < x:=by rw[wnr k (by omega)];omega
  rcases h with ⟨rfl,rfl⟩ | ⟨Hh,c1,G0,g1,rfl⟩
  ·simp only[PJ,List.cons_append,List.nil_append,ml,ak,av,ay,vL,seval, -List.reduceReplicate]
   refine aK (decide_eq_true hlt) ?_
   simp only[ak,bO,av,ay,vL,seval, -List.reduceReplicate]
   refine .inl ?_
   simp only[ak,bO,av,ay,vL,seval, -List.reduceReplicate]
   refine ⟨by kernel_rfl, ?_⟩
   refine ou (t:=0) (u:=123) (rw:=true) (f:=f) (n:=0+0) (x:={ fm s 0 with store:= .inl (.slice none 0 0) }) (ov hs 0) (by simp only[vP,seval, -List.reduceReplicate]) (by simp only[vP,seval, -List.reduceReplicate];rfl) jL (by decide) (.inl ⟨⟨none,rfl⟩,rfl⟩) ?_
   simp only[ak,bO,av,ay,vL,seval, -List.reduceReplicate]
   refine pd (by kernel_rfl) [0,1,2,3,4,5,6] [7,8] [] [9,10,11,12] [0,123] [0] [31,32,33,34,35,36,37,38,39,40,41,42] (by kernel_rfl) (by kernel_rfl) (by kernel_rfl) (QX ⟨by decide,_,by simp only[vP,seval, -List.reduceReplicate];rfl⟩) ?_
   simp only[gR,Vi,DM,ak,bO,av,ay,vL,seval, -List.reduceReplicate]
   refine JA (kB:=72) (rw:=true) (g:=fun _=>Ku s 0) (m:=1) Tryz.tO Tryz.wq (by simp only[vP,seval, -List.reduceReplicate,Ku,sT]) uj (by omega) (by omega) (by omega) ?_
   intro c2 qH g2
   simp only[gR,ak,bO,av,ay,vL,seval, -List.reduceReplicate]
   replace g2:cF qH 0 (0+1) c2 (fY 0 f s):=(cF.congr g2 rfl (fun i (hi:i < 1)=>by
    obtain rfl:i=0:=by omega
    show Ku s 0=fY 0 f s 0
    rw[fY,if_neg (Nat.lt_irrefl 0)]))
   exact ⟨_, .inr ⟨by omega,c2,qH,g2,rfl⟩,Kv (k:=0+1) (q:=137) (by decide) g2 (by decide) (by simp only[vP,seval, -List.reduceReplicate]) (by simp only[vP,seval, -List.reduceReplicate]) (by simp only[vP,seval, -List.reduceReplicate];rfl) (by simp only[vP,seval, -List.reduceReplicate])⟩
  ·simp only[PJ,List.cons_append,List.nil_append,ml,ak,av,ay,vL,seval, -List.reduceReplicate]
   refine aK (decide_eq_true hlt) ?_
   simp only[ak,bO,av,ay,vL,seval, -List.reduceReplicate]
   refine .inl ?_
   simp only[ak,bO,av,ay,vL,seval, -List.reduceReplicate]
   refine ⟨by kernel_rfl, ?_⟩
   refine ou (t:=0) (u:=60) (rw:=true) (f:=fY 0 f s) (n:=k) (x:={ fm s k with store:= .inr (.inr (60,0,k,c1)) }) (ov hs k) (by simp only[vP,seval, -List.reduceReplicate]) (by simp only[vP,seval, -List.reduceReplicate]) g1.plain (by decide) (.inr ⟨0,c1,rfl,g1.room,g1.shows⟩) ?_
   simp only[ak,bO,av,ay,vL,seval, -List.reduceReplicate]
   refine pd (by kernel_rfl) [0,1,2,3,4,5,6] [7,8] [] [9,10,11,12] [0,123] [0] [31,32,33,34,35,36,37,38,39,40,41,42] (by kernel_rfl) (by kernel_rfl) (by kernel_rfl) (QX ⟨by decide,_,by simp only[vP,seval, -List.reduceReplicate];rfl⟩) ?_
   simp only[gR,Vi,DM,ak,bO,av,ay,vL,seval, -List.reduceReplicate]
   refine uL (kB:=72) (rw:=true) (g:=fun _=>Ku s k) (m:=1) Tryz.tO Tryz.wq (by simp only[vP,seval, -List.reduceReplicate]) g1 (by simp only[vP,seval, -List.reduceReplicate,Ku,sT]) (by decide) uj (by omega) (by omega) ?_
   intro c2 qH g2
   simp only[gR,ak,bO,av,ay,vL,seval, -List.reduceReplicate]
   replace g2:cF qH 0 (k+1) c2 (fY 0 f s):=g2.congr rfl (fun i hi=>by
    have:=ve (N:=0) (k:=k) (f:=f) (s:=s) i (by omega)
    rw[Nat.zero_add]at this;exact this)
   exact ⟨_, .inr ⟨by omega,c2,qH,g2,rfl⟩,Kv (k:=k+1) (q:=137) (by decide) g2 (by decide) (by simp only[vP,seval, -List.reduceReplicate]) (by simp only[vP,seval, -List.reduceReplicate]) (by simp only[vP,seval, -List.reduceReplicate];rfl) (by simp only[vP,seval, -List.reduceReplicate])⟩
 ·rintro t h
  have hge: ¬ (fm s m).nr < x:=by rw[wnr m (Nat.le_refl _)];omega
  rcases h with ⟨rfl,rfl⟩ | ⟨Hh,c1,G0,g1,rfl⟩
  ·simp only[PJ,List.cons_append,List.nil_append,ml,ak,av,ay,vL,seval, -List.reduceReplicate]
   refine aZ (decide_eq_false hge) ?_
   simp only[ak,bO,av,ay,vL,seval, -List.reduceReplicate]
   refine ⟨fun j=>1+j, .inr [],lk [(0,⟨true,aU { fm s 0 with store:= .inl (.slice none 0 0) }⟩)],(fun j hj=>Nat.le_add_right _ _),(fun i j _ _ e=>Nat.add_left_cancel e),rfl,(fun y hy=>by cases hy),fun n b hb=> ?_,rfl,_,rfl, .inl ⟨rfl, .inl ⟨rfl,rfl,rfl⟩,rfl⟩⟩
   obtain ⟨rfl,rfl⟩:=D8 hb
   refine ⟨by decide,fun h=>by omega,bR (SV.aM rfl),_,by rw[Vj (by decide)];simp only[vP,seval, -List.reduceReplicate],fun h=>h, ?_⟩
   rw[du];rfl
  ·simp only[PJ,List.cons_append,List.nil_append,ml,ak,av,ay,vL,seval, -List.reduceReplicate]
   refine aZ (decide_eq_false hge) ?_
   simp only[ak,bO,av,ay,vL,seval, -List.reduceReplicate]
   exact Ch (q:=60) (.inl rfl) Hh (Nat.zero_add m).symm (by decide) g1 (by simp only[vP,seval, -List.reduceReplicate]) (by simp only[vP,seval, -List.reduceReplicate])
theorem pH {s:AS} {nm t p N m:Nat} {x:St} {f:Nat→En} {sv:SV} {bx:Option aI} {X:Int} (hs:bg x.recv) (hX:X=x.nr+m) (h0:0≤x.nr) (hX2:X < 4294967296) (hsz:(N+m)*72≤140737488355328)
  (h:s.box t=some ⟨true,aU { x with store:=sv }⟩) (hK:fK p N f sv bx) (ke:s.box p=bx) (hne:t≠p) (h1:t≠nm) (h2:p≠nm) {dst:Option Nat} {K:AS→Prop}
  (hk: ∀ PE p' bx',(p'=p∨p'=nm)→fK p' (N+m) (fY N f x) PE bx'→K ((⟨s.env,upd (upd (upd (upd s.box nm none) t (some ⟨true,aU { fm x m with store:=PE }⟩)) p none) p' bx',s.next⟩:AS).put dst (some (.inr [])))):aB Tryz.prog nm 66 (some [Ptr t 0,I .u32 X]) dst K s:=by
 rcases hK with ⟨rfl,rfl,rfl⟩ | ⟨hN,c,cs,rfl,hg,rfl⟩
 ·refine (SN (f:=f) (s:=x) hs hX h0 hX2 (by omega)).Mq (by decide) (fun _=>t) [0] ⟨fun n b hb=> ?_,fun n n' b b' hb _ hb' _=> ?_,fun n b hb _=> ?_,fun n hn=> ?_⟩ rfl ?_
  ·obtain ⟨rfl,rfl⟩:=D8 hb
   exact ⟨_,h,fun h=>h,by rw[du];rfl⟩
  ·rw[(D8 hb).1,(D8 hb').1]
  ·rw[(D8 hb).1];exact List.mem_singleton.2 rfl
  ·rw[List.mem_singleton.1 hn];exact ⟨_,rfl,rfl⟩
  ·rintro v out ⟨rfl,sv,e0,hh⟩
   have r1:bt (fun _=>t) 1 nm 1=nm:=fU
   have e3:lu s (fun _=>t) 1 1 nm [0] out=upd (upd (upd (upd s.box nm none) t (some ⟨true,aU { fm x m with store:=SV.ren (bt (fun _=>t) 1 nm) sv }⟩)) p none) nm ((out 1).map (aI.ren (bt (fun _=>t) 1 nm))):=by
    funext u
    unfold lu nG
    simp only[upd]
    by_cases a1:u=nm
    ·subst a1;simp
    ·rw[if_neg (by omega),if_neg a1]
     by_cases a2:u=t
     ·subst a2
      rw[if_pos rfl,if_neg hne,if_pos rfl]
      simp only[e0,Option.map_some,aI.ren,du]
     ·rw[if_neg a2]
      by_cases a3:u=p
      ·subst a3;rw[if_pos rfl];exact ke
      ·rw[if_neg a3,if_neg a2,if_neg a1];rfl
   rw[e3]
   rcases hh with ⟨rfl,hk1,_⟩ | ⟨hm,hk1,_⟩
   all_goals
    have hk2:=pD (q:=nm) hk1 r1
   ·exact hk _ nm _ (.inr rfl) (by
     rcases hk2 with ⟨a,b,c⟩ | ⟨a,_⟩
     ·exact .inl ⟨a,b,c⟩
     ·exact absurd a (by decide))
   ·exact hk _ nm _ (.inr rfl) hk2
 ·refine (SM (s:=x) hs hg hN hX h0 hX2 hsz).Mq (by decide) (two t p) [0,1] ⟨fun n b hb=> ?_,fun n n' b b' hb _ hb' e=> ?_,fun n b hb _=> ?_,fun n hn=> ?_⟩ rfl ?_
  ·rcases yn hb with ⟨rfl,rfl⟩ | ⟨rfl,rfl⟩
   ·exact ⟨_,h,fun h=>h,by rw[du];rfl⟩
   ·exact ⟨_,ke,fun h=>h,(aN hg.plain _).symm⟩
  ·rcases yn hb with ⟨rfl,rfl⟩ | ⟨rfl,rfl⟩<;>rcases yn hb' with ⟨rfl,rfl⟩ | ⟨rfl,rfl⟩
   ·rfl
   ·exact absurd e hne
   ·exact absurd e.symm hne
   ·rfl
  ·rcases yn hb with ⟨rfl,rfl⟩ | ⟨rfl,rfl⟩<;>simp
  ·rcases List.mem_cons.1 hn with rfl | hn
   ·exact ⟨_,rfl,rfl⟩
   ·rw[List.mem_singleton.1 hn];exact ⟨_,rfl,rfl⟩
  ·rintro v out ⟨rfl,sv,e0,hh⟩
   have r1:bt (two t p) 2 nm 1=p:=rfl
   have r2:bt (two t p) 2 nm 2=nm:=fU
   have e3: ∀ u,lu s (two t p) 2 1 nm [0,1] out u=if u=nm then (out 2).map (aI.ren (bt (two t p) 2 nm)) else if u=t then some ⟨true,aU { fm x m with store:=SV.ren (bt (two t p) 2 nm) sv }⟩ else if u=p then (out 1).map (aI.ren (bt (two t p) 2 nm)) else s.box u:=fun u=>by
    unfold lu nG nG
    by_cases a1:u=nm
    ·subst a1;simp
    ·rw[if_neg (by omega),if_neg a1]
     have t0:two t p 0=t:=rfl
     have t1:two t p 1=p:=rfl
     rw[t0,t1]
     by_cases a2:u=t
     ·rw[if_pos a2,if_pos a2]
      simp only[e0,Option.map_some,aI.ren,du]
     ·rw[if_neg a2,if_neg a2]
      by_cases a3:u=p
      ·rw[if_pos a3,if_pos a3]
      ·rw[if_neg a3,if_neg a3];rfl
   rcases hh with ⟨rfl,hk1,h3⟩ | ⟨hm,hk1,h3⟩
   ·have hk2:=pD (q:=p) hk1 r1
    have e4:lu s (two t p) 2 1 nm [0,1] out=upd (upd (upd (upd s.box nm none) t (some ⟨true,aU { fm x 0 with store:=SV.ren (bt (two t p) 2 nm) sv }⟩)) p none) p ((out 1).map (aI.ren (bt (two t p) 2 nm))):=funext fun u=>by
     rw[e3 u,h3]
     simp only[upd]
     by_cases a1:u=nm
     ·subst a1;rw[if_pos rfl,if_neg (fun e=>h2 e.symm),if_neg (fun e=>h2 e.symm),if_neg (fun e=>h1 e.symm),if_pos rfl];rfl
     ·rw[if_neg a1]
      by_cases a2:u=t
      ·subst a2;rw[if_pos rfl,if_neg hne,if_neg hne,if_pos rfl]
      ·rw[if_neg a2,if_neg a2,if_neg a1]
       by_cases a3:u=p
       ·rw[if_pos a3,if_pos a3]
       ·rw[if_neg a3,if_neg a3,if_neg a3]
    rw[e4]
    refine hk _ p _ (.inl rfl) ?_
    rcases hk2 with ⟨a,_⟩ | ⟨a,c',cs',e5,g5,e6⟩
    ·omega
    ·exact .inr ⟨a,c',cs',e5,g5.congr rfl (fun i hi=>by simp[fY,hi]),e6⟩
   ·have hk2:=pD (q:=nm) hk1 r2
    have e4:lu s (two t p) 2 1 nm [0,1] out=upd (upd (upd (upd s.box nm none) t (some ⟨true,aU { fm x m with store:=SV.ren (bt (two t p) 2 nm) sv }⟩)) p none) nm ((out 2).map (aI.ren (bt (two t p) 2 nm))):=funext fun u=>by
     rw[e3 u,h3 (by decide)]
     simp only[upd]
     by_cases a1:u=nm
     ·rw[if_pos a1,if_pos a1]
     ·rw[if_neg a1,if_neg a1]
      by_cases a2:u=t
      ·subst a2;rw[if_pos rfl,if_neg hne,if_pos rfl]
      ·rw[if_neg a2,if_neg a2,if_neg a1]
       by_cases a3:u=p
       ·rw[if_pos a3,if_pos a3];rfl
       ·rw[if_neg a3,if_neg a3]
    rw[e4]
    exact hk _ nm _ (.inr rfl) hk2
theorem Vk {s:St} (h:fy s):fy (kP s):=
 ⟨h.root,h.priv,h.aF,h.rq,h.send,kM _ _,h.se,h.re,h.ns,by show kU (IntKind.u32.wrap (s.nr+1));rw[wrap_u32];unfold kU;omega,h.pn,h.skip,h.room⟩
theorem vf {s:St} (h:fy s): ∀ k,fy (fm s k)
 | 0=>h
 | k+1=>Vk (vf h k)
theorem DN {s:St} {pk:Nat→Int} (h:fy s) (hb:bg pk):fy (ib s pk):=
 ⟨qf _ _,h.priv,h.aF,hb,SC,fun i=>qf _ _ _,h.se,by show kU (IntKind.u32.wrap (s.re+1));rw[wrap_u32];unfold kU;omega,h.ns,by show kU 0;unfold kU;omega,h.pn,h.skip,h.room⟩
def preB (s:St) (aF:Nat→Int):Bool:=decide (0 < s.re)&&DJ aF s.rq
def Ci (s:St) (aF:Nat→Int) (pn:Int):St:=if preB s aF=true then s else ib (fm s (fN s pn - s.nr).toNat) aF
def Kx (s:St) (n:Nat) (aF:Nat→Int) (pn:Int):Nat:=if preB s aF=true then n else n+(fN s pn - s.nr).toNat
def O8 (s:St) (n:Nat) (f:Nat→En) (aF:Nat→Int) (pn:Int):Nat→En:=if preB s aF=true then f else fY n f s
theorem pI {s:AS} {nm t p z n:Nat} {x:St} {f:Nat→En} {bx:Option aI} {rw:Bool} {cs:List SV} (hs:bg x.recv) (h:s.box t=some ⟨true,aU x⟩) (hK:fK p n f x.store bx) (ke:s.box p=bx) (hf:s.box z=some ⟨rw,cs⟩) (hp:cs.all SV.plain=true) (h1:t≠p) (h2:t≠z) (hnm:t≠nm) {dst:Option Nat} {K:AS→Prop}
  (hk:K ((⟨s.env,upd (upd s.box t (some ⟨true,aU (kP x)⟩)) nm none,s.next⟩:AS).put dst (some (Ag (ah .u8 32 (lN x.recv 1)))))):bw Tryz.prog nm 69 (some [Ptr t 0]) dst K s:=by
 obtain ⟨u,rw',ds,hu,hb',hq,hi⟩:=oh hK ke hf hp
 exact HV hs h hb' hq (by rcases hu with rfl | rfl<;>assumption) hi hnm hk
def ow:aT:=
 let e0:aT:=(.cons 8 .nil .nil)
 let e1:aT:=(.cons 7 e0 .nil)
 let e2:aT:=(.cons 6 e0 .nil)
 let e3:aT:=(.cons 6 e1 (.cons 7 e2 .nil))
 let e4:aT:=(.cons 5 e1 .nil)
 (.cons 4 (.cons 5 e3 (.cons 6 e4 .nil)) .nil)
def DP [aG] (k n m:Nat) (s:St) (f:Nat→En) (aF g tag:Nat→Int) (pn x:Int) (v:AV) (out:Nat→Option aI):Prop:=
 (∃ i,jX s n (preB s aF) pn x=some i∧v= .inr [.inr (dO 0 nC (.inl (.slice none 0 0)) 0 0), .inl (.inl (fA i))]∧out=fun _=>none)∨
 (jX s n (preB s aF) pn x=none∧
  (let d:=Ci s aF pn
   let j:=(x - d.nr).toNat
   (vb (lN (fm d j).recv 1) aF pn x m g tag=false∧v= .inr [.inr (dO 0 nC (.inl (.slice none 0 0)) 0 0), .inl (.inl (fA 5))]∧out=fun _=>none)∨
   (vb (lN (fm d j).recv 1) aF pn x m g tag=true∧ ∃ sv bx,fK k (Kx s n aF pn+j) (fY (Kx s n aF pn) (O8 s n f aF pn) d) sv bx∧
    v= .inr [.inr (dO 0 { fm d (j+1) with store:=sv } (.inr (.inr (k+1,0,m,m))) d.re x), .inl (.inl .nilIface)]∧
    out=fun q=>if q=k then bx else if q=k+1 then some ⟨true,ah .u8 m (cx (lN (fm d j).recv 1) g)⟩ else none)))
theorem HX {s:St} {n m:Nat} {f:Nat→En} {aF g tag:Nat→Int} {pn x:Int} {sv:SV} {cs ds:List SV} (h0:aO 0 s.store n f cs) (hp:cs.all SV.plain=true) (hs:fy s) (hl:iF s n=true) (hn:n*72≤140737488355328) (lP:bg aF) (hf:bg g) (ht:bg tag) (hv:jW 1 m g sv ds) (hq:ds.all SV.plain=true) (hm:m≤65536) (hx:kU x) (zG:kU pn) (HY:preB s aF=true):
  gy Tryz.prog 38 [Ag (aU s),Ag (gk aF pn x sv tag)] 2 2 (lk [(0,⟨false,cs⟩),(1,⟨false,ds⟩)]) (DP 2 n m s f aF g tag pn x):=by
 have Pu: ∀ {M:Nat→Prop},M 1→SV.ok M sv:=fun h=>by
  rcases hv with ⟨_,rfl⟩ | ⟨o,c,rfl,_⟩
  ·trivial
  ·exact ⟨h,rfl⟩
 refine cW Tryz.func38 rfl (by kernel_rfl) [5,10] [] (by simp[Tryz.ntmps38]) Tryz.nK (by decide) (fun y hy=>by
  simp only[List.mem_cons,List.not_mem_nil,or_false]at hy
  rcases hy with rfl | rfl
  ·exact bR (h0.ok (by decide))
  ·exact oc (Pu (by decide))) lg (oU hp hq) ?_
 have abd:=HY
 simp only[preB,Bool.and_eq_true,decide_eq_true_eq]at abd
 obtain ⟨hr1,Wk⟩:=abd
 have XV:decide (s.re > 0)=true:=decide_eq_true hr1
 simp only[Tryz.results38,XV,Wk,uh,ia,vL,seval, -List.reduceReplicate]
 refine (oG (aF:=aF) (pr:=true) h0 hp hl hs hx zG).dP (fun _=>0) (cy (rw:=false) (by simp only[vP,seval, -List.reduceReplicate]) hp) (fW _) (by
  have e:=h0.ren (r:=fun _=>0) rfl
  simp only[List.map_cons,List.map_nil,dW,e,AV.bj dY];rfl) ?_
 cases hst:jX s n true pn x with
 | some i=>
  have hni:kc BinOp.neq true (some (iQ (some i)))=some (some (B true),none):=rfl
  simp only[hni,ia,vL,seval, -List.reduceReplicate]
  exact dD (q:=0) (v:= .inr [.inr (dO 0 nC (.inl (.slice none 0 0)) 0 0), .inl (.inl (fA i))]) (by rfl) (.inl ⟨i,by rw[HY];exact hst,rfl,rfl⟩)
 | none=>
  have hni:kc BinOp.neq true (some (iQ none))=some (some (B false),none):=rfl
  have hb:s.nr≤x∧n+(x - s.nr)≤1000:=by
   have hl':=hl
   simp only[iF,Bool.and_eq_true,decide_eq_true_eq]at hl'
   obtain ⟨⟨⟨⟨l1,l2⟩,l3⟩,l4⟩,l5⟩:=hl'
   unfold jX at hst
   rw[if_pos rfl]at hst
   by_cases a1:x < s.nr
   ·rw[if_pos a1]at hst;cases hst
   rw[if_neg a1]at hst
   unfold oK at hst
   by_cases a2:s.skip < (if x - s.nr > 0 then x - s.nr else 0)
   ·rw[if_pos a2]at hst;cases hst
   rw[if_neg a2]at hst
   by_cases a3:s.room < n+0+(x - s.nr)
   ·rw[if_pos a3]at hst;cases hst
   omega
  simp only[kU]at hx zG
  have Yy:=hs.nr
  simp only[kU]at Yy
  simp only[hni,ia,vL,seval, -List.reduceReplicate]
  refine ⟨by decide, ?_⟩
  simp only[ia,vL,seval, -List.reduceReplicate]
  refine mr (t:=0) (rw:=false) (by simp only[vP,seval, -List.reduceReplicate]) hp h0 hn ?_
  intro ZF bx1 hK
  simp only[Bool.not_true,ia,vL,seval, -List.reduceReplicate]
  refine pH (t:=34) (p:=35) (x:=s) (sv:=ZF) (m:=(x - s.nr).toNat) hs.recv (by omega) Yy.1 (by omega) (by omega) (by simp only[vP,seval, -List.reduceReplicate]) hK (by simp only[vP,seval, -List.reduceReplicate]) (by decide) (by decide) (by decide) ?_
  intro WV p2 SQ Up qm
  simp only[Bool.not_true,ia,vL,seval, -List.reduceReplicate]
  obtain ⟨qc,k0,r0,o0,b0⟩:=n9 (p:=2) qm
  have ed:Ci s aF pn=s:=if_pos HY
  have en:Kx s n aF pn=n:=if_pos HY
  have ef:O8 s n f aF pn=f:=if_pos HY
  have er:(fm s (x - s.nr).toNat).re=s.re:=(sT _).1
  rcases Up with rfl | rfl
  ·refine tM (by kernel_rfl) [0,2] [1,3] [] [4,5,6,7,8] [3] [] [52,54,53,55,51,56,57,9,10] ow (by kernel_rfl) (by kernel_rfl) (by kernel_rfl) (by kernel_rfl) (fun t h=>nomatch h) ?_
   simp only[Bool.not_true,ia,vL,seval, -List.reduceReplicate]
   refine pI (t:=34) (p:=35) (z:=0) (x:={ fm s (x - s.nr).toNat with store:=WV }) (rw:=false) (cs:=cs) (ov hs.recv _) (by simp only[vP,seval, -List.reduceReplicate]) qm (by simp only[vP,seval, -List.reduceReplicate]) (by simp only[vP,seval, -List.reduceReplicate]) hp (by decide) (by decide) (by decide) ?_
   simp only[Bool.not_true,ia,vL,seval, -List.reduceReplicate]
   refine kO (td:=1) (rd:=false) (ds:=ds) (f:=g) (kM _ _) lP hf ht (by simp only[vP,seval, -List.reduceReplicate]) hv hq hm ?_ ?_
   ·intro ho
    simp only[ui,ow,eO,eu,Bool.not_true,ia,vL,seval, -List.reduceReplicate]
    refine ⟨⟨?_, ?_⟩, ?_⟩
    all_goals
     refine .inl ?_
     simp only[eO,eu,Bool.not_true,ia,vL,seval, -List.reduceReplicate]
     refine ⟨by kernel_rfl, ?_⟩
     exact xl (st:=kP (fm s (x - s.nr).toNat)) (q:=57) (p:=35) (qc:=qc) (bx:=SQ) (ds:=ah .u8 m (cx (lN (fm s (x - s.nr).toNat).recv 1) g)) (by decide) (by decide) (by decide) (by simp only[eO,vP,seval, -List.reduceReplicate]) az (by simp only[eO,vP,seval, -List.reduceReplicate]) r0 o0 b0
      (.inr ⟨by rw[HY];exact hst, .inr ⟨by rw[ed];exact ho,qc,SQ,by rw[ed,en,ef];exact k0,by rw[ed, ← er];rfl,by rw[ed]⟩⟩)
   ·intro ho
    have SR:kc BinOp.neq true (some (Sum.inl (Sum.inl (Sum.inl (fA 5)))))=some (some (B true),none):=rfl
    simp only[ot,SR,ow,eO,eu,Bool.not_true,ia,vL,seval, -List.reduceReplicate]
    refine ⟨⟨?_, ?_⟩, ?_⟩
    all_goals
     exact dD (q:=0) (v:= .inr [.inr (dO 0 nC (.inl (.slice none 0 0)) 0 0), .inl (.inl (fA 5))]) (by rfl) (.inr ⟨by rw[HY];exact hst, .inl ⟨by rw[Ci,if_pos HY];exact ho,rfl,rfl⟩⟩)
  ·refine tM (by kernel_rfl) [0,2] [1,3] [] [4,5,6,7,8] [3] [] [52,54,53,55,51,56,57,9,10] ow (by kernel_rfl) (by kernel_rfl) (by kernel_rfl) (by kernel_rfl) (fun t h=>nomatch h) ?_
   simp only[Bool.not_true,ia,vL,seval, -List.reduceReplicate]
   refine pI (t:=34) (p:=48) (z:=0) (x:={ fm s (x - s.nr).toNat with store:=WV }) (rw:=false) (cs:=cs) (ov hs.recv _) (by simp only[vP,seval, -List.reduceReplicate]) qm (by simp only[vP,seval, -List.reduceReplicate]) (by simp only[vP,seval, -List.reduceReplicate]) hp (by decide) (by decide) (by decide) ?_
   simp only[Bool.not_true,ia,vL,seval, -List.reduceReplicate]
   refine kO (td:=1) (rd:=false) (ds:=ds) (f:=g) (kM _ _) lP hf ht (by simp only[vP,seval, -List.reduceReplicate]) hv hq hm ?_ ?_
   ·intro ho
    simp only[ui,ow,eO,eu,Bool.not_true,ia,vL,seval, -List.reduceReplicate]
    refine ⟨⟨?_, ?_⟩, ?_⟩
    all_goals
     refine .inl ?_
     simp only[eO,eu,Bool.not_true,ia,vL,seval, -List.reduceReplicate]
     refine ⟨by kernel_rfl, ?_⟩
     exact xl (st:=kP (fm s (x - s.nr).toNat)) (q:=57) (p:=48) (qc:=qc) (bx:=SQ) (ds:=ah .u8 m (cx (lN (fm s (x - s.nr).toNat).recv 1) g)) (by decide) (by decide) (by decide) (by simp only[eO,vP,seval, -List.reduceReplicate]) az (by simp only[eO,vP,seval, -List.reduceReplicate]) r0 o0 b0
      (.inr ⟨by rw[HY];exact hst, .inr ⟨by rw[ed];exact ho,qc,SQ,by rw[ed,en,ef];exact k0,by rw[ed, ← er];rfl,by rw[ed]⟩⟩)
   ·intro ho
    have SR:kc BinOp.neq true (some (Sum.inl (Sum.inl (Sum.inl (fA 5)))))=some (some (B true),none):=rfl
    simp only[ot,SR,ow,eO,eu,Bool.not_true,ia,vL,seval, -List.reduceReplicate]
    refine ⟨⟨?_, ?_⟩, ?_⟩
    all_goals
     exact dD (q:=0) (v:= .inr [.inr (dO 0 nC (.inl (.slice none 0 0)) 0 0), .inl (.inl (fA 5))]) (by rfl) (.inr ⟨by rw[HY];exact hst, .inl ⟨by rw[Ci,if_pos HY];exact ho,rfl,rfl⟩⟩)
theorem DQ {s:AS} {nm t p z n:Nat} {x:St} {pk:Nat→Int} {f:Nat→En} {bx:Option aI} {rw:Bool} {cs:List SV} (hs:fy x) (hb:bg pk) (h:s.box t=some ⟨true,aU x⟩) (hK:fK p n f x.store bx) (ke:s.box p=bx) (hf:s.box z=some ⟨rw,cs⟩) (hp:cs.all SV.plain=true) (h1:t≠p) (h2:t≠z) {dst:Option Nat} {K:AS→Prop}
  (hk:K ((⟨s.env,upd s.box t (some ⟨true,aU (ib x pk)⟩),s.next⟩:AS).put dst (some (.inr [])))):aB Tryz.prog nm 68 (some [Ptr t 0,Ag (ah .u8 32 pk)]) dst K s:=by
 obtain ⟨u,rw',ds,hu,hb',hq,hi⟩:=oh hK ke hf hp
 exact HW hs hb h hb' hq (by rcases hu with rfl | rfl<;>assumption) hi hk
theorem Vl {s:St} {n:Nat} {pn x:Int} (hl:iF s n=true) (hst:jX s n false pn x=none):n+(fN s pn - s.nr)+x≤1000:=by
 simp only[iF,Bool.and_eq_true,decide_eq_true_eq]at hl
 obtain ⟨⟨⟨⟨l1,l2⟩,l3⟩,l4⟩,l5⟩:=hl
 unfold jX at hst
 rw[if_neg (by decide)]at hst
 by_cases a0:s.own=false
 ·rw[if_pos a0]at hst;cases hst
 rw[if_neg a0]at hst
 by_cases a1:s.re=4294967295
 ·rw[if_pos a1]at hst;cases hst
 rw[if_neg a1]at hst
 unfold oK at hst
 by_cases a2:s.skip < (if x > fN s pn - s.nr then x else fN s pn - s.nr)
 ·rw[if_pos a2]at hst;cases hst
 rw[if_neg a2]at hst
 by_cases a3:s.room < n+(fN s pn - s.nr)+x
 ·rw[if_pos a3]at hst;cases hst
 omega
theorem Ky {s:St} {n m:Nat} {f:Nat→En} {aF g tag:Nat→Int} {pn x:Int} {sv:SV} {cs ds:List SV} (h0:aO 0 s.store n f cs) (hp:cs.all SV.plain=true) (hs:fy s) (hl:iF s n=true) (hn:n*72≤140737488355328) (lP:bg aF) (hf:bg g) (ht:bg tag) (hv:jW 1 m g sv ds) (hq:ds.all SV.plain=true) (hm:m≤65536) (hx:kU x) (zG:kU pn) (HY:preB s aF=false):
  gy Tryz.prog 38 [Ag (aU s),Ag (gk aF pn x sv tag)] 2 2 (lk [(0,⟨false,cs⟩),(1,⟨false,ds⟩)]) (DP 2 n m s f aF g tag pn x):=by
 have Pu: ∀ {M:Nat→Prop},M 1→SV.ok M sv:=fun h=>by
  rcases hv with ⟨_,rfl⟩ | ⟨o,c,rfl,_⟩
  ·trivial
  ·exact ⟨h,rfl⟩
 refine cW Tryz.func38 rfl (by kernel_rfl) [5,10] [] (by simp[Tryz.ntmps38]) Tryz.nK (by decide) (fun y hy=>by
  simp only[List.mem_cons,List.not_mem_nil,or_false]at hy
  rcases hy with rfl | rfl
  ·exact bR (h0.ok (by decide))
  ·exact oc (Pu (by decide))) lg (oU hp hq) ?_
 have hcs:(decide (s.re > 0)=true∧DJ aF s.rq=false)∨decide (s.re > 0)=false:=by
  rcases Bool.eq_false_or_eq_true (decide (s.re > 0)) with h | h
  ·refine .inl ⟨h, ?_⟩
   have:=HY
   unfold preB at this
   rw[show decide (0 < s.re)=true from h,Bool.true_and]at this
   exact this
  ·exact .inr h
 rcases hcs with ⟨XV,Wk⟩ | XV
 all_goals
  first
   | simp only[Tryz.results38,XV,Wk,uh,Bool.not_true,ia,vL,seval, -List.reduceReplicate]
   | simp only[Tryz.results38,XV,Bool.not_true,ia,vL,seval, -List.reduceReplicate]
  refine (oG (aF:=aF) (pr:=false) h0 hp hl hs hx zG).dP (fun _=>0) (cy (rw:=false) (by simp only[vP,seval, -List.reduceReplicate]) hp) (fW _) (by
   have e:=h0.ren (r:=fun _=>0) rfl
   simp only[List.map_cons,List.map_nil,dW,e,AV.bj dY];rfl) ?_
  cases hst:jX s n false pn x with
  | some i=>
   have hni:kc BinOp.neq true (some (iQ (some i)))=some (some (B true),none):=rfl
   simp only[hni,Bool.not_true,ia,vL,seval, -List.reduceReplicate]
   exact dD (q:=0) (v:= .inr [.inr (dO 0 nC (.inl (.slice none 0 0)) 0 0), .inl (.inl (fA i))]) (by rfl) (.inl ⟨i,by rw[HY];exact hst,rfl,rfl⟩)
  | none=>
   have hni:kc BinOp.neq true (some (iQ none))=some (some (B false),none):=rfl
   have hb:n+(fN s pn - s.nr)+x≤1000:=Vl hl hst
   have Yy:=hs.nr
   simp only[kU]at hx zG Yy
   have he:s.nr≤fN s pn∧fN s pn < 4294967296:=by unfold fN;split<;>(try split)<;>omega
   simp only[hni,Bool.not_true,ia,vL,seval, -List.reduceReplicate]
   refine ⟨by decide, ?_⟩
   simp only[Bool.not_true,ia,vL,seval, -List.reduceReplicate]
   refine mr (t:=0) (rw:=false) (by simp only[vP,seval, -List.reduceReplicate]) hp h0 hn ?_
   intro ZF bx1 hK
   simp only[Bool.not_false,Bool.not_true,ia,vL,seval, -List.reduceReplicate]
   refine (HU (aF:=aF) (pn:=pn) (x:=x) h0 hp).dP (fun _=>0) (cy (rw:=false) (by simp only[vP,seval, -List.reduceReplicate]) hp) rfl (by
    have e:=h0.ren (r:=fun _=>0) rfl
    simp only[List.map_cons,List.map_nil,dW,e,AV.bj dY]) ?_
   simp only[Bool.not_true,ia,vL,seval, -List.reduceReplicate]
   refine pH (t:=34) (p:=35) (x:=s) (sv:=ZF) (m:=(fN s pn - s.nr).toNat) hs.recv (by omega) Yy.1 (by omega) (by omega) (by simp only[vP,seval, -List.reduceReplicate]) hK (by simp only[vP,seval, -List.reduceReplicate]) (by decide) (by decide) (by decide) ?_
   intro WV p2 SQ Up qm
   have hn0: ¬ preB s aF=true:=by rw[HY];decide
   have ed:Ci s aF pn=(ib (fm s (fN s pn - s.nr).toNat) aF):=if_neg hn0
   have en:Kx s n aF pn=n+(fN s pn - s.nr).toNat:=if_neg hn0
   have ef:O8 s n f aF pn=fY n f s:=if_neg hn0
   have ej:(x - (ib (fm s (fN s pn - s.nr).toNat) aF).nr).toNat=x.toNat:=by show (x - 0).toNat=_;rw[Int.sub_zero]
   have eb:ib { fm s (fN s pn - s.nr).toNat with store:=WV } aF={ ib (fm s (fN s pn - s.nr).toNat) aF with store:=WV }:=rfl
   rcases Up with rfl | rfl
   all_goals
    simp only[Bool.not_true,ia,vL,seval, -List.reduceReplicate]
    refine DQ (t:=34) (p:=_) (z:=0) (x:={ fm s (fN s pn - s.nr).toNat with store:=WV }) (rw:=false) (cs:=cs) ((vf hs _).ws WV) lP (by simp only[vP,seval, -List.reduceReplicate]) qm (by simp only[vP,seval, -List.reduceReplicate]) (by simp only[vP,seval, -List.reduceReplicate]) hp (by decide) (by decide) ?_
    simp only[eb,Bool.not_true,ia,vL,seval, -List.reduceReplicate]
    refine pH (t:=34) (p:=_) (x:=ib (fm s (fN s pn - s.nr).toNat) aF) (sv:=WV) (m:=x.toNat) (DN (vf hs _) lP).recv (by show x=0+_;omega) (show (0:Int)≤0 by decide) (by omega) (by omega) (by simp only[vP,seval, -List.reduceReplicate]) qm (by simp only[vP,seval, -List.reduceReplicate]) (by decide) (by decide) (by decide) ?_
    intro sv3 p3 bx3 hp3 hK3
    obtain ⟨qc,k0,r0,o0,b0⟩:=n9 (p:=2) hK3
    have er:(fm (ib (fm s (fN s pn - s.nr).toNat) aF) x.toNat).re=(ib (fm s (fN s pn - s.nr).toNat) aF).re:=(sT _).1
    rcases hp3 with rfl | rfl
    all_goals
     simp only[Bool.not_true,ia,vL,seval, -List.reduceReplicate]
     refine tM (by kernel_rfl) [0,2] [1,3] [] [4,5,6,7,8] [3] [] [52,54,53,55,51,56,57,9,10] ow (by kernel_rfl) (by kernel_rfl) (by kernel_rfl) (by kernel_rfl) (fun t h=>nomatch h) ?_
     simp only[Bool.not_true,ia,vL,seval, -List.reduceReplicate]
     refine pI (t:=34) (p:=_) (z:=0) (x:={ fm (ib (fm s (fN s pn - s.nr).toNat) aF) x.toNat with store:=sv3 }) (rw:=false) (cs:=cs) (ov (DN (vf hs _) lP).recv _) (by simp only[vP,seval, -List.reduceReplicate]) hK3 (by simp only[vP,seval, -List.reduceReplicate]) (by simp only[vP,seval, -List.reduceReplicate]) hp (by decide) (by decide) (by decide) ?_
     simp only[Bool.not_true,ia,vL,seval, -List.reduceReplicate]
     refine kO (td:=1) (rd:=false) (ds:=ds) (f:=g) (kM _ _) lP hf ht (by simp only[vP,seval, -List.reduceReplicate]) hv hq hm ?_ ?_
     ·intro ho
      simp only[ui,ow,eO,eu,Bool.not_true,ia,vL,seval, -List.reduceReplicate]
      refine ⟨⟨?_, ?_⟩, ?_⟩
      all_goals
       refine .inl ?_
       simp only[eO,eu,Bool.not_true,ia,vL,seval, -List.reduceReplicate]
       refine ⟨by kernel_rfl, ?_⟩
       exact xl (st:=kP (fm (ib (fm s (fN s pn - s.nr).toNat) aF) x.toNat)) (q:=_) (p:=_) (qc:=qc) (bx:=bx3) (ds:=ah .u8 m (cx (lN (fm (ib (fm s (fN s pn - s.nr).toNat) aF) x.toNat).recv 1) g)) (by decide) (by decide) (by decide) (by simp only[eO,vP,seval, -List.reduceReplicate]) az (by simp only[eO,vP,seval, -List.reduceReplicate]) r0 o0 b0
        (.inr ⟨by rw[HY];exact hst, .inr ⟨by rw[ed,ej];exact ho,qc,bx3,by rw[ed,en,ef,ej];exact k0,by rw[ed,ej, ← er];rfl,by rw[ed,ej]⟩⟩)
     ·intro ho
      have SR:kc BinOp.neq true (some (Sum.inl (Sum.inl (Sum.inl (fA 5)))))=some (some (B true),none):=rfl
      simp only[ot,SR,ow,eO,eu,Bool.not_true,ia,vL,seval, -List.reduceReplicate]
      refine ⟨⟨?_, ?_⟩, ?_⟩
      all_goals
       exact dD (q:=0) (v:= .inr [.inr (dO 0 nC (.inl (.slice none 0 0)) 0 0), .inl (.inl (fA 5))]) (by rfl) (.inr ⟨by rw[HY];exact hst, .inl ⟨by rw[ed,ej];exact ho,rfl,rfl⟩⟩)
theorem O9 {s:St} {n m:Nat} {f:Nat→En} {aF g tag:Nat→Int} {pn x:Int} {sv:SV} {cs ds:List SV} (h0:aO 0 s.store n f cs) (hp:cs.all SV.plain=true) (hs:fy s) (hl:iF s n=true) (hn:n*72≤140737488355328) (lP:bg aF) (hf:bg g) (ht:bg tag) (hv:jW 1 m g sv ds) (hq:ds.all SV.plain=true) (hm:m≤65536) (hx:kU x) (zG:kU pn):
  gy Tryz.prog 38 [Ag (aU s),Ag (gk aF pn x sv tag)] 2 2 (lk [(0,⟨false,cs⟩),(1,⟨false,ds⟩)]) (DP 2 n m s f aF g tag pn x):=by
 rcases Bool.eq_false_or_eq_true (preB s aF) with h | h
 ·exact HX h0 hp hs hl hn lP hf ht hv hq hm hx zG h
 ·exact Ky h0 hp hs hl hn lP hf ht hv hq hm hx zG h
structure HZ where
 y:Int
 x:St
 ep:Int
 nn:Int
 n:Nat
 m:Nat
 F:Nat→En
 G:Nat→Int
def jr (q n:Nat) (f:Nat→En) (sv:SV) (bx:Option aI):Prop:=
 (n=0∧sv= .inl (.slice none 0 0)∧bx=none)∨ ∃ c cs,sv= .inr (.inr (q,0,n,c))∧cF cs 0 n c f∧bx=some ⟨true,cs⟩
def kG (q m:Nat) (G:Nat→Int) (o:SV) (bx:Option aI):Prop:=
 (m=0∧o= .inl (.slice none 0 0)∧bx=none)∨ ∃ c cs,o= .inr (.inr (q,0,m,c))∧bV cs 0 m c G∧bx=some ⟨true,cs⟩
def H2 (k:Nat) (A:HZ) (v:AV) (out:Nat→Option aI):Prop:=
 ∃ sv o,v=Ag (dO A.y { A.x with store:=sv } o A.ep A.nn)∧jr k A.n A.F sv (out k)∧kG (k+1) A.m A.G o (out (k+1))
def zw (k:Nat) (E:Option Nat) (A:HZ) (v:AV) (out:Nat→Option aI):Prop:=
 (∃ i,E=some i∧v= .inr [.inr (dO 0 nC (.inl (.slice none 0 0)) 0 0), .inl (.inl (fA i))]∧out=fun _=>none)∨
 (E=none∧ ∃ sv o,v= .inr [.inr (dO 0 { A.x with store:=sv } o A.ep A.nn), .inl (.inl .nilIface)]∧jr k A.n A.F sv (out k)∧kG (k+1) A.m A.G o (out (k+1)))
theorem Kz {q n:Nat} {f:Nat→En} {sv:SV} {bx:Option aI} (h:fK q n f sv bx):jr q n f sv bx:=by
 rcases h with h | ⟨_,c,cs,h⟩
 ·exact .inl h
 ·exact .inr ⟨c,cs,h⟩
theorem Cj {p q n:Nat} {f:Nat→En} {sv:SV} {bx:Option aI} {r:Nat→Nat} (h:jr p n f sv bx) (hr:r p=q):jr q n f (SV.ren r sv) (bx.map (aI.ren r)):=by
 rcases h with ⟨h0,rfl,rfl⟩ | ⟨c,cs,rfl,hg,rfl⟩
 ·exact .inl ⟨h0,rfl,rfl⟩
 ·exact .inr ⟨c,cs,by simp only[SV.ren,hr],hg,cG hg.plain⟩
theorem Ck {p q m:Nat} {G:Nat→Int} {o:SV} {bx:Option aI} {r:Nat→Nat} (h:kG p m G o bx) (hr:r p=q):kG q m G (SV.ren r o) (bx.map (aI.ren r)):=by
 rcases h with ⟨h0,rfl,rfl⟩ | ⟨c,cs,rfl,hg,rfl⟩
 ·exact .inl ⟨h0,rfl,rfl⟩
 ·exact .inr ⟨c,cs,by simp only[SV.ren,hr],hg,cG hg.plain⟩
theorem KA {p q n:Nat} {f:Nat→En} {sv:SV} {bx:Option aI} (h:jr q n f sv bx): ∃ a,jr p n f a bx∧(∀ r:Nat→Nat,r p=q→SV.ren r a=sv)∧(∀ M:Nat→Prop,M p→SV.ok M a)∧ ∀ b,bx=some b→b.rw=true∧b.cells.all SV.plain=true:=by
 rcases h with ⟨h0,rfl,rfl⟩ | ⟨c,cs,rfl,hg,rfl⟩
 ·exact ⟨_, .inl ⟨h0,rfl,rfl⟩,fun r hr=>rfl,fun M hM=>SV.aM rfl,fun b hb=>(by cases hb)⟩
 ·exact ⟨.inr (.inr (p,0,n,c)), .inr ⟨c,cs,rfl,hg,rfl⟩,fun r hr=>by simp only[SV.ren,hr],fun M hM=>⟨hM,rfl⟩,fun b hb=>by cases hb;exact ⟨rfl,hg.plain⟩⟩
theorem KB {p q m:Nat} {G:Nat→Int} {o:SV} {bx:Option aI} (h:kG q m G o bx): ∃ a,kG p m G a bx∧(∀ r:Nat→Nat,r p=q→SV.ren r a=o)∧(∀ M:Nat→Prop,M p→SV.ok M a)∧ ∀ b,bx=some b→b.rw=true∧b.cells.all SV.plain=true:=by
 rcases h with ⟨h0,rfl,rfl⟩ | ⟨c,cs,rfl,hg,rfl⟩
 ·exact ⟨_, .inl ⟨h0,rfl,rfl⟩,fun r hr=>rfl,fun M hM=>SV.aM rfl,fun b hb=>(by cases hb)⟩
 ·exact ⟨.inr (.inr (p,0,m,c)), .inr ⟨c,cs,rfl,hg,rfl⟩,fun r hr=>by simp only[SV.ren,hr],fun M hM=>⟨hM,rfl⟩,fun b hb=>by cases hb;exact ⟨rfl,hg.plain⟩⟩
theorem Cl {m:Nat} {G:Nat→Int}:bV (ah .u8 m G) 0 m m G:=⟨by rw[af];omega,Nat.le_refl m,az,bN⟩
theorem SS {s:AS} {k q q' n m:Nat} {f:Nat→En} {G:Nat→Int} {sv o:SV} {bx bo:Option aI} {Post:AV→(Nat→Option aI)→Prop} (mk:SV→SV→AV) (J0: ∀ r a b,AV.ren r (mk a b)=mk (SV.ren r a) (SV.ren r b)) (hok: ∀ (M:Nat→Prop) a b,SV.ok M a→SV.ok M b→AV.ok M (mk a b))
  (hS:jr q n f sv bx) (hO:kG q' m G o bo) (hq:k≤q) (Yz:k≤q') (hne:q≠q') (hb:s.box q=bx) (hb':s.box q'=bo)
  (h: ∀ a b out,jr k n f a (out k)→kG (k+1) m G b (out (k+1))→Post (mk a b) out):tK k 2 Post (mk sv o) s:=by
 obtain ⟨a,ha,ra,oa,xa⟩:=KA (p:=k) hS
 obtain ⟨b,hb1,rb,ob,xb⟩:=KB (p:=k+1) hO
 have r0:eM k (fun j=>if j=0 then q else q') k=q:=by unfold eM;rw[if_neg (by omega)];exact if_pos (by omega)
 have r1:eM k (fun j=>if j=0 then q else q') (k+1)=q':=by unfold eM;rw[if_neg (by omega)];exact if_neg (by omega)
 refine ⟨fun j=>if j=0 then q else q',mk a b,fun j=>if j=k then bx else if j=k+1 then bo else none,fun j hj=>by (dsimp only;split)<;>assumption,fun i j hi hj e=> ?_, ?_,hok _ _ _ (oa _ (by omega)) (ob _ (by omega)),fun m b hm=> ?_,h a b _ (by rw[if_pos rfl];exact ha) (by rw[if_neg (by omega),if_pos rfl];exact hb1)⟩
 ·dsimp only at e
  split at e<;>split at e
  ·omega
  ·exact absurd e hne
  ·exact absurd e.symm hne
  ·omega
 ·rw[J0,ra _ r0,rb _ r1]
 ·dsimp only at hm
  split at hm
  ·rename_i e;subst e
   obtain ⟨h1,h2⟩:=xa b hm
   exact ⟨by omega,fun _=>h1,aD h2,b,by rw[r0,hb,hm],fun h=>h,(aN h2 _).symm⟩
  ·split at hm
   ·rename_i _ e;subst e
    obtain ⟨h1,h2⟩:=xb b hm
    exact ⟨by omega,fun _=>h1,aD h2,b,by rw[r1,hb',hm],fun h=>h,(aN h2 _).symm⟩
   ·cases hm
def YA (nm:Nat) (A:HZ) (dst:Option Nat) (K:AS→Prop) (s:AS):Prop:=
 ∀ sv bx o bo,jr nm A.n A.F sv bx→kG (nm+1) A.m A.G o bo→K ((⟨s.env,upd (upd s.box nm bx) (nm+1) bo,s.next⟩:AS).put dst (some (Ag (dO A.y { A.x with store:=sv } o A.ep A.nn))))
theorem Cm {s:AS} {nm fn:Nat} {A:HZ} {args l:List AV} {ins:Nat→Option aI} {Post:AV→(Nat→Option aI)→Prop} {k:Nat} (h:gy Tryz.prog fn args k 2 ins Post) (hP: ∀ v out,Post v out→H2 k A v out) (r:Nat→Nat) (hfit:Fits s r ins none) (hl:l=args.map (AV.ren r)) {dst:Option Nat} {K:AS→Prop}
  (hk:YA nm A dst K s):bw Tryz.prog nm fn (some l) dst K s:=by
 refine h.aB r none hfit hl fun v out hv=> ?_
 obtain ⟨sv,o,rfl,hS,hO⟩:=hP v out hv
 rw[mS,nW]
 exact hk _ _ _ _ (Cj hS fU) (Ck hO pb)
theorem Cn {r:Nat→Nat} {x:St} {v o:SV} {ep nn:Int} {e:SV} (he:SV.plain e=true):AV.ren r (.inr [.inr (dO 0 { x with store:=v } o ep nn), .inl e])= .inr [.inr (dO 0 { x with store:=SV.ren r v } (SV.ren r o) ep nn), .inl e]:=by
 show (Sum.inr [Sum.inr ((dO 0 { x with store:=v } o ep nn).map (SV.ren r)), .inl (SV.ren r e)]:AV)=_
 rw[JZ,SV.bj he]
theorem SU {M:Nat→Prop} {x:St} {v o:SV} {ep nn:Int} {e:SV} (he:SV.plain e=true) (h1:SV.ok M v) (h2:SV.ok M o):AV.ok M (.inr [.inr (dO 0 { x with store:=v } o ep nn), .inl e]):=fun y hy=>by
 simp only[List.mem_cons,List.not_mem_nil,or_false]at hy
 rcases hy with rfl | rfl
 ·exact B1 h1 h2
 ·exact (SV.aM (M:=M) he).1
theorem H3 {s:AS} {k q q':Nat} {E:Option Nat} {A:HZ} {sv o:SV} {bx bo:Option aI} (hE:E=none) (hS:jr q A.n A.F sv bx) (hO:kG q' A.m A.G o bo) (hq:k≤q) (Yz:k≤q') (hne:q≠q') (hb:s.box q=bx) (hb':s.box q'=bo):
  tK k 2 (zw k E A) (.inr [.inr (dO 0 { A.x with store:=sv } o A.ep A.nn), .inl (.inl .nilIface)]) s:=
 SS (fun a b=> .inr [.inr (dO 0 { A.x with store:=a } b A.ep A.nn), .inl (.inl .nilIface)]) (fun r a b=>Cn rfl) (fun M a b h1 h2=>SU rfl h1 h2) hS hO hq Yz hne hb hb' (fun a b out h1 h2=> .inr ⟨hE,a,b,rfl,h1,h2⟩)
theorem H4 {s:AS} {k q q':Nat} {A:HZ} {sv o:SV} {bx bo:Option aI} (hS:jr q A.n A.F sv bx) (hO:kG q' A.m A.G o bo) (hq:k≤q) (Yz:k≤q') (hne:q≠q') (hb:s.box q=bx) (hb':s.box q'=bo):
  tK k 2 (H2 k A) (Ag (dO A.y { A.x with store:=sv } o A.ep A.nn)) s:=
 SS (fun a b=>Ag (dO A.y { A.x with store:=a } b A.ep A.nn)) (fun r a b=>nW) (fun M a b h1 h2=>B1 h1 h2) hS hO hq Yz hne hb hb' (fun a b out h1 h2=>⟨a,b,rfl,h1,h2⟩)
theorem vg {s:AS} {nm fn:Nat} {E:Option Nat} {A:HZ} {args l:List AV} {ins:Nat→Option aI} {Post:AV→(Nat→Option aI)→Prop} {k:Nat} (h:gy Tryz.prog fn args k 2 ins Post) (hP: ∀ v out,Post v out→zw k E A v out) (r:Nat→Nat) (hfit:Fits s r ins none) (hl:l=args.map (AV.ren r)) {dst:Option Nat} {K:AS→Prop}
  (h0: ∀ i,E=some i→K ((⟨s.env,upd (upd s.box nm none) (nm+1) none,s.next⟩:AS).put dst (some (.inr [.inr (dO 0 nC (.inl (.slice none 0 0)) 0 0), .inl (.inl (fA i))]))))
  (hk:E=none→ ∀ sv bx o bo,jr nm A.n A.F sv bx→kG (nm+1) A.m A.G o bo→K ((⟨s.env,upd (upd s.box nm bx) (nm+1) bo,s.next⟩:AS).put dst (some (.inr [.inr (dO 0 { A.x with store:=sv } o A.ep A.nn), .inl (.inl .nilIface)])))):bw Tryz.prog nm fn (some l) dst K s:=by
 refine h.aB r none hfit hl fun v out hv=> ?_
 rcases hP v out hv with ⟨i,hE,rfl,rfl⟩ | ⟨hE,sv,o,rfl,hS,hO⟩
 ·rw[mS,AV.bj (by rfl)]
  exact h0 i hE
 ·rw[mS,Cn rfl]
  exact hk hE _ _ _ _ (Cj hS fU) (Ck hO pb)
def KC (n:Nat) (f:Nat→Int):Prop:=77≤n∧n≤65613∧f 0=210∧ko f 41=((n - 77:Nat):Int)
theorem Na {a b:SV}:splice [a] 0 [b]=[b]:=rfl
theorem zx {o n c:Nat} {f:Nat→Int} {cs:List SV} (hf:bg f) (hs:br cs o n f) (hp:cs.all SV.plain=true) (hc:n≤c) (hn:n < 140737488355328) (b:Bool) (hb:b=true↔KC n f):
  bz Tryz.prog 59 [Sl 0 o n c] 1 (lk [(0,⟨false,cs⟩)]) (fun v out=>v=B b∧out=fun _=>none):=by
 refine aA Tryz.func59 rfl (by kernel_rfl) (by simp[Tryz.ntmps59]) Tryz.rX (by simp[AV.ok,CV.ok,SV.names]) eH (eL hp) ?_
 have zV: ∀ {M:Nat→Prop},(∀ x ∈ cs,SV.ok M x)=True:=eq_true (aD hp)
 by_cases h1:n < 77
 ·have d1:decide ((n:Int) < 77)=true:=decide_eq_true (by omega)
  have:b=false:=by cases b with
   | false=>rfl
   | true=>exact absurd (hb.1 rfl).1 (by omega)
  subst this
  simp only[Tryz.results59,d1,vR,seval, -List.reduceReplicate]
  exact ao rfl ⟨rfl,rfl⟩
 have d1:decide ((n:Int) < 77)=false:=decide_eq_false (by omega)
 by_cases h2:65613 < n
 ·have d2:decide (65613 < (n:Int))=true:=decide_eq_true (by omega)
  have:b=false:=by cases b with
   | false=>rfl
   | true=>exact absurd (hb.1 rfl).2.1 (by omega)
  subst this
  simp only[Tryz.results59,d1,d2,vR,seval, -List.reduceReplicate]
  exact ao rfl ⟨rfl,rfl⟩
 have d2:decide (65613 < (n:Int))=false:=decide_eq_false (by omega)
 have a0:=hs 0 (by omega)
 rw[Nat.add_zero]at a0
 have l0:((0:Int) < (n:Int))=True:=eq_true (by omega)
 have l41:((41:Int)≤(n:Int))=True:=eq_true (by omega)
 have l42:((n:Int)≤(c:Int))=True:=eq_true (by omega)
 by_cases h3:f 0=210
 rotate_left 1
 ·have d3:(f 0 != 210)=true:=by simpa using h3
  have:b=false:=by cases b with
   | false=>rfl
   | true=>exact absurd (hb.1 rfl).2.2.1 h3
  subst this
  simp only[Tryz.results59,d1,d2,d3,l0,a0,vR,seval, -List.reduceReplicate]
  exact ao rfl ⟨rfl,rfl⟩
 ·have d3:(f 0 != 210)=false:=by simpa using h3
  simp only[Tryz.results59,d1,d2,d3,l0,l41,l42,Na,a0,vR,seval, -List.reduceReplicate]
  have hs':=jK (m:=41) hs (by omega) hc
  have hf':bg (fun i=>f (41+i)):=fun i=>hf _
  refine j4 (MR (o:=XG o 41 c) (n:=n - 41) (c:=c - 41) hf' hs' hp (by omega) (by omega)) (t:=19) (u:=0) (rw:=false) (by simp only[ae,vR,seval, -List.reduceReplicate];rfl) (by simp only[ae,vR,seval, -List.reduceReplicate]) hp (by decide) rfl (y:=I .u32 (ko (fun i=>f (41+i)) 0)) rfl ?_
  have e:ko (fun i=>f (41+i)) 0=ko f 41:=rfl
  have w1:IntKind.i64.wrap ((n:Int) - 77)=((n - 77:Nat):Int):=by rw[wrap_i64 _ (by omega) (by omega)];omega
  have w2:IntKind.u32.wrap ((n - 77:Nat):Int)=((n - 77:Nat):Int):=iJ _ (by omega) (by omega)
  simp only[e,w1,w2,vR,seval, -List.reduceReplicate]
  have eb:(ko f 41==((n - 77:Nat):Int))=b:=by
   rw[Bool.eq_iff_iff,hb]
   simp only[KC,beq_iff_eq]
   exact ⟨fun h=>⟨by omega,by omega,h3,h⟩,fun h=>h.2.2.2⟩
  rw[eb]
  exact ao rfl ⟨rfl,rfl⟩
def SW (k m:Nat) (f:Nat→Int) (v:AV) (out:Nat→Option aI):Prop:=
 (m=0∧v=Ag (gk (fun i=>f (1+i)) (ko f 33) (ko f 37) (Sum.inl (.slice none 0 0)) (fun i=>f (45+m+i)))∧out=fun _=>none)∨
 ∃ c tail,0 < m∧v=Ag (gk (fun i=>f (1+i)) (ko f 33) (ko f 37) (Sum.inr (.inr (k,0,m,c))) (fun i=>f (45+m+i)))∧out=lk [(k,⟨true,ah .u8 m (fun i=>f (45+i))++tail⟩)]∧m≤c∧tail.length=c - m∧tail.all SV.plain=true
theorem YB {s:AS} {k q m c:Nat} {aF tag:Nat→Int} {a b:Int} {cs:List SV} (hq:k≤q) (hb:s.box q=some ⟨true,cs⟩) (hp:cs.all SV.plain=true):
  sV k (fun v out=>v=Ag (gk aF a b (Sum.inr (.inr (k,0,m,c))) tag)∧out=lk [(k,⟨true,cs⟩)]) (Ag (gk aF a b (Sum.inr (.inr (q,0,m,c))) tag)) s:=by
 refine ⟨q,Ag (gk aF a b (Sum.inr (.inr (k,0,m,c))) tag),lk [(k,⟨true,cs⟩)],hq, ?_,oc ⟨Nat.lt_succ_self k,rfl⟩,fun m b hm=> ?_,rfl,rfl⟩
 ·rw[og]
  show _=Ag (gk aF a b (Sum.inr (.inr (lM k q k,0,m,c))) tag)
  rw[kD]
 ·simp only[lk]at hm
  split at hm
  ·rename_i e
   simp only[Option.some.injEq]at hm;subst e hm
   exact ⟨Nat.lt_succ_self m,fun _=>rfl,aD hp,_,by rw[kD];exact hb,fun _=>rfl,(aN hp _).symm⟩
  ·cases hm
theorem ma {aF tag:Nat→Int} {a b:Int}:AV.plain (Ag (gk aF a b (Sum.inl (.slice none 0 0)) tag))=true:=by
 have:=uY (aF:=aF) (pn:=a) (n:=b) (tag:=tag) (sv:=Sum.inl (.slice none 0 0)) rfl
 simpa[AV.plain,CV.plain] using this
def Nb:aT:=
 let e:aT:= .cons 3 (.cons 4 .nil .nil) .nil
 .cons 0 (.cons 1 (.cons 2 e .nil) (.cons 2 (.cons 1 e .nil) .nil)) (.cons 1 (.cons 0 (.cons 2 e .nil) (.cons 2 (.cons 0 e .nil) .nil)) (.cons 2 (.cons 0 (.cons 1 e .nil) (.cons 1 (.cons 0 e .nil) .nil)) .nil))
theorem H5 {o n c:Nat} {f:Nat→Int} {cs:List SV} (hf:bg f) (hs:br cs o n f) (hp:cs.all SV.plain=true) (hc:n≤c) (hn:n < 140737488355328) (hfr:KC n f):
  bz Tryz.prog 60 [Sl 0 o n c] 1 (lk [(0,⟨false,cs⟩)]) (SW 1 (n - 77) f):=by
 refine FN Tryz.func60 rfl (by kernel_rfl) (by simp[Tryz.ntmps60]) Tryz.rY (by simp[AV.ok,CV.ok,SV.names]) eH (eL hp) ?_
 have zV: ∀ {M:Nat→Prop},(∀ x ∈ cs,SV.ok M x)=True:=eq_true (aD hp)
 obtain ⟨h77,h65,aeT,hlen⟩:=hfr
 have l41:((1:Int)≤(n:Int))=True:=eq_true (by omega)
 have l42:((n:Int)≤(c:Int))=True:=eq_true (by omega)
 have TM:=jK (m:=1) hs (by omega) hc
 have VW:=jK (c:=c - 1) (m:=32) TM (by omega) (by omega)
 have hs3:=jK (c:=c - 1 - 32) (m:=4) VW (by omega) (by omega)
 have hs4:=jK (c:=c - 1 - 32 - 4) (m:=4) hs3 (by omega) (by omega)
 have hs5:=jK (c:=c - 1 - 32 - 4 - 4) (m:=4) hs4 (by omega) (by omega)
 have hs5:br cs _ _ (fun i=>f (45+i)):=kl hs5 fun i hi=>congrArg f (by omega)
 have hs6:=jK (c:=c - 1 - 32 - 4 - 4 - 4) (m:=n - 77) hs5 (by omega) (by omega)
 have hs6:br cs _ _ (fun i=>f (45+(n - 77)+i)):=kl hs6 fun i hi=>congrArg f (by omega)
 simp only[Tryz.results60,l41,l42,Na,dC,eu,vR,seval, -List.reduceReplicate]
 refine ⟨by kernel_rfl, ?_⟩
 refine j4 (Sg (c:=c - 1) TM hp (by omega) (by omega)) (t:=5) (u:=0) (rw:=false) (by simp only[ae,vR,seval, -List.reduceReplicate];rfl) (by simp only[ae,vR,seval, -List.reduceReplicate]) hp (by decide) rfl (y:=Ag (ah .u8 32 (fun i=>f (1+i)))) rfl ?_
 simp only[vR,seval, -List.reduceReplicate]
 refine j4 (MR (c:=c - 1 - 32) (fun i=>hf _) VW hp (by omega) (by omega)) (t:=5) (u:=0) (rw:=false) (by simp only[ae,vR,seval, -List.reduceReplicate]) (by simp only[ae,vR,seval, -List.reduceReplicate]) hp (by decide) rfl (y:=I .u32 (ko f 33)) rfl ?_
 simp only[vR,seval, -List.reduceReplicate]
 refine j4 (MR (c:=c - 1 - 32 - 4) (fun i=>hf _) hs3 hp (by omega) (by omega)) (t:=5) (u:=0) (rw:=false) (by simp only[ae,vR,seval, -List.reduceReplicate]) (by simp only[ae,vR,seval, -List.reduceReplicate]) hp (by decide) rfl (y:=I .u32 (ko f 37)) rfl ?_
 simp only[gQ,eQ,Sj,Sk,Sm,Sn,l8,lH,vR,seval, -List.reduceReplicate]
 refine ⟨by kernel_rfl, ?_⟩
 refine j4 (MR (c:=c - 1 - 32 - 4 - 4) (fun i=>hf _) hs4 hp (by omega) (by omega)) (t:=5) (u:=0) (rw:=false) (by simp only[ae,vR,seval, -List.reduceReplicate]) (by simp only[ae,vR,seval, -List.reduceReplicate]) hp (by decide) rfl (y:=I .u32 (ko f 41)) rfl ?_
 have w1:IntKind.i64.wrap ((n - 77:Nat):Int)=((n - 77:Nat):Int):=LR _ (by omega)
 simp only[hlen,w1,vR,seval, -List.reduceReplicate]
 refine Je (U5 (c:=c - 1 - 32 - 4 - 4 - 4) (m:=n - 77) hs5 hp (by omega) (by omega) (by omega)) (t:=5) (u:=0) (rw:=false) (by simp only[ae,vR,seval, -List.reduceReplicate]) (by simp only[ae,vR,seval, -List.reduceReplicate]) hp (by decide) rfl (fun h0=> ?_) (fun h0 q cs' hg=> ?_)
 ·simp only[vR,seval, -List.reduceReplicate]
  refine .inr ⟨Tryz.mixed,Nb,by kernel_rfl, ?_⟩
  simp only[Nb,lH,l8,eu,vR,seval, -List.reduceReplicate]
  refine ⟨⟨?_, ?_⟩,⟨?_, ?_⟩, ?_⟩
  all_goals
   refine j4 (Sg (c:=c - 1 - 32 - 4 - 4 - 4 - (n - 77)) hs6 hp (by omega) (by omega)) (t:=5) (u:=0) (rw:=false) (by simp only[ae,vR,seval, -List.reduceReplicate]) (by simp only[ae,vR,seval, -List.reduceReplicate]) hp (by decide) rfl (y:=Ag (ah .u8 32 (fun i=>f (45+(n - 77)+i)))) rfl ?_
   simp only[lH,l8,cH,gY,MW,MX,MY,ub,iB,eu,vR,seval, -List.reduceReplicate]
  all_goals first
   | exact ao (ma) (.inl ⟨h0,rfl,rfl⟩)
   | exact ⟨ao (ma) (.inl ⟨h0,rfl,rfl⟩),ao (ma) (.inl ⟨h0,rfl,rfl⟩)⟩
 ·obtain ⟨c2,tail,h1,h2,h3,h4,h5⟩:=hg.made (k:=1)
  have hc:q=c2:=by cases h1;rfl
  subst hc
  have ke:ah .u8 (n - 77) (fun i=>f (45+i))++tail=cs':=by
   have:=congrFun h2 1
   simpa[lk] using this.symm
  have fin: ∀ s:AS,s.box 15=some ⟨true,cs'⟩→sV 1 (SW 1 (n - 77) f) (Ag (gk (fun i=>f (1+i)) (ko f 33) (ko f 37) (Sum.inr (.inr (15,0,n - 77,q))) (fun i=>f (45+(n - 77)+i)))) s:=fun s hs=>
   uI (YB (k:=1) (by decide) hs hg.plain) (fun v out h=> .inr ⟨q,tail,h0,h.1,by rw[h.2,ke],h3,h4,h5⟩)
  simp only[vR,seval, -List.reduceReplicate]
  refine .inr ⟨Tryz.mixed,Nb,by kernel_rfl, ?_⟩
  simp only[Nb,lH,l8,eu,vR,seval, -List.reduceReplicate]
  refine ⟨⟨?_, ?_⟩,⟨?_, ?_⟩, ?_⟩
  all_goals
   refine j4 (Sg (c:=c - 1 - 32 - 4 - 4 - 4 - (n - 77)) hs6 hp (by omega) (by omega)) (t:=5) (u:=0) (rw:=false) (by simp only[ae,vR,seval, -List.reduceReplicate]) (by simp only[ae,vR,seval, -List.reduceReplicate]) hp (by decide) rfl (y:=Ag (ah .u8 32 (fun i=>f (45+(n - 77)+i)))) rfl ?_
   simp only[lH,l8,cH,gY,MW,MX,MY,ub,iB,eu,vR,seval, -List.reduceReplicate]
  all_goals first
   | exact fin _ rfl
   | exact ⟨fin _ rfl,fin _ rfl⟩
theorem KD {s:AS} {nm fn t m:Nat} {f:Nat→Int} {args l:List AV} {cs:List SV} {rw:Bool} (h:bz Tryz.prog fn args 1 (lk [(0,⟨false,cs⟩)]) (SW 1 m f)) (hb:s.box t=some ⟨rw,cs⟩) (hp:cs.all SV.plain=true) (hl:l=args.map (AV.ren fun _=>t)) {dst:Option Nat} {K:AS→Prop}
  (h0:m=0→K (s.put dst (some (Ag (gk (fun i=>f (1+i)) (ko f 33) (ko f 37) (Sum.inl (.slice none 0 0)) (fun i=>f (45+m+i)))))))
  (hk:0 < m→ ∀ q cs',bV cs' 0 m q (fun i=>f (45+i))→K ((⟨s.env,upd s.box nm (some ⟨true,cs'⟩),s.next⟩:AS).put dst (some (Ag (gk (fun i=>f (1+i)) (ko f 33) (ko f 37) (rd nm 0 m q) (fun i=>f (45+m+i))))))):
  aB Tryz.prog nm fn (some l) dst K s:=by
 refine h.aB (fun _=>t) none (cy hb hp) hl ?_
 rintro v out (⟨e,rfl,rfl⟩ | ⟨q,tail,hm,rfl,rfl,h1,h2,h3⟩) _
 ·rw[AV.bj ma];exact h0 e
 ·rw[km (fR h3),og]
  have e:SV.ren (dy (fun _=>t) 1 nm) (Sum.inr (.inr (1,0,m,q)))=rd nm 0 m q:=by show rd (dy (fun _=>t) 1 nm 1) 0 m q=_;rw[kt]
  rw[e]
  exact hk hm q _ (bV.row h1 h2 h3)
def H6:AV:= .inr [.inr (gk (fun _=>0) 0 0 (Sum.inl (.slice none 0 0)) (fun _=>0)), .inl (.inl (.bool false))]
theorem wE:AV.plain H6=true:=by
 have:=uY (aF:=fun _=>0) (pn:=0) (n:=0) (tag:=fun _=>0) (sv:=Sum.inl (.slice none 0 0)) rfl
 simpa[H6,AV.plain,CV.plain,SV.plain] using this
theorem KE {o n c:Nat} {f:Nat→Int} {cs:List SV} (hf:bg f) (hs:br cs o n f) (hp:cs.all SV.plain=true) (hc:n≤c) (hn:n < 140737488355328) (hfr: ¬ KC n f):
  bz Tryz.prog 35 [Sl 0 o n c] 1 (lk [(0,⟨false,cs⟩)]) (fun v out=>v=H6∧out=fun _=>none):=by
 refine aA Tryz.func35 rfl (by kernel_rfl) (by simp[Tryz.ntmps35]) Tryz.nJ (by simp[AV.ok,CV.ok,SV.names]) eH (eL hp) ?_
 simp only[Tryz.results35,dC,cH,gY,ub,iB,vR,seval, -List.reduceReplicate]
 refine ⟨by kernel_rfl, ?_⟩
 refine (zx hf hs hp hc hn false (by simp[hfr])).dP (fun _=>0) (cy (rw:=false) (by simp only[ae,vR,seval, -List.reduceReplicate]) hp) rfl rfl ?_
 simp only[Bool.not_false,dC,cH,gY,ub,iB,vR,seval, -List.reduceReplicate]
 exact ao wE ⟨rfl,rfl⟩
def adB (k m:Nat) (f:Nat→Int) (v:AV) (out:Nat→Option aI):Prop:=
 ∃ sv,v= .inr [.inr (gk (fun i=>f (1+i)) (ko f 33) (ko f 37) sv (fun i=>f (45+m+i))), .inl (.inl (.bool true))]∧
  ((m=0∧sv=Sum.inl (.slice none 0 0)∧out=fun _=>none)∨
   ∃ c tail,0 < m∧sv=Sum.inr (.inr (k,0,m,c))∧out=lk [(k,⟨true,ah .u8 m (fun i=>f (45+i))++tail⟩)]∧m≤c∧tail.length=c - m∧tail.all SV.plain=true)
theorem Vm {s:AS} {k q m c:Nat} {aF tag:Nat→Int} {a b:Int} {cs:List SV} (hq:k≤q) (hb:s.box q=some ⟨true,cs⟩) (hp:cs.all SV.plain=true):
  sV k (fun v out=>v= .inr [.inr (gk aF a b (Sum.inr (.inr (k,0,m,c))) tag), .inl (.inl (.bool true))]∧out=lk [(k,⟨true,cs⟩)]) (.inr [.inr (gk aF a b (Sum.inr (.inr (q,0,m,c))) tag), .inl (.inl (.bool true))]) s:=by
 refine ⟨q, .inr [.inr (gk aF a b (Sum.inr (.inr (k,0,m,c))) tag), .inl (.inl (.bool true))],lk [(k,⟨true,cs⟩)],hq, ?_, ?_,fun m b hm=> ?_,rfl,rfl⟩
 ·have e:SV.ren (lM k q) (Sum.inr (.inr (k,0,m,c)))=Sum.inr (.inr (q,0,m,c)):=by
   show (Sum.inr (.inr (lM k q k,0,m,c)):SV)=_
   rw[kD]
  simp only[AV.ren,List.map_cons,List.map_nil,CV.ren,DB,e];rfl
 ·intro x hx
  simp only[List.mem_cons,List.not_mem_nil,or_false]at hx
  rcases hx with rfl | rfl
  ·exact oc ⟨Nat.lt_succ_self k,rfl⟩
  ·trivial
 ·simp only[lk]at hm
  split at hm
  ·rename_i e
   simp only[Option.some.injEq]at hm;subst e hm
   exact ⟨Nat.lt_succ_self m,fun _=>rfl,aD hp,_,by rw[kD];exact hb,fun _=>rfl,(aN hp _).symm⟩
  ·cases hm
theorem wF {aF tag:Nat→Int} {a b:Int}:AV.plain (.inr [.inr (gk aF a b (Sum.inl (.slice none 0 0)) tag), .inl (.inl (.bool true))])=true:=by
 have:=uY (aF:=aF) (pn:=a) (n:=b) (tag:=tag) (sv:=Sum.inl (.slice none 0 0)) rfl
 simpa[AV.plain,CV.plain,SV.plain] using this
theorem H7 {o n c:Nat} {f:Nat→Int} {cs:List SV} (hf:bg f) (hs:br cs o n f) (hp:cs.all SV.plain=true) (hc:n≤c) (hn:n < 140737488355328) (hfr:KC n f):
  bz Tryz.prog 35 [Sl 0 o n c] 1 (lk [(0,⟨false,cs⟩)]) (adB 1 (n - 77) f):=by
 refine aA Tryz.func35 rfl (by kernel_rfl) (by simp[Tryz.ntmps35]) Tryz.nJ (by simp[AV.ok,CV.ok,SV.names]) eH (eL hp) ?_
 simp only[Tryz.results35,dC,cH,gY,ub,iB,vR,seval, -List.reduceReplicate]
 refine ⟨by kernel_rfl, ?_⟩
 refine (zx hf hs hp hc hn true (by simp[hfr])).dP (fun _=>0) (cy (rw:=false) (by simp only[ae,vR,seval, -List.reduceReplicate]) hp) rfl rfl ?_
 simp only[Bool.not_true,vR,seval, -List.reduceReplicate]
 refine KD (t:=0) (H5 hf hs hp hc hn hfr) (rw:=false) (by simp only[ae,vR,seval, -List.reduceReplicate]) hp rfl (fun h0=> ?_) (fun h0 q cs' hg=> ?_)
 ·simp only[gY,ub,iB,vR,seval, -List.reduceReplicate]
  exact ao wF ⟨_,rfl, .inl ⟨h0,rfl,rfl⟩⟩
 ·obtain ⟨c2,tail,h1,h2,h3,h4,h5⟩:=hg.made (k:=1)
  have hc:q=c2:=by cases h1;rfl
  subst hc
  have ke:ah .u8 (n - 77) (fun i=>f (45+i))++tail=cs':=by
   have:=congrFun h2 1
   simpa[lk] using this.symm
  simp only[gY,ub,iB,vR,seval, -List.reduceReplicate]
  exact uI (Vm (k:=1) (by decide) rfl hg.plain) (fun v out h=>⟨_,h.1, .inr ⟨q,tail,h0,rfl,by rw[h.2,ke],h3,h4,h5⟩⟩)
def lK (s:St) (n m:Nat) (aF g tag:Nat→Int) (pn x:Int):Option Nat:=match jX s n (preB s aF) pn x with
 | some i=>some i
 | none=>if vb (lN (fm (Ci s aF pn) (x - (Ci s aF pn).nr).toNat).recv 1) aF pn x m g tag=true then none else some 5
def Ab (d:St) (N:Nat) (F:Nat→En) (m:Nat) (g:Nat→Int) (x:Int):HZ:=
 ⟨0,fm d ((x - d.nr).toNat+1),d.re,x,N+(x - d.nr).toNat,m,fY N F d,cx (lN (fm d (x - d.nr).toNat).recv 1) g⟩
def lQ (s:St) (n m:Nat) (f:Nat→En) (aF g:Nat→Int) (pn x:Int):HZ:=Ab (Ci s aF pn) (Kx s n aF pn) (O8 s n f aF pn) m g x
theorem Vn {s:St} {v:SV} {pn:Int}:fN { s with store:=v } pn=fN s pn:=rfl
theorem Vo {s:St} {v:SV} {pk:Nat→Int}:ib { s with store:=v } pk={ ib s pk with store:=v }:=rfl
theorem KF {s:St} {v:SV} {aF:Nat→Int} {pn:Int}:Ci { s with store:=v } aF pn={ Ci s aF pn with store:=v }:=by
 have e:preB { s with store:=v } aF=preB s aF:=rfl
 unfold Ci
 rw[e]
 split
 ·rfl
 ·rw[Vn,pG,Vo]
theorem DR {s:St} {v:SV} {n:Nat} {f:Nat→En}:fY n f { s with store:=v }=fY n f s:=by
 funext i
 unfold fY Ku
 rw[pG]
theorem SX {s:St} {v:SV} {n:Nat} {f:Nat→En} {aF:Nat→Int} {pn:Int}:O8 { s with store:=v } n f aF pn=O8 s n f aF pn:=by
 have e:preB { s with store:=v } aF=preB s aF:=rfl
 unfold O8
 rw[e]
 split
 ·rfl
 ·exact DR
theorem Vp {s:St} {v:SV} {n:Nat} {pr:Bool} {pn x:Int}:jX { s with store:=v } n pr pn x=jX s n pr pn x:=rfl
theorem DS {s:St} {v:SV} {n m:Nat} {aF g tag:Nat→Int} {pn x:Int}:lK { s with store:=v } n m aF g tag pn x=lK s n m aF g tag pn x:=by
 have e:preB { s with store:=v } aF=preB s aF:=rfl
 unfold lK
 rw[e,Vp,KF,pG]
theorem Vq {k:Nat} {E:Option Nat} {A:HZ} {v:SV} {r:AV} {out:Nat→Option aI} (h:zw k E { A with x:={ A.x with store:=v } } r out):zw k E A r out:=h
theorem Vr {k:Nat} {E:Option Nat} {d:St} {v:SV} {N m:Nat} {F:Nat→En} {g:Nat→Int} {x:Int} {r:AV} {out:Nat→Option aI} (h:zw k E (Ab { d with store:=v } N F m g x) r out):zw k E (Ab d N F m g x) r out:=by
 unfold Ab at h ⊢
 rw[pG (s:=d) (v:=v) ((x - d.nr).toNat+1),pG (s:=d) (v:=v) (x - d.nr).toNat,DR]at h
 dsimp only at h
 generalize fm d ((x - d.nr).toNat+1)=y at h ⊢
 generalize lN (fm d (x - d.nr).toNat).recv 1=z at h ⊢
 exact Vq (A:=⟨0,y,d.re,x,_,m,_,_⟩) (v:=v) h
theorem Vs {k:Nat} {E:Option Nat} {s:St} {v:SV} {n m:Nat} {f:Nat→En} {aF g:Nat→Int} {pn x:Int} {r:AV} {out:Nat→Option aI} (h:zw k E (lQ { s with store:=v } n m f aF g pn x) r out):zw k E (lQ s n m f aF g pn x) r out:=by
 have e2:Kx { s with store:=v } n aF pn=Kx s n aF pn:=rfl
 unfold lQ at h
 rw[KF,SX,e2]at h
 exact Vr h
theorem Pa {k n m:Nat} {s:St} {f:Nat→En} {aF g tag:Nat→Int} {pn x:Int} {v:AV} {out:Nat→Option aI} (h:DP k n m s f aF g tag pn x v out):zw k (lK s n m aF g tag pn x) (lQ s n m f aF g pn x) v out:=by
 rcases h with ⟨i,h1,rfl,rfl⟩ | ⟨h1,⟨h2,rfl,rfl⟩ | ⟨h2,sv,bx,hK,rfl,rfl⟩⟩
 ·exact .inl ⟨i,by unfold lK;rw[h1],rfl,rfl⟩
 ·exact .inl ⟨5,by unfold lK;rw[h1];exact if_neg (by rw[h2];decide),rfl,rfl⟩
 ·refine .inr ⟨by unfold lK;rw[h1];exact if_pos h2,sv,_,rfl, ?_, ?_⟩
  ·dsimp only;rw[if_pos rfl];exact Kz hK
  ·dsimp only;rw[if_neg (by omega),if_pos rfl];exact .inr ⟨m,_,rfl,Cl,rfl⟩
def DT (m i:Nat) (f:Nat→En) (aF g tag:Nat→Int) (pn x:Int):Option Nat:=if vb (f i).key aF pn x m g tag=true then none else some 5
def DU (n m i:Nat) (s:St) (f:Nat→En) (g:Nat→Int):HZ:=⟨0,s,(f i).ep,(f i).n,n - 1,m,wV f i,cx (f i).key g⟩
theorem SY {k n m i:Nat} {s:St} {f:Nat→En} {aF g tag:Nat→Int} {pn x:Int} {v:AV} {out:Nat→Option aI} (h:WU k n m i s f aF g tag pn x v out):zw k (DT m i f aF g tag pn x) (DU n m i s f g) v out:=by
 rcases h with ⟨h2,rfl,rfl⟩ | ⟨h2,c,cs,hg,rfl,rfl⟩
 ·exact .inl ⟨5,if_neg (by rw[h2];decide),rfl,rfl⟩
 ·refine .inr ⟨if_pos h2,_,_,rfl, ?_, ?_⟩
  ·dsimp only;rw[if_pos rfl];exact .inr ⟨c,cs,rfl,hg,rfl⟩
  ·dsimp only;rw[if_neg (by omega),if_pos rfl];exact .inr ⟨m,_,rfl,Cl,rfl⟩
def Co (n:Nat) (f:Nat→Int):Bool:=decide (77≤n∧n≤65613∧f 0=210∧ko f 41=((n - 77:Nat):Int))
theorem qg {n:Nat} {f:Nat→Int}:Co n f=true↔KC n f:=decide_eq_true_iff
def dG (g:Nat→Int) (i:Nat):Int:=g (1+i)
def lS (g:Nat→Int) (i:Nat):Int:=g (45+i)
def Pb (L:Nat) (g:Nat→Int) (i:Nat):Int:=g (45+(L - 77)+i)
def kQ (s:St) (n:Nat) (f:Nat→En) (L:Nat) (g:Nat→Int):Option Nat:=
 if iP s n f=false then some 0 else if Co L g=false then some 4 else if ko g 37=4294967295 then some 3 else
  match ky f (dG g) (ko g 37) n with
  | some i=>DT (L - 77) i f (dG g) (lS g) (Pb L g) (ko g 33) (ko g 37)
  | none=>lK s n (L - 77) (dG g) (lS g) (Pb L g) (ko g 33) (ko g 37)
def mX (s:St) (n:Nat) (f:Nat→En) (L:Nat) (g:Nat→Int):HZ:=
  match ky f (dG g) (ko g 37) n with
  | some i=>DU n (L - 77) i s f (lS g)
  | none=>lQ s n (L - 77) f (dG g) (lS g) (ko g 33) (ko g 37)
def frT (L:Nat) (g:Nat→Int) (sv:SV):AV:= .inr [.inr (gk (dG g) (ko g 33) (ko g 37) sv (Pb L g)), .inl (.inl (.bool true))]
theorem DV {s:AS} {nm t o L c:Nat} {g:Nat→Int} {cs:List SV} {rw:Bool} (hf:bg g) (hs:br cs o L g) (hb:s.box t=some ⟨rw,cs⟩) (hp:cs.all SV.plain=true) (hc:L≤c) (hn:L < 140737488355328) {dst:Option Nat} {K:AS→Prop}
  (Yn:Co L g=false→K (s.put dst (some H6)))
  (hk:Co L g=true→ ∀ sv bx,(∀ b2:Nat→Option aI,b2 nm=bx→b2 t=some ⟨rw,cs⟩→ ∃ u rd ds,b2 u=some ⟨rd,ds⟩∧ds.all SV.plain=true∧jW u (L - 77) (lS g) sv ds)→K ((⟨s.env,upd s.box nm bx,s.next⟩:AS).put dst (some (frT L g sv)))):
  aB Tryz.prog nm 35 (some [Sl t o L c]) dst K s:=by
 rcases Bool.eq_false_or_eq_true (Co L g) with h | h
 ·have hfr:=qg.1 h
  refine (H7 hf hs hp hc hn hfr).aB (fun _=>t) none (cy hb hp) rfl ?_
  rintro v out ⟨svx,rfl,⟨e,rfl,rfl⟩ | ⟨q,tail,hm,rfl,rfl,h1,h2,h3⟩⟩ _
  ·rw[AV.bj wF]
   have e2:upd s.box nm (s.box nm)=s.box:=funext fun t=>by unfold upd;split<;>simp_all
   have:=hk h (.inl (.slice none 0 0)) (s.box nm) (fun b2 _ h2=>⟨t,rw,cs,h2,hp, .inl ⟨e,rfl⟩⟩)
   rw[e2]at this
   exact this
  ·rw[km (fR h3)]
   have e:SV.ren (dy (fun _=>t) 1 nm) (Sum.inr (.inr (1,0,L - 77,q)))= .inr (.inr (nm,0,L - 77,q)):=by show (Sum.inr (.inr (dy (fun _=>t) 1 nm 1,0,L - 77,q)):SV)=_;rw[kt]
   simp only[AV.ren,List.map_cons,List.map_nil,CV.ren,DB,e]
   exact hk h _ _ (fun b2 h2 _=>⟨nm,true,_,h2,fR h3, .inr ⟨0,q,rfl,jJ⟩⟩)
 ·have hfr: ¬ KC L g:=fun e=>by rw[qg.2 e]at h;cases h
  exact (KE hf hs hp hc hn hfr).dP (fun _=>t) (cy hb hp) wE rfl (Yn h)
theorem H8 {s:AS} {nm t n m:Nat} {x:St} {f:Nat→En} {aF g tag:Nat→Int} {pn y:Int} {sv:SV} {ra:Bool} {cs:List SV} (hb:s.box t=some ⟨ra,cs⟩) (hi:aO t x.store n f cs) (hp:cs.all SV.plain=true) (hs:fy x) (hl:iF x n=true) (hn:n*72≤140737488355328) (lP:bg aF) (hf:bg g) (ht:bg tag)
  (hB: ∃ u rd ds,s.box u=some ⟨rd,ds⟩∧ds.all SV.plain=true∧jW u m g sv ds) (hm:m≤65536) (hx:kU y) (zG:kU pn) {dst:Option Nat} {K:AS→Prop}
  (h0: ∀ i,lK x n m aF g tag pn y=some i→K ((⟨s.env,upd (upd s.box nm none) (nm+1) none,s.next⟩:AS).put dst (some (.inr [.inr (dO 0 nC (.inl (.slice none 0 0)) 0 0), .inl (.inl (fA i))]))))
  (hk:lK x n m aF g tag pn y=none→ ∀ sv bx o bo,jr nm (lQ x n m f aF g pn y).n (lQ x n m f aF g pn y).F sv bx→kG (nm+1) (lQ x n m f aF g pn y).m (lQ x n m f aF g pn y).G o bo→K ((⟨s.env,upd (upd s.box nm bx) (nm+1) bo,s.next⟩:AS).put dst (some (.inr [.inr (dO 0 { (lQ x n m f aF g pn y).x with store:=sv } o (lQ x n m f aF g pn y).ep (lQ x n m f aF g pn y).nn), .inl (.inl .nilIface)])))):
  bw Tryz.prog nm 38 (some [Ag (aU x),Ag (gk aF pn y sv tag)]) dst K s:=by
 obtain ⟨u,rd,ds,hb',hq,hv⟩:=hB
 obtain ⟨v0,g0,e0⟩:=hi.name (k:=0)
 obtain ⟨w0,g1,e1⟩:=hv.name 1
 have ec:lK { x with store:=v0 } n m aF g tag pn y=lK x n m aF g tag pn y:=DS
 refine vg (E:=lK x n m aF g tag pn y) (A:=lQ x n m f aF g pn y) (O9 (s:={ x with store:=v0 }) g0 hp (hs.ws v0) hl hn lP hf ht g1 hq hm hx zG) (fun v out h=> ?_) (two t u) (ik hb hp hb' hq) ?_ h0 hk
 ·have:=Pa h
  rw[DS]at this
  exact Vs this
 ·simp only[List.map_cons,List.map_nil,dW,og,e0 (two t u) rfl,e1 (two t u) rfl]
theorem KG {s:AS} {nm t n m i:Nat} {x:St} {f:Nat→En} {aF g tag:Nat→Int} {pn y:Int} {sv:SV} {ra:Bool} {cs:List SV} (hb:s.box t=some ⟨ra,cs⟩) (hi0:aO t x.store n f cs) (hp:cs.all SV.plain=true) (hn:n*72≤140737488355328) (hi:i < n) (Hh:bg (f i).key) (lP:bg aF) (hf:bg g) (ht:bg tag)
  (hB: ∃ u rd ds,s.box u=some ⟨rd,ds⟩∧ds.all SV.plain=true∧jW u m g sv ds) (hm:m≤65536) {dst:Option Nat} {K:AS→Prop}
  (h0: ∀ j,DT m i f aF g tag pn y=some j→K ((⟨s.env,upd (upd s.box nm none) (nm+1) none,s.next⟩:AS).put dst (some (.inr [.inr (dO 0 nC (.inl (.slice none 0 0)) 0 0), .inl (.inl (fA j))]))))
  (hk:DT m i f aF g tag pn y=none→ ∀ sv bx o bo,jr nm (n - 1) (wV f i) sv bx→kG (nm+1) m (cx (f i).key g) o bo→K ((⟨s.env,upd (upd s.box nm bx) (nm+1) bo,s.next⟩:AS).put dst (some (.inr [.inr (dO 0 { x with store:=sv } o (f i).ep (f i).n), .inl (.inl .nilIface)])))):
  bw Tryz.prog nm 37 (some [Ag (aU x),Ag (gk aF pn y sv tag),I .i64 i]) dst K s:=by
 obtain ⟨u,rd,ds,hb',hq,hv⟩:=hB
 obtain ⟨v0,g0,e0⟩:=hi0.name (k:=0)
 obtain ⟨w0,g1,e1⟩:=hv.name 1
 refine vg (E:=DT m i f aF g tag pn y) (A:=DU n m i x f g) (SH (s:={ x with store:=v0 }) (pn:=pn) (x:=y) g0 hp hn hi Hh lP hf ht g1 hq hm) (fun v out h=>SY (s:={ x with store:=v0 }) h) (two t u) (ik hb hp hb' hq) ?_ h0 hk
 simp only[List.map_cons,List.map_nil,dW,og,e0 (two t u) rfl,e1 (two t u) rfl];rfl
theorem Nc {f:Nat→En} {aF:Nat→Int} {x:Int} {i:Nat}: ∀ {n},ky f aF x n=some i→i < n
 | 0,h=>by cases h
 | n+1,h=>by
  rw[ky]at h
  cases h1:ky f aF x n with
  | some j=>rw[h1]at h;cases h;have:=Nc h1;omega
  | none=>rw[h1]at h;dsimp only at h;split at h<;>cases h;omega
def Cp:aT:=
 let e0:aT:=(.cons 3 .nil .nil)
 let e1:aT:=(.cons 2 e0 .nil)
 let e2:aT:=(.cons 1 e0 .nil)
 let e3:aT:=(.cons 1 e1 (.cons 2 e2 .nil))
 let e4:aT:=(.cons 0 e1 .nil)
 let e5:aT:=(.cons 0 e3 (.cons 1 e4 .nil))
 e5
theorem KH {s:St} {n L o c:Nat} {f:Nat→En} {g:Nat→Int} {cs ds:List SV} (h0:aO 0 s.store n f cs) (hp:cs.all SV.plain=true) (hs:fy s) (hf: ∀ i,ku (f i)) (hn:n*72≤140737488355328) (hv:br ds o L g) (hq:ds.all SV.plain=true) (hc:L≤c) (hL:L < 140737488355328) (hg:bg g):
  gy Tryz.prog 19 [Ag (aU s),Sl 1 o L c] 2 2 (lk [(0,⟨false,cs⟩),(1,⟨false,ds⟩)]) (zw 2 (kQ s n f L g) (mX s n f L g)):=by
 refine cW Tryz.func19 rfl (by kernel_rfl) [10,11] [] (by simp[Tryz.ntmps19]) Tryz.rH (by decide) (fun y hy=>by
  simp only[List.mem_cons,List.not_mem_nil,or_false]at hy
  rcases hy with rfl | rfl
  ·exact bR (h0.ok (by decide))
  ·exact (show 1 < 2 by decide)) lg (oU hp hq) ?_
 have Ea: ∀ {box:Nat→Option aI},box 0=some ⟨false,cs⟩→iA box s.store n f:=fun hb=>⟨0,false,cs,hb,hp,h0⟩
 have zT:AV.plain (.inr [.inr (dO 0 nC (.inl (.slice none 0 0)) 0 0), .inl (.inl (.pointer none))])=true:=by rfl
 simp only[Tryz.results19,ia,Tryz.cz,vL,seval, -List.reduceReplicate]
 refine iA.calls (n:=n) (f:=f) (w:=B (iP s n f)) (Ea (by simp only[vP,seval, -List.reduceReplicate])) rfl (fun v cs hv hp=>by have:=Mz (s:={ s with store:=v }) hv hp (hs.ws v) hf (by omega);rwa [Dl]at this) ?_
 simp only[ia,Tryz.cz,vL,seval, -List.reduceReplicate]
 rcases Bool.eq_false_or_eq_true (iP s n f) with hb | hb
 rotate_left 1
 ·simp only[hb,Bool.not_false,ia,Tryz.cz,vL,seval, -List.reduceReplicate]
  refine .inr ⟨by kernel_rfl,Cp,by kernel_rfl, ?_⟩
  simp only[Cp,eu,ia,Tryz.cz,vL,seval, -List.reduceReplicate]
  (repeat' apply And.intro)<;>
   exact dD (q:=0) (v:= .inr [.inr (dO 0 nC (.inl (.slice none 0 0)) 0 0), .inl (.inl (fA 0))]) (by rfl) (.inl ⟨0,by simp[kQ,hb],rfl,rfl⟩)
 simp only[hb,Bool.not_true,ia,Tryz.cz,vL,seval, -List.reduceReplicate]
 refine DV (rw:=false) (cs:=ds) hg hv (by simp only[vP,seval, -List.reduceReplicate]) hq hc hL ?_ ?_
 ·intro hb2
  simp only[H6,ia,Tryz.cz,vL,seval, -List.reduceReplicate]
  refine ⟨by kernel_rfl, ?_⟩
  simp only[Bool.not_false,ia,Tryz.cz,vL,seval, -List.reduceReplicate]
  refine .inr ⟨by kernel_rfl,Cp,by kernel_rfl, ?_⟩
  simp only[Cp,eu,ia,Tryz.cz,vL,seval, -List.reduceReplicate]
  (repeat' apply And.intro)<;>
   exact dD (q:=0) (v:= .inr [.inr (dO 0 nC (.inl (.slice none 0 0)) 0 0), .inl (.inl (fA 4))]) (by rfl) (.inl ⟨4,by simp[kQ,hb,hb2],rfl,rfl⟩)
 intro hb2 sv bx hB
 simp only[frT,ia,Tryz.cz,vL,seval, -List.reduceReplicate]
 refine ⟨by kernel_rfl, ?_⟩
 simp only[Bool.not_true,ia,Tryz.cz,vL,seval, -List.reduceReplicate]
 rcases Bool.eq_false_or_eq_true (ko g 37==4294967295) with h3 | h3
 ·have h3':ko g 37=4294967295:=by simpa using h3
  simp only[h3,ia,Tryz.cz,vL,seval, -List.reduceReplicate]
  refine .inr ⟨by kernel_rfl,Cp,by kernel_rfl, ?_⟩
  simp only[Cp,eu,ia,Tryz.cz,vL,seval, -List.reduceReplicate]
  (repeat' apply And.intro)<;>
   exact dD (q:=0) (v:= .inr [.inr (dO 0 nC (.inl (.slice none 0 0)) 0 0), .inl (.inl (fA 3))]) (by rfl) (.inl ⟨3,by simp[kQ,hb,hb2,h3'],rfl,rfl⟩)
 have h3': ¬ ko g 37=4294967295:=by simpa using h3
 simp only[h3,ia,Tryz.cz,vL,seval, -List.reduceReplicate]
 refine (O5 (aF:=dG g) (pn:=ko g 33) (x:=ko g 37) h0 hp (by omega)).dP (fun _=>0) (cy (rw:=false) (by simp only[vP,seval, -List.reduceReplicate]) hp) (by rfl) ?_ ?_
 ·have e:=h0.ren (r:=fun _=>0) rfl
  have e2:AV.ren (fun _=>0) (.inl (.inl s.store))= .inl (.inl s.store):=congrArg (fun z=>Sum.inl (Sum.inl z)) e
  simp only[List.map_cons,List.map_nil,e2,AV.bj dY]
 have hl:iF s n=true:=by
  have h:=hb;simp only[iP,Bool.and_eq_true]at h;exact h.1.1.1.1.1
 have hm:L - 77≤65536:=by have:=qg.1 hb2;have:=this.2.1;omega
 rcases hH:ky f (dG g) (ko g 37) n with _ | i
 ·have d0:decide ((-1:Int)≥0)=false:=rfl
  have d1:decide ((0:Int)≤ -1)=false:=rfl
  simp only[O4,d0,d1,decide_false,decide_true,ia,Tryz.cz,vL,seval, -List.reduceReplicate]
  refine ⟨by decide, ?_⟩
  simp only[ia,Tryz.cz,vL,seval, -List.reduceReplicate]
  refine H8 (t:=0) (ra:=false) (cs:=cs) (f:=f) (g:=lS g) (m:=L - 77) (by simp only[vP,seval, -List.reduceReplicate]) h0 hp hs hl hn (fun i=>hg _) (fun i=>hg _) (fun i=>hg _) (hB _ (by simp only[vP,seval, -List.reduceReplicate]) (by simp only[vP,seval, -List.reduceReplicate])) hm (Wv hg _) (Wv hg _) (fun i hE=> ?_) (fun hE ZF bx1 o1 bo1 hS hO=> ?_)
  ·simp only[ia,Tryz.cz,vL,seval, -List.reduceReplicate]
   exact dD (q:=0) (v:= .inr [.inr (dO 0 nC (.inl (.slice none 0 0)) 0 0), .inl (.inl (fA i))]) (by rfl) (.inl ⟨i,by simp[kQ,hb,hb2,h3',hH];exact hE,rfl,rfl⟩)
  ·have eE:kQ s n f L g=none:=by simp[kQ,hb,hb2,h3',hH];exact hE
   have eA:mX s n f L g=lQ s n (L - 77) f (dG g) (lS g) (ko g 33) (ko g 37):=by unfold mX;rw[hH]
   simp only[ia,Tryz.cz,vL,seval, -List.reduceReplicate]
   rw[eA]
   exact H3 eE hS hO (by decide) (by decide) (by decide) (by simp only[AS.mem,AS.put,vP,seval, -List.reduceReplicate]) (by simp only[AS.mem,AS.put,vP,seval, -List.reduceReplicate])
 ·have d0:decide ((i:Int)≥0)=true:=decide_eq_true (by omega)
  have d1:decide (0≤(i:Int))=true:=decide_eq_true (by omega)
  have hi:=Nc hH
  simp only[O4,d0,d1,decide_false,decide_true,ia,Tryz.cz,vL,seval, -List.reduceReplicate]
  refine ⟨by decide, ?_⟩
  simp only[ia,Tryz.cz,vL,seval, -List.reduceReplicate]
  refine KG (t:=0) (ra:=false) (cs:=cs) (f:=f) (g:=lS g) (m:=L - 77) (by simp only[vP,seval, -List.reduceReplicate]) h0 hp hn hi (hf i).key (fun i=>hg _) (fun i=>hg _) (fun i=>hg _) (hB _ (by simp only[vP,seval, -List.reduceReplicate]) (by simp only[vP,seval, -List.reduceReplicate])) hm (fun j hE=> ?_) (fun hE ZF bx1 o1 bo1 hS hO=> ?_)
  ·simp only[ia,Tryz.cz,vL,seval, -List.reduceReplicate]
   exact dD (q:=0) (v:= .inr [.inr (dO 0 nC (.inl (.slice none 0 0)) 0 0), .inl (.inl (fA j))]) (by rfl) (.inl ⟨j,by simp[kQ,hb,hb2,h3',hH];exact hE,rfl,rfl⟩)
  ·have eE:kQ s n f L g=none:=by simp[kQ,hb,hb2,h3',hH];exact hE
   have eA:mX s n f L g=DU n (L - 77) i s f (lS g):=by unfold mX;rw[hH]
   simp only[ia,Tryz.cz,vL,seval, -List.reduceReplicate]
   rw[eA]
   exact H3 (A:=DU n (L - 77) i s f (lS g)) eE hS hO (by decide) (by decide) (by decide) (by simp only[AS.mem,AS.put,vP,seval, -List.reduceReplicate]) (by simp only[AS.mem,AS.put,vP,seval, -List.reduceReplicate])
theorem qL {s:AS} {nm t n i:Nat} {x:St} {f:Nat→En} {rw:Bool} {cs:List SV} (hb:s.box t=some ⟨rw,cs⟩) (hp:cs.all SV.plain=true) (hi:aO t x.store n f cs) (X0:i < 9) (hn:i≠0→n*72≤140737488355328) {dst:Option Nat} {K:AS→Prop}
  (h0:i=0→K ((⟨s.env,upd s.box nm none,s.next⟩:AS).put dst (some (Ag (dO 1 nC (.inl (.slice none 0 0)) 0 0)))))
  (hk:i≠0→ ∀ sv bx,fK nm n f sv bx→K ((⟨s.env,upd s.box nm bx,s.next⟩:AS).put dst (some (Ag (dO (oC i) { x with store:=sv } (.inl (.slice none 0 0)) 0 0))))):bw Tryz.prog nm 16 (some [Ag (aU x),V (fA i)]) dst K s:=by
 obtain ⟨v0,g0,e0⟩:=hi.name (k:=0)
 refine (Ow (s:={ x with store:=v0 }) g0 hp X0 hn).bw (fun _=>t) (cy hb hp) ?_ ?_
 ·simp only[List.map_cons,List.map_nil,dW,AV.bj (show AV.plain (V (fA i))=true from rfl),e0 (fun _=>t) rfl]
 ·rintro v out (⟨hi0,rfl,rfl⟩ | ⟨hi0,sv,rfl,hK⟩)
  ·rw[AV.bj (lZ rfl rfl)]
   exact h0 hi0
  ·rw[nW]
   exact hk hi0 _ _ (MH hK fU)
def kz (s:St) (n:Nat) (f:Nat→En) (L:Nat) (g:Nat→Int):HZ:=match kQ s n f L g with
 | some i=>if i=0 then ⟨1,nC,0,0,0,0,f,fun _=>0⟩ else ⟨oC i,s,0,0,n,0,f,fun _=>0⟩
 | none=>mX s n f L g
theorem Vt {s:St} {n i:Nat} {a b:Int} (h:oK s n a b=some i):i < 9∧i≠0:=by
 unfold oK at h
 repeat' split at h
 all_goals first | (cases h;decide) | cases h
theorem Vu {s:St} {n i:Nat} {pr:Bool} {pn x:Int} (h:jX s n pr pn x=some i):i < 9∧i≠0:=by
 unfold jX at h
 repeat' split at h
 all_goals first | (cases h;decide) | exact Vt h
theorem Vv {s:St} {n L i:Nat} {f:Nat→En} {g:Nat→Int} (h:kQ s n f L g=some i):i < 9:=by
 unfold kQ at h
 repeat' split at h
 all_goals first | (cases h;decide) | skip
 ·unfold DT at h
  split at h<;>cases h
  decide
 ·unfold lK at h
  split at h
  ·rename_i hs
   cases h
   exact (Vu hs).1
  ·split at h<;>cases h
   decide
theorem YC {s:St} {n L:Nat} {f:Nat→En} {g:Nat→Int}:(mX s n f L g).y=0:=by
 unfold mX;split<;>rfl
theorem Ac {s:St} {n L o c:Nat} {f:Nat→En} {g:Nat→Int} {cs ds:List SV} (h0:aO 0 s.store n f cs) (hp:cs.all SV.plain=true) (hs:fy s) (hf: ∀ i,ku (f i)) (hn:n*72≤140737488355328) (hv:br ds o L g) (hq:ds.all SV.plain=true) (hc:L≤c) (hL:L < 140737488355328) (hg:bg g):
  gy Tryz.prog 8 [Ag (aU s),Sl 1 o L c] 2 2 (lk [(0,⟨false,cs⟩),(1,⟨false,ds⟩)]) (H2 2 (kz s n f L g)):=by
 refine cW Tryz.func8 rfl (by kernel_rfl) [1,3] [] (by simp[Tryz.ntmps8]) Tryz.uQ (by decide) (fun y hy=>by
  simp only[List.mem_cons,List.not_mem_nil,or_false]at hy
  rcases hy with rfl | rfl
  ·exact bR (h0.ok (by decide))
  ·exact (show 1 < 2 by decide)) lg (oU hp hq) ?_
 simp only[Tryz.results8,ia,Tryz.cz,vL,seval, -List.reduceReplicate]
 refine ⟨by decide, ?_⟩
 simp only[ia,Tryz.cz,vL,seval, -List.reduceReplicate]
 refine vg (E:=kQ s n f L g) (A:=mX s n f L g) (KH h0 hp hs hf hn hv hq hc hL hg) (fun v out h=>h) (two 0 1) (ik (rw:=false) (rw':=false) (by simp only[vP,seval, -List.reduceReplicate]) hp (by simp only[vP,seval, -List.reduceReplicate]) hq) ?_ (fun i hE=> ?_) (fun hE sv bx o bo hS hO=> ?_)
 ·have e2:SV.ren (two 0 1) s.store=s.store:=h0.ren rfl
  simp only[List.map_cons,List.map_nil,dW,e2];rfl
 ·have hni:kc BinOp.neq true (some (Sum.inl (Sum.inl (Sum.inl (fA i)))))=some (some (B true),none):=rfl
  simp only[hni,kN,ia,Tryz.cz,vL,seval, -List.reduceReplicate]
  refine ⟨by decide, ?_⟩
  simp only[ia,Tryz.cz,vL,seval, -List.reduceReplicate]
  refine qL (t:=0) (rw:=false) (i:=i) (cs:=cs) (by simp only[vP,seval, -List.reduceReplicate]) hp h0 (Vv hE) (fun _=>hn) (fun hi0=> ?_) (fun hi0 sv bx hK=> ?_)
  ·have eD:kz s n f L g=⟨1,nC,0,0,0,0,f,fun _=>0⟩:=by unfold kz;rw[hE];exact if_pos hi0
   simp only[ia,Tryz.cz,vL,seval, -List.reduceReplicate]
   rw[eD]
   exact dD (q:=0) (lZ rfl rfl) ⟨.inl (.slice none 0 0), .inl (.slice none 0 0),rfl, .inl ⟨rfl,rfl,rfl⟩, .inl ⟨rfl,rfl,rfl⟩⟩
  ·have eD:kz s n f L g=⟨oC i,s,0,0,n,0,f,fun _=>0⟩:=by unfold kz;rw[hE];exact if_neg hi0
   simp only[ia,Tryz.cz,vL,seval, -List.reduceReplicate]
   rw[eD]
   exact H4 (A:=⟨oC i,s,0,0,n,0,f,fun _=>0⟩) (q':=999) (Kz hK) (.inl ⟨rfl,rfl,rfl⟩) (by decide) (by decide) (by decide) (by simp only[AS.mem,AS.put,vP,seval, -List.reduceReplicate]) (by rfl)
 ·simp only[kN,ia,Tryz.cz,vL,seval, -List.reduceReplicate]
  have eD:kz s n f L g=mX s n f L g:=by unfold kz;rw[hE]
  rw[eD]
  have e0: ∀ {x:St} {o:SV} {a b:Int},dO 0 x o a b=dO (mX s n f L g).y x o a b:=by rw[YC];exact rfl
  rw[e0]
  exact H4 (A:=mX s n f L g) hS hO (by decide) (by decide) (by decide) (by simp only[AS.mem,AS.put,vP,seval, -List.reduceReplicate]) (by simp only[AS.mem,AS.put,vP,seval, -List.reduceReplicate])
def YD (k n:Nat) (s:St) (f:Nat→En) (m:Nat) (g seed:Nat→Int) (v:AV) (out:Nat→Option aI):Prop:=
 (∃ i,gN s n f m=some i∧aaF k n s f i v out)∨(gN s n f m=none∧SD k n (dM s seed) f m g v out)
theorem Pc {s:AS} {k q n:Nat} {f:Nat→En} {sv:SV} {bx:Option aI} {Post:AV→(Nat→Option aI)→Prop} (mk:SV→AV) (J0: ∀ r v,AV.ren r (mk v)=mk (SV.ren r v)) (hok: ∀ (M:Nat→Prop) v,SV.ok M v→AV.ok M (mk v))
  (hq:k≤q) (hb:s.box q=bx) (hK:fK q n f sv bx) (h: ∀ PE out,G7 k n f PE out→Post (mk PE) out):tK k 2 Post (mk sv) s:=by
 have r0:eM k (fun j=>q+j) k=q:=by unfold eM;rw[if_neg (by omega),Nat.sub_self];rfl
 rcases hK with ⟨h0,rfl,rfl⟩ | ⟨h0,c,cs,rfl,hg,rfl⟩
 ·exact ⟨fun j=>q+j,mk (.inl (.slice none 0 0)),fun _=>none,fun j hj=>Nat.le_trans hq (Nat.le_add_right q j),fun i j hi hj e=>Nat.add_left_cancel e,by rw[J0];rfl,hok _ _ (SV.aM rfl),fun m b hm=>(by cases hm),h _ _ (.inl ⟨h0,rfl,rfl⟩)⟩
 ·refine ⟨fun j=>q+j,mk (.inr (.inr (k,0,n,c))),lk [(k,⟨true,cs⟩)],fun j hj=>Nat.le_trans hq (Nat.le_add_right q j),fun i j hi hj e=>Nat.add_left_cancel e, ?_,hok _ _ ⟨(show k < k+2 by omega),rfl⟩,fun m b hm=> ?_,h _ _ (.inr ⟨h0,c,cs,rfl,hg,rfl⟩)⟩
  ·rw[J0];simp only[SV.ren,r0]
  ·obtain ⟨rfl,rfl⟩:=JV hm
   exact ⟨by omega,fun _=>rfl,aD hg.plain,⟨true,cs⟩,by rw[r0];exact hb,fun h=>h,(aN hg.plain _).symm⟩
theorem KI {s:AS} {nm t u n m:Nat} {vp:AV} {x:St} {f:Nat→En} {g seed:Nat→Int} {ra rb:Bool} {cs ds:List SV} (hb:s.box t=some ⟨ra,cs⟩) (hp:cs.all SV.plain=true) (hi:aO t x.store n f cs) (hs:fy x) (hn:n*72≤140737488355328)
  (hb':s.box u=some ⟨rb,ds⟩) (hv:fC u vp m g ds) (hq:ds.all SV.plain=true) (hm:m≤65536) (hg:bg g) (TY:bg seed) {dst:Option Nat} {K:AS→Prop}
  (hk: ∀ sv bx c' cs',fK nm n f sv bx→bV cs' 0 (45+m+32) c' (O2 (dM x seed) m g)→
   K ((⟨s.env,upd (upd s.box nm bx) (nm+1) (some ⟨true,cs'⟩),s.next⟩:AS).put dst (some (Ag (dO 0 { jS (dM x seed) with store:=sv } (.inr (.inr (nm+1,0,45+m+32,c'))) (dM x seed).se (dM x seed).ns))))):
  bw Tryz.prog nm 17 (some [Ag (aU x),vp,Ag (ah .u8 32 seed)]) dst K s:=by
 obtain ⟨v0,g0,e0⟩:=hi.name (k:=0)
 obtain ⟨w0,g1,e3⟩:=sS hv 1
 have es: ∀ v,dM { x with store:=v } seed={ dM x seed with store:=v }:=fun v=>by unfold dM;dsimp only;split<;>rfl
 refine (Yw (s:={ x with store:=v0 }) g0 hp (hs.ws v0) hn g1 hq hm hg TY).aB (two t u) none (ik hb hp hb' hq) ?_ ?_
 ·have e1:AV.ren (two t u) (Ag (ah .u8 32 seed))=Ag (ah .u8 32 seed):=AV.bj (by simpa[AV.plain,CV.plain] using az) _
  have e2:SV.ren (two t u) v0=x.store:=e0 _ rfl
  simp only[List.map_cons,List.map_nil,dW,e1,e2,e3 (two t u) rfl]
 ·rintro v out ⟨sv,bx,c',cs',rfl,hK,hG,rfl⟩
  rw[es]at hG ⊢
  have k1:=fU (r:=two t u) (k:=2) (nm:=nm)
  have k2:=pb (r:=two t u) (k:=2) (nm:=nm)
  have e2:SV.ren (bt (two t u) 2 nm) (.inr (.inr (2+1,0,45+m+32,c')))= .inr (.inr (nm+1,0,45+m+32,c')):=by simp only[SV.ren,k2]
  rw[mS,nW,e2]
  simp only[if_true,if_neg (show ¬ (2+1=2) by decide),cG hG.plain]
  exact hk _ _ c' cs' (pD hK k1) hG
theorem qM {s:St} {n m:Nat} {vp:AV} {f:Nat→En} {g seed:Nat→Int} {cs ds:List SV} (h0:aO 0 s.store n f cs) (hp:cs.all SV.plain=true) (hs:fy s) (hf: ∀ i,ku (f i)) (hn:n*72≤140737488355328) (hv:fC 1 vp m g ds) (hq:ds.all SV.plain=true) (hg:bg g) (TY:bg seed):
  gy Tryz.prog 6 [Ag (aU s),vp,Ag (ah .u8 32 seed)] 2 2 (lk [(0,⟨false,cs⟩),(1,⟨false,ds⟩)]) (YD 2 n s f m g seed):=by
 refine cW Tryz.func6 rfl (by kernel_rfl) [3,4] [] (by simp[Tryz.ntmps6]) Tryz.uO (by decide) (fun y hy=>by
  simp only[List.mem_cons,List.not_mem_nil,or_false]at hy
  rcases hy with rfl | rfl | rfl
  ·exact bR (h0.ok (by decide))
  ·exact hv.ok (by decide)
  ·exact AV.aM (by simpa[AV.plain,CV.plain] using az)) lg (oU hp hq) ?_
 simp only[Tryz.results6,bY,dg,nV,fE,ak,aS,av,ay,vL,seval, -List.reduceReplicate]
 refine (Ov (vp:=vp) h0 hp hs hf (by omega) hv hq).dP (two 0 1) (ik (rw:=false) (rw':=false) (by simp only[vP,seval, -List.reduceReplicate]) hp (by simp only[vP,seval, -List.reduceReplicate]) hq) (fW _) ?_ ?_
 ·have e2:SV.ren (two 0 1) s.store=s.store:=h0.ren rfl
  simp only[List.map_cons,List.map_nil,dW,e2,hv.ren (show two 0 1 1=1 from rfl)]
 rcases hR:gN s n f m with _ | i
 ·simp only[iQ,bY,dg,nV,fE,ak,aS,av,ay,vL,seval, -List.reduceReplicate]
  refine ⟨by decide, ?_⟩
  simp only[bY,dg,nV,fE,ak,aS,av,ay,vL,seval, -List.reduceReplicate]
  have hm:m≤65536:=by
   unfold gN at hR
   split at hR
   ·cases hR
   ·split at hR
    ·cases hR
    ·omega
  refine KI (t:=0) (u:=1) (ra:=false) (rb:=false) (cs:=cs) (ds:=ds) (by simp only[vP,seval, -List.reduceReplicate]) hp h0 hs hn (by simp only[vP,seval, -List.reduceReplicate]) hv hq hm hg TY ?_
  intro sv bx c' cs' hK hG
  simp only[bY,dg,nV,fE,ak,aS,av,ay,vL,seval, -List.reduceReplicate]
  exact O7 (uZ (q:=28) (p:=27) (by decide) (by decide) (by decide) (by simp only[vP,seval, -List.reduceReplicate]) (by simp only[vP,seval, -List.reduceReplicate]) hK hG) (fun v out h=> .inr ⟨hR,h⟩)
 ·simp only[iQ,fA,bY,dg,nV,fE,ak,aS,av,ay,vL,seval, -List.reduceReplicate]
  refine ⟨by decide, ?_⟩
  simp only[bY,dg,nV,fE,ak,aS,av,ay,vL,seval, -List.reduceReplicate]
  have hi:=UL hR
  refine qL (t:=0) (rw:=false) (i:=i) (cs:=cs) (by simp only[vP,seval, -List.reduceReplicate]) hp h0 (by omega) (fun _=>hn) (fun hi0=> ?_) (fun hi0 sv bx hK=> ?_)
  ·simp only[bY,dg,nV,fE,ak,aS,av,ay,vL,seval, -List.reduceReplicate]
   exact dD (q:=0) (lZ rfl rfl) (.inl ⟨i,hR, .inl ⟨hi0,rfl,rfl⟩⟩)
  ·simp only[bY,dg,nV,fE,ak,aS,av,ay,vL,seval, -List.reduceReplicate]
   exact Pc (fun v=>Ag (dO (oC i) { s with store:=v } (.inl (.slice none 0 0)) 0 0)) (fun r v=>nW) (fun M v hv=>B1 hv (SV.aM rfl)) (q:=23) (by decide) (by simp only[vP,seval, -List.reduceReplicate]) hK fun PE out h=> .inl ⟨i,hR, .inr ⟨hi0,PE,rfl,h⟩⟩


end Go.Proofs.YtbipdofobgabhaaGreatDoor
