/-
  Refusals, by the machine: the code of a sentinel, a state of its own store.
-/
import Derived.Test.YtbipdofobgabhaaGreatDoorVcgI1
import Derived.Test.YtbipdofobgabhaaGreatDoorVcgRw
import Derived.Test.YtbipdofobgabhaaGreatDoorVcgWi
set_option maxHeartbeats 8000000
set_option maxRecDepth 20000
set_option linter.unusedSimpArgs false
set_option linter.unusedVariables false
set_option linter.unusedSectionVars false
namespace Go.Proofs.YtbipdofobgabhaaGreatDoor
open Go.bA
variable [aG]
def oC (i:Nat):Int:=if i=4 then 2 else if i=5 then 3 else if i=6 then 4 else if i=7 then 5 else if i=3 then 6 else if i=8 then 8 else if i=2 then 9 else if i=1 then 10 else 1
theorem JW {i:Nat} (hi:i < 9):cO Tryz.prog 27 [V (fA i)] (I .i64 (oC i)):=by
 refine bf Tryz.func27 rfl (by kernel_rfl) (by simp[Tryz.ntmps27]) rfl rfl ?_
 simp only[Tryz.results27,vS,seval, -List.reduceReplicate]
 refine (nU (j:=4) hi (by decide)).aB ?_
 simp only[vR,seval, -List.reduceReplicate]
 refine cJ (fun h=> ?_) (fun h4=> ?_)
 ·obtain rfl:i=4:=by simpa using h
  simp only[vR,seval, -List.reduceReplicate];rfl
 simp only[vR,seval, -List.reduceReplicate]
 refine (nU (j:=5) hi (by decide)).aB ?_
 simp only[vR,seval, -List.reduceReplicate]
 refine cJ (fun h=> ?_) (fun h5=> ?_)
 ·obtain rfl:i=5:=by simpa using h
  simp only[vR,seval, -List.reduceReplicate];rfl
 simp only[vR,seval, -List.reduceReplicate]
 refine (nU (j:=6) hi (by decide)).aB ?_
 simp only[vR,seval, -List.reduceReplicate]
 refine cJ (fun h=> ?_) (fun h6=> ?_)
 ·obtain rfl:i=6:=by simpa using h
  simp only[vR,seval, -List.reduceReplicate];rfl
 simp only[vR,seval, -List.reduceReplicate]
 refine (nU (j:=7) hi (by decide)).aB ?_
 simp only[vR,seval, -List.reduceReplicate]
 refine cJ (fun h=> ?_) (fun h7=> ?_)
 ·obtain rfl:i=7:=by simpa using h
  simp only[vR,seval, -List.reduceReplicate];rfl
 simp only[vR,seval, -List.reduceReplicate]
 refine (nU (j:=3) hi (by decide)).aB ?_
 simp only[vR,seval, -List.reduceReplicate]
 refine cJ (fun h=> ?_) (fun h3=> ?_)
 ·obtain rfl:i=3:=by simpa using h
  simp only[vR,seval, -List.reduceReplicate];rfl
 simp only[vR,seval, -List.reduceReplicate]
 refine (nU (j:=8) hi (by decide)).aB ?_
 simp only[vR,seval, -List.reduceReplicate]
 refine cJ (fun h=> ?_) (fun h8=> ?_)
 ·obtain rfl:i=8:=by simpa using h
  simp only[vR,seval, -List.reduceReplicate];rfl
 simp only[vR,seval, -List.reduceReplicate]
 refine (nU (j:=2) hi (by decide)).aB ?_
 simp only[vR,seval, -List.reduceReplicate]
 refine cJ (fun h=> ?_) (fun h2=> ?_)
 ·obtain rfl:i=2:=by simpa using h
  simp only[vR,seval, -List.reduceReplicate];rfl
 simp only[vR,seval, -List.reduceReplicate]
 refine (nU (j:=1) hi (by decide)).aB ?_
 simp only[vR,seval, -List.reduceReplicate]
 refine cJ (fun h=> ?_) (fun h1=> ?_)
 ·obtain rfl:i=1:=by simpa using h
  simp only[vR,seval, -List.reduceReplicate];rfl
 simp only[vR,seval, -List.reduceReplicate]
 have e:oC i=1:=by
  simp only[beq_eq_false_iff_ne,ne_eq]at h4 h5 h6 h7 h3 h8 h2 h1
  simp only[oC,h4,h5,h6,h7,h3,h8,h2,h1,if_false]
 rw[e]
theorem Ou {P:Program} [bA.Tables P] {t tx kB:Nat} (hk:qQ P t=some (skZ,66,kB)) (hx:sZ P tx=some (none,66)) {s:AS} {nm u m:Nat} {v:SV} {g:Nat→En} {rw:Bool} {cs:List SV} (hb:s.box u=some ⟨rw,cs⟩) (hv:aO u v m g cs) (hby:m*kB≤140737488355328) (h63:m≤9223372036854775807) {ty:TypeId} {ct:Array Bool} {dst:Option Nat} {K:AS→Prop}
  (h0:m=0→K (s.put dst (some (V (.slice none 0 0)))))
  (hK:0 < m→ ∀ c' cs',cF cs' 0 m c' g→K ((⟨s.env,upd s.box nm (some ⟨true,cs'⟩),s.next⟩:AS).put dst (some (Sl nm 0 m c')))):
  bS P nm .append #[t,tx] ty ct (some [V (.slice none 0 0), .inl (.inl v)]) dst K s:=by
 rcases hv with ⟨⟨a,rfl⟩,rfl⟩ | ⟨o,c,rfl,hc,hs⟩
 ·exact mo (m:=0) (news:=[]) (sz:=66) hk hx rfl (by decide) C5 (.inr ⟨⟨a,rfl⟩,rfl,rfl⟩) h63 hby h0 (fun h=>absurd h (by decide))
 ·exact mo (news:=jM m g) (sz:=66) hk hx rfl (by decide) C5 (.inl ⟨u,o,c,_,rfl,hb,ll,nF hs,by simp⟩) h63 hby h0 (fun hm c' tail h1 h2 h3=>hK hm c' _ (cF.row h1 h2 h3))
def ac0 (k n:Nat) (s:St) (f:Nat→En) (v:AV) (out:Nat→Option aI):Prop:= ∃ sv,v=Ag (aU { s with store:=sv })∧G7 k n f sv out
theorem RE {s:St} {n:Nat} {f:Nat→En} {cs:List SV} (h0:aO 0 s.store n f cs) (hp:cs.all SV.plain=true) (hn:n*72≤140737488355328):
  bz Tryz.prog 28 [Ag (aU s)] 1 (lk [(0,⟨false,cs⟩)]) (ac0 1 n s f):=by
 refine aA Tryz.func28 rfl (by kernel_rfl) (by simp[Tryz.ntmps28]) Tryz.rJ (fun y hy=>by
  obtain rfl:=List.mem_singleton.1 hy
  exact bR (h0.ok (by decide))) eH (eL hp) ?_
 simp only[Tryz.results28,bY,ak,vR,seval, -List.reduceReplicate]
 refine Ou (kB:=72) (rw:=false) (cs:=cs) Tryz.tO Tryz.wq (by simp only[ae,vR,seval, -List.reduceReplicate]) h0 hn (by omega) (fun h=> ?_) (fun h c1 G0 g1=> ?_)
 ·simp only[bY,ak,vR,seval, -List.reduceReplicate]
  exact ao (oY rfl) ⟨_,rfl, .inl ⟨h,rfl,rfl⟩⟩
 ·simp only[bY,ak,vR,seval, -List.reduceReplicate]
  exact X3 (by decide) (by simp only[ae,vR,seval, -List.reduceReplicate]) g1.plain ⟨_,rfl, .inr ⟨h,_,_,rfl,g1,rfl⟩⟩
def gN (s:St) (n:Nat) (f:Nat→En) (m:Nat):Option Nat:=
 if iP s n f=false then some 0 else if 65536 < m then some 1 else if s.peer=false then some 2
 else if s.has=true∧s.ns=4294967295∨s.has=false∧s.se=4294967295 then some 3 else none
def iQ (o:Option Nat):AV:=match o with
 | none=>V .nilIface
 | some i=>V (fA i)
theorem fW (o:Option Nat):AV.plain (iQ o)=true:=by cases o<;>rfl
theorem UL {s:St} {n m i:Nat} {f:Nat→En} (h:gN s n f m=some i):i < 4:=by
 unfold gN at h
 repeat' split at h
 all_goals first | (cases h;decide) | cases h
theorem Ov {s:St} {n m:Nat} {f:Nat→En} {g:Nat→Int} {vp:AV} {cs ds:List SV} (h0:aO 0 s.store n f cs) (hp:cs.all SV.plain=true) (hs:fy s) (hf: ∀ i,ku (f i)) (hn:n < 4611686018427387904) (hv:fC 1 vp m g ds) (hq:ds.all SV.plain=true):
  bz Tryz.prog 15 [Ag (aU s),vp] 2 (lk [(0,⟨false,cs⟩),(1,⟨false,ds⟩)]) (fun v out=>v=iQ (gN s n f m)∧out=fun _=>none):=by
 have hok:AV.ok (fun n=>n < 2) vp:=by
  rcases hv with ⟨⟨a,rfl⟩,_⟩ | ⟨o,c,rfl,_⟩
  ·trivial
  ·exact (show 1 < 2 by decide)
 refine aA Tryz.func15 rfl (by kernel_rfl) (by simp[Tryz.ntmps15]) Tryz.rD (fun y hy=>by
  simp only[List.mem_cons,List.not_mem_nil,or_false]at hy
  rcases hy with rfl | rfl
  ·exact bR (h0.ok (by decide))
  ·exact hok) lg (oU hp hq) ?_
 have Ea: ∀ {box:Nat→Option aI},box 0=some ⟨false,cs⟩→iA box s.store n f:=fun hb=>⟨0,false,cs,hb,hp,h0⟩
 have hl:eJ 1 (some [vp])=some (some (I .i64 m),none):=by
  rcases hv with ⟨⟨a,rfl⟩,rfl⟩ | ⟨o,c,rfl,_⟩<;>rfl
 simp only[Tryz.results15,ak,vR,seval, -List.reduceReplicate]
 refine iA.calls (n:=n) (f:=f) (w:=B (iP s n f)) (Ea (by simp only[ae,vR,seval, -List.reduceReplicate])) rfl (fun v cs hv hp=>by have:=Mz (s:={ s with store:=v }) hv hp (hs.ws v) hf hn;rwa [Dl]at this) ?_
 simp only[vR,seval, -List.reduceReplicate]
 rcases Bool.eq_false_or_eq_true (iP s n f) with hb | hb
 rotate_left 1
 ·simp only[hb,Bool.not_false,vR,seval, -List.reduceReplicate]
  exact ao rfl ⟨by simp[gN,hb,iQ],rfl⟩
 simp only[hb,Bool.not_true,hl,vR,seval, -List.reduceReplicate]
 refine cJ (fun h=> ?_) (fun h=> ?_)
 ·have h':65536 < m:=by have:=of_decide_eq_true h;omega
  simp only[vR,seval, -List.reduceReplicate]
  exact ao rfl ⟨by simp[gN,hb,h',iQ],rfl⟩
 have h1: ¬ 65536 < m:=by have:=of_decide_eq_false h;omega
 simp only[ak,vR,seval, -List.reduceReplicate]
 rcases Bool.eq_false_or_eq_true s.peer with Ww | Ww
 rotate_left 1
 ·simp only[Ww,Bool.not_false,vR,seval, -List.reduceReplicate]
  exact ao rfl ⟨by simp[gN,hb,h1,Ww,iQ],rfl⟩
 simp only[Ww,Bool.not_true,ak,vR,seval, -List.reduceReplicate]
 rcases Bool.eq_false_or_eq_true s.has with hh | hh
 ·simp only[hh,ak,vR,seval, -List.reduceReplicate]
  refine cJ (fun h=> ?_) (fun h=> ?_)
  ·have h2:s.ns=4294967295:=by simpa using h
   simp only[h,vR,seval, -List.reduceReplicate]
   exact ao rfl ⟨by simp[gN,hb,h1,Ww,hh,h2,iQ],rfl⟩
  ·have h2: ¬ s.ns=4294967295:=by simpa using h
   simp only[hh,Bool.not_true,ak,vR,seval, -List.reduceReplicate]
   exact ao rfl ⟨by simp[gN,hb,h1,Ww,hh,h2,iQ],rfl⟩
 ·simp only[hh,Bool.not_false,ak,vR,seval, -List.reduceReplicate]
  refine cJ (fun h=> ?_) (fun h=> ?_)
  ·have h2:s.se=4294967295:=by simpa using h
   simp only[vR,seval, -List.reduceReplicate]
   exact ao rfl ⟨by simp[gN,hb,h1,Ww,hh,h2,iQ],rfl⟩
  ·have h2: ¬ s.se=4294967295:=by simpa using h
   simp only[vR,seval, -List.reduceReplicate]
   exact ao rfl ⟨by simp[gN,hb,h1,Ww,hh,h2,iQ],rfl⟩
end Go.Proofs.YtbipdofobgabhaaGreatDoor
