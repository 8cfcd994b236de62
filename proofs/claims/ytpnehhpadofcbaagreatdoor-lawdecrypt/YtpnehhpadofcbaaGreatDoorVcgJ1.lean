/-
  Refusals, by the machine: the code of a sentinel, a state of its own store.
-/
import Derived.Test.YtpnehhpadofcbaaGreatDoorVcgI1
import Derived.Test.YtpnehhpadofcbaaGreatDoorVcgRx
import Derived.Test.YtpnehhpadofcbaaGreatDoorVcgWi
set_option maxHeartbeats 8000000
set_option maxRecDepth 20000
set_option linter.unusedSimpArgs false
set_option linter.unusedVariables false
set_option linter.unusedSectionVars false
namespace Go.Proofs.YtpnehhpadofcbaaGreatDoor
open Go.bU
variable [aO]
def rj (i:Nat):Int:=if i=4 then 2 else if i=5 then 3 else if i=6 then 4 else if i=7 then 5 else if i=3 then 6 else if i=8 then 8 else if i=2 then 9 else if i=1 then 10 else 1
theorem MN {i:Nat} (hi:i < 9):cI Tryz.prog 33 [V (gH i)] (I .i64 (rj i)):=by
 refine aJ Tryz.func33 rfl (by kernel_rfl) (by simp[Tryz.ntmps33]) rfl rfl ?_
 simp only[Tryz.results33,vS,seval]
 refine (pF (j:=4) hi (by decide)).ax ?_
 simp only[vR,seval]
 refine dI (fun h=> ?_) (fun h4=> ?_)
 ·obtain rfl:i=4:=by simpa using h
  simp only[vR,seval];rfl
 simp only[vR,seval]
 refine (pF (j:=5) hi (by decide)).ax ?_
 simp only[vR,seval]
 refine dI (fun h=> ?_) (fun h5=> ?_)
 ·obtain rfl:i=5:=by simpa using h
  simp only[vR,seval];rfl
 simp only[vR,seval]
 refine (pF (j:=6) hi (by decide)).ax ?_
 simp only[vR,seval]
 refine dI (fun h=> ?_) (fun h6=> ?_)
 ·obtain rfl:i=6:=by simpa using h
  simp only[vR,seval];rfl
 simp only[vR,seval]
 refine (pF (j:=7) hi (by decide)).ax ?_
 simp only[vR,seval]
 refine dI (fun h=> ?_) (fun h7=> ?_)
 ·obtain rfl:i=7:=by simpa using h
  simp only[vR,seval];rfl
 simp only[vR,seval]
 refine (pF (j:=3) hi (by decide)).ax ?_
 simp only[vR,seval]
 refine dI (fun h=> ?_) (fun h3=> ?_)
 ·obtain rfl:i=3:=by simpa using h
  simp only[vR,seval];rfl
 simp only[vR,seval]
 refine (pF (j:=8) hi (by decide)).ax ?_
 simp only[vR,seval]
 refine dI (fun h=> ?_) (fun h8=> ?_)
 ·obtain rfl:i=8:=by simpa using h
  simp only[vR,seval];rfl
 simp only[vR,seval]
 refine (pF (j:=2) hi (by decide)).ax ?_
 simp only[vR,seval]
 refine dI (fun h=> ?_) (fun h2=> ?_)
 ·obtain rfl:i=2:=by simpa using h
  simp only[vR,seval];rfl
 simp only[vR,seval]
 refine (pF (j:=1) hi (by decide)).ax ?_
 simp only[vR,seval]
 refine dI (fun h=> ?_) (fun h1=> ?_)
 ·obtain rfl:i=1:=by simpa using h
  simp only[vR,seval];rfl
 simp only[vR,seval]
 have e:rj i=1:=by
  simp only[beq_eq_false_iff_ne,ne_eq]at h4 h5 h6 h7 h3 h8 h2 h1
  simp only[rj,h4,h5,h6,h7,h3,h8,h2,h1,if_false]
 rw[e]
theorem Rg {P:Program} [bU.Tables P] {t tx by':Nat} (hk:qh P t=some (skZ,66,by')) (hx:rZ P tx=some (none,66)) {s:AS} {nm u m:Nat} {v:SV} {g:Nat→En} {rw:Bool} {cs:List SV} (hb:s.box u=some ⟨rw,cs⟩) (hv:aH u v m g cs) (hby:m*by'≤140737488355328) (h63:m≤9223372036854775807) {ty:TypeId} {ct:Array Bool} {dst:Option Nat} {K:AS→Prop}
  (h0:m=0→K (s.put dst (some (V (.slice none 0 0)))))
  (hK:0 < m→ ∀ c' cs',bz cs' 0 m c' g→K ((⟨s.env,upd s.box nm (some ⟨true,cs'⟩),s.next⟩:AS).put dst (some (Sl nm 0 m c')))):
  bQ P nm .append #[t,tx] ty ct (some [V (.slice none 0 0), .inl (.inl v)]) dst K s:=by
 rcases hv with ⟨⟨a,rfl⟩,rfl⟩ | ⟨o,c,rfl,hc,hs⟩
 ·exact ji (m:=0) (news:=[]) (sz:=66) hk hx rfl (by decide) xG (.inr ⟨⟨a,rfl⟩,rfl,rfl⟩) h63 hby h0 (fun h=>absurd h (by decide))
 ·exact ji (news:=jm m g) (sz:=66) hk hx rfl (by decide) xG (.inl ⟨u,o,c,_,rfl,hb,iy,jD hs,by simp⟩) h63 hby h0 (fun hm c' tail h1 h2 h3=>hK hm c' _ (bz.row h1 h2 h3))
def aev (k n:Nat) (s:St) (f:Nat→En) (v:AV) (out:Nat→Option aN):Prop:= ∃ sv,v=Ag (bC { s with store:=sv })∧PK k n f sv out
theorem Uh {s:St} {n:Nat} {f:Nat→En} {cs:List SV} (h0:aH 0 s.store n f cs) (hp:cs.all SV.plain=true) (hn:n*72≤140737488355328):
  bf Tryz.prog 34 [Ag (bC s)] 1 (lk [(0,⟨false,cs⟩)]) (aev 1 n s f):=by
 refine av Tryz.func34 rfl (by kernel_rfl) (by simp[Tryz.ntmps34]) Tryz.tY (fun y hy=>by
  obtain rfl:=List.mem_singleton.1 hy
  exact bF (h0.ok (by decide))) dG (dH hp) ?_
 simp only[Tryz.results34,eZ,ao,vR,seval]
 refine Rg (by':=72) (rw:=false) (cs:=cs) Tryz.jQ Tryz.ki (by simp only[ae,vR,seval]) h0 hn (by omega) (fun h=> ?_) (fun h c1 kk g1=> ?_)
 ·simp only[eZ,ao,vR,seval]
  exact ak (I' rfl) ⟨_,rfl, .inl ⟨h,rfl,rfl⟩⟩
 ·simp only[eZ,ao,vR,seval]
  exact Zu (by decide) (by simp only[ae,vR,seval]) g1.plain ⟨_,rfl, .inr ⟨h,_,_,rfl,g1,rfl⟩⟩
def oC (o:Option Nat):AV:=match o with
 | none=>V .nilIface
 | some i=>V (gH i)
theorem iD (o:Option Nat):AV.plain (oC o)=true:=by cases o<;>rfl
end Go.Proofs.YtpnehhpadofcbaaGreatDoor
