/-
  The document's walk along a chain: the message keys, and the chain key behind the last.
-/
import Derived.Test.YtpnehhpadofcbaaGreatDoorVcgDH
import Derived.Test.YtpnehhpadofcbaaGreatDoorVcgKy
import Derived.Test.YtpnehhpadofcbaaGreatDoorVcgE1
import Derived.Test.YtpnehhpadofcbaaGreatDoorVcgI1
import Derived.Test.YtpnehhpadofcbaaGreatDoorVcgRx
import Derived.Test.YtpnehhpadofcbaaGreatDoorVcgR5
set_option maxHeartbeats 16000000
set_option maxRecDepth 20000
set_option linter.unusedSimpArgs false
set_option linter.unusedVariables false
set_option linter.unusedSectionVars false
namespace Go.Proofs.YtpnehhpadofcbaaGreatDoor
open Go.bU
variable [aO]
def Sn (ch:Nat→Int):Nat→(Nat→Int)
 | 0=>ch
 | k+1=>qk (Sn ch k) 2
theorem Qx {ch:Nat→Int} (h:br ch): ∀ k,br (Sn ch k)
 | 0=>h
 | k+1=>pQ _ _
def Xk (ch:Nat→Int) (i:Nat):Nat→Int:=qk (Sn ch i) 1
def zo (ch:Nat→Int) (n i:Nat):Nat→Int:=if i < n then Xk ch i else Sn ch n
theorem mz {cs:List SV} {n c:Nat} {f g:Nat→Nat→Int} (h:kx cs n c f) (e: ∀ i,i < n→f i=g i):kx cs n c g:=
 ⟨h.len,h.room,h.plain,fun i hi=>by rw[h.shows i hi];unfold wV;rw[e (i / 32) (by omega)]⟩
def acO (k n:Nat) (ch:Nat→Int) (v:AV) (out:Nat→Option aN):Prop:= ∃ c cs,v=Sl k 0 (n+1) c∧kx cs (n+1) c (zo ch n)∧out=lk [(k,⟨true,cs⟩)]
def wkS (n:Nat) (ch:Nat→Int) (k:Nat) (v5:AV) (l:List (Nat×aN)):AS:=oZ [(1,I .i64 n),(2,Ptr 0 0),(5,v5),(6,I .i64 k)] (l++[(0,⟨true,af .u8 32 (Sn ch k)⟩)]) 100
def WkI (n:Nat) (ch:Nat→Int) (k:Nat) (t:AS):Prop:=
 (k=0∧t=wkS n ch 0 (V (.slice none 0 0)) [])∨(0 < k∧ ∃ c cs,kx cs k c (Xk ch)∧t=wkS n ch k (Sl 60 0 k c) [(60,⟨true,cs⟩)])
theorem Z9 {ch:Nat→Int} {n:Nat} (hc:br ch) (hn:n < 1000000):bf Tryz.prog 42 [Ag (af .u8 32 ch),I .i64 n] 0 (fun _=>none) (acO 0 n ch):=by
 refine av Tryz.func42 rfl (by kernel_rfl) (by simp[Tryz.ntmps42]) Tryz.uc (fun y hy=>by
  simp only[List.mem_cons,List.not_mem_nil,or_false]at hy
  rcases hy with rfl | rfl
  ·exact AV.bk (by simpa[AV.plain,CV.plain] using aw)
  ·trivial) (fun n hn=>by omega) (fun n b hb=>by cases hb) ?_
 simp only[Tryz.results42,vR,seval, -List.reduceReplicate]
 refine TD n (WkI n ch) ?_ ?_ ?_ ?_
 ·rintro k t (⟨rfl,rfl⟩ | ⟨_,c,cs,_,rfl⟩)<;>exact Nat.le_of_ble_eq_true rfl
 ·refine ⟨_, .inl ⟨rfl,rfl⟩,eP.dq (p:=60) (q:=60) ⟨Nat.le_of_ble_eq_true rfl, .inr (F0 (show 0≠60 by decide)),TC ⟨rfl,trivial⟩ ⟨rfl,show 0 < 100 by decide⟩ ⟨rfl,trivial⟩ ⟨rfl,trivial⟩,F0 ⟨.inl (Nat.lt_of_lt_of_le Nat.zero_lt_one (Nat.le_of_ble_eq_true rfl)),rfl,show 0 < 100 by decide, .inl aw⟩⟩⟩
 ·rintro k t hk (⟨rfl,rfl⟩ | ⟨h0,c,cs,hg,rfl⟩)
  ·simp only[wkS,List.nil_append,dr,vR,seval, -List.reduceReplicate]
   refine az (by simp;omega) ?_
   simp only[vR,seval, -List.reduceReplicate]
   refine (qb (Sn ch 0) (Qx hc 0)).ax ?_
   simp only[wA,Xj,GY,vR,seval, -List.reduceReplicate]
   refine Fq (f:=Xk ch) (key:=qk (Sn ch 0) 1) (rw:=true) Tryz.EU Tryz.PG (by simp only[ae,vR,seval, -List.reduceReplicate]) ?_
   intro c1 kk g1
   simp only[vR,seval, -List.reduceReplicate]
   refine ⟨_, .inr ⟨by decide,c1,kk,mz g1 (fun i hi=> ?_),rfl⟩,eP.dq (p:=60) (q:=115) ⟨Nat.le_of_ble_eq_true rfl, .inl (Nat.le_of_ble_eq_true rfl),TC ⟨rfl,trivial⟩ ⟨rfl,show 0 < 100 by decide⟩ ⟨rfl,show 60 < 100 by decide⟩ ⟨rfl,trivial⟩,Dc ⟨.inr rfl,by simp only[ae,vR,seval, -List.reduceReplicate],show 60 < 100 by decide, .inl g1.plain⟩ ⟨.inl (Nat.lt_of_lt_of_le Nat.zero_lt_one (Nat.le_of_ble_eq_true rfl)),by simp only[ae,vR,seval, -List.reduceReplicate];rfl,show 0 < 100 by decide, .inl aw⟩⟩⟩
   obtain rfl:i=0:=by omega
   exact ay _ _ _
  ·simp only[wkS,List.cons_append,List.nil_append,dr,vR,seval, -List.reduceReplicate]
   refine az (by simp;omega) ?_
   simp only[vR,seval, -List.reduceReplicate]
   refine (qb (Sn ch k) (Qx hc k)).ax ?_
   simp only[wA,Xj,GY,vR,seval, -List.reduceReplicate]
   refine KW (key:=qk (Sn ch k) 1) (rw:=true) Tryz.EU Tryz.PG (by simp only[ae,vR,seval, -List.reduceReplicate]) hg (by simp only[ae,vR,seval, -List.reduceReplicate]) (by decide) (by omega) ?_
   intro c1 kk g1
   simp only[vR,seval, -List.reduceReplicate]
   refine ⟨_, .inr ⟨by omega,c1,kk,mz g1 (fun i hi=> ?_),rfl⟩,eP.dq (p:=60) (q:=115) ⟨Nat.le_of_ble_eq_true rfl, .inl (Nat.le_of_ble_eq_true rfl),TC ⟨rfl,trivial⟩ ⟨rfl,show 0 < 100 by decide⟩ ⟨rfl,show 60 < 100 by decide⟩ ⟨?_,trivial⟩,Dc ⟨.inr rfl,by simp only[ae,vR,seval, -List.reduceReplicate],show 60 < 100 by decide, .inl g1.plain⟩ ⟨.inl (Nat.lt_of_lt_of_le Nat.zero_lt_one (Nat.le_of_ble_eq_true rfl)),by simp only[ae,vR,seval, -List.reduceReplicate];rfl,show 0 < 100 by decide, .inl aw⟩⟩⟩
   ·unfold upd;split
    ·rename_i e;subst e;rfl
    ·rfl
   ·simp only[ae,vR,seval, -List.reduceReplicate]
    rw[bt k (by omega)]
    rfl
 ·rintro t (⟨rfl,rfl⟩ | ⟨h0,c,cs,hg,rfl⟩)
  ·simp only[wkS,List.nil_append,dr,vR,seval, -List.reduceReplicate]
   refine aD (by simp) ?_
   simp only[Xj,GY,vR,seval, -List.reduceReplicate]
   refine Fq (f:=Xk ch) (key:=Sn ch 0) (rw:=true) Tryz.EU Tryz.PG (by simp only[ae,vR,seval, -List.reduceReplicate]) ?_
   intro c1 kk g1
   simp only[vR,seval, -List.reduceReplicate]
   refine dV (k:=0) (cs:=kk) (by decide) (by simp only[ae,vR,seval, -List.reduceReplicate]) g1.plain ⟨c1,kk,rfl,mz g1 (fun i hi=> ?_),rfl⟩
   obtain rfl:i=0:=by omega
   exact ay _ _ _
  ·simp only[wkS,List.cons_append,List.nil_append,dr,vR,seval, -List.reduceReplicate]
   refine aD (by simp) ?_
   simp only[Xj,GY,vR,seval, -List.reduceReplicate]
   refine KW (key:=Sn ch n) (rw:=true) Tryz.EU Tryz.PG (by simp only[ae,vR,seval, -List.reduceReplicate]) hg (by simp only[ae,vR,seval, -List.reduceReplicate]) (by decide) (by omega) ?_
   intro c1 kk g1
   simp only[vR,seval, -List.reduceReplicate]
   refine dV (k:=0) (cs:=kk) (by decide) (by simp only[ae,vR,seval, -List.reduceReplicate]) g1.plain ⟨c1,kk,rfl,mz g1 (fun i hi=> ?_),rfl⟩
   unfold upd zo;split
   ·rename_i e;subst e;rw[if_neg (by omega)]
   ·rw[if_pos (by omega)]
theorem CF {s:AS} {nm z m:Nat} {aG tag body:Nat→Int} {pn n:Int} {sv:SV} {cs:List SV} {rw:Bool} (hz:s.box z=some ⟨rw,cs⟩) (hp:cs.all SV.plain=true) (hv:bG s.box (.inl (.inl sv)) m body) (hm:m≤65536) {dst:Option Nat} {K:AS→Prop}
  (hk: ∀ c cs',bK cs' 0 (45+m+32) c (xW aG pn n m body tag)→K ((⟨s.env,upd s.box nm (some ⟨true,cs'⟩),s.next⟩:AS).put dst (some (Sl nm 0 (45+m+32) c)))):
  ax Tryz.prog nm 39 (some [Ag (fT aG pn n sv tag)]) dst K s:=by
 rcases hv with ⟨⟨a,e⟩,h0⟩ | ⟨t,o,c,rw',ds,e,hb,hq,hs⟩
 ·exact sU hz hp (.inl ⟨⟨a,e⟩,h0⟩) hm hk
 ·exact sU hb hq (.inr ⟨o,c,e,hs⟩) hm hk
theorem bM {s:AS} {nm t n:Nat} {y:Int} {x:St} {f:Nat→En} {rw:Bool} {cs:List SV} (hb:s.box t=some ⟨rw,cs⟩) (hp:cs.all SV.plain=true) (hi:aH t x.store n f cs) (hn:y≠1→n*72≤140737488355328) {dst:Option Nat} {K:AS→Prop}
  (h0:y=1→K (s.put dst (some (Ag (eV 1 rM (.inl (.slice none 0 0)) 0 0)))))
  (hk:y≠1→ ∀ c cs',bz cs' 0 n c f→K ((⟨s.env,upd s.box nm (some ⟨true,cs'⟩),s.next⟩:AS).put dst (some (Ag (eV y { x with store:= .inr (.inr (nm,0,n,c)) } (.inl (.slice none 0 0)) 0 0))))):ax Tryz.prog nm 21 (some [I .i64 y,Ag (bC x)]) dst K s:=by
 obtain ⟨v0,g0,e0⟩:=hi.name (k:=0)
 refine (GW (s:={ x with store:=v0 }) g0 hp hn).ax (fun _=>t) none (bS hb hp) ?_ ?_
 ·simp only[List.map_cons,List.map_nil,eM,e0 (fun _=>t) rfl];rfl
 ·rintro v out (⟨hy,rfl,rfl⟩ | ⟨hy,c,cs',rfl,hg,rfl⟩) _
  ·have e:after s (fun _=>t) 1 nm none (fun _=>none)=s.box:=by funext x;simp[after]
   rw[e,AV.bB (jV rfl rfl)]
   exact h0 hy
  ·have e2:SV.aI (dJ (fun _=>t) 1 nm) (.inr (.inr (1,0,n,c)))= .inr (.inr (nm,0,n,c)):=by simp only[SV.aI,jI,gT]
   rw[fN hg.plain,uK]
   dsimp only
   rw[e2]
   exact hk hy c cs' hg
theorem rX {e n:Int} (he:mC e) (hn:mC n):cI Tryz.prog 35 [I .u32 e,I .u32 n] (I .u64 (vY e n)):=by
 refine aJ Tryz.func35 rfl (by kernel_rfl) (by simp[Tryz.ntmps35]) rfl rfl ?_
 simp only[Tryz.results35,vS,seval, -List.reduceReplicate]
 simp only[mC]at he hn
 have e1:IntKind.u64.wrap e=e:=by rw[wrap_u64];omega
 have e2:IntKind.u64.wrap n=n:=by rw[wrap_u64];omega
 have e3:gp .u64 e 32=e*4294967296:=by
  have:=iK .u64 e 32 (by decide)
  rw[wrap_u64]at this
  show gp .u64 e 32=_
  rw[show (32:Int)=((32:Nat):Int) from rfl,this];omega
 have e4:IntKind.u64.wrap (e*4294967296+n)=vY e n:=by rw[wrap_u64];unfold vY;omega
 rw[e1,e2,e3,e4]
def Dp (s:St):Bool:=s.own||s.peer
def vE:Nat→List Bool→List (Nat×AV)
 | _,[]=>[]
 | k,b::r=>(k,B b)::vE (k+1) r
theorem np {k:Nat}:vE k []=[]:=rfl
theorem ky {k:Nat} {b:Bool} {r:List Bool}:vE k (b::r)=(k,B b)::vE (k+1) r:=rfl
def sn (bs:List Bool):List (Nat×AV):=(1,Ptr 1 0)::(3,Ptr 4 0)::vE 4 bs
def su (s:St) (cs:List SV):List (Nat×aN):=[(0,⟨false,cs⟩),(1,⟨true,bC s⟩),(4,⟨true,af .u8 32 (fun _=>0)⟩)]
def Dq (s:St) (cs:List SV) (k:Nat) (bs:List Bool) (s2:AS):Prop:=s2=oZ (sn bs) (su s cs) (100*k)
theorem acP {s:St} {n:Nat} {f:Nat→En} {cs:List SV} (h0:aH 0 s.store n f cs) (hp:cs.all SV.plain=true) (hs:gy s)  {F:Exit→AS→Prop}:
  l9 Tryz.prog 1 (Dq s cs 1 [fx s n]) 3 (Tryz.f20.body.getD .skip) F (bU.start [Ag (bC s)] (lk [(0,⟨false,cs⟩)]) 1):=by
 have hl:=h0.len
 have CG:(s.re==0)= !decide (0 < s.re):=by have:=hs.re.1;rcases Bool.eq_false_or_eq_true (decide (0 < s.re)) with h | h<;>rw[h]<;>simp at h ⊢ <;>omega
 have Vj:(s.se==0)= !decide (0 < s.se):=by have:=hs.se.1;rcases Bool.eq_false_or_eq_true (decide (0 < s.se)) with h | h<;>rw[h]<;>simp at h ⊢ <;>omega
 have fO:(∀ x ∈ cs,SV.ok (fun n=>n < 100) x)=True:=eq_true (aC hp)
 have jX:(∀ x ∈ bC s,SV.ok (fun n=>n < 100) x)=True:=eq_true (bF (h0.ok (by decide)))
 have mF:(∀ x ∈ af .u8 32 (fun _=>(0:Int)),SV.ok (fun n=>n < 100) x)=True:=eq_true (aC aw)
 have RW: ∀ {t:AS} {c:Code} {b:Bool},(fx s n)=b→iq t [(1,Ptr 1 0),(3,Ptr 4 0),(4,B b)] [(0,⟨false,cs⟩),(1,⟨true,bC s⟩),(4,⟨true,af .u8 32 (fun _=>0)⟩)] 100→l9 Tryz.prog 1 (Dq s cs 1 [fx s n]) 0 c F t:=fun e h=>mO h (by decide) (by rw[← e];rfl)
 simp only[Tryz.f20,Option.getD_some,gU,gV,sn,ky,np,su,dr]
 rcases Bool.eq_false_or_eq_true (decide (0≤s.skip)) with h0 | h0
 ·rcases Bool.eq_false_or_eq_true (decide (s.skip≤1000)) with h1 | h1
  ·rcases Bool.eq_false_or_eq_true (decide (0≤s.room)) with h2 | h2
   ·rcases Bool.eq_false_or_eq_true (decide (s.room≤1000)) with h3 | h3
    ·rcases Bool.eq_false_or_eq_true (decide ((n:Int)≤s.room)) with h4 | h4
     ·(have e:fx s n=true:=(by simp[fx,h0,h1,h2,h3,h4]);simp only[h0,h1,h2,h3,h4,hl,Bool.not_true,Bool.not_false,bne,aL,aM,aF,aj,ao,vL,seval, -List.reduceReplicate];refine RW e ?_;simp only[fO,jX,mF,vL,seval, -List.reduceReplicate])
     ·(have e:fx s n=false:=(by simp[fx,h0,h1,h2,h3,h4]);simp only[h0,h1,h2,h3,h4,hl,Bool.not_true,Bool.not_false,bne,aL,aM,aF,aj,ao,vL,seval, -List.reduceReplicate];refine RW e ?_;simp only[fO,jX,mF,vL,seval, -List.reduceReplicate])
    ·(have e:fx s n=false:=(by simp[fx,h0,h1,h2,h3]);simp only[h0,h1,h2,h3,hl,Bool.not_true,Bool.not_false,bne,aL,aM,aF,aj,ao,vL,seval, -List.reduceReplicate];refine RW e ?_;simp only[fO,jX,mF,vL,seval, -List.reduceReplicate])
   ·(have e:fx s n=false:=(by simp[fx,h0,h1,h2]);simp only[h0,h1,h2,hl,Bool.not_true,Bool.not_false,bne,aL,aM,aF,aj,ao,vL,seval, -List.reduceReplicate];refine RW e ?_;simp only[fO,jX,mF,vL,seval, -List.reduceReplicate])
  ·(have e:fx s n=false:=(by simp[fx,h0,h1]);simp only[h0,h1,hl,Bool.not_true,Bool.not_false,bne,aL,aM,aF,aj,ao,vL,seval, -List.reduceReplicate];refine RW e ?_;simp only[fO,jX,mF,vL,seval, -List.reduceReplicate])
 ·(have e:fx s n=false:=(by simp[fx,h0]);simp only[h0,hl,Bool.not_true,Bool.not_false,bne,aL,aM,aF,aj,ao,vL,seval, -List.reduceReplicate];refine RW e ?_;simp only[fO,jX,mF,vL,seval, -List.reduceReplicate])
theorem acQ {s:St} {n:Nat} {f:Nat→En} {cs:List SV} (h0:aH 0 s.store n f cs) (hp:cs.all SV.plain=true) (hs:gy s) {c0:Bool} {F:Exit→AS→Prop}:
  l9 Tryz.prog 1 (Dq s cs 2 [c0,Dp s]) 1 (nC 3 (Tryz.f20.body.getD .skip)) F (oZ (sn [c0]) (su s cs) 100):=by
 have hl:=h0.len
 have CG:(s.re==0)= !decide (0 < s.re):=by have:=hs.re.1;rcases Bool.eq_false_or_eq_true (decide (0 < s.re)) with h | h<;>rw[h]<;>simp at h ⊢ <;>omega
 have Vj:(s.se==0)= !decide (0 < s.se):=by have:=hs.se.1;rcases Bool.eq_false_or_eq_true (decide (0 < s.se)) with h | h<;>rw[h]<;>simp at h ⊢ <;>omega
 have fO:(∀ x ∈ cs,SV.ok (fun n=>n < 200) x)=True:=eq_true (aC hp)
 have jX:(∀ x ∈ bC s,SV.ok (fun n=>n < 200) x)=True:=eq_true (bF (h0.ok (by decide)))
 have mF:(∀ x ∈ af .u8 32 (fun _=>(0:Int)),SV.ok (fun n=>n < 200) x)=True:=eq_true (aC aw)
 have Z': ∀ {t:AS} {c:Code} {b:Bool},(Dp s)=b→iq t [(1,Ptr 1 0),(3,Ptr 4 0),(4,B c0),(5,B b)] [(0,⟨false,cs⟩),(1,⟨true,bC s⟩),(4,⟨true,af .u8 32 (fun _=>0)⟩)] 200→l9 Tryz.prog 1 (Dq s cs 2 [c0,Dp s]) 0 c F t:=fun e h=>mO h (by decide) (by rw[← e];rfl)
 simp only[Tryz.f20,Option.getD_some,gU,gV,sn,ky,np,su,dr]
 rcases Bool.eq_false_or_eq_true (s.own) with h0 | h0
 ·(have e:Dp s=true:=(by simp[Dp,h0]);simp only[h0,hl,Bool.not_true,Bool.not_false,bne,aL,aM,aF,aj,ao,vL,seval, -List.reduceReplicate];refine Z' e ?_;simp only[fO,jX,mF,vL,seval, -List.reduceReplicate])
 ·rcases Bool.eq_false_or_eq_true (s.peer) with h1 | h1
  ·(have e:Dp s=true:=(by simp[Dp,h0,h1]);simp only[h0,h1,hl,Bool.not_true,Bool.not_false,bne,aL,aM,aF,aj,ao,vL,seval, -List.reduceReplicate];refine Z' e ?_;simp only[fO,jX,mF,vL,seval, -List.reduceReplicate])
  ·(have e:Dp s=false:=(by simp[Dp,h0,h1]);simp only[h0,h1,hl,Bool.not_true,Bool.not_false,bne,aL,aM,aF,aj,ao,vL,seval, -List.reduceReplicate];refine Z' e ?_;simp only[fO,jX,mF,vL,seval, -List.reduceReplicate])
theorem acR {s:St} {n:Nat} {f:Nat→En} {cs:List SV} (h0:aH 0 s.store n f cs) (hp:cs.all SV.plain=true) (hs:gy s) {c0 c1:Bool} {F:Exit→AS→Prop}:
  l9 Tryz.prog 1 (Dq s cs 3 [c0,c1,dp s]) 1 (nC 4 (Tryz.f20.body.getD .skip)) F (oZ (sn [c0,c1]) (su s cs) 200):=by
 have hl:=h0.len
 have CG:(s.re==0)= !decide (0 < s.re):=by have:=hs.re.1;rcases Bool.eq_false_or_eq_true (decide (0 < s.re)) with h | h<;>rw[h]<;>simp at h ⊢ <;>omega
 have Vj:(s.se==0)= !decide (0 < s.se):=by have:=hs.se.1;rcases Bool.eq_false_or_eq_true (decide (0 < s.se)) with h | h<;>rw[h]<;>simp at h ⊢ <;>omega
 have fO:(∀ x ∈ cs,SV.ok (fun n=>n < 300) x)=True:=eq_true (aC hp)
 have jX:(∀ x ∈ bC s,SV.ok (fun n=>n < 300) x)=True:=eq_true (bF (h0.ok (by decide)))
 have mF:(∀ x ∈ af .u8 32 (fun _=>(0:Int)),SV.ok (fun n=>n < 300) x)=True:=eq_true (aC aw)
 have sx: ∀ {t:AS} {c:Code} {b:Bool},(dp s)=b→iq t [(1,Ptr 1 0),(3,Ptr 4 0),(4,B c0),(5,B c1),(6,B b)] [(0,⟨false,cs⟩),(1,⟨true,bC s⟩),(4,⟨true,af .u8 32 (fun _=>0)⟩)] 300→l9 Tryz.prog 1 (Dq s cs 3 [c0,c1,dp s]) 0 c F t:=fun e h=>mO h (by decide) (by rw[← e];rfl)
 simp only[Tryz.f20,Option.getD_some,gU,gV,sn,ky,np,su,dr]
 rcases Bool.eq_false_or_eq_true (s.own) with h0 | h0
 ·rcases Bool.eq_false_or_eq_true (s.peer) with h1 | h1
  ·rcases Bool.eq_false_or_eq_true (s.has) with h2 | h2
   ·(have e:dp s=true:=(by simp[dp,h0,h1,h2]);simp only[h0,h1,h2,hl,Bool.not_true,Bool.not_false,bne,aL,aM,aF,aj,ao,vL,seval, -List.reduceReplicate];refine sx e ?_;simp only[fO,jX,mF,vL,seval, -List.reduceReplicate])
   ·rcases Bool.eq_false_or_eq_true (xF s.send) with h3 | h3
    ·(have e:dp s=true:=(by simp[dp,h0,h1,h2,h3]);simp only[h0,h1,h2,h3,hl,Bool.not_true,Bool.not_false,bne,aL,aM,aF,aj,ao,vL,seval, -List.reduceReplicate];refine sx e ?_;simp only[fO,jX,mF,vL,seval, -List.reduceReplicate])
    ·(have e:dp s=false:=(by simp[dp,h0,h1,h2,h3]);simp only[h0,h1,h2,h3,hl,Bool.not_true,Bool.not_false,bne,aL,aM,aF,aj,ao,vL,seval, -List.reduceReplicate];refine sx e ?_;simp only[fO,jX,mF,vL,seval, -List.reduceReplicate])
  ·rcases Bool.eq_false_or_eq_true (xF s.zA) with h2 | h2
   ·rcases Bool.eq_false_or_eq_true (s.has) with h3 | h3
    ·(have e:dp s=true:=(by simp[dp,h0,h1,h2,h3]);simp only[h0,h1,h2,h3,hl,Bool.not_true,Bool.not_false,bne,aL,aM,aF,aj,ao,vL,seval, -List.reduceReplicate];refine sx e ?_;simp only[fO,jX,mF,vL,seval, -List.reduceReplicate])
    ·rcases Bool.eq_false_or_eq_true (xF s.send) with h4 | h4
     ·(have e:dp s=true:=(by simp[dp,h0,h1,h2,h3,h4]);simp only[h0,h1,h2,h3,h4,hl,Bool.not_true,Bool.not_false,bne,aL,aM,aF,aj,ao,vL,seval, -List.reduceReplicate];refine sx e ?_;simp only[fO,jX,mF,vL,seval, -List.reduceReplicate])
     ·(have e:dp s=false:=(by simp[dp,h0,h1,h2,h3,h4]);simp only[h0,h1,h2,h3,h4,hl,Bool.not_true,Bool.not_false,bne,aL,aM,aF,aj,ao,vL,seval, -List.reduceReplicate];refine sx e ?_;simp only[fO,jX,mF,vL,seval, -List.reduceReplicate])
   ·(have e:dp s=false:=(by simp[dp,h0,h1,h2]);simp only[h0,h1,h2,hl,Bool.not_true,Bool.not_false,bne,aL,aM,aF,aj,ao,vL,seval, -List.reduceReplicate];refine sx e ?_;simp only[fO,jX,mF,vL,seval, -List.reduceReplicate])
 ·rcases Bool.eq_false_or_eq_true (xF s.priv) with h1 | h1
  ·rcases Bool.eq_false_or_eq_true (xF s.aG) with h2 | h2
   ·rcases Bool.eq_false_or_eq_true (s.peer) with h3 | h3
    ·rcases Bool.eq_false_or_eq_true (s.has) with h4 | h4
     ·(have e:dp s=true:=(by simp[dp,h0,h1,h2,h3,h4]);simp only[h0,h1,h2,h3,h4,hl,Bool.not_true,Bool.not_false,bne,aL,aM,aF,aj,ao,vL,seval, -List.reduceReplicate];refine sx e ?_;simp only[fO,jX,mF,vL,seval, -List.reduceReplicate])
     ·rcases Bool.eq_false_or_eq_true (xF s.send) with h5 | h5
      ·(have e:dp s=true:=(by simp[dp,h0,h1,h2,h3,h4,h5]);simp only[h0,h1,h2,h3,h4,h5,hl,Bool.not_true,Bool.not_false,bne,aL,aM,aF,aj,ao,vL,seval, -List.reduceReplicate];refine sx e ?_;simp only[fO,jX,mF,vL,seval, -List.reduceReplicate])
      ·(have e:dp s=false:=(by simp[dp,h0,h1,h2,h3,h4,h5]);simp only[h0,h1,h2,h3,h4,h5,hl,Bool.not_true,Bool.not_false,bne,aL,aM,aF,aj,ao,vL,seval, -List.reduceReplicate];refine sx e ?_;simp only[fO,jX,mF,vL,seval, -List.reduceReplicate])
    ·rcases Bool.eq_false_or_eq_true (xF s.zA) with h4 | h4
     ·rcases Bool.eq_false_or_eq_true (s.has) with h5 | h5
      ·(have e:dp s=true:=(by simp[dp,h0,h1,h2,h3,h4,h5]);simp only[h0,h1,h2,h3,h4,h5,hl,Bool.not_true,Bool.not_false,bne,aL,aM,aF,aj,ao,vL,seval, -List.reduceReplicate];refine sx e ?_;simp only[fO,jX,mF,vL,seval, -List.reduceReplicate])
      ·rcases Bool.eq_false_or_eq_true (xF s.send) with h6 | h6
       ·(have e:dp s=true:=(by simp[dp,h0,h1,h2,h3,h4,h5,h6]);simp only[h0,h1,h2,h3,h4,h5,h6,hl,Bool.not_true,Bool.not_false,bne,aL,aM,aF,aj,ao,vL,seval, -List.reduceReplicate];refine sx e ?_;simp only[fO,jX,mF,vL,seval, -List.reduceReplicate])
       ·(have e:dp s=false:=(by simp[dp,h0,h1,h2,h3,h4,h5,h6]);simp only[h0,h1,h2,h3,h4,h5,h6,hl,Bool.not_true,Bool.not_false,bne,aL,aM,aF,aj,ao,vL,seval, -List.reduceReplicate];refine sx e ?_;simp only[fO,jX,mF,vL,seval, -List.reduceReplicate])
     ·(have e:dp s=false:=(by simp[dp,h0,h1,h2,h3,h4]);simp only[h0,h1,h2,h3,h4,hl,Bool.not_true,Bool.not_false,bne,aL,aM,aF,aj,ao,vL,seval, -List.reduceReplicate];refine sx e ?_;simp only[fO,jX,mF,vL,seval, -List.reduceReplicate])
   ·(have e:dp s=false:=(by simp[dp,h0,h1,h2]);simp only[h0,h1,h2,hl,Bool.not_true,Bool.not_false,bne,aL,aM,aF,aj,ao,vL,seval, -List.reduceReplicate];refine sx e ?_;simp only[fO,jX,mF,vL,seval, -List.reduceReplicate])
  ·(have e:dp s=false:=(by simp[dp,h0,h1]);simp only[h0,h1,hl,Bool.not_true,Bool.not_false,bne,aL,aM,aF,aj,ao,vL,seval, -List.reduceReplicate];refine sx e ?_;simp only[fO,jX,mF,vL,seval, -List.reduceReplicate])
theorem acS {s:St} {n:Nat} {f:Nat→En} {cs:List SV} (h0:aH 0 s.store n f cs) (hp:cs.all SV.plain=true) (hs:gy s) {c0 c1 c2:Bool} {F:Exit→AS→Prop}:
  l9 Tryz.prog 1 (Dq s cs 4 [c0,c1,c2,eQ s]) 1 (nC 5 (Tryz.f20.body.getD .skip)) F (oZ (sn [c0,c1,c2]) (su s cs) 300):=by
 have hl:=h0.len
 have CG:(s.re==0)= !decide (0 < s.re):=by have:=hs.re.1;rcases Bool.eq_false_or_eq_true (decide (0 < s.re)) with h | h<;>rw[h]<;>simp at h ⊢ <;>omega
 have Vj:(s.se==0)= !decide (0 < s.se):=by have:=hs.se.1;rcases Bool.eq_false_or_eq_true (decide (0 < s.se)) with h | h<;>rw[h]<;>simp at h ⊢ <;>omega
 have fO:(∀ x ∈ cs,SV.ok (fun n=>n < 400) x)=True:=eq_true (aC hp)
 have jX:(∀ x ∈ bC s,SV.ok (fun n=>n < 400) x)=True:=eq_true (bF (h0.ok (by decide)))
 have mF:(∀ x ∈ af .u8 32 (fun _=>(0:Int)),SV.ok (fun n=>n < 400) x)=True:=eq_true (aC aw)
 have zI: ∀ {t:AS} {c:Code} {b:Bool},(eQ s)=b→iq t [(1,Ptr 1 0),(3,Ptr 4 0),(4,B c0),(5,B c1),(6,B c2),(7,B b)] [(0,⟨false,cs⟩),(1,⟨true,bC s⟩),(4,⟨true,af .u8 32 (fun _=>0)⟩)] 400→l9 Tryz.prog 1 (Dq s cs 4 [c0,c1,c2,eQ s]) 0 c F t:=fun e h=>mO h (by decide) (by rw[← e];rfl)
 simp only[Tryz.f20,Option.getD_some,gU,gV,sn,ky,np,su,dr]
 rcases Bool.eq_false_or_eq_true (decide (0 < s.re)) with h0 | h0
 ·rcases Bool.eq_false_or_eq_true (decide (0 < s.se)) with h1 | h1
  ·(have e:eQ s=true:=(by have q:(s.re==0)= !decide (0 < s.re):=CG;simp[eQ,q,h0,h1]);simp only[h0,h1,hl,Bool.not_true,Bool.not_false,bne,aL,aM,aF,aj,ao,vL,seval, -List.reduceReplicate];refine zI e ?_;simp only[fO,jX,mF,vL,seval, -List.reduceReplicate])
  ·rcases Bool.eq_false_or_eq_true (s.has) with h2 | h2
   ·(have e:eQ s=false:=(by have q:(s.re==0)= !decide (0 < s.re):=CG;simp[eQ,q,h0,h1,h2]);simp only[h0,h1,h2,hl,Bool.not_true,Bool.not_false,bne,aL,aM,aF,aj,ao,vL,seval, -List.reduceReplicate];refine zI e ?_;simp only[fO,jX,mF,vL,seval, -List.reduceReplicate])
   ·rcases Bool.eq_false_or_eq_true (s.ns==0) with h3 | h3
    ·rcases Bool.eq_false_or_eq_true (s.pn==0) with h4 | h4
     ·(have e:eQ s=true:=(by have q:(s.re==0)= !decide (0 < s.re):=CG;simp[eQ,q,h0,h1,h2,h3,h4]);simp only[h0,h1,h2,h3,h4,hl,Bool.not_true,Bool.not_false,bne,aL,aM,aF,aj,ao,vL,seval, -List.reduceReplicate];refine zI e ?_;simp only[fO,jX,mF,vL,seval, -List.reduceReplicate])
     ·(have e:eQ s=false:=(by have q:(s.re==0)= !decide (0 < s.re):=CG;simp[eQ,q,h0,h1,h2,h3,h4]);simp only[h0,h1,h2,h3,h4,hl,Bool.not_true,Bool.not_false,bne,aL,aM,aF,aj,ao,vL,seval, -List.reduceReplicate];refine zI e ?_;simp only[fO,jX,mF,vL,seval, -List.reduceReplicate])
    ·(have e:eQ s=false:=(by have q:(s.re==0)= !decide (0 < s.re):=CG;simp[eQ,q,h0,h1,h2,h3]);simp only[h0,h1,h2,h3,hl,Bool.not_true,Bool.not_false,bne,aL,aM,aF,aj,ao,vL,seval, -List.reduceReplicate];refine zI e ?_;simp only[fO,jX,mF,vL,seval, -List.reduceReplicate])
 ·rcases Bool.eq_false_or_eq_true (xF s.recv) with h1 | h1
  ·rcases Bool.eq_false_or_eq_true (s.nr==0) with h2 | h2
   ·rcases Bool.eq_false_or_eq_true (decide (0 < s.se)) with h3 | h3
    ·(have e:eQ s=true:=(by have q:(s.re==0)= !decide (0 < s.re):=CG;simp[eQ,q,h0,h1,h2,h3]);simp only[h0,h1,h2,h3,hl,Bool.not_true,Bool.not_false,bne,aL,aM,aF,aj,ao,vL,seval, -List.reduceReplicate];refine zI e ?_;simp only[fO,jX,mF,vL,seval, -List.reduceReplicate])
    ·rcases Bool.eq_false_or_eq_true (s.has) with h4 | h4
     ·(have e:eQ s=false:=(by have q:(s.re==0)= !decide (0 < s.re):=CG;simp[eQ,q,h0,h1,h2,h3,h4]);simp only[h0,h1,h2,h3,h4,hl,Bool.not_true,Bool.not_false,bne,aL,aM,aF,aj,ao,vL,seval, -List.reduceReplicate];refine zI e ?_;simp only[fO,jX,mF,vL,seval, -List.reduceReplicate])
     ·rcases Bool.eq_false_or_eq_true (s.ns==0) with h5 | h5
      ·rcases Bool.eq_false_or_eq_true (s.pn==0) with h6 | h6
       ·(have e:eQ s=true:=(by have q:(s.re==0)= !decide (0 < s.re):=CG;simp[eQ,q,h0,h1,h2,h3,h4,h5,h6]);simp only[h0,h1,h2,h3,h4,h5,h6,hl,Bool.not_true,Bool.not_false,bne,aL,aM,aF,aj,ao,vL,seval, -List.reduceReplicate];refine zI e ?_;simp only[fO,jX,mF,vL,seval, -List.reduceReplicate])
       ·(have e:eQ s=false:=(by have q:(s.re==0)= !decide (0 < s.re):=CG;simp[eQ,q,h0,h1,h2,h3,h4,h5,h6]);simp only[h0,h1,h2,h3,h4,h5,h6,hl,Bool.not_true,Bool.not_false,bne,aL,aM,aF,aj,ao,vL,seval, -List.reduceReplicate];refine zI e ?_;simp only[fO,jX,mF,vL,seval, -List.reduceReplicate])
      ·(have e:eQ s=false:=(by have q:(s.re==0)= !decide (0 < s.re):=CG;simp[eQ,q,h0,h1,h2,h3,h4,h5]);simp only[h0,h1,h2,h3,h4,h5,hl,Bool.not_true,Bool.not_false,bne,aL,aM,aF,aj,ao,vL,seval, -List.reduceReplicate];refine zI e ?_;simp only[fO,jX,mF,vL,seval, -List.reduceReplicate])
   ·(have e:eQ s=false:=(by have q:(s.re==0)= !decide (0 < s.re):=CG;simp[eQ,q,h0,h1,h2]);simp only[h0,h1,h2,hl,Bool.not_true,Bool.not_false,bne,aL,aM,aF,aj,ao,vL,seval, -List.reduceReplicate];refine zI e ?_;simp only[fO,jX,mF,vL,seval, -List.reduceReplicate])
  ·(have e:eQ s=false:=(by have q:(s.re==0)= !decide (0 < s.re):=CG;simp[eQ,q,h0,h1]);simp only[h0,h1,hl,Bool.not_true,Bool.not_false,bne,aL,aM,aF,aj,ao,vL,seval, -List.reduceReplicate];refine zI e ?_;simp only[fO,jX,mF,vL,seval, -List.reduceReplicate])
theorem acT {s:St} {n:Nat} {f:Nat→En} {cs:List SV} (h0:aH 0 s.store n f cs) (hp:cs.all SV.plain=true) (hs:gy s) {c0 c1 c2 c3:Bool} {F:Exit→AS→Prop}:
  l9 Tryz.prog 1 (Dq s cs 5 [c0,c1,c2,c3,qo s]) 1 (nC 6 (Tryz.f20.body.getD .skip)) F (oZ (sn [c0,c1,c2,c3]) (su s cs) 400):=by
 have hl:=h0.len
 have CG:(s.re==0)= !decide (0 < s.re):=by have:=hs.re.1;rcases Bool.eq_false_or_eq_true (decide (0 < s.re)) with h | h<;>rw[h]<;>simp at h ⊢ <;>omega
 have Vj:(s.se==0)= !decide (0 < s.se):=by have:=hs.se.1;rcases Bool.eq_false_or_eq_true (decide (0 < s.se)) with h | h<;>rw[h]<;>simp at h ⊢ <;>omega
 have fO:(∀ x ∈ cs,SV.ok (fun n=>n < 500) x)=True:=eq_true (aC hp)
 have jX:(∀ x ∈ bC s,SV.ok (fun n=>n < 500) x)=True:=eq_true (bF (h0.ok (by decide)))
 have mF:(∀ x ∈ af .u8 32 (fun _=>(0:Int)),SV.ok (fun n=>n < 500) x)=True:=eq_true (aC aw)
 have NC: ∀ {t:AS} {c:Code} {b:Bool},(qo s)=b→iq t [(1,Ptr 1 0),(3,Ptr 4 0),(4,B c0),(5,B c1),(6,B c2),(7,B c3),(8,B b)] [(0,⟨false,cs⟩),(1,⟨true,bC s⟩),(4,⟨true,af .u8 32 (fun _=>0)⟩)] 500→l9 Tryz.prog 1 (Dq s cs 5 [c0,c1,c2,c3,qo s]) 0 c F t:=fun e h=>mO h (by decide) (by rw[← e];rfl)
 simp only[Tryz.f20,Option.getD_some,gU,gV,sn,ky,np,su,dr]
 rcases Bool.eq_false_or_eq_true (s.se==0) with h0 | h0
 ·rcases Bool.eq_false_or_eq_true (s.re==0) with h1 | h1
  ·(have e:qo s=true:=(by have q:(s.re==0)= !decide (0 < s.re):=CG;have q2:(s.se==0)= !decide (0 < s.se):=Vj;simp only[qo,h0,h1,q,q2]at *; simp_all);simp only[h0,h1,hl,Bool.not_true,Bool.not_false,bne,aL,aM,aF,aj,ao,vL,seval, -List.reduceReplicate];refine NC e ?_;simp only[fO,jX,mF,vL,seval, -List.reduceReplicate])
  ·rcases Bool.eq_false_or_eq_true (s.own) with h2 | h2
   ·rcases Bool.eq_false_or_eq_true (s.peer) with h3 | h3
    ·(have e:qo s=true:=(by have q:(s.re==0)= !decide (0 < s.re):=CG;have q2:(s.se==0)= !decide (0 < s.se):=Vj;simp only[qo,h0,h1,h2,h3,q,q2]at *; simp_all);simp only[h0,h1,h2,h3,hl,Bool.not_true,Bool.not_false,bne,aL,aM,aF,aj,ao,vL,seval, -List.reduceReplicate];refine NC e ?_;simp only[fO,jX,mF,vL,seval, -List.reduceReplicate])
    ·(have e:qo s=false:=(by have q:(s.re==0)= !decide (0 < s.re):=CG;have q2:(s.se==0)= !decide (0 < s.se):=Vj;simp only[qo,h0,h1,h2,h3,q,q2]at *; simp_all);simp only[h0,h1,h2,h3,hl,Bool.not_true,Bool.not_false,bne,aL,aM,aF,aj,ao,vL,seval, -List.reduceReplicate];refine NC e ?_;simp only[fO,jX,mF,vL,seval, -List.reduceReplicate])
   ·(have e:qo s=false:=(by have q:(s.re==0)= !decide (0 < s.re):=CG;have q2:(s.se==0)= !decide (0 < s.se):=Vj;simp only[qo,h0,h1,h2,q,q2]at *; simp_all);simp only[h0,h1,h2,hl,Bool.not_true,Bool.not_false,bne,aL,aM,aF,aj,ao,vL,seval, -List.reduceReplicate];refine NC e ?_;simp only[fO,jX,mF,vL,seval, -List.reduceReplicate])
 ·rcases Bool.eq_false_or_eq_true (s.own) with h1 | h1
  ·rcases Bool.eq_false_or_eq_true (s.peer) with h2 | h2
   ·(have e:qo s=true:=(by have q:(s.re==0)= !decide (0 < s.re):=CG;have q2:(s.se==0)= !decide (0 < s.se):=Vj;simp only[qo,h0,h1,h2,q,q2]at *; simp_all);simp only[h0,h1,h2,hl,Bool.not_true,Bool.not_false,bne,aL,aM,aF,aj,ao,vL,seval, -List.reduceReplicate];refine NC e ?_;simp only[fO,jX,mF,vL,seval, -List.reduceReplicate])
   ·(have e:qo s=false:=(by have q:(s.re==0)= !decide (0 < s.re):=CG;have q2:(s.se==0)= !decide (0 < s.se):=Vj;simp only[qo,h0,h1,h2,q,q2]at *; simp_all);simp only[h0,h1,h2,hl,Bool.not_true,Bool.not_false,bne,aL,aM,aF,aj,ao,vL,seval, -List.reduceReplicate];refine NC e ?_;simp only[fO,jX,mF,vL,seval, -List.reduceReplicate])
  ·(have e:qo s=false:=(by have q:(s.re==0)= !decide (0 < s.re):=CG;have q2:(s.se==0)= !decide (0 < s.se):=Vj;simp only[qo,h0,h1,q,q2]at *; simp_all);simp only[h0,h1,hl,Bool.not_true,Bool.not_false,bne,aL,aM,aF,aj,ao,vL,seval, -List.reduceReplicate];refine NC e ?_;simp only[fO,jX,mF,vL,seval, -List.reduceReplicate])
theorem ND {s:St} {n:Nat} {f:Nat→En} {cs:List SV} (h0:aH 0 s.store n f cs) (hp:cs.all SV.plain=true) (hs:gy s) (hf: ∀ i,nV (f i)) (hn:n < 4611686018427387904):
  bf Tryz.prog 20 [Ag (bC s)] 1 (lk [(0,⟨false,cs⟩)]) (fun v out=>v=B (jn s n f)∧out=fun _=>none):=by
 refine IW Tryz.func20 rfl (by kernel_rfl) [3,1,1,1,1] (by simp[Tryz.ntmps20]) Tryz.tN (fun y hy=>by
  obtain rfl:=List.mem_singleton.1 hy
  exact bF (h0.ok (by decide))) dG (dH hp) ?_
 refine ⟨_,acP h0 hp hs,fun s2 e2=> ?_⟩
 rw[show s2=_ from e2];clear e2 s2
 refine ⟨_,acQ h0 hp hs,fun s2 e2=> ?_⟩
 rw[show s2=_ from e2];clear e2 s2
 refine ⟨_,acR h0 hp hs,fun s2 e2=> ?_⟩
 rw[show s2=_ from e2];clear e2 s2
 refine ⟨_,acS h0 hp hs,fun s2 e2=> ?_⟩
 rw[show s2=_ from e2];clear e2 s2
 refine ⟨_,acT h0 hp hs,fun s2 e2=> ?_⟩
 rw[show s2=_ from e2];clear e2 s2
 have hl:=h0.len
 have fin: ∀ {t:AS} {b:Bool},b=jn s n f→qA 1 (fun v out=>v=B (jn s n f)∧out=fun _=>none) (B b) t:=fun e=>ak rfl ⟨by rw[e],rfl⟩
 rcases Bool.eq_false_or_eq_true (fx s n) with b1 | b1
 rotate_left 1
 ·simp only[Tryz.results20,b1,sn,ky,np,su,dr,Bool.not_false,vL,seval, -List.reduceReplicate]
  exact fin (by simp[jn,b1])
 rcases Bool.eq_false_or_eq_true (Dp s) with b2 | b2
 rotate_left 1
 ·simp only[Tryz.results20,b1,b2,sn,ky,np,su,dr,Bool.not_false,Bool.not_true,vL,seval, -List.reduceReplicate]
  exact fin (by unfold jn;rw[b1,show (s.own||s.peer)=false from b2];rfl)
 rcases Bool.eq_false_or_eq_true (dp s) with b3 | b3
 rotate_left 1
 ·simp only[Tryz.results20,b1,b2,b3,sn,ky,np,su,dr,Bool.not_false,Bool.not_true,vL,seval, -List.reduceReplicate]
  exact fin (by unfold jn;rw[b1,b3];simp)
 rcases Bool.eq_false_or_eq_true (eQ s) with b4 | b4
 rotate_left 1
 ·simp only[Tryz.results20,b1,b2,b3,b4,sn,ky,np,su,dr,Bool.not_false,Bool.not_true,vL,seval, -List.reduceReplicate]
  exact fin (by unfold jn;rw[b1,b4];simp)
 rcases Bool.eq_false_or_eq_true (qo s) with b5 | b5
 rotate_left 1
 ·simp only[Tryz.results20,b1,b2,b3,b4,b5,sn,ky,np,su,dr,Bool.not_false,Bool.not_true,vL,seval, -List.reduceReplicate]
  exact fin (by unfold jn;rw[b1,b5];simp)
 have ev:jn s n f=mN s f n:=by unfold jn;rw[b1,show (s.own||s.peer)=true from b2,b3,b4,b5];rfl
 have fO: ∀ {M:Nat→Prop},(∀ x ∈ cs,SV.ok M x)=True:=eq_true (aC hp)
 have jX:(∀ x ∈ bC s,SV.ok (fun n=>n < 519) x)=True:=eq_true (bF (h0.ok (by decide)))
 simp only[Tryz.results20,b1,b2,b3,b4,b5,sn,ky,np,su,dr,Bool.not_false,Bool.not_true,vL,seval, -List.reduceReplicate]
 refine qE n (fun k=>mN s f k=true) (fun k=>[(1,Ptr 1 0),(9,I .i64 k)]) (fun k=>[(0,⟨false,cs⟩),(1,⟨true,bC s⟩)]) _ ?_ ?_ ?_
 ·refine ⟨rfl, ?_⟩
  simp only[fO,jX,vR,seval, -List.reduceReplicate]
 ·intro j hj hinv
  have h1:=h0
  rcases h0 with ⟨_,rfl⟩ | ⟨o,c,e,hc,hsh⟩
  ·omega
  have b1:=hsh.lt hj
  simp only[hl,ao,vR,seval, -List.reduceReplicate]
  refine az (by simp;omega) ?_
  simp only[e,aW,cF hj,hsh j hj,b1,bw,ao,vR,seval, -List.reduceReplicate]
  refine ⟨by kernel_rfl, ?_⟩
  have w:=hf j
  rcases Bool.eq_false_or_eq_true ((f j).ep==0) with p0 | p0
  ·have g1:jn s n f=false:=by rw[ev];exact oB hj (by simp[Bt,vZ,p0])
   simp only[p0,vR,seval, -List.reduceReplicate]
   exact fin (by rw[g1])
  simp only[p0,bw,ao,vR,seval, -List.reduceReplicate]
  refine cI.draw (rX w.ep w.n) Tryz.ph ?_
  simp only[bw,ao,vR,seval, -List.reduceReplicate]
  refine cI.draw (rX hs.re hs.nr) Tryz.ph ?_
  by_cases p1:vY s.re s.nr≤vY (f j).ep (f j).n
  ·have g1:jn s n f=false:=by
    rw[ev];refine oB hj ?_
    have: ¬ vY (f j).ep (f j).n < vY s.re s.nr:=by omega
    simp[Bt,vZ,this]
   have d1:decide (vY s.re s.nr≤vY (f j).ep (f j).n)=true:=decide_eq_true p1
   simp only[d1,vR,seval, -List.reduceReplicate]
   exact fin (by rw[g1])
  have d1:decide (vY s.re s.nr≤vY (f j).ep (f j).n)=false:=decide_eq_false p1
  have pas:vZ s (f j)=true:=by
   have:vY (f j).ep (f j).n < vY s.re s.nr:=by omega
   simp[vZ,p0,this]
  by_cases j0:j=0
  ·have d0:decide (0 < (j:Int))=false:=decide_eq_false (by omega)
   have g1:mN s f (j+1)=true:=by rw[mN,hinv,Bt,pas,decide_eq_true j0];rfl
   simp only[d1,d0,vR,seval, -List.reduceReplicate]
   refine ⟨by kernel_rfl, ?_⟩
   simp only[g1,bt j (by omega),vR,seval, -List.reduceReplicate]
   exact ⟨aC hp,bF (h1.ok (by decide))⟩
  have d0:decide (0 < (j:Int))=true:=decide_eq_true (by omega)
  have w1:IntKind.i64.wrap ((j:Int) - 1)=((j - 1:Nat):Int):=X2 j 1 (by omega) (by omega)
  have Sg:j - 1 < n:=by omega
  have b2:=hsh.lt Sg
  have w2:=hf (j - 1)
  have q0:cs[o+(j - 1)*66]? =some (Sum.inl (.int .u32 (f (j - 1)).ep)):=by
   have:=congrArg (fun l:List SV=>l[0]?) (hsh (j - 1) Sg)
   simp only[Mb]at this
   rwa [List.getElem?_take_of_lt (by decide),List.getElem?_drop,Nat.add_zero]at this
  have q1:cs[o+(j - 1)*66+1]? =some (Sum.inl (.int .u32 (f (j - 1)).n)):=by
   have:=congrArg (fun l:List SV=>l[1]?) (hsh (j - 1) Sg)
   simp only[Mc]at this
   rwa [List.getElem?_take_of_lt (by decide),List.getElem?_drop]at this
  simp only[d1,d0,vR,seval, -List.reduceReplicate]
  refine ⟨by kernel_rfl, ?_⟩
  simp only[e,w1,aW,cF Sg,q0,q1,bw,ao,vR,seval, -List.reduceReplicate]
  refine cI.draw (rX w2.ep w2.n) Tryz.ph ?_
  simp only[bw,ao,vR,seval, -List.reduceReplicate]
  refine cI.draw (rX w.ep w.n) Tryz.ph ?_
  by_cases hc0:vY (f (j - 1)).ep (f (j - 1)).n < vY (f j).ep (f j).n
  ·have d2:decide (vY (f j).ep (f j).n≤vY (f (j - 1)).ep (f (j - 1)).n)=false:=decide_eq_false (by omega)
   have g1:mN s f (j+1)=true:=by rw[mN,hinv,Bt,pas,decide_eq_true hc0];simp
   simp only[d2,g1,bt j (by omega),vR,seval, -List.reduceReplicate]
   exact ⟨aC hp,bF (h1.ok (by decide))⟩
  ·have d2:decide (vY (f j).ep (f j).n≤vY (f (j - 1)).ep (f (j - 1)).n)=true:=decide_eq_true (by omega)
   have g1:jn s n f=false:=by rw[ev];exact oB hj (by rw[Bt,decide_eq_false hc0,decide_eq_false j0];simp)
   simp only[d2,vR,seval, -List.reduceReplicate]
   exact fin (by rw[g1])
 ·intro hinv
  simp only[hl,ao,vR,seval, -List.reduceReplicate]
  refine aD (by simp) ?_
  simp only[hinv,vR,seval, -List.reduceReplicate]
  exact fin (by rw[ev,hinv])
theorem KX {n:Nat} {f:Nat→En} {v:SV} {cs:List SV} (h0:aH 0 v n f cs) (hp:cs.all SV.plain=true) (hn:(n+2)*72≤140737488355328):
  bf Tryz.prog 4 [.inl (.inl v)] 1 (lk [(0,⟨false,cs⟩)]) (Ug 1 n f):=by
 refine av Tryz.func4 rfl (by kernel_rfl) (by simp[Tryz.ntmps4]) Tryz.xJ (fun y hy=>by
  obtain rfl:=List.mem_singleton.1 hy
  exact (h0.ok (by decide)).1) dG (dH hp) ?_
 have hl:=h0.len
 simp only[Tryz.results4,zL0,V9,Db,v7,MI,bw,vR,seval, -List.reduceReplicate]
 have g0:bz [] 0 0 0 f:=⟨rfl,by decide,rfl,fun i hi=>by omega⟩
 rcases h0 with ⟨⟨a,rfl⟩,rfl⟩ | ⟨o,c,rfl,hc,hs⟩
 ·refine xH (by':=72) Tryz.jQ Tryz.ki (by simp only[ae,vR,seval, -List.reduceReplicate]) g0 (by decide) (by decide) ?_
  intro c1 kk g1
  simp only[Ud,JX,Ue,Uf,V9,Db,v7,MI,bw,vR,seval, -List.reduceReplicate]
  refine lG (by':=72) (rw:=true) Tryz.jQ Tryz.ki (by simp only[ae,vR,seval, -List.reduceReplicate]) g1 (by simp only[ae,vR,seval, -List.reduceReplicate]) (by decide) uJ (by omega) (by omega) ?_
  intro c2 mD g2
  simp only[Ye,Yf,ma,vR,seval, -List.reduceReplicate]
  refine EZ (by decide) (by simp only[ae,vR,seval, -List.reduceReplicate]) (g2.congr (by omega) (fun i hi=>by rw[if_neg (by omega),qa,if_neg (by omega)]))
 ·refine lG (by':=72) (rw:=false) Tryz.jQ Tryz.ki (by simp only[ae,vR,seval, -List.reduceReplicate]) g0 (by simp only[ae,vR,seval, -List.reduceReplicate]) (by decide) hs (by omega) (by omega) ?_
  intro c1 kk g1
  replace g1:bz kk 0 n c1 f:=g1.congr (Nat.zero_add n) (fun i hi=>by rw[if_neg (by omega)];rfl)
  simp only[Ud,JX,Ue,Uf,V9,Db,v7,MI,bw,vR,seval, -List.reduceReplicate]
  refine lG (by':=72) (rw:=true) Tryz.jQ Tryz.ki (by simp only[ae,vR,seval, -List.reduceReplicate]) g1 (by simp only[ae,vR,seval, -List.reduceReplicate]) (by decide) uJ (by omega) (by omega) ?_
  intro c2 mD g2
  simp only[hl,Ye,Yf,ma,vR,seval, -List.reduceReplicate]
  refine EZ (by decide) (by simp only[ae,vR,seval, -List.reduceReplicate]) (g2.congr (by omega) (fun i hi=>by unfold qa;split<;>rfl))
theorem RX {x:St} {n m c:Nat} {f:Nat→En} {cs ds:List SV} (hi:aH 1 x.store m f ds) (hp:cs.all SV.plain=true) (hq:ds.all SV.plain=true) (hn:n+2≤c):
  bf Tryz.prog 7 [Wr 0 n c,Ag (bC x)] 2 (lk [(0,⟨false,cs⟩),(1,⟨false,ds⟩)]) (fun v out=>v=Ag (bC { x with store:= .inr (.inr (0,0,n,c)) })∧out=fun _=>none):=by
 refine av Tryz.func7 rfl (by kernel_rfl) (by simp[Tryz.ntmps7]) Tryz.xL (fun y hy=>by
  simp only[List.mem_cons,List.not_mem_nil,or_false]at hy
  rcases hy with rfl | rfl
  ·exact fun z hz=>by
    simp only[BZ,List.mem_cons,List.not_mem_nil,or_false]at hz
    rcases hz with rfl | rfl
    ·exact ⟨show 0 < 2 by decide,rfl⟩
    ·exact ⟨trivial,rfl⟩
  ·exact bF (hi.ok (by decide))) lC (nU hp hq) ?_
 have l1:((n:Int)≤(c:Int))=True:=eq_true (by omega)
 simp only[Tryz.results7,BZ,l1,aW,eZ,ao,vR,seval, -List.reduceReplicate]
 have hok:AV.ok (fun n=>n < 2) (Ag (bC { x with store:= .inr (.inr (0,0,n,c)) })):=bF ⟨show 0 < 2 by decide,rfl⟩
 have e: ∀ n,kc 2 2 n=n:=fun n=>by unfold kc;split<;>omega
 exact ⟨2,_,fun _=>none,Nat.le_refl _,(ig (k:=2) (fun n _=>e n) hok).symm,AV.bm (fun n hn=>by omega) hok,fun m b h=>(by cases h),rfl,rfl⟩
theorem rD {s:AS} {nm t u o c n:Nat} {f:Nat→En} {w:SV} {cs ds:List SV} {ra rb:Bool} (hb:s.box t=some ⟨ra,cs⟩) (hp:cs.all SV.plain=true) (hb':s.box u=some ⟨rb,ds⟩) (hq:ds.all SV.plain=true)
  (hc:n≤c) (h0:cO cs o n f) (h1:aH u w n f ds) (hn:n < 4611686018427387904) {ops:Array Oper} {i:Nat} {dst:Option Nat} {K:AS→Prop} (hk:K (s.put dst (some (B true)))):
  ov Tryz.prog ops i nm 26 (some [Sl t o n c, .inl (.inl w)]) dst K s:=by
 rcases h1 with ⟨⟨a,rfl⟩,rfl⟩ | ⟨o',c',rfl,lS,hs'⟩
 ·refine (rh (u:= .inr (.inr (0,o,0,c))) (v:= .inl (.slice a 0 0)) (f:=f) (.inr ⟨o,c,rfl,hc,h0⟩) (.inl ⟨⟨a,rfl⟩,rfl⟩) hp hp hn).cQ (fun _=>t) ?_ rfl rfl (fun M h n _=>h _ (List.Mem.head _)) hk
  refine ⟨fun m b hm=> ?_,fun m m' b b' hm hrw=> ?_,fun m b hm hrw=> ?_,fun m hm=>(by cases hm)⟩
  ·rcases vD hm with ⟨rfl,rfl⟩ | ⟨rfl,rfl⟩<;>exact ⟨_,hb,fun h=>(by cases h),(aQ hp _).symm⟩
  ·rcases vD hm with ⟨rfl,rfl⟩ | ⟨rfl,rfl⟩<;>cases hrw
  ·rcases vD hm with ⟨rfl,rfl⟩ | ⟨rfl,rfl⟩<;>cases hrw
 ·refine (rh (u:= .inr (.inr (0,o,n,c))) (v:= .inr (.inr (1,o',n,c'))) (.inr ⟨o,c,rfl,hc,h0⟩) (.inr ⟨o',c',rfl,lS,hs'⟩) hp hq hn).cQ (two t u) (ie hb hp hb' hq) rfl rfl (fun M h n hn=> ?_) hk
  have a:=h (Sl t o _ c) (List.Mem.head _)
  have b:=h _ (List.Mem.tail _ (List.Mem.head _))
  simp only[two];split
  ·exact a
  ·exact b
theorem KY {n c:Nat} {f:Nat→En} {v:SV} {cs ds:List SV} (hg:bz cs 0 (n+2) c (qa n f)) (h1:aH 1 v n f ds) (hq:ds.all SV.plain=true) (hn:n < 4611686018427387904):
  bf Tryz.prog 14 [Wr 0 n c, .inl (.inl v)] 2 (lk [(0,⟨false,cs⟩),(1,⟨false,ds⟩)]) (fun v out=>v=B true∧out=fun _=>none):=by
 have hp:=hg.plain
 have hr:=hg.room
 refine av Tryz.func14 rfl (by kernel_rfl) (by simp[Tryz.ntmps14]) Tryz.tJ (fun y hy=>by
  simp only[List.mem_cons,List.not_mem_nil,or_false]at hy
  rcases hy with rfl | rfl
  ·exact fun z hz=>by
    simp only[BZ,List.mem_cons,List.not_mem_nil,or_false]at hz
    rcases hz with rfl | rfl
    ·exact ⟨show 0 < 2 by decide,rfl⟩
    ·exact ⟨trivial,rfl⟩
  ·exact (h1.ok (by decide)).1) lC (nU hp hq) ?_
 have l1:((n:Int)≤(c:Int))=True:=eq_true (by omega)
 have l2:((n:Int)≤((n+2:Nat):Int))=True:=eq_true (by omega)
 have l3:(((n+2:Nat):Int)≤(c:Int))=True:=eq_true (by omega)
 have l4:(if c=n then 0 else n*66)=n*66:=by rw[if_neg (by omega)]
 have l5:n+2 - n=2:=by omega
 simp only[Tryz.results14,BZ,l1,aW,vR,seval, -List.reduceReplicate]
 refine ⟨by kernel_rfl, ?_⟩
 refine rD (t:=0) (u:=1) (ra:=false) (rb:=false) (f:=f) (by simp only[ae,vR,seval, -List.reduceReplicate]) hp (by simp only[ae,vR,seval, -List.reduceReplicate]) hq (by omega) (zc hg) h1 hn ?_
 simp only[BZ,l1,l2,l3,l4,l5,aW,mk2,vR,seval, -List.reduceReplicate]
 refine rD (t:=0) (u:=17) (ra:=false) (rb:=true) (f:=fun _=>sL) (by simp only[ae,vR,seval, -List.reduceReplicate]) hp (by simp only[ae,vR,seval, -List.reduceReplicate]) MJ (by omega) (ML hg) (.inr ⟨0,2,rfl,Nat.le_refl 2,uJ⟩) (by decide) ?_
 simp only[vR,seval, -List.reduceReplicate]
 exact ak rfl ⟨rfl,rfl⟩
theorem Xl {n c:Nat} {f:Nat→En} {cs:List SV} (hg:bz cs 0 n c f) (hn:n < 4611686018427387904):
  bf Tryz.prog 12 [Sl 0 0 n c] 1 (lk [(0,⟨true,cs⟩)]) (fun v out=>v= .inr []∧ ∃ ds,ds.all SV.plain=true∧out=lk [(0,⟨true,ds⟩)]):=by
 have hp:=hg.plain
 have hr:=hg.room
 have hlen:=hg.len
 refine av Tryz.func12 rfl (by kernel_rfl) (by simp[Tryz.ntmps12]) Tryz.tI (by simp[AV.ok,CV.ok,SV.names]) dG (dH hp) ?_
 simp only[Tryz.results12,vR,seval, -List.reduceReplicate]
 refine TD n (fun k t=> ∃ ds g,ds.length=cs.length∧ds.all SV.plain=true∧cO ds 0 n g∧t=oZ [(0,Sl 0 0 n c),(4,I .i64 n),(5,I .i64 k)] [(0,⟨true,ds⟩)] 10) ?_ ?_ ?_ ?_
 ·rintro k t ⟨ds,g,_,_,_,rfl⟩;exact Nat.le_of_ble_eq_true rfl
 ·refine ⟨_,⟨cs,f,rfl,hp,hg.shows,rfl⟩,_,iq.dq ⟨TB ⟨rfl,show 0 < 10 by decide⟩ ⟨rfl,trivial⟩ ⟨rfl,trivial⟩,F0 ⟨rfl,show 0 < 10 by decide,aC hp⟩⟩,fun _ _=>rfl⟩
 ·rintro j t hj ⟨ds,g,hl,hd,hs,rfl⟩
  have q1:=hs.num hj
  have b1:=hs.lt hj
  simp only[dr,vR,seval, -List.reduceReplicate]
  refine az (by simp;omega) ?_
  rw[Nat.zero_add]at q1
  have e0:(0+j*66)=j*66:=Nat.zero_add _
  rw[e0]at b1
  simp only[aW,cF hj,q1,bt j (by omega),vR,seval, -List.reduceReplicate]
  have hd2:(splice ds (j*66+1) [Sum.inl (Value.int .u32 (IntKind.u32.wrap ((g j).n+1)))]).all SV.plain=true:=pG hd rfl
  exact ⟨by omega,_,⟨_,_,by rw[JY (by omega)];exact hl,hd2,Zv hs hj,rfl⟩,_,iq.dq ⟨TB ⟨rfl,show 0 < 10 by decide⟩ ⟨rfl,trivial⟩ ⟨rfl,trivial⟩,F0 ⟨rfl,show 0 < 10 by decide,aC hd2⟩⟩,fun _ _=>rfl⟩
 ·rintro t ⟨ds,g,hl,hd,hs,rfl⟩
  simp only[dr,vR,seval, -List.reduceReplicate]
  refine aD (by simp) ?_
  simp only[vR,seval, -List.reduceReplicate]
  exact xA (cs:=ds) (by decide) rfl (by simp only[vR,seval, -List.reduceReplicate]) hd ⟨rfl,ds,hd,rfl⟩
section
variable {s:AS} {nm:Nat} {dst:Option Nat} {K:AS→Prop}
theorem CH {t n:Nat} {f:Nat→En} {v:SV} {rw:Bool} {cs:List SV} (hb:s.box t=some ⟨rw,cs⟩) (hp:cs.all SV.plain=true) (hi:aH t v n f cs) (hn:(n+2)*72≤140737488355328)
  (hk: ∀ c ds,bz ds 0 (n+2) c (qa n f)→K ((⟨s.env,upd s.box nm (some ⟨true,ds⟩),s.next⟩:AS).put dst (some (Wr nm n c)))):ax Tryz.prog nm 4 (some [.inl (.inl v)]) dst K s:=by
 obtain ⟨v0,g0,e0⟩:=hi.name (k:=0)
 exact MK (KX g0 hp hn) hb hp (by simp only[List.map_cons,List.map_nil,AV.aI,CV.aI,e0 (fun _=>t) rfl]) hk
theorem CJ {t u n:Nat} {x:St} {f:Nat→En} {v w:SV} {ra rb:Bool} {cs ds:List SV} (hb:s.box t=some ⟨ra,cs⟩) (hp:cs.all SV.plain=true) (hb':s.box u=some ⟨rb,ds⟩) (hq:ds.all SV.plain=true) (h0:aH t v n f cs) (h1:aH u w n f ds) (hn:n < 4611686018427387904)
  (hk:K (s.put dst (some (B true)))):ax Tryz.prog nm 19 (some [Ag (bC { x with store:=v }),Ag (bC { x with store:=w })]) dst K s:=by
 obtain ⟨v0,g0,e0⟩:=h0.name (k:=0)
 obtain ⟨w0,g1,e1⟩:=h1.name (k:=1)
 refine (JV (x:=x) g0 g1 hp hq hn).cW (two t u) (ie hb hp hb' hq) rfl ?_ hk
 simp only[List.map_cons,List.map_nil,eM,e0 (two t u) rfl,e1 (two t u) rfl]
theorem CK {t u n c:Nat} {f:Nat→En} {v:SV} {ra rb:Bool} {cs ds:List SV} (hb:s.box t=some ⟨ra,cs⟩) (hg:bz cs 0 (n+2) c (qa n f)) (hb':s.box u=some ⟨rb,ds⟩) (hq:ds.all SV.plain=true) (h1:aH u v n f ds) (hn:n < 4611686018427387904)
  (hk:K (s.put dst (some (B true)))):ax Tryz.prog nm 14 (some [Wr t n c, .inl (.inl v)]) dst K s:=by
 obtain ⟨v0,g0,e0⟩:=h1.name (k:=1)
 refine (KY hg g0 hq hn).cW (two t u) (ie hb hg.plain hb' hq) rfl ?_ hk
 simp only[List.map_cons,List.map_nil,AV.aI,CV.aI,e0 (two t u) rfl]
 rfl
theorem NF {t n c:Nat} {f:Nat→En} {cs:List SV} (hb:s.box t=some ⟨true,cs⟩) (hg:bz cs 0 n c f) (hn:n < 4611686018427387904)
  (hk: ∀ ds,ds.all SV.plain=true→K ((⟨s.env,upd s.box t (some ⟨true,ds⟩),s.next⟩:AS).put dst (some (.inr [])))):ax Tryz.prog nm 12 (some [Sl t 0 n c]) dst K s:=by
 refine (Xl hg hn).ax (fun _=>t) (some 0) (A7 hb hg.plain) rfl ?_
 rintro v out ⟨rfl,ds,hd,rfl⟩ _
 have e:after s (fun _=>t) 1 nm (some 0) (lk [(0,⟨true,ds⟩)])=upd s.box t (some ⟨true,ds⟩):=by
  simp[after,lk,aN.aI,aQ hd]
 rw[e];exact hk ds hd
end
theorem Xm:cI Tryz.prog 12 [V (.slice none 0 0)] (.inr []):=by
 refine aJ Tryz.func12 rfl (by kernel_rfl) (by simp[Tryz.ntmps12]) rfl rfl ?_
 simp only[Tryz.results12,vR,seval, -List.reduceReplicate]
 refine aE 0 (fun k=>[(4,I .i64 0),(5,I .i64 k)]) (fun k=>[]) _ ?_ ?_ ?_
 ·simp only[vR,seval, -List.reduceReplicate]
 ·intro j hj;omega
 ·simp only[vR,seval, -List.reduceReplicate]
  refine aD (by simp) ?_
  simp only[vR,seval, -List.reduceReplicate]
theorem Dr {s:AS} {nm t n c:Nat} {f:Nat→Int} {cs:List SV} (hb:s.box t=some ⟨true,cs⟩) (hg:bK cs 0 n c f) (hn:n < 4611686018427387904) {dst:Option Nat} {K:AS→Prop}
  (hk: ∀ ds,ds.all SV.plain=true→K ((⟨s.env,upd s.box t (some ⟨true,ds⟩),s.next⟩:AS).put dst (some (.inr [])))):ax Tryz.prog nm 11 (some [Sl t 0 n c]) dst K s:=by
 obtain ⟨c2,tail,h1,h2,h3,h4,h5⟩:=hg.made (k:=t)
 obtain rfl:c=c2:=by cases h1;rfl
 have e:cs=af .u8 n f++tail:=by
  have:=congrFun h2 t
  simpa[lk] using this
 subst e
 refine (Nm (o:=0) (c:=c) h5 hn rfl).ax (fun _=>t) (some 0) (A7 hb hg.plain) rfl ?_
 rintro v out ⟨rfl,rfl⟩ _
 have e2:after s (fun _=>t) 1 nm (some 0) (lk [(0,⟨true,af .u8 n (fun i=>aU .xor .u8 (f i) 165)++tail⟩)])=upd s.box t (some ⟨true,af .u8 n (fun i=>aU .xor .u8 (f i) 165)++tail⟩):=by
  simp[after,lk,aN.aI,aQ (cD (n:=n) (f:=fun i=>aU .xor .u8 (f i) 165) h5)]
 rw[e2];exact hk _ (cD h5)
def four (a b c d:Nat) (n:Nat):Nat:=if n=0 then a else if n=1 then b else if n=2 then c else d
theorem lk4 {b0 b1 b2 b3 b':aN} {n:Nat} (h:lk [(0,b0),(1,b1),(2,b2),(3,b3)] n=some b'):(n=0∧b'=b0)∨(n=1∧b'=b1)∨(n=2∧b'=b2)∨(n=3∧b'=b3):=by
 simp only[lk]at h
 (repeat' split at h)<;>simp_all
theorem acU {s:AS} {a b c d:Nat} {r0 r1 r2 r3:Bool} {c0 c1 c2 c3:List SV} (h0:s.box a=some ⟨r0,c0⟩) (p0:c0.all SV.plain=true) (h1:s.box b=some ⟨r1,c1⟩) (p1:c1.all SV.plain=true) (h2:s.box c=some ⟨r2,c2⟩) (p2:c2.all SV.plain=true) (h3:s.box d=some ⟨r3,c3⟩) (p3:c3.all SV.plain=true):
  Fits s (four a b c d) (lk [(0,⟨false,c0⟩),(1,⟨false,c1⟩),(2,⟨false,c2⟩),(3,⟨false,c3⟩)]) none:=by
 refine ⟨fun n b hb=> ?_,fun n n' b b' hb hrw=> ?_,fun n b hb hrw=> ?_,fun n h=>(by cases h)⟩
 ·rcases lk4 hb with ⟨rfl,rfl⟩ | ⟨rfl,rfl⟩ | ⟨rfl,rfl⟩ | ⟨rfl,rfl⟩
  ·exact ⟨_,h0,fun h=>(by cases h),(aQ p0 _).symm⟩
  ·exact ⟨_,h1,fun h=>(by cases h),(aQ p1 _).symm⟩
  ·exact ⟨_,h2,fun h=>(by cases h),(aQ p2 _).symm⟩
  ·exact ⟨_,h3,fun h=>(by cases h),(aQ p3 _).symm⟩
 ·rcases lk4 hb with ⟨rfl,rfl⟩ | ⟨rfl,rfl⟩ | ⟨rfl,rfl⟩ | ⟨rfl,rfl⟩<;>cases hrw
 ·rcases lk4 hb with ⟨rfl,rfl⟩ | ⟨rfl,rfl⟩ | ⟨rfl,rfl⟩ | ⟨rfl,rfl⟩<;>cases hrw
theorem NG {x:St} {n m:Nat} {y ep nn:Int} {f:Nat→En} {G:Nat→Int} {u v o1 o2:SV} {c0 c1 c2 c3:List SV} (h0:aH 0 u n f c0) (h1:aH 1 v n f c1) (h2:eH 2 (.inl (.inl o1)) m G c2) (h3:eH 3 (.inl (.inl o2)) m G c3)
  (p0:c0.all SV.plain=true) (p1:c1.all SV.plain=true) (p2:c2.all SV.plain=true) (p3:c3.all SV.plain=true) (hn:n < 4611686018427387904) (hm:m < 4611686018427387904):
  bf Tryz.prog 9 [Ag (eV y { x with store:=u } o1 ep nn),Ag (eV y { x with store:=v } o2 ep nn)] 4 (lk [(0,⟨false,c0⟩),(1,⟨false,c1⟩),(2,⟨false,c2⟩),(3,⟨false,c3⟩)]) (fun v out=>v=B true∧out=fun _=>none):=by
 have Rl: ∀ {t:Nat} {w:SV} {cs:List SV},t < 4→eH t (.inl (.inl w)) m G cs→SV.ok (fun n=>n < 4) w:=fun ht h=>mq h ht
 refine av Tryz.func9 rfl (by kernel_rfl) (by simp[Tryz.ntmps9]) Tryz.xN (fun z hz=>by
  simp only[List.mem_cons,List.not_mem_nil,or_false]at hz
  rcases hz with rfl | rfl
  ·exact wv (h0.ok (show 0 < 4 by decide)) (Rl (by decide) h2)
  ·exact wv (h1.ok (show 1 < 4 by decide)) (Rl (by decide) h3)) (fun n hn=>by
  have:n=0∨n=1∨n=2∨n=3:=by omega
  rcases this with rfl | rfl | rfl | rfl<;>exact ⟨_,rfl⟩) (fun n b hb=>by
  rcases lk4 hb with ⟨rfl,rfl⟩ | ⟨rfl,rfl⟩ | ⟨rfl,rfl⟩ | ⟨rfl,rfl⟩
  ·exact ⟨by decide,aC p0⟩
  ·exact ⟨by decide,aC p1⟩
  ·exact ⟨by decide,aC p2⟩
  ·exact ⟨by decide,aC p3⟩) ?_
 simp only[Tryz.results9,beq_self_eq_true,bN,ao,vR,seval, -List.reduceReplicate]
 refine RI hm (h2.at (t:=2) (rw:=false) (by simp only[ae,vR,seval, -List.reduceReplicate]) p2) (h3.at (t:=3) (rw:=false) (by simp only[ae,vR,seval, -List.reduceReplicate]) p3) ?_
 simp only[beq_self_eq_true,bN,ao,vR,seval, -List.reduceReplicate]
 refine CJ (t:=0) (u:=1) (ra:=false) (rb:=false) (x:=x) (by simp only[ae,vR,seval, -List.reduceReplicate]) p0 (by simp only[ae,vR,seval, -List.reduceReplicate]) p1 h0 h1 hn ?_
 simp only[beq_self_eq_true,bN,ao,vR,seval, -List.reduceReplicate]
 exact ak rfl ⟨rfl,rfl⟩
structure G8 where
 y:Int
 x:St
 ep:Int
 nn:Int
 n:Nat
 m:Nat
 F:Nat→En
 G:Nat→Int
def kz (q n:Nat) (f:Nat→En) (sv:SV) (bx:Option aN):Prop:=
 (n=0∧sv= .inl (.slice none 0 0)∧bx=none)∨ ∃ c cs,sv= .inr (.inr (q,0,n,c))∧bz cs 0 n c f∧bx=some ⟨true,cs⟩
def kA (q m:Nat) (G:Nat→Int) (o:SV) (bx:Option aN):Prop:=
 (m=0∧o= .inl (.slice none 0 0)∧bx=none)∨ ∃ c cs,o= .inr (.inr (q,0,m,c))∧bK cs 0 m c G∧bx=some ⟨true,cs⟩
def vg (k:Nat) (A:G8) (v:AV) (out:Nat→Option aN):Prop:=
 ∃ sv o,v=Ag (eV A.y { A.x with store:=sv } o A.ep A.nn)∧kz k A.n A.F sv (out k)∧kA (k+1) A.m A.G o (out (k+1))
def CL (k:Nat) (E:Option Nat) (A:G8) (v:AV) (out:Nat→Option aN):Prop:=
 (∃ i,E=some i∧v= .inr [.inr (eV 0 rM (.inl (.slice none 0 0)) 0 0), .inl (.inl (gH i))]∧out=fun _=>none)∨
 (E=none∧ ∃ sv o,v= .inr [.inr (eV 0 { A.x with store:=sv } o A.ep A.nn), .inl (.inl .nilIface)]∧kz k A.n A.F sv (out k)∧kA (k+1) A.m A.G o (out (k+1)))
theorem Vk {q n:Nat} {f:Nat→En} {sv:SV} {bx:Option aN} (h:iT q n f sv bx):kz q n f sv bx:=by
 rcases h with h | ⟨_,c,cs,h⟩
 ·exact .inl h
 ·exact .inr ⟨c,cs,h⟩
theorem Fs {p q n:Nat} {f:Nat→En} {sv:SV} {bx:Option aN} {r:Nat→Nat} (h:kz p n f sv bx) (hr:r p=q):kz q n f (SV.aI r sv) (bx.map (aN.aI r)):=by
 rcases h with ⟨h0,rfl,rfl⟩ | ⟨c,cs,rfl,hg,rfl⟩
 ·exact .inl ⟨h0,rfl,rfl⟩
 ·exact .inr ⟨c,cs,by simp only[SV.aI,hr],hg,fh hg.plain⟩
theorem Ft {p q m:Nat} {G:Nat→Int} {o:SV} {bx:Option aN} {r:Nat→Nat} (h:kA p m G o bx) (hr:r p=q):kA q m G (SV.aI r o) (bx.map (aN.aI r)):=by
 rcases h with ⟨h0,rfl,rfl⟩ | ⟨c,cs,rfl,hg,rfl⟩
 ·exact .inl ⟨h0,rfl,rfl⟩
 ·exact .inr ⟨c,cs,by simp only[SV.aI,hr],hg,fh hg.plain⟩
theorem NH {p q n:Nat} {f:Nat→En} {sv:SV} {bx:Option aN} (h:kz q n f sv bx): ∃ a,kz p n f a bx∧(∀ r:Nat→Nat,r p=q→SV.aI r a=sv)∧(∀ M:Nat→Prop,M p→SV.ok M a)∧ ∀ b,bx=some b→b.rw=true∧b.cells.all SV.plain=true:=by
 rcases h with ⟨h0,rfl,rfl⟩ | ⟨c,cs,rfl,hg,rfl⟩
 ·exact ⟨_, .inl ⟨h0,rfl,rfl⟩,fun r hr=>rfl,fun M hM=>SV.bk rfl,fun b hb=>(by cases hb)⟩
 ·exact ⟨.inr (.inr (p,0,n,c)), .inr ⟨c,cs,rfl,hg,rfl⟩,fun r hr=>by simp only[SV.aI,hr],fun M hM=>⟨hM,rfl⟩,fun b hb=>by cases hb;exact ⟨rfl,hg.plain⟩⟩
theorem NI {p q m:Nat} {G:Nat→Int} {o:SV} {bx:Option aN} (h:kA q m G o bx): ∃ a,kA p m G a bx∧(∀ r:Nat→Nat,r p=q→SV.aI r a=o)∧(∀ M:Nat→Prop,M p→SV.ok M a)∧ ∀ b,bx=some b→b.rw=true∧b.cells.all SV.plain=true:=by
 rcases h with ⟨h0,rfl,rfl⟩ | ⟨c,cs,rfl,hg,rfl⟩
 ·exact ⟨_, .inl ⟨h0,rfl,rfl⟩,fun r hr=>rfl,fun M hM=>SV.bk rfl,fun b hb=>(by cases hb)⟩
 ·exact ⟨.inr (.inr (p,0,m,c)), .inr ⟨c,cs,rfl,hg,rfl⟩,fun r hr=>by simp only[SV.aI,hr],fun M hM=>⟨hM,rfl⟩,fun b hb=>by cases hb;exact ⟨rfl,hg.plain⟩⟩
theorem yf {m:Nat} {G:Nat→Int}:bK (af .u8 m G) 0 m m G:=⟨by rw[ah];omega,Nat.le_refl m,aw,aV⟩
theorem Vl {s:AS} {k q q' n m:Nat} {f:Nat→En} {G:Nat→Int} {sv o:SV} {bx bo:Option aN} {Post:AV→(Nat→Option aN)→Prop} (mk:SV→SV→AV) (Wt: ∀ r a b,AV.aI r (mk a b)=mk (SV.aI r a) (SV.aI r b)) (hok: ∀ (M:Nat→Prop) a b,SV.ok M a→SV.ok M b→AV.ok M (mk a b))
  (hS:kz q n f sv bx) (hO:kA q' m G o bo) (hq:k≤q) (hq':k≤q') (hne:q≠q') (hb:s.box q=bx) (hb':s.box q'=bo)
  (h: ∀ a b out,kz k n f a (out k)→kA (k+1) m G b (out (k+1))→Post (mk a b) out):zB k 2 Post (mk sv o) s:=by
 obtain ⟨a,ha,ra,oa,xa⟩:=NH (p:=k) hS
 obtain ⟨b,qC,rb,ob,xb⟩:=NI (p:=k+1) hO
 have r0:hY k (fun j=>if j=0 then q else q') k=q:=by unfold hY;rw[if_neg (by omega)];exact if_pos (by omega)
 have r1:hY k (fun j=>if j=0 then q else q') (k+1)=q':=by unfold hY;rw[if_neg (by omega)];exact if_neg (by omega)
 refine ⟨fun j=>if j=0 then q else q',mk a b,fun j=>if j=k then bx else if j=k+1 then bo else none,fun j hj=>by (dsimp only;split)<;>assumption,fun i j hi hj e=> ?_, ?_,hok _ _ _ (oa _ (by omega)) (ob _ (by omega)),fun m b hm=> ?_,h a b _ (by rw[if_pos rfl];exact ha) (by rw[if_neg (by omega),if_pos rfl];exact qC)⟩
 ·dsimp only at e
  split at e<;>split at e
  ·omega
  ·exact absurd e hne
  ·exact absurd e.symm hne
  ·omega
 ·rw[Wt,ra _ r0,rb _ r1]
 ·dsimp only at hm
  split at hm
  ·rename_i e;subst e
   obtain ⟨h1,h2⟩:=xa b hm
   exact ⟨by omega,fun _=>h1,aC h2,b,by rw[r0,hb,hm],fun h=>h,(aQ h2 _).symm⟩
  ·split at hm
   ·rename_i _ e;subst e
    obtain ⟨h1,h2⟩:=xb b hm
    exact ⟨by omega,fun _=>h1,aC h2,b,by rw[r1,hb',hm],fun h=>h,(aQ h2 _).symm⟩
   ·cases hm
def Xn (nm:Nat) (A:G8) (dst:Option Nat) (K:AS→Prop) (s:AS):Prop:=
 ∀ sv bx o bo,kz nm A.n A.F sv bx→kA (nm+1) A.m A.G o bo→K ((⟨s.env,upd (upd s.box nm bx) (nm+1) bo,s.next⟩:AS).put dst (some (Ag (eV A.y { A.x with store:=sv } o A.ep A.nn))))
theorem oJ {s:AS} {nm fn:Nat} {A:G8} {args l:List AV} {ins:Nat→Option aN} {Post:AV→(Nat→Option aN)→Prop} {k:Nat} (h:gL Tryz.prog fn args k 2 ins Post) (hP: ∀ v out,Post v out→vg k A v out) (r:Nat→Nat) (hfit:Fits s r ins none) (hl:l=args.map (AV.aI r)) {dst:Option Nat} {K:AS→Prop}
  (hk:Xn nm A dst K s):bA Tryz.prog nm fn (some l) dst K s:=by
 refine h.ax r none hfit hl fun v out hv=> ?_
 obtain ⟨sv,o,rfl,hS,hO⟩:=hP v out hv
 rw[wj,uK]
 exact hk _ _ _ _ (Fs hS iN) (Ft hO BK)
theorem Fu {r:Nat→Nat} {x:St} {v o:SV} {ep nn:Int} {e:SV} (he:SV.plain e=true):AV.aI r (.inr [.inr (eV 0 { x with store:=v } o ep nn), .inl e])= .inr [.inr (eV 0 { x with store:=SV.aI r v } (SV.aI r o) ep nn), .inl e]:=by
 show (Sum.inr [Sum.inr ((eV 0 { x with store:=v } o ep nn).map (SV.aI r)), .inl (SV.aI r e)]:AV)=_
 rw[B3,SV.bB he]
theorem Vm {M:Nat→Prop} {x:St} {v o:SV} {ep nn:Int} {e:SV} (he:SV.plain e=true) (h1:SV.ok M v) (h2:SV.ok M o):AV.ok M (.inr [.inr (eV 0 { x with store:=v } o ep nn), .inl e]):=fun y hy=>by
 simp only[List.mem_cons,List.not_mem_nil,or_false]at hy
 rcases hy with rfl | rfl
 ·exact wv h1 h2
 ·exact (SV.bk (M:=M) he).1
theorem KZ {s:AS} {k q q':Nat} {E:Option Nat} {A:G8} {sv o:SV} {bx bo:Option aN} (hE:E=none) (hS:kz q A.n A.F sv bx) (hO:kA q' A.m A.G o bo) (hq:k≤q) (hq':k≤q') (hne:q≠q') (hb:s.box q=bx) (hb':s.box q'=bo):
  zB k 2 (CL k E A) (.inr [.inr (eV 0 { A.x with store:=sv } o A.ep A.nn), .inl (.inl .nilIface)]) s:=
 Vl (fun a b=> .inr [.inr (eV 0 { A.x with store:=a } b A.ep A.nn), .inl (.inl .nilIface)]) (fun r a b=>Fu rfl) (fun M a b h1 h2=>Vm rfl h1 h2) hS hO hq hq' hne hb hb' (fun a b out h1 h2=> .inr ⟨hE,a,b,rfl,h1,h2⟩)
theorem dE {s:AS} {k q q':Nat} {A:G8} {sv o:SV} {bx bo:Option aN} (hS:kz q A.n A.F sv bx) (hO:kA q' A.m A.G o bo) (hq:k≤q) (hq':k≤q') (hne:q≠q') (hb:s.box q=bx) (hb':s.box q'=bo):
  zB k 2 (vg k A) (Ag (eV A.y { A.x with store:=sv } o A.ep A.nn)) s:=
 Vl (fun a b=>Ag (eV A.y { A.x with store:=a } b A.ep A.nn)) (fun r a b=>uK) (fun M a b h1 h2=>wv h1 h2) hS hO hq hq' hne hb hb' (fun a b out h1 h2=>⟨a,b,rfl,h1,h2⟩)
theorem yg {s:AS} {nm fn:Nat} {E:Option Nat} {A:G8} {args l:List AV} {ins:Nat→Option aN} {Post:AV→(Nat→Option aN)→Prop} {k:Nat} (h:gL Tryz.prog fn args k 2 ins Post) (hP: ∀ v out,Post v out→CL k E A v out) (r:Nat→Nat) (hfit:Fits s r ins none) (hl:l=args.map (AV.aI r)) {dst:Option Nat} {K:AS→Prop}
  (h0: ∀ i,E=some i→K ((⟨s.env,upd (upd s.box nm none) (nm+1) none,s.next⟩:AS).put dst (some (.inr [.inr (eV 0 rM (.inl (.slice none 0 0)) 0 0), .inl (.inl (gH i))]))))
  (hk:E=none→ ∀ sv bx o bo,kz nm A.n A.F sv bx→kA (nm+1) A.m A.G o bo→K ((⟨s.env,upd (upd s.box nm bx) (nm+1) bo,s.next⟩:AS).put dst (some (.inr [.inr (eV 0 { A.x with store:=sv } o A.ep A.nn), .inl (.inl .nilIface)])))):bA Tryz.prog nm fn (some l) dst K s:=by
 refine h.ax r none hfit hl fun v out hv=> ?_
 rcases hP v out hv with ⟨i,hE,rfl,rfl⟩ | ⟨hE,sv,o,rfl,hS,hO⟩
 ·rw[wj,AV.bB (by rfl)]
  exact h0 i hE
 ·rw[wj,Fu rfl]
  exact hk hE _ _ _ _ (Fs hS iN) (Ft hO BK)
def K0 (n:Nat) (f:Nat→Int):Prop:=77≤n∧n≤65613∧f 0=210∧dW f 41=((n - 77:Nat):Int)
theorem Qy {a b:SV}:splice [a] 0 [b]=[b]:=rfl
theorem CM {o n c:Nat} {f:Nat→Int} {cs:List SV} (hf:br f) (hs:aZ cs o n f) (hp:cs.all SV.plain=true) (hc:n≤c) (hn:n < 140737488355328) (b:Bool) (hb:b=true↔K0 n f):
  bf Tryz.prog 51 [Sl 0 o n c] 1 (lk [(0,⟨false,cs⟩)]) (fun v out=>v=B b∧out=fun _=>none):=by
 refine av Tryz.func51 rfl (by kernel_rfl) (by simp[Tryz.ntmps51]) Tryz.uk (by simp[AV.ok,CV.ok,SV.names]) dG (dH hp) ?_
 have fO: ∀ {M:Nat→Prop},(∀ x ∈ cs,SV.ok M x)=True:=eq_true (aC hp)
 by_cases h1:n < 77
 ·have d1:decide ((n:Int) < 77)=true:=decide_eq_true (by omega)
  have:b=false:=by cases b with
   | false=>rfl
   | true=>exact absurd (hb.1 rfl).1 (by omega)
  subst this
  simp only[Tryz.results51,d1,vR,seval, -List.reduceReplicate]
  exact ak rfl ⟨rfl,rfl⟩
 have d1:decide ((n:Int) < 77)=false:=decide_eq_false (by omega)
 by_cases h2:65613 < n
 ·have d2:decide (65613 < (n:Int))=true:=decide_eq_true (by omega)
  have:b=false:=by cases b with
   | false=>rfl
   | true=>exact absurd (hb.1 rfl).2.1 (by omega)
  subst this
  simp only[Tryz.results51,d1,d2,vR,seval, -List.reduceReplicate]
  exact ak rfl ⟨rfl,rfl⟩
 have d2:decide (65613 < (n:Int))=false:=decide_eq_false (by omega)
 have a0:=hs 0 (by omega)
 rw[Nat.add_zero]at a0
 have l0:((0:Int) < (n:Int))=True:=eq_true (by omega)
 have l41:((41:Int)≤(n:Int))=True:=eq_true (by omega)
 have l42:((n:Int)≤(c:Int))=True:=eq_true (by omega)
 by_cases h3:f 0=210
 rotate_left 1
 ·have d3:(f 0 != 210)=true:=by simpa using h3
  have:b=false:=by cases b with
   | false=>rfl
   | true=>exact absurd (hb.1 rfl).2.2.1 h3
  subst this
  simp only[Tryz.results51,d1,d2,d3,l0,a0,vR,seval, -List.reduceReplicate]
  exact ak rfl ⟨rfl,rfl⟩
 ·have d3:(f 0 != 210)=false:=by simpa using h3
  simp only[Tryz.results51,d1,d2,d3,l0,l41,l42,Qy,a0,vR,seval, -List.reduceReplicate]
  have hs':=kO (m:=41) hs (by omega) hc
  have hf':br (fun i=>f (41+i)):=fun i=>hf _
  refine lh (Qa (o:=Za o 41 c) (n:=n - 41) (c:=c - 41) hf' hs' hp (by omega) (by omega)) (t:=19) (u:=0) (rw:=false) (by simp only[ae,vR,seval, -List.reduceReplicate];rfl) (by simp only[ae,vR,seval, -List.reduceReplicate]) hp (by decide) rfl (y:=I .u32 (dW (fun i=>f (41+i)) 0)) rfl ?_
  have e:dW (fun i=>f (41+i)) 0=dW f 41:=rfl
  have w1:IntKind.i64.wrap ((n:Int) - 77)=((n - 77:Nat):Int):=by rw[wrap_i64 _ (by omega) (by omega)];omega
  have w2:IntKind.u32.wrap ((n - 77:Nat):Int)=((n - 77:Nat):Int):=dt _ (by omega) (by omega)
  simp only[e,w1,w2,vR,seval, -List.reduceReplicate]
  have eb:(dW f 41==((n - 77:Nat):Int))=b:=by
   rw[Bool.eq_iff_iff,hb]
   simp only[K0,beq_iff_eq]
   exact ⟨fun h=>⟨by omega,by omega,h3,h⟩,fun h=>h.2.2.2⟩
  rw[eb]
  exact ak rfl ⟨rfl,rfl⟩
def Vn (k m:Nat) (f:Nat→Int) (v:AV) (out:Nat→Option aN):Prop:=
 (m=0∧v=Ag (fT (fun i=>f (1+i)) (dW f 33) (dW f 37) (Sum.inl (.slice none 0 0)) (fun i=>f (45+m+i)))∧out=fun _=>none)∨
 ∃ c tail,0 < m∧v=Ag (fT (fun i=>f (1+i)) (dW f 33) (dW f 37) (Sum.inr (.inr (k,0,m,c))) (fun i=>f (45+m+i)))∧out=lk [(k,⟨true,af .u8 m (fun i=>f (45+i))++tail⟩)]∧m≤c∧tail.length=c - m∧tail.all SV.plain=true
theorem aac {s:AS} {k q m c:Nat} {aG tag:Nat→Int} {a b:Int} {cs:List SV} (hq:k≤q) (hb:s.box q=some ⟨true,cs⟩) (hp:cs.all SV.plain=true):
  qA k (fun v out=>v=Ag (fT aG a b (Sum.inr (.inr (k,0,m,c))) tag)∧out=lk [(k,⟨true,cs⟩)]) (Ag (fT aG a b (Sum.inr (.inr (q,0,m,c))) tag)) s:=by
 refine ⟨q,Ag (fT aG a b (Sum.inr (.inr (k,0,m,c))) tag),lk [(k,⟨true,cs⟩)],hq, ?_,jF ⟨Nat.lt_succ_self k,rfl⟩,fun m b hm=> ?_,rfl,rfl⟩
 ·rw[lX]
  show _=Ag (fT aG a b (Sum.inr (.inr (kc k q k,0,m,c))) tag)
  rw[iR]
 ·simp only[lk]at hm
  split at hm
  ·rename_i e
   simp only[Option.some.injEq]at hm;subst e hm
   exact ⟨Nat.lt_succ_self m,fun _=>rfl,aC hp,_,by rw[iR];exact hb,fun _=>rfl,(aQ hp _).symm⟩
  ·cases hm
theorem nQ {aG tag:Nat→Int} {a b:Int}:AV.plain (Ag (fT aG a b (Sum.inl (.slice none 0 0)) tag))=true:=by
 have:=xV (aG:=aG) (pn:=a) (n:=b) (tag:=tag) (sv:=Sum.inl (.slice none 0 0)) rfl
 simpa[AV.plain,CV.plain] using this
def Qz:bn:=
 let e:bn:= .cons 3 (.cons 4 .nil .nil) .nil
 .cons 0 (.cons 1 (.cons 2 e .nil) (.cons 2 (.cons 1 e .nil) .nil)) (.cons 1 (.cons 0 (.cons 2 e .nil) (.cons 2 (.cons 0 e .nil) .nil)) (.cons 2 (.cons 0 (.cons 1 e .nil) (.cons 1 (.cons 0 e .nil) .nil)) .nil))
theorem K1 {o n c:Nat} {f:Nat→Int} {cs:List SV} (hf:br f) (hs:aZ cs o n f) (hp:cs.all SV.plain=true) (hc:n≤c) (hn:n < 140737488355328) (hfr:K0 n f):
  bf Tryz.prog 52 [Sl 0 o n c] 1 (lk [(0,⟨false,cs⟩)]) (Vn 1 (n - 77) f):=by
 refine IE Tryz.func52 rfl (by kernel_rfl) (by simp[Tryz.ntmps52]) Tryz.um (by simp[AV.ok,CV.ok,SV.names]) dG (dH hp) ?_
 have fO: ∀ {M:Nat→Prop},(∀ x ∈ cs,SV.ok M x)=True:=eq_true (aC hp)
 obtain ⟨h77,h65,agF,hlen⟩:=hfr
 have l41:((1:Int)≤(n:Int))=True:=eq_true (by omega)
 have l42:((n:Int)≤(c:Int))=True:=eq_true (by omega)
 have hs1:=kO (m:=1) hs (by omega) hc
 have XF:=kO (c:=c - 1) (m:=32) hs1 (by omega) (by omega)
 have hs3:=kO (c:=c - 1 - 32) (m:=4) XF (by omega) (by omega)
 have hs4:=kO (c:=c - 1 - 32 - 4) (m:=4) hs3 (by omega) (by omega)
 have hs5:=kO (c:=c - 1 - 32 - 4 - 4) (m:=4) hs4 (by omega) (by omega)
 have hs5:aZ cs _ _ (fun i=>f (45+i)):=jN hs5 fun i hi=>congrArg f (by omega)
 have hs6:=kO (c:=c - 1 - 32 - 4 - 4 - 4) (m:=n - 77) hs5 (by omega) (by omega)
 have hs6:aZ cs _ _ (fun i=>f (45+(n - 77)+i)):=jN hs6 fun i hi=>congrArg f (by omega)
 simp only[Tryz.results52,l41,l42,Qy,uT,dv,vR,seval, -List.reduceReplicate]
 refine ⟨by kernel_rfl, ?_⟩
 refine lh (UL (c:=c - 1) hs1 hp (by omega) (by omega)) (t:=5) (u:=0) (rw:=false) (by simp only[ae,vR,seval, -List.reduceReplicate];rfl) (by simp only[ae,vR,seval, -List.reduceReplicate]) hp (by decide) rfl (y:=Ag (af .u8 32 (fun i=>f (1+i)))) rfl ?_
 simp only[vR,seval, -List.reduceReplicate]
 refine lh (Qa (c:=c - 1 - 32) (fun i=>hf _) XF hp (by omega) (by omega)) (t:=5) (u:=0) (rw:=false) (by simp only[ae,vR,seval, -List.reduceReplicate]) (by simp only[ae,vR,seval, -List.reduceReplicate]) hp (by decide) rfl (y:=I .u32 (dW f 33)) rfl ?_
 simp only[vR,seval, -List.reduceReplicate]
 refine lh (Qa (c:=c - 1 - 32 - 4) (fun i=>hf _) hs3 hp (by omega) (by omega)) (t:=5) (u:=0) (rw:=false) (by simp only[ae,vR,seval, -List.reduceReplicate]) (by simp only[ae,vR,seval, -List.reduceReplicate]) hp (by decide) rfl (y:=I .u32 (dW f 37)) rfl ?_
 simp only[Qe,Nd,UN,UO,UQ,UR,nN,mZ,vR,seval, -List.reduceReplicate]
 refine ⟨by kernel_rfl, ?_⟩
 refine lh (Qa (c:=c - 1 - 32 - 4 - 4) (fun i=>hf _) hs4 hp (by omega) (by omega)) (t:=5) (u:=0) (rw:=false) (by simp only[ae,vR,seval, -List.reduceReplicate]) (by simp only[ae,vR,seval, -List.reduceReplicate]) hp (by decide) rfl (y:=I .u32 (dW f 41)) rfl ?_
 have w1:IntKind.i64.wrap ((n - 77:Nat):Int)=((n - 77:Nat):Int):=O' _ (by omega)
 simp only[hlen,w1,vR,seval, -List.reduceReplicate]
 refine L7 (WT (c:=c - 1 - 32 - 4 - 4 - 4) (m:=n - 77) hs5 hp (by omega) (by omega) (by omega)) (t:=5) (u:=0) (rw:=false) (by simp only[ae,vR,seval, -List.reduceReplicate]) (by simp only[ae,vR,seval, -List.reduceReplicate]) hp (by decide) rfl (fun h0=> ?_) (fun h0 q cs' hg=> ?_)
 ·simp only[vR,seval, -List.reduceReplicate]
  refine .inr ⟨Tryz.mixed,Qz,by kernel_rfl, ?_⟩
  simp only[Qz,mZ,nN,dv,vR,seval, -List.reduceReplicate]
  refine ⟨⟨?_, ?_⟩,⟨?_, ?_⟩, ?_⟩
  all_goals
   refine lh (UL (c:=c - 1 - 32 - 4 - 4 - 4 - (n - 77)) hs6 hp (by omega) (by omega)) (t:=5) (u:=0) (rw:=false) (by simp only[ae,vR,seval, -List.reduceReplicate]) (by simp only[ae,vR,seval, -List.reduceReplicate]) hp (by decide) rfl (y:=Ag (af .u8 32 (fun i=>f (45+(n - 77)+i)))) rfl ?_
   simp only[mZ,nN,pM,iQ,Qf,Qg,Qh,wI,jw,dv,vR,seval, -List.reduceReplicate]
  all_goals first
   | exact ak (nQ) (.inl ⟨h0,rfl,rfl⟩)
   | exact ⟨ak (nQ) (.inl ⟨h0,rfl,rfl⟩),ak (nQ) (.inl ⟨h0,rfl,rfl⟩)⟩
 ·obtain ⟨c2,tail,h1,h2,h3,h4,h5⟩:=hg.made (k:=1)
  have hc:q=c2:=by cases h1;rfl
  subst hc
  have l6:af .u8 (n - 77) (fun i=>f (45+i))++tail=cs':=by
   have:=congrFun h2 1
   simpa[lk] using this.symm
  have fin: ∀ s:AS,s.box 15=some ⟨true,cs'⟩→qA 1 (Vn 1 (n - 77) f) (Ag (fT (fun i=>f (1+i)) (dW f 33) (dW f 37) (Sum.inr (.inr (15,0,n - 77,q))) (fun i=>f (45+(n - 77)+i)))) s:=fun s hs=>
   qG (aac (k:=1) (by decide) hs hg.plain) (fun v out h=> .inr ⟨q,tail,h0,h.1,by rw[h.2,l6],h3,h4,h5⟩)
  simp only[vR,seval, -List.reduceReplicate]
  refine .inr ⟨Tryz.mixed,Qz,by kernel_rfl, ?_⟩
  simp only[Qz,mZ,nN,dv,vR,seval, -List.reduceReplicate]
  refine ⟨⟨?_, ?_⟩,⟨?_, ?_⟩, ?_⟩
  all_goals
   refine lh (UL (c:=c - 1 - 32 - 4 - 4 - 4 - (n - 77)) hs6 hp (by omega) (by omega)) (t:=5) (u:=0) (rw:=false) (by simp only[ae,vR,seval, -List.reduceReplicate]) (by simp only[ae,vR,seval, -List.reduceReplicate]) hp (by decide) rfl (y:=Ag (af .u8 32 (fun i=>f (45+(n - 77)+i)))) rfl ?_
   simp only[mZ,nN,pM,iQ,Qf,Qg,Qh,wI,jw,dv,vR,seval, -List.reduceReplicate]
  all_goals first
   | exact fin _ rfl
   | exact ⟨fin _ rfl,fin _ rfl⟩
theorem NJ {s:AS} {nm fn t m:Nat} {f:Nat→Int} {args l:List AV} {cs:List SV} {rw:Bool} (h:bf Tryz.prog fn args 1 (lk [(0,⟨false,cs⟩)]) (Vn 1 m f)) (hb:s.box t=some ⟨rw,cs⟩) (hp:cs.all SV.plain=true) (hl:l=args.map (AV.aI fun _=>t)) {dst:Option Nat} {K:AS→Prop}
  (h0:m=0→K (s.put dst (some (Ag (fT (fun i=>f (1+i)) (dW f 33) (dW f 37) (Sum.inl (.slice none 0 0)) (fun i=>f (45+m+i)))))))
  (hk:0 < m→ ∀ q cs',bK cs' 0 m q (fun i=>f (45+i))→K ((⟨s.env,upd s.box nm (some ⟨true,cs'⟩),s.next⟩:AS).put dst (some (Ag (fT (fun i=>f (1+i)) (dW f 33) (dW f 37) (rd nm 0 m q) (fun i=>f (45+m+i))))))):
  ax Tryz.prog nm fn (some l) dst K s:=by
 refine h.ax (fun _=>t) none (bS hb hp) hl ?_
 rintro v out (⟨e,rfl,rfl⟩ | ⟨q,tail,hm,rfl,rfl,h1,h2,h3⟩) _
 ·rw[AV.bB nQ];exact h0 e
 ·rw[fN (cD h3),lX]
  have e:SV.aI (dJ (fun _=>t) 1 nm) (Sum.inr (.inr (1,0,m,q)))=rd nm 0 m q:=by show rd (dJ (fun _=>t) 1 nm 1) 0 m q=_;rw[gT]
  rw[e]
  exact hk hm q _ (bK.row h1 h2 h3)
def zp:AV:= .inr [.inr (fT (fun _=>0) 0 0 (Sum.inl (.slice none 0 0)) (fun _=>0)), .inl (.inl (.bool false))]
theorem jW:AV.plain zp=true:=by
 have:=xV (aG:=fun _=>0) (pn:=0) (n:=0) (tag:=fun _=>0) (sv:=Sum.inl (.slice none 0 0)) rfl
 simpa[zp,AV.plain,CV.plain,SV.plain] using this
theorem NK {o n c:Nat} {f:Nat→Int} {cs:List SV} (hf:br f) (hs:aZ cs o n f) (hp:cs.all SV.plain=true) (hc:n≤c) (hn:n < 140737488355328) (hfr: ¬ K0 n f):
  bf Tryz.prog 28 [Sl 0 o n c] 1 (lk [(0,⟨false,cs⟩)]) (fun v out=>v=zp∧out=fun _=>none):=by
 refine av Tryz.func28 rfl (by kernel_rfl) (by simp[Tryz.ntmps28]) Tryz.pa (by simp[AV.ok,CV.ok,SV.names]) dG (dH hp) ?_
 simp only[Tryz.results28,uT,pM,iQ,wI,jw,vR,seval, -List.reduceReplicate]
 refine ⟨by kernel_rfl, ?_⟩
 refine (CM hf hs hp hc hn false (by simp[hfr])).cW (fun _=>0) (bS (rw:=false) (by simp only[ae,vR,seval, -List.reduceReplicate]) hp) rfl rfl ?_
 simp only[Bool.not_false,uT,pM,iQ,wI,jw,vR,seval, -List.reduceReplicate]
 exact ak jW ⟨rfl,rfl⟩
def ae6 (k m:Nat) (f:Nat→Int) (v:AV) (out:Nat→Option aN):Prop:=
 ∃ sv,v= .inr [.inr (fT (fun i=>f (1+i)) (dW f 33) (dW f 37) sv (fun i=>f (45+m+i))), .inl (.inl (.bool true))]∧
  ((m=0∧sv=Sum.inl (.slice none 0 0)∧out=fun _=>none)∨
   ∃ c tail,0 < m∧sv=Sum.inr (.inr (k,0,m,c))∧out=lk [(k,⟨true,af .u8 m (fun i=>f (45+i))++tail⟩)]∧m≤c∧tail.length=c - m∧tail.all SV.plain=true)
theorem QA {s:AS} {k q m c:Nat} {aG tag:Nat→Int} {a b:Int} {cs:List SV} (hq:k≤q) (hb:s.box q=some ⟨true,cs⟩) (hp:cs.all SV.plain=true):
  qA k (fun v out=>v= .inr [.inr (fT aG a b (Sum.inr (.inr (k,0,m,c))) tag), .inl (.inl (.bool true))]∧out=lk [(k,⟨true,cs⟩)]) (.inr [.inr (fT aG a b (Sum.inr (.inr (q,0,m,c))) tag), .inl (.inl (.bool true))]) s:=by
 refine ⟨q, .inr [.inr (fT aG a b (Sum.inr (.inr (k,0,m,c))) tag), .inl (.inl (.bool true))],lk [(k,⟨true,cs⟩)],hq, ?_, ?_,fun m b hm=> ?_,rfl,rfl⟩
 ·have e:SV.aI (kc k q) (Sum.inr (.inr (k,0,m,c)))=Sum.inr (.inr (q,0,m,c)):=by
   show (Sum.inr (.inr (kc k q k,0,m,c)):SV)=_
   rw[iR]
  simp only[AV.aI,List.map_cons,List.map_nil,CV.aI,rT,e];rfl
 ·intro x hx
  simp only[List.mem_cons,List.not_mem_nil,or_false]at hx
  rcases hx with rfl | rfl
  ·exact jF ⟨Nat.lt_succ_self k,rfl⟩
  ·trivial
 ·simp only[lk]at hm
  split at hm
  ·rename_i e
   simp only[Option.some.injEq]at hm;subst e hm
   exact ⟨Nat.lt_succ_self m,fun _=>rfl,aC hp,_,by rw[iR];exact hb,fun _=>rfl,(aQ hp _).symm⟩
  ·cases hm
theorem zq {aG tag:Nat→Int} {a b:Int}:AV.plain (.inr [.inr (fT aG a b (Sum.inl (.slice none 0 0)) tag), .inl (.inl (.bool true))])=true:=by
 have:=xV (aG:=aG) (pn:=a) (n:=b) (tag:=tag) (sv:=Sum.inl (.slice none 0 0)) rfl
 simpa[AV.plain,CV.plain,SV.plain] using this
theorem K2 {o n c:Nat} {f:Nat→Int} {cs:List SV} (hf:br f) (hs:aZ cs o n f) (hp:cs.all SV.plain=true) (hc:n≤c) (hn:n < 140737488355328) (hfr:K0 n f):
  bf Tryz.prog 28 [Sl 0 o n c] 1 (lk [(0,⟨false,cs⟩)]) (ae6 1 (n - 77) f):=by
 refine av Tryz.func28 rfl (by kernel_rfl) (by simp[Tryz.ntmps28]) Tryz.pa (by simp[AV.ok,CV.ok,SV.names]) dG (dH hp) ?_
 simp only[Tryz.results28,uT,pM,iQ,wI,jw,vR,seval, -List.reduceReplicate]
 refine ⟨by kernel_rfl, ?_⟩
 refine (CM hf hs hp hc hn true (by simp[hfr])).cW (fun _=>0) (bS (rw:=false) (by simp only[ae,vR,seval, -List.reduceReplicate]) hp) rfl rfl ?_
 simp only[Bool.not_true,vR,seval, -List.reduceReplicate]
 refine NJ (t:=0) (K1 hf hs hp hc hn hfr) (rw:=false) (by simp only[ae,vR,seval, -List.reduceReplicate]) hp rfl (fun h0=> ?_) (fun h0 q cs' hg=> ?_)
 ·simp only[iQ,wI,jw,vR,seval, -List.reduceReplicate]
  exact ak zq ⟨_,rfl, .inl ⟨h0,rfl,rfl⟩⟩
 ·obtain ⟨c2,tail,h1,h2,h3,h4,h5⟩:=hg.made (k:=1)
  have hc:q=c2:=by cases h1;rfl
  subst hc
  have l6:af .u8 (n - 77) (fun i=>f (45+i))++tail=cs':=by
   have:=congrFun h2 1
   simpa[lk] using this.symm
  simp only[iQ,wI,jw,vR,seval, -List.reduceReplicate]
  exact qG (QA (k:=1) (by decide) rfl hg.plain) (fun v out h=>⟨_,h.1, .inr ⟨q,tail,h0,rfl,by rw[h.2,l6],h3,h4,h5⟩⟩)
end Go.Proofs.YtpnehhpadofcbaaGreatDoor
