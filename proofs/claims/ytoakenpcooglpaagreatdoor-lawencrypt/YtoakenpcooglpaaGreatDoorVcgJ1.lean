/-
  Refusals, by the machine: the code of a sentinel, a state of its own store.
-/
import Derived.Test.YtoakenpcooglpaaGreatDoorVcgPL
import Derived.Test.YtoakenpcooglpaaGreatDoorVcgE3
import Derived.Test.YtoakenpcooglpaaGreatDoorVcgRx
import Derived.Test.YtoakenpcooglpaaGreatDoorVcgWi
set_option linter.unusedVariables false
set_option linter.unusedSimpArgs false
namespace Go.Proofs.YtoakenpcooglpaaGreatDoor
set_option maxHeartbeats 8000000
set_option maxRecDepth 20000
open Go.cA
set_option linter.unusedSectionVars false
variable [aX]
def pw (i:Nat):Int:=if i=4 then 2 else if i=5 then 3 else if i=6 then 4 else if i=7 then 5 else if i=3 then 6 else if i=8 then 8 else if i=2 then 9 else if i=1 then 10 else 1
theorem OL {i:Nat} (hi:i < 9):cB Tryz.prog 33 [V (mS i)] (I .i64 (pw i)):=by
 refine aK Tryz.func33 rfl (by kernel_rfl) (by simp[Tryz.ntmps33]) rfl rfl ?_
 simp only[Tryz.results33,Tryz.vs,Value.oneCell',simprocAttr, -List.reduceReplicate]
 refine (mq (j:=4) hi (by decide)).aB ?_
 simp only[Tryz.vr,Value.oneCell',simprocAttr, -List.reduceReplicate]
 refine dC (fun h=> ?_) (fun h4=> ?_)
 ·obtain rfl:i=4:=by simpa using h
  simp only[Tryz.vr,Value.oneCell',simprocAttr, -List.reduceReplicate];rfl
 simp only[Tryz.vr,Value.oneCell',simprocAttr, -List.reduceReplicate]
 refine (mq (j:=5) hi (by decide)).aB ?_
 simp only[Tryz.vr,Value.oneCell',simprocAttr, -List.reduceReplicate]
 refine dC (fun h=> ?_) (fun h5=> ?_)
 ·obtain rfl:i=5:=by simpa using h
  simp only[Tryz.vr,Value.oneCell',simprocAttr, -List.reduceReplicate];rfl
 simp only[Tryz.vr,Value.oneCell',simprocAttr, -List.reduceReplicate]
 refine (mq (j:=6) hi (by decide)).aB ?_
 simp only[Tryz.vr,Value.oneCell',simprocAttr, -List.reduceReplicate]
 refine dC (fun h=> ?_) (fun h6=> ?_)
 ·obtain rfl:i=6:=by simpa using h
  simp only[Tryz.vr,Value.oneCell',simprocAttr, -List.reduceReplicate];rfl
 simp only[Tryz.vr,Value.oneCell',simprocAttr, -List.reduceReplicate]
 refine (mq (j:=7) hi (by decide)).aB ?_
 simp only[Tryz.vr,Value.oneCell',simprocAttr, -List.reduceReplicate]
 refine dC (fun h=> ?_) (fun h7=> ?_)
 ·obtain rfl:i=7:=by simpa using h
  simp only[Tryz.vr,Value.oneCell',simprocAttr, -List.reduceReplicate];rfl
 simp only[Tryz.vr,Value.oneCell',simprocAttr, -List.reduceReplicate]
 refine (mq (j:=3) hi (by decide)).aB ?_
 simp only[Tryz.vr,Value.oneCell',simprocAttr, -List.reduceReplicate]
 refine dC (fun h=> ?_) (fun h3=> ?_)
 ·obtain rfl:i=3:=by simpa using h
  simp only[Tryz.vr,Value.oneCell',simprocAttr, -List.reduceReplicate];rfl
 simp only[Tryz.vr,Value.oneCell',simprocAttr, -List.reduceReplicate]
 refine (mq (j:=8) hi (by decide)).aB ?_
 simp only[Tryz.vr,Value.oneCell',simprocAttr, -List.reduceReplicate]
 refine dC (fun h=> ?_) (fun h8=> ?_)
 ·obtain rfl:i=8:=by simpa using h
  simp only[Tryz.vr,Value.oneCell',simprocAttr, -List.reduceReplicate];rfl
 simp only[Tryz.vr,Value.oneCell',simprocAttr, -List.reduceReplicate]
 refine (mq (j:=2) hi (by decide)).aB ?_
 simp only[Tryz.vr,Value.oneCell',simprocAttr, -List.reduceReplicate]
 refine dC (fun h=> ?_) (fun h2=> ?_)
 ·obtain rfl:i=2:=by simpa using h
  simp only[Tryz.vr,Value.oneCell',simprocAttr, -List.reduceReplicate];rfl
 simp only[Tryz.vr,Value.oneCell',simprocAttr, -List.reduceReplicate]
 refine (mq (j:=1) hi (by decide)).aB ?_
 simp only[Tryz.vr,Value.oneCell',simprocAttr, -List.reduceReplicate]
 refine dC (fun h=> ?_) (fun h1=> ?_)
 ·obtain rfl:i=1:=by simpa using h
  simp only[Tryz.vr,Value.oneCell',simprocAttr, -List.reduceReplicate];rfl
 simp only[Tryz.vr,Value.oneCell',simprocAttr, -List.reduceReplicate]
 have e:pw i=1:=by
  simp only[beq_eq_false_iff_ne,ne_eq]at h4 h5 h6 h7 h3 h8 h2 h1
  simp only[pw,h4,h5,h6,h7,h3,h8,h2,h1,if_false]
 rw[e]
theorem VQ {P:Program} [cA.Tables P] {t tx lM:Nat} (hk:ru P t=some (skZ,66,lM)) (hx:ln P tx=some (none,66)) {s:AS} {nm u m:Nat} {v:SV} {g:Nat→En} {rw:Bool} {cs:List SV} (hb:s.box u=some ⟨rw,cs⟩) (hv:aY u v m g cs) (hby:m*lM≤140737488355328) (h63:m≤9223372036854775807) {ty:TypeId} {ct:Array Bool} {dst:Option Nat} {K:AS→Prop}
  (h0:m=0→K (s.put dst (some (V (.slice none 0 0)))))
  (hK:0 < m→ ∀ c' cs',df cs' 0 m c' g→K ((⟨s.env,upd s.box nm (some ⟨true,cs'⟩),s.next⟩:AS).put dst (some (Sl nm 0 m c')))):
  cC P nm .append #[t,tx] ty ct (some [V (.slice none 0 0), .inl (.inl v)]) dst K s:=by
 rcases hv with ⟨⟨a,rfl⟩,rfl⟩ | ⟨o,c,rfl,hc,hs⟩
 ·exact gJ (m:=0) (news:=[]) (sz:=66) hk hx rfl (by decide) GU (.inr ⟨⟨a,rfl⟩,rfl,rfl⟩) h63 hby h0 (fun h=>absurd h (by decide))
 ·exact gJ (news:=iG m g) (sz:=66) hk hx rfl (by decide) GU (.inl ⟨u,o,c,_,rfl,hb,jD,mr hs,by simp⟩) h63 hby h0 (fun hm c' tail h1 h2 h3=>hK hm c' _ (df.row h1 h2 h3))
def alH (k n:Nat) (s:St) (f:Nat→En) (v:AV) (out:Nat→Option aW):Prop:= ∃ sv,v=Ag (bO { s with store:=sv })∧LQ k n f sv out
theorem ZT {s:St} {n:Nat} {f:Nat→En} {cs:List SV} (h0:aY 0 s.store n f cs) (hp:cs.all SV.plain=true) (hn:n*72≤140737488355328):
  bt Tryz.prog 34 [Ag (bO s)] 1 (lk [(0,⟨false,cs⟩)]) (alH 1 n s f):=by
 refine aE Tryz.func34 rfl (by kernel_rfl) (by simp[Tryz.ntmps34]) Tryz.qh (fun y hy=>by
  obtain rfl:=List.mem_singleton.1 hy
  exact cO (h0.ok (by decide))) eG (eH hp) ?_
 simp only[Tryz.results34,bL,aq,Tryz.vr,Value.oneCell',simprocAttr, -List.reduceReplicate]
 refine VQ (lM:=72) (rw:=false) (cs:=cs) Tryz.rT Tryz.rS (by simp only[af,Tryz.vr,Value.oneCell',simprocAttr, -List.reduceReplicate]) h0 hn (by omega) (fun h=> ?_) (fun h c1 mT g1=> ?_)
 ·simp only[bL,aq,Tryz.vr,Value.oneCell',simprocAttr, -List.reduceReplicate]
  exact aC (LM rfl) ⟨_,rfl, .inl ⟨h,rfl,rfl⟩⟩
 ·simp only[bL,aq,Tryz.vr,Value.oneCell',simprocAttr, -List.reduceReplicate]
  exact agd (by decide) (by simp only[af,Tryz.vr,Value.oneCell',simprocAttr, -List.reduceReplicate]) g1.plain ⟨_,rfl, .inr ⟨h,_,_,rfl,g1,rfl⟩⟩
end Go.Proofs.YtoakenpcooglpaaGreatDoor
namespace Go.Proofs.YtoakenpcooglpaaGreatDoor
set_option maxHeartbeats 8000000
set_option maxRecDepth 20000
open Go.cA
set_option linter.unusedSectionVars false
variable [aX]
def iJ (s:St) (n:Nat) (f:Nat→En) (m:Nat):Option Nat:=
 if iq s n f=false then some 0 else if 65536 < m then some 1 else if s.peer=false then some 2
 else if s.has=true∧s.ns=4294967295∨s.has=false∧s.se=4294967295 then some 3 else none
def Bu (o:Option Nat):AV:=match o with
 | none=>V .nilIface
 | some i=>V (mS i)
theorem OM (o:Option Nat):AV.plain (Bu o)=true:=by cases o<;>rfl
theorem Um {s:St} {n m i:Nat} {f:Nat→En} (h:iJ s n f m=some i):i < 4:=by
 unfold iJ at h
 repeat' split at h
 all_goals first | (cases h;decide) | cases h
theorem VR {s:St} {n m:Nat} {f:Nat→En} {g:Nat→Int} {vp:AV} {cs ds:List SV} (h0:aY 0 s.store n f cs) (hp:cs.all SV.plain=true) (hs:iH s) (hf: ∀ i,la (f i)) (hn:n < 4611686018427387904) (hv:eD 1 vp m g ds) (hq:ds.all SV.plain=true):
  bt Tryz.prog 16 [Ag (bO s),vp] 2 (lk [(0,⟨false,cs⟩),(1,⟨false,ds⟩)]) (fun v out=>v=Bu (iJ s n f m)∧out=fun _=>none):=by
 have hok:AV.ok (fun n=>n < 2) vp:=by
  rcases hv with ⟨⟨a,rfl⟩,_⟩ | ⟨o,c,rfl,_⟩
  ·trivial
  ·exact (show 1 < 2 by decide)
 refine aE Tryz.func16 rfl (by kernel_rfl) (by simp[Tryz.ntmps16]) Tryz.pW (fun y hy=>by
  simp only[List.mem_cons,List.not_mem_nil,or_false]at hy
  rcases hy with rfl | rfl
  ·exact cO (h0.ok (by decide))
  ·exact hok) nq (rI hp hq) ?_
 have Co: ∀ {box:Nat→Option aW},box 0=some ⟨false,cs⟩→gS box s.store n f:=fun hb=>⟨0,false,cs,hb,hp,h0⟩
 have hl:fB 1 (some [vp])=some (some (I .i64 m),none):=by
  rcases hv with ⟨⟨a,rfl⟩,rfl⟩ | ⟨o,c,rfl,_⟩<;>rfl
 simp only[Tryz.results16,aq,Tryz.vr,Value.oneCell',simprocAttr, -List.reduceReplicate]
 refine gS.calls (n:=n) (f:=f) (w:=B (iq s n f)) (Co (by simp only[af,Tryz.vr,Value.oneCell',simprocAttr, -List.reduceReplicate])) rfl (fun v cs hv hp=>by have:=abF (s:={ s with store:=v }) hv hp (hs.ws v) hf hn;rwa [Ox]at this) ?_
 simp only[Tryz.vr,Value.oneCell',simprocAttr, -List.reduceReplicate]
 rcases Bool.eq_false_or_eq_true (iq s n f) with hb | hb
 rotate_left 1
 ·simp only[hb,Bool.not_false,Tryz.vr,Value.oneCell',simprocAttr, -List.reduceReplicate]
  exact aC rfl ⟨by simp[iJ,hb,Bu],rfl⟩
 simp only[hb,Bool.not_true,hl,Tryz.vr,Value.oneCell',simprocAttr, -List.reduceReplicate]
 refine dC (fun h=> ?_) (fun h=> ?_)
 ·have h':65536 < m:=by have:=of_decide_eq_true h;omega
  simp only[Tryz.vr,Value.oneCell',simprocAttr, -List.reduceReplicate]
  exact aC rfl ⟨by simp[iJ,hb,h',Bu],rfl⟩
 have h1: ¬ 65536 < m:=by have:=of_decide_eq_false h;omega
 simp only[aq,Tryz.vr,Value.oneCell',simprocAttr, -List.reduceReplicate]
 rcases Bool.eq_false_or_eq_true s.peer with L8 | L8
 rotate_left 1
 ·simp only[L8,Bool.not_false,Tryz.vr,Value.oneCell',simprocAttr, -List.reduceReplicate]
  exact aC rfl ⟨by simp[iJ,hb,h1,L8,Bu],rfl⟩
 simp only[L8,Bool.not_true,aq,Tryz.vr,Value.oneCell',simprocAttr, -List.reduceReplicate]
 rcases Bool.eq_false_or_eq_true s.has with hh | hh
 ·simp only[hh,aq,Tryz.vr,Value.oneCell',simprocAttr, -List.reduceReplicate]
  refine dC (fun h=> ?_) (fun h=> ?_)
  ·have h2:s.ns=4294967295:=by simpa using h
   simp only[h,Tryz.vr,Value.oneCell',simprocAttr, -List.reduceReplicate]
   exact aC rfl ⟨by simp[iJ,hb,h1,L8,hh,h2,Bu],rfl⟩
  ·have h2: ¬ s.ns=4294967295:=by simpa using h
   simp only[hh,Bool.not_true,aq,Tryz.vr,Value.oneCell',simprocAttr, -List.reduceReplicate]
   exact aC rfl ⟨by simp[iJ,hb,h1,L8,hh,h2,Bu],rfl⟩
 ·simp only[hh,Bool.not_false,aq,Tryz.vr,Value.oneCell',simprocAttr, -List.reduceReplicate]
  refine dC (fun h=> ?_) (fun h=> ?_)
  ·have h2:s.se=4294967295:=by simpa using h
   simp only[Tryz.vr,Value.oneCell',simprocAttr, -List.reduceReplicate]
   exact aC rfl ⟨by simp[iJ,hb,h1,L8,hh,h2,Bu],rfl⟩
  ·have h2: ¬ s.se=4294967295:=by simpa using h
   simp only[Tryz.vr,Value.oneCell',simprocAttr, -List.reduceReplicate]
   exact aC rfl ⟨by simp[iJ,hb,h1,L8,hh,h2,Bu],rfl⟩
end Go.Proofs.YtoakenpcooglpaaGreatDoor
namespace Go.cA
set_option linter.unusedSectionVars false
section
variable {P:Program} [Tables P] {s:AS} {nm:Nat}
theorem js {r:Nat→Nat} {k nm:Nat}:dt r k nm k=nm:=by unfold dt;rw[if_neg (by omega)];omega
theorem Bv {r:Nat→Nat} {k nm:Nat}:dt r k nm (k+1)=nm+1:=by unfold dt;rw[if_neg (by omega)];omega
theorem ZU {r:Nat→Nat} {k:Nat} {out:Nat→Option aW}:ky s r k 1 nm none out=upd s.box nm ((out k).map (aW.bh (dt r k nm))):=by
 funext t
 unfold ky upd
 by_cases h:t=nm
 ·subst h;simp
 ·rw[if_neg (by omega)];simp[h]
theorem Bw {r:Nat→Nat} {k:Nat} {out:Nat→Option aW}:ky s r k 2 nm none out=upd (upd s.box nm ((out k).map (aW.bh (dt r k nm)))) (nm+1) ((out (k+1)).map (aW.bh (dt r k nm))):=by
 funext t
 unfold ky upd
 by_cases h:t=nm
 ·subst h;simp
 by_cases h1:t=nm+1
 ·subst h1;simp
 ·rw[if_neg (by omega)];simp[h,h1]
theorem G0 {r:Nat→Nat} {rw:Bool} {cs:List SV} (hp:cs.all SV.plain=true):aW.bh r ⟨rw,cs⟩=⟨rw,cs⟩:=by unfold aW.bh;rw[bj hp]
theorem ek {r:Nat→Nat} {rw:Bool} {cs:List SV} (hp:cs.all SV.plain=true):(some (⟨rw,cs⟩:aW)).map (aW.bh r)=some ⟨rw,cs⟩:=by rw[Option.map_some,G0 hp]
theorem Pure.bZ {f:Nat} {l:List AV} {Post:AV→Prop} (h:Pure P f l Post) {dst:Option Nat} {K:AS→Prop} (hk: ∀ r,Post r→K (s.put dst (some r))):
  bZ P nm f (some l) dst K s:=by
 intro W N w0 g a w dr
 have hl:l.map (AV.av g)=l.map AV.val:=List.map_congr_left fun x hx=>AV.fI (List.all_eq_true.1 h.args x hx) g
 rw[hl]
 refine (h.call w dr.laid).mono ?_
 rintro e w' ⟨r,hr,rfl,rz⟩
 exact ⟨r,g,s.box,by rw[AV.fI (h.res r hr)],AV.bH (h.res r hr),(dr.kept rz).mono (fun n hn=>by omega),fun t b hb=> .inr ⟨b,hb,rfl⟩,hk r hr⟩
theorem cB.bZ {f:Nat} {l:List AV} {r:AV} (h:cB P f l r) {dst:Option Nat} {K:AS→Prop} (hk:K (s.put dst (some r))):
  bZ P nm f (some l) dst K s:=Pure.bZ h (fun _ hv=>hv▸hk)
theorem bt.bZ {f k:Nat} {args l:List AV} {ins:Nat→Option aW} {Post:AV→(Nat→Option aW)→Prop} (h:bt P f args k ins Post) (r:Nat→Nat) (hfit:Fits s r ins none) (hl:l=args.map (AV.bh r))
  {dst:Option Nat} {K:AS→Prop} (hk: ∀ v out,Post v out→K ((⟨s.env,upd s.box nm ((out k).map (aW.bh (dt r k nm))),s.next⟩:AS).put dst (some (AV.bh (dt r k nm) v)))):Go.cA.bZ P nm f (some l) dst K s:=
 h.wide.aB r none hfit hl fun v out hp=>by rw[ZU];exact hk v out hp
theorem bt.abV {f k:Nat} {args l:List AV} {ins:Nat→Option aW} {v:AV} (h:bt P f args k ins (fun x out=>x=v∧out=fun _=>none)) (r:Nat→Nat) (hfit:Fits s r ins none) (hv:AV.plain v=true) (hl:l=args.map (AV.bh r))
  {dst:Option Nat} {K:AS→Prop} (hk:K ((⟨s.env,upd s.box nm none,s.next⟩:AS).put dst (some v))):Go.cA.bZ P nm f (some l) dst K s:=
 h.bZ r hfit hl fun x out ⟨hx,ho⟩=>by
  subst hx ho
  rw[AV.cw hv]
  exact hk
theorem iK {ops:Array Oper} {K:AS→Prop} {s:AS} (hm:P.follows .mixedOrders=true) (A R Z F dm D:List Nat) (h1:qV ops A R Z F=true) (h2:(R++Z).all (qW P ops)=true) (hD:dstsOf ops (A++R++Z++F)=D)
  (hv:mv P ops s.next (fun sr=>fL P ops s.next K (R++Z++F) 0 ⟨sr.env,WA dm s.box,s.next⟩) A ⟨roE D s.env,fun t=>ZG (WA dm s.box t),s.next⟩):ZR P ops K s:=
 ⟨hm,A,R,Z,F,dm,h1,h2,by subst hD;exact hv⟩
theorem ZV {D:List Nat} {env:Nat→Option AV} {d:Nat}:roE D env d=if D.contains d=true then none else env d:=rfl
def dmO (b:Option aW):Option aW:=b.map fun b=>⟨false,b.cells⟩
theorem ZW {D:List Nat} {box:Nat→Option aW} {t:Nat}:WA D box t=if D.contains t=true then dmO (box t) else box t:=by
 unfold WA dmO
 split
 ·cases box t<;>rfl
 ·rfl
theorem L9 {rw:Bool} {cs:List SV}:dmO (some ⟨rw,cs⟩)=some ⟨false,cs⟩:=rfl
theorem L':dmO none=none:=rfl
theorem Un {d:Nat}:([]:List Nat).contains d=false:=rfl
theorem Ma {a d:Nat} {l:List Nat}:(a::l).contains d=(d==a||l.contains d):=List.contains_cons
theorem Mb {nm:Nat}:AS.mem s nm none=s:=rfl
theorem rg1:List.range' 0 1=[0]:=rfl
theorem rg2:List.range' 0 2=[0,1]:=rfl
theorem rg3:List.range' 0 3=[0,1,2]:=rfl
theorem rg4:List.range' 0 4=[0,1,2,3]:=rfl
theorem rg5:List.range' 0 5=[0,1,2,3,4]:=rfl
theorem rg6:List.range' 0 6=[0,1,2,3,4,5]:=rfl
theorem rg7:List.range' 0 7=[0,1,2,3,4,5,6]:=rfl
theorem rg8:List.range' 0 8=[0,1,2,3,4,5,6,7]:=rfl
theorem rg9:List.range' 0 9=[0,1,2,3,4,5,6,7,8]:=rfl
theorem ajt:List.range' 0 10=[0,1,2,3,4,5,6,7,8,9]:=rfl
theorem az:type_of% @rg1∧type_of% @rg2∧type_of% @rg3∧type_of% @rg4∧type_of% @rg5∧type_of% @rg6∧type_of% @rg7∧type_of% @rg8∧type_of% @rg9∧type_of% @ajt∧type_of% @Mb∧type_of% @ZV∧type_of% @ZW∧type_of% @L9∧type_of% @L'∧type_of% @abS∧type_of% @abT∧type_of% @abU∧  type_of% @Ma∧type_of% @Un∧type_of% @Bool.or_false∧type_of% @Bool.or_true∧type_of% @Bool.false_or∧type_of% @Bool.true_or∧type_of% @Bool.false_eq_true:=
 ⟨@rg1, @rg2, @rg3, @rg4, @rg5, @rg6, @rg7, @rg8, @rg9, @ajt, @Mb, @ZV, @ZW, @L9, @L', @abS, @abT, @abU, @Ma, @Un, @Bool.or_false, @Bool.or_true, @Bool.false_or, @Bool.true_or, @Bool.false_eq_true⟩
end
end Go.cA
