/-
  Decrypt, of the document.
-/
import Derived.Test.YtpnehhpadofcbaaGreatDoorVcgWZ
import Derived.Test.YtpnehhpadofcbaaGreatDoorVcgDJ
set_option maxHeartbeats 16000000
set_option maxRecDepth 20000
set_option linter.unusedSimpArgs false
set_option linter.unusedVariables false
set_option linter.unusedSectionVars false
namespace Go.Proofs.YtpnehhpadofcbaaGreatDoor
open Go.bU
variable [aO]
theorem CP {s:AS} {nm t L:Nat} {vp:AV} {g:Nat→Int} {cs:List SV} {rw:Bool} (hg:br g) (hv:Lb t vp L g cs) (hb:s.box t=some ⟨rw,cs⟩) (hp:cs.all SV.plain=true) (hL:L < 140737488355328) {dst:Option Nat} {K:AS→Prop}
  (h0:nR L g=false→K (s.put dst (some zp)))
  (hk:nR L g=true→ ∀ c cs',bK cs' 0 (L - 77) c (jc g)→K ((⟨s.env,upd s.box nm (some ⟨true,cs'⟩),s.next⟩:AS).put dst (some (YA L g (.inr (.inr (nm,0,L - 77,c))))))):
  ax Tryz.prog nm 22 (some [vp]) dst K s:=by
 obtain ⟨v0,g0,e0⟩: ∃ v0,Lb 0 v0 L g cs∧AV.aI (fun _=>t) v0=vp:=by
  rcases hv with ⟨⟨a,rfl⟩,h⟩ | ⟨o,c,rfl,hc,hs⟩
  ·exact ⟨V (.slice a 0 0), .inl ⟨⟨a,rfl⟩,h⟩,rfl⟩
  ·exact ⟨Sl 0 o L c, .inr ⟨o,c,rfl,hc,hs⟩,rfl⟩
 refine (Lc hg g0 hp hL).ax (fun _=>t) none (bS hb hp) (by simp only[List.map_cons,List.map_nil,e0]) ?_
 rintro v out (⟨h,rfl,rfl⟩ | ⟨h,c,cs',rfl,g1,rfl⟩) _
 ·have e:after s (fun _=>t) 1 nm none (fun _=>none)=s.box:=by funext x;simp[after]
  rw[e,AV.bB jW]
  exact h0 h
 ·rw[fN g1.plain]
  have e:AV.aI (dJ (fun _=>t) 1 nm) (YA L g (.inr (.inr (1,0,L - 77,c))))=YA L g (.inr (.inr (nm,0,L - 77,c))):=by
   have e2:SV.aI (dJ (fun _=>t) 1 nm) (Sum.inr (.inr (1,0,L - 77,c)))= .inr (.inr (nm,0,L - 77,c)):=by show (Sum.inr (.inr (dJ (fun _=>t) 1 nm 1,0,L - 77,c)):SV)=_;rw[gT]
   unfold YA
   simp only[AV.aI,List.map_cons,List.map_nil,CV.aI,rT,e2];rfl
  rw[e]
  exact hk h c cs' g1
theorem zZ {s:St} {n L:Nat} {f:Nat→En} {g:Nat→Int} {E:Option Nat} {A:G8} (h1:jH s n f L g=E) (h2:E=none→qm s n f L g=A) (h3:E≠some 0):gK s n f L g=gw E A s n f:=by
 unfold gK gw
 rw[h1]
 cases E with
 | none=>exact h2 rfl
 | some i=>exact if_neg (fun e=>h3 (by rw[e]))
theorem Fw (f g:Nat→Int):yb f g=yb g f:=by
 unfold yb
 rw[Bool.eq_iff_iff,decide_eq_true_eq,decide_eq_true_eq];exact eq_comm
theorem XA {s:St} {n:Nat} (h:fx s n=true):(((0≤s.skip∧s.skip≤1000)∧0≤s.room)∧s.room≤1000)∧(n:Int)≤s.room:=by
 simpa only[fx,Bool.and_eq_true,decide_eq_true_eq] using h
theorem aai {d:St} {N m j:Nat} {aG g tag:Nat→Int} {pn x:Int}:oM d N m j aG g tag pn x≠some 0:=by
 unfold oM
 repeat' split
 all_goals simp
theorem Vu {s:St} {n m r:Nat} {aG g tag:Nat→Int} {pn x:Int}:oN s n m r aG g tag pn x≠some 0:=by
 unfold oN
 split
 ·rename_i i h
  intro e
  cases e
  exact (QC h).2 rfl
 ·split<;>simp
theorem acW {s:St} {n m:Nat} {aG g tag:Nat→Int} {pn x:Int} (nj:preB s aG=true) (hx: ¬ x < s.nr):mA s n m aG g tag pn x=oM s n m (x - s.nr).toNat aG g tag pn x:=by
 unfold mA lN oM
 rw[nj,if_pos rfl,if_neg hx]
 have e:G7 s aG pn=s:=if_pos nj
 rw[e]
 unfold ni
 by_cases h1:s.skip < ((x - s.nr).toNat:Nat)
 ·rw[if_pos h1,if_pos (by split<;>omega)]
 ·rw[if_neg h1]
  by_cases h0:s.skip < (if x - s.nr > 0 then x - s.nr else 0)
  ·exfalso;split at h0<;>omega
  ·rw[if_neg h0]
   by_cases h2:s.room < (n:Int)+((x - s.nr).toNat:Nat)
   ·rw[if_pos h2,if_pos (by omega)]
   ·rw[if_neg h2,if_neg (by omega)]
theorem acX {s:St} {n m:Nat} {f:Nat→En} {aG g:Nat→Int} {pn x:Int} (nj:preB s aG=true):oK s n m f aG g pn x=lb s n f m g x:=by
 unfold oK
 rw[show G7 s aG pn=s from if_pos nj,show Ny s n aG pn=n from if_pos nj,show VG s n f aG pn=f from if_pos nj]
theorem YD {s:St} {pn:Int}: ∃ r:Nat,fq s pn - s.nr=r:=by
 refine ⟨(fq s pn - s.nr).toNat, ?_⟩
 unfold fq;split<;>(try split)<;>omega
theorem YE {s:St} {r:Nat} {aG:Nat→Int} {pn:Int} (nj:preB s aG=false):G7 s aG pn=gJ s aG:=by
 unfold G7
 rw[nj,if_neg (by decide),NS];rfl
theorem YF {s:St} {n m r:Nat} {aG g tag:Nat→Int} {pn x:Int} (nj:preB s aG=false) (hr:fq s pn - s.nr=r) (ho:s.own=true) (hc: ¬ s.re=4294967295):mA s n m aG g tag pn x=oN s n m r aG g tag pn x:=by
 unfold mA lN oN
 have e0:(gJ s aG).nr=0:=rfl
 rw[YE (r:=r) nj,nj,if_neg (by decide),if_neg (by rw[ho];decide),if_neg hc,hr,e0,Int.sub_zero]<;>rfl
theorem YG {s:St} {n m r:Nat} {f:Nat→En} {aG g:Nat→Int} {pn x:Int} (nj:preB s aG=false) (hr:fq s pn - s.nr=r):oK s n m f aG g pn x=lb (gJ s aG) (n+r) (gA n f s) m g x:=by
 unfold oK
 have e1:Ny s n aG pn=n+r:=by unfold Ny;rw[nj,if_neg (by decide),hr];rfl
 have e2:VG s n f aG pn=gA n f s:=by unfold VG;rw[nj,if_neg (by decide)]
 rw[YE (r:=r) nj,e1,e2]
theorem zt {s:AS} {nm t u n m r:Nat} {x:St} {f:Nat→En} {aG g tag:Nat→Int} {pn y:Int} {sv:SV} {ra rb:Bool} {cs ds:List SV} (hb:s.box t=some ⟨ra,cs⟩) (h0:aH t x.store n f cs) (hp:cs.all SV.plain=true) (hb':s.box u=some ⟨rb,ds⟩) (hv:eH u (.inl (.inl sv)) m g ds) (hq:ds.all SV.plain=true)
  (hs:gy x) (hn:n*72≤140737488355328) (hl:fx x n=true) (hr:fq x pn - x.nr=r) (hx0:0≤y) (hx1:y < 4294967295) (xg:mC pn) (ic:br aG) (hf:br g) (hm:m≤65536) {dst:Option Nat} {K:AS→Prop}
  (hk:Xn nm (gw (oN x n m r aG g tag pn y) (lb (gJ x aG) (n+r) (gA n f x) m g y) x n f) dst K s):
  bA Tryz.prog nm 25 (some [Ag (bC x),Ag (fT aG pn y sv tag)]) dst K s:=by
 obtain ⟨v0,g0,e0⟩:=h0.name (k:=0)
 obtain ⟨w0,g1,e1⟩:=nq (k:=1) hv
 refine oJ (A:=gw (oN x n m r aG g tag pn y) (lb (gJ x aG) (n+r) (gA n f x) m g y) x n f) (NU (s:={ x with store:=v0 }) (tag:=tag) g0 hp g1 hq (hs.ws v0) hn hl hr hx0 hx1 xg ic hf hm) (fun v out h=> ?_) (two t u) (ie hb hp hb' hq) ?_ hk
 ·have e2:oN { x with store:=v0 } n m r aG g tag pn y=oN x n m r aG g tag pn y:=by
   unfold oN
   rw[GZ,n8 (s:=gJ x aG) (v:=v0) y.toNat];rfl
  rw[e2,GZ,wW]at h
  exact xc h
 ·simp only[List.map_cons,List.map_nil,eM,lX,e0 (two t u) rfl,e1 (two t u) rfl]
theorem afa {α:Type} {Q:α→Prop} {a:α} {l:List α} (h:Q a) (t: ∀ x ∈ l,Q x): ∀ x ∈ a::l,Q x:=fun x hx=>by
 rcases List.mem_cons.1 hx with rfl | hx
 ·exact h
 ·exact t x hx
def dcS (s:St) (g:Nat→Int) (L k c1:Nat) (cs ds kk:List SV):AS:=
 oZ [(2,Ptr 2 0),(4,Ptr 3 0),(5,Ptr 12 0),(7,I .i64 k)] [(0,⟨false,cs⟩),(1,⟨false,ds⟩),(2,⟨true,bC s⟩),(3,⟨true,eV 0 rM (Sum.inl (.slice none 0 0)) 0 0⟩),(8,⟨true,kk⟩),(12,⟨true,fT (g9 g) (dW g 33) (dW g 37) (.inr (.inr (8,0,L - 77,c1))) (zJ L g)⟩)] 60
theorem NV {s:St} {g:Nat→Int} {n L k c1 m nx:Nat} {f:Nat→En} {cs ds kk:List SV} {env:Nat→Option AV} {bx:Nat→Option aN} (h0:aH 0 s.store n f cs) (hp:cs.all SV.plain=true) (hq:ds.all SV.plain=true) (hr:kk.all SV.plain=true) (e2:env 2=some (Ptr 2 0)) (e4:env 4=some (Ptr 3 0)) (e5:env 5=some (Ptr 12 0)) (e7:env 7=some (I .i64 k))
  (b0:bx 0=some ⟨false,cs⟩) (b1:bx 1=some ⟨false,ds⟩) (b2:bx 2=some ⟨true,bC s⟩) (b3:bx 3=some ⟨true,eV 0 rM (Sum.inl (.slice none 0 0)) 0 0⟩) (b8:bx 8=some ⟨true,kk⟩) (b12:bx 12=some ⟨true,fT (g9 g) (dW g 33) (dW g 37) (.inr (.inr (8,0,L - 77,c1))) (zJ L g)⟩):oU m ⟨env,bx,nx⟩ (dcS s g L k c1 cs ds kk):=
 vW (TC ⟨e2,show 2 < 60 by decide⟩ ⟨e4,show 3 < 60 by decide⟩ ⟨e5,show 12 < 60 by decide⟩ ⟨e7,trivial⟩)
   (afa ⟨⟨_,b0,fun h=>h,(aQ hp _).symm⟩,show 0 < 60 by decide,aC hp⟩ (V' ⟨⟨_,b1,fun h=>h,(aQ hq _).symm⟩,show 1 < 60 by decide,aC hq⟩ ⟨⟨_,b2,fun h=>h,by rw[eN,h0.aI rfl]⟩,show 2 < 60 by decide,bF (h0.ok (show 0 < 60 by decide))⟩ ⟨⟨_,b3,fun h=>h,by rw[B3];rfl⟩,show 3 < 60 by decide,wv (SV.bk rfl) (SV.bk rfl)⟩ ⟨⟨_,b8,fun h=>h,(aQ hr _).symm⟩,show 8 < 60 by decide,aC hr⟩ ⟨⟨_,b12,fun h=>h,by rw[rT];rfl⟩,show 12 < 60 by decide,jF ⟨(show 8 < 60 by decide),rfl⟩⟩))
theorem R6 {f:Nat→En} {aG:Nat→Int} {x:Int} {n k:Nat} (h:lM f aG x k=none) (hk:k < n) (hh:GN (f k) aG x=true):lM f aG x n=some k:=yc (j:=k+1) (by rw[lM,h];exact if_pos hh) n (by omega)
theorem Du {s:AS} {nm t u n m i:Nat} {x:St} {f:Nat→En} {aG g tag:Nat→Int} {pn y:Int} {sv:SV} {ra rb:Bool} {cs ds:List SV} (hb:s.box t=some ⟨ra,cs⟩) (xd:aH t x.store n f cs) (hp:cs.all SV.plain=true) (hb':s.box u=some ⟨rb,ds⟩) (hv:eH u (.inl (.inl sv)) m g ds) (hq:ds.all SV.plain=true) (hn:n*72≤140737488355328) (hi:i < n) (vj:br (f i).key) (ic:br aG) (hf:br g) (hm:m≤65536) {dst:Option Nat} {K:AS→Prop}
  (hk:Xn nm (gw (wX m i f aG g tag pn y) (wY n m i x f g) x n f) dst K s):
  bA Tryz.prog nm 23 (some [Ag (bC x),Ag (fT aG pn y sv tag),I .i64 i]) dst K s:=by
 obtain ⟨v0,g0,e0⟩:=xd.name (k:=0)
 obtain ⟨w0,g1,e1⟩:=nq (k:=1) hv
 refine oJ (A:=gw (wX m i f aG g tag pn y) (wY n m i x f g) x n f) (R5 (s:={ x with store:=v0 }) (tag:=tag) (pn:=pn) (x:=y) g0 hp hn hi vj ic hf g1 hq hm) (fun v out h=> ?_) (two t u) (ie hb hp hb' hq) ?_ hk
 ·cases hE:wX m i f aG g tag pn y with
  | some j=>rw[hE]at h;exact rY (A:=gw (some j) (wY n m i x f g) x n f) (w:=v0) h
  | none=>rw[hE]at h;exact rY (A:=wY n m i x f g) (w:=v0) h
 ·simp only[List.map_cons,List.map_nil,eM,lX,e0 (two t u) rfl,e1 (two t u) rfl];rfl
theorem G4 {s:St} {n L:Nat} {f:Nat→En} {g:Nat→Int} {vp:AV} {cs ds:List SV} (h0:aH 0 s.store n f cs) (hp:cs.all SV.plain=true) (hs:gy s) (hf: ∀ i,nV (f i)) (hn:n*72≤140737488355328) (hv:Lb 1 vp L g ds) (hq:ds.all SV.plain=true) (hL:L < 140737488355328) (hg:br g):
  gL Tryz.prog 10 [Ag (bC s),vp] 2 2 (lk [(0,⟨false,cs⟩),(1,⟨false,ds⟩)]) (vg 2 (gK s n f L g)):=by
 refine dF Tryz.func10 rfl (by kernel_rfl) [12,16,21] [] (by simp[Tryz.ntmps10]) Tryz.tG (by decide) (fun y hy=>by
  simp only[List.mem_cons,List.not_mem_nil,or_false]at hy
  rcases hy with rfl | rfl
  ·exact bF (h0.ok (by decide))
  ·exact hv.is.ok (by decide)) lC (nU hp hq) ?_
 have CY: ∀ {box:Nat→Option aN},box 0=some ⟨false,cs⟩→jv box s.store n f:=fun hb=>⟨0,false,cs,hb,hp,h0⟩
 have Fm:=hs.nr
 have hre:=hs.re
 simp only[mC]at Fm hre
 simp only[Tryz.results10,ju,vL,seval, -List.reduceReplicate]
 refine jv.calls (n:=n) (f:=f) (w:=B (jn s n f)) (CY (by simp only[vP,seval, -List.reduceReplicate])) rfl (fun v cs hv hp=>by have:=ND (s:={ s with store:=v }) hv hp (hs.ws v) hf (by omega);rwa [MH]at this) ?_
 simp only[ju,vL,seval, -List.reduceReplicate]
 rcases Bool.eq_false_or_eq_true (jn s n f) with hb | hb
 rotate_left 1
 ·have eD:gK s n f L g=⟨1,rM,0,0,0,0,f,fun _=>0⟩:=by unfold gK;rw[show jH s n f L g=some 0 from if_pos hb];rfl
  simp only[hb,Bool.not_false,ju,vL,seval, -List.reduceReplicate]
  refine bM (t:=0) (rw:=false) (cs:=cs) (by simp only[vP,seval, -List.reduceReplicate]) hp h0 (fun h=>absurd rfl h) (fun _=> ?_) (fun h=>absurd rfl h)
  simp only[ju,vL,seval, -List.reduceReplicate]
  rw[eD]
  exact eY (q:=0) (jV rfl rfl) ⟨.inl (.slice none 0 0), .inl (.slice none 0 0),rfl, .inl ⟨rfl,rfl,rfl⟩, .inl ⟨rfl,rfl,rfl⟩⟩
 simp only[hb,Bool.not_true,ju,vL,seval, -List.reduceReplicate]
 refine CP (t:=1) (rw:=false) (cs:=ds) hg hv (by simp only[vP,seval, -List.reduceReplicate]) hq hL ?_ ?_
 ·intro hF
  simp only[zp,bd,ju,vL,seval, -List.reduceReplicate]
  refine ⟨by kernel_rfl, ?_⟩
  simp only[Bool.not_false,ju,vL,seval, -List.reduceReplicate]
  have eD:gK s n f L g=⟨2,s,0,0,n,0,f,fun _=>0⟩:=by unfold gK;rw[show jH s n f L g=some 4 by simp[jH,hb,hF]];rfl
  refine bM (t:=0) (rw:=false) (cs:=cs) (by simp only[vP,seval, -List.reduceReplicate]) hp h0 (fun _=>hn) (fun h=>absurd h (by decide)) (fun _ c5 pZ g5=> ?_)
  simp only[ju,vL,seval, -List.reduceReplicate]
  rw[eD]
  exact dE (A:=⟨2,s,0,0,n,0,f,fun _=>0⟩) (q':=999) (.inr ⟨c5,pZ,rfl,g5,rfl⟩) (.inl ⟨rfl,rfl,rfl⟩) (by decide) (by decide) (by decide) (by simp only[AS.mem,AS.put,vP,seval, -List.reduceReplicate]) (by rfl)
 intro hF c1 kk g1
 simp only[YA,bd,ju,vL,seval, -List.reduceReplicate]
 refine ⟨by kernel_rfl, ?_⟩
 simp only[Bool.not_true,ju,vL,seval, -List.reduceReplicate]
 rcases Bool.eq_false_or_eq_true (dW g 37==4294967295) with h3 | h3
 ·have h3':dW g 37=4294967295:=by simpa using h3
  simp only[h3,ju,vL,seval, -List.reduceReplicate]
  have eD:gK s n f L g=⟨6,s,0,0,n,0,f,fun _=>0⟩:=by unfold gK;rw[show jH s n f L g=some 3 by simp[jH,hb,hF,h3']];rfl
  refine bM (t:=0) (rw:=false) (cs:=cs) (by simp only[vP,seval, -List.reduceReplicate]) hp h0 (fun _=>hn) (fun h=>absurd h (by decide)) (fun _ c5 pZ g5=> ?_)
  simp only[ju,vL,seval, -List.reduceReplicate]
  rw[eD]
  exact dE (A:=⟨6,s,0,0,n,0,f,fun _=>0⟩) (q':=999) (.inr ⟨c5,pZ,rfl,g5,rfl⟩) (.inl ⟨rfl,rfl,rfl⟩) (by decide) (by decide) (by decide) (by simp only[AS.mem,AS.put,vP,seval, -List.reduceReplicate]) (by rfl)
 have h3': ¬ dW g 37=4294967295:=by simpa using h3
 simp only[h3,ju,vL,seval, -List.reduceReplicate]
 have hm:L - 77≤65536:=by have:=(lf.1 hF).2.1;omega
 refine Gd n (fun k t=>lM f (g9 g) (dW g 37) k=none∧t=dcS s g L k c1 cs ds kk) ?_ ?_ ?_ ?_
 ·rintro k t ⟨_,rfl⟩;exact Nat.le_of_ble_eq_true rfl
 ·exact ⟨_,⟨rfl,rfl⟩,NV h0 hp hq g1.plain rfl rfl rfl rfl rfl rfl rfl rfl rfl rfl⟩
 ·rintro k t hk ⟨hinv,rfl⟩
  have hlen:=h0.len
  simp only[dcS,dr,hlen,ju,vL,seval, -List.reduceReplicate]
  refine az (by simp;omega) ?_
  simp only[ju,vL,seval, -List.reduceReplicate]
  have h1:=h0
  rcases h0 with ⟨_,h0⟩ | ⟨o,c,hst,hc,hsh⟩
  ·omega
  have b1:=hsh.lt hk
  have b2:List.take 32 (List.drop (o+k*66+2) cs)=af .u8 32 (f k).aG:=kN (hsh.aG hk) (Nat.le_refl 32)
  have l34:(o+k*66+2+32≤cs.length)=True:=eq_true (by omega)
  refine .inl ?_
  rcases Bool.eq_false_or_eq_true (yb (f k).aG (g9 g)) with R7 | R7
  ·rcases Bool.eq_false_or_eq_true ((f k).n==dW g 37) with hq2 | hq2
   ·have hH:lM f (g9 g) (dW g 37) n=some k:=R6 hinv hk (by unfold GN;rw[R7,hq2];rfl)
    simp only[hst,aW,cF hk,b1,b2,l34,hsh.num hk,kv,R7,hq2,ju,vL,seval, -List.reduceReplicate]
    refine ⟨by kernel_rfl, ?_⟩
    refine ⟨by decide, ?_⟩
    simp only[ju,vL,seval, -List.reduceReplicate]
    refine Du (t:=0) (u:=8) (ra:=false) (rb:=true) (cs:=cs) (ds:=kk) (m:=L - 77) (g:=jc g) (by simp only[vP,seval, -List.reduceReplicate]) h1 hp (by simp only[vP,seval, -List.reduceReplicate]) (.inr ⟨0,c1,rfl,g1.shows⟩) g1.plain hn hk (hf k).key (fun i=>hg _) (fun i=>hg _) hm ?_
    intro U9 Xf o1 YB hS hO
    have eD:gK s n f L g=gw (wX (L - 77) k f (g9 g) (jc g) (zJ L g) (dW g 33) (dW g 37)) (wY n (L - 77) k s f (jc g)) s n f:=
     zZ (by simp[jH,hb,hF,h3',hH]) (fun _=>by unfold qm;rw[hH]) (by unfold wX;split<;>simp)
    simp only[ju,vL,seval, -List.reduceReplicate]
    rw[eD]
    exact dE hS hO (by decide) (by decide) (by decide) (by simp only[AS.mem,AS.put,vP,seval, -List.reduceReplicate]) (by simp only[AS.mem,AS.put,vP,seval, -List.reduceReplicate])
   ·have hH:lM f (g9 g) (dW g 37) (k+1)=none:=by rw[lM,hinv];exact if_neg (by unfold GN;rw[R7,hq2];decide)
    simp only[hst,aW,cF hk,b1,b2,l34,hsh.num hk,kv,R7,hq2,ju,vL,seval, -List.reduceReplicate]
    refine ⟨by kernel_rfl, ?_⟩
    simp only[bt k (by omega),ju,vL,seval, -List.reduceReplicate]
    exact ⟨_,⟨hH,rfl⟩,NV h1 hp hq g1.plain rfl rfl rfl rfl rfl rfl rfl rfl rfl rfl⟩
  ·have hH:lM f (g9 g) (dW g 37) (k+1)=none:=by rw[lM,hinv];exact if_neg (by unfold GN;rw[R7,Bool.false_and];decide)
   simp only[hst,aW,cF hk,b1,b2,l34,hsh.num hk,kv,R7,ju,vL,seval, -List.reduceReplicate]
   refine ⟨by kernel_rfl, ?_⟩
   simp only[bt k (by omega),ju,vL,seval, -List.reduceReplicate]
   exact ⟨_,⟨hH,rfl⟩,NV h1 hp hq g1.plain rfl rfl rfl rfl rfl rfl rfl rfl rfl rfl⟩
 ·rintro t ⟨hinv,rfl⟩
  have hlen:=h0.len
  have hl:fx s n=true:=by
   have h:=hb;simp only[jn,Bool.and_eq_true]at h;exact h.1.1.1.1.1
  have eC:jH s n f L g=mA s n (L - 77) (g9 g) (jc g) (zJ L g) (dW g 33) (dW g 37):=by simp[jH,hb,hF,h3',hinv]
  have eA:qm s n f L g=oK s n (L - 77) f (g9 g) (jc g) (dW g 33) (dW g 37):=by unfold qm;rw[hinv]
  have hx0:=L8 hg 37
  simp only[dcS,dr,hlen,ju,vL,seval, -List.reduceReplicate]
  refine aD (by simp) ?_
  simp only[ju,vL,seval, -List.reduceReplicate]
  by_cases c1':0 < s.re
  ·have d1:decide (0 < s.re)=true:=decide_eq_true c1'
   rcases Bool.eq_false_or_eq_true (yb s.zA (g9 g)) with R7 | R7
   ·have nj:preB s (g9 g)=true:=by
     have:yb (g9 g) s.zA=true:=by rw[← R7];exact Fw _ _
     unfold preB;rw[d1,this];rfl
    simp only[d1,kv,R7,ju,vL,seval, -List.reduceReplicate]
    by_cases c2:dW g 37 < s.nr
    ·have d2:decide (dW g 37 < s.nr)=true:=decide_eq_true c2
     have e8:jH s n f L g=some 8:=by rw[eC];unfold mA lN;rw[nj,if_pos rfl,if_pos c2]
     simp only[d2,ju,vL,seval, -List.reduceReplicate]
     have eD:gK s n f L g=⟨8,s,0,0,n,0,f,fun _=>0⟩:=by unfold gK;rw[e8];rfl
     refine bM (t:=0) (rw:=false) (cs:=cs) (by simp only[vP,seval, -List.reduceReplicate]) hp h0 (fun _=>hn) (fun h=>absurd h (by decide)) (fun _ c5 pZ g5=> ?_)
     simp only[ju,vL,seval, -List.reduceReplicate]
     rw[eD]
     exact dE (A:=⟨8,s,0,0,n,0,f,fun _=>0⟩) (q':=999) (.inr ⟨c5,pZ,rfl,g5,rfl⟩) (.inl ⟨rfl,rfl,rfl⟩) (by decide) (by decide) (by decide) (by simp only[AS.mem,AS.put,vP,seval, -List.reduceReplicate]) (by rfl)
    ·have d2:decide (dW g 37 < s.nr)=false:=decide_eq_false c2
     simp only[d2,ju,vL,seval, -List.reduceReplicate]
     have eD:gK s n f L g=gw (oM s n (L - 77) (dW g 37 - s.nr).toNat (g9 g) (jc g) (zJ L g) (dW g 33) (dW g 37)) (lb s n f (L - 77) (jc g) (dW g 37)) s n f:=
      zZ (by rw[eC];exact acW nj (by omega)) (fun _=>by rw[eA];exact acX nj) aai
     obtain ⟨⟨⟨⟨l1,l2⟩,l3⟩,l4⟩,l5⟩:=XA hl
     refine ⟨by decide, ?_⟩
     simp only[ju,vL,seval, -List.reduceReplicate]
     refine zr (d:=s) (s0:=s) (N:=n) (F:=f) (j:=(dW g 37 - s.nr).toNat) (t:=0) (u:=8) (z:=0) (ra:=false) (rb:=true) (rc:=false) (cs:=cs) (ds:=kk) (es:=cs) (m:=L - 77) (g:=jc g) (by simp only[vP,seval, -List.reduceReplicate]) h0 hp (by simp only[vP,seval, -List.reduceReplicate]) (.inr ⟨0,c1,rfl,g1.shows⟩) g1.plain (by simp only[vP,seval, -List.reduceReplicate]) h0 hp hs hn (by omega) (by omega) (by omega) ⟨l1,l2⟩ ⟨l3,l4⟩ (fun i=>hg _) (fun i=>hg _) hm ?_
     intro U9 Xf o1 YB hS hO
     simp only[ju,vL,seval, -List.reduceReplicate]
     rw[eD]
     exact dE hS hO (by decide) (by decide) (by decide) (by simp only[AS.mem,AS.put,vP,seval, -List.reduceReplicate]) (by simp only[AS.mem,AS.put,vP,seval, -List.reduceReplicate])
   ·have nj:preB s (g9 g)=false:=by
     have:yb (g9 g) s.zA=false:=by rw[← R7];exact Fw _ _
     unfold preB;rw[d1,this];rfl
    simp only[d1,kv,R7,ju,vL,seval, -List.reduceReplicate]
    rcases Bool.eq_false_or_eq_true s.own with ho | ho
    rotate_left 1
    ·have e2:jH s n f L g=some 2:=by rw[eC];unfold mA lN;rw[nj,if_neg (by decide),if_pos ho]
     simp only[ho,Bool.not_false,ju,vL,seval, -List.reduceReplicate]
     have eD:gK s n f L g=⟨9,s,0,0,n,0,f,fun _=>0⟩:=by unfold gK;rw[e2];rfl
     refine bM (t:=0) (rw:=false) (cs:=cs) (by simp only[vP,seval, -List.reduceReplicate]) hp h0 (fun _=>hn) (fun h=>absurd h (by decide)) (fun _ c5 pZ g5=> ?_)
     simp only[ju,vL,seval, -List.reduceReplicate]
     rw[eD]
     exact dE (A:=⟨9,s,0,0,n,0,f,fun _=>0⟩) (q':=999) (.inr ⟨c5,pZ,rfl,g5,rfl⟩) (.inl ⟨rfl,rfl,rfl⟩) (by decide) (by decide) (by decide) (by simp only[AS.mem,AS.put,vP,seval, -List.reduceReplicate]) (by rfl)
    simp only[ho,Bool.not_true,ju,vL,seval, -List.reduceReplicate]
    rcases Bool.eq_false_or_eq_true (s.re==4294967295) with hc | hc
    ·have lS:s.re=4294967295:=by simpa using hc
     have e3:jH s n f L g=some 3:=by rw[eC];unfold mA lN;rw[nj,if_neg (by decide),if_neg (by rw[ho];decide),if_pos lS]
     simp only[hc,ju,vL,seval, -List.reduceReplicate]
     have eD:gK s n f L g=⟨6,s,0,0,n,0,f,fun _=>0⟩:=by unfold gK;rw[e3];rfl
     refine bM (t:=0) (rw:=false) (cs:=cs) (by simp only[vP,seval, -List.reduceReplicate]) hp h0 (fun _=>hn) (fun h=>absurd h (by decide)) (fun _ c5 pZ g5=> ?_)
     simp only[ju,vL,seval, -List.reduceReplicate]
     rw[eD]
     exact dE (A:=⟨6,s,0,0,n,0,f,fun _=>0⟩) (q':=999) (.inr ⟨c5,pZ,rfl,g5,rfl⟩) (.inl ⟨rfl,rfl,rfl⟩) (by decide) (by decide) (by decide) (by simp only[AS.mem,AS.put,vP,seval, -List.reduceReplicate]) (by rfl)
    have lS: ¬ s.re=4294967295:=by simpa using hc
    obtain ⟨r,hr⟩:=YD (s:=s) (pn:=dW g 33)
    have eD:gK s n f L g=gw (oN s n (L - 77) r (g9 g) (jc g) (zJ L g) (dW g 33) (dW g 37)) (lb (gJ s (g9 g)) (n+r) (gA n f s) (L - 77) (jc g) (dW g 37)) s n f:=
     zZ (by rw[eC];exact YF nj hr ho lS) (fun _=>by rw[eA];exact YG nj hr) Vu
    simp only[hc,ju,vL,seval, -List.reduceReplicate]
    refine ⟨by decide, ?_⟩
    simp only[ju,vL,seval, -List.reduceReplicate]
    refine zt (t:=0) (u:=8) (ra:=false) (rb:=true) (cs:=cs) (ds:=kk) (m:=L - 77) (r:=r) (g:=jc g) (by simp only[vP,seval, -List.reduceReplicate]) h0 hp (by simp only[vP,seval, -List.reduceReplicate]) (.inr ⟨0,c1,rfl,g1.shows⟩) g1.plain hs hn hl hr hx0.1 (by omega) (PJ hg 33) (fun i=>hg _) (fun i=>hg _) hm ?_
    intro U9 Xf o1 YB hS hO
    simp only[ju,vL,seval, -List.reduceReplicate]
    rw[eD]
    exact dE hS hO (by decide) (by decide) (by decide) (by simp only[AS.mem,AS.put,vP,seval, -List.reduceReplicate]) (by simp only[AS.mem,AS.put,vP,seval, -List.reduceReplicate])
  ·have d1:decide (0 < s.re)=false:=decide_eq_false c1'
   have nj:preB s (g9 g)=false:=by unfold preB;rw[d1];rfl
   simp only[d1,ju,vL,seval, -List.reduceReplicate]
   rcases Bool.eq_false_or_eq_true s.own with ho | ho
   rotate_left 1
   ·have e2:jH s n f L g=some 2:=by rw[eC];unfold mA lN;rw[nj,if_neg (by decide),if_pos ho]
    simp only[ho,Bool.not_false,ju,vL,seval, -List.reduceReplicate]
    have eD:gK s n f L g=⟨9,s,0,0,n,0,f,fun _=>0⟩:=by unfold gK;rw[e2];rfl
    refine bM (t:=0) (rw:=false) (cs:=cs) (by simp only[vP,seval, -List.reduceReplicate]) hp h0 (fun _=>hn) (fun h=>absurd h (by decide)) (fun _ c5 pZ g5=> ?_)
    simp only[ju,vL,seval, -List.reduceReplicate]
    rw[eD]
    exact dE (A:=⟨9,s,0,0,n,0,f,fun _=>0⟩) (q':=999) (.inr ⟨c5,pZ,rfl,g5,rfl⟩) (.inl ⟨rfl,rfl,rfl⟩) (by decide) (by decide) (by decide) (by simp only[AS.mem,AS.put,vP,seval, -List.reduceReplicate]) (by rfl)
   simp only[ho,Bool.not_true,ju,vL,seval, -List.reduceReplicate]
   rcases Bool.eq_false_or_eq_true (s.re==4294967295) with hc | hc
   ·have lS:s.re=4294967295:=by simpa using hc
    have e3:jH s n f L g=some 3:=by rw[eC];unfold mA lN;rw[nj,if_neg (by decide),if_neg (by rw[ho];decide),if_pos lS]
    simp only[hc,ju,vL,seval, -List.reduceReplicate]
    have eD:gK s n f L g=⟨6,s,0,0,n,0,f,fun _=>0⟩:=by unfold gK;rw[e3];rfl
    refine bM (t:=0) (rw:=false) (cs:=cs) (by simp only[vP,seval, -List.reduceReplicate]) hp h0 (fun _=>hn) (fun h=>absurd h (by decide)) (fun _ c5 pZ g5=> ?_)
    simp only[ju,vL,seval, -List.reduceReplicate]
    rw[eD]
    exact dE (A:=⟨6,s,0,0,n,0,f,fun _=>0⟩) (q':=999) (.inr ⟨c5,pZ,rfl,g5,rfl⟩) (.inl ⟨rfl,rfl,rfl⟩) (by decide) (by decide) (by decide) (by simp only[AS.mem,AS.put,vP,seval, -List.reduceReplicate]) (by rfl)
   have lS: ¬ s.re=4294967295:=by simpa using hc
   obtain ⟨r,hr⟩:=YD (s:=s) (pn:=dW g 33)
   have eD:gK s n f L g=gw (oN s n (L - 77) r (g9 g) (jc g) (zJ L g) (dW g 33) (dW g 37)) (lb (gJ s (g9 g)) (n+r) (gA n f s) (L - 77) (jc g) (dW g 37)) s n f:=
    zZ (by rw[eC];exact YF nj hr ho lS) (fun _=>by rw[eA];exact YG nj hr) Vu
   simp only[hc,ju,vL,seval, -List.reduceReplicate]
   refine ⟨by decide, ?_⟩
   simp only[ju,vL,seval, -List.reduceReplicate]
   refine zt (t:=0) (u:=8) (ra:=false) (rb:=true) (cs:=cs) (ds:=kk) (m:=L - 77) (r:=r) (g:=jc g) (by simp only[vP,seval, -List.reduceReplicate]) h0 hp (by simp only[vP,seval, -List.reduceReplicate]) (.inr ⟨0,c1,rfl,g1.shows⟩) g1.plain hs hn hl hr hx0.1 (by omega) (PJ hg 33) (fun i=>hg _) (fun i=>hg _) hm ?_
   intro U9 Xf o1 YB hS hO
   simp only[ju,vL,seval, -List.reduceReplicate]
   rw[eD]
   exact dE hS hO (by decide) (by decide) (by decide) (by simp only[AS.mem,AS.put,vP,seval, -List.reduceReplicate]) (by simp only[AS.mem,AS.put,vP,seval, -List.reduceReplicate])
theorem Ld {s:AS} {q z n:Nat} {f:Nat→En} {sv:SV} {bx:Option aN} {rw:Bool} {cs:List SV} (hK:kz q n f sv bx) (hb:s.box q=bx) (hf:s.box z=some ⟨rw,cs⟩) (hp:cs.all SV.plain=true):
  ∃ u rw' ds,s.box u=some ⟨rw',ds⟩∧ds.all SV.plain=true∧aH u sv n f ds:=by
 rcases hK with ⟨h0,rfl,rfl⟩ | ⟨c,ds,rfl,hg,rfl⟩
 ·exact ⟨z,rw,cs,hf,hp, .inl ⟨⟨none,rfl⟩,h0⟩⟩
 ·exact ⟨q,true,ds,hb,hg.plain, .inr ⟨0,c,rfl,hg.room,hg.shows⟩⟩
theorem Le {s:AS} {q z m:Nat} {G:Nat→Int} {o:SV} {bx:Option aN} {rw:Bool} {cs:List SV} (hK:kA q m G o bx) (hb:s.box q=bx) (hf:s.box z=some ⟨rw,cs⟩) (hp:cs.all SV.plain=true):
  ∃ u rw' ds,s.box u=some ⟨rw',ds⟩∧ds.all SV.plain=true∧eH u (.inl (.inl o)) m G ds:=by
 rcases hK with ⟨h0,rfl,rfl⟩ | ⟨c,ds,rfl,hg,rfl⟩
 ·exact ⟨z,rw,cs,hf,hp, .inl ⟨⟨none,rfl⟩,h0⟩⟩
 ·exact ⟨q,true,ds,hb,hg.plain, .inr ⟨0,c,rfl,hg.shows⟩⟩
theorem CQ {s:AS} {nm q q' z:Nat} {A:G8} {sv xj o o':SV} {bx bo VA bo':Option aN} {rw:Bool} {cs:List SV} (hS:kz q A.n A.F sv bx) (hO:kA (q+1) A.m A.G o bo) (hS':kz q' A.n A.F xj VA) (hO':kA (q'+1) A.m A.G o' bo')
  (b1:s.box q=bx) (b2:s.box (q+1)=bo) (b3:s.box q'=VA) (b4:s.box (q'+1)=bo') (hf:s.box z=some ⟨rw,cs⟩) (hp:cs.all SV.plain=true) (hn:A.n < 4611686018427387904) (hm:A.m < 4611686018427387904) {dst:Option Nat} {K:AS→Prop}
  (hk:K ((⟨s.env,upd s.box nm none,s.next⟩:AS).put dst (some (B true)))):
  bA Tryz.prog nm 9 (some [Ag (eV A.y { A.x with store:=sv } o A.ep A.nn),Ag (eV A.y { A.x with store:=xj } o' A.ep A.nn)]) dst K s:=by
 obtain ⟨u0,r0,c0,e0,p0,i0⟩:=Ld hS b1 hf hp
 obtain ⟨u1,r1,c1,e1,p1,i1⟩:=Ld hS' b3 hf hp
 obtain ⟨u2,r2,c2,e2,p2,i2⟩:=Le hO b2 hf hp
 obtain ⟨u3,r3,c3,e3,p3,i3⟩:=Le hO' b4 hf hp
 obtain ⟨w0,g0,n0⟩:=i0.name (k:=0)
 obtain ⟨w1,g1,n1⟩:=i1.name (k:=1)
 obtain ⟨w2,g2,n2⟩:=nq (k:=2) i2
 obtain ⟨w3,g3,n3⟩:=nq (k:=3) i3
 refine (NG (x:=A.x) (y:=A.y) (ep:=A.ep) (nn:=A.nn) g0 g1 g2 g3 p0 p1 p2 p3 hn hm).Ga (four u0 u1 u2 u3) (acU e0 p0 e1 p1 e2 p2 e3 p3) rfl ?_ hk
 have x0:SV.aI (four u0 u1 u2 u3) w0=sv:=n0 _ rfl
 have x1:SV.aI (four u0 u1 u2 u3) w1=xj:=n1 _ rfl
 have x2:SV.aI (four u0 u1 u2 u3) w2=o:=n2 _ rfl
 have x3:SV.aI (four u0 u1 u2 u3) w3=o':=n3 _ rfl
 simp only[List.map_cons,List.map_nil,uK,x0,x1,x2,x3]
theorem Lf {s:AS} {q:Nat} (h:s.box q=none):upd s.box q none=s.box:=funext fun t=>by
 unfold upd;split
 ·rename_i e;subst e;exact h.symm
 ·rfl
theorem NW {s:AS} {nm q m:Nat} {G:Nat→Int} {o:SV} {bo:Option aN} (hO:kA q m G o bo) (hb:s.box q=bo) (hm:m < 4611686018427387904) {dst:Option Nat} {K:AS→Prop}
  (hk: ∀ b2,K ((⟨s.env,upd s.box q b2,s.next⟩:AS).put dst (some (.inr [])))):ax Tryz.prog nm 11 (some [.inl (.inl o)]) dst K s:=by
 rcases hO with ⟨h0,rfl,rfl⟩ | ⟨c,cs,rfl,hg,rfl⟩
 ·refine Nn.ax ?_
  have:=hk none
  rwa [Lf hb]at this
 ·exact Dr hb hg hm fun ds _=>hk _
theorem XB {s:AS} {nm q n:Nat} {f:Nat→En} {sv:SV} {bx:Option aN} (hS:kz q n f sv bx) (hb:s.box q=bx) (hn:n < 4611686018427387904) {dst:Option Nat} {K:AS→Prop}
  (hk: ∀ b2,K ((⟨s.env,upd s.box q b2,s.next⟩:AS).put dst (some (.inr [])))):ax Tryz.prog nm 12 (some [.inl (.inl sv)]) dst K s:=by
 rcases hS with ⟨h0,rfl,rfl⟩ | ⟨c,cs,rfl,hg,rfl⟩
 ·refine Xm.ax ?_
  have:=hk none
  rwa [Lf hb]at this
 ·exact NF hb hg hn fun ds _=>hk _
theorem Dv {s:AS} {nm t u n m c:Nat} {x:St} {f:Nat→En} {ra rb:Bool} {cs ds:List SV} (hb:s.box t=some ⟨ra,cs⟩) (hp:cs.all SV.plain=true) (hb':s.box u=some ⟨rb,ds⟩) (hq:ds.all SV.plain=true) (hi:aH u x.store m f ds) (hn:n+2≤c) {dst:Option Nat} {K:AS→Prop}
  (hk:K ((⟨s.env,upd s.box nm none,s.next⟩:AS).put dst (some (Ag (bC { x with store:= .inr (.inr (t,0,n,c)) }))))):bA Tryz.prog nm 7 (some [Ag [Sum.inr (.inr (t,0,n+2,c)),Sum.inl (.int .i64 n)],Ag (bC x)]) dst K s:=by
 obtain ⟨v0,g0,e0⟩:=hi.name (k:=1)
 refine (RX (x:={ x with store:=v0 }) g0 hp hq hn).bA (two t u) (ie hb hp hb' hq) ?_ ?_
 ·simp only[List.map_cons,List.map_nil,eM,e0 (two t u) rfl]
  rfl
 ·rintro v out ⟨rfl,rfl⟩
  have e2:AV.aI (bI (two t u) 2 nm) (Ag (bC { x with store:= .inr (.inr (0,0,n,c)) }))=Ag (bC { x with store:= .inr (.inr (t,0,n,c)) }):=by rw[eM];rfl
  rw[e2];exact hk
theorem NX {s:AS} {nm t n c:Nat} {rw:Bool} {cs:List SV} (hn:n+64≤c) (hb:s.box t=some ⟨rw,cs⟩) (hp:cs.all SV.plain=true) {dst:Option Nat} {K:AS→Prop} (hk:K ((⟨s.env,upd s.box nm none,s.next⟩:AS).put dst (some (Sl t 0 n c)))):
  bA Tryz.prog nm 8 (some [Ag [Sum.inr (.inr (t,0,n+64,c)),Sum.inl (.int .i64 n)]]) dst K s:=by
 refine (ZW hn hp).bA (fun _=>t) (bS hb hp) rfl ?_
 rintro v out ⟨rfl,rfl⟩
 exact hk
theorem XC {s:St} {w:SV} {n L:Nat} {f:Nat→En} {g:Nat→Int}:jH { s with store:=w } n f L g=jH s n f L g:=by
 unfold jH
 rw[MH]
 simp only[G0]
theorem XD {k n L:Nat} {s:St} {w:SV} {f:Nat→En} {g:Nat→Int} {v:AV} {out:Nat→Option aN} (h:vg k (gK { s with store:=w } n f L g) v out):vg k (gK s n f L g) v out:=by
 unfold gK at h ⊢
 rw[XC]at h
 split at h
 ·split at h
  ·rename_i h0;rw[if_pos h0];exact h
  ·rename_i i hE h0;rw[if_neg h0];exact rY (A:=⟨rj i,s,0,0,n,0,f,fun _=>0⟩) (w:=w) h
 ·unfold qm at h ⊢
  split at h
  ·exact rY (A:=wY n _ _ s f _) (w:=w) h
  ·unfold oK at h ⊢
   rw[NL,Vo,show Ny { s with store:=w } n (g9 g) (dW g 33)=Ny s n (g9 g) (dW g 33) from rfl]at h
   exact xc (E:=none) (s0:=s) (n:=n) (f:=f) (a:=w) (b:=s.store) h
def st0 (s:St) (cs ds:List SV) (vp:AV):AS:=oZ [(1,vp),(2,Ptr 2 0)] [(0,⟨false,cs⟩),(1,⟨false,ds⟩),(2,⟨false,bC s⟩)] 6
theorem afg {s:St} {n L:Nat} {f:Nat→En} {g:Nat→Int} (hn:n*72≤140737488355328) (hs:gy s) (hg:br g) (hL:L+64≤140737488355328):(gK s n f L g).n < 4611686018427387904∧(gK s n f L g).m < 4611686018427387904:=by
 unfold gK
 split
 ·split
  ·exact ⟨by show 0 < 4611686018427387904;decide,by show 0 < 4611686018427387904;decide⟩
  ·exact ⟨by show n < _;omega,by show 0 < 4611686018427387904;decide⟩
 ·unfold qm
  split
  ·exact ⟨by show n - 1 < _;omega,by show L - 77 < _;omega⟩
  ·refine ⟨?_,by show L - 77 < _;omega⟩
   show Ny s n (g9 g) (dW g 33)+(dW g 37 - (G7 s (g9 g) (dW g 33)).nr).toNat < _
   have a1:=L8 hg 37
   have a2:=L8 hg 33
   have a3:=hs.nr
   simp only[mC]at a3
   have a4:0≤(G7 s (g9 g) (dW g 33)).nr:=by
    unfold G7
    split
    ·exact a3.1
    ·show (0:Int)≤0;decide
   have a5:Ny s n (g9 g) (dW g 33)≤n+4294967296:=by
    unfold Ny fq
    repeat' split
    all_goals omega
   omega
theorem aaj {s:St} {n m:Nat} {f:Nat→En} {g:Nat→Int} {vp:AV} {cs ds:List SV} (hp:cs.all SV.plain=true) (hq:ds.all SV.plain=true) (hv:aH 0 s.store n f cs) (hr:Lb 1 vp m g ds)
  (hs:gy s) (hf: ∀ i,nV (f i)) (hg:br g) (hn:(n+2)*72≤140737488355328) (hL:m+64≤140737488355328) (k:Nat) (hk:k≤2):
  Rb Tryz.prog [3,4] k [] (match Tryz.f3.body with
   | some c=>nC 1 c
   | none=> .skip) (nt Tryz.prog Tryz.f3.results.toList (qA k (fun v out=>v=B true∧out=fun _=>none))) (st0 s cs ds vp):=by
 obtain ⟨an,am⟩:=afg (s:=s) (n:=n) (L:=m) (f:=f) (g:=g) (by omega) hs hg hL
 simp only[Tryz.f3,gV,gU,st0]
 simp only[dr,eZ,gk,wu,jY,BZ,ma,fE,wR,ao,bN,aK,aR,vL,seval, -List.reduceReplicate]
 refine CH (t:=0) (rw:=false) (f:=f) (by simp only[vP,seval, -List.reduceReplicate]) hp hv hn ?_
 intro c1 es fM
 have hr1:=fM.room
 simp only[eZ,gk,wu,jY,BZ,ma,fE,wR,ao,bN,aK,aR,vL,seval, -List.reduceReplicate]
 refine Xb (t:=1) (rw:=false) (by simp only[vP,seval, -List.reduceReplicate]) hq hr.is hL ?_
 intro c2 wz g1 g2 g3
 simp only[eZ,gk,wu,jY,BZ,ma,fE,wR,ao,bN,aK,aR,vL,seval, -List.reduceReplicate]
 refine wk (by kernel_rfl) [0,1,3] [2,4,5] [6] [7] [9,13] [13,14,16,15,17,18,7] (by kernel_rfl) (by kernel_rfl) (by kernel_rfl) ?_
 simp only[eZ,gk,wu,jY,BZ,ma,fE,wR,ao,bN,aK,aR,vL,seval, -List.reduceReplicate]
 refine Dv (t:=8) (u:=0) (m:=n) (f:=f) (ra:=true) (rb:=false) (cs:=es) (ds:=cs) (by simp only[vP,seval, -List.reduceReplicate]) fM.plain (by simp only[vP,seval, -List.reduceReplicate]) hp hv hr1 ?_
 simp only[eZ,gk,wu,jY,BZ,ma,fE,wR,ao,bN,aK,aR,vL,seval, -List.reduceReplicate]
 refine NX (t:=12) (rw:=true) (cs:=af .u8 m g++(af .u8 64 (fun _=>0)++wz)) g1 (by simp only[vP,seval, -List.reduceReplicate]) (kr g3) ?_
 simp only[eZ,gk,wu,jY,BZ,ma,fE,wR,ao,bN,aK,aR,vL,seval, -List.reduceReplicate]
 have iE0:aH 0 (.inr (.inr (0,0,n,c1))) n f es:= .inr ⟨0,c1,rfl,by omega,zc fM⟩
 have hws: ∀ {v:AV} {out:Nat→Option aN},vg 2 (gK { s with store:= .inr (.inr (0,0,n,c1)) } n f m g) v out→vg 2 (gK s n f m g) v out:=fun h=>XD h
 refine oJ (A:=gK s n f m g) (Dt (s:={ s with store:= .inr (.inr (0,0,n,c1)) }) (o:=0) (c:=c2) (L:=m) (g:=g) (f:=f) (cs:=es) (ds:=af .u8 m g++(af .u8 64 (fun _=>0)++wz)) iE0 fM.plain (hs.ws _) hf (by omega) dg (kr g3) (by omega) (by omega) hg) (fun v out h=>hws h) (two 8 12)
  (ie (rw:=true) (rw':=true) (by simp only[vP,seval, -List.reduceReplicate]) fM.plain (by simp only[vP,seval, -List.reduceReplicate]) (kr g3)) ?_ ?_
 ·simp only[List.map_cons,List.map_nil,eM];rfl
 intro sv bx o bo hS hO
 simp only[eZ,gk,wu,jY,BZ,ma,fE,wR,ao,bN,aK,aR,vL,seval, -List.reduceReplicate]
 refine wk (by kernel_rfl) [0,1,2] [3,4] [] [5] [31] [19,20,21,22,23,24] (by kernel_rfl) (by kernel_rfl) (by kernel_rfl) ?_
 simp only[eZ,gk,wu,jY,BZ,ma,fE,wR,ao,bN,aK,aR,vL,seval, -List.reduceReplicate]
 refine oJ (A:=gK s n f m g) (G4 (vp:=vp) (L:=m) (g:=g) (f:=f) hv hp hs hf (by omega) hr hq (by omega) hg) (fun v out h=>h) (two 0 1)
  (ie (rw:=false) (rw':=false) (by simp only[vP,seval, -List.reduceReplicate]) hp (by simp only[vP,seval, -List.reduceReplicate]) hq) ?_ ?_
 ·have e2:SV.aI (two 0 1) s.store=s.store:=hv.aI rfl
  have e3:AV.aI (two 0 1) vp=vp:=hr.is.aI rfl
  simp only[List.map_cons,List.map_nil,eM,e2,e3]
 intro xj VA o' bo' hS' hO'
 simp only[eZ,gk,wu,jY,BZ,ma,fE,wR,ao,bN,aK,aR,vL,seval, -List.reduceReplicate]
 refine CQ (q:=27) (q':=43) (z:=0) (rw:=false) (cs:=cs) hS hO hS' hO' (by simp only[vP,seval, -List.reduceReplicate]) (by simp only[vP,seval, -List.reduceReplicate]) (by simp only[vP,seval, -List.reduceReplicate]) (by simp only[vP,seval, -List.reduceReplicate]) (by simp only[vP,seval, -List.reduceReplicate]) hp an am ?_
 simp only[Bool.not_true,eZ,gk,wu,jY,BZ,ma,fE,wR,ao,bN,aK,aR,vL,seval, -List.reduceReplicate]
 refine NW (q:=28) hO (by simp only[vP,seval, -List.reduceReplicate]) am ?_
 intro b1
 simp only[eZ,gk,wu,jY,BZ,ma,fE,wR,ao,bN,aK,aR,vL,seval, -List.reduceReplicate]
 refine XB (q:=27) hS (by simp only[vP,seval, -List.reduceReplicate]) an ?_
 intro b2
 simp only[eZ,gk,wu,jY,BZ,ma,fE,wR,ao,bN,aK,aR,vL,seval, -List.reduceReplicate]
 refine Xc (u:=12) (t:=1) (rw:=true) (rw':=false) (f:=g) (tail:=wz) (cs:=ds) (by simp only[vP,seval, -List.reduceReplicate]) g3 g1 (by simp only[vP,seval, -List.reduceReplicate]) hq hr.is (by omega) ?_
 simp only[eZ,gk,wu,jY,BZ,ma,fE,wR,ao,bN,aK,aR,vL,seval, -List.reduceReplicate]
 refine CK (t:=8) (u:=0) (ra:=true) (rb:=false) (cs:=es) (ds:=cs) (by simp only[vP,seval, -List.reduceReplicate]) fM (by simp only[vP,seval, -List.reduceReplicate]) hp hv (by omega) ?_
 simp only[eZ,gk,wu,jY,BZ,ma,fE,wR,ao,bN,aK,aR,vL,seval, -List.reduceReplicate]
 exact ak rfl ⟨rfl,rfl⟩
theorem QE {s:St} {n L k:Nat} {f:Nat→En} {raw:Nat→Int} {xj:SV} {vr vr':AV} {cs ds:List SV} {ins:Nat→Option aN} (hk:k≤2) (r:Nat→Nat) (Tm: ∀ j,j < k→r j=j) (hall: ∀ n,n < k→ ∃ b,ins n=some b) (kD: ∀ n b,ins n=some b→n < k∧ ∀ x ∈ b.cells,SV.ok (fun n=>n < k) x)
  (N8:SV.aI r s.store=xj) (hvr:AV.aI r vr=vr') (h2:r 2=k) (fO:SV.ok (fun n=>n < k) xj) (jX:AV.ok (fun n=>n < k) vr')
  (h0: ∃ b',upd ins k (some ⟨true,bC { s with store:=xj }⟩) (r 0)=some b'∧b'.cells=cs) (h1: ∃ b',upd ins k (some ⟨true,bC { s with store:=xj }⟩) (r 1)=some b'∧b'.cells=ds)
  (hp:cs.all SV.plain=true) (hq:ds.all SV.plain=true) (hv:aH 0 s.store n f cs) (hr:Lb 1 vr L raw ds)
  (hs:gy s) (hf: ∀ i,nV (f i)) (NY:br raw) (hn:(n+2)*72≤140737488355328) (hL:L+64≤140737488355328):
  bf Tryz.prog 3 [Ag (bC { s with store:=xj }),vr'] k ins (fun v out=>v=B true∧out=fun _=>none):=by
 refine gX Tryz.func3 rfl (by kernel_rfl) [3,4] [1] (by simp[Tryz.ntmps3]) Tryz.Re (fun u hu=>by
  simp only[List.mem_cons,List.not_mem_nil,or_false]at hu
  rcases hu with rfl | rfl
  ·exact bF fO
  ·exact jX) hall kD ?_
 refine ⟨fun s2=>s2=st0 s cs ds vr, ?_,fun s2 h=> ?_⟩
 ·simp only[Tryz.results3,ao,aK,aR,vL,seval, -List.reduceReplicate]
  refine ⟨_, ?_, ?_,rfl⟩
  ·refine Bo r Tm ?_ ?_ (fun x hx hrw=> ?_)
   ·intro x hx
    simp only[List.mem_cons,List.not_mem_nil,or_false]at hx
    rcases hx with rfl | rfl
    ·exact ⟨by rw[hvr];rfl,hr.is.ok (by decide)⟩
    ·exact ⟨by rw[lE,h2];rfl,show (2:Nat) < 6 by decide⟩
   ·intro x hx
    simp only[List.mem_cons,List.not_mem_nil,or_false]at hx
    rcases hx with rfl | rfl | rfl
    ·obtain ⟨b',e1,e2⟩:=h0
     exact ⟨⟨b',e1,fun h=>(by cases h),by rw[e2];exact (aQ hp _).symm⟩,show (0:Nat) < 6 by decide,aC hp⟩
    ·obtain ⟨b',e1,e2⟩:=h1
     exact ⟨⟨b',e1,fun h=>(by cases h),by rw[e2];exact (aQ hq _).symm⟩,show (1:Nat) < 6 by decide,aC hq⟩
    ·exact ⟨⟨⟨true,bC { s with store:=xj }⟩,by show upd ins k _ (r 2)=_;rw[h2];exact ay _ _ _,fun h=>(by cases h),by rw[eN,N8]⟩,show (2:Nat) < 6 by decide,bF (hv.ok (by decide))⟩
   ·simp only[List.mem_cons,List.not_mem_nil,or_false]at hx
    rcases hx with rfl | rfl | rfl<;>cases hrw
  ·show k≤6;omega
 ·subst h
  exact aaj hp hq hv hr hs hf NY hn hL k hk
section
variable {s:St} {n L:Nat} {f:Nat→En} {raw:Nat→Int} (hs:gy s) (hf: ∀ i,nV (f i)) (NY:br raw)
include hs hf NY
theorem aak {o c o' c':Nat} {cs ds:List SV} (hp:cs.all SV.plain=true) (hq:ds.all SV.plain=true) (hsh:cO cs o n f) (hc0:n≤c) (Ys:L≤c') (hs':aZ ds o' L raw) (hn:(n+2)*72≤140737488355328) (hL:L+64≤140737488355328):
  bf Tryz.prog 3 [Ag (bC { s with store:= .inr (.inr (0,o,n,c)) }),Sl 1 o' L c'] 2 (lk [(0,⟨false,cs⟩),(1,⟨false,ds⟩)]) (fun v out=>v=B true∧out=fun _=>none):=
 QE (s:={ s with store:= .inr (.inr (0,o,n,c)) }) (xj:= .inr (.inr (0,o,n,c))) (Nat.le_refl 2) (fun n=>n) (fun _ _=>rfl) lC (nU hp hq) (vr:=Sl 1 o' L c') rfl rfl rfl ⟨show (0:Nat) < 2 by decide,rfl⟩ (show (1:Nat) < 2 by decide) ⟨_,rfl,rfl⟩ ⟨_,rfl,rfl⟩ hp hq (.inr ⟨o,c,rfl,hc0,hsh⟩) (.inr ⟨o',c',rfl,Ys,hs'⟩) (hs.ws _) hf NY hn hL
theorem aal {o c:Nat} {a:Option Addr} {cs:List SV} (hp:cs.all SV.plain=true) (hsh:cO cs o n f) (hc0:n≤c) (hn:(n+2)*72≤140737488355328):
  bf Tryz.prog 3 [Ag (bC { s with store:= .inr (.inr (0,o,n,c)) }),V (.slice a 0 0)] 1 (lk [(0,⟨false,cs⟩)]) (fun v out=>v=B true∧out=fun _=>none):=
 QE (s:={ s with store:= .inr (.inr (0,o,n,c)) }) (xj:= .inr (.inr (0,o,n,c))) (L:=0) (by decide) (fun n=>n - 1) (fun j hj=>by show j - 1=j;omega) dG (dH hp) (vr:=V (.slice a 0 0)) rfl rfl rfl ⟨show (0:Nat) < 1 by decide,rfl⟩ trivial ⟨_,rfl,rfl⟩ ⟨_,rfl,rfl⟩ hp hp (.inr ⟨o,c,rfl,hc0,hsh⟩) (.inl ⟨⟨a,rfl⟩,rfl⟩) (hs.ws _) hf NY hn (by decide)
theorem aam {o c:Nat} {a:Option Addr} {ds:List SV} (hp:ds.all SV.plain=true) (Ys:L≤c) (hs':aZ ds o L raw) (hL:L+64≤140737488355328):
  bf Tryz.prog 3 [Ag (bC { s with store:= .inl (.slice a 0 0) }),Sl 0 o L c] 1 (lk [(0,⟨false,ds⟩)]) (fun v out=>v=B true∧out=fun _=>none):=
 QE (s:={ s with store:= .inl (.slice a 0 0) }) (xj:= .inl (.slice a 0 0)) (n:=0) (by decide) (fun n=>n - 1) (fun j hj=>by show j - 1=j;omega) dG (dH hp) (vr:=Sl 1 o L c) rfl rfl rfl (SV.bk rfl) (show (0:Nat) < 1 by decide) ⟨_,rfl,rfl⟩ ⟨_,rfl,rfl⟩ hp hp (.inl ⟨⟨a,rfl⟩,rfl⟩) (.inr ⟨o,c,rfl,Ys,hs'⟩) (hs.ws _) hf NY (by decide) hL
theorem aan {a a':Option Addr}:
  bf Tryz.prog 3 [Ag (bC { s with store:= .inl (.slice a 0 0) }),V (.slice a' 0 0)] 0 (fun _=>none) (fun v out=>v=B true∧out=fun _=>none):=
 QE (s:={ s with store:= .inl (.slice a 0 0) }) (xj:= .inl (.slice a 0 0)) (n:=0) (L:=0) (by decide) (fun n=>n - 2) (fun j hj=>by omega) tq tu (vr:=V (.slice a' 0 0)) rfl rfl rfl (SV.bk rfl) trivial ⟨_,rfl,rfl⟩ ⟨_,rfl,rfl⟩ (xE rfl) (xE rfl) (.inl ⟨⟨a,rfl⟩,rfl⟩) (.inl ⟨⟨a',rfl⟩,rfl⟩) (hs.ws _) hf NY (by decide) (by decide)
end
end Go.Proofs.YtpnehhpadofcbaaGreatDoor
