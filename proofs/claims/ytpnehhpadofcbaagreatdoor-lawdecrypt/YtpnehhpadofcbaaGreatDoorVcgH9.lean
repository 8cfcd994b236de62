/-
  The digest of the document.
-/
import Derived.Test.YtpnehhpadofcbaaGreatDoorVcgJ3
import Derived.Test.YtpnehhpadofcbaaGreatDoorVcgSt
import Derived.Test.YtpnehhpadofcbaaGreatDoorVcgG
import Derived.Test.YtpnehhpadofcbaaGreatDoorVcgN
import Derived.Test.YtpnehhpadofcbaaGreatDoorVcgFacts
import Derived.Laws.Externs
set_option maxHeartbeats 8000000
set_option maxRecDepth 20000
set_option linter.unusedSimpArgs false
set_option linter.unusedVariables false
set_option linter.unusedSectionVars false
namespace Go.Proofs.YtpnehhpadofcbaaGreatDoor
open Go.bU
variable [aO]
theorem J8 {k n:Nat} {v:AV} {f:Nat→Int} {ins:Nat→Option aN} (hf:br f) (hv:bG ins v n f) (hn:n < 100000000) (hok:AV.ok (fun n=>n < k) v) (hall: ∀ n,n < k→ ∃ b,ins n=some b) (kD: ∀ n b,ins n=some b→n < k∧ ∀ x ∈ b.cells,SV.ok (fun n=>n < k) x) (hk:k≤20):
  bf Tryz.prog 110 [v] k ins (fun u out=>u=Ag (af .u8 32 (ke kW cj f n))∧out=fun _=>none):=by
 refine av Tryz.func110 rfl (by kernel_rfl) (by simp[Tryz.ntmps110]) Tryz.qM (fun u hu=>by rw[List.mem_singleton.1 hu];exact hok) hall kD ?_
 simp only[Tryz.results110,vR,seval, -List.reduceReplicate]
 have hG0:bK (af .u8 0 (fun _=>0)) 0 0 0 (fun _=>0):=⟨rfl,by decide,rfl,fun i hi=>by omega⟩
 refine bp (g:=f) Tryz.bP Tryz.bR (by simp only[ay]) hG0 (oz hv hok (by omega) (fun t ht=>by simp only[upd];rw[if_neg (by omega),if_neg (by omega)])) (by omega) ?_
 intro c1 kk fM
 replace fM:=fM.congr (m:=n) (g:=f) (by omega) (fun i hi=>by simp[aP])
 simp only[vR,seval, -List.reduceReplicate]
 refine bp (g:=fun _=>128) Tryz.bP Tryz.bR (by simp only[upd];rw[if_neg (by omega)];exact if_pos trivial) fM (.inr ⟨_,_,_,true,[Sum.inl (.int .u8 128)],rfl,by simp only[ay];rfl,b9,by omega⟩) (by omega) ?_
 intro c2 mD gI
 have eB:blocks n=(n+8) / 64+1:=rfl
 replace gI:=gI.congr (m:=n+1+0) (g:=kE f n) (by omega) (fun i hi=>by
  simp only[aP,kE];split
  ·rfl
  ·rw[if_pos (by omega)])
 have hR:n+1≤64*blocks n - 8:=by omega
 simp only[vR,seval, -List.reduceReplicate]
 refine ox (64*blocks n - 8 - (n+1)) (fun j (x:Nat×List SV)=>bK x.2 0 (n+1+j) x.1 (kE f n)) (fun j x=>[(2,Ptr k 0),(0,v),(3,Sl 60 0 (n+1+j) x.1)]) (fun j x=>[(60,⟨true,x.2⟩),(k,⟨true,af .u8 32 (fun _=>0)⟩)]) 100 (c2,mD) ⟨gI, ?_⟩ ?_ ?_ (by show _≤100;simp only[AS.put];omega)
 ·refine ⟨60,k+1+4+2,Bb (by simp only[AS.put];omega) (by decide) ?_ (by simp only[ay]) gI.plain ?_⟩
  ·have e1:AV.aI (upd (fun n=>n) 60 (k+1+4+2)) v=v:=ig (fun n hn=>bj _ _ _ _ (by omega)) hok
   have e2:AV.ok (fun n=>n < 100) v:=AV.bm (fun n hn=>by omega) hok
   simp[e1,e2,ae,lE,eF,FK,O8,abr]
   omega
  ·have q1:(k=k+1+4+2)=False:=eq_false (by omega)
   have q2:(k=k+1+2)=False:=eq_false (by omega)
   have q3:(k=k+1+4+1)=False:=eq_false (by omega)
   have q4:(k=k+1)=False:=eq_false (by omega)
   simp[ae,aw,q1,q2,q3,q4]
   exact ⟨by omega,fun x hx=>List.all_eq_true.1 aw x hx⟩
 ·rintro j ⟨c,cs⟩ hj hg
  have l1:n+1+j < 64*blocks n - 8:=by omega
  have r1:(((n+1+j:Nat):Int)).tmod 64=(((n+1+j)%64:Nat):Int):=LV (n+1+j) 64
  simp only[r1,vR,seval, -List.reduceReplicate]
  refine az (by simp;omega) ?_
  simp only[vR,seval, -List.reduceReplicate]
  refine bp (g:=fun _=>0) Tryz.bP Tryz.bR (by simp only[ae,vR,seval, -List.reduceReplicate]) hg (.inr ⟨_,_,_,true,[Sum.inl (.int .u8 0)],rfl,by simp only[ay];rfl,b9,by omega⟩) (by omega) ?_
  intro c3 xP nu
  simp only[vR,seval, -List.reduceReplicate]
  refine ⟨(c3,xP),nu.congr (by omega) (fun i hi=> ?_),60,106,Bb (by omega) (by decide) ?_ (by simp only[ay]) nu.plain ?_⟩
  ·simp only[aP,kE];split
   ·rfl
   ·rw[if_neg (by omega),if_neg (by omega),if_pos (by omega)]
  ·have e1:AV.aI (upd (fun n=>n) 60 106) v=v:=ig (fun n hn=>bj _ _ _ _ (by omega)) hok
   have e2:AV.ok (fun n=>n < 100) v:=AV.bm (fun n hn=>by omega) hok
   simp[e1,e2,ae,lk,lE,eF,FK,O8,abr]
   omega
  ·have q1:(k=106)=False:=eq_false (by omega)
   have q2:(k=60)=False:=eq_false (by omega)
   have q3:(k=105)=False:=eq_false (by omega)
   simp[ae,lk,aw,q1,q2,q3]
   exact ⟨by omega,fun x hx=>List.all_eq_true.1 aw x hx⟩
 ·rintro ⟨c,cs⟩ hg
  have l1:n+1+(64*blocks n - 8 - (n+1))=64*blocks n - 8:=by omega
  rw[l1]at hg
  have r1:(((64*blocks n - 8:Nat):Int)).tmod 64=(((64*blocks n - 8)%64:Nat):Int):=LV (64*blocks n - 8) 64
  simp only[l1,r1,vR,seval, -List.reduceReplicate]
  refine aD (by simp;omega) ?_
  simp only[iW hv,vR,seval, -List.reduceReplicate]
  refine dS (Zz (l:=n) (by omega)) (fun n=>n) gF rfl ?_
  intro c4 ab4 h41 h42 h43
  simp only[vR,seval, -List.reduceReplicate]
  refine bp (g:=sc n) Tryz.bP Tryz.bR (by simp only[ae,vR,seval, -List.reduceReplicate]) hg (.inr ⟨_,_,_,true,af .u8 8 (sc n)++ab4,rfl,by simp only[ay],dg,by decide⟩) (by omega) ?_
  intro c5 pZ Lk
  replace Lk:=Lk.congr (m:=64*blocks n) (g:=kE f n) (by omega) (fun i hi=>by
   simp only[aP];split
   ·rfl
   ·simp only[kE];rw[if_neg (by omega),if_neg (by omega),if_neg (by omega)])
  simp only[vR,seval, -List.reduceReplicate]
  have e8:64*blocks n - 8+8=64*blocks n:=by omega
  have z8: ∀ r:Nat→Int,splice [Sum.inl (Value.int IntKind.u32 0),Sum.inl (Value.int IntKind.u32 0),Sum.inl (Value.int IntKind.u32 0),Sum.inl (Value.int IntKind.u32 0),Sum.inl (Value.int IntKind.u32 0),Sum.inl (Value.int IntKind.u32 0),Sum.inl (Value.int IntKind.u32 0),Sum.inl (Value.int IntKind.u32 0)] 0 (af .u32 8 r)=af .u32 8 r:=fun r=>du .u32 8 (fun _=>0) r
  simp only[e8,z8]
  have ok5: ∀ {M:Nat→Prop},(∀ x ∈ pZ,SV.ok M x)=True:=eq_true (aC Lk.plain)
  refine aE (blocks n) (fun i=>[(2,Ptr k 0),(3,Sl 110 0 (64*blocks n) c5),(4,Ptr 113 0),(5,I .i64 (64*i:Nat))])
   (fun i=>[(110,⟨true,pZ⟩),(113,⟨true,af .u32 8 (kd kW cj (kE f n) i)⟩),(k,⟨true,af .u8 32 (fun _=>0)⟩)]) _ ?_ ?_ ?_
  ·have q1:(k=113)=False:=eq_false (by omega)
   have q2:(k=110)=False:=eq_false (by omega)
   have q3:(k=60)=False:=eq_false (by omega)
   have q4:(k=109)=False:=eq_false (by omega)
   simp only[q1,q2,q3,q4,if_false,ok5,kd,vR,seval, -List.reduceReplicate]
   omega
  ·intro i hi
   have w1:IntKind.i64.wrap (((64*i:Nat):Int)+64)=((64*(i+1):Nat):Int):=by rw[wrap_i64 _ (by omega) (by omega)];omega
   have k1:(((64*(i+1):Nat):Int)≤((64*blocks n:Nat):Int))=True:=eq_true (by omega)
   have k2:(((64*i:Nat):Int)≤((64*(i+1):Nat):Int))=True:=eq_true (by omega)
   have k3:(((64*(i+1):Nat):Int)≤(c5:Int))=True:=eq_true (by have:=Lk.room;omega)
   simp only[w1,vR,seval, -List.reduceReplicate]
   refine az (by simp only[k1];rfl) ?_
   simp only[w1,k1,k2,k3,aW,vR,seval, -List.reduceReplicate]
   refine ⟨by kernel_rfl, ?_⟩
   have eo:aZ pZ (if c5=64*i then 0 else 64*i) 64 (fun j=>kE f n (64*i+j)):=by
    have hr:=Lk.room
    rw[if_neg (by omega)]
    have:=jM Lk.shows (64*i) 64 (by omega)
    rwa [Nat.zero_add]at this
   have el:64*(i+1) - 64*i=64:=by omega
   rw[el]
   generalize (if c5=64*i then 0 else 64*i)=o' at eo ⊢
   refine (MR (c:=c5 - 64*i) (FP L6 _) (fun j=>IQ hf n _) eo Lk.plain).cQ (fun _=>110) (bS (rw:=true) (by simp only[vR,seval, -List.reduceReplicate]) Lk.plain) aw rfl (fun M h _ _=>h (Sl 110 o' 64 (c5 - 64*i)) (List.Mem.tail _ (List.Mem.head _))) ?_
   have z8': ∀ r r':Nat→Int,splice (af .u32 8 r') 0 (af .u32 8 r)=af .u32 8 r:=fun r r'=>du .u32 8 _ _
   have q1:(k=113)=False:=eq_false (by omega)
   have q2:(k=110)=False:=eq_false (by omega)
   simp only[z8',q1,q2,w1,ok5,kd,vR,seval, -List.reduceReplicate]
   omega
  ·have w1:IntKind.i64.wrap (((64*blocks n:Nat):Int)+64)=((64*blocks n+64:Nat):Int):=by rw[wrap_i64 _ (by omega) (by omega)];omega
   simp only[w1,vR,seval, -List.reduceReplicate]
   refine aD (by simp;omega) ?_
   simp only[vR,seval, -List.reduceReplicate]
   refine aE 32 (fun j=>[(2,Ptr k 0),(4,Ptr 113 0),(6,Ptr 121 0),(7,I .i64 j)])
    (fun j=>[(113,⟨true,af .u32 8 (kd kW cj (kE f n) (blocks n))⟩),(121,⟨true,af .u8 32 (fun i=>if i < j then ke kW cj f n i else 0)⟩),(k,⟨true,af .u8 32 (fun _=>0)⟩)]) _ ?_ ?_ ?_
   ·have q1:(k=121)=False:=eq_false (by omega)
    have q2:(k=110)=False:=eq_false (by omega)
    have q3:(k=113)=False:=eq_false (by omega)
    simp only[q1,q2,q3,if_false,Nat.not_lt_zero,vR,seval, -List.reduceReplicate]
    omega
   ·intro j hj
    have q1:(k=121)=False:=eq_false (by omega)
    have q2:(k=113)=False:=eq_false (by omega)
    have a1:(((j / 4:Nat):Int) < 8)=True:=by simp;omega
    have a3:((j:Int) < 32)=True:=bX (m:=32) hj
    have q:=C' j 4 (by omega)
    have r:=LV j 4
    rw[show ((4:Nat):Int)=4 from rfl]at q r
    have w1:IntKind.i64.wrap (8*((j%4:Nat):Int))=8*((j%4:Nat):Int):=wrap_i64 _ (by omega) (by omega)
    have w2:IntKind.i64.wrap (24 - 8*((j%4:Nat):Int))=24 - 8*((j%4:Nat):Int):=wrap_i64 _ (by omega) (by omega)
    have w3:IntKind.u64.wrap (24 - 8*((j%4:Nat):Int))=24 - 8*((j%4:Nat):Int):=au _ (by omega) (by omega)
    have a2:(0≤24 - 8*((j%4:Nat):Int))=True:=eq_true (by omega)
    have fin:af .u8 32 (upd (fun i=>if i < j then ke kW cj f n i else 0) j (ke kW cj f n j))=af .u8 32 (fun i=>if i < j+1 then ke kW cj f n i else 0):=fk
    have eo:IntKind.u8.wrap (cy .u32 (kd kW cj (kE f n) (blocks n) (j / 4)) (24 - 8*((j%4:Nat):Int)))=ke kW cj f n j:=rfl
    simp only[vR,seval, -List.reduceReplicate]
    refine az (by simp;omega) ?_
    simp only[q1,q2,q,r,w1,w2,w3,a1,a2,a3,aW,aA .u32 8 (kd kW cj (kE f n) (blocks n)) (j / 4) (by omega),Nat.mul_one,eo,aB .u8 32 _ j hj,fin,bt j (by omega),vR,seval, -List.reduceReplicate]
    omega
   ·simp only[vR,seval, -List.reduceReplicate]
    refine aD (by simp) ?_
    have hrow:af .u8 32 (fun i=>if i < 32 then ke kW cj f n i else 0)=af .u8 32 (ke kW cj f n):=aX fun i hi=>by rw[if_pos hi]
    have q1:(k=121)=False:=eq_false (by omega)
    have q2:(k=113)=False:=eq_false (by omega)
    simp only[hrow,q1,q2,vR,seval, -List.reduceReplicate]
    exact ak aw ⟨rfl,rfl⟩
theorem mW {s:AS} {nm t o n c:Nat} {rw:Bool} {f:Nat→Int} {cs:List SV} (hf:br f) (hb:s.box t=some ⟨rw,cs⟩) (hc:aZ cs o n f) (hp:cs.all SV.plain=true) (hn:n < 100000000) {dst:Option Nat} {K:AS→Prop}
  (hk:K (s.put dst (some (Ag (af .u8 32 (ke kW cj f n)))))):ax Tryz.prog nm 110 (some [Sl t o n c]) dst K s:=
 (J8 (k:=1) (v:=Sl 0 o n c) (ins:=lk [(0,⟨false,cs⟩)]) hf (.inr ⟨0,o,c,false,cs,rfl,rfl,hp,hc⟩) hn (by show (0:Nat) < 1;decide) dG (dH hp) (by decide)).cW (fun _=>t) (bS hb hp) aw rfl hk
structure ab5 (k:Nat) (l:List (Nat×aN)) (vm:AV) (m:Nat) (kf f:Nat→Int) (s:AS) (L:List (Nat×aN)) (v:AV) (n:Nat) (g:Nat→Int):Prop where
 e0:s.env 0=some v
 e1:s.env 1=some vm
 e4:s.env 4=some (Ptr k 0)
 next:s.next≤50
 qn: ∀ x ∈ L,x.1 < s.next∧lk L x.1=some x.2∧s.box x.1=some x.2∧x.2.cells.all SV.plain=true
 cell:lk L k=some ⟨true,af .u8 32 (fun _=>0)⟩
 hv:bG (lk L) v n g
 hvm:bG (lk L) vm m f
 hok:AV.ok (fun n=>n < s.next) v
 Uw:AV.ok (fun n=>n < s.next) vm
 hn:n≤64
 hg:br g
 heq: ∀ i,kf i=if i < n then g i else 0
theorem J9 {l:List (Nat×aN)} {k nk m:Nat} {vk vm:AV} {key f:Nat→Int} (hkey:br key) (hf:br f) (hvk:bG (lk l) vk nk key) (hvm:bG (lk l) vm m f) (hnk:nk < 90000000) (hm:m < 90000000)
  (ZA:AV.ok (fun n=>n < k) vk) (Uw:AV.ok (fun n=>n < k) vm) (hl: ∀ x ∈ l,x.1 < k∧lk l x.1=some x.2∧x.2.cells.all SV.plain=true) (hall: ∀ n,n < k→ ∃ b,lk l n=some b) (hk:k≤20):
  bf Tryz.prog 88 [vk,vm] k (lk l) (fun u out=>u=Ag (af .u8 32 (gx kW cj key nk f m))∧out=fun _=>none):=by
 refine av Tryz.func88 rfl (by kernel_rfl) (by simp[Tryz.ntmps88]) Tryz.uH (fun u hu=>by
  simp only[List.mem_cons,List.not_mem_nil,or_false]at hu
  rcases hu with rfl | rfl
  ·exact ZA
  ·exact Uw) hall (fun n b hb=>⟨(hl _ (bu _ _ _ hb)).1,aC (hl _ (bu _ _ _ hb)).2.2⟩) ?_
 simp only[Tryz.results88,iW hvk,vR,seval, -List.reduceReplicate]
 refine Tc (fun s=> ∃ L v n g,ab5 k l vm m (iw kW cj key nk) f s L v n g) (fun h=> ?_) (fun h=> ?_) ?_
 ·simp only[vR,seval, -List.reduceReplicate]
  have hn:64 < nk:=by have:=of_decide_eq_true h;omega
  obtain ⟨t,o,c,rw,cs,rfl,hb,hp,hs⟩:=rJ hvk (by omega)
  have ht:t < k:=ZA
  refine mW (rw:=rw) hkey (by simp only[upd];rw[if_neg (by omega)];exact hb) hs hp (by omega) ?_
  simp only[vR,seval, -List.reduceReplicate]
  refine ⟨(k,⟨true,af .u8 32 (fun _=>0)⟩)::(k+1+3+2,⟨true,af .u8 32 (ke kW cj key nk)⟩)::l,Sl (k+1+3+2) 0 32 32,32,ke kW cj key nk,⟨rfl,rfl,rfl, ?_, ?_, ?_, ?_, ?_, ?_, ?_,by omega,vT _ _ _ _,fun i=> ?_⟩⟩
  ·show k+1+3+4+2≤50;omega
  ·intro x hx
   rcases List.mem_cons.1 hx with rfl | hx
   ·refine ⟨by show k < k+1+3+4+2;omega,by simp[lk], ?_,aw⟩
    simp only[upd];rw[if_neg (by omega),if_neg (by omega)];exact if_pos trivial
   rcases List.mem_cons.1 hx with rfl | hx
   ·refine ⟨by show k+1+3+2 < k+1+3+4+2;omega, ?_,by simp only[ay],aw⟩
    simp only[lk];rw[if_neg (by omega)];exact if_pos trivial
   ·obtain ⟨h1,h2,h3⟩:=hl x hx
    exact ⟨by show x.1 < k+1+3+4+2;omega,by simp only[lk];rw[if_neg (by omega),if_neg (by omega)];exact h2,by simp only[upd];rw[if_neg (by omega),if_neg (by omega),if_neg (by omega)];exact h2,h3⟩
  ·simp[lk]
  ·refine .inr ⟨_,_,_,true,af .u8 32 (ke kW cj key nk),rfl, ?_,aw,aV⟩
   simp only[lk];rw[if_neg (by omega)];exact if_pos trivial
  ·refine mh hvm fun t b hb=> ?_
   have:=(hl _ (bu _ _ _ hb)).1
   simp only at this
   simp only[lk];rw[if_neg (by omega),if_neg (by omega)];exact hb
  ·show k+1+3+2 < k+1+3+4+2;omega
  ·exact AV.bm (fun n hn=>by show n < k+1+3+4+2;omega) Uw
  ·simp only[iw,gt_iff_lt];rw[if_pos hn]
 ·simp only[vR,seval, -List.reduceReplicate]
  have hn: ¬ 64 < nk:=by have:=of_decide_eq_false h;omega
  refine ⟨(k,⟨true,af .u8 32 (fun _=>0)⟩)::l,vk,nk,key,⟨rfl,rfl,rfl, ?_, ?_, ?_, ?_, ?_, ?_, ?_,by omega,hkey,fun i=> ?_⟩⟩
  ·show k+1+3≤50;omega
  ·intro x hx
   rcases List.mem_cons.1 hx with rfl | hx
   ·exact ⟨by show k < k+1+3;omega,by simp[lk],by simp[upd],aw⟩
   ·obtain ⟨h1,h2,h3⟩:=hl x hx
    have h0:x.1≠k:=by omega
    exact ⟨by show x.1 < k+1+3;omega,by simp only[lk];rw[if_neg h0];exact h2,by simp only[upd];rw[if_neg h0];exact h2,h3⟩
  ·simp[lk]
  ·refine mh hvk fun t b hb=> ?_
   have:=(hl _ (bu _ _ _ hb)).1
   simp only at this
   simp only[lk];rw[if_neg (by omega)];exact hb
  ·refine mh hvm fun t b hb=> ?_
   have:=(hl _ (bu _ _ _ hb)).1
   simp only at this
   simp only[lk];rw[if_neg (by omega)];exact hb
  ·exact AV.bm (fun n hn=>by show n < k+1+3;omega) ZA
  ·exact AV.bm (fun n hn=>by show n < k+1+3;omega) Uw
  ·simp only[iw,gt_iff_lt];rw[if_neg hn]
 ·rintro s ⟨L,v,n,g,h⟩
  have E0:=h.e0
  have E1:=h.e1
  have E4:=h.e4
  have hN:=h.next
  obtain ⟨env,box,next⟩:=s
  simp only at E0 E1 E4 hN
  simp only[E0,E1,E4,vR,seval, -List.reduceReplicate]
  have hL: ∀ x ∈ L,x.1 < 50∧x.1 < next+2+1∧lk L x.1=some x.2∧box x.1=some x.2∧x.2.cells.all SV.plain=true:=fun x hx=>by
   obtain ⟨h1,h2⟩:=h.qn x hx
   exact ⟨by simp only at h1;omega,by simp only at h1;omega,h2⟩
  have Wy:AV.ok (fun n=>n < 50) v:=AV.bm (fun n (hn:n < next)=>by omega) h.hok
  have fO:AV.ok (fun n=>n < 50) vm:=AV.bm (fun n (hn:n < next)=>by omega) h.Uw
  have Rl: ∀ {v:AV},AV.ok (fun n=>n < 50) v→AV.ok (fun n=>n < 100) v:=fun h=>AV.bm (fun n hn=>by omega) h
  have okk:k < 50:=by omega
  obtain ⟨_,_,_,_,_,hcell,hv,hvm,_,_,hn,hg,heq⟩:=h
  refine Ba 64 (fun j (x:(Nat×List SV)×(Nat×List SV))=>j=0∨(bK x.1.2 0 j x.1.1 (fG kW cj key nk 54)∧bK x.2.2 0 j x.2.1 (fG kW cj key nk 92)))
   (fun j x=>[(0,v),(1,vm),(4,Ptr k 0),(6,if j=0 then V (.slice none 0 0) else Sl 60 0 j x.1.1),(7,if j=0 then V (.slice none 0 0) else Sl 61 0 j x.2.1),(8,I .i64 j)])
   (fun j x=>if j=0 then L else (60,⟨true,x.1.2⟩)::(61,⟨true,x.2.2⟩)::L) 100 ((0,[]),(0,[])) ⟨.inl rfl,fun n=>n, ?_⟩ ?_ ?_ (by show next+2+1≤100;omega)
  ·simp only[if_true]
   refine QS (by omega) ?_ (fun x hx=>⟨(hL x hx).2.1,(hL x hx).2.2.2⟩)
   simp only[E0,E1,E4,vR,seval, -List.reduceReplicate]
   exact ⟨Rl Wy,Rl fO,by omega,trivial⟩
  ·rintro j ⟨⟨c1,kk⟩,c2,mD⟩ hj hI
   have VY:iw kW cj key nk j=if j < n then g j else 0:=heq j
   have PX: ∀ x,aU .xor .u8 (iw kW cj key nk j) x=fG kW cj key nk x j:=fun x=>rfl
   have F: ∀ x ∈ L, ∀ z,50≤z→(x.1=z)=False:=fun x hx z hz=>eq_false (by have:=(hL x hx).1;omega)
   rcases j with _ | j
   ·simp only[vR,seval, -List.reduceReplicate]
    refine az (by simp) ?_
    simp only[iW hv,vR,seval, -List.reduceReplicate]
    by_cases hjn:0 < n
    ·rw[if_pos hjn]at VY
     refine az (by simp;omega) ?_
     obtain ⟨t,o,c,rw,cs,rfl,hb,hp,hs⟩:=rJ hv (by omega)
     have hld:=hs 0 hjn
     have a0:((0:Int) < (n:Int))=True:=eq_true (by omega)
     rw[Nat.add_zero, ← VY]at hld
     simp only[Nat.mul_one,a0,hb,hld,PX,vR,seval, -List.reduceReplicate]
     refine iM (g:=fun _=>fG kW cj key nk 54 0) Tryz.bP Tryz.bR (.inr ⟨_,_,_,true,[Sum.inl (.int .u8 (fG kW cj key nk 54 0))],rfl,by simp only[ay];rfl,rfl,b9⟩) (by decide) (fun h=>by cases h) ?_
     intro _ c3 xP nu
     simp only[PX,vR,seval, -List.reduceReplicate]
     refine iM (g:=fun _=>fG kW cj key nk 92 0) Tryz.bP Tryz.bR (.inr ⟨_,_,_,true,[Sum.inl (.int .u8 (fG kW cj key nk 92 0))],rfl,by simp only[ay];rfl,rfl,b9⟩) (by decide) (fun h=>by cases h) ?_
     intro _ c4 C0 rR
     replace nu:=nu.congr (g:=fG kW cj key nk 54) (m:=0+1) rfl (fun i hi=>by rw[show i=0 by omega])
     replace rR:=rR.congr (g:=fG kW cj key nk 92) (m:=0+1) rfl (fun i hi=>by rw[show i=0 by omega])
     simp only[PX,vR,seval, -List.reduceReplicate]
     refine ⟨((c3,xP),(c4,C0)), .inr ⟨nu,rR⟩,_,rH (p:=116) (q:=122) (by omega) (by decide) (by decide) ?_ (by simp only[ae,vR,seval, -List.reduceReplicate]) nu.plain (by simp only[ay]) rR.plain ?_⟩
     ·have r0:=ig (r:=upd (upd (fun n=>n) 60 116) 61 122) (fun n hn=>by rw[bj _ _ _ _ (by omega),bj _ _ _ _ (by omega)]) Wy
      have r1:=ig (r:=upd (upd (fun n=>n) 60 116) 61 122) (fun n hn=>by rw[bj _ _ _ _ (by omega),bj _ _ _ _ (by omega)]) fO
      have k0:(k=60)=False:=eq_false (by omega)
      have k1:(k=61)=False:=eq_false (by omega)
      have o0:=Rl Wy
      have o1:=Rl fO
      have k2:(k < 100)=True:=eq_true (by omega)
      simp only[r0,r1,o0,o1,k0,k1,k2,lE,eF,iS,ae,vR,seval, -List.reduceReplicate]
      rfl
     ·intro x hx
      obtain ⟨h1,h2,h3,h4,h5⟩:=hL x hx
      have Fx:=F x hx
      refine ⟨h2,by omega,by omega, ?_,h5⟩
      simp only[Fx 60 (by decide),Fx 61 (by decide),Fx 110 (by decide),Fx 111 (by decide),Fx 115 (by decide),Fx 116 (by decide),Fx 117 (by decide),Fx 121 (by decide),Fx 122 (by decide),h3,ae,vR,seval, -List.reduceReplicate]
    ·rw[if_neg hjn]at VY
     refine aD (by simp;omega) ?_
     rw[VY]at PX
     simp only[PX,vR,seval, -List.reduceReplicate]
     refine iM (g:=fun _=>fG kW cj key nk 54 0) Tryz.bP Tryz.bR (.inr ⟨_,_,_,true,[Sum.inl (.int .u8 (fG kW cj key nk 54 0))],rfl,by simp only[ay];rfl,rfl,b9⟩) (by decide) (fun h=>by cases h) ?_
     intro _ c3 xP nu
     simp only[PX,vR,seval, -List.reduceReplicate]
     refine iM (g:=fun _=>fG kW cj key nk 92 0) Tryz.bP Tryz.bR (.inr ⟨_,_,_,true,[Sum.inl (.int .u8 (fG kW cj key nk 92 0))],rfl,by simp only[ay];rfl,rfl,b9⟩) (by decide) (fun h=>by cases h) ?_
     intro _ c4 C0 rR
     replace nu:=nu.congr (g:=fG kW cj key nk 54) (m:=0+1) rfl (fun i hi=>by rw[show i=0 by omega])
     replace rR:=rR.congr (g:=fG kW cj key nk 92) (m:=0+1) rfl (fun i hi=>by rw[show i=0 by omega])
     simp only[PX,vR,seval, -List.reduceReplicate]
     refine ⟨((c3,xP),(c4,C0)), .inr ⟨nu,rR⟩,_,rH (p:=111) (q:=117) (by omega) (by decide) (by decide) ?_ (by simp only[ae,vR,seval, -List.reduceReplicate]) nu.plain (by simp only[ay]) rR.plain ?_⟩
     ·have r0:=ig (r:=upd (upd (fun n=>n) 60 111) 61 117) (fun n hn=>by rw[bj _ _ _ _ (by omega),bj _ _ _ _ (by omega)]) Wy
      have r1:=ig (r:=upd (upd (fun n=>n) 60 111) 61 117) (fun n hn=>by rw[bj _ _ _ _ (by omega),bj _ _ _ _ (by omega)]) fO
      have k0:(k=60)=False:=eq_false (by omega)
      have k1:(k=61)=False:=eq_false (by omega)
      have o0:=Rl Wy
      have o1:=Rl fO
      have k2:(k < 100)=True:=eq_true (by omega)
      simp only[r0,r1,o0,o1,k0,k1,k2,lE,eF,iS,ae,vR,seval, -List.reduceReplicate]
      rfl
     ·intro x hx
      obtain ⟨h1,h2,h3,h4,h5⟩:=hL x hx
      have Fx:=F x hx
      refine ⟨h2,by omega,by omega, ?_,h5⟩
      simp only[Fx 60 (by decide),Fx 61 (by decide),Fx 110 (by decide),Fx 111 (by decide),Fx 115 (by decide),Fx 116 (by decide),Fx 117 (by decide),Fx 121 (by decide),Fx 122 (by decide),h3,ae,vR,seval, -List.reduceReplicate]
   ·obtain ⟨fM,gI⟩:=hI.resolve_left (by omega)
    simp only[Nat.add_one_ne_zero,if_false,vR,seval, -List.reduceReplicate]
    refine az (by simp;omega) ?_
    simp only[iW hv,vR,seval, -List.reduceReplicate]
    by_cases hjn:j+1 < n
    ·rw[if_pos hjn]at VY
     refine az (by simp;omega) ?_
     obtain ⟨t,o,c,rw,cs,rfl,hb,hp,hs⟩:=rJ hv (by omega)
     have hld:=hs (j+1) hjn
     have a0:(((j+1:Nat):Int) < (n:Int))=True:=eq_true (by omega)
     have f60:=F _ (bu _ _ _ hb) 60 (by decide)
     have f61:=F _ (bu _ _ _ hb) 61 (by decide)
     simp only at f60 f61
     rw[← VY]at hld
     simp only[Nat.mul_one,a0,aW,f60,f61,hb,hld,PX,vR,seval, -List.reduceReplicate]
     refine bp (g:=fun _=>fG kW cj key nk 54 (j+1)) Tryz.bP Tryz.bR (by simp only[ae,vR,seval, -List.reduceReplicate]) fM (.inr ⟨_,_,_,true,[Sum.inl (.int .u8 (fG kW cj key nk 54 (j+1)))],rfl,by simp only[ay];rfl,b9,by decide⟩) (by omega) ?_
     intro c3 xP nu
     simp only[PX,vR,seval, -List.reduceReplicate]
     refine bp (g:=fun _=>fG kW cj key nk 92 (j+1)) Tryz.bP Tryz.bR (by simp only[ae,vR,seval, -List.reduceReplicate]) gI (.inr ⟨_,_,_,true,[Sum.inl (.int .u8 (fG kW cj key nk 92 (j+1)))],rfl,by simp only[ay];rfl,b9,by decide⟩) (by omega) ?_
     intro c4 C0 rR
     replace nu:=nu.congr (g:=fG kW cj key nk 54) (m:=j+1+1) rfl (fun i hi=>by
      simp only[aP];split
      ·rfl
      ·rw[show i=j+1 by omega])
     replace rR:=rR.congr (g:=fG kW cj key nk 92) (m:=j+1+1) rfl (fun i hi=>by
      simp only[aP];split
      ·rfl
      ·rw[show i=j+1 by omega])
     simp only[PX,vR,seval, -List.reduceReplicate]
     refine ⟨((c3,xP),(c4,C0)), .inr ⟨nu,rR⟩,_,rH (p:=116) (q:=122) (by omega) (by decide) (by decide) ?_ (by simp only[ae,vR,seval, -List.reduceReplicate]) nu.plain (by simp only[ay]) rR.plain ?_⟩
     ·have r0:=ig (r:=upd (upd (fun n=>n) 60 116) 61 122) (fun n hn=>by rw[bj _ _ _ _ (by omega),bj _ _ _ _ (by omega)]) Wy
      have r1:=ig (r:=upd (upd (fun n=>n) 60 116) 61 122) (fun n hn=>by rw[bj _ _ _ _ (by omega),bj _ _ _ _ (by omega)]) fO
      have k0:(k=60)=False:=eq_false (by omega)
      have k1:(k=61)=False:=eq_false (by omega)
      have o0:=Rl Wy
      have o1:=Rl fO
      have k2:(k < 100)=True:=eq_true (by omega)
      simp only[r0,r1,o0,o1,k0,k1,k2,lE,eF,iS,ae,bt (j+1) (by omega),vR,seval, -List.reduceReplicate]
     ·intro x hx
      obtain ⟨h1,h2,h3,h4,h5⟩:=hL x hx
      have Fx:=F x hx
      refine ⟨h2,by omega,by omega, ?_,h5⟩
      simp only[Fx 60 (by decide),Fx 61 (by decide),Fx 110 (by decide),Fx 111 (by decide),Fx 115 (by decide),Fx 116 (by decide),Fx 117 (by decide),Fx 121 (by decide),Fx 122 (by decide),h3,ae,vR,seval, -List.reduceReplicate]
    ·rw[if_neg hjn]at VY
     refine aD (by simp;omega) ?_
     rw[VY]at PX
     simp only[PX,vR,seval, -List.reduceReplicate]
     refine bp (g:=fun _=>fG kW cj key nk 54 (j+1)) Tryz.bP Tryz.bR (by simp only[ae,vR,seval, -List.reduceReplicate]) fM (.inr ⟨_,_,_,true,[Sum.inl (.int .u8 (fG kW cj key nk 54 (j+1)))],rfl,by simp only[ay];rfl,b9,by decide⟩) (by omega) ?_
     intro c3 xP nu
     simp only[PX,vR,seval, -List.reduceReplicate]
     refine bp (g:=fun _=>fG kW cj key nk 92 (j+1)) Tryz.bP Tryz.bR (by simp only[ae,vR,seval, -List.reduceReplicate]) gI (.inr ⟨_,_,_,true,[Sum.inl (.int .u8 (fG kW cj key nk 92 (j+1)))],rfl,by simp only[ay];rfl,b9,by decide⟩) (by omega) ?_
     intro c4 C0 rR
     replace nu:=nu.congr (g:=fG kW cj key nk 54) (m:=j+1+1) rfl (fun i hi=>by
      simp only[aP];split
      ·rfl
      ·rw[show i=j+1 by omega])
     replace rR:=rR.congr (g:=fG kW cj key nk 92) (m:=j+1+1) rfl (fun i hi=>by
      simp only[aP];split
      ·rfl
      ·rw[show i=j+1 by omega])
     simp only[PX,vR,seval, -List.reduceReplicate]
     refine ⟨((c3,xP),(c4,C0)), .inr ⟨nu,rR⟩,_,rH (p:=111) (q:=117) (by omega) (by decide) (by decide) ?_ (by simp only[ae,vR,seval, -List.reduceReplicate]) nu.plain (by simp only[ay]) rR.plain ?_⟩
     ·have r0:=ig (r:=upd (upd (fun n=>n) 60 111) 61 117) (fun n hn=>by rw[bj _ _ _ _ (by omega),bj _ _ _ _ (by omega)]) Wy
      have r1:=ig (r:=upd (upd (fun n=>n) 60 111) 61 117) (fun n hn=>by rw[bj _ _ _ _ (by omega),bj _ _ _ _ (by omega)]) fO
      have k0:(k=60)=False:=eq_false (by omega)
      have k1:(k=61)=False:=eq_false (by omega)
      have o0:=Rl Wy
      have o1:=Rl fO
      have k2:(k < 100)=True:=eq_true (by omega)
      simp only[r0,r1,o0,o1,k0,k1,k2,lE,eF,iS,ae,bt (j+1) (by omega),vR,seval, -List.reduceReplicate]
     ·intro x hx
      obtain ⟨h1,h2,h3,h4,h5⟩:=hL x hx
      have Fx:=F x hx
      refine ⟨h2,by omega,by omega, ?_,h5⟩
      simp only[Fx 60 (by decide),Fx 61 (by decide),Fx 110 (by decide),Fx 111 (by decide),Fx 115 (by decide),Fx 116 (by decide),Fx 117 (by decide),Fx 121 (by decide),Fx 122 (by decide),h3,ae,vR,seval, -List.reduceReplicate]
  ·rintro ⟨⟨c1,kk⟩,c2,mD⟩ hI
   have hI:=hI.resolve_left (by decide)
   obtain ⟨fM,gI⟩:=hI
   simp only[vR,seval, -List.reduceReplicate]
   refine aD (by simp) ?_
   simp only[vR,seval, -List.reduceReplicate]
   refine bp (g:=f) Tryz.bP Tryz.bR (by simp only[vR,seval, -List.reduceReplicate]) fM (Y' hvm fun t b hb=> ?_) (by omega) ?_
   ·have f60:=eq_false (p:=t=60) (by have:=(hL _ (bu _ _ _ hb)).1;simp only at this;omega)
    have f61:=eq_false (p:=t=61) (by have:=(hL _ (bu _ _ _ hb)).1;simp only at this;omega)
    simp only[f60,f61,hb,vR,seval, -List.reduceReplicate]
   intro c3 xP nu
   simp only[vR,seval, -List.reduceReplicate]
   refine mW (rw:=true) (fH (vU _ _ _ _ _) hf) (by simp only[ay]) nu.shows nu.plain (by omega) ?_
   simp only[vR,seval, -List.reduceReplicate]
   refine bp (g:=ke kW cj (aP 64 (fG kW cj key nk 54) f) (64+m)) Tryz.bP Tryz.bR (by simp only[ae,vR,seval, -List.reduceReplicate]) gI (.inr ⟨_,_,_,true,af .u8 32 (ke kW cj (aP 64 (fG kW cj key nk 54) f) (64+m)),rfl,by simp only[ae,vR,seval, -List.reduceReplicate],aV,by decide⟩) (by decide) ?_
   intro c4 C0 rR
   simp only[vR,seval, -List.reduceReplicate]
   refine mW (rw:=true) (fH (vU _ _ _ _ _) (vT _ _ _ _)) (by simp only[ay]) rR.shows rR.plain (by decide) ?_
   have q1: ∀ z,50≤z→(k=z)=False:=fun z hz=>eq_false (by omega)
   simp only[q1 60 (by decide),q1 61 (by decide),q1 104 (by decide),q1 108 (by decide),q1 112 (by decide),hcell,vR,seval, -List.reduceReplicate]
   exact ak aw ⟨rfl,rfl⟩
theorem iE {s:AS} {nm ta tb o n c o' m c':Nat} {rwa Yn:Bool} {key f:Nat→Int} {cs ds:List SV} (hkey:br key) (hf:br f) (hb:s.box ta=some ⟨rwa,cs⟩) (hc:aZ cs o n key) (hp:cs.all SV.plain=true) (hb':s.box tb=some ⟨Yn,ds⟩) (lS:aZ ds o' m f) (hp':ds.all SV.plain=true)
  (hn:n < 90000000) (hm:m < 90000000) {dst:Option Nat} {K:AS→Prop} (hk:K (s.put dst (some (Ag (af .u8 32 (gx kW cj key n f m)))))):ax Tryz.prog nm 88 (some [Sl ta o n c,Sl tb o' m c']) dst K s:=by
 refine (J9 (k:=2) (l:=[(0,⟨false,cs⟩),(1,⟨false,ds⟩)]) (vk:=Sl 0 o n c) (vm:=Sl 1 o' m c') hkey hf (.inr ⟨0,o,c,false,cs,rfl,rfl,hp,hc⟩) (.inr ⟨1,o',c',false,ds,rfl,rfl,hp',lS⟩) hn hm (by show (0:Nat) < 2;decide) (by show (1:Nat) < 2;decide) (fun x hx=> ?_) lC (by decide)).cW (two ta tb) (ie hb hp hb' hp') aw rfl hk
 simp only[List.mem_cons,List.not_mem_nil,or_false]at hx
 rcases hx with rfl | rfl
 ·exact ⟨by show (0:Nat) < 2;decide,rfl,hp⟩
 ·exact ⟨by show (1:Nat) < 2;decide,rfl,hp'⟩
def MT (k:Nat) (l:List (Nat×aN)) (vi:AV) (m:Nat) (info:Nat→Int):Prop:=
 (k=0∧l=[]∧(∃ a,vi=V (.slice a 0 0))∧m=0)∨(k=1∧ ∃ o c cs,l=[(0,⟨false,cs⟩)]∧vi=Sl 0 o m c∧cs.all SV.plain=true∧aZ cs o m info)
theorem MU {k m:Nat} {l:List (Nat×aN)} {vi:AV} {p info:Nat→Int} (hi:MT k l vi m info):bf Tryz.prog 90 [Ag (af .u8 32 p),vi,I .i64 0] k (lk l) (Made k 0 (jk kW cj p info m)):=by
  have hok:AV.ok (fun n=>n < k) vi:=by
   rcases hi with ⟨rfl,rfl,⟨a,rfl⟩,rfl⟩ | ⟨rfl,o,c,cs,rfl,rfl,hp,hs⟩
   ·trivial
   ·show (0:Nat) < 1;decide
  rcases hi with ⟨rfl,rfl,⟨a,rfl⟩,rfl⟩ | ⟨rfl,o,c,cs,rfl,rfl,hp,hs⟩
  ·refine av Tryz.func90 rfl (by kernel_rfl) (by simp[Tryz.ntmps90]) Tryz.kS (fun u hu=>by
    simp only[List.mem_cons,List.not_mem_nil,or_false]at hu
    rcases hu with rfl | rfl | rfl
    ·exact aC aw
    ·exact hok
    ·trivial) (fun n hn=>by omega) (fun n c h=>by cases h) ?_
   simp only[Tryz.results90,vR,seval, -List.reduceReplicate]
   refine az rfl ?_
   simp only[vR,seval, -List.reduceReplicate]
   refine fF (cs:=af .u8 0 (fun _=>0)) (f:=jk kW cj p info 0) (by decide) ⟨rfl,by decide,rfl,fun i hi=>by omega⟩ (by simp only[ay]) rfl
  ·refine av Tryz.func90 rfl (by kernel_rfl) (by simp[Tryz.ntmps90]) Tryz.kS (fun u hu=>by
    simp only[List.mem_cons,List.not_mem_nil,or_false]at hu
    rcases hu with rfl | rfl | rfl
    ·exact aC aw
    ·exact hok
    ·trivial) dG (dH hp) ?_
   simp only[Tryz.results90,vR,seval, -List.reduceReplicate]
   refine az rfl ?_
   simp only[vR,seval, -List.reduceReplicate]
   refine fF (cs:=af .u8 0 (fun _=>0)) (f:=jk kW cj p info m) (by decide) ⟨rfl,by decide,rfl,fun i hi=>by omega⟩ (by simp only[ay]) rfl
theorem MV {k m d:Nat} {l:List (Nat×aN)} {vi:AV} {p info:Nat→Int} (wg:br p) (CU:br info) (hi:MT k l vi m info) (hm:m < 80000000) (hd:d < 1000) (ih:bf Tryz.prog 90 [Ag (af .u8 32 p),vi,I .i64 d] k (lk l) (Made k (32*d) (jk kW cj p info m))):
  bf Tryz.prog 90 [Ag (af .u8 32 p),vi,I .i64 (d+1:Nat)] k (lk l) (Made k (32*(d+1)) (jk kW cj p info m)):=by
  have hok:AV.ok (fun n=>n < k) vi:=by
   rcases hi with ⟨rfl,rfl,⟨a,rfl⟩,rfl⟩ | ⟨rfl,o,c,cs,rfl,rfl,hp,hs⟩
   ·trivial
   ·show (0:Nat) < 1;decide
  rcases hi with ⟨rfl,rfl,⟨a,rfl⟩,hm0⟩ | ⟨rfl,o,c,cs,rfl,rfl,hp,hs⟩
  ·refine av Tryz.func90 rfl (by kernel_rfl) (by simp[Tryz.ntmps90]) Tryz.kS (fun u hu=>by
    simp only[List.mem_cons,List.not_mem_nil,or_false]at hu
    rcases hu with rfl | rfl | rfl
    ·exact aC aw
    ·exact hok
    ·trivial) (fun n hn=>by omega) (fun n c h=>by cases h) ?_
   simp only[Tryz.results90,vR,seval, -List.reduceReplicate]
   refine aD (by simp<;>omega) ?_
   have w0:IntKind.i64.wrap (((d+1:Nat):Int) - 1)=(d:Int):=by rw[wrap_i64 _ (by omega) (by omega)];omega
   simp only[w0,vR,seval, -List.reduceReplicate]
   refine dS ih (fun n=>n) gF (by simp only[List.map_cons,List.map_nil,fg,iS,eF,mL]) ?_
   intro c1 eU h11 h12 X7
   simp only[vR,seval, -List.reduceReplicate]
   have ZB:bK (af .u8 (32*d) (jk kW cj p info m)++eU) 0 (32*d) c1 (jk kW cj p info m):=bK.row h11 h12 X7
   have hg0:bK (af .u8 0 (fun _=>0)) 0 0 0 (fun _=>0):=⟨rfl,by decide,rfl,fun i hi=>by omega⟩
   by_cases ME:d=0
   ·refine aD (by simp;omega) ?_
    simp only[vR,seval, -List.reduceReplicate]
    refine bp (g:=info) Tryz.bP Tryz.bR (by simp only[ae,vR,seval, -List.reduceReplicate]) hg0 (.inl ⟨⟨a,rfl⟩,hm0⟩) (by omega) ?_
    intro c2 mD gI
    replace gI:=gI.congr (m:=m) (g:=info) (by omega) (fun i hi=>by simp[aP])
    simp only[vR,seval, -List.reduceReplicate]
    refine bp (g:=fun _=>IntKind.u8.wrap ((d+1:Nat):Int)) Tryz.bP Tryz.bR (by simp only[ae,vR,seval, -List.reduceReplicate]) gI (.inr ⟨_,_,_,true,[Sum.inl (.int .u8 (IntKind.u8.wrap ((d+1:Nat):Int)))],rfl,by simp only[ay];rfl,b9,by decide⟩) (by omega) ?_
    intro c3 xP nu
    simp only[vR,seval, -List.reduceReplicate]
    refine iE (rwa:=true) (Yn:=true) wg (fH CU (fun _=>E3 _)) (by simp only[ae,vR,seval, -List.reduceReplicate]) aV aw (by simp only[ae,vR,seval, -List.reduceReplicate]) nu.shows nu.plain (by decide) (by omega) ?_
    have hT:gx kW cj p 32 (aP m info (fun _=>IntKind.u8.wrap ((d+1:Nat):Int))) (m+1)=sd kW cj p info m (d+1):=by
     show _=gx kW cj p 32 (if d=0 then _ else _) ((if d=0 then 0 else 32)+(m+1))
     rw[if_pos ME,if_pos ME,Nat.zero_add,ME]
     rfl
    rw[hT]
    have hA:=fun i hi=>rl (K:=kW) (V:=cj) (p:=p) (info:=info) (m:=m) (k:=d) (i:=i) hi
    obtain ⟨T,Sk⟩: ∃ T,sd kW cj p info m (d+1)=T:=⟨_,rfl⟩
    rw[Sk]at hA ⊢
    simp only[vR,seval, -List.reduceReplicate]
    refine bp (g:=T) Tryz.bP Tryz.bR (by simp only[ae,vR,seval, -List.reduceReplicate]) ZB (.inr ⟨_,0,32,true,af .u8 32 T,rfl,by simp only[ae,vR,seval, -List.reduceReplicate],aV,by decide⟩) (by omega) ?_
    intro c4 C0 rR
    simp only[vR,seval, -List.reduceReplicate]
    exact fF (by decide) (rR.congr (m:=32*(d+1)) (by omega) (fun i hi=>by
     simp only[aP];split
     ·rfl
     ·rw[← hA _ (by omega),show 32*d+(i - 32*d)=i by omega])) (by simp only[ay]) rfl
   ·refine az (by simp;omega) ?_
    have w1:IntKind.i64.wrap (((32*d:Nat):Int) - 32)=((32*d - 32:Nat):Int):=by rw[wrap_i64 _ (by omega) (by omega)];omega
    have a1:(((32*d - 32:Nat):Int)≤((32*d:Nat):Int))=True:=eq_true (by omega)
    have a2:(((32*d:Nat):Int)≤(c1:Int))=True:=eq_true (by omega)
    have hL:aZ (af .u8 (32*d) (jk kW cj p info m)++eU) (if c1=32*d - 32 then 0 else 32*d - 32) 32 (sd kW cj p info m d):=by
     rw[if_neg (by omega)]
     have h:=jM ZB.shows (32*d - 32) 32 (by omega)
     rw[Nat.zero_add]at h
     refine jN h fun i hi=> ?_
     have:=rl (K:=kW) (V:=cj) (p:=p) (info:=info) (m:=m) (k:=d - 1) (i:=i) hi
     rw[show 32*(d - 1)+i=32*d - 32+i by omega,show d - 1+1=d by omega]at this
     exact this
    have e32:32*d - (32*d - 32)=32:=by omega
    simp only[w1,a1,a2,e32,aW,vR,seval, -List.reduceReplicate]
    generalize (if c1=32*d - 32 then 0 else 32*d - 32)=oL at hL ⊢
    refine bp (g:=sd kW cj p info m d) Tryz.bP Tryz.bR (by simp only[ae,vR,seval, -List.reduceReplicate]) hg0 (.inr ⟨_,_,_,true,_,rfl,by simp only[ae,vR,seval, -List.reduceReplicate],hL,by decide⟩) (by decide) ?_
    intro c5 pZ Lk
    replace Lk:=Lk.congr (m:=32) (g:=sd kW cj p info m d) (by omega) (fun i hi=>by simp[aP])
    simp only[vR,seval, -List.reduceReplicate]
    refine bp (g:=info) Tryz.bP Tryz.bR (by simp only[ae,vR,seval, -List.reduceReplicate]) Lk (.inl ⟨⟨a,rfl⟩,hm0⟩) (by omega) ?_
    intro c2 mD gI
    simp only[vR,seval, -List.reduceReplicate]
    refine bp (g:=fun _=>IntKind.u8.wrap ((d+1:Nat):Int)) Tryz.bP Tryz.bR (by simp only[ae,vR,seval, -List.reduceReplicate]) gI (.inr ⟨_,_,_,true,[Sum.inl (.int .u8 (IntKind.u8.wrap ((d+1:Nat):Int)))],rfl,by simp only[ay];rfl,b9,by decide⟩) (by omega) ?_
    intro c3 xP nu
    simp only[vR,seval, -List.reduceReplicate]
    refine iE (rwa:=true) (Yn:=true) wg (fH (fH (vV _ _ _ _ _ _) CU) (fun _=>E3 _)) (by simp only[ae,vR,seval, -List.reduceReplicate]) aV aw (by simp only[ae,vR,seval, -List.reduceReplicate]) nu.shows nu.plain (by decide) (by omega) ?_
    have hT:gx kW cj p 32 (aP (32+m) (aP 32 (sd kW cj p info m d) info) (fun _=>IntKind.u8.wrap ((d+1:Nat):Int))) (32+m+1)=sd kW cj p info m (d+1):=by
     show _=gx kW cj p 32 (if d=0 then _ else aP 32 (sd kW cj p info m d) (aP m info (fun _=>IntKind.u8.wrap ((d+1:Nat):Int)))) ((if d=0 then 0 else 32)+(m+1))
     rw[if_neg ME,if_neg ME,show 32+(m+1)=32+m+1 by omega]
     refine kM (fun _ _=>rfl) fun i hi=> ?_
     simp only[aP]
     by_cases h1:i < 32
     ·rw[if_pos (by omega),if_pos h1,if_pos h1]
     ·rw[if_neg h1,if_neg h1]
      by_cases h2:i < 32+m
      ·rw[if_pos h2,if_pos (by omega)]
      ·rw[if_neg h2,if_neg (by omega)]
    rw[hT]
    have hA:=fun i hi=>rl (K:=kW) (V:=cj) (p:=p) (info:=info) (m:=m) (k:=d) (i:=i) hi
    obtain ⟨T,Sk⟩: ∃ T,sd kW cj p info m (d+1)=T:=⟨_,rfl⟩
    rw[Sk]at hA ⊢
    simp only[vR,seval, -List.reduceReplicate]
    refine bp (g:=T) Tryz.bP Tryz.bR (by simp only[ae,vR,seval, -List.reduceReplicate]) ZB (.inr ⟨_,0,32,true,af .u8 32 T,rfl,by simp only[ae,vR,seval, -List.reduceReplicate],aV,by decide⟩) (by omega) ?_
    intro c4 C0 rR
    simp only[vR,seval, -List.reduceReplicate]
    exact fF (by decide) (rR.congr (m:=32*(d+1)) (by omega) (fun i hi=>by
     simp only[aP];split
     ·rfl
     ·rw[← hA _ (by omega),show 32*d+(i - 32*d)=i by omega])) (by simp only[ay]) rfl
  ·refine av Tryz.func90 rfl (by kernel_rfl) (by simp[Tryz.ntmps90]) Tryz.kS (fun u hu=>by
    simp only[List.mem_cons,List.not_mem_nil,or_false]at hu
    rcases hu with rfl | rfl | rfl
    ·exact aC aw
    ·exact hok
    ·trivial) dG (dH hp) ?_
   simp only[Tryz.results90,vR,seval, -List.reduceReplicate]
   refine aD (by simp<;>omega) ?_
   have w0:IntKind.i64.wrap (((d+1:Nat):Int) - 1)=(d:Int):=by rw[wrap_i64 _ (by omega) (by omega)];omega
   simp only[w0,vR,seval, -List.reduceReplicate]
   refine dS ih (fun _=>0) (bS (rw:=false) (by simp only[ae,vR,seval, -List.reduceReplicate]) hp) (by simp only[List.map_cons,List.map_nil,fg,iS,eF,mL]) ?_
   intro c1 eU h11 h12 X7
   simp only[vR,seval, -List.reduceReplicate]
   have ZB:bK (af .u8 (32*d) (jk kW cj p info m)++eU) 0 (32*d) c1 (jk kW cj p info m):=bK.row h11 h12 X7
   have hg0:bK (af .u8 0 (fun _=>0)) 0 0 0 (fun _=>0):=⟨rfl,by decide,rfl,fun i hi=>by omega⟩
   by_cases ME:d=0
   ·refine aD (by simp;omega) ?_
    simp only[vR,seval, -List.reduceReplicate]
    refine bp (g:=info) Tryz.bP Tryz.bR (by simp only[ae,vR,seval, -List.reduceReplicate]) hg0 (.inr ⟨0,o,c,false,cs,rfl,by simp only[ae,vR,seval, -List.reduceReplicate],hs,by decide⟩) (by omega) ?_
    intro c2 mD gI
    replace gI:=gI.congr (m:=m) (g:=info) (by omega) (fun i hi=>by simp[aP])
    simp only[vR,seval, -List.reduceReplicate]
    refine bp (g:=fun _=>IntKind.u8.wrap ((d+1:Nat):Int)) Tryz.bP Tryz.bR (by simp only[ae,vR,seval, -List.reduceReplicate]) gI (.inr ⟨_,_,_,true,[Sum.inl (.int .u8 (IntKind.u8.wrap ((d+1:Nat):Int)))],rfl,by simp only[ay];rfl,b9,by decide⟩) (by omega) ?_
    intro c3 xP nu
    simp only[vR,seval, -List.reduceReplicate]
    refine iE (rwa:=true) (Yn:=true) wg (fH CU (fun _=>E3 _)) (by simp only[ae,vR,seval, -List.reduceReplicate]) aV aw (by simp only[ae,vR,seval, -List.reduceReplicate]) nu.shows nu.plain (by decide) (by omega) ?_
    have hT:gx kW cj p 32 (aP m info (fun _=>IntKind.u8.wrap ((d+1:Nat):Int))) (m+1)=sd kW cj p info m (d+1):=by
     show _=gx kW cj p 32 (if d=0 then _ else _) ((if d=0 then 0 else 32)+(m+1))
     rw[if_pos ME,if_pos ME,Nat.zero_add,ME]
     rfl
    rw[hT]
    have hA:=fun i hi=>rl (K:=kW) (V:=cj) (p:=p) (info:=info) (m:=m) (k:=d) (i:=i) hi
    obtain ⟨T,Sk⟩: ∃ T,sd kW cj p info m (d+1)=T:=⟨_,rfl⟩
    rw[Sk]at hA ⊢
    simp only[vR,seval, -List.reduceReplicate]
    refine bp (g:=T) Tryz.bP Tryz.bR (by simp only[ae,vR,seval, -List.reduceReplicate]) ZB (.inr ⟨_,0,32,true,af .u8 32 T,rfl,by simp only[ae,vR,seval, -List.reduceReplicate],aV,by decide⟩) (by omega) ?_
    intro c4 C0 rR
    simp only[vR,seval, -List.reduceReplicate]
    exact fF (by decide) (rR.congr (m:=32*(d+1)) (by omega) (fun i hi=>by
     simp only[aP];split
     ·rfl
     ·rw[← hA _ (by omega),show 32*d+(i - 32*d)=i by omega])) (by simp only[ay]) rfl
   ·refine az (by simp;omega) ?_
    have w1:IntKind.i64.wrap (((32*d:Nat):Int) - 32)=((32*d - 32:Nat):Int):=by rw[wrap_i64 _ (by omega) (by omega)];omega
    have a1:(((32*d - 32:Nat):Int)≤((32*d:Nat):Int))=True:=eq_true (by omega)
    have a2:(((32*d:Nat):Int)≤(c1:Int))=True:=eq_true (by omega)
    have hL:aZ (af .u8 (32*d) (jk kW cj p info m)++eU) (if c1=32*d - 32 then 0 else 32*d - 32) 32 (sd kW cj p info m d):=by
     rw[if_neg (by omega)]
     have h:=jM ZB.shows (32*d - 32) 32 (by omega)
     rw[Nat.zero_add]at h
     refine jN h fun i hi=> ?_
     have:=rl (K:=kW) (V:=cj) (p:=p) (info:=info) (m:=m) (k:=d - 1) (i:=i) hi
     rw[show 32*(d - 1)+i=32*d - 32+i by omega,show d - 1+1=d by omega]at this
     exact this
    have e32:32*d - (32*d - 32)=32:=by omega
    simp only[w1,a1,a2,e32,aW,vR,seval, -List.reduceReplicate]
    generalize (if c1=32*d - 32 then 0 else 32*d - 32)=oL at hL ⊢
    refine bp (g:=sd kW cj p info m d) Tryz.bP Tryz.bR (by simp only[ae,vR,seval, -List.reduceReplicate]) hg0 (.inr ⟨_,_,_,true,_,rfl,by simp only[ae,vR,seval, -List.reduceReplicate],hL,by decide⟩) (by decide) ?_
    intro c5 pZ Lk
    replace Lk:=Lk.congr (m:=32) (g:=sd kW cj p info m d) (by omega) (fun i hi=>by simp[aP])
    simp only[vR,seval, -List.reduceReplicate]
    refine bp (g:=info) Tryz.bP Tryz.bR (by simp only[ae,vR,seval, -List.reduceReplicate]) Lk (.inr ⟨0,o,c,false,cs,rfl,by simp only[ae,vR,seval, -List.reduceReplicate],hs,by decide⟩) (by omega) ?_
    intro c2 mD gI
    simp only[vR,seval, -List.reduceReplicate]
    refine bp (g:=fun _=>IntKind.u8.wrap ((d+1:Nat):Int)) Tryz.bP Tryz.bR (by simp only[ae,vR,seval, -List.reduceReplicate]) gI (.inr ⟨_,_,_,true,[Sum.inl (.int .u8 (IntKind.u8.wrap ((d+1:Nat):Int)))],rfl,by simp only[ay];rfl,b9,by decide⟩) (by omega) ?_
    intro c3 xP nu
    simp only[vR,seval, -List.reduceReplicate]
    refine iE (rwa:=true) (Yn:=true) wg (fH (fH (vV _ _ _ _ _ _) CU) (fun _=>E3 _)) (by simp only[ae,vR,seval, -List.reduceReplicate]) aV aw (by simp only[ae,vR,seval, -List.reduceReplicate]) nu.shows nu.plain (by decide) (by omega) ?_
    have hT:gx kW cj p 32 (aP (32+m) (aP 32 (sd kW cj p info m d) info) (fun _=>IntKind.u8.wrap ((d+1:Nat):Int))) (32+m+1)=sd kW cj p info m (d+1):=by
     show _=gx kW cj p 32 (if d=0 then _ else aP 32 (sd kW cj p info m d) (aP m info (fun _=>IntKind.u8.wrap ((d+1:Nat):Int)))) ((if d=0 then 0 else 32)+(m+1))
     rw[if_neg ME,if_neg ME,show 32+(m+1)=32+m+1 by omega]
     refine kM (fun _ _=>rfl) fun i hi=> ?_
     simp only[aP]
     by_cases h1:i < 32
     ·rw[if_pos (by omega),if_pos h1,if_pos h1]
     ·rw[if_neg h1,if_neg h1]
      by_cases h2:i < 32+m
      ·rw[if_pos h2,if_pos (by omega)]
      ·rw[if_neg h2,if_neg (by omega)]
    rw[hT]
    have hA:=fun i hi=>rl (K:=kW) (V:=cj) (p:=p) (info:=info) (m:=m) (k:=d) (i:=i) hi
    obtain ⟨T,Sk⟩: ∃ T,sd kW cj p info m (d+1)=T:=⟨_,rfl⟩
    rw[Sk]at hA ⊢
    simp only[vR,seval, -List.reduceReplicate]
    refine bp (g:=T) Tryz.bP Tryz.bR (by simp only[ae,vR,seval, -List.reduceReplicate]) ZB (.inr ⟨_,0,32,true,af .u8 32 T,rfl,by simp only[ae,vR,seval, -List.reduceReplicate],aV,by decide⟩) (by omega) ?_
    intro c4 C0 rR
    simp only[vR,seval, -List.reduceReplicate]
    exact fF (by decide) (rR.congr (m:=32*(d+1)) (by omega) (fun i hi=>by
     simp only[aP];split
     ·rfl
     ·rw[← hA _ (by omega),show 32*d+(i - 32*d)=i by omega])) (by simp only[ay]) rfl
theorem uM {k m:Nat} {l:List (Nat×aN)} {vi:AV} {p info:Nat→Int} (wg:br p) (CU:br info) (hi:MT k l vi m info) (hm:m < 80000000):
  ∀ d:Nat,d≤1000→bf Tryz.prog 90 [Ag (af .u8 32 p),vi,I .i64 d] k (lk l) (Made k (32*d) (jk kW cj p info m))
 | 0,_=>MU hi
 | d+1,hc=>MV wg CU hi hm (by omega) (uM wg CU hi hm d (by omega))
theorem E6 {s:AS} {nm t0 tk ok nk ck o c:Nat} {Sj MS:Bool} {a0:SV} {ze:List SV} {n0:Nat} {f0 key:Nat→Int} (h0:s.box t0=some ⟨Sj,[a0]⟩) (ho:o=0)
  (p0:bG s.box (.inl (.inl a0)) n0 f0) (b0:br f0)
  (hk:s.box tk=some ⟨MS,ze⟩) (hkp:ze.all SV.plain=true) (hkey:aZ ze ok nk key) (Lj:br key) (hnk:nk < 100000000) (Si:nk≤ck) (hN:n0 < 100000000) {dst:Option Nat} {K:AS→Prop}
  (hK:K (s.put dst (some (Ag (af .u8 32 (gx kW cj key nk f0 n0)))))):ax Tryz.prog nm 119 (some [Sl tk ok nk ck,Sl t0 o 1 c]) dst K s:=by
 subst ho
 obtain ⟨u0,r0,c0,w0,e0,q0,g0,i0,k0,_⟩:=rk p0 hk hkp
 let l:List (Nat×aN):=[(0,⟨false,[w0 2]⟩),(1,⟨false,ze⟩),(2,⟨false,c0⟩)]
 let nn:Nat→Nat:=fun j=>n0
 let ff:Nat→Nat→Int:=fun j=>f0
 have hl:J3 l [w0 2] 3 0 1 nn ff:=by
  refine ⟨fun x hx=> ?_,fun i hi=> ?_,fun x hx=> ?_,rfl,fun j hj=> ?_⟩
  ·simp only[l,List.mem_cons,List.not_mem_nil,or_false]at hx
   rcases hx with rfl | rfl | rfl<;>rfl
  ·have:i=0∨i=1∨i=2:=by omega
   rcases this with rfl | rfl | rfl<;>exact ⟨_,rfl⟩
  ·simp only[l,List.mem_cons,List.not_mem_nil,or_false]at hx
   rcases hx with rfl | rfl | rfl
   ·refine ⟨show (0:Nat) < 3 by decide,rfl,fun y hy=> ?_⟩
    simp only[List.mem_cons,List.not_mem_nil,or_false]at hy
    subst hy
    exact k0 _ _ (by decide)
   ·exact ⟨show (1:Nat) < 3 by decide,rfl,aC hkp⟩
   ·exact ⟨show (2:Nat) < 3 by decide,rfl,aC q0⟩
  ·obtain rfl:j=0:=by omega
   exact ⟨_,rfl,i0 _ 2 rfl⟩
 have hfit:Fits s (three t0 tk u0) (lk l) none:=by
  refine ⟨fun n b hb=> ?_,fun n n' b b' hb hrw=> ?_,fun n b hb hrw=> ?_,fun n hn=>(by cases hn)⟩
  ·have:=bu _ _ _ hb
   simp only[l,List.mem_cons,List.not_mem_nil,or_false,Prod.mk.injEq]at this
   rcases this with ⟨rfl,rfl⟩ | ⟨rfl,rfl⟩ | ⟨rfl,rfl⟩
   ·refine ⟨_,h0,fun e=>(by cases e), ?_⟩
    simp only[List.map_cons,List.map_nil]
    rw[g0 _ 2 rfl]
   ·exact ⟨_,hk,fun e=>(by cases e),(aQ hkp _).symm⟩
   ·exact ⟨_,e0,fun e=>(by cases e),(aQ q0 _).symm⟩
  all_goals
   have:=hl.ro _ (bu _ _ _ hb)
   simp only at this
   rw[this]at hrw;cases hrw
 have J6:=Uu (c:=c) (tk:=1) (ok:=ok) (nk:=nk) (ck:=ck) (key:=key) hl (by decide) (by decide) (by decide) (by show 0+n0 < _;omega) (fun j hj=>b0) rfl hkp hkey Lj hnk Si
 have Uv:gx kW cj key nk (Ca nn ff 1) (kl nn 1)=gx kW cj key nk f0 n0:=by
  have e1:kl nn 1=n0:=by show 0+n0=_;omega
  rw[e1]
  refine kM (fun _ _=>rfl) fun i hi=> ?_
  show aP 0 (fun _=>0) f0 i=_
  simp only[aP]
  rw[if_neg (by omega),Nat.sub_zero]
 rw[Uv]at J6
 exact J6.cW (three t0 tk u0) hfit aw rfl hK
theorem Rm {s:AS} {nm t0 tk ok nk ck o c:Nat} {Sj MS:Bool} {a0:SV} {ze:List SV} {n0:Nat} {f0 key:Nat→Int} (h0:s.box t0=some ⟨Sj,[a0]⟩) (ho:o=0)
  (p0:bG s.box (.inl (.inl a0)) n0 f0) (b0:br f0)
  (hk:s.box tk=some ⟨MS,ze⟩) (hkp:ze.all SV.plain=true) (hkey:aZ ze ok nk key) (Lj:br key) (hnk:nk < 100000000) (Si:nk≤ck) (hN:n0 < 100000000) {ops:Array Oper} {i:Nat} {dst:Option Nat} {K:AS→Prop}
  (hK:K (s.put dst (some (Ag (af .u8 32 (gx kW cj key nk f0 n0)))))):ov Tryz.prog ops i nm 119 (some [Sl tk ok nk ck,Sl t0 o 1 c]) dst K s:=by
 subst ho
 obtain ⟨u0,r0,c0,w0,e0,q0,g0,i0,k0,nm0⟩:=rk p0 hk hkp
 let l:List (Nat×aN):=[(0,⟨false,[w0 2]⟩),(1,⟨false,ze⟩),(2,⟨false,c0⟩)]
 let nn:Nat→Nat:=fun j=>n0
 let ff:Nat→Nat→Int:=fun j=>f0
 have hl:J3 l [w0 2] 3 0 1 nn ff:=by
  refine ⟨fun x hx=> ?_,fun i hi=> ?_,fun x hx=> ?_,rfl,fun j hj=> ?_⟩
  ·simp only[l,List.mem_cons,List.not_mem_nil,or_false]at hx
   rcases hx with rfl | rfl | rfl<;>rfl
  ·have:i=0∨i=1∨i=2:=by omega
   rcases this with rfl | rfl | rfl<;>exact ⟨_,rfl⟩
  ·simp only[l,List.mem_cons,List.not_mem_nil,or_false]at hx
   rcases hx with rfl | rfl | rfl
   ·refine ⟨show (0:Nat) < 3 by decide,rfl,fun y hy=> ?_⟩
    simp only[List.mem_cons,List.not_mem_nil,or_false]at hy
    subst hy
    exact k0 _ _ (by decide)
   ·exact ⟨show (1:Nat) < 3 by decide,rfl,aC hkp⟩
   ·exact ⟨show (2:Nat) < 3 by decide,rfl,aC q0⟩
  ·obtain rfl:j=0:=by omega
   exact ⟨_,rfl,i0 _ 2 rfl⟩
 have hfit:Fits s (three t0 tk u0) (lk l) none:=by
  refine ⟨fun n b hb=> ?_,fun n n' b b' hb hrw=> ?_,fun n b hb hrw=> ?_,fun n hn=>(by cases hn)⟩
  ·have:=bu _ _ _ hb
   simp only[l,List.mem_cons,List.not_mem_nil,or_false,Prod.mk.injEq]at this
   rcases this with ⟨rfl,rfl⟩ | ⟨rfl,rfl⟩ | ⟨rfl,rfl⟩
   ·refine ⟨_,h0,fun e=>(by cases e), ?_⟩
    simp only[List.map_cons,List.map_nil]
    rw[g0 _ 2 rfl]
   ·exact ⟨_,hk,fun e=>(by cases e),(aQ hkp _).symm⟩
   ·exact ⟨_,e0,fun e=>(by cases e),(aQ q0 _).symm⟩
  all_goals
   have:=hl.ro _ (bu _ _ _ hb)
   simp only at this
   rw[this]at hrw;cases hrw
 have J6:=Uu (c:=c) (tk:=1) (ok:=ok) (nk:=nk) (ck:=ck) (key:=key) hl (by decide) (by decide) (by decide) (by show 0+n0 < _;omega) (fun j hj=>b0) rfl hkp hkey Lj hnk Si
 have Uv:gx kW cj key nk (Ca nn ff 1) (kl nn 1)=gx kW cj key nk f0 n0:=by
  have e1:kl nn 1=n0:=by show 0+n0=_;omega
  rw[e1]
  refine kM (fun _ _=>rfl) fun i hi=> ?_
  show aP 0 (fun _=>0) f0 i=_
  simp only[aP]
  rw[if_neg (by omega),Nat.sub_zero]
 rw[Uv]at J6
 refine J6.QO (three t0 tk u0) hfit aw rfl (fun M h xe n hn=> ?_) hK
 have mk:M tk:=h (Sl tk ok nk ck) (List.Mem.head _)
 have mt:M t0:=h (Sl t0 0 1 c) (List.Mem.tail _ (List.Mem.head _))
 have mu:M u0:=by
  rcases nm0 M (xe 0 (by decide) mt _ h0 a0 (List.Mem.head _)).1 with e | e
  ·rw[e];exact mk
  ·exact e
 have:n=0∨n=1∨n=2:=by omega
 rcases this with rfl | rfl | rfl
 ·exact mt
 ·exact mk
 ·exact mu
def Cb (n:Int) (a b c:Nat):Prop:=n < 0∨8160 < n∨1048576 < a∨1048576 < b∨1048576 < c
instance (n:Int) (a b c:Nat):Decidable (Cb n a b c):=by unfold Cb;infer_instance
theorem Rn {n o c:Nat} {cs:List SV} (hp:cs.all SV.plain=true):bf Tryz.prog 98 [Sl 0 o n c] 1 (lk [(0,⟨false,cs⟩)]) (fun v out=>v=B (decide (1048576 < (n:Int)))∧out=fun _=>none):=by
 refine av Tryz.func98 rfl (by kernel_rfl) (by simp[Tryz.ntmps98]) Tryz.pD (by simp[AV.ok,CV.ok,SV.names]) dG (dH hp) ?_
 simp only[Tryz.results98,vS,seval]
 exact ak rfl ⟨rfl,rfl⟩
theorem eJ {s:AS} {nm t o n c:Nat} {rw:Bool} {cs:List SV} (hb:s.box t=some ⟨rw,cs⟩) (hp:cs.all SV.plain=true) {dst:Option Nat} {K:AS→Prop} (hk:K (s.put dst (some (B (decide (1048576 < (n:Int))))))):ax Tryz.prog nm 98 (some [Sl t o n c]) dst K s:=
 (Rn hp).cW (fun _=>t) (bS hb hp) rfl rfl hk
theorem Ux {s:AS} {nm k n m:Nat} {l:List (Nat×aN)} {va vb:AV} {key f:Nat→Int} (hg:Handed k l) (hkey:br key) (hf:br f) (ha:Arg k l va n key) (hv:Arg k l vb m f) (hs: ∀ t,t < k→s.box t=lk l t) (hn:n < 90000000) (hm:m < 90000000) {dst:Option Nat} {K:AS→Prop}
  (hk:K (s.put dst (some (Ag (af .u8 32 (gx kW cj key n f m)))))):ax Tryz.prog nm 88 (some [va,vb]) dst K s:=
 (J9 hkey hf ha.at_ hv.at_ hn hm ha.ok hv.ok hg.qn hg.all hg.le).cW (fun n=>n) (QT hg hs) aw (by simp only[List.map_cons,List.map_nil,ha.id,hv.id]) hk
theorem Ro {k nk m q N:Nat} {l:List (Nat×aN)} {vk vm vi:AV} {sh f info:Nat→Int} (hg:Handed k l) (Lj:br sh) (hf:br f) (CU:br info) (hk:Arg k l vk nk sh) (hm:Arg k l vm m f) (hi:Arg k l vi q info) (MW: ¬ Cb N nk m q):
  bf Tryz.prog 70 [vk,vm,vi,I .i64 N] k (lk l) (Made k N (jk kW cj (gx kW cj sh nk f m) info q)):=by
 refine av Tryz.func70 rfl (by kernel_rfl) (by simp[Tryz.ntmps70]) Tryz.MA (fun u hu=>by
  simp only[List.mem_cons,List.not_mem_nil,or_false]at hu
  rcases hu with rfl | rfl | rfl | rfl
  ·exact hk.ok
  ·exact hm.ok
  ·exact hi.ok
  ·trivial) hg.all hg.kD ?_
 have l1:=iW hk.at_
 have l2:=iW hm.at_
 have l3:=iW hi.at_
 simp only[Cb]at MW
 have d0:decide ((N:Int) < 0)=false:=decide_eq_false (by omega)
 have d1:decide (8160 < (N:Int))=false:=decide_eq_false (by omega)
 have d2:decide (1048576 < (nk:Int))=false:=decide_eq_false (by omega)
 have d3:decide (1048576 < (m:Int))=false:=decide_eq_false (by omega)
 have d4:decide (1048576 < (q:Int))=false:=decide_eq_false (by omega)
 simp only[Tryz.results70,d0,d1,l1,d2,l2,d3,l3,d4,vR,seval, -List.reduceReplicate]
 refine Ux hg Lj hf hk hm (fun t ht=>rfl) (by omega) (by omega) ?_
 obtain ⟨p,Wz⟩: ∃ p,gx kW cj sh nk f m=p:=⟨_,rfl⟩
 have wg:br p:=by rw[← Wz];exact jj _ _ _ _ _ _
 rw[Wz]
 have w1:IntKind.i64.wrap ((N:Int)+31)=((N+31:Nat):Int):=by rw[wrap_i64 _ (by omega) (by omega)];omega
 have q1:=C' (N+31) 32 (by omega)
 rw[show ((32:Nat):Int)=32 from rfl]at q1
 simp only[w1,q1,vR,seval, -List.reduceReplicate]
 have fin: ∀ (c1:Nat) (eU:List SV),32*((N+31) / 32)≤c1→eU.length=c1 - 32*((N+31) / 32)→eU.all SV.plain=true→N≤c1∧bK (af .u8 (32*((N+31) / 32)) (jk kW cj p info q)++eU) 0 N c1 (jk kW cj p info q):=fun c1 eU h1 h2 h3=>by
  have hg:=bK.row (f:=jk kW cj p info q) h1 h2 h3
  exact ⟨by omega,hg.len,by omega,hg.plain,mM hg.shows (by omega)⟩
 rcases hi.at_ with ⟨⟨a,rfl⟩,hq0⟩ | ⟨t,o,c,rw,es,rfl,hb,hr,hs⟩
 ·refine dS (uM (k:=0) (l:=[]) (vi:=V (.slice a 0 0)) wg CU (.inl ⟨rfl,rfl,⟨a,rfl⟩,hq0⟩) (by omega) ((N+31) / 32) (by omega)) (fun n=>n) gF (by simp only[List.map_cons,List.map_nil,fg,iS,mL]) ?_
  intro c1 eU h1 h2 h3
  obtain ⟨hc,hg⟩:=fin c1 eU h1 h2 h3
  have a1:((N:Int)≤(c1:Int))=True:=eq_true (by omega)
  simp only[a1,aW,vR,seval, -List.reduceReplicate]
  exact fF (by omega) hg (by simp only[ay]) rfl
 ·have ht:t < k:=hi.ok
  refine dS (uM (k:=1) (l:=[(0,⟨false,es⟩)]) (vi:=Sl 0 o q c) wg CU (.inr ⟨rfl,o,c,es,rfl,rfl,hr,hs⟩) (by omega) ((N+31) / 32) (by omega)) (fun _=>t) (bS (rw:=rw) (by simp only[upd];rw[if_neg (by omega),if_neg (by omega)];exact hb) hr) (by simp only[List.map_cons,List.map_nil,fg,iS,eF]) ?_
  intro c1 eU h1 h2 h3
  obtain ⟨hc,hg⟩:=fin c1 eU h1 h2 h3
  have a1:((N:Int)≤(c1:Int))=True:=eq_true (by omega)
  simp only[a1,aW,vR,seval, -List.reduceReplicate]
  exact fF (by omega) hg (by simp only[ay]) rfl
theorem Dg {s:AS} {t0 t1 t2 nk m q:Nat} {vk vm vi:AV} {r0 r1 r2:Bool} {key f info:Nat→Int} {cs ds es:List SV} (hb0:s.box t0=some ⟨r0,cs⟩) (hp:cs.all SV.plain=true) (qC:s.box t1=some ⟨r1,ds⟩) (hq:ds.all SV.plain=true) (nT:s.box t2=some ⟨r2,es⟩) (hr:es.all SV.plain=true)
  (hk:eH t0 vk nk key cs) (hm:eH t1 vm m f ds) (hi:eH t2 vi q info es): ∃ k l r u0 u1 u2,Bc s k l r [vk,vm,vi]∧Arg k l u0 nk key∧Arg k l u1 m f∧Arg k l u2 q info∧AV.aI r u0=vk∧AV.aI r u1=vm∧AV.aI r u2=vi:=by
 obtain ⟨k1,l1,r1,v1,q1,P1,A1,e1,_⟩:=rL (s:=s) rK (by decide) hi nT hr
 obtain ⟨k2,l2,r2,v2,q2,P2,A2,e2,T2⟩:=rL P1 (by omega) hm qC hq
 obtain ⟨k3,l3,r3,v3,q3,P3,A3,e3,T3⟩:=rL P2 (by omega) hk hb0 hp
 obtain ⟨B1,f1⟩:=T2 _ _ _ A1
 obtain ⟨C1,g1⟩:=T3 _ _ _ B1
 obtain ⟨C2,g2⟩:=T3 _ _ _ A2
 exact ⟨k3,l3,r3,v3,v2,v1,P3,A3,C2,C1,e3,by rw[g2,e2],by rw[g1,f1,e1]⟩
theorem ok3 {M:Nat→Prop} {a b c x:AV} (h: ∀ v ∈ [a,b,c,x],AV.ok M v): ∀ v ∈ [a,b,c],AV.ok M v:=fun v hv=>by
 simp only[List.mem_cons,List.not_mem_nil,or_false]at hv
 rcases hv with rfl | rfl | rfl<;>exact h _ (by simp)
theorem wy {s:AS} {nm t0 t1 t2 nk m q N:Nat} {vk vm vi:AV} {r0 r1 r2:Bool} {sh f info:Nat→Int} {cs ds es:List SV} (Lj:br sh) (hf:br f) (CU:br info) (hb0:s.box t0=some ⟨r0,cs⟩) (hp:cs.all SV.plain=true) (qC:s.box t1=some ⟨r1,ds⟩) (hq:ds.all SV.plain=true) (nT:s.box t2=some ⟨r2,es⟩) (hr:es.all SV.plain=true)
  (hk:eH t0 vk nk sh cs) (hm:eH t1 vm m f ds) (hi:eH t2 vi q info es) (MW: ¬ Cb N nk m q) {ops:Array Oper} {i:Nat} (DL:late ops i=true) {dst:Option Nat} {K:AS→Prop}
  (hK: ∀ c tail,N≤c→tail.length=c - N→tail.all SV.plain=true→K ((⟨s.env,upd s.box nm (some ⟨true,af .u8 N (jk kW cj (gx kW cj sh nk f m) info q)++tail⟩),s.next⟩:AS).put dst (some (Sl nm 0 N c)))):ov Tryz.prog ops i nm 70 (some [vk,vm,vi,I .i64 N]) dst K s:=by
 obtain ⟨k,l,r,u0,u1,u2,P,A0,A1,A2,x0,x1,x2⟩:=Dg hb0 hp qC hq nT hr hk hm hi
 exact rI (Ro P.good Lj hf CU A0 A1 A2 MW) r P.fits (by simp only[List.map_cons,List.map_nil,x0,x1,x2,iS]) (fun M h=>P.named M (ok3 h)) DL hK
def WA (nk m:Nat) (key f:Nat→Int):Nat→Int:=if 1048576 < nk∨1048576 < m then fun _=>0 else gx kW cj key nk f m
theorem Uy {nk ok ck m o c:Nat} {key f:Nat→Int} {cs ds:List SV} (Lj:br key) (hf:br f) (hk:aZ cs ok nk key) (hp:cs.all SV.plain=true) (Si:nk≤ck) (hc:aZ ds o m f) (hq:ds.all SV.plain=true):
  bf Tryz.prog 109 [Sl 0 ok nk ck,Sl 1 o m c] 2 (lk [(0,⟨false,cs⟩),(1,⟨false,ds⟩)]) (fun u out=>u=Ag (af .u8 32 (WA nk m key f))∧out=fun _=>none):=by
 refine av Tryz.func109 rfl (by kernel_rfl) (by simp[Tryz.ntmps109]) Tryz.JH (by simp[AV.ok,CV.ok,SV.names]) lC (nU hp hq) ?_
 simp only[Tryz.results109,vR,seval, -List.reduceReplicate]
 refine eJ (rw:=false) (by simp only[ae,vR,seval, -List.reduceReplicate]) hp ?_
 by_cases h1:1048576 < nk
 ·have d1:decide (1048576 < (nk:Int))=true:=decide_eq_true (by omega)
  have eA:WA nk m key f=fun _=>0:=if_pos (.inl h1)
  simp only[d1,eA,aj,vR,seval, -List.reduceReplicate]
  exact ak (v:=Ag (af .u8 32 (fun _=>0))) aw ⟨rfl,rfl⟩
 have d1:decide (1048576 < (nk:Int))=false:=decide_eq_false (by omega)
 simp only[d1,vR,seval, -List.reduceReplicate]
 refine eJ (rw:=false) (by simp only[ae,vR,seval, -List.reduceReplicate]) hq ?_
 by_cases h2:1048576 < m
 ·have d2:decide (1048576 < (m:Int))=true:=decide_eq_true (by omega)
  have eA:WA nk m key f=fun _=>0:=if_pos (.inr h2)
  simp only[d2,eA,aj,vR,seval, -List.reduceReplicate]
  exact ak (v:=Ag (af .u8 32 (fun _=>0))) aw ⟨rfl,rfl⟩
 have d2:decide (1048576 < (m:Int))=false:=decide_eq_false (by omega)
 have eA:WA nk m key f=gx kW cj key nk f m:=if_neg (by omega)
 simp only[d2,vR,seval, -List.reduceReplicate]
 refine ⟨show 1≤1 by decide, ?_⟩
 refine E6 (Sj:=true) (MS:=false) (by simp only[ay];rfl) rfl (.inr ⟨1,o,c,false,ds,rfl,by simp only[ae,vR,seval, -List.reduceReplicate],hq,hc⟩) hf (by simp only[ae,vR,seval, -List.reduceReplicate]) hp hk Lj (by omega) Si (by omega) ?_
 simp only[← eA,vR,seval, -List.reduceReplicate]
 exact ak aw ⟨rfl,rfl⟩
theorem ZC {nk ok ck m om cm q oq cq:Nat} {n:Int} {sh f info:Nat→Int} {cs ds es:List SV} (Lj:br sh) (hf:br f) (CU:br info) (hk:aZ cs ok nk sh) (hp:cs.all SV.plain=true) (Si:nk≤ck) (hc:aZ ds om m f) (hq:ds.all SV.plain=true)
  (hi:aZ es oq q info) (hr:es.all SV.plain=true) (hg: ¬ Cb n nk m q):
  bf Tryz.prog 104 [Sl 0 ok nk ck,Sl 1 om m cm,Sl 2 oq q cq,I .i64 n] 3 (lk [(0,⟨false,cs⟩),(1,⟨false,ds⟩),(2,⟨false,es⟩)]) (Bytes 3 n.toNat (jk kW cj (gx kW cj sh nk f m) info q)):=by
 refine av Tryz.func104 rfl (by kernel_rfl) (by simp[Tryz.ntmps104]) Tryz.JC (by simp[AV.ok,CV.ok,SV.names]) ad6 (ad7 hp hq hr) ?_
 simp only[Cb]at hg
 have d0:decide (n < 0)=false:=decide_eq_false (by omega)
 have d1:decide (8160 < n)=false:=decide_eq_false (by omega)
 have d2:decide (1048576 < (nk:Int))=false:=decide_eq_false (by omega)
 have d3:decide (1048576 < (m:Int))=false:=decide_eq_false (by omega)
 have d4:decide (1048576 < (q:Int))=false:=decide_eq_false (by omega)
 simp only[Tryz.results104,d0,d1,vR,seval, -List.reduceReplicate]
 refine eJ (rw:=false) (by simp only[ae,vR,seval, -List.reduceReplicate]) hp ?_
 simp only[d2,vR,seval, -List.reduceReplicate]
 refine eJ (rw:=false) (by simp only[ae,vR,seval, -List.reduceReplicate]) hq ?_
 simp only[d3,vR,seval, -List.reduceReplicate]
 refine eJ (rw:=false) (by simp only[ae,vR,seval, -List.reduceReplicate]) hr ?_
 simp only[d4,vR,seval, -List.reduceReplicate]
 refine ⟨show 1≤1 by decide, ?_⟩
 refine E6 (Sj:=true) (MS:=false) (by simp only[ay];rfl) rfl (.inr ⟨1,om,cm,false,ds,rfl,by simp only[ae,vR,seval, -List.reduceReplicate],hq,hc⟩) hf (by simp only[ae,vR,seval, -List.reduceReplicate]) hp hk Lj (by omega) Si (by omega) ?_
 simp only[vR,seval, -List.reduceReplicate]
 obtain ⟨N,rfl⟩: ∃ N:Nat,n=(N:Int):=⟨n.toNat,by omega⟩
 rw[Int.toNat_natCast]
 obtain ⟨p,Wz⟩: ∃ p,gx kW cj sh nk f m=p:=⟨_,rfl⟩
 have wg:br p:=by rw[← Wz];exact jj _ _ _ _ _ _
 rw[Wz]
 refine (J7 (o:=oq) (m:=q) (c:=cq) (n:=N) wg CU hi hr (by omega) (by omega)).ax (fun _=>2) none (bS (rw:=false) (by simp only[ae,vR,seval, -List.reduceReplicate]) hr) (by simp only[List.map_cons,List.map_nil,fg,iS,eF]) ?_
 rintro v out (⟨h0,rfl,rfl⟩ | ⟨c2,wz,rfl,rfl,h1,h2,h3⟩) _
 ·simp only[vR,seval, -List.reduceReplicate]
  exact ak (v:=V (.slice none 0 0)) rfl (.inl ⟨h0,rfl,rfl⟩)
 ·rw[fN (cD h3)]
  simp only[eF,gT,vR,seval, -List.reduceReplicate]
  exact dV (k:=3) (q:=28) (cs:=af .u8 N (jk kW cj p info q)++wz) (by decide) (by simp only[ay]) (cD h3) (.inr ⟨c2,wz,rfl,rfl,h1,h2,h3⟩)
theorem xR {P:Program} [bU.Tables P] {f k:Nat} {args:List AV} {ins:Nat→Option aN} {Post Post':AV→(Nat→Option aN)→Prop} (h:bf P f args k ins Post) (hp: ∀ v out,Post v out→Post' v out):bf P f args k ins Post':=
 ⟨h.body,h.all,h.qn,fun W g w a b c d=>(h.call W g w a b c d).mono (by
  rintro e w' ⟨v,out,g',h1,h2,h3⟩
  exact ⟨v,out,g',h1,hp _ _ h2,h3⟩)⟩
theorem jr {n a m:Nat} {f:Nat→Int} {tail:List SV} (h:a+m≤n):List.take m (List.drop a (af .u8 n f++tail))=af .u8 m (fun i=>f (a+i)):=by
 apply List.ext_getElem?
 intro i
 by_cases hi:i < m
 ·rw[List.getElem?_take_of_lt hi,List.getElem?_drop,List.getElem?_append_left (by rw[ah];omega),aA .u8 n f (a+i) (by omega),aA .u8 m _ i hi]
 ·rw[List.getElem?_eq_none (by rw[List.length_take];omega),List.getElem?_eq_none (by rw[ah];omega)]
theorem kT {n m:Nat} {f:Nat→Int} {tail:List SV} (h:m≤n):List.take m (af .u8 n f++tail)=af .u8 m f:=by
 have:=jr (n:=n) (a:=0) (m:=m) (f:=f) (tail:=tail) (by omega)
 rw[List.drop_zero]at this
 rw[this]
 exact aX fun i _=>by rw[Nat.zero_add]
def nX (i:Nat):Int:=[114,97,116,99,104,101,116,32,114,111,111,116].getD i 0
theorem Cc:br nX:=fun i=>by
 by_cases h:i < 12
 ·have: ∀ j,j < 12→0≤nX j∧nX j < 256:=by decide
  exact this i h
 ·have:nX i=0:=by
   simp only[nX,List.getD_eq_getElem?_getD]
   rw[List.getElem?_eq_none (by simp;omega)];rfl
  rw[this];decide
def Ll (root shared:Nat→Int):Nat→Int:=jk kW cj (gx kW cj root 32 shared 32) nX 12
def Yo:bn:=
 let e0:bn:= .cons 9 .nil .nil
 let e1:bn:= .cons 8 e0 .nil
 let e2:bn:= .cons 3 e1 .nil
 let e3:bn:= .cons 2 e2 .nil
 let e4:bn:= .cons 1 e3 .nil
 let e5:bn:= .cons 0 e4 .nil
 let e6:bn:= .cons 7 e0 .nil
 let e7:bn:= .cons 7 e1 (.cons 8 e6 .nil)
 let e8:bn:= .cons 3 e7 (.cons 7 e2 .nil)
 let e9:bn:= .cons 2 e8 (.cons 7 e3 .nil)
 let Wo:bn:= .cons 1 e9 (.cons 7 e4 .nil)
 let Zs:bn:= .cons 0 Wo (.cons 7 e5 .nil)
 let e12:bn:= .cons 6 e6 .nil
 let e13:bn:= .cons 6 e7 (.cons 8 e12 .nil)
 let WB:bn:= .cons 3 e13 (.cons 6 e8 .nil)
 let e15:bn:= .cons 2 WB (.cons 6 e9 .nil)
 let VE:bn:= .cons 1 e15 (.cons 6 Wo .nil)
 let e17:bn:= .cons 0 VE (.cons 6 Zs .nil)
 let e18:bn:= .cons 5 e12 .nil
 let e19:bn:= .cons 5 e13 (.cons 8 e18 .nil)
 let Yp:bn:= .cons 3 e19 (.cons 5 WB .nil)
 let e21:bn:= .cons 2 Yp (.cons 5 e15 .nil)
 let e22:bn:= .cons 1 e21 (.cons 5 VE .nil)
 let e23:bn:= .cons 0 e22 (.cons 5 e17 .nil)
 let e24:bn:= .cons 4 e18 .nil
 let e25:bn:= .cons 4 e19 (.cons 8 e24 .nil)
 let e26:bn:= .cons 3 e25 (.cons 4 Yp .nil)
 let e27:bn:= .cons 2 e26 (.cons 4 e21 .nil)
 let e28:bn:= .cons 1 e27 (.cons 4 e22 .nil)
 let e29:bn:= .cons 0 e28 (.cons 4 e23 .nil)
 e29
def Yq:bn:=
 let e0:bn:= .cons 3 .nil .nil
 let e1:bn:= .cons 2 e0 .nil
 let e2:bn:= .cons 0 e1 .nil
 let e3:bn:= .cons 1 e0 .nil
 let e4:bn:= .cons 1 e1 (.cons 2 e3 .nil)
 let e5:bn:= .cons 0 e4 (.cons 1 e2 .nil)
 e5
def wA (f g:Nat→Int):AV:= .inr [.inr (af .u8 32 f), .inr (af .u8 32 g)]
theorem J' (r x:Nat→Int) (hr:br r) (hx:br x):cI Tryz.prog 84 [Ag (af .u8 32 r),Ag (af .u8 32 x)] (wA (Ll r x) (fun i=>Ll r x (32+i))):=by
 refine Bh Tryz.func84 rfl (by kernel_rfl) (by simp[Tryz.ntmps84]) rfl rfl ?_
 simp only[Tryz.results84,vL,seval, -List.reduceReplicate]
 refine .inl ?_
 simp only[vL,seval, -List.reduceReplicate]
 refine ⟨by kernel_rfl,by decide,by decide,by decide,by decide,by decide,by decide,by decide,by decide,by decide,by decide,by decide, ?_⟩
 refine rI (xR (Post':=Made 3 64 (Ll r x)) (ZC (ok:=0) (ck:=32) (om:=0) (cm:=32) (oq:=0) (cq:=12) (nk:=32) (m:=32) (q:=12) (n:=64) (sh:=r) (f:=x) (info:=nX) (cs:=af .u8 32 r) (ds:=af .u8 32 x) (es:=af .u8 12 nX) hr hx Cc aV aw (by decide) aV aw aV aw (by decide)) (fun v out h=>h.resolve_left (fun e=>by cases e.1))) (three 0 1 6)
  (Td (r0:=true) (r1:=true) (r2:=true) (by simp only[ae,vR,seval, -List.reduceReplicate]) aw (by simp only[ae,vR,seval, -List.reduceReplicate]) aw (by simp only[ay];rfl) aw) rfl (fun M h n hn=> ?_) (by kernel_rfl) ?_
 ·have a:=h (Sl 0 0 32 32) (List.Mem.head _)
  have b:=h (Sl 1 0 32 32) (List.Mem.tail _ (List.Mem.head _))
  have c:=h (Sl 6 0 12 12) (List.Mem.tail _ (List.Mem.tail _ (List.Mem.head _)))
  simp only[three];split
  ·exact a
  ·split
   ·exact b
   ·exact c
 intro c1 eU h1 h2 h3
 simp only[vL,seval, -List.reduceReplicate]
 refine .inr ⟨Tryz.mixed,Yo,by kernel_rfl, ?_⟩
 have n1:(c1=32)=False:=eq_false (by omega)
 have l1:(32≤(c1:Int))=True:=eq_true (by omega)
 have l2:(64≤(c1:Int))=True:=eq_true (by omega)
 have len: ∀ m,m≤64→(m≤(af .u8 64 (Ll r x)++eU).length)=True:=fun m hm=>eq_true (by rw[List.length_append,ah];omega)
 have p0:=kT (n:=64) (m:=32) (f:=Ll r x) (tail:=eU) (by decide)
 have p1:=jr (n:=64) (a:=32) (m:=32) (f:=Ll r x) (tail:=eU) (by decide)
 simp only[Yo,n1,l1,l2,len 32 (by decide),len 64 (by decide),p0,p1,vL,seval, -List.reduceReplicate]
 rfl
theorem WC {o n c at':Nat} {f:Nat→Int} {cs:List SV} (hs:aZ cs o n f) (hp:cs.all SV.plain=true) (h:at'+32≤n) (hn:n < 1000000):
  bf Tryz.prog 36 [Sl 0 o n c,I .i64 at'] 1 (lk [(0,⟨false,cs⟩)]) (fun v out=>v=Ag (af .u8 32 (fun i=>f (at'+i)))∧out=fun _=>none):=by
 refine av Tryz.func36 rfl (by kernel_rfl) (by simp[Tryz.ntmps36]) Tryz.pj (by simp[AV.ok,CV.ok,SV.names]) dG (dH hp) ?_
 have fO: ∀ {M:Nat→Prop},(∀ x ∈ cs,SV.ok M x)=True:=eq_true (aC hp)
 simp only[Tryz.results36,vR,seval, -List.reduceReplicate]
 refine aE 32 (fun k=>[(0,Sl 0 o n c),(1,I .i64 at'),(4,Ptr 1 0),(5,Ptr 2 0),(6,I .i64 k)])
  (fun k=>[(0,⟨false,cs⟩),(1,⟨true,af .u8 32 (fun _=>0)⟩),(2,⟨true,af .u8 32 (fun i=>if i < k then f (at'+i) else 0)⟩)]) _ ?_ ?_ ?_
 ·simp only[fO,Nat.not_lt_zero,if_false,vR,seval, -List.reduceReplicate]
 ·intro k hk
  have a3:((k:Int) < 32)=True:=bX (m:=32) hk
  have d1:decide (0≤(at':Int))=true:=decide_eq_true (by omega)
  have w1:IntKind.i64.wrap ((at':Int)+(k:Int))=((at'+k:Nat):Int):=Es _ _ (by omega)
  have d2:decide (((at'+k:Nat):Int) < (n:Int))=true:=decide_eq_true (by omega)
  have l2:(((at'+k:Nat):Int) < (n:Int))=True:=eq_true (by omega)
  have fin:af .u8 32 (upd (fun i=>if i < k then f (at'+i) else 0) k (f (at'+k)))=af .u8 32 (fun i=>if i < k+1 then f (at'+i) else 0):=fk (f:=fun i=>f (at'+i))
  simp only[vR,seval, -List.reduceReplicate]
  refine az (by simp;omega) ?_
  simp only[d1,l2,w1,a3,hs (at'+k) (by omega),aW,Nat.mul_one,aB .u8 32 _ k hk,fin,bt k (by omega),decide_true,vR,seval, -List.reduceReplicate]
  exact ⟨by omega,aC hp⟩
 ·simp only[vR,seval, -List.reduceReplicate]
  refine aD (by simp) ?_
  simp only[dL,vR,seval, -List.reduceReplicate]
  exact ak (v:=Ag (af .u8 32 (fun i=>f (at'+i)))) aw ⟨rfl,rfl⟩
theorem Cd {s:AS} {nm t o n c at':Nat} {rw:Bool} {f:Nat→Int} {cs:List SV} (hb:s.box t=some ⟨rw,cs⟩) (hs:aZ cs o n f) (hp:cs.all SV.plain=true) (h:at'+32≤n) (hn:n < 1000000) {dst:Option Nat} {K:AS→Prop}
  (hk:K (s.put dst (some (Ag (af .u8 32 (fun i=>f (at'+i))))))):ax Tryz.prog nm 36 (some [Sl t o n c,I .i64 at']) dst K s:=
 (WC hs hp h hn).cW (fun _=>t) (bS hb hp) aw rfl hk
theorem Ce (r x:Nat→Int) (hr:br r) (hx:br x):cI Tryz.prog 44 [Ag (af .u8 32 r),Ag (af .u8 32 x)] (wA (Ll r x) (fun i=>Ll r x (32+i))):=by
 refine aJ Tryz.func44 rfl (by kernel_rfl) (by simp[Tryz.ntmps44]) rfl rfl ?_
 simp only[Tryz.results44,vR,seval, -List.reduceReplicate]
 refine ⟨by kernel_rfl,by decide,by decide,by decide,by decide,by decide,by decide,by decide,by decide,by decide,by decide,by decide, ?_⟩
 refine wy (t0:=0) (t1:=1) (t2:=6) (nk:=32) (m:=32) (q:=12) (N:=64) (r0:=true) (r1:=true) (r2:=true) (sh:=r) (f:=x) (info:=nX) (cs:=af .u8 32 r) (ds:=af .u8 32 x) (es:=af .u8 12 nX)
  hr hx Cc (by simp only[ae,vR,seval, -List.reduceReplicate]) aw (by simp only[ae,vR,seval, -List.reduceReplicate]) aw (by simp only[ay];rfl) aw
  (.inr ⟨0,32,rfl,aV⟩) (.inr ⟨0,32,rfl,aV⟩) (.inr ⟨0,12,rfl,aV⟩) (by decide) (by kernel_rfl) ?_
 intro c tail h1 h2 h3
 simp only[vR,seval, -List.reduceReplicate]
 refine Cd (at':=0) (rw:=true) (f:=Ll r x) (cs:=af .u8 64 (Ll r x)++tail) (by simp only[ae,vR,seval, -List.reduceReplicate];rfl) dg (cD h3) (by decide) (by decide) ?_
 simp only[vR,seval, -List.reduceReplicate]
 refine Cd (at':=32) (rw:=true) (f:=Ll r x) (cs:=af .u8 64 (Ll r x)++tail) (by simp only[ae,vR,seval, -List.reduceReplicate];rfl) dg (cD h3) (by decide) (by decide) ?_
 simp only[Nat.zero_add,vR,seval, -List.reduceReplicate]
 rfl
def qk (k:Nat→Int) (x:Int):Nat→Int:=gx kW cj k 32 (fun _=>x) 1
theorem Gl (k:Nat→Int) (hk:br k):cI Tryz.prog 86 [Ag (af .u8 32 k)] (wA (qk k 2) (qk k 1)):=by
 refine aJ Tryz.func86 rfl (by kernel_rfl) (by simp[Tryz.ntmps86]) rfl rfl ?_
 simp only[Tryz.results86,eG,vR,seval, -List.reduceReplicate]
 refine ⟨by kernel_rfl, ?_⟩
 have nT:br (fun _=>(2:Int)):=fun i=>by show (0:Int)≤2∧(2:Int) < 256;decide
 have qC:br (fun _=>(1:Int)):=fun i=>by show (0:Int)≤1∧(1:Int) < 256;decide
 have aeH:bf Tryz.prog 109 [Sl 0 0 32 32,Sl 1 0 1 1] 2 (lk [(0,⟨false,af .u8 32 k⟩),(1,⟨false,[Sum.inl (.int .u8 2)]⟩)]) (fun u out=>u=Ag (af .u8 32 (qk k 2))∧out=fun _=>none):=Uy (nk:=32) (m:=1) hk nT aV aw (by decide) b9 rfl
 have aeI:bf Tryz.prog 109 [Sl 0 0 32 32,Sl 1 0 1 1] 2 (lk [(0,⟨false,af .u8 32 k⟩),(1,⟨false,[Sum.inl (.int .u8 1)]⟩)]) (fun u out=>u=Ag (af .u8 32 (qk k 1))∧out=fun _=>none):=Uy (nk:=32) (m:=1) hk qC aV aw (by decide) b9 rfl
 refine aeH.cQ (two 0 4) (ie (rw:=true) (rw':=true) (by simp only[ae,vR,seval, -List.reduceReplicate]) aw (by simp only[ae,vR,seval, -List.reduceReplicate]) rfl) aw rfl (fun M h n hn=> ?_) ?_
 ·have a:=h (Sl 0 0 32 32) (List.Mem.head _)
  have b:=h (Sl 4 0 1 1) (List.Mem.tail _ (List.Mem.head _))
  simp only[two];split
  ·exact a
  ·exact b
 simp only[eG,vR,seval, -List.reduceReplicate]
 refine aeI.cQ (two 0 7) (ie (rw:=true) (rw':=true) (by simp only[ae,vR,seval, -List.reduceReplicate]) aw (by simp only[ae,vR,seval, -List.reduceReplicate]) rfl) aw rfl (fun M h n hn=> ?_) ?_
 ·have a:=h (Sl 0 0 32 32) (List.Mem.head _)
  have b:=h (Sl 7 0 1 1) (List.Mem.tail _ (List.Mem.head _))
  simp only[two];split
  ·exact a
  ·exact b
 simp only[eG,vR,seval, -List.reduceReplicate]
 rfl
theorem qb (k:Nat→Int) (hk:br k):cI Tryz.prog 69 [Ag (af .u8 32 k)] (wA (qk k 2) (qk k 1)):=by
 refine Bh Tryz.func69 rfl (by kernel_rfl) (by simp[Tryz.ntmps69]) rfl rfl ?_
 simp only[Tryz.results69,eG,vL,seval, -List.reduceReplicate]
 have nT:br (fun _=>(2:Int)):=fun i=>by show (0:Int)≤2∧(2:Int) < 256;decide
 have qC:br (fun _=>(1:Int)):=fun i=>by show (0:Int)≤1∧(1:Int) < 256;decide
 refine iE (ta:=0) (tb:=4) (rwa:=true) (Yn:=true) (key:=k) (f:=fun _=>2) hk nT (by simp only[ae,vR,seval, -List.reduceReplicate]) aV aw (by simp only[ae,vR,seval, -List.reduceReplicate]) b9 rfl (by decide) (by decide) ?_
 simp only[eG,vL,seval, -List.reduceReplicate]
 refine iE (ta:=0) (tb:=9) (rwa:=true) (Yn:=true) (key:=k) (f:=fun _=>1) hk qC (by simp only[ae,vR,seval, -List.reduceReplicate]) aV aw (by simp only[ae,vR,seval, -List.reduceReplicate]) b9 rfl (by decide) (by decide) ?_
 simp only[eG,vL,seval, -List.reduceReplicate]
 refine .inr ⟨Tryz.mixed,Yq,by kernel_rfl, ?_⟩
 simp only[Yq,vL,seval, -List.reduceReplicate]
 rfl
theorem Rp (x y c:Int) (hx:0≤x) (hy:0≤y) (h0:0≤c) (h1:c≤1): ∀ (g:Where) (w:World),(callFunc 156 (([I .u64 x,I .u64 y,I .u64 c]:List AV).map (AV.aq g)).toArray).run Tryz.prog w=
  .ok (.value (AV.aq g (.inr [.inl (.inl (.int .u64 ((x+y+c)%18446744073709551616))), .inl (.inl (.int .u64 ((x+y+c) / 18446744073709551616)))]))) w:=by
 intro g w
 show (callFunc 156 #[.int .u64 x, .int .u64 y, .int .u64 c]).run Tryz.prog w=_
 rw[run_callFunc_extern Tryz.func156 (by kernel_rfl) (by kernel_rfl) (by kernel_rfl) (e:=add64Entry) (by kernel_rfl),run_add64 x y c hx hy h0 h1]
 rfl
theorem Add64.call {x y c:Int} (hx:0≤x) (hy:0≤y) (h0:0≤c) (h1:c≤1) {dst:Option Nat} {K:AS→Prop} {s:AS}
  (hk:K (s.put dst (some (.inr [.inl (.inl (.int .u64 ((x+y+c)%18446744073709551616))), .inl (.inl (.int .u64 ((x+y+c) / 18446744073709551616)))])))):
  pV Tryz.prog 156 (some [I .u64 x,I .u64 y,I .u64 c]) dst K s:=
 ⟨_,by intro v hv;simp at hv;rcases hv with rfl | rfl<;>trivial,Rp x y c hx hy h0 h1,hk⟩
theorem Rq (x y:Int) (hx:0≤x) (hx':x < 18446744073709551616) (hy:0≤y) (hy':y < 18446744073709551616):
  cI Tryz.prog 155 [I .u64 x,I .u64 y] (.inr [.inl (.inl (.int .u64 (x*y / 18446744073709551616))), .inl (.inl (.int .u64 (x*y%18446744073709551616)))]):=by
 refine aJ Tryz.func155 rfl (by kernel_rfl) (by simp[Tryz.ntmps155]) rfl rfl ?_
 simp only[Tryz.results155,vS,seval]
 rw[LU x y hx hx' hy hy',wrap_u64]
def fm (W:Int):List SV:=[Sum.inl (.int .u64 (W / 18446744073709551616)),Sum.inl (.int .u64 (W%18446744073709551616))]
theorem cY (W x y:Int) (hW:0≤W) (hx:0≤x) (hx':x < 18446744073709551616) (hy:0≤y) (hy':y < 18446744073709551616) (hs:W+x*y < 340282366920938463463374607431768211456):
  cI Tryz.prog 144 [Ag (fm W),I .u64 x,I .u64 y] (Ag (fm (W+x*y))):=by
 have hxy:0≤x*y:=Int.mul_nonneg hx hy
 refine aJ Tryz.func144 rfl (by kernel_rfl) (by simp[Tryz.ntmps144]) rfl rfl ?_
 simp only[fm,Tryz.results144,vS,seval]
 refine (Rq x y hx hx' hy hy').ax ?_
 simp only[vS,seval]
 refine Add64.call (by omega) (by omega) (by omega) (by omega) ?_
 simp only[vS,seval]
 refine Add64.call (by omega) (by omega) (by omega) (by omega) ?_
 simp only[vS,seval]
 generalize x*y=p at*
 rw[show (W / 18446744073709551616+p / 18446744073709551616+(W%18446744073709551616+p%18446744073709551616+0) / 18446744073709551616)%18446744073709551616=(W+p) / 18446744073709551616 from by omega,
  show (W%18446744073709551616+p%18446744073709551616+0)%18446744073709551616=(W+p)%18446744073709551616 from by omega]
theorem oD (W:Int) (hW:0≤W) (hW':W < 41538374868278621028243970633760768):cI Tryz.prog 146 [Ag (fm W)] (I .u64 (W / 2251799813685248)):=by
 refine aJ Tryz.func146 rfl (by kernel_rfl) (by simp[Tryz.ntmps146]) rfl rfl ?_
 simp only[fm,Tryz.results146,vS,seval]
 rw[abo,pX,Int.emod_eq_of_lt (by omega) (by omega)]
 have:=S' (W / 18446744073709551616) (W%18446744073709551616 / 2251799813685248) 13 (by decide) (by omega) (by omega) (by omega) (by omega)
 rw[show (2:Int)^13=8192 from rfl]at this
 rw[this]
 rw[show W / 18446744073709551616*8192+W%18446744073709551616 / 2251799813685248=W / 2251799813685248 from by omega]
structure F5 where
 a0:Int
 a1:Int
 a2:Int
 a3:Int
 a4:Int
def F5.l (f:F5):List SV:=[Sum.inl (.int .u64 f.a0),Sum.inl (.int .u64 f.a1),Sum.inl (.int .u64 f.a2),Sum.inl (.int .u64 f.a3),Sum.inl (.int .u64 f.a4)]
def fz (f:F5):F5:=
 ⟨f.a0%2251799813685248+19*(f.a4 / 2251799813685248),f.a1%2251799813685248+f.a0 / 2251799813685248,f.a2%2251799813685248+f.a1 / 2251799813685248,
  f.a3%2251799813685248+f.a2 / 2251799813685248,f.a4%2251799813685248+f.a3 / 2251799813685248⟩
structure F5.U (f:F5):Prop where
 h0:0≤f.a0∧f.a0 < 18446744073709551616
 h1:0≤f.a1∧f.a1 < 18446744073709551616
 h2:0≤f.a2∧f.a2 < 18446744073709551616
 h3:0≤f.a3∧f.a3 < 18446744073709551616
 h4:0≤f.a4∧f.a4 < 18446744073709551616
theorem rm (f:F5) (h:f.U):cI Tryz.prog 145 [I .u64 f.a0,I .u64 f.a1,I .u64 f.a2,I .u64 f.a3,I .u64 f.a4] (Ag (fz f).l):=by
 obtain ⟨⟨h0,zy⟩,⟨h1,h1'⟩,⟨h2,h2'⟩,⟨h3,h3'⟩,⟨h4,h4'⟩⟩:=h
 refine aJ Tryz.func145 rfl (by kernel_rfl) (by simp[Tryz.ntmps145]) rfl rfl ?_
 simp only[Tryz.results145,vS,seval]
 simp only[pX,jL f.a0 h0 zy,jL f.a1 h1 h1',jL f.a2 h2 h2',jL f.a3 h3 h3',jL f.a4 h4 h4']
 rw[au (19*_) (by omega) (by omega),au _ (by omega) (by omega),au _ (by omega) (by omega),au _ (by omega) (by omega),au _ (by omega) (by omega),au _ (by omega) (by omega)]
 rfl
structure F5.Ok (f:F5):Prop where
 h0:0≤f.a0∧f.a0 < 2251799813686272
 h1:0≤f.a1∧f.a1 < 2251799813686272
 h2:0≤f.a2∧f.a2 < 2251799813686272
 h3:0≤f.a3∧f.a3 < 2251799813686272
 h4:0≤f.a4∧f.a4 < 2251799813686272
def Ka (a b:F5):F5:=⟨a.a0+b.a0,a.a1+b.a1,a.a2+b.a2,a.a3+b.a3,a.a4+b.a4⟩
def Kc (a b:F5):F5:=⟨a.a0+4503599627370458 - b.a0,a.a1+4503599627370494 - b.a1,a.a2+4503599627370494 - b.a2,a.a3+4503599627370494 - b.a3,a.a4+4503599627370494 - b.a4⟩
theorem WD (a b:F5) (ha:a.Ok) (hb:b.Ok):cI Tryz.prog 141 [Ag a.l,Ag b.l] (Ag (fz (Ka a b)).l):=by
 obtain ⟨⟨h0,zy⟩,⟨h1,h1'⟩,⟨h2,h2'⟩,⟨h3,h3'⟩,⟨h4,h4'⟩⟩:=ha
 obtain ⟨⟨k0,Lm⟩,⟨k1,Ln⟩,⟨k2,Lo⟩,⟨k3,Lp⟩,⟨k4,Lq⟩⟩:=hb
 refine aJ Tryz.func141 rfl (by kernel_rfl) (by simp[Tryz.ntmps141]) rfl rfl ?_
 simp only[F5.l,Tryz.results141,vS,seval]
 rw[au (a.a0+b.a0) (by omega) (by omega),au (a.a1+b.a1) (by omega) (by omega),au (a.a2+b.a2) (by omega) (by omega),au (a.a3+b.a3) (by omega) (by omega),au (a.a4+b.a4) (by omega) (by omega)]
 refine (rm (Ka a b) ⟨?_, ?_, ?_, ?_, ?_⟩).ax ?_
 iterate 5 (simp only[Ka];omega)
 simp only[F5.l,vS,seval]
theorem WE (a b:F5) (ha:a.Ok) (hb:b.Ok):cI Tryz.prog 142 [Ag a.l,Ag b.l] (Ag (fz (Kc a b)).l):=by
 obtain ⟨⟨h0,zy⟩,⟨h1,h1'⟩,⟨h2,h2'⟩,⟨h3,h3'⟩,⟨h4,h4'⟩⟩:=ha
 obtain ⟨⟨k0,Lm⟩,⟨k1,Ln⟩,⟨k2,Lo⟩,⟨k3,Lp⟩,⟨k4,Lq⟩⟩:=hb
 refine aJ Tryz.func142 rfl (by kernel_rfl) (by simp[Tryz.ntmps142]) rfl rfl ?_
 simp only[F5.l,Tryz.results142,vS,seval]
 rw[au (a.a0+_) (by omega) (by omega),au (a.a1+_) (by omega) (by omega),au (a.a2+_) (by omega) (by omega),au (a.a3+_) (by omega) (by omega),au (a.a4+_) (by omega) (by omega),
  au (a.a0+_ - b.a0) (by omega) (by omega),au (a.a1+_ - b.a1) (by omega) (by omega),au (a.a2+_ - b.a2) (by omega) (by omega),au (a.a3+_ - b.a3) (by omega) (by omega),au (a.a4+_ - b.a4) (by omega) (by omega)]
 refine (rm (Kc a b) ⟨?_, ?_, ?_, ?_, ?_⟩).ax ?_
 iterate 5 (simp only[Kc];omega)
 simp only[F5.l,vS,seval]
end Go.Proofs.YtpnehhpadofcbaaGreatDoor
