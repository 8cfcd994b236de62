/-
  The digest of the document.
-/
import Derived.Test.YtoakenpcooglpaaGreatDoorVcgH1
import Derived.Test.YtoakenpcooglpaaGreatDoorVcgPL
import Derived.Test.YtoakenpcooglpaaGreatDoorVcgH
import Derived.Test.YtoakenpcooglpaaGreatDoorVcgT
import Derived.Test.YtoakenpcooglpaaGreatDoorVcgFacts
import Derived.Laws.Externs
set_option linter.unusedVariables false
set_option linter.unusedSimpArgs false
set_option maxHeartbeats 8000000
set_option maxRecDepth 20000
namespace Go.Proofs.YtoakenpcooglpaaGreatDoor
open Go.cA
set_option linter.unusedSectionVars false
variable [aX]
def cy (x:Int) (j:Nat):Int:=IntKind.u8.wrap (cr .u32 x (24 - 8*(j:Int)))
theorem VV (x:Int):cr .u32 x 0=x:=by
 have:=dK .u32 x 0 (by decide)
 simpa using this
theorem wP (x:Int):bt Tryz.prog 53 [I .u32 x] 0 (fun _=>none) (xY 0 4 (cy x)):=by
 refine aE Tryz.func53 rfl (by kernel_rfl) (by simp[Tryz.ntmps53]) Tryz.mc (by simp[AV.ok,CV.ok,SV.names]) xQ xR ?_
 simp only[Tryz.results53,Tryz.vs,Value.oneCell',simprocAttr, -List.reduceReplicate]
 have e3:IntKind.u8.wrap x=cy x 3:=by simp[cy,VV]
 refine ⟨by decide,by decide,by decide,by decide, ?_⟩
 refine dS (k:=0) (q:=12) (cs:=ae .u8 4 (cy x)) (by decide) ?_ aw ⟨rfl,rfl⟩
 rw[e3]
 simp only[ax]
 rfl
theorem agp {l:Nat} (hl:l < 140737488355328):bt Tryz.prog 77 [I .u64 (IntKind.u64.wrap (IntKind.u64.wrap (l:Int)*8))] 0 (fun _=>none) (Made 0 8 (oP l)):=by
 refine aE Tryz.func77 rfl (by kernel_rfl) (by simp[Tryz.ntmps77]) Tryz.mf (by simp[AV.ok,CV.ok,SV.names]) xQ xR ?_
 simp only[Tryz.results77,Tryz.vr,Value.oneCell',simprocAttr, -List.reduceReplicate]
 have e4: ∀ x:Int,IntKind.u32.wrap x=x%4294967296:=wrap_u32
 refine jd (wP _) (fun n=>n) gI rfl ?_
 simp only[Tryz.vr,Value.oneCell',simprocAttr, -List.reduceReplicate]
 refine jd (wP _) (fun n=>n) gI rfl ?_
 simp only[Tryz.vr,Value.oneCell',simprocAttr, -List.reduceReplicate]
 refine bn (g:=cy (IntKind.u32.wrap (IntKind.u64.wrap (IntKind.u64.wrap (l:Int)*8)))) Tryz.bS Tryz.bW (f:=cy (IntKind.u32.wrap (cr .u64 (IntKind.u64.wrap (IntKind.u64.wrap (l:Int)*8)) 32))) (b:=4) (cs:=ae .u8 4 (cy (IntKind.u32.wrap (cr .u64 (IntKind.u64.wrap (IntKind.u64.wrap (l:Int)*8)) 32)))) (by simp only[af,Tryz.vr,Value.oneCell',simprocAttr, -List.reduceReplicate])
  ⟨by rw[ah],by decide,aw,aP⟩ (.inr ⟨9,0,4,true,ae .u8 4 (cy (IntKind.u32.wrap (IntKind.u64.wrap (IntKind.u64.wrap (l:Int)*8)))),rfl,by simp only[af,Tryz.vr,Value.oneCell',simprocAttr, -List.reduceReplicate],aP,by decide⟩) (by decide) ?_
 intro c2 kZ gC
 simp only[Tryz.vr,Value.oneCell',simprocAttr, -List.reduceReplicate]
 refine eQ (k:=0) (by decide) (gC.congr (m:=8) rfl fun i hi=> ?_) (by simp only[af,Tryz.vr,Value.oneCell',simprocAttr, -List.reduceReplicate]) rfl
 have w1:IntKind.u64.wrap (IntKind.u64.wrap (l:Int)*8)=(l:Int)*8:=by rw[au (l:Int) (by omega) (by omega),au _ (by omega) (by omega)]
 have s32:cr .u64 ((l:Int)*8) 32=(l:Int)*8 / 4294967296:=dK .u64 _ 32 (by decide)
 rw[w1,s32]
 have s24: ∀ x:Int,cr .u32 x 24=x / 16777216:=fun x=>dK .u32 x 24 (by decide)
 have s16: ∀ x:Int,cr .u32 x 16=x / 65536:=fun x=>dK .u32 x 16 (by decide)
 have s8: ∀ x:Int,cr .u32 x 8=x / 256:=fun x=>dK .u32 x 8 (by decide)
 have hc:i=0∨i=1∨i=2∨i=3∨i=4∨i=5∨i=6∨i=7:=by omega
 rcases hc with rfl | rfl | rfl | rfl | rfl | rfl | rfl | rfl
 ·show cy _ 0=_
  simp only[cy,oP]
  show IntKind.u8.wrap (cr .u32 _ 24)=((l*8 / 72057594037927936%256:Nat):Int)
  rw[s24,e4,wrap_u8];omega
 ·show cy _ 1=_
  simp only[cy,oP]
  show IntKind.u8.wrap (cr .u32 _ 16)=((l*8 / 281474976710656%256:Nat):Int)
  rw[s16,e4,wrap_u8];omega
 ·show cy _ 2=_
  simp only[cy,oP]
  show IntKind.u8.wrap (cr .u32 _ 8)=((l*8 / 1099511627776%256:Nat):Int)
  rw[s8,e4,wrap_u8];omega
 ·show cy _ 3=_
  simp only[cy,oP]
  show IntKind.u8.wrap (cr .u32 _ 0)=((l*8 / 4294967296%256:Nat):Int)
  rw[VV,e4,wrap_u8];omega
 ·show cy _ 0=_
  simp only[cy,oP]
  show IntKind.u8.wrap (cr .u32 _ 24)=((l*8 / 16777216%256:Nat):Int)
  rw[s24,e4,wrap_u8];omega
 ·show cy _ 1=_
  simp only[cy,oP]
  show IntKind.u8.wrap (cr .u32 _ 16)=((l*8 / 65536%256:Nat):Int)
  rw[s16,e4,wrap_u8];omega
 ·show cy _ 2=_
  simp only[cy,oP]
  show IntKind.u8.wrap (cr .u32 _ 8)=((l*8 / 256%256:Nat):Int)
  rw[s8,e4,wrap_u8];omega
 ·show cy _ 3=_
  simp only[cy,oP]
  show IntKind.u8.wrap (cr .u32 _ 0)=((l*8 / 1%256:Nat):Int)
  rw[VV,e4,wrap_u8];omega
end Go.Proofs.YtoakenpcooglpaaGreatDoor
set_option maxHeartbeats 8000000
set_option maxRecDepth 20000
namespace Go.Proofs.YtoakenpcooglpaaGreatDoor
open Go.cA
set_option linter.unusedSectionVars false
variable [aX]
theorem Mk {k n:Nat} {v:AV} {f:Nat→Int} {ins:Nat→Option aW} (hf:bY f) (hv:bC ins v n f) (hn:n < 100000000) (hok:AV.ok (fun n=>n < k) v) (hall: ∀ n,n < k→ ∃ b,ins n=some b) (j6: ∀ n b,ins n=some b→n < k∧ ∀ x ∈ b.cells,SV.ok (fun n=>n < k) x) (hk:k≤20):
  bt Tryz.prog 93 [v] k ins (fun u out=>u=Ag (ae .u8 32 (iD kW b9 f n))∧out=fun _=>none):=by
 refine aE Tryz.func93 rfl (by kernel_rfl) (by simp[Tryz.ntmps93]) Tryz.qQ (fun u hu=>by rw[List.mem_singleton.1 hu];exact hok) hall j6 ?_
 simp only[Tryz.results93,Tryz.vr,Value.oneCell',simprocAttr, -List.reduceReplicate]
 have hG0:bR (ae .u8 0 (fun _=>0)) 0 0 0 (fun _=>0):=⟨rfl,by decide,rfl,fun i hi=>by omega⟩
 refine bn (g:=f) Tryz.bS Tryz.bW (by simp only[ax]) hG0 (lA hv hok (by omega) (fun t ht=>by simp only[upd];rw[if_neg (by omega),if_neg (by omega)])) (by omega) ?_
 intro c1 mT gx
 replace gx:=gx.congr (m:=n) (g:=f) (by omega) (fun i hi=>by simp[aR])
 simp only[Tryz.vr,Value.oneCell',simprocAttr, -List.reduceReplicate]
 refine bn (g:=fun _=>128) Tryz.bS Tryz.bW (by simp only[upd];rw[if_neg (by omega)];exact if_pos trivial) gx (.inr ⟨_,_,_,true,[Sum.inl (.int .u8 128)],rfl,by simp only[ax];rfl,b7,by omega⟩) (by omega) ?_
 intro c2 kZ gC
 have eB:blocks n=(n+8) / 64+1:=rfl
 replace gC:=gC.congr (m:=n+1+0) (g:=iS f n) (by omega) (fun i hi=>by
  simp only[aR,iS];split
  ·rfl
  ·rw[if_pos (by omega)])
 have hR:n+1≤64*blocks n - 8:=by omega
 simp only[Tryz.vr,Value.oneCell',simprocAttr, -List.reduceReplicate]
 refine lz (64*blocks n - 8 - (n+1)) (fun j (x:Nat×List SV)=>bR x.2 0 (n+1+j) x.1 (iS f n)) (fun j x=>[(2,Ptr k 0),(0,v),(3,Sl 60 0 (n+1+j) x.1)]) (fun j x=>[(60,⟨true,x.2⟩),(k,⟨true,ae .u8 32 (fun _=>0)⟩)]) 100 (c2,kZ) ⟨gC, ?_⟩ ?_ ?_ (by show _≤100;simp only[AS.put];omega)
 ·refine ⟨60,k+1+4+2,xW (by simp only[AS.put];omega) (by decide) ?_ (by simp only[ax]) gC.plain ?_⟩
  ·have e1:AV.bh (upd (fun n=>n) 60 (k+1+4+2)) v=v:=gu (fun n hn=>bg _ _ _ _ (by omega)) hok
   have e2:AV.ok (fun n=>n < 100) v:=AV.bA (fun n hn=>by omega) hok
   simp[e1,e2,af,iT,er,Gp,Qy,aie]
   omega
  ·have q1:(k=k+1+4+2)=False:=eq_false (by omega)
   have q2:(k=k+1+2)=False:=eq_false (by omega)
   have q3:(k=k+1+4+1)=False:=eq_false (by omega)
   have q4:(k=k+1)=False:=eq_false (by omega)
   simp[af,aw,q1,q2,q3,q4]
   exact ⟨by omega,fun x hx=>List.all_eq_true.1 aw x hx⟩
 ·rintro j ⟨c,cs⟩ hj hg
  have l1:n+1+j < 64*blocks n - 8:=by omega
  have r1:(((n+1+j:Nat):Int)).tmod 64=(((n+1+j)%64:Nat):Int):=NO (n+1+j) 64
  simp only[r1,Tryz.vr,Value.oneCell',simprocAttr, -List.reduceReplicate]
  refine aD (by simp;omega) ?_
  simp only[Tryz.vr,Value.oneCell',simprocAttr, -List.reduceReplicate]
  refine bn (g:=fun _=>0) Tryz.bS Tryz.bW (by simp only[af,Tryz.vr,Value.oneCell',simprocAttr, -List.reduceReplicate]) hg (.inr ⟨_,_,_,true,[Sum.inl (.int .u8 0)],rfl,by simp only[ax];rfl,b7,by omega⟩) (by omega) ?_
  intro c3 tt kH
  simp only[Tryz.vr,Value.oneCell',simprocAttr, -List.reduceReplicate]
  refine ⟨(c3,tt),kH.congr (by omega) (fun i hi=> ?_),60,106,xW (by omega) (by decide) ?_ (by simp only[ax]) kH.plain ?_⟩
  ·simp only[aR,iS];split
   ·rfl
   ·rw[if_neg (by omega),if_neg (by omega),if_pos (by omega)]
  ·have e1:AV.bh (upd (fun n=>n) 60 106) v=v:=gu (fun n hn=>bg _ _ _ _ (by omega)) hok
   have e2:AV.ok (fun n=>n < 100) v:=AV.bA (fun n hn=>by omega) hok
   simp[e1,e2,af,lk,iT,er,Gp,Qy,aie]
   omega
  ·have q1:(k=106)=False:=eq_false (by omega)
   have q2:(k=60)=False:=eq_false (by omega)
   have q3:(k=105)=False:=eq_false (by omega)
   simp[af,lk,aw,q1,q2,q3]
   exact ⟨by omega,fun x hx=>List.all_eq_true.1 aw x hx⟩
 ·rintro ⟨c,cs⟩ hg
  have l1:n+1+(64*blocks n - 8 - (n+1))=64*blocks n - 8:=by omega
  rw[l1]at hg
  have r1:(((64*blocks n - 8:Nat):Int)).tmod 64=(((64*blocks n - 8)%64:Nat):Int):=NO (64*blocks n - 8) 64
  simp only[l1,r1,Tryz.vr,Value.oneCell',simprocAttr, -List.reduceReplicate]
  refine aH (by simp;omega) ?_
  simp only[at_len hv,Tryz.vr,Value.oneCell',simprocAttr, -List.reduceReplicate]
  refine dW (agp (l:=n) (by omega)) (fun n=>n) gI rfl ?_
  intro c4 ajy h41 h42 h43
  simp only[Tryz.vr,Value.oneCell',simprocAttr, -List.reduceReplicate]
  refine bn (g:=oP n) Tryz.bS Tryz.bW (by simp only[af,Tryz.vr,Value.oneCell',simprocAttr, -List.reduceReplicate]) hg (.inr ⟨_,_,_,true,ae .u8 8 (oP n)++ajy,rfl,by simp only[ax],cV,by decide⟩) (by omega) ?_
  intro c5 cs5 Ni
  replace Ni:=Ni.congr (m:=64*blocks n) (g:=iS f n) (by omega) (fun i hi=>by
   simp only[aR];split
   ·rfl
   ·simp only[iS];rw[if_neg (by omega),if_neg (by omega),if_neg (by omega)])
  simp only[Tryz.vr,Value.oneCell',simprocAttr, -List.reduceReplicate]
  have e8:64*blocks n - 8+8=64*blocks n:=by omega
  have z8: ∀ r:Nat→Int,splice [Sum.inl (Value.int IntKind.u32 0),Sum.inl (Value.int IntKind.u32 0),Sum.inl (Value.int IntKind.u32 0),Sum.inl (Value.int IntKind.u32 0),Sum.inl (Value.int IntKind.u32 0),Sum.inl (Value.int IntKind.u32 0),Sum.inl (Value.int IntKind.u32 0),Sum.inl (Value.int IntKind.u32 0)] 0 (ae .u32 8 r)=ae .u32 8 r:=fun r=>dP .u32 8 (fun _=>0) r
  simp only[e8,z8]
  have ok5: ∀ {M:Nat→Prop},(∀ x ∈ cs5,SV.ok M x)=True:=eq_true (aJ Ni.plain)
  refine aG (blocks n) (fun i=>[(2,Ptr k 0),(3,Sl 110 0 (64*blocks n) c5),(4,Ptr 113 0),(5,I .i64 (64*i:Nat))])
   (fun i=>[(110,⟨true,cs5⟩),(113,⟨true,ae .u32 8 (iC kW b9 (iS f n) i)⟩),(k,⟨true,ae .u8 32 (fun _=>0)⟩)]) _ ?_ ?_ ?_
  ·have q1:(k=113)=False:=eq_false (by omega)
   have q2:(k=110)=False:=eq_false (by omega)
   have q3:(k=60)=False:=eq_false (by omega)
   have q4:(k=109)=False:=eq_false (by omega)
   simp only[q1,q2,q3,q4,if_false,ok5,iC,Tryz.vr,Value.oneCell',simprocAttr, -List.reduceReplicate]
   omega
  ·intro i hi
   have w1:IntKind.i64.wrap (((64*i:Nat):Int)+64)=((64*(i+1):Nat):Int):=by rw[wrap_i64 _ (by omega) (by omega)];omega
   have k1:(((64*(i+1):Nat):Int)≤((64*blocks n:Nat):Int))=True:=eq_true (by omega)
   have k2:(((64*i:Nat):Int)≤((64*(i+1):Nat):Int))=True:=eq_true (by omega)
   have k3:(((64*(i+1):Nat):Int)≤(c5:Int))=True:=eq_true (by have:=Ni.room;omega)
   simp only[w1,Tryz.vr,Value.oneCell',simprocAttr, -List.reduceReplicate]
   refine aD (by simp only[k1];rfl) ?_
   simp only[w1,k1,k2,k3,bl,Tryz.vr,Value.oneCell',simprocAttr, -List.reduceReplicate]
   refine ⟨by kernel_rfl, ?_⟩
   have eo:bE cs5 (if c5=64*i then 0 else 64*i) 64 (fun j=>iS f n (64*i+j)):=by
    have hr:=Ni.room
    rw[if_neg (by omega)]
    have:=jc Ni.ez (64*i) 64 (by omega)
    rwa [Nat.zero_add]at this
   have el:64*(i+1) - 64*i=64:=by omega
   rw[el]
   generalize (if c5=64*i then 0 else 64*i)=o' at eo ⊢
   refine (OQ (c:=c5 - 64*i) (Gu NT _) (fun j=>I6 hf n _) eo Ni.plain).en (fun _=>110) (dp (rw:=true) (by simp only[Tryz.vr,Value.oneCell',simprocAttr, -List.reduceReplicate]) Ni.plain) aw rfl (fun M h _ _=>h (Sl 110 o' 64 (c5 - 64*i)) (List.Mem.tail _ (List.Mem.head _))) ?_
   have z8': ∀ r r':Nat→Int,splice (ae .u32 8 r') 0 (ae .u32 8 r)=ae .u32 8 r:=fun r r'=>dP .u32 8 _ _
   have q1:(k=113)=False:=eq_false (by omega)
   have q2:(k=110)=False:=eq_false (by omega)
   simp only[z8',q1,q2,w1,ok5,iC,Tryz.vr,Value.oneCell',simprocAttr, -List.reduceReplicate]
   omega
  ·have w1:IntKind.i64.wrap (((64*blocks n:Nat):Int)+64)=((64*blocks n+64:Nat):Int):=by rw[wrap_i64 _ (by omega) (by omega)];omega
   simp only[w1,Tryz.vr,Value.oneCell',simprocAttr, -List.reduceReplicate]
   refine aH (by simp;omega) ?_
   simp only[Tryz.vr,Value.oneCell',simprocAttr, -List.reduceReplicate]
   refine aG 32 (fun j=>[(2,Ptr k 0),(4,Ptr 113 0),(6,Ptr 121 0),(7,I .i64 j)])
    (fun j=>[(113,⟨true,ae .u32 8 (iC kW b9 (iS f n) (blocks n))⟩),(121,⟨true,ae .u8 32 (fun i=>if i < j then iD kW b9 f n i else 0)⟩),(k,⟨true,ae .u8 32 (fun _=>0)⟩)]) _ ?_ ?_ ?_
   ·have q1:(k=121)=False:=eq_false (by omega)
    have q2:(k=110)=False:=eq_false (by omega)
    have q3:(k=113)=False:=eq_false (by omega)
    simp only[q1,q2,q3,if_false,Nat.not_lt_zero,Tryz.vr,Value.oneCell',simprocAttr, -List.reduceReplicate]
    omega
   ·intro j hj
    have q1:(k=121)=False:=eq_false (by omega)
    have q2:(k=113)=False:=eq_false (by omega)
    have a1:(((j / 4:Nat):Int) < 8)=True:=by simp;omega
    have a3:((j:Int) < 32)=True:=cf (m:=32) hj
    have q:=Cv j 4 (by omega)
    have r:=NO j 4
    rw[show ((4:Nat):Int)=4 from rfl]at q r
    have w1:IntKind.i64.wrap (8*((j%4:Nat):Int))=8*((j%4:Nat):Int):=wrap_i64 _ (by omega) (by omega)
    have w2:IntKind.i64.wrap (24 - 8*((j%4:Nat):Int))=24 - 8*((j%4:Nat):Int):=wrap_i64 _ (by omega) (by omega)
    have w3:IntKind.u64.wrap (24 - 8*((j%4:Nat):Int))=24 - 8*((j%4:Nat):Int):=au _ (by omega) (by omega)
    have a2:(0≤24 - 8*((j%4:Nat):Int))=True:=eq_true (by omega)
    have fin:ae .u8 32 (upd (fun i=>if i < j then iD kW b9 f n i else 0) j (iD kW b9 f n j))=ae .u8 32 (fun i=>if i < j+1 then iD kW b9 f n i else 0):=fc
    have eo:IntKind.u8.wrap (cr .u32 (iC kW b9 (iS f n) (blocks n) (j / 4)) (24 - 8*((j%4:Nat):Int)))=iD kW b9 f n j:=rfl
    simp only[Tryz.vr,Value.oneCell',simprocAttr, -List.reduceReplicate]
    refine aD (by simp;omega) ?_
    simp only[q1,q2,q,r,w1,w2,w3,a1,a2,a3,bl,ay .u32 8 (iC kW b9 (iS f n) (blocks n)) (j / 4) (by omega),Nat.mul_one,eo,aA .u8 32 _ j hj,fin,bD j (by omega),Tryz.vr,Value.oneCell',simprocAttr, -List.reduceReplicate]
    omega
   ·simp only[Tryz.vr,Value.oneCell',simprocAttr, -List.reduceReplicate]
    refine aH (by simp) ?_
    have hrow:ae .u8 32 (fun i=>if i < 32 then iD kW b9 f n i else 0)=ae .u8 32 (iD kW b9 f n):=aV fun i hi=>by rw[if_pos hi]
    have q1:(k=121)=False:=eq_false (by omega)
    have q2:(k=113)=False:=eq_false (by omega)
    simp only[hrow,q1,q2,Tryz.vr,Value.oneCell',simprocAttr, -List.reduceReplicate]
    exact aC aw ⟨rfl,rfl⟩
theorem kA {s:AS} {nm t o n c:Nat} {rw:Bool} {f:Nat→Int} {cs:List SV} (hf:bY f) (hb:s.box t=some ⟨rw,cs⟩) (hc:bE cs o n f) (hp:cs.all SV.plain=true) (hn:n < 100000000) {dst:Option Nat} {K:AS→Prop}
  (hk:K (s.put dst (some (Ag (ae .u8 32 (iD kW b9 f n)))))):aB Tryz.prog nm 93 (some [Sl t o n c]) dst K s:=
 (Mk (k:=1) (v:=Sl 0 o n c) (ins:=lk [(0,⟨false,cs⟩)]) hf (.inr ⟨0,o,c,false,cs,rfl,rfl,hp,hc⟩) hn (by show (0:Nat) < 1;decide) eG (eH hp) (by decide)).dV (fun _=>t) (dp hb hp) aw rfl hk
end Go.Proofs.YtoakenpcooglpaaGreatDoor
set_option maxHeartbeats 8000000
set_option maxRecDepth 20000
namespace Go.Proofs.YtoakenpcooglpaaGreatDoor
open Go.cA
set_option linter.unusedSectionVars false
variable [aX]
structure ajz (k:Nat) (l:List (Nat×aW)) (vm:AV) (m:Nat) (kf f:Nat→Int) (s:AS) (L:List (Nat×aW)) (v:AV) (n:Nat) (g:Nat→Int):Prop where
 e0:s.env 0=some v
 e1:s.env 1=some vm
 e4:s.env 4=some (Ptr k 0)
 next:s.next≤50
 np: ∀ x ∈ L,x.1 < s.next∧lk L x.1=some x.2∧s.box x.1=some x.2∧x.2.cells.all SV.plain=true
 cell:lk L k=some ⟨true,ae .u8 32 (fun _=>0)⟩
 hv:bC (lk L) v n g
 hvm:bC (lk L) vm m f
 hok:AV.ok (fun n=>n < s.next) v
 aaj:AV.ok (fun n=>n < s.next) vm
 hn:n≤64
 hg:bY g
 heq: ∀ i,kf i=if i < n then g i else 0
theorem Ml {l:List (Nat×aW)} {k nk m:Nat} {vk vm:AV} {key f:Nat→Int} (hkey:bY key) (hf:bY f) (hvk:bC (lk l) vk nk key) (hvm:bC (lk l) vm m f) (hnk:nk < 90000000) (hm:m < 90000000)
  (agq:AV.ok (fun n=>n < k) vk) (aaj:AV.ok (fun n=>n < k) vm) (hl: ∀ x ∈ l,x.1 < k∧lk l x.1=some x.2∧x.2.cells.all SV.plain=true) (hall: ∀ n,n < k→ ∃ b,lk l n=some b) (hk:k≤20):
  bt Tryz.prog 70 [vk,vm] k (lk l) (fun u out=>u=Ag (ae .u8 32 (fA kW b9 key nk f m))∧out=fun _=>none):=by
 refine aE Tryz.func70 rfl (by kernel_rfl) (by simp[Tryz.ntmps70]) Tryz.qD (fun u hu=>by
  simp only[List.mem_cons,List.not_mem_nil,or_false]at hu
  rcases hu with rfl | rfl
  ·exact agq
  ·exact aaj) hall (fun n b hb=>⟨(hl _ (bq _ _ _ hb)).1,aJ (hl _ (bq _ _ _ hb)).2.2⟩) ?_
 simp only[Tryz.results70,at_len hvk,Tryz.vr,Value.oneCell',simprocAttr, -List.reduceReplicate]
 refine Xq (fun s=> ∃ L v n g,ajz k l vm m (gf kW b9 key nk) f s L v n g) (fun h=> ?_) (fun h=> ?_) ?_
 ·simp only[Tryz.vr,Value.oneCell',simprocAttr, -List.reduceReplicate]
  have hn:64 < nk:=by have:=of_decide_eq_true h;omega
  obtain ⟨t,o,c,rw,cs,rfl,hb,hp,hs⟩:=oA hvk (by omega)
  have ht:t < k:=agq
  refine kA (rw:=rw) hkey (by simp only[upd];rw[if_neg (by omega)];exact hb) hs hp (by omega) ?_
  simp only[Tryz.vr,Value.oneCell',simprocAttr, -List.reduceReplicate]
  refine ⟨(k,⟨true,ae .u8 32 (fun _=>0)⟩)::(k+1+3+2,⟨true,ae .u8 32 (iD kW b9 key nk)⟩)::l,Sl (k+1+3+2) 0 32 32,32,iD kW b9 key nk,⟨rfl,rfl,rfl, ?_, ?_, ?_, ?_, ?_, ?_, ?_,by omega,rP _ _ _ _,fun i=> ?_⟩⟩
  ·show k+1+3+4+2≤50;omega
  ·intro x hx
   rcases List.mem_cons.1 hx with rfl | hx
   ·refine ⟨by show k < k+1+3+4+2;omega,by simp[lk], ?_,aw⟩
    simp only[upd];rw[if_neg (by omega),if_neg (by omega)];exact if_pos trivial
   rcases List.mem_cons.1 hx with rfl | hx
   ·refine ⟨by show k+1+3+2 < k+1+3+4+2;omega, ?_,by simp only[ax],aw⟩
    simp only[lk];rw[if_neg (by omega)];exact if_pos trivial
   ·obtain ⟨h1,h2,h3⟩:=hl x hx
    exact ⟨by show x.1 < k+1+3+4+2;omega,by simp only[lk];rw[if_neg (by omega),if_neg (by omega)];exact h2,by simp only[upd];rw[if_neg (by omega),if_neg (by omega),if_neg (by omega)];exact h2,h3⟩
  ·simp[lk]
  ·refine .inr ⟨_,_,_,true,ae .u8 32 (iD kW b9 key nk),rfl, ?_,aw,aP⟩
   simp only[lk];rw[if_neg (by omega)];exact if_pos trivial
  ·refine l6 hvm fun t b hb=> ?_
   have:=(hl _ (bq _ _ _ hb)).1
   simp only at this
   simp only[lk];rw[if_neg (by omega),if_neg (by omega)];exact hb
  ·show k+1+3+2 < k+1+3+4+2;omega
  ·exact AV.bA (fun n hn=>by show n < k+1+3+4+2;omega) aaj
  ·simp only[gf,gt_iff_lt];rw[if_pos hn]
 ·simp only[Tryz.vr,Value.oneCell',simprocAttr, -List.reduceReplicate]
  have hn: ¬ 64 < nk:=by have:=of_decide_eq_false h;omega
  refine ⟨(k,⟨true,ae .u8 32 (fun _=>0)⟩)::l,vk,nk,key,⟨rfl,rfl,rfl, ?_, ?_, ?_, ?_, ?_, ?_, ?_,by omega,hkey,fun i=> ?_⟩⟩
  ·show k+1+3≤50;omega
  ·intro x hx
   rcases List.mem_cons.1 hx with rfl | hx
   ·exact ⟨by show k < k+1+3;omega,by simp[lk],by simp[upd],aw⟩
   ·obtain ⟨h1,h2,h3⟩:=hl x hx
    have h0:x.1≠k:=by omega
    exact ⟨by show x.1 < k+1+3;omega,by simp only[lk];rw[if_neg h0];exact h2,by simp only[upd];rw[if_neg h0];exact h2,h3⟩
  ·simp[lk]
  ·refine l6 hvk fun t b hb=> ?_
   have:=(hl _ (bq _ _ _ hb)).1
   simp only at this
   simp only[lk];rw[if_neg (by omega)];exact hb
  ·refine l6 hvm fun t b hb=> ?_
   have:=(hl _ (bq _ _ _ hb)).1
   simp only at this
   simp only[lk];rw[if_neg (by omega)];exact hb
  ·exact AV.bA (fun n hn=>by show n < k+1+3;omega) agq
  ·exact AV.bA (fun n hn=>by show n < k+1+3;omega) aaj
  ·simp only[gf,gt_iff_lt];rw[if_neg hn]
 ·rintro s ⟨L,v,n,g,h⟩
  have E0:=h.e0
  have E1:=h.e1
  have E4:=h.e4
  have hN:=h.next
  obtain ⟨env,box,next⟩:=s
  simp only at E0 E1 E4 hN
  simp only[E0,E1,E4,Tryz.vr,Value.oneCell',simprocAttr, -List.reduceReplicate]
  have hL: ∀ x ∈ L,x.1 < 50∧x.1 < next+2+1∧lk L x.1=some x.2∧box x.1=some x.2∧x.2.cells.all SV.plain=true:=fun x hx=>by
   obtain ⟨h1,h2⟩:=h.np x hx
   exact ⟨by simp only at h1;omega,by simp only at h1;omega,h2⟩
  have ok0:AV.ok (fun n=>n < 50) v:=AV.bA (fun n (hn:n < next)=>by omega) h.hok
  have fy:AV.ok (fun n=>n < 50) vm:=AV.bA (fun n (hn:n < next)=>by omega) h.aaj
  have VW: ∀ {v:AV},AV.ok (fun n=>n < 50) v→AV.ok (fun n=>n < 100) v:=fun h=>AV.bA (fun n hn=>by omega) h
  have okk:k < 50:=by omega
  obtain ⟨_,_,_,_,_,hcell,hv,hvm,_,_,hn,hg,heq⟩:=h
  refine xV 64 (fun j (x:(Nat×List SV)×(Nat×List SV))=>j=0∨(bR x.1.2 0 j x.1.1 (eU kW b9 key nk 54)∧bR x.2.2 0 j x.2.1 (eU kW b9 key nk 92)))
   (fun j x=>[(0,v),(1,vm),(4,Ptr k 0),(6,if j=0 then V (.slice none 0 0) else Sl 60 0 j x.1.1),(7,if j=0 then V (.slice none 0 0) else Sl 61 0 j x.2.1),(8,I .i64 j)])
   (fun j x=>if j=0 then L else (60,⟨true,x.1.2⟩)::(61,⟨true,x.2.2⟩)::L) 100 ((0,[]),(0,[])) ⟨.inl rfl,fun n=>n, ?_⟩ ?_ ?_ (by show next+2+1≤100;omega)
  ·simp only[if_true]
   refine Vx (by omega) ?_ (fun x hx=>⟨(hL x hx).2.1,(hL x hx).2.2.2⟩)
   simp only[E0,E1,E4,Tryz.vr,Value.oneCell',simprocAttr, -List.reduceReplicate]
   exact ⟨VW ok0,VW fy,by omega,trivial⟩
  ·rintro j ⟨⟨c1,mT⟩,c2,kZ⟩ hj hI
   have hkj:gf kW b9 key nk j=if j < n then g j else 0:=heq j
   have US: ∀ x,aS .xor .u8 (gf kW b9 key nk j) x=eU kW b9 key nk x j:=fun x=>rfl
   have F: ∀ x ∈ L, ∀ z,50≤z→(x.1=z)=False:=fun x hx z hz=>eq_false (by have:=(hL x hx).1;omega)
   rcases j with _ | j
   ·simp only[Tryz.vr,Value.oneCell',simprocAttr, -List.reduceReplicate]
    refine aD (by simp) ?_
    simp only[at_len hv,Tryz.vr,Value.oneCell',simprocAttr, -List.reduceReplicate]
    by_cases hjn:0 < n
    ·rw[if_pos hjn]at hkj
     refine aD (by simp;omega) ?_
     obtain ⟨t,o,c,rw,cs,rfl,hb,hp,hs⟩:=oA hv (by omega)
     have hld:=hs 0 hjn
     have a0:((0:Int) < (n:Int))=True:=eq_true (by omega)
     rw[Nat.add_zero, ← hkj]at hld
     simp only[Nat.mul_one,a0,hb,hld,US,Tryz.vr,Value.oneCell',simprocAttr, -List.reduceReplicate]
     refine ia (g:=fun _=>eU kW b9 key nk 54 0) Tryz.bS Tryz.bW (.inr ⟨_,_,_,true,[Sum.inl (.int .u8 (eU kW b9 key nk 54 0))],rfl,by simp only[ax];rfl,rfl,b7⟩) (by decide) (fun h=>by cases h) ?_
     intro _ c3 tt kH
     simp only[US,Tryz.vr,Value.oneCell',simprocAttr, -List.reduceReplicate]
     refine ia (g:=fun _=>eU kW b9 key nk 92 0) Tryz.bS Tryz.bW (.inr ⟨_,_,_,true,[Sum.inl (.int .u8 (eU kW b9 key nk 92 0))],rfl,by simp only[ax];rfl,rfl,b7⟩) (by decide) (fun h=>by cases h) ?_
     intro _ c4 Cn oH
     replace kH:=kH.congr (g:=eU kW b9 key nk 54) (m:=0+1) rfl (fun i hi=>by rw[show i=0 by omega])
     replace oH:=oH.congr (g:=eU kW b9 key nk 92) (m:=0+1) rfl (fun i hi=>by rw[show i=0 by omega])
     simp only[US,Tryz.vr,Value.oneCell',simprocAttr, -List.reduceReplicate]
     refine ⟨((c3,tt),(c4,Cn)), .inr ⟨kH,oH⟩,_,oy (p:=116) (q:=122) (by omega) (by decide) (by decide) ?_ (by simp only[af,Tryz.vr,Value.oneCell',simprocAttr, -List.reduceReplicate]) kH.plain (by simp only[ax]) oH.plain ?_⟩
     ·have r0:=gu (r:=upd (upd (fun n=>n) 60 116) 61 122) (fun n hn=>by rw[bg _ _ _ _ (by omega),bg _ _ _ _ (by omega)]) ok0
      have r1:=gu (r:=upd (upd (fun n=>n) 60 116) 61 122) (fun n hn=>by rw[bg _ _ _ _ (by omega),bg _ _ _ _ (by omega)]) fy
      have k0:(k=60)=False:=eq_false (by omega)
      have k1:(k=61)=False:=eq_false (by omega)
      have o0:=VW ok0
      have o1:=VW fy
      have k2:(k < 100)=True:=eq_true (by omega)
      simp only[r0,r1,o0,o1,k0,k1,k2,iT,er,gy,af,Tryz.vr,Value.oneCell',simprocAttr, -List.reduceReplicate]
      rfl
     ·intro x hx
      obtain ⟨h1,h2,h3,h4,h5⟩:=hL x hx
      have Fx:=F x hx
      refine ⟨h2,by omega,by omega, ?_,h5⟩
      simp only[Fx 60 (by decide),Fx 61 (by decide),Fx 110 (by decide),Fx 111 (by decide),Fx 115 (by decide),Fx 116 (by decide),Fx 117 (by decide),Fx 121 (by decide),Fx 122 (by decide),h3,af,Tryz.vr,Value.oneCell',simprocAttr, -List.reduceReplicate]
    ·rw[if_neg hjn]at hkj
     refine aH (by simp;omega) ?_
     rw[hkj]at US
     simp only[US,Tryz.vr,Value.oneCell',simprocAttr, -List.reduceReplicate]
     refine ia (g:=fun _=>eU kW b9 key nk 54 0) Tryz.bS Tryz.bW (.inr ⟨_,_,_,true,[Sum.inl (.int .u8 (eU kW b9 key nk 54 0))],rfl,by simp only[ax];rfl,rfl,b7⟩) (by decide) (fun h=>by cases h) ?_
     intro _ c3 tt kH
     simp only[US,Tryz.vr,Value.oneCell',simprocAttr, -List.reduceReplicate]
     refine ia (g:=fun _=>eU kW b9 key nk 92 0) Tryz.bS Tryz.bW (.inr ⟨_,_,_,true,[Sum.inl (.int .u8 (eU kW b9 key nk 92 0))],rfl,by simp only[ax];rfl,rfl,b7⟩) (by decide) (fun h=>by cases h) ?_
     intro _ c4 Cn oH
     replace kH:=kH.congr (g:=eU kW b9 key nk 54) (m:=0+1) rfl (fun i hi=>by rw[show i=0 by omega])
     replace oH:=oH.congr (g:=eU kW b9 key nk 92) (m:=0+1) rfl (fun i hi=>by rw[show i=0 by omega])
     simp only[US,Tryz.vr,Value.oneCell',simprocAttr, -List.reduceReplicate]
     refine ⟨((c3,tt),(c4,Cn)), .inr ⟨kH,oH⟩,_,oy (p:=111) (q:=117) (by omega) (by decide) (by decide) ?_ (by simp only[af,Tryz.vr,Value.oneCell',simprocAttr, -List.reduceReplicate]) kH.plain (by simp only[ax]) oH.plain ?_⟩
     ·have r0:=gu (r:=upd (upd (fun n=>n) 60 111) 61 117) (fun n hn=>by rw[bg _ _ _ _ (by omega),bg _ _ _ _ (by omega)]) ok0
      have r1:=gu (r:=upd (upd (fun n=>n) 60 111) 61 117) (fun n hn=>by rw[bg _ _ _ _ (by omega),bg _ _ _ _ (by omega)]) fy
      have k0:(k=60)=False:=eq_false (by omega)
      have k1:(k=61)=False:=eq_false (by omega)
      have o0:=VW ok0
      have o1:=VW fy
      have k2:(k < 100)=True:=eq_true (by omega)
      simp only[r0,r1,o0,o1,k0,k1,k2,iT,er,gy,af,Tryz.vr,Value.oneCell',simprocAttr, -List.reduceReplicate]
      rfl
     ·intro x hx
      obtain ⟨h1,h2,h3,h4,h5⟩:=hL x hx
      have Fx:=F x hx
      refine ⟨h2,by omega,by omega, ?_,h5⟩
      simp only[Fx 60 (by decide),Fx 61 (by decide),Fx 110 (by decide),Fx 111 (by decide),Fx 115 (by decide),Fx 116 (by decide),Fx 117 (by decide),Fx 121 (by decide),Fx 122 (by decide),h3,af,Tryz.vr,Value.oneCell',simprocAttr, -List.reduceReplicate]
   ·obtain ⟨gx,gC⟩:=hI.resolve_left (by omega)
    simp only[Nat.add_one_ne_zero,if_false,Tryz.vr,Value.oneCell',simprocAttr, -List.reduceReplicate]
    refine aD (by simp;omega) ?_
    simp only[at_len hv,Tryz.vr,Value.oneCell',simprocAttr, -List.reduceReplicate]
    by_cases hjn:j+1 < n
    ·rw[if_pos hjn]at hkj
     refine aD (by simp;omega) ?_
     obtain ⟨t,o,c,rw,cs,rfl,hb,hp,hs⟩:=oA hv (by omega)
     have hld:=hs (j+1) hjn
     have a0:(((j+1:Nat):Int) < (n:Int))=True:=eq_true (by omega)
     have f60:=F _ (bq _ _ _ hb) 60 (by decide)
     have f61:=F _ (bq _ _ _ hb) 61 (by decide)
     simp only at f60 f61
     rw[← hkj]at hld
     simp only[Nat.mul_one,a0,bl,f60,f61,hb,hld,US,Tryz.vr,Value.oneCell',simprocAttr, -List.reduceReplicate]
     refine bn (g:=fun _=>eU kW b9 key nk 54 (j+1)) Tryz.bS Tryz.bW (by simp only[af,Tryz.vr,Value.oneCell',simprocAttr, -List.reduceReplicate]) gx (.inr ⟨_,_,_,true,[Sum.inl (.int .u8 (eU kW b9 key nk 54 (j+1)))],rfl,by simp only[ax];rfl,b7,by decide⟩) (by omega) ?_
     intro c3 tt kH
     simp only[US,Tryz.vr,Value.oneCell',simprocAttr, -List.reduceReplicate]
     refine bn (g:=fun _=>eU kW b9 key nk 92 (j+1)) Tryz.bS Tryz.bW (by simp only[af,Tryz.vr,Value.oneCell',simprocAttr, -List.reduceReplicate]) gC (.inr ⟨_,_,_,true,[Sum.inl (.int .u8 (eU kW b9 key nk 92 (j+1)))],rfl,by simp only[ax];rfl,b7,by decide⟩) (by omega) ?_
     intro c4 Cn oH
     replace kH:=kH.congr (g:=eU kW b9 key nk 54) (m:=j+1+1) rfl (fun i hi=>by
      simp only[aR];split
      ·rfl
      ·rw[show i=j+1 by omega])
     replace oH:=oH.congr (g:=eU kW b9 key nk 92) (m:=j+1+1) rfl (fun i hi=>by
      simp only[aR];split
      ·rfl
      ·rw[show i=j+1 by omega])
     simp only[US,Tryz.vr,Value.oneCell',simprocAttr, -List.reduceReplicate]
     refine ⟨((c3,tt),(c4,Cn)), .inr ⟨kH,oH⟩,_,oy (p:=116) (q:=122) (by omega) (by decide) (by decide) ?_ (by simp only[af,Tryz.vr,Value.oneCell',simprocAttr, -List.reduceReplicate]) kH.plain (by simp only[ax]) oH.plain ?_⟩
     ·have r0:=gu (r:=upd (upd (fun n=>n) 60 116) 61 122) (fun n hn=>by rw[bg _ _ _ _ (by omega),bg _ _ _ _ (by omega)]) ok0
      have r1:=gu (r:=upd (upd (fun n=>n) 60 116) 61 122) (fun n hn=>by rw[bg _ _ _ _ (by omega),bg _ _ _ _ (by omega)]) fy
      have k0:(k=60)=False:=eq_false (by omega)
      have k1:(k=61)=False:=eq_false (by omega)
      have o0:=VW ok0
      have o1:=VW fy
      have k2:(k < 100)=True:=eq_true (by omega)
      simp only[r0,r1,o0,o1,k0,k1,k2,iT,er,gy,af,bD (j+1) (by omega),Tryz.vr,Value.oneCell',simprocAttr, -List.reduceReplicate]
     ·intro x hx
      obtain ⟨h1,h2,h3,h4,h5⟩:=hL x hx
      have Fx:=F x hx
      refine ⟨h2,by omega,by omega, ?_,h5⟩
      simp only[Fx 60 (by decide),Fx 61 (by decide),Fx 110 (by decide),Fx 111 (by decide),Fx 115 (by decide),Fx 116 (by decide),Fx 117 (by decide),Fx 121 (by decide),Fx 122 (by decide),h3,af,Tryz.vr,Value.oneCell',simprocAttr, -List.reduceReplicate]
    ·rw[if_neg hjn]at hkj
     refine aH (by simp;omega) ?_
     rw[hkj]at US
     simp only[US,Tryz.vr,Value.oneCell',simprocAttr, -List.reduceReplicate]
     refine bn (g:=fun _=>eU kW b9 key nk 54 (j+1)) Tryz.bS Tryz.bW (by simp only[af,Tryz.vr,Value.oneCell',simprocAttr, -List.reduceReplicate]) gx (.inr ⟨_,_,_,true,[Sum.inl (.int .u8 (eU kW b9 key nk 54 (j+1)))],rfl,by simp only[ax];rfl,b7,by decide⟩) (by omega) ?_
     intro c3 tt kH
     simp only[US,Tryz.vr,Value.oneCell',simprocAttr, -List.reduceReplicate]
     refine bn (g:=fun _=>eU kW b9 key nk 92 (j+1)) Tryz.bS Tryz.bW (by simp only[af,Tryz.vr,Value.oneCell',simprocAttr, -List.reduceReplicate]) gC (.inr ⟨_,_,_,true,[Sum.inl (.int .u8 (eU kW b9 key nk 92 (j+1)))],rfl,by simp only[ax];rfl,b7,by decide⟩) (by omega) ?_
     intro c4 Cn oH
     replace kH:=kH.congr (g:=eU kW b9 key nk 54) (m:=j+1+1) rfl (fun i hi=>by
      simp only[aR];split
      ·rfl
      ·rw[show i=j+1 by omega])
     replace oH:=oH.congr (g:=eU kW b9 key nk 92) (m:=j+1+1) rfl (fun i hi=>by
      simp only[aR];split
      ·rfl
      ·rw[show i=j+1 by omega])
     simp only[US,Tryz.vr,Value.oneCell',simprocAttr, -List.reduceReplicate]
     refine ⟨((c3,tt),(c4,Cn)), .inr ⟨kH,oH⟩,_,oy (p:=111) (q:=117) (by omega) (by decide) (by decide) ?_ (by simp only[af,Tryz.vr,Value.oneCell',simprocAttr, -List.reduceReplicate]) kH.plain (by simp only[ax]) oH.plain ?_⟩
     ·have r0:=gu (r:=upd (upd (fun n=>n) 60 111) 61 117) (fun n hn=>by rw[bg _ _ _ _ (by omega),bg _ _ _ _ (by omega)]) ok0
      have r1:=gu (r:=upd (upd (fun n=>n) 60 111) 61 117) (fun n hn=>by rw[bg _ _ _ _ (by omega),bg _ _ _ _ (by omega)]) fy
      have k0:(k=60)=False:=eq_false (by omega)
      have k1:(k=61)=False:=eq_false (by omega)
      have o0:=VW ok0
      have o1:=VW fy
      have k2:(k < 100)=True:=eq_true (by omega)
      simp only[r0,r1,o0,o1,k0,k1,k2,iT,er,gy,af,bD (j+1) (by omega),Tryz.vr,Value.oneCell',simprocAttr, -List.reduceReplicate]
     ·intro x hx
      obtain ⟨h1,h2,h3,h4,h5⟩:=hL x hx
      have Fx:=F x hx
      refine ⟨h2,by omega,by omega, ?_,h5⟩
      simp only[Fx 60 (by decide),Fx 61 (by decide),Fx 110 (by decide),Fx 111 (by decide),Fx 115 (by decide),Fx 116 (by decide),Fx 117 (by decide),Fx 121 (by decide),Fx 122 (by decide),h3,af,Tryz.vr,Value.oneCell',simprocAttr, -List.reduceReplicate]
  ·rintro ⟨⟨c1,mT⟩,c2,kZ⟩ hI
   have hI:=hI.resolve_left (by decide)
   obtain ⟨gx,gC⟩:=hI
   simp only[Tryz.vr,Value.oneCell',simprocAttr, -List.reduceReplicate]
   refine aH (by simp) ?_
   simp only[Tryz.vr,Value.oneCell',simprocAttr, -List.reduceReplicate]
   refine bn (g:=f) Tryz.bS Tryz.bW (by simp only[Tryz.vr,Value.oneCell',simprocAttr, -List.reduceReplicate]) gx (afX hvm fun t b hb=> ?_) (by omega) ?_
   ·have f60:=eq_false (p:=t=60) (by have:=(hL _ (bq _ _ _ hb)).1;simp only at this;omega)
    have f61:=eq_false (p:=t=61) (by have:=(hL _ (bq _ _ _ hb)).1;simp only at this;omega)
    simp only[f60,f61,hb,Tryz.vr,Value.oneCell',simprocAttr, -List.reduceReplicate]
   intro c3 tt kH
   simp only[Tryz.vr,Value.oneCell',simprocAttr, -List.reduceReplicate]
   refine kA (rw:=true) (eV (rQ _ _ _ _ _) hf) (by simp only[ax]) kH.ez kH.plain (by omega) ?_
   simp only[Tryz.vr,Value.oneCell',simprocAttr, -List.reduceReplicate]
   refine bn (g:=iD kW b9 (aR 64 (eU kW b9 key nk 54) f) (64+m)) Tryz.bS Tryz.bW (by simp only[af,Tryz.vr,Value.oneCell',simprocAttr, -List.reduceReplicate]) gC (.inr ⟨_,_,_,true,ae .u8 32 (iD kW b9 (aR 64 (eU kW b9 key nk 54) f) (64+m)),rfl,by simp only[af,Tryz.vr,Value.oneCell',simprocAttr, -List.reduceReplicate],aP,by decide⟩) (by decide) ?_
   intro c4 Cn oH
   simp only[Tryz.vr,Value.oneCell',simprocAttr, -List.reduceReplicate]
   refine kA (rw:=true) (eV (rQ _ _ _ _ _) (rP _ _ _ _)) (by simp only[ax]) oH.ez oH.plain (by decide) ?_
   have q1: ∀ z,50≤z→(k=z)=False:=fun z hz=>eq_false (by omega)
   simp only[q1 60 (by decide),q1 61 (by decide),q1 104 (by decide),q1 108 (by decide),q1 112 (by decide),hcell,Tryz.vr,Value.oneCell',simprocAttr, -List.reduceReplicate]
   exact aC aw ⟨rfl,rfl⟩
end Go.Proofs.YtoakenpcooglpaaGreatDoor
set_option maxHeartbeats 8000000
set_option maxRecDepth 20000
namespace Go.Proofs.YtoakenpcooglpaaGreatDoor
open Go.cA
set_option linter.unusedSectionVars false
variable [aX]
theorem gm {s:AS} {nm ta tb o n c o' m c':Nat} {rwa rwb:Bool} {key f:Nat→Int} {cs ds:List SV} (hkey:bY key) (hf:bY f) (hb:s.box ta=some ⟨rwa,cs⟩) (hc:bE cs o n key) (hp:cs.all SV.plain=true) (hb':s.box tb=some ⟨rwb,ds⟩) (Cm:bE ds o' m f) (hp':ds.all SV.plain=true)
  (hn:n < 90000000) (hm:m < 90000000) {dst:Option Nat} {K:AS→Prop} (hk:K (s.put dst (some (Ag (ae .u8 32 (fA kW b9 key n f m)))))):aB Tryz.prog nm 70 (some [Sl ta o n c,Sl tb o' m c']) dst K s:=by
 refine (Ml (k:=2) (l:=[(0,⟨false,cs⟩),(1,⟨false,ds⟩)]) (vk:=Sl 0 o n c) (vm:=Sl 1 o' m c') hkey hf (.inr ⟨0,o,c,false,cs,rfl,rfl,hp,hc⟩) (.inr ⟨1,o',c',false,ds,rfl,rfl,hp',Cm⟩) hn hm (by show (0:Nat) < 2;decide) (by show (1:Nat) < 2;decide) (fun x hx=> ?_) nq (by decide)).dV (two ta tb) (jz hb hp hb' hp') aw rfl hk
 simp only[List.mem_cons,List.not_mem_nil,or_false]at hx
 rcases hx with rfl | rfl
 ·exact ⟨by show (0:Nat) < 2;decide,rfl,hp⟩
 ·exact ⟨by show (1:Nat) < 2;decide,rfl,hp'⟩
def OS (k:Nat) (l:List (Nat×aW)) (vi:AV) (m:Nat) (info:Nat→Int):Prop:=
 (k=0∧l=[]∧(∃ a,vi=V (.slice a 0 0))∧m=0)∨(k=1∧ ∃ o c cs,l=[(0,⟨false,cs⟩)]∧vi=Sl 0 o m c∧cs.all SV.plain=true∧bE cs o m info)
theorem OT {k m:Nat} {l:List (Nat×aW)} {vi:AV} {p info:Nat→Int} (hi:OS k l vi m info):bt Tryz.prog 71 [Ag (ae .u8 32 p),vi,I .i64 0] k (lk l) (Made k 0 (gK kW b9 p info m)):=by
  have hok:AV.ok (fun n=>n < k) vi:=by
   rcases hi with ⟨rfl,rfl,⟨a,rfl⟩,rfl⟩ | ⟨rfl,o,c,cs,rfl,rfl,hp,hs⟩
   ·trivial
   ·show (0:Nat) < 1;decide
  rcases hi with ⟨rfl,rfl,⟨a,rfl⟩,rfl⟩ | ⟨rfl,o,c,cs,rfl,rfl,hp,hs⟩
  ·refine aE Tryz.func71 rfl (by kernel_rfl) (by simp[Tryz.ntmps71]) Tryz.ji (fun u hu=>by
    simp only[List.mem_cons,List.not_mem_nil,or_false]at hu
    rcases hu with rfl | rfl | rfl
    ·exact aJ aw
    ·exact hok
    ·trivial) (fun n hn=>by omega) (fun n c h=>by cases h) ?_
   simp only[Tryz.results71,Tryz.vr,Value.oneCell',simprocAttr, -List.reduceReplicate]
   refine aD rfl ?_
   simp only[Tryz.vr,Value.oneCell',simprocAttr, -List.reduceReplicate]
   refine eQ (cs:=ae .u8 0 (fun _=>0)) (f:=gK kW b9 p info 0) (by decide) ⟨rfl,by decide,rfl,fun i hi=>by omega⟩ (by simp only[ax]) rfl
  ·refine aE Tryz.func71 rfl (by kernel_rfl) (by simp[Tryz.ntmps71]) Tryz.ji (fun u hu=>by
    simp only[List.mem_cons,List.not_mem_nil,or_false]at hu
    rcases hu with rfl | rfl | rfl
    ·exact aJ aw
    ·exact hok
    ·trivial) eG (eH hp) ?_
   simp only[Tryz.results71,Tryz.vr,Value.oneCell',simprocAttr, -List.reduceReplicate]
   refine aD rfl ?_
   simp only[Tryz.vr,Value.oneCell',simprocAttr, -List.reduceReplicate]
   refine eQ (cs:=ae .u8 0 (fun _=>0)) (f:=gK kW b9 p info m) (by decide) ⟨rfl,by decide,rfl,fun i hi=>by omega⟩ (by simp only[ax]) rfl
theorem OU {k m d:Nat} {l:List (Nat×aW)} {vi:AV} {p info:Nat→Int} (G2:bY p) (Cl:bY info) (hi:OS k l vi m info) (hm:m < 80000000) (hd:d < 1000) (ih:bt Tryz.prog 71 [Ag (ae .u8 32 p),vi,I .i64 d] k (lk l) (Made k (32*d) (gK kW b9 p info m))):
  bt Tryz.prog 71 [Ag (ae .u8 32 p),vi,I .i64 (d+1:Nat)] k (lk l) (Made k (32*(d+1)) (gK kW b9 p info m)):=by
  have hok:AV.ok (fun n=>n < k) vi:=by
   rcases hi with ⟨rfl,rfl,⟨a,rfl⟩,rfl⟩ | ⟨rfl,o,c,cs,rfl,rfl,hp,hs⟩
   ·trivial
   ·show (0:Nat) < 1;decide
  rcases hi with ⟨rfl,rfl,⟨a,rfl⟩,hm0⟩ | ⟨rfl,o,c,cs,rfl,rfl,hp,hs⟩
  ·refine aE Tryz.func71 rfl (by kernel_rfl) (by simp[Tryz.ntmps71]) Tryz.ji (fun u hu=>by
    simp only[List.mem_cons,List.not_mem_nil,or_false]at hu
    rcases hu with rfl | rfl | rfl
    ·exact aJ aw
    ·exact hok
    ·trivial) (fun n hn=>by omega) (fun n c h=>by cases h) ?_
   simp only[Tryz.results71,Tryz.vr,Value.oneCell',simprocAttr, -List.reduceReplicate]
   refine aH (by simp<;>omega) ?_
   have w0:IntKind.i64.wrap (((d+1:Nat):Int) - 1)=(d:Int):=by rw[wrap_i64 _ (by omega) (by omega)];omega
   simp only[w0,Tryz.vr,Value.oneCell',simprocAttr, -List.reduceReplicate]
   refine dW ih (fun n=>n) gI (by simp only[List.map_cons,List.map_nil,fV,gy,er,jS]) ?_
   intro c1 eJ h11 h12 h13
   simp only[Tryz.vr,Value.oneCell',simprocAttr, -List.reduceReplicate]
   have hgA:bR (ae .u8 (32*d) (gK kW b9 p info m)++eJ) 0 (32*d) c1 (gK kW b9 p info m):=bR.row h11 h12 h13
   have hg0:bR (ae .u8 0 (fun _=>0)) 0 0 0 (fun _=>0):=⟨rfl,by decide,rfl,fun i hi=>by omega⟩
   by_cases N9:d=0
   ·refine aH (by simp;omega) ?_
    simp only[Tryz.vr,Value.oneCell',simprocAttr, -List.reduceReplicate]
    refine bn (g:=info) Tryz.bS Tryz.bW (by simp only[af,Tryz.vr,Value.oneCell',simprocAttr, -List.reduceReplicate]) hg0 (.inl ⟨⟨a,rfl⟩,hm0⟩) (by omega) ?_
    intro c2 kZ gC
    replace gC:=gC.congr (m:=m) (g:=info) (by omega) (fun i hi=>by simp[aR])
    simp only[Tryz.vr,Value.oneCell',simprocAttr, -List.reduceReplicate]
    refine bn (g:=fun _=>IntKind.u8.wrap ((d+1:Nat):Int)) Tryz.bS Tryz.bW (by simp only[af,Tryz.vr,Value.oneCell',simprocAttr, -List.reduceReplicate]) gC (.inr ⟨_,_,_,true,[Sum.inl (.int .u8 (IntKind.u8.wrap ((d+1:Nat):Int)))],rfl,by simp only[ax];rfl,b7,by decide⟩) (by omega) ?_
    intro c3 tt kH
    simp only[Tryz.vr,Value.oneCell',simprocAttr, -List.reduceReplicate]
    refine gm (rwa:=true) (rwb:=true) G2 (eV Cl (fun _=>FJ _)) (by simp only[af,Tryz.vr,Value.oneCell',simprocAttr, -List.reduceReplicate]) aP aw (by simp only[af,Tryz.vr,Value.oneCell',simprocAttr, -List.reduceReplicate]) kH.ez kH.plain (by decide) (by omega) ?_
    have hT:fA kW b9 p 32 (aR m info (fun _=>IntKind.u8.wrap ((d+1:Nat):Int))) (m+1)=oQ kW b9 p info m (d+1):=by
     show _=fA kW b9 p 32 (if d=0 then _ else _) ((if d=0 then 0 else 32)+(m+1))
     rw[if_pos N9,if_pos N9,Nat.zero_add,N9]
     rfl
    rw[hT]
    have hA:=fun i hi=>nY (K:=kW) (V:=b9) (p:=p) (info:=info) (m:=m) (k:=d) (i:=i) hi
    obtain ⟨T,WE⟩: ∃ T,oQ kW b9 p info m (d+1)=T:=⟨_,rfl⟩
    rw[WE]at hA ⊢
    simp only[Tryz.vr,Value.oneCell',simprocAttr, -List.reduceReplicate]
    refine bn (g:=T) Tryz.bS Tryz.bW (by simp only[af,Tryz.vr,Value.oneCell',simprocAttr, -List.reduceReplicate]) hgA (.inr ⟨_,0,32,true,ae .u8 32 T,rfl,by simp only[af,Tryz.vr,Value.oneCell',simprocAttr, -List.reduceReplicate],aP,by decide⟩) (by omega) ?_
    intro c4 Cn oH
    simp only[Tryz.vr,Value.oneCell',simprocAttr, -List.reduceReplicate]
    exact eQ (by decide) (oH.congr (m:=32*(d+1)) (by omega) (fun i hi=>by
     simp only[aR];split
     ·rfl
     ·rw[← hA _ (by omega),show 32*d+(i - 32*d)=i by omega])) (by simp only[ax]) rfl
   ·refine aD (by simp;omega) ?_
    have w1:IntKind.i64.wrap (((32*d:Nat):Int) - 32)=((32*d - 32:Nat):Int):=by rw[wrap_i64 _ (by omega) (by omega)];omega
    have a1:(((32*d - 32:Nat):Int)≤((32*d:Nat):Int))=True:=eq_true (by omega)
    have a2:(((32*d:Nat):Int)≤(c1:Int))=True:=eq_true (by omega)
    have hL:bE (ae .u8 (32*d) (gK kW b9 p info m)++eJ) (if c1=32*d - 32 then 0 else 32*d - 32) 32 (oQ kW b9 p info m d):=by
     rw[if_neg (by omega)]
     have h:=jc hgA.ez (32*d - 32) 32 (by omega)
     rw[Nat.zero_add]at h
     refine kO h fun i hi=> ?_
     have:=nY (K:=kW) (V:=b9) (p:=p) (info:=info) (m:=m) (k:=d - 1) (i:=i) hi
     rw[show 32*(d - 1)+i=32*d - 32+i by omega,show d - 1+1=d by omega]at this
     exact this
    have e32:32*d - (32*d - 32)=32:=by omega
    simp only[w1,a1,a2,e32,bl,Tryz.vr,Value.oneCell',simprocAttr, -List.reduceReplicate]
    generalize (if c1=32*d - 32 then 0 else 32*d - 32)=oL at hL ⊢
    refine bn (g:=oQ kW b9 p info m d) Tryz.bS Tryz.bW (by simp only[af,Tryz.vr,Value.oneCell',simprocAttr, -List.reduceReplicate]) hg0 (.inr ⟨_,_,_,true,_,rfl,by simp only[af,Tryz.vr,Value.oneCell',simprocAttr, -List.reduceReplicate],hL,by decide⟩) (by decide) ?_
    intro c5 cs5 Ni
    replace Ni:=Ni.congr (m:=32) (g:=oQ kW b9 p info m d) (by omega) (fun i hi=>by simp[aR])
    simp only[Tryz.vr,Value.oneCell',simprocAttr, -List.reduceReplicate]
    refine bn (g:=info) Tryz.bS Tryz.bW (by simp only[af,Tryz.vr,Value.oneCell',simprocAttr, -List.reduceReplicate]) Ni (.inl ⟨⟨a,rfl⟩,hm0⟩) (by omega) ?_
    intro c2 kZ gC
    simp only[Tryz.vr,Value.oneCell',simprocAttr, -List.reduceReplicate]
    refine bn (g:=fun _=>IntKind.u8.wrap ((d+1:Nat):Int)) Tryz.bS Tryz.bW (by simp only[af,Tryz.vr,Value.oneCell',simprocAttr, -List.reduceReplicate]) gC (.inr ⟨_,_,_,true,[Sum.inl (.int .u8 (IntKind.u8.wrap ((d+1:Nat):Int)))],rfl,by simp only[ax];rfl,b7,by decide⟩) (by omega) ?_
    intro c3 tt kH
    simp only[Tryz.vr,Value.oneCell',simprocAttr, -List.reduceReplicate]
    refine gm (rwa:=true) (rwb:=true) G2 (eV (eV (rR _ _ _ _ _ _) Cl) (fun _=>FJ _)) (by simp only[af,Tryz.vr,Value.oneCell',simprocAttr, -List.reduceReplicate]) aP aw (by simp only[af,Tryz.vr,Value.oneCell',simprocAttr, -List.reduceReplicate]) kH.ez kH.plain (by decide) (by omega) ?_
    have hT:fA kW b9 p 32 (aR (32+m) (aR 32 (oQ kW b9 p info m d) info) (fun _=>IntKind.u8.wrap ((d+1:Nat):Int))) (32+m+1)=oQ kW b9 p info m (d+1):=by
     show _=fA kW b9 p 32 (if d=0 then _ else aR 32 (oQ kW b9 p info m d) (aR m info (fun _=>IntKind.u8.wrap ((d+1:Nat):Int)))) ((if d=0 then 0 else 32)+(m+1))
     rw[if_neg N9,if_neg N9,show 32+(m+1)=32+m+1 by omega]
     refine je (fun _ _=>rfl) fun i hi=> ?_
     simp only[aR]
     by_cases h1:i < 32
     ·rw[if_pos (by omega),if_pos h1,if_pos h1]
     ·rw[if_neg h1,if_neg h1]
      by_cases h2:i < 32+m
      ·rw[if_pos h2,if_pos (by omega)]
      ·rw[if_neg h2,if_neg (by omega)]
    rw[hT]
    have hA:=fun i hi=>nY (K:=kW) (V:=b9) (p:=p) (info:=info) (m:=m) (k:=d) (i:=i) hi
    obtain ⟨T,WE⟩: ∃ T,oQ kW b9 p info m (d+1)=T:=⟨_,rfl⟩
    rw[WE]at hA ⊢
    simp only[Tryz.vr,Value.oneCell',simprocAttr, -List.reduceReplicate]
    refine bn (g:=T) Tryz.bS Tryz.bW (by simp only[af,Tryz.vr,Value.oneCell',simprocAttr, -List.reduceReplicate]) hgA (.inr ⟨_,0,32,true,ae .u8 32 T,rfl,by simp only[af,Tryz.vr,Value.oneCell',simprocAttr, -List.reduceReplicate],aP,by decide⟩) (by omega) ?_
    intro c4 Cn oH
    simp only[Tryz.vr,Value.oneCell',simprocAttr, -List.reduceReplicate]
    exact eQ (by decide) (oH.congr (m:=32*(d+1)) (by omega) (fun i hi=>by
     simp only[aR];split
     ·rfl
     ·rw[← hA _ (by omega),show 32*d+(i - 32*d)=i by omega])) (by simp only[ax]) rfl
  ·refine aE Tryz.func71 rfl (by kernel_rfl) (by simp[Tryz.ntmps71]) Tryz.ji (fun u hu=>by
    simp only[List.mem_cons,List.not_mem_nil,or_false]at hu
    rcases hu with rfl | rfl | rfl
    ·exact aJ aw
    ·exact hok
    ·trivial) eG (eH hp) ?_
   simp only[Tryz.results71,Tryz.vr,Value.oneCell',simprocAttr, -List.reduceReplicate]
   refine aH (by simp<;>omega) ?_
   have w0:IntKind.i64.wrap (((d+1:Nat):Int) - 1)=(d:Int):=by rw[wrap_i64 _ (by omega) (by omega)];omega
   simp only[w0,Tryz.vr,Value.oneCell',simprocAttr, -List.reduceReplicate]
   refine dW ih (fun _=>0) (dp (rw:=false) (by simp only[af,Tryz.vr,Value.oneCell',simprocAttr, -List.reduceReplicate]) hp) (by simp only[List.map_cons,List.map_nil,fV,gy,er,jS]) ?_
   intro c1 eJ h11 h12 h13
   simp only[Tryz.vr,Value.oneCell',simprocAttr, -List.reduceReplicate]
   have hgA:bR (ae .u8 (32*d) (gK kW b9 p info m)++eJ) 0 (32*d) c1 (gK kW b9 p info m):=bR.row h11 h12 h13
   have hg0:bR (ae .u8 0 (fun _=>0)) 0 0 0 (fun _=>0):=⟨rfl,by decide,rfl,fun i hi=>by omega⟩
   by_cases N9:d=0
   ·refine aH (by simp;omega) ?_
    simp only[Tryz.vr,Value.oneCell',simprocAttr, -List.reduceReplicate]
    refine bn (g:=info) Tryz.bS Tryz.bW (by simp only[af,Tryz.vr,Value.oneCell',simprocAttr, -List.reduceReplicate]) hg0 (.inr ⟨0,o,c,false,cs,rfl,by simp only[af,Tryz.vr,Value.oneCell',simprocAttr, -List.reduceReplicate],hs,by decide⟩) (by omega) ?_
    intro c2 kZ gC
    replace gC:=gC.congr (m:=m) (g:=info) (by omega) (fun i hi=>by simp[aR])
    simp only[Tryz.vr,Value.oneCell',simprocAttr, -List.reduceReplicate]
    refine bn (g:=fun _=>IntKind.u8.wrap ((d+1:Nat):Int)) Tryz.bS Tryz.bW (by simp only[af,Tryz.vr,Value.oneCell',simprocAttr, -List.reduceReplicate]) gC (.inr ⟨_,_,_,true,[Sum.inl (.int .u8 (IntKind.u8.wrap ((d+1:Nat):Int)))],rfl,by simp only[ax];rfl,b7,by decide⟩) (by omega) ?_
    intro c3 tt kH
    simp only[Tryz.vr,Value.oneCell',simprocAttr, -List.reduceReplicate]
    refine gm (rwa:=true) (rwb:=true) G2 (eV Cl (fun _=>FJ _)) (by simp only[af,Tryz.vr,Value.oneCell',simprocAttr, -List.reduceReplicate]) aP aw (by simp only[af,Tryz.vr,Value.oneCell',simprocAttr, -List.reduceReplicate]) kH.ez kH.plain (by decide) (by omega) ?_
    have hT:fA kW b9 p 32 (aR m info (fun _=>IntKind.u8.wrap ((d+1:Nat):Int))) (m+1)=oQ kW b9 p info m (d+1):=by
     show _=fA kW b9 p 32 (if d=0 then _ else _) ((if d=0 then 0 else 32)+(m+1))
     rw[if_pos N9,if_pos N9,Nat.zero_add,N9]
     rfl
    rw[hT]
    have hA:=fun i hi=>nY (K:=kW) (V:=b9) (p:=p) (info:=info) (m:=m) (k:=d) (i:=i) hi
    obtain ⟨T,WE⟩: ∃ T,oQ kW b9 p info m (d+1)=T:=⟨_,rfl⟩
    rw[WE]at hA ⊢
    simp only[Tryz.vr,Value.oneCell',simprocAttr, -List.reduceReplicate]
    refine bn (g:=T) Tryz.bS Tryz.bW (by simp only[af,Tryz.vr,Value.oneCell',simprocAttr, -List.reduceReplicate]) hgA (.inr ⟨_,0,32,true,ae .u8 32 T,rfl,by simp only[af,Tryz.vr,Value.oneCell',simprocAttr, -List.reduceReplicate],aP,by decide⟩) (by omega) ?_
    intro c4 Cn oH
    simp only[Tryz.vr,Value.oneCell',simprocAttr, -List.reduceReplicate]
    exact eQ (by decide) (oH.congr (m:=32*(d+1)) (by omega) (fun i hi=>by
     simp only[aR];split
     ·rfl
     ·rw[← hA _ (by omega),show 32*d+(i - 32*d)=i by omega])) (by simp only[ax]) rfl
   ·refine aD (by simp;omega) ?_
    have w1:IntKind.i64.wrap (((32*d:Nat):Int) - 32)=((32*d - 32:Nat):Int):=by rw[wrap_i64 _ (by omega) (by omega)];omega
    have a1:(((32*d - 32:Nat):Int)≤((32*d:Nat):Int))=True:=eq_true (by omega)
    have a2:(((32*d:Nat):Int)≤(c1:Int))=True:=eq_true (by omega)
    have hL:bE (ae .u8 (32*d) (gK kW b9 p info m)++eJ) (if c1=32*d - 32 then 0 else 32*d - 32) 32 (oQ kW b9 p info m d):=by
     rw[if_neg (by omega)]
     have h:=jc hgA.ez (32*d - 32) 32 (by omega)
     rw[Nat.zero_add]at h
     refine kO h fun i hi=> ?_
     have:=nY (K:=kW) (V:=b9) (p:=p) (info:=info) (m:=m) (k:=d - 1) (i:=i) hi
     rw[show 32*(d - 1)+i=32*d - 32+i by omega,show d - 1+1=d by omega]at this
     exact this
    have e32:32*d - (32*d - 32)=32:=by omega
    simp only[w1,a1,a2,e32,bl,Tryz.vr,Value.oneCell',simprocAttr, -List.reduceReplicate]
    generalize (if c1=32*d - 32 then 0 else 32*d - 32)=oL at hL ⊢
    refine bn (g:=oQ kW b9 p info m d) Tryz.bS Tryz.bW (by simp only[af,Tryz.vr,Value.oneCell',simprocAttr, -List.reduceReplicate]) hg0 (.inr ⟨_,_,_,true,_,rfl,by simp only[af,Tryz.vr,Value.oneCell',simprocAttr, -List.reduceReplicate],hL,by decide⟩) (by decide) ?_
    intro c5 cs5 Ni
    replace Ni:=Ni.congr (m:=32) (g:=oQ kW b9 p info m d) (by omega) (fun i hi=>by simp[aR])
    simp only[Tryz.vr,Value.oneCell',simprocAttr, -List.reduceReplicate]
    refine bn (g:=info) Tryz.bS Tryz.bW (by simp only[af,Tryz.vr,Value.oneCell',simprocAttr, -List.reduceReplicate]) Ni (.inr ⟨0,o,c,false,cs,rfl,by simp only[af,Tryz.vr,Value.oneCell',simprocAttr, -List.reduceReplicate],hs,by decide⟩) (by omega) ?_
    intro c2 kZ gC
    simp only[Tryz.vr,Value.oneCell',simprocAttr, -List.reduceReplicate]
    refine bn (g:=fun _=>IntKind.u8.wrap ((d+1:Nat):Int)) Tryz.bS Tryz.bW (by simp only[af,Tryz.vr,Value.oneCell',simprocAttr, -List.reduceReplicate]) gC (.inr ⟨_,_,_,true,[Sum.inl (.int .u8 (IntKind.u8.wrap ((d+1:Nat):Int)))],rfl,by simp only[ax];rfl,b7,by decide⟩) (by omega) ?_
    intro c3 tt kH
    simp only[Tryz.vr,Value.oneCell',simprocAttr, -List.reduceReplicate]
    refine gm (rwa:=true) (rwb:=true) G2 (eV (eV (rR _ _ _ _ _ _) Cl) (fun _=>FJ _)) (by simp only[af,Tryz.vr,Value.oneCell',simprocAttr, -List.reduceReplicate]) aP aw (by simp only[af,Tryz.vr,Value.oneCell',simprocAttr, -List.reduceReplicate]) kH.ez kH.plain (by decide) (by omega) ?_
    have hT:fA kW b9 p 32 (aR (32+m) (aR 32 (oQ kW b9 p info m d) info) (fun _=>IntKind.u8.wrap ((d+1:Nat):Int))) (32+m+1)=oQ kW b9 p info m (d+1):=by
     show _=fA kW b9 p 32 (if d=0 then _ else aR 32 (oQ kW b9 p info m d) (aR m info (fun _=>IntKind.u8.wrap ((d+1:Nat):Int)))) ((if d=0 then 0 else 32)+(m+1))
     rw[if_neg N9,if_neg N9,show 32+(m+1)=32+m+1 by omega]
     refine je (fun _ _=>rfl) fun i hi=> ?_
     simp only[aR]
     by_cases h1:i < 32
     ·rw[if_pos (by omega),if_pos h1,if_pos h1]
     ·rw[if_neg h1,if_neg h1]
      by_cases h2:i < 32+m
      ·rw[if_pos h2,if_pos (by omega)]
      ·rw[if_neg h2,if_neg (by omega)]
    rw[hT]
    have hA:=fun i hi=>nY (K:=kW) (V:=b9) (p:=p) (info:=info) (m:=m) (k:=d) (i:=i) hi
    obtain ⟨T,WE⟩: ∃ T,oQ kW b9 p info m (d+1)=T:=⟨_,rfl⟩
    rw[WE]at hA ⊢
    simp only[Tryz.vr,Value.oneCell',simprocAttr, -List.reduceReplicate]
    refine bn (g:=T) Tryz.bS Tryz.bW (by simp only[af,Tryz.vr,Value.oneCell',simprocAttr, -List.reduceReplicate]) hgA (.inr ⟨_,0,32,true,ae .u8 32 T,rfl,by simp only[af,Tryz.vr,Value.oneCell',simprocAttr, -List.reduceReplicate],aP,by decide⟩) (by omega) ?_
    intro c4 Cn oH
    simp only[Tryz.vr,Value.oneCell',simprocAttr, -List.reduceReplicate]
    exact eQ (by decide) (oH.congr (m:=32*(d+1)) (by omega) (fun i hi=>by
     simp only[aR];split
     ·rfl
     ·rw[← hA _ (by omega),show 32*d+(i - 32*d)=i by omega])) (by simp only[ax]) rfl
theorem qZ {k m:Nat} {l:List (Nat×aW)} {vi:AV} {p info:Nat→Int} (G2:bY p) (Cl:bY info) (hi:OS k l vi m info) (hm:m < 80000000):
  ∀ d:Nat,d≤1000→bt Tryz.prog 71 [Ag (ae .u8 32 p),vi,I .i64 d] k (lk l) (Made k (32*d) (gK kW b9 p info m))
 | 0,_=>OT hi
 | d+1,hc=>OU G2 Cl hi hm (by omega) (qZ G2 Cl hi hm d (by omega))
end Go.Proofs.YtoakenpcooglpaaGreatDoor
set_option maxHeartbeats 8000000
set_option maxRecDepth 20000
namespace Go.Proofs.YtoakenpcooglpaaGreatDoor
open Go.cA
set_option linter.unusedSectionVars false
variable [aX]
theorem FM {s:AS} {nm t0 tk ok nk ck o c:Nat} {rw0 UR:Bool} {a0:SV} {wB:List SV} {n0:Nat} {f0 key:Nat→Int} (h0:s.box t0=some ⟨rw0,[a0]⟩) (ho:o=0)
  (p0:bC s.box (.inl (.inl a0)) n0 f0) (b0:bY f0)
  (hk:s.box tk=some ⟨UR,wB⟩) (hkp:wB.all SV.plain=true) (hkey:bE wB ok nk key) (Nh:bY key) (hnk:nk < 100000000) (WD:nk≤ck) (hN:n0 < 100000000) {dst:Option Nat} {K:AS→Prop}
  (hK:K (s.put dst (some (Ag (ae .u8 32 (fA kW b9 key nk f0 n0)))))):aB Tryz.prog nm 86 (some [Sl tk ok nk ck,Sl t0 o 1 c]) dst K s:=by
 subst ho
 obtain ⟨u0,r0,c0,w0,e0,q0,g0,i0,k0,_⟩:=nX p0 hk hkp
 let l:List (Nat×aW):=[(0,⟨false,[w0 2]⟩),(1,⟨false,wB⟩),(2,⟨false,c0⟩)]
 let nn:Nat→Nat:=fun j=>n0
 let ff:Nat→Nat→Int:=fun j=>f0
 have hl:Mf l [w0 2] 3 0 1 nn ff:=by
  refine ⟨fun x hx=> ?_,fun i hi=> ?_,fun x hx=> ?_,rfl,fun j hj=> ?_⟩
  ·simp only[l,List.mem_cons,List.not_mem_nil,or_false]at hx
   rcases hx with rfl | rfl | rfl<;>rfl
  ·have:i=0∨i=1∨i=2:=by omega
   rcases this with rfl | rfl | rfl<;>exact ⟨_,rfl⟩
  ·simp only[l,List.mem_cons,List.not_mem_nil,or_false]at hx
   rcases hx with rfl | rfl | rfl
   ·refine ⟨show (0:Nat) < 3 by decide,rfl,fun y hy=> ?_⟩
    simp only[List.mem_cons,List.not_mem_nil,or_false]at hy
    subst hy
    exact k0 _ _ (by decide)
   ·exact ⟨show (1:Nat) < 3 by decide,rfl,aJ hkp⟩
   ·exact ⟨show (2:Nat) < 3 by decide,rfl,aJ q0⟩
  ·obtain rfl:j=0:=by omega
   exact ⟨_,rfl,i0 _ 2 rfl⟩
 have hfit:Fits s (three t0 tk u0) (lk l) none:=by
  refine ⟨fun n b hb=> ?_,fun n n' b b' hb hrw=> ?_,fun n b hb hrw=> ?_,fun n hn=>(by cases hn)⟩
  ·have:=bq _ _ _ hb
   simp only[l,List.mem_cons,List.not_mem_nil,or_false,Prod.mk.injEq]at this
   rcases this with ⟨rfl,rfl⟩ | ⟨rfl,rfl⟩ | ⟨rfl,rfl⟩
   ·refine ⟨_,h0,fun e=>(by cases e), ?_⟩
    simp only[List.map_cons,List.map_nil]
    rw[g0 _ 2 rfl]
   ·exact ⟨_,hk,fun e=>(by cases e),(bj hkp _).symm⟩
   ·exact ⟨_,e0,fun e=>(by cases e),(bj q0 _).symm⟩
  all_goals
   have:=hl.ro _ (bq _ _ _ hb)
   simp only at this
   rw[this]at hrw;cases hrw
 have Mi:=aag (c:=c) (tk:=1) (ok:=ok) (nk:=nk) (ck:=ck) (key:=key) hl (by decide) (by decide) (by decide) (by show 0+n0 < _;omega) (fun j hj=>b0) rfl hkp hkey Nh hnk WD
 have aai:fA kW b9 key nk (BD nn ff 1) (iL nn 1)=fA kW b9 key nk f0 n0:=by
  have e1:iL nn 1=n0:=by show 0+n0=_;omega
  rw[e1]
  refine je (fun _ _=>rfl) fun i hi=> ?_
  show aR 0 (fun _=>0) f0 i=_
  simp only[aR]
  rw[if_neg (by omega),Nat.sub_zero]
 rw[aai]at Mi
 exact Mi.dV (three t0 tk u0) hfit aw rfl hK
theorem VX {s:AS} {nm t0 tk ok nk ck o c:Nat} {rw0 UR:Bool} {a0:SV} {wB:List SV} {n0:Nat} {f0 key:Nat→Int} (h0:s.box t0=some ⟨rw0,[a0]⟩) (ho:o=0)
  (p0:bC s.box (.inl (.inl a0)) n0 f0) (b0:bY f0)
  (hk:s.box tk=some ⟨UR,wB⟩) (hkp:wB.all SV.plain=true) (hkey:bE wB ok nk key) (Nh:bY key) (hnk:nk < 100000000) (WD:nk≤ck) (hN:n0 < 100000000) {ops:Array Oper} {i:Nat} {dst:Option Nat} {K:AS→Prop}
  (hK:K (s.put dst (some (Ag (ae .u8 32 (fA kW b9 key nk f0 n0)))))):mG Tryz.prog ops i nm 86 (some [Sl tk ok nk ck,Sl t0 o 1 c]) dst K s:=by
 subst ho
 obtain ⟨u0,r0,c0,w0,e0,q0,g0,i0,k0,nm0⟩:=nX p0 hk hkp
 let l:List (Nat×aW):=[(0,⟨false,[w0 2]⟩),(1,⟨false,wB⟩),(2,⟨false,c0⟩)]
 let nn:Nat→Nat:=fun j=>n0
 let ff:Nat→Nat→Int:=fun j=>f0
 have hl:Mf l [w0 2] 3 0 1 nn ff:=by
  refine ⟨fun x hx=> ?_,fun i hi=> ?_,fun x hx=> ?_,rfl,fun j hj=> ?_⟩
  ·simp only[l,List.mem_cons,List.not_mem_nil,or_false]at hx
   rcases hx with rfl | rfl | rfl<;>rfl
  ·have:i=0∨i=1∨i=2:=by omega
   rcases this with rfl | rfl | rfl<;>exact ⟨_,rfl⟩
  ·simp only[l,List.mem_cons,List.not_mem_nil,or_false]at hx
   rcases hx with rfl | rfl | rfl
   ·refine ⟨show (0:Nat) < 3 by decide,rfl,fun y hy=> ?_⟩
    simp only[List.mem_cons,List.not_mem_nil,or_false]at hy
    subst hy
    exact k0 _ _ (by decide)
   ·exact ⟨show (1:Nat) < 3 by decide,rfl,aJ hkp⟩
   ·exact ⟨show (2:Nat) < 3 by decide,rfl,aJ q0⟩
  ·obtain rfl:j=0:=by omega
   exact ⟨_,rfl,i0 _ 2 rfl⟩
 have hfit:Fits s (three t0 tk u0) (lk l) none:=by
  refine ⟨fun n b hb=> ?_,fun n n' b b' hb hrw=> ?_,fun n b hb hrw=> ?_,fun n hn=>(by cases hn)⟩
  ·have:=bq _ _ _ hb
   simp only[l,List.mem_cons,List.not_mem_nil,or_false,Prod.mk.injEq]at this
   rcases this with ⟨rfl,rfl⟩ | ⟨rfl,rfl⟩ | ⟨rfl,rfl⟩
   ·refine ⟨_,h0,fun e=>(by cases e), ?_⟩
    simp only[List.map_cons,List.map_nil]
    rw[g0 _ 2 rfl]
   ·exact ⟨_,hk,fun e=>(by cases e),(bj hkp _).symm⟩
   ·exact ⟨_,e0,fun e=>(by cases e),(bj q0 _).symm⟩
  all_goals
   have:=hl.ro _ (bq _ _ _ hb)
   simp only at this
   rw[this]at hrw;cases hrw
 have Mi:=aag (c:=c) (tk:=1) (ok:=ok) (nk:=nk) (ck:=ck) (key:=key) hl (by decide) (by decide) (by decide) (by show 0+n0 < _;omega) (fun j hj=>b0) rfl hkp hkey Nh hnk WD
 have aai:fA kW b9 key nk (BD nn ff 1) (iL nn 1)=fA kW b9 key nk f0 n0:=by
  have e1:iL nn 1=n0:=by show 0+n0=_;omega
  rw[e1]
  refine je (fun _ _=>rfl) fun i hi=> ?_
  show aR 0 (fun _=>0) f0 i=_
  simp only[aR]
  rw[if_neg (by omega),Nat.sub_zero]
 rw[aai]at Mi
 refine Mi.Vt (three t0 tk u0) hfit aw rfl (fun M h sL n hn=> ?_) hK
 have mk:M tk:=h (Sl tk ok nk ck) (List.Mem.head _)
 have mt:M t0:=h (Sl t0 0 1 c) (List.Mem.tail _ (List.Mem.head _))
 have mu:M u0:=by
  rcases nm0 M (sL 0 (by decide) mt _ h0 a0 (List.Mem.head _)).1 with e | e
  ·rw[e];exact mk
  ·exact e
 have:n=0∨n=1∨n=2:=by omega
 rcases this with rfl | rfl | rfl
 ·exact mt
 ·exact mk
 ·exact mu
def BE (n:Int) (a b c:Nat):Prop:=n < 0∨8160 < n∨1048576 < a∨1048576 < b∨1048576 < c
instance (n:Int) (a b c:Nat):Decidable (BE n a b c):=by unfold BE;infer_instance
theorem VY {n o c:Nat} {cs:List SV} (hp:cs.all SV.plain=true):bt Tryz.prog 64 [Sl 0 o n c] 1 (lk [(0,⟨false,cs⟩)]) (fun v out=>v=B (decide (1048576 < (n:Int)))∧out=fun _=>none):=by
 refine aE Tryz.func64 rfl (by kernel_rfl) (by simp[Tryz.ntmps64]) Tryz.qz (by simp[AV.ok,CV.ok,SV.names]) eG (eH hp) ?_
 simp only[Tryz.results64,Tryz.vs,Value.oneCell',simprocAttr, -List.reduceReplicate]
 exact aC rfl ⟨rfl,rfl⟩
theorem fM {s:AS} {nm t o n c:Nat} {rw:Bool} {cs:List SV} (hb:s.box t=some ⟨rw,cs⟩) (hp:cs.all SV.plain=true) {dst:Option Nat} {K:AS→Prop} (hk:K (s.put dst (some (B (decide (1048576 < (n:Int))))))):aB Tryz.prog nm 64 (some [Sl t o n c]) dst K s:=
 (VY hp).dV (fun _=>t) (dp hb hp) rfl rfl hk
end Go.Proofs.YtoakenpcooglpaaGreatDoor
set_option maxHeartbeats 8000000
set_option maxRecDepth 20000
namespace Go.Proofs.YtoakenpcooglpaaGreatDoor
open Go.cA
set_option linter.unusedSectionVars false
variable [aX]
theorem aak {s:AS} {nm k n m:Nat} {l:List (Nat×aW)} {va vb:AV} {key f:Nat→Int} (hg:Handed k l) (hkey:bY key) (hf:bY f) (ha:Arg k l va n key) (hv:Arg k l vb m f) (hs: ∀ t,t < k→s.box t=lk l t) (hn:n < 90000000) (hm:m < 90000000) {dst:Option Nat} {K:AS→Prop}
  (hk:K (s.put dst (some (Ag (ae .u8 32 (fA kW b9 key n f m)))))):aB Tryz.prog nm 70 (some [va,vb]) dst K s:=
 (Ml hkey hf ha.at_ hv.at_ hn hm ha.ok hv.ok hg.np hg.all hg.le).dV (fun n=>n) (Vy hg hs) aw (by simp only[List.map_cons,List.map_nil,ha.id,hv.id]) hk
theorem VZ {k nk m q N:Nat} {l:List (Nat×aW)} {vk vm vi:AV} {oT f info:Nat→Int} (hg:Handed k l) (Nh:bY oT) (hf:bY f) (Cl:bY info) (hk:Arg k l vk nk oT) (hm:Arg k l vm m f) (hi:Arg k l vi q info) (aal: ¬ BE N nk m q):
  bt Tryz.prog 42 [vk,vm,vi,I .i64 N] k (lk l) (Made k N (gK kW b9 (fA kW b9 oT nk f m) info q)):=by
 refine aE Tryz.func42 rfl (by kernel_rfl) (by simp[Tryz.ntmps42]) Tryz.qn (fun u hu=>by
  simp only[List.mem_cons,List.not_mem_nil,or_false]at hu
  rcases hu with rfl | rfl | rfl | rfl
  ·exact hk.ok
  ·exact hm.ok
  ·exact hi.ok
  ·trivial) hg.all hg.j6 ?_
 have l1:=at_len hk.at_
 have l2:=at_len hm.at_
 have l3:=at_len hi.at_
 simp only[BE]at aal
 have d0:decide ((N:Int) < 0)=false:=decide_eq_false (by omega)
 have d1:decide (8160 < (N:Int))=false:=decide_eq_false (by omega)
 have d2:decide (1048576 < (nk:Int))=false:=decide_eq_false (by omega)
 have d3:decide (1048576 < (m:Int))=false:=decide_eq_false (by omega)
 have d4:decide (1048576 < (q:Int))=false:=decide_eq_false (by omega)
 simp only[Tryz.results42,d0,d1,l1,d2,l2,d3,l3,d4,Tryz.vr,Value.oneCell',simprocAttr, -List.reduceReplicate]
 refine aak hg Nh hf hk hm (fun t ht=>rfl) (by omega) (by omega) ?_
 obtain ⟨p,hpE⟩: ∃ p,fA kW b9 oT nk f m=p:=⟨_,rfl⟩
 have G2:bY p:=by rw[← hpE];exact lB _ _ _ _ _ _
 rw[hpE]
 have w1:IntKind.i64.wrap ((N:Int)+31)=((N+31:Nat):Int):=by rw[wrap_i64 _ (by omega) (by omega)];omega
 have q1:=Cv (N+31) 32 (by omega)
 rw[show ((32:Nat):Int)=32 from rfl]at q1
 simp only[w1,q1,Tryz.vr,Value.oneCell',simprocAttr, -List.reduceReplicate]
 have fin: ∀ (c1:Nat) (eJ:List SV),32*((N+31) / 32)≤c1→eJ.length=c1 - 32*((N+31) / 32)→eJ.all SV.plain=true→N≤c1∧bR (ae .u8 (32*((N+31) / 32)) (gK kW b9 p info q)++eJ) 0 N c1 (gK kW b9 p info q):=fun c1 eJ h1 h2 h3=>by
  have hg:=bR.row (f:=gK kW b9 p info q) h1 h2 h3
  exact ⟨by omega,hg.len,by omega,hg.plain,lZ hg.ez (by omega)⟩
 rcases hi.at_ with ⟨⟨a,rfl⟩,hq0⟩ | ⟨t,o,c,rw,es,rfl,hb,hr,hs⟩
 ·refine dW (qZ (k:=0) (l:=[]) (vi:=V (.slice a 0 0)) G2 Cl (.inl ⟨rfl,rfl,⟨a,rfl⟩,hq0⟩) (by omega) ((N+31) / 32) (by omega)) (fun n=>n) gI (by simp only[List.map_cons,List.map_nil,fV,gy,jS]) ?_
  intro c1 eJ h1 h2 h3
  obtain ⟨hc,hg⟩:=fin c1 eJ h1 h2 h3
  have a1:((N:Int)≤(c1:Int))=True:=eq_true (by omega)
  simp only[a1,bl,Tryz.vr,Value.oneCell',simprocAttr, -List.reduceReplicate]
  exact eQ (by omega) hg (by simp only[ax]) rfl
 ·have ht:t < k:=hi.ok
  refine dW (qZ (k:=1) (l:=[(0,⟨false,es⟩)]) (vi:=Sl 0 o q c) G2 Cl (.inr ⟨rfl,o,c,es,rfl,rfl,hr,hs⟩) (by omega) ((N+31) / 32) (by omega)) (fun _=>t) (dp (rw:=rw) (by simp only[upd];rw[if_neg (by omega),if_neg (by omega)];exact hb) hr) (by simp only[List.map_cons,List.map_nil,fV,gy,er]) ?_
  intro c1 eJ h1 h2 h3
  obtain ⟨hc,hg⟩:=fin c1 eJ h1 h2 h3
  have a1:((N:Int)≤(c1:Int))=True:=eq_true (by omega)
  simp only[a1,bl,Tryz.vr,Value.oneCell',simprocAttr, -List.reduceReplicate]
  exact eQ (by omega) hg (by simp only[ax]) rfl
end Go.Proofs.YtoakenpcooglpaaGreatDoor
namespace Go.Proofs.YtoakenpcooglpaaGreatDoor
open Go.cA
set_option linter.unusedSectionVars false
variable [aX]
theorem CA {s:AS} {t0 t1 t2 nk m q:Nat} {vk vm vi:AV} {r0 r1 r2:Bool} {key f info:Nat→Int} {cs ds es:List SV} (hb0:s.box t0=some ⟨r0,cs⟩) (hp:cs.all SV.plain=true) (ux:s.box t1=some ⟨r1,ds⟩) (hq:ds.all SV.plain=true) (sW:s.box t2=some ⟨r2,es⟩) (hr:es.all SV.plain=true)
  (hk:eD t0 vk nk key cs) (hm:eD t1 vm m f ds) (hi:eD t2 vi q info es): ∃ k l r u0 u1 u2,xX s k l r [vk,vm,vi]∧Arg k l u0 nk key∧Arg k l u1 m f∧Arg k l u2 q info∧AV.bh r u0=vk∧AV.bh r u1=vm∧AV.bh r u2=vi:=by
 obtain ⟨k1,l1,r1,v1,q1,P1,A1,e1,_⟩:=oC (s:=s) oB (by decide) hi sW hr
 obtain ⟨k2,l2,r2,v2,q2,P2,A2,e2,T2⟩:=oC P1 (by omega) hm ux hq
 obtain ⟨k3,l3,r3,v3,q3,P3,A3,e3,T3⟩:=oC P2 (by omega) hk hb0 hp
 obtain ⟨B1,f1⟩:=T2 _ _ _ A1
 obtain ⟨C1,g1⟩:=T3 _ _ _ B1
 obtain ⟨C2,g2⟩:=T3 _ _ _ A2
 exact ⟨k3,l3,r3,v3,v2,v1,P3,A3,C2,C1,e3,by rw[g2,e2],by rw[g1,f1,e1]⟩
theorem ok3 {M:Nat→Prop} {a b c x:AV} (h: ∀ v ∈ [a,b,c,x],AV.ok M v): ∀ v ∈ [a,b,c],AV.ok M v:=fun v hv=>by
 simp only[List.mem_cons,List.not_mem_nil,or_false]at hv
 rcases hv with rfl | rfl | rfl<;>exact h _ (by simp)
theorem sd {s:AS} {nm t0 t1 t2 nk m q N:Nat} {vk vm vi:AV} {r0 r1 r2:Bool} {oT f info:Nat→Int} {cs ds es:List SV} (Nh:bY oT) (hf:bY f) (Cl:bY info) (hb0:s.box t0=some ⟨r0,cs⟩) (hp:cs.all SV.plain=true) (ux:s.box t1=some ⟨r1,ds⟩) (hq:ds.all SV.plain=true) (sW:s.box t2=some ⟨r2,es⟩) (hr:es.all SV.plain=true)
  (hk:eD t0 vk nk oT cs) (hm:eD t1 vm m f ds) (hi:eD t2 vi q info es) (aal: ¬ BE N nk m q) {ops:Array Oper} {i:Nat} (C3:late ops i=true) {dst:Option Nat} {K:AS→Prop}
  (hK: ∀ c tail,N≤c→tail.length=c - N→tail.all SV.plain=true→K ((⟨s.env,upd s.box nm (some ⟨true,ae .u8 N (gK kW b9 (fA kW b9 oT nk f m) info q)++tail⟩),s.next⟩:AS).put dst (some (Sl nm 0 N c)))):mG Tryz.prog ops i nm 42 (some [vk,vm,vi,I .i64 N]) dst K s:=by
 obtain ⟨k,l,r,u0,u1,u2,P,A0,A1,A2,x0,x1,x2⟩:=CA hb0 hp ux hq sW hr hk hm hi
 exact oz (VZ P.good Nh hf Cl A0 A1 A2 aal) r P.fits (by simp only[List.map_cons,List.map_nil,x0,x1,x2,gy]) (fun M h=>P.named M (ok3 h)) C3 hK
end Go.Proofs.YtoakenpcooglpaaGreatDoor
set_option maxHeartbeats 8000000
set_option maxRecDepth 20000
namespace Go.Proofs.YtoakenpcooglpaaGreatDoor
open Go.cA
set_option linter.unusedSectionVars false
variable [aX]
def ab2 (nk m:Nat) (key f:Nat→Int):Nat→Int:=if 1048576 < nk∨1048576 < m then fun _=>0 else fA kW b9 key nk f m
theorem aam {nk ok ck m o c:Nat} {key f:Nat→Int} {cs ds:List SV} (Nh:bY key) (hf:bY f) (hk:bE cs ok nk key) (hp:cs.all SV.plain=true) (WD:nk≤ck) (hc:bE ds o m f) (hq:ds.all SV.plain=true):
  bt Tryz.prog 91 [Sl 0 ok nk ck,Sl 1 o m c] 2 (lk [(0,⟨false,cs⟩),(1,⟨false,ds⟩)]) (fun u out=>u=Ag (ae .u8 32 (ab2 nk m key f))∧out=fun _=>none):=by
 refine aE Tryz.func91 rfl (by kernel_rfl) (by simp[Tryz.ntmps91]) Tryz.qO (by simp[AV.ok,CV.ok,SV.names]) nq (rI hp hq) ?_
 simp only[Tryz.results91,Tryz.vr,Value.oneCell',simprocAttr, -List.reduceReplicate]
 refine fM (rw:=false) (by simp only[af,Tryz.vr,Value.oneCell',simprocAttr, -List.reduceReplicate]) hp ?_
 by_cases h1:1048576 < nk
 ·have d1:decide (1048576 < (nk:Int))=true:=decide_eq_true (by omega)
  have eA:ab2 nk m key f=fun _=>0:=if_pos (.inl h1)
  simp only[d1,eA,al,Tryz.vr,Value.oneCell',simprocAttr, -List.reduceReplicate]
  exact aC (v:=Ag (ae .u8 32 (fun _=>0))) aw ⟨rfl,rfl⟩
 have d1:decide (1048576 < (nk:Int))=false:=decide_eq_false (by omega)
 simp only[d1,Tryz.vr,Value.oneCell',simprocAttr, -List.reduceReplicate]
 refine fM (rw:=false) (by simp only[af,Tryz.vr,Value.oneCell',simprocAttr, -List.reduceReplicate]) hq ?_
 by_cases h2:1048576 < m
 ·have d2:decide (1048576 < (m:Int))=true:=decide_eq_true (by omega)
  have eA:ab2 nk m key f=fun _=>0:=if_pos (.inr h2)
  simp only[d2,eA,al,Tryz.vr,Value.oneCell',simprocAttr, -List.reduceReplicate]
  exact aC (v:=Ag (ae .u8 32 (fun _=>0))) aw ⟨rfl,rfl⟩
 have d2:decide (1048576 < (m:Int))=false:=decide_eq_false (by omega)
 have eA:ab2 nk m key f=fA kW b9 key nk f m:=if_neg (by omega)
 simp only[d2,Tryz.vr,Value.oneCell',simprocAttr, -List.reduceReplicate]
 refine ⟨show 1≤1 by decide, ?_⟩
 refine FM (rw0:=true) (UR:=false) (by simp only[ax];rfl) rfl (.inr ⟨1,o,c,false,ds,rfl,by simp only[af,Tryz.vr,Value.oneCell',simprocAttr, -List.reduceReplicate],hq,hc⟩) hf (by simp only[af,Tryz.vr,Value.oneCell',simprocAttr, -List.reduceReplicate]) hp hk Nh (by omega) WD (by omega) ?_
 simp only[← eA,Tryz.vr,Value.oneCell',simprocAttr, -List.reduceReplicate]
 exact aC aw ⟨rfl,rfl⟩
theorem ags {nk ok ck m om cm q oq cq:Nat} {n:Int} {oT f info:Nat→Int} {cs ds es:List SV} (Nh:bY oT) (hf:bY f) (Cl:bY info) (hk:bE cs ok nk oT) (hp:cs.all SV.plain=true) (WD:nk≤ck) (hc:bE ds om m f) (hq:ds.all SV.plain=true)
  (hi:bE es oq q info) (hr:es.all SV.plain=true) (hg: ¬ BE n nk m q):
  bt Tryz.prog 80 [Sl 0 ok nk ck,Sl 1 om m cm,Sl 2 oq q cq,I .i64 n] 3 (lk [(0,⟨false,cs⟩),(1,⟨false,ds⟩),(2,⟨false,es⟩)]) (Bytes 3 n.toNat (gK kW b9 (fA kW b9 oT nk f m) info q)):=by
 refine aE Tryz.func80 rfl (by kernel_rfl) (by simp[Tryz.ntmps80]) Tryz.qG (by simp[AV.ok,CV.ok,SV.names]) alg (alh hp hq hr) ?_
 simp only[BE]at hg
 have d0:decide (n < 0)=false:=decide_eq_false (by omega)
 have d1:decide (8160 < n)=false:=decide_eq_false (by omega)
 have d2:decide (1048576 < (nk:Int))=false:=decide_eq_false (by omega)
 have d3:decide (1048576 < (m:Int))=false:=decide_eq_false (by omega)
 have d4:decide (1048576 < (q:Int))=false:=decide_eq_false (by omega)
 simp only[Tryz.results80,d0,d1,Tryz.vr,Value.oneCell',simprocAttr, -List.reduceReplicate]
 refine fM (rw:=false) (by simp only[af,Tryz.vr,Value.oneCell',simprocAttr, -List.reduceReplicate]) hp ?_
 simp only[d2,Tryz.vr,Value.oneCell',simprocAttr, -List.reduceReplicate]
 refine fM (rw:=false) (by simp only[af,Tryz.vr,Value.oneCell',simprocAttr, -List.reduceReplicate]) hq ?_
 simp only[d3,Tryz.vr,Value.oneCell',simprocAttr, -List.reduceReplicate]
 refine fM (rw:=false) (by simp only[af,Tryz.vr,Value.oneCell',simprocAttr, -List.reduceReplicate]) hr ?_
 simp only[d4,Tryz.vr,Value.oneCell',simprocAttr, -List.reduceReplicate]
 refine ⟨show 1≤1 by decide, ?_⟩
 refine FM (rw0:=true) (UR:=false) (by simp only[ax];rfl) rfl (.inr ⟨1,om,cm,false,ds,rfl,by simp only[af,Tryz.vr,Value.oneCell',simprocAttr, -List.reduceReplicate],hq,hc⟩) hf (by simp only[af,Tryz.vr,Value.oneCell',simprocAttr, -List.reduceReplicate]) hp hk Nh (by omega) WD (by omega) ?_
 simp only[Tryz.vr,Value.oneCell',simprocAttr, -List.reduceReplicate]
 obtain ⟨N,rfl⟩: ∃ N:Nat,n=(N:Int):=⟨n.toNat,by omega⟩
 rw[Int.toNat_natCast]
 obtain ⟨p,hpE⟩: ∃ p,fA kW b9 oT nk f m=p:=⟨_,rfl⟩
 have G2:bY p:=by rw[← hpE];exact lB _ _ _ _ _ _
 rw[hpE]
 refine (Mj (o:=oq) (m:=q) (c:=cq) (n:=N) G2 Cl hi hr (by omega) (by omega)).aB (fun _=>2) none (dp (rw:=false) (by simp only[af,Tryz.vr,Value.oneCell',simprocAttr, -List.reduceReplicate]) hr) (by simp only[List.map_cons,List.map_nil,fV,gy,er]) ?_
 rintro v out (⟨h0,rfl,rfl⟩ | ⟨c2,pA,rfl,rfl,h1,h2,h3⟩) _
 ·simp only[Tryz.vr,Value.oneCell',simprocAttr, -List.reduceReplicate]
  exact aC (v:=V (.slice none 0 0)) rfl (.inl ⟨h0,rfl,rfl⟩)
 ·rw[gb (cH h3)]
  simp only[er,iB,Tryz.vr,Value.oneCell',simprocAttr, -List.reduceReplicate]
  exact dS (k:=3) (q:=28) (cs:=ae .u8 N (gK kW b9 p info q)++pA) (by decide) (by simp only[ax]) (cH h3) (.inr ⟨c2,pA,rfl,rfl,h1,h2,h3⟩)
end Go.Proofs.YtoakenpcooglpaaGreatDoor
set_option maxHeartbeats 8000000
set_option maxRecDepth 20000
namespace Go.Proofs.YtoakenpcooglpaaGreatDoor
open Go.cA
set_option linter.unusedSectionVars false
variable [aX]
theorem FN {P:Program} [cA.Tables P] {f k:Nat} {args:List AV} {ins:Nat→Option aW} {Post Post':AV→(Nat→Option aW)→Prop} (h:bt P f args k ins Post) (hp: ∀ v out,Post v out→Post' v out):bt P f args k ins Post':=
 ⟨h.body,h.all,h.np,fun W g w a b c d=>(h.call W g w a b c d).mono (by
  rintro e w' ⟨v,out,g',h1,h2,h3⟩
  exact ⟨v,out,g',h1,hp _ _ h2,h3⟩)⟩
theorem n5 {n a m:Nat} {f:Nat→Int} {tail:List SV} (h:a+m≤n):List.take m (List.drop a (ae .u8 n f++tail))=ae .u8 m (fun i=>f (a+i)):=by
 apply List.ext_getElem?
 intro i
 by_cases hi:i < m
 ·rw[List.getElem?_take_of_lt hi,List.getElem?_drop,List.getElem?_append_left (by rw[ah];omega),ay .u8 n f (a+i) (by omega),ay .u8 m _ i hi]
 ·rw[List.getElem?_eq_none (by rw[List.length_take];omega),List.getElem?_eq_none (by rw[ah];omega)]
theorem tC {n m:Nat} {f:Nat→Int} {tail:List SV} (h:m≤n):List.take m (ae .u8 n f++tail)=ae .u8 m f:=by
 have:=n5 (n:=n) (a:=0) (m:=m) (f:=f) (tail:=tail) (by omega)
 rw[List.drop_zero]at this
 rw[this]
 exact aV fun i _=>by rw[Nat.zero_add]
def lb (i:Nat):Int:=[114,97,116,99,104,101,116,32,114,111,111,116].getD i 0
theorem BF:bY lb:=fun i=>by
 by_cases h:i < 12
 ·have: ∀ j,j < 12→0≤lb j∧lb j < 256:=by decide
  exact this i h
 ·have:lb i=0:=by
   simp only[lb,List.getD_eq_getElem?_getD]
   rw[List.getElem?_eq_none (by simp;omega)];rfl
  rw[this];decide
def Nj (root shared:Nat→Int):Nat→Int:=gK kW b9 (fA kW b9 root 32 shared 32) lb 12
def ae':cM:=
 let e0:cM:= .cons 9 .nil .nil
 let e1:cM:= .cons 8 e0 .nil
 let e2:cM:= .cons 3 e1 .nil
 let e3:cM:= .cons 2 e2 .nil
 let e4:cM:= .cons 1 e3 .nil
 let e5:cM:= .cons 0 e4 .nil
 let e6:cM:= .cons 7 e0 .nil
 let e7:cM:= .cons 7 e1 (.cons 8 e6 .nil)
 let e8:cM:= .cons 3 e7 (.cons 7 e2 .nil)
 let e9:cM:= .cons 2 e8 (.cons 7 e3 .nil)
 let e10:cM:= .cons 1 e9 (.cons 7 e4 .nil)
 let e11:cM:= .cons 0 e10 (.cons 7 e5 .nil)
 let e12:cM:= .cons 6 e6 .nil
 let e13:cM:= .cons 6 e7 (.cons 8 e12 .nil)
 let e14:cM:= .cons 3 e13 (.cons 6 e8 .nil)
 let e15:cM:= .cons 2 e14 (.cons 6 e9 .nil)
 let e16:cM:= .cons 1 e15 (.cons 6 e10 .nil)
 let e17:cM:= .cons 0 e16 (.cons 6 e11 .nil)
 let e18:cM:= .cons 5 e12 .nil
 let e19:cM:= .cons 5 e13 (.cons 8 e18 .nil)
 let e20:cM:= .cons 3 e19 (.cons 5 e14 .nil)
 let e21:cM:= .cons 2 e20 (.cons 5 e15 .nil)
 let e22:cM:= .cons 1 e21 (.cons 5 e16 .nil)
 let e23:cM:= .cons 0 e22 (.cons 5 e17 .nil)
 let e24:cM:= .cons 4 e18 .nil
 let e25:cM:= .cons 4 e19 (.cons 8 e24 .nil)
 let e26:cM:= .cons 3 e25 (.cons 4 e20 .nil)
 let e27:cM:= .cons 2 e26 (.cons 4 e21 .nil)
 let e28:cM:= .cons 1 e27 (.cons 4 e22 .nil)
 let e29:cM:= .cons 0 e28 (.cons 4 e23 .nil)
 e29
def afa:cM:=
 let e0:cM:= .cons 3 .nil .nil
 let e1:cM:= .cons 2 e0 .nil
 let e2:cM:= .cons 0 e1 .nil
 let e3:cM:= .cons 1 e0 .nil
 let e4:cM:= .cons 1 e1 (.cons 2 e3 .nil)
 let e5:cM:= .cons 0 e4 (.cons 1 e2 .nil)
 e5
def sf (f g:Nat→Int):AV:= .inr [.inr (ae .u8 32 f), .inr (ae .u8 32 g)]
theorem Mm (r x:Nat→Int) (hr:bY r) (hx:bY x):cB Tryz.prog 62 [Ag (ae .u8 32 r),Ag (ae .u8 32 x)] (sf (Nj r x) (fun i=>Nj r x (32+i))):=by
 refine AF Tryz.func62 rfl (by kernel_rfl) (by simp[Tryz.ntmps62]) rfl rfl ?_
 simp only[Tryz.results62,aj,ak,Tryz.vr,Value.oneCell',simprocAttr, -List.reduceReplicate]
 refine .inl ?_
 simp only[aj,ak,Tryz.vr,Value.oneCell',simprocAttr, -List.reduceReplicate]
 refine ⟨by kernel_rfl,by decide,by decide,by decide,by decide,by decide,by decide,by decide,by decide,by decide,by decide,by decide, ?_⟩
 refine oz (FN (Post':=Made 3 64 (Nj r x)) (ags (ok:=0) (ck:=32) (om:=0) (cm:=32) (oq:=0) (cq:=12) (nk:=32) (m:=32) (q:=12) (n:=64) (oT:=r) (f:=x) (info:=lb) (cs:=ae .u8 32 r) (ds:=ae .u8 32 x) (es:=ae .u8 12 lb) hr hx BF aP aw (by decide) aP aw aP aw (by decide)) (fun v out h=>h.resolve_left (fun e=>by cases e.1))) (three 0 1 6)
  (aif (r0:=true) (r1:=true) (r2:=true) (by simp only[af,Tryz.vr,Value.oneCell',simprocAttr, -List.reduceReplicate]) aw (by simp only[af,Tryz.vr,Value.oneCell',simprocAttr, -List.reduceReplicate]) aw (by simp only[ax];rfl) aw) rfl (fun M h n hn=> ?_) (by kernel_rfl) ?_
 ·have a:=h (Sl 0 0 32 32) (List.Mem.head _)
  have b:=h (Sl 1 0 32 32) (List.Mem.tail _ (List.Mem.head _))
  have c:=h (Sl 6 0 12 12) (List.Mem.tail _ (List.Mem.tail _ (List.Mem.head _)))
  simp only[three];split
  ·exact a
  ·split
   ·exact b
   ·exact c
 intro c1 eJ h1 h2 h3
 simp only[aj,ak,Tryz.vr,Value.oneCell',simprocAttr, -List.reduceReplicate]
 refine .inr ⟨Tryz.mixed,ae',by kernel_rfl, ?_⟩
 have n1:(c1=32)=False:=eq_false (by omega)
 have l1:(32≤(c1:Int))=True:=eq_true (by omega)
 have l2:(64≤(c1:Int))=True:=eq_true (by omega)
 have len: ∀ m,m≤64→(m≤(ae .u8 64 (Nj r x)++eJ).length)=True:=fun m hm=>eq_true (by rw[List.length_append,ah];omega)
 have p0:=tC (n:=64) (m:=32) (f:=Nj r x) (tail:=eJ) (by decide)
 have p1:=n5 (n:=64) (a:=32) (m:=32) (f:=Nj r x) (tail:=eJ) (by decide)
 simp only[ae',n1,l1,l2,len 32 (by decide),len 64 (by decide),p0,p1,aj,ak,Tryz.vr,Value.oneCell',simprocAttr, -List.reduceReplicate]
 rfl
theorem ab3 {o n c at':Nat} {f:Nat→Int} {cs:List SV} (hs:bE cs o n f) (hp:cs.all SV.plain=true) (h:at'+32≤n) (hn:n < 1000000):
  bt Tryz.prog 43 [Sl 0 o n c,I .i64 at'] 1 (lk [(0,⟨false,cs⟩)]) (fun v out=>v=Ag (ae .u8 32 (fun i=>f (at'+i)))∧out=fun _=>none):=by
 refine aE Tryz.func43 rfl (by kernel_rfl) (by simp[Tryz.ntmps43]) Tryz.qo (by simp[AV.ok,CV.ok,SV.names]) eG (eH hp) ?_
 have fy: ∀ {M:Nat→Prop},(∀ x ∈ cs,SV.ok M x)=True:=eq_true (aJ hp)
 simp only[Tryz.results43,Tryz.vr,Value.oneCell',simprocAttr, -List.reduceReplicate]
 refine aG 32 (fun k=>[(0,Sl 0 o n c),(1,I .i64 at'),(4,Ptr 1 0),(5,Ptr 2 0),(6,I .i64 k)])
  (fun k=>[(0,⟨false,cs⟩),(1,⟨true,ae .u8 32 (fun _=>0)⟩),(2,⟨true,ae .u8 32 (fun i=>if i < k then f (at'+i) else 0)⟩)]) _ ?_ ?_ ?_
 ·simp only[fy,Nat.not_lt_zero,if_false,Tryz.vr,Value.oneCell',simprocAttr, -List.reduceReplicate]
 ·intro k hk
  have a3:((k:Int) < 32)=True:=cf (m:=32) hk
  have d1:decide (0≤(at':Int))=true:=decide_eq_true (by omega)
  have w1:IntKind.i64.wrap ((at':Int)+(k:Int))=((at'+k:Nat):Int):=I0 _ _ (by omega)
  have d2:decide (((at'+k:Nat):Int) < (n:Int))=true:=decide_eq_true (by omega)
  have l2:(((at'+k:Nat):Int) < (n:Int))=True:=eq_true (by omega)
  have fin:ae .u8 32 (upd (fun i=>if i < k then f (at'+i) else 0) k (f (at'+k)))=ae .u8 32 (fun i=>if i < k+1 then f (at'+i) else 0):=fc (f:=fun i=>f (at'+i))
  simp only[Tryz.vr,Value.oneCell',simprocAttr, -List.reduceReplicate]
  refine aD (by simp;omega) ?_
  simp only[d1,l2,w1,a3,hs (at'+k) (by omega),bl,Nat.mul_one,aA .u8 32 _ k hk,fin,bD k (by omega),decide_true,Tryz.vr,Value.oneCell',simprocAttr, -List.reduceReplicate]
  exact ⟨by omega,aJ hp⟩
 ·simp only[Tryz.vr,Value.oneCell',simprocAttr, -List.reduceReplicate]
  refine aH (by simp) ?_
  simp only[dG,Tryz.vr,Value.oneCell',simprocAttr, -List.reduceReplicate]
  exact aC (v:=Ag (ae .u8 32 (fun i=>f (at'+i)))) aw ⟨rfl,rfl⟩
theorem BG {s:AS} {nm t o n c at':Nat} {rw:Bool} {f:Nat→Int} {cs:List SV} (hb:s.box t=some ⟨rw,cs⟩) (hs:bE cs o n f) (hp:cs.all SV.plain=true) (h:at'+32≤n) (hn:n < 1000000) {dst:Option Nat} {K:AS→Prop}
  (hk:K (s.put dst (some (Ag (ae .u8 32 (fun i=>f (at'+i))))))):aB Tryz.prog nm 43 (some [Sl t o n c,I .i64 at']) dst K s:=
 (ab3 hs hp h hn).dV (fun _=>t) (dp hb hp) aw rfl hk
theorem BH (r x:Nat→Int) (hr:bY r) (hx:bY x):cB Tryz.prog 23 [Ag (ae .u8 32 r),Ag (ae .u8 32 x)] (sf (Nj r x) (fun i=>Nj r x (32+i))):=by
 refine aK Tryz.func23 rfl (by kernel_rfl) (by simp[Tryz.ntmps23]) rfl rfl ?_
 simp only[Tryz.results23,Tryz.vr,Value.oneCell',simprocAttr, -List.reduceReplicate]
 refine ⟨by kernel_rfl,by decide,by decide,by decide,by decide,by decide,by decide,by decide,by decide,by decide,by decide,by decide, ?_⟩
 refine sd (t0:=0) (t1:=1) (t2:=6) (nk:=32) (m:=32) (q:=12) (N:=64) (r0:=true) (r1:=true) (r2:=true) (oT:=r) (f:=x) (info:=lb) (cs:=ae .u8 32 r) (ds:=ae .u8 32 x) (es:=ae .u8 12 lb)
  hr hx BF (by simp only[af,Tryz.vr,Value.oneCell',simprocAttr, -List.reduceReplicate]) aw (by simp only[af,Tryz.vr,Value.oneCell',simprocAttr, -List.reduceReplicate]) aw (by simp only[ax];rfl) aw
  (.inr ⟨0,32,rfl,aP⟩) (.inr ⟨0,32,rfl,aP⟩) (.inr ⟨0,12,rfl,aP⟩) (by decide) (by kernel_rfl) ?_
 intro c tail h1 h2 h3
 simp only[Tryz.vr,Value.oneCell',simprocAttr, -List.reduceReplicate]
 refine BG (at':=0) (rw:=true) (f:=Nj r x) (cs:=ae .u8 64 (Nj r x)++tail) (by simp only[af,Tryz.vr,Value.oneCell',simprocAttr, -List.reduceReplicate];rfl) cV (cH h3) (by decide) (by decide) ?_
 simp only[Tryz.vr,Value.oneCell',simprocAttr, -List.reduceReplicate]
 refine BG (at':=32) (rw:=true) (f:=Nj r x) (cs:=ae .u8 64 (Nj r x)++tail) (by simp only[af,Tryz.vr,Value.oneCell',simprocAttr, -List.reduceReplicate];rfl) cV (cH h3) (by decide) (by decide) ?_
 simp only[Nat.zero_add,Tryz.vr,Value.oneCell',simprocAttr, -List.reduceReplicate]
 rfl
def sN (k:Nat→Int) (x:Int):Nat→Int:=fA kW b9 k 32 (fun _=>x) 1
theorem G3 (k:Nat→Int) (hk:bY k):cB Tryz.prog 68 [Ag (ae .u8 32 k)] (sf (sN k 2) (sN k 1)):=by
 refine aK Tryz.func68 rfl (by kernel_rfl) (by simp[Tryz.ntmps68]) rfl rfl ?_
 simp only[Tryz.results68,dL,Tryz.vr,Value.oneCell',simprocAttr, -List.reduceReplicate]
 refine ⟨by kernel_rfl, ?_⟩
 have sW:bY (fun _=>(2:Int)):=fun i=>by show (0:Int)≤2∧(2:Int) < 256;decide
 have ux:bY (fun _=>(1:Int)):=fun i=>by show (0:Int)≤1∧(1:Int) < 256;decide
 have alP:bt Tryz.prog 91 [Sl 0 0 32 32,Sl 1 0 1 1] 2 (lk [(0,⟨false,ae .u8 32 k⟩),(1,⟨false,[Sum.inl (.int .u8 2)]⟩)]) (fun u out=>u=Ag (ae .u8 32 (sN k 2))∧out=fun _=>none):=aam (nk:=32) (m:=1) hk sW aP aw (by decide) b7 rfl
 have alQ:bt Tryz.prog 91 [Sl 0 0 32 32,Sl 1 0 1 1] 2 (lk [(0,⟨false,ae .u8 32 k⟩),(1,⟨false,[Sum.inl (.int .u8 1)]⟩)]) (fun u out=>u=Ag (ae .u8 32 (sN k 1))∧out=fun _=>none):=aam (nk:=32) (m:=1) hk ux aP aw (by decide) b7 rfl
 refine alP.en (two 0 4) (jz (rw:=true) (rw':=true) (by simp only[af,Tryz.vr,Value.oneCell',simprocAttr, -List.reduceReplicate]) aw (by simp only[af,Tryz.vr,Value.oneCell',simprocAttr, -List.reduceReplicate]) rfl) aw rfl (fun M h n hn=> ?_) ?_
 ·have a:=h (Sl 0 0 32 32) (List.Mem.head _)
  have b:=h (Sl 4 0 1 1) (List.Mem.tail _ (List.Mem.head _))
  simp only[two];split
  ·exact a
  ·exact b
 simp only[dL,Tryz.vr,Value.oneCell',simprocAttr, -List.reduceReplicate]
 refine alQ.en (two 0 7) (jz (rw:=true) (rw':=true) (by simp only[af,Tryz.vr,Value.oneCell',simprocAttr, -List.reduceReplicate]) aw (by simp only[af,Tryz.vr,Value.oneCell',simprocAttr, -List.reduceReplicate]) rfl) aw rfl (fun M h n hn=> ?_) ?_
 ·have a:=h (Sl 0 0 32 32) (List.Mem.head _)
  have b:=h (Sl 7 0 1 1) (List.Mem.tail _ (List.Mem.head _))
  simp only[two];split
  ·exact a
  ·exact b
 simp only[dL,Tryz.vr,Value.oneCell',simprocAttr, -List.reduceReplicate]
 rfl
theorem mM (k:Nat→Int) (hk:bY k):cB Tryz.prog 49 [Ag (ae .u8 32 k)] (sf (sN k 2) (sN k 1)):=by
 refine AF Tryz.func49 rfl (by kernel_rfl) (by simp[Tryz.ntmps49]) rfl rfl ?_
 simp only[Tryz.results49,dL,aj,ak,Tryz.vr,Value.oneCell',simprocAttr, -List.reduceReplicate]
 have sW:bY (fun _=>(2:Int)):=fun i=>by show (0:Int)≤2∧(2:Int) < 256;decide
 have ux:bY (fun _=>(1:Int)):=fun i=>by show (0:Int)≤1∧(1:Int) < 256;decide
 refine gm (ta:=0) (tb:=4) (rwa:=true) (rwb:=true) (key:=k) (f:=fun _=>2) hk sW (by simp only[af,Tryz.vr,Value.oneCell',simprocAttr, -List.reduceReplicate]) aP aw (by simp only[af,Tryz.vr,Value.oneCell',simprocAttr, -List.reduceReplicate]) b7 rfl (by decide) (by decide) ?_
 simp only[dL,aj,ak,Tryz.vr,Value.oneCell',simprocAttr, -List.reduceReplicate]
 refine gm (ta:=0) (tb:=9) (rwa:=true) (rwb:=true) (key:=k) (f:=fun _=>1) hk ux (by simp only[af,Tryz.vr,Value.oneCell',simprocAttr, -List.reduceReplicate]) aP aw (by simp only[af,Tryz.vr,Value.oneCell',simprocAttr, -List.reduceReplicate]) b7 rfl (by decide) (by decide) ?_
 simp only[dL,aj,ak,Tryz.vr,Value.oneCell',simprocAttr, -List.reduceReplicate]
 refine .inr ⟨Tryz.mixed,afa,by kernel_rfl, ?_⟩
 simp only[afa,aj,ak,Tryz.vr,Value.oneCell',simprocAttr, -List.reduceReplicate]
 rfl
end Go.Proofs.YtoakenpcooglpaaGreatDoor
namespace Go.Proofs.YtoakenpcooglpaaGreatDoor
open Go.cA
set_option linter.unusedSectionVars false
variable [aX]
theorem V0 (x y c:Int) (hx:0≤x) (hy:0≤y) (h0:0≤c) (h1:c≤1): ∀ (g:bG) (w:World),(callFunc 134 (([I .u64 x,I .u64 y,I .u64 c]:List AV).map (AV.av g)).toArray).run Tryz.prog w=
  .ok (.value (AV.av g (.inr [.inl (.inl (.int .u64 ((x+y+c)%18446744073709551616))), .inl (.inl (.int .u64 ((x+y+c) / 18446744073709551616)))]))) w:=by
 intro g w
 show (callFunc 134 #[.int .u64 x, .int .u64 y, .int .u64 c]).run Tryz.prog w=_
 rw[run_callFunc_extern Tryz.func134 (by kernel_rfl) (by kernel_rfl) (by kernel_rfl) (e:=add64Entry) (by kernel_rfl),run_add64 x y c hx hy h0 h1]
 rfl
theorem Add64.call {x y c:Int} (hx:0≤x) (hy:0≤y) (h0:0≤c) (h1:c≤1) {dst:Option Nat} {K:AS→Prop} {s:AS}
  (hk:K (s.put dst (some (.inr [.inl (.inl (.int .u64 ((x+y+c)%18446744073709551616))), .inl (.inl (.int .u64 ((x+y+c) / 18446744073709551616)))])))):
  mF Tryz.prog 134 (some [I .u64 x,I .u64 y,I .u64 c]) dst K s:=
 ⟨_,by intro v hv;simp at hv;rcases hv with rfl | rfl<;>trivial,V0 x y c hx hy h0 h1,hk⟩
theorem V1 (x y:Int) (hx:0≤x) (hx':x < 18446744073709551616) (hy:0≤y) (hy':y < 18446744073709551616):
  cB Tryz.prog 133 [I .u64 x,I .u64 y] (.inr [.inl (.inl (.int .u64 (x*y / 18446744073709551616))), .inl (.inl (.int .u64 (x*y%18446744073709551616)))]):=by
 refine aK Tryz.func133 rfl (by kernel_rfl) (by simp[Tryz.ntmps133]) rfl rfl ?_
 simp only[Tryz.results133,Tryz.vs,Value.oneCell',simprocAttr, -List.reduceReplicate]
 rw[NN x y hx hx' hy hy',wrap_u64]
def eE (W:Int):List SV:=[Sum.inl (.int .u64 (W / 18446744073709551616)),Sum.inl (.int .u64 (W%18446744073709551616))]
theorem cK (W x y:Int) (hW:0≤W) (hx:0≤x) (hx':x < 18446744073709551616) (hy:0≤y) (hy':y < 18446744073709551616) (hs:W+x*y < 340282366920938463463374607431768211456):
  cB Tryz.prog 121 [Ag (eE W),I .u64 x,I .u64 y] (Ag (eE (W+x*y))):=by
 have hxy:0≤x*y:=Int.mul_nonneg hx hy
 refine aK Tryz.func121 rfl (by kernel_rfl) (by simp[Tryz.ntmps121]) rfl rfl ?_
 simp only[eE,Tryz.results121,Tryz.vs,Value.oneCell',simprocAttr, -List.reduceReplicate]
 refine (V1 x y hx hx' hy hy').aB ?_
 simp only[Tryz.vs,Value.oneCell',simprocAttr, -List.reduceReplicate]
 refine Add64.call (by omega) (by omega) (by omega) (by omega) ?_
 simp only[Tryz.vs,Value.oneCell',simprocAttr, -List.reduceReplicate]
 refine Add64.call (by omega) (by omega) (by omega) (by omega) ?_
 simp only[Tryz.vs,Value.oneCell',simprocAttr, -List.reduceReplicate]
 generalize x*y=p at*
 rw[show (W / 18446744073709551616+p / 18446744073709551616+(W%18446744073709551616+p%18446744073709551616+0) / 18446744073709551616)%18446744073709551616=(W+p) / 18446744073709551616 from by omega,
  show (W%18446744073709551616+p%18446744073709551616+0)%18446744073709551616=(W+p)%18446744073709551616 from by omega]
theorem lE (W:Int) (hW:0≤W) (hW':W < 41538374868278621028243970633760768):cB Tryz.prog 123 [Ag (eE W)] (I .u64 (W / 2251799813685248)):=by
 refine aK Tryz.func123 rfl (by kernel_rfl) (by simp[Tryz.ntmps123]) rfl rfl ?_
 simp only[eE,Tryz.results123,Tryz.vs,Value.oneCell',simprocAttr, -List.reduceReplicate]
 rw[aib,mJ,Int.emod_eq_of_lt (by omega) (by omega)]
 have:=Xm (W / 18446744073709551616) (W%18446744073709551616 / 2251799813685248) 13 (by decide) (by omega) (by omega) (by omega) (by omega)
 rw[show (2:Int)^13=8192 from rfl]at this
 rw[this]
 rw[show W / 18446744073709551616*8192+W%18446744073709551616 / 2251799813685248=W / 2251799813685248 from by omega]
structure F5 where
 a0:Int
 a1:Int
 a2:Int
 a3:Int
 a4:Int
def F5.l (f:F5):List SV:=[Sum.inl (.int .u64 f.a0),Sum.inl (.int .u64 f.a1),Sum.inl (.int .u64 f.a2),Sum.inl (.int .u64 f.a3),Sum.inl (.int .u64 f.a4)]
def eL (f:F5):F5:=
 ⟨f.a0%2251799813685248+19*(f.a4 / 2251799813685248),f.a1%2251799813685248+f.a0 / 2251799813685248,f.a2%2251799813685248+f.a1 / 2251799813685248,
  f.a3%2251799813685248+f.a2 / 2251799813685248,f.a4%2251799813685248+f.a3 / 2251799813685248⟩
structure F5.U (f:F5):Prop where
 h0:0≤f.a0∧f.a0 < 18446744073709551616
 h1:0≤f.a1∧f.a1 < 18446744073709551616
 h2:0≤f.a2∧f.a2 < 18446744073709551616
 h3:0≤f.a3∧f.a3 < 18446744073709551616
 h4:0≤f.a4∧f.a4 < 18446744073709551616
theorem n6 (f:F5) (h:f.U):cB Tryz.prog 122 [I .u64 f.a0,I .u64 f.a1,I .u64 f.a2,I .u64 f.a3,I .u64 f.a4] (Ag (eL f).l):=by
 obtain ⟨⟨h0,BI⟩,⟨h1,h1'⟩,⟨h2,h2'⟩,⟨h3,h3'⟩,⟨h4,h4'⟩⟩:=h
 refine aK Tryz.func122 rfl (by kernel_rfl) (by simp[Tryz.ntmps122]) rfl rfl ?_
 simp only[Tryz.results122,Tryz.vs,Value.oneCell',simprocAttr, -List.reduceReplicate]
 simp only[mJ,hX f.a0 h0 BI,hX f.a1 h1 h1',hX f.a2 h2 h2',hX f.a3 h3 h3',hX f.a4 h4 h4']
 rw[au (19*_) (by omega) (by omega),au _ (by omega) (by omega),au _ (by omega) (by omega),au _ (by omega) (by omega),au _ (by omega) (by omega),au _ (by omega) (by omega)]
 rfl
structure F5.Ok (f:F5):Prop where
 h0:0≤f.a0∧f.a0 < 2251799813686272
 h1:0≤f.a1∧f.a1 < 2251799813686272
 h2:0≤f.a2∧f.a2 < 2251799813686272
 h3:0≤f.a3∧f.a3 < 2251799813686272
 h4:0≤f.a4∧f.a4 < 2251799813686272
def Mn (a b:F5):F5:=⟨a.a0+b.a0,a.a1+b.a1,a.a2+b.a2,a.a3+b.a3,a.a4+b.a4⟩
def Mp (a b:F5):F5:=⟨a.a0+4503599627370458 - b.a0,a.a1+4503599627370494 - b.a1,a.a2+4503599627370494 - b.a2,a.a3+4503599627370494 - b.a3,a.a4+4503599627370494 - b.a4⟩
theorem ab4 (a b:F5) (ha:a.Ok) (hb:b.Ok):cB Tryz.prog 118 [Ag a.l,Ag b.l] (Ag (eL (Mn a b)).l):=by
 obtain ⟨⟨h0,BI⟩,⟨h1,h1'⟩,⟨h2,h2'⟩,⟨h3,h3'⟩,⟨h4,h4'⟩⟩:=ha
 obtain ⟨⟨k0,Nk⟩,⟨k1,Nl⟩,⟨k2,Nm⟩,⟨k3,Nn⟩,⟨k4,No⟩⟩:=hb
 refine aK Tryz.func118 rfl (by kernel_rfl) (by simp[Tryz.ntmps118]) rfl rfl ?_
 simp only[F5.l,Tryz.results118,Tryz.vs,Value.oneCell',simprocAttr, -List.reduceReplicate]
 rw[au (a.a0+b.a0) (by omega) (by omega),au (a.a1+b.a1) (by omega) (by omega),au (a.a2+b.a2) (by omega) (by omega),au (a.a3+b.a3) (by omega) (by omega),au (a.a4+b.a4) (by omega) (by omega)]
 refine (n6 (Mn a b) ⟨?_, ?_, ?_, ?_, ?_⟩).aB ?_
 iterate 5 (simp only[Mn];omega)
 simp only[F5.l,Tryz.vs,Value.oneCell',simprocAttr, -List.reduceReplicate]
theorem ab5 (a b:F5) (ha:a.Ok) (hb:b.Ok):cB Tryz.prog 119 [Ag a.l,Ag b.l] (Ag (eL (Mp a b)).l):=by
 obtain ⟨⟨h0,BI⟩,⟨h1,h1'⟩,⟨h2,h2'⟩,⟨h3,h3'⟩,⟨h4,h4'⟩⟩:=ha
 obtain ⟨⟨k0,Nk⟩,⟨k1,Nl⟩,⟨k2,Nm⟩,⟨k3,Nn⟩,⟨k4,No⟩⟩:=hb
 refine aK Tryz.func119 rfl (by kernel_rfl) (by simp[Tryz.ntmps119]) rfl rfl ?_
 simp only[F5.l,Tryz.results119,Tryz.vs,Value.oneCell',simprocAttr, -List.reduceReplicate]
 rw[au (a.a0+_) (by omega) (by omega),au (a.a1+_) (by omega) (by omega),au (a.a2+_) (by omega) (by omega),au (a.a3+_) (by omega) (by omega),au (a.a4+_) (by omega) (by omega),
  au (a.a0+_ - b.a0) (by omega) (by omega),au (a.a1+_ - b.a1) (by omega) (by omega),au (a.a2+_ - b.a2) (by omega) (by omega),au (a.a3+_ - b.a3) (by omega) (by omega),au (a.a4+_ - b.a4) (by omega) (by omega)]
 refine (n6 (Mp a b) ⟨?_, ?_, ?_, ?_, ?_⟩).aB ?_
 iterate 5 (simp only[Mp];omega)
 simp only[F5.l,Tryz.vs,Value.oneCell',simprocAttr, -List.reduceReplicate]
end Go.Proofs.YtoakenpcooglpaaGreatDoor
