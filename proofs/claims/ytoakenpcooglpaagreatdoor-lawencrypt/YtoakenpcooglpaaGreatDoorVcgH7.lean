/-
  The expansion in the program.
-/
import Derived.Test.YtoakenpcooglpaaGreatDoorVcgJ3
set_option linter.unusedVariables false
set_option linter.unusedSimpArgs false
namespace Go.Proofs.YtoakenpcooglpaaGreatDoor
set_option maxHeartbeats 8000000
set_option maxRecDepth 20000
open Go.cA
set_option linter.unusedSectionVars false
variable [aX]
theorem nX {box:Nat→Option aW} {sv:SV} {n tk:Nat} {f:Nat→Int} {UR:Bool} {wB:List SV} (h:bC box (.inl (.inl sv)) n f) (hk:box tk=some ⟨UR,wB⟩) (hkp:wB.all SV.plain=true):
  ∃ (t:Nat) (rw:Bool) (cs:List SV) (w:Nat→SV),box t=some ⟨rw,cs⟩∧cs.all SV.plain=true∧(∀ (r:Nat→Nat) j,r j=t→SV.bh r (w j)=sv)∧
   (∀ (bx:Nat→Option aW) j,bx j=some ⟨false,cs⟩→bC bx (.inl (.inl (w j))) n f)∧(∀ (M:Nat→Prop) j,M j→SV.ok M (w j))∧(∀ M:Nat→Prop,AV.ok M (.inl (.inl sv))→(t=tk∨M t)):=by
 rcases h with ⟨⟨a,e⟩,rfl⟩ | ⟨t,o,c,rw,cs,e,hb,hp,hs⟩
 ·cases e
  exact ⟨tk,UR,wB,fun _=> .inl (.slice a 0 0),hk,hkp,fun _ _ _=>rfl,fun _ _ _=> .inl ⟨⟨a,rfl⟩,rfl⟩,fun _ _ _=>⟨trivial,rfl⟩,fun _ _=> .inl rfl⟩
 ·cases e
  refine ⟨t,rw,cs,fun j=> .inr (.inr (j,o,n,c)),hb,hp,fun r j e=> ?_,fun bx j e=> .inr ⟨j,o,c,false,cs,rfl,e,hp,hs⟩,fun M j h=>⟨h,rfl⟩,fun M h=> .inr h⟩
  show SV.bh r (Sum.inr (Sum.inr (j,o,n,c)))=_
  simp only[SV.bh,e]
def five (a b c d e:Nat):Nat→Nat
 | 0=>a
 | 1=>b
 | 2=>c
 | 3=>d
 | _=>e
theorem tB {s:AS} {nm t0 tk ok nk ck o c:Nat} {rw0 UR:Bool} {a0 a1 a2:SV} {wB:List SV} {n0 n1 n2:Nat} {f0 f1 f2 key:Nat→Int} (h0:s.box t0=some ⟨rw0,[a0,a1,a2]⟩) (ho:o=0)
  (p0:bC s.box (.inl (.inl a0)) n0 f0) (p1:bC s.box (.inl (.inl a1)) n1 f1) (p2:bC s.box (.inl (.inl a2)) n2 f2) (b0:bY f0) (b1:bY f1) (b2:bY f2)
  (hk:s.box tk=some ⟨UR,wB⟩) (hkp:wB.all SV.plain=true) (hkey:bE wB ok nk key) (Nh:bY key) (hnk:nk < 100000000) (WD:nk≤ck) (hN:n0+n1+n2 < 100000000) {dst:Option Nat} {K:AS→Prop}
  (hK:K (s.put dst (some (Ag (ae .u8 32 (fA kW b9 key nk (aR (n0+n1) (aR n0 f0 f1) f2) (n0+n1+n2))))))):aB Tryz.prog nm 86 (some [Sl tk ok nk ck,Sl t0 o 3 c]) dst K s:=by
 subst ho
 obtain ⟨u0,r0,c0,w0,e0,q0,g0,i0,k0,_⟩:=nX p0 hk hkp
 obtain ⟨u1,r1,c1,w1,e1,q1,g1,i1,k1,_⟩:=nX p1 hk hkp
 obtain ⟨u2,r2,c2,w2,e2,q2,g2,i2,k2,_⟩:=nX p2 hk hkp
 let l:List (Nat×aW):=[(0,⟨false,[w0 2,w1 3,w2 4]⟩),(1,⟨false,wB⟩),(2,⟨false,c0⟩),(3,⟨false,c1⟩),(4,⟨false,c2⟩)]
 let nn:Nat→Nat:=fun j=>if j=0 then n0 else if j=1 then n1 else n2
 let ff:Nat→Nat→Int:=fun j=>if j=0 then f0 else if j=1 then f1 else f2
 have hl:Mf l [w0 2,w1 3,w2 4] 5 0 3 nn ff:=by
  refine ⟨fun x hx=> ?_,fun i hi=> ?_,fun x hx=> ?_,rfl,fun j hj=> ?_⟩
  ·simp only[l,List.mem_cons,List.not_mem_nil,or_false]at hx
   rcases hx with rfl | rfl | rfl | rfl | rfl<;>rfl
  ·have:i=0∨i=1∨i=2∨i=3∨i=4:=by omega
   rcases this with rfl | rfl | rfl | rfl | rfl<;>exact ⟨_,rfl⟩
  ·simp only[l,List.mem_cons,List.not_mem_nil,or_false]at hx
   rcases hx with rfl | rfl | rfl | rfl | rfl
   ·refine ⟨show (0:Nat) < 5 by decide,rfl,fun y hy=> ?_⟩
    simp only[List.mem_cons,List.not_mem_nil,or_false]at hy
    rcases hy with rfl | rfl | rfl
    ·exact k0 _ _ (by decide)
    ·exact k1 _ _ (by decide)
    ·exact k2 _ _ (by decide)
   ·exact ⟨show (1:Nat) < 5 by decide,rfl,aJ hkp⟩
   ·exact ⟨show (2:Nat) < 5 by decide,rfl,aJ q0⟩
   ·exact ⟨show (3:Nat) < 5 by decide,rfl,aJ q1⟩
   ·exact ⟨show (4:Nat) < 5 by decide,rfl,aJ q2⟩
  ·have:j=0∨j=1∨j=2:=by omega
   rcases this with rfl | rfl | rfl
   ·exact ⟨_,rfl,i0 _ 2 rfl⟩
   ·exact ⟨_,rfl,i1 _ 3 rfl⟩
   ·exact ⟨_,rfl,i2 _ 4 rfl⟩
 have hfit:Fits s (five t0 tk u0 u1 u2) (lk l) none:=by
  refine ⟨fun n b hb=> ?_,fun n n' b b' hb hrw=> ?_,fun n b hb hrw=> ?_,fun n hn=>(by cases hn)⟩
  ·have:=bq _ _ _ hb
   simp only[l,List.mem_cons,List.not_mem_nil,or_false,Prod.mk.injEq]at this
   rcases this with ⟨rfl,rfl⟩ | ⟨rfl,rfl⟩ | ⟨rfl,rfl⟩ | ⟨rfl,rfl⟩ | ⟨rfl,rfl⟩
   ·refine ⟨_,h0,fun e=>(by cases e), ?_⟩
    simp only[List.map_cons,List.map_nil]
    rw[g0 _ 2 rfl,g1 _ 3 rfl,g2 _ 4 rfl]
   ·exact ⟨_,hk,fun e=>(by cases e),(bj hkp _).symm⟩
   ·exact ⟨_,e0,fun e=>(by cases e),(bj q0 _).symm⟩
   ·exact ⟨_,e1,fun e=>(by cases e),(bj q1 _).symm⟩
   ·exact ⟨_,e2,fun e=>(by cases e),(bj q2 _).symm⟩
  all_goals
   have:=hl.ro _ (bq _ _ _ hb)
   simp only at this
   rw[this]at hrw;cases hrw
 have hb: ∀ j,j < 3→bY (ff j):=fun j hj=>by
  have:j=0∨j=1∨j=2:=by omega
  rcases this with rfl | rfl | rfl
  ·exact b0
  ·exact b1
  ·exact b2
 have Mi:=aag (c:=c) (tk:=1) (ok:=ok) (nk:=nk) (ck:=ck) (key:=key) hl (by decide) (by decide) (by decide) (by show 0+n0+n1+n2 < _;omega) hb rfl hkp hkey Nh hnk WD
 have aai:fA kW b9 key nk (BD nn ff 3) (iL nn 3)=fA kW b9 key nk (aR (n0+n1) (aR n0 f0 f1) f2) (n0+n1+n2):=by
  have e1:iL nn 3=n0+n1+n2:=by show 0+n0+n1+n2=_;omega
  rw[e1]
  refine je (fun _ _=>rfl) fun i hi=> ?_
  show aR (0+n0+n1) (aR (0+n0) (aR 0 (fun _=>0) f0) f1) f2 i=_
  rw[Nat.zero_add]
  simp only[aR]
  split
  ·split
   ·rw[if_neg (by omega),Nat.sub_zero]
   ·rfl
  ·rfl
 rw[aai]at Mi
 exact Mi.dV (five t0 tk u0 u1 u2) hfit aw rfl hK
theorem FJ (x:Int):0≤IntKind.u8.wrap x∧IntKind.u8.wrap x < 256:=by rw[wrap_u8];omega
theorem ae8 (x:Int):IntKind.u8.wrap (IntKind.u8.wrap x+1)=IntKind.u8.wrap (x+1):=by simp only[wrap_u8];omega
theorem OR {v:Value} {a b c:SV}:splice (splice (splice (iw [v] 3) 0 [a]) 1 [b]) 2 [c]=[a,b,c]:=rfl
theorem nY {K V p info:Nat→Int} {m k i:Nat} (h:i < 32):gK K V p info m (32*k+i)=oQ K V p info m (k+1) i:=by
 simp only[gK];rw[show (32*k+i) / 32=k by omega,show (32*k+i)%32=i by omega]
def VU (k c:Nat):AV:=if k=0 then V (.slice none 0 0) else Sl 30 0 (32*k) c
def FK (k:Nat):AV:=if k=0 then V (.slice none 0 0) else Sl 31 0 32 32
def qY (k:Nat) (cs:List SV) (T:Nat→Int):List (Nat×aW):=if k=0 then [] else [(30,⟨true,cs⟩),(31,⟨true,ae .u8 32 T⟩)]
theorem Mj {o m c n:Nat} {p info:Nat→Int} {cs:List SV} (G2:bY p) (Cl:bY info) (hc:bE cs o m info) (hp:cs.all SV.plain=true) (hm:m < 10000000) (hn:n≤8160):
  bt Tryz.prog 85 [Ag (ae .u8 32 p),Sl 0 o m c,I .i64 n] 1 (lk [(0,⟨false,cs⟩)]) (Bytes 1 n (gK kW b9 p info m)):=by
 refine aE Tryz.func85 rfl (by kernel_rfl) (by simp[Tryz.ntmps85]) Tryz.qL (fun u hu=>by
  simp only[List.mem_cons,List.not_mem_nil,or_false]at hu
  rcases hu with rfl | rfl | rfl
  ·exact aJ aw
  ·exact (by decide:0 < 1)
  ·trivial) eG (eH hp) ?_
 have fy: ∀ {M:Nat→Prop},(∀ x ∈ cs,SV.ok M x)=True:=eq_true (aJ hp)
 simp only[Tryz.results85,Tryz.vr,Value.oneCell',simprocAttr, -List.reduceReplicate]
 refine xV (β:=Nat×List SV) ((n+31) / 32) (fun k y=>k=0∨bR y.2 0 (32*k) y.1 (gK kW b9 p info m))
  (fun k y=>[(1,Sl 0 o m c),(2,I .i64 n),(3,Ptr 1 0),(7,VU k y.1),(8,FK k),(9,I .u8 (IntKind.u8.wrap ((k+1:Nat):Int)))])
  (fun k y=>[(0,⟨false,cs⟩),(1,⟨true,ae .u8 32 p⟩)]++qY k y.2 (oQ kW b9 p info m k)) 32 (0,[]) ?_ ?_ ?_ ?_
 ·refine ⟨.inl rfl,fun n=>n,fun _ _=>rfl, ?_, ?_, ?_⟩
  ·simp only[VU,FK,if_true,er,gy,iT,jS,Tryz.vr,Value.oneCell',simprocAttr, -List.reduceReplicate]
   simp
   exact ⟨trivial,rfl⟩
  ·simp only[qY,if_true,List.append_nil,km,hp,Tryz.vr,Value.oneCell',simprocAttr, -List.reduceReplicate]
  ·simp only[qY,if_true,List.append_nil,Tryz.vr,Value.oneCell',simprocAttr, -List.reduceReplicate]
   simp
 ·rintro k ⟨c',cs'⟩ hk hinv
  simp only at hinv
  by_cases FL:k=0
  ·subst FL
   have hn0:0 < n:=by omega
   simp only[VU,FK,qY,if_true,List.append_nil,Tryz.vr,Value.oneCell',simprocAttr, -List.reduceReplicate]
   refine aD (by simp;omega) ?_
   simp only[Tryz.vr,Value.oneCell',simprocAttr, -List.reduceReplicate]
   refine ⟨show 1≤3 by decide,show 2≤3 by decide,show 3≤3 by decide, ?_⟩
   refine tB (t0:=41) (tk:=1) (rw0:=true) (UR:=true) (wB:=ae .u8 32 p) (key:=p) (n0:=0) (n1:=m) (n2:=1) (f0:=fun _=>0) (f1:=info) (f2:=fun _=>IntKind.u8.wrap ((0+1:Nat):Int)) (by simp only[af,OR,Tryz.vr,Value.oneCell',simprocAttr, -List.reduceReplicate];rfl) rfl
    (.inl ⟨⟨_,rfl⟩,rfl⟩) (.inr ⟨0,o,c,false,cs,rfl,by simp only[af,Tryz.vr,Value.oneCell',simprocAttr, -List.reduceReplicate],hp,hc⟩) (.inr ⟨40,0,1,true,[Sum.inl (.int .u8 (IntKind.u8.wrap ((0+1:Nat):Int)))],rfl,by simp only[af,dL,Tryz.vr,Value.oneCell',simprocAttr, -List.reduceReplicate],rfl,b7⟩)
    (fun _=>⟨Int.le_refl 0,by show (0:Int) < 256;decide⟩) Cl (fun _=>FJ _) (by simp only[af,Tryz.vr,Value.oneCell',simprocAttr, -List.reduceReplicate]) aw aP G2 (by decide) (by decide) (by omega) ?_
   have hT:fA kW b9 p 32 (aR (0+m) (aR 0 (fun _=>0) info) (fun _=>IntKind.u8.wrap ((0+1:Nat):Int))) (0+m+1)=oQ kW b9 p info m 1:=by
    show _=fA kW b9 p 32 (aR m info (fun _=>1)) (0+(m+1))
    rw[show 0+(m+1)=0+m+1 by omega]
    refine je (fun _ _=>rfl) fun i hi=> ?_
    simp only[aR,Nat.zero_add,Nat.not_lt_zero,if_false,Nat.sub_zero]
    rfl
   rw[hT]
   have hTb:=rR kW b9 p info m 1
   generalize WE:oQ kW b9 p info m 1=T at*
   simp only[Tryz.vr,Value.oneCell',simprocAttr, -List.reduceReplicate]
   refine ia (m:=32) (g:=T) Tryz.bS Tryz.bW (.inr ⟨43,0,32,true,ae .u8 32 T,rfl,by simp only[af,Tryz.vr,Value.oneCell',simprocAttr, -List.reduceReplicate],aw,aP⟩) (by decide) (fun h=>absurd h (by decide)) ?_
   intro _ c2 kZ gC
   simp only[Tryz.vr,Value.oneCell',simprocAttr, -List.reduceReplicate]
   refine ⟨(c2,kZ), .inr (gC.congr (by omega) fun i hi=> ?_),fun x=>if x=30 then 49 else if x=31 then 43 else x,fun x hx=> ?_, ?_, ?_, ?_⟩
   ·have h:=nY (K:=kW) (V:=b9) (p:=p) (info:=info) (m:=m) (k:=0) hi
    rw[show 32*0+i=i by omega]at h
    rw[h];exact congrFun WE.symm i
   ·simp only;rw[if_neg (by omega),if_neg (by omega)]
   ·simp only[er,gy,iT,jS,ae8,Tryz.vr,Value.oneCell',simprocAttr, -List.reduceReplicate]
   ·simp only[gC.plain,km,hp,Tryz.vr,Value.oneCell',simprocAttr, -List.reduceReplicate]
   ·simp only[Tryz.vr,Value.oneCell',simprocAttr, -List.reduceReplicate]
    simp
  ·simp only[VU,FK,qY,if_neg FL,if_neg (Nat.succ_ne_zero k),List.cons_append,List.nil_append,Tryz.vr,Value.oneCell',simprocAttr, -List.reduceReplicate]
   refine aD (by simp;omega) ?_
   simp only[Tryz.vr,Value.oneCell',simprocAttr, -List.reduceReplicate]
   refine ⟨show 1≤3 by decide,show 2≤3 by decide,show 3≤3 by decide, ?_⟩
   refine tB (t0:=41) (tk:=1) (rw0:=true) (UR:=true) (wB:=ae .u8 32 p) (key:=p) (n0:=32) (n1:=m) (n2:=1) (f0:=oQ kW b9 p info m k) (f1:=info) (f2:=fun _=>IntKind.u8.wrap ((k+1:Nat):Int)) (by simp only[af,OR,Tryz.vr,Value.oneCell',simprocAttr, -List.reduceReplicate]) rfl
    (.inr ⟨31,0,32,true,ae .u8 32 (oQ kW b9 p info m k),rfl,by simp only[af,Tryz.vr,Value.oneCell',simprocAttr, -List.reduceReplicate],aw,aP⟩) (.inr ⟨0,o,c,false,cs,rfl,by simp only[af,Tryz.vr,Value.oneCell',simprocAttr, -List.reduceReplicate],hp,hc⟩) (.inr ⟨40,0,1,true,[Sum.inl (.int .u8 (IntKind.u8.wrap ((k+1:Nat):Int)))],rfl,by simp only[af,dL,Tryz.vr,Value.oneCell',simprocAttr, -List.reduceReplicate],rfl,b7⟩)
    (rR _ _ _ _ _ _) Cl (fun _=>FJ _) (by simp only[af,Tryz.vr,Value.oneCell',simprocAttr, -List.reduceReplicate]) aw aP G2 (by decide) (by decide) (by omega) ?_
   have hT:fA kW b9 p 32 (aR (32+m) (aR 32 (oQ kW b9 p info m k) info) (fun _=>IntKind.u8.wrap ((k+1:Nat):Int))) (32+m+1)=oQ kW b9 p info m (k+1):=by
    show _=fA kW b9 p 32 (if k=0 then _ else aR 32 (oQ kW b9 p info m k) (aR m info (fun _=>IntKind.u8.wrap ((k+1:Nat):Int)))) ((if k=0 then 0 else 32)+(m+1))
    rw[if_neg FL,if_neg FL,show 32+(m+1)=32+m+1 by omega]
    refine je (fun _ _=>rfl) fun i hi=> ?_
    simp only[aR]
    by_cases h1:i < 32
    ·rw[if_pos (by omega),if_pos h1,if_pos h1]
    ·rw[if_neg h1,if_neg h1]
     by_cases h2:i < 32+m
     ·rw[if_pos h2,if_pos (by omega)]
     ·rw[if_neg h2,if_neg (by omega)]
   rw[hT]
   have hg:=hinv.resolve_left FL
   obtain ⟨T,WE⟩: ∃ T,oQ kW b9 p info m (k+1)=T:=⟨_,rfl⟩
   rw[WE]
   simp only[Tryz.vr,Value.oneCell',simprocAttr, -List.reduceReplicate]
   refine bn (b:=30) (g:=T) Tryz.bS Tryz.bW (by simp only[af,Tryz.vr,Value.oneCell',simprocAttr, -List.reduceReplicate]) hg (.inr ⟨43,0,32,true,ae .u8 32 T,rfl,by simp only[af,Tryz.vr,Value.oneCell',simprocAttr, -List.reduceReplicate],aP,by decide⟩) (by omega) ?_
   intro c2 kZ gC
   simp only[Tryz.vr,Value.oneCell',simprocAttr, -List.reduceReplicate]
   refine ⟨(c2,kZ), .inr (gC.congr (by omega) fun i hi=> ?_),fun x=>if x=30 then 49 else if x=31 then 43 else x,fun x hx=> ?_, ?_, ?_, ?_⟩
   ·simp only[aR]
    split
    ·rfl
    ·have h:=nY (K:=kW) (V:=b9) (p:=p) (info:=info) (m:=m) (k:=k) (i:=i - 32*k) (by omega)
     rw[show 32*k+(i - 32*k)=i by omega]at h
     rw[h,WE]
   ·simp only;rw[if_neg (by omega),if_neg (by omega)]
   ·simp only[er,gy,iT,jS,ae8,Tryz.vr,Value.oneCell',simprocAttr, -List.reduceReplicate]
    exact ⟨congrArg (fun z=>some (Sl 49 0 z c2)) (by omega),congrArg (fun z=>some (I .u8 (IntKind.u8.wrap z))) (by omega)⟩
   ·simp only[gC.plain,km,hp,Tryz.vr,Value.oneCell',simprocAttr, -List.reduceReplicate]
   ·simp only[Tryz.vr,Value.oneCell',simprocAttr, -List.reduceReplicate]
    simp
 ·rintro ⟨c',cs'⟩ hinv
  simp only at hinv
  by_cases FL:(n+31) / 32=0
  ·have hn0:n=0:=by omega
   subst hn0
   simp only[VU,FK,qY,if_true,FL,List.append_nil,Tryz.vr,Value.oneCell',simprocAttr, -List.reduceReplicate]
   refine aH (by simp) ?_
   simp only[Tryz.vr,Value.oneCell',simprocAttr, -List.reduceReplicate]
   exact ⟨1,V (.slice none 0 0),fun _=>none,Nat.le_refl _,rfl,trivial,fun n b hb=>(by cases hb), .inl ⟨rfl,rfl,rfl⟩⟩
  ·have hg:=hinv.resolve_left FL
   have hr:=hg.room
   have l1:((n:Int)≤(c':Int))=True:=eq_true (by omega)
   simp only[VU,FK,qY,if_neg FL,List.cons_append,List.nil_append,Tryz.vr,Value.oneCell',simprocAttr, -List.reduceReplicate]
   refine aH (by simp;omega) ?_
   simp only[bl,l1,Tryz.vr,Value.oneCell',simprocAttr, -List.reduceReplicate]
   exact dS (k:=1) (q:=30) (by decide) (by simp only[af,Tryz.vr,Value.oneCell',simprocAttr, -List.reduceReplicate]) hg.plain (.inr (bR.made ⟨hg.len,by omega,hg.plain,lZ hg.ez (by omega)⟩))
 ·show 6≤32
  decide
end Go.Proofs.YtoakenpcooglpaaGreatDoor
namespace Go.Proofs.YtoakenpcooglpaaGreatDoor
set_option maxHeartbeats 8000000
set_option maxRecDepth 20000
open Go.cA
set_option linter.unusedSectionVars false
variable [aX]
def cy (x:Int) (j:Nat):Int:=IntKind.u8.wrap (cr .u32 x (24 - 8*(j:Int)))
theorem VV (x:Int):cr .u32 x 0=x:=by
 have:=dK .u32 x 0 (by decide)
 simpa using this
theorem wP (x:Int):bt Tryz.prog 53 [I .u32 x] 0 (fun _=>none) (xY 0 4 (cy x)):=by
 refine aE Tryz.func53 rfl (by kernel_rfl) (by simp[Tryz.ntmps53]) Tryz.mc (by simp[AV.ok,CV.ok,SV.names]) xQ xR ?_
 simp only[Tryz.results53,Tryz.vs,Value.oneCell',simprocAttr, -List.reduceReplicate]
 have e3:IntKind.u8.wrap x=cy x 3:=by simp[cy,VV]
 refine ⟨by decide,by decide,by decide,by decide, ?_⟩
 refine dS (k:=0) (q:=12) (cs:=ae .u8 4 (cy x)) (by decide) ?_ aw ⟨rfl,rfl⟩
 rw[e3]
 simp only[ax]
 rfl
theorem agp {l:Nat} (hl:l < 140737488355328):bt Tryz.prog 77 [I .u64 (IntKind.u64.wrap (IntKind.u64.wrap (l:Int)*8))] 0 (fun _=>none) (Made 0 8 (oP l)):=by
 refine aE Tryz.func77 rfl (by kernel_rfl) (by simp[Tryz.ntmps77]) Tryz.mf (by simp[AV.ok,CV.ok,SV.names]) xQ xR ?_
 simp only[Tryz.results77,Tryz.vr,Value.oneCell',simprocAttr, -List.reduceReplicate]
 have e4: ∀ x:Int,IntKind.u32.wrap x=x%4294967296:=wrap_u32
 refine jd (wP _) (fun n=>n) gI rfl ?_
 simp only[Tryz.vr,Value.oneCell',simprocAttr, -List.reduceReplicate]
 refine jd (wP _) (fun n=>n) gI rfl ?_
 simp only[Tryz.vr,Value.oneCell',simprocAttr, -List.reduceReplicate]
 refine bn (g:=cy (IntKind.u32.wrap (IntKind.u64.wrap (IntKind.u64.wrap (l:Int)*8)))) Tryz.bS Tryz.bW (f:=cy (IntKind.u32.wrap (cr .u64 (IntKind.u64.wrap (IntKind.u64.wrap (l:Int)*8)) 32))) (b:=4) (cs:=ae .u8 4 (cy (IntKind.u32.wrap (cr .u64 (IntKind.u64.wrap (IntKind.u64.wrap (l:Int)*8)) 32)))) (by simp only[af,Tryz.vr,Value.oneCell',simprocAttr, -List.reduceReplicate])
  ⟨by rw[ah],by decide,aw,aP⟩ (.inr ⟨9,0,4,true,ae .u8 4 (cy (IntKind.u32.wrap (IntKind.u64.wrap (IntKind.u64.wrap (l:Int)*8)))),rfl,by simp only[af,Tryz.vr,Value.oneCell',simprocAttr, -List.reduceReplicate],aP,by decide⟩) (by decide) ?_
 intro c2 kZ gC
 simp only[Tryz.vr,Value.oneCell',simprocAttr, -List.reduceReplicate]
 refine eQ (k:=0) (by decide) (gC.congr (m:=8) rfl fun i hi=> ?_) (by simp only[af,Tryz.vr,Value.oneCell',simprocAttr, -List.reduceReplicate]) rfl
 have w1:IntKind.u64.wrap (IntKind.u64.wrap (l:Int)*8)=(l:Int)*8:=by rw[au (l:Int) (by omega) (by omega),au _ (by omega) (by omega)]
 have s32:cr .u64 ((l:Int)*8) 32=(l:Int)*8 / 4294967296:=dK .u64 _ 32 (by decide)
 rw[w1,s32]
 have s24: ∀ x:Int,cr .u32 x 24=x / 16777216:=fun x=>dK .u32 x 24 (by decide)
 have s16: ∀ x:Int,cr .u32 x 16=x / 65536:=fun x=>dK .u32 x 16 (by decide)
 have s8: ∀ x:Int,cr .u32 x 8=x / 256:=fun x=>dK .u32 x 8 (by decide)
 have hc:i=0∨i=1∨i=2∨i=3∨i=4∨i=5∨i=6∨i=7:=by omega
 rcases hc with rfl | rfl | rfl | rfl | rfl | rfl | rfl | rfl
 ·show cy _ 0=_
  simp only[cy,oP]
  show IntKind.u8.wrap (cr .u32 _ 24)=((l*8 / 72057594037927936%256:Nat):Int)
  rw[s24,e4,wrap_u8];omega
 ·show cy _ 1=_
  simp only[cy,oP]
  show IntKind.u8.wrap (cr .u32 _ 16)=((l*8 / 281474976710656%256:Nat):Int)
  rw[s16,e4,wrap_u8];omega
 ·show cy _ 2=_
  simp only[cy,oP]
  show IntKind.u8.wrap (cr .u32 _ 8)=((l*8 / 1099511627776%256:Nat):Int)
  rw[s8,e4,wrap_u8];omega
 ·show cy _ 3=_
  simp only[cy,oP]
  show IntKind.u8.wrap (cr .u32 _ 0)=((l*8 / 4294967296%256:Nat):Int)
  rw[VV,e4,wrap_u8];omega
 ·show cy _ 0=_
  simp only[cy,oP]
  show IntKind.u8.wrap (cr .u32 _ 24)=((l*8 / 16777216%256:Nat):Int)
  rw[s24,e4,wrap_u8];omega
 ·show cy _ 1=_
  simp only[cy,oP]
  show IntKind.u8.wrap (cr .u32 _ 16)=((l*8 / 65536%256:Nat):Int)
  rw[s16,e4,wrap_u8];omega
 ·show cy _ 2=_
  simp only[cy,oP]
  show IntKind.u8.wrap (cr .u32 _ 8)=((l*8 / 256%256:Nat):Int)
  rw[s8,e4,wrap_u8];omega
 ·show cy _ 3=_
  simp only[cy,oP]
  show IntKind.u8.wrap (cr .u32 _ 0)=((l*8 / 1%256:Nat):Int)
  rw[VV,e4,wrap_u8];omega
end Go.Proofs.YtoakenpcooglpaaGreatDoor
namespace Go.Proofs.YtoakenpcooglpaaGreatDoor
set_option maxHeartbeats 8000000
set_option maxRecDepth 20000
open Go.cA
set_option linter.unusedSectionVars false
variable [aX]
theorem Mk {k n:Nat} {v:AV} {f:Nat→Int} {ins:Nat→Option aW} (hf:bY f) (hv:bC ins v n f) (hn:n < 100000000) (hok:AV.ok (fun n=>n < k) v) (hall: ∀ n,n < k→ ∃ b,ins n=some b) (j6: ∀ n b,ins n=some b→n < k∧ ∀ x ∈ b.cells,SV.ok (fun n=>n < k) x) (hk:k≤20):
  bt Tryz.prog 93 [v] k ins (fun u out=>u=Ag (ae .u8 32 (iD kW b9 f n))∧out=fun _=>none):=by
 refine aE Tryz.func93 rfl (by kernel_rfl) (by simp[Tryz.ntmps93]) Tryz.qQ (fun u hu=>by rw[List.mem_singleton.1 hu];exact hok) hall j6 ?_
 simp only[Tryz.results93,Tryz.vr,Value.oneCell',simprocAttr, -List.reduceReplicate]
 have hG0:bR (ae .u8 0 (fun _=>0)) 0 0 0 (fun _=>0):=⟨rfl,by decide,rfl,fun i hi=>by omega⟩
 refine bn (g:=f) Tryz.bS Tryz.bW (by simp only[ax]) hG0 (lA hv hok (by omega) (fun t ht=>by simp only[upd];rw[if_neg (by omega),if_neg (by omega)])) (by omega) ?_
 intro c1 mT gx
 replace gx:=gx.congr (m:=n) (g:=f) (by omega) (fun i hi=>by simp[aR])
 simp only[Tryz.vr,Value.oneCell',simprocAttr, -List.reduceReplicate]
 refine bn (g:=fun _=>128) Tryz.bS Tryz.bW (by simp only[upd];rw[if_neg (by omega)];exact if_pos trivial) gx (.inr ⟨_,_,_,true,[Sum.inl (.int .u8 128)],rfl,by simp only[ax];rfl,b7,by omega⟩) (by omega) ?_
 intro c2 kZ gC
 have eB:blocks n=(n+8) / 64+1:=rfl
 replace gC:=gC.congr (m:=n+1+0) (g:=iS f n) (by omega) (fun i hi=>by
  simp only[aR,iS];split
  ·rfl
  ·rw[if_pos (by omega)])
 have hR:n+1≤64*blocks n - 8:=by omega
 simp only[Tryz.vr,Value.oneCell',simprocAttr, -List.reduceReplicate]
 refine lz (64*blocks n - 8 - (n+1)) (fun j (x:Nat×List SV)=>bR x.2 0 (n+1+j) x.1 (iS f n)) (fun j x=>[(2,Ptr k 0),(0,v),(3,Sl 60 0 (n+1+j) x.1)]) (fun j x=>[(60,⟨true,x.2⟩),(k,⟨true,ae .u8 32 (fun _=>0)⟩)]) 100 (c2,kZ) ⟨gC, ?_⟩ ?_ ?_ (by show _≤100;simp only[AS.put];omega)
 ·refine ⟨60,k+1+4+2,xW (by simp only[AS.put];omega) (by decide) ?_ (by simp only[ax]) gC.plain ?_⟩
  ·have e1:AV.bh (upd (fun n=>n) 60 (k+1+4+2)) v=v:=gu (fun n hn=>bg _ _ _ _ (by omega)) hok
   have e2:AV.ok (fun n=>n < 100) v:=AV.bA (fun n hn=>by omega) hok
   simp[e1,e2,af,iT,er,Gp,Qy,aie]
   omega
  ·have q1:(k=k+1+4+2)=False:=eq_false (by omega)
   have q2:(k=k+1+2)=False:=eq_false (by omega)
   have q3:(k=k+1+4+1)=False:=eq_false (by omega)
   have q4:(k=k+1)=False:=eq_false (by omega)
   simp[af,aw,q1,q2,q3,q4]
   exact ⟨by omega,fun x hx=>List.all_eq_true.1 aw x hx⟩
 ·rintro j ⟨c,cs⟩ hj hg
  have l1:n+1+j < 64*blocks n - 8:=by omega
  have r1:(((n+1+j:Nat):Int)).tmod 64=(((n+1+j)%64:Nat):Int):=NO (n+1+j) 64
  simp only[r1,Tryz.vr,Value.oneCell',simprocAttr, -List.reduceReplicate]
  refine aD (by simp;omega) ?_
  simp only[Tryz.vr,Value.oneCell',simprocAttr, -List.reduceReplicate]
  refine bn (g:=fun _=>0) Tryz.bS Tryz.bW (by simp only[af,Tryz.vr,Value.oneCell',simprocAttr, -List.reduceReplicate]) hg (.inr ⟨_,_,_,true,[Sum.inl (.int .u8 0)],rfl,by simp only[ax];rfl,b7,by omega⟩) (by omega) ?_
  intro c3 tt kH
  simp only[Tryz.vr,Value.oneCell',simprocAttr, -List.reduceReplicate]
  refine ⟨(c3,tt),kH.congr (by omega) (fun i hi=> ?_),60,106,xW (by omega) (by decide) ?_ (by simp only[ax]) kH.plain ?_⟩
  ·simp only[aR,iS];split
   ·rfl
   ·rw[if_neg (by omega),if_neg (by omega),if_pos (by omega)]
  ·have e1:AV.bh (upd (fun n=>n) 60 106) v=v:=gu (fun n hn=>bg _ _ _ _ (by omega)) hok
   have e2:AV.ok (fun n=>n < 100) v:=AV.bA (fun n hn=>by omega) hok
   simp[e1,e2,af,lk,iT,er,Gp,Qy,aie]
   omega
  ·have q1:(k=106)=False:=eq_false (by omega)
   have q2:(k=60)=False:=eq_false (by omega)
   have q3:(k=105)=False:=eq_false (by omega)
   simp[af,lk,aw,q1,q2,q3]
   exact ⟨by omega,fun x hx=>List.all_eq_true.1 aw x hx⟩
 ·rintro ⟨c,cs⟩ hg
  have l1:n+1+(64*blocks n - 8 - (n+1))=64*blocks n - 8:=by omega
  rw[l1]at hg
  have r1:(((64*blocks n - 8:Nat):Int)).tmod 64=(((64*blocks n - 8)%64:Nat):Int):=NO (64*blocks n - 8) 64
  simp only[l1,r1,Tryz.vr,Value.oneCell',simprocAttr, -List.reduceReplicate]
  refine aH (by simp;omega) ?_
  simp only[at_len hv,Tryz.vr,Value.oneCell',simprocAttr, -List.reduceReplicate]
  refine dW (agp (l:=n) (by omega)) (fun n=>n) gI rfl ?_
  intro c4 ajy h41 h42 h43
  simp only[Tryz.vr,Value.oneCell',simprocAttr, -List.reduceReplicate]
  refine bn (g:=oP n) Tryz.bS Tryz.bW (by simp only[af,Tryz.vr,Value.oneCell',simprocAttr, -List.reduceReplicate]) hg (.inr ⟨_,_,_,true,ae .u8 8 (oP n)++ajy,rfl,by simp only[ax],cV,by decide⟩) (by omega) ?_
  intro c5 cs5 Ni
  replace Ni:=Ni.congr (m:=64*blocks n) (g:=iS f n) (by omega) (fun i hi=>by
   simp only[aR];split
   ·rfl
   ·simp only[iS];rw[if_neg (by omega),if_neg (by omega),if_neg (by omega)])
  simp only[Tryz.vr,Value.oneCell',simprocAttr, -List.reduceReplicate]
  have e8:64*blocks n - 8+8=64*blocks n:=by omega
  have z8: ∀ r:Nat→Int,splice [Sum.inl (Value.int IntKind.u32 0),Sum.inl (Value.int IntKind.u32 0),Sum.inl (Value.int IntKind.u32 0),Sum.inl (Value.int IntKind.u32 0),Sum.inl (Value.int IntKind.u32 0),Sum.inl (Value.int IntKind.u32 0),Sum.inl (Value.int IntKind.u32 0),Sum.inl (Value.int IntKind.u32 0)] 0 (ae .u32 8 r)=ae .u32 8 r:=fun r=>dP .u32 8 (fun _=>0) r
  simp only[e8,z8]
  have ok5: ∀ {M:Nat→Prop},(∀ x ∈ cs5,SV.ok M x)=True:=eq_true (aJ Ni.plain)
  refine aG (blocks n) (fun i=>[(2,Ptr k 0),(3,Sl 110 0 (64*blocks n) c5),(4,Ptr 113 0),(5,I .i64 (64*i:Nat))])
   (fun i=>[(110,⟨true,cs5⟩),(113,⟨true,ae .u32 8 (iC kW b9 (iS f n) i)⟩),(k,⟨true,ae .u8 32 (fun _=>0)⟩)]) _ ?_ ?_ ?_
  ·have q1:(k=113)=False:=eq_false (by omega)
   have q2:(k=110)=False:=eq_false (by omega)
   have q3:(k=60)=False:=eq_false (by omega)
   have q4:(k=109)=False:=eq_false (by omega)
   simp only[q1,q2,q3,q4,if_false,ok5,iC,Tryz.vr,Value.oneCell',simprocAttr, -List.reduceReplicate]
   omega
  ·intro i hi
   have w1:IntKind.i64.wrap (((64*i:Nat):Int)+64)=((64*(i+1):Nat):Int):=by rw[wrap_i64 _ (by omega) (by omega)];omega
   have k1:(((64*(i+1):Nat):Int)≤((64*blocks n:Nat):Int))=True:=eq_true (by omega)
   have k2:(((64*i:Nat):Int)≤((64*(i+1):Nat):Int))=True:=eq_true (by omega)
   have k3:(((64*(i+1):Nat):Int)≤(c5:Int))=True:=eq_true (by have:=Ni.room;omega)
   simp only[w1,Tryz.vr,Value.oneCell',simprocAttr, -List.reduceReplicate]
   refine aD (by simp only[k1];rfl) ?_
   simp only[w1,k1,k2,k3,bl,Tryz.vr,Value.oneCell',simprocAttr, -List.reduceReplicate]
   refine ⟨by kernel_rfl, ?_⟩
   have eo:bE cs5 (if c5=64*i then 0 else 64*i) 64 (fun j=>iS f n (64*i+j)):=by
    have hr:=Ni.room
    rw[if_neg (by omega)]
    have:=jc Ni.ez (64*i) 64 (by omega)
    rwa [Nat.zero_add]at this
   have el:64*(i+1) - 64*i=64:=by omega
   rw[el]
   generalize (if c5=64*i then 0 else 64*i)=o' at eo ⊢
   refine (OQ (c:=c5 - 64*i) (Gu NT _) (fun j=>I6 hf n _) eo Ni.plain).en (fun _=>110) (dp (rw:=true) (by simp only[Tryz.vr,Value.oneCell',simprocAttr, -List.reduceReplicate]) Ni.plain) aw rfl (fun M h _ _=>h (Sl 110 o' 64 (c5 - 64*i)) (List.Mem.tail _ (List.Mem.head _))) ?_
   have z8': ∀ r r':Nat→Int,splice (ae .u32 8 r') 0 (ae .u32 8 r)=ae .u32 8 r:=fun r r'=>dP .u32 8 _ _
   have q1:(k=113)=False:=eq_false (by omega)
   have q2:(k=110)=False:=eq_false (by omega)
   simp only[z8',q1,q2,w1,ok5,iC,Tryz.vr,Value.oneCell',simprocAttr, -List.reduceReplicate]
   omega
  ·have w1:IntKind.i64.wrap (((64*blocks n:Nat):Int)+64)=((64*blocks n+64:Nat):Int):=by rw[wrap_i64 _ (by omega) (by omega)];omega
   simp only[w1,Tryz.vr,Value.oneCell',simprocAttr, -List.reduceReplicate]
   refine aH (by simp;omega) ?_
   simp only[Tryz.vr,Value.oneCell',simprocAttr, -List.reduceReplicate]
   refine aG 32 (fun j=>[(2,Ptr k 0),(4,Ptr 113 0),(6,Ptr 121 0),(7,I .i64 j)])
    (fun j=>[(113,⟨true,ae .u32 8 (iC kW b9 (iS f n) (blocks n))⟩),(121,⟨true,ae .u8 32 (fun i=>if i < j then iD kW b9 f n i else 0)⟩),(k,⟨true,ae .u8 32 (fun _=>0)⟩)]) _ ?_ ?_ ?_
   ·have q1:(k=121)=False:=eq_false (by omega)
    have q2:(k=110)=False:=eq_false (by omega)
    have q3:(k=113)=False:=eq_false (by omega)
    simp only[q1,q2,q3,if_false,Nat.not_lt_zero,Tryz.vr,Value.oneCell',simprocAttr, -List.reduceReplicate]
    omega
   ·intro j hj
    have q1:(k=121)=False:=eq_false (by omega)
    have q2:(k=113)=False:=eq_false (by omega)
    have a1:(((j / 4:Nat):Int) < 8)=True:=by simp;omega
    have a3:((j:Int) < 32)=True:=cf (m:=32) hj
    have q:=Cv j 4 (by omega)
    have r:=NO j 4
    rw[show ((4:Nat):Int)=4 from rfl]at q r
    have w1:IntKind.i64.wrap (8*((j%4:Nat):Int))=8*((j%4:Nat):Int):=wrap_i64 _ (by omega) (by omega)
    have w2:IntKind.i64.wrap (24 - 8*((j%4:Nat):Int))=24 - 8*((j%4:Nat):Int):=wrap_i64 _ (by omega) (by omega)
    have w3:IntKind.u64.wrap (24 - 8*((j%4:Nat):Int))=24 - 8*((j%4:Nat):Int):=au _ (by omega) (by omega)
    have a2:(0≤24 - 8*((j%4:Nat):Int))=True:=eq_true (by omega)
    have fin:ae .u8 32 (upd (fun i=>if i < j then iD kW b9 f n i else 0) j (iD kW b9 f n j))=ae .u8 32 (fun i=>if i < j+1 then iD kW b9 f n i else 0):=fc
    have eo:IntKind.u8.wrap (cr .u32 (iC kW b9 (iS f n) (blocks n) (j / 4)) (24 - 8*((j%4:Nat):Int)))=iD kW b9 f n j:=rfl
    simp only[Tryz.vr,Value.oneCell',simprocAttr, -List.reduceReplicate]
    refine aD (by simp;omega) ?_
    simp only[q1,q2,q,r,w1,w2,w3,a1,a2,a3,bl,ay .u32 8 (iC kW b9 (iS f n) (blocks n)) (j / 4) (by omega),Nat.mul_one,eo,aA .u8 32 _ j hj,fin,bD j (by omega),Tryz.vr,Value.oneCell',simprocAttr, -List.reduceReplicate]
    omega
   ·simp only[Tryz.vr,Value.oneCell',simprocAttr, -List.reduceReplicate]
    refine aH (by simp) ?_
    have hrow:ae .u8 32 (fun i=>if i < 32 then iD kW b9 f n i else 0)=ae .u8 32 (iD kW b9 f n):=aV fun i hi=>by rw[if_pos hi]
    have q1:(k=121)=False:=eq_false (by omega)
    have q2:(k=113)=False:=eq_false (by omega)
    simp only[hrow,q1,q2,Tryz.vr,Value.oneCell',simprocAttr, -List.reduceReplicate]
    exact aC aw ⟨rfl,rfl⟩
theorem kA {s:AS} {nm t o n c:Nat} {rw:Bool} {f:Nat→Int} {cs:List SV} (hf:bY f) (hb:s.box t=some ⟨rw,cs⟩) (hc:bE cs o n f) (hp:cs.all SV.plain=true) (hn:n < 100000000) {dst:Option Nat} {K:AS→Prop}
  (hk:K (s.put dst (some (Ag (ae .u8 32 (iD kW b9 f n)))))):aB Tryz.prog nm 93 (some [Sl t o n c]) dst K s:=
 (Mk (k:=1) (v:=Sl 0 o n c) (ins:=lk [(0,⟨false,cs⟩)]) hf (.inr ⟨0,o,c,false,cs,rfl,rfl,hp,hc⟩) hn (by show (0:Nat) < 1;decide) eG (eH hp) (by decide)).dV (fun _=>t) (dp hb hp) aw rfl hk
end Go.Proofs.YtoakenpcooglpaaGreatDoor
namespace Go.Proofs.YtoakenpcooglpaaGreatDoor
set_option maxHeartbeats 8000000
set_option maxRecDepth 20000
open Go.cA
set_option linter.unusedSectionVars false
variable [aX]
structure ajz (k:Nat) (l:List (Nat×aW)) (vm:AV) (m:Nat) (kf f:Nat→Int) (s:AS) (L:List (Nat×aW)) (v:AV) (n:Nat) (g:Nat→Int):Prop where
 e0:s.env 0=some v
 e1:s.env 1=some vm
 e4:s.env 4=some (Ptr k 0)
 next:s.next≤50
 np: ∀ x ∈ L,x.1 < s.next∧lk L x.1=some x.2∧s.box x.1=some x.2∧x.2.cells.all SV.plain=true
 cell:lk L k=some ⟨true,ae .u8 32 (fun _=>0)⟩
 hv:bC (lk L) v n g
 hvm:bC (lk L) vm m f
 hok:AV.ok (fun n=>n < s.next) v
 aaj:AV.ok (fun n=>n < s.next) vm
 hn:n≤64
 hg:bY g
 heq: ∀ i,kf i=if i < n then g i else 0
theorem Ml {l:List (Nat×aW)} {k nk m:Nat} {vk vm:AV} {key f:Nat→Int} (hkey:bY key) (hf:bY f) (hvk:bC (lk l) vk nk key) (hvm:bC (lk l) vm m f) (hnk:nk < 90000000) (hm:m < 90000000)
  (agq:AV.ok (fun n=>n < k) vk) (aaj:AV.ok (fun n=>n < k) vm) (hl: ∀ x ∈ l,x.1 < k∧lk l x.1=some x.2∧x.2.cells.all SV.plain=true) (hall: ∀ n,n < k→ ∃ b,lk l n=some b) (hk:k≤20):
  bt Tryz.prog 70 [vk,vm] k (lk l) (fun u out=>u=Ag (ae .u8 32 (fA kW b9 key nk f m))∧out=fun _=>none):=by
 refine aE Tryz.func70 rfl (by kernel_rfl) (by simp[Tryz.ntmps70]) Tryz.qD (fun u hu=>by
  simp only[List.mem_cons,List.not_mem_nil,or_false]at hu
  rcases hu with rfl | rfl
  ·exact agq
  ·exact aaj) hall (fun n b hb=>⟨(hl _ (bq _ _ _ hb)).1,aJ (hl _ (bq _ _ _ hb)).2.2⟩) ?_
 simp only[Tryz.results70,at_len hvk,Tryz.vr,Value.oneCell',simprocAttr, -List.reduceReplicate]
 refine Xq (fun s=> ∃ L v n g,ajz k l vm m (gf kW b9 key nk) f s L v n g) (fun h=> ?_) (fun h=> ?_) ?_
 ·simp only[Tryz.vr,Value.oneCell',simprocAttr, -List.reduceReplicate]
  have hn:64 < nk:=by have:=of_decide_eq_true h;omega
  obtain ⟨t,o,c,rw,cs,rfl,hb,hp,hs⟩:=oA hvk (by omega)
  have ht:t < k:=agq
  refine kA (rw:=rw) hkey (by simp only[upd];rw[if_neg (by omega)];exact hb) hs hp (by omega) ?_
  simp only[Tryz.vr,Value.oneCell',simprocAttr, -List.reduceReplicate]
  refine ⟨(k,⟨true,ae .u8 32 (fun _=>0)⟩)::(k+1+3+2,⟨true,ae .u8 32 (iD kW b9 key nk)⟩)::l,Sl (k+1+3+2) 0 32 32,32,iD kW b9 key nk,⟨rfl,rfl,rfl, ?_, ?_, ?_, ?_, ?_, ?_, ?_,by omega,rP _ _ _ _,fun i=> ?_⟩⟩
  ·show k+1+3+4+2≤50;omega
  ·intro x hx
   rcases List.mem_cons.1 hx with rfl | hx
   ·refine ⟨by show k < k+1+3+4+2;omega,by simp[lk], ?_,aw⟩
    simp only[upd];rw[if_neg (by omega),if_neg (by omega)];exact if_pos trivial
   rcases List.mem_cons.1 hx with rfl | hx
   ·refine ⟨by show k+1+3+2 < k+1+3+4+2;omega, ?_,by simp only[ax],aw⟩
    simp only[lk];rw[if_neg (by omega)];exact if_pos trivial
   ·obtain ⟨h1,h2,h3⟩:=hl x hx
    exact ⟨by show x.1 < k+1+3+4+2;omega,by simp only[lk];rw[if_neg (by omega),if_neg (by omega)];exact h2,by simp only[upd];rw[if_neg (by omega),if_neg (by omega),if_neg (by omega)];exact h2,h3⟩
  ·simp[lk]
  ·refine .inr ⟨_,_,_,true,ae .u8 32 (iD kW b9 key nk),rfl, ?_,aw,aP⟩
   simp only[lk];rw[if_neg (by omega)];exact if_pos trivial
  ·refine l6 hvm fun t b hb=> ?_
   have:=(hl _ (bq _ _ _ hb)).1
   simp only at this
   simp only[lk];rw[if_neg (by omega),if_neg (by omega)];exact hb
  ·show k+1+3+2 < k+1+3+4+2;omega
  ·exact AV.bA (fun n hn=>by show n < k+1+3+4+2;omega) aaj
  ·simp only[gf,gt_iff_lt];rw[if_pos hn]
 ·simp only[Tryz.vr,Value.oneCell',simprocAttr, -List.reduceReplicate]
  have hn: ¬ 64 < nk:=by have:=of_decide_eq_false h;omega
  refine ⟨(k,⟨true,ae .u8 32 (fun _=>0)⟩)::l,vk,nk,key,⟨rfl,rfl,rfl, ?_, ?_, ?_, ?_, ?_, ?_, ?_,by omega,hkey,fun i=> ?_⟩⟩
  ·show k+1+3≤50;omega
  ·intro x hx
   rcases List.mem_cons.1 hx with rfl | hx
   ·exact ⟨by show k < k+1+3;omega,by simp[lk],by simp[upd],aw⟩
   ·obtain ⟨h1,h2,h3⟩:=hl x hx
    have h0:x.1≠k:=by omega
    exact ⟨by show x.1 < k+1+3;omega,by simp only[lk];rw[if_neg h0];exact h2,by simp only[upd];rw[if_neg h0];exact h2,h3⟩
  ·simp[lk]
  ·refine l6 hvk fun t b hb=> ?_
   have:=(hl _ (bq _ _ _ hb)).1
   simp only at this
   simp only[lk];rw[if_neg (by omega)];exact hb
  ·refine l6 hvm fun t b hb=> ?_
   have:=(hl _ (bq _ _ _ hb)).1
   simp only at this
   simp only[lk];rw[if_neg (by omega)];exact hb
  ·exact AV.bA (fun n hn=>by show n < k+1+3;omega) agq
  ·exact AV.bA (fun n hn=>by show n < k+1+3;omega) aaj
  ·simp only[gf,gt_iff_lt];rw[if_neg hn]
 ·rintro s ⟨L,v,n,g,h⟩
  have E0:=h.e0
  have E1:=h.e1
  have E4:=h.e4
  have hN:=h.next
  obtain ⟨env,box,next⟩:=s
  simp only at E0 E1 E4 hN
  simp only[E0,E1,E4,Tryz.vr,Value.oneCell',simprocAttr, -List.reduceReplicate]
  have hL: ∀ x ∈ L,x.1 < 50∧x.1 < next+2+1∧lk L x.1=some x.2∧box x.1=some x.2∧x.2.cells.all SV.plain=true:=fun x hx=>by
   obtain ⟨h1,h2⟩:=h.np x hx
   exact ⟨by simp only at h1;omega,by simp only at h1;omega,h2⟩
  have ok0:AV.ok (fun n=>n < 50) v:=AV.bA (fun n (hn:n < next)=>by omega) h.hok
  have fy:AV.ok (fun n=>n < 50) vm:=AV.bA (fun n (hn:n < next)=>by omega) h.aaj
  have VW: ∀ {v:AV},AV.ok (fun n=>n < 50) v→AV.ok (fun n=>n < 100) v:=fun h=>AV.bA (fun n hn=>by omega) h
  have okk:k < 50:=by omega
  obtain ⟨_,_,_,_,_,hcell,hv,hvm,_,_,hn,hg,heq⟩:=h
  refine xV 64 (fun j (x:(Nat×List SV)×(Nat×List SV))=>j=0∨(bR x.1.2 0 j x.1.1 (eU kW b9 key nk 54)∧bR x.2.2 0 j x.2.1 (eU kW b9 key nk 92)))
   (fun j x=>[(0,v),(1,vm),(4,Ptr k 0),(6,if j=0 then V (.slice none 0 0) else Sl 60 0 j x.1.1),(7,if j=0 then V (.slice none 0 0) else Sl 61 0 j x.2.1),(8,I .i64 j)])
   (fun j x=>if j=0 then L else (60,⟨true,x.1.2⟩)::(61,⟨true,x.2.2⟩)::L) 100 ((0,[]),(0,[])) ⟨.inl rfl,fun n=>n, ?_⟩ ?_ ?_ (by show next+2+1≤100;omega)
  ·simp only[if_true]
   refine Vx (by omega) ?_ (fun x hx=>⟨(hL x hx).2.1,(hL x hx).2.2.2⟩)
   simp only[E0,E1,E4,Tryz.vr,Value.oneCell',simprocAttr, -List.reduceReplicate]
   exact ⟨VW ok0,VW fy,by omega,trivial⟩
  ·rintro j ⟨⟨c1,mT⟩,c2,kZ⟩ hj hI
   have hkj:gf kW b9 key nk j=if j < n then g j else 0:=heq j
   have US: ∀ x,aS .xor .u8 (gf kW b9 key nk j) x=eU kW b9 key nk x j:=fun x=>rfl
   have F: ∀ x ∈ L, ∀ z,50≤z→(x.1=z)=False:=fun x hx z hz=>eq_false (by have:=(hL x hx).1;omega)
   rcases j with _ | j
   ·simp only[Tryz.vr,Value.oneCell',simprocAttr, -List.reduceReplicate]
    refine aD (by simp) ?_
    simp only[at_len hv,Tryz.vr,Value.oneCell',simprocAttr, -List.reduceReplicate]
    by_cases hjn:0 < n
    ·rw[if_pos hjn]at hkj
     refine aD (by simp;omega) ?_
     obtain ⟨t,o,c,rw,cs,rfl,hb,hp,hs⟩:=oA hv (by omega)
     have hld:=hs 0 hjn
     have a0:((0:Int) < (n:Int))=True:=eq_true (by omega)
     rw[Nat.add_zero, ← hkj]at hld
     simp only[Nat.mul_one,a0,hb,hld,US,Tryz.vr,Value.oneCell',simprocAttr, -List.reduceReplicate]
     refine ia (g:=fun _=>eU kW b9 key nk 54 0) Tryz.bS Tryz.bW (.inr ⟨_,_,_,true,[Sum.inl (.int .u8 (eU kW b9 key nk 54 0))],rfl,by simp only[ax];rfl,rfl,b7⟩) (by decide) (fun h=>by cases h) ?_
     intro _ c3 tt kH
     simp only[US,Tryz.vr,Value.oneCell',simprocAttr, -List.reduceReplicate]
     refine ia (g:=fun _=>eU kW b9 key nk 92 0) Tryz.bS Tryz.bW (.inr ⟨_,_,_,true,[Sum.inl (.int .u8 (eU kW b9 key nk 92 0))],rfl,by simp only[ax];rfl,rfl,b7⟩) (by decide) (fun h=>by cases h) ?_
     intro _ c4 Cn oH
     replace kH:=kH.congr (g:=eU kW b9 key nk 54) (m:=0+1) rfl (fun i hi=>by rw[show i=0 by omega])
     replace oH:=oH.congr (g:=eU kW b9 key nk 92) (m:=0+1) rfl (fun i hi=>by rw[show i=0 by omega])
     simp only[US,Tryz.vr,Value.oneCell',simprocAttr, -List.reduceReplicate]
     refine ⟨((c3,tt),(c4,Cn)), .inr ⟨kH,oH⟩,_,oy (p:=116) (q:=122) (by omega) (by decide) (by decide) ?_ (by simp only[af,Tryz.vr,Value.oneCell',simprocAttr, -List.reduceReplicate]) kH.plain (by simp only[ax]) oH.plain ?_⟩
     ·have r0:=gu (r:=upd (upd (fun n=>n) 60 116) 61 122) (fun n hn=>by rw[bg _ _ _ _ (by omega),bg _ _ _ _ (by omega)]) ok0
      have r1:=gu (r:=upd (upd (fun n=>n) 60 116) 61 122) (fun n hn=>by rw[bg _ _ _ _ (by omega),bg _ _ _ _ (by omega)]) fy
      have k0:(k=60)=False:=eq_false (by omega)
      have k1:(k=61)=False:=eq_false (by omega)
      have o0:=VW ok0
      have o1:=VW fy
      have k2:(k < 100)=True:=eq_true (by omega)
      simp only[r0,r1,o0,o1,k0,k1,k2,iT,er,gy,af,Tryz.vr,Value.oneCell',simprocAttr, -List.reduceReplicate]
      rfl
     ·intro x hx
      obtain ⟨h1,h2,h3,h4,h5⟩:=hL x hx
      have Fx:=F x hx
      refine ⟨h2,by omega,by omega, ?_,h5⟩
      simp only[Fx 60 (by decide),Fx 61 (by decide),Fx 110 (by decide),Fx 111 (by decide),Fx 115 (by decide),Fx 116 (by decide),Fx 117 (by decide),Fx 121 (by decide),Fx 122 (by decide),h3,af,Tryz.vr,Value.oneCell',simprocAttr, -List.reduceReplicate]
    ·rw[if_neg hjn]at hkj
     refine aH (by simp;omega) ?_
     rw[hkj]at US
     simp only[US,Tryz.vr,Value.oneCell',simprocAttr, -List.reduceReplicate]
     refine ia (g:=fun _=>eU kW b9 key nk 54 0) Tryz.bS Tryz.bW (.inr ⟨_,_,_,true,[Sum.inl (.int .u8 (eU kW b9 key nk 54 0))],rfl,by simp only[ax];rfl,rfl,b7⟩) (by decide) (fun h=>by cases h) ?_
     intro _ c3 tt kH
     simp only[US,Tryz.vr,Value.oneCell',simprocAttr, -List.reduceReplicate]
     refine ia (g:=fun _=>eU kW b9 key nk 92 0) Tryz.bS Tryz.bW (.inr ⟨_,_,_,true,[Sum.inl (.int .u8 (eU kW b9 key nk 92 0))],rfl,by simp only[ax];rfl,rfl,b7⟩) (by decide) (fun h=>by cases h) ?_
     intro _ c4 Cn oH
     replace kH:=kH.congr (g:=eU kW b9 key nk 54) (m:=0+1) rfl (fun i hi=>by rw[show i=0 by omega])
     replace oH:=oH.congr (g:=eU kW b9 key nk 92) (m:=0+1) rfl (fun i hi=>by rw[show i=0 by omega])
     simp only[US,Tryz.vr,Value.oneCell',simprocAttr, -List.reduceReplicate]
     refine ⟨((c3,tt),(c4,Cn)), .inr ⟨kH,oH⟩,_,oy (p:=111) (q:=117) (by omega) (by decide) (by decide) ?_ (by simp only[af,Tryz.vr,Value.oneCell',simprocAttr, -List.reduceReplicate]) kH.plain (by simp only[ax]) oH.plain ?_⟩
     ·have r0:=gu (r:=upd (upd (fun n=>n) 60 111) 61 117) (fun n hn=>by rw[bg _ _ _ _ (by omega),bg _ _ _ _ (by omega)]) ok0
      have r1:=gu (r:=upd (upd (fun n=>n) 60 111) 61 117) (fun n hn=>by rw[bg _ _ _ _ (by omega),bg _ _ _ _ (by omega)]) fy
      have k0:(k=60)=False:=eq_false (by omega)
      have k1:(k=61)=False:=eq_false (by omega)
      have o0:=VW ok0
      have o1:=VW fy
      have k2:(k < 100)=True:=eq_true (by omega)
      simp only[r0,r1,o0,o1,k0,k1,k2,iT,er,gy,af,Tryz.vr,Value.oneCell',simprocAttr, -List.reduceReplicate]
      rfl
     ·intro x hx
      obtain ⟨h1,h2,h3,h4,h5⟩:=hL x hx
      have Fx:=F x hx
      refine ⟨h2,by omega,by omega, ?_,h5⟩
      simp only[Fx 60 (by decide),Fx 61 (by decide),Fx 110 (by decide),Fx 111 (by decide),Fx 115 (by decide),Fx 116 (by decide),Fx 117 (by decide),Fx 121 (by decide),Fx 122 (by decide),h3,af,Tryz.vr,Value.oneCell',simprocAttr, -List.reduceReplicate]
   ·obtain ⟨gx,gC⟩:=hI.resolve_left (by omega)
    simp only[Nat.add_one_ne_zero,if_false,Tryz.vr,Value.oneCell',simprocAttr, -List.reduceReplicate]
    refine aD (by simp;omega) ?_
    simp only[at_len hv,Tryz.vr,Value.oneCell',simprocAttr, -List.reduceReplicate]
    by_cases hjn:j+1 < n
    ·rw[if_pos hjn]at hkj
     refine aD (by simp;omega) ?_
     obtain ⟨t,o,c,rw,cs,rfl,hb,hp,hs⟩:=oA hv (by omega)
     have hld:=hs (j+1) hjn
     have a0:(((j+1:Nat):Int) < (n:Int))=True:=eq_true (by omega)
     have f60:=F _ (bq _ _ _ hb) 60 (by decide)
     have f61:=F _ (bq _ _ _ hb) 61 (by decide)
     simp only at f60 f61
     rw[← hkj]at hld
     simp only[Nat.mul_one,a0,bl,f60,f61,hb,hld,US,Tryz.vr,Value.oneCell',simprocAttr, -List.reduceReplicate]
     refine bn (g:=fun _=>eU kW b9 key nk 54 (j+1)) Tryz.bS Tryz.bW (by simp only[af,Tryz.vr,Value.oneCell',simprocAttr, -List.reduceReplicate]) gx (.inr ⟨_,_,_,true,[Sum.inl (.int .u8 (eU kW b9 key nk 54 (j+1)))],rfl,by simp only[ax];rfl,b7,by decide⟩) (by omega) ?_
     intro c3 tt kH
     simp only[US,Tryz.vr,Value.oneCell',simprocAttr, -List.reduceReplicate]
     refine bn (g:=fun _=>eU kW b9 key nk 92 (j+1)) Tryz.bS Tryz.bW (by simp only[af,Tryz.vr,Value.oneCell',simprocAttr, -List.reduceReplicate]) gC (.inr ⟨_,_,_,true,[Sum.inl (.int .u8 (eU kW b9 key nk 92 (j+1)))],rfl,by simp only[ax];rfl,b7,by decide⟩) (by omega) ?_
     intro c4 Cn oH
     replace kH:=kH.congr (g:=eU kW b9 key nk 54) (m:=j+1+1) rfl (fun i hi=>by
      simp only[aR];split
      ·rfl
      ·rw[show i=j+1 by omega])
     replace oH:=oH.congr (g:=eU kW b9 key nk 92) (m:=j+1+1) rfl (fun i hi=>by
      simp only[aR];split
      ·rfl
      ·rw[show i=j+1 by omega])
     simp only[US,Tryz.vr,Value.oneCell',simprocAttr, -List.reduceReplicate]
     refine ⟨((c3,tt),(c4,Cn)), .inr ⟨kH,oH⟩,_,oy (p:=116) (q:=122) (by omega) (by decide) (by decide) ?_ (by simp only[af,Tryz.vr,Value.oneCell',simprocAttr, -List.reduceReplicate]) kH.plain (by simp only[ax]) oH.plain ?_⟩
     ·have r0:=gu (r:=upd (upd (fun n=>n) 60 116) 61 122) (fun n hn=>by rw[bg _ _ _ _ (by omega),bg _ _ _ _ (by omega)]) ok0
      have r1:=gu (r:=upd (upd (fun n=>n) 60 116) 61 122) (fun n hn=>by rw[bg _ _ _ _ (by omega),bg _ _ _ _ (by omega)]) fy
      have k0:(k=60)=False:=eq_false (by omega)
      have k1:(k=61)=False:=eq_false (by omega)
      have o0:=VW ok0
      have o1:=VW fy
      have k2:(k < 100)=True:=eq_true (by omega)
      simp only[r0,r1,o0,o1,k0,k1,k2,iT,er,gy,af,bD (j+1) (by omega),Tryz.vr,Value.oneCell',simprocAttr, -List.reduceReplicate]
     ·intro x hx
      obtain ⟨h1,h2,h3,h4,h5⟩:=hL x hx
      have Fx:=F x hx
      refine ⟨h2,by omega,by omega, ?_,h5⟩
      simp only[Fx 60 (by decide),Fx 61 (by decide),Fx 110 (by decide),Fx 111 (by decide),Fx 115 (by decide),Fx 116 (by decide),Fx 117 (by decide),Fx 121 (by decide),Fx 122 (by decide),h3,af,Tryz.vr,Value.oneCell',simprocAttr, -List.reduceReplicate]
    ·rw[if_neg hjn]at hkj
     refine aH (by simp;omega) ?_
     rw[hkj]at US
     simp only[US,Tryz.vr,Value.oneCell',simprocAttr, -List.reduceReplicate]
     refine bn (g:=fun _=>eU kW b9 key nk 54 (j+1)) Tryz.bS Tryz.bW (by simp only[af,Tryz.vr,Value.oneCell',simprocAttr, -List.reduceReplicate]) gx (.inr ⟨_,_,_,true,[Sum.inl (.int .u8 (eU kW b9 key nk 54 (j+1)))],rfl,by simp only[ax];rfl,b7,by decide⟩) (by omega) ?_
     intro c3 tt kH
     simp only[US,Tryz.vr,Value.oneCell',simprocAttr, -List.reduceReplicate]
     refine bn (g:=fun _=>eU kW b9 key nk 92 (j+1)) Tryz.bS Tryz.bW (by simp only[af,Tryz.vr,Value.oneCell',simprocAttr, -List.reduceReplicate]) gC (.inr ⟨_,_,_,true,[Sum.inl (.int .u8 (eU kW b9 key nk 92 (j+1)))],rfl,by simp only[ax];rfl,b7,by decide⟩) (by omega) ?_
     intro c4 Cn oH
     replace kH:=kH.congr (g:=eU kW b9 key nk 54) (m:=j+1+1) rfl (fun i hi=>by
      simp only[aR];split
      ·rfl
      ·rw[show i=j+1 by omega])
     replace oH:=oH.congr (g:=eU kW b9 key nk 92) (m:=j+1+1) rfl (fun i hi=>by
      simp only[aR];split
      ·rfl
      ·rw[show i=j+1 by omega])
     simp only[US,Tryz.vr,Value.oneCell',simprocAttr, -List.reduceReplicate]
     refine ⟨((c3,tt),(c4,Cn)), .inr ⟨kH,oH⟩,_,oy (p:=111) (q:=117) (by omega) (by decide) (by decide) ?_ (by simp only[af,Tryz.vr,Value.oneCell',simprocAttr, -List.reduceReplicate]) kH.plain (by simp only[ax]) oH.plain ?_⟩
     ·have r0:=gu (r:=upd (upd (fun n=>n) 60 111) 61 117) (fun n hn=>by rw[bg _ _ _ _ (by omega),bg _ _ _ _ (by omega)]) ok0
      have r1:=gu (r:=upd (upd (fun n=>n) 60 111) 61 117) (fun n hn=>by rw[bg _ _ _ _ (by omega),bg _ _ _ _ (by omega)]) fy
      have k0:(k=60)=False:=eq_false (by omega)
      have k1:(k=61)=False:=eq_false (by omega)
      have o0:=VW ok0
      have o1:=VW fy
      have k2:(k < 100)=True:=eq_true (by omega)
      simp only[r0,r1,o0,o1,k0,k1,k2,iT,er,gy,af,bD (j+1) (by omega),Tryz.vr,Value.oneCell',simprocAttr, -List.reduceReplicate]
     ·intro x hx
      obtain ⟨h1,h2,h3,h4,h5⟩:=hL x hx
      have Fx:=F x hx
      refine ⟨h2,by omega,by omega, ?_,h5⟩
      simp only[Fx 60 (by decide),Fx 61 (by decide),Fx 110 (by decide),Fx 111 (by decide),Fx 115 (by decide),Fx 116 (by decide),Fx 117 (by decide),Fx 121 (by decide),Fx 122 (by decide),h3,af,Tryz.vr,Value.oneCell',simprocAttr, -List.reduceReplicate]
  ·rintro ⟨⟨c1,mT⟩,c2,kZ⟩ hI
   have hI:=hI.resolve_left (by decide)
   obtain ⟨gx,gC⟩:=hI
   simp only[Tryz.vr,Value.oneCell',simprocAttr, -List.reduceReplicate]
   refine aH (by simp) ?_
   simp only[Tryz.vr,Value.oneCell',simprocAttr, -List.reduceReplicate]
   refine bn (g:=f) Tryz.bS Tryz.bW (by simp only[Tryz.vr,Value.oneCell',simprocAttr, -List.reduceReplicate]) gx (afX hvm fun t b hb=> ?_) (by omega) ?_
   ·have f60:=eq_false (p:=t=60) (by have:=(hL _ (bq _ _ _ hb)).1;simp only at this;omega)
    have f61:=eq_false (p:=t=61) (by have:=(hL _ (bq _ _ _ hb)).1;simp only at this;omega)
    simp only[f60,f61,hb,Tryz.vr,Value.oneCell',simprocAttr, -List.reduceReplicate]
   intro c3 tt kH
   simp only[Tryz.vr,Value.oneCell',simprocAttr, -List.reduceReplicate]
   refine kA (rw:=true) (eV (rQ _ _ _ _ _) hf) (by simp only[ax]) kH.ez kH.plain (by omega) ?_
   simp only[Tryz.vr,Value.oneCell',simprocAttr, -List.reduceReplicate]
   refine bn (g:=iD kW b9 (aR 64 (eU kW b9 key nk 54) f) (64+m)) Tryz.bS Tryz.bW (by simp only[af,Tryz.vr,Value.oneCell',simprocAttr, -List.reduceReplicate]) gC (.inr ⟨_,_,_,true,ae .u8 32 (iD kW b9 (aR 64 (eU kW b9 key nk 54) f) (64+m)),rfl,by simp only[af,Tryz.vr,Value.oneCell',simprocAttr, -List.reduceReplicate],aP,by decide⟩) (by decide) ?_
   intro c4 Cn oH
   simp only[Tryz.vr,Value.oneCell',simprocAttr, -List.reduceReplicate]
   refine kA (rw:=true) (eV (rQ _ _ _ _ _) (rP _ _ _ _)) (by simp only[ax]) oH.ez oH.plain (by decide) ?_
   have q1: ∀ z,50≤z→(k=z)=False:=fun z hz=>eq_false (by omega)
   simp only[q1 60 (by decide),q1 61 (by decide),q1 104 (by decide),q1 108 (by decide),q1 112 (by decide),hcell,Tryz.vr,Value.oneCell',simprocAttr, -List.reduceReplicate]
   exact aC aw ⟨rfl,rfl⟩
end Go.Proofs.YtoakenpcooglpaaGreatDoor
namespace Go.Proofs.YtoakenpcooglpaaGreatDoor
set_option maxHeartbeats 8000000
set_option maxRecDepth 20000
open Go.cA
set_option linter.unusedSectionVars false
variable [aX]
theorem gm {s:AS} {nm ta tb o n c o' m c':Nat} {rwa rwb:Bool} {key f:Nat→Int} {cs ds:List SV} (hkey:bY key) (hf:bY f) (hb:s.box ta=some ⟨rwa,cs⟩) (hc:bE cs o n key) (hp:cs.all SV.plain=true) (hb':s.box tb=some ⟨rwb,ds⟩) (Cm:bE ds o' m f) (hp':ds.all SV.plain=true)
  (hn:n < 90000000) (hm:m < 90000000) {dst:Option Nat} {K:AS→Prop} (hk:K (s.put dst (some (Ag (ae .u8 32 (fA kW b9 key n f m)))))):aB Tryz.prog nm 70 (some [Sl ta o n c,Sl tb o' m c']) dst K s:=by
 refine (Ml (k:=2) (l:=[(0,⟨false,cs⟩),(1,⟨false,ds⟩)]) (vk:=Sl 0 o n c) (vm:=Sl 1 o' m c') hkey hf (.inr ⟨0,o,c,false,cs,rfl,rfl,hp,hc⟩) (.inr ⟨1,o',c',false,ds,rfl,rfl,hp',Cm⟩) hn hm (by show (0:Nat) < 2;decide) (by show (1:Nat) < 2;decide) (fun x hx=> ?_) nq (by decide)).dV (two ta tb) (jz hb hp hb' hp') aw rfl hk
 simp only[List.mem_cons,List.not_mem_nil,or_false]at hx
 rcases hx with rfl | rfl
 ·exact ⟨by show (0:Nat) < 2;decide,rfl,hp⟩
 ·exact ⟨by show (1:Nat) < 2;decide,rfl,hp'⟩
def OS (k:Nat) (l:List (Nat×aW)) (vi:AV) (m:Nat) (info:Nat→Int):Prop:=
 (k=0∧l=[]∧(∃ a,vi=V (.slice a 0 0))∧m=0)∨(k=1∧ ∃ o c cs,l=[(0,⟨false,cs⟩)]∧vi=Sl 0 o m c∧cs.all SV.plain=true∧bE cs o m info)
theorem OT {k m:Nat} {l:List (Nat×aW)} {vi:AV} {p info:Nat→Int} (hi:OS k l vi m info):bt Tryz.prog 71 [Ag (ae .u8 32 p),vi,I .i64 0] k (lk l) (Made k 0 (gK kW b9 p info m)):=by
  have hok:AV.ok (fun n=>n < k) vi:=by
   rcases hi with ⟨rfl,rfl,⟨a,rfl⟩,rfl⟩ | ⟨rfl,o,c,cs,rfl,rfl,hp,hs⟩
   ·trivial
   ·show (0:Nat) < 1;decide
  rcases hi with ⟨rfl,rfl,⟨a,rfl⟩,rfl⟩ | ⟨rfl,o,c,cs,rfl,rfl,hp,hs⟩
  ·refine aE Tryz.func71 rfl (by kernel_rfl) (by simp[Tryz.ntmps71]) Tryz.ji (fun u hu=>by
    simp only[List.mem_cons,List.not_mem_nil,or_false]at hu
    rcases hu with rfl | rfl | rfl
    ·exact aJ aw
    ·exact hok
    ·trivial) (fun n hn=>by omega) (fun n c h=>by cases h) ?_
   simp only[Tryz.results71,Tryz.vr,Value.oneCell',simprocAttr, -List.reduceReplicate]
   refine aD rfl ?_
   simp only[Tryz.vr,Value.oneCell',simprocAttr, -List.reduceReplicate]
   refine eQ (cs:=ae .u8 0 (fun _=>0)) (f:=gK kW b9 p info 0) (by decide) ⟨rfl,by decide,rfl,fun i hi=>by omega⟩ (by simp only[ax]) rfl
  ·refine aE Tryz.func71 rfl (by kernel_rfl) (by simp[Tryz.ntmps71]) Tryz.ji (fun u hu=>by
    simp only[List.mem_cons,List.not_mem_nil,or_false]at hu
    rcases hu with rfl | rfl | rfl
    ·exact aJ aw
    ·exact hok
    ·trivial) eG (eH hp) ?_
   simp only[Tryz.results71,Tryz.vr,Value.oneCell',simprocAttr, -List.reduceReplicate]
   refine aD rfl ?_
   simp only[Tryz.vr,Value.oneCell',simprocAttr, -List.reduceReplicate]
   refine eQ (cs:=ae .u8 0 (fun _=>0)) (f:=gK kW b9 p info m) (by decide) ⟨rfl,by decide,rfl,fun i hi=>by omega⟩ (by simp only[ax]) rfl
theorem OU {k m d:Nat} {l:List (Nat×aW)} {vi:AV} {p info:Nat→Int} (G2:bY p) (Cl:bY info) (hi:OS k l vi m info) (hm:m < 80000000) (hd:d < 1000) (ih:bt Tryz.prog 71 [Ag (ae .u8 32 p),vi,I .i64 d] k (lk l) (Made k (32*d) (gK kW b9 p info m))):
  bt Tryz.prog 71 [Ag (ae .u8 32 p),vi,I .i64 (d+1:Nat)] k (lk l) (Made k (32*(d+1)) (gK kW b9 p info m)):=by
  have hok:AV.ok (fun n=>n < k) vi:=by
   rcases hi with ⟨rfl,rfl,⟨a,rfl⟩,rfl⟩ | ⟨rfl,o,c,cs,rfl,rfl,hp,hs⟩
   ·trivial
   ·show (0:Nat) < 1;decide
  rcases hi with ⟨rfl,rfl,⟨a,rfl⟩,hm0⟩ | ⟨rfl,o,c,cs,rfl,rfl,hp,hs⟩
  ·refine aE Tryz.func71 rfl (by kernel_rfl) (by simp[Tryz.ntmps71]) Tryz.ji (fun u hu=>by
    simp only[List.mem_cons,List.not_mem_nil,or_false]at hu
    rcases hu with rfl | rfl | rfl
    ·exact aJ aw
    ·exact hok
    ·trivial) (fun n hn=>by omega) (fun n c h=>by cases h) ?_
   simp only[Tryz.results71,Tryz.vr,Value.oneCell',simprocAttr, -List.reduceReplicate]
   refine aH (by simp<;>omega) ?_
   have w0:IntKind.i64.wrap (((d+1:Nat):Int) - 1)=(d:Int):=by rw[wrap_i64 _ (by omega) (by omega)];omega
   simp only[w0,Tryz.vr,Value.oneCell',simprocAttr, -List.reduceReplicate]
   refine dW ih (fun n=>n) gI (by simp only[List.map_cons,List.map_nil,fV,gy,er,jS]) ?_
   intro c1 eJ h11 h12 h13
   simp only[Tryz.vr,Value.oneCell',simprocAttr, -List.reduceReplicate]
   have hgA:bR (ae .u8 (32*d) (gK kW b9 p info m)++eJ) 0 (32*d) c1 (gK kW b9 p info m):=bR.row h11 h12 h13
   have hg0:bR (ae .u8 0 (fun _=>0)) 0 0 0 (fun _=>0):=⟨rfl,by decide,rfl,fun i hi=>by omega⟩
   by_cases N9:d=0
   ·refine aH (by simp;omega) ?_
    simp only[Tryz.vr,Value.oneCell',simprocAttr, -List.reduceReplicate]
    refine bn (g:=info) Tryz.bS Tryz.bW (by simp only[af,Tryz.vr,Value.oneCell',simprocAttr, -List.reduceReplicate]) hg0 (.inl ⟨⟨a,rfl⟩,hm0⟩) (by omega) ?_
    intro c2 kZ gC
    replace gC:=gC.congr (m:=m) (g:=info) (by omega) (fun i hi=>by simp[aR])
    simp only[Tryz.vr,Value.oneCell',simprocAttr, -List.reduceReplicate]
    refine bn (g:=fun _=>IntKind.u8.wrap ((d+1:Nat):Int)) Tryz.bS Tryz.bW (by simp only[af,Tryz.vr,Value.oneCell',simprocAttr, -List.reduceReplicate]) gC (.inr ⟨_,_,_,true,[Sum.inl (.int .u8 (IntKind.u8.wrap ((d+1:Nat):Int)))],rfl,by simp only[ax];rfl,b7,by decide⟩) (by omega) ?_
    intro c3 tt kH
    simp only[Tryz.vr,Value.oneCell',simprocAttr, -List.reduceReplicate]
    refine gm (rwa:=true) (rwb:=true) G2 (eV Cl (fun _=>FJ _)) (by simp only[af,Tryz.vr,Value.oneCell',simprocAttr, -List.reduceReplicate]) aP aw (by simp only[af,Tryz.vr,Value.oneCell',simprocAttr, -List.reduceReplicate]) kH.ez kH.plain (by decide) (by omega) ?_
    have hT:fA kW b9 p 32 (aR m info (fun _=>IntKind.u8.wrap ((d+1:Nat):Int))) (m+1)=oQ kW b9 p info m (d+1):=by
     show _=fA kW b9 p 32 (if d=0 then _ else _) ((if d=0 then 0 else 32)+(m+1))
     rw[if_pos N9,if_pos N9,Nat.zero_add,N9]
     rfl
    rw[hT]
    have hA:=fun i hi=>nY (K:=kW) (V:=b9) (p:=p) (info:=info) (m:=m) (k:=d) (i:=i) hi
    obtain ⟨T,WE⟩: ∃ T,oQ kW b9 p info m (d+1)=T:=⟨_,rfl⟩
    rw[WE]at hA ⊢
    simp only[Tryz.vr,Value.oneCell',simprocAttr, -List.reduceReplicate]
    refine bn (g:=T) Tryz.bS Tryz.bW (by simp only[af,Tryz.vr,Value.oneCell',simprocAttr, -List.reduceReplicate]) hgA (.inr ⟨_,0,32,true,ae .u8 32 T,rfl,by simp only[af,Tryz.vr,Value.oneCell',simprocAttr, -List.reduceReplicate],aP,by decide⟩) (by omega) ?_
    intro c4 Cn oH
    simp only[Tryz.vr,Value.oneCell',simprocAttr, -List.reduceReplicate]
    exact eQ (by decide) (oH.congr (m:=32*(d+1)) (by omega) (fun i hi=>by
     simp only[aR];split
     ·rfl
     ·rw[← hA _ (by omega),show 32*d+(i - 32*d)=i by omega])) (by simp only[ax]) rfl
   ·refine aD (by simp;omega) ?_
    have w1:IntKind.i64.wrap (((32*d:Nat):Int) - 32)=((32*d - 32:Nat):Int):=by rw[wrap_i64 _ (by omega) (by omega)];omega
    have a1:(((32*d - 32:Nat):Int)≤((32*d:Nat):Int))=True:=eq_true (by omega)
    have a2:(((32*d:Nat):Int)≤(c1:Int))=True:=eq_true (by omega)
    have hL:bE (ae .u8 (32*d) (gK kW b9 p info m)++eJ) (if c1=32*d - 32 then 0 else 32*d - 32) 32 (oQ kW b9 p info m d):=by
     rw[if_neg (by omega)]
     have h:=jc hgA.ez (32*d - 32) 32 (by omega)
     rw[Nat.zero_add]at h
     refine kO h fun i hi=> ?_
     have:=nY (K:=kW) (V:=b9) (p:=p) (info:=info) (m:=m) (k:=d - 1) (i:=i) hi
     rw[show 32*(d - 1)+i=32*d - 32+i by omega,show d - 1+1=d by omega]at this
     exact this
    have e32:32*d - (32*d - 32)=32:=by omega
    simp only[w1,a1,a2,e32,bl,Tryz.vr,Value.oneCell',simprocAttr, -List.reduceReplicate]
    generalize (if c1=32*d - 32 then 0 else 32*d - 32)=oL at hL ⊢
    refine bn (g:=oQ kW b9 p info m d) Tryz.bS Tryz.bW (by simp only[af,Tryz.vr,Value.oneCell',simprocAttr, -List.reduceReplicate]) hg0 (.inr ⟨_,_,_,true,_,rfl,by simp only[af,Tryz.vr,Value.oneCell',simprocAttr, -List.reduceReplicate],hL,by decide⟩) (by decide) ?_
    intro c5 cs5 Ni
    replace Ni:=Ni.congr (m:=32) (g:=oQ kW b9 p info m d) (by omega) (fun i hi=>by simp[aR])
    simp only[Tryz.vr,Value.oneCell',simprocAttr, -List.reduceReplicate]
    refine bn (g:=info) Tryz.bS Tryz.bW (by simp only[af,Tryz.vr,Value.oneCell',simprocAttr, -List.reduceReplicate]) Ni (.inl ⟨⟨a,rfl⟩,hm0⟩) (by omega) ?_
    intro c2 kZ gC
    simp only[Tryz.vr,Value.oneCell',simprocAttr, -List.reduceReplicate]
    refine bn (g:=fun _=>IntKind.u8.wrap ((d+1:Nat):Int)) Tryz.bS Tryz.bW (by simp only[af,Tryz.vr,Value.oneCell',simprocAttr, -List.reduceReplicate]) gC (.inr ⟨_,_,_,true,[Sum.inl (.int .u8 (IntKind.u8.wrap ((d+1:Nat):Int)))],rfl,by simp only[ax];rfl,b7,by decide⟩) (by omega) ?_
    intro c3 tt kH
    simp only[Tryz.vr,Value.oneCell',simprocAttr, -List.reduceReplicate]
    refine gm (rwa:=true) (rwb:=true) G2 (eV (eV (rR _ _ _ _ _ _) Cl) (fun _=>FJ _)) (by simp only[af,Tryz.vr,Value.oneCell',simprocAttr, -List.reduceReplicate]) aP aw (by simp only[af,Tryz.vr,Value.oneCell',simprocAttr, -List.reduceReplicate]) kH.ez kH.plain (by decide) (by omega) ?_
    have hT:fA kW b9 p 32 (aR (32+m) (aR 32 (oQ kW b9 p info m d) info) (fun _=>IntKind.u8.wrap ((d+1:Nat):Int))) (32+m+1)=oQ kW b9 p info m (d+1):=by
     show _=fA kW b9 p 32 (if d=0 then _ else aR 32 (oQ kW b9 p info m d) (aR m info (fun _=>IntKind.u8.wrap ((d+1:Nat):Int)))) ((if d=0 then 0 else 32)+(m+1))
     rw[if_neg N9,if_neg N9,show 32+(m+1)=32+m+1 by omega]
     refine je (fun _ _=>rfl) fun i hi=> ?_
     simp only[aR]
     by_cases h1:i < 32
     ·rw[if_pos (by omega),if_pos h1,if_pos h1]
     ·rw[if_neg h1,if_neg h1]
      by_cases h2:i < 32+m
      ·rw[if_pos h2,if_pos (by omega)]
      ·rw[if_neg h2,if_neg (by omega)]
    rw[hT]
    have hA:=fun i hi=>nY (K:=kW) (V:=b9) (p:=p) (info:=info) (m:=m) (k:=d) (i:=i) hi
    obtain ⟨T,WE⟩: ∃ T,oQ kW b9 p info m (d+1)=T:=⟨_,rfl⟩
    rw[WE]at hA ⊢
    simp only[Tryz.vr,Value.oneCell',simprocAttr, -List.reduceReplicate]
    refine bn (g:=T) Tryz.bS Tryz.bW (by simp only[af,Tryz.vr,Value.oneCell',simprocAttr, -List.reduceReplicate]) hgA (.inr ⟨_,0,32,true,ae .u8 32 T,rfl,by simp only[af,Tryz.vr,Value.oneCell',simprocAttr, -List.reduceReplicate],aP,by decide⟩) (by omega) ?_
    intro c4 Cn oH
    simp only[Tryz.vr,Value.oneCell',simprocAttr, -List.reduceReplicate]
    exact eQ (by decide) (oH.congr (m:=32*(d+1)) (by omega) (fun i hi=>by
     simp only[aR];split
     ·rfl
     ·rw[← hA _ (by omega),show 32*d+(i - 32*d)=i by omega])) (by simp only[ax]) rfl
  ·refine aE Tryz.func71 rfl (by kernel_rfl) (by simp[Tryz.ntmps71]) Tryz.ji (fun u hu=>by
    simp only[List.mem_cons,List.not_mem_nil,or_false]at hu
    rcases hu with rfl | rfl | rfl
    ·exact aJ aw
    ·exact hok
    ·trivial) eG (eH hp) ?_
   simp only[Tryz.results71,Tryz.vr,Value.oneCell',simprocAttr, -List.reduceReplicate]
   refine aH (by simp<;>omega) ?_
   have w0:IntKind.i64.wrap (((d+1:Nat):Int) - 1)=(d:Int):=by rw[wrap_i64 _ (by omega) (by omega)];omega
   simp only[w0,Tryz.vr,Value.oneCell',simprocAttr, -List.reduceReplicate]
   refine dW ih (fun _=>0) (dp (rw:=false) (by simp only[af,Tryz.vr,Value.oneCell',simprocAttr, -List.reduceReplicate]) hp) (by simp only[List.map_cons,List.map_nil,fV,gy,er,jS]) ?_
   intro c1 eJ h11 h12 h13
   simp only[Tryz.vr,Value.oneCell',simprocAttr, -List.reduceReplicate]
   have hgA:bR (ae .u8 (32*d) (gK kW b9 p info m)++eJ) 0 (32*d) c1 (gK kW b9 p info m):=bR.row h11 h12 h13
   have hg0:bR (ae .u8 0 (fun _=>0)) 0 0 0 (fun _=>0):=⟨rfl,by decide,rfl,fun i hi=>by omega⟩
   by_cases N9:d=0
   ·refine aH (by simp;omega) ?_
    simp only[Tryz.vr,Value.oneCell',simprocAttr, -List.reduceReplicate]
    refine bn (g:=info) Tryz.bS Tryz.bW (by simp only[af,Tryz.vr,Value.oneCell',simprocAttr, -List.reduceReplicate]) hg0 (.inr ⟨0,o,c,false,cs,rfl,by simp only[af,Tryz.vr,Value.oneCell',simprocAttr, -List.reduceReplicate],hs,by decide⟩) (by omega) ?_
    intro c2 kZ gC
    replace gC:=gC.congr (m:=m) (g:=info) (by omega) (fun i hi=>by simp[aR])
    simp only[Tryz.vr,Value.oneCell',simprocAttr, -List.reduceReplicate]
    refine bn (g:=fun _=>IntKind.u8.wrap ((d+1:Nat):Int)) Tryz.bS Tryz.bW (by simp only[af,Tryz.vr,Value.oneCell',simprocAttr, -List.reduceReplicate]) gC (.inr ⟨_,_,_,true,[Sum.inl (.int .u8 (IntKind.u8.wrap ((d+1:Nat):Int)))],rfl,by simp only[ax];rfl,b7,by decide⟩) (by omega) ?_
    intro c3 tt kH
    simp only[Tryz.vr,Value.oneCell',simprocAttr, -List.reduceReplicate]
    refine gm (rwa:=true) (rwb:=true) G2 (eV Cl (fun _=>FJ _)) (by simp only[af,Tryz.vr,Value.oneCell',simprocAttr, -List.reduceReplicate]) aP aw (by simp only[af,Tryz.vr,Value.oneCell',simprocAttr, -List.reduceReplicate]) kH.ez kH.plain (by decide) (by omega) ?_
    have hT:fA kW b9 p 32 (aR m info (fun _=>IntKind.u8.wrap ((d+1:Nat):Int))) (m+1)=oQ kW b9 p info m (d+1):=by
     show _=fA kW b9 p 32 (if d=0 then _ else _) ((if d=0 then 0 else 32)+(m+1))
     rw[if_pos N9,if_pos N9,Nat.zero_add,N9]
     rfl
    rw[hT]
    have hA:=fun i hi=>nY (K:=kW) (V:=b9) (p:=p) (info:=info) (m:=m) (k:=d) (i:=i) hi
    obtain ⟨T,WE⟩: ∃ T,oQ kW b9 p info m (d+1)=T:=⟨_,rfl⟩
    rw[WE]at hA ⊢
    simp only[Tryz.vr,Value.oneCell',simprocAttr, -List.reduceReplicate]
    refine bn (g:=T) Tryz.bS Tryz.bW (by simp only[af,Tryz.vr,Value.oneCell',simprocAttr, -List.reduceReplicate]) hgA (.inr ⟨_,0,32,true,ae .u8 32 T,rfl,by simp only[af,Tryz.vr,Value.oneCell',simprocAttr, -List.reduceReplicate],aP,by decide⟩) (by omega) ?_
    intro c4 Cn oH
    simp only[Tryz.vr,Value.oneCell',simprocAttr, -List.reduceReplicate]
    exact eQ (by decide) (oH.congr (m:=32*(d+1)) (by omega) (fun i hi=>by
     simp only[aR];split
     ·rfl
     ·rw[← hA _ (by omega),show 32*d+(i - 32*d)=i by omega])) (by simp only[ax]) rfl
   ·refine aD (by simp;omega) ?_
    have w1:IntKind.i64.wrap (((32*d:Nat):Int) - 32)=((32*d - 32:Nat):Int):=by rw[wrap_i64 _ (by omega) (by omega)];omega
    have a1:(((32*d - 32:Nat):Int)≤((32*d:Nat):Int))=True:=eq_true (by omega)
    have a2:(((32*d:Nat):Int)≤(c1:Int))=True:=eq_true (by omega)
    have hL:bE (ae .u8 (32*d) (gK kW b9 p info m)++eJ) (if c1=32*d - 32 then 0 else 32*d - 32) 32 (oQ kW b9 p info m d):=by
     rw[if_neg (by omega)]
     have h:=jc hgA.ez (32*d - 32) 32 (by omega)
     rw[Nat.zero_add]at h
     refine kO h fun i hi=> ?_
     have:=nY (K:=kW) (V:=b9) (p:=p) (info:=info) (m:=m) (k:=d - 1) (i:=i) hi
     rw[show 32*(d - 1)+i=32*d - 32+i by omega,show d - 1+1=d by omega]at this
     exact this
    have e32:32*d - (32*d - 32)=32:=by omega
    simp only[w1,a1,a2,e32,bl,Tryz.vr,Value.oneCell',simprocAttr, -List.reduceReplicate]
    generalize (if c1=32*d - 32 then 0 else 32*d - 32)=oL at hL ⊢
    refine bn (g:=oQ kW b9 p info m d) Tryz.bS Tryz.bW (by simp only[af,Tryz.vr,Value.oneCell',simprocAttr, -List.reduceReplicate]) hg0 (.inr ⟨_,_,_,true,_,rfl,by simp only[af,Tryz.vr,Value.oneCell',simprocAttr, -List.reduceReplicate],hL,by decide⟩) (by decide) ?_
    intro c5 cs5 Ni
    replace Ni:=Ni.congr (m:=32) (g:=oQ kW b9 p info m d) (by omega) (fun i hi=>by simp[aR])
    simp only[Tryz.vr,Value.oneCell',simprocAttr, -List.reduceReplicate]
    refine bn (g:=info) Tryz.bS Tryz.bW (by simp only[af,Tryz.vr,Value.oneCell',simprocAttr, -List.reduceReplicate]) Ni (.inr ⟨0,o,c,false,cs,rfl,by simp only[af,Tryz.vr,Value.oneCell',simprocAttr, -List.reduceReplicate],hs,by decide⟩) (by omega) ?_
    intro c2 kZ gC
    simp only[Tryz.vr,Value.oneCell',simprocAttr, -List.reduceReplicate]
    refine bn (g:=fun _=>IntKind.u8.wrap ((d+1:Nat):Int)) Tryz.bS Tryz.bW (by simp only[af,Tryz.vr,Value.oneCell',simprocAttr, -List.reduceReplicate]) gC (.inr ⟨_,_,_,true,[Sum.inl (.int .u8 (IntKind.u8.wrap ((d+1:Nat):Int)))],rfl,by simp only[ax];rfl,b7,by decide⟩) (by omega) ?_
    intro c3 tt kH
    simp only[Tryz.vr,Value.oneCell',simprocAttr, -List.reduceReplicate]
    refine gm (rwa:=true) (rwb:=true) G2 (eV (eV (rR _ _ _ _ _ _) Cl) (fun _=>FJ _)) (by simp only[af,Tryz.vr,Value.oneCell',simprocAttr, -List.reduceReplicate]) aP aw (by simp only[af,Tryz.vr,Value.oneCell',simprocAttr, -List.reduceReplicate]) kH.ez kH.plain (by decide) (by omega) ?_
    have hT:fA kW b9 p 32 (aR (32+m) (aR 32 (oQ kW b9 p info m d) info) (fun _=>IntKind.u8.wrap ((d+1:Nat):Int))) (32+m+1)=oQ kW b9 p info m (d+1):=by
     show _=fA kW b9 p 32 (if d=0 then _ else aR 32 (oQ kW b9 p info m d) (aR m info (fun _=>IntKind.u8.wrap ((d+1:Nat):Int)))) ((if d=0 then 0 else 32)+(m+1))
     rw[if_neg N9,if_neg N9,show 32+(m+1)=32+m+1 by omega]
     refine je (fun _ _=>rfl) fun i hi=> ?_
     simp only[aR]
     by_cases h1:i < 32
     ·rw[if_pos (by omega),if_pos h1,if_pos h1]
     ·rw[if_neg h1,if_neg h1]
      by_cases h2:i < 32+m
      ·rw[if_pos h2,if_pos (by omega)]
      ·rw[if_neg h2,if_neg (by omega)]
    rw[hT]
    have hA:=fun i hi=>nY (K:=kW) (V:=b9) (p:=p) (info:=info) (m:=m) (k:=d) (i:=i) hi
    obtain ⟨T,WE⟩: ∃ T,oQ kW b9 p info m (d+1)=T:=⟨_,rfl⟩
    rw[WE]at hA ⊢
    simp only[Tryz.vr,Value.oneCell',simprocAttr, -List.reduceReplicate]
    refine bn (g:=T) Tryz.bS Tryz.bW (by simp only[af,Tryz.vr,Value.oneCell',simprocAttr, -List.reduceReplicate]) hgA (.inr ⟨_,0,32,true,ae .u8 32 T,rfl,by simp only[af,Tryz.vr,Value.oneCell',simprocAttr, -List.reduceReplicate],aP,by decide⟩) (by omega) ?_
    intro c4 Cn oH
    simp only[Tryz.vr,Value.oneCell',simprocAttr, -List.reduceReplicate]
    exact eQ (by decide) (oH.congr (m:=32*(d+1)) (by omega) (fun i hi=>by
     simp only[aR];split
     ·rfl
     ·rw[← hA _ (by omega),show 32*d+(i - 32*d)=i by omega])) (by simp only[ax]) rfl
theorem qZ {k m:Nat} {l:List (Nat×aW)} {vi:AV} {p info:Nat→Int} (G2:bY p) (Cl:bY info) (hi:OS k l vi m info) (hm:m < 80000000):
  ∀ d:Nat,d≤1000→bt Tryz.prog 71 [Ag (ae .u8 32 p),vi,I .i64 d] k (lk l) (Made k (32*d) (gK kW b9 p info m))
 | 0,_=>OT hi
 | d+1,hc=>OU G2 Cl hi hm (by omega) (qZ G2 Cl hi hm d (by omega))
end Go.Proofs.YtoakenpcooglpaaGreatDoor
namespace Go.Proofs.YtoakenpcooglpaaGreatDoor
set_option maxHeartbeats 8000000
set_option maxRecDepth 20000
open Go.cA
set_option linter.unusedSectionVars false
variable [aX]
theorem FM {s:AS} {nm t0 tk ok nk ck o c:Nat} {rw0 UR:Bool} {a0:SV} {wB:List SV} {n0:Nat} {f0 key:Nat→Int} (h0:s.box t0=some ⟨rw0,[a0]⟩) (ho:o=0)
  (p0:bC s.box (.inl (.inl a0)) n0 f0) (b0:bY f0)
  (hk:s.box tk=some ⟨UR,wB⟩) (hkp:wB.all SV.plain=true) (hkey:bE wB ok nk key) (Nh:bY key) (hnk:nk < 100000000) (WD:nk≤ck) (hN:n0 < 100000000) {dst:Option Nat} {K:AS→Prop}
  (hK:K (s.put dst (some (Ag (ae .u8 32 (fA kW b9 key nk f0 n0)))))):aB Tryz.prog nm 86 (some [Sl tk ok nk ck,Sl t0 o 1 c]) dst K s:=by
 subst ho
 obtain ⟨u0,r0,c0,w0,e0,q0,g0,i0,k0,_⟩:=nX p0 hk hkp
 let l:List (Nat×aW):=[(0,⟨false,[w0 2]⟩),(1,⟨false,wB⟩),(2,⟨false,c0⟩)]
 let nn:Nat→Nat:=fun j=>n0
 let ff:Nat→Nat→Int:=fun j=>f0
 have hl:Mf l [w0 2] 3 0 1 nn ff:=by
  refine ⟨fun x hx=> ?_,fun i hi=> ?_,fun x hx=> ?_,rfl,fun j hj=> ?_⟩
  ·simp only[l,List.mem_cons,List.not_mem_nil,or_false]at hx
   rcases hx with rfl | rfl | rfl<;>rfl
  ·have:i=0∨i=1∨i=2:=by omega
   rcases this with rfl | rfl | rfl<;>exact ⟨_,rfl⟩
  ·simp only[l,List.mem_cons,List.not_mem_nil,or_false]at hx
   rcases hx with rfl | rfl | rfl
   ·refine ⟨show (0:Nat) < 3 by decide,rfl,fun y hy=> ?_⟩
    simp only[List.mem_cons,List.not_mem_nil,or_false]at hy
    subst hy
    exact k0 _ _ (by decide)
   ·exact ⟨show (1:Nat) < 3 by decide,rfl,aJ hkp⟩
   ·exact ⟨show (2:Nat) < 3 by decide,rfl,aJ q0⟩
  ·obtain rfl:j=0:=by omega
   exact ⟨_,rfl,i0 _ 2 rfl⟩
 have hfit:Fits s (three t0 tk u0) (lk l) none:=by
  refine ⟨fun n b hb=> ?_,fun n n' b b' hb hrw=> ?_,fun n b hb hrw=> ?_,fun n hn=>(by cases hn)⟩
  ·have:=bq _ _ _ hb
   simp only[l,List.mem_cons,List.not_mem_nil,or_false,Prod.mk.injEq]at this
   rcases this with ⟨rfl,rfl⟩ | ⟨rfl,rfl⟩ | ⟨rfl,rfl⟩
   ·refine ⟨_,h0,fun e=>(by cases e), ?_⟩
    simp only[List.map_cons,List.map_nil]
    rw[g0 _ 2 rfl]
   ·exact ⟨_,hk,fun e=>(by cases e),(bj hkp _).symm⟩
   ·exact ⟨_,e0,fun e=>(by cases e),(bj q0 _).symm⟩
  all_goals
   have:=hl.ro _ (bq _ _ _ hb)
   simp only at this
   rw[this]at hrw;cases hrw
 have Mi:=aag (c:=c) (tk:=1) (ok:=ok) (nk:=nk) (ck:=ck) (key:=key) hl (by decide) (by decide) (by decide) (by show 0+n0 < _;omega) (fun j hj=>b0) rfl hkp hkey Nh hnk WD
 have aai:fA kW b9 key nk (BD nn ff 1) (iL nn 1)=fA kW b9 key nk f0 n0:=by
  have e1:iL nn 1=n0:=by show 0+n0=_;omega
  rw[e1]
  refine je (fun _ _=>rfl) fun i hi=> ?_
  show aR 0 (fun _=>0) f0 i=_
  simp only[aR]
  rw[if_neg (by omega),Nat.sub_zero]
 rw[aai]at Mi
 exact Mi.dV (three t0 tk u0) hfit aw rfl hK
theorem VX {s:AS} {nm t0 tk ok nk ck o c:Nat} {rw0 UR:Bool} {a0:SV} {wB:List SV} {n0:Nat} {f0 key:Nat→Int} (h0:s.box t0=some ⟨rw0,[a0]⟩) (ho:o=0)
  (p0:bC s.box (.inl (.inl a0)) n0 f0) (b0:bY f0)
  (hk:s.box tk=some ⟨UR,wB⟩) (hkp:wB.all SV.plain=true) (hkey:bE wB ok nk key) (Nh:bY key) (hnk:nk < 100000000) (WD:nk≤ck) (hN:n0 < 100000000) {ops:Array Oper} {i:Nat} {dst:Option Nat} {K:AS→Prop}
  (hK:K (s.put dst (some (Ag (ae .u8 32 (fA kW b9 key nk f0 n0)))))):mG Tryz.prog ops i nm 86 (some [Sl tk ok nk ck,Sl t0 o 1 c]) dst K s:=by
 subst ho
 obtain ⟨u0,r0,c0,w0,e0,q0,g0,i0,k0,nm0⟩:=nX p0 hk hkp
 let l:List (Nat×aW):=[(0,⟨false,[w0 2]⟩),(1,⟨false,wB⟩),(2,⟨false,c0⟩)]
 let nn:Nat→Nat:=fun j=>n0
 let ff:Nat→Nat→Int:=fun j=>f0
 have hl:Mf l [w0 2] 3 0 1 nn ff:=by
  refine ⟨fun x hx=> ?_,fun i hi=> ?_,fun x hx=> ?_,rfl,fun j hj=> ?_⟩
  ·simp only[l,List.mem_cons,List.not_mem_nil,or_false]at hx
   rcases hx with rfl | rfl | rfl<;>rfl
  ·have:i=0∨i=1∨i=2:=by omega
   rcases this with rfl | rfl | rfl<;>exact ⟨_,rfl⟩
  ·simp only[l,List.mem_cons,List.not_mem_nil,or_false]at hx
   rcases hx with rfl | rfl | rfl
   ·refine ⟨show (0:Nat) < 3 by decide,rfl,fun y hy=> ?_⟩
    simp only[List.mem_cons,List.not_mem_nil,or_false]at hy
    subst hy
    exact k0 _ _ (by decide)
   ·exact ⟨show (1:Nat) < 3 by decide,rfl,aJ hkp⟩
   ·exact ⟨show (2:Nat) < 3 by decide,rfl,aJ q0⟩
  ·obtain rfl:j=0:=by omega
   exact ⟨_,rfl,i0 _ 2 rfl⟩
 have hfit:Fits s (three t0 tk u0) (lk l) none:=by
  refine ⟨fun n b hb=> ?_,fun n n' b b' hb hrw=> ?_,fun n b hb hrw=> ?_,fun n hn=>(by cases hn)⟩
  ·have:=bq _ _ _ hb
   simp only[l,List.mem_cons,List.not_mem_nil,or_false,Prod.mk.injEq]at this
   rcases this with ⟨rfl,rfl⟩ | ⟨rfl,rfl⟩ | ⟨rfl,rfl⟩
   ·refine ⟨_,h0,fun e=>(by cases e), ?_⟩
    simp only[List.map_cons,List.map_nil]
    rw[g0 _ 2 rfl]
   ·exact ⟨_,hk,fun e=>(by cases e),(bj hkp _).symm⟩
   ·exact ⟨_,e0,fun e=>(by cases e),(bj q0 _).symm⟩
  all_goals
   have:=hl.ro _ (bq _ _ _ hb)
   simp only at this
   rw[this]at hrw;cases hrw
 have Mi:=aag (c:=c) (tk:=1) (ok:=ok) (nk:=nk) (ck:=ck) (key:=key) hl (by decide) (by decide) (by decide) (by show 0+n0 < _;omega) (fun j hj=>b0) rfl hkp hkey Nh hnk WD
 have aai:fA kW b9 key nk (BD nn ff 1) (iL nn 1)=fA kW b9 key nk f0 n0:=by
  have e1:iL nn 1=n0:=by show 0+n0=_;omega
  rw[e1]
  refine je (fun _ _=>rfl) fun i hi=> ?_
  show aR 0 (fun _=>0) f0 i=_
  simp only[aR]
  rw[if_neg (by omega),Nat.sub_zero]
 rw[aai]at Mi
 refine Mi.Vt (three t0 tk u0) hfit aw rfl (fun M h sL n hn=> ?_) hK
 have mk:M tk:=h (Sl tk ok nk ck) (List.Mem.head _)
 have mt:M t0:=h (Sl t0 0 1 c) (List.Mem.tail _ (List.Mem.head _))
 have mu:M u0:=by
  rcases nm0 M (sL 0 (by decide) mt _ h0 a0 (List.Mem.head _)).1 with e | e
  ·rw[e];exact mk
  ·exact e
 have:n=0∨n=1∨n=2:=by omega
 rcases this with rfl | rfl | rfl
 ·exact mt
 ·exact mk
 ·exact mu
def BE (n:Int) (a b c:Nat):Prop:=n < 0∨8160 < n∨1048576 < a∨1048576 < b∨1048576 < c
instance (n:Int) (a b c:Nat):Decidable (BE n a b c):=by unfold BE;infer_instance
theorem VY {n o c:Nat} {cs:List SV} (hp:cs.all SV.plain=true):bt Tryz.prog 64 [Sl 0 o n c] 1 (lk [(0,⟨false,cs⟩)]) (fun v out=>v=B (decide (1048576 < (n:Int)))∧out=fun _=>none):=by
 refine aE Tryz.func64 rfl (by kernel_rfl) (by simp[Tryz.ntmps64]) Tryz.qz (by simp[AV.ok,CV.ok,SV.names]) eG (eH hp) ?_
 simp only[Tryz.results64,Tryz.vs,Value.oneCell',simprocAttr, -List.reduceReplicate]
 exact aC rfl ⟨rfl,rfl⟩
theorem fM {s:AS} {nm t o n c:Nat} {rw:Bool} {cs:List SV} (hb:s.box t=some ⟨rw,cs⟩) (hp:cs.all SV.plain=true) {dst:Option Nat} {K:AS→Prop} (hk:K (s.put dst (some (B (decide (1048576 < (n:Int))))))):aB Tryz.prog nm 64 (some [Sl t o n c]) dst K s:=
 (VY hp).dV (fun _=>t) (dp hb hp) rfl rfl hk
end Go.Proofs.YtoakenpcooglpaaGreatDoor
namespace Go.Proofs.YtoakenpcooglpaaGreatDoor
set_option maxHeartbeats 8000000
set_option maxRecDepth 20000
open Go.cA
set_option linter.unusedSectionVars false
variable [aX]
theorem aak {s:AS} {nm k n m:Nat} {l:List (Nat×aW)} {va vb:AV} {key f:Nat→Int} (hg:Handed k l) (hkey:bY key) (hf:bY f) (ha:Arg k l va n key) (hv:Arg k l vb m f) (hs: ∀ t,t < k→s.box t=lk l t) (hn:n < 90000000) (hm:m < 90000000) {dst:Option Nat} {K:AS→Prop}
  (hk:K (s.put dst (some (Ag (ae .u8 32 (fA kW b9 key n f m)))))):aB Tryz.prog nm 70 (some [va,vb]) dst K s:=
 (Ml hkey hf ha.at_ hv.at_ hn hm ha.ok hv.ok hg.np hg.all hg.le).dV (fun n=>n) (Vy hg hs) aw (by simp only[List.map_cons,List.map_nil,ha.id,hv.id]) hk
theorem VZ {k nk m q N:Nat} {l:List (Nat×aW)} {vk vm vi:AV} {oT f info:Nat→Int} (hg:Handed k l) (Nh:bY oT) (hf:bY f) (Cl:bY info) (hk:Arg k l vk nk oT) (hm:Arg k l vm m f) (hi:Arg k l vi q info) (aal: ¬ BE N nk m q):
  bt Tryz.prog 42 [vk,vm,vi,I .i64 N] k (lk l) (Made k N (gK kW b9 (fA kW b9 oT nk f m) info q)):=by
 refine aE Tryz.func42 rfl (by kernel_rfl) (by simp[Tryz.ntmps42]) Tryz.qn (fun u hu=>by
  simp only[List.mem_cons,List.not_mem_nil,or_false]at hu
  rcases hu with rfl | rfl | rfl | rfl
  ·exact hk.ok
  ·exact hm.ok
  ·exact hi.ok
  ·trivial) hg.all hg.j6 ?_
 have l1:=at_len hk.at_
 have l2:=at_len hm.at_
 have l3:=at_len hi.at_
 simp only[BE]at aal
 have d0:decide ((N:Int) < 0)=false:=decide_eq_false (by omega)
 have d1:decide (8160 < (N:Int))=false:=decide_eq_false (by omega)
 have d2:decide (1048576 < (nk:Int))=false:=decide_eq_false (by omega)
 have d3:decide (1048576 < (m:Int))=false:=decide_eq_false (by omega)
 have d4:decide (1048576 < (q:Int))=false:=decide_eq_false (by omega)
 simp only[Tryz.results42,d0,d1,l1,d2,l2,d3,l3,d4,Tryz.vr,Value.oneCell',simprocAttr, -List.reduceReplicate]
 refine aak hg Nh hf hk hm (fun t ht=>rfl) (by omega) (by omega) ?_
 obtain ⟨p,hpE⟩: ∃ p,fA kW b9 oT nk f m=p:=⟨_,rfl⟩
 have G2:bY p:=by rw[← hpE];exact lB _ _ _ _ _ _
 rw[hpE]
 have w1:IntKind.i64.wrap ((N:Int)+31)=((N+31:Nat):Int):=by rw[wrap_i64 _ (by omega) (by omega)];omega
 have q1:=Cv (N+31) 32 (by omega)
 rw[show ((32:Nat):Int)=32 from rfl]at q1
 simp only[w1,q1,Tryz.vr,Value.oneCell',simprocAttr, -List.reduceReplicate]
 have fin: ∀ (c1:Nat) (eJ:List SV),32*((N+31) / 32)≤c1→eJ.length=c1 - 32*((N+31) / 32)→eJ.all SV.plain=true→N≤c1∧bR (ae .u8 (32*((N+31) / 32)) (gK kW b9 p info q)++eJ) 0 N c1 (gK kW b9 p info q):=fun c1 eJ h1 h2 h3=>by
  have hg:=bR.row (f:=gK kW b9 p info q) h1 h2 h3
  exact ⟨by omega,hg.len,by omega,hg.plain,lZ hg.ez (by omega)⟩
 rcases hi.at_ with ⟨⟨a,rfl⟩,hq0⟩ | ⟨t,o,c,rw,es,rfl,hb,hr,hs⟩
 ·refine dW (qZ (k:=0) (l:=[]) (vi:=V (.slice a 0 0)) G2 Cl (.inl ⟨rfl,rfl,⟨a,rfl⟩,hq0⟩) (by omega) ((N+31) / 32) (by omega)) (fun n=>n) gI (by simp only[List.map_cons,List.map_nil,fV,gy,jS]) ?_
  intro c1 eJ h1 h2 h3
  obtain ⟨hc,hg⟩:=fin c1 eJ h1 h2 h3
  have a1:((N:Int)≤(c1:Int))=True:=eq_true (by omega)
  simp only[a1,bl,Tryz.vr,Value.oneCell',simprocAttr, -List.reduceReplicate]
  exact eQ (by omega) hg (by simp only[ax]) rfl
 ·have ht:t < k:=hi.ok
  refine dW (qZ (k:=1) (l:=[(0,⟨false,es⟩)]) (vi:=Sl 0 o q c) G2 Cl (.inr ⟨rfl,o,c,es,rfl,rfl,hr,hs⟩) (by omega) ((N+31) / 32) (by omega)) (fun _=>t) (dp (rw:=rw) (by simp only[upd];rw[if_neg (by omega),if_neg (by omega)];exact hb) hr) (by simp only[List.map_cons,List.map_nil,fV,gy,er]) ?_
  intro c1 eJ h1 h2 h3
  obtain ⟨hc,hg⟩:=fin c1 eJ h1 h2 h3
  have a1:((N:Int)≤(c1:Int))=True:=eq_true (by omega)
  simp only[a1,bl,Tryz.vr,Value.oneCell',simprocAttr, -List.reduceReplicate]
  exact eQ (by omega) hg (by simp only[ax]) rfl
end Go.Proofs.YtoakenpcooglpaaGreatDoor
namespace Go.Proofs.YtoakenpcooglpaaGreatDoor
open Go.cA
set_option linter.unusedSectionVars false
variable [aX]
theorem CA {s:AS} {t0 t1 t2 nk m q:Nat} {vk vm vi:AV} {r0 r1 r2:Bool} {key f info:Nat→Int} {cs ds es:List SV} (hb0:s.box t0=some ⟨r0,cs⟩) (hp:cs.all SV.plain=true) (ux:s.box t1=some ⟨r1,ds⟩) (hq:ds.all SV.plain=true) (sW:s.box t2=some ⟨r2,es⟩) (hr:es.all SV.plain=true)
  (hk:eD t0 vk nk key cs) (hm:eD t1 vm m f ds) (hi:eD t2 vi q info es): ∃ k l r u0 u1 u2,xX s k l r [vk,vm,vi]∧Arg k l u0 nk key∧Arg k l u1 m f∧Arg k l u2 q info∧AV.bh r u0=vk∧AV.bh r u1=vm∧AV.bh r u2=vi:=by
 obtain ⟨k1,l1,r1,v1,q1,P1,A1,e1,_⟩:=oC (s:=s) oB (by decide) hi sW hr
 obtain ⟨k2,l2,r2,v2,q2,P2,A2,e2,T2⟩:=oC P1 (by omega) hm ux hq
 obtain ⟨k3,l3,r3,v3,q3,P3,A3,e3,T3⟩:=oC P2 (by omega) hk hb0 hp
 obtain ⟨B1,f1⟩:=T2 _ _ _ A1
 obtain ⟨C1,g1⟩:=T3 _ _ _ B1
 obtain ⟨C2,g2⟩:=T3 _ _ _ A2
 exact ⟨k3,l3,r3,v3,v2,v1,P3,A3,C2,C1,e3,by rw[g2,e2],by rw[g1,f1,e1]⟩
theorem ok3 {M:Nat→Prop} {a b c x:AV} (h: ∀ v ∈ [a,b,c,x],AV.ok M v): ∀ v ∈ [a,b,c],AV.ok M v:=fun v hv=>by
 simp only[List.mem_cons,List.not_mem_nil,or_false]at hv
 rcases hv with rfl | rfl | rfl<;>exact h _ (by simp)
theorem sd {s:AS} {nm t0 t1 t2 nk m q N:Nat} {vk vm vi:AV} {r0 r1 r2:Bool} {oT f info:Nat→Int} {cs ds es:List SV} (Nh:bY oT) (hf:bY f) (Cl:bY info) (hb0:s.box t0=some ⟨r0,cs⟩) (hp:cs.all SV.plain=true) (ux:s.box t1=some ⟨r1,ds⟩) (hq:ds.all SV.plain=true) (sW:s.box t2=some ⟨r2,es⟩) (hr:es.all SV.plain=true)
  (hk:eD t0 vk nk oT cs) (hm:eD t1 vm m f ds) (hi:eD t2 vi q info es) (aal: ¬ BE N nk m q) {ops:Array Oper} {i:Nat} (C3:late ops i=true) {dst:Option Nat} {K:AS→Prop}
  (hK: ∀ c tail,N≤c→tail.length=c - N→tail.all SV.plain=true→K ((⟨s.env,upd s.box nm (some ⟨true,ae .u8 N (gK kW b9 (fA kW b9 oT nk f m) info q)++tail⟩),s.next⟩:AS).put dst (some (Sl nm 0 N c)))):mG Tryz.prog ops i nm 42 (some [vk,vm,vi,I .i64 N]) dst K s:=by
 obtain ⟨k,l,r,u0,u1,u2,P,A0,A1,A2,x0,x1,x2⟩:=CA hb0 hp ux hq sW hr hk hm hi
 exact oz (VZ P.good Nh hf Cl A0 A1 A2 aal) r P.fits (by simp only[List.map_cons,List.map_nil,x0,x1,x2,gy]) (fun M h=>P.named M (ok3 h)) C3 hK
end Go.Proofs.YtoakenpcooglpaaGreatDoor
namespace Go.Proofs.YtoakenpcooglpaaGreatDoor
set_option maxHeartbeats 8000000
set_option maxRecDepth 20000
open Go.cA
set_option linter.unusedSectionVars false
variable [aX]
def ab2 (nk m:Nat) (key f:Nat→Int):Nat→Int:=if 1048576 < nk∨1048576 < m then fun _=>0 else fA kW b9 key nk f m
theorem aam {nk ok ck m o c:Nat} {key f:Nat→Int} {cs ds:List SV} (Nh:bY key) (hf:bY f) (hk:bE cs ok nk key) (hp:cs.all SV.plain=true) (WD:nk≤ck) (hc:bE ds o m f) (hq:ds.all SV.plain=true):
  bt Tryz.prog 91 [Sl 0 ok nk ck,Sl 1 o m c] 2 (lk [(0,⟨false,cs⟩),(1,⟨false,ds⟩)]) (fun u out=>u=Ag (ae .u8 32 (ab2 nk m key f))∧out=fun _=>none):=by
 refine aE Tryz.func91 rfl (by kernel_rfl) (by simp[Tryz.ntmps91]) Tryz.qO (by simp[AV.ok,CV.ok,SV.names]) nq (rI hp hq) ?_
 simp only[Tryz.results91,Tryz.vr,Value.oneCell',simprocAttr, -List.reduceReplicate]
 refine fM (rw:=false) (by simp only[af,Tryz.vr,Value.oneCell',simprocAttr, -List.reduceReplicate]) hp ?_
 by_cases h1:1048576 < nk
 ·have d1:decide (1048576 < (nk:Int))=true:=decide_eq_true (by omega)
  have eA:ab2 nk m key f=fun _=>0:=if_pos (.inl h1)
  simp only[d1,eA,al,Tryz.vr,Value.oneCell',simprocAttr, -List.reduceReplicate]
  exact aC (v:=Ag (ae .u8 32 (fun _=>0))) aw ⟨rfl,rfl⟩
 have d1:decide (1048576 < (nk:Int))=false:=decide_eq_false (by omega)
 simp only[d1,Tryz.vr,Value.oneCell',simprocAttr, -List.reduceReplicate]
 refine fM (rw:=false) (by simp only[af,Tryz.vr,Value.oneCell',simprocAttr, -List.reduceReplicate]) hq ?_
 by_cases h2:1048576 < m
 ·have d2:decide (1048576 < (m:Int))=true:=decide_eq_true (by omega)
  have eA:ab2 nk m key f=fun _=>0:=if_pos (.inr h2)
  simp only[d2,eA,al,Tryz.vr,Value.oneCell',simprocAttr, -List.reduceReplicate]
  exact aC (v:=Ag (ae .u8 32 (fun _=>0))) aw ⟨rfl,rfl⟩
 have d2:decide (1048576 < (m:Int))=false:=decide_eq_false (by omega)
 have eA:ab2 nk m key f=fA kW b9 key nk f m:=if_neg (by omega)
 simp only[d2,Tryz.vr,Value.oneCell',simprocAttr, -List.reduceReplicate]
 refine ⟨show 1≤1 by decide, ?_⟩
 refine FM (rw0:=true) (UR:=false) (by simp only[ax];rfl) rfl (.inr ⟨1,o,c,false,ds,rfl,by simp only[af,Tryz.vr,Value.oneCell',simprocAttr, -List.reduceReplicate],hq,hc⟩) hf (by simp only[af,Tryz.vr,Value.oneCell',simprocAttr, -List.reduceReplicate]) hp hk Nh (by omega) WD (by omega) ?_
 simp only[← eA,Tryz.vr,Value.oneCell',simprocAttr, -List.reduceReplicate]
 exact aC aw ⟨rfl,rfl⟩
theorem ags {nk ok ck m om cm q oq cq:Nat} {n:Int} {oT f info:Nat→Int} {cs ds es:List SV} (Nh:bY oT) (hf:bY f) (Cl:bY info) (hk:bE cs ok nk oT) (hp:cs.all SV.plain=true) (WD:nk≤ck) (hc:bE ds om m f) (hq:ds.all SV.plain=true)
  (hi:bE es oq q info) (hr:es.all SV.plain=true) (hg: ¬ BE n nk m q):
  bt Tryz.prog 80 [Sl 0 ok nk ck,Sl 1 om m cm,Sl 2 oq q cq,I .i64 n] 3 (lk [(0,⟨false,cs⟩),(1,⟨false,ds⟩),(2,⟨false,es⟩)]) (Bytes 3 n.toNat (gK kW b9 (fA kW b9 oT nk f m) info q)):=by
 refine aE Tryz.func80 rfl (by kernel_rfl) (by simp[Tryz.ntmps80]) Tryz.qG (by simp[AV.ok,CV.ok,SV.names]) alg (alh hp hq hr) ?_
 simp only[BE]at hg
 have d0:decide (n < 0)=false:=decide_eq_false (by omega)
 have d1:decide (8160 < n)=false:=decide_eq_false (by omega)
 have d2:decide (1048576 < (nk:Int))=false:=decide_eq_false (by omega)
 have d3:decide (1048576 < (m:Int))=false:=decide_eq_false (by omega)
 have d4:decide (1048576 < (q:Int))=false:=decide_eq_false (by omega)
 simp only[Tryz.results80,d0,d1,Tryz.vr,Value.oneCell',simprocAttr, -List.reduceReplicate]
 refine fM (rw:=false) (by simp only[af,Tryz.vr,Value.oneCell',simprocAttr, -List.reduceReplicate]) hp ?_
 simp only[d2,Tryz.vr,Value.oneCell',simprocAttr, -List.reduceReplicate]
 refine fM (rw:=false) (by simp only[af,Tryz.vr,Value.oneCell',simprocAttr, -List.reduceReplicate]) hq ?_
 simp only[d3,Tryz.vr,Value.oneCell',simprocAttr, -List.reduceReplicate]
 refine fM (rw:=false) (by simp only[af,Tryz.vr,Value.oneCell',simprocAttr, -List.reduceReplicate]) hr ?_
 simp only[d4,Tryz.vr,Value.oneCell',simprocAttr, -List.reduceReplicate]
 refine ⟨show 1≤1 by decide, ?_⟩
 refine FM (rw0:=true) (UR:=false) (by simp only[ax];rfl) rfl (.inr ⟨1,om,cm,false,ds,rfl,by simp only[af,Tryz.vr,Value.oneCell',simprocAttr, -List.reduceReplicate],hq,hc⟩) hf (by simp only[af,Tryz.vr,Value.oneCell',simprocAttr, -List.reduceReplicate]) hp hk Nh (by omega) WD (by omega) ?_
 simp only[Tryz.vr,Value.oneCell',simprocAttr, -List.reduceReplicate]
 obtain ⟨N,rfl⟩: ∃ N:Nat,n=(N:Int):=⟨n.toNat,by omega⟩
 rw[Int.toNat_natCast]
 obtain ⟨p,hpE⟩: ∃ p,fA kW b9 oT nk f m=p:=⟨_,rfl⟩
 have G2:bY p:=by rw[← hpE];exact lB _ _ _ _ _ _
 rw[hpE]
 refine (Mj (o:=oq) (m:=q) (c:=cq) (n:=N) G2 Cl hi hr (by omega) (by omega)).aB (fun _=>2) none (dp (rw:=false) (by simp only[af,Tryz.vr,Value.oneCell',simprocAttr, -List.reduceReplicate]) hr) (by simp only[List.map_cons,List.map_nil,fV,gy,er]) ?_
 rintro v out (⟨h0,rfl,rfl⟩ | ⟨c2,pA,rfl,rfl,h1,h2,h3⟩) _
 ·simp only[Tryz.vr,Value.oneCell',simprocAttr, -List.reduceReplicate]
  exact aC (v:=V (.slice none 0 0)) rfl (.inl ⟨h0,rfl,rfl⟩)
 ·rw[gb (cH h3)]
  simp only[er,iB,Tryz.vr,Value.oneCell',simprocAttr, -List.reduceReplicate]
  exact dS (k:=3) (q:=28) (cs:=ae .u8 N (gK kW b9 p info q)++pA) (by decide) (by simp only[ax]) (cH h3) (.inr ⟨c2,pA,rfl,rfl,h1,h2,h3⟩)
end Go.Proofs.YtoakenpcooglpaaGreatDoor
