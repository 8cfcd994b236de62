/-
  The beginning of a state, in the program and in the document.
-/
import Derived.Test.YtpnehhpadofcbaaGreatDoorVcgU2
import Derived.Test.YtpnehhpadofcbaaGreatDoorVcgH9
import Derived.Test.YtpnehhpadofcbaaGreatDoorVcgJ3
import Derived.Test.YtpnehhpadofcbaaGreatDoorVcgFacts
import Derived.Test.YtpnehhpadofcbaaGreatDoorVcgI
import Derived.Test.YtpnehhpadofcbaaGreatDoorVcgRx
set_option linter.unusedVariables false
set_option maxHeartbeats 8000000
set_option maxRecDepth 20000
set_option linter.unusedSimpArgs false
set_option linter.unusedSectionVars false
namespace Go.Proofs.YtpnehhpadofcbaaGreatDoor
open Go.bU
variable [aO]
def oG (z:Nat→Int):Nat→Nat→Int
 | 0=>M6
 | n+1=>if n=252∨n=250 then dK (oG z n) (oG z n) else dK (dK (oG z n) (oG z n)) z
theorem oH (z:Nat→Int) (hz:eW z): ∀ n,eW (oG z n)
 | 0=>Cj
 | n+1=>by
  have ih:=oH z hz n
  rw[oG];split
  ·exact bg ih ih
  ·exact bg (bg ih ih) hz
theorem Ck (z:Nat→Int) (hz:eW z): ∀ n:Nat,n≤255→cI Tryz.prog 73 [Ag (af .u64 16 z),I .i64 ((n:Int) - 1)] (Ag (af .u64 16 (oG z n)))
 | 0,_=>by
  refine aJ Tryz.func73 rfl (by kernel_rfl) (by simp[Tryz.ntmps73]) rfl rfl ?_
  simp only[Tryz.results73,aS,bq,dn,dw,dy,dB,dD,dC,cr,cu,cv,cw,aj,bH,vR,seval, -List.reduceReplicate]
  refine az (by decide) ?_
  simp only[aB .u64 16 _ 0 (by omega),aS,bq,dn,dw,dy,dB,dD,dC,cr,cu,cv,cw,aj,bH,vR,seval, -List.reduceReplicate]
  rfl
 | n+1,hn=>by
  have ih:=Ck z hz n (by omega)
  have hd:=oH z hz n
  have hq:=bg hd hd
  have e1:(((n+1:Nat):Int) - 1)=(n:Int):=by omega
  have e2:IntKind.i64.wrap ((n:Int) - 1)=(n:Int) - 1:=wrap_i64 _ (by omega) (by omega)
  have e3:IntKind.i64.wrap ((254:Int) - n)=(254:Int) - n:=wrap_i64 _ (by omega) (by omega)
  rw[e1]
  refine aJ Tryz.func73 rfl (by kernel_rfl) (by simp[Tryz.ntmps73]) rfl rfl ?_
  simp only[Tryz.results73,aS,bq,dn,dw,dy,dB,dD,dC,cr,cu,cv,cw,aj,bH,vR,seval, -List.reduceReplicate]
  refine aD (by simp) ?_
  simp only[e2,aS,bq,dn,dw,dy,dB,dD,dC,cr,cu,cv,cw,aj,bH,vR,seval, -List.reduceReplicate]
  refine ih.ax ?_
  simp only[aS,bq,dn,dw,dy,dB,dD,dC,cr,cu,cv,cw,aj,bH,vR,seval, -List.reduceReplicate]
  refine (fI _ _ hd hd).ax ?_
  by_cases h2:n=252
  ·have t2:((254:Int) - n==2)=true:=by simp;omega
   simp only[e3,t2,aS,bq,dn,dw,dy,dB,dD,dC,cr,cu,cv,cw,aj,bH,vR,seval, -List.reduceReplicate]
   rw[oG,if_pos (Or.inl h2)]
  ·have t2:((254:Int) - n==2)=false:=by simp;omega
   by_cases h4:n=250
   ·have t4:((254:Int) - n==4)=true:=by simp;omega
    simp only[e3,t2,t4,aS,bq,dn,dw,dy,dB,dD,dC,cr,cu,cv,cw,aj,bH,vR,seval, -List.reduceReplicate]
    rw[oG,if_pos (Or.inr h4)]
   ·have t4:((254:Int) - n==4)=false:=by simp;omega
    simp only[e3,t2,t4,aS,bq,dn,dw,dy,dB,dD,dC,cr,cu,cv,cw,aj,bH,vR,seval, -List.reduceReplicate]
    refine (fI _ _ hq hz).ax ?_
    simp only[aS,bq,dn,dw,dy,dB,dD,dC,cr,cu,cv,cw,aj,bH,vR,seval, -List.reduceReplicate]
    rw[oG,if_neg (by omega)]
theorem WO (K:Nat→Int) (hK:By K) (t:Nat):((cy .u8 (K (t / 8)) ((t%8:Nat):Int)).tmod 2==0)= !oE K t:=by
 have h:=hK (t / 8)
 rw[ez .u8 _ _ (by simp[IntKind.bits];omega)]
 have hd:=zf h.1 (t%8)
 rw[Int.tmod_eq_emod_of_nonneg hd.1]
 simp only[oE]
 by_cases he:K (t / 8) / 2^(t%8)%2=1
 ·simp[he]
 ·have:K (t / 8) / 2^(t%8)%2=0:=by omega
  simp[this]
structure N4 where
 a:Nat→Int
 b:Nat→Int
 c:Nat→Int
 d:Nat→Int
def N4.l (r:N4):List SV:=oP r.a r.b r.c r.d
structure N4.eW (r:N4):Prop where
 a:Proofs.YtpnehhpadofcbaaGreatDoor.eW r.a
 b:Proofs.YtpnehhpadofcbaaGreatDoor.eW r.b
 c:Proofs.YtpnehhpadofcbaaGreatDoor.eW r.c
 d:Proofs.YtpnehhpadofcbaaGreatDoor.eW r.d
def P8 (s:Bool) (u:Nat→Int) (r:N4):N4:=
 if s then ⟨dK (Kr r.a r.b r.c r.d) (Kr r.a r.b r.c r.d),dK u (dK (Ks r.a r.b r.c r.d) (Ks r.a r.b r.c r.d)),Rv r.c r.d,Rw r.c r.d⟩
 else ⟨Rv r.a r.b,Rw r.a r.b,dK (Kr r.a r.b r.c r.d) (Kr r.a r.b r.c r.d),dK u (dK (Ks r.a r.b r.c r.d) (Ks r.a r.b r.c r.d))⟩
theorem UH {a b c d:Nat→Int} (ha:eW a) (hb:eW b) (hc:eW c) (hd:eW d):eW (Kr a b c d):=
 cL (bg (cE hc hd) (cL ha hb)) (bg (cL hc hd) (cE ha hb))
theorem UI {a b c d:Nat→Int} (ha:eW a) (hb:eW b) (hc:eW c) (hd:eW d):eW (Ks a b c d):=
 cE (bg (cE hc hd) (cL ha hb)) (bg (cL hc hd) (cE ha hb))
theorem Kt {x z:Nat→Int} (hx:eW x) (hz:eW z):eW (WN x z):=
 cE (bg (cL hx hz) (cL hx hz)) (bg (cE hx hz) (cE hx hz))
theorem Ku {x z:Nat→Int} (hx:eW x) (hz:eW z):eW (Rv x z):=
 bg (bg (cL hx hz) (cL hx hz)) (bg (cE hx hz) (cE hx hz))
theorem Kv {x z:Nat→Int} (hx:eW x) (hz:eW z):eW (Rw x z):=
 bg (Kt hx hz) (cL (bg (cL hx hz) (cL hx hz)) (bg Ci (Kt hx hz)))
theorem Rx (s:Bool) (u:Nat→Int) (r:N4) (hu:eW u) (h:r.eW):(P8 s u r).eW:=by
 obtain ⟨ha,hb,hc,hd⟩:=h
 have hx:=UH ha hb hc hd
 have hz:=UI ha hb hc hd
 cases s
 ·exact ⟨Ku ha hb,Kv ha hb,bg hx hx,bg hu (bg hz hz)⟩
 ·exact ⟨bg hx hx,bg hu (bg hz hz),Ku hc hd,Kv hc hd⟩
def sO (K u:Nat→Int):Nat→N4
 | 0=>⟨M6,zN,u,M6⟩
 | n+1=>P8 (oE K (254 - n)) u (sO K u n)
theorem oI (K u:Nat→Int) (hu:eW u): ∀ n,(sO K u n).eW
 | 0=>⟨Cj,ZJ,hu,Cj⟩
 | n+1=>Rx _ _ _ hu (oI K u hu n)
theorem Fe (K u:Nat→Int) (hK:By K) (hu:eW u): ∀ n:Nat,n≤255→cI Tryz.prog 72 [Ag (af .u64 16 u),Ag (af .u8 32 K),I .i64 (255 - (n:Int))] (Ag (sO K u n).l)
 | 0,_=>by
  simp only[N4.l,sO]
  refine aJ Tryz.func72 rfl (by kernel_rfl) (by simp[Tryz.ntmps72]) rfl rfl ?_
  simp only[Tryz.results72,aS,bq,dn,dw,dy,dB,dD,dC,cr,cu,cv,cw,aj,bH,vR,seval, -List.reduceReplicate]
  refine az (by decide) ?_
  simp only[aB .u64 16 _ 0 (by omega),aS,bq,dn,dw,dy,dB,dD,dC,cr,cu,cv,cw,aj,bH,vR,seval, -List.reduceReplicate]
  rfl
 | n+1,hn=>by
  have ih:=Fe K u hK hu n (by omega)
  obtain ⟨ha,hb,hc,hd⟩:=oI K u hu n
  have hsp:=Gs _ _ _ _ u ha hb hc hd hu
  obtain ⟨t,ht⟩: ∃ t:Nat,(255:Int) - ((n+1:Nat):Int)=t:=⟨254 - n,by omega⟩
  have e1:IntKind.i64.wrap ((t:Int)+1)=255 - (n:Int):=by rw[wrap_i64 _ (by omega) (by omega)];omega
  have hg:=aA .u8 32 K (t / 8) (by omega)
  have hq:=Ta t (by omega)
  have hlt:(((t / 8:Nat):Int) < 32)=True:=bX (m:=32) (by omega)
  have hu8:IntKind.u64.wrap ((t%8:Nat):Int)=((t%8:Nat):Int):=au _ (by omega) (by omega)
  have hs:sO K u (n+1)=P8 (oE K t) u (sO K u n):=by rw[sO,show 254 - n=t from by omega]
  rw[ht,hs]
  simp only[N4.l]at ih ⊢
  refine aJ Tryz.func72 rfl (by kernel_rfl) (by simp[Tryz.ntmps72]) rfl rfl ?_
  simp only[Tryz.results72,aS,bq,dn,dw,dy,dB,dD,dC,cr,cu,cv,cw,aj,bH,vR,seval, -List.reduceReplicate]
  refine aD (by simp;omega) ?_
  simp only[e1,aS,bq,dn,dw,dy,dB,dD,dC,cr,cu,cv,cw,aj,bH,vR,seval, -List.reduceReplicate]
  refine ih.ax ?_
  simp only[hq,Iy,hg,hlt,hu8,aS,bq,dn,dw,dy,dB,dD,dC,cr,cu,cv,cw,aj,bH,vR,seval, -List.reduceReplicate]
  refine hsp.ax ?_
  simp only[aS,bq,dn,dw,dy,dB,dD,dC,cr,cu,cv,cw,aj,bH,vR,seval, -List.reduceReplicate]
  rw[WO K hK t]
  cases oE K t
  ·refine az rfl ?_
   simp only[aS,bq,dn,dw,dy,dB,dD,dC,cr,cu,cv,cw,aj,bH,vR,seval, -List.reduceReplicate]
   refine (wF _ _ ha hb).ax ?_
   simp only[aS,bq,dn,dw,dy,dB,dD,dC,cr,cu,cv,cw,aj,bH,vR,seval, -List.reduceReplicate]
   rfl
  ·refine aD rfl ?_
   simp only[aS,bq,dn,dw,dy,dB,dD,dC,cr,cu,cv,cw,aj,bH,vR,seval, -List.reduceReplicate]
   refine (wF _ _ hc hd).ax ?_
   simp only[aS,bq,dn,dw,dy,dB,dD,dC,cr,cu,cv,cw,aj,bH,vR,seval, -List.reduceReplicate]
   rfl
def kp (i:Nat):Int:=if i=0 then 65517 else if i=15 then 32767 else 65535
def zC (n:Nat→Int):Nat→Int
 | 0=>0
 | i+1=>1 - (n i+65536 - kp i - zC n i) / 65536
def Cl (n:Nat→Int) (i:Nat):Int:=(n i+65536 - kp i - zC n i)%65536
def sP (n:Nat→Int):Nat→Int:=if zC n 16=1 then n else Cl n
theorem Kw (i:Nat):32767≤kp i∧kp i≤65535:=by simp only[kp];split<;>(try split)<;>omega
theorem Gt (n:Nat→Int) (h:eW n): ∀ i,0≤zC n i∧zC n i≤1
 | 0=>by simp[zC]
 | i+1=>by
  have:=Gt n h i
  have:=h i
  have:=Kw i
  simp only[zC];omega
theorem P9 (n:Nat→Int): ∀ k,val (Cl n) k=val n k - val kp k+zC n k*65536^k
 | 0=>by simp[val,zC]
 | k+1=>by
  have ih:=P9 n k
  have e:Cl n k=n k - kp k - zC n k+65536*zC n (k+1):=by simp only[Cl,zC];omega
  rw[Fc,Fc,Fc,ih,Int.pow_succ,e]
  grind
theorem pL (n:Nat→Int) (h:eW n):eW (sP n)∧val (sP n) 16=if val n 16 < PP then val n 16 else val n 16 - PP:=by
 have hb:=Gt n h 16
 have hv:=P9 n 16
 have hp:val kp 16=PP:=by simp[val,kp,PP]
 have hd:eW (Cl n):=by intro i;simp only[Cl];omega
 have hm:=pJ _ hd 16
 have hn:=pJ _ h 16
 have EG:(65536:Int)^16=115792089237316195423570985008687907853269984665640564039457584007913129639936:=by decide
 rw[hp,EG]at hv
 rw[EG]at hm hn
 have hPP:PP=57896044618658097711785492504343953926634992332820282019728792003956564819949:=rfl
 simp only[sP]
 by_cases hc:zC n 16=1
 ·rw[if_pos hc];rw[hc]at hv
  exact ⟨h,by rw[if_pos (by omega)]⟩
 ·have hc0:zC n 16=0:=by omega
  rw[if_neg hc];rw[hc0]at hv
  exact ⟨hd,by rw[if_neg (by omega)];omega⟩
theorem Di (n:Nat→Int) (h:eW n):cI Tryz.prog 93 [Ag (af .u64 16 n)] (Ag (af .u64 16 (sP n))):=by
 refine aJ Tryz.func93 rfl (by kernel_rfl) (by simp[Tryz.ntmps93]) rfl rfl ?_
 simp only[Tryz.results93,vR,seval, -List.reduceReplicate]
 refine aE 16 (fun k=>[(1,Ptr 0 0),(2,Ptr 1 0),(3,Ptr 2 0),(4,I .u64 (zC n k)),(5,I .i64 k)])
  (fun k=>[(0,⟨true,af .u64 16 n⟩),(1,⟨true,af .u64 16 (fun _=>0)⟩),(2,⟨true,af .u64 16 (fun i=>if i < k then Cl n i else 0)⟩)]) _ ?_ ?_ ?_
 ·simp only[bW,zC,Nat.not_lt_zero,vR,seval, -List.reduceReplicate]
 ·intro k hk
  have nY:((k:Int) < 16)=True:=bX (m:=16) hk
  have hn:=h k
  have hb:=Gt n h k
  have hpd:=Kw k
  have w1:IntKind.u64.wrap (n k+65536)=n k+65536:=au _ (by omega) (by omega)
  have w2:IntKind.u64.wrap (n k+65536 - kp k)=n k+65536 - kp k:=au _ (by omega) (by omega)
  have w3:IntKind.u64.wrap (n k+65536 - kp k - zC n k)=n k+65536 - kp k - zC n k:=au _ (by omega) (by omega)
  have t1:(n k+65536 - kp k - zC n k).tmod 65536=Cl n k:=Int.tmod_eq_emod_of_nonneg (by omega)
  have t2:IntKind.u64.wrap ((n k+65536 - kp k - zC n k).tdiv 65536)=1 - zC n (k+1):=by
   rw[Int.tdiv_eq_ediv_of_nonneg (by omega),au _ (by omega) (by omega),zC];omega
  have qC:=Gt n h (k+1)
  have t3:IntKind.u64.wrap (1 - (1 - zC n (k+1)))=zC n (k+1):=by rw[au _ (by omega) (by omega)];omega
  have fin:af .u64 16 (upd (fun i=>if i < k then Cl n i else 0) k (Cl n k))=af .u64 16 (fun i=>if i < k+1 then Cl n i else 0):=fk
  simp only[vR,seval, -List.reduceReplicate]
  refine az (by simp;omega) ?_
  by_cases h0:k=0
  ·have p:kp k=65517:=by rw[h0];rfl
   have c0:((k:Int)==0)=true:=by simp;omega
   have c15:((k:Int)==15)=false:=by simp;omega
   rw[p]at w2 w3 t1 t2
   simp only[c0,c15,nY,aA .u64 16 _ k hk,aB .u64 16 _ k hk,w1,w2,w3,t1,t2,t3,bt k (by omega),fin,vR,seval, -List.reduceReplicate]
   omega
  ·have c0:((k:Int)==0)=false:=by simp;omega
   by_cases h15:k=15
   ·have p:kp k=32767:=by rw[h15];rfl
    have c15:((k:Int)==15)=true:=by simp;omega
    rw[p]at w2 w3 t1 t2
    simp only[c0,c15,nY,aA .u64 16 _ k hk,aB .u64 16 _ k hk,w1,w2,w3,t1,t2,t3,bt k (by omega),fin,vR,seval, -List.reduceReplicate]
    omega
   ·have p:kp k=65535:=by rw[kp,if_neg h0,if_neg h15]
    have c15:((k:Int)==15)=false:=by simp;omega
    rw[p]at w2 w3 t1 t2
    simp only[c0,c15,nY,aA .u64 16 _ k hk,aB .u64 16 _ k hk,w1,w2,w3,t1,t2,t3,bt k (by omega),fin,vR,seval, -List.reduceReplicate]
    omega
 ·simp only[vR,seval, -List.reduceReplicate]
  refine aD (by decide) ?_
  simp only[vR,seval, -List.reduceReplicate]
  by_cases hc:zC n 16=1
  ·refine az (by simp[hc]) ?_
   simp only[vR,seval, -List.reduceReplicate]
   rw[sP,if_pos hc]
  ·refine aD (by simp[hc]) ?_
   simp only[vR,seval, -List.reduceReplicate]
   rw[sP,if_neg hc,dL]
def zD (K:Nat→Int):Nat→Nat→Int
 | 0=>fun _=>0
 | n+1=>upd (zD K n) (n / 2) (zD K n (n / 2)+(if n%2=0 then K n else 256*K n))
theorem Gu (K:Nat→Int): ∀ n j,zD K n j=(if 2*j < n then K (2*j) else 0)+(if 2*j+1 < n then 256*K (2*j+1) else 0)
 | 0,j=>by simp[zD]
 | n+1,j=>by
  simp only[zD,upd]
  by_cases hj:j=n / 2
  ·subst hj
   rw[if_pos rfl,Gu K n]
   by_cases hp:n%2=0
   ·have e:2*(n / 2)=n:=by omega
    rw[if_pos hp,e,if_neg (by omega),if_neg (by omega),if_pos (by omega),if_neg (by omega)];omega
   ·have e:2*(n / 2)+1=n:=by omega
    rw[if_neg hp,e,if_pos (by omega),if_neg (by omega),if_pos (by omega),if_pos (by omega)];omega
  ·rw[if_neg hj,Gu K n]
   have a1:(2*j < n)=(2*j < n+1):=by apply propext;omega
   have a2:(2*j+1 < n)=(2*j+1 < n+1):=by apply propext;omega
   simp only[a1,a2]
theorem Gv (K:Nat→Int) (hK:By K) (n:Nat):eW (zD K n):=by
 intro j
 have h1:=hK (2*j)
 have h2:=hK (2*j+1)
 rw[Gu];split<;>split<;>omega
theorem WQ (t:Nat):(t:Int).tmod 2=((t%2:Nat):Int):=(Int.ofNat_tmod t 2).symm
theorem WR (t:Nat) (h:t < 9223372036854775808):IntKind.i64.wrap ((t:Int).tdiv 2)=((t / 2:Nat):Int):=C' t 2 h
theorem M7 (K:Nat→Int) (hK:By K):cI Tryz.prog 71 [Ag (af .u8 32 K)] (Ag (af .u64 16 (zD K 32))):=by
 refine aJ Tryz.func71 rfl (by kernel_rfl) (by simp[Tryz.ntmps71]) rfl rfl ?_
 simp only[Tryz.results71,vR,seval, -List.reduceReplicate]
 refine aE 32 (fun k=>[(1,Ptr 0 0),(2,Ptr 1 0),(3,Ptr 2 0),(4,I .i64 k)])
  (fun k=>[(0,⟨true,af .u8 32 K⟩),(1,⟨true,af .u64 16 (fun _=>0)⟩),(2,⟨true,af .u64 16 (zD K k)⟩)]) _ ?_ ?_ ?_
 ·simp only[bW,zD,vR,seval, -List.reduceReplicate]
 ·intro k hk
  have Gp:((k:Int) < 32)=True:=bX (m:=32) hk
  have nY:(((k / 2:Nat):Int) < 16)=True:=bX (m:=16) (by omega)
  have hb:=hK k
  have hd:=Gv K hK k (k / 2)
  have w1:IntKind.u64.wrap (K k)=K k:=au _ (by omega) (by omega)
  have w2:IntKind.u64.wrap (256*K k)=256*K k:=au _ (by omega) (by omega)
  have w3:IntKind.u64.wrap (zD K k (k / 2)+K k)=zD K k (k / 2)+K k:=au _ (by omega) (by omega)
  have w4:IntKind.u64.wrap (zD K k (k / 2)+256*K k)=zD K k (k / 2)+256*K k:=au _ (by omega) (by omega)
  simp only[vR,seval, -List.reduceReplicate]
  refine az (by simp;omega) ?_
  by_cases h2:k%2=0
  ·have c2:(((k%2:Nat):Int)==0)=true:=by rw[h2];rfl
   have e:zD K (k+1)=upd (zD K k) (k / 2) (zD K k (k / 2)+K k):=by rw[zD,if_pos h2]
   simp only[WQ,c2,WR k (by omega),nY,Gp,aA .u8 32 K k hk,aA .u64 16 _ (k / 2) (show k / 2 < 16 by omega),aB .u64 16 _ (k / 2) (show k / 2 < 16 by omega),w1,w3,bt k (by omega),e,vR,seval, -List.reduceReplicate]
   exact ⟨by kernel_rfl,by omega⟩
  ·have c2:(((k%2:Nat):Int)==0)=false:=by rw[show k%2=1 from by omega];rfl
   have e:zD K (k+1)=upd (zD K k) (k / 2) (zD K k (k / 2)+256*K k):=by rw[zD,if_neg h2]
   simp only[WQ,c2,WR k (by omega),nY,Gp,aA .u8 32 K k hk,aA .u64 16 _ (k / 2) (show k / 2 < 16 by omega),aB .u64 16 _ (k / 2) (show k / 2 < 16 by omega),w1,w2,w4,bt k (by omega),e,vR,seval, -List.reduceReplicate]
   exact ⟨by kernel_rfl,by omega⟩
 ·simp only[vR,seval, -List.reduceReplicate]
  refine aD (by decide) ?_
  simp only[vR,seval, -List.reduceReplicate]
def mb (n:Nat→Int):Nat→Nat→Int
 | 0=>n
 | k+1=>sP (mb n k)
theorem mE (n:Nat→Int) (h:eW n): ∀ k,eW (mb n k)
 | 0=>h
 | k+1=>(pL _ (mE n h k)).1
def Cm (m:Nat→Int) (i:Nat):Int:=(if i%2=1 then m (i / 2) / 256 else m (i / 2))%256
theorem Gw (n:Nat→Int) (h:eW n):cI Tryz.prog 74 [Ag (af .u64 16 n)] (Ag (af .u8 32 (Cm (mb n 3)))):=by
 refine aJ Tryz.func74 rfl (by kernel_rfl) (by simp[Tryz.ntmps74]) rfl rfl ?_
 simp only[Tryz.results74,vR,seval, -List.reduceReplicate]
 refine aE 3 (fun k=>[(1,Ptr 0 0),(2,Ptr 1 0),(3,I .i64 k)])
  (fun k=>[(0,⟨true,af .u64 16 (mb n k)⟩),(1,⟨true,af .u8 32 (fun _=>0)⟩)]) _ ?_ ?_ ?_
 ·simp only[bW,mb,vR,seval, -List.reduceReplicate]
 ·intro k hk
  simp only[vR,seval, -List.reduceReplicate]
  refine az (by simp;omega) ?_
  simp only[vR,seval, -List.reduceReplicate]
  refine (Di _ (mE n h k)).ax ?_
  simp only[bt k (by omega),vR,seval, -List.reduceReplicate]
  rfl
 ·simp only[vR,seval, -List.reduceReplicate]
  refine aD (by decide) ?_
  have hd:=mE n h 3
  generalize mb n 3=m at*
  simp only[vR,seval, -List.reduceReplicate]
  refine aE 32 (fun k=>[(1,Ptr 0 0),(2,Ptr 1 0),(4,Ptr 5 0),(5,I .i64 k)])
   (fun k=>[(0,⟨true,af .u64 16 m⟩),(1,⟨true,af .u8 32 (fun _=>0)⟩),(5,⟨true,af .u8 32 (fun i=>if i < k then Cm m i else 0)⟩)]) _ ?_ ?_ ?_
  ·simp only[bW,Nat.not_lt_zero,if_false,vR,seval, -List.reduceReplicate]
  ·intro k hk
   have Gp:((k:Int) < 32)=True:=bX (m:=32) hk
   have nY:(((k / 2:Nat):Int) < 16)=True:=bX (m:=16) (by omega)
   have hb:=hd (k / 2)
   have fin:af .u8 32 (upd (fun i=>if i < k then Cm m i else 0) k (Cm m k))=af .u8 32 (fun i=>if i < k+1 then Cm m i else 0):=fk
   have w1:IntKind.u64.wrap ((m (k / 2)).tdiv 256)=m (k / 2) / 256:=by
    rw[Int.tdiv_eq_ediv_of_nonneg hb.1,au _ (by omega) (by omega)]
   simp only[vR,seval, -List.reduceReplicate]
   refine az (by simp;omega) ?_
   by_cases h2:k%2=1
   ·have c2:(((k%2:Nat):Int)==1)=true:=by rw[h2];rfl
    have w2:IntKind.u8.wrap ((m (k / 2) / 256).tmod 256)=Cm m k:=by
     rw[Int.tmod_eq_emod_of_nonneg (by omega),wrap_u8,Cm,if_pos h2];omega
    simp only[WQ,c2,WR k (by omega),nY,Gp,aA .u64 16 _ (k / 2) (show k / 2 < 16 by omega),aB .u8 32 _ k hk,w1,w2,bt k (by omega),fin,vR,seval, -List.reduceReplicate]
    omega
   ·have c2:(((k%2:Nat):Int)==1)=false:=by rw[show k%2=0 from by omega];rfl
    have w2:IntKind.u8.wrap ((m (k / 2)).tmod 256)=Cm m k:=by
     rw[Int.tmod_eq_emod_of_nonneg hb.1,wrap_u8,Cm,if_neg h2];omega
    simp only[WQ,c2,WR k (by omega),nY,Gp,aA .u64 16 _ (k / 2) (show k / 2 < 16 by omega),aB .u8 32 _ k hk,w2,bt k (by omega),fin,vR,seval, -List.reduceReplicate]
    omega
  ·simp only[vR,seval, -List.reduceReplicate]
   refine aD (by decide) ?_
   simp only[dL,vR,seval, -List.reduceReplicate]
def M8 (U:Nat→Int):Nat→Int:=upd U 31 (U 31%128)
theorem Gx (U:Nat→Int) (h:By U):By (M8 U):=by
 intro i
 have:=h i
 have:=h 31
 simp only[M8,upd];split<;>omega
def acs (K U:Nat→Int):Nat→Int:=
 Cm (mb (dK (sO (iY K) (zD (M8 U) 32) 255).a (oG (sO (iY K) (zD (M8 U) 32) 255).b 255)) 3)
theorem Gy (K U:Nat→Int) (hK:By K) (hU:By U):cI Tryz.prog 45 [Ag (af .u8 32 K),Ag (af .u8 32 U)] (Ag (af .u8 32 (acs K U))):=by
 have k0:=hK 0
 have k31:=hK 31
 have u31:=hU 31
 have hC:af .u8 32 (upd (upd K 0 (K 0 - K 0%8)) 31 (K 31%64+64))=af .u8 32 (iY K):=aX fun i _=>by
  simp only[iY,upd]
  by_cases h0:i=0
  ·subst h0;simp
  ·by_cases h1:i=31
   ·subst h1;simp
   ·simp[h0,h1]
 have w1:IntKind.u8.wrap (K 0 - K 0%8)=K 0 - K 0%8:=kK _ (by omega) (by omega)
 have w2:IntKind.u8.wrap (K 31%64+64)=K 31%64+64:=kK _ (by omega) (by omega)
 have t1:(K 0).tmod 8=K 0%8:=Int.tmod_eq_emod_of_nonneg k0.1
 have t2:(K 31).tmod 64=K 31%64:=Int.tmod_eq_emod_of_nonneg k31.1
 have t3:(U 31).tmod 128=U 31%128:=Int.tmod_eq_emod_of_nonneg u31.1
 have u1:upd K 0 (K 0 - K 0%8) 31=K 31:=by simp[upd]
 have hu:=Gv _ (Gx U hU) 32
 have hr:=oI (iY K) _ hu 255
 have hf:=oH _ hr.b 255
 have hrf:=Fe (iY K) _ (E8 K hK) hu 255 (by decide)
 have hff:=Ck _ hr.b 255 (by decide)
 simp only[N4.l]at hrf
 refine aJ Tryz.func45 rfl (by kernel_rfl) (by simp[Tryz.ntmps45]) rfl rfl ?_
 simp only[Tryz.results45,aA .u8 32 _ 0 (show 0 < 32 by omega),aA .u8 32 _ 31 (show 31 < 32 by omega),aB .u8 32 _ 0 (show 0 < 32 by omega),aB .u8 32 _ 31 (show 31 < 32 by omega),t1,t2,t3,w1,w2,u1,hC,aS,bq,dn,dw,dy,dB,dD,dC,cr,cu,cv,cw,aj,bH,vR,seval, -List.reduceReplicate]
 refine (M7 _ (Gx U hU)).ax ?_
 simp only[aS,bq,dn,dw,dy,dB,dD,dC,cr,cu,cv,cw,aj,bH,vR,seval, -List.reduceReplicate]
 refine hrf.ax ?_
 simp only[aS,bq,dn,dw,dy,dB,dD,dC,cr,cu,cv,cw,aj,bH,vR,seval, -List.reduceReplicate]
 refine hff.ax ?_
 simp only[aS,bq,dn,dw,dy,dB,dD,dC,cr,cu,cv,cw,aj,bH,vR,seval, -List.reduceReplicate]
 refine (fI _ _ hr.a hf).ax ?_
 simp only[aS,bq,dn,dw,dy,dB,dD,dC,cr,cu,cv,cw,aj,bH,vR,seval, -List.reduceReplicate]
 refine (Gw _ (bg hr.a hf)).ax ?_
 simp only[aS,bq,dn,dw,dy,dB,dD,dC,cr,cu,cv,cw,aj,bH,vR,seval, -List.reduceReplicate]
 rfl
def mc (f:F5) (n:Nat→Int):Prop:=f.v%PP=val n 16%PP
theorem WS {a b x y:Int} (h:a%PP=x%PP) (k:b%PP=y%PP):a*b%PP=x*y%PP:=by rw[Int.mul_emod,h,k, ← Int.mul_emod]
theorem acu {a b x y:Int} (h:a%PP=x%PP) (k:b%PP=y%PP):(a+b)%PP=(x+y)%PP:=by rw[Int.add_emod,h,k, ← Int.add_emod]
theorem acv {a b x y:Int} (h:a%PP=x%PP) (k:b%PP=y%PP):(a - b)%PP=(x - y)%PP:=by rw[Int.sub_emod,h,k, ← Int.sub_emod]
theorem mc.mul {f g:F5} {n m:Nat→Int} (h:mc f n) (k:mc g m) (hn:eW n) (hm:eW m):mc (eX f g) (dK n m):=by
 rw[mc,MX,(nM n m hn hm).2];exact WS h k
theorem mc.acw {f g:F5} {n m:Nat→Int} (h:mc f n) (k:mc g m) (hn:eW n) (hm:eW m):mc (eX f g) (dK m n):=by
 rw[mc,MX,(nM m n hm hn).2,Int.mul_comm];exact WS k h
theorem mc.add {f g:F5} {n m:Nat→Int} (h:mc f n) (k:mc g m) (hn:eW n) (hm:eW m):mc (qc f g) (km n m):=by
 rw[mc,qc,Uz,(uR n m hn hm).2];exact acu h k
theorem mc.aeQ {f g:F5} {n m:Nat→Int} (h:mc f n) (k:mc g m) (hn:eW n) (hm:eW m):mc (qc f g) (km m n):=by
 rw[mc,qc,Uz,(uR m n hm hn).2,Int.add_comm];exact acu k h
theorem mc.sub {f g:F5} {n m:Nat→Int} (h:mc f n) (k:mc g m) (hn:eW n) (hm:eW m):mc (qd f g) (ib n m):=by
 rw[mc,qd,UA,(rq n m hn hm).2];exact acv h k
theorem mc.sqc {f g:F5} {n m:Nat→Int} (h:mc f n) (k:mc g m) (hn:eW n) (hm:eW m):mc (eX (qd f g) (qd f g)) (dK (ib m n) (ib m n)):=by
 have hd:=cE hm hn
 have e1:(qd f g).v%PP=(val n 16 - val m 16)%PP:=by rw[qd,UA];exact acv h k
 have e2:=(rq m n hm hn).2
 rw[mc,MX,(nM _ _ hd hd).2,WS e1 e1,WS e2 e2]
 congr 1;grind
structure Rel (r:R4) (q:N4):Prop where
 a:mc r.x2 q.a
 b:mc r.z2 q.b
 c:mc r.x3 q.c
 d:mc r.z3 q.d
theorem c_eq:mc F5.c cN:=by
 rw[mc];simp[F5.v,F5.c,val,cN,upd]
theorem one_eq:mc F5.one M6:=by
 rw[mc];simp[F5.v,F5.one,val,M6,upd]
theorem zero_eq:mc F5.zero zN:=by
 rw[mc];simp[F5.v,F5.zero,val,zN]
theorem Gz {x z:F5} {n m:Nat→Int} (hx:mc x n) (hz:mc z m) (hn:eW n) (hm:eW m):
  mc (eX (eX (qc x z) (qc x z)) (eX (qd x z) (qd x z))) (Rv n m)∧
  mc (eX (qd (eX (qc x z) (qc x z)) (eX (qd x z) (qd x z))) (qc (eX (qc x z) (qc x z)) (eX F5.c (qd (eX (qc x z) (qc x z)) (eX (qd x z) (qd x z)))))) (Rw n m):=by
 have h1:=cL hn hm
 have h2:=cE hn hm
 have p:=hx.add hz hn hm
 have s:=hx.sub hz hn hm
 have pp:=p.mul p h1 h1
 have ss:=s.mul s h2 h2
 have d1:=bg h1 h1
 have d2:=bg h2 h2
 have e:=pp.sub ss d1 d2
 have de:=cE d1 d2
 refine ⟨pp.mul ss d1 d2,e.mul (pp.add (c_eq.mul e Ci de) d1 (bg Ci de)) de (cL d1 (bg Ci de))⟩
theorem step_eq (s:Bool) {r:R4} {q:N4} {u:F5} {n:Nat→Int} (h:Rel r q) (hq:q.eW) (hu:mc u n) (hn:eW n):Rel (WJ s (uO (WJ s r) u)) (P8 s n q):=by
 obtain ⟨ha,hb,hc,hd⟩:=h
 obtain ⟨da,db,dc,dd⟩:=hq
 have P:=cL da db
 have M:=cE da db
 have P':=cL dc dd
 have M':=cE dc dd
 have T1:=bg M' P
 have T2:=bg P' M
 cases s
 ·have t1:=(hc.sub hd dc dd).mul (ha.add hb da db) M' P
  have t2:=(hc.add hd dc dd).mul (ha.sub hb da db) P' M
  have x:=t1.add t2 T1 T2
  have z:=t1.sub t2 T1 T2
  have dx:=cL T1 T2
  have dz:=cE T1 T2
  exact ⟨(Gz ha hb da db).1,(Gz ha hb da db).2,x.mul x dx dx,hu.mul (z.mul z dz dz) hn (bg dz dz)⟩
 ·have t2:=(ha.sub hb da db).acw (hc.add hd dc dd) M P'
  have t1:=(ha.add hb da db).acw (hc.sub hd dc dd) P M'
  have x:=t2.aeQ t1 T2 T1
  have zz:=t2.sqc t1 T2 T1
  have dx:=cL T1 T2
  have dz:=cE T1 T2
  exact ⟨x.mul x dx dx,hu.mul zz hn (bg dz dz),(Gz hc hd dc dd).1,(Gz hc hd dc dd).2⟩
theorem UJ (K:Nat→Int) {u:F5} {n:Nat→Int} (hu:mc u n) (hn:eW n): ∀ k,Rel (si K u k) (sO K n k)
 | 0=>⟨one_eq,zero_eq,hu,one_eq⟩
 | k+1=>step_eq _ (UJ K hu hn k) (oI K n hn k) hu hn
theorem inv_eq {f:F5} {n:Nat→Int} (h:mc f n) (hn:eW n): ∀ k,mc (kU f k) (oG n k)
 | 0=>one_eq
 | k+1=>by
  have ih:=inv_eq h hn k
  have hd:=oH n hn k
  have sq:=ih.mul ih hd hd
  rw[kU,oG]
  split
  ·exact sq
  ·exact sq.mul h (bg hd hd) hn
theorem Ry (n:Nat→Int) (h:eW n):val (mb n 3) 16=val n 16%PP:=by
 have EG:(65536:Int)^16=115792089237316195423570985008687907853269984665640564039457584007913129639936:=by decide
 have hv:=pJ _ h 16
 have s1:=(pL _ h).2
 have s2:=(pL _ (mE n h 1)).2
 have s3:=(pL _ (mE n h 2)).2
 have e1:mb n 1=sP n:=rfl
 have e2:mb n 2=sP (mb n 1):=rfl
 have e3:mb n 3=sP (mb n 2):=rfl
 rw[← e1]at s1
 rw[← e2]at s2
 rw[← e3]at s3
 rw[EG]at hv
 have hPP:PP=57896044618658097711785492504343953926634992332820282019728792003956564819949:=rfl
 generalize val (mb n 3) 16=v3 at*
 generalize val (mb n 2) 16=v2 at*
 generalize val (mb n 1) 16=v1 at*
 generalize val n 16=v at*
 clear e1 e2 e3
 rw[hPP]at*
 split at s1<;>split at s2<;>split at s3<;>omega
theorem Rz (U:Nat→Int) (hU:By U):mc (mY (qq U 32)) (zD (M8 U) 32):=by
 have h0:qq U 32 0=U 0+256*U 1+65536*U 2+16777216*U 3+4294967296*U 4+1099511627776*U 5+281474976710656*U 6+72057594037927936*U 7:=by
  simp[qq,upd];omega
 have h1:qq U 32 1=U 8+256*U 9+65536*U 10+16777216*U 11+4294967296*U 12+1099511627776*U 13+281474976710656*U 14+72057594037927936*U 15:=by
  simp[qq,upd];omega
 have h2:qq U 32 2=U 16+256*U 17+65536*U 18+16777216*U 19+4294967296*U 20+1099511627776*U 21+281474976710656*U 22+72057594037927936*U 23:=by
  simp[qq,upd];omega
 have h3:qq U 32 3=U 24+256*U 25+65536*U 26+16777216*U 27+4294967296*U 28+1099511627776*U 29+281474976710656*U 30+72057594037927936*U 31:=by
  simp[qq,upd];omega
 have b:=(pI U hU 32).1
 have b0:=b 0
 have b1:=b 1
 have b2:=b 2
 have b3:=b 3
 have hv:(mY (qq U 32)).v=qq U 32 0+18446744073709551616*qq U 32 1+340282366920938463463374607431768211456*qq U 32 2+6277101735386680763835789423207666416102355444464034512896*(qq U 32 3%9223372036854775808):=by
  simp only[mY,F5.v];omega
 have ht:qq U 32 3%9223372036854775808=U 24+256*U 25+65536*U 26+16777216*U 27+4294967296*U 28+1099511627776*U 29+281474976710656*U 30+72057594037927936*(U 31%128):=by
  have:=hU 24
  have:=hU 25
  have:=hU 26
  have:=hU 27
  have:=hU 28
  have:=hU 29
  have:=hU 30
  have:=hU 31
  rw[h3];omega
 have hd:val (zD (M8 U) 32) 16=(mY (qq U 32)).v:=by
  rw[hv,ht,h0,h1,h2]
  simp[val,Gu,M8,upd]
  omega
 rw[mc,hd]
theorem words_eq (W m:Nat→Int) (hW: ∀ j,0≤W j∧W j < 18446744073709551616) (hm:eW m)
  (h:W 0+18446744073709551616*W 1+340282366920938463463374607431768211456*W 2+6277101735386680763835789423207666416102355444464034512896*W 3=val m 16):
  (W 0=m 0+65536*m 1+4294967296*m 2+281474976710656*m 3)∧(W 1=m 4+65536*m 5+4294967296*m 6+281474976710656*m 7)∧
  (W 2=m 8+65536*m 9+4294967296*m 10+281474976710656*m 11)∧(W 3=m 12+65536*m 13+4294967296*m 14+281474976710656*m 15):=by
 have e:val m 16=(m 0+65536*m 1+4294967296*m 2+281474976710656*m 3)+18446744073709551616*(m 4+65536*m 5+4294967296*m 6+281474976710656*m 7)+340282366920938463463374607431768211456*(m 8+65536*m 9+4294967296*m 10+281474976710656*m 11)+6277101735386680763835789423207666416102355444464034512896*(m 12+65536*m 13+4294967296*m 14+281474976710656*m 15):=by
  simp[val];omega
 rw[e]at h
 have w0:=hW 0
 have w1:=hW 1
 have w2:=hW 2
 have w3:=hW 3
 have q: ∀ a b c d:Nat,0≤m a+65536*m b+4294967296*m c+281474976710656*m d∧m a+65536*m b+4294967296*m c+281474976710656*m d < 18446744073709551616:=by
  intro a b c d
  have:=hm a
  have:=hm b
  have:=hm c
  have:=hm d
  omega
 have q0:=q 0 1 2 3
 have q1:=q 4 5 6 7
 have q2:=q 8 9 10 11
 have q3:=q 12 13 14 15
 generalize m 0+65536*m 1+4294967296*m 2+281474976710656*m 3=d0 at*
 generalize m 4+65536*m 5+4294967296*m 6+281474976710656*m 7=d1 at*
 generalize m 8+65536*m 9+4294967296*m 10+281474976710656*m 11=d2 at*
 generalize m 12+65536*m 13+4294967296*m 14+281474976710656*m 15=d3 at*
 clear e hm hW
 omega
theorem zS (w a b c d:Int) (ha:0≤a∧a < 65536) (hb:0≤b∧b < 65536) (hc:0≤c∧c < 65536) (hd:0≤d∧d < 65536) (h:w=a+65536*b+4294967296*c+281474976710656*d):
  w / 2^0%256=a%256∧w / 2^8%256=a / 256%256∧w / 2^16%256=b%256∧w / 2^24%256=b / 256%256∧
  w / 2^32%256=c%256∧w / 2^40%256=c / 256%256∧w / 2^48%256=d%256∧w / 2^56%256=d / 256%256:=by
 simp only[Int.reducePow]
 subst h
 refine ⟨?_, ?_, ?_, ?_, ?_, ?_, ?_, ?_⟩<;>omega
theorem bytes_eq (W m:Nat→Int) (hW: ∀ j,0≤W j∧W j < 18446744073709551616) (hm:eW m)
  (h:W 0+18446744073709551616*W 1+340282366920938463463374607431768211456*W 2+6277101735386680763835789423207666416102355444464034512896*W 3=val m 16):
  ∀ i,i < 32→E' W i=Cm m i:=by
 obtain ⟨e0,e1,e2,e3⟩:=words_eq W m hW hm h
 have b0:=zS _ _ _ _ _ (hm 0) (hm 1) (hm 2) (hm 3) e0
 have b1:=zS _ _ _ _ _ (hm 4) (hm 5) (hm 6) (hm 7) e1
 have b2:=zS _ _ _ _ _ (hm 8) (hm 9) (hm 10) (hm 11) e2
 have b3:=zS _ _ _ _ _ (hm 12) (hm 13) (hm 14) (hm 15) e3
 intro i hi
 match i,hi with
 | 0,_=>exact b0.1
 | 1,_=>exact b0.2.1
 | 2,_=>exact b0.2.2.1
 | 3,_=>exact b0.2.2.2.1
 | 4,_=>exact b0.2.2.2.2.1
 | 5,_=>exact b0.2.2.2.2.2.1
 | 6,_=>exact b0.2.2.2.2.2.2.1
 | 7,_=>exact b0.2.2.2.2.2.2.2
 | 8,_=>exact b1.1
 | 9,_=>exact b1.2.1
 | 10,_=>exact b1.2.2.1
 | 11,_=>exact b1.2.2.2.1
 | 12,_=>exact b1.2.2.2.2.1
 | 13,_=>exact b1.2.2.2.2.2.1
 | 14,_=>exact b1.2.2.2.2.2.2.1
 | 15,_=>exact b1.2.2.2.2.2.2.2
 | 16,_=>exact b2.1
 | 17,_=>exact b2.2.1
 | 18,_=>exact b2.2.2.1
 | 19,_=>exact b2.2.2.2.1
 | 20,_=>exact b2.2.2.2.2.1
 | 21,_=>exact b2.2.2.2.2.2.1
 | 22,_=>exact b2.2.2.2.2.2.2.1
 | 23,_=>exact b2.2.2.2.2.2.2.2
 | 24,_=>exact b3.1
 | 25,_=>exact b3.2.1
 | 26,_=>exact b3.2.2.1
 | 27,_=>exact b3.2.2.2.1
 | 28,_=>exact b3.2.2.2.2.1
 | 29,_=>exact b3.2.2.2.2.2.1
 | 30,_=>exact b3.2.2.2.2.2.2.1
 | 31,_=>exact b3.2.2.2.2.2.2.2
 | n+32,h=>omega
theorem same (K U:Nat→Int) (hU:By U):af .u8 32 (zj K U)=af .u8 32 (acs K U):=by
 refine aX fun i hi=> ?_
 have hu:(mY (qq U 32)).Ok:=E9 _ fun j=>⟨((pI U hU 32).1 j).1,((pI U hU 32).1 j).2.2⟩
 have hn:=Gv _ (Gx U hU) 32
 have hs:=Rz U hU
 have hr:=mo (iY K) _ hu 255
 have hq:=oI (iY K) _ hn 255
 have hl:=UJ (iY K) hs hn 255
 have hi5:=inv_eq hl.b hq.b 255
 have hf:=oH _ hq.b 255
 have hx:=hl.a.mul hi5 hq.a hf
 have ok:=iP _ _ hr.x2 (ll _ hr.z2 255)
 obtain ⟨hv,g0,g1,g2,g3,g4⟩:=Kj _ ok
 have hd:=bg hq.a hf
 have hw:=UC _ g0 g1 g2 g3 g4
 exact bytes_eq _ _ (PZ _ g0 g1 g2 g3 g4) (mE _ hd 3) (by rw[← hw,hv,Ry _ hd];exact hx) i hi
theorem Kx (K U:Nat→Int):By (zj K U):=by
 intro i;simp only[zj,E'];omega

theorem Ff {s:AS} {k:Nat} {v:AV} {x:St} {c:aN} {Post:AV→(Nat→Option aN)→Prop} (hk:0 < k) (hv:AV.plain v=true) (hb:s.box 0=some ⟨true,bC x⟩) (hx: ∀ r:Nat→Nat,(∀ n,n < k→r n=n)→SV.aI r x.store=x.store) (ho:SV.ok (fun n=>n < k+1) x.store) (h:Post v (lk [(0,⟨true,bC x⟩)])):qA k Post v s:=by
 have hr: ∀ n,n < k→kc k k n=n:=fun n hn=>by unfold kc;rw[if_neg (by omega)]
 refine ⟨k,v,lk [(0,⟨true,bC x⟩)],Nat.le_refl k,(AV.bB hv _).symm,AV.bk hv,fun n b hn=> ?_,h⟩
 obtain ⟨rfl,rfl⟩:=A6 hn
 exact ⟨by omega,fun e=>by omega,bF ho,⟨true,bC x⟩,by rw[A8 hk];exact hb,fun _=>rfl,by rw[eN,hx _ hr]⟩
def UK (k n:Nat) (s:St) (f:Nat→En) (v:AV) (out:Nat→Option aN):Prop:=
 v=Ptr k 0∧ ∃ sv bx,iT (k+1) n f sv bx∧out=fun m=>if m=k then some ⟨true,bC { s with store:=sv }⟩ else if m=k+1 then bx else none
theorem uS {p q n:Nat} {f:Nat→En} {sv:SV} {bx:Option aN} (h:iT q n f sv bx): ∃ sk,iT p n f sk bx∧(∀ r:Nat→Nat,r p=q→SV.aI r sk=sv)∧(∀ M:Nat→Prop,M p→SV.ok M sk)∧ ∀ b,bx=some b→b.rw=true∧b.cells.all SV.plain=true:=by
 rcases h with ⟨h0,rfl,rfl⟩ | ⟨h0,c,cs,rfl,hg,rfl⟩
 ·exact ⟨_, .inl ⟨h0,rfl,rfl⟩,fun r hr=>rfl,fun M hM=>SV.bk rfl,fun b hb=>(by cases hb)⟩
 ·exact ⟨.inr (.inr (p,0,n,c)), .inr ⟨h0,c,cs,rfl,hg,rfl⟩,fun r hr=>by simp only[SV.aI,jI,hr],fun M hM=>⟨hM,rfl⟩,fun b hb=>by cases hb;exact ⟨rfl,hg.plain⟩⟩
theorem M9 {s:AS} {k q p n:Nat} {x:St} {f:Nat→En} {sv:SV} {bx:Option aN} (hq:k≤q) (hp:k≤p) (hne:q≠p) (hb:s.box q=some ⟨true,bC { x with store:=sv }⟩) (hb':s.box p=bx) (hK:iT p n f sv bx):zB k 2 (UK k n x f) (Ptr q 0) s:=by
 obtain ⟨sk,hK0,Tm,ZK,l6⟩:=uS (p:=k+1) hK
 have r0:hY k (fun j=>if j=0 then q else p) k=q:=by unfold hY;rw[if_neg (by omega)];exact if_pos (by omega)
 have r1:hY k (fun j=>if j=0 then q else p) (k+1)=p:=by unfold hY;rw[if_neg (by omega)];exact if_neg (by omega)
 refine ⟨fun j=>if j=0 then q else p,Ptr k 0,fun m=>if m=k then some ⟨true,bC { x with store:=sk }⟩ else if m=k+1 then bx else none,fun j hj=>by (dsimp only;split)<;>assumption,fun i j hi hj e=> ?_, ?_,(show k < k+2 by omega),fun m b hm=> ?_,rfl,sk,bx,hK0,rfl⟩
 ·dsimp only at e
  split at e<;>split at e
  ·omega
  ·exact absurd e hne
  ·exact absurd e.symm hne
  ·omega
 ·show _=Ptr (hY k _ k) 0
  rw[r0]
 ·dsimp only at hm
  split at hm
  ·rename_i e;subst e;cases hm
   exact ⟨by omega,fun _=>rfl,bF (ZK _ (by omega)),⟨true,bC { x with store:=sv }⟩,by rw[r0];exact hb,fun h=>h,by rw[eN,Tm _ r1]⟩
  ·split at hm
   ·rename_i _ e;subst e
    obtain ⟨h1,h2⟩:=l6 b hm
    exact ⟨by omega,fun _=>h1,aC h2,b,by rw[r1,hb',hm],fun h=>h,(aQ h2 _).symm⟩
   ·cases hm
theorem RA {s:St} {n:Nat} {f:Nat→En} {cs:List SV} (h0:aH 0 s.store n f cs) (hp:cs.all SV.plain=true) (hn:n*72≤140737488355328):
  gL Tryz.prog 58 [Ag (bC s)] 1 2 (lk [(0,⟨false,cs⟩)]) (UK 1 n s f):=by
 refine dF Tryz.func58 rfl (by kernel_rfl) [1] [] (by simp[Tryz.ntmps58]) Tryz.ux (by decide) (fun y hy=>by
  obtain rfl:=List.mem_singleton.1 hy
  exact bF (h0.ok (by decide))) dG (dH hp) ?_
 simp only[Tryz.results58,eZ,ao,aK,aR,vR,seval, -List.reduceReplicate]
 refine ⟨by decide, ?_⟩
 simp only[eZ,ao,aK,aR,vR,seval, -List.reduceReplicate]
 refine pH (t:=0) (rw:=false) (by simp only[aK,vR,seval, -List.reduceReplicate]) hp h0 hn ?_
 intro sv bx hK
 simp only[eZ,ao,aK,aR,vR,seval, -List.reduceReplicate]
 exact M9 (q:=19) (p:=11) (by decide) (by decide) (by decide) (by simp only[aK,vR,seval, -List.reduceReplicate]) (by simp only[aK,vR,seval, -List.reduceReplicate]) hK
theorem wG {p q n:Nat} {f:Nat→En} {sv:SV} {bx:Option aN} {r:Nat→Nat} (h:iT p n f sv bx) (hr:r p=q):iT q n f (SV.aI r sv) (bx.map (aN.aI r)):=by
 rcases h with ⟨h0,rfl,rfl⟩ | ⟨h0,c,cs,rfl,hg,rfl⟩
 ·exact .inl ⟨h0,rfl,rfl⟩
 ·exact .inr ⟨h0,c,cs,by simp only[SV.aI,jI,hr],hg,fh hg.plain⟩
theorem sQ {s:AS} {nm t n:Nat} {x:St} {f:Nat→En} {rw:Bool} {cs:List SV} (hb:s.box t=some ⟨rw,cs⟩) (hp:cs.all SV.plain=true) (hi:aH t x.store n f cs) (hn:n*72≤140737488355328) {dst:Option Nat} {K:AS→Prop}
  (hk: ∀ sv bx,iT (nm+1) n f sv bx→K ((⟨s.env,upd (upd s.box nm (some ⟨true,bC { x with store:=sv }⟩)) (nm+1) bx,s.next⟩:AS).put dst (some (Ptr nm 0)))):bA Tryz.prog nm 58 (some [Ag (bC x)]) dst K s:=by
 obtain ⟨v0,g0,e0⟩:=hi.name (k:=0)
 refine (RA (s:={ x with store:=v0 }) g0 hp hn).ax (fun _=>t) none (bS hb hp) ?_ ?_
 ·simp only[List.map_cons,List.map_nil,eM,e0 (fun _=>t) rfl]
 ·rintro v out ⟨rfl,sv,bx,hK,rfl⟩
  have e1:((⟨true,bC { x with store:=sv }⟩:aN)).aI (bI (fun _=>t) 1 nm)=⟨true,bC { x with store:=SV.aI (bI (fun _=>t) 1 nm) sv }⟩:=by unfold aN.aI;rw[eN]
  have e2:AV.aI (bI (fun _=>t) 1 nm) (Ptr 1 0)=Ptr nm 0:=by show Ptr (bI (fun _=>t) 1 nm 1) 0=_;rw[iN]
  rw[wj,e2]
  simp only[if_true,if_pos,if_neg (show ¬ (1+1=1) by decide),Option.map_some,e1]
  exact hk _ _ (wG hK BK)
theorem GA {s:AS} {t u:Nat} {x:St} {v0:SV} {rw:Bool} {ds:List SV} (h:s.box t=some ⟨true,bC x⟩) (h':s.box u=some ⟨rw,ds⟩) (hq:ds.all SV.plain=true) (hne:t≠u) (e:SV.aI (two t u) v0=x.store):
  Fits s (two t u) (lk [(0,⟨true,bC { x with store:=v0 }⟩),(1,⟨false,ds⟩)]) (some 0):=by
 refine ⟨fun m b hm=> ?_,fun m m' b b' hm hrw hm' e=> ?_,fun m b hm hrw=> ?_,fun m hm=> ?_⟩
 ·rcases vD hm with ⟨rfl,rfl⟩ | ⟨rfl,rfl⟩
  ·exact ⟨_,h,fun h=>h,by rw[eN];simp only[e]⟩
  ·exact ⟨_,h',fun h=>(by cases h),(aQ hq _).symm⟩
 ·rcases vD hm with ⟨rfl,rfl⟩ | ⟨rfl,rfl⟩
  ·rcases vD hm' with ⟨rfl,rfl⟩ | ⟨rfl,rfl⟩
   ·rfl
   ·exact absurd e hne
  ·cases hrw
 ·rcases vD hm with ⟨rfl,rfl⟩ | ⟨rfl,rfl⟩
  ·rfl
  ·cases hrw
 ·cases hm;exact ⟨_,rfl,rfl⟩
theorem RB {s:AS} {nm:Nat} {r:Nat→Nat} {k n:Nat} {out:Nat→Option aN} (h: ¬ (nm≤r n∧r n < nm+1)):mT s r k 1 nm (some n) out=upd (upd s.box (r n) ((out n).map (aN.aI (bI r k nm)))) nm ((out k).map (aN.aI (bI r k nm))):=by
 funext t
 unfold mT upd
 by_cases h1:t=nm
 ·subst h1;simp
 ·rw[if_neg (by omega)];simp[h1]
theorem Na {o n c m:Nat} {cs:List SV} (hp:cs.all SV.plain=true) (hm:m≤n) (hc:n≤c):
  bf Tryz.prog 97 [Ptr 0 0,I .i64 m] 2 (l8 o n c cs) (IU (Sl 1 o m c) (Za o m c) (n - m) (c - m)):=by
 refine av Tryz.func97 rfl (by kernel_rfl) (by simp[Tryz.ntmps97]) Tryz.uI (by simp[AV.ok,CV.ok,SV.names]) FR (FT hp) ?_
 have b0:l8 o n c cs 0=some ⟨true,[rd 1 o n c]⟩:=rfl
 have l1:(((m:Nat):Int)≤(n:Int))=True:=eq_true (by omega)
 have l2:(((m:Nat):Int)≤(c:Int))=True:=eq_true (by omega)
 have l3:(((n:Nat):Int)≤(c:Int))=True:=eq_true (by omega)
 simp only[Tryz.results97,b0,l1,l2,l3,aW,vR,seval, -List.reduceReplicate]
 exact FU rfl (show (1:Nat) < 2 by omega)
theorem Qa {o n c:Nat} {f:Nat→Int} {cs:List SV} (hf:br f) (hs:aZ cs o n f) (hp:cs.all SV.plain=true) (hm:4≤n) (hc:n≤c):
  bf Tryz.prog 78 [Ptr 0 0] 2 (l8 o n c cs) (IU (I .u32 (dW f 0)) (Za o 4 c) (n - 4) (c - 4)):=by
 refine av Tryz.func78 rfl (by kernel_rfl) (by simp[Tryz.ntmps78]) Tryz.uC (by simp[AV.ok,CV.ok,SV.names]) FR (FT hp) ?_
 have b0:l8 o n c cs 0=some ⟨true,[rd 1 o n c]⟩:=rfl
 have b1:l8 o n c cs 1=some ⟨false,cs⟩:=rfl
 have a0:=hs 0 (by omega)
 have a1:=hs 1 (by omega)
 have a2:=hs 2 (by omega)
 have a3:=hs 3 (by omega)
 rw[Nat.add_zero]at a0
 have e:=V7 (f 0) (f 1) (f 2) (f 3) (hf 0) (hf 1) (hf 2) (hf 3)
 simp only[Tryz.results78,vR,seval, -List.reduceReplicate]
 refine lh (Na (o:=o) (m:=4) hp hm hc) (t:=0) (u:=1) (rw:=false) (by simp only[ae,b0,vR,seval, -List.reduceReplicate]) (by simp only[ae,b1,vR,seval, -List.reduceReplicate]) hp (by decide) rfl (y:=Sl 1 o 4 c) rfl ?_
 simp only[b1,a0,a1,a2,a3,Nat.add_zero,e,vR,seval, -List.reduceReplicate]
 exact ⟨by kernel_rfl,FU rfl trivial⟩
theorem UL {o n c:Nat} {f:Nat→Int} {cs:List SV} (hs:aZ cs o n f) (hp:cs.all SV.plain=true) (hm:32≤n) (hc:n≤c):
  bf Tryz.prog 79 [Ptr 0 0] 2 (l8 o n c cs) (IU (Ag (af .u8 32 f)) (Za o 32 c) (n - 32) (c - 32)):=by
 refine av Tryz.func79 rfl (by kernel_rfl) (by simp[Tryz.ntmps79]) Tryz.uD (by simp[AV.ok,CV.ok,SV.names]) FR (FT hp) ?_
 have b0:l8 o n c cs 0=some ⟨true,[rd 1 o n c]⟩:=rfl
 have b1:l8 o n c cs 1=some ⟨false,cs⟩:=rfl
 have hl:o+31 < cs.length:=(List.getElem?_eq_some_iff.1 (hs 31 (by omega))).1
 have ek:List.take 32 (List.drop o cs)=af .u8 32 f:=kN hs hm
 simp only[Tryz.results79,vR,seval, -List.reduceReplicate]
 refine lh (Na (o:=o) (m:=32) hp hm hc) (t:=0) (u:=1) (rw:=false) (by simp only[ae,b0,vR,seval, -List.reduceReplicate]) (by simp only[ae,b1,vR,seval, -List.reduceReplicate]) hp (by decide) rfl (y:=Sl 1 o 32 c) rfl ?_
 simp only[b1,Nat.add_zero,ek,vR,seval, -List.reduceReplicate]
 exact ⟨by omega,FU rfl (of_eq_true Y8)⟩
theorem WT {o n c m:Nat} {f:Nat→Int} {cs:List SV} (hs:aZ cs o n f) (hp:cs.all SV.plain=true) (hm:m≤n) (hc:n≤c) (hby:n≤140737488355328):
  bf Tryz.prog 80 [Ptr 0 0,I .i64 m] 2 (l8 o n c cs) (Pk m f (Za o m c) (n - m) (c - m)):=by
 refine av Tryz.func80 rfl (by kernel_rfl) (by simp[Tryz.ntmps80]) Tryz.uF (by simp[AV.ok,CV.ok,SV.names]) FR (FT hp) ?_
 have b0:l8 o n c cs 0=some ⟨true,[rd 1 o n c]⟩:=rfl
 have b1:l8 o n c cs 1=some ⟨false,cs⟩:=rfl
 simp only[Tryz.results80,vR,seval, -List.reduceReplicate]
 refine lh (Na (o:=o) (m:=m) hp hm hc) (t:=0) (u:=1) (rw:=false) (by simp only[ae,b0,vR,seval, -List.reduceReplicate]) (by simp only[ae,b1,vR,seval, -List.reduceReplicate]) hp (by decide) rfl (y:=Sl 1 o m c) rfl ?_
 simp only[vR,seval, -List.reduceReplicate]
 refine iM Tryz.bP Tryz.bR (m:=m) (g:=f) (.inr ⟨1,o,c,false,cs,rfl,by simp only[ae,b1,vR,seval, -List.reduceReplicate],hp,mM hs hm⟩) (by omega) (fun h0=> ?_) (fun h0 c' cs' hg=> ?_)
 ·simp only[vR,seval, -List.reduceReplicate]
  exact Q0 h0 rfl
 ·simp only[vR,seval, -List.reduceReplicate]
  exact Q5 h0 (by decide) hg rfl rfl
theorem rr {n o c:Nat} {f:Nat→Int} {cs:List SV} {x:Int} (hg:bK cs o n c f) (hn:n+4≤140737488355328):
  bf Tryz.prog 140 [Sl 0 o n c,I .u32 x] 1 (lk [(0,⟨true,cs⟩)]) (Made 1 (n+4) (aP n f (fC x))):=by
 refine av Tryz.func140 rfl (by kernel_rfl) (by simp[Tryz.ntmps140]) Tryz.qX (by simp[AV.ok,CV.ok,SV.names]) dG (dH hg.plain) ?_
 have e0:IntKind.u8.wrap (cy .u32 x 24)=fC x 0:=rfl
 have e1:IntKind.u8.wrap (cy .u32 x 16)=fC x 1:=rfl
 have e2:IntKind.u8.wrap (cy .u32 x 8)=fC x 2:=rfl
 have e3:IntKind.u8.wrap x=fC x 3:=by unfold fC cy;simp
 simp only[Tryz.results140,e0,e1,e2,e3,Zh,Zi,Zj,Zk,vR,seval]
 refine bp (g:=fC x) Tryz.bP Tryz.bR (by simp only[ae,vR,seval]) hg (.inr ⟨14,0,4,true,_,rfl,by simp only[ae,vR,seval],Zl,by decide⟩) (by omega) ?_
 intro c2 mD gI
 simp only[vR,seval]
 refine dV (k:=1) (q:=15) (cs:=mD) (by decide) ?_ gI.plain gI.made
 simp only[vR,seval]
def fT (aG:Nat→Int) (pn n:Int) (sv:SV) (tag:Nat→Int):List SV:=af .u8 32 aG++(Sum.inl (.int .u32 pn)::Sum.inl (.int .u32 n)::sv::af .u8 32 tag)
def lQ (aG:Nat→Int) (pn n:Int):List SV:=af .u8 32 aG++[Sum.inl (.int .u32 pn),Sum.inl (.int .u32 n)]
section
variable {aG tag:Nat→Int} {pn n:Int} {sv:SV}
theorem iQ:(fT aG pn n sv tag).length=67:=by simp[fT,ah]
theorem nN:(lQ aG pn n).length=34:=by simp[lQ,ah]
theorem Qb:List.take 32 (fT aG pn n sv tag)=af .u8 32 aG:=by
 unfold fT;rw[List.take_append_of_le_length (by rw[ah];omega)];exact ft _ _ _
theorem Ky:List.take 34 (fT aG pn n sv tag)=lQ aG pn n:=by
 unfold fT lQ
 rw[List.take_append,ah,List.take_of_length_le (by rw[ah];omega)];rfl
theorem Qc:List.take 32 (List.drop 35 (fT aG pn n sv tag))=af .u8 32 tag:=by
 unfold fT
 rw[List.drop_append,ah,List.drop_eq_nil_of_le (by rw[ah];omega),List.nil_append]
 exact ft _ _ _
theorem Nb:(fT aG pn n sv tag)[32]? =some (Sum.inl (.int .u32 pn)):=by
 unfold fT;rw[List.getElem?_append_right (by rw[ah];omega),ah];rfl
theorem Nc:(fT aG pn n sv tag)[33]? =some (Sum.inl (.int .u32 n)):=by
 unfold fT;rw[List.getElem?_append_right (by rw[ah];omega),ah];rfl
theorem xU:(fT aG pn n sv tag)[34]? =some sv:=by
 unfold fT;rw[List.getElem?_append_right (by rw[ah];omega),ah];rfl
theorem jw:List.take 67 (fT aG pn n sv tag)=fT aG pn n sv tag:=List.take_of_length_le (by rw[iQ];omega)
theorem GB:aZ (fT aG pn n sv tag) 0 32 aG:=fun i hi=>by
 rw[Nat.zero_add];unfold fT;rw[List.getElem?_append_left (by rw[ah];exact hi),aA .u8 32 aG i hi]
theorem wH:aZ (fT aG pn n sv tag) 35 32 tag:=fun i hi=>by
 unfold fT;rw[List.getElem?_append_right (by rw[ah];omega),ah,show 35+i - 32=i+1+1+1 by omega]
 simp only[List.getElem?_cons_succ]
 exact aA .u8 32 tag i hi
theorem rT {r:Nat→Nat}:(fT aG pn n sv tag).map (SV.aI r)=fT aG pn n (SV.aI r sv) tag:=by
 unfold fT
 rw[List.map_append,aQ aw,List.map_cons,List.map_cons,List.map_cons,aQ aw];rfl
theorem Qd {x:SV} (h:x ∈ fT aG pn n sv tag):x=sv∨SV.plain x=true:=by
 unfold fT at h
 rcases List.mem_append.1 h with h | h
 ·exact .inr (List.all_eq_true.1 aw x h)
 ·rcases List.mem_cons.1 h with rfl | h
  ·exact .inr rfl
  ·rcases List.mem_cons.1 h with rfl | h
   ·exact .inr rfl
   ·rcases List.mem_cons.1 h with rfl | h
    ·exact .inl rfl
    ·exact .inr (List.all_eq_true.1 aw x h)
theorem xV (h:SV.plain sv=true):(fT aG pn n sv tag).all SV.plain=true:=List.all_eq_true.2 fun x hx=>by
 rcases Qd hx with rfl | h'
 ·exact h
 ·exact h'
theorem jF {M:Nat→Prop} (h:SV.ok M sv): ∀ x ∈ fT aG pn n sv tag,SV.ok M x:=fun x hx=>by
 rcases Qd hx with rfl | h'
 ·exact h
 ·exact SV.bk h'
end
def xW (aG:Nat→Int) (pn n:Int) (m:Nat) (body tag:Nat→Int):Nat→Int:=
 aP (45+m) (aP 45 (aP 41 (aP 37 (aP 33 (aP 1 (fun _=>210) aG) (fC pn)) (fC n)) (fC m)) body) tag
theorem mq {n:Nat} {sv:SV} {f:Nat→Int} {cs:List SV} {M:Nat→Prop} {t:Nat} (h:eH t (.inl (.inl sv)) n f cs) (hM:M t):SV.ok M sv:=by
 rcases h with ⟨⟨a,e⟩,h0⟩ | ⟨o,c,e,hs⟩
 ·cases e;exact ⟨trivial,rfl⟩
 ·cases e;exact ⟨hM,rfl⟩
theorem UM {n t:Nat} {sv:SV} {f:Nat→Int} {cs:List SV} (h:eH t (.inl (.inl sv)) n f cs): ∃ sk,eH 0 (.inl (.inl sk)) n f cs∧SV.aI (fun _=>t) sk=sv:=by
 rcases h with ⟨⟨a,e⟩,h0⟩ | ⟨o,c,e,hs⟩
 ·cases e;exact ⟨_, .inl ⟨⟨a,rfl⟩,h0⟩,rfl⟩
 ·cases e;exact ⟨_, .inr ⟨o,c,rfl,hs⟩,rfl⟩
theorem lX {r:Nat→Nat} {aG tag:Nat→Int} {pn n:Int} {sv:SV}:AV.aI r (Ag (fT aG pn n sv tag))=Ag (fT aG pn n (SV.aI r sv) tag):=by
 show AV.aI r (.inl (.inr _))=_
 simp only[AV.aI,CV.aI,rT]
theorem Dj {aG tag body:Nat→Int} {pn n:Int} {m:Nat} {sv:SV} {cs:List SV} (hp:cs.all SV.plain=true) (hb:eH 0 (.inl (.inl sv)) m body cs) (hm:m≤65536):
  bf Tryz.prog 124 [V (.slice none 0 0),Ag (fT aG pn n sv tag)] 1 (lk [(0,⟨false,cs⟩)]) (Made 1 (45+m+32) (xW aG pn n m body tag)):=by
 refine av Tryz.func124 rfl (by kernel_rfl) (by simp[Tryz.ntmps124]) Tryz.qR (fun u hu=>by
  simp only[List.mem_cons,List.not_mem_nil,or_false]at hu
  rcases hu with rfl | rfl
  ·trivial
  ·exact jF (mq hb (by decide))) dG (dH hp) ?_
 have Kz:=fun {box:Nat→Option aN} (h:bG box (.inl (.inl sv)) m body)=>iW h
 have CY:bG (lk [(0,(⟨false,cs⟩:aN))]) (.inl (.inl sv)) m body:=hb.at (t:=0) rfl hp
 simp only[Tryz.results124,iQ,jw,eG,vR,seval]
 refine iM (m:=1) (g:=fun _=>210) Tryz.bP Tryz.bR (.inr ⟨4,0,1,true,_,rfl,by simp only[ae,vR,seval],rfl,b9⟩) (by decide) (fun h=>absurd h (by decide)) (fun _ c1 kk g1=> ?_)
 simp only[vR,seval]
 refine bp (m:=32) (g:=aG) Tryz.bP Tryz.bR (by simp only[ae,vR,seval]) g1 (.inr ⟨1,0,32,true,fT aG pn n sv tag,rfl,by simp only[ae,vR,seval],GB,by decide⟩) (by omega) ?_
 intro c2 mD g2
 simp only[Nb,vR,seval]
 refine vM (rr g2 (by omega)) (by simp only[ae,vR,seval]) g2.plain rfl ?_
 intro c3 xP g3
 simp only[Nc,vR,seval]
 refine vM (rr g3 (by omega)) (by simp only[ae,vR,seval]) g3.plain rfl ?_
 intro c4 C0 g4
 have hw:IntKind.u32.wrap (m:Int)=(m:Int):=dt _ (by omega) (by omega)
 simp only[xU,Kz CY,hw,vR,seval]
 refine vM (rr g4 (by omega)) (by simp only[ae,vR,seval]) g4.plain rfl ?_
 intro c5 pZ g5
 simp only[xU,vR,seval]
 refine bp (m:=m) (g:=body) Tryz.bP Tryz.bR (by simp only[ae,vR,seval]) g5 (oz (k:=1) CY (hb.ok (by decide)) (by decide) (fun t ht=> ?_)) (by omega) ?_
 ·obtain rfl:t=0:=by omega
  simp only[ae,vR,seval]
 intro c6 cs6 g6
 simp only[vR,seval]
 refine bp (m:=32) (g:=tag) Tryz.bP Tryz.bR (by simp only[ae,vR,seval]) g6 (.inr ⟨1,35,32,true,fT aG pn n sv tag,rfl,by simp only[ae,vR,seval],wH,by decide⟩) (by omega) ?_
 intro c7 cs7 g7
 simp only[vR,seval]
 refine dV (k:=1) (cs:=cs7) (by decide) ?_ g7.plain g7.made
 simp only[ae,vR,seval]
theorem Dk {aG tag body:Nat→Int} {pn n:Int} {m:Nat} {sv:SV} {cs:List SV} (hp:cs.all SV.plain=true) (hb:eH 0 (.inl (.inl sv)) m body cs) (hm:m≤65536):
  bf Tryz.prog 103 [Ag (fT aG pn n sv tag)] 1 (lk [(0,⟨false,cs⟩)]) (Made 1 (45+m+32) (xW aG pn n m body tag)):=by
 refine av Tryz.func103 rfl (by kernel_rfl) (by simp[Tryz.ntmps103]) Tryz.nH (fun u hu=>by
  simp only[List.mem_cons,List.not_mem_nil,or_false]at hu
  subst hu
  exact jF (mq hb (by decide))) dG (dH hp) ?_
 have Kz:=fun {box:Nat→Option aN} (h:bG box (.inl (.inl sv)) m body)=>iW h
 have CY:bG (lk [(0,(⟨false,cs⟩:aN))]) (.inl (.inl sv)) m body:=hb.at (t:=0) rfl hp
 have d:decide (65536 < (m:Int))=false:=decide_eq_false (by omega)
 simp only[Tryz.results103,iQ,jw,xU,Kz CY,d,vR,seval]
 refine dS (Dj (aG:=aG) (tag:=tag) (pn:=pn) (n:=n) hp hb hm) (fun _=>0) (bS (t:=0) (rw:=false) (by simp only[ae,vR,seval]) hp) ?_ ?_
 ·have:SV.aI (fun _=>0) sv=sv:=by
   rcases hb with ⟨⟨a,e⟩,h0⟩ | ⟨o,c,e,hs⟩<;>cases e<;>rfl
  simp only[List.map_cons,List.map_nil,mL,lX,this]
 intro c tail h1 h2 h3
 simp only[vR,seval]
 refine fF (k:=1) (by decide) (bK.row h1 h2 h3) ?_ rfl
 simp only[ae,vR,seval]
theorem zE {aG tag body:Nat→Int} {pn n:Int} {m:Nat} {sv:SV} {cs:List SV} (hp:cs.all SV.plain=true) (hb:eH 0 (.inl (.inl sv)) m body cs) (hm:65536 < m):
  bf Tryz.prog 103 [Ag (fT aG pn n sv tag)] 1 (lk [(0,⟨false,cs⟩)]) (fun v out=>v=V (.slice none 0 0)∧out=fun _=>none):=by
 refine av Tryz.func103 rfl (by kernel_rfl) (by simp[Tryz.ntmps103]) Tryz.nH (fun u hu=>by
  simp only[List.mem_cons,List.not_mem_nil,or_false]at hu
  subst hu
  exact jF (mq hb (by decide))) dG (dH hp) ?_
 have Kz:=fun {box:Nat→Option aN} (h:bG box (.inl (.inl sv)) m body)=>iW h
 have CY:bG (lk [(0,(⟨false,cs⟩:aN))]) (.inl (.inl sv)) m body:=hb.at (t:=0) rfl hp
 have d:decide (65536 < (m:Int))=true:=decide_eq_true (by omega)
 simp only[Tryz.results103,iQ,jw,xU,Kz CY,d,vR,seval]
 exact ak rfl ⟨rfl,rfl⟩
theorem KA {s:AS} {nm t m:Nat} {aG tag body:Nat→Int} {pn n:Int} {sv:SV} {cs:List SV} {rw:Bool} (hb:s.box t=some ⟨rw,cs⟩) (hp:cs.all SV.plain=true) (hv:eH t (.inl (.inl sv)) m body cs) {dst:Option Nat} {K:AS→Prop}
  (MW:65536 < m→K (s.put dst (some (V (.slice none 0 0)))))
  (hk:m≤65536→ ∀ c cs',bK cs' 0 (45+m+32) c (xW aG pn n m body tag)→K ((⟨s.env,upd s.box nm (some ⟨true,cs'⟩),s.next⟩:AS).put dst (some (Sl nm 0 (45+m+32) c)))):
  ax Tryz.prog nm 103 (some [Ag (fT aG pn n sv tag)]) dst K s:=by
 obtain ⟨sk,h0,rfl⟩:=UM hv
 rcases Nat.lt_or_ge 65536 m with hm | hm
 ·exact (zE (aG:=aG) (tag:=tag) (pn:=pn) (n:=n) hp h0 hm).cW (fun _=>t) (bS hb hp) rfl (by simp only[List.map_cons,List.map_nil,lX]) (MW hm)
 ·exact dS (Dk (aG:=aG) (tag:=tag) (pn:=pn) (n:=n) hp h0 hm) (fun _=>t) (bS hb hp) (by simp only[List.map_cons,List.map_nil,lX]) (fun c tail h1 h2 h3=>hk hm c _ (bK.row h1 h2 h3))
theorem uT:List.map Sum.inl (List.replicate 32 (Value.int IntKind.u8 0)++List.replicate 2 (Value.int IntKind.u32 0)++List.replicate 1 (Value.slice none 0 0)++List.replicate 32 (Value.int IntKind.u8 0))=fT (fun _=>0) 0 0 (Sum.inl (Value.slice none 0 0)) (fun _=>0):=by
 simp only[List.map_append,aF];rfl
theorem pM:(List.replicate 32 (Sum.inl (Value.int IntKind.u8 0))++List.replicate 2 (Sum.inl (Value.int IntKind.u32 0))++List.replicate 1 (Sum.inl (Value.slice none 0 0))++List.replicate 32 (Sum.inl (Value.int IntKind.u8 0)):List SV)=fT (fun _=>0) 0 0 (Sum.inl (Value.slice none 0 0)) (fun _=>0):=by
 rw[aj];rfl
theorem Qe:(List.replicate 32 (Sum.inl (Value.int IntKind.u8 0))++List.replicate 2 (Sum.inl (Value.int IntKind.u32 0)):List SV)=lQ (fun _=>0) 0 0:=by
 rw[aj];rfl
theorem Nd:(List.map Sum.inl (List.replicate 32 (Value.int IntKind.u8 0)++List.replicate 2 (Value.int IntKind.u32 0)):List SV)=lQ (fun _=>0) 0 0:=by
 rw[List.map_append,aF];rfl
section
variable {g p q r:Nat→Int} {a b x y:Int} {sv sw:SV}
theorem gl {k:IntKind} {n m:Nat} {f:Nat→Int} (h:n≤m):List.take m (af k n f)=af k n f:=List.take_of_length_le (by rw[ah];exact h)
theorem gM {k:IntKind} {n m:Nat} {f:Nat→Int} (h:n≤m):List.drop m (af k n f)=[]:=List.drop_eq_nil_of_le (by rw[ah];exact h)
theorem UN:splice (lQ g a b) 0 (af .u8 32 p)=lQ p a b:=by simp[splice,lQ,ah,List.take_append,List.drop_append,gl,gM]
theorem UO:splice (lQ g a b) 32 [Sum.inl (.int .u32 x)]=lQ g x b:=by simp[splice,lQ,ah,List.take_append,List.drop_append,gl,gM]
theorem UQ:splice (lQ g a b) 33 [Sum.inl (.int .u32 x)]=lQ g a x:=by simp[splice,lQ,ah,List.take_append,List.drop_append,gl,gM]
theorem UR:splice (lQ g a b) 0 (lQ p x y)=lQ p x y:=by simp[splice,lQ,ah,List.take_append,List.drop_append,gl,gM]
theorem mZ:List.take 34 (lQ g a b)=lQ g a b:=List.take_of_length_le (by rw[nN];omega)
theorem Qf:splice (fT g a b sv q) 0 (lQ p x y)=fT p x y sv q:=by simp[splice,lQ,fT,ah,List.take_append,List.drop_append,gl,gM]
theorem Qg:splice (fT g a b sv q) 34 [sw]=fT g a b sw q:=by simp[splice,fT,ah,List.take_append,List.drop_append,gl,gM]
theorem Qh:splice (fT g a b sv q) 35 (af .u8 32 r)=fT g a b sv r:=by simp[splice,fT,ah,List.take_append,List.drop_append,gl,gM]
theorem wI:splice (fT g a b sv q) 0 (fT p x y sw r)=fT p x y sw r:=by simp[splice,fT,ah,List.take_append,List.drop_append,gl,gM]
theorem Qi:lQ (fun _=>0) 0 0++List.replicate 1 (Sum.inl (Value.slice none 0 0))++List.replicate 32 (Sum.inl (Value.int IntKind.u8 0))=fT (fun _=>0) 0 0 (Sum.inl (Value.slice none 0 0)) (fun _=>0):=by
 rw[← Qe,pM]
theorem Qj:(lQ g a b)[32]? =some (Sum.inl (.int .u32 a)):=by
 unfold lQ;rw[List.getElem?_append_right (by simp[ah])];simp[ah]
theorem Qk:(lQ g a b)[33]? =some (Sum.inl (.int .u32 b)):=by
 unfold lQ;rw[List.getElem?_append_right (by simp[ah])];simp[ah]
theorem US:List.take 32 (lQ g a b)=af .u8 32 g:=by simp[lQ,ah,List.take_append,gl]
theorem RC:aZ (lQ g a b) 0 32 g:=fun i hi=>by
 rw[Nat.zero_add]
 have h:(List.take 32 (lQ g a b))[i]? =(lQ g a b)[i]? :=List.getElem?_take_of_lt hi
 rw[← h,US];exact aA .u8 32 g i hi
theorem kV:(lQ g a b).all SV.plain=true:=by
 simp only[lQ,List.all_append,aw,Bool.true_and];rfl
theorem dU:AV.plain (Ag (lQ g a b))=true:=by simpa[AV.plain,CV.plain] using (kV (g:=g) (a:=a) (b:=b))
theorem bV:type_of% @uT∧type_of% @Qi∧type_of% @Qe∧type_of% @Nd∧type_of% @UN∧type_of% @UO∧type_of% @UQ∧type_of% @UR∧type_of% @mZ∧type_of% @Qf∧type_of% @Qg∧type_of% @Qh∧type_of% @wI∧type_of% @Qj∧type_of% @Qk∧type_of% @US∧type_of% @iQ∧type_of% @nN∧type_of% @Qb∧type_of% @Ky∧type_of% @Qc∧type_of% @Nb∧type_of% @Nc∧type_of% @xU∧type_of% @jw:=
 ⟨@uT, @Qi, @Qe, @Nd, @UN, @UO, @UQ, @UR, @mZ, @Qf, @Qg, @Qh, @wI, @Qj, @Qk, @US, @iQ, @nN, @Qb, @Ky, @Qc, @Nb, @Nc, @xU, @jw⟩
end
end Go.Proofs.YtpnehhpadofcbaaGreatDoor
