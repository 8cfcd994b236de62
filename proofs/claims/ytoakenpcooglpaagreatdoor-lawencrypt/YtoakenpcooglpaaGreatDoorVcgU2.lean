/-
  Numbers modulo p = 2^255 - 19 in five limbs: what the limb sums of a product come to. Nothing here speaks of a program.
-/
import Derived.Test.YtoakenpcooglpaaGreatDoorVcgH8
set_option linter.unusedVariables false
set_option linter.unusedSimpArgs false
set_option maxHeartbeats 2000000
namespace Go.Proofs.YtoakenpcooglpaaGreatDoor
open Go.cA
set_option linter.unusedSectionVars false
variable [aX]
theorem cB.draw {P:Program} [cA.Tables P] {f:Nat} {l:List AV} {r:AV} (h:cB P f l r) (hc:ai P f=true) {ops:Array Oper} {i nm:Nat} {dst:Option Nat} {K:AS→Prop} {s:AS} (hk:K (s.put dst (some r))):mG P ops i nm f (some l) dst K s:=
 .inl ⟨l,r,rfl, .inl ⟨hc,h⟩,hk⟩
def jL (a b:F5):F5:=
 ⟨0+a.a0*b.a0+a.a1*(19*b.a4)+a.a2*(19*b.a3)+a.a3*(19*b.a2)+a.a4*(19*b.a1),
  0+a.a0*b.a1+a.a1*b.a0+a.a2*(19*b.a4)+a.a3*(19*b.a3)+a.a4*(19*b.a2),
  0+a.a0*b.a2+a.a1*b.a1+a.a2*b.a0+a.a3*(19*b.a4)+a.a4*(19*b.a3),
  0+a.a0*b.a3+a.a1*b.a2+a.a2*b.a1+a.a3*b.a0+a.a4*(19*b.a4),
  0+a.a0*b.a4+a.a1*b.a3+a.a2*b.a2+a.a3*b.a1+a.a4*b.a0⟩
def dX (a b:F5):F5:=eL
 ⟨(jL a b).a0%18446744073709551616%2251799813685248+19*((jL a b).a4 / 2251799813685248),(jL a b).a1%18446744073709551616%2251799813685248+(jL a b).a0 / 2251799813685248,
  (jL a b).a2%18446744073709551616%2251799813685248+(jL a b).a1 / 2251799813685248,(jL a b).a3%18446744073709551616%2251799813685248+(jL a b).a2 / 2251799813685248,
  (jL a b).a4%18446744073709551616%2251799813685248+(jL a b).a3 / 2251799813685248⟩
theorem cL {x y:Int} (hx:0≤x) (hx':x < 2251799813686272) (hy:0≤y) (hy':y < 2251799813686272):0≤x*y∧x*y≤5070602400917524788405613885441:=
 pP hx (show x≤2251799813686271 by omega) hy (show y≤2251799813686271 by omega)
theorem cW {x y:Int} (hx:0≤x) (hx':x < 2251799813686272) (hy:0≤y) (hy':y < 2251799813686272):0≤x*(19*y)∧x*(19*y)≤96341445617432970979706663823379:=
 pP hx (show x≤2251799813686271 by omega) (show 0≤19*y by omega) (show 19*y≤42784196460039149 by omega)
theorem ka (a b:F5) (ha:a.Ok) (hb:b.Ok):cB Tryz.prog 105 [Ag a.l,Ag b.l] (Ag (dX a b).l):=by
 obtain ⟨⟨h0,BI⟩,⟨h1,h1'⟩,⟨h2,h2'⟩,⟨h3,h3'⟩,⟨h4,h4'⟩⟩:=ha
 obtain ⟨⟨k0,Nk⟩,⟨k1,Nl⟩,⟨k2,Nm⟩,⟨k3,Nn⟩,⟨k4,No⟩⟩:=hb
 have p00:=cL h0 BI k0 Nk
 have p14:=cW h1 h1' k4 No
 have p23:=cW h2 h2' k3 Nn
 have p32:=cW h3 h3' k2 Nm
 have p41:=cW h4 h4' k1 Nl
 have p01:=cL h0 BI k1 Nl
 have p10:=cL h1 h1' k0 Nk
 have p24:=cW h2 h2' k4 No
 have p33:=cW h3 h3' k3 Nn
 have p42:=cW h4 h4' k2 Nm
 have p02:=cL h0 BI k2 Nm
 have p11:=cL h1 h1' k1 Nl
 have p20:=cL h2 h2' k0 Nk
 have p34:=cW h3 h3' k4 No
 have p43:=cW h4 h4' k3 Nn
 have p03:=cL h0 BI k3 Nn
 have p12:=cL h1 h1' k2 Nm
 have p21:=cL h2 h2' k1 Nl
 have p30:=cL h3 h3' k0 Nk
 have p44:=cW h4 h4' k4 No
 have p04:=cL h0 BI k4 No
 have p13:=cL h1 h1' k3 Nn
 have p22:=cL h2 h2' k2 Nm
 have p31:=cL h3 h3' k1 Nl
 have p40:=cL h4 h4' k0 Nk
 have e1:IntKind.u64.wrap (19*b.a1)=19*b.a1:=au _ (by omega) (by omega)
 have e2:IntKind.u64.wrap (19*b.a2)=19*b.a2:=au _ (by omega) (by omega)
 have e3:IntKind.u64.wrap (19*b.a3)=19*b.a3:=au _ (by omega) (by omega)
 have e4:IntKind.u64.wrap (19*b.a4)=19*b.a4:=au _ (by omega) (by omega)
 refine aK Tryz.func105 rfl (by kernel_rfl) (by simp[Tryz.ntmps105]) rfl rfl ?_
 simp only[F5.l,Tryz.results105,e1,e2,e3,e4,Tryz.vs,Value.oneCell',simprocAttr, -List.reduceReplicate]
 refine ⟨by kernel_rfl, ?_⟩
 refine ⟨by kernel_rfl, ?_⟩
 refine cB.draw (cK (0) a.a0 b.a0 (by omega) (by omega) (by omega) (by omega) (by omega) (by omega)) Tryz.bB ?_
 simp only[eE,Tryz.vs,Value.oneCell',simprocAttr, -List.reduceReplicate]
 refine cB.draw (cK (0+a.a0*b.a0) a.a1 (19*b.a4) (by omega) (by omega) (by omega) (by omega) (by omega) (by omega)) Tryz.bB ?_
 simp only[eE,Tryz.vs,Value.oneCell',simprocAttr, -List.reduceReplicate]
 refine cB.draw (cK (0+a.a0*b.a0+a.a1*(19*b.a4)) a.a2 (19*b.a3) (by omega) (by omega) (by omega) (by omega) (by omega) (by omega)) Tryz.bB ?_
 simp only[eE,Tryz.vs,Value.oneCell',simprocAttr, -List.reduceReplicate]
 refine cB.draw (cK (0+a.a0*b.a0+a.a1*(19*b.a4)+a.a2*(19*b.a3)) a.a3 (19*b.a2) (by omega) (by omega) (by omega) (by omega) (by omega) (by omega)) Tryz.bB ?_
 simp only[eE,Tryz.vs,Value.oneCell',simprocAttr, -List.reduceReplicate]
 refine cB.draw (cK (0+a.a0*b.a0+a.a1*(19*b.a4)+a.a2*(19*b.a3)+a.a3*(19*b.a2)) a.a4 (19*b.a1) (by omega) (by omega) (by omega) (by omega) (by omega) (by omega)) Tryz.bB ?_
 simp only[eE,Tryz.vs,Value.oneCell',simprocAttr, -List.reduceReplicate]
 refine ⟨by kernel_rfl, ?_⟩
 refine cB.draw (cK (0) a.a0 b.a1 (by omega) (by omega) (by omega) (by omega) (by omega) (by omega)) Tryz.bB ?_
 simp only[eE,Tryz.vs,Value.oneCell',simprocAttr, -List.reduceReplicate]
 refine cB.draw (cK (0+a.a0*b.a1) a.a1 b.a0 (by omega) (by omega) (by omega) (by omega) (by omega) (by omega)) Tryz.bB ?_
 simp only[eE,Tryz.vs,Value.oneCell',simprocAttr, -List.reduceReplicate]
 refine cB.draw (cK (0+a.a0*b.a1+a.a1*b.a0) a.a2 (19*b.a4) (by omega) (by omega) (by omega) (by omega) (by omega) (by omega)) Tryz.bB ?_
 simp only[eE,Tryz.vs,Value.oneCell',simprocAttr, -List.reduceReplicate]
 refine cB.draw (cK (0+a.a0*b.a1+a.a1*b.a0+a.a2*(19*b.a4)) a.a3 (19*b.a3) (by omega) (by omega) (by omega) (by omega) (by omega) (by omega)) Tryz.bB ?_
 simp only[eE,Tryz.vs,Value.oneCell',simprocAttr, -List.reduceReplicate]
 refine cB.draw (cK (0+a.a0*b.a1+a.a1*b.a0+a.a2*(19*b.a4)+a.a3*(19*b.a3)) a.a4 (19*b.a2) (by omega) (by omega) (by omega) (by omega) (by omega) (by omega)) Tryz.bB ?_
 simp only[eE,Tryz.vs,Value.oneCell',simprocAttr, -List.reduceReplicate]
 refine ⟨by kernel_rfl, ?_⟩
 refine cB.draw (cK (0) a.a0 b.a2 (by omega) (by omega) (by omega) (by omega) (by omega) (by omega)) Tryz.bB ?_
 simp only[eE,Tryz.vs,Value.oneCell',simprocAttr, -List.reduceReplicate]
 refine cB.draw (cK (0+a.a0*b.a2) a.a1 b.a1 (by omega) (by omega) (by omega) (by omega) (by omega) (by omega)) Tryz.bB ?_
 simp only[eE,Tryz.vs,Value.oneCell',simprocAttr, -List.reduceReplicate]
 refine cB.draw (cK (0+a.a0*b.a2+a.a1*b.a1) a.a2 b.a0 (by omega) (by omega) (by omega) (by omega) (by omega) (by omega)) Tryz.bB ?_
 simp only[eE,Tryz.vs,Value.oneCell',simprocAttr, -List.reduceReplicate]
 refine cB.draw (cK (0+a.a0*b.a2+a.a1*b.a1+a.a2*b.a0) a.a3 (19*b.a4) (by omega) (by omega) (by omega) (by omega) (by omega) (by omega)) Tryz.bB ?_
 simp only[eE,Tryz.vs,Value.oneCell',simprocAttr, -List.reduceReplicate]
 refine cB.draw (cK (0+a.a0*b.a2+a.a1*b.a1+a.a2*b.a0+a.a3*(19*b.a4)) a.a4 (19*b.a3) (by omega) (by omega) (by omega) (by omega) (by omega) (by omega)) Tryz.bB ?_
 simp only[eE,Tryz.vs,Value.oneCell',simprocAttr, -List.reduceReplicate]
 refine ⟨by kernel_rfl, ?_⟩
 refine cB.draw (cK (0) a.a0 b.a3 (by omega) (by omega) (by omega) (by omega) (by omega) (by omega)) Tryz.bB ?_
 simp only[eE,Tryz.vs,Value.oneCell',simprocAttr, -List.reduceReplicate]
 refine cB.draw (cK (0+a.a0*b.a3) a.a1 b.a2 (by omega) (by omega) (by omega) (by omega) (by omega) (by omega)) Tryz.bB ?_
 simp only[eE,Tryz.vs,Value.oneCell',simprocAttr, -List.reduceReplicate]
 refine cB.draw (cK (0+a.a0*b.a3+a.a1*b.a2) a.a2 b.a1 (by omega) (by omega) (by omega) (by omega) (by omega) (by omega)) Tryz.bB ?_
 simp only[eE,Tryz.vs,Value.oneCell',simprocAttr, -List.reduceReplicate]
 refine cB.draw (cK (0+a.a0*b.a3+a.a1*b.a2+a.a2*b.a1) a.a3 b.a0 (by omega) (by omega) (by omega) (by omega) (by omega) (by omega)) Tryz.bB ?_
 simp only[eE,Tryz.vs,Value.oneCell',simprocAttr, -List.reduceReplicate]
 refine cB.draw (cK (0+a.a0*b.a3+a.a1*b.a2+a.a2*b.a1+a.a3*b.a0) a.a4 (19*b.a4) (by omega) (by omega) (by omega) (by omega) (by omega) (by omega)) Tryz.bB ?_
 simp only[eE,Tryz.vs,Value.oneCell',simprocAttr, -List.reduceReplicate]
 refine ⟨by kernel_rfl, ?_⟩
 refine cB.draw (cK (0) a.a0 b.a4 (by omega) (by omega) (by omega) (by omega) (by omega) (by omega)) Tryz.bB ?_
 simp only[eE,Tryz.vs,Value.oneCell',simprocAttr, -List.reduceReplicate]
 refine cB.draw (cK (0+a.a0*b.a4) a.a1 b.a3 (by omega) (by omega) (by omega) (by omega) (by omega) (by omega)) Tryz.bB ?_
 simp only[eE,Tryz.vs,Value.oneCell',simprocAttr, -List.reduceReplicate]
 refine cB.draw (cK (0+a.a0*b.a4+a.a1*b.a3) a.a2 b.a2 (by omega) (by omega) (by omega) (by omega) (by omega) (by omega)) Tryz.bB ?_
 simp only[eE,Tryz.vs,Value.oneCell',simprocAttr, -List.reduceReplicate]
 refine cB.draw (cK (0+a.a0*b.a4+a.a1*b.a3+a.a2*b.a2) a.a3 b.a1 (by omega) (by omega) (by omega) (by omega) (by omega) (by omega)) Tryz.bB ?_
 simp only[eE,Tryz.vs,Value.oneCell',simprocAttr, -List.reduceReplicate]
 refine cB.draw (cK (0+a.a0*b.a4+a.a1*b.a3+a.a2*b.a2+a.a3*b.a1) a.a4 b.a0 (by omega) (by omega) (by omega) (by omega) (by omega) (by omega)) Tryz.bB ?_
 simp only[eE,Tryz.vs,Value.oneCell',simprocAttr, -List.reduceReplicate]
 have q0:0≤0+a.a0*b.a0+a.a1*(19*b.a4)+a.a2*(19*b.a3)+a.a3*(19*b.a2)+a.a4*(19*b.a1)∧0+a.a0*b.a0+a.a1*(19*b.a4)+a.a2*(19*b.a3)+a.a3*(19*b.a2)+a.a4*(19*b.a1)≤390436384870649408707232269178957:=by omega
 have q1:0≤0+a.a0*b.a1+a.a1*b.a0+a.a2*(19*b.a4)+a.a3*(19*b.a3)+a.a4*(19*b.a2)∧0+a.a0*b.a1+a.a1*b.a0+a.a2*(19*b.a4)+a.a3*(19*b.a3)+a.a4*(19*b.a2)≤299165541654133962515931219241019:=by omega
 have q2:0≤0+a.a0*b.a2+a.a1*b.a1+a.a2*b.a0+a.a3*(19*b.a4)+a.a4*(19*b.a3)∧0+a.a0*b.a2+a.a1*b.a1+a.a2*b.a0+a.a3*(19*b.a4)+a.a4*(19*b.a3)≤207894698437618516324630169303081:=by omega
 have q3:0≤0+a.a0*b.a3+a.a1*b.a2+a.a2*b.a1+a.a3*b.a0+a.a4*(19*b.a4)∧0+a.a0*b.a3+a.a1*b.a2+a.a2*b.a1+a.a3*b.a0+a.a4*(19*b.a4)≤116623855221103070133329119365143:=by omega
 have q4:0≤0+a.a0*b.a4+a.a1*b.a3+a.a2*b.a2+a.a3*b.a1+a.a4*b.a0∧0+a.a0*b.a4+a.a1*b.a3+a.a2*b.a2+a.a3*b.a1+a.a4*b.a0≤25353012004587623942028069427205:=by omega
 clear p00 p01 p02 p03 p04 p10 p11 p12 p13 p14 p20 p21 p22 p23 p24 p30 p31 p32 p33 p34 p40 p41 p42 p43 p44
 generalize hW0:0+a.a0*b.a0+a.a1*(19*b.a4)+a.a2*(19*b.a3)+a.a3*(19*b.a2)+a.a4*(19*b.a1)=W0 at*
 generalize hW1:0+a.a0*b.a1+a.a1*b.a0+a.a2*(19*b.a4)+a.a3*(19*b.a3)+a.a4*(19*b.a2)=W1 at*
 generalize hW2:0+a.a0*b.a2+a.a1*b.a1+a.a2*b.a0+a.a3*(19*b.a4)+a.a4*(19*b.a3)=W2 at*
 generalize hW3:0+a.a0*b.a3+a.a1*b.a2+a.a2*b.a1+a.a3*b.a0+a.a4*(19*b.a4)=W3 at*
 generalize hW4:0+a.a0*b.a4+a.a1*b.a3+a.a2*b.a2+a.a3*b.a1+a.a4*b.a0=W4 at*
 refine ⟨by kernel_rfl, ?_⟩
 refine cB.draw (lE W4 (by omega) (by omega)) Tryz.gi ?_
 simp only[eE,Tryz.vs,Value.oneCell',simprocAttr, -List.reduceReplicate]
 refine cB.draw (lE W0 (by omega) (by omega)) Tryz.gi ?_
 simp only[eE,Tryz.vs,Value.oneCell',simprocAttr, -List.reduceReplicate]
 refine cB.draw (lE W1 (by omega) (by omega)) Tryz.gi ?_
 simp only[eE,Tryz.vs,Value.oneCell',simprocAttr, -List.reduceReplicate]
 refine cB.draw (lE W2 (by omega) (by omega)) Tryz.gi ?_
 simp only[eE,Tryz.vs,Value.oneCell',simprocAttr, -List.reduceReplicate]
 refine cB.draw (lE W3 (by omega) (by omega)) Tryz.gi ?_
 simp only[eE,Tryz.vs,Value.oneCell',simprocAttr, -List.reduceReplicate]
 simp only[hX (W0%18446744073709551616) (by omega) (by omega),hX (W1%18446744073709551616) (by omega) (by omega),hX (W2%18446744073709551616) (by omega) (by omega),hX (W3%18446744073709551616) (by omega) (by omega),hX (W4%18446744073709551616) (by omega) (by omega)]
 rw[au (19*_) (by omega) (by omega),au _ (by omega) (by omega),au _ (by omega) (by omega),au _ (by omega) (by omega),au _ (by omega) (by omega),au _ (by omega) (by omega)]
 refine cB.draw (n6 ⟨W0%18446744073709551616%2251799813685248+19*(W4 / 2251799813685248),W1%18446744073709551616%2251799813685248+W0 / 2251799813685248,
  W2%18446744073709551616%2251799813685248+W1 / 2251799813685248,W3%18446744073709551616%2251799813685248+W2 / 2251799813685248,
  W4%18446744073709551616%2251799813685248+W3 / 2251799813685248⟩ ⟨?_, ?_, ?_, ?_, ?_⟩) Tryz.nI ?_
 iterate 5 (simp only[];omega)
 simp only[F5.l,Tryz.vs,Value.oneCell',simprocAttr, -List.reduceReplicate]
 subst hW0 hW1 hW2 hW3 hW4
 rfl
end Go.Proofs.YtoakenpcooglpaaGreatDoor
namespace Go.Proofs.YtoakenpcooglpaaGreatDoor
open Go.cA
set_option linter.unusedSectionVars false
variable [aX]
def F5.v (f:F5):Int:=f.a0+2251799813685248*f.a1+5070602400912917605986812821504*f.a2+11417981541647679048466287755595961091061972992*f.a3+25711008708143844408671393477458601640355247900524685364822016*f.a4
def PP:Int:=57896044618658097711785492504343953926634992332820282019728792003956564819949
theorem rf (f:F5):(eL f).v=f.v+PP* -(f.a4 / 2251799813685248):=by
 simp only[eL,F5.v,PP]
 omega
theorem Mq (f:F5) (h:f.U) (h0:f.a0 < 2305843009213693952) (h1:f.a1 < 2305843009213693952) (h2:f.a2 < 2305843009213693952) (h3:f.a3 < 2305843009213693952) (h4:f.a4 < 108086391056891904):(eL f).Ok:=by
 obtain ⟨⟨k0,Nk⟩,⟨k1,Nl⟩,⟨k2,Nm⟩,⟨k3,Nn⟩,⟨k4,No⟩⟩:=h
 constructor<;>simp only[eL]<;>constructor<;>omega
theorem ab6 (a b:F5) (ha:a.Ok) (hb:b.Ok):(eL (Mn a b)).Ok:=by
 obtain ⟨⟨h0,BI⟩,⟨h1,h1'⟩,⟨h2,h2'⟩,⟨h3,h3'⟩,⟨h4,h4'⟩⟩:=ha
 obtain ⟨⟨k0,Nk⟩,⟨k1,Nl⟩,⟨k2,Nm⟩,⟨k3,Nn⟩,⟨k4,No⟩⟩:=hb
 constructor<;>simp only[eL,Mn]<;>constructor<;>omega
theorem ab7 (a b:F5) (ha:a.Ok) (hb:b.Ok):(eL (Mp a b)).Ok:=by
 obtain ⟨⟨h0,BI⟩,⟨h1,h1'⟩,⟨h2,h2'⟩,⟨h3,h3'⟩,⟨h4,h4'⟩⟩:=ha
 obtain ⟨⟨k0,Nk⟩,⟨k1,Nl⟩,⟨k2,Nm⟩,⟨k3,Nn⟩,⟨k4,No⟩⟩:=hb
 constructor<;>simp only[eL,Mp]<;>constructor<;>omega
theorem ab8 (a b:F5) (ha:a.Ok) (hb:b.Ok):(0≤(jL a b).a0∧(jL a b).a0≤390436384870649408707232269178957)∧(0≤(jL a b).a1∧(jL a b).a1≤299165541654133962515931219241019)∧
  (0≤(jL a b).a2∧(jL a b).a2≤207894698437618516324630169303081)∧(0≤(jL a b).a3∧(jL a b).a3≤116623855221103070133329119365143)∧(0≤(jL a b).a4∧(jL a b).a4≤25353012004587623942028069427205):=by
 obtain ⟨⟨h0,BI⟩,⟨h1,h1'⟩,⟨h2,h2'⟩,⟨h3,h3'⟩,⟨h4,h4'⟩⟩:=ha
 obtain ⟨⟨k0,Nk⟩,⟨k1,Nl⟩,⟨k2,Nm⟩,⟨k3,Nn⟩,⟨k4,No⟩⟩:=hb
 have p00:=cL h0 BI k0 Nk
 have p14:=cW h1 h1' k4 No
 have p23:=cW h2 h2' k3 Nn
 have p32:=cW h3 h3' k2 Nm
 have p41:=cW h4 h4' k1 Nl
 have p01:=cL h0 BI k1 Nl
 have p10:=cL h1 h1' k0 Nk
 have p24:=cW h2 h2' k4 No
 have p33:=cW h3 h3' k3 Nn
 have p42:=cW h4 h4' k2 Nm
 have p02:=cL h0 BI k2 Nm
 have p11:=cL h1 h1' k1 Nl
 have p20:=cL h2 h2' k0 Nk
 have p34:=cW h3 h3' k4 No
 have p43:=cW h4 h4' k3 Nn
 have p03:=cL h0 BI k3 Nn
 have p12:=cL h1 h1' k2 Nm
 have p21:=cL h2 h2' k1 Nl
 have p30:=cL h3 h3' k0 Nk
 have p44:=cW h4 h4' k4 No
 have p04:=cL h0 BI k4 No
 have p13:=cL h1 h1' k3 Nn
 have p22:=cL h2 h2' k2 Nm
 have p31:=cL h3 h3' k1 Nl
 have p40:=cL h4 h4' k0 Nk
 simp only[jL]
 refine ⟨?_, ?_, ?_, ?_, ?_⟩
 ·clear p01 p10 p24 p33 p42 p02 p11 p20 p34 p43 p03 p12 p21 p30 p44 p04 p13 p22 p31 p40;omega
 ·clear p00 p14 p23 p32 p41 p02 p11 p20 p34 p43 p03 p12 p21 p30 p44 p04 p13 p22 p31 p40;omega
 ·clear p00 p14 p23 p32 p41 p01 p10 p24 p33 p42 p03 p12 p21 p30 p44 p04 p13 p22 p31 p40;omega
 ·clear p00 p14 p23 p32 p41 p01 p10 p24 p33 p42 p02 p11 p20 p34 p43 p04 p13 p22 p31 p40;omega
 ·clear p00 p14 p23 p32 p41 p01 p10 p24 p33 p42 p02 p11 p20 p34 p43 p03 p12 p21 p30 p44;omega
theorem gv (a b:F5) (ha:a.Ok) (hb:b.Ok):(dX a b).Ok:=by
 obtain ⟨⟨h0,BI⟩,⟨h1,h1'⟩,⟨h2,h2'⟩,⟨h3,h3'⟩,⟨h4,h4'⟩⟩:=ab8 a b ha hb
 simp only[dX]
 generalize jL a b=W at*
 refine Mq _ ⟨?_, ?_, ?_, ?_, ?_⟩ ?_ ?_ ?_ ?_ ?_<;>simp only[]<;>omega
theorem agu (a b:F5):(jL a b).v=a.v*b.v+PP* -(a.a1*b.a4+a.a2*b.a3+a.a3*b.a2+a.a4*b.a1+2251799813685248*(a.a2*b.a4+a.a3*b.a3+a.a4*b.a2)+5070602400912917605986812821504*(a.a3*b.a4+a.a4*b.a3)+11417981541647679048466287755595961091061972992*(a.a4*b.a4)):=by
 simp only[jL,F5.v,PP]
 grind
theorem cg {x y q:Int} (h:x=y+PP*q):x%PP=y%PP:=by rw[h,Int.add_mul_emod_self_left]
theorem OV (a b:F5):(dX a b).v%PP=a.v*b.v%PP:=by
 rw[dX,cg (rf _)]
 refine Eq.trans ?_ (cg (agu a b))
 generalize jL a b=W at*
 refine cg (q:= -(W.a4 / 2251799813685248)) ?_
 simp only[F5.v,PP]
 omega
theorem aan (a b:F5):(eL (Mn a b)).v%PP=(a.v+b.v)%PP:=by
 rw[cg (rf _)]
 congr 1
 simp only[Mn,F5.v];omega
theorem aao (a b:F5):(eL (Mp a b)).v%PP=(a.v - b.v)%PP:=by
 rw[cg (rf _)]
 refine cg (q:=2) ?_
 simp only[Mp,F5.v,PP];omega
end Go.Proofs.YtoakenpcooglpaaGreatDoor
set_option maxRecDepth 20000
namespace Go.Proofs.YtoakenpcooglpaaGreatDoor
open Go.cA
set_option linter.unusedSectionVars false
variable [aX]
theorem kB (a:F5) (ha:a.Ok):cB Tryz.prog 120 [Ag a.l] (Ag (dX a a).l):=by
 refine aK Tryz.func120 rfl (by kernel_rfl) (by simp[Tryz.ntmps120]) rfl rfl ?_
 simp only[F5.l,Tryz.results120,Tryz.vs,Value.oneCell',simprocAttr, -List.reduceReplicate]
 refine (ka a a ha ha).aB ?_
 simp only[F5.l,Tryz.vs,Value.oneCell',simprocAttr, -List.reduceReplicate]
def F5.one:F5:=⟨1,0,0,0,0⟩
theorem F5.OW:F5.one.Ok:=by
 constructor<;>simp[F5.one]
def jj (a:F5):Nat→F5
 | 0=>F5.one
 | k+1=>if k=252∨k=250 then dX (jj a k) (jj a k) else dX (dX (jj a k) (jj a k)) a
theorem jt (a:F5) (ha:a.Ok): ∀ k,(jj a k).Ok
 | 0=>F5.OW
 | k+1=>by
  simp only[jj]
  split
  ·exact gv _ _ (jt a ha k) (jt a ha k)
  ·exact gv _ _ (gv _ _ (jt a ha k) (jt a ha k)) ha
theorem Mr (a:F5) (ha:a.Ok):cB Tryz.prog 106 [Ag a.l] (Ag (jj a 255).l):=by
 refine aK Tryz.func106 rfl (by kernel_rfl) (by simp[Tryz.ntmps106]) rfl rfl ?_
 simp only[F5.l,Tryz.results106,Tryz.vs,Value.oneCell',simprocAttr, -List.reduceReplicate]
 refine aG 255 (fun k=>[(1,Ptr 0 0),(2,Ptr 1 0),(3,Ptr 3 0),(4,I .i64 (254 - k))])
  (fun k=>[(0,⟨true,a.l⟩),(1,⟨true,[Sum.inl (Value.int IntKind.u64 0),Sum.inl (Value.int IntKind.u64 0),Sum.inl (Value.int IntKind.u64 0),Sum.inl (Value.int IntKind.u64 0),Sum.inl (Value.int IntKind.u64 0)]⟩),(3,⟨true,(jj a k).l⟩)]) _ ?_ ?_ ?_
 ·simp only[F5.l,jj,F5.one,Tryz.vs,Value.oneCell',simprocAttr, -List.reduceReplicate]
 ·intro k hk
  have ht:((254:Int) - k) - 1=254 - ((k+1:Nat):Int):=by omega
  have hw:IntKind.i64.wrap ((254:Int) - k - 1)=254 - ((k+1:Nat):Int):=by rw[wrap_i64 _ (by omega) (by omega)];omega
  simp only[F5.l,Tryz.vs,Value.oneCell',simprocAttr, -List.reduceReplicate]
  refine aD (by simp;omega) ?_
  simp only[Tryz.vs,Value.oneCell',simprocAttr, -List.reduceReplicate]
  refine (kB (jj a k) (jt a ha k)).aB ?_
  by_cases h2:k=252
  ·have e2:((254:Int) - k != 2)=false:=by subst h2;rfl
   have hs:jj a (k+1)=dX (jj a k) (jj a k):=by rw[jj,if_pos (Or.inl h2)]
   simp only[F5.l,e2,hw,hs,Tryz.vs,Value.oneCell',simprocAttr, -List.reduceReplicate]
  ·have e2:((254:Int) - k != 2)=true:=by simp;omega
   by_cases h4:k=250
   ·have e4:((254:Int) - k != 4)=false:=by subst h4;rfl
    have hs:jj a (k+1)=dX (jj a k) (jj a k):=by rw[jj,if_pos (Or.inr h4)]
    simp only[F5.l,e2,e4,hw,hs,Tryz.vs,Value.oneCell',simprocAttr, -List.reduceReplicate]
   ·have e4:((254:Int) - k != 4)=true:=by simp;omega
    simp only[F5.l,e2,e4,Tryz.vs,Value.oneCell',simprocAttr, -List.reduceReplicate]
    refine (ka _ a (gv _ _ (jt a ha k) (jt a ha k)) ha).aB ?_
    have hs:jj a (k+1)=dX (dX (jj a k) (jj a k)) a:=by rw[jj,if_neg (by omega)]
    simp only[F5.l,hw,hs,Tryz.vs,Value.oneCell',simprocAttr, -List.reduceReplicate]
 ·simp only[F5.l,Tryz.vs,Value.oneCell',simprocAttr, -List.reduceReplicate]
  refine aH (by simp) ?_
  simp only[Tryz.vs,Value.oneCell',simprocAttr, -List.reduceReplicate]
end Go.Proofs.YtoakenpcooglpaaGreatDoor
set_option maxHeartbeats 2000000
set_option maxRecDepth 20000
namespace Go.Proofs.YtoakenpcooglpaaGreatDoor
open Go.cA
set_option linter.unusedSectionVars false
variable [aX]
theorem gQ {α:Type} (x:α):List.replicate 20 x=[x,x,x,x,x,x,x,x,x,x,x,x,x,x,x,x,x,x,x,x]:=rfl
structure R4 where
 x2:F5
 z2:F5
 x3:F5
 z3:F5
def R4.l (r:R4):List SV:=[Sum.inl (.int .u64 r.x2.a0),Sum.inl (.int .u64 r.x2.a1),Sum.inl (.int .u64 r.x2.a2),Sum.inl (.int .u64 r.x2.a3),Sum.inl (.int .u64 r.x2.a4),
 Sum.inl (.int .u64 r.z2.a0),Sum.inl (.int .u64 r.z2.a1),Sum.inl (.int .u64 r.z2.a2),Sum.inl (.int .u64 r.z2.a3),Sum.inl (.int .u64 r.z2.a4),
 Sum.inl (.int .u64 r.x3.a0),Sum.inl (.int .u64 r.x3.a1),Sum.inl (.int .u64 r.x3.a2),Sum.inl (.int .u64 r.x3.a3),Sum.inl (.int .u64 r.x3.a4),
 Sum.inl (.int .u64 r.z3.a0),Sum.inl (.int .u64 r.z3.a1),Sum.inl (.int .u64 r.z3.a2),Sum.inl (.int .u64 r.z3.a3),Sum.inl (.int .u64 r.z3.a4)]
structure R4.Ok (r:R4):Prop where
 x2:r.x2.Ok
 z2:r.z2.Ok
 x3:r.x3.Ok
 z3:r.z3.Ok
def mN (a b:F5):F5:=eL (Mn a b)
def mO (a b:F5):F5:=eL (Mp a b)
theorem wQ (a b:F5) (ha:a.Ok) (hb:b.Ok):cB Tryz.prog 118 [Ag a.l,Ag b.l] (Ag (mN a b).l):=ab4 a b ha hb
theorem wR (a b:F5) (ha:a.Ok) (hb:b.Ok):cB Tryz.prog 119 [Ag a.l,Ag b.l] (Ag (mO a b).l):=ab5 a b ha hb
theorem BJ (a b:F5) (ha:a.Ok) (hb:b.Ok):(mN a b).Ok:=ab6 a b ha hb
theorem BK (a b:F5) (ha:a.Ok) (hb:b.Ok):(mO a b).Ok:=ab7 a b ha hb
def F5.c:F5:=⟨121665,0,0,0,0⟩
theorem F5.agv:F5.c.Ok:=by
 constructor<;>simp[F5.c]
def rh (r:R4) (u:F5):R4:=
 ⟨dX (dX (mN r.x2 r.z2) (mN r.x2 r.z2)) (dX (mO r.x2 r.z2) (mO r.x2 r.z2)),
  dX (mO (dX (mN r.x2 r.z2) (mN r.x2 r.z2)) (dX (mO r.x2 r.z2) (mO r.x2 r.z2)))
  (mN (dX (mN r.x2 r.z2) (mN r.x2 r.z2)) (dX F5.c (mO (dX (mN r.x2 r.z2) (mN r.x2 r.z2)) (dX (mO r.x2 r.z2) (mO r.x2 r.z2))))),
  dX (mN (dX (mO r.x3 r.z3) (mN r.x2 r.z2)) (dX (mN r.x3 r.z3) (mO r.x2 r.z2))) (mN (dX (mO r.x3 r.z3) (mN r.x2 r.z2)) (dX (mN r.x3 r.z3) (mO r.x2 r.z2))),
  dX u (dX (mO (dX (mO r.x3 r.z3) (mN r.x2 r.z2)) (dX (mN r.x3 r.z3) (mO r.x2 r.z2))) (mO (dX (mO r.x3 r.z3) (mN r.x2 r.z2)) (dX (mN r.x3 r.z3) (mO r.x2 r.z2))))⟩
theorem FO (r:R4) (u:F5) (hr:r.Ok) (hu:u.Ok):(rh r u).Ok:=by
 obtain ⟨h1,h2,h3,h4⟩:=hr
 constructor<;>simp only[rh]<;>repeat (first | assumption | exact F5.agv | apply gv | apply BJ | apply BK)
theorem Ms (r:R4) (u:F5) (hr:r.Ok) (hu:u.Ok):cB Tryz.prog 104 [Ag r.l,Ag u.l] (Ag (rh r u).l):=by
 obtain ⟨h1,h2,h3,h4⟩:=hr
 have hA:=BJ _ _ h1 h2
 have hB:=BK _ _ h1 h2
 have hC:=BJ _ _ h3 h4
 have hD:=BK _ _ h3 h4
 have hAA:=gv _ _ hA hA
 have hBB:=gv _ _ hB hB
 have hE:=BK _ _ hAA hBB
 have hDA:=gv _ _ hD hA
 have hCB:=gv _ _ hC hB
 have hcE:=gv _ _ F5.agv hE
 have hs:=BJ _ _ hAA hcE
 have hp:=BJ _ _ hDA hCB
 have hm:=BK _ _ hDA hCB
 have hmm:=gv _ _ hm hm
 simp only[rh]
 refine aK Tryz.func104 rfl (by kernel_rfl) (by simp[Tryz.ntmps104]) rfl rfl ?_
 simp only[F5.l,R4.l,Tryz.results104,gQ,Tryz.vs,Value.oneCell',simprocAttr, -List.reduceReplicate]
 refine ⟨by kernel_rfl, ?_⟩
 refine cB.draw (wQ r.x2 r.z2 h1 h2) Tryz.ib ?_
 generalize mN r.x2 r.z2=A at*
 simp only[F5.l,gQ,Tryz.vs,Value.oneCell',simprocAttr, -List.reduceReplicate]
 refine cB.draw (wR r.x2 r.z2 h1 h2) Tryz.jC ?_
 generalize mO r.x2 r.z2=B at*
 simp only[F5.l,gQ,Tryz.vs,Value.oneCell',simprocAttr, -List.reduceReplicate]
 refine ⟨by kernel_rfl, ?_⟩
 refine cB.draw (wQ r.x3 r.z3 h3 h4) Tryz.ib ?_
 generalize mN r.x3 r.z3=C at*
 simp only[F5.l,gQ,Tryz.vs,Value.oneCell',simprocAttr, -List.reduceReplicate]
 refine cB.draw (wR r.x3 r.z3 h3 h4) Tryz.jC ?_
 generalize mO r.x3 r.z3=D at*
 simp only[F5.l,gQ,Tryz.vs,Value.oneCell',simprocAttr, -List.reduceReplicate]
 refine ⟨by kernel_rfl, ?_⟩
 refine cB.draw (kB A hA) Tryz.ic ?_
 generalize dX A A=AA at*
 simp only[F5.l,gQ,Tryz.vs,Value.oneCell',simprocAttr, -List.reduceReplicate]
 refine cB.draw (kB B hB) Tryz.ic ?_
 generalize dX B B=BB at*
 simp only[F5.l,gQ,Tryz.vs,Value.oneCell',simprocAttr, -List.reduceReplicate]
 refine (wR AA BB hAA hBB).aB ?_
 generalize mO AA BB=E at*
 simp only[F5.l,gQ,Tryz.vs,Value.oneCell',simprocAttr, -List.reduceReplicate]
 refine ⟨by kernel_rfl, ?_⟩
 refine cB.draw (ka D A hD hA) Tryz.fq ?_
 generalize dX D A=DA at*
 simp only[F5.l,gQ,Tryz.vs,Value.oneCell',simprocAttr, -List.reduceReplicate]
 refine cB.draw (ka C B hC hB) Tryz.fq ?_
 generalize dX C B=CB at*
 simp only[F5.l,gQ,Tryz.vs,Value.oneCell',simprocAttr, -List.reduceReplicate]
 refine ⟨by kernel_rfl, ?_⟩
 refine cB.draw (ka AA BB hAA hBB) Tryz.fq ?_
 simp only[F5.l,gQ,Tryz.vs,Value.oneCell',simprocAttr, -List.reduceReplicate]
 refine cB.draw (ka F5.c E F5.agv hE) Tryz.fq ?_
 simp only[F5.l,gQ,Tryz.vs,Value.oneCell',simprocAttr, -List.reduceReplicate]
 refine cB.draw (wQ AA _ hAA hcE) Tryz.ib ?_
 generalize mN AA (dX F5.c E)=S at*
 simp only[F5.l,gQ,Tryz.vs,Value.oneCell',simprocAttr, -List.reduceReplicate]
 refine cB.draw (ka E S hE hs) Tryz.fq ?_
 simp only[F5.l,gQ,Tryz.vs,Value.oneCell',simprocAttr, -List.reduceReplicate]
 refine cB.draw (wQ DA CB hDA hCB) Tryz.ib ?_
 generalize mN DA CB=Q at*
 simp only[F5.l,gQ,Tryz.vs,Value.oneCell',simprocAttr, -List.reduceReplicate]
 refine cB.draw (kB Q hp) Tryz.ic ?_
 simp only[F5.l,gQ,Tryz.vs,Value.oneCell',simprocAttr, -List.reduceReplicate]
 refine cB.draw (wR DA CB hDA hCB) Tryz.jC ?_
 generalize mO DA CB=M at*
 simp only[F5.l,gQ,Tryz.vs,Value.oneCell',simprocAttr, -List.reduceReplicate]
 refine cB.draw (kB M hm) Tryz.ic ?_
 generalize dX M M=MM at*
 simp only[F5.l,gQ,Tryz.vs,Value.oneCell',simprocAttr, -List.reduceReplicate]
 refine cB.draw (ka u MM hu hmm) Tryz.fq ?_
 simp only[F5.l,R4.l,gQ,Tryz.vs,Value.oneCell',simprocAttr, -List.reduceReplicate]
end Go.Proofs.YtoakenpcooglpaaGreatDoor
set_option maxHeartbeats 2000000
set_option maxRecDepth 20000
namespace Go.Proofs.YtoakenpcooglpaaGreatDoor
open Go.cA
set_option linter.unusedSectionVars false
variable [aX]
def sO (s:Bool) (x y:Int):Int:=if s then y else x
def exM (s:Bool):Int:=if s then 18446744073709551615 else 0
theorem ju (s:Bool) {x y:Int} (hx:0≤x∧x < 18446744073709551616) (hy:0≤y∧y < 18446744073709551616):
  aS .xor .u64 x (aS .and .u64 (exM s) (aS .xor .u64 x y))=sO s x y∧aS .xor .u64 y (aS .and .u64 (exM s) (aS .xor .u64 x y))=sO s y x:=by
 obtain ⟨a,rfl⟩:=Int.eq_ofNat_of_zero_le hx.1
 obtain ⟨b,rfl⟩:=Int.eq_ofNat_of_zero_le hy.1
 have ha:a < 18446744073709551616:=by omega
 have hb:b < 18446744073709551616:=by omega
 have hab:a ^^^ b < 18446744073709551616:=Nat.xor_lt_two_pow (n:=64) ha hb
 rw[(fP a b ha hb).2.2]
 cases s
 ·have e:exM false=((0:Nat):Int):=rfl
  rw[e,(fP 0 (a ^^^ b) (by decide) hab).1]
  simp only[Nat.zero_and]
  rw[(fP a 0 ha (by decide)).2.2,(fP b 0 hb (by decide)).2.2]
  simp[sO]
 ·have e:exM true=((18446744073709551615:Nat):Int):=rfl
  rw[e,(fP 18446744073709551615 (a ^^^ b) (by decide) hab).1]
  have h1:18446744073709551615 &&& (a ^^^ b)=a ^^^ b:=by
   have:=Nat.and_two_pow_sub_one_eq_mod (a ^^^ b) 64
   rw[Nat.and_comm]
   rw[show (2:Nat)^64 - 1=18446744073709551615 from rfl]at this
   rw[this];exact Nat.mod_eq_of_lt hab
  rw[h1,(fP a (a ^^^ b) ha hab).2.2,(fP b (a ^^^ b) hb hab).2.2]
  simp only[sO,if_true]
  constructor
  ·rw[← Nat.xor_assoc,Nat.xor_self,Nat.zero_xor]
  ·rw[Nat.xor_comm a b, ← Nat.xor_assoc,Nat.xor_self,Nat.zero_xor]
def fS (i k:Nat) (n o:Int):Int:=if i < k then n else o
def exL (s:Bool) (r:R4) (k:Nat):List SV:=[
 Sum.inl (.int .u64 (fS 0 k (sO s r.x2.a0 r.x3.a0) r.x2.a0)),Sum.inl (.int .u64 (fS 1 k (sO s r.x2.a1 r.x3.a1) r.x2.a1)),Sum.inl (.int .u64 (fS 2 k (sO s r.x2.a2 r.x3.a2) r.x2.a2)),Sum.inl (.int .u64 (fS 3 k (sO s r.x2.a3 r.x3.a3) r.x2.a3)),Sum.inl (.int .u64 (fS 4 k (sO s r.x2.a4 r.x3.a4) r.x2.a4)),
 Sum.inl (.int .u64 (fS 0 k (sO s r.z2.a0 r.z3.a0) r.z2.a0)),Sum.inl (.int .u64 (fS 1 k (sO s r.z2.a1 r.z3.a1) r.z2.a1)),Sum.inl (.int .u64 (fS 2 k (sO s r.z2.a2 r.z3.a2) r.z2.a2)),Sum.inl (.int .u64 (fS 3 k (sO s r.z2.a3 r.z3.a3) r.z2.a3)),Sum.inl (.int .u64 (fS 4 k (sO s r.z2.a4 r.z3.a4) r.z2.a4)),
 Sum.inl (.int .u64 (fS 0 k (sO s r.x3.a0 r.x2.a0) r.x3.a0)),Sum.inl (.int .u64 (fS 1 k (sO s r.x3.a1 r.x2.a1) r.x3.a1)),Sum.inl (.int .u64 (fS 2 k (sO s r.x3.a2 r.x2.a2) r.x3.a2)),Sum.inl (.int .u64 (fS 3 k (sO s r.x3.a3 r.x2.a3) r.x3.a3)),Sum.inl (.int .u64 (fS 4 k (sO s r.x3.a4 r.x2.a4) r.x3.a4)),
 Sum.inl (.int .u64 (fS 0 k (sO s r.z3.a0 r.z2.a0) r.z3.a0)),Sum.inl (.int .u64 (fS 1 k (sO s r.z3.a1 r.z2.a1) r.z3.a1)),Sum.inl (.int .u64 (fS 2 k (sO s r.z3.a2 r.z2.a2) r.z3.a2)),Sum.inl (.int .u64 (fS 3 k (sO s r.z3.a3 r.z2.a3) r.z3.a3)),Sum.inl (.int .u64 (fS 4 k (sO s r.z3.a4 r.z2.a4) r.z3.a4))]
def exF (s:Bool) (r:R4):R4:=if s then ⟨r.x3,r.z3,r.x2,r.z2⟩ else r
theorem aap (s:Bool) (r:R4):exL s r 0=r.l:=rfl
theorem ab' (s:Bool) (r:R4):exL s r 5=(exF s r).l:=by cases s<;>rfl
theorem G4 (s:Bool) (r:R4) (h:r.Ok):(exF s r).Ok:=by
 cases s
 ·exact h
 ·exact ⟨h.x3,h.z3,h.x2,h.z2⟩
theorem F5.Ok.u {f:F5} (h:f.Ok):f.U:=by
 obtain ⟨⟨h0,BI⟩,⟨h1,h1'⟩,⟨h2,h2'⟩,⟨h3,h3'⟩,⟨h4,h4'⟩⟩:=h
 constructor<;>omega
theorem pB (s:Bool) (r:R4) (hr:r.Ok):cB Tryz.prog 103 [I .u64 (sO s 0 1),Ag r.l] (Ag (exF s r).l):=by
 have hn:IntKind.u64.wrap (0 - (sO s 0 1))=exM s:=by cases s<;>decide
 have e0:=ju s hr.x2.u.h0 hr.x3.u.h0
 have e1:=ju s hr.x2.u.h1 hr.x3.u.h1
 have e2:=ju s hr.x2.u.h2 hr.x3.u.h2
 have e3:=ju s hr.x2.u.h3 hr.x3.u.h3
 have e4:=ju s hr.x2.u.h4 hr.x3.u.h4
 have f0:=ju s hr.z2.u.h0 hr.z3.u.h0
 have f1:=ju s hr.z2.u.h1 hr.z3.u.h1
 have f2:=ju s hr.z2.u.h2 hr.z3.u.h2
 have f3:=ju s hr.z2.u.h3 hr.z3.u.h3
 have f4:=ju s hr.z2.u.h4 hr.z3.u.h4
 refine aK Tryz.func103 rfl (by kernel_rfl) (by simp[Tryz.ntmps103]) rfl rfl ?_
 simp only[R4.l,Tryz.results103,gQ,hn,Tryz.vs,Value.oneCell',simprocAttr, -List.reduceReplicate]
 refine aG 5 (fun k=>[(3,Ptr 0 0),(4,Ptr 1 0),(5,I .u64 (exM s)),(11,I .i64 k)])
  (fun k=>[(0,⟨true,exL s r k⟩),(1,⟨true,[Sum.inl (Value.int IntKind.u64 0),Sum.inl (Value.int IntKind.u64 0),Sum.inl (Value.int IntKind.u64 0),Sum.inl (Value.int IntKind.u64 0),Sum.inl (Value.int IntKind.u64 0),Sum.inl (Value.int IntKind.u64 0),Sum.inl (Value.int IntKind.u64 0),Sum.inl (Value.int IntKind.u64 0),Sum.inl (Value.int IntKind.u64 0),Sum.inl (Value.int IntKind.u64 0),Sum.inl (Value.int IntKind.u64 0),Sum.inl (Value.int IntKind.u64 0),Sum.inl (Value.int IntKind.u64 0),Sum.inl (Value.int IntKind.u64 0),Sum.inl (Value.int IntKind.u64 0),Sum.inl (Value.int IntKind.u64 0),Sum.inl (Value.int IntKind.u64 0),Sum.inl (Value.int IntKind.u64 0),Sum.inl (Value.int IntKind.u64 0),Sum.inl (Value.int IntKind.u64 0)]⟩)]) _ ?_ ?_ ?_
 ·simp only[aap,R4.l,hn,Tryz.vs,Value.oneCell',simprocAttr, -List.reduceReplicate]
 ·intro k hk
  match k,hk with
  | 0,_=>
   simp only[exL,fS,Tryz.vs,Value.oneCell',simprocAttr, -List.reduceReplicate]
   refine aD (by decide) ?_
   simp only[Tryz.vs,Value.oneCell',simprocAttr, -List.reduceReplicate]
   refine ⟨by kernel_rfl, ?_⟩
   refine ⟨by kernel_rfl, ?_⟩
   simp only[e0.1,e0.2,f0.1,f0.2,Tryz.vs,Value.oneCell',simprocAttr, -List.reduceReplicate]
   rfl
  | 1,_=>
   simp only[exL,fS,Tryz.vs,Value.oneCell',simprocAttr, -List.reduceReplicate]
   refine aD (by decide) ?_
   simp only[Tryz.vs,Value.oneCell',simprocAttr, -List.reduceReplicate]
   refine ⟨by kernel_rfl, ?_⟩
   refine ⟨by kernel_rfl, ?_⟩
   simp only[e1.1,e1.2,f1.1,f1.2,Tryz.vs,Value.oneCell',simprocAttr, -List.reduceReplicate]
   rfl
  | 2,_=>
   simp only[exL,fS,Tryz.vs,Value.oneCell',simprocAttr, -List.reduceReplicate]
   refine aD (by decide) ?_
   simp only[Tryz.vs,Value.oneCell',simprocAttr, -List.reduceReplicate]
   refine ⟨by kernel_rfl, ?_⟩
   refine ⟨by kernel_rfl, ?_⟩
   simp only[e2.1,e2.2,f2.1,f2.2,Tryz.vs,Value.oneCell',simprocAttr, -List.reduceReplicate]
   rfl
  | 3,_=>
   simp only[exL,fS,Tryz.vs,Value.oneCell',simprocAttr, -List.reduceReplicate]
   refine aD (by decide) ?_
   simp only[Tryz.vs,Value.oneCell',simprocAttr, -List.reduceReplicate]
   refine ⟨by kernel_rfl, ?_⟩
   refine ⟨by kernel_rfl, ?_⟩
   simp only[e3.1,e3.2,f3.1,f3.2,Tryz.vs,Value.oneCell',simprocAttr, -List.reduceReplicate]
   rfl
  | 4,_=>
   simp only[exL,fS,Tryz.vs,Value.oneCell',simprocAttr, -List.reduceReplicate]
   refine aD (by decide) ?_
   simp only[Tryz.vs,Value.oneCell',simprocAttr, -List.reduceReplicate]
   refine ⟨by kernel_rfl, ?_⟩
   refine ⟨by kernel_rfl, ?_⟩
   simp only[e4.1,e4.2,f4.1,f4.2,Tryz.vs,Value.oneCell',simprocAttr, -List.reduceReplicate]
   rfl
 ·simp only[ab',R4.l,Tryz.vs,Value.oneCell',simprocAttr, -List.reduceReplicate]
  refine aH (by decide) ?_
  simp only[Tryz.vs,Value.oneCell',simprocAttr, -List.reduceReplicate]
end Go.Proofs.YtoakenpcooglpaaGreatDoor
set_option maxHeartbeats 2000000
set_option maxRecDepth 20000
namespace Go.Proofs.YtoakenpcooglpaaGreatDoor
open Go.cA
set_option linter.unusedSectionVars false
variable [aX]
def lG (K:Nat→Int) (t:Nat):Bool:=(K (t / 8) / 2^(t%8))%2==1
def F5.zero:F5:=⟨0,0,0,0,0⟩
theorem F5.aca:F5.zero.Ok:=by
 constructor<;>simp[F5.zero]
def oU (K:Nat→Int) (u:F5):Nat→R4
 | 0=>⟨F5.one,F5.zero,u,F5.one⟩
 | k+1=>exF (lG K (254 - k)) (rh (exF (lG K (254 - k)) (oU K u k)) u)
theorem kb (K:Nat→Int) (u:F5) (hu:u.Ok): ∀ k,(oU K u k).Ok
 | 0=>⟨F5.OW,F5.aca,hu,F5.OW⟩
 | k+1=>G4 _ _ (FO _ _ (G4 _ _ (kb K u hu k)) hu)
def By (K:Nat→Int):Prop:= ∀ i,0≤K i∧K i < 256
theorem Cv (t d:Nat) (h:t < 9223372036854775808):IntKind.i64.wrap ((t:Int).tdiv (d:Int))=((t / d:Nat):Int):=by
 have:t / d≤t:=Nat.div_le_self t d
 rw[← Int.ofNat_tdiv]
 generalize t / d=q at*
 rw[wrap_i64 _ (by omega) (by omega)]
theorem Xn (t:Nat) (h:t < 9223372036854775808):IntKind.i64.wrap ((t:Int).tdiv 8)=((t / 8:Nat):Int):=Cv t 8 h
theorem IZ (t:Nat):(t:Int).tmod 8=((t%8:Nat):Int):=(Int.ofNat_tmod t 8).symm
theorem Gs (n:Nat):(0≤(n:Int))=True:=by simp
theorem cf {n m:Nat} (h:n < m):((n:Int) < (m:Int))=True:=by simp[h]
theorem alS (x:Int) (h0:0≤x) (h1:x < 18446744073709551616):aS .and .u64 x 1=x%2:=rL x 1 h0 h1 (by decide)
theorem wh {x:Int} (h:0≤x) (n:Nat):0≤x / 2^n∧x / 2^n≤x:=by
 have hp:(0:Int) < 2^n:=Int.pow_pos (by decide)
 exact ⟨Int.ediv_nonneg h (Int.le_of_lt hp),Int.ediv_le_self _ h⟩
theorem agw (K:Nat→Int) (hK:By K) (t:Nat):aS .and .u64 (IntKind.u64.wrap (cr .u8 (K (t / 8)) ((t%8:Nat):Int))) 1=sO (lG K t) 0 1:=by
 have h:=hK (t / 8)
 rw[dK .u8 _ _ (by simp[IntKind.bits];omega)]
 have hd:=wh h.1 (t%8)
 simp only[sO,lG]
 rw[au _ (by omega) (by omega),alS _ (by omega) (by omega)]
 by_cases he:K (t / 8) / 2^(t%8)%2=1
 ·simp[he]
 ·have:K (t / 8) / 2^(t%8)%2=0:=by omega
  simp[this]
theorem OX (K:Nat→Int) (u:F5) (hK:By K) (hu:u.Ok):cB Tryz.prog 82 [Ag (ae .u8 32 K),Ag u.l] (Ag (dX (oU K u 255).x2 (jj (oU K u 255).z2 255)).l):=by
 refine aK Tryz.func82 rfl (by kernel_rfl) (by simp[Tryz.ntmps82]) rfl rfl ?_
 simp only[F5.l,Tryz.results82,gQ,Tryz.vs,Value.oneCell',simprocAttr, -List.reduceReplicate]
 refine aG 255 (fun k=>[(2,Ptr 0 0),(3,Ptr 1 0),(4,Ptr 2 0),(5,Ptr 7 0),(6,I .i64 (254 - k))])
  (fun k=>[(0,⟨true,ae .u8 32 K⟩),(1,⟨true,u.l⟩),(2,⟨true,[Sum.inl (Value.int IntKind.u64 0),Sum.inl (Value.int IntKind.u64 0),Sum.inl (Value.int IntKind.u64 0),Sum.inl (Value.int IntKind.u64 0),Sum.inl (Value.int IntKind.u64 0)]⟩),(7,⟨true,(oU K u k).l⟩)]) _ ?_ ?_ ?_
 ·simp only[F5.l,R4.l,oU,F5.one,F5.zero,bV,Tryz.vs,Value.oneCell',simprocAttr, -List.reduceReplicate]
 ·intro k hk
  obtain ⟨t,ht⟩: ∃ t:Nat,(254:Int) - k=t:=⟨254 - k,by omega⟩
  have ht':t < 255:=by omega
  have hw:IntKind.i64.wrap ((t:Int) - 1)=254 - ((k+1:Nat):Int):=by rw[wrap_i64 _ (by omega) (by omega)];omega
  simp only[F5.l,ht,Tryz.vs,Value.oneCell',simprocAttr, -List.reduceReplicate]
  refine aD (by simp) ?_
  have hg:=ay .u8 32 K (t / 8) (by omega)
  have hb:=agw K hK t
  have hq:=Xn t (by omega)
  have hlt:(((t / 8:Nat):Int) < 32)=True:=cf (m:=32) (by omega)
  simp only[hq,IZ,hg,hb,hlt,Gs,Int.toNat_natCast,R4.l,F5.l,Tryz.vs,Value.oneCell',simprocAttr, -List.reduceReplicate]
  refine ⟨by kernel_rfl, ?_⟩
  refine cB.draw (pB (lG K t) (oU K u k) (kb K u hu k)) Tryz.kQ ?_
  simp only[R4.l,F5.l,Tryz.vs,Value.oneCell',simprocAttr, -List.reduceReplicate]
  refine cB.draw (Ms _ u (G4 _ _ (kb K u hu k)) hu) Tryz.ny ?_
  simp only[R4.l,F5.l,Tryz.vs,Value.oneCell',simprocAttr, -List.reduceReplicate]
  refine cB.draw (pB (lG K t) _ (FO _ _ (G4 _ _ (kb K u hu k)) hu)) Tryz.kQ ?_
  have hs:oU K u (k+1)=exF (lG K t) (rh (exF (lG K t) (oU K u k)) u):=by rw[oU,show 254 - k=t from by omega]
  simp only[R4.l,F5.l,hs,hw,Tryz.vs,Value.oneCell',simprocAttr, -List.reduceReplicate]
 ·simp only[F5.l,Tryz.vs,Value.oneCell',simprocAttr, -List.reduceReplicate]
  refine aH (by simp) ?_
  simp only[F5.l,R4.l,Tryz.vs,Value.oneCell',simprocAttr, -List.reduceReplicate]
  refine ⟨by kernel_rfl, ?_⟩
  refine cB.draw (Mr (oU K u 255).z2 (kb K u hu 255).z2) Tryz.nz ?_
  simp only[F5.l,Tryz.vs,Value.oneCell',simprocAttr, -List.reduceReplicate]
  refine cB.draw (ka (oU K u 255).x2 (jj (oU K u 255).z2 255) (kb K u hu 255).x2 (jt _ (kb K u hu 255).z2 255)) Tryz.fq ?_
  simp only[F5.l,Tryz.vs,Value.oneCell',simprocAttr, -List.reduceReplicate]
end Go.Proofs.YtoakenpcooglpaaGreatDoor
namespace Go.Proofs.YtoakenpcooglpaaGreatDoor
open Go.cA
set_option linter.unusedSectionVars false
variable [aX]
def gD (K:Nat→Int) (i:Nat):Int:=if i=0 then K 0 - K 0%8 else if i=31 then K 31%64+64 else K i
theorem V2:((List.range 256).all fun n=>aS .andNot .u8 (n:Int) 7==(n:Int) - n%8)=true:=by kernel_rfl
theorem OY:((List.range 256).all fun n=>aS .or .u8 (aS .andNot .u8 (n:Int) 128) 64==(n:Int)%64+64)=true:=by kernel_rfl
theorem FP (K:Nat→Int) (hK:By K):By (gD K):=by
 intro i
 have h0:=hK 0
 have h1:=hK 31
 have h2:=hK i
 simp only[gD]
 split
 ·omega
 ·split<;>omega
theorem ov (n:Nat) (k:IntKind) (c:Int):(List.replicate n (Value.int k c)).all Value.oneCell'=true:=by
 rw[List.all_eq_true];intro x hx;rw[List.eq_of_mem_replicate hx];rfl
theorem aF (n:Nat) (k:IntKind) (c:Int):List.map Sum.inl (List.replicate n (Value.int k c))=ae k n (fun _=>c):=by
 rw[ae,List.map_replicate]
 apply List.ext_getElem?
 intro i
 simp[List.getElem?_replicate]
 split
 ·rename_i h;rw[List.getElem?_range h];rfl
 ·rename_i h;rw[List.getElem?_eq_none (by simp;omega)];rfl
theorem dP (k:IntKind) (n:Nat) (f g:Nat→Int):splice (ae k n f) 0 (ae k n g)=ae k n g:=by
 rw[splice];simp[ah]
theorem hY (k:IntKind) (n:Nat) (f:Nat→Int):List.take n (ae k n f)=ae k n f:=List.take_of_length_le (by rw[ah];exact Nat.le_refl n)
theorem xU {k:IntKind} {n:Nat} {f g:Nat→Int} (h: ∀ i,i < n→f i=g i):Ag (ae k n f)=Ag (ae k n g):=by rw[aV h]
theorem Mt (K:Nat→Int) (hK:By K):cB Tryz.prog 83 [Ag (ae .u8 32 K)] (Ag (ae .u8 32 (gD K))):=by
 refine aK Tryz.func83 rfl (by kernel_rfl) (by simp[Tryz.ntmps83]) rfl rfl ?_
 simp only[Tryz.results83,ay .u8 32 _ 0 (by omega),ay .u8 32 _ 31 (by omega),aA .u8 32 _ 0 (by omega),aA .u8 32 _ 31 (by omega),Tryz.vr,Value.oneCell',simprocAttr, -List.reduceReplicate]
 have agx:aS .andNot .u8 (K 0) 7=K 0 - K 0%8:=by
  obtain ⟨n,hn⟩:=Int.eq_ofNat_of_zero_le (hK 0).1
  have:=List.all_eq_true.mp V2 n (List.mem_range.mpr (by have:=(hK 0).2;omega))
  rw[hn];exact eq_of_beq this
 have ajE:aS .or .u8 (aS .andNot .u8 (K 31) 128) 64=K 31%64+64:=by
  obtain ⟨n,hn⟩:=Int.eq_ofNat_of_zero_le (hK 31).1
  have:=List.all_eq_true.mp OY n (List.mem_range.mpr (by have:=(hK 31).2;omega))
  rw[hn];exact eq_of_beq this
 rw[agx,ajE]
 refine xU fun i _=> ?_
 simp only[gD,upd]
 by_cases h0:i=0
 ·subst h0;simp
 ·by_cases h1:i=31
  ·subst h1;simp
  ·simp[h0,h1]
def mX (K:Nat→Int):Nat→Nat→Int
 | 0=>fun _=>0
 | n+1=>upd (mX K n) (n / 8) (mX K n (n / 8)+K n*2^(n%8*8))
theorem mA (K:Nat→Int) (hK:By K): ∀ n,(∀ j,0≤mX K n j∧(n / 8 < j→mX K n j=0)∧mX K n j < 18446744073709551616)∧mX K n (n / 8) < 2^(n%8*8)
 | 0=>by simp[mX]
 | n+1=>by
  obtain ⟨h1,h2⟩:=mA K hK n
  have hk:=hK n
  have hb:K n*2^(n%8*8)≤255*2^(n%8*8):=Int.mul_le_mul_of_nonneg_right (by omega) (Int.le_of_lt (Int.pow_pos (by decide)))
  have hb0:0≤K n*2^(n%8*8):=Int.mul_nonneg hk.1 (Int.le_of_lt (Int.pow_pos (by decide)))
  have h3:=h1 (n / 8)
  have hm:n%8 < 8:=Nat.mod_lt _ (by decide)
  have hlt:mX K n (n / 8)+K n*2^(n%8*8) < 256*2^(n%8*8):=by omega
  have hle:(256:Int)*2^(n%8*8)≤18446744073709551616:=by
   generalize n%8=m at*
   match m,hm with
   | 0,_ | 1,_ | 2,_ | 3,_ | 4,_ | 5,_ | 6,_ | 7,_=>decide
  refine ⟨fun j=> ?_, ?_⟩
  ·have hj:=h1 j
   simp only[mX,upd]
   split
   ·refine ⟨by omega,fun hc=> ?_,by omega⟩
    omega
   ·exact ⟨hj.1,fun hc=>hj.2.1 (by omega),hj.2.2⟩
  ·simp only[mX,upd]
   by_cases h7:n%8=7
   ·rw[if_neg (by omega)]
    have:=(h1 ((n+1) / 8)).2.1 (by omega)
    rw[this,show (n+1)%8=0 from by omega];decide
   ·rw[show (n+1) / 8=n / 8 from by omega,if_pos rfl,show (n+1)%8*8=n%8*8+8 from by omega,Int.pow_add]
    omega
end Go.Proofs.YtoakenpcooglpaaGreatDoor
set_option maxHeartbeats 2000000
set_option maxRecDepth 20000
namespace Go.Proofs.YtoakenpcooglpaaGreatDoor
open Go.cA
set_option linter.unusedSectionVars false
variable [aX]
def kC (W:Nat→Int):F5:=⟨W 0%2251799813685248,W 1%274877906944*8192+W 0 / 2251799813685248,W 2%33554432*67108864+W 1 / 274877906944,W 3%4096*549755813888+W 2 / 33554432,W 3 / 4096%2251799813685248⟩
theorem FQ (W:Nat→Int) (h: ∀ j,0≤W j∧W j < 18446744073709551616):(kC W).Ok:=by
 have h0:=h 0
 have h1:=h 1
 have h2:=h 2
 have h3:=h 3
 constructor<;>simp only[kC]<;>constructor<;>omega
theorem V3 (x y:Int) (hx:0≤x) (hx':x < 18446744073709551616) (hy:0≤y) (hy':y < 18446744073709551616):aS .or .u64 x y=aS .or .u64 y x:=by
 obtain ⟨a,rfl⟩:=Int.eq_ofNat_of_zero_le hx
 obtain ⟨b,rfl⟩:=Int.eq_ofNat_of_zero_le hy
 rw[(fP a b (by omega) (by omega)).2.1,(fP b a (by omega) (by omega)).2.1,Nat.or_comm]
theorem G5 (a b:Int) (n:Nat) (hn:n < 64) (ha:0≤a) (ha':a < 2^n) (hb:0≤b) (hb':b*2^n < 18446744073709551616):aS .or .u64 a (b*2^n)=a+b*2^n:=by
 have hp:(0:Int) < 2^n:=Int.pow_pos (by decide)
 have hm:(2:Int)^n≤18446744073709551616:=by
  have:2^n≤2^64:=Nat.pow_le_pow_right (by decide) (Nat.le_of_lt hn)
  have e:(2:Int)^n=((2^n:Nat):Int):=by simp
  omega
 have h0:0≤b*2^n:=Int.mul_nonneg hb (Int.le_of_lt hp)
 rw[V3 _ _ ha (by omega) h0 hb',Xm b a n hn hb hb' ha ha',Int.add_comm]
theorem join (a b:Int) (n m:Nat) (h:n+m=64) (hn:n < 64) (N M:Int) (hN:(2:Int)^n=N) (hM:(2:Int)^m=M) (ha:0≤a) (ha':a < 18446744073709551616) (hb:0≤b) (hb':b < 18446744073709551616):
  aS .or .u64 (a / M) (b*N%18446744073709551616)=b%M*N+a / M:=by
 have hNM:N*M=18446744073709551616:=by rw[← hN, ← hM, ← Int.pow_add,h];rfl
 have hM0:0 < M:=by rw[← hM];exact Int.pow_pos (by decide)
 have hN0:0 < N:=by rw[← hN];exact Int.pow_pos (by decide)
 have e:b*N%18446744073709551616=b%M*N:=by rw[← hNM,Int.mul_comm b N,Int.mul_emod_mul_of_pos _ _ hN0,Int.mul_comm]
 have hbm:=Int.emod_nonneg b (Int.ne_of_gt hM0)
 have hbl:=Int.emod_lt_of_pos b hM0
 have hle:b%M*N < 18446744073709551616:=by rw[← hNM,Int.mul_comm N M];exact Int.mul_lt_mul_of_pos_right hbl hN0
 have hd:a / M < N:=Int.ediv_lt_of_lt_mul hM0 (by rw[hNM];exact ha')
 rw[e, ← hN,G5 (a / M) (b%M) n hn (Int.ediv_nonneg ha (Int.le_of_lt hM0)) (by rw[hN];exact hd) hbm (by rw[hN];exact hle),Int.add_comm]
theorem wi (x:Int) (n:Nat) (h:n≤64):cr .u64 x (n:Int)=x / 2^n:=dK .u64 x n h
theorem wj (x:Int) (n:Nat) (h:n≤64):gT .u64 x (n:Int)=x*2^n%18446744073709551616:=(lY .u64 x n h).trans (wrap_u64 _)
theorem Xo (n:Nat) (h:n < 9223372036854775808):IntKind.i64.wrap ((n:Int))=(n:Int):=wrap_i64 _ (by omega) (by omega)
theorem bD (n:Nat) (h:n < 9223372036854775807):IntKind.i64.wrap ((n:Int)+1)=((n+1:Nat):Int):=wrap_i64 _ (by omega) (by omega)
theorem Mu (K:Nat→Int) (hK:By K):cB Tryz.prog 84 [Ag (ae .u8 32 K)] (Ag (kC (mX K 32)).l):=by
 refine aK Tryz.func84 rfl (by kernel_rfl) (by simp[Tryz.ntmps84]) rfl rfl ?_
 simp only[Tryz.results84,Tryz.vr,Value.oneCell',simprocAttr, -List.reduceReplicate]
 refine aG 32 (fun k=>[(2,Ptr 1 0),(3,Ptr 2 0),(6,Ag (ae .u8 32 K)),(7,I .i64 k)])
  (fun k=>[(1,⟨true,[Sum.inl (Value.int IntKind.u64 0),Sum.inl (Value.int IntKind.u64 0),Sum.inl (Value.int IntKind.u64 0),Sum.inl (Value.int IntKind.u64 0),Sum.inl (Value.int IntKind.u64 0)]⟩),(2,⟨true,ae .u64 4 (mX K k)⟩)]) _ ?_ ?_ ?_
 ·simp only[bV,mX,Tryz.vr,Value.oneCell',simprocAttr, -List.reduceReplicate]
  rfl
 ·intro k hk
  have hkk:=hK k
  have hb:=mA K hK k
  have ux:=mA K hK (k+1)
  have hm:k%8 < 8:=Nat.mod_lt _ (by decide)
  have hq:=Xn k (by omega)
  have hmul:IntKind.i64.wrap (((k%8:Nat):Int)*8)=((k%8*8:Nat):Int):=by rw[wrap_i64 _ (by omega) (by omega)];omega
  have hu:IntKind.u64.wrap (K k)=K k:=au _ (by omega) (by omega)
  have hv:K k*2^(k%8*8) < 18446744073709551616∧0≤K k*2^(k%8*8):=by
   have h:=(ux.1 (k / 8)).2.2
   have h':=(hb.1 (k / 8)).1
   have hb0:0≤K k*2^(k%8*8):=Int.mul_nonneg hkk.1 (Int.le_of_lt (Int.pow_pos (by decide)))
   simp only[mX,upd,if_true]at h
   omega
  have hsh:gT .u64 (K k) ((k%8*8:Nat):Int)=K k*2^(k%8*8):=by
   rw[wj _ _ (by omega)];omega
  have hor:=G5 (mX K k (k / 8)) (K k) (k%8*8) (by omega) (hb.1 (k / 8)).1 hb.2 hkk.1 hv.1
  have hl4:(((k / 8:Nat):Int) < 4)=True:=cf (m:=4) (by omega)
  have G6:((k:Int) < 32)=True:=cf (m:=32) hk
  simp only[Tryz.vr,Value.oneCell',simprocAttr, -List.reduceReplicate]
  refine aD (by simp;omega) ?_
  simp only[G6,ay .u8 32 K k hk,hq,IZ,hmul,hu,hsh,hl4,ay .u64 4 _ (k / 8) (by omega),aA .u64 4 _ (k / 8) (by omega),hor,bD k (by omega),Tryz.vr,Value.oneCell',simprocAttr, -List.reduceReplicate]
  exact ⟨by kernel_rfl,by omega,rfl⟩
 ·simp only[Tryz.vr,Value.oneCell',simprocAttr, -List.reduceReplicate]
  refine aH (by decide) ?_
  have hb:=(mA K hK 32).1
  generalize mX K 32=W at*
  have h0:=hb 0
  have h1:=hb 1
  have h2:=hb 2
  have h3:=hb 3
  have j1:=join (W 0) (W 1) 13 51 rfl (by decide) 8192 2251799813685248 rfl rfl h0.1 h0.2.2 h1.1 h1.2.2
  have j2:=join (W 1) (W 2) 26 38 rfl (by decide) 67108864 274877906944 rfl rfl h1.1 h1.2.2 h2.1 h2.2.2
  have j3:=join (W 2) (W 3) 39 25 rfl (by decide) 549755813888 33554432 rfl rfl h2.1 h2.2.2 h3.1 h3.2.2
  simp only[ay .u64 4 _ 0 (by omega),ay .u64 4 _ 1 (by omega),ay .u64 4 _ 2 (by omega),ay .u64 4 _ 3 (by omega),ah,Tryz.vs,Value.oneCell',simprocAttr, -List.reduceReplicate]
  rw[show gT .u64 (W 1) 13=W 1*8192%18446744073709551616 from wj _ 13 (by decide),show gT .u64 (W 2) 26=W 2*67108864%18446744073709551616 from wj _ 26 (by decide),show gT .u64 (W 3) 39=W 3*549755813888%18446744073709551616 from wj _ 39 (by decide),
   show cr .u64 (W 0) 51=W 0 / 2251799813685248 from wi _ 51 (by decide),show cr .u64 (W 1) 38=W 1 / 274877906944 from wi _ 38 (by decide),show cr .u64 (W 2) 25=W 2 / 33554432 from wi _ 25 (by decide),show cr .u64 (W 3) 12=W 3 / 4096 from wi _ 12 (by decide),j1,j2,j3,
   hX _ h0.1 h0.2.2,hX _ (by omega) (by omega),hX _ (by omega) (by omega),hX _ (by omega) (by omega),hX _ (by omega) (by omega)]
  rw[show (W 1%2251799813685248*8192+W 0 / 2251799813685248)%2251799813685248=W 1%274877906944*8192+W 0 / 2251799813685248 from by omega,
   show (W 2%274877906944*67108864+W 1 / 274877906944)%2251799813685248=W 2%33554432*67108864+W 1 / 274877906944 from by omega,
   show (W 3%33554432*549755813888+W 2 / 33554432)%2251799813685248=W 3%4096*549755813888+W 2 / 33554432 from by omega]
  rfl
end Go.Proofs.YtoakenpcooglpaaGreatDoor
set_option maxHeartbeats 2000000
set_option maxRecDepth 20000
namespace Go.Proofs.YtoakenpcooglpaaGreatDoor
open Go.cA
set_option linter.unusedSectionVars false
variable [aX]
def F5.at (f:F5):Nat→Int
 | 0=>f.a0
 | 1=>f.a1
 | 2=>f.a2
 | 3=>f.a3
 | _=>f.a4
def oV (f:F5):Nat→Int
 | 0=>19
 | k+1=>(f.at k+oV f k) / 2251799813685248
def n7 (f:F5):Nat→Int
 | 0=>19*oV f 5
 | k+1=>(f.at k+n7 f k) / 2251799813685248
theorem ajG (f:F5):oV f 1=(f.a0+19) / 2251799813685248:=rfl
theorem ajH (f:F5):oV f 2=(f.a1+oV f 1) / 2251799813685248:=rfl
theorem ajI (f:F5):oV f 3=(f.a2+oV f 2) / 2251799813685248:=rfl
theorem ajJ (f:F5):oV f 4=(f.a3+oV f 3) / 2251799813685248:=rfl
theorem ajK (f:F5):oV f 5=(f.a4+oV f 4) / 2251799813685248:=rfl
theorem ajL (f:F5):n7 f 0=19*oV f 5:=rfl
theorem ajM (f:F5):n7 f 1=(f.a0+n7 f 0) / 2251799813685248:=rfl
theorem ajN (f:F5):n7 f 2=(f.a1+n7 f 1) / 2251799813685248:=rfl
theorem ajO (f:F5):n7 f 3=(f.a2+n7 f 2) / 2251799813685248:=rfl
theorem ajP (f:F5):n7 f 4=(f.a3+n7 f 3) / 2251799813685248:=rfl
theorem alW (f:F5):n7 f 5=(f.a4+n7 f 4) / 2251799813685248:=rfl
def kI (f:F5):F5:=⟨(f.a0+n7 f 0)%2251799813685248,(f.a1+n7 f 1)%2251799813685248,(f.a2+n7 f 2)%2251799813685248,(f.a3+n7 f 3)%2251799813685248,(f.a4+n7 f 4)%2251799813685248⟩
def Mv (f:F5) (k:Nat):List SV:=[Sum.inl (.int .u64 (fS 0 k (kI f).a0 f.a0)),Sum.inl (.int .u64 (fS 1 k (kI f).a1 f.a1)),Sum.inl (.int .u64 (fS 2 k (kI f).a2 f.a2)),Sum.inl (.int .u64 (fS 3 k (kI f).a3 f.a3)),Sum.inl (.int .u64 (fS 4 k (kI f).a4 f.a4))]
theorem acb (f:F5) (h:f.Ok):(oV f 5=0∧f.v < PP)∨(oV f 5=1∧PP≤f.v):=by
 obtain ⟨⟨h0,BI⟩,⟨h1,h1'⟩,⟨h2,h2'⟩,⟨h3,h3'⟩,⟨h4,h4'⟩⟩:=h
 have e1:=ajG f
 have e2:=ajH f
 have e3:=ajI f
 have e4:=ajJ f
 have e5:=ajK f
 generalize oV f 1=o1 at*
 generalize oV f 2=o2 at*
 generalize oV f 3=o3 at*
 generalize oV f 4=o4 at*
 generalize oV f 5=o5 at*
 simp only[F5.v,PP]
 have:o5=0∨o5=1:=by omega
 rcases this with rfl | rfl
 ·left;refine ⟨rfl, ?_⟩;omega
 ·right;refine ⟨rfl, ?_⟩;omega
theorem Mw (f:F5) (h:f.Ok):(kI f).v=f.v%PP∧(0≤(kI f).a0∧(kI f).a0 < 2251799813685248)∧(0≤(kI f).a1∧(kI f).a1 < 2251799813685248)∧(0≤(kI f).a2∧(kI f).a2 < 2251799813685248)∧(0≤(kI f).a3∧(kI f).a3 < 2251799813685248)∧(0≤(kI f).a4∧(kI f).a4 < 2251799813685248):=by
 obtain ⟨⟨h0,BI⟩,⟨h1,h1'⟩,⟨h2,h2'⟩,⟨h3,h3'⟩,⟨h4,h4'⟩⟩:=h
 refine ⟨?_, ?_⟩
 ·have ho:=acb f ⟨⟨h0,BI⟩,⟨h1,h1'⟩,⟨h2,h2'⟩,⟨h3,h3'⟩,⟨h4,h4'⟩⟩
  have e0:=ajL f
  have e1:=ajM f
  have e2:=ajN f
  have e3:=ajO f
  have e4:=ajP f
  have e5:=alW f
  simp only[kI]
  generalize n7 f 0=c0 at*
  generalize n7 f 1=c1 at*
  generalize n7 f 2=c2 at*
  generalize n7 f 3=c3 at*
  generalize n7 f 4=c4 at*
  generalize n7 f 5=c5 at*
  generalize oV f 5=o at*
  simp only[F5.v,PP]at*
  rcases ho with ⟨rfl,hv⟩ | ⟨rfl,hv⟩
  ·have:c5=0:=by omega
   omega
  ·have:c5=1:=by omega
   omega
 ·simp only[kI]
  omega
theorem Mx (f:F5) (h:f.Ok):cB Tryz.prog 102 [Ag f.l] (Ag (kI f).l):=by
 obtain ⟨⟨h0,BI⟩,⟨h1,h1'⟩,⟨h2,h2'⟩,⟨h3,h3'⟩,⟨h4,h4'⟩⟩:=h
 have o1:0≤oV f 1∧oV f 1≤1:=by rw[ajG];omega
 have o2:0≤oV f 2∧oV f 2≤1:=by rw[ajH];omega
 have o3:0≤oV f 3∧oV f 3≤1:=by rw[ajI];omega
 have o4:0≤oV f 4∧oV f 4≤1:=by rw[ajJ];omega
 have o0:oV f 0=19:=rfl
 refine aK Tryz.func102 rfl (by kernel_rfl) (by simp[Tryz.ntmps102]) rfl rfl ?_
 simp only[F5.l,Tryz.results102,Tryz.vs,Value.oneCell',simprocAttr, -List.reduceReplicate]
 refine aG 5 (fun k=>[(1,Ptr 0 0),(2,Ptr 1 0),(3,I .u64 (oV f k)),(8,Ag f.l),(9,I .i64 k)])
  (fun _=>[(0,⟨true,f.l⟩),(1,⟨true,[Sum.inl (Value.int IntKind.u64 0),Sum.inl (Value.int IntKind.u64 0),Sum.inl (Value.int IntKind.u64 0),Sum.inl (Value.int IntKind.u64 0),Sum.inl (Value.int IntKind.u64 0)]⟩)]) _ ?_ ?_ ?_
 ·simp only[F5.l,Tryz.vs,Value.oneCell',simprocAttr, -List.reduceReplicate]
  rfl
 ·intro k hk
  match k,hk with
  | 0,_=>
   simp only[F5.l,Tryz.vs,Value.oneCell',simprocAttr, -List.reduceReplicate]
   refine aD (by decide) ?_
   simp only[mJ,Tryz.vs,Value.oneCell',simprocAttr, -List.reduceReplicate]
   rw[au _ (by omega) (by omega)]
   exact ⟨rfl,rfl⟩
  | 1,_=>
   simp only[F5.l,Tryz.vs,Value.oneCell',simprocAttr, -List.reduceReplicate]
   refine aD (by decide) ?_
   simp only[mJ,Tryz.vs,Value.oneCell',simprocAttr, -List.reduceReplicate]
   rw[au _ (by omega) (by omega)]
   exact ⟨rfl,rfl⟩
  | 2,_=>
   simp only[F5.l,Tryz.vs,Value.oneCell',simprocAttr, -List.reduceReplicate]
   refine aD (by decide) ?_
   simp only[mJ,Tryz.vs,Value.oneCell',simprocAttr, -List.reduceReplicate]
   rw[au _ (by omega) (by omega)]
   exact ⟨rfl,rfl⟩
  | 3,_=>
   simp only[F5.l,Tryz.vs,Value.oneCell',simprocAttr, -List.reduceReplicate]
   refine aD (by decide) ?_
   simp only[mJ,Tryz.vs,Value.oneCell',simprocAttr, -List.reduceReplicate]
   rw[au _ (by omega) (by omega)]
   exact ⟨rfl,rfl⟩
  | 4,_=>
   simp only[F5.l,Tryz.vs,Value.oneCell',simprocAttr, -List.reduceReplicate]
   refine aD (by decide) ?_
   simp only[mJ,Tryz.vs,Value.oneCell',simprocAttr, -List.reduceReplicate]
   rw[au _ (by omega) (by omega)]
   exact ⟨rfl,rfl⟩
 ·simp only[F5.l,Tryz.vs,Value.oneCell',simprocAttr, -List.reduceReplicate]
  refine aH (by decide) ?_
  have ho:0≤oV f 5∧oV f 5≤1:=by rw[ajK];omega
  have hc:IntKind.u64.wrap (19*oV f 5)=n7 f 0:=by rw[au _ (by omega) (by omega)];rfl
  simp only[hc,Tryz.vs,Value.oneCell',simprocAttr, -List.reduceReplicate]
  have c0:0≤n7 f 0∧n7 f 0≤19:=by rw[ajL];omega
  have c1:0≤n7 f 1∧n7 f 1≤1:=by rw[ajM];omega
  have c2:0≤n7 f 2∧n7 f 2≤1:=by rw[ajN];omega
  have c3:0≤n7 f 3∧n7 f 3≤1:=by rw[ajO];omega
  have c4:0≤n7 f 4∧n7 f 4≤1:=by rw[ajP];omega
  refine aG 5 (fun k=>[(1,Ptr 0 0),(2,Ptr 1 0),(6,I .u64 (n7 f k)),(19,I .i64 k)])
   (fun k=>[(0,⟨true,Mv f k⟩),(1,⟨true,[Sum.inl (Value.int IntKind.u64 0),Sum.inl (Value.int IntKind.u64 0),Sum.inl (Value.int IntKind.u64 0),Sum.inl (Value.int IntKind.u64 0),Sum.inl (Value.int IntKind.u64 0)]⟩)]) _ ?_ ?_ ?_
  ·simp only[Mv,fS,Tryz.vs,Value.oneCell',simprocAttr, -List.reduceReplicate]
  ·intro k hk
   match k,hk with
   | 0,_=>
    simp only[Mv,fS,Tryz.vs,Value.oneCell',simprocAttr, -List.reduceReplicate]
    refine aD (by decide) ?_
    simp only[mJ,Tryz.vs,Value.oneCell',simprocAttr, -List.reduceReplicate]
    rw[au (f.a0+_) (by omega) (by omega),hX _ (by omega) (by omega)]
    exact ⟨⟨rfl,rfl⟩,rfl⟩
   | 1,_=>
    simp only[Mv,fS,Tryz.vs,Value.oneCell',simprocAttr, -List.reduceReplicate]
    refine aD (by decide) ?_
    simp only[mJ,Tryz.vs,Value.oneCell',simprocAttr, -List.reduceReplicate]
    rw[au (f.a1+_) (by omega) (by omega),hX _ (by omega) (by omega)]
    exact ⟨⟨rfl,rfl⟩,rfl⟩
   | 2,_=>
    simp only[Mv,fS,Tryz.vs,Value.oneCell',simprocAttr, -List.reduceReplicate]
    refine aD (by decide) ?_
    simp only[mJ,Tryz.vs,Value.oneCell',simprocAttr, -List.reduceReplicate]
    rw[au (f.a2+_) (by omega) (by omega),hX _ (by omega) (by omega)]
    exact ⟨⟨rfl,rfl⟩,rfl⟩
   | 3,_=>
    simp only[Mv,fS,Tryz.vs,Value.oneCell',simprocAttr, -List.reduceReplicate]
    refine aD (by decide) ?_
    simp only[mJ,Tryz.vs,Value.oneCell',simprocAttr, -List.reduceReplicate]
    rw[au (f.a3+_) (by omega) (by omega),hX _ (by omega) (by omega)]
    exact ⟨⟨rfl,rfl⟩,rfl⟩
   | 4,_=>
    simp only[Mv,fS,Tryz.vs,Value.oneCell',simprocAttr, -List.reduceReplicate]
    refine aD (by decide) ?_
    simp only[mJ,Tryz.vs,Value.oneCell',simprocAttr, -List.reduceReplicate]
    rw[au (f.a4+_) (by omega) (by omega),hX _ (by omega) (by omega)]
    exact ⟨⟨rfl,rfl⟩,rfl⟩
  ·simp only[Mv,fS,Tryz.vs,Value.oneCell',simprocAttr, -List.reduceReplicate]
   refine aH (by decide) ?_
   simp only[F5.l,Tryz.vs,Value.oneCell',simprocAttr, -List.reduceReplicate]
end Go.Proofs.YtoakenpcooglpaaGreatDoor
set_option maxHeartbeats 2000000
set_option maxRecDepth 20000
namespace Go.Proofs.YtoakenpcooglpaaGreatDoor
open Go.cA
set_option linter.unusedSectionVars false
variable [aX]
def gf (g:F5):Nat→Int
 | 0=>g.a0+g.a1*2251799813685248%18446744073709551616
 | 1=>g.a1 / 8192+g.a2*274877906944%18446744073709551616
 | 2=>g.a2 / 67108864+g.a3*33554432%18446744073709551616
 | _=>g.a3 / 549755813888+g.a4*4096%18446744073709551616
def FR (W:Nat→Int) (i:Nat):Int:=W (i / 8) / 2^(i%8*8)%256
theorem UT (x b:Int) (n m:Nat) (h:n+m=64) (hn:n < 64) (N M:Int) (hN:(2:Int)^n=N) (hM:(2:Int)^m=M) (hx:0≤x) (hx':x < N):
  aS .or .u64 x (b*N%18446744073709551616)=x+b*N%18446744073709551616:=by
 have hNM:N*M=18446744073709551616:=by rw[← hN, ← hM, ← Int.pow_add,h];rfl
 have hM0:0 < M:=by rw[← hM];exact Int.pow_pos (by decide)
 have hN0:0 < N:=by rw[← hN];exact Int.pow_pos (by decide)
 have e:b*N%18446744073709551616=b%M*N:=by rw[← hNM,Int.mul_comm b N,Int.mul_emod_mul_of_pos _ _ hN0,Int.mul_comm]
 have hbm:=Int.emod_nonneg b (Int.ne_of_gt hM0)
 have hbl:=Int.emod_lt_of_pos b hM0
 have hle:b%M*N < 18446744073709551616:=by rw[← hNM,Int.mul_comm N M];exact Int.mul_lt_mul_of_pos_right hbl hN0
 rw[e, ← hN,G5 x (b%M) n hn hx (by rw[hN];exact hx') hbm (by rw[hN];exact hle)]
theorem UU (g:F5) (h0:0≤g.a0∧g.a0 < 2251799813685248) (h1:0≤g.a1∧g.a1 < 2251799813685248) (h2:0≤g.a2∧g.a2 < 2251799813685248) (h3:0≤g.a3∧g.a3 < 2251799813685248) (h4:0≤g.a4∧g.a4 < 2251799813685248):
  ∀ j,0≤gf g j∧gf g j < 18446744073709551616
 | 0=>by simp only[gf];omega
 | 1=>by simp only[gf];omega
 | 2=>by simp only[gf];omega
 | _+3=>by simp only[gf];omega
theorem aaq (g:F5) (h0:0≤g.a0∧g.a0 < 2251799813685248) (h1:0≤g.a1∧g.a1 < 2251799813685248) (h2:0≤g.a2∧g.a2 < 2251799813685248) (h3:0≤g.a3∧g.a3 < 2251799813685248) (h4:0≤g.a4∧g.a4 < 2251799813685248):
  g.v=gf g 0+18446744073709551616*gf g 1+340282366920938463463374607431768211456*gf g 2+6277101735386680763835789423207666416102355444464034512896*gf g 3:=by
 simp only[gf,F5.v];omega
theorem fc {k:IntKind} {n m:Nat} {f:Nat→Int}:ae k n (upd (fun i=>if i < m then f i else 0) m (f m))=ae k n (fun i=>if i < m+1 then f i else 0):=by
 refine aV fun i _=> ?_
 simp only[upd]
 by_cases h:i=m
 ·subst h;simp
 ·rw[if_neg h]
  by_cases h2:i < m
  ·rw[if_pos h2,if_pos (by omega)]
  ·rw[if_neg h2,if_neg (by omega)]
theorem V4 (f:F5) (hf:f.Ok):cB Tryz.prog 81 [Ag f.l] (Ag (ae .u8 32 (FR (gf (kI f))))):=by
 refine aK Tryz.func81 rfl (by kernel_rfl) (by simp[Tryz.ntmps81]) rfl rfl ?_
 simp only[F5.l,Tryz.results81,ah,ov,aF,Tryz.vs,Value.oneCell',simprocAttr, -List.reduceReplicate]
 refine (Mx f hf).aB ?_
 obtain ⟨_,h0,h1,h2,h3,h4⟩:=Mw f hf
 generalize kI f=g at*
 have j0:=UT g.a0 g.a1 51 13 rfl (by decide) 2251799813685248 8192 rfl rfl h0.1 h0.2
 have j1:=UT (g.a1 / 8192) g.a2 38 26 rfl (by decide) 274877906944 67108864 rfl rfl (by omega) (by omega)
 have j2:=UT (g.a2 / 67108864) g.a3 25 39 rfl (by decide) 33554432 549755813888 rfl rfl (by omega) (by omega)
 have j3:=UT (g.a3 / 549755813888) g.a4 12 52 rfl (by decide) 4096 4503599627370496 rfl rfl (by omega) (by omega)
 simp only[F5.l,ah,ov,aF,show gT .u64 g.a1 51=g.a1*2251799813685248%18446744073709551616 from wj _ 51 (by decide),show gT .u64 g.a2 38=g.a2*274877906944%18446744073709551616 from wj _ 38 (by decide),show gT .u64 g.a3 25=g.a3*33554432%18446744073709551616 from wj _ 25 (by decide),show gT .u64 g.a4 12=g.a4*4096%18446744073709551616 from wj _ 12 (by decide),
  show cr .u64 g.a1 13=g.a1 / 8192 from wi _ 13 (by decide),show cr .u64 g.a2 26=g.a2 / 67108864 from wi _ 26 (by decide),show cr .u64 g.a3 39=g.a3 / 549755813888 from wi _ 39 (by decide),j0,j1,j2,j3,Tryz.vs,Value.oneCell',simprocAttr, -List.reduceReplicate]
 refine aG 32 (fun k=>[(2,Ptr 1 0),(3,Ptr 33 0),(4,Ptr 35 0),(36,I .i64 k)])
  (fun k=>[(1,⟨true,ae .u8 32 (fun _=>0)⟩),(33,⟨true,ae .u64 4 (gf g)⟩),(35,⟨true,ae .u8 32 (fun i=>if i < k then FR (gf g) i else 0)⟩)]) _ ?_ ?_ ?_
 ·simp only[bV,Tryz.vr,Value.oneCell',simprocAttr, -List.reduceReplicate]
  exact ⟨rfl,by simp only[Nat.not_lt_zero,if_false]⟩
 ·intro k hk
  have hw:=UU g h0 h1 h2 h3 h4 (k / 8)
  have hm:k%8 < 8:=Nat.mod_lt _ (by decide)
  have hq:=Xn k (by omega)
  have hmul:IntKind.i64.wrap (((k%8:Nat):Int)*8)=((k%8*8:Nat):Int):=by rw[wrap_i64 _ (by omega) (by omega)];omega
  have hsh:IntKind.u8.wrap (cr .u64 (gf g (k / 8)) ((k%8*8:Nat):Int))=FR (gf g) k:=by
   rw[wi _ _ (by omega),wrap_u8];rfl
  have hl4:(((k / 8:Nat):Int) < 4)=True:=cf (m:=4) (by omega)
  have G6:((k:Int) < 32)=True:=cf (m:=32) hk
  simp only[Tryz.vr,Value.oneCell',simprocAttr, -List.reduceReplicate]
  refine aD (by simp;omega) ?_
  simp only[G6,ay .u64 4 _ (k / 8) (by omega),hq,IZ,hmul,hsh,hl4,aA .u8 32 _ k hk,bD k (by omega),Tryz.vr,Value.oneCell',simprocAttr, -List.reduceReplicate]
  exact ⟨by omega,by rw[fc]⟩
 ·simp only[Tryz.vr,Value.oneCell',simprocAttr, -List.reduceReplicate]
  refine aH (by decide) ?_
  simp only[Tryz.vr,Value.oneCell',simprocAttr, -List.reduceReplicate]
  refine xU fun i hi=> ?_
  simp only[hi,if_true]
def sg (K U:Nat→Int):Nat→Int:=
 FR (gf (kI (dX (oU (gD K) (kC (mX U 32)) 255).x2 (jj (oU (gD K) (kC (mX U 32)) 255).z2 255))))
theorem FT (K U:Nat→Int) (hK:By K) (hU:By U):cB Tryz.prog 63 [Ag (ae .u8 32 K),Ag (ae .u8 32 U)] (Ag (ae .u8 32 (sg K U))):=by
 have hu:(kC (mX U 32)).Ok:=FQ _ fun j=>⟨((mA U hU 32).1 j).1,((mA U hU 32).1 j).2.2⟩
 have hr:=kb (gD K) _ hu 255
 refine aK Tryz.func63 rfl (by kernel_rfl) (by simp[Tryz.ntmps63]) rfl rfl ?_
 simp only[Tryz.results63,Tryz.vr,Value.oneCell',simprocAttr, -List.reduceReplicate]
 refine ⟨by kernel_rfl, ?_⟩
 refine cB.draw (Mt K hK) Tryz.qJ ?_
 simp only[Tryz.vr,Value.oneCell',simprocAttr, -List.reduceReplicate]
 refine cB.draw (Mu U hU) Tryz.qK ?_
 simp only[Tryz.vr,Value.oneCell',simprocAttr, -List.reduceReplicate]
 refine cB.draw (OX _ _ (FP K hK) hu) Tryz.qI ?_
 simp only[Tryz.vr,Value.oneCell',simprocAttr, -List.reduceReplicate]
 refine cB.draw (V4 _ (gv _ _ hr.x2 (jt _ hr.z2 255))) Tryz.qH ?_
 simp only[Tryz.vr,Value.oneCell',simprocAttr, -List.reduceReplicate]
 rfl
end Go.Proofs.YtoakenpcooglpaaGreatDoor
set_option maxHeartbeats 2000000
set_option maxRecDepth 20000
namespace Go.Proofs.YtoakenpcooglpaaGreatDoor
open Go.cA
set_option linter.unusedSectionVars false
variable [aX]
def val (N:Nat→Int):Nat→Int
 | 0=>0
 | n+1=>val N n+N n*65536^n
def sh (N:Nat→Int):Nat→Int
 | 0=>0
 | i+1=>(N i+sh N i) / 65536
def CC (N:Nat→Int) (i:Nat):Int:=(N i+sh N i)%65536
def dY (N:Nat→Int):Nat→Int:=upd (CC N) 0 (CC N 0+38*sh N 16)
def My (N:Nat→Int):Nat→Nat→Int
 | 0=>N
 | k+1=>dY (My N k)
def FU (N:Nat→Int):Nat→Int:=My N 3
def Bd (N:Nat→Int):Prop:= ∀ i,0≤N i∧N i < 4611686018427387904
def dU (N:Nat→Int):Prop:= ∀ i,0≤N i∧N i < 65536
theorem ri (N:Nat→Int) (h:Bd N): ∀ i,0≤sh N i∧sh N i < 140737488355328
 | 0=>by simp[sh]
 | i+1=>by
  have:=ri N h i
  have:=h i
  simp only[sh];omega
theorem kS (N:Nat→Int):dU (CC N):=by
 intro i;simp only[CC];omega
theorem si (N:Nat→Int) (h:Bd N):Bd (dY N):=by
 intro i
 have h1:=kS N i
 have h2:=kS N 0
 have h3:=ri N h 16
 simp only[dY,upd];split<;>omega
theorem UW (N:Nat→Int) (h:Bd N): ∀ k,Bd (My N k)
 | 0=>h
 | k+1=>si _ (UW N h k)
theorem aar (n:Nat):(0:Int) < 65536^n:=Int.pow_pos (by decide)
theorem mB (N:Nat→Int) (h:dU N): ∀ n,0≤val N n∧val N n < 65536^n
 | 0=>by simp[val]
 | n+1=>by
  have ih:=mB N h n
  have hn:=h n
  have hp:=aar n
  have h1:0≤N n*65536^n:=Int.mul_nonneg hn.1 (Int.le_of_lt hp)
  have h2:N n*65536^n≤65535*65536^n:=Int.mul_le_mul_of_nonneg_right (by omega) (Int.le_of_lt hp)
  rw[val,Int.pow_succ];omega
theorem sj (N:Nat→Int): ∀ n,val N n=val (CC N) n+sh N n*65536^n
 | 0=>by simp[val,sh]
 | n+1=>by
  have ih:=sj N n
  have e:N n+sh N n=CC N n+65536*sh N (n+1):=by simp only[CC,sh];omega
  rw[val,val,ih,Int.pow_succ]
  have:sh N (n+1)*(65536^n*65536)=(65536*sh N (n+1))*65536^n:=by grind
  rw[this]
  have e2:N n=CC N n+65536*sh N (n+1) - sh N n:=by omega
  rw[e2];grind
theorem G7 (N:Nat→Int) (i:Nat) (v:Int): ∀ n,i < n→val (upd N i v) n=val N n+(v - N i)*65536^i:=by
 have agx: ∀ n,n≤i→val (upd N i v) n=val N n:=by
  intro n
  induction n with
  | zero=>intro _;rfl
  | succ n ih=>
   intro h
   rw[val,val,ih (by omega)]
   simp only[upd,if_neg (show ¬ n=i by omega)]
 intro n
 induction n with
 | zero=>intro h;omega
 | succ n ih=>
  intro h
  rw[val,val]
  by_cases hn:n=i
  ·subst hn
   rw[agx n (Nat.le_refl n)]
   simp only[upd,if_true];grind
  ·rw[ih (by omega)]
   simp only[upd,if_neg hn];grind
theorem tD (N:Nat→Int):val (dY N) 16=val N 16 - sh N 16*115792089237316195423570985008687907853269984665640564039457584007913129639898:=by
 rw[dY,G7 _ 0 _ 16 (by decide)]
 have:=sj N 16
 rw[show (65536:Int)^16=115792089237316195423570985008687907853269984665640564039457584007913129639936 from by decide]at this
 rw[this];simp only[Int.pow_zero,Int.mul_one];omega
theorem rj (N:Nat→Int) (h:Bd N):dU (FU N)∧val (FU N) 16%PP=val N 16%PP:=by
 have hp:(65536:Int)^16=115792089237316195423570985008687907853269984665640564039457584007913129639936:=by decide
 have c0:=ri N h 16
 have v0:=sj N 16
 have d0:=mB _ (kS N) 16
 have e0:=tD N
 have v1:=sj (dY N) 16
 have d1:=mB _ (kS (dY N)) 16
 have e1:=tD (dY N)
 have v2:=sj (dY (dY N)) 16
 have d2:=mB _ (kS (dY (dY N))) 16
 have e2:=tD (dY (dY N))
 have c1:=ri _ (si N h) 16
 have c2:=ri _ (si _ (si N h)) 16
 rw[hp]at v0 d0 v1 d1 v2 d2
 have k1:sh (dY N) 16=0∨sh (dY N) 16=1:=by omega
 have k2:sh (dY (dY N)) 16=0:=by omega
 refine ⟨?_, ?_⟩
 ·intro i
  show 0≤dY (dY (dY N)) i∧dY (dY (dY N)) i < 65536
  have hd:=kS (dY (dY N)) i
  have N9:=kS (dY (dY N)) 0
  rw[dY,k2]
  simp only[upd];split<;>omega
 ·show val (dY (dY (dY N))) 16%PP=_
  rw[e2,e1,e0,k2]
  refine cg (q:= -2*(sh N 16+sh (dY N) 16)) ?_
  simp only[PP];omega
theorem fj {k:IntKind} {n m:Nat} {f g:Nat→Int}:ae k n (upd (fun i=>if i < m then f i else g i) m (f m))=ae k n (fun i=>if i < m+1 then f i else g i):=by
 refine aV fun i _=> ?_
 simp only[upd]
 by_cases h:i=m
 ·subst h;simp
 ·rw[if_neg h]
  by_cases h2:i < m
  ·rw[if_pos h2,if_pos (by omega)]
  ·rw[if_neg h2,if_neg (by omega)]
theorem BL (N:Nat→Int) (h:Bd N):cB Tryz.prog 75 [Ag (ae .u64 16 N)] (Ag (ae .u64 16 (FU N))):=by
 refine aK Tryz.func75 rfl (by kernel_rfl) (by simp[Tryz.ntmps75]) rfl rfl ?_
 simp only[Tryz.results75,Tryz.vr,Value.oneCell',simprocAttr, -List.reduceReplicate]
 refine aG 3 (fun k=>[(1,Ptr 0 0),(2,Ptr 1 0),(3,I .i64 k)])
  (fun k=>[(0,⟨true,ae .u64 16 (My N k)⟩),(1,⟨true,ae .u64 16 (fun _=>0)⟩)]) _ ?_ ?_ ?_
 ·simp only[bV,My,Tryz.vr,Value.oneCell',simprocAttr, -List.reduceReplicate]
 ·intro k hk
  have hb:=UW N h k
  have hs:My N (k+1)=dY (My N k):=rfl
  rw[hs]
  have hwk:=bD k (by omega)
  generalize My N k=M at*
  have hl3:((k:Int) < 3)=True:=cf (m:=3) hk
  simp only[Tryz.vr,Value.oneCell',simprocAttr, -List.reduceReplicate]
  refine aD (by simp;omega) ?_
  simp only[Tryz.vr,Value.oneCell',simprocAttr, -List.reduceReplicate]
  refine aG 16 (fun j=>[(1,Ptr 0 0),(2,Ptr 1 0),(3,I .i64 k),(4,I .u64 (sh M j)),(5,I .i64 j)])
   (fun j=>[(0,⟨true,ae .u64 16 (fun i=>if i < j then CC M i else M i)⟩),(1,⟨true,ae .u64 16 (fun _=>0)⟩)]) _ ?_ ?_ ?_
  ·simp only[bV,sh,Nat.not_lt_zero,Tryz.vr,Value.oneCell',simprocAttr, -List.reduceReplicate]
  ·intro j hj
   have hM:=hb j
   have hc:=ri M hb j
   have lf:((j:Int) < 16)=True:=cf (m:=16) hj
   have hw:IntKind.u64.wrap (M j+sh M j)=M j+sh M j:=au _ (by omega) (by omega)
   simp only[Tryz.vr,Value.oneCell',simprocAttr, -List.reduceReplicate]
   refine aD (by simp;omega) ?_
   simp only[lf,ay .u64 16 _ j hj,aA .u64 16 _ j hj,Nat.lt_irrefl,hw,bD j (by omega),Tryz.vr,Value.oneCell',simprocAttr, -List.reduceReplicate]
   rw[Int.tdiv_eq_ediv_of_nonneg (show 0≤M j+sh M j by omega),Int.tmod_eq_emod_of_nonneg (show 0≤M j+sh M j by omega),au _ (by omega) (by omega)]
   exact ⟨by omega,rfl,by rw[show (M j+sh M j)%65536=CC M j from rfl,fj]⟩
  ·simp only[Tryz.vr,Value.oneCell',simprocAttr, -List.reduceReplicate]
   refine aH (by decide) ?_
   simp only[ay .u64 16 _ 0 (by omega),aA .u64 16 _ 0 (by omega),hwk,Tryz.vr,Value.oneCell',simprocAttr, -List.reduceReplicate]
   have hc:=ri M hb 16
   have hd:=kS M 0
   rw[au (38*_) (by omega) (by omega),au _ (by omega) (by omega)]
   rw[aV (g:=dY M) fun i hi=> ?_]
   simp only[dY,upd,hi,if_true]
 ·simp only[Tryz.vr,Value.oneCell',simprocAttr, -List.reduceReplicate]
  refine aH (by decide) ?_
  simp only[Tryz.vr,Value.oneCell',simprocAttr, -List.reduceReplicate]
  rfl
theorem dG {k:IntKind} {n:Nat} {f g:Nat→Int}:ae k n (fun i=>if i < n then f i else g i)=ae k n f:=
 aV fun i hi=>by simp only[hi,if_true]
def iM (a b:Nat→Int):Nat→Int:=FU fun i=>a i+b i
def jM (i:Nat):Int:=if i=0 then 130996 else 131070
def fT (a b:Nat→Int):Nat→Int:=FU fun i=>a i+(jM i - b i)
theorem UX (a b:Nat→Int) (ha:dU a) (hb:dU b):Bd fun i=>a i+b i:=by
 intro i;have:=ha i;have:=hb i;simp only[];omega
theorem Mz (a b:Nat→Int) (ha:dU a) (hb:dU b):Bd fun i=>a i+(jM i - b i):=by
 intro i;have:=ha i;have:=hb i;simp only[jM];split<;>omega
theorem jF (a b:Nat→Int) (ha:dU a) (hb:dU b):cB Tryz.prog 94 [Ag (ae .u64 16 a),Ag (ae .u64 16 b)] (Ag (ae .u64 16 (iM a b))):=by
 refine aK Tryz.func94 rfl (by kernel_rfl) (by simp[Tryz.ntmps94]) rfl rfl ?_
 simp only[Tryz.results94,Tryz.vr,Value.oneCell',simprocAttr, -List.reduceReplicate]
 refine aG 16 (fun k=>[(2,Ptr 0 0),(3,Ptr 1 0),(4,Ptr 2 0),(5,I .i64 k)])
  (fun k=>[(0,⟨true,ae .u64 16 (fun i=>if i < k then a i+b i else a i)⟩),(1,⟨true,ae .u64 16 b⟩),(2,⟨true,ae .u64 16 (fun _=>0)⟩)]) _ ?_ ?_ ?_
 ·simp only[bV,Nat.not_lt_zero,Tryz.vr,Value.oneCell',simprocAttr, -List.reduceReplicate]
 ·intro j hj
  have h1:=ha j
  have h2:=hb j
  have lf:((j:Int) < 16)=True:=cf (m:=16) hj
  have hw:IntKind.u64.wrap (a j+b j)=a j+b j:=au _ (by omega) (by omega)
  simp only[Tryz.vr,Value.oneCell',simprocAttr, -List.reduceReplicate]
  refine aD (by simp;omega) ?_
  simp only[lf,ay .u64 16 _ j hj,aA .u64 16 _ j hj,Nat.lt_irrefl,hw,bD j (by omega),Tryz.vr,Value.oneCell',simprocAttr, -List.reduceReplicate]
  exact ⟨by kernel_rfl,by omega,congrArg (fun c=>some (aW.mk true c)) (fj (f:=fun i=>a i+b i) (g:=a))⟩
 ·simp only[Tryz.vr,Value.oneCell',simprocAttr, -List.reduceReplicate]
  refine aH (by decide) ?_
  have e:ae .u64 16 (fun i=>if i < 16 then a i+b i else a i)=ae .u64 16 (fun i=>a i+b i):=dG
  simp only[e,Tryz.vr,Value.oneCell',simprocAttr, -List.reduceReplicate]
  refine (BL _ (UX a b ha hb)).aB ?_
  simp only[Tryz.vr,Value.oneCell',simprocAttr, -List.reduceReplicate]
  rfl
theorem iN (a b:Nat→Int) (ha:dU a) (hb:dU b):cB Tryz.prog 95 [Ag (ae .u64 16 a),Ag (ae .u64 16 b)] (Ag (ae .u64 16 (fT a b))):=by
 refine aK Tryz.func95 rfl (by kernel_rfl) (by simp[Tryz.ntmps95]) rfl rfl ?_
 have hw: ∀ j,IntKind.u64.wrap (a j+IntKind.u64.wrap (jM j - b j))=a j+(jM j - b j):=fun j=>by
  have h1:=ha j
  have h2:=hb j
  have ho:130996≤jM j∧jM j≤131070:=by simp only[jM];split<;>omega
  rw[au (jM j - b j) (by omega) (by omega),au _ (by omega) (by omega)]
 have h0:=hw 0
 rw[show jM 0=130996 from rfl]at h0
 simp only[Tryz.results95,ay .u64 16 _ 0 (by omega),aA .u64 16 _ 0 (by omega),h0,Tryz.vr,Value.oneCell',simprocAttr, -List.reduceReplicate]
 refine aG 15 (fun k=>[(2,Ptr 0 0),(3,Ptr 1 0),(4,Ptr 2 0),(5,I .i64 ((k+1:Nat):Int))])
  (fun k=>[(0,⟨true,ae .u64 16 (fun i=>if i < k+1 then a i+(jM i - b i) else a i)⟩),(1,⟨true,ae .u64 16 b⟩),(2,⟨true,ae .u64 16 (fun _=>0)⟩)]) _ ?_ ?_ ?_
 ·have e:ae .u64 16 (upd a 0 (a 0+(130996 - b 0)))=ae .u64 16 (fun i=>if i < 0+1 then a i+(jM i - b i) else a i):=aV fun i _=>by
   by_cases hi:i=0
   ·subst hi;rfl
   ·simp only[upd,if_neg hi,if_neg (show ¬ i < 0+1 by omega)]
  simp only[bV,e,Tryz.vr,Value.oneCell',simprocAttr, -List.reduceReplicate]
 ·intro j hj
  have Wz:j+1 < 16:=by omega
  have lf:(((j+1:Nat):Int) < 16)=True:=cf (m:=16) Wz
  have ho:jM (j+1)=(131070:Int):=by simp[jM]
  have hwj:=hw (j+1)
  have he:ae .u64 16 (upd (fun i=>if i < j+1 then a i+(jM i - b i) else a i) (j+1) (a (j+1)+(131070 - b (j+1))))=ae .u64 16 (fun i=>if i < j+1+1 then a i+(jM i - b i) else a i):=by
   rw[← ho];exact fj (f:=fun i=>a i+(jM i - b i)) (g:=a)
  rw[ho]at hwj
  simp only[Tryz.vr,Value.oneCell',simprocAttr, -List.reduceReplicate]
  refine aD (by simp;omega) ?_
  simp only[lf,ay .u64 16 _ (j+1) Wz,aA .u64 16 _ (j+1) Wz,Nat.lt_irrefl,hwj,bD (j+1) (by omega),Tryz.vr,Value.oneCell',simprocAttr, -List.reduceReplicate]
  exact ⟨by kernel_rfl,by omega,by rw[he]⟩
 ·simp only[Tryz.vr,Value.oneCell',simprocAttr, -List.reduceReplicate]
  refine aH (by decide) ?_
  have e:ae .u64 16 (fun i=>if i < 15+1 then a i+(jM i - b i) else a i)=ae .u64 16 (fun i=>a i+(jM i - b i)):=dG
  have e':ae .u64 16 (fun i=>if i < 16 then a i+(jM i - b i) else a i)=ae .u64 16 (fun i=>a i+(jM i - b i)):=dG
  simp only[e,e',Tryz.vr,Value.oneCell',simprocAttr, -List.reduceReplicate]
  refine (BL _ (Mz a b ha hb)).aB ?_
  simp only[Tryz.vr,Value.oneCell',simprocAttr, -List.reduceReplicate]
  rfl
end Go.Proofs.YtoakenpcooglpaaGreatDoor
namespace Go.Proofs.YtoakenpcooglpaaGreatDoor
open Go.cA
set_option linter.unusedSectionVars false
variable [aX]
def MA (f:Nat→Int) (x:Int) (b:Nat→Int) (i:Nat):Nat→Nat→Int
 | 0=>f
 | j+1=>upd (MA f x b i j) (i+j) (MA f x b i j (i+j)+x*b j)
def MB (f:Nat→Int) (x:Int) (b:Nat→Int) (i:Nat):Nat→Nat→Int
 | 0=>f
 | m+1=>upd (MB f x b i m) m (MB f x b i m m+x*b (16 - i+m))
def lH (a b:Nat→Int):Nat→Nat→Int
 | 0=>fun _=>0
 | i+1=>MA (lH a b i) (a i) b i (16 - i)
def gA (a b:Nat→Int):Nat→Nat→Int
 | 0=>fun _=>0
 | i+1=>MB (gA a b i) (a i) b i i
theorem OZ (f:Nat→Int) (x:Int) (b:Nat→Int) (i:Nat): ∀ j k,MA f x b i j k=f k+if i≤k∧k < i+j then x*b (k - i) else 0
 | 0,k=>by simp only[MA];rw[if_neg (by omega)];omega
 | j+1,k=>by
  simp only[MA,upd]
  by_cases h:k=i+j
  ·subst h
   rw[if_pos rfl,OZ f x b i j,if_neg (by omega),if_pos (by omega),show i+j - i=j from by omega];omega
  ·rw[if_neg h,OZ f x b i j]
   by_cases h2:i≤k∧k < i+j
   ·rw[if_pos h2,if_pos (by omega)]
   ·rw[if_neg h2,if_neg (by omega)]
theorem O0 (f:Nat→Int) (x:Int) (b:Nat→Int) (i:Nat): ∀ m k,MB f x b i m k=f k+if k < m then x*b (16 - i+k) else 0
 | 0,k=>by simp only[MB];rw[if_neg (by omega)];omega
 | m+1,k=>by
  simp only[MB,upd]
  by_cases h:k=m
  ·subst h
   rw[if_pos rfl,O0 f x b i k,if_neg (by omega),if_pos (by omega)];omega
  ·rw[if_neg h,O0 f x b i m]
   by_cases h2:k < m
   ·rw[if_pos h2,if_pos (by omega)]
   ·rw[if_neg h2,if_neg (by omega)]
theorem UY {x y:Int} (hx:0≤x∧x < 65536) (hy:0≤y∧y < 65536):0≤x*y∧x*y≤4294836225:=
 pP hx.1 (show x≤65535 by omega) hy.1 (show y≤65535 by omega)
theorem aas {f:Nat→Int} {x:Int} {b:Nat→Int} {B:Int} (hx:0≤x∧x < 65536) (hb:dU b) (hf: ∀ k,0≤f k∧f k≤B) (i j k:Nat):0≤MA f x b i j k∧MA f x b i j k≤B+4294836225:=by
 rw[OZ]
 have:=hf k
 have:=UY hx (hb (k - i))
 split<;>omega
theorem aat {f:Nat→Int} {x:Int} {b:Nat→Int} {B:Int} (hx:0≤x∧x < 65536) (hb:dU b) (hf: ∀ k,0≤f k∧f k≤B) (i j k:Nat):0≤MB f x b i j k∧MB f x b i j k≤B+4294836225:=by
 rw[O0]
 have:=hf k
 have:=UY hx (hb (16 - i+k))
 split<;>omega
theorem wT (a b:Nat→Int) (ha:dU a) (hb:dU b): ∀ i k,0≤lH a b i k∧lH a b i k≤i*4294836225
 | 0,k=>by simp[lH]
 | i+1,k=>by
  have:=aas (ha i) hb (wT a b ha hb i) i (16 - i) k
  simp only[lH];omega
theorem sk (a b:Nat→Int) (ha:dU a) (hb:dU b): ∀ i k,0≤gA a b i k∧gA a b i k≤i*4294836225
 | 0,k=>by simp[gA]
 | i+1,k=>by
  have:=aat (ha i) hb (sk a b ha hb i) i i k
  simp only[gA];omega
def mC (a b:Nat→Int) (k:Nat):Int:=lH a b 16 k+38*gA a b 16 k
theorem FV (a b:Nat→Int) (ha:dU a) (hb:dU b):Bd (mC a b):=by
 intro i
 have:=wT a b ha hb 16 i
 have:=sk a b ha hb 16 i
 simp only[mC];omega
def du (a b:Nat→Int):Nat→Int:=FU (mC a b)
theorem FW (N:Nat→Int) (n:Nat):val N (n+1)=val N n+N n*65536^n:=rfl
theorem UZ (f:Nat→Int) (x:Int) (b:Nat→Int) (i:Nat) (hi:i < 16): ∀ j,i+j≤16→val (MA f x b i j) 16=val f 16+x*65536^i*val b j
 | 0,_=>by simp only[MA,val];omega
 | j+1,h=>by
  rw[MA,G7 _ _ _ 16 (by omega),UZ f x b i hi j (by omega),FW b j,Int.pow_add];grind
theorem U0 (f:Nat→Int) (x:Int) (b:Nat→Int) (i:Nat) (hi:i < 16): ∀ m,m≤i→65536^16*val (MB f x b i m) 16+x*65536^i*val b (16 - i)=65536^16*val f 16+x*65536^i*val b (16 - i+m)
 | 0,_=>by simp only[MB,Nat.add_zero]
 | m+1,h=>by
  have ih:=U0 f x b i hi m (by omega)
  have hp:(65536:Int)^16=65536^i*65536^(16 - i):=by rw[← Int.pow_add,show i+(16 - i)=16 from by omega]
  rw[MB,G7 _ _ _ 16 (by omega),show 16 - i+(m+1)=(16 - i+m)+1 from by omega,FW b (16 - i+m),Int.pow_add]
  generalize val (MB f x b i m) 16=v at*
  rw[hp]at ih ⊢
  grind
theorem MC (a b:Nat→Int): ∀ i,i≤16→val (lH a b i) 16+65536^16*val (gA a b i) 16=val a i*val b 16
 | 0,_=>by
  have h: ∀ n,val (fun _=>0) n=0:=by
   intro n;induction n with
   | zero=>rfl
   | succ n ih=>rw[val,ih];omega
  simp only[lH,gA,h,val];omega
 | i+1,h=>by
  have ih:=MC a b i (by omega)
  have h1:=UZ (lH a b i) (a i) b i (by omega) (16 - i) (by omega)
  have h2:=U0 (gA a b i) (a i) b i (by omega) i (Nat.le_refl i)
  rw[show 16 - i+i=16 from by omega]at h2
  rw[lH,gA,FW a i,h1]
  grind
theorem val_add (a b:Nat→Int): ∀ n,val (fun i=>a i+b i) n=val a n+val b n
 | 0=>by simp[val]
 | n+1=>by rw[val,val,val,val_add a b n];grind
theorem MD (c:Int) (a:Nat→Int): ∀ n,val (fun i=>c*a i) n=c*val a n
 | 0=>by simp[val]
 | n+1=>by rw[val,val,MD c a n];grind
theorem val_sub (a b:Nat→Int): ∀ n,val (fun i=>a i - b i) n=val a n - val b n
 | 0=>by simp[val]
 | n+1=>by rw[val,val,val,val_sub a b n];grind
theorem kT (a b:Nat→Int) (ha:dU a) (hb:dU b):dU (du a b)∧val (du a b) 16%PP=val a 16*val b 16%PP:=by
 obtain ⟨h1,h2⟩:=rj _ (FV a b ha hb)
 refine ⟨h1, ?_⟩
 rw[du,h2]
 have hp:=MC a b 16 (Nat.le_refl 16)
 have e:val (mC a b) 16=val (lH a b 16) 16+38*val (gA a b 16) 16:=by
  rw[show mC a b=fun k=>lH a b 16 k+(fun k=>38*gA a b 16 k) k from rfl,val_add,MD]
 rw[e, ← hp]
 refine cg (q:= -2*val (gA a b 16) 16) ?_
 rw[show (65536:Int)^16=115792089237316195423570985008687907853269984665640564039457584007913129639936 from by decide]
 simp only[PP];omega
theorem rk (a b:Nat→Int) (ha:dU a) (hb:dU b):dU (iM a b)∧val (iM a b) 16%PP=(val a 16+val b 16)%PP:=by
 obtain ⟨h1,h2⟩:=rj _ (UX a b ha hb)
 exact ⟨h1,by rw[iM,h2,val_add]⟩
theorem n8 (a b:Nat→Int) (ha:dU a) (hb:dU b):dU (fT a b)∧val (fT a b) 16%PP=(val a 16 - val b 16)%PP:=by
 obtain ⟨h1,h2⟩:=rj _ (Mz a b ha hb)
 refine ⟨h1, ?_⟩
 rw[fT,h2,show (fun i=>a i+(jM i - b i))=fun i=>a i+(fun i=>jM i - b i) i from rfl,val_add,val_sub]
 refine cg (q:=4) ?_
 have:val jM 16=4*PP:=by simp[val,jM,PP]
 omega
end Go.Proofs.YtoakenpcooglpaaGreatDoor
set_option maxHeartbeats 4000000
set_option maxRecDepth 20000
namespace Go.Proofs.YtoakenpcooglpaaGreatDoor
open Go.cA
set_option linter.unusedSectionVars false
variable [aX]
theorem I0 (n m:Nat) (h:n+m < 9223372036854775807):IntKind.i64.wrap ((n:Int)+(m:Int))=((n+m:Nat):Int):=wrap_i64 _ (by omega) (by omega)
theorem eW (a b:Nat→Int) (ha:dU a) (hb:dU b):cB Tryz.prog 48 [Ag (ae .u64 16 a),Ag (ae .u64 16 b)] (Ag (ae .u64 16 (du a b))):=by
 refine aK Tryz.func48 rfl (by kernel_rfl) (by simp[Tryz.ntmps48]) rfl rfl ?_
 simp only[Tryz.results48,Tryz.vr,Value.oneCell',simprocAttr, -List.reduceReplicate]
 refine aG 16 (fun i=>[(2,Ptr 0 0),(3,Ptr 1 0),(4,Ptr 2 0),(5,Ptr 3 0),(6,Ptr 4 0),(7,I .i64 i)])
  (fun i=>[(0,⟨true,ae .u64 16 a⟩),(1,⟨true,ae .u64 16 b⟩),(2,⟨true,ae .u64 16 (fun _=>0)⟩),(3,⟨true,ae .u64 16 (lH a b i)⟩),(4,⟨true,ae .u64 16 (gA a b i)⟩)]) _ ?_ ?_ ?_
 ·simp only[bV,lH,gA,Tryz.vr,Value.oneCell',simprocAttr, -List.reduceReplicate]
 ·intro i hi
  have lf:((i:Int) < 16)=True:=cf (m:=16) hi
  have hf:=wT a b ha hb i
  have hg:=sk a b ha hb i
  have hai:=ha i
  have hsl:lH a b (i+1)=MA (lH a b i) (a i) b i (16 - i):=rfl
  have hsh:gA a b (i+1)=MB (gA a b i) (a i) b i i:=rfl
  have FC:IntKind.i64.wrap ((16:Int) - i)=((16 - i:Nat):Int):=by rw[wrap_i64 _ (by omega) (by omega)];omega
  have hwi:=bD i (by omega)
  rw[hsl,hsh]
  generalize lH a b i=f at*
  generalize gA a b i=g at*
  simp only[Tryz.vr,Value.oneCell',simprocAttr, -List.reduceReplicate]
  refine aD (by simp;omega) ?_
  simp only[lf,ay .u64 16 _ i hi,Tryz.vr,Value.oneCell',simprocAttr, -List.reduceReplicate]
  refine aG (16 - i) (fun j=>[(2,Ptr 0 0),(3,Ptr 1 0),(4,Ptr 2 0),(5,Ptr 3 0),(6,Ptr 4 0),(7,I .i64 i),(8,I .u64 (a i)),(9,I .i64 j)])
   (fun j=>[(0,⟨true,ae .u64 16 a⟩),(1,⟨true,ae .u64 16 b⟩),(2,⟨true,ae .u64 16 (fun _=>0)⟩),(3,⟨true,ae .u64 16 (MA f (a i) b i j)⟩),(4,⟨true,ae .u64 16 g⟩)]) _ ?_ ?_ ?_
  ·simp only[bV,MA,Tryz.vr,Value.oneCell',simprocAttr, -List.reduceReplicate]
  ·intro j hj
   have aau:j < 16:=by omega
   have hij:i+j < 16:=by omega
   have Cy:((j:Int) < 16)=True:=cf (m:=16) aau
   have alX:(((i+j:Nat):Int) < 16)=True:=cf (m:=16) hij
   have hx:=aas (x:=a i) hai hb hf i j (i+j)
   have hd:=UY hai (hb j)
   have hm:IntKind.u64.wrap (a i*b j)=a i*b j:=au _ (by omega) (by omega)
   have hw:IntKind.u64.wrap (MA f (a i) b i j (i+j)+a i*b j)=MA f (a i) b i j (i+j)+a i*b j:=au _ (by omega) (by omega)
   simp only[FC,Tryz.vr,Value.oneCell',simprocAttr, -List.reduceReplicate]
   refine aD (by simp;omega) ?_
   simp only[Cy,alX,I0 i j (by omega),ay .u64 16 _ j aau,ay .u64 16 _ (i+j) hij,aA .u64 16 _ (i+j) hij,hm,hw,bD j (by omega),Tryz.vr,Value.oneCell',simprocAttr, -List.reduceReplicate]
   exact ⟨by kernel_rfl,by omega,rfl⟩
  ·simp only[FC,Tryz.vr,Value.oneCell',simprocAttr, -List.reduceReplicate]
   refine aH (by simp) ?_
   simp only[FC,Tryz.vr,Value.oneCell',simprocAttr, -List.reduceReplicate]
   refine aG i (fun m=>[(2,Ptr 0 0),(3,Ptr 1 0),(4,Ptr 2 0),(5,Ptr 3 0),(6,Ptr 4 0),(7,I .i64 i),(8,I .u64 (a i)),(10,I .i64 ((16 - i+m:Nat):Int))])
    (fun m=>[(0,⟨true,ae .u64 16 a⟩),(1,⟨true,ae .u64 16 b⟩),(2,⟨true,ae .u64 16 (fun _=>0)⟩),(3,⟨true,ae .u64 16 (MA f (a i) b i (16 - i))⟩),(4,⟨true,ae .u64 16 (MB g (a i) b i m)⟩)]) _ ?_ ?_ ?_
   ·simp only[bV,MB,Tryz.vr,Value.oneCell',simprocAttr, -List.reduceReplicate]
   ·intro m hm
    have agz:m < 16:=by omega
    have aau:16 - i+m < 16:=by omega
    have Cy:(((16 - i+m:Nat):Int) < 16)=True:=cf (m:=16) aau
    have hlm:((m:Int) < 16)=True:=cf (m:=16) agz
    have hx:=aat (x:=a i) hai hb hg i m m
    have hd:=UY hai (hb (16 - i+m))
    have hmu:IntKind.u64.wrap (a i*b (16 - i+m))=a i*b (16 - i+m):=au _ (by omega) (by omega)
    have hw:IntKind.u64.wrap (MB g (a i) b i m m+a i*b (16 - i+m))=MB g (a i) b i m m+a i*b (16 - i+m):=au _ (by omega) (by omega)
    have hs:IntKind.i64.wrap (((i+(16 - i+m):Nat):Int) - 16)=(m:Int):=by rw[wrap_i64 _ (by omega) (by omega)];omega
    simp only[Tryz.vr,Value.oneCell',simprocAttr, -List.reduceReplicate]
    refine aD (by simp;omega) ?_
    simp only[Cy,hlm,I0 i (16 - i+m) (by omega),hs,ay .u64 16 _ m agz,ay .u64 16 _ (16 - i+m) aau,aA .u64 16 _ m agz,hmu,hw,bD (16 - i+m) (by omega),Tryz.vr,Value.oneCell',simprocAttr, -List.reduceReplicate]
    exact ⟨by kernel_rfl,by omega,rfl,rfl⟩
   ·simp only[Tryz.vr,Value.oneCell',simprocAttr, -List.reduceReplicate]
    refine aH (by simp;omega) ?_
    simp only[hwi,Tryz.vr,Value.oneCell',simprocAttr, -List.reduceReplicate]
 ·simp only[Tryz.vr,Value.oneCell',simprocAttr, -List.reduceReplicate]
  refine aH (by decide) ?_
  simp only[Tryz.vr,Value.oneCell',simprocAttr, -List.reduceReplicate]
  have hf:=wT a b ha hb 16
  have hg:=sk a b ha hb 16
  refine aG 16 (fun k=>[(4,Ptr 2 0),(5,Ptr 3 0),(6,Ptr 4 0),(11,I .i64 k)])
   (fun k=>[(2,⟨true,ae .u64 16 (fun _=>0)⟩),(3,⟨true,ae .u64 16 (fun i=>if i < k then mC a b i else lH a b 16 i)⟩),(4,⟨true,ae .u64 16 (gA a b 16)⟩)]) _ ?_ ?_ ?_
  ·simp only[bV,Nat.not_lt_zero,Tryz.vr,Value.oneCell',simprocAttr, -List.reduceReplicate]
  ·intro k hk
   have h1:=hf k
   have h2:=hg k
   have lf:((k:Int) < 16)=True:=cf (m:=16) hk
   have hw1:IntKind.u64.wrap (38*gA a b 16 k)=38*gA a b 16 k:=au _ (by omega) (by omega)
   have hw:IntKind.u64.wrap (lH a b 16 k+38*gA a b 16 k)=mC a b k:=au _ (by omega) (by omega)
   simp only[Tryz.vr,Value.oneCell',simprocAttr, -List.reduceReplicate]
   refine aD (by simp;omega) ?_
   simp only[lf,ay .u64 16 _ k hk,aA .u64 16 _ k hk,Nat.lt_irrefl,hw1,hw,bD k (by omega),Tryz.vr,Value.oneCell',simprocAttr, -List.reduceReplicate]
   exact ⟨by kernel_rfl,by omega,by rw[fj]⟩
  ·simp only[Tryz.vr,Value.oneCell',simprocAttr, -List.reduceReplicate]
   refine aH (by decide) ?_
   have e:ae .u64 16 (fun i=>if i < 16 then mC a b i else lH a b 16 i)=ae .u64 16 (mC a b):=dG
   simp only[e,Tryz.vr,Value.oneCell',simprocAttr, -List.reduceReplicate]
   refine (BL _ (FV a b ha hb)).aB ?_
   simp only[Tryz.vr,Value.oneCell',simprocAttr, -List.reduceReplicate]
   rfl
end Go.Proofs.YtoakenpcooglpaaGreatDoor
