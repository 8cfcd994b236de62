/-
  What the row's condition gives: where the sentinels lie, and that the tables lie as the calculus asks.
-/
import Derived.Test.YtpnehhpadofcbaaGreatDoorVcgFacts
import Derived.Test.YtpnehhpadofcbaaGreatDoorRows
import Derived.WalkKit
import Derived.ProofKit
import Derived.OpenShut
import Derived.ShutString
import Derived.ChangeOld
import Derived.Below
import Derived.SizedLaws
import Derived.Deep.Strs
import Derived.LaidMore
import Derived.LaidLaws
import Derived.Handed
import Derived.Stop.Joined
set_option maxRecDepth 100000
set_option linter.unusedVariables false
set_option linter.unusedSimpArgs false
namespace Go.Proofs.YtpnehhpadofcbaaGreatDoor.lawDecryptDone

open Go.ChangeShapes Go.WideShapes Go.ChangeAt Go.RowKit
open Go.bU
set_option linter.unusedVariables false
set_option linter.unusedSimpArgs false
theorem jU:Tryz.prog.cellsOf 24=1:=by kernel_rfl
theorem gb0:Tryz.prog.globalNamed "ratchet/machine.errBad" =some 0:=by kernel_rfl
theorem gb1:Tryz.prog.globalNamed "ratchet/machine.errTooLong" =some 8:=by kernel_rfl
theorem gb2:Tryz.prog.globalNamed "ratchet/machine.errNotReady" =some 7:=by kernel_rfl
theorem gb3:Tryz.prog.globalNamed "ratchet/machine.errCounter" =some 2:=by kernel_rfl
theorem gb4:Tryz.prog.globalNamed "ratchet/machine.errMalformed" =some 1:=by kernel_rfl
theorem gb5:Tryz.prog.globalNamed "ratchet/machine.errBadTag" =some 3:=by kernel_rfl
theorem gb6:Tryz.prog.globalNamed "ratchet/machine.errSkipLimit" =some 4:=by kernel_rfl
theorem gb7:Tryz.prog.globalNamed "ratchet/machine.errStoreFull" =some 5:=by kernel_rfl
theorem gb8:Tryz.prog.globalNamed "ratchet/machine.errOld" =some 6:=by kernel_rfl
theorem ge: ∀ g,g < 9→(Tryz.prog.globals[g]?).map (·.type)=some 50:=by
 have h:((List.range 9).all fun g=>(Tryz.prog.globals[g]?).map (·.type)==some 50)=true:=by kernel_rfl
 intro g hg
 have:=List.all_eq_true.1 h g (List.mem_range.2 hg)
 simpa using this
theorem g0:Tryz.prog.globalNamed "ratchet/ratchetref.firstValue" =some 9:=by kernel_rfl
theorem g1:Tryz.prog.globalNamed "ratchet/ratchetref.rootsOfPrimes" =some 10:=by kernel_rfl
theorem g2:Tryz.prog.globalNamed "ratchet/prim.roundConstants" =some 11:=by kernel_rfl
theorem t0:(Tryz.prog.globals[9]?).map (·.type)=some 189:=by kernel_rfl
theorem t1:(Tryz.prog.globals[10]?).map (·.type)=some 203:=by kernel_rfl
theorem t2:(Tryz.prog.globals[11]?).map (·.type)=some 203:=by kernel_rfl
def tabs:List (String×DataW Unit):=[("ratchet/ratchetref.firstValue",Rows.laid_ratchet_ratchetref_firstValue),("ratchet/ratchetref.rootsOfPrimes",Rows.laid_ratchet_ratchetref_rootsOfPrimes),("ratchet/prim.roundConstants",Rows.laid_ratchet_prim_roundConstants),
 ("ratchet/machine.errBad",Rows.laid_ratchet_machine_errBad),("ratchet/machine.errMalformed",Rows.laid_ratchet_machine_errMalformed),("ratchet/machine.errBadTag",Rows.laid_ratchet_machine_errBadTag),("ratchet/machine.errSkipLimit",Rows.laid_ratchet_machine_errSkipLimit),("ratchet/machine.errStoreFull",Rows.laid_ratchet_machine_errStoreFull),("ratchet/machine.errCounter",Rows.laid_ratchet_machine_errCounter),("ratchet/machine.errOld",Rows.laid_ratchet_machine_errOld),("ratchet/machine.errNotReady",Rows.laid_ratchet_machine_errNotReady),("ratchet/machine.errTooLong",Rows.laid_ratchet_machine_errTooLong)]
theorem d0:(Rows.laid_ratchet_ratchetref_firstValue:DataW Unit)= .agg ((List.range 8).map fun i=> .lit (.int .u32 (cj i))):=by kernel_rfl
theorem d1:(Rows.laid_ratchet_ratchetref_rootsOfPrimes:DataW Unit)= .agg ((List.range 64).map fun i=> .lit (.int .u32 (kW i))):=by kernel_rfl
theorem d2:(Rows.laid_ratchet_prim_roundConstants:DataW Unit)= .agg ((List.range 64).map fun i=> .lit (.int .u32 (kW i))):=by kernel_rfl
theorem abR (u:TypeId) (h:Tryz.prog.typeName? 3 u=some "*errors.errorString"):u=219:=
 typeName_ptr_named (nm:="errors.errorString") (tp:=219) (by kernel_rfl) (by kernel_rfl) (by decide) u h
theorem T4:Tryz.prog.cellsOf 9=1:=by kernel_rfl
theorem Wm:Tryz.prog.cellsOf 244=1:=by kernel_rfl
theorem xO {W:World} {t n fuel:Nat} {f:Nat→Int} {cs:List Value} {p:List MemPlace} {sp:Nat→Bool} {held:Bool} (ht:Tryz.prog.underlying t=some (.array n 24))
  (h:DataW.trod (fun _=>()) Tryz.prog W 0 sp held fuel t cs=some (.agg ((List.range n).map fun i=> .lit (.int .u32 (f i))),p)): ∀ i,i < n→cs[i]? =some (.int .u32 (f i)):=by
 intro i hi
 obtain ⟨xs,m,rfl,hx,hlen,hxl,hel⟩:=DataW.trod_array ht h
 have he:=hel i hi
 rw[jU,Nat.mul_one]at he
 have hxi:i < xs.length:=by omega
 rw[List.getElem?_eq_getElem hxi]at he
 obtain ⟨z,hc,hz,hw⟩:=DataW.trod_int Tryz.underlying24 he
 have e1:(xs.map (·.1))[i]? =((List.range n).map fun i=>(DataW.lit (.int .u32 (f i)):DataW Unit))[i]? :=by
  have:=congrArg Prod.fst hx
  simp only[DataW.agg.injEq]at this
  rw[this]
 rw[List.getElem?_map,List.getElem?_map,List.getElem?_range hi,List.getElem?_eq_getElem hxi]at e1
 simp only[Option.map_some,Option.some.injEq]at e1
 rw[hz]at e1
 simp only[DataW.lit.injEq,Lit.int.injEq,true_and]at e1
 subst e1
 have:((cs.drop i).take 1)[0]? =some (.int .u32 (f i)):=by rw[hc];rfl
 rw[List.getElem?_take_of_lt (by decide),List.getElem?_drop]at this
 simpa using this
theorem pE {W:World} {b i:Nat} {v:Value} (h:W.cell? ⟨b,i,none⟩=some v):b < W.heap.size:=by
 rcases Nat.lt_or_ge b W.heap.size with hb | hb
 ·exact hb
 ·have hn:W.heap[b]? =none:=Array.getElem?_eq_none hb
  simp[World.cell?,hn]at h
theorem sent {W:World} {f:Nat} {cs:Array Value} {text:List UInt8} {p:List MemPlace} {n:String} {g:Nat} (hg:Tryz.prog.globalNamed n=some g) (hv:W.var? Tryz.prog n=some cs)
  (hd:DataW.trod (fun _=>()) Tryz.prog W 0 (fun _=>true) false f 50 cs.toList=some (.iface "*errors.errorString" (.ptr (.agg [.lit (.string text)])),p))
  (hok:cs.size=1→ ∀ u v,W.cell? ⟨g,0,none⟩=some (.iface u v)→Value.okWide Tryz.prog W .any 0 u v):
  ∃ a,W.cell? ⟨g,0,none⟩=some (.iface 219 (.pointer (some a)))∧p=[.cell a.block a.off]∧cs.size=1:=by
 obtain ⟨l⟩:=cs
 have ok: ∀ u v,l=[.iface u v]→Value.okWide Tryz.prog W .any 0 u v:=fun u v e=>by
  subst e
  exact hok rfl u v (by simpa using World.var?_cell hg hv 0)
 obtain ⟨a,s,rfl,hc,hs,hz,rfl⟩:=errorString_of_trod Tryz.underlying50 abR Tryz.underlying219 Tryz.underlying244 rfl rfl Tryz.underlying9 Wm T4 hd ok
 exact ⟨a,by simpa using World.var?_cell hg hv 0,by simp[MemPlace.row],rfl⟩
theorem kj {R q q':List MemPlace} {x:MemPlace} (h:q'.Sublist q):(x::q').Sublist (R++[x]++q):=by
 rw[List.append_assoc]
 exact (List.Sublist.cons_cons x h).trans (List.sublist_append_right R _)
theorem Ge {α β:Type} (f:α→β) {l:List α} (h:(l.map f).Nodup):l.Nodup:=by
 unfold List.Nodup at h ⊢
 exact (List.pairwise_map.1 h).imp fun hab e=>hab (congrArg f e)
def perm (i:Nat):Nat:=[0,8,7,5,1,2,3,4,6].getD i 0
theorem Gf: ∀ i,i < 9→perm i < 9:=by decide
theorem T5: ∀ i,i < 9→ ∀ j,j < 9→perm i=perm j→i=j:=by decide
theorem Wn {W:World} (h:laidMetH Tryz.prog tabs W): ∃ _:aO,Laid Tryz.prog W:=by
 rw[MakeChecks.laidMetH_plain _ _ _ (by kernel_rfl)]at h
 obtain ⟨ps,⟨a0,u0,cs0,f0,p0,q0,ha0,hu0,LP,ME,⟨a1,u1,kk,f1,p1,q1,ha1,hu1,hv1,hd1,⟨a2,u2,mD,f2,p2,q2,ha2,Vz,Wg,hd2,⟨a3,u3,xP,f3,p3,q3,ha3,hu3,hv3,hd3,⟨a4,u4,C0,f4,p4,q4,ha4,hu4,hv4,hd4,⟨a5,u5,pZ,f5,p5,q5,ha5,hu5,hv5,hd5,⟨a6,u6,cs6,f6,p6,q6,ha6,hu6,hv6,hd6,⟨a7,u7,cs7,f7,p7,q7,ha7,hu7,hv7,hd7,⟨a8,u8,cs8,f8,p8,q8,ha8,hu8,hv8,hd8,⟨a9,u9,cs9,f9,p9,q9,ha9,hu9,hv9,hd9,⟨a10,u10,ahP,f10,X1,q10,abU,aem,aen,aeo,⟨a11,u11,ahQ,f11,X0,q11,abV,aep,aeq,aer,_,Zs⟩,Wo⟩,e9⟩,e8⟩,e7⟩,e6⟩,e5⟩,e4⟩,e3⟩,e2⟩,e1⟩,e0⟩,hnd,hrows⟩:=h
 obtain rfl:=Option.some.inj (g0.symm.trans ha0)
 obtain rfl:=Option.some.inj (g1.symm.trans ha1)
 obtain rfl:=Option.some.inj (g2.symm.trans ha2)
 obtain rfl:=Option.some.inj (gb0.symm.trans ha3)
 obtain rfl:=Option.some.inj (gb4.symm.trans ha4)
 obtain rfl:=Option.some.inj (gb5.symm.trans ha5)
 obtain rfl:=Option.some.inj (gb6.symm.trans ha6)
 obtain rfl:=Option.some.inj (gb7.symm.trans ha7)
 obtain rfl:=Option.some.inj (gb3.symm.trans ha8)
 obtain rfl:=Option.some.inj (gb8.symm.trans ha9)
 obtain rfl:=Option.some.inj (gb2.symm.trans abU)
 obtain rfl:=Option.some.inj (gb1.symm.trans abV)
 obtain rfl:=Option.some.inj (t0.symm.trans hu0)
 obtain rfl:=Option.some.inj (t1.symm.trans hu1)
 obtain rfl:=Option.some.inj (t2.symm.trans Vz)
 obtain rfl:=Option.some.inj ((ge _ (by decide)).symm.trans hu3)
 obtain rfl:=Option.some.inj ((ge _ (by decide)).symm.trans hu4)
 obtain rfl:=Option.some.inj ((ge _ (by decide)).symm.trans hu5)
 obtain rfl:=Option.some.inj ((ge _ (by decide)).symm.trans hu6)
 obtain rfl:=Option.some.inj ((ge _ (by decide)).symm.trans hu7)
 obtain rfl:=Option.some.inj ((ge _ (by decide)).symm.trans hu8)
 obtain rfl:=Option.some.inj ((ge _ (by decide)).symm.trans hu9)
 obtain rfl:=Option.some.inj ((ge _ (by decide)).symm.trans aem)
 obtain rfl:=Option.some.inj ((ge _ (by decide)).symm.trans aep)
 rw[d0]at ME
 rw[d1]at hd1
 rw[d2]at hd2
 have m0: ∀ x,x ∈ q0→x ∈ ps:=fun x hx=>by rw[e0];exact List.mem_append_right _ hx
 have m1: ∀ x,x ∈ q1→x ∈ ps:=fun x hx=>m0 x (by rw[e1];exact List.mem_append_right _ hx)
 have m2: ∀ x,x ∈ q2→x ∈ ps:=fun x hx=>m1 x (by rw[e2];exact List.mem_append_right _ hx)
 have m3: ∀ x,x ∈ q3→x ∈ ps:=fun x hx=>m2 x (by rw[e3];exact List.mem_append_right _ hx)
 have m4: ∀ x,x ∈ q4→x ∈ ps:=fun x hx=>m3 x (by rw[e4];exact List.mem_append_right _ hx)
 have m5: ∀ x,x ∈ q5→x ∈ ps:=fun x hx=>m4 x (by rw[e5];exact List.mem_append_right _ hx)
 have m6: ∀ x,x ∈ q6→x ∈ ps:=fun x hx=>m5 x (by rw[e6];exact List.mem_append_right _ hx)
 have m7: ∀ x,x ∈ q7→x ∈ ps:=fun x hx=>m6 x (by rw[e7];exact List.mem_append_right _ hx)
 have m8: ∀ x,x ∈ q8→x ∈ ps:=fun x hx=>m7 x (by rw[e8];exact List.mem_append_right _ hx)
 have m9: ∀ x,x ∈ q9→x ∈ ps:=fun x hx=>m8 x (by rw[e9];exact List.mem_append_right _ hx)
 have m10: ∀ x,x ∈ q10→x ∈ ps:=fun x hx=>m9 x (by rw[Wo];exact List.mem_append_right _ hx)
 obtain ⟨x3,c3,r3,z3⟩:=sent ha3 hv3 hd3 (fun hs u v hc=>(hrows 0 0 (m2 _ (by rw[e3,hs];simp[MemPlace.row]))).2 u v hc)
 subst r3
 obtain ⟨x4,c4,r4,z4⟩:=sent ha4 hv4 hd4 (fun hs u v hc=>(hrows 1 0 (m3 _ (by rw[e4,hs];simp[MemPlace.row]))).2 u v hc)
 subst r4
 obtain ⟨x5,c5,r5,z5⟩:=sent ha5 hv5 hd5 (fun hs u v hc=>(hrows 3 0 (m4 _ (by rw[e5,hs];simp[MemPlace.row]))).2 u v hc)
 subst r5
 obtain ⟨x6,c6,r6,z6⟩:=sent ha6 hv6 hd6 (fun hs u v hc=>(hrows 4 0 (m5 _ (by rw[e6,hs];simp[MemPlace.row]))).2 u v hc)
 subst r6
 obtain ⟨x7,c7,r7,z7⟩:=sent ha7 hv7 hd7 (fun hs u v hc=>(hrows 5 0 (m6 _ (by rw[e7,hs];simp[MemPlace.row]))).2 u v hc)
 subst r7
 obtain ⟨x8,c8,r8,z8⟩:=sent ha8 hv8 hd8 (fun hs u v hc=>(hrows 2 0 (m7 _ (by rw[e8,hs];simp[MemPlace.row]))).2 u v hc)
 subst r8
 obtain ⟨x9,c9,r9,z9⟩:=sent ha9 hv9 hd9 (fun hs u v hc=>(hrows 6 0 (m8 _ (by rw[e9,hs];simp[MemPlace.row]))).2 u v hc)
 subst r9
 obtain ⟨Df,c10,r10,z10⟩:=sent abU aen aeo (fun hs u v hc=>(hrows 7 0 (m9 _ (by rw[Wo,hs];simp[MemPlace.row]))).2 u v hc)
 subst r10
 obtain ⟨BU,c11,r11,z11⟩:=sent abV aeq aer (fun hs u v hc=>(hrows 8 0 (m10 _ (by rw[Zs,hs];simp[MemPlace.row]))).2 u v hc)
 subst r11
 have w0:=xO Tryz.underlying189 ME
 have w1:=xO Tryz.underlying203 hd1
 have w2:=xO Tryz.underlying203 hd2
 have s11:([.cell BU.block BU.off]:List MemPlace).Sublist q10:=by rw[Zs];exact kj (List.nil_sublist q11)
 have s10:([.cell Df.block Df.off, .cell BU.block BU.off]:List MemPlace).Sublist q9:=by rw[Wo];exact kj (s11)
 have s9:([.cell x9.block x9.off, .cell Df.block Df.off, .cell BU.block BU.off]:List MemPlace).Sublist q8:=by rw[e9];exact kj (s10)
 have s8:([.cell x8.block x8.off, .cell x9.block x9.off, .cell Df.block Df.off, .cell BU.block BU.off]:List MemPlace).Sublist q7:=by rw[e8];exact kj (s9)
 have s7:([.cell x7.block x7.off, .cell x8.block x8.off, .cell x9.block x9.off, .cell Df.block Df.off, .cell BU.block BU.off]:List MemPlace).Sublist q6:=by rw[e7];exact kj (s8)
 have s6:([.cell x6.block x6.off, .cell x7.block x7.off, .cell x8.block x8.off, .cell x9.block x9.off, .cell Df.block Df.off, .cell BU.block BU.off]:List MemPlace).Sublist q5:=by rw[e6];exact kj (s7)
 have s5:([.cell x5.block x5.off, .cell x6.block x6.off, .cell x7.block x7.off, .cell x8.block x8.off, .cell x9.block x9.off, .cell Df.block Df.off, .cell BU.block BU.off]:List MemPlace).Sublist q4:=by rw[e5];exact kj (s6)
 have s4:([.cell x4.block x4.off, .cell x5.block x5.off, .cell x6.block x6.off, .cell x7.block x7.off, .cell x8.block x8.off, .cell x9.block x9.off, .cell Df.block Df.off, .cell BU.block BU.off]:List MemPlace).Sublist q3:=by rw[e4];exact kj (s5)
 have s3:([.cell x3.block x3.off, .cell x4.block x4.off, .cell x5.block x5.off, .cell x6.block x6.off, .cell x7.block x7.off, .cell x8.block x8.off, .cell x9.block x9.off, .cell Df.block Df.off, .cell BU.block BU.off]:List MemPlace).Sublist q2:=by rw[e3];exact kj (s4)
 have s2:q2.Sublist ps:=by
  rw[e0,e1,e2]
  exact (List.sublist_append_right _ _).trans ((List.sublist_append_right _ _).trans (List.sublist_append_right _ _))
 have hsub:(([x3,x4,x5,x6,x7,x8,x9,Df,BU]:List Addr).map fun a=>MemPlace.cell a.block a.off).Sublist ps:=s3.trans s2
 have abW:([x3,x4,x5,x6,x7,x8,x9,Df,BU]:List Addr).Nodup:=Ge _ (hnd.sublist hsub)
 obtain ⟨L,hL⟩: ∃ L:List Addr,L=[x3,x4,x5,x6,x7,x8,x9,Df,BU]:=⟨_,rfl⟩
 rw[← hL]at hsub abW
 have hlen:L.length=9:=by rw[hL];rfl
 have Je: ∀ i,i < 9→L[perm i]? =some (L.getD (perm i) x3):=fun i hi=>by
  have:=Gf i hi
  rw[List.getD_eq_getElem?_getD,List.getElem?_eq_getElem (by omega)];rfl
 have hex: ∀ i,i < 9→ ∃ c t,W.heap[(L.getD (perm i) x3).block]? =some (.cells c t (0,0)):=fun i hi=>by
  have hm:L.getD (perm i) x3 ∈ L:=List.mem_of_getElem? (Je i hi)
  have:=hsub.subset (List.mem_map_of_mem (f:=fun a:Addr=>MemPlace.cell a.block a.off) hm)
  exact (hrows _ _ this).1
 have hinj: ∀ i j,i < 9→j < 9→L.getD (perm i) x3=L.getD (perm j) x3→i=j:=fun i j hi hj e=>by
  have h1:=Je i hi
  have h2:=Je j hj
  have p1:=Gf i hi
  have p2:=Gf j hj
  have key:=List.pairwise_iff_getElem.1 abW
  rw[List.getElem?_eq_getElem (by omega)]at h1 h2
  have e1:L[perm i]'(by omega)=L[perm j]'(by omega):=(Option.some.inj h1).trans (e.trans (Option.some.inj h2).symm)
  refine T5 i hi j hj ?_
  rcases Nat.lt_trichotomy (perm i) (perm j) with h | h | h
  ·exact absurd e1 (key _ _ _ _ h)
  ·exact h
  ·exact absurd e1.symm (key _ _ _ _ h)
 let E:aO:=⟨fun i=>L.getD (perm i) x3,fun i=>if h:i < 9 then (hex i h).choose else #[],fun i=>if h:i < 9 then (hex i h).choose_spec.choose else 0,hinj⟩
 have hcell: ∀ b,b < 9→W.cell? ⟨b,0,none⟩=some (.iface 219 (.pointer (some (L.getD (perm (abG b)) x3)))):=fun b hb=>by
  have:b=0∨b=1∨b=2∨b=3∨b=4∨b=5∨b=6∨b=7∨b=8:=by omega
  subst hL
  rcases this with rfl | rfl | rfl | rfl | rfl | rfl | rfl | rfl | rfl
  ·exact c3
  ·exact c4
  ·exact c8
  ·exact c5
  ·exact c6
  ·exact c7
  ·exact c9
  ·exact c10
  ·exact c11
 have fin: ∀ (b n:Nat) (f:Nat→Int),0 < n→(∀ i,i < n→W.cell? ⟨b,i,none⟩=some (.int .u32 (f i)))→b < W.heap.size∧ ∀ i v,(af .u32 n f)[i]? =some v→SV.one v=true∧ ∃ u,v= .inl u∧iG u=true∧W.cell? ⟨b,i,none⟩=some u:=fun b n f hn hc=>by
  refine ⟨pE (hc 0 hn),fun i v hv=> ?_⟩
  by_cases hi:i < n
  ·rw[aA .u32 n f i hi]at hv
   obtain rfl:=Option.some.inj hv
   exact ⟨rfl,_,rfl,rfl,hc i hi⟩
  ·rw[List.getElem?_eq_none (by rw[ah];omega)]at hv;cases hv
 have y0: ∀ i,i < 8→W.cell? ⟨9,i,none⟩=some (.int .u32 (cj i)):=fun i hi=>by
  rw[World.var?_cell ha0 LP i];simpa using w0 i hi
 have y1: ∀ i,i < 64→W.cell? ⟨10,i,none⟩=some (.int .u32 (kW i)):=fun i hi=>by
  rw[World.var?_cell ha1 hv1 i];simpa using w1 i hi
 have y2: ∀ i,i < 64→W.cell? ⟨11,i,none⟩=some (.int .u32 (kW i)):=fun i hi=>by
  rw[World.var?_cell ha2 Wg i];simpa using w2 i hi
 have QI: ∀ n i, @BR E n=some i→i < 9∧(L.getD (perm i) x3).block=n:=fun n i hi=>by
  have h1:=List.mem_of_find?_eq_some hi
  have h2:=List.find?_some hi
  have h3:((L.getD (perm i) x3).block==n)=true:=h2
  exact ⟨List.mem_range.1 h1,eq_of_beq h3⟩
 refine ⟨E,⟨fun b bx hb=> ?_,fun b o hb=> ?_⟩⟩
 ·have hb': @BS E b=some bx:=hb
  unfold BS at hb'
  split at hb'
  ·rename_i h9;cases hb'
   refine ⟨pE (hcell b h9),fun i v hv=> ?_⟩
   rcases i with _ | i
   ·cases hv;exact ⟨rfl,_,rfl,rfl,hcell b h9⟩
   ·cases hv
  ·split at hb'
   ·rename_i _ h;subst h;cases hb';exact fin 9 8 cj (by decide) y0
   ·split at hb'
    ·rename_i _ _ h;subst h;cases hb';exact fin 10 64 kW (by decide) y1
    ·split at hb'
     ·rename_i _ _ _ h;subst h;cases hb';exact fin 11 64 kW (by decide) y2
     ·split at hb'
      ·rename_i i hi;cases hb'
       obtain ⟨Zt,CU⟩:=QI b i hi
       obtain ⟨c,t,hh⟩:=hex i Zt
       rw[CU]at hh
       refine ⟨?_,fun i v hv=>(by cases hv)⟩
       rcases Nat.lt_or_ge b W.heap.size with h | h
       ·exact h
       ·rw[Array.getElem?_eq_none h]at hh;cases hh
      ·cases hb'
 ·have hb': @tF E b=some o:=hb
  unfold tF at hb'
  split at hb'
  ·rename_i i hi
   obtain ⟨Zt,rfl⟩:=QI b i hi
   cases hb'
   have:=(hex i Zt).choose_spec.choose_spec
   rw[this]
   show _=some (Obj.cells (if h:i < 9 then (hex i h).choose else #[]) (if h:i < 9 then (hex i h).choose_spec.choose else 0) (0,0))
   rw[dif_pos Zt,dif_pos Zt]
  ·cases hb'
end Go.Proofs.YtpnehhpadofcbaaGreatDoor.lawDecryptDone
