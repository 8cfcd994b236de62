/-
  What the row's condition gives: where the sentinels lie, and that the tables lie as the calculus asks.
-/
import Derived.Test.YtoakenpcooglpaaGreatDoorVcgFacts
import Derived.Test.YtoakenpcooglpaaGreatDoorRows
import Derived.WalkKit
import Derived.ProofKit
import Derived.OpenShut
import Derived.ShutString
import Derived.ChangeOld
import Derived.Below
import Derived.SizedLaws
import Derived.Deep.Strs
import Derived.LaidMore
import Derived.LaidLaws
import Derived.Handed
import Derived.Stop.Joined
import Derived.LaidEql
import Derived.Stop.Asserts
import Derived.RowKitTokens
import Derived.Test.YtoakenpcooglpaaGreatDoorVcgT
import Derived.Test.YtoakenpcooglpaaGreatDoorVcgZ1
set_option linter.unusedVariables false
set_option linter.unusedSimpArgs false
set_option maxRecDepth 100000
namespace Go.Proofs.YtoakenpcooglpaaGreatDoor.lawEncryptDone
open Go.ChangeShapes Go.WideShapes Go.ChangeAt Go.RowKit
open Go.cA
theorem ig:Tryz.prog.cellsOf 24=1:=by kernel_rfl
theorem gb0:Tryz.prog.globalNamed "ratchet/machine.errBad" =some 0:=by kernel_rfl
theorem gb1:Tryz.prog.globalNamed "ratchet/machine.errTooLong" =some 1:=by kernel_rfl
theorem gb2:Tryz.prog.globalNamed "ratchet/machine.errNotReady" =some 2:=by kernel_rfl
theorem gb3:Tryz.prog.globalNamed "ratchet/machine.errCounter" =some 3:=by kernel_rfl
theorem gb4:Tryz.prog.globalNamed "ratchet/machine.errMalformed" =some 4:=by kernel_rfl
theorem gb5:Tryz.prog.globalNamed "ratchet/machine.errBadTag" =some 5:=by kernel_rfl
theorem gb6:Tryz.prog.globalNamed "ratchet/machine.errSkipLimit" =some 6:=by kernel_rfl
theorem gb7:Tryz.prog.globalNamed "ratchet/machine.errStoreFull" =some 7:=by kernel_rfl
theorem gb8:Tryz.prog.globalNamed "ratchet/machine.errOld" =some 8:=by kernel_rfl
theorem ge: ∀ g,g < 9→(Tryz.prog.globals[g]?).map (·.type)=some 50:=by
 have h:((List.range 9).all fun g=>(Tryz.prog.globals[g]?).map (·.type)==some 50)=true:=by kernel_rfl
 intro g hg
 have:=List.all_eq_true.1 h g (List.mem_range.2 hg)
 simpa using this
theorem g0:Tryz.prog.globalNamed "ratchet/ratchetref.firstValue" =some 9:=by kernel_rfl
theorem g1:Tryz.prog.globalNamed "ratchet/ratchetref.rootsOfPrimes" =some 10:=by kernel_rfl
theorem g2:Tryz.prog.globalNamed "ratchet/prim.roundConstants" =some 11:=by kernel_rfl
theorem t0:(Tryz.prog.globals[9]?).map (·.type)=some 165:=by kernel_rfl
theorem t1:(Tryz.prog.globals[10]?).map (·.type)=some 182:=by kernel_rfl
theorem t2:(Tryz.prog.globals[11]?).map (·.type)=some 182:=by kernel_rfl
def tabs:List (String×DataW Unit):=[("ratchet/ratchetref.firstValue",Rows.laid_ratchet_ratchetref_firstValue),("ratchet/ratchetref.rootsOfPrimes",Rows.laid_ratchet_ratchetref_rootsOfPrimes),("ratchet/prim.roundConstants",Rows.laid_ratchet_prim_roundConstants),
 ("ratchet/machine.errBad",Rows.laid_ratchet_machine_errBad),("ratchet/machine.errMalformed",Rows.laid_ratchet_machine_errMalformed),("ratchet/machine.errBadTag",Rows.laid_ratchet_machine_errBadTag),("ratchet/machine.errSkipLimit",Rows.laid_ratchet_machine_errSkipLimit),("ratchet/machine.errStoreFull",Rows.laid_ratchet_machine_errStoreFull),("ratchet/machine.errCounter",Rows.laid_ratchet_machine_errCounter),("ratchet/machine.errOld",Rows.laid_ratchet_machine_errOld),("ratchet/machine.errNotReady",Rows.laid_ratchet_machine_errNotReady),("ratchet/machine.errTooLong",Rows.laid_ratchet_machine_errTooLong)]
theorem d0:(Rows.laid_ratchet_ratchetref_firstValue:DataW Unit)= .agg ((List.range 8).map fun i=> .lit (.int .u32 (b9 i))):=by kernel_rfl
theorem d1:(Rows.laid_ratchet_ratchetref_rootsOfPrimes:DataW Unit)= .agg ((List.range 64).map fun i=> .lit (.int .u32 (kW i))):=by kernel_rfl
theorem d2:(Rows.laid_ratchet_prim_roundConstants:DataW Unit)= .agg ((List.range 64).map fun i=> .lit (.int .u32 (kW i))):=by kernel_rfl
theorem ajc (u:TypeId) (h:Tryz.prog.typeName? 3 u=some "*errors.errorString"):u=192:=
 typeName_ptr_named (nm:="errors.errorString") (tp:=192) (by kernel_rfl) (by kernel_rfl) (by decide) u h
theorem Zm:Tryz.prog.cellsOf 9=1:=by kernel_rfl
theorem abz:Tryz.prog.cellsOf 218=1:=by kernel_rfl
theorem tr {W:World} {t n fuel:Nat} {f:Nat→Int} {cs:List Value} {p:List MemPlace} {sp:Nat→Bool} {held:Bool} (ht:Tryz.prog.underlying t=some (.array n 24))
  (h:DataW.trod (fun _=>()) Tryz.prog W 0 sp held fuel t cs=some (.agg ((List.range n).map fun i=> .lit (.int .u32 (f i))),p)): ∀ i,i < n→cs[i]? =some (.int .u32 (f i)):=by
 intro i hi
 obtain ⟨xs,m,rfl,hx,hlen,hxl,hel⟩:=DataW.trod_array ht h
 have he:=hel i hi
 rw[ig,Nat.mul_one]at he
 have hxi:i < xs.length:=by omega
 rw[List.getElem?_eq_getElem hxi]at he
 obtain ⟨z,hc,hz,hw⟩:=DataW.trod_int Tryz.underlying24 he
 have e1:(xs.map (·.1))[i]? =((List.range n).map fun i=>(DataW.lit (.int .u32 (f i)):DataW Unit))[i]? :=by
  have:=congrArg Prod.fst hx
  simp only[DataW.agg.injEq]at this
  rw[this]
 rw[List.getElem?_map,List.getElem?_map,List.getElem?_range hi,List.getElem?_eq_getElem hxi]at e1
 simp only[Option.map_some,Option.some.injEq]at e1
 rw[hz]at e1
 simp only[DataW.lit.injEq,Lit.int.injEq,true_and]at e1
 subst e1
 have:((cs.drop i).take 1)[0]? =some (.int .u32 (f i)):=by rw[hc];rfl
 rw[List.getElem?_take_of_lt (by decide),List.getElem?_drop]at this
 simpa using this
theorem mo {W:World} {b i:Nat} {v:Value} (h:W.cell? ⟨b,i,none⟩=some v):b < W.heap.size:=by
 rcases Nat.lt_or_ge b W.heap.size with hb | hb
 ·exact hb
 ·have hn:W.heap[b]? =none:=Array.getElem?_eq_none hb
  simp[World.cell?,hn]at h
theorem sent {W:World} {f:Nat} {cs:Array Value} {text:List UInt8} {p:List MemPlace} {n:String} {g:Nat} (hg:Tryz.prog.globalNamed n=some g) (hv:W.var? Tryz.prog n=some cs)
  (hd:DataW.trod (fun _=>()) Tryz.prog W 0 (fun _=>true) false f 50 cs.toList=some (.iface "*errors.errorString" (.ptr (.agg [.lit (.string text)])),p))
  (hok:cs.size=1→ ∀ u v,W.cell? ⟨g,0,none⟩=some (.iface u v)→Value.okWide Tryz.prog W .any 0 u v):
  ∃ a,W.cell? ⟨g,0,none⟩=some (.iface 192 (.pointer (some a)))∧p=[.cell a.block a.off]∧cs.size=1:=by
 obtain ⟨l⟩:=cs
 have ok: ∀ u v,l=[.iface u v]→Value.okWide Tryz.prog W .any 0 u v:=fun u v e=>by
  subst e
  exact hok rfl u v (by simpa using World.var?_cell hg hv 0)
 obtain ⟨a,s,rfl,hc,hs,hz,rfl⟩:=errorString_of_trod Tryz.underlying50 ajc Tryz.underlying192 Tryz.underlying218 rfl rfl Tryz.underlying9 abz Zm hd ok
 exact ⟨a,by simpa using World.var?_cell hg hv 0,by simp[MemPlace.row],rfl⟩
theorem iF {R q q':List MemPlace} {x:MemPlace} (h:q'.Sublist q):(x::q').Sublist (R++[x]++q):=by
 rw[List.append_assoc]
 exact (List.Sublist.cons_cons x h).trans (List.sublist_append_right R _)
theorem Gw {α β:Type} (f:α→β) {l:List α} (h:(l.map f).Nodup):l.Nodup:=by
 unfold List.Nodup at h ⊢
 exact (List.pairwise_map.1 h).imp fun hab e=>hab (congrArg f e)
def perm (i:Nat):Nat:=[0,8,7,5,1,2,3,4,6].getD i 0
theorem Gx: ∀ i,i < 9→perm i < 9:=by decide
theorem Zn: ∀ i,i < 9→ ∀ j,j < 9→perm i=perm j→i=j:=by decide
theorem abA {W:World} (h:laidMetH Tryz.prog tabs W): ∃ _:aX,Laid Tryz.prog W:=by
 rw[MakeChecks.laidMetH_plain _ _ _ (by kernel_rfl)]at h
 obtain ⟨ps,⟨a0,u0,cs0,f0,p0,q0,ha0,hu0,Vs,N9,⟨a1,u1,mT,f1,p1,q1,ha1,hu1,hv1,hd1,⟨a2,u2,kZ,f2,p2,q2,ha2,hu2,hv2,hd2,⟨a3,u3,tt,f3,p3,q3,ha3,hu3,hv3,hd3,⟨a4,u4,Cn,f4,p4,q4,ha4,hu4,hv4,hd4,⟨a5,u5,cs5,f5,p5,q5,ha5,hu5,hv5,hd5,⟨a6,u6,cs6,f6,p6,q6,ha6,hu6,hv6,hd6,⟨a7,u7,cs7,f7,p7,q7,ha7,hu7,hv7,hd7,⟨a8,u8,cs8,f8,p8,q8,ha8,hu8,hv8,hd8,⟨a9,u9,cs9,f9,p9,q9,ha9,hu9,hv9,hd9,⟨a10,u10,aoD,f10,p10,q10,ajd,alm,aln,alo,⟨a11,u11,aoE,f11,p11,q11,aje,alp,alq,alr,_,e11⟩,e10⟩,e9⟩,e8⟩,e7⟩,e6⟩,e5⟩,e4⟩,e3⟩,e2⟩,e1⟩,e0⟩,hnd,hrows⟩:=h
 obtain rfl:=Option.some.inj (g0.symm.trans ha0)
 obtain rfl:=Option.some.inj (g1.symm.trans ha1)
 obtain rfl:=Option.some.inj (g2.symm.trans ha2)
 obtain rfl:=Option.some.inj (gb0.symm.trans ha3)
 obtain rfl:=Option.some.inj (gb4.symm.trans ha4)
 obtain rfl:=Option.some.inj (gb5.symm.trans ha5)
 obtain rfl:=Option.some.inj (gb6.symm.trans ha6)
 obtain rfl:=Option.some.inj (gb7.symm.trans ha7)
 obtain rfl:=Option.some.inj (gb3.symm.trans ha8)
 obtain rfl:=Option.some.inj (gb8.symm.trans ha9)
 obtain rfl:=Option.some.inj (gb2.symm.trans ajd)
 obtain rfl:=Option.some.inj (gb1.symm.trans aje)
 obtain rfl:=Option.some.inj (t0.symm.trans hu0)
 obtain rfl:=Option.some.inj (t1.symm.trans hu1)
 obtain rfl:=Option.some.inj (t2.symm.trans hu2)
 obtain rfl:=Option.some.inj ((ge _ (by decide)).symm.trans hu3)
 obtain rfl:=Option.some.inj ((ge _ (by decide)).symm.trans hu4)
 obtain rfl:=Option.some.inj ((ge _ (by decide)).symm.trans hu5)
 obtain rfl:=Option.some.inj ((ge _ (by decide)).symm.trans hu6)
 obtain rfl:=Option.some.inj ((ge _ (by decide)).symm.trans hu7)
 obtain rfl:=Option.some.inj ((ge _ (by decide)).symm.trans hu8)
 obtain rfl:=Option.some.inj ((ge _ (by decide)).symm.trans hu9)
 obtain rfl:=Option.some.inj ((ge _ (by decide)).symm.trans alm)
 obtain rfl:=Option.some.inj ((ge _ (by decide)).symm.trans alp)
 rw[d0]at N9
 rw[d1]at hd1
 rw[d2]at hd2
 have m0: ∀ x,x ∈ q0→x ∈ ps:=fun x hx=>by rw[e0];exact List.mem_append_right _ hx
 have m1: ∀ x,x ∈ q1→x ∈ ps:=fun x hx=>m0 x (by rw[e1];exact List.mem_append_right _ hx)
 have m2: ∀ x,x ∈ q2→x ∈ ps:=fun x hx=>m1 x (by rw[e2];exact List.mem_append_right _ hx)
 have m3: ∀ x,x ∈ q3→x ∈ ps:=fun x hx=>m2 x (by rw[e3];exact List.mem_append_right _ hx)
 have m4: ∀ x,x ∈ q4→x ∈ ps:=fun x hx=>m3 x (by rw[e4];exact List.mem_append_right _ hx)
 have m5: ∀ x,x ∈ q5→x ∈ ps:=fun x hx=>m4 x (by rw[e5];exact List.mem_append_right _ hx)
 have m6: ∀ x,x ∈ q6→x ∈ ps:=fun x hx=>m5 x (by rw[e6];exact List.mem_append_right _ hx)
 have m7: ∀ x,x ∈ q7→x ∈ ps:=fun x hx=>m6 x (by rw[e7];exact List.mem_append_right _ hx)
 have m8: ∀ x,x ∈ q8→x ∈ ps:=fun x hx=>m7 x (by rw[e8];exact List.mem_append_right _ hx)
 have m9: ∀ x,x ∈ q9→x ∈ ps:=fun x hx=>m8 x (by rw[e9];exact List.mem_append_right _ hx)
 have m10: ∀ x,x ∈ q10→x ∈ ps:=fun x hx=>m9 x (by rw[e10];exact List.mem_append_right _ hx)
 obtain ⟨x3,c3,r3,z3⟩:=sent ha3 hv3 hd3 (fun hs u v hc=>(hrows 0 0 (m2 _ (by rw[e3,hs];simp[MemPlace.row]))).2 u v hc)
 subst r3
 obtain ⟨x4,c4,r4,z4⟩:=sent ha4 hv4 hd4 (fun hs u v hc=>(hrows 4 0 (m3 _ (by rw[e4,hs];simp[MemPlace.row]))).2 u v hc)
 subst r4
 obtain ⟨x5,c5,r5,z5⟩:=sent ha5 hv5 hd5 (fun hs u v hc=>(hrows 5 0 (m4 _ (by rw[e5,hs];simp[MemPlace.row]))).2 u v hc)
 subst r5
 obtain ⟨x6,c6,r6,z6⟩:=sent ha6 hv6 hd6 (fun hs u v hc=>(hrows 6 0 (m5 _ (by rw[e6,hs];simp[MemPlace.row]))).2 u v hc)
 subst r6
 obtain ⟨x7,c7,r7,z7⟩:=sent ha7 hv7 hd7 (fun hs u v hc=>(hrows 7 0 (m6 _ (by rw[e7,hs];simp[MemPlace.row]))).2 u v hc)
 subst r7
 obtain ⟨x8,c8,r8,z8⟩:=sent ha8 hv8 hd8 (fun hs u v hc=>(hrows 3 0 (m7 _ (by rw[e8,hs];simp[MemPlace.row]))).2 u v hc)
 subst r8
 obtain ⟨x9,c9,r9,z9⟩:=sent ha9 hv9 hd9 (fun hs u v hc=>(hrows 8 0 (m8 _ (by rw[e9,hs];simp[MemPlace.row]))).2 u v hc)
 subst r9
 obtain ⟨Cw,c10,r10,z10⟩:=sent ajd aln alo (fun hs u v hc=>(hrows 2 0 (m9 _ (by rw[e10,hs];simp[MemPlace.row]))).2 u v hc)
 subst r10
 obtain ⟨AB,c11,r11,z11⟩:=sent aje alq alr (fun hs u v hc=>(hrows 1 0 (m10 _ (by rw[e11,hs];simp[MemPlace.row]))).2 u v hc)
 subst r11
 have w0:=tr Tryz.underlying165 N9
 have w1:=tr Tryz.underlying182 hd1
 have w2:=tr Tryz.underlying182 hd2
 have s11:([.cell AB.block AB.off]:List MemPlace).Sublist q10:=by rw[e11];exact iF (List.nil_sublist q11)
 have s10:([.cell Cw.block Cw.off, .cell AB.block AB.off]:List MemPlace).Sublist q9:=by rw[e10];exact iF (s11)
 have s9:([.cell x9.block x9.off, .cell Cw.block Cw.off, .cell AB.block AB.off]:List MemPlace).Sublist q8:=by rw[e9];exact iF (s10)
 have s8:([.cell x8.block x8.off, .cell x9.block x9.off, .cell Cw.block Cw.off, .cell AB.block AB.off]:List MemPlace).Sublist q7:=by rw[e8];exact iF (s9)
 have s7:([.cell x7.block x7.off, .cell x8.block x8.off, .cell x9.block x9.off, .cell Cw.block Cw.off, .cell AB.block AB.off]:List MemPlace).Sublist q6:=by rw[e7];exact iF (s8)
 have s6:([.cell x6.block x6.off, .cell x7.block x7.off, .cell x8.block x8.off, .cell x9.block x9.off, .cell Cw.block Cw.off, .cell AB.block AB.off]:List MemPlace).Sublist q5:=by rw[e6];exact iF (s7)
 have s5:([.cell x5.block x5.off, .cell x6.block x6.off, .cell x7.block x7.off, .cell x8.block x8.off, .cell x9.block x9.off, .cell Cw.block Cw.off, .cell AB.block AB.off]:List MemPlace).Sublist q4:=by rw[e5];exact iF (s6)
 have s4:([.cell x4.block x4.off, .cell x5.block x5.off, .cell x6.block x6.off, .cell x7.block x7.off, .cell x8.block x8.off, .cell x9.block x9.off, .cell Cw.block Cw.off, .cell AB.block AB.off]:List MemPlace).Sublist q3:=by rw[e4];exact iF (s5)
 have s3:([.cell x3.block x3.off, .cell x4.block x4.off, .cell x5.block x5.off, .cell x6.block x6.off, .cell x7.block x7.off, .cell x8.block x8.off, .cell x9.block x9.off, .cell Cw.block Cw.off, .cell AB.block AB.off]:List MemPlace).Sublist q2:=by rw[e3];exact iF (s4)
 have s2:q2.Sublist ps:=by
  rw[e0,e1,e2]
  exact (List.sublist_append_right _ _).trans ((List.sublist_append_right _ _).trans (List.sublist_append_right _ _))
 have hsub:(([x3,x4,x5,x6,x7,x8,x9,Cw,AB]:List Addr).map fun a=>MemPlace.cell a.block a.off).Sublist ps:=s3.trans s2
 have ajf:([x3,x4,x5,x6,x7,x8,x9,Cw,AB]:List Addr).Nodup:=Gw _ (hnd.sublist hsub)
 obtain ⟨L,hL⟩: ∃ L:List Addr,L=[x3,x4,x5,x6,x7,x8,x9,Cw,AB]:=⟨_,rfl⟩
 rw[← hL]at hsub ajf
 have hlen:L.length=9:=by rw[hL];rfl
 have Lz: ∀ i,i < 9→L[perm i]? =some (L.getD (perm i) x3):=fun i hi=>by
  have:=Gx i hi
  rw[List.getD_eq_getElem?_getD,List.getElem?_eq_getElem (by omega)];rfl
 have hex: ∀ i,i < 9→ ∃ c t,W.heap[(L.getD (perm i) x3).block]? =some (.cells c t (0,0)):=fun i hi=>by
  have hm:L.getD (perm i) x3 ∈ L:=List.mem_of_getElem? (Lz i hi)
  have:=hsub.subset (List.mem_map_of_mem (f:=fun a:Addr=>MemPlace.cell a.block a.off) hm)
  exact (hrows _ _ this).1
 have hinj: ∀ i j,i < 9→j < 9→L.getD (perm i) x3=L.getD (perm j) x3→i=j:=fun i j hi hj e=>by
  have h1:=Lz i hi
  have h2:=Lz j hj
  have p1:=Gx i hi
  have p2:=Gx j hj
  have key:=List.pairwise_iff_getElem.1 ajf
  rw[List.getElem?_eq_getElem (by omega)]at h1 h2
  have e1:L[perm i]'(by omega)=L[perm j]'(by omega):=(Option.some.inj h1).trans (e.trans (Option.some.inj h2).symm)
  refine Zn i hi j hj ?_
  rcases Nat.lt_trichotomy (perm i) (perm j) with h | h | h
  ·exact absurd e1 (key _ _ _ _ h)
  ·exact h
  ·exact absurd e1.symm (key _ _ _ _ h)
 let E:aX:=⟨fun i=>L.getD (perm i) x3,fun i=>if h:i < 9 then (hex i h).choose else #[],fun i=>if h:i < 9 then (hex i h).choose_spec.choose else 0,hinj⟩
 have hcell: ∀ b,b < 9→W.cell? ⟨b,0,none⟩=some (.iface 192 (.pointer (some (L.getD (perm b) x3)))):=fun b hb=>by
  have:b=0∨b=1∨b=2∨b=3∨b=4∨b=5∨b=6∨b=7∨b=8:=by omega
  subst hL
  rcases this with rfl | rfl | rfl | rfl | rfl | rfl | rfl | rfl | rfl
  ·exact c3
  ·exact c11
  ·exact c10
  ·exact c8
  ·exact c4
  ·exact c5
  ·exact c6
  ·exact c7
  ·exact c9
 have fin: ∀ (b n:Nat) (f:Nat→Int),0 < n→(∀ i,i < n→W.cell? ⟨b,i,none⟩=some (.int .u32 (f i)))→b < W.heap.size∧ ∀ i v,(ae .u32 n f)[i]? =some v→SV.one v=true∧ ∃ u,v= .inl u∧W.cell? ⟨b,i,none⟩=some u:=fun b n f hn hc=>by
  refine ⟨mo (hc 0 hn),fun i v hv=> ?_⟩
  by_cases hi:i < n
  ·rw[ay .u32 n f i hi]at hv
   obtain rfl:=Option.some.inj hv
   exact ⟨rfl,_,rfl,hc i hi⟩
  ·rw[List.getElem?_eq_none (by rw[ah];omega)]at hv;cases hv
 have y0: ∀ i,i < 8→W.cell? ⟨9,i,none⟩=some (.int .u32 (b9 i)):=fun i hi=>by
  rw[World.var?_cell ha0 Vs i];simpa using w0 i hi
 have y1: ∀ i,i < 64→W.cell? ⟨10,i,none⟩=some (.int .u32 (kW i)):=fun i hi=>by
  rw[World.var?_cell ha1 hv1 i];simpa using w1 i hi
 have y2: ∀ i,i < 64→W.cell? ⟨11,i,none⟩=some (.int .u32 (kW i)):=fun i hi=>by
  rw[World.var?_cell ha2 hv2 i];simpa using w2 i hi
 have Vn: ∀ n i, @yf E n=some i→i < 9∧(L.getD (perm i) x3).block=n:=fun n i hi=>by
  have h1:=List.mem_of_find?_eq_some hi
  have h2:=List.find?_some hi
  have h3:((L.getD (perm i) x3).block==n)=true:=h2
  exact ⟨List.mem_range.1 h1,eq_of_beq h3⟩
 refine ⟨E,⟨fun b bx hb=> ?_,fun b o hb=> ?_⟩⟩
 ·have hb': @yg E b=some bx:=hb
  unfold yg at hb'
  split at hb'
  ·rename_i h9;cases hb'
   refine ⟨mo (hcell b h9),fun i v hv=> ?_⟩
   rcases i with _ | i
   ·cases hv;exact ⟨rfl,_,rfl,hcell b h9⟩
   ·cases hv
  ·split at hb'
   ·rename_i _ h;subst h;cases hb';exact fin 9 8 b9 (by decide) y0
   ·split at hb'
    ·rename_i _ _ h;subst h;cases hb';exact fin 10 64 kW (by decide) y1
    ·split at hb'
     ·rename_i _ _ _ h;subst h;cases hb';exact fin 11 64 kW (by decide) y2
     ·split at hb'
      ·rename_i i hi;cases hb'
       obtain ⟨hi9,Cl⟩:=Vn b i hi
       obtain ⟨c,t,hh⟩:=hex i hi9
       rw[Cl]at hh
       refine ⟨?_,fun i v hv=>(by cases hv)⟩
       rcases Nat.lt_or_ge b W.heap.size with h | h
       ·exact h
       ·rw[Array.getElem?_eq_none h]at hh;cases hh
      ·cases hb'
 ·have hb': @pR E b=some o:=hb
  unfold pR at hb'
  split at hb'
  ·rename_i i hi
   obtain ⟨hi9,rfl⟩:=Vn b i hi
   cases hb'
   have:=(hex i hi9).choose_spec.choose_spec
   rw[this]
   show _=some (Obj.cells (if h:i < 9 then (hex i h).choose else #[]) (if h:i < 9 then (hex i h).choose_spec.choose else 0) (0,0))
   rw[dif_pos hi9,dif_pos hi9]
  ·cases hb'
end Go.Proofs.YtoakenpcooglpaaGreatDoor.lawEncryptDone
set_option maxRecDepth 100000
namespace Go.Proofs.YtoakenpcooglpaaGreatDoor
open Go.cA
set_option linter.unusedSectionVars false
variable [aX]
open Go.RowKit Go.Extern.Stop Go.Stop Go.Extern
theorem Tryz.Fi (v:Value) (w:World):(Extern.ReflectliteType.typeOf #[.iface 192 v]).run Tryz.prog w= .ok (.iface 121 (.agg #[.pointer (some ⟨12,192,none⟩)])) w:=by kernel_rfl
def Zo (t:TypeId):Sem Value:=do Extern.Rtype.noPackHeld "Comparable" t;pure (.bool (← typeInfo t).comparable)
theorem Tryz.LA (w:World):((Extern.ReflectliteType.method Zo) #[.agg #[.pointer (some ⟨12,192,none⟩)]]).run Tryz.prog w= .ok (.bool true) w:=by kernel_rfl
theorem Tryz.vW (v:Value) (w:World):(Go.method 330 121 v "Comparable").run Tryz.prog w= .ok (159,v) w:=by kernel_rfl
theorem Tryz.Fj:(Tryz.prog.info? 192).map (·.comparable)=some true:=by kernel_rfl
theorem Tryz.Fk:(Tryz.prog.info? 218).map (·.size)=some 1:=by kernel_rfl
theorem Tryz.abC (v:Value) (xT:TypeId) (w:World):(Instr.typeAssert (.iface 192 v) xT 123 true).run Tryz.prog w= .ok (.tuple #[.nilIface, .bool false]) w:=run_typeAssert_lacksB Tryz.underlying123 (by kernel_rfl) (by kernel_rfl) v xT w
theorem Tryz.LB (v:Value) (xT:TypeId) (w:World):(Instr.typeAssert (.iface 192 v) xT 126 true).run Tryz.prog w= .ok (.tuple #[.nilIface, .bool false]) w:=run_typeAssert_lacksB Tryz.underlying126 (by kernel_rfl) (by kernel_rfl) v xT w
theorem Tryz.Gy (v:Value) (xT:TypeId) (w:World):(Instr.typeAssert (.iface 192 v) xT 128 true).run Tryz.prog w= .ok (.tuple #[.nilIface, .bool false]) w:=run_typeAssert_lacksB Tryz.underlying128 (by kernel_rfl) (by kernel_rfl) v xT w
theorem ajg (a:Addr) (w:World):
  Calls Tryz.prog 32 #[.iface 192 (.pointer (some a)), .iface 192 (.pointer (some a))] w fun e w'=>e= .returned (.bool true)∧Kept w w':=by
 obtain ⟨i,hi,hcmp⟩:=Option.map_eq_some_iff.1 Tryz.Fj
 obtain ⟨j,hj,hjs⟩:=Option.map_eq_some_iff.1 Tryz.Fk
 have hTy:= @run_callFunc_extern Tryz.prog 59 _ Extern.ReflectliteType.typeOf Tryz.func59 (by kernel_rfl) (by kernel_rfl) (by kernel_rfl) (by kernel_rfl)
 have hCm:= @run_callFunc_extern Tryz.prog 159 _ (Extern.ReflectliteType.method Zo) Tryz.func159 (by kernel_rfl) (by kernel_rfl) (by kernel_rfl) (by kernel_rfl)
 have tT:=Tryz.Fi
 have cT:=Tryz.LA
 have mR:=Tryz.vW
 have heq:=run_eql_iface_ptr_same (P:=Tryz.prog) w a Tryz.underlying50 Tryz.underlying192 hi hcmp hj
 go_enter Tryz.func32,Tryz.ntmps32
 go_wp2
 refine wp_loop_rounds 1 ?_
 rw[rounds_succ]
 go_wp2
 go_ret
 exact ⟨rfl,Frame.refl _ _⟩
theorem ajh (a b:Addr) (ca cb:Array Value) (ta tb:TypeId) (w:World) (hne:a≠b) (ha:w.heap[a.block]? =some (.cells ca ta (0,0))) (hb:w.heap[b.block]? =some (.cells cb tb (0,0))):
  Calls Tryz.prog 32 #[.iface 192 (.pointer (some a)), .iface 192 (.pointer (some b))] w fun e w'=>e= .returned (.bool false)∧Kept w w':=by
 obtain ⟨i,hi,hcmp⟩:=Option.map_eq_some_iff.1 Tryz.Fj
 obtain ⟨j,hj,hjs⟩:=Option.map_eq_some_iff.1 Tryz.Fk
 have hTy:= @run_callFunc_extern Tryz.prog 59 _ Extern.ReflectliteType.typeOf Tryz.func59 (by kernel_rfl) (by kernel_rfl) (by kernel_rfl) (by kernel_rfl)
 have hCm:= @run_callFunc_extern Tryz.prog 159 _ (Extern.ReflectliteType.method Zo) Tryz.func159 (by kernel_rfl) (by kernel_rfl) (by kernel_rfl) (by kernel_rfl)
 have tT:=Tryz.Fi
 have cT:=Tryz.LA
 have mR:=Tryz.vW
 have nE:=Tryz.abC
 have uE:=Tryz.LB
 have vE:=Tryz.Gy
 have heq:=run_eql_iface_ptr_other (P:=Tryz.prog) w Tryz.underlying50 Tryz.underlying192 hi hcmp hj (by rw[hjs];decide) hne ha hb
 go_enter Tryz.func32,Tryz.ntmps32
 go_wp2
 refine wp_loop_rounds 1 ?_
 rw[rounds_succ]
 go_wp2
 go_ret
 exact ⟨rfl,Frame.refl _ _⟩
theorem Oa {i:Nat} (h:i < 9): ∃ k,yf (aX.place i).block=some k:=by
 unfold yf
 rcases hf:(List.range 9).find? (fun k=>(aX.place k).block==(aX.place i).block) with _ | k
 ·have:=List.find?_eq_none.1 hf i (List.mem_range.2 h)
  simp at this
 ·exact ⟨k,rfl⟩
theorem AE {i:Nat} (h:i < 9): ∃ c t,Tables.blk Tryz.prog (aX.place i).block=some (.cells c t (0,0)):=by
 obtain ⟨k,hk⟩:=Oa h
 refine ⟨aX.cells k,aX.ty k, ?_⟩
 show pR _=_
 unfold pR
 rw[hk]
theorem Ob (i:Nat):AV.plain (V (mS i))=true:=rfl
theorem mq {i j:Nat} (hi:i < 9) (hj:j < 9):cB Tryz.prog 32 [V (mS i),V (mS j)] (B (i==j)):=by
 refine ⟨by simp[Ob],fun r h=>by subst h;rfl,fun w hL=> ?_⟩
 by_cases h:i=j
 ·subst h
  refine (ajg (aX.place i) w).mono ?_
  rintro e w' ⟨rfl,hk⟩
  exact ⟨_,rfl,by rw[beq_self_eq_true];rfl,hk⟩
 ·obtain ⟨c1,t1,h1⟩:=AE hi
  obtain ⟨c2,t2,h2⟩:=AE hj
  refine (ajh (aX.place i) (aX.place j) _ _ _ _ w (fun e=>h (aX.inj i j hi hj e)) (hL.aft _ _ h1) (hL.aft _ _ h2)).mono ?_
  rintro e w' ⟨rfl,hk⟩
  exact ⟨_,rfl,by rw[beq_eq_false_iff_ne.2 h];rfl,hk⟩
end Go.Proofs.YtoakenpcooglpaaGreatDoor
namespace Go.cA
set_option linter.unusedSectionVars false
inductive cM where
 | nil:cM
 | cons (i:Nat) (next:cM) (rest:cM):cM
def cM.Fl:cM→List Nat
 | .nil=>[]
 | .cons i _ r=>i::r.Fl
def cM.here (ops:Array Oper) (fuel:Nat) (listed:Array Bool) (t:cM):Bool:=
 (t.Fl==Region.ready .any ops listed)&&(fuel != 0||(Region.ready .any ops listed).isEmpty)
def cM.all (ops:Array Oper):Nat→Array Bool→cM→Bool
 | _,_, .nil=>true
 | fuel,listed, .cons i t r=>(match fuel with
  | 0=>false
  | f+1=>cM.here ops f (listed.setIfInBounds i true) t&&cM.all ops f (listed.setIfInBounds i true) t)&&cM.all ops fuel listed r
def cM.good (ops:Array Oper) (t:cM):Bool:=cM.here ops ops.size (Array.replicate ops.size false) t&&cM.all ops ops.size (Array.replicate ops.size false) t
def Gz (P:Program) [Tables P] (ops:Array Oper) (nm i:Nat) (K:AS→Prop) (s:AS):Prop:=match ops[i]? with
 | some o=>wu P ops nm o K s
 | none=>False
def vcO (P:Program) [Tables P] (ops:Array Oper) (nm:Nat) (o:Option Oper) (K:AS→Prop) (s:AS):Prop:=match o with
 | some o=>wu P ops nm o K s
 | none=>False
def T8 (P:Program) [Tables P] (ops:Array Oper) (base:Nat) (K:AS→Prop):cM→Nat→AS→Prop
 | .nil,k,s=>K { s with next:=base+k }
 | .cons i t .nil,k,s=>Gz P ops (base+k) i (T8 P ops base K t (k+1)) s
 | .cons i t (.cons j u r),k,s=>Gz P ops (base+k) i (T8 P ops base K t (k+1)) s∧T8 P ops base K (.cons j u r) k s
section
variable {P:Program} [Tables P] {W:Nat→Prop} {N:Nat} {w0:gF P} {g:bG} {s:AS} {a:Act} {w:World}
theorem Oc {ops:Array Oper} {nm i:Nat} {K:AS→Prop} (hok:ops.toList.all (nj N)=true) {next:Act→World→Prop} {Q:Exit→Act→World→Prop} (h:cE W N w0 (fun n=>n < nm) g s a w) (hv:Gz P ops nm i K s)
  (hK: ∀ g' s' a' w',cE W N w0 (fun n=>n < nm+1) g' s' a' w'→K s'→next a' w'):wpOp P ops Q i next a w:=by
 unfold Gz at hv
 unfold wpOp
 split at hv
 ·rename_i o ho
  simp only[ho]
  have hd: ∀ d,o.dst=some d→d < N:=fun d hd=>by
   have:=List.all_eq_true.1 hok o (by simpa using Array.mem_of_getElem? ho)
   unfold nj at this;rw[hd]at this;simpa using this
  have go:cv P nm o K s→o.wp P a w next Q:=fun hr=>lu h hd hr hK
  unfold wu at hv
  cases hg:o.guard with
  | none=>
   rw[hg]at hv
   rw[if_pos (by simp[Region.wanted,hg])]
   exact .inl (go hv)
  | some p=>
   obtain ⟨j,want⟩:=p
   rw[hg]at hv
   simp only[dB]at hv
   split at hv
   ·rename_i b hb
    have hy:=iy h hg hb
    by_cases rv:b=want
    ·rw[if_pos (by rw[hy];simp[rv])]
     exact .inl (go (hv.1 rv))
    ·rw[if_neg (by rw[hy];simp[rv])]
     exact hK _ _ _ _ ((h.put hd (v:=V undef) trivial).mono (fun n hn=>by omega)) (hv.2 rv)
   ·exact hv.elim
 ·exact hv.elim
theorem Fm {ops:Array Oper} {base fuel:Nat} {K:AS→Prop} {listed:Array Bool}: ∀ (t:cM) (k:Nat) (s:AS),cM.all ops (fuel+1) listed t=true→T8 P ops base K t k s→ ∀ i ∈ t.Fl,
  ∃ u,cM.here ops fuel (listed.setIfInBounds i true) u=true∧cM.all ops fuel (listed.setIfInBounds i true) u=true∧Gz P ops (base+k) i (T8 P ops base K u (k+1)) s
 | .nil,_,_,_,_,i,hi=>by cases hi
 | .cons j u .nil,k,s,ha,hv,i,hi=>by
  simp only[cM.Fl,List.mem_singleton]at hi
  subst hi
  simp only[cM.all,Bool.and_eq_true]at ha
  exact ⟨u,ha.1.1,ha.1.2,hv⟩
 | .cons j u (.cons j' u' r),k,s,ha,hv,i,hi=>by
  rw[cM.all]at ha
  simp only[Bool.and_eq_true]at ha
  rcases List.mem_cons.1 hi with rfl | hi
  ·exact ⟨u,ha.1.1,ha.1.2,hv.1⟩
  ·exact Fm (.cons j' u' r) k s ha.2 hv.2 i hi
theorem T9 {ops:Array Oper} {base:Nat} {K:AS→Prop} {Q:Exit→Act→World→Prop} (hok:ops.toList.all (nj N)=true) (hK: ∀ g' s' a' w',cE W N w0 (fun n=>n < s'.next) g' s' a' w'→K s'→Q .normal a' w'):
  ∀ (fuel:Nat) (listed:Array Bool) (t:cM) (k:Nat) (g:bG) (s:AS) (a:Act) (w:World),cM.here ops fuel listed t=true→cM.all ops fuel listed t=true→
   cE W N w0 (fun n=>n < base+k) g s a w→T8 P ops base K t k s→wpAny P .any ops Q fuel listed a w
 | 0,listed,t,k,g,s,a,w,hh,ha,h,hv=>by
  simp only[cM.here,Bool.and_eq_true,beq_iff_eq,bne_self_eq_false,Bool.false_or,List.isEmpty_iff]at hh
  obtain ⟨h1,h2⟩:=hh
  rw[h2]at h1
  cases t with
  | nil=>exact ⟨h2,hK _ _ _ _ (h.next _) hv⟩
  | cons i u r=>simp[cM.Fl]at h1
 | fuel+1,listed,t,k,g,s,a,w,hh,ha,h,hv=>by
  simp only[cM.here,Bool.and_eq_true,beq_iff_eq]at hh
  obtain ⟨h1,_⟩:=hh
  refine ⟨fun hr=> ?_,fun i hi=> ?_⟩
  ·rw[hr]at h1
   cases t with
   | nil=>exact hK _ _ _ _ (h.next _) hv
   | cons i u r=>simp[cM.Fl]at h1
  ·rw[← h1]at hi
   obtain ⟨u,hu1,hu2,Co⟩:=Fm t k s ha hv i hi
   exact Oc hok h Co fun g' s' a' w' h' hk=>T9 hok hK fuel _ u (k+1) g' s' a' w' hu1 hu2 (h'.mono fun n hn=>by omega) hk
theorem Od {ops:Array Oper} {base:Nat} {K:AS→Prop} {Q:Exit→Act→World→Prop} {t:cM} (hK: ∀ g' s' a' w',cE W N w0 (fun n=>n < s'.next) g' s' a' w'→K s'→Q .normal a' w')
  (ht:cM.good ops t=true) (hok:ops.toList.all (nj N)=true) (h:cE W N w0 (fun n=>n < base) g s a w) (hv:T8 P ops base K t 0 s):
  wpAny P .any ops Q ops.size (Array.replicate ops.size false) a w:=by
 simp only[cM.good,Bool.and_eq_true]at ht
 exact T9 hok hK _ _ t 0 g s a w ht.1 ht.2 (by simpa using h) hv
def oR (P:Program) [Tables P]:Code→(Exit→AS→Prop)→AS→Prop
 | .region id ops true,F,s=>vc P (.region id ops true) F s∨(P.follows .mixedOrders=true∧ ∃ t,cM.good ops t=true∧T8 P ops s.next (F .normal) t 0 s)
 | .seq a b,F,s=>oR P a (fi (oR P b F) F) s
 | .cond c a b,F,s=>mP (s.aQ c) (oR P a F) (oR P b F) s
 | .block id c,F,s=>oR P c (iY id F) s
 | c,F,s=>vc P c F s
theorem dF: ∀ (c:Code) (F:Exit→AS→Prop) (s:AS),codeOk N c=true→oR P c F s→ ∀ (g:bG) (a:Act) (w:World) (Q:Exit→Act→World→Prop),cE W N w0 (fun n=>n < s.next) g s a w→
  (∀ e g' s' a' w',cE W N w0 (fun n=>n < s'.next) g' s' a' w'→F e s'→Q e a' w')→c.wp P Q a w
 | .region id ops true,F,s,hok,hv,g,a,w,Q,h,hQ=>by
  simp only[oR]at hv
  rcases hv with hv | ⟨hm,t,ht,hv⟩
  ·exact dI _ F s hok hv g a w Q h hQ
  ·exact wp_region_any hm (Od (K:=F .normal) (base:=s.next) (fun g' s' a' w' h' hk=>hQ _ _ _ _ _ h' hk) ht hok h.drew hv)
 | .seq x y,F,s,hok,hv,g,a,w,Q,h,hQ=>by
  simp only[codeOk,Bool.and_eq_true]at hok
  simp only[oR]at hv
  refine wp_seq (dF x _ s hok.1 hv g a w _ h fun e g' s' a' w' h' hk=> ?_)
  cases e with
  | normal=>exact dF y F s' hok.2 hk g' a' w' Q h' hQ
  | _=>exact hQ _ _ _ _ _ h' hk
 | .cond c x y,F,s,hok,hv,g,a,w,Q,h,hQ=>by
  simp only[codeOk,Bool.and_eq_true]at hok
  simp only[oR,mP]at hv
  split at hv
  ·rename_i b hb
   refine wp_cond_split (t:=b) (by rw[h.eval hb];rfl) (fun ht=> ?_) (fun hf=> ?_)
   ·exact dF x F s hok.1 (hv.1 ht) g a w Q h hQ
   ·exact dF y F s hok.2 (hv.2 hf) g a w Q h hQ
  ·exact hv.elim
 | .block id c,F,s,hok,hv,g,a,w,Q,h,hQ=>by
  simp only[codeOk]at hok
  simp only[oR]at hv
  refine wp_block (dF c _ s hok hv g a w _ h fun e g' s' a' w' h' hk=> ?_)
  cases e with
  | exit id'=>
   simp only[iY]at hk
   simp only[Exit.inBlock]
   split
   ·rename_i e;rw[if_pos e]at hk;exact hQ _ _ _ _ _ h' hk
   ·rename_i e;rw[if_neg e]at hk;exact hQ _ _ _ _ _ h' hk
  | _=>exact hQ _ _ _ _ _ h' hk
 | .skip,F,s,hok,hv,g,a,w,Q,h,hQ=>dI _ F s hok hv g a w Q h hQ
 | .region id ops false,F,s,hok,hv,g,a,w,Q,h,hQ=>dI _ F s hok hv g a w Q h hQ
 | .loop c,F,s,hok,hv,g,a,w,Q,h,hQ=>dI _ F s hok hv g a w Q h hQ
 | .exit id,F,s,hok,hv,g,a,w,Q,h,hQ=>dI _ F s hok hv g a w Q h hQ
 | .ret,F,s,hok,hv,g,a,w,Q,h,hQ=>dI _ F s hok hv g a w Q h hQ
 | .rangeFunc .., F,s,hok,hv,g,a,w,Q,h,hQ=>dI _ F s hok hv g a w Q h hQ
 | .scope _,F,s,hok,hv,g,a,w,Q,h,hQ=>dI _ F s hok hv g a w Q h hQ
 | .label _,F,s,hok,hv,g,a,w,Q,h,hQ=>dI _ F s hok hv g a w Q h hQ
 | .goto _,F,s,hok,hv,g,a,w,Q,h,hQ=>dI _ F s hok hv g a w Q h hQ
 | .refuse _,F,s,hok,hv,g,a,w,Q,h,hQ=>dI _ F s hok hv g a w Q h hQ
theorem GC {f:Nat} {fn:Func} {c:Code} (hf:P.funcs[f]? =some fn) (hb:fn.body=some c) (hok:codeOk fn.ntmps c=true) {args:List AV} {box:Nat→Option aW} {n:Nat}
  (hlen:args.length≤fn.ntmps) (hlaid:Laid P w) (ko: ∀ b bx,Tables.row P b=some bx→ ¬ W b) (hn:Names (fun k=>k < n) (start args box n)) (hm:eX g (start args box n) w) (hown: ∀ t b,box t=some b→b.rw=true→W (g t).1)
  {Post:AV→AS→Prop} (hv:oR P c (kY P fn.results.toList Post) (start args box n)):
  Calls P f (args.map (AV.av g)).toArray w fun e w'=> ∃ v g' s',e= .returned (AV.av g' v)∧Post v s'∧AV.ok (fun k=>k < s'.next) v∧(∀ k,k < n→k < s'.next∧g' k=g k)∧eX g' s' w'∧Names (fun k=>k < s'.next) s'∧
   (∀ t b,s'.box t=some b→b.rw=true→w.heap.size≤(g' t).1∨W (g' t).1)∧Frame W w w':=by
 refine calls_of_wp hf hb ?_
 refine dF (N:=fn.ntmps) (W:=W) (w0:=⟨w,n,g,hlaid⟩) c _ _ hok hv g _ w _ ⟨?_,rfl, ?_,hn,hm,fun t b hb hrw=>Or.inr (hown t b hb hrw),Frame.refl _ _,fun k hk=>⟨hk,rfl⟩,ko⟩ ?_
 ·simp;omega
 ·intro d v hd
  simp only[start]at hd
  have hlt:d < args.length:=(List.getElem?_eq_some_iff.1 hd).1
  rw[Array.getElem?_append_left (by simpa using hlt)]
  simp[hd]
 ·intro e g' s' a' w' h' hk
  have fin:sV (jQ (fZ P s' fn.results.toList)) Post s'→ ∃ v,(results fn a'.tmps).run P w'= .ok (AV.av g' v) w'∧Post v s'∧AV.ok (fun k=>k < s'.next) v:=fun hr=>by
   unfold sV at hr
   split at hr
   ·rename_i v hv
    obtain ⟨h1,h2⟩:=j5 h' hv
    exact ⟨v,h1,hr,h2⟩
   ·exact hr.elim
  cases e<;>simp only[kY]at hk
  ·obtain ⟨v,h1,h2,h3⟩:=fin hk
   exact ⟨h'.defers,_,h1,v,g',s',rfl,h2,h3,h'.kJ,h'.mem,h'.names,h'.own,h'.frame⟩
  ·obtain ⟨v,h1,h2,h3⟩:=fin hk
   exact ⟨h'.defers,_,h1,v,g',s',rfl,h2,h3,h'.kJ,h'.mem,h'.names,h'.own,h'.frame⟩
theorem LC {f:Nat} {fn:Func} {c:Code} (hf:P.funcs[f]? =some fn) (hb:fn.body=some c) (hok:codeOk fn.ntmps c=true) {l:List AV} {Post:AV→Prop}
  (hlen:l.length≤fn.ntmps) (hl:l.all AV.plain=true) (hr: ∀ r,Post r→AV.plain r=true) (hv:oR P c (kY P fn.results.toList (fun v _=>Post v)) (start l (fun _=>none) 0)):Pure P f l Post:=by
 refine ⟨hl,hr,fun w hlaid=> ?_⟩
 have hM:l.map AV.val=l.map (AV.av fun _=>(0,0)):=rfl
 rw[hM]
 refine (GC (W:=fun _=>False) (g:=fun _=>(0,0)) hf hb hok hlen hlaid (fun _ _ _=>id) ⟨fun d v hd=> ?_,fun t b hb=> ?_⟩ ⟨fun t b hb=> ?_,fun t b hb=> ?_,fun t b hb=> ?_,fun t t' b b' hb=> ?_⟩ (fun t b hb=> ?_) hv).mono ?_
 ·simp only[start]at hd
  exact AV.bH (List.all_eq_true.1 hl v (List.mem_of_getElem? hd))
 ·simp[start]at hb
 ·simp[start]at hb
 ·simp[start]at hb
 ·simp[start]at hb
 ·simp[start]at hb
 ·simp at hb
 ·rintro e w' ⟨v,g',s',rfl,hpost,alb,Gl,hm,hn,hown,hfr⟩
  exact ⟨v,hpost,by rw[AV.fI (hr v hpost)],hfr⟩
theorem AF {f:Nat} {fn:Func} {c:Code} (hf:P.funcs[f]? =some fn) (hb:fn.body=some c) (hok:codeOk fn.ntmps c=true) {l:List AV} {r:AV}
  (hlen:l.length≤fn.ntmps) (hl:l.all AV.plain=true) (hr:AV.plain r=true) (hv:oR P c (kY P fn.results.toList (fun v _=>v=r)) (start l (fun _=>none) 0)):cB P f l r:=
 LC hf hb hok hlen hl (fun _ hv=>hv▸hr) hv
theorem T' {a b:Code} {F:Exit→AS→Prop}:oR P (.seq a b) F s=oR P a (fi (oR P b F) F) s:=rfl
theorem LD {c:Operand} {a b:Code} {F:Exit→AS→Prop}:oR P (.cond c a b) F s=mP (s.aQ c) (oR P a F) (oR P b F) s:=rfl
theorem Fo {id:Nat} {c:Code} {F:Exit→AS→Prop}:oR P (.block id c) F s=oR P c (iY id F) s:=rfl
theorem AG {id:Nat} {ops:Array Oper} {F:Exit→AS→Prop}:oR P (.region id ops false) F s=vc P (.region id ops false) F s:=rfl
theorem LG {F:Exit→AS→Prop}:oR P .skip F s=vc P .skip F s:=rfl
theorem Ua {F:Exit→AS→Prop}:oR P .ret F s=vc P .ret F s:=rfl
theorem LH {id:Nat} {F:Exit→AS→Prop}:oR P (.exit id) F s=vc P (.exit id) F s:=rfl
theorem LI {c:Code} {F:Exit→AS→Prop}:oR P (.loop c) F s=vc P (.loop c) F s:=rfl
theorem Ub {ops:Array Oper} {base k:Nat} {K:AS→Prop} {e:Nat→Option AV} {b:Nat→Option aW} {n:Nat}:T8 P ops base K .nil k ⟨e,b,n⟩=K ⟨e,b,base+k⟩:=rfl
theorem Uc {ops:Array Oper} {base k i:Nat} {t:cM} {K:AS→Prop}:T8 P ops base K (.cons i t .nil) k s=Gz P ops (base+k) i (T8 P ops base K t (k+1)) s:=rfl
theorem LJ {ops:Array Oper} {base k i j:Nat} {t u r:cM} {K:AS→Prop}:T8 P ops base K (.cons i t (.cons j u r)) k s=(Gz P ops (base+k) i (T8 P ops base K t (k+1)) s∧T8 P ops base K (.cons j u r) k s):=rfl
theorem Ud {l:List Oper} {nm i:Nat} {K:AS→Prop}:Gz P l.toArray nm i K s=vcO P l.toArray nm l[i]? K s:=by unfold Gz vcO;simp
theorem LK {ops:Array Oper} {nm:Nat} {dst:Option Nat} {op:Op} {ty:TypeId} {pos:String} {after:Array Edge} {K:AS→Prop}:vcO P ops nm (some ⟨dst,op,ty,pos,after,none⟩) K s=cv P nm ⟨dst,op,ty,pos,after,none⟩ K s:=rfl
end
theorem aj:type_of% @T'∧type_of% @LD∧type_of% @Fo∧type_of% @AG∧type_of% @LG∧type_of% @Ua∧type_of% @LH∧type_of% @LI∧type_of% @Ub∧type_of% @Uc∧type_of% @LJ∧type_of% @Ud∧type_of% @LK:=
 ⟨@T', @LD, @Fo, @AG, @LG, @Ua, @LH, @LI, @Ub, @Uc, @LJ, @Ud, @LK⟩
end Go.cA
namespace Go.cA
set_option linter.unusedSectionVars false
abbrev rd (b o n c:Nat):SV:=Sum.inr (.inr (b,o,n,c))
section
variable {P:Program} [Tables P]
theorem AH {cs:List SV} {o n m:Nat} {f:Nat→Int} (h:bE cs o n f) (hm:m≤n):List.take m (List.drop o cs)=ae .u8 m f:=by
 apply List.ext_getElem?
 intro i
 by_cases hi:i < m
 ·rw[ay .u8 m f i hi,List.getElem?_take_of_lt hi,List.getElem?_drop,h i (by omega)]
 ·rw[List.getElem?_eq_none (by rw[List.length_take];omega),List.getElem?_eq_none (by rw[ah];omega)]
end
end Go.cA
namespace Go.cA
set_option linter.unusedSectionVars false
def kR:Nat→Code→Code
 | 0,c=>c
 | n+1, .seq _ b=>kR n b
 | _+1,c=>c
def jT (P:Program) [Tables P] (m:Nat) (oO:AS→Prop):Nat→Code→(Exit→AS→Prop)→AS→Prop
 | 0,_,_,s=> ∃ s2,wv m s s2∧m≤s2.next∧oO s2
 | n+1, .seq a b,F,s=>oR P a (fi (jT P m oO n b F) F) s
 | _+1,_,_,_=>False
def vcL (P:Program) [Tables P] (m:Nat):List Nat→Code→(Exit→AS→Prop)→AS→Prop
 | [],c,F,s=>oR P c F s
 | n::r,c,F,s=> ∃ oO:AS→Prop,jT P m oO n c F s∧ ∀ s2,oO s2→vcL P m r (kR n c) F s2
section
variable {P:Program} [Tables P] {W:Nat→Prop} {N:Nat} {w0:gF P} {g:bG} {s:AS} {a:Act} {w:World}
theorem AI: ∀ (n:Nat) (c:Code),codeOk N c=true→codeOk N (kR n c)=true
 | 0,c,h=>h
 | n+1, .seq a b,h=>by
  simp only[codeOk,Bool.and_eq_true]at h
  exact AI n b h.2
 | n+1, .skip,h=>h
 | n+1, .region .., h=>h
 | n+1, .cond .., h=>h
 | n+1, .block .., h=>h
 | n+1, .loop _,h=>h
 | n+1, .exit _,h=>h
 | n+1, .ret,h=>h
 | n+1, .rangeFunc .., h=>h
 | n+1, .scope _,h=>h
 | n+1, .label _,h=>h
 | n+1, .goto _,h=>h
 | n+1, .refuse _,h=>h
def Sound (P:Program) [Tables P] (W:Nat→Prop) (N:Nat) (w0:gF P) (c:Code) (F:Exit→AS→Prop) (s:AS):Prop:=
 ∀ (g:bG) (a:Act) (w:World) (Q:Exit→Act→World→Prop),cE W N w0 (fun n=>n < s.next) g s a w→
  (∀ e g' s' a' w',cE W N w0 (fun n=>n < s'.next) g' s' a' w'→F e s'→Q e a' w')→c.wp P Q a w
theorem vX {m:Nat} (hm:w0.pn≤m) {oO:AS→Prop}: ∀ (n:Nat) (c:Code) (F:Exit→AS→Prop) (s:AS),codeOk N c=true→jT P m oO n c F s→(∀ s2,oO s2→Sound P W N w0 (kR n c) F s2)→Sound P W N w0 c F s
 | 0,c,F,s,hok,hv,ht,g,a,w,Q,h,hQ=>by
  obtain ⟨s2,⟨r,hr,Zp⟩,hn,hmid⟩:=hv
  exact ht s2 hmid _ a w Q (h.dv hr fun n hn'=>⟨Zp n (by omega),by omega⟩) hQ
 | n+1, .seq x y,F,s,hok,hv,ht,g,a,w,Q,h,hQ=>by
  simp only[codeOk,Bool.and_eq_true]at hok
  refine wp_seq (dF x _ s hok.1 hv g a w _ h fun e g' s' a' w' h' hk=> ?_)
  cases e with
  | normal=>exact vX hm n y F s' hok.2 hk ht g' a' w' Q h' hQ
  | _=>exact hQ _ _ _ _ _ h' hk
theorem Fp {m:Nat} (hm:w0.pn≤m): ∀ (oS:List Nat) (c:Code) (F:Exit→AS→Prop) (s:AS),codeOk N c=true→vcL P m oS c F s→Sound P W N w0 c F s
 | [],c,F,s,hok,hv=>fun g a w Q h hQ=>dF c F s hok hv g a w Q h hQ
 | n::r,c,F,s,hok,hv=>by
  obtain ⟨oO,h1,h2⟩:=hv
  exact vX hm n c F s hok h1 fun s2 hs=>Fp hm r _ F s2 (AI n c hok) (h2 s2 hs)
theorem GD {f:Nat} {fn:Func} {c:Code} (hf:P.funcs[f]? =some fn) (hb:fn.body=some c) (hok:codeOk fn.ntmps c=true) {args:List AV} {box:Nat→Option aW} {n:Nat} (oS:List Nat)
  (hlen:args.length≤fn.ntmps) (hlaid:Laid P w) (ko: ∀ b bx,Tables.row P b=some bx→ ¬ W b) (hn:Names (fun k=>k < n) (start args box n)) (hm:eX g (start args box n) w) (hown: ∀ t b,box t=some b→b.rw=true→W (g t).1)
  {Post:AV→AS→Prop} (hv:vcL P n oS c (kY P fn.results.toList Post) (start args box n)):
  Calls P f (args.map (AV.av g)).toArray w fun e w'=> ∃ v g' s',e= .returned (AV.av g' v)∧Post v s'∧AV.ok (fun k=>k < s'.next) v∧(∀ k,k < n→k < s'.next∧g' k=g k)∧eX g' s' w'∧Names (fun k=>k < s'.next) s'∧
   (∀ t b,s'.box t=some b→b.rw=true→w.heap.size≤(g' t).1∨W (g' t).1)∧Frame W w w':=by
 refine calls_of_wp hf hb ?_
 refine Fp (N:=fn.ntmps) (W:=W) (w0:=⟨w,n,g,hlaid⟩) (m:=n) (Nat.le_refl n) oS c _ _ hok hv g _ w _ ⟨?_,rfl, ?_,hn,hm,fun t b hb hrw=>Or.inr (hown t b hb hrw),Frame.refl _ _,fun k hk=>⟨hk,rfl⟩,ko⟩ ?_
 ·simp;omega
 ·intro d v hd
  simp only[start]at hd
  have hlt:d < args.length:=(List.getElem?_eq_some_iff.1 hd).1
  rw[Array.getElem?_append_left (by simpa using hlt)]
  simp[hd]
 ·intro e g' s' a' w' h' hk
  have fin:sV (jQ (fZ P s' fn.results.toList)) Post s'→ ∃ v,(results fn a'.tmps).run P w'= .ok (AV.av g' v) w'∧Post v s'∧AV.ok (fun k=>k < s'.next) v:=fun hr=>by
   unfold sV at hr
   split at hr
   ·rename_i v hv
    obtain ⟨h1,h2⟩:=j5 h' hv
    exact ⟨v,h1,hr,h2⟩
   ·exact hr.elim
  cases e<;>simp only[kY]at hk
  ·obtain ⟨v,h1,h2,h3⟩:=fin hk
   exact ⟨h'.defers,_,h1,v,g',s',rfl,h2,h3,h'.kJ,h'.mem,h'.names,h'.own,h'.frame⟩
  ·obtain ⟨v,h1,h2,h3⟩:=fin hk
   exact ⟨h'.defers,_,h1,v,g',s',rfl,h2,h3,h'.kJ,h'.mem,h'.names,h'.own,h'.frame⟩
theorem LL {f:Nat} {fn:Func} {c:Code} (hf:P.funcs[f]? =some fn) (hb:fn.body=some c) (hok:codeOk fn.ntmps c=true) (oS:List Nat) {args:List AV} {k:Nat} {ins:Nat→Option aW}
  (hlen:args.length≤fn.ntmps) (hc:ai P f=true) (hargs: ∀ v ∈ args,AV.ok (fun n=>n < k) v) (hall: ∀ n,n < k→ ∃ b,ins n=some b) (j6: ∀ n b,ins n=some b→n < k∧ ∀ x ∈ b.cells,SV.ok (fun n=>n < k) x)
  {Post:AV→(Nat→Option aW)→Prop} (hv:vcL P k oS c (kY P fn.results.toList (Ct k Post)) (start args ins k)):bt P f args k ins Post:=by
 refine ⟨hc,hall,fun n b hb=>(j6 n b hb).1,fun W g w hlaid ko hm hown=> ?_⟩
 refine (GD (oS:=oS) (W:=W) (g:=g) (w:=w) hf hb hok hlen hlaid ko ⟨fun d v hd=> ?_,fun t b ht=>j6 t b ht⟩ ⟨hm.lt,hm.cell,hm.free,hm.sep⟩ hown hv).mono ?_
 ·simp only[start]at hd
  exact hargs v (List.mem_of_getElem? hd)
 ·rintro e w' ⟨v,g',s',rfl,⟨q,v0,out,hq,rfl,Vs,hout,hpost⟩,_,Gl,hmem,NH,xN,hfr⟩
  have hr: ∀ n,n < k→mH k q n=n:=fun n hn=>by unfold mH;rw[if_neg (by omega)]
  have hinj: ∀ n n',n < k+1→n' < k+1→mH k q n=mH k q n'→n=n':=fun n n' h1 h2 e=>by
   unfold mH at e
   split at e<;>split at e<;>omega
  refine ⟨v0,out,fun n=>g' (mH k q n),by rw[AV.cP],hpost,fun n hn=> ?_,Vs,fun n b hb=> ?_,⟨fun t b hb=> ?_,fun t b hb i v hv=> ?_,fun t b hb hrw i hi=> ?_,fun t t' b b' hb hrw hb' hne=> ?_⟩,fun t b hb hrw=> ?_,hfr⟩
  ·show g' (mH k q n)=_
   rw[hr n hn];exact (Gl n hn).2
  ·obtain ⟨h1,h2,h3,_⟩:=hout n b hb
   exact ⟨h1,h2,h3⟩
  ·obtain ⟨h1,_,_,b',h2,_⟩:=hout t b hb
   exact hmem.lt _ b' h2
  ·obtain ⟨h1,_,_,b',h2,_,h4⟩:=hout t b hb
   have:=hmem.cell _ b' h2 i (SV.bh (mH k q) v) (by rw[h4];simp[hv])
   rw[this,SV.cP]
  ·obtain ⟨h1,_,_,b',h2,h3,h4⟩:=hout t b hb
   exact hmem.free _ b' h2 (h3 hrw) i (by rw[h4];simpa using hi)
  ·obtain ⟨h1,_,_,c1,h2,h3,_⟩:=hout t b hb
   obtain ⟨h1',_,_,c2,h2',_,_⟩:=hout t' b' hb'
   exact hmem.sep _ _ c1 c2 h2 (h3 hrw) h2' (fun e=>hne (hinj _ _ h1 h1' e))
  ·obtain ⟨h1,_,_,b',h2,h3,_⟩:=hout t b hb
   exact xN _ b' h2 (h3 hrw)
end
theorem Zq {s:AS} {m next:Nat} {env:List (Nat×AV)} {box:List (Nat×aW)} (r:Nat→Nat) (hm: ∀ n,n < m→r n=n) (he: ∀ x ∈ env,s.env x.1=some (AV.bh r x.2)∧AV.ok (fun n=>n < next) x.2)
  (hb: ∀ x ∈ box,(∃ b',s.box (r x.1)=some b'∧(x.2.rw=true→b'.rw=true)∧b'.cells=x.2.cells.map (SV.bh r))∧x.1 < next∧ ∀ y ∈ x.2.cells,SV.ok (fun n=>n < next) y)
  (hi: ∀ x ∈ box,x.2.rw=true→ ∀ y ∈ box,r x.1=r y.1→x.1=y.1):wv m s (ou env box next):=by
 refine ⟨r,⟨fun d v hv=>(he _ (bq _ _ _ hv)).1,fun n b hn=>(hb _ (bq _ _ _ hn)).1,fun n n' b b' hn hrw hn' e=>hi _ (bq _ _ _ hn) hrw _ (bq _ _ _ hn') e,fun d v hv=>(he _ (bq _ _ _ hv)).2,fun t b ht=> ?_⟩,hm⟩
 have:=hb _ (bq _ _ _ ht)
 exact ⟨this.2.1,this.2.2⟩
theorem eD.bh {t n:Nat} {v:AV} {f:Nat→Int} {cs:List SV} (h:eD t v n f cs) {r:Nat→Nat} (hr:r t=t):AV.bh r v=v:=by
 rcases h with ⟨⟨a,rfl⟩,h0⟩ | ⟨o,c,rfl,hs⟩
 ·rfl
 ·rw[er,hr]
section
variable {P:Program} [Tables P] {s:AS} {m:Nat} {oO:AS→Prop}
theorem AJ {n:Nat} {a b:Code} {F:Exit→AS→Prop}:jT P m oO (n+1) (.seq a b) F s=oR P a (fi (jT P m oO n b F) F) s:=rfl
theorem Ue {c:Code} {F:Exit→AS→Prop}:vcL P m [] c F s=oR P c F s:=rfl
theorem gj {c:Code}:kR 0 c=c:=rfl
theorem gk {n:Nat} {a b:Code}:kR (n+1) (.seq a b)=kR n b:=rfl
end
theorem ak:type_of% @AJ∧type_of% @Ue∧type_of% @gj∧type_of% @gk:=⟨@AJ, @Ue, @gj, @gk⟩
end Go.cA
set_option maxRecDepth 20000
namespace Go.cA
set_option linter.unusedSectionVars false
structure St where
 own:Bool
 peer:Bool
 has:Bool
 root:Nat→Int
 priv:Nat→Int
 cQ:Nat→Int
 rU:Nat→Int
 send:Nat→Int
 recv:Nat→Int
 se:Int
 re:Int
 ns:Int
 nr:Int
 pn:Int
 skip:Int
 room:Int
 store:SV
def bo (b:Bool):SV:=Sum.inl (.bool b)
def oE (s:St):List SV:=[Sum.inl (.int .u32 s.se),Sum.inl (.int .u32 s.re),Sum.inl (.int .u32 s.ns),Sum.inl (.int .u32 s.nr),Sum.inl (.int .u32 s.pn),Sum.inl (.int .i64 s.skip),Sum.inl (.int .i64 s.room),s.store]
def bO (s:St):List SV:=
 [Sum.inl (.bool s.own),Sum.inl (.bool s.peer),Sum.inl (.bool s.has)]++(ae .u8 32 s.root++(ae .u8 32 s.priv++(ae .u8 32 s.cQ++(ae .u8 32 s.rU++(ae .u8 32 s.send++(ae .u8 32 s.recv++oE s))))))
def stZ:St:=⟨false,false,false,fun _=>0,fun _=>0,fun _=>0,fun _=>0,fun _=>0,fun _=>0,0,0,0,0,0,0,0,Sum.inl (.slice none 0 0)⟩
theorem bw {k:IntKind} {n m:Nat} {f:Nat→Int} (h:n≤m):List.take m (ae k n f)=ae k n f:=List.take_of_length_le (by rw[ah];exact h)
theorem bz {k:IntKind} {n m:Nat} {f:Nat→Int} (h:n≤m):List.drop m (ae k n f)=[]:=List.drop_eq_nil_of_le (by rw[ah];exact h)
theorem fJ {s:St}:(bO s).length=203:=by simp[bO,oE,ah]
theorem GF {s:St}:List.take 203 (bO s)=bO s:=List.take_of_length_le (by rw[fJ];omega)
theorem Zr {s t:St}:splice (bO s) 0 (bO t)=bO t:=by
 unfold splice
 rw[List.take_zero,List.nil_append,List.drop_eq_nil_of_le (by rw[fJ,fJ];omega),List.append_nil]
theorem pq {cs:List SV} {o n:Nat} {f:Nat→Int} (h:List.take n (List.drop o cs)=ae .u8 n f) (hl:o+n≤cs.length):bE cs o n f:=fun i hi=>by
 have:(List.take n (List.drop o cs))[i]? =some (Sum.inl (.int .u8 (f i))):=by rw[h,ay .u8 n f i hi]
 rwa [List.getElem?_take_of_lt hi,List.getElem?_drop]at this
section
variable {s:St} {g:Nat→Int} {x:Int} {b:Bool} {v:SV}
theorem Oe:(bO s)[0]? =some (Sum.inl (.bool s.own)):=rfl
theorem Og:splice (bO s) 0 [Sum.inl (.bool b)]=bO { s with own:=b }:=rfl
theorem Oh:(bO s)[1]? =some (Sum.inl (.bool s.peer)):=rfl
theorem Oi:splice (bO s) 1 [Sum.inl (.bool b)]=bO { s with peer:=b }:=rfl
theorem Oj:(bO s)[2]? =some (Sum.inl (.bool s.has)):=rfl
theorem Ol:splice (bO s) 2 [Sum.inl (.bool b)]=bO { s with has:=b }:=rfl
theorem AK:(bO s)[195]? =some (Sum.inl (.int .u32 s.se)):=by simp[bO,oE,splice,ah,List.take_append,List.drop_append,bw,bz,List.getElem?_append]
theorem AL:splice (bO s) 195 [Sum.inl (.int .u32 x)]=bO { s with se:=x }:=by simp[bO,oE,splice,ah,List.take_append,List.drop_append,bw,bz,List.getElem?_append]
theorem AN:(bO s)[196]? =some (Sum.inl (.int .u32 s.re)):=by simp[bO,oE,splice,ah,List.take_append,List.drop_append,bw,bz,List.getElem?_append]
theorem AO:splice (bO s) 196 [Sum.inl (.int .u32 x)]=bO { s with re:=x }:=by simp[bO,oE,splice,ah,List.take_append,List.drop_append,bw,bz,List.getElem?_append]
theorem AP:(bO s)[197]? =some (Sum.inl (.int .u32 s.ns)):=by simp[bO,oE,splice,ah,List.take_append,List.drop_append,bw,bz,List.getElem?_append]
theorem AQ:splice (bO s) 197 [Sum.inl (.int .u32 x)]=bO { s with ns:=x }:=by simp[bO,oE,splice,ah,List.take_append,List.drop_append,bw,bz,List.getElem?_append]
theorem AR:(bO s)[198]? =some (Sum.inl (.int .u32 s.nr)):=by simp[bO,oE,splice,ah,List.take_append,List.drop_append,bw,bz,List.getElem?_append]
theorem AT:splice (bO s) 198 [Sum.inl (.int .u32 x)]=bO { s with nr:=x }:=by simp[bO,oE,splice,ah,List.take_append,List.drop_append,bw,bz,List.getElem?_append]
theorem AU:(bO s)[199]? =some (Sum.inl (.int .u32 s.pn)):=by simp[bO,oE,splice,ah,List.take_append,List.drop_append,bw,bz,List.getElem?_append]
theorem AW:splice (bO s) 199 [Sum.inl (.int .u32 x)]=bO { s with pn:=x }:=by simp[bO,oE,splice,ah,List.take_append,List.drop_append,bw,bz,List.getElem?_append]
theorem AX:(bO s)[200]? =some (Sum.inl (.int .i64 s.skip)):=by simp[bO,oE,splice,ah,List.take_append,List.drop_append,bw,bz,List.getElem?_append]
theorem AY:splice (bO s) 200 [Sum.inl (.int .i64 x)]=bO { s with skip:=x }:=by simp[bO,oE,splice,ah,List.take_append,List.drop_append,bw,bz,List.getElem?_append]
theorem AZ:(bO s)[201]? =some (Sum.inl (.int .i64 s.room)):=by simp[bO,oE,splice,ah,List.take_append,List.drop_append,bw,bz,List.getElem?_append]
theorem A4:splice (bO s) 201 [Sum.inl (.int .i64 x)]=bO { s with room:=x }:=by simp[bO,oE,splice,ah,List.take_append,List.drop_append,bw,bz,List.getElem?_append]
theorem A5:(bO s)[202]? =some s.store:=by simp[bO,oE,splice,ah,List.take_append,List.drop_append,bw,bz,List.getElem?_append]
theorem A6:splice (bO s) 202 [v]=bO { s with store:=v }:=by simp[bO,oE,splice,ah,List.take_append,List.drop_append,bw,bz,List.getElem?_append]
theorem Om:List.take 32 (List.drop 3 (bO s))=ae .u8 32 s.root:=by simp[bO,oE,splice,ah,List.take_append,List.drop_append,bw,bz,List.getElem?_append]
theorem On:splice (bO s) 3 (ae .u8 32 g)=bO { s with root:=g }:=by simp[bO,oE,splice,ah,List.take_append,List.drop_append,bw,bz,List.getElem?_append]
theorem GG:List.take 32 (List.drop 35 (bO s))=ae .u8 32 s.priv:=by simp[bO,oE,splice,ah,List.take_append,List.drop_append,bw,bz,List.getElem?_append]
theorem GH:splice (bO s) 35 (ae .u8 32 g)=bO { s with priv:=g }:=by simp[bO,oE,splice,ah,List.take_append,List.drop_append,bw,bz,List.getElem?_append]
theorem GI:List.take 32 (List.drop 67 (bO s))=ae .u8 32 s.cQ:=by simp[bO,oE,splice,ah,List.take_append,List.drop_append,bw,bz,List.getElem?_append]
theorem GJ:splice (bO s) 67 (ae .u8 32 g)=bO { s with cQ:=g }:=by simp[bO,oE,splice,ah,List.take_append,List.drop_append,bw,bz,List.getElem?_append]
theorem GK:List.take 32 (List.drop 99 (bO s))=ae .u8 32 s.rU:=by simp[bO,oE,splice,ah,List.take_append,List.drop_append,bw,bz,List.getElem?_append]
theorem GL:splice (bO s) 99 (ae .u8 32 g)=bO { s with rU:=g }:=by simp[bO,oE,splice,ah,List.take_append,List.drop_append,bw,bz,List.getElem?_append]
theorem A7:List.take 32 (List.drop 131 (bO s))=ae .u8 32 s.send:=by simp[bO,oE,splice,ah,List.take_append,List.drop_append,bw,bz,List.getElem?_append]
theorem A8:splice (bO s) 131 (ae .u8 32 g)=bO { s with send:=g }:=by simp[bO,oE,splice,ah,List.take_append,List.drop_append,bw,bz,List.getElem?_append]
theorem A':List.take 32 (List.drop 163 (bO s))=ae .u8 32 s.recv:=by simp[bO,oE,splice,ah,List.take_append,List.drop_append,bw,bz,List.getElem?_append]
theorem Ba:splice (bO s) 163 (ae .u8 32 g)=bO { s with recv:=g }:=by simp[bO,oE,splice,ah,List.take_append,List.drop_append,bw,bz,List.getElem?_append]
theorem j7 {r:Nat→Nat}:(bO s).map (SV.bh r)=bO { s with store:=SV.bh r s.store }:=by
 unfold bO oE
 simp only[List.map_append,bj aw,List.map_cons,List.map_nil]
 rfl
theorem gX {r:Nat→Nat}:AV.bh r (Ag (bO s))=Ag (bO { s with store:=SV.bh r s.store }):=by
 show AV.bh r (.inl (.inr _))=_
 simp only[AV.bh,CV.bh,j7]
theorem GM {x:SV} (h:x ∈ bO s):x=s.store∨SV.plain x=true:=by
 have row: ∀ f,x ∈ ae .u8 32 f→SV.plain x=true:=fun f hx=>List.all_eq_true.1 aw x hx
 simp only[bO,List.mem_append]at h
 rcases h with h | h | h | h | h | h | h | h
 ·simp only[List.mem_cons,List.not_mem_nil,or_false]at h
  rcases h with rfl | rfl | rfl<;>exact .inr rfl
 ·exact .inr (row _ h)
 ·exact .inr (row _ h)
 ·exact .inr (row _ h)
 ·exact .inr (row _ h)
 ·exact .inr (row _ h)
 ·exact .inr (row _ h)
 ·simp only[oE,List.mem_cons,List.not_mem_nil,or_false]at h
  rcases h with rfl | rfl | rfl | rfl | rfl | rfl | rfl | rfl<;>first | exact .inl rfl | exact .inr rfl
theorem tu (h:SV.plain s.store=true):(bO s).all SV.plain=true:=List.all_eq_true.2 fun x hx=>by
 rcases GM hx with rfl | h'
 ·exact h
 ·exact h'
theorem cO {M:Nat→Prop} (h:SV.ok M s.store): ∀ x ∈ bO s,SV.ok M x:=fun x hx=>by
 rcases GM hx with rfl | h'
 ·exact h
 ·exact SV.bH h'
theorem LM (h:SV.plain s.store=true):AV.plain (Ag (bO s))=true:=by
 have:=tu h
 simpa[AV.plain,CV.plain] using this
end
theorem zSt:List.map Sum.inl (List.replicate 3 (Value.bool false)++List.replicate 192 (Value.int IntKind.u8 0)++List.replicate 5 (Value.int IntKind.u32 0)++List.replicate 2 (Value.int IntKind.i64 0)++List.replicate 1 (Value.slice none 0 0))=bO stZ:=by
 have e:(List.replicate 192 (Sum.inl (Value.int IntKind.u8 0)):List SV)=ae .u8 32 (fun _=>0)++(ae .u8 32 (fun _=>0)++(ae .u8 32 (fun _=>0)++(ae .u8 32 (fun _=>0)++(ae .u8 32 (fun _=>0)++ae .u8 32 (fun _=>0))))):=by
  simp only[← al,List.replicate_append_replicate]
 simp only[List.map_append,List.map_replicate,e,List.append_assoc]
 rfl
theorem af2:(List.replicate 3 (Sum.inl (Value.bool false))++List.replicate 192 (Sum.inl (Value.int IntKind.u8 0))++List.replicate 5 (Sum.inl (Value.int IntKind.u32 0))++List.replicate 2 (Sum.inl (Value.int IntKind.i64 0))++List.replicate 1 (Sum.inl (Value.slice none 0 0)):List SV)=bO stZ:=by
 rw[← zSt];simp only[List.map_append,List.map_replicate]
theorem aq:type_of% @fJ∧type_of% @GF∧type_of% @Zr∧type_of% @zSt∧type_of% @af2∧type_of% @Oe∧type_of% @Oh∧type_of% @Oj∧type_of% @Og∧type_of% @Oi∧type_of% @Ol∧type_of% @AK∧type_of% @AN∧type_of% @AP∧type_of% @AR∧type_of% @AU∧type_of% @AX∧type_of% @AZ∧type_of% @AL∧type_of% @AO∧type_of% @AQ∧type_of% @AT∧type_of% @AW∧type_of% @AY∧type_of% @A4∧type_of% @A5∧type_of% @A6∧type_of% @Om∧type_of% @GG∧type_of% @GI∧type_of% @GK∧type_of% @A7∧type_of% @A'∧type_of% @On∧type_of% @GH∧type_of% @GJ∧type_of% @GL∧type_of% @A8∧type_of% @Ba:=
 ⟨@fJ, @GF, @Zr, @zSt, @af2, @Oe, @Oh, @Oj, @Og, @Oi, @Ol, @AK, @AN, @AP, @AR, @AU, @AX, @AZ, @AL, @AO, @AQ, @AT, @AW, @AY, @A4, @A5, @A6, @Om, @GG, @GI, @GK, @A7, @A', @On, @GH, @GJ, @GL, @A8, @Ba⟩
end Go.cA
set_option maxRecDepth 20000
namespace Go.cA
set_option linter.unusedSectionVars false
structure En where
 ep:Int
 n:Int
 cQ:Nat→Int
 key:Nat→Int
def fQ (e:En):List SV:=Sum.inl (.int .u32 e.ep)::Sum.inl (.int .u32 e.n)::(ae .u8 32 e.cQ++ae .u8 32 e.key)
def qS:En:=⟨0,0,fun _=>0,fun _=>0⟩
theorem fu {e:En}:(fQ e).length=66:=by simp[fQ,ah]
theorem kg {e:En}:(fQ e).all SV.plain=true:=by
 simp only[fQ,List.all_cons,List.all_append,aw,Bool.and_true];rfl
theorem wK {e:En}:List.take 66 (fQ e)=fQ e:=List.take_of_length_le (by rw[fu];omega)
def dw (cs:List SV) (o n:Nat) (f:Nat→En):Prop:= ∀ i,i < n→List.take 66 (List.drop (o+i*66) cs)=fQ (f i)
theorem dw.lt {cs:List SV} {o n:Nat} {f:Nat→En} (h:dw cs o n f) {i:Nat} (hi:i < n):o+i*66+66≤cs.length:=by
 have:=congrArg List.length (h i hi)
 rw[List.length_take,List.length_drop,fu]at this
 omega
def iG:Nat→(Nat→En)→List SV
 | 0,_=>[]
 | n+1,f=>iG n f++fQ (f n)
theorem jD {n:Nat} {f:Nat→En}:(iG n f).length=n*66:=by
 induction n with
 | zero=>rfl
 | succ n ih=>rw[iG,List.length_append,ih,fu];omega
theorem qT {n:Nat} {f:Nat→En}:(iG n f).all SV.plain=true:=by
 induction n with
 | zero=>rfl
 | succ n ih=>rw[iG,List.all_append,ih,kg];rfl
theorem Oo {n:Nat} {f g:Nat→En} (h: ∀ i,i < n→f i=g i):iG n f=iG n g:=by
 induction n with
 | zero=>rfl
 | succ n ih=>rw[iG,iG,ih fun i hi=>h i (by omega),h n (by omega)]
theorem LN {n:Nat} {f:Nat→En} {i:Nat} {tail:List SV} (hi:i < n):List.take 66 (List.drop (i*66) (iG n f++tail))=fQ (f i):=by
 induction n generalizing tail with
 | zero=>omega
 | succ n ih=>
  rw[iG,List.append_assoc]
  by_cases h:i < n
  ·exact ih h
  ·obtain rfl:i=n:=by omega
   rw[List.drop_append_of_le_length (by rw[jD];omega),List.drop_eq_nil_of_le (by rw[jD];omega),List.nil_append,List.take_append_of_le_length (by rw[fu];omega),wK]
theorem Bb {n:Nat} {f:Nat→En} {tail:List SV}:dw (iG n f++tail) 0 n f:=fun i hi=>by
 rw[Nat.zero_add];exact LN hi
theorem vY {n:Nat} {f:Nat→En}:dw (iG n f) 0 n f:=by
 have:=Bb (n:=n) (f:=f) (tail:=[])
 rwa [List.append_nil]at this
theorem VF {cs:List SV} {o n m:Nat} {f:Nat→En} (h:dw cs o n f) (hm:m≤n):dw cs o m f:=fun i hi=>h i (by omega)
theorem GN {cs:List SV} {o n:Nat} {f g:Nat→En} (h:dw cs o n f) (hg: ∀ i,i < n→f i=g i):dw cs o n g:=fun i hi=>by rw[h i hi,hg i hi]
theorem LO {cs:List SV} {o n:Nat} {f:Nat→En} (h:dw cs o n f):List.take (n*66) (List.drop o cs)=iG n f:=by
 induction n with
 | zero=>simp[iG]
 | succ n ih=>
  rw[iG, ← ih (VF h (Nat.le_succ n)), ← h n (Nat.lt_succ_self n),Nat.add_mul,Nat.one_mul,List.take_add,List.drop_drop]
def aY (t:Nat) (v:SV) (n:Nat) (f:Nat→En) (cs:List SV):Prop:=((∃ a,v= .inl (.slice a 0 0))∧n=0)∨ ∃ o c,v= .inr (.inr (t,o,n,c))∧n≤c∧dw cs o n f
theorem aY.ok {t n:Nat} {v:SV} {f:Nat→En} {cs:List SV} (h:aY t v n f cs) {M:Nat→Prop} (ht:M t):SV.ok M v:=by
 rcases h with ⟨⟨a,rfl⟩,h0⟩ | ⟨o,c,rfl,_,hs⟩
 ·exact ⟨trivial,rfl⟩
 ·exact ⟨ht,rfl⟩
theorem aY.bh {t n:Nat} {v:SV} {f:Nat→En} {cs:List SV} (h:aY t v n f cs) {r:Nat→Nat} (hr:r t=t):SV.bh r v=v:=by
 rcases h with ⟨⟨a,rfl⟩,h0⟩ | ⟨o,c,rfl,_,hs⟩
 ·rfl
 ·simp only[SV.bh,hr]
theorem aY.name {n t k:Nat} {v:SV} {f:Nat→En} {cs:List SV} (h:aY t v n f cs): ∃ v0,aY k v0 n f cs∧ ∀ r:Nat→Nat,r k=t→SV.bh r v0=v:=by
 rcases h with ⟨⟨a,e⟩,h0⟩ | ⟨o,c,e,hc,hs⟩
 ·cases e;exact ⟨_, .inl ⟨⟨a,rfl⟩,h0⟩,fun r _=>rfl⟩
 ·cases e;exact ⟨_, .inr ⟨o,c,rfl,hc,hs⟩,fun r hr=>by simp only[SV.bh,hr]⟩
theorem aY.len {t n:Nat} {v:SV} {f:Nat→En} {cs:List SV} (h:aY t v n f cs):fB 1 (some [.inl (.inl v)])=some (some (I .i64 n),none):=by
 rcases h with ⟨⟨a,rfl⟩,rfl⟩ | ⟨o,c,rfl,_,hs⟩<;>rfl
section
variable {e:En} {x:Int} {g:Nat→Int}
theorem Oq:(fQ e)[0]? =some (Sum.inl (.int .u32 e.ep)):=rfl
theorem Ot:(fQ e)[1]? =some (Sum.inl (.int .u32 e.n)):=rfl
theorem GQ:List.take 32 (List.drop 2 (fQ e))=ae .u8 32 e.cQ:=by simp[fQ,ah,List.take_append,bw]
theorem wL:List.take 32 (List.drop 34 (fQ e))=ae .u8 32 e.key:=by simp[fQ,ah,List.drop_append,bw,bz]
theorem af3:List.take 1 (fQ e)=[Sum.inl (.int .u32 e.ep)]:=rfl
theorem af4:List.take 1 (List.drop 1 (fQ e))=[Sum.inl (.int .u32 e.n)]:=rfl
theorem Zs:splice (fQ e) 0 [Sum.inl (.int .u32 x)]=fQ { e with ep:=x }:=rfl
theorem Ou:splice (fQ e) 1 [Sum.inl (.int .u32 x)]=fQ { e with n:=x }:=rfl
theorem Zt:splice (fQ e) 2 (ae .u8 32 g)=fQ { e with cQ:=g }:=by simp[fQ,splice,ah,List.drop_append,bz]
theorem Uf:splice (fQ e) 34 (ae .u8 32 g)=fQ { e with key:=g }:=by simp[fQ,splice,ah,List.take_append,bw,bz]
theorem Zu {e':En}:splice (fQ e) 0 (fQ e')=fQ e':=by
 unfold splice;rw[List.take_zero,List.nil_append,List.drop_eq_nil_of_le (by rw[fu,fu];omega),List.append_nil]
theorem af5:bE (fQ e) 2 32 e.cQ:=pq GQ (by rw[fu];omega)
theorem abE:bE (fQ e) 34 32 e.key:=pq wL (by rw[fu];omega)
end
theorem Ov:(List.replicate 2 (Sum.inl (Value.int IntKind.u32 0))++List.replicate 64 (Sum.inl (Value.int IntKind.u8 0)):List SV)=fQ qS:=by
 have:(List.replicate 64 (Sum.inl (Value.int IntKind.u8 0)):List SV)=ae .u8 32 (fun _=>0)++ae .u8 32 (fun _=>0):=by
  simp only[← al,List.replicate_append_replicate]
 rw[this];rfl
theorem zEn:List.map Sum.inl (List.replicate 2 (Value.int IntKind.u32 0)++List.replicate 64 (Value.int IntKind.u8 0))=fQ qS:=by
 rw[← Ov];simp only[List.map_append,List.map_replicate]
theorem jE (k:IntKind) (n:Nat) (f:Nat→Int):cZ k (ae k n f)=some ((List.range n).map f):=by
 unfold ae
 induction List.range n with
 | nil=>rfl
 | cons a r ih=>simp only[List.map_cons,cZ,if_true,ih]
theorem Ow (x:Nat→Int):eqL .neq 32 (cZ .u8 (ae .u8 32 x)) (cZ .u8 (ae .u8 32 x))=some (some (B false),none):=by
 rw[jE,wI,if_pos ⟨by simp,by simp⟩];simp
def tv (f:Nat→Int):Bool:=decide ((List.range 32).map f=(List.range 32).map (fun _=>(0:Int)))
theorem aL (f:Nat→Int):eqL .eql 32 (cZ .u8 (ae .u8 32 f)) (cZ .u8 (ae .u8 32 (fun _=>0)))=some (some (B (tv f)),none):=by
 rw[jE,jE,Gm,if_pos ⟨by simp,by simp⟩];rfl
theorem aM (f:Nat→Int):eqL .neq 32 (cZ .u8 (ae .u8 32 f)) (cZ .u8 (ae .u8 32 (fun _=>0)))=some (some (B (!tv f)),none):=by
 rw[jE,jE,wI,if_pos ⟨by simp,by simp⟩];rfl
def gL (s:St) (n:Nat):Bool:=decide (0≤s.skip)&&decide (s.skip≤1000)&&decide (0≤s.room)&&decide (s.room≤1000)&&decide ((n:Int)≤s.room)
def cY (s:St):Bool:=(s.own||(tv s.priv&&tv s.cQ))&&(s.peer||tv s.rU)&&(s.has||tv s.send)
def dT (s:St):Bool:=(!(s.re==0)||(tv s.recv&&(s.nr==0)))&&(decide (0 < s.se)||(!s.has&&(s.ns==0)&&(s.pn==0)))
def mW (s:St):Bool:= !(decide (0 < s.se)||decide (0 < s.re))||(s.own&&s.peer)
def rV (e n:Int):Int:=e*4294967296+n
def rW (s:St) (e:En):Bool:= !(e.ep==0)&&decide (rV e.ep e.n < rV s.re s.nr)
def Bc (s:St) (f:Nat→En) (i:Nat):Bool:=rW s (f i)&&(decide (i=0)||decide (rV (f (i - 1)).ep (f (i - 1)).n < rV (f i).ep (f i).n))
def kt (s:St) (f:Nat→En):Nat→Bool
 | 0=>true
 | n+1=>kt s f n&&Bc s f n
def iq (s:St) (n:Nat) (f:Nat→En):Bool:=gL s n&&(s.own||s.peer)&&cY s&&dT s&&mW s&&kt s f n
def HD (x:Int):Prop:=0≤x∧x < 4294967296
structure iH (s:St):Prop where
 root:bY s.root
 priv:bY s.priv
 cQ:bY s.cQ
 rU:bY s.rU
 send:bY s.send
 recv:bY s.recv
 se:HD s.se
 re:HD s.re
 ns:HD s.ns
 nr:HD s.nr
 pn:HD s.pn
 skip: -9223372036854775808≤s.skip∧s.skip < 9223372036854775808
 room: -9223372036854775808≤s.room∧s.room < 9223372036854775808
structure la (e:En):Prop where
 ep:HD e.ep
 n:HD e.n
 cQ:bY e.cQ
 key:bY e.key
theorem iH.ws {s:St} (h:iH s) (v:SV):iH { s with store:=v }:=⟨h.root,h.priv,h.cQ,h.rU,h.send,h.recv,h.se,h.re,h.ns,h.nr,h.pn,h.skip,h.room⟩
def gS (box:Nat→Option aW) (v:SV) (n:Nat) (f:Nat→En):Prop:= ∃ t rw cs,box t=some ⟨rw,cs⟩∧cs.all SV.plain=true∧aY t v n f cs
theorem af6 (e:En):Gd 1 (cZ IntKind.u32 (List.take 1 (fQ e))) (cZ IntKind.u32 (List.take 1 (fQ e)))
  (Gd 1 (cZ IntKind.u32 (List.take 1 (List.drop 1 (fQ e)))) (cZ IntKind.u32 (List.take 1 (List.drop 1 (fQ e))))
   (Gd 32 (cZ IntKind.u8 (List.take 32 (List.drop 2 (fQ e)))) (cZ IntKind.u8 (List.take 32 (List.drop 2 (fQ e))))
    (Gd 32 (cZ IntKind.u8 (List.take 32 (List.drop 34 (fQ e)))) (cZ IntKind.u8 (List.take 32 (List.drop 34 (fQ e)))) (some true))))=some true:=by
 rw[af3,af4,GQ,wL,jE,jE]
 simp[cZ,Gd]
theorem Fq:((List.replicate 2 (Value.int IntKind.u32 0)++List.replicate 64 (Value.int IntKind.u8 0)).all Value.oneCell'=true)=True:=eq_true (by decide)
theorem bL:((List.replicate 3 (Value.bool false)++List.replicate 192 (Value.int IntKind.u8 0)++List.replicate 5 (Value.int IntKind.u32 0)++List.replicate 2 (Value.int IntKind.i64 0)++List.replicate 1 (Value.slice none 0 0)).all Value.oneCell'=true)=True:=eq_true (by simp[List.all_eq_true,List.mem_replicate,Value.oneCell'])
theorem ku {P:Program} [Tables P] {s:AS} {m next:Nat} {env:List (Nat×AV)} {box:List (Nat×aW)} {oO:AS→Prop} {c:Code} {F:Exit→AS→Prop} (h:ga s env box next) (hm:m≤next) (alv:oO (ou env box next)):jT P m oO 0 c F s:=
 ⟨ou env box next,⟨_,h.dv,fun _ _=>rfl⟩,hm,alv⟩
theorem fK:type_of% @fu∧type_of% @wK∧type_of% @Oq∧type_of% @Ot∧type_of% @GQ∧type_of% @wL∧type_of% @Zs∧type_of% @Ou∧type_of% @Zt∧type_of% @Uf∧type_of% @Zu∧type_of% @zEn∧type_of% @Ov∧type_of% @Fq:=
 ⟨@fu, @wK, @Oq, @Ot, @GQ, @wL, @Zs, @Ou, @Zt, @Uf, @Zu, @zEn, @Ov, @Fq⟩
end Go.cA
set_option maxHeartbeats 8000000
set_option maxRecDepth 20000
namespace Go.Proofs.YtoakenpcooglpaaGreatDoor
open Go.cA
set_option linter.unusedSectionVars false
variable [aX]
theorem nQ {n:Nat} {f:Nat→En} {u v:SV} {cs ds:List SV} (h0:aY 0 u n f cs) (h1:aY 1 v n f ds) (hp:cs.all SV.plain=true) (hq:ds.all SV.plain=true) (hn:n < 4611686018427387904):
  bt Tryz.prog 30 [.inl (.inl u), .inl (.inl v)] 2 (lk [(0,⟨false,cs⟩),(1,⟨false,ds⟩)]) (fun v out=>v=B true∧out=fun _=>none):=by
 refine aE Tryz.func30 rfl (by kernel_rfl) (by simp[Tryz.ntmps30]) Tryz.qf (fun x hx=>by
  simp only[List.mem_cons,List.not_mem_nil,or_false]at hx
  rcases hx with rfl | rfl
  ·exact (h0.ok (by decide)).1
  ·exact (h1.ok (by decide)).1) nq (rI hp hq) ?_
 have fy: ∀ {M:Nat→Prop},(∀ x ∈ cs,SV.ok M x)=True:=eq_true (aJ hp)
 have iU: ∀ {M:Nat→Prop},(∀ x ∈ ds,SV.ok M x)=True:=eq_true (aJ hq)
 have oku:AV.ok (fun k=>k < 2) (.inl (.inl u))=True:=eq_true (h0.ok (by decide)).1
 have okv:AV.ok (fun k=>k < 2) (.inl (.inl v))=True:=eq_true (h1.ok (by decide)).1
 simp only[Tryz.results30,h0.len,h1.len,bne_self_eq_false,Tryz.vr,Value.oneCell',Nat.reduceAdd,Nat.reduceMul,Nat.reduceSub,Nat.reduceLT,Nat.reduceLeDiff,Nat.reduceEqDiff,Int.reduceLE,Int.reduceLT,Int.reduceToNat,Int.reduceNe,Int.reduceEq,Nat.reduceBEq,Nat.reduceDiv,Int.reduceAdd,Int.reduceSub,reduceIte,↓reduceIte,reduceCtorEq]
 refine aG n (fun k=>[(0, .inl (.inl u)),(1, .inl (.inl v)),(12,I .i64 n),(13,I .i64 k)])
  (fun k=>[(0,⟨false,cs⟩),(1,⟨false,ds⟩)]) _ ?_ ?_ ?_
 ·simp only[fy,iU,Tryz.vr,Value.oneCell',Nat.reduceAdd,Nat.reduceMul,Nat.reduceSub,Nat.reduceLT,Nat.reduceLeDiff,Nat.reduceEqDiff,Int.reduceLE,Int.reduceLT,Int.reduceToNat,Int.reduceNe,Int.reduceEq,Nat.reduceBEq,Nat.reduceDiv,Int.reduceAdd,Int.reduceSub,reduceIte,↓reduceIte,reduceCtorEq]
  exact ⟨(h0.ok (by decide)).1,(h1.ok (by decide)).1⟩
 ·intro j hj
  rcases h0 with ⟨_,rfl⟩ | ⟨o,c,rfl,_,hs⟩
  ·omega
  rcases h1 with ⟨_,rfl⟩ | ⟨o',c',rfl,_,hs'⟩
  ·omega
  have b1:=hs.lt hj
  have b2:=hs'.lt hj
  simp only[Tryz.vr,Value.oneCell',Nat.reduceAdd,Nat.reduceMul,Nat.reduceSub,Nat.reduceLT,Nat.reduceLeDiff,Nat.reduceEqDiff,Int.reduceLE,Int.reduceLT,Int.reduceToNat,Int.reduceNe,Int.reduceEq,Nat.reduceBEq,Nat.reduceDiv,Int.reduceAdd,Int.reduceSub,reduceIte,↓reduceIte,reduceCtorEq]
  refine aD (by simp;omega) ?_
  simp only[bl,dO hj,hs j hj,hs' j hj,b1,b2,af6,bD j (by omega),Tryz.vr,Value.oneCell',Nat.reduceAdd,Nat.reduceMul,Nat.reduceSub,Nat.reduceLT,Nat.reduceLeDiff,Nat.reduceEqDiff,Int.reduceLE,Int.reduceLT,Int.reduceToNat,Int.reduceNe,Int.reduceEq,Nat.reduceBEq,Nat.reduceDiv,Int.reduceAdd,Int.reduceSub,reduceIte,↓reduceIte,reduceCtorEq]
  refine ⟨by kernel_rfl, ?_⟩
  simp only[Bool.not_true,bD j (by omega),Tryz.vr,Value.oneCell',Nat.reduceAdd,Nat.reduceMul,Nat.reduceSub,Nat.reduceLT,Nat.reduceLeDiff,Nat.reduceEqDiff,Int.reduceLE,Int.reduceLT,Int.reduceToNat,Int.reduceNe,Int.reduceEq,Nat.reduceBEq,Nat.reduceDiv,Int.reduceAdd,Int.reduceSub,reduceIte,↓reduceIte,reduceCtorEq]
  exact ⟨aJ hp,aJ hq⟩
 ·simp only[Tryz.vr,Value.oneCell',Nat.reduceAdd,Nat.reduceMul,Nat.reduceSub,Nat.reduceLT,Nat.reduceLeDiff,Nat.reduceEqDiff,Int.reduceLE,Int.reduceLT,Int.reduceToNat,Int.reduceNe,Int.reduceEq,Nat.reduceBEq,Nat.reduceDiv,Int.reduceAdd,Int.reduceSub,reduceIte,↓reduceIte,reduceCtorEq]
  refine aH (by simp) ?_
  simp only[Tryz.vr,Value.oneCell',Nat.reduceAdd,Nat.reduceMul,Nat.reduceSub,Nat.reduceLT,Nat.reduceLeDiff,Nat.reduceEqDiff,Int.reduceLE,Int.reduceLT,Int.reduceToNat,Int.reduceNe,Int.reduceEq,Nat.reduceBEq,Nat.reduceDiv,Int.reduceAdd,Int.reduceSub,reduceIte,↓reduceIte,reduceCtorEq]
  exact aC rfl ⟨rfl,rfl⟩
theorem Be {s:AS} {nm t u n:Nat} {f:Nat→En} {v w:SV} {cs ds:List SV} {ra rb:Bool} (hb:s.box t=some ⟨ra,cs⟩) (hp:cs.all SV.plain=true) (hb':s.box u=some ⟨rb,ds⟩) (hq:ds.all SV.plain=true)
  (h0:aY t v n f cs) (h1:aY u w n f ds) (hn:n < 4611686018427387904) {dst:Option Nat} {K:AS→Prop} (hk:K (s.put dst (some (B true)))):
  aB Tryz.prog nm 30 (some [.inl (.inl v), .inl (.inl w)]) dst K s:=by
 obtain ⟨v0,g0,e0⟩:=h0.name (k:=0)
 obtain ⟨w0,g1,e1⟩:=h1.name (k:=1)
 refine (nQ g0 g1 hp hq hn).dV (two t u) (jz hb hp hb' hq) rfl ?_ hk
 simp only[List.map_cons,List.map_nil,AV.bh,CV.bh,e0 (two t u) rfl,e1 (two t u) rfl]
theorem LP {x:St} {n:Nat} {f:Nat→En} {u v:SV} {cs ds:List SV} (h0:aY 0 u n f cs) (h1:aY 1 v n f ds) (hp:cs.all SV.plain=true) (hq:ds.all SV.plain=true) (hn:n < 4611686018427387904):
  bt Tryz.prog 20 [Ag (bO { x with store:=u }),Ag (bO { x with store:=v })] 2 (lk [(0,⟨false,cs⟩),(1,⟨false,ds⟩)]) (fun v out=>v=B true∧out=fun _=>none):=by
 refine aE Tryz.func20 rfl (by kernel_rfl) (by simp[Tryz.ntmps20]) Tryz.pZ (fun y hy=>by
  simp only[List.mem_cons,List.not_mem_nil,or_false]at hy
  rcases hy with rfl | rfl
  ·exact cO (h0.ok (by decide))
  ·exact cO (h1.ok (by decide))) nq (rI hp hq) ?_
 simp only[Tryz.results20,aq,Tryz.vr,Value.oneCell',Nat.reduceAdd,Nat.reduceMul,Nat.reduceSub,Nat.reduceLT,Nat.reduceLeDiff,Nat.reduceEqDiff,Int.reduceLE,Int.reduceLT,Int.reduceToNat,Int.reduceNe,Int.reduceEq,Nat.reduceBEq,Nat.reduceDiv,Int.reduceAdd,Int.reduceSub,reduceIte,↓reduceIte,reduceCtorEq]
 refine Be (n:=n) (f:=f) (t:=0) (u:=1) (ra:=false) (rb:=false) (by simp only[af,Tryz.vr,Value.oneCell',Nat.reduceAdd,Nat.reduceMul,Nat.reduceSub,Nat.reduceLT,Nat.reduceLeDiff,Nat.reduceEqDiff,Int.reduceLE,Int.reduceLT,Int.reduceToNat,Int.reduceNe,Int.reduceEq,Nat.reduceBEq,Nat.reduceDiv,Int.reduceAdd,Int.reduceSub,reduceIte,↓reduceIte,reduceCtorEq]) hp (by simp only[af,Tryz.vr,Value.oneCell',Nat.reduceAdd,Nat.reduceMul,Nat.reduceSub,Nat.reduceLT,Nat.reduceLeDiff,Nat.reduceEqDiff,Int.reduceLE,Int.reduceLT,Int.reduceToNat,Int.reduceNe,Int.reduceEq,Nat.reduceBEq,Nat.reduceDiv,Int.reduceAdd,Int.reduceSub,reduceIte,↓reduceIte,reduceCtorEq]) hq h0 h1 hn ?_
 simp only[Bool.not_true,bne_self_eq_false,beq_self_eq_true,Ow,aq,Tryz.vr,Value.oneCell',Nat.reduceAdd,Nat.reduceMul,Nat.reduceSub,Nat.reduceLT,Nat.reduceLeDiff,Nat.reduceEqDiff,Int.reduceLE,Int.reduceLT,Int.reduceToNat,Int.reduceNe,Int.reduceEq,Nat.reduceBEq,Nat.reduceDiv,Int.reduceAdd,Int.reduceSub,reduceIte,↓reduceIte,reduceCtorEq]
 exact aC rfl ⟨rfl,rfl⟩
end Go.Proofs.YtoakenpcooglpaaGreatDoor
set_option maxHeartbeats 8000000
set_option maxRecDepth 20000
namespace Go.Proofs.YtoakenpcooglpaaGreatDoor
open Go.cA
set_option linter.unusedSectionVars false
variable [aX]
theorem Zv {s:St} {n:Nat} {f:Nat→En} {cs:List SV} (h0:aY 0 s.store n f cs) (hp:cs.all SV.plain=true):
  bt Tryz.prog 54 [Ag (bO s)] 1 (lk [(0,⟨false,cs⟩)]) (fun v out=>v=B (gL s n)∧out=fun _=>none):=by
 refine aE Tryz.func54 rfl (by kernel_rfl) (by simp[Tryz.ntmps54]) Tryz.qu (fun y hy=>by
  obtain rfl:=List.mem_singleton.1 hy
  exact cO (h0.ok (by decide))) eG (eH hp) ?_
 have hl:=h0.len
 rcases Bool.eq_false_or_eq_true (decide (0≤s.skip)) with h0 | h0
 ·rcases Bool.eq_false_or_eq_true (decide (s.skip≤1000)) with h1 | h1
  ·rcases Bool.eq_false_or_eq_true (decide (0≤s.room)) with h2 | h2
   ·rcases Bool.eq_false_or_eq_true (decide (s.room≤1000)) with h3 | h3
    ·rcases Bool.eq_false_or_eq_true (decide ((n:Int)≤s.room)) with h4 | h4
     ·(have e:gL s n=true:=(by simp[gL,h0,h1,h2,h3,h4]);rw[e];simp only[Tryz.results54,h0,h1,h2,h3,h4,Bool.not_true,Bool.not_false,bne,aL,aM,aF,al,aq,hl,Tryz.vr,Value.oneCell',simprocAttr, -List.reduceReplicate];exact aC rfl ⟨rfl,rfl⟩)
     ·(have e:gL s n=false:=(by simp[gL,h0,h1,h2,h3,h4]);rw[e];simp only[Tryz.results54,h0,h1,h2,h3,h4,Bool.not_true,Bool.not_false,bne,aL,aM,aF,al,aq,hl,Tryz.vr,Value.oneCell',simprocAttr, -List.reduceReplicate];exact aC rfl ⟨rfl,rfl⟩)
    ·(have e:gL s n=false:=(by simp[gL,h0,h1,h2,h3]);rw[e];simp only[Tryz.results54,h0,h1,h2,h3,Bool.not_true,Bool.not_false,bne,aL,aM,aF,al,aq,hl,Tryz.vr,Value.oneCell',simprocAttr, -List.reduceReplicate];exact aC rfl ⟨rfl,rfl⟩)
   ·(have e:gL s n=false:=(by simp[gL,h0,h1,h2]);rw[e];simp only[Tryz.results54,h0,h1,h2,Bool.not_true,Bool.not_false,bne,aL,aM,aF,al,aq,hl,Tryz.vr,Value.oneCell',simprocAttr, -List.reduceReplicate];exact aC rfl ⟨rfl,rfl⟩)
  ·(have e:gL s n=false:=(by simp[gL,h0,h1]);rw[e];simp only[Tryz.results54,h0,h1,Bool.not_true,Bool.not_false,bne,aL,aM,aF,al,aq,hl,Tryz.vr,Value.oneCell',simprocAttr, -List.reduceReplicate];exact aC rfl ⟨rfl,rfl⟩)
 ·(have e:gL s n=false:=(by simp[gL,h0]);rw[e];simp only[Tryz.results54,h0,Bool.not_true,Bool.not_false,bne,aL,aM,aF,al,aq,hl,Tryz.vr,Value.oneCell',simprocAttr, -List.reduceReplicate];exact aC rfl ⟨rfl,rfl⟩)
theorem Zw {s:St} {n:Nat} {f:Nat→En} {cs:List SV} (h0:aY 0 s.store n f cs) (hp:cs.all SV.plain=true):
  bt Tryz.prog 55 [Ag (bO s)] 1 (lk [(0,⟨false,cs⟩)]) (fun v out=>v=B (cY s)∧out=fun _=>none):=by
 refine aE Tryz.func55 rfl (by kernel_rfl) (by simp[Tryz.ntmps55]) Tryz.qv (fun y hy=>by
  obtain rfl:=List.mem_singleton.1 hy
  exact cO (h0.ok (by decide))) eG (eH hp) ?_
 have hl:=h0.len
 rcases Bool.eq_false_or_eq_true (s.own) with h0 | h0
 ·rcases Bool.eq_false_or_eq_true (s.peer) with h1 | h1
  ·rcases Bool.eq_false_or_eq_true (s.has) with h2 | h2
   ·(have e:cY s=true:=(by simp[cY,h0,h1,h2]);rw[e];simp only[Tryz.results55,h0,h1,h2,Bool.not_true,Bool.not_false,bne,aL,aM,aF,al,aq,hl,Tryz.vr,Value.oneCell',simprocAttr, -List.reduceReplicate];exact aC rfl ⟨rfl,rfl⟩)
   ·rcases Bool.eq_false_or_eq_true (tv s.send) with h3 | h3
    ·(have e:cY s=true:=(by simp[cY,h0,h1,h2,h3]);rw[e];simp only[Tryz.results55,h0,h1,h2,h3,Bool.not_true,Bool.not_false,bne,aL,aM,aF,al,aq,hl,Tryz.vr,Value.oneCell',simprocAttr, -List.reduceReplicate];exact aC rfl ⟨rfl,rfl⟩)
    ·(have e:cY s=false:=(by simp[cY,h0,h1,h2,h3]);rw[e];simp only[Tryz.results55,h0,h1,h2,h3,Bool.not_true,Bool.not_false,bne,aL,aM,aF,al,aq,hl,Tryz.vr,Value.oneCell',simprocAttr, -List.reduceReplicate];exact aC rfl ⟨rfl,rfl⟩)
  ·rcases Bool.eq_false_or_eq_true (tv s.rU) with h2 | h2
   ·rcases Bool.eq_false_or_eq_true (s.has) with h3 | h3
    ·(have e:cY s=true:=(by simp[cY,h0,h1,h2,h3]);rw[e];simp only[Tryz.results55,h0,h1,h2,h3,Bool.not_true,Bool.not_false,bne,aL,aM,aF,al,aq,hl,Tryz.vr,Value.oneCell',simprocAttr, -List.reduceReplicate];exact aC rfl ⟨rfl,rfl⟩)
    ·rcases Bool.eq_false_or_eq_true (tv s.send) with h4 | h4
     ·(have e:cY s=true:=(by simp[cY,h0,h1,h2,h3,h4]);rw[e];simp only[Tryz.results55,h0,h1,h2,h3,h4,Bool.not_true,Bool.not_false,bne,aL,aM,aF,al,aq,hl,Tryz.vr,Value.oneCell',simprocAttr, -List.reduceReplicate];exact aC rfl ⟨rfl,rfl⟩)
     ·(have e:cY s=false:=(by simp[cY,h0,h1,h2,h3,h4]);rw[e];simp only[Tryz.results55,h0,h1,h2,h3,h4,Bool.not_true,Bool.not_false,bne,aL,aM,aF,al,aq,hl,Tryz.vr,Value.oneCell',simprocAttr, -List.reduceReplicate];exact aC rfl ⟨rfl,rfl⟩)
   ·(have e:cY s=false:=(by simp[cY,h0,h1,h2]);rw[e];simp only[Tryz.results55,h0,h1,h2,Bool.not_true,Bool.not_false,bne,aL,aM,aF,al,aq,hl,Tryz.vr,Value.oneCell',simprocAttr, -List.reduceReplicate];exact aC rfl ⟨rfl,rfl⟩)
 ·rcases Bool.eq_false_or_eq_true (tv s.priv) with h1 | h1
  ·rcases Bool.eq_false_or_eq_true (tv s.cQ) with h2 | h2
   ·rcases Bool.eq_false_or_eq_true (s.peer) with h3 | h3
    ·rcases Bool.eq_false_or_eq_true (s.has) with h4 | h4
     ·(have e:cY s=true:=(by simp[cY,h0,h1,h2,h3,h4]);rw[e];simp only[Tryz.results55,h0,h1,h2,h3,h4,Bool.not_true,Bool.not_false,bne,aL,aM,aF,al,aq,hl,Tryz.vr,Value.oneCell',simprocAttr, -List.reduceReplicate];exact aC rfl ⟨rfl,rfl⟩)
     ·rcases Bool.eq_false_or_eq_true (tv s.send) with h5 | h5
      ·(have e:cY s=true:=(by simp[cY,h0,h1,h2,h3,h4,h5]);rw[e];simp only[Tryz.results55,h0,h1,h2,h3,h4,h5,Bool.not_true,Bool.not_false,bne,aL,aM,aF,al,aq,hl,Tryz.vr,Value.oneCell',simprocAttr, -List.reduceReplicate];exact aC rfl ⟨rfl,rfl⟩)
      ·(have e:cY s=false:=(by simp[cY,h0,h1,h2,h3,h4,h5]);rw[e];simp only[Tryz.results55,h0,h1,h2,h3,h4,h5,Bool.not_true,Bool.not_false,bne,aL,aM,aF,al,aq,hl,Tryz.vr,Value.oneCell',simprocAttr, -List.reduceReplicate];exact aC rfl ⟨rfl,rfl⟩)
    ·rcases Bool.eq_false_or_eq_true (tv s.rU) with h4 | h4
     ·rcases Bool.eq_false_or_eq_true (s.has) with h5 | h5
      ·(have e:cY s=true:=(by simp[cY,h0,h1,h2,h3,h4,h5]);rw[e];simp only[Tryz.results55,h0,h1,h2,h3,h4,h5,Bool.not_true,Bool.not_false,bne,aL,aM,aF,al,aq,hl,Tryz.vr,Value.oneCell',simprocAttr, -List.reduceReplicate];exact aC rfl ⟨rfl,rfl⟩)
      ·rcases Bool.eq_false_or_eq_true (tv s.send) with h6 | h6
       ·(have e:cY s=true:=(by simp[cY,h0,h1,h2,h3,h4,h5,h6]);rw[e];simp only[Tryz.results55,h0,h1,h2,h3,h4,h5,h6,Bool.not_true,Bool.not_false,bne,aL,aM,aF,al,aq,hl,Tryz.vr,Value.oneCell',simprocAttr, -List.reduceReplicate];exact aC rfl ⟨rfl,rfl⟩)
       ·(have e:cY s=false:=(by simp[cY,h0,h1,h2,h3,h4,h5,h6]);rw[e];simp only[Tryz.results55,h0,h1,h2,h3,h4,h5,h6,Bool.not_true,Bool.not_false,bne,aL,aM,aF,al,aq,hl,Tryz.vr,Value.oneCell',simprocAttr, -List.reduceReplicate];exact aC rfl ⟨rfl,rfl⟩)
     ·(have e:cY s=false:=(by simp[cY,h0,h1,h2,h3,h4]);rw[e];simp only[Tryz.results55,h0,h1,h2,h3,h4,Bool.not_true,Bool.not_false,bne,aL,aM,aF,al,aq,hl,Tryz.vr,Value.oneCell',simprocAttr, -List.reduceReplicate];exact aC rfl ⟨rfl,rfl⟩)
   ·(have e:cY s=false:=(by simp[cY,h0,h1,h2]);rw[e];simp only[Tryz.results55,h0,h1,h2,Bool.not_true,Bool.not_false,bne,aL,aM,aF,al,aq,hl,Tryz.vr,Value.oneCell',simprocAttr, -List.reduceReplicate];exact aC rfl ⟨rfl,rfl⟩)
  ·(have e:cY s=false:=(by simp[cY,h0,h1]);rw[e];simp only[Tryz.results55,h0,h1,Bool.not_true,Bool.not_false,bne,aL,aM,aF,al,aq,hl,Tryz.vr,Value.oneCell',simprocAttr, -List.reduceReplicate];exact aC rfl ⟨rfl,rfl⟩)
theorem VG {s:St} {n:Nat} {f:Nat→En} {cs:List SV} (h0:aY 0 s.store n f cs) (hp:cs.all SV.plain=true):
  bt Tryz.prog 56 [Ag (bO s)] 1 (lk [(0,⟨false,cs⟩)]) (fun v out=>v=B (dT s)∧out=fun _=>none):=by
 refine aE Tryz.func56 rfl (by kernel_rfl) (by simp[Tryz.ntmps56]) Tryz.qw (fun y hy=>by
  obtain rfl:=List.mem_singleton.1 hy
  exact cO (h0.ok (by decide))) eG (eH hp) ?_
 have hl:=h0.len
 rcases Bool.eq_false_or_eq_true (s.re==0) with h0 | h0
 ·rcases Bool.eq_false_or_eq_true (tv s.recv) with h1 | h1
  ·rcases Bool.eq_false_or_eq_true (s.nr==0) with h2 | h2
   ·rcases Bool.eq_false_or_eq_true (decide (0 < s.se)) with h3 | h3
    ·(have e:dT s=true:=(by simp[dT,h0,h1,h2,h3]);rw[e];simp only[Tryz.results56,h0,h1,h2,h3,Bool.not_true,Bool.not_false,bne,aL,aM,aF,al,aq,hl,Tryz.vr,Value.oneCell',simprocAttr, -List.reduceReplicate];exact aC rfl ⟨rfl,rfl⟩)
    ·rcases Bool.eq_false_or_eq_true (s.has) with h4 | h4
     ·(have e:dT s=false:=(by simp[dT,h0,h1,h2,h3,h4]);rw[e];simp only[Tryz.results56,h0,h1,h2,h3,h4,Bool.not_true,Bool.not_false,bne,aL,aM,aF,al,aq,hl,Tryz.vr,Value.oneCell',simprocAttr, -List.reduceReplicate];exact aC rfl ⟨rfl,rfl⟩)
     ·rcases Bool.eq_false_or_eq_true (s.ns==0) with h5 | h5
      ·rcases Bool.eq_false_or_eq_true (s.pn==0) with h6 | h6
       ·(have e:dT s=true:=(by simp[dT,h0,h1,h2,h3,h4,h5,h6]);rw[e];simp only[Tryz.results56,h0,h1,h2,h3,h4,h5,h6,Bool.not_true,Bool.not_false,bne,aL,aM,aF,al,aq,hl,Tryz.vr,Value.oneCell',simprocAttr, -List.reduceReplicate];exact aC rfl ⟨rfl,rfl⟩)
       ·(have e:dT s=false:=(by simp[dT,h0,h1,h2,h3,h4,h5,h6]);rw[e];simp only[Tryz.results56,h0,h1,h2,h3,h4,h5,h6,Bool.not_true,Bool.not_false,bne,aL,aM,aF,al,aq,hl,Tryz.vr,Value.oneCell',simprocAttr, -List.reduceReplicate];exact aC rfl ⟨rfl,rfl⟩)
      ·(have e:dT s=false:=(by simp[dT,h0,h1,h2,h3,h4,h5]);rw[e];simp only[Tryz.results56,h0,h1,h2,h3,h4,h5,Bool.not_true,Bool.not_false,bne,aL,aM,aF,al,aq,hl,Tryz.vr,Value.oneCell',simprocAttr, -List.reduceReplicate];exact aC rfl ⟨rfl,rfl⟩)
   ·(have e:dT s=false:=(by simp[dT,h0,h1,h2]);rw[e];simp only[Tryz.results56,h0,h1,h2,Bool.not_true,Bool.not_false,bne,aL,aM,aF,al,aq,hl,Tryz.vr,Value.oneCell',simprocAttr, -List.reduceReplicate];exact aC rfl ⟨rfl,rfl⟩)
  ·(have e:dT s=false:=(by simp[dT,h0,h1]);rw[e];simp only[Tryz.results56,h0,h1,Bool.not_true,Bool.not_false,bne,aL,aM,aF,al,aq,hl,Tryz.vr,Value.oneCell',simprocAttr, -List.reduceReplicate];exact aC rfl ⟨rfl,rfl⟩)
 ·rcases Bool.eq_false_or_eq_true (decide (0 < s.se)) with h1 | h1
  ·(have e:dT s=true:=(by simp[dT,h0,h1]);rw[e];simp only[Tryz.results56,h0,h1,Bool.not_true,Bool.not_false,bne,aL,aM,aF,al,aq,hl,Tryz.vr,Value.oneCell',simprocAttr, -List.reduceReplicate];exact aC rfl ⟨rfl,rfl⟩)
  ·rcases Bool.eq_false_or_eq_true (s.has) with h2 | h2
   ·(have e:dT s=false:=(by simp[dT,h0,h1,h2]);rw[e];simp only[Tryz.results56,h0,h1,h2,Bool.not_true,Bool.not_false,bne,aL,aM,aF,al,aq,hl,Tryz.vr,Value.oneCell',simprocAttr, -List.reduceReplicate];exact aC rfl ⟨rfl,rfl⟩)
   ·rcases Bool.eq_false_or_eq_true (s.ns==0) with h3 | h3
    ·rcases Bool.eq_false_or_eq_true (s.pn==0) with h4 | h4
     ·(have e:dT s=true:=(by simp[dT,h0,h1,h2,h3,h4]);rw[e];simp only[Tryz.results56,h0,h1,h2,h3,h4,Bool.not_true,Bool.not_false,bne,aL,aM,aF,al,aq,hl,Tryz.vr,Value.oneCell',simprocAttr, -List.reduceReplicate];exact aC rfl ⟨rfl,rfl⟩)
     ·(have e:dT s=false:=(by simp[dT,h0,h1,h2,h3,h4]);rw[e];simp only[Tryz.results56,h0,h1,h2,h3,h4,Bool.not_true,Bool.not_false,bne,aL,aM,aF,al,aq,hl,Tryz.vr,Value.oneCell',simprocAttr, -List.reduceReplicate];exact aC rfl ⟨rfl,rfl⟩)
    ·(have e:dT s=false:=(by simp[dT,h0,h1,h2,h3]);rw[e];simp only[Tryz.results56,h0,h1,h2,h3,Bool.not_true,Bool.not_false,bne,aL,aM,aF,al,aq,hl,Tryz.vr,Value.oneCell',simprocAttr, -List.reduceReplicate];exact aC rfl ⟨rfl,rfl⟩)
theorem Zx {s:St} {n:Nat} {f:Nat→En} {cs:List SV} (h0:aY 0 s.store n f cs) (hp:cs.all SV.plain=true):
  bt Tryz.prog 57 [Ag (bO s)] 1 (lk [(0,⟨false,cs⟩)]) (fun v out=>v=B (mW s)∧out=fun _=>none):=by
 refine aE Tryz.func57 rfl (by kernel_rfl) (by simp[Tryz.ntmps57]) Tryz.qx (fun y hy=>by
  obtain rfl:=List.mem_singleton.1 hy
  exact cO (h0.ok (by decide))) eG (eH hp) ?_
 have hl:=h0.len
 rcases Bool.eq_false_or_eq_true (decide (0 < s.se)) with h0 | h0
 ·rcases Bool.eq_false_or_eq_true (s.own) with h1 | h1
  ·rcases Bool.eq_false_or_eq_true (s.peer) with h2 | h2
   ·(have e:mW s=true:=(by simp[mW,h0,h1,h2]);rw[e];simp only[Tryz.results57,h0,h1,h2,Bool.not_true,Bool.not_false,bne,aL,aM,aF,al,aq,hl,Tryz.vr,Value.oneCell',simprocAttr, -List.reduceReplicate];exact aC rfl ⟨rfl,rfl⟩)
   ·(have e:mW s=false:=(by simp[mW,h0,h1,h2]);rw[e];simp only[Tryz.results57,h0,h1,h2,Bool.not_true,Bool.not_false,bne,aL,aM,aF,al,aq,hl,Tryz.vr,Value.oneCell',simprocAttr, -List.reduceReplicate];exact aC rfl ⟨rfl,rfl⟩)
  ·(have e:mW s=false:=(by simp[mW,h0,h1]);rw[e];simp only[Tryz.results57,h0,h1,Bool.not_true,Bool.not_false,bne,aL,aM,aF,al,aq,hl,Tryz.vr,Value.oneCell',simprocAttr, -List.reduceReplicate];exact aC rfl ⟨rfl,rfl⟩)
 ·rcases Bool.eq_false_or_eq_true (decide (0 < s.re)) with h1 | h1
  ·rcases Bool.eq_false_or_eq_true (s.own) with h2 | h2
   ·rcases Bool.eq_false_or_eq_true (s.peer) with h3 | h3
    ·(have e:mW s=true:=(by simp[mW,h0,h1,h2,h3]);rw[e];simp only[Tryz.results57,h0,h1,h2,h3,Bool.not_true,Bool.not_false,bne,aL,aM,aF,al,aq,hl,Tryz.vr,Value.oneCell',simprocAttr, -List.reduceReplicate];exact aC rfl ⟨rfl,rfl⟩)
    ·(have e:mW s=false:=(by simp[mW,h0,h1,h2,h3]);rw[e];simp only[Tryz.results57,h0,h1,h2,h3,Bool.not_true,Bool.not_false,bne,aL,aM,aF,al,aq,hl,Tryz.vr,Value.oneCell',simprocAttr, -List.reduceReplicate];exact aC rfl ⟨rfl,rfl⟩)
   ·(have e:mW s=false:=(by simp[mW,h0,h1,h2]);rw[e];simp only[Tryz.results57,h0,h1,h2,Bool.not_true,Bool.not_false,bne,aL,aM,aF,al,aq,hl,Tryz.vr,Value.oneCell',simprocAttr, -List.reduceReplicate];exact aC rfl ⟨rfl,rfl⟩)
  ·(have e:mW s=true:=(by simp[mW,h0,h1]);rw[e];simp only[Tryz.results57,h0,h1,Bool.not_true,Bool.not_false,bne,aL,aM,aF,al,aq,hl,Tryz.vr,Value.oneCell',simprocAttr, -List.reduceReplicate];exact aC rfl ⟨rfl,rfl⟩)
end Go.Proofs.YtoakenpcooglpaaGreatDoor
