/-
  What the row's condition gives: where the sentinels lie, and that the tables lie as the calculus asks.
-/
import Derived.Test.YtbipdofobgabhaaGreatDoorVcgFacts
import Derived.Test.YtbipdofobgabhaaGreatDoorRows
import Derived.WalkKit
import Derived.ProofKit
import Derived.OpenShut
import Derived.ShutString
import Derived.ChangeOld
import Derived.Below
import Derived.SizedLaws
import Derived.Deep.Strs
import Derived.LaidMore
import Derived.LaidLaws
import Derived.Handed
import Derived.Stop.Joined
set_option maxRecDepth 100000
set_option linter.unusedVariables false
set_option linter.unusedSimpArgs false
namespace Go.Proofs.YtbipdofobgabhaaGreatDoor.lawTalkDone

open Go.ChangeShapes Go.WideShapes Go.ChangeAt Go.RowKit
open Go.bA
set_option linter.unusedVariables false
set_option linter.unusedSimpArgs false
theorem Oj:Tryz.prog.cellsOf 26=1:=by kernel_rfl
theorem gb0:Tryz.prog.globalNamed "ratchet/machine.errBad" =some 0:=by kernel_rfl
theorem gb1:Tryz.prog.globalNamed "ratchet/machine.errTooLong" =some 1:=by kernel_rfl
theorem gb2:Tryz.prog.globalNamed "ratchet/machine.errNotReady" =some 2:=by kernel_rfl
theorem gb3:Tryz.prog.globalNamed "ratchet/machine.errCounter" =some 3:=by kernel_rfl
theorem gb4:Tryz.prog.globalNamed "ratchet/machine.errMalformed" =some 4:=by kernel_rfl
theorem gb5:Tryz.prog.globalNamed "ratchet/machine.errBadTag" =some 5:=by kernel_rfl
theorem gb6:Tryz.prog.globalNamed "ratchet/machine.errSkipLimit" =some 6:=by kernel_rfl
theorem gb7:Tryz.prog.globalNamed "ratchet/machine.errStoreFull" =some 7:=by kernel_rfl
theorem gb8:Tryz.prog.globalNamed "ratchet/machine.errOld" =some 8:=by kernel_rfl
theorem ge: ∀ g,g < 9→(Tryz.prog.globals[g]?).map (·.type)=some 50:=by
 have h:((List.range 9).all fun g=>(Tryz.prog.globals[g]?).map (·.type)==some 50)=true:=by kernel_rfl
 intro g hg
 have:=List.all_eq_true.1 h g (List.mem_range.2 hg)
 simpa using this
theorem g2:Tryz.prog.globalNamed "ratchet/prim.roundConstants" =some 9:=by kernel_rfl
theorem t2:(Tryz.prog.globals[9]?).map (·.type)=some 177:=by kernel_rfl
def tabs:List (String×DataW Unit):=[("ratchet/prim.roundConstants",Rows.laid_ratchet_prim_roundConstants),
 ("ratchet/machine.errBad",Rows.laid_ratchet_machine_errBad),("ratchet/machine.errMalformed",Rows.laid_ratchet_machine_errMalformed),("ratchet/machine.errBadTag",Rows.laid_ratchet_machine_errBadTag),("ratchet/machine.errSkipLimit",Rows.laid_ratchet_machine_errSkipLimit),("ratchet/machine.errStoreFull",Rows.laid_ratchet_machine_errStoreFull),("ratchet/machine.errCounter",Rows.laid_ratchet_machine_errCounter),("ratchet/machine.errOld",Rows.laid_ratchet_machine_errOld),("ratchet/machine.errNotReady",Rows.laid_ratchet_machine_errNotReady),("ratchet/machine.errTooLong",Rows.laid_ratchet_machine_errTooLong)]
theorem d2:(Rows.laid_ratchet_prim_roundConstants:DataW Unit)= .agg ((List.range 64).map fun i=> .lit (.int .u32 (kW i))):=by kernel_rfl
theorem aax (u:TypeId) (h:Tryz.prog.typeName? 3 u=some "*errors.errorString"):u=181:=
 typeName_ptr_named (nm:="errors.errorString") (tp:=181) (by kernel_rfl) (by kernel_rfl) (by decide) u h
theorem Rr:Tryz.prog.cellsOf 9=1:=by kernel_rfl
theorem UH:Tryz.prog.cellsOf 206=1:=by kernel_rfl
theorem Ol {W:World} {t n fuel:Nat} {f:Nat→Int} {cs:List Value} {p:List MemPlace} {sp:Nat→Bool} {held:Bool} (ht:Tryz.prog.underlying t=some (.array n 26))
  (h:DataW.trod (fun _=>()) Tryz.prog W 0 sp held fuel t cs=some (.agg ((List.range n).map fun i=> .lit (.int .u32 (f i))),p)): ∀ i,i < n→cs[i]? =some (.int .u32 (f i)):=by
 intro i hi
 obtain ⟨xs,m,rfl,hx,hlen,hxl,hel⟩:=DataW.trod_array ht h
 have he:=hel i hi
 rw[Oj,Nat.mul_one]at he
 have Rs:i < xs.length:=by omega
 rw[List.getElem?_eq_getElem Rs]at he
 obtain ⟨z,hc,hz,hw⟩:=DataW.trod_int Tryz.underlying26 he
 have e1:(xs.map (·.1))[i]? =((List.range n).map fun i=>(DataW.lit (.int .u32 (f i)):DataW Unit))[i]? :=by
  have:=congrArg Prod.fst hx
  simp only[DataW.agg.injEq]at this
  rw[this]
 rw[List.getElem?_map,List.getElem?_map,List.getElem?_range hi,List.getElem?_eq_getElem Rs]at e1
 simp only[Option.map_some,Option.some.injEq]at e1
 rw[hz]at e1
 simp only[DataW.lit.injEq,Lit.int.injEq,true_and]at e1
 subst e1
 have:((cs.drop i).take 1)[0]? =some (.int .u32 (f i)):=by rw[hc];rfl
 rw[List.getElem?_take_of_lt (by decide),List.getElem?_drop]at this
 simpa using this
theorem jQ {W:World} {b i:Nat} {v:Value} (h:W.cell? ⟨b,i,none⟩=some v):b < W.heap.size:=by
 rcases Nat.lt_or_ge b W.heap.size with hb | hb
 ·exact hb
 ·have hn:W.heap[b]? =none:=Array.getElem?_eq_none hb
  simp[World.cell?,hn]at h
theorem sent {W:World} {f:Nat} {cs:Array Value} {text:List UInt8} {p:List MemPlace} {n:String} {g:Nat} (hg:Tryz.prog.globalNamed n=some g) (hv:W.var? Tryz.prog n=some cs)
  (hd:DataW.trod (fun _=>()) Tryz.prog W 0 (fun _=>true) false f 50 cs.toList=some (.iface "*errors.errorString" (.ptr (.agg [.lit (.string text)])),p))
  (hok:cs.size=1→ ∀ u v,W.cell? ⟨g,0,none⟩=some (.iface u v)→Value.okWide Tryz.prog W .any 0 u v):
  ∃ a,W.cell? ⟨g,0,none⟩=some (.iface 181 (.pointer (some a)))∧p=[.cell a.block a.off]∧cs.size=1:=by
 obtain ⟨l⟩:=cs
 have ok: ∀ u v,l=[.iface u v]→Value.okWide Tryz.prog W .any 0 u v:=fun u v e=>by
  subst e
  exact hok rfl u v (by simpa using World.var?_cell hg hv 0)
 obtain ⟨a,s,rfl,hc,hs,hz,rfl⟩:=errorString_of_trod Tryz.underlying50 aax Tryz.underlying181 Tryz.underlying206 rfl rfl Tryz.underlying9 UH Rr hd ok
 exact ⟨a,by simpa using World.var?_cell hg hv 0,by simp[MemPlace.row],rfl⟩
theorem ji {R q q':List MemPlace} {x:MemPlace} (h:q'.Sublist q):(x::q').Sublist (R++[x]++q):=by
 rw[List.append_assoc]
 exact (List.Sublist.cons_cons x h).trans (List.sublist_append_right R _)
theorem Dh {α β:Type} (f:α→β) {l:List α} (h:(l.map f).Nodup):l.Nodup:=by
 unfold List.Nodup at h ⊢
 exact (List.pairwise_map.1 h).imp fun hab e=>hab (congrArg f e)
def perm (i:Nat):Nat:=[0,8,7,5,1,2,3,4,6].getD i 0
theorem Di: ∀ i,i < 9→perm i < 9:=by decide
theorem Rt: ∀ i,i < 9→ ∀ j,j < 9→perm i=perm j→i=j:=by decide
theorem UI {W:World} (h:laidMetH Tryz.prog tabs W): ∃ _:aG,Laid Tryz.prog W:=by
 rw[MakeChecks.laidMetH_plain _ _ _ (by kernel_rfl)]at h
 obtain ⟨ps,⟨a0,u0,cs0,f0,p0,q0,ha0,TV,Uk,hd0,⟨a1,u1,G0,f1,p1,q1,ha1,Zb,hv1,hd1,⟨a2,u2,qH,f2,p2,q2,ha2,TN,UB,hd2,⟨a3,u3,cs3,f3,p3,q3,ha3,hu3,hv3,hd3,⟨a4,u4,cs4,f4,p4,q4,ha4,hu4,hv4,hd4,⟨a5,u5,cs5,f5,p5,q5,ha5,hu5,hv5,hd5,⟨a6,u6,cs6,f6,p6,q6,ha6,hu6,hv6,hd6,⟨a7,u7,cs7,f7,p7,q7,ha7,hu7,hv7,hd7,⟨a8,u8,cs8,f8,p8,q8,ha8,hu8,hv8,hd8,⟨a9,u9,cs9,f9,p9,q9,ha9,hu9,hv9,hd9,_,e9⟩,e8⟩,e7⟩,e6⟩,e5⟩,e4⟩,e3⟩,e2⟩,e1⟩,e0⟩,hnd,hrows⟩:=h
 obtain rfl:=Option.some.inj (g2.symm.trans ha0)
 obtain rfl:=Option.some.inj (gb0.symm.trans ha1)
 obtain rfl:=Option.some.inj (gb4.symm.trans ha2)
 obtain rfl:=Option.some.inj (gb5.symm.trans ha3)
 obtain rfl:=Option.some.inj (gb6.symm.trans ha4)
 obtain rfl:=Option.some.inj (gb7.symm.trans ha5)
 obtain rfl:=Option.some.inj (gb3.symm.trans ha6)
 obtain rfl:=Option.some.inj (gb8.symm.trans ha7)
 obtain rfl:=Option.some.inj (gb2.symm.trans ha8)
 obtain rfl:=Option.some.inj (gb1.symm.trans ha9)
 obtain rfl:=Option.some.inj (t2.symm.trans TV)
 obtain rfl:=Option.some.inj ((ge _ (by decide)).symm.trans Zb)
 obtain rfl:=Option.some.inj ((ge _ (by decide)).symm.trans TN)
 obtain rfl:=Option.some.inj ((ge _ (by decide)).symm.trans hu3)
 obtain rfl:=Option.some.inj ((ge _ (by decide)).symm.trans hu4)
 obtain rfl:=Option.some.inj ((ge _ (by decide)).symm.trans hu5)
 obtain rfl:=Option.some.inj ((ge _ (by decide)).symm.trans hu6)
 obtain rfl:=Option.some.inj ((ge _ (by decide)).symm.trans hu7)
 obtain rfl:=Option.some.inj ((ge _ (by decide)).symm.trans hu8)
 obtain rfl:=Option.some.inj ((ge _ (by decide)).symm.trans hu9)
 rw[d2]at hd0
 have m0: ∀ x,x ∈ q0→x ∈ ps:=fun x hx=>by rw[e0];exact List.mem_append_right _ hx
 have m1: ∀ x,x ∈ q1→x ∈ ps:=fun x hx=>m0 x (by rw[e1];exact List.mem_append_right _ hx)
 have m2: ∀ x,x ∈ q2→x ∈ ps:=fun x hx=>m1 x (by rw[e2];exact List.mem_append_right _ hx)
 have m3: ∀ x,x ∈ q3→x ∈ ps:=fun x hx=>m2 x (by rw[e3];exact List.mem_append_right _ hx)
 have m4: ∀ x,x ∈ q4→x ∈ ps:=fun x hx=>m3 x (by rw[e4];exact List.mem_append_right _ hx)
 have m5: ∀ x,x ∈ q5→x ∈ ps:=fun x hx=>m4 x (by rw[e5];exact List.mem_append_right _ hx)
 have m6: ∀ x,x ∈ q6→x ∈ ps:=fun x hx=>m5 x (by rw[e6];exact List.mem_append_right _ hx)
 have m7: ∀ x,x ∈ q7→x ∈ ps:=fun x hx=>m6 x (by rw[e7];exact List.mem_append_right _ hx)
 have m8: ∀ x,x ∈ q8→x ∈ ps:=fun x hx=>m7 x (by rw[e8];exact List.mem_append_right _ hx)
 obtain ⟨x1,c1,r1,z1⟩:=sent ha1 hv1 hd1 (fun hs u v hc=>(hrows 0 0 (m0 _ (by rw[e1,hs];simp[MemPlace.row]))).2 u v hc)
 subst r1
 obtain ⟨x2,c2,r2,z2⟩:=sent ha2 UB hd2 (fun hs u v hc=>(hrows 4 0 (m1 _ (by rw[e2,hs];simp[MemPlace.row]))).2 u v hc)
 subst r2
 obtain ⟨x3,c3,r3,z3⟩:=sent ha3 hv3 hd3 (fun hs u v hc=>(hrows 5 0 (m2 _ (by rw[e3,hs];simp[MemPlace.row]))).2 u v hc)
 subst r3
 obtain ⟨x4,c4,r4,z4⟩:=sent ha4 hv4 hd4 (fun hs u v hc=>(hrows 6 0 (m3 _ (by rw[e4,hs];simp[MemPlace.row]))).2 u v hc)
 subst r4
 obtain ⟨x5,c5,r5,z5⟩:=sent ha5 hv5 hd5 (fun hs u v hc=>(hrows 7 0 (m4 _ (by rw[e5,hs];simp[MemPlace.row]))).2 u v hc)
 subst r5
 obtain ⟨x6,c6,r6,z6⟩:=sent ha6 hv6 hd6 (fun hs u v hc=>(hrows 3 0 (m5 _ (by rw[e6,hs];simp[MemPlace.row]))).2 u v hc)
 subst r6
 obtain ⟨x7,c7,r7,z7⟩:=sent ha7 hv7 hd7 (fun hs u v hc=>(hrows 8 0 (m6 _ (by rw[e7,hs];simp[MemPlace.row]))).2 u v hc)
 subst r7
 obtain ⟨x8,c8,r8,z8⟩:=sent ha8 hv8 hd8 (fun hs u v hc=>(hrows 2 0 (m7 _ (by rw[e8,hs];simp[MemPlace.row]))).2 u v hc)
 subst r8
 obtain ⟨x9,c9,r9,z9⟩:=sent ha9 hv9 hd9 (fun hs u v hc=>(hrows 1 0 (m8 _ (by rw[e9,hs];simp[MemPlace.row]))).2 u v hc)
 subst r9
 have w0:=Ol Tryz.underlying177 hd0
 have s9:([.cell x9.block x9.off]:List MemPlace).Sublist q8:=by rw[e9];exact ji (List.nil_sublist q9)
 have s8:([.cell x8.block x8.off, .cell x9.block x9.off]:List MemPlace).Sublist q7:=by rw[e8];exact ji (s9)
 have s7:([.cell x7.block x7.off, .cell x8.block x8.off, .cell x9.block x9.off]:List MemPlace).Sublist q6:=by rw[e7];exact ji (s8)
 have s6:([.cell x6.block x6.off, .cell x7.block x7.off, .cell x8.block x8.off, .cell x9.block x9.off]:List MemPlace).Sublist q5:=by rw[e6];exact ji (s7)
 have s5:([.cell x5.block x5.off, .cell x6.block x6.off, .cell x7.block x7.off, .cell x8.block x8.off, .cell x9.block x9.off]:List MemPlace).Sublist q4:=by rw[e5];exact ji (s6)
 have s4:([.cell x4.block x4.off, .cell x5.block x5.off, .cell x6.block x6.off, .cell x7.block x7.off, .cell x8.block x8.off, .cell x9.block x9.off]:List MemPlace).Sublist q3:=by rw[e4];exact ji (s5)
 have s3:([.cell x3.block x3.off, .cell x4.block x4.off, .cell x5.block x5.off, .cell x6.block x6.off, .cell x7.block x7.off, .cell x8.block x8.off, .cell x9.block x9.off]:List MemPlace).Sublist q2:=by rw[e3];exact ji (s4)
 have s2:([.cell x2.block x2.off, .cell x3.block x3.off, .cell x4.block x4.off, .cell x5.block x5.off, .cell x6.block x6.off, .cell x7.block x7.off, .cell x8.block x8.off, .cell x9.block x9.off]:List MemPlace).Sublist q1:=by rw[e2];exact ji (s3)
 have s1:([.cell x1.block x1.off, .cell x2.block x2.off, .cell x3.block x3.off, .cell x4.block x4.off, .cell x5.block x5.off, .cell x6.block x6.off, .cell x7.block x7.off, .cell x8.block x8.off, .cell x9.block x9.off]:List MemPlace).Sublist q0:=by rw[e1];exact ji (s2)
 have s0:q0.Sublist ps:=by
  rw[e0]
  exact List.sublist_append_right _ _
 have hsub:(([x1,x2,x3,x4,x5,x6,x7,x8,x9]:List Addr).map fun a=>MemPlace.cell a.block a.off).Sublist ps:=s1.trans s0
 have aay:([x1,x2,x3,x4,x5,x6,x7,x8,x9]:List Addr).Nodup:=Dh _ (hnd.sublist hsub)
 obtain ⟨L,hL⟩: ∃ L:List Addr,L=[x1,x2,x3,x4,x5,x6,x7,x8,x9]:=⟨_,rfl⟩
 rw[← hL]at hsub aay
 have hlen:L.length=9:=by rw[hL];rfl
 have Gv: ∀ i,i < 9→L[perm i]? =some (L.getD (perm i) x1):=fun i hi=>by
  have:=Di i hi
  rw[List.getD_eq_getElem?_getD,List.getElem?_eq_getElem (by omega)];rfl
 have hex: ∀ i,i < 9→ ∃ c t,W.heap[(L.getD (perm i) x1).block]? =some (.cells c t (0,0)):=fun i hi=>by
  have hm:L.getD (perm i) x1 ∈ L:=List.mem_of_getElem? (Gv i hi)
  have:=hsub.subset (List.mem_map_of_mem (f:=fun a:Addr=>MemPlace.cell a.block a.off) hm)
  exact (hrows _ _ this).1
 have hinj: ∀ i j,i < 9→j < 9→L.getD (perm i) x1=L.getD (perm j) x1→i=j:=fun i j hi hj e=>by
  have h1:=Gv i hi
  have h2:=Gv j hj
  have p1:=Di i hi
  have p2:=Di j hj
  have key:=List.pairwise_iff_getElem.1 aay
  rw[List.getElem?_eq_getElem (by omega)]at h1 h2
  have e1:L[perm i]'(by omega)=L[perm j]'(by omega):=(Option.some.inj h1).trans (e.trans (Option.some.inj h2).symm)
  refine Rt i hi j hj ?_
  rcases Nat.lt_trichotomy (perm i) (perm j) with h | h | h
  ·exact absurd e1 (key _ _ _ _ h)
  ·exact h
  ·exact absurd e1.symm (key _ _ _ _ h)
 let E:aG:=⟨fun i=>L.getD (perm i) x1,fun i=>if h:i < 9 then (hex i h).choose else #[],fun i=>if h:i < 9 then (hex i h).choose_spec.choose else 0,hinj⟩
 have hcell: ∀ b,b < 9→W.cell? ⟨b,0,none⟩=some (.iface 181 (.pointer (some (L.getD (perm (aal b)) x1)))):=fun b hb=>by
  have:b=0∨b=1∨b=2∨b=3∨b=4∨b=5∨b=6∨b=7∨b=8:=by omega
  subst hL
  rcases this with rfl | rfl | rfl | rfl | rfl | rfl | rfl | rfl | rfl
  ·exact c1
  ·exact c9
  ·exact c8
  ·exact c6
  ·exact c2
  ·exact c3
  ·exact c4
  ·exact c5
  ·exact c7
 have fin: ∀ (b n:Nat) (f:Nat→Int),0 < n→(∀ i,i < n→W.cell? ⟨b,i,none⟩=some (.int .u32 (f i)))→b < W.heap.size∧ ∀ i v,(ah .u32 n f)[i]? =some v→SV.one v=true∧ ∃ u,v= .inl u∧gS u=true∧W.cell? ⟨b,i,none⟩=some u:=fun b n f hn hc=>by
  refine ⟨jQ (hc 0 hn),fun i v hv=> ?_⟩
  by_cases hi:i < n
  ·rw[aE .u32 n f i hi]at hv
   obtain rfl:=Option.some.inj hv
   exact ⟨rfl,_,rfl,rfl,hc i hi⟩
  ·rw[List.getElem?_eq_none (by rw[af];omega)]at hv;cases hv
 have y0: ∀ i,i < 64→W.cell? ⟨9,i,none⟩=some (.int .u32 (kW i)):=fun i hi=>by
  rw[World.var?_cell ha0 Uk i];simpa using w0 i hi
 have NJ: ∀ n i, @yV E n=some i→i < 9∧(L.getD (perm i) x1).block=n:=fun n i hi=>by
  have h1:=List.mem_of_find?_eq_some hi
  have h2:=List.find?_some hi
  have h3:((L.getD (perm i) x1).block==n)=true:=h2
  exact ⟨List.mem_range.1 h1,eq_of_beq h3⟩
 refine ⟨E,⟨fun b bx hb=> ?_,fun b o hb=> ?_⟩⟩
 ·have hb': @yW E b=some bx:=hb
  unfold yW at hb'
  split at hb'
  ·rename_i h9;cases hb'
   refine ⟨jQ (hcell b h9),fun i v hv=> ?_⟩
   rcases i with _ | i
   ·cases hv;exact ⟨rfl,_,rfl,rfl,hcell b h9⟩
   ·cases hv
  ·split at hb'
   ·rename_i _ h;subst h;cases hb';exact fin 9 64 kW (by decide) y0
   ·split at hb'
    ·rename_i i hi;cases hb'
     obtain ⟨X0,Uh⟩:=NJ b i hi
     obtain ⟨c,t,hh⟩:=hex i X0
     rw[Uh]at hh
     refine ⟨?_,fun i v hv=>(by cases hv)⟩
     rcases Nat.lt_or_ge b W.heap.size with h | h
     ·exact h
     ·rw[Array.getElem?_eq_none h]at hh;cases hh
    ·cases hb'
 ·have hb': @rC E b=some o:=hb
  unfold rC at hb'
  split at hb'
  ·rename_i i hi
   obtain ⟨X0,rfl⟩:=NJ b i hi
   cases hb'
   have:=(hex i X0).choose_spec.choose_spec
   rw[this]
   show _=some (Obj.cells (if h:i < 9 then (hex i h).choose else #[]) (if h:i < 9 then (hex i h).choose_spec.choose else 0) (0,0))
   rw[dif_pos X0,dif_pos X0]
  ·cases hb'
open Go.ChangeShapes Go.WideShapes Go.ChangeAt Go.RowKit
open Go.bA
set_option linter.unusedVariables false
set_option linter.unusedSimpArgs false
theorem own:ownKnob Tryz.prog.godebug=none:=by kernel_rfl
theorem laidOut:laidOutB Tryz.prog=true:=by kernel_rfl
theorem acU:Tryz.prog.bytesOf 5=1:=by kernel_rfl
theorem Om:Tryz.prog.cellsOf 5=1:=by kernel_rfl
theorem Ru:Tryz.prog.cellsOf 23=32:=by kernel_rfl
theorem Oo:Tryz.prog.cellsOf 32=1:=by kernel_rfl
def yZ (w:World) (v:Value) (n:Nat) (f:Nat→Int):Prop:=
 (∃ a,v= .slice a 0 0∧n=0)∨ ∃ b o c,v= .slice (some ⟨b,o,none⟩) n c∧b < w.heap.size∧n≤c∧ ∀ i,i < n→w.cell? ⟨b,o+i,none⟩=some (.int .u8 (f i))
def bytesOf (cs:List Value) (i:Nat):Int:=match cs[i]? with
 | some (.int _ x)=>x
 | _=>0
theorem X1 (cs:List Value) (hl:cs.length=32) (h: ∀ i,i < 32→ ∃ x,cs[i]? =some (.int .u8 x)∧0≤x∧x < 256):bg (bytesOf cs)∧cs=(List.range 32).map fun i=> .int .u8 (bytesOf cs i):=by
 refine ⟨fun i=> ?_, ?_⟩
 ·by_cases hi:i < 32
  ·obtain ⟨x,hx,h0,h1⟩:=h i hi
   simp only[bytesOf,hx];exact ⟨h0,h1⟩
  ·rw[bytesOf,List.getElem?_eq_none (by omega)];simp
 ·apply List.ext_getElem?
  intro i
  by_cases hi:i < 32
  ·obtain ⟨x,hx,_⟩:=h i hi
   rw[List.getElem?_map,List.getElem?_range hi,hx]
   simp only[Option.map_some,bytesOf,hx]
  ·rw[List.getElem?_eq_none (show cs.length≤i by omega),List.getElem?_eq_none (by rw[List.length_map,List.length_range];omega)]
theorem Rv {H:Type} {enc:TypeId×Value→H} {W:World} {fuel:Nat} {l:List Value} {x:DataW H×List MemPlace}
  (hf:DataW.trod enc Tryz.prog W 0 (fun _=>true) true fuel 23 l=some x) (hl:l.length=32): ∃ K,bg K∧l=(List.range 32).map fun i=> .int .u8 (K i):=by
 obtain ⟨xs,m,rfl,hx,hlen,hxl,hel⟩:=DataW.trod_array Tryz.underlying23 hf
 have hrow: ∀ i,i < 32→ ∃ x,l[i]? =some (.int .u8 x)∧0≤x∧x < 256:=by
  intro i hi
  have he:=hel i hi
  rw[Om,Nat.mul_one]at he
  have Rs:i < xs.length:=by omega
  rw[List.getElem?_eq_getElem Rs]at he
  obtain ⟨n,hc,_,hw⟩:=DataW.trod_int Tryz.underlying5 he
  have hb:=bounds_u8 hw
  refine ⟨n, ?_,hb.1,by omega⟩
  have:((l.drop i).take 1)[0]? =some (.int .u8 n):=by rw[hc];rfl
  rw[List.getElem?_take_of_lt (by decide),List.getElem?_drop]at this
  simpa using this
 obtain ⟨hb,he⟩:=X1 l hl hrow
 exact ⟨bytesOf l,hb,he⟩
def tP (w:World) (v:Value) (n:Nat) (f:Nat→Int):Prop:=
 (∃ a,v= .slice a 0 0∧n=0)∨ ∃ b o c,v= .slice (some ⟨b,o,none⟩) n c∧b < w.heap.size∧n≤c∧ ∀ i,i < n→w.cell? ⟨b,o+i,none⟩=some (.int .u16 (f i))
theorem BU {H:Type} {enc:TypeId×Value→H} {W:World} {fuel:Nat} {cs:List Value} {x:DataW H×List MemPlace} (X2:DataW.trod enc Tryz.prog W 0 (fun _=>true) true fuel 32 cs=some x): ∃ v n f,cs=[v]∧bg f∧yZ W v n f:=by
 rcases open_ints Tryz.underlying32 Tryz.underlying5 (by kernel_rfl) X2 with ⟨hcs,_⟩ | ⟨x,len,cap,zs,hcs,_,hl,hm,hz,hd,hcell,hwz⟩
 ·exact ⟨_,0,fun _=>0,hcs,fun _=>⟨by simp,by simp⟩, .inl ⟨none,rfl,rfl⟩⟩
 ·simp only[if_true]at hz
  have hb: ∀ i,0≤zs.getD i 0∧zs.getD i 0 < 256:=fun i=>by
   have:=range_u8 hwz i
   rw[List.getD_eq_getElem?_getD];omega
  refine ⟨_,len,fun i=>zs.getD i 0,hcs,hb, ?_⟩
  by_cases hc0:cap=0
  ·subst hc0
   obtain rfl:len=0:=by omega
   exact .inl ⟨_,rfl,rfl⟩
  ·obtain ⟨b,off,spot⟩:=x
   have hc:=hcell 0 (by omega)
   have y4:spot=none:=by simpa[Addr.add] using World.cell?_spot hc
   subst y4
   rw[add_eq]at hc
   refine .inr ⟨b,off,cap,rfl,jQ hc,hl,fun i hi=> ?_⟩
   have:=hcell i (by omega)
   rwa [add_eq]at this
theorem JR {H:Type} {enc:TypeId×Value→H} {W:World} {fuel:Nat} {cs:List Value} {x:DataW H×List MemPlace} (X2:DataW.trod enc Tryz.prog W 0 (fun _=>true) true fuel 25 cs=some x): ∃ v n f,cs=[v]∧(∀ i,0≤f i∧f i < 65536)∧tP W v n f:=by
 rcases open_ints Tryz.underlying25 Tryz.underlying38 (by kernel_rfl) X2 with ⟨hcs,_⟩ | ⟨x,len,cap,zs,hcs,_,hl,hm,hz,hd,hcell,hwz⟩
 ·exact ⟨_,0,fun _=>0,hcs,fun _=>⟨by simp,by simp⟩, .inl ⟨none,rfl,rfl⟩⟩
 ·simp only[if_true]at hz
  have hb: ∀ i,0≤zs.getD i 0∧zs.getD i 0 < 65536:=fun i=>by
   have:=range_u16 hwz i
   rw[List.getD_eq_getElem?_getD];omega
  refine ⟨_,len,fun i=>zs.getD i 0,hcs,hb, ?_⟩
  by_cases hc0:cap=0
  ·subst hc0
   obtain rfl:len=0:=by omega
   exact .inl ⟨_,rfl,rfl⟩
  ·obtain ⟨b,off,spot⟩:=x
   have hc:=hcell 0 (by omega)
   have y4:spot=none:=by simpa[Addr.add] using World.cell?_spot hc
   subst y4
   rw[add_eq]at hc
   refine .inr ⟨b,off,cap,rfl,jQ hc,hl,fun i hi=> ?_⟩
   have:=hcell i (by omega)
   rwa [add_eq]at this
def y5 (w:World) (v:Value) (n:Nat) (vs:Nat→Value) (ms:Nat→Nat) (fs:Nat→Nat→Int):Prop:=
 (∃ a,v= .slice a 0 0∧n=0)∨ ∃ b o c,v= .slice (some ⟨b,o,none⟩) n c∧b < w.heap.size∧n≤c∧ ∀ i,i < n→w.cell? ⟨b,o+i,none⟩=some (vs i)∧yZ w (vs i) (ms i) (fs i)
theorem Oq {H:Type} {enc:TypeId×Value→H} {W:World} {fuel:Nat} {cs:List Value} {x:DataW H×List MemPlace} (h:DataW.trod enc Tryz.prog W 0 (fun _=>true) true fuel 24 cs=some x):
  ∃ v n vs ms fs,cs=[v]∧(∀ i,bg (fs i))∧y5 W v n vs ms fs:=by
 have z:bg (fun _=>(0:Int)):=fun _=>by show (0:Int)≤0∧(0:Int) < 256;decide
 rcases DataW.trod_slice Tryz.underlying24 h with ⟨rfl,_⟩ | ⟨a,len,cap,elems,rest,m,_,rfl,hx,_,hlc,_,hlen,hel,hsp,_⟩
 ·exact ⟨_,0,fun _=> .slice none 0 0,fun _=>0,fun _ _=>0,rfl,fun _=>z, .inl ⟨none,rfl,rfl⟩⟩
 ·obtain ⟨hrl,K1⟩:=hsp rfl
  rw[Oo]at hel K1
  have each: ∀ i,i < len→ ∃ v n f,bg f∧W.cell? (a.add i)=some v∧yZ W v n f:=fun i hi=>by
   have h1:=hel i hi
   have hi2:i < elems.length:=by omega
   rw[List.getElem?_eq_getElem hi2,Option.bind_eq_some_iff]at h1
   obtain ⟨l,hl1,hl2⟩:=h1
   obtain ⟨v,n,f,rfl,hf,hI⟩:=BU hl2
   obtain ⟨_,h2,h3⟩:=World.cells?_some hl1
   have h4:=h3 0 (by decide)
   rw[Nat.mul_one]at h4
   have h6:(a.add i).add 0=a.add i:=by cases a;simp[Addr.add]
   rw[h6]at h4
   exact ⟨v,n,f,hf,h4,hI⟩
  have e0: ∀ i, ∃ v n f,bg f∧(i < len→W.cell? (a.add i)=some v∧yZ W v n f):=fun i=>by
   by_cases hi:i < len
   ·obtain ⟨v,n,f,hf,h1,h2⟩:=each i hi
    exact ⟨v,n,f,hf,fun _=>⟨h1,h2⟩⟩
   ·exact ⟨.slice none 0 0,0,fun _=>0,z,fun h=>absurd h hi⟩
  refine ⟨_,len,fun i=>(e0 i).choose,fun i=>(e0 i).choose_spec.choose,fun i=>(e0 i).choose_spec.choose_spec.choose,rfl,fun i=>(e0 i).choose_spec.choose_spec.choose_spec.1, ?_⟩
  rcases Nat.eq_zero_or_pos len with h0 | h0
  ·subst h0
   by_cases hc0:cap=0
   ·subst hc0;exact .inl ⟨_,rfl,rfl⟩
   ·have h1:=K1 0 (by omega)
    have h2:0 < rest.length:=by omega
    rw[List.getElem?_eq_getElem h2,Option.bind_eq_some_iff]at h1
    obtain ⟨l,hl,hl2⟩:=h1
    obtain ⟨v,n,f,rfl,_,_⟩:=BU hl2
    obtain ⟨_,_,h3⟩:=World.cells?_some hl
    have h4:=h3 0 (by decide)
    have h6:(a.add ((0+0)*1)).add 0=a.add 0:=by cases a;simp[Addr.add]
    rw[h6]at h4
    obtain ⟨b,off,spot⟩:=a
    have y4:spot=none:=by simpa[Addr.add] using World.cell?_spot h4
    subst y4
    rw[add_eq]at h4
    exact .inr ⟨b,off,cap,rfl,jQ h4,hlc,fun i hi=>absurd hi (Nat.not_lt_zero i)⟩
  ·obtain ⟨v,n,f,_,hv,_⟩:=each 0 h0
   obtain ⟨b,off,spot⟩:=a
   have y4:spot=none:=by simpa[Addr.add] using World.cell?_spot hv
   subst y4
   rw[add_eq]at hv
   refine .inr ⟨b,off,cap,rfl,jQ hv,hlc,fun i hi=> ?_⟩
   have:=(e0 i).choose_spec.choose_spec.choose_spec.2 hi
   have e:(⟨b,off,none⟩:Addr).add i=⟨b,off+i,none⟩:=add_eq _ _ _
   exact ⟨(congrArg W.cell? e.symm).trans this.1,this.2⟩
end Go.Proofs.YtbipdofobgabhaaGreatDoor.lawTalkDone
