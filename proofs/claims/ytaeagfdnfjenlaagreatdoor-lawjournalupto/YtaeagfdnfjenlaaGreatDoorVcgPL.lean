/-
  What the row's condition gives: where the sentinels lie, and that the tables lie as the calculus asks.
-/
import Derived.Test.YtaeagfdnfjenlaaGreatDoorVcgFacts
import Derived.Test.YtaeagfdnfjenlaaGreatDoorRows
import Derived.WalkKit
import Derived.ProofKit
import Derived.OpenShut
import Derived.ShutString
import Derived.ChangeOld
import Derived.Below
import Derived.SizedLaws
import Derived.Deep.Strs
import Derived.LaidMore
import Derived.LaidLaws
import Derived.Handed
import Derived.Stop.Joined
set_option maxRecDepth 100000
set_option linter.unusedVariables false
set_option linter.unusedSimpArgs false
namespace Go.Proofs.YtaeagfdnfjenlaaGreatDoor.lawJournalDone

open Go.ChangeShapes Go.WideShapes Go.ChangeAt Go.RowKit
open Go.cn
set_option linter.unusedVariables false
set_option linter.unusedSimpArgs false
theorem PA:Tryz.prog.cellsOf 129=1:=by kernel_rfl
theorem gb0:Tryz.prog.globalNamed "ratchet/journal.errPowerCut" =some 0:=by kernel_rfl
theorem gb1:Tryz.prog.globalNamed "ratchet/journal.errBad" =some 1:=by kernel_rfl
theorem gb2:Tryz.prog.globalNamed "ratchet/journal.errDirty" =some 2:=by kernel_rfl
theorem gb3:Tryz.prog.globalNamed "ratchet/journal.errCounter" =some 3:=by kernel_rfl
theorem gb4:Tryz.prog.globalNamed "ratchet/journal.errDiskFull" =some 4:=by kernel_rfl
theorem ge: ∀ g,g < 5→(Tryz.prog.globals[g]?).map (·.type)=some 62:=by
 have h:((List.range 5).all fun g=>(Tryz.prog.globals[g]?).map (·.type)==some 62)=true:=by kernel_rfl
 intro g hg
 have:=List.all_eq_true.1 h g (List.mem_range.2 hg)
 simpa using this
theorem g0:Tryz.prog.globalNamed "ratchet/ratchetref.firstValue" =some 5:=by kernel_rfl
theorem g1:Tryz.prog.globalNamed "ratchet/ratchetref.rootsOfPrimes" =some 6:=by kernel_rfl
theorem g2:Tryz.prog.globalNamed "ratchet/prim.roundConstants" =some 7:=by kernel_rfl
theorem t0:(Tryz.prog.globals[5]?).map (·.type)=some 152:=by kernel_rfl
theorem t1:(Tryz.prog.globals[6]?).map (·.type)=some 155:=by kernel_rfl
theorem t2:(Tryz.prog.globals[7]?).map (·.type)=some 155:=by kernel_rfl
def tabs:List (String×DataW Unit):=[("ratchet/ratchetref.firstValue",Rows.laid_ratchet_ratchetref_firstValue),("ratchet/ratchetref.rootsOfPrimes",Rows.laid_ratchet_ratchetref_rootsOfPrimes),("ratchet/prim.roundConstants",Rows.laid_ratchet_prim_roundConstants),
 ("ratchet/journal.errBad",Rows.laid_ratchet_journal_errBad),("ratchet/journal.errDirty",Rows.laid_ratchet_journal_errDirty),("ratchet/journal.errCounter",Rows.laid_ratchet_journal_errCounter),("ratchet/journal.errDiskFull",Rows.laid_ratchet_journal_errDiskFull),("ratchet/journal.errPowerCut",Rows.laid_ratchet_journal_errPowerCut)]
theorem d0:(Rows.laid_ratchet_ratchetref_firstValue:DataW Unit)= .agg ((List.range 8).map fun i=> .lit (.int .u32 (pH i))):=by kernel_rfl
theorem d1:(Rows.laid_ratchet_ratchetref_rootsOfPrimes:DataW Unit)= .agg ((List.range 64).map fun i=> .lit (.int .u32 (kW i))):=by kernel_rfl
theorem d2:(Rows.laid_ratchet_prim_roundConstants:DataW Unit)= .agg ((List.range 64).map fun i=> .lit (.int .u32 (kW i))):=by kernel_rfl
theorem abu (u:TypeId) (h:Tryz.prog.typeName? 3 u=some "*errors.errorString"):u=161:=
 typeName_ptr_named (nm:="errors.errorString") (tp:=161) (by kernel_rfl) (by kernel_rfl) (by decide) u h
theorem RU:Tryz.prog.cellsOf 9=1:=by kernel_rfl
theorem VD:Tryz.prog.cellsOf 185=1:=by kernel_rfl
theorem vY {W:World} {t n fuel:Nat} {f:Nat→Int} {cs:List Value} {p:List MemPlace} {sp:Nat→Bool} {held:Bool} (ht:Tryz.prog.underlying t=some (.array n 129))
  (h:DataW.trod (fun _=>()) Tryz.prog W 0 sp held fuel t cs=some (.agg ((List.range n).map fun i=> .lit (.int .u32 (f i))),p)): ∀ i,i < n→cs[i]? =some (.int .u32 (f i)):=by
 intro i hi
 obtain ⟨xs,m,rfl,hx,hlen,hxl,hel⟩:=DataW.trod_array ht h
 have he:=hel i hi
 rw[PA,Nat.mul_one]at he
 have hxi:i < xs.length:=by omega
 rw[List.getElem?_eq_getElem hxi]at he
 obtain ⟨z,hc,hz,hw⟩:=DataW.trod_int Tryz.underlying129 he
 have e1:(xs.map (·.1))[i]? =((List.range n).map fun i=>(DataW.lit (.int .u32 (f i)):DataW Unit))[i]? :=by
  have:=congrArg Prod.fst hx
  simp only[DataW.agg.injEq]at this
  rw[this]
 rw[List.getElem?_map,List.getElem?_map,List.getElem?_range hi,List.getElem?_eq_getElem hxi]at e1
 simp only[Option.map_some,Option.some.injEq]at e1
 rw[hz]at e1
 simp only[DataW.lit.injEq,Lit.int.injEq,true_and]at e1
 subst e1
 have:((cs.drop i).take 1)[0]? =some (.int .u32 (f i)):=by rw[hc];rfl
 rw[List.getElem?_take_of_lt (by decide),List.getElem?_drop]at this
 simpa using this
theorem mL {W:World} {b i:Nat} {v:Value} (h:W.cell? ⟨b,i,none⟩=some v):b < W.heap.size:=by
 rcases Nat.lt_or_ge b W.heap.size with hb | hb
 ·exact hb
 ·have hn:W.heap[b]? =none:=Array.getElem?_eq_none hb
  simp[World.cell?,hn]at h
theorem sent {W:World} {f:Nat} {cs:Array Value} {text:List UInt8} {p:List MemPlace} {n:String} {g:Nat} (hg:Tryz.prog.globalNamed n=some g) (hv:W.var? Tryz.prog n=some cs)
  (hd:DataW.trod (fun _=>()) Tryz.prog W 0 (fun _=>true) false f 62 cs.toList=some (.iface "*errors.errorString" (.ptr (.agg [.lit (.string text)])),p))
  (hok:cs.size=1→ ∀ u v,W.cell? ⟨g,0,none⟩=some (.iface u v)→Value.okWide Tryz.prog W .any 0 u v):
  ∃ a,W.cell? ⟨g,0,none⟩=some (.iface 161 (.pointer (some a)))∧p=[.cell a.block a.off]∧cs.size=1:=by
 obtain ⟨l⟩:=cs
 have ok: ∀ u v,l=[.iface u v]→Value.okWide Tryz.prog W .any 0 u v:=fun u v e=>by
  subst e
  exact hok rfl u v (by simpa using World.var?_cell hg hv 0)
 obtain ⟨a,s,rfl,hc,hs,hz,rfl⟩:=errorString_of_trod Tryz.underlying62 abu Tryz.underlying161 Tryz.underlying185 rfl rfl Tryz.underlying9 VD RU hd ok
 exact ⟨a,by simpa using World.var?_cell hg hv 0,by simp[MemPlace.row],rfl⟩
theorem qC {R q q':List MemPlace} {x:MemPlace} (h:q'.Sublist q):(x::q').Sublist (R++[x]++q):=by
 rw[List.append_assoc]
 exact (List.Sublist.cons_cons x h).trans (List.sublist_append_right R _)
theorem Fa {α β:Type} (f:α→β) {l:List α} (h:(l.map f).Nodup):l.Nodup:=by
 unfold List.Nodup at h ⊢
 exact (List.pairwise_map.1 h).imp fun hab e=>hab (congrArg f e)
def perm (i:Nat):Nat:=[4,0,1,2,3].getD i 0
theorem Fb: ∀ i,i < 5→perm i < 5:=by decide
theorem RV: ∀ i,i < 5→ ∀ j,j < 5→perm i=perm j→i=j:=by decide
theorem VE {W:World} (h:laidMetH Tryz.prog tabs W): ∃ _:aX,Laid Tryz.prog W:=by
 rw[MakeChecks.laidMetH_plain _ _ _ (by kernel_rfl)]at h
 obtain ⟨ps,⟨a0,u0,cs0,f0,p0,q0,ha0,hu0,Kv,hd0,⟨a1,u1,lr,f1,p1,q1,ha1,hu1,Vw,hd1,⟨a2,u2,j7,f2,p2,q2,ha2,UQ,H3,hd2,⟨a3,u3,sm,f3,p3,q3,ha3,hu3,hv3,hd3,⟨a4,u4,cs4,f4,p4,q4,ha4,hu4,hv4,hd4,⟨a5,u5,Zn,f5,p5,q5,ha5,hu5,hv5,hd5,⟨a6,u6,cs6,f6,p6,q6,ha6,hu6,hv6,hd6,⟨a7,u7,cs7,f7,p7,q7,ha7,hu7,hv7,hd7,_,e7⟩,e6⟩,e5⟩,e4⟩,e3⟩,e2⟩,e1⟩,e0⟩,hnd,hrows⟩:=h
 obtain rfl:=Option.some.inj (g0.symm.trans ha0)
 obtain rfl:=Option.some.inj (g1.symm.trans ha1)
 obtain rfl:=Option.some.inj (g2.symm.trans ha2)
 obtain rfl:=Option.some.inj (gb1.symm.trans ha3)
 obtain rfl:=Option.some.inj (gb2.symm.trans ha4)
 obtain rfl:=Option.some.inj (gb3.symm.trans ha5)
 obtain rfl:=Option.some.inj (gb4.symm.trans ha6)
 obtain rfl:=Option.some.inj (gb0.symm.trans ha7)
 obtain rfl:=Option.some.inj (t0.symm.trans hu0)
 obtain rfl:=Option.some.inj (t1.symm.trans hu1)
 obtain rfl:=Option.some.inj (t2.symm.trans UQ)
 obtain rfl:=Option.some.inj ((ge _ (by decide)).symm.trans hu3)
 obtain rfl:=Option.some.inj ((ge _ (by decide)).symm.trans hu4)
 obtain rfl:=Option.some.inj ((ge _ (by decide)).symm.trans hu5)
 obtain rfl:=Option.some.inj ((ge _ (by decide)).symm.trans hu6)
 obtain rfl:=Option.some.inj ((ge _ (by decide)).symm.trans hu7)
 rw[d0]at hd0
 rw[d1]at hd1
 rw[d2]at hd2
 have m0: ∀ x,x ∈ q0→x ∈ ps:=fun x hx=>by rw[e0];exact List.mem_append_right _ hx
 have m1: ∀ x,x ∈ q1→x ∈ ps:=fun x hx=>m0 x (by rw[e1];exact List.mem_append_right _ hx)
 have m2: ∀ x,x ∈ q2→x ∈ ps:=fun x hx=>m1 x (by rw[e2];exact List.mem_append_right _ hx)
 have m3: ∀ x,x ∈ q3→x ∈ ps:=fun x hx=>m2 x (by rw[e3];exact List.mem_append_right _ hx)
 have m4: ∀ x,x ∈ q4→x ∈ ps:=fun x hx=>m3 x (by rw[e4];exact List.mem_append_right _ hx)
 have m5: ∀ x,x ∈ q5→x ∈ ps:=fun x hx=>m4 x (by rw[e5];exact List.mem_append_right _ hx)
 have m6: ∀ x,x ∈ q6→x ∈ ps:=fun x hx=>m5 x (by rw[e6];exact List.mem_append_right _ hx)
 obtain ⟨x3,c3,r3,z3⟩:=sent ha3 hv3 hd3 (fun hs u v hc=>(hrows 1 0 (m2 _ (by rw[e3,hs];simp[MemPlace.row]))).2 u v hc)
 subst r3
 obtain ⟨x4,c4,r4,z4⟩:=sent ha4 hv4 hd4 (fun hs u v hc=>(hrows 2 0 (m3 _ (by rw[e4,hs];simp[MemPlace.row]))).2 u v hc)
 subst r4
 obtain ⟨x5,c5,r5,z5⟩:=sent ha5 hv5 hd5 (fun hs u v hc=>(hrows 3 0 (m4 _ (by rw[e5,hs];simp[MemPlace.row]))).2 u v hc)
 subst r5
 obtain ⟨x6,c6,r6,z6⟩:=sent ha6 hv6 hd6 (fun hs u v hc=>(hrows 4 0 (m5 _ (by rw[e6,hs];simp[MemPlace.row]))).2 u v hc)
 subst r6
 obtain ⟨x7,c7,r7,z7⟩:=sent ha7 hv7 hd7 (fun hs u v hc=>(hrows 0 0 (m6 _ (by rw[e7,hs];simp[MemPlace.row]))).2 u v hc)
 subst r7
 have w0:=vY Tryz.underlying152 hd0
 have w1:=vY Tryz.underlying155 hd1
 have w2:=vY Tryz.underlying155 hd2
 have s7:([.cell x7.block x7.off]:List MemPlace).Sublist q6:=by rw[e7];exact qC (List.nil_sublist q7)
 have s6:([.cell x6.block x6.off, .cell x7.block x7.off]:List MemPlace).Sublist q5:=by rw[e6];exact qC (s7)
 have s5:([.cell x5.block x5.off, .cell x6.block x6.off, .cell x7.block x7.off]:List MemPlace).Sublist q4:=by rw[e5];exact qC (s6)
 have s4:([.cell x4.block x4.off, .cell x5.block x5.off, .cell x6.block x6.off, .cell x7.block x7.off]:List MemPlace).Sublist q3:=by rw[e4];exact qC (s5)
 have s3:([.cell x3.block x3.off, .cell x4.block x4.off, .cell x5.block x5.off, .cell x6.block x6.off, .cell x7.block x7.off]:List MemPlace).Sublist q2:=by rw[e3];exact qC (s4)
 have s2:q2.Sublist ps:=by
  rw[e0,e1,e2]
  exact (List.sublist_append_right _ _).trans ((List.sublist_append_right _ _).trans (List.sublist_append_right _ _))
 have hsub:(([x3,x4,x5,x6,x7]:List Addr).map fun a=>MemPlace.cell a.block a.off).Sublist ps:=s3.trans s2
 have abw:([x3,x4,x5,x6,x7]:List Addr).Nodup:=Fa _ (hnd.sublist hsub)
 obtain ⟨L,hL⟩: ∃ L:List Addr,L=[x3,x4,x5,x6,x7]:=⟨_,rfl⟩
 rw[← hL]at hsub abw
 have hlen:L.length=5:=by rw[hL];rfl
 have vN: ∀ i,i < 5→L[perm i]? =some (L.getD (perm i) x3):=fun i hi=>by
  have:=Fb i hi
  rw[List.getD_eq_getElem?_getD,List.getElem?_eq_getElem (by omega)];rfl
 have hex: ∀ i,i < 5→ ∃ c t,W.heap[(L.getD (perm i) x3).block]? =some (.cells c t (0,0)):=fun i hi=>by
  have hm:L.getD (perm i) x3 ∈ L:=List.mem_of_getElem? (vN i hi)
  have:=hsub.subset (List.mem_map_of_mem (f:=fun a:Addr=>MemPlace.cell a.block a.off) hm)
  exact (hrows _ _ this).1
 have hinj: ∀ i j,i < 5→j < 5→L.getD (perm i) x3=L.getD (perm j) x3→i=j:=fun i j hi hj e=>by
  have h1:=vN i hi
  have h2:=vN j hj
  have p1:=Fb i hi
  have p2:=Fb j hj
  have key:=List.pairwise_iff_getElem.1 abw
  rw[List.getElem?_eq_getElem (by omega)]at h1 h2
  have e1:L[perm i]'(by omega)=L[perm j]'(by omega):=(Option.some.inj h1).trans (e.trans (Option.some.inj h2).symm)
  refine RV i hi j hj ?_
  rcases Nat.lt_trichotomy (perm i) (perm j) with h | h | h
  ·exact absurd e1 (key _ _ _ _ h)
  ·exact h
  ·exact absurd e1.symm (key _ _ _ _ h)
 let E:aX:=⟨fun i=>L.getD (perm i) x3,fun i=>if h:i < 5 then (hex i h).choose else #[],fun i=>if h:i < 5 then (hex i h).choose_spec.choose else 0,hinj⟩
 have hcell: ∀ b,b < 5→W.cell? ⟨b,0,none⟩=some (.iface 161 (.pointer (some (L.getD (perm (abk b)) x3)))):=fun b hb=>by
  have:b=0∨b=1∨b=2∨b=3∨b=4:=by omega
  subst hL
  rcases this with rfl | rfl | rfl | rfl | rfl
  ·exact c7
  ·exact c3
  ·exact c4
  ·exact c5
  ·exact c6
 have fin: ∀ (b n:Nat) (f:Nat→Int),0 < n→(∀ i,i < n→W.cell? ⟨b,i,none⟩=some (.int .u32 (f i)))→b < W.heap.size∧ ∀ i v,(ai .u32 n f)[i]? =some v→SV.one v=true∧ ∃ u,v= .inl u∧iP u=true∧W.cell? ⟨b,i,none⟩=some u:=fun b n f hn hc=>by
  refine ⟨mL (hc 0 hn),fun i v hv=> ?_⟩
  by_cases hi:i < n
  ·rw[bN .u32 n f i hi]at hv
   obtain rfl:=Option.some.inj hv
   exact ⟨rfl,_,rfl,rfl,hc i hi⟩
  ·rw[List.getElem?_eq_none (by rw[aD];omega)]at hv;cases hv
 have y0: ∀ i,i < 8→W.cell? ⟨5,i,none⟩=some (.int .u32 (pH i)):=fun i hi=>by
  rw[World.var?_cell ha0 Kv i];simpa using w0 i hi
 have y1: ∀ i,i < 64→W.cell? ⟨6,i,none⟩=some (.int .u32 (kW i)):=fun i hi=>by
  rw[World.var?_cell ha1 Vw i];simpa using w1 i hi
 have y2: ∀ i,i < 64→W.cell? ⟨7,i,none⟩=some (.int .u32 (kW i)):=fun i hi=>by
  rw[World.var?_cell ha2 H3 i];simpa using w2 i hi
 have O7: ∀ n i, @Av E n=some i→i < 5∧(L.getD (perm i) x3).block=n:=fun n i hi=>by
  have h1:=List.mem_of_find?_eq_some hi
  have h2:=List.find?_some hi
  have h3:((L.getD (perm i) x3).block==n)=true:=h2
  exact ⟨List.mem_range.1 h1,eq_of_beq h3⟩
 refine ⟨E,⟨fun b bx hb=> ?_,fun b o hb=> ?_⟩⟩
 ·have hb': @Aw E b=some bx:=hb
  unfold Aw at hb'
  split at hb'
  ·rename_i h9;cases hb'
   refine ⟨mL (hcell b h9),fun i v hv=> ?_⟩
   rcases i with _ | i
   ·cases hv;exact ⟨rfl,_,rfl,rfl,hcell b h9⟩
   ·cases hv
  ·split at hb'
   ·rename_i _ h;subst h;cases hb';exact fin 5 8 pH (by decide) y0
   ·split at hb'
    ·rename_i _ _ h;subst h;cases hb';exact fin 6 64 kW (by decide) y1
    ·split at hb'
     ·rename_i _ _ _ h;subst h;cases hb';exact fin 7 64 kW (by decide) y2
     ·split at hb'
      ·rename_i i hi;cases hb'
       obtain ⟨hi9,UR⟩:=O7 b i hi
       obtain ⟨c,t,hh⟩:=hex i hi9
       rw[UR]at hh
       refine ⟨?_,fun i v hv=>(by cases hv)⟩
       rcases Nat.lt_or_ge b W.heap.size with h | h
       ·exact h
       ·rw[Array.getElem?_eq_none h]at hh;cases hh
      ·cases hb'
 ·have hb': @sM E b=some o:=hb
  unfold sM at hb'
  split at hb'
  ·rename_i i hi
   obtain ⟨hi9,rfl⟩:=O7 b i hi
   cases hb'
   have:=(hex i hi9).choose_spec.choose_spec
   rw[this]
   show _=some (Obj.cells (if h:i < 5 then (hex i h).choose else #[]) (if h:i < 5 then (hex i h).choose_spec.choose else 0) (0,0))
   rw[dif_pos hi9,dif_pos hi9]
  ·cases hb'
open Go.ChangeShapes Go.WideShapes Go.ChangeAt Go.RowKit
open Go.cn
set_option linter.unusedVariables false
set_option linter.unusedSimpArgs false
theorem own:ownKnob Tryz.prog.godebug=none:=by kernel_rfl
theorem laidOut:laidOutB Tryz.prog=true:=by kernel_rfl
theorem PB:Tryz.prog.cellsOf 4=1:=by kernel_rfl
theorem Ik:Tryz.prog.cellsOf 3=1:=by kernel_rfl
theorem K6:Tryz.prog.cellsOf 23=1:=by kernel_rfl
theorem K7:Tryz.prog.cellsOf 25=3:=by kernel_rfl
theorem RW {H:Type} (d:DataW H):1≤Rows.uptoBulk d:=by
 rcases d with l | _ | _ | _ | _ | _ | _ | _
 ·rcases l with _ | _ | _ | _ | _ | _ | _<;>simp[Rows.uptoBulk]
 all_goals simp[Rows.uptoBulk]
theorem RX {H:Type} (l:List (DataW H)):l.length≤Rows.uptoBulkAll l:=by
 induction l with
 | nil=>simp
 | cons x r ih=>have:=RW x;simp only[Rows.uptoBulkAll,List.length_cons];omega
theorem Az {H:Type} (l r:List (DataW H)):l.length≤Rows.uptoBulk (.slice l r):=by
 have:=RX l
 simp only[Rows.uptoBulk];omega
def vZ (w:World) (v:Value) (n:Nat) (f:Nat→Int):Prop:=
 (∃ a,v= .slice a 0 0∧n=0)∨ ∃ b o c,v= .slice (some ⟨b,o,none⟩) n c∧b < w.heap.size∧n≤c∧ ∀ i,i < n→w.cell? ⟨b,o+i,none⟩=some (.int .u8 (f i))
def yo (w:World) (v:Value) (n:Nat) (f:Nat→Bool):Prop:=
 (∃ a,v= .slice a 0 0∧n=0)∨ ∃ b o c,v= .slice (some ⟨b,o,none⟩) n c∧b < w.heap.size∧n≤c∧ ∀ i,i < n→w.cell? ⟨b,o+i,none⟩=some (.bool (f i))
theorem D4 {H:Type} {enc:TypeId×Value→H} {W:World} {fuel:Nat} {cs:List Value} {d:DataW H} {p:List MemPlace} (hfu:DataW.trod enc Tryz.prog W 0 (fun _=>true) true fuel 22 cs=some (d,p)):
  ∃ v n f,cs=[v]∧eJ f∧n≤Rows.uptoBulk d∧vZ W v n f:=by
 rcases open_ints Tryz.underlying22 Tryz.underlying5 (by kernel_rfl) hfu with ⟨hcs,_⟩ | ⟨x,len,cap,zs,hcs,_,hl,hm,hz,hd,hcell,hwz⟩
 ·exact ⟨_,0,fun _=>0,hcs,fun _=>⟨by simp,by simp⟩,Nat.zero_le _, .inl ⟨none,rfl,rfl⟩⟩
 ·simp only[if_true]at hz
  have hd2:d= .slice (lits .u8 (zs.take len)) (lits .u8 (zs.drop len)):=by
   have:=congrArg Prod.fst hd
   simpa using this
  have hb: ∀ i,0≤zs.getD i 0∧zs.getD i 0 < 256:=fun i=>by
   by_cases hi:i < zs.length
   ·have hmz:zs.getD i 0 ∈ zs:=by
     rw[List.getD_eq_getElem?_getD,List.getElem?_eq_getElem hi];exact List.getElem_mem hi
    have:=bounds_u8 (hwz _ hmz)
    exact ⟨this.1,by omega⟩
   ·rw[List.getD_eq_getElem?_getD,List.getElem?_eq_none (by omega)];decide
  have AA:len≤Rows.uptoBulk d:=by
   rw[hd2]
   refine Nat.le_trans ?_ (Az _ _)
   simp only[lits,List.length_map,List.length_take];omega
  refine ⟨_,len,fun i=>zs.getD i 0,hcs,hb,AA, ?_⟩
  by_cases hc0:cap=0
  ·subst hc0
   obtain rfl:len=0:=by omega
   exact .inl ⟨_,rfl,rfl⟩
  ·obtain ⟨b,off,spot⟩:=x
   have hc:=hcell 0 (by omega)
   have RY:spot=none:=by simpa[Addr.add] using World.cell?_spot hc
   subst RY
   rw[add_eq]at hc
   refine .inr ⟨b,off,cap,rfl,mL hc,hl,fun i hi=> ?_⟩
   have:=hcell i (by omega)
   rwa [add_eq]at this
theorem K8 {H:Type} {enc:TypeId×Value→H} {W:World} {fuel:Nat} {cs:List Value} {d:DataW H} {p:List MemPlace} (h:DataW.trod enc Tryz.prog W 0 (fun _=>true) true fuel 23 cs=some (d,p)):
  ∃ v n f,cs=[v]∧n≤Rows.uptoBulk d∧yo W v n f:=by
 rcases DataW.trod_slice Tryz.underlying23 h with ⟨rfl,_⟩ | ⟨a,len,cap,elems,rest,m,_,rfl,hx,_,hlc,_,hlen,hel,hsp,_⟩
 ·exact ⟨_,0,fun _=>false,rfl,Nat.zero_le _, .inl ⟨none,rfl,rfl⟩⟩
 ·obtain ⟨hrl,xc⟩:=hsp rfl
  rw[PB]at hel xc
  have hd2:d= .slice (elems.map (·.1)) (rest.map (·.1)):=congrArg Prod.fst hx
  have AA:len≤Rows.uptoBulk d:=by
   rw[hd2]
   refine Nat.le_trans ?_ (Az _ _)
   rw[List.length_map];omega
  have each: ∀ i,i < len→ ∃ b,W.cell? (a.add i)=some (.bool b):=fun i hi=>by
   have h1:=hel i hi
   have hi2:i < elems.length:=by omega
   rw[List.getElem?_eq_getElem hi2,Option.bind_eq_some_iff]at h1
   obtain ⟨l,PE,J4⟩:=h1
   obtain ⟨b,rfl,_⟩:=DataW.trod_bool Tryz.underlying4 J4
   obtain ⟨_,h2,h3⟩:=World.cells?_some PE
   have h4:=h3 0 (by decide)
   rw[Nat.mul_one]at h4
   have h6:(a.add i).add 0=a.add i:=by cases a;simp[Addr.add]
   rw[h6]at h4
   exact ⟨b,h4⟩
  have e0: ∀ i, ∃ b,i < len→W.cell? (a.add i)=some (.bool b):=fun i=>by
   by_cases hi:i < len
   ·obtain ⟨b,hb⟩:=each i hi
    exact ⟨b,fun _=>hb⟩
   ·exact ⟨false,fun h=>absurd h hi⟩
  refine ⟨_,len,fun i=>(e0 i).choose,rfl,AA, ?_⟩
  rcases Nat.eq_zero_or_pos cap with h0 | h0
  ·subst h0
   obtain rfl:len=0:=by omega
   exact .inl ⟨_,rfl,rfl⟩
  ·have RY:a.spot=none∧a.block < W.heap.size:=by
    rcases Nat.eq_zero_or_pos len with rN | rN
    ·subst rN
     have h1:=xc 0 (by omega)
     have h2:0 < rest.length:=by omega
     rw[List.getElem?_eq_getElem h2,Option.bind_eq_some_iff]at h1
     obtain ⟨l,hl,J4⟩:=h1
     obtain ⟨b,rfl,_⟩:=DataW.trod_bool Tryz.underlying4 J4
     obtain ⟨_,_,h3⟩:=World.cells?_some hl
     have h4:=h3 0 (by decide)
     have h6:(a.add ((0+0)*1)).add 0=a.add 0:=by cases a;simp[Addr.add]
     rw[h6]at h4
     have hs:a.spot=none:=by cases a;simpa[Addr.add] using World.cell?_spot h4
     obtain ⟨b',off,spot⟩:=a
     simp only at hs;subst hs
     rw[add_eq]at h4
     exact ⟨rfl,mL h4⟩
    ·obtain ⟨b,h4⟩:=each 0 rN
     have hs:a.spot=none:=by cases a;simpa[Addr.add] using World.cell?_spot h4
     obtain ⟨b',off,spot⟩:=a
     simp only at hs;subst hs
     rw[add_eq]at h4
     exact ⟨rfl,mL h4⟩
   obtain ⟨b,off,spot⟩:=a
   obtain ⟨hs,hb⟩:=RY
   simp only at hs;subst hs
   refine .inr ⟨b,off,cap,rfl,hb,hlc,fun i hi=> ?_⟩
   have:=(e0 i).choose_spec hi
   have e:(⟨b,off,none⟩:Addr).add i=⟨b,off+i,none⟩:=add_eq _ _ _
   exact (congrArg W.cell? e.symm).trans this
theorem rk {H:Type} {d:DataW H} {l:List (DataW H)} {i:Nat} (h:l[i]? =some d):Rows.uptoBulk d≤Rows.uptoBulkAll l:=by
 induction l generalizing i with
 | nil=>cases h
 | cons x r ih=>
  simp only[Rows.uptoBulkAll]
  rcases i with _ | i
  ·cases h;omega
  ·have:=ih h;omega
theorem K9 {H:Type} {enc:TypeId×Value→H} {W:World} {base:Nat} {v:Value} {d:DataW H} {p:List MemPlace} (hv:Value.okWide Tryz.prog W .any base 25 v) (h:DataW.Trod enc Tryz.prog W 0 (fun _=>true) true 25 v d p):
  ∃ at_ ks cut n f,v= .agg #[.int .i64 at_,ks, .int .i64 cut]∧n≤Rows.uptoBulk d∧yo W ks n f:=by
 obtain ⟨cs,rfl,hcs,_⟩: ∃ cs,v= .agg cs∧cs.size=Tryz.prog.cellsOf 25∧Row.okWide Tryz.prog W .any base 25 cs:=by
  simpa[Value.okWide,Tryz.underlying25] using hv
 rw[K7]at hcs
 obtain ⟨l⟩:=cs
 have hl:l.length=3:=by simpa using hcs
 obtain ⟨fuel,hf⟩:=h
 have hf:DataW.trod enc Tryz.prog W 0 (fun _=>true) true fuel 25 l=some (d,p):=by simpa[Value.cells] using hf
 obtain ⟨xs,m,_,hx,_,hlen,hel⟩:=DataW.trod_struct Tryz.underlying25 hf
 obtain ⟨y0,y1,y2,rfl⟩: ∃ y0 y1 y2,xs=[y0,y1,y2]:=by
  rcases xs with _ | ⟨y0,_ | ⟨y1,_ | ⟨y2,_ | ⟨y3,r⟩⟩⟩⟩<;>simp at hlen
  exact ⟨_,_,_,rfl⟩
 obtain ⟨c0,c1,c2,rfl⟩: ∃ c0 c1 c2,l=[c0,c1,c2]:=by
  rcases l with _ | ⟨y0,_ | ⟨y1,_ | ⟨y2,_ | ⟨y3,r⟩⟩⟩⟩<;>simp at hl
  exact ⟨_,_,_,rfl⟩
 have h0:DataW.trod enc Tryz.prog W 0 (fun _=>true) true m 3 (List.take (Tryz.prog.cellsOf 3) (List.drop 0 [c0,c1,c2]))=some y0:=hel 0 _ rfl
 rw[Ik]at h0
 have h1:DataW.trod enc Tryz.prog W 0 (fun _=>true) true m 23 (List.take (Tryz.prog.cellsOf 23) (List.drop 1 [c0,c1,c2]))=some y1:=hel 1 _ rfl
 rw[K6]at h1
 have h2:DataW.trod enc Tryz.prog W 0 (fun _=>true) true m 3 (List.take (Tryz.prog.cellsOf 3) (List.drop 2 [c0,c1,c2]))=some y2:=hel 2 _ rfl
 rw[Ik]at h2
 obtain ⟨x0,e0,_,_⟩:=DataW.trod_int Tryz.underlying3 h0
 obtain ⟨x2,e2,_,_⟩:=DataW.trod_int Tryz.underlying3 h2
 obtain ⟨ks,n,f,e1,hn,hI⟩:=K8 (d:=y1.1) (p:=y1.2) h1
 obtain rfl:c0= .int .i64 x0:=(List.cons.inj (show [c0]=[_] from e0)).1
 obtain rfl:c2= .int .i64 x2:=(List.cons.inj (show [c2]=[_] from e2)).1
 obtain rfl:c1=ks:=(List.cons.inj (show [c1]=[ks] from e1)).1
 refine ⟨x0,c1,x2,n,f,rfl,Nat.le_trans hn ?_,hI⟩
 have hd:d= .agg ([y0,y1,y2].map (·.1)):=congrArg Prod.fst hx
 rw[hd]
 have:=rk (l:=[y0,y1,y2].map (·.1)) (i:=1) (d:=y1.1) rfl
 simp only[Rows.uptoBulk];omega
end Go.Proofs.YtaeagfdnfjenlaaGreatDoor.lawJournalDone
