/-
  What the row's condition gives: where the sentinels lie, and that the tables lie as the calculus asks.
-/
import Derived.Test.YtkaamnnjeandlaaDoorVcgFacts
import Derived.Test.YtkaamnnjeandlaaDoorRows
import Derived.WalkKit
import Derived.ProofKit
import Derived.OpenShut
import Derived.ShutString
import Derived.ChangeOld
import Derived.Below
import Derived.SizedLaws
import Derived.Deep.Strs
import Derived.LaidMore
import Derived.LaidLaws
import Derived.Handed
import Derived.Stop.Joined
set_option maxRecDepth 100000
set_option linter.unusedVariables false
set_option linter.unusedSimpArgs false
namespace Go.Proofs.YtkaamnnjeandlaaDoor.lawTornDone

open Go.ChangeShapes Go.WideShapes Go.ChangeAt Go.RowKit
open Go.bM
set_option linter.unusedVariables false
set_option linter.unusedSimpArgs false
theorem J4:Tryd.prog.cellsOf 125=1:=by kernel_rfl
theorem YJ:Tryd.prog.globalNamed "ratchet/journal.errPowerCut" =some 0:=by kernel_rfl
theorem YK:Tryd.prog.globalNamed "ratchet/journal.errDiskFull" =some 1:=by kernel_rfl
theorem YL:Tryd.prog.globalNamed "ratchet/journal.errBad" =some 2:=by kernel_rfl
theorem YM:Tryd.prog.globalNamed "ratchet/journal.errDirty" =some 3:=by kernel_rfl
theorem YN:Tryd.prog.globalNamed "ratchet/journal.errCounter" =some 4:=by kernel_rfl
theorem ge: ∀ g,g < 5→(Tryd.prog.globals[g]?).map (·.type)=some 57:=by
 have h:((List.range 5).all fun g=>(Tryd.prog.globals[g]?).map (·.type)==some 57)=true:=by kernel_rfl
 intro g hg
 have:=List.all_eq_true.1 h g (List.mem_range.2 hg)
 simpa using this
theorem g2:Tryd.prog.globalNamed "ratchet/prim.roundConstants" =some 5:=by kernel_rfl
theorem t2:(Tryd.prog.globals[5]?).map (·.type)=some 131:=by kernel_rfl
def tabs:List (String×DataW Unit):=[("ratchet/prim.roundConstants",Rows.laid_ratchet_prim_roundConstants),
 ("ratchet/journal.errBad",Rows.laid_ratchet_journal_errBad),("ratchet/journal.errDirty",Rows.laid_ratchet_journal_errDirty),("ratchet/journal.errCounter",Rows.laid_ratchet_journal_errCounter),("ratchet/journal.errDiskFull",Rows.laid_ratchet_journal_errDiskFull),("ratchet/journal.errPowerCut",Rows.laid_ratchet_journal_errPowerCut)]
theorem d2:(Rows.laid_ratchet_prim_roundConstants:DataW Unit)= .agg ((List.range 64).map fun i=> .lit (.int .u32 (kW i))):=by kernel_rfl
theorem TN (u:TypeId) (h:Tryd.prog.typeName? 3 u=some "*errors.errorString"):u=135:=
 typeName_ptr_named (nm:="errors.errorString") (tp:=135) (by kernel_rfl) (by kernel_rfl) (by decide) u h
theorem MC:Tryd.prog.cellsOf 9=1:=by kernel_rfl
theorem O8:Tryd.prog.cellsOf 159=1:=by kernel_rfl
theorem J5 {W:World} {t n fuel:Nat} {f:Nat→Int} {cs:List Value} {p:List MemPlace} {sp:Nat→Bool} {held:Bool} (ht:Tryd.prog.underlying t=some (.array n 125))
  (h:DataW.trod (fun _=>()) Tryd.prog W 0 sp held fuel t cs=some (.agg ((List.range n).map fun i=> .lit (.int .u32 (f i))),p)): ∀ i,i < n→cs[i]? =some (.int .u32 (f i)):=by
 intro i hi
 obtain ⟨xs,m,rfl,hx,hlen,Z9,hel⟩:=DataW.trod_array ht h
 have he:=hel i hi
 rw[J4,Nat.mul_one]at he
 have Xy:i < xs.length:=by omega
 rw[List.getElem?_eq_getElem Xy]at he
 obtain ⟨z,hc,hz,hw⟩:=DataW.trod_int Tryd.underlying125 he
 have e1:(xs.map (·.1))[i]? =((List.range n).map fun i=>(DataW.lit (.int .u32 (f i)):DataW Unit))[i]? :=by
  have:=congrArg Prod.fst hx
  simp only[DataW.agg.injEq]at this
  rw[this]
 rw[List.getElem?_map,List.getElem?_map,List.getElem?_range hi,List.getElem?_eq_getElem Xy]at e1
 simp only[Option.map_some,Option.some.injEq]at e1
 rw[hz]at e1
 simp only[DataW.lit.injEq,Lit.int.injEq,true_and]at e1
 subst e1
 have:((cs.drop i).take 1)[0]? =some (.int .u32 (f i)):=by rw[hc];rfl
 rw[List.getElem?_take_of_lt (by decide),List.getElem?_drop]at this
 simpa using this
theorem fQ {W:World} {b i:Nat} {v:Value} (h:W.cell? ⟨b,i,none⟩=some v):b < W.heap.size:=by
 rcases Nat.lt_or_ge b W.heap.size with hb | hb
 ·exact hb
 ·have hn:W.heap[b]? =none:=Array.getElem?_eq_none hb
  simp[World.cell?,hn]at h
theorem sent {W:World} {f:Nat} {cs:Array Value} {text:List UInt8} {p:List MemPlace} {n:String} {g:Nat} (hg:Tryd.prog.globalNamed n=some g) (hv:W.var? Tryd.prog n=some cs)
  (hd:DataW.trod (fun _=>()) Tryd.prog W 0 (fun _=>true) false f 57 cs.toList=some (.iface "*errors.errorString" (.ptr (.agg [.lit (.string text)])),p))
  (hok:cs.size=1→ ∀ u v,W.cell? ⟨g,0,none⟩=some (.iface u v)→Value.okWide Tryd.prog W .any 0 u v):
  ∃ a,W.cell? ⟨g,0,none⟩=some (.iface 135 (.pointer (some a)))∧p=[.cell a.block a.off]∧cs.size=1:=by
 obtain ⟨l⟩:=cs
 have ok: ∀ u v,l=[.iface u v]→Value.okWide Tryd.prog W .any 0 u v:=fun u v e=>by
  subst e
  exact hok rfl u v (by simpa using World.var?_cell hg hv 0)
 obtain ⟨a,s,rfl,hc,hs,hz,rfl⟩:=errorString_of_trod Tryd.underlying57 TN Tryd.underlying135 Tryd.underlying159 rfl rfl Tryd.underlying9 O8 MC hd ok
 exact ⟨a,by simpa using World.var?_cell hg hv 0,by simp[MemPlace.row],rfl⟩
theorem ou {R q q':List MemPlace} {x:MemPlace} (h:q'.Sublist q):(x::q').Sublist (R++[x]++q):=by
 rw[List.append_assoc]
 exact (List.Sublist.cons_cons x h).trans (List.sublist_append_right R _)
theorem AZ {α β:Type} (f:α→β) {l:List α} (h:(l.map f).Nodup):l.Nodup:=by
 unfold List.Nodup at h ⊢
 exact (List.pairwise_map.1 h).imp fun hab e=>hab (congrArg f e)
def perm (i:Nat):Nat:=[4,0,1,2,3].getD i 0
theorem A8: ∀ i,i < 5→perm i < 5:=by decide
theorem MD: ∀ i,i < 5→ ∀ j,j < 5→perm i=perm j→i=j:=by decide
theorem O9 {W:World} (h:laidMetH Tryd.prog tabs W): ∃ _:aV,Laid Tryd.prog W:=by
 rw[MakeChecks.laidMetH_plain _ _ _ (by kernel_rfl)]at h
 obtain ⟨ps,⟨a0,u0,cs0,f0,p0,q0,ha0,YO,JC,hd0,⟨a1,u1,wB,f1,p1,q1,Xz,Sy,SD,hd1,⟨a2,u2,J6,f2,p2,q2,XA,Oc,OZ,hd2,⟨a3,u3,V',f3,p3,q3,XB,YP,TP,hd3,⟨a4,u4,cs4,f4,p4,q4,XC,YQ,YR,hd4,⟨a5,u5,cs5,f5,p5,q5,XD,YS,YT,hd5,_,e5⟩,e4⟩,e3⟩,e2⟩,e1⟩,e0⟩,hnd,hrows⟩:=h
 obtain rfl:=Option.some.inj (g2.symm.trans ha0)
 obtain rfl:=Option.some.inj (YL.symm.trans Xz)
 obtain rfl:=Option.some.inj (YM.symm.trans XA)
 obtain rfl:=Option.some.inj (YN.symm.trans XB)
 obtain rfl:=Option.some.inj (YK.symm.trans XC)
 obtain rfl:=Option.some.inj (YJ.symm.trans XD)
 obtain rfl:=Option.some.inj (t2.symm.trans YO)
 obtain rfl:=Option.some.inj ((ge _ (by decide)).symm.trans Sy)
 obtain rfl:=Option.some.inj ((ge _ (by decide)).symm.trans Oc)
 obtain rfl:=Option.some.inj ((ge _ (by decide)).symm.trans YP)
 obtain rfl:=Option.some.inj ((ge _ (by decide)).symm.trans YQ)
 obtain rfl:=Option.some.inj ((ge _ (by decide)).symm.trans YS)
 rw[d2]at hd0
 have m0: ∀ x,x ∈ q0→x ∈ ps:=fun x hx=>by rw[e0];exact List.mem_append_right _ hx
 have m1: ∀ x,x ∈ q1→x ∈ ps:=fun x hx=>m0 x (by rw[e1];exact List.mem_append_right _ hx)
 have m2: ∀ x,x ∈ q2→x ∈ ps:=fun x hx=>m1 x (by rw[e2];exact List.mem_append_right _ hx)
 have m3: ∀ x,x ∈ q3→x ∈ ps:=fun x hx=>m2 x (by rw[e3];exact List.mem_append_right _ hx)
 have m4: ∀ x,x ∈ q4→x ∈ ps:=fun x hx=>m3 x (by rw[e4];exact List.mem_append_right _ hx)
 obtain ⟨x1,c1,r1,z1⟩:=sent Xz SD hd1 (fun hs u v hc=>(hrows 2 0 (m0 _ (by rw[e1,hs];simp[MemPlace.row]))).2 u v hc)
 subst r1
 obtain ⟨x2,c2,r2,z2⟩:=sent XA OZ hd2 (fun hs u v hc=>(hrows 3 0 (m1 _ (by rw[e2,hs];simp[MemPlace.row]))).2 u v hc)
 subst r2
 obtain ⟨x3,c3,r3,z3⟩:=sent XB TP hd3 (fun hs u v hc=>(hrows 4 0 (m2 _ (by rw[e3,hs];simp[MemPlace.row]))).2 u v hc)
 subst r3
 obtain ⟨x4,c4,r4,z4⟩:=sent XC YR hd4 (fun hs u v hc=>(hrows 1 0 (m3 _ (by rw[e4,hs];simp[MemPlace.row]))).2 u v hc)
 subst r4
 obtain ⟨x5,c5,r5,z5⟩:=sent XD YT hd5 (fun hs u v hc=>(hrows 0 0 (m4 _ (by rw[e5,hs];simp[MemPlace.row]))).2 u v hc)
 subst r5
 have w0:=J5 Tryd.underlying131 hd0
 have s5:([.cell x5.block x5.off]:List MemPlace).Sublist q4:=by rw[e5];exact ou (List.nil_sublist q5)
 have s4:([.cell x4.block x4.off, .cell x5.block x5.off]:List MemPlace).Sublist q3:=by rw[e4];exact ou (s5)
 have s3:([.cell x3.block x3.off, .cell x4.block x4.off, .cell x5.block x5.off]:List MemPlace).Sublist q2:=by rw[e3];exact ou (s4)
 have s2:([.cell x2.block x2.off, .cell x3.block x3.off, .cell x4.block x4.off, .cell x5.block x5.off]:List MemPlace).Sublist q1:=by rw[e2];exact ou (s3)
 have s1:([.cell x1.block x1.off, .cell x2.block x2.off, .cell x3.block x3.off, .cell x4.block x4.off, .cell x5.block x5.off]:List MemPlace).Sublist q0:=by rw[e1];exact ou (s2)
 have s0:q0.Sublist ps:=by
  rw[e0]
  exact List.sublist_append_right _ _
 have hsub:(([x1,x2,x3,x4,x5]:List Addr).map fun a=>MemPlace.cell a.block a.off).Sublist ps:=s1.trans s0
 have TQ:([x1,x2,x3,x4,x5]:List Addr).Nodup:=AZ _ (hnd.sublist hsub)
 obtain ⟨L,hL⟩: ∃ L:List Addr,L=[x1,x2,x3,x4,x5]:=⟨_,rfl⟩
 rw[← hL]at hsub TQ
 have hlen:L.length=5:=by rw[hL];rfl
 have o5: ∀ i,i < 5→L[perm i]? =some (L.getD (perm i) x1):=fun i hi=>by
  have:=A8 i hi
  rw[List.getD_eq_getElem?_getD,List.getElem?_eq_getElem (by omega)];rfl
 have hex: ∀ i,i < 5→ ∃ c t,W.heap[(L.getD (perm i) x1).block]? =some (.cells c t (0,0)):=fun i hi=>by
  have hm:L.getD (perm i) x1 ∈ L:=List.mem_of_getElem? (o5 i hi)
  have:=hsub.subset (List.mem_map_of_mem (f:=fun a:Addr=>MemPlace.cell a.block a.off) hm)
  exact (hrows _ _ this).1
 have hinj: ∀ i j,i < 5→j < 5→L.getD (perm i) x1=L.getD (perm j) x1→i=j:=fun i j hi hj e=>by
  have h1:=o5 i hi
  have h2:=o5 j hj
  have p1:=A8 i hi
  have p2:=A8 j hj
  have key:=List.pairwise_iff_getElem.1 TQ
  rw[List.getElem?_eq_getElem (by omega)]at h1 h2
  have e1:L[perm i]'(by omega)=L[perm j]'(by omega):=(Option.some.inj h1).trans (e.trans (Option.some.inj h2).symm)
  refine MD i hi j hj ?_
  rcases Nat.lt_trichotomy (perm i) (perm j) with h | h | h
  ·exact absurd e1 (key _ _ _ _ h)
  ·exact h
  ·exact absurd e1.symm (key _ _ _ _ h)
 let E:aV:=⟨fun i=>L.getD (perm i) x1,fun i=>if h:i < 5 then (hex i h).choose else #[],fun i=>if h:i < 5 then (hex i h).choose_spec.choose else 0,hinj⟩
 have hcell: ∀ b,b < 5→W.cell? ⟨b,0,none⟩=some (.iface 135 (.pointer (some (L.getD (perm (TF b)) x1)))):=fun b hb=>by
  have:b=0∨b=1∨b=2∨b=3∨b=4:=by omega
  subst hL
  rcases this with rfl | rfl | rfl | rfl | rfl
  ·exact c5
  ·exact c4
  ·exact c1
  ·exact c2
  ·exact c3
 have fin: ∀ (b n:Nat) (f:Nat→Int),0 < n→(∀ i,i < n→W.cell? ⟨b,i,none⟩=some (.int .u32 (f i)))→b < W.heap.size∧ ∀ i v,(aA .u32 n f)[i]? =some v→SV.one v=true∧ ∃ u,v= .inl u∧gx u=true∧W.cell? ⟨b,i,none⟩=some u:=fun b n f hn hc=>by
  refine ⟨fQ (hc 0 hn),fun i v hv=> ?_⟩
  by_cases hi:i < n
  ·rw[bI .u32 n f i hi]at hv
   obtain rfl:=Option.some.inj hv
   exact ⟨rfl,_,rfl,rfl,hc i hi⟩
  ·rw[List.getElem?_eq_none (by rw[aH];omega)]at hv;cases hv
 have y0: ∀ i,i < 64→W.cell? ⟨5,i,none⟩=some (.int .u32 (kW i)):=fun i hi=>by
  rw[World.var?_cell ha0 JC i];simpa using w0 i hi
 have Js: ∀ n i, @wx E n=some i→i < 5∧(L.getD (perm i) x1).block=n:=fun n i hi=>by
  have h1:=List.mem_of_find?_eq_some hi
  have h2:=List.find?_some hi
  have h3:((L.getD (perm i) x1).block==n)=true:=h2
  exact ⟨List.mem_range.1 h1,eq_of_beq h3⟩
 refine ⟨E,⟨fun b bx hb=> ?_,fun b o hb=> ?_⟩⟩
 ·have hb': @wy E b=some bx:=hb
  unfold wy at hb'
  split at hb'
  ·rename_i h9;cases hb'
   refine ⟨fQ (hcell b h9),fun i v hv=> ?_⟩
   rcases i with _ | i
   ·cases hv;exact ⟨rfl,_,rfl,rfl,hcell b h9⟩
   ·cases hv
  ·split at hb'
   ·rename_i _ h;subst h;cases hb';exact fin 5 64 kW (by decide) y0
   ·split at hb'
    ·rename_i i hi;cases hb'
     obtain ⟨TR,Vb⟩:=Js b i hi
     obtain ⟨c,t,hh⟩:=hex i TR
     rw[Vb]at hh
     refine ⟨?_,fun i v hv=>(by cases hv)⟩
     rcases Nat.lt_or_ge b W.heap.size with h | h
     ·exact h
     ·rw[Array.getElem?_eq_none h]at hh;cases hh
    ·cases hb'
 ·have hb': @pW E b=some o:=hb
  unfold pW at hb'
  split at hb'
  ·rename_i i hi
   obtain ⟨TR,rfl⟩:=Js b i hi
   cases hb'
   have:=(hex i TR).choose_spec.choose_spec
   rw[this]
   show _=some (Obj.cells (if h:i < 5 then (hex i h).choose else #[]) (if h:i < 5 then (hex i h).choose_spec.choose else 0) (0,0))
   rw[dif_pos TR,dif_pos TR]
  ·cases hb'
open Go.ChangeShapes Go.WideShapes Go.ChangeAt Go.RowKit
open Go.bM
set_option linter.unusedVariables false
set_option linter.unusedSimpArgs false
theorem own:ownKnob Tryd.prog.godebug=none:=by kernel_rfl
theorem laidOut:laidOutB Tryd.prog=true:=by kernel_rfl
theorem J7:Tryd.prog.cellsOf 4=1:=by kernel_rfl
theorem DR:Tryd.prog.cellsOf 3=1:=by kernel_rfl
theorem Gd:Tryd.prog.cellsOf 31=1:=by kernel_rfl
theorem wC:Tryd.prog.cellsOf 33=3:=by kernel_rfl
theorem ME {H:Type} (d:DataW H):1≤Rows.uptoBulk d:=by
 rcases d with l | _ | _ | _ | _ | _ | _ | _
 ·rcases l with _ | _ | _ | _ | _ | _ | _<;>simp[Rows.uptoBulk]
 all_goals simp[Rows.uptoBulk]
theorem MF {H:Type} (l:List (DataW H)):l.length≤Rows.uptoBulkAll l:=by
 induction l with
 | nil=>simp
 | cons x r ih=>have:=ME x;simp only[Rows.uptoBulkAll,List.length_cons];omega
theorem mX {H:Type} (l r:List (DataW H)):l.length≤Rows.uptoBulk (.slice l r):=by
 have:=MF l
 simp only[Rows.uptoBulk];omega
def ov (w:World) (v:Value) (n:Nat) (f:Nat→Int):Prop:=
 (∃ a,v= .slice a 0 0∧n=0)∨ ∃ b o c,v= .slice (some ⟨b,o,none⟩) n c∧b < w.heap.size∧n≤c∧ ∀ i,i < n→w.cell? ⟨b,o+i,none⟩=some (.int .u8 (f i))
def mY (w:World) (v:Value) (n:Nat) (f:Nat→Bool):Prop:=
 (∃ a,v= .slice a 0 0∧n=0)∨ ∃ b o c,v= .slice (some ⟨b,o,none⟩) n c∧b < w.heap.size∧n≤c∧ ∀ i,i < n→w.cell? ⟨b,o+i,none⟩=some (.bool (f i))
theorem r6 {H:Type} {enc:TypeId×Value→H} {W:World} {fuel:Nat} {cs:List Value} {d:DataW H} {p:List MemPlace} (Pa:DataW.trod enc Tryd.prog W 0 (fun _=>true) true fuel 22 cs=some (d,p)):
  ∃ v n f,cs=[v]∧cU f∧n≤Rows.uptoBulk d∧ov W v n f:=by
 rcases open_ints Tryd.underlying22 Tryd.underlying5 (by kernel_rfl) Pa with ⟨hcs,_⟩ | ⟨x,len,cap,zs,hcs,_,hl,hm,hz,hd,hcell,YU⟩
 ·exact ⟨_,0,fun _=>0,hcs,fun _=>⟨by simp,by simp⟩,Nat.zero_le _, .inl ⟨none,rfl,rfl⟩⟩
 ·simp only[if_true]at hz
  have hd2:d= .slice (lits .u8 (zs.take len)) (lits .u8 (zs.drop len)):=by
   have:=congrArg Prod.fst hd
   simpa using this
  have hb: ∀ i,0≤zs.getD i 0∧zs.getD i 0 < 256:=fun i=>by
   by_cases hi:i < zs.length
   ·have YV:zs.getD i 0 ∈ zs:=by
     rw[List.getD_eq_getElem?_getD,List.getElem?_eq_getElem hi];exact List.getElem_mem hi
    have:=bounds_u8 (YU _ YV)
    exact ⟨this.1,by omega⟩
   ·rw[List.getD_eq_getElem?_getD,List.getElem?_eq_none (by omega)];decide
  have l6:len≤Rows.uptoBulk d:=by
   rw[hd2]
   refine Nat.le_trans ?_ (mX _ _)
   simp only[lits,List.length_map,List.length_take];omega
  refine ⟨_,len,fun i=>zs.getD i 0,hcs,hb,l6, ?_⟩
  by_cases hc0:cap=0
  ·subst hc0
   obtain rfl:len=0:=by omega
   exact .inl ⟨_,rfl,rfl⟩
  ·obtain ⟨b,off,spot⟩:=x
   have hc:=hcell 0 (by omega)
   have ow:spot=none:=by simpa[Addr.add] using World.cell?_spot hc
   subst ow
   rw[add_eq]at hc
   refine .inr ⟨b,off,cap,rfl,fQ hc,hl,fun i hi=> ?_⟩
   have:=hcell i (by omega)
   rwa [add_eq]at this
theorem Ge {H:Type} {enc:TypeId×Value→H} {W:World} {fuel:Nat} {cs:List Value} {d:DataW H} {p:List MemPlace} (h:DataW.trod enc Tryd.prog W 0 (fun _=>true) true fuel 31 cs=some (d,p)):
  ∃ v n f,cs=[v]∧n≤Rows.uptoBulk d∧mY W v n f:=by
 rcases DataW.trod_slice Tryd.underlying31 h with ⟨rfl,_⟩ | ⟨a,len,cap,elems,rest,m,_,rfl,hx,_,hlc,_,hlen,hel,hsp,_⟩
 ·exact ⟨_,0,fun _=>false,rfl,Nat.zero_le _, .inl ⟨none,rfl,rfl⟩⟩
 ·obtain ⟨hrl,lz⟩:=hsp rfl
  rw[J7]at hel lz
  have hd2:d= .slice (elems.map (·.1)) (rest.map (·.1)):=congrArg Prod.fst hx
  have l6:len≤Rows.uptoBulk d:=by
   rw[hd2]
   refine Nat.le_trans ?_ (mX _ _)
   rw[List.length_map];omega
  have each: ∀ i,i < len→ ∃ b,W.cell? (a.add i)=some (.bool b):=fun i hi=>by
   have h1:=hel i hi
   have hi2:i < elems.length:=by omega
   rw[List.getElem?_eq_getElem hi2,Option.bind_eq_some_iff]at h1
   obtain ⟨l,RI,Ih⟩:=h1
   obtain ⟨b,rfl,_⟩:=DataW.trod_bool Tryd.underlying4 Ih
   obtain ⟨_,h2,h3⟩:=World.cells?_some RI
   have h4:=h3 0 (by decide)
   rw[Nat.mul_one]at h4
   have h6:(a.add i).add 0=a.add i:=by cases a;simp[Addr.add]
   rw[h6]at h4
   exact ⟨b,h4⟩
  have e0: ∀ i, ∃ b,i < len→W.cell? (a.add i)=some (.bool b):=fun i=>by
   by_cases hi:i < len
   ·obtain ⟨b,hb⟩:=each i hi
    exact ⟨b,fun _=>hb⟩
   ·exact ⟨false,fun h=>absurd h hi⟩
  refine ⟨_,len,fun i=>(e0 i).choose,rfl,l6, ?_⟩
  rcases Nat.eq_zero_or_pos cap with h0 | h0
  ·subst h0
   obtain rfl:len=0:=by omega
   exact .inl ⟨_,rfl,rfl⟩
  ·have ow:a.spot=none∧a.block < W.heap.size:=by
    rcases Nat.eq_zero_or_pos len with lI | lI
    ·subst lI
     have h1:=lz 0 (by omega)
     have h2:0 < rest.length:=by omega
     rw[List.getElem?_eq_getElem h2,Option.bind_eq_some_iff]at h1
     obtain ⟨l,hl,Ih⟩:=h1
     obtain ⟨b,rfl,_⟩:=DataW.trod_bool Tryd.underlying4 Ih
     obtain ⟨_,_,h3⟩:=World.cells?_some hl
     have h4:=h3 0 (by decide)
     have h6:(a.add ((0+0)*1)).add 0=a.add 0:=by cases a;simp[Addr.add]
     rw[h6]at h4
     have hs:a.spot=none:=by cases a;simpa[Addr.add] using World.cell?_spot h4
     obtain ⟨b',off,spot⟩:=a
     simp only at hs;subst hs
     rw[add_eq]at h4
     exact ⟨rfl,fQ h4⟩
    ·obtain ⟨b,h4⟩:=each 0 lI
     have hs:a.spot=none:=by cases a;simpa[Addr.add] using World.cell?_spot h4
     obtain ⟨b',off,spot⟩:=a
     simp only at hs;subst hs
     rw[add_eq]at h4
     exact ⟨rfl,fQ h4⟩
   obtain ⟨b,off,spot⟩:=a
   obtain ⟨hs,hb⟩:=ow
   simp only at hs;subst hs
   refine .inr ⟨b,off,cap,rfl,hb,hlc,fun i hi=> ?_⟩
   have:=(e0 i).choose_spec hi
   have e:(⟨b,off,none⟩:Addr).add i=⟨b,off+i,none⟩:=add_eq _ _ _
   exact (congrArg W.cell? e.symm).trans this
theorem l8 {H:Type} {d:DataW H} {l:List (DataW H)} {i:Nat} (h:l[i]? =some d):Rows.uptoBulk d≤Rows.uptoBulkAll l:=by
 induction l generalizing i with
 | nil=>cases h
 | cons x r ih=>
  simp only[Rows.uptoBulkAll]
  rcases i with _ | i
  ·cases h;omega
  ·have:=ih h;omega
theorem wD {H:Type} {enc:TypeId×Value→H} {W:World} {fuel:Nat} {l:List Value} {d:DataW H} {p:List MemPlace} (hf:DataW.trod enc Tryd.prog W 0 (fun _=>true) true fuel 33 l=some (d,p)):
  ∃ at_ ks cut n f,l=[.int .i64 at_,ks, .int .i64 cut]∧mY W ks n f:=by
 obtain ⟨xs,m,_,hx,iw,hlen,hel⟩:=DataW.trod_struct Tryd.underlying33 hf
 rw[wC]at iw
 obtain ⟨y0,y1,y2,rfl⟩: ∃ y0 y1 y2,xs=[y0,y1,y2]:=by
  rcases xs with _ | ⟨y0,_ | ⟨y1,_ | ⟨y2,_ | ⟨y3,r⟩⟩⟩⟩<;>simp at hlen
  exact ⟨_,_,_,rfl⟩
 obtain ⟨c0,c1,c2,rfl⟩: ∃ c0 c1 c2,l=[c0,c1,c2]:=by
  rcases l with _ | ⟨y0,_ | ⟨y1,_ | ⟨y2,_ | ⟨y3,r⟩⟩⟩⟩<;>simp at iw
  exact ⟨_,_,_,rfl⟩
 have h0:DataW.trod enc Tryd.prog W 0 (fun _=>true) true m 3 (List.take (Tryd.prog.cellsOf 3) (List.drop 0 [c0,c1,c2]))=some y0:=hel 0 _ rfl
 rw[DR]at h0
 have h1:DataW.trod enc Tryd.prog W 0 (fun _=>true) true m 31 (List.take (Tryd.prog.cellsOf 31) (List.drop 1 [c0,c1,c2]))=some y1:=hel 1 _ rfl
 rw[Gd]at h1
 have h2:DataW.trod enc Tryd.prog W 0 (fun _=>true) true m 3 (List.take (Tryd.prog.cellsOf 3) (List.drop 2 [c0,c1,c2]))=some y2:=hel 2 _ rfl
 rw[DR]at h2
 obtain ⟨x0,e0,_,_⟩:=DataW.trod_int Tryd.underlying3 h0
 obtain ⟨x2,e2,_,_⟩:=DataW.trod_int Tryd.underlying3 h2
 obtain ⟨ks,n,f,e1,hn,hI⟩:=Ge (d:=y1.1) (p:=y1.2) h1
 obtain rfl:c0= .int .i64 x0:=(List.cons.inj (show [c0]=[_] from e0)).1
 obtain rfl:c2= .int .i64 x2:=(List.cons.inj (show [c2]=[_] from e2)).1
 obtain rfl:c1=ks:=(List.cons.inj (show [c1]=[ks] from e1)).1
 exact ⟨x0,c1,x2,n,f,rfl,hI⟩
theorem J8:Tryd.prog.cellsOf 22=1:=by kernel_rfl
def r7 (w:World) (v:Value) (n:Nat) (vs:Nat→Value) (ms:Nat→Nat) (fs:Nat→Nat→Int):Prop:=
 (∃ a,v= .slice a 0 0∧n=0)∨ ∃ b o c,v= .slice (some ⟨b,o,none⟩) n c∧b < w.heap.size∧n≤c∧ ∀ i,i < n→w.cell? ⟨b,o+i,none⟩=some (vs i)∧ov w (vs i) (ms i) (fs i)
theorem J9 {H:Type} {enc:TypeId×Value→H} {W:World} {fuel:Nat} {cs:List Value} {d:DataW H} {p:List MemPlace} (h:DataW.trod enc Tryd.prog W 0 (fun _=>true) true fuel 23 cs=some (d,p)):
  ∃ v n vs ms fs,cs=[v]∧n≤Rows.uptoBulk d∧(∀ i,cU (fs i))∧(∀ i,ms i≤Rows.uptoBulk d)∧r7 W v n vs ms fs:=by
 have z:cU (fun _=>(0:Int)):=fun _=>by show (0:Int)≤0∧(0:Int) < 256;decide
 rcases DataW.trod_slice Tryd.underlying23 h with ⟨rfl,_⟩ | ⟨a,len,cap,elems,rest,m,_,rfl,hx,_,hlc,_,hlen,hel,hsp,_⟩
 ·exact ⟨_,0,fun _=> .slice none 0 0,fun _=>0,fun _ _=>0,rfl,Nat.zero_le _,fun _=>z,fun _=>Nat.zero_le _, .inl ⟨none,rfl,rfl⟩⟩
 ·obtain ⟨hrl,lz⟩:=hsp rfl
  rw[J8]at hel lz
  have hd2:d= .slice (elems.map (·.1)) (rest.map (·.1)):=congrArg Prod.fst hx
  have l6:len≤Rows.uptoBulk d:=by
   rw[hd2]
   refine Nat.le_trans ?_ (mX _ _)
   rw[List.length_map];omega
  have hpart: ∀ (i:Nat) (y:DataW H×List MemPlace),elems[i]? =some y→Rows.uptoBulk y.1≤Rows.uptoBulk d:=fun i y hy=>by
   rw[hd2]
   have:=l8 (l:=elems.map (·.1)) (i:=i) (d:=y.1) (by rw[List.getElem?_map,hy];rfl)
   simp only[Rows.uptoBulk];omega
  have each: ∀ i,i < len→ ∃ v n f,cU f∧n≤Rows.uptoBulk d∧W.cell? (a.add i)=some v∧ov W v n f:=fun i hi=>by
   have h1:=hel i hi
   have hi2:i < elems.length:=by omega
   rw[List.getElem?_eq_getElem hi2,Option.bind_eq_some_iff]at h1
   obtain ⟨l,RI,Ih⟩:=h1
   obtain ⟨v,n,f,rfl,hf,hn,hI⟩:=r6 (d:=(elems[i]).1) (p:=(elems[i]).2) Ih
   obtain ⟨_,h2,h3⟩:=World.cells?_some RI
   have h4:=h3 0 (by decide)
   rw[Nat.mul_one]at h4
   have h6:(a.add i).add 0=a.add i:=by cases a;simp[Addr.add]
   rw[h6]at h4
   exact ⟨v,n,f,hf,Nat.le_trans hn (hpart i _ (List.getElem?_eq_getElem hi2)),h4,hI⟩
  have e0: ∀ i, ∃ v n f,cU f∧n≤Rows.uptoBulk d∧(i < len→W.cell? (a.add i)=some v∧ov W v n f):=fun i=>by
   by_cases hi:i < len
   ·obtain ⟨v,n,f,hf,hn,h1,h2⟩:=each i hi
    exact ⟨v,n,f,hf,hn,fun _=>⟨h1,h2⟩⟩
   ·exact ⟨.slice none 0 0,0,fun _=>0,z,Nat.zero_le _,fun h=>absurd h hi⟩
  refine ⟨_,len,fun i=>(e0 i).choose,fun i=>(e0 i).choose_spec.choose,fun i=>(e0 i).choose_spec.choose_spec.choose,rfl,l6,fun i=>(e0 i).choose_spec.choose_spec.choose_spec.1,fun i=>(e0 i).choose_spec.choose_spec.choose_spec.2.1, ?_⟩
  have MG:cap=0∨(a.spot=none∧a.block < W.heap.size):=by
   rcases Nat.eq_zero_or_pos cap with h0 | h0
   ·exact .inl h0
   ·right
    rcases Nat.eq_zero_or_pos len with lI | lI
    ·subst lI
     have h1:=lz 0 (by omega)
     have h2:0 < rest.length:=by omega
     rw[List.getElem?_eq_getElem h2,Option.bind_eq_some_iff]at h1
     obtain ⟨l,hl,Ih⟩:=h1
     obtain ⟨v,n,f,rfl,_,_,_⟩:=r6 (d:=(rest[0]).1) (p:=(rest[0]).2) Ih
     obtain ⟨_,_,h3⟩:=World.cells?_some hl
     have h4:=h3 0 (by decide)
     have h6:(a.add ((0+0)*1)).add 0=a.add 0:=by cases a;simp[Addr.add]
     rw[h6]at h4
     obtain ⟨b,off,spot⟩:=a
     have ow:spot=none:=by simpa[Addr.add] using World.cell?_spot h4
     subst ow
     rw[add_eq]at h4
     exact ⟨rfl,fQ h4⟩
    ·obtain ⟨v,n,f,_,_,hv,_⟩:=each 0 lI
     obtain ⟨b,off,spot⟩:=a
     have ow:spot=none:=by simpa[Addr.add] using World.cell?_spot hv
     subst ow
     rw[add_eq]at hv
     exact ⟨rfl,fQ hv⟩
  rcases MG with rfl | ⟨h1,h2⟩
  ·obtain rfl:len=0:=by omega
   exact .inl ⟨_,rfl,rfl⟩
  ·obtain ⟨b,off,spot⟩:=a
   simp only at h1 h2;subst h1
   refine .inr ⟨b,off,cap,rfl,h2,hlc,fun i hi=> ?_⟩
   have:=(e0 i).choose_spec.choose_spec.choose_spec.2.2 hi
   have e:(⟨b,off,none⟩:Addr).add i=⟨b,off+i,none⟩:=add_eq _ _ _
   exact ⟨(congrArg W.cell? e.symm).trans this.1,this.2⟩
def ox (w:World) (v:Value) (n:Nat) (ca cc:Nat→Int) (ks:Nat→Value) (kn:Nat→Nat) (kb:Nat→Nat→Bool):Prop:=
 (∃ a,v= .slice a 0 0∧n=0)∨ ∃ b o c,v= .slice (some ⟨b,o,none⟩) n c∧b < w.heap.size∧n≤c∧ ∀ i,i < n→w.cell? ⟨b,o+i*3,none⟩=some (.int .i64 (ca i))∧w.cell? ⟨b,o+i*3+1,none⟩=some (ks i)∧w.cell? ⟨b,o+i*3+2,none⟩=some (.int .i64 (cc i))∧mY w (ks i) (kn i) (kb i)
theorem zQ {H:Type} {enc:TypeId×Value→H} {W:World} {fuel:Nat} {cs:List Value} {d:DataW H} {p:List MemPlace} (h:DataW.trod enc Tryd.prog W 0 (fun _=>true) true fuel 24 cs=some (d,p)):
  ∃ v n ca cc ks kn kb,cs=[v]∧n≤Rows.uptoBulk d∧ox W v n ca cc ks kn kb:=by
 rcases DataW.trod_slice Tryd.underlying24 h with ⟨rfl,_⟩ | ⟨a,len,cap,elems,rest,m,_,rfl,hx,_,hlc,_,hlen,hel,hsp,_⟩
 ·exact ⟨_,0,fun _=>0,fun _=>0,fun _=> .slice none 0 0,fun _=>0,fun _ _=>false,rfl,Nat.zero_le _, .inl ⟨none,rfl,rfl⟩⟩
 ·obtain ⟨hrl,lz⟩:=hsp rfl
  rw[wC]at hel lz
  have hd2:d= .slice (elems.map (·.1)) (rest.map (·.1)):=congrArg Prod.fst hx
  have l6:len≤Rows.uptoBulk d:=by
   rw[hd2]
   refine Nat.le_trans ?_ (mX _ _)
   rw[List.length_map];omega
  have each: ∀ i,i < len→ ∃ x y ks n f,W.cell? ((a.add (i*3)).add 0)=some (.int .i64 x)∧W.cell? ((a.add (i*3)).add 1)=some ks∧W.cell? ((a.add (i*3)).add 2)=some (.int .i64 y)∧mY W ks n f:=fun i hi=>by
   have h1:=hel i hi
   have hi2:i < elems.length:=by omega
   rw[List.getElem?_eq_getElem hi2,Option.bind_eq_some_iff]at h1
   obtain ⟨l,RI,Ih⟩:=h1
   obtain ⟨x,ks,y,n,f,rfl,hI⟩:=wD (d:=(elems[i]).1) (p:=(elems[i]).2) Ih
   obtain ⟨_,h2,h3⟩:=World.cells?_some RI
   exact ⟨x,y,ks,n,f,h3 0 (by decide),h3 1 (by decide),h3 2 (by decide),hI⟩
  have e0: ∀ i, ∃ x y ks n f,i < len→W.cell? ((a.add (i*3)).add 0)=some (.int .i64 x)∧W.cell? ((a.add (i*3)).add 1)=some ks∧W.cell? ((a.add (i*3)).add 2)=some (.int .i64 y)∧mY W ks n f:=fun i=>by
   by_cases hi:i < len
   ·obtain ⟨x,y,ks,n,f,h⟩:=each i hi
    exact ⟨x,y,ks,n,f,fun _=>h⟩
   ·exact ⟨0,0, .slice none 0 0,0,fun _=>false,fun h=>absurd h hi⟩
  refine ⟨_,len,fun i=>(e0 i).choose,fun i=>(e0 i).choose_spec.choose,fun i=>(e0 i).choose_spec.choose_spec.choose,fun i=>(e0 i).choose_spec.choose_spec.choose_spec.choose,fun i=>(e0 i).choose_spec.choose_spec.choose_spec.choose_spec.choose,rfl,l6, ?_⟩
  have MG:cap=0∨(a.spot=none∧a.block < W.heap.size):=by
   rcases Nat.eq_zero_or_pos cap with h0 | h0
   ·exact .inl h0
   ·right
    rcases Nat.eq_zero_or_pos len with lI | lI
    ·subst lI
     have h1:=lz 0 (by omega)
     have h2:0 < rest.length:=by omega
     rw[List.getElem?_eq_getElem h2,Option.bind_eq_some_iff]at h1
     obtain ⟨l,hl,Ih⟩:=h1
     obtain ⟨x,ks,y,n,f,rfl,_⟩:=wD (d:=(rest[0]).1) (p:=(rest[0]).2) Ih
     obtain ⟨_,_,h3⟩:=World.cells?_some hl
     have h4:=h3 0 (by decide)
     have h6:(a.add ((0+0)*3)).add 0=a.add 0:=by cases a;simp[Addr.add]
     rw[h6]at h4
     obtain ⟨b,off,spot⟩:=a
     have ow:spot=none:=by simpa[Addr.add] using World.cell?_spot h4
     subst ow
     rw[add_eq]at h4
     exact ⟨rfl,fQ h4⟩
    ·obtain ⟨x,y,ks,n,f,hv,_⟩:=each 0 lI
     have h6:(a.add (0*3)).add 0=a.add 0:=by cases a;simp[Addr.add]
     rw[h6]at hv
     obtain ⟨b,off,spot⟩:=a
     have ow:spot=none:=by simpa[Addr.add] using World.cell?_spot hv
     subst ow
     rw[add_eq]at hv
     exact ⟨rfl,fQ hv⟩
  rcases MG with rfl | ⟨h1,h2⟩
  ·obtain rfl:len=0:=by omega
   exact .inl ⟨_,rfl,rfl⟩
  ·obtain ⟨b,off,spot⟩:=a
   simp only at h1 h2;subst h1
   refine .inr ⟨b,off,cap,rfl,h2,hlc,fun i hi=> ?_⟩
   obtain ⟨k0,k1,k2,k3⟩:=(e0 i).choose_spec.choose_spec.choose_spec.choose_spec.choose_spec hi
   have e: ∀ j,((⟨b,off,none⟩:Addr).add (i*3)).add j=⟨b,off+i*3+j,none⟩:=fun j=>by rw[add_eq,add_eq]
   exact ⟨(congrArg W.cell? (e 0).symm).trans k0,(congrArg W.cell? (e 1).symm).trans k1,(congrArg W.cell? (e 2).symm).trans k2,k3⟩
end Go.Proofs.YtkaamnnjeandlaaDoor.lawTornDone
