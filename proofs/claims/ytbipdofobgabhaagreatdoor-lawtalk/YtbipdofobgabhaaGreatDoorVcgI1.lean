/-
  errors.Is at two of the machine's sentinels: equal where they are the same one. Go's own text of errors.Is and errors.is, walked with the kit's lemmas on interfaces.
-/
import Derived.Test.YtbipdofobgabhaaGreatDoorVcgFacts
import Derived.WalkKit
import Derived.LaidEql
import Derived.Stop.Asserts
import Derived.RowKitTokens
import Derived.Test.YtbipdofobgabhaaGreatDoorVcgSk
set_option linter.unusedVariables false
set_option linter.unusedSimpArgs false
set_option maxRecDepth 100000
set_option linter.unusedSectionVars false
set_option maxHeartbeats 16000000
namespace Go.Proofs.YtbipdofobgabhaaGreatDoor
open Go.bA
variable [aG]
open Go.RowKit Go.Extern.Stop Go.Stop Go.Extern
theorem Tryz.BV (v:Value) (w:World):(Extern.ReflectliteType.typeOf #[.iface 181 v]).run Tryz.prog w= .ok (.iface 127 (.agg #[.pointer (some ⟨10,181,none⟩)])) w:=by kernel_rfl
def Rw (t:TypeId):Sem Value:=do Extern.Rtype.noPackHeld "Comparable" t;pure (.bool (← typeInfo t).comparable)
theorem Tryz.G1 (w:World):((Extern.ReflectliteType.method Rw) #[.agg #[.pointer (some ⟨10,181,none⟩)]]).run Tryz.prog w= .ok (.bool true) w:=by kernel_rfl
theorem Tryz.wu (v:Value) (w:World):(Go.method 317 127 v "Comparable").run Tryz.prog w= .ok (131,v) w:=by kernel_rfl
theorem Tryz.BW:(Tryz.prog.info? 181).map (·.comparable)=some true:=by kernel_rfl
theorem Tryz.BX:(Tryz.prog.info? 206).map (·.size)=some 1:=by kernel_rfl
theorem Tryz.UJ (v:Value) (xT:TypeId) (w:World):(Instr.typeAssert (.iface 181 v) xT 129 true).run Tryz.prog w= .ok (.tuple #[.nilIface, .bool false]) w:=run_typeAssert_lacksB Tryz.underlying129 (by kernel_rfl) (by kernel_rfl) v xT w
theorem Tryz.G2 (v:Value) (xT:TypeId) (w:World):(Instr.typeAssert (.iface 181 v) xT 132 true).run Tryz.prog w= .ok (.tuple #[.nilIface, .bool false]) w:=run_typeAssert_lacksB Tryz.underlying132 (by kernel_rfl) (by kernel_rfl) v xT w
theorem Tryz.Dj (v:Value) (xT:TypeId) (w:World):(Instr.typeAssert (.iface 181 v) xT 134 true).run Tryz.prog w= .ok (.tuple #[.nilIface, .bool false]) w:=run_typeAssert_lacksB Tryz.underlying134 (by kernel_rfl) (by kernel_rfl) v xT w
theorem aaA (a:Addr) (w:World):
  Calls Tryz.prog 26 #[.iface 181 (.pointer (some a)), .iface 181 (.pointer (some a))] w fun e w'=>e= .returned (.bool true)∧Kept w w':=by
 obtain ⟨i,hi,hcmp⟩:=Option.map_eq_some_iff.1 Tryz.BW
 obtain ⟨j,hj,hjs⟩:=Option.map_eq_some_iff.1 Tryz.BX
 have hTy:= @run_callFunc_extern Tryz.prog 50 _ Extern.ReflectliteType.typeOf Tryz.func50 (by kernel_rfl) (by kernel_rfl) (by kernel_rfl) (by kernel_rfl)
 have hCm:= @run_callFunc_extern Tryz.prog 131 _ (Extern.ReflectliteType.method Rw) Tryz.func131 (by kernel_rfl) (by kernel_rfl) (by kernel_rfl) (by kernel_rfl)
 have tT:=Tryz.BV
 have cT:=Tryz.G1
 have mR:=Tryz.wu
 have heq:=run_eql_iface_ptr_same (P:=Tryz.prog) w a Tryz.underlying50 Tryz.underlying181 hi hcmp hj
 go_enter Tryz.func26,Tryz.ntmps26
 go_wp2
 refine wp_loop_rounds 1 ?_
 rw[rounds_succ]
 go_wp2
 go_ret
 exact ⟨rfl,Frame.refl _ _⟩
theorem aaB (a b:Addr) (ca cb:Array Value) (ta tb:TypeId) (w:World) (hne:a≠b) (ha:w.heap[a.block]? =some (.cells ca ta (0,0))) (hb:w.heap[b.block]? =some (.cells cb tb (0,0))):
  Calls Tryz.prog 26 #[.iface 181 (.pointer (some a)), .iface 181 (.pointer (some b))] w fun e w'=>e= .returned (.bool false)∧Kept w w':=by
 obtain ⟨i,hi,hcmp⟩:=Option.map_eq_some_iff.1 Tryz.BW
 obtain ⟨j,hj,hjs⟩:=Option.map_eq_some_iff.1 Tryz.BX
 have hTy:= @run_callFunc_extern Tryz.prog 50 _ Extern.ReflectliteType.typeOf Tryz.func50 (by kernel_rfl) (by kernel_rfl) (by kernel_rfl) (by kernel_rfl)
 have hCm:= @run_callFunc_extern Tryz.prog 131 _ (Extern.ReflectliteType.method Rw) Tryz.func131 (by kernel_rfl) (by kernel_rfl) (by kernel_rfl) (by kernel_rfl)
 have tT:=Tryz.BV
 have cT:=Tryz.G1
 have mR:=Tryz.wu
 have nE:=Tryz.UJ
 have uE:=Tryz.G2
 have vE:=Tryz.Dj
 have heq:=run_eql_iface_ptr_other (P:=Tryz.prog) w Tryz.underlying50 Tryz.underlying181 hi hcmp hj (by rw[hjs];decide) hne ha hb
 go_enter Tryz.func26,Tryz.ntmps26
 go_wp2
 refine wp_loop_rounds 1 ?_
 rw[rounds_succ]
 go_wp2
 go_ret
 exact ⟨rfl,Frame.refl _ _⟩
theorem JT {i:Nat} (h:i < 9): ∃ k,yV (aG.place i).block=some k:=by
 unfold yV
 rcases hf:(List.range 9).find? (fun k=>(aG.place k).block==(aG.place i).block) with _ | k
 ·have:=List.find?_eq_none.1 hf i (List.mem_range.2 h)
  simp at this
 ·exact ⟨k,rfl⟩
theorem y6 {i:Nat} (h:i < 9): ∃ c t,Tables.TL Tryz.prog (aG.place i).block=some (.cells c t (0,0)):=by
 obtain ⟨k,hk⟩:=JT h
 refine ⟨aG.cells k,aG.ty k, ?_⟩
 show rC _=_
 unfold rC
 rw[hk]
theorem JU (i:Nat):AV.plain (V (fA i))=true:=rfl
theorem nU {i j:Nat} (hi:i < 9) (hj:j < 9):cO Tryz.prog 26 [V (fA i),V (fA j)] (B (i==j)):=by
 refine ⟨by simp[JU],fun r h=>by subst h;rfl,fun w hL=> ?_⟩
 by_cases h:i=j
 ·subst h
  refine (aaA (aG.place i) w).mono ?_
  rintro e w' ⟨rfl,hk⟩
  exact ⟨_,rfl,by rw[beq_self_eq_true];rfl,hk⟩
 ·obtain ⟨c1,t1,h1⟩:=y6 hi
  obtain ⟨c2,t2,h2⟩:=y6 hj
  refine (aaB (aG.place i) (aG.place j) _ _ _ _ w (fun e=>h (aG.inj i j hi hj e)) (hL.Xi _ _ h1) (hL.Xi _ _ h2)).mono ?_
  rintro e w' ⟨rfl,hk⟩
  exact ⟨_,rfl,by rw[beq_eq_false_iff_ne.2 h];rfl,hk⟩
theorem G3 {n:Nat} {f:Nat→En} {u v:SV} {cs ds:List SV} (h0:aO 0 u n f cs) (h1:aO 1 v n f ds) (hp:cs.all SV.plain=true) (hq:ds.all SV.plain=true) (hn:n < 4611686018427387904):
  bz Tryz.prog 18 [.inl (.inl u), .inl (.inl v)] 2 (lk [(0,⟨false,cs⟩),(1,⟨false,ds⟩)]) (fun v out=>v=B true∧out=fun _=>none):=by
 refine aA Tryz.func18 rfl (by kernel_rfl) (by simp[Tryz.ntmps18]) Tryz.rG (fun x hx=>by
  simp only[List.mem_cons,List.not_mem_nil,or_false]at hx
  rcases hx with rfl | rfl
  ·exact (h0.ok (by decide)).1
  ·exact (h1.ok (by decide)).1) lg (oU hp hq) ?_
 have zV: ∀ {M:Nat→Prop},(∀ x ∈ cs,SV.ok M x)=True:=eq_true (aD hp)
 have Zh: ∀ {M:Nat→Prop},(∀ x ∈ ds,SV.ok M x)=True:=eq_true (aD hq)
 have oku:AV.ok (fun k=>k < 2) (.inl (.inl u))=True:=eq_true (h0.ok (by decide)).1
 have okv:AV.ok (fun k=>k < 2) (.inl (.inl v))=True:=eq_true (h1.ok (by decide)).1
 simp only[Tryz.results18,h0.len,h1.len,bne_self_eq_false,vR,seval, -List.reduceReplicate]
 refine aQ n (fun k=>[(0, .inl (.inl u)),(1, .inl (.inl v)),(12,I .i64 n),(13,I .i64 k)])
  (fun k=>[(0,⟨false,cs⟩),(1,⟨false,ds⟩)]) _ ?_ ?_ ?_
 ·simp only[zV,Zh,vR,seval, -List.reduceReplicate]
  exact ⟨(h0.ok (by decide)).1,(h1.ok (by decide)).1⟩
 ·intro j hj
  rcases h0 with ⟨_,rfl⟩ | ⟨o,c,rfl,_,hs⟩
  ·omega
  rcases h1 with ⟨_,rfl⟩ | ⟨o',c',rfl,_,hs'⟩
  ·omega
  have b1:=hs.lt hj
  have b2:=hs'.lt hj
  simp only[vR,seval, -List.reduceReplicate]
  refine aK (by simp;omega) ?_
  simp only[cC,fH hj,hs j hj,hs' j hj,b1,b2,XM,dX j (by omega),vR,seval, -List.reduceReplicate]
  refine ⟨by kernel_rfl, ?_⟩
  simp only[Bool.not_true,dX j (by omega),vR,seval, -List.reduceReplicate]
  exact ⟨aD hp,aD hq⟩
 ·simp only[vR,seval, -List.reduceReplicate]
  refine aZ (by simp) ?_
  simp only[vR,seval, -List.reduceReplicate]
  exact ao rfl ⟨rfl,rfl⟩
theorem y7 {s:AS} {nm t u n:Nat} {f:Nat→En} {v w:SV} {cs ds:List SV} {ra rb:Bool} (hb:s.box t=some ⟨ra,cs⟩) (hp:cs.all SV.plain=true) (hb':s.box u=some ⟨rb,ds⟩) (hq:ds.all SV.plain=true)
  (h0:aO t v n f cs) (h1:aO u w n f ds) (hn:n < 4611686018427387904) {dst:Option Nat} {K:AS→Prop} (hk:K (s.put dst (some (B true)))):
  aB Tryz.prog nm 18 (some [.inl (.inl v), .inl (.inl w)]) dst K s:=by
 obtain ⟨v0,g0,e0⟩:=h0.name (k:=0)
 obtain ⟨w0,g1,e1⟩:=h1.name (k:=1)
 refine (G3 g0 g1 hp hq hn).dP (two t u) (ik hb hp hb' hq) rfl ?_ hk
 simp only[List.map_cons,List.map_nil,AV.ren,CV.ren,e0 (two t u) rfl,e1 (two t u) rfl]
theorem G4 {x:St} {n:Nat} {f:Nat→En} {u v:SV} {cs ds:List SV} (h0:aO 0 u n f cs) (h1:aO 1 v n f ds) (hp:cs.all SV.plain=true) (hq:ds.all SV.plain=true) (hn:n < 4611686018427387904):
  bz Tryz.prog 7 [Ag (aU { x with store:=u }),Ag (aU { x with store:=v })] 2 (lk [(0,⟨false,cs⟩),(1,⟨false,ds⟩)]) (fun v out=>v=B true∧out=fun _=>none):=by
 refine aA Tryz.func7 rfl (by kernel_rfl) (by simp[Tryz.ntmps7]) Tryz.uP (fun y hy=>by
  simp only[List.mem_cons,List.not_mem_nil,or_false]at hy
  rcases hy with rfl | rfl
  ·exact bR (h0.ok (by decide))
  ·exact bR (h1.ok (by decide))) lg (oU hp hq) ?_
 simp only[Tryz.results7,ak,vR,seval, -List.reduceReplicate]
 refine y7 (n:=n) (f:=f) (t:=0) (u:=1) (ra:=false) (rb:=false) (by simp only[ae,vR,seval, -List.reduceReplicate]) hp (by simp only[ae,vR,seval, -List.reduceReplicate]) hq h0 h1 hn ?_
 simp only[Bool.not_true,bne_self_eq_false,beq_self_eq_true,yD,ak,vR,seval, -List.reduceReplicate]
 exact ao rfl ⟨rfl,rfl⟩
theorem G5:cO Tryz.prog 18 [V (.slice none 0 0),V (.slice none 0 0)] (B true):=by
 refine bf Tryz.func18 rfl (by kernel_rfl) (by simp[Tryz.ntmps18]) rfl rfl ?_
 simp only[Tryz.results18,vS,Rq,seval, -List.reduceReplicate]
 try simp only[bne_self_eq_false,vR,seval, -List.reduceReplicate]
 refine aQ 0 (fun k=>[(12,I .i64 0),(13,I .i64 k)]) (fun k=>[]) _ ?_ ?_ ?_
 ·simp only[vR,seval, -List.reduceReplicate]
 ·intro j hj;omega
 ·simp only[vR,seval, -List.reduceReplicate]
  refine aZ (by simp) ?_
  simp only[vR,seval, -List.reduceReplicate]
theorem G6 {x:St}:cO Tryz.prog 7 [Ag (aU { x with store:= .inl (.slice none 0 0) }),Ag (aU { x with store:= .inl (.slice none 0 0) })] (B true):=by
 refine bf Tryz.func7 rfl (by kernel_rfl) (by simp[Tryz.ntmps7]) (by simp only[List.all_cons,oY (s:={ x with store:= .inl (.slice none 0 0) }) rfl,List.all_nil,Bool.and_true]) rfl ?_
 simp only[Tryz.results7,ak,vR,seval, -List.reduceReplicate]
 refine G5.aB ?_
 simp only[Bool.not_true,bne_self_eq_false,beq_self_eq_true,yD,ak,vR,seval, -List.reduceReplicate]
theorem Rx {s:St} {n:Nat} {f:Nat→En} {cs:List SV} (h0:aO 0 s.store n f cs) (hp:cs.all SV.plain=true):
  bz Tryz.prog 45 [Ag (aU s)] 1 (lk [(0,⟨false,cs⟩)]) (fun v out=>v=B (iF s n)∧out=fun _=>none):=by
 refine aA Tryz.func45 rfl (by kernel_rfl) (by simp[Tryz.ntmps45]) Tryz.rR (fun y hy=>by
  obtain rfl:=List.mem_singleton.1 hy
  exact bR (h0.ok (by decide))) eH (eL hp) ?_
 have hl:=h0.len
 rcases Bool.eq_false_or_eq_true (decide (0≤s.skip)) with h0 | h0
 ·rcases Bool.eq_false_or_eq_true (decide (s.skip≤1000)) with h1 | h1
  ·rcases Bool.eq_false_or_eq_true (decide (0≤s.room)) with h2 | h2
   ·rcases Bool.eq_false_or_eq_true (decide (s.room≤1000)) with h3 | h3
    ·rcases Bool.eq_false_or_eq_true (decide ((n:Int)≤s.room)) with h4 | h4
     ·(have e:iF s n=true:=(by simp[iF,h0,h1,h2,h3,h4]);rw[e];simp only[Tryz.results45,h0,h1,h2,h3,h4,Bool.not_true,Bool.not_false,bne,bE,bF,aR,aH,ak,hl,vR,seval, -List.reduceReplicate];exact ao rfl ⟨rfl,rfl⟩)
     ·(have e:iF s n=false:=(by simp[iF,h0,h1,h2,h3,h4]);rw[e];simp only[Tryz.results45,h0,h1,h2,h3,h4,Bool.not_true,Bool.not_false,bne,bE,bF,aR,aH,ak,hl,vR,seval, -List.reduceReplicate];exact ao rfl ⟨rfl,rfl⟩)
    ·(have e:iF s n=false:=(by simp[iF,h0,h1,h2,h3]);rw[e];simp only[Tryz.results45,h0,h1,h2,h3,Bool.not_true,Bool.not_false,bne,bE,bF,aR,aH,ak,hl,vR,seval, -List.reduceReplicate];exact ao rfl ⟨rfl,rfl⟩)
   ·(have e:iF s n=false:=(by simp[iF,h0,h1,h2]);rw[e];simp only[Tryz.results45,h0,h1,h2,Bool.not_true,Bool.not_false,bne,bE,bF,aR,aH,ak,hl,vR,seval, -List.reduceReplicate];exact ao rfl ⟨rfl,rfl⟩)
  ·(have e:iF s n=false:=(by simp[iF,h0,h1]);rw[e];simp only[Tryz.results45,h0,h1,Bool.not_true,Bool.not_false,bne,bE,bF,aR,aH,ak,hl,vR,seval, -List.reduceReplicate];exact ao rfl ⟨rfl,rfl⟩)
 ·(have e:iF s n=false:=(by simp[iF,h0]);rw[e];simp only[Tryz.results45,h0,Bool.not_true,Bool.not_false,bne,bE,bF,aR,aH,ak,hl,vR,seval, -List.reduceReplicate];exact ao rfl ⟨rfl,rfl⟩)
theorem Ry {s:St} {n:Nat} {f:Nat→En} {cs:List SV} (h0:aO 0 s.store n f cs) (hp:cs.all SV.plain=true):
  bz Tryz.prog 46 [Ag (aU s)] 1 (lk [(0,⟨false,cs⟩)]) (fun v out=>v=B (fJ s)∧out=fun _=>none):=by
 refine aA Tryz.func46 rfl (by kernel_rfl) (by simp[Tryz.ntmps46]) Tryz.rS (fun y hy=>by
  obtain rfl:=List.mem_singleton.1 hy
  exact bR (h0.ok (by decide))) eH (eL hp) ?_
 have hl:=h0.len
 rcases Bool.eq_false_or_eq_true (s.own) with h0 | h0
 ·rcases Bool.eq_false_or_eq_true (s.peer) with h1 | h1
  ·rcases Bool.eq_false_or_eq_true (s.has) with h2 | h2
   ·(have e:fJ s=true:=(by simp[fJ,h0,h1,h2]);rw[e];simp only[Tryz.results46,h0,h1,h2,Bool.not_true,Bool.not_false,bne,bE,bF,aR,aH,ak,hl,vR,seval, -List.reduceReplicate];exact ao rfl ⟨rfl,rfl⟩)
   ·rcases Bool.eq_false_or_eq_true (tH s.send) with h3 | h3
    ·(have e:fJ s=true:=(by simp[fJ,h0,h1,h2,h3]);rw[e];simp only[Tryz.results46,h0,h1,h2,h3,Bool.not_true,Bool.not_false,bne,bE,bF,aR,aH,ak,hl,vR,seval, -List.reduceReplicate];exact ao rfl ⟨rfl,rfl⟩)
    ·(have e:fJ s=false:=(by simp[fJ,h0,h1,h2,h3]);rw[e];simp only[Tryz.results46,h0,h1,h2,h3,Bool.not_true,Bool.not_false,bne,bE,bF,aR,aH,ak,hl,vR,seval, -List.reduceReplicate];exact ao rfl ⟨rfl,rfl⟩)
  ·rcases Bool.eq_false_or_eq_true (tH s.rq) with h2 | h2
   ·rcases Bool.eq_false_or_eq_true (s.has) with h3 | h3
    ·(have e:fJ s=true:=(by simp[fJ,h0,h1,h2,h3]);rw[e];simp only[Tryz.results46,h0,h1,h2,h3,Bool.not_true,Bool.not_false,bne,bE,bF,aR,aH,ak,hl,vR,seval, -List.reduceReplicate];exact ao rfl ⟨rfl,rfl⟩)
    ·rcases Bool.eq_false_or_eq_true (tH s.send) with h4 | h4
     ·(have e:fJ s=true:=(by simp[fJ,h0,h1,h2,h3,h4]);rw[e];simp only[Tryz.results46,h0,h1,h2,h3,h4,Bool.not_true,Bool.not_false,bne,bE,bF,aR,aH,ak,hl,vR,seval, -List.reduceReplicate];exact ao rfl ⟨rfl,rfl⟩)
     ·(have e:fJ s=false:=(by simp[fJ,h0,h1,h2,h3,h4]);rw[e];simp only[Tryz.results46,h0,h1,h2,h3,h4,Bool.not_true,Bool.not_false,bne,bE,bF,aR,aH,ak,hl,vR,seval, -List.reduceReplicate];exact ao rfl ⟨rfl,rfl⟩)
   ·(have e:fJ s=false:=(by simp[fJ,h0,h1,h2]);rw[e];simp only[Tryz.results46,h0,h1,h2,Bool.not_true,Bool.not_false,bne,bE,bF,aR,aH,ak,hl,vR,seval, -List.reduceReplicate];exact ao rfl ⟨rfl,rfl⟩)
 ·rcases Bool.eq_false_or_eq_true (tH s.priv) with h1 | h1
  ·rcases Bool.eq_false_or_eq_true (tH s.aF) with h2 | h2
   ·rcases Bool.eq_false_or_eq_true (s.peer) with h3 | h3
    ·rcases Bool.eq_false_or_eq_true (s.has) with h4 | h4
     ·(have e:fJ s=true:=(by simp[fJ,h0,h1,h2,h3,h4]);rw[e];simp only[Tryz.results46,h0,h1,h2,h3,h4,Bool.not_true,Bool.not_false,bne,bE,bF,aR,aH,ak,hl,vR,seval, -List.reduceReplicate];exact ao rfl ⟨rfl,rfl⟩)
     ·rcases Bool.eq_false_or_eq_true (tH s.send) with h5 | h5
      ·(have e:fJ s=true:=(by simp[fJ,h0,h1,h2,h3,h4,h5]);rw[e];simp only[Tryz.results46,h0,h1,h2,h3,h4,h5,Bool.not_true,Bool.not_false,bne,bE,bF,aR,aH,ak,hl,vR,seval, -List.reduceReplicate];exact ao rfl ⟨rfl,rfl⟩)
      ·(have e:fJ s=false:=(by simp[fJ,h0,h1,h2,h3,h4,h5]);rw[e];simp only[Tryz.results46,h0,h1,h2,h3,h4,h5,Bool.not_true,Bool.not_false,bne,bE,bF,aR,aH,ak,hl,vR,seval, -List.reduceReplicate];exact ao rfl ⟨rfl,rfl⟩)
    ·rcases Bool.eq_false_or_eq_true (tH s.rq) with h4 | h4
     ·rcases Bool.eq_false_or_eq_true (s.has) with h5 | h5
      ·(have e:fJ s=true:=(by simp[fJ,h0,h1,h2,h3,h4,h5]);rw[e];simp only[Tryz.results46,h0,h1,h2,h3,h4,h5,Bool.not_true,Bool.not_false,bne,bE,bF,aR,aH,ak,hl,vR,seval, -List.reduceReplicate];exact ao rfl ⟨rfl,rfl⟩)
      ·rcases Bool.eq_false_or_eq_true (tH s.send) with h6 | h6
       ·(have e:fJ s=true:=(by simp[fJ,h0,h1,h2,h3,h4,h5,h6]);rw[e];simp only[Tryz.results46,h0,h1,h2,h3,h4,h5,h6,Bool.not_true,Bool.not_false,bne,bE,bF,aR,aH,ak,hl,vR,seval, -List.reduceReplicate];exact ao rfl ⟨rfl,rfl⟩)
       ·(have e:fJ s=false:=(by simp[fJ,h0,h1,h2,h3,h4,h5,h6]);rw[e];simp only[Tryz.results46,h0,h1,h2,h3,h4,h5,h6,Bool.not_true,Bool.not_false,bne,bE,bF,aR,aH,ak,hl,vR,seval, -List.reduceReplicate];exact ao rfl ⟨rfl,rfl⟩)
     ·(have e:fJ s=false:=(by simp[fJ,h0,h1,h2,h3,h4]);rw[e];simp only[Tryz.results46,h0,h1,h2,h3,h4,Bool.not_true,Bool.not_false,bne,bE,bF,aR,aH,ak,hl,vR,seval, -List.reduceReplicate];exact ao rfl ⟨rfl,rfl⟩)
   ·(have e:fJ s=false:=(by simp[fJ,h0,h1,h2]);rw[e];simp only[Tryz.results46,h0,h1,h2,Bool.not_true,Bool.not_false,bne,bE,bF,aR,aH,ak,hl,vR,seval, -List.reduceReplicate];exact ao rfl ⟨rfl,rfl⟩)
  ·(have e:fJ s=false:=(by simp[fJ,h0,h1]);rw[e];simp only[Tryz.results46,h0,h1,Bool.not_true,Bool.not_false,bne,bE,bF,aR,aH,ak,hl,vR,seval, -List.reduceReplicate];exact ao rfl ⟨rfl,rfl⟩)
theorem Ot {s:St} {n:Nat} {f:Nat→En} {cs:List SV} (h0:aO 0 s.store n f cs) (hp:cs.all SV.plain=true):
  bz Tryz.prog 47 [Ag (aU s)] 1 (lk [(0,⟨false,cs⟩)]) (fun v out=>v=B (im s)∧out=fun _=>none):=by
 refine aA Tryz.func47 rfl (by kernel_rfl) (by simp[Tryz.ntmps47]) Tryz.rT (fun y hy=>by
  obtain rfl:=List.mem_singleton.1 hy
  exact bR (h0.ok (by decide))) eH (eL hp) ?_
 have hl:=h0.len
 rcases Bool.eq_false_or_eq_true (s.re==0) with h0 | h0
 ·rcases Bool.eq_false_or_eq_true (tH s.recv) with h1 | h1
  ·rcases Bool.eq_false_or_eq_true (s.nr==0) with h2 | h2
   ·rcases Bool.eq_false_or_eq_true (decide (0 < s.se)) with h3 | h3
    ·(have e:im s=true:=(by simp[im,h0,h1,h2,h3]);rw[e];simp only[Tryz.results47,h0,h1,h2,h3,Bool.not_true,Bool.not_false,bne,bE,bF,aR,aH,ak,hl,vR,seval, -List.reduceReplicate];exact ao rfl ⟨rfl,rfl⟩)
    ·rcases Bool.eq_false_or_eq_true (s.has) with h4 | h4
     ·(have e:im s=false:=(by simp[im,h0,h1,h2,h3,h4]);rw[e];simp only[Tryz.results47,h0,h1,h2,h3,h4,Bool.not_true,Bool.not_false,bne,bE,bF,aR,aH,ak,hl,vR,seval, -List.reduceReplicate];exact ao rfl ⟨rfl,rfl⟩)
     ·rcases Bool.eq_false_or_eq_true (s.ns==0) with h5 | h5
      ·rcases Bool.eq_false_or_eq_true (s.pn==0) with h6 | h6
       ·(have e:im s=true:=(by simp[im,h0,h1,h2,h3,h4,h5,h6]);rw[e];simp only[Tryz.results47,h0,h1,h2,h3,h4,h5,h6,Bool.not_true,Bool.not_false,bne,bE,bF,aR,aH,ak,hl,vR,seval, -List.reduceReplicate];exact ao rfl ⟨rfl,rfl⟩)
       ·(have e:im s=false:=(by simp[im,h0,h1,h2,h3,h4,h5,h6]);rw[e];simp only[Tryz.results47,h0,h1,h2,h3,h4,h5,h6,Bool.not_true,Bool.not_false,bne,bE,bF,aR,aH,ak,hl,vR,seval, -List.reduceReplicate];exact ao rfl ⟨rfl,rfl⟩)
      ·(have e:im s=false:=(by simp[im,h0,h1,h2,h3,h4,h5]);rw[e];simp only[Tryz.results47,h0,h1,h2,h3,h4,h5,Bool.not_true,Bool.not_false,bne,bE,bF,aR,aH,ak,hl,vR,seval, -List.reduceReplicate];exact ao rfl ⟨rfl,rfl⟩)
   ·(have e:im s=false:=(by simp[im,h0,h1,h2]);rw[e];simp only[Tryz.results47,h0,h1,h2,Bool.not_true,Bool.not_false,bne,bE,bF,aR,aH,ak,hl,vR,seval, -List.reduceReplicate];exact ao rfl ⟨rfl,rfl⟩)
  ·(have e:im s=false:=(by simp[im,h0,h1]);rw[e];simp only[Tryz.results47,h0,h1,Bool.not_true,Bool.not_false,bne,bE,bF,aR,aH,ak,hl,vR,seval, -List.reduceReplicate];exact ao rfl ⟨rfl,rfl⟩)
 ·rcases Bool.eq_false_or_eq_true (decide (0 < s.se)) with h1 | h1
  ·(have e:im s=true:=(by simp[im,h0,h1]);rw[e];simp only[Tryz.results47,h0,h1,Bool.not_true,Bool.not_false,bne,bE,bF,aR,aH,ak,hl,vR,seval, -List.reduceReplicate];exact ao rfl ⟨rfl,rfl⟩)
  ·rcases Bool.eq_false_or_eq_true (s.has) with h2 | h2
   ·(have e:im s=false:=(by simp[im,h0,h1,h2]);rw[e];simp only[Tryz.results47,h0,h1,h2,Bool.not_true,Bool.not_false,bne,bE,bF,aR,aH,ak,hl,vR,seval, -List.reduceReplicate];exact ao rfl ⟨rfl,rfl⟩)
   ·rcases Bool.eq_false_or_eq_true (s.ns==0) with h3 | h3
    ·rcases Bool.eq_false_or_eq_true (s.pn==0) with h4 | h4
     ·(have e:im s=true:=(by simp[im,h0,h1,h2,h3,h4]);rw[e];simp only[Tryz.results47,h0,h1,h2,h3,h4,Bool.not_true,Bool.not_false,bne,bE,bF,aR,aH,ak,hl,vR,seval, -List.reduceReplicate];exact ao rfl ⟨rfl,rfl⟩)
     ·(have e:im s=false:=(by simp[im,h0,h1,h2,h3,h4]);rw[e];simp only[Tryz.results47,h0,h1,h2,h3,h4,Bool.not_true,Bool.not_false,bne,bE,bF,aR,aH,ak,hl,vR,seval, -List.reduceReplicate];exact ao rfl ⟨rfl,rfl⟩)
    ·(have e:im s=false:=(by simp[im,h0,h1,h2,h3]);rw[e];simp only[Tryz.results47,h0,h1,h2,h3,Bool.not_true,Bool.not_false,bne,bE,bF,aR,aH,ak,hl,vR,seval, -List.reduceReplicate];exact ao rfl ⟨rfl,rfl⟩)
theorem Rz {s:St} {n:Nat} {f:Nat→En} {cs:List SV} (h0:aO 0 s.store n f cs) (hp:cs.all SV.plain=true):
  bz Tryz.prog 48 [Ag (aU s)] 1 (lk [(0,⟨false,cs⟩)]) (fun v out=>v=B (C4 s)∧out=fun _=>none):=by
 refine aA Tryz.func48 rfl (by kernel_rfl) (by simp[Tryz.ntmps48]) Tryz.rU (fun y hy=>by
  obtain rfl:=List.mem_singleton.1 hy
  exact bR (h0.ok (by decide))) eH (eL hp) ?_
 have hl:=h0.len
 rcases Bool.eq_false_or_eq_true (decide (0 < s.se)) with h0 | h0
 ·rcases Bool.eq_false_or_eq_true (s.own) with h1 | h1
  ·rcases Bool.eq_false_or_eq_true (s.peer) with h2 | h2
   ·(have e:C4 s=true:=(by simp[C4,h0,h1,h2]);rw[e];simp only[Tryz.results48,h0,h1,h2,Bool.not_true,Bool.not_false,bne,bE,bF,aR,aH,ak,hl,vR,seval, -List.reduceReplicate];exact ao rfl ⟨rfl,rfl⟩)
   ·(have e:C4 s=false:=(by simp[C4,h0,h1,h2]);rw[e];simp only[Tryz.results48,h0,h1,h2,Bool.not_true,Bool.not_false,bne,bE,bF,aR,aH,ak,hl,vR,seval, -List.reduceReplicate];exact ao rfl ⟨rfl,rfl⟩)
  ·(have e:C4 s=false:=(by simp[C4,h0,h1]);rw[e];simp only[Tryz.results48,h0,h1,Bool.not_true,Bool.not_false,bne,bE,bF,aR,aH,ak,hl,vR,seval, -List.reduceReplicate];exact ao rfl ⟨rfl,rfl⟩)
 ·rcases Bool.eq_false_or_eq_true (decide (0 < s.re)) with h1 | h1
  ·rcases Bool.eq_false_or_eq_true (s.own) with h2 | h2
   ·rcases Bool.eq_false_or_eq_true (s.peer) with h3 | h3
    ·(have e:C4 s=true:=(by simp[C4,h0,h1,h2,h3]);rw[e];simp only[Tryz.results48,h0,h1,h2,h3,Bool.not_true,Bool.not_false,bne,bE,bF,aR,aH,ak,hl,vR,seval, -List.reduceReplicate];exact ao rfl ⟨rfl,rfl⟩)
    ·(have e:C4 s=false:=(by simp[C4,h0,h1,h2,h3]);rw[e];simp only[Tryz.results48,h0,h1,h2,h3,Bool.not_true,Bool.not_false,bne,bE,bF,aR,aH,ak,hl,vR,seval, -List.reduceReplicate];exact ao rfl ⟨rfl,rfl⟩)
   ·(have e:C4 s=false:=(by simp[C4,h0,h1,h2]);rw[e];simp only[Tryz.results48,h0,h1,h2,Bool.not_true,Bool.not_false,bne,bE,bF,aR,aH,ak,hl,vR,seval, -List.reduceReplicate];exact ao rfl ⟨rfl,rfl⟩)
  ·(have e:C4 s=true:=(by simp[C4,h0,h1]);rw[e];simp only[Tryz.results48,h0,h1,Bool.not_true,Bool.not_false,bne,bE,bF,aR,aH,ak,hl,vR,seval, -List.reduceReplicate];exact ao rfl ⟨rfl,rfl⟩)
theorem Wu {M:Nat→Prop} {e:En}:AV.ok M (Ag (je e)):=fun x hx=>SV.aM (List.all_eq_true.1 jL x hx)
theorem tQ {s:St} {e:En} (hs:fy s) (he:ku e):wQ s e=true↔1≤e.ep∧(e.ep < s.re∨e.ep=s.re∧e.n < s.nr):=by
 have w1:=he.ep;have w2:=he.n;have w3:=hs.re;have w4:=hs.nr
 simp only[kU]at w1 w2 w3 w4
 simp only[wQ,Bool.and_eq_true,Bool.not_eq_true',beq_eq_false_iff_ne,decide_eq_true_eq]
 unfold Py
 constructor
 ·intro h;have:=h.1;have:=h.2;omega
 ·intro h;exact ⟨by omega,by omega⟩
theorem RA {s:St} {e:En} {n:Nat} {f:Nat→En} {cs:List SV} (h0:aO 0 s.store n f cs) (hp:cs.all SV.plain=true) (hs:fy s) (he:ku e):
  bz Tryz.prog 72 [Ag (aU s),Ag (je e)] 1 (lk [(0,⟨false,cs⟩)]) (fun v out=>v=B (wQ s e)∧out=fun _=>none):=by
 refine aA Tryz.func72 rfl (by kernel_rfl) (by simp[Tryz.ntmps72]) Tryz.JJ (fun y hy=>by
  rcases List.mem_cons.1 hy with rfl | hy
  ·exact bR (h0.ok (by decide))
  ·obtain rfl:=List.mem_singleton.1 hy
   exact Wu) eH (eL hp) ?_
 have w1:=he.ep;have w2:=he.n;have w3:=hs.re;have w4:=hs.nr
 simp only[kU]at w1 w2 w3 w4
 rcases Bool.eq_false_or_eq_true (decide (e.ep < 1)) with h0 | h0
 ·(have gh0:(e.ep < 1):=(by simpa using h0);have e:wQ s e=false:=(Bool.eq_false_iff.2 fun hh=>by have:=(tQ hs he).1 hh;omega);rw[e];simp only[Tryz.results72,h0,bO,ak,vR,seval, -List.reduceReplicate];exact ao rfl ⟨rfl,rfl⟩)
 ·rcases Bool.eq_false_or_eq_true (decide (s.re < e.ep)) with h1 | h1
  ·(have gh0: ¬ (e.ep < 1):=(by simpa using h0);have gh1:(s.re < e.ep):=(by simpa using h1);have e:wQ s e=false:=(Bool.eq_false_iff.2 fun hh=>by have:=(tQ hs he).1 hh;omega);rw[e];simp only[Tryz.results72,h0,h1,bO,ak,vR,seval, -List.reduceReplicate];exact ao rfl ⟨rfl,rfl⟩)
  ·rcases Bool.eq_false_or_eq_true (decide (e.ep < s.re)) with h2 | h2
   ·(have gh0: ¬ (e.ep < 1):=(by simpa using h0);have gh1: ¬ (s.re < e.ep):=(by simpa using h1);have gh2:(e.ep < s.re):=(by simpa using h2);have e:wQ s e=true:=((tQ hs he).2 (by omega));rw[e];simp only[Tryz.results72,h0,h1,h2,bO,ak,vR,seval, -List.reduceReplicate];exact ao rfl ⟨rfl,rfl⟩)
   ·rcases Bool.eq_false_or_eq_true (decide (e.n < s.nr)) with h3 | h3
    ·(have gh0: ¬ (e.ep < 1):=(by simpa using h0);have gh1: ¬ (s.re < e.ep):=(by simpa using h1);have gh2: ¬ (e.ep < s.re):=(by simpa using h2);have gh3:(e.n < s.nr):=(by simpa using h3);have e:wQ s e=true:=((tQ hs he).2 (by omega));rw[e];simp only[Tryz.results72,h0,h1,h2,h3,bO,ak,vR,seval, -List.reduceReplicate];exact ao rfl ⟨rfl,rfl⟩)
    ·(have gh0: ¬ (e.ep < 1):=(by simpa using h0);have gh1: ¬ (s.re < e.ep):=(by simpa using h1);have gh2: ¬ (e.ep < s.re):=(by simpa using h2);have gh3: ¬ (e.n < s.nr):=(by simpa using h3);have e:wQ s e=false:=(Bool.eq_false_iff.2 fun hh=>by have:=(tQ hs he).1 hh;omega);rw[e];simp only[Tryz.results72,h0,h1,h2,h3,bO,ak,vR,seval, -List.reduceReplicate];exact ao rfl ⟨rfl,rfl⟩)
def po (x y:Int):Int:=if x < y then -1 else if y < x then 1 else 0
def PD (a b:Int):Int:=if a=0 then b else a
theorem BZ (x:Int):cO Tryz.prog 100 [I .u32 x] (B false):=by
 refine bf Tryz.func100 rfl (by kernel_rfl) (by simp[Tryz.ntmps100]) rfl rfl ?_
 simp only[Tryz.results100,vS,seval, -List.reduceReplicate]
 simp
theorem wv (x y:Int):cO Tryz.prog 89 [I .u32 x,I .u32 y] (I .i64 (po x y)):=by
 refine bf Tryz.func89 rfl (by kernel_rfl) (by simp[Tryz.ntmps89]) rfl rfl ?_
 simp only[Tryz.results89,vS,seval, -List.reduceReplicate]
 refine (BZ x).aB ?_
 simp only[vR,seval, -List.reduceReplicate]
 refine (BZ y).aB ?_
 simp only[vR,seval, -List.reduceReplicate]
 by_cases h1:x < y
 ·simp only[po,h1,decide_true,vR,seval, -List.reduceReplicate]
 ·by_cases h2:y < x
  ·simp only[po,h1,h2,decide_true,decide_false,vR,seval, -List.reduceReplicate]
  ·simp only[po,h1,h2,decide_true,decide_false,vR,seval, -List.reduceReplicate]
theorem acY (a b:Int):bz Tryz.prog 88 [Sl 0 0 2 2] 1 (lk [(0,⟨false,[Sum.inl (.int .i64 a),Sum.inl (.int .i64 b)]⟩)]) (fun v out=>v=I .i64 (PD a b)∧out=fun _=>none):=by
 refine aA Tryz.func88 rfl (by kernel_rfl) (by simp[Tryz.ntmps88]) Tryz.JN (by simp[AV.ok,CV.ok,SV.names]) eH (eL rfl) ?_
 simp only[Tryz.results88,vR,seval, -List.reduceReplicate]
 have w0:IntKind.i64.wrap 1=1:=by decide
 have w1:IntKind.i64.wrap 2=2:=by decide
 by_cases ha:a=0
 ·have da:(a != 0)=false:=by simp[ha]
  by_cases hb:b=0
  ·have db:(b != 0)=false:=by simp[hb]
   refine aQ 2 (fun k=>[(3,I .i64 0),(6,Sl 0 0 2 2),(7,I .i64 2),(8,I .i64 k)]) (fun k=>[(0,⟨false,[Sum.inl (.int .i64 a),Sum.inl (.int .i64 b)]⟩)]) _ ?_ ?_ ?_
   ·simp only[vR,seval, -List.reduceReplicate]
   ·intro j hj
    have:j=0∨j=1:=by omega
    rcases this with rfl | rfl
    ·simp only[vR,seval, -List.reduceReplicate]
     refine aK rfl ?_
     simp only[da,w0,vR,seval, -List.reduceReplicate]
    ·simp only[vR,seval, -List.reduceReplicate]
     refine aK rfl ?_
     simp only[db,w1,vR,seval, -List.reduceReplicate]
   ·simp only[vR,seval, -List.reduceReplicate]
    refine aZ rfl ?_
    have e:PD a b=0:=by simp[PD,ha,hb]
    simp only[e,vR,seval, -List.reduceReplicate]
    exact ao rfl ⟨rfl,rfl⟩
  ·have db:(b != 0)=true:=by simp[hb]
   refine aQ 1 (fun k=>[(3,I .i64 0),(6,Sl 0 0 2 2),(7,I .i64 2),(8,I .i64 k)]) (fun k=>[(0,⟨false,[Sum.inl (.int .i64 a),Sum.inl (.int .i64 b)]⟩)]) _ ?_ ?_ ?_
   ·simp only[vR,seval, -List.reduceReplicate]
   ·intro j hj
    obtain rfl:j=0:=by omega
    simp only[vR,seval, -List.reduceReplicate]
    refine aK rfl ?_
    simp only[da,w0,vR,seval, -List.reduceReplicate]
   ·simp only[vR,seval, -List.reduceReplicate]
    refine aK rfl ?_
    have e:PD a b=b:=by simp[PD,ha]
    simp only[db,e,vR,seval, -List.reduceReplicate]
    exact ao rfl ⟨rfl,rfl⟩
 ·have da:(a != 0)=true:=by simp[ha]
  refine aQ 0 (fun k=>[(3,I .i64 0),(6,Sl 0 0 2 2),(7,I .i64 2),(8,I .i64 k)]) (fun k=>[(0,⟨false,[Sum.inl (.int .i64 a),Sum.inl (.int .i64 b)]⟩)]) _ ?_ ?_ ?_
  ·simp only[vR,seval, -List.reduceReplicate]
  ·intro j hj;omega
  ·simp only[vR,seval, -List.reduceReplicate]
   refine aK rfl ?_
   have e:PD a b=a:=by simp[PD,ha]
   simp only[da,e,vR,seval, -List.reduceReplicate]
   exact ao rfl ⟨rfl,rfl⟩
theorem My {x y:En} (hx:ku x) (hy:ku y):(0≤PD (po x.ep y.ep) (po x.n y.n))↔ ¬ (Py x.ep x.n < Py y.ep y.n):=by
 have w1:=hx.ep;have w2:=hx.n;have w3:=hy.ep;have w4:=hy.n
 simp only[kU]at w1 w2 w3 w4
 unfold Py PD po
 constructor
 ·intro h h';revert h;split<;>(try split)<;>(try split)<;>(try split)<;>omega
 ·intro h;split<;>(try split)<;>(try split)<;>(try split)<;>omega
theorem y8 (x y:En):cO Tryz.prog 73 [Ag (je x),Ag (je y)] (I .i64 (PD (po x.ep y.ep) (po x.n y.n))):=by
 refine bf Tryz.func73 rfl (by kernel_rfl) (by simp[Tryz.ntmps73]) (by simp only[List.all_cons,List.all_nil,Bool.and_true];exact Bool.and_eq_true_iff.2 ⟨show List.all (je x) SV.plain=true from jL,show List.all (je y) SV.plain=true from jL⟩) rfl ?_
 simp only[Tryz.results73,bO,vR,seval, -List.reduceReplicate]
 refine ⟨by kernel_rfl, ?_⟩
 refine cO.draw (wv x.ep y.ep) Tryz.yY ?_
 simp only[bO,vR,seval, -List.reduceReplicate]
 refine cO.draw (wv x.n y.n) Tryz.yY ?_
 have spl: ∀ a b:SV,splice (splice (ah IntKind.i64 2 fun _=>0) 0 [a]) 1 [b]=[a,b]:=fun _ _=>rfl
 simp only[spl,bO,vR,seval, -List.reduceReplicate]
 refine ⟨Nat.le_refl 2, ?_⟩
 refine (acY (po x.ep y.ep) (po x.n y.n)).cI (fun _=>13) (cy (rw:=true) (cs:=[Sum.inl (Value.int IntKind.i64 (po x.ep y.ep)),Sum.inl (Value.int IntKind.i64 (po x.n y.n))]) ?_ rfl) rfl rfl (fun M h n _=>h _ (List.Mem.head _)) ?_
 ·simp only[aJ]
 simp only[vR,seval, -List.reduceReplicate]
theorem B0 {s:St} {f:Nat→En} {j n:Nat} (hj:j < n) (h:Jl s f j=false):nD s f n=false:=by
 induction n with
 | zero=>omega
 | succ n ih=>
  rw[nD]
  by_cases e:j=n
  ·subst e;rw[h,Bool.and_false]
  ·rw[ih (by omega),Bool.false_and]
theorem RB {M:Nat→Prop} {s:St} {t o n c:Nat} (e:s.store= .inr (.inr (t,o,n,c))) (h:AV.ok M (Ag (aU s))):M t:=by
 have:s.store ∈ aU s:=by simp[aU,pT]
 have:=(h _ this).1
 rw[e]at this;exact this
theorem Dk {s:St} {n:Nat} {f:Nat→En} {cs:List SV} (h0:aO 0 s.store n f cs) (hp:cs.all SV.plain=true) (hs:fy s) (hf: ∀ i,ku (f i)) (hn:n < 4611686018427387904):
  bz Tryz.prog 49 [Ag (aU s)] 1 (lk [(0,⟨false,cs⟩)]) (fun v out=>v=B (nD s f n)∧out=fun _=>none):=by
 refine aA Tryz.func49 rfl (by kernel_rfl) (by simp[Tryz.ntmps49]) Tryz.rV (fun y hy=>by
  obtain rfl:=List.mem_singleton.1 hy
  exact bR (h0.ok (by decide))) eH (eL hp) ?_
 have zV: ∀ {M:Nat→Prop},(∀ x ∈ cs,SV.ok M x)=True:=eq_true (aD hp)
 have hl:=h0.len
 simp only[Tryz.results49,hl,ak,vR,seval, -List.reduceReplicate]
 refine yq n (fun k=>nD s f k=true) (fun k=>[(1,Ptr 1 0),(6, .inl (.inl s.store)),(7,I .i64 n),(8,I .i64 k)]) (fun k=>[(0,⟨false,cs⟩),(1,⟨true,aU s⟩)]) _ ?_ ?_ ?_
 ·refine ⟨rfl, ?_⟩
  simp only[zV,vR,seval, -List.reduceReplicate]
  exact ⟨(h0.ok (M:=fun n=>n < 7) (by decide)).1,bR (h0.ok (by decide))⟩
 ·intro j hj hinv
  have h1:=h0
  rcases h0 with ⟨_,rfl⟩ | ⟨o,c,e,hc,hsh⟩
  ·omega
  have b1:=hsh.lt hj
  simp only[vR,seval, -List.reduceReplicate]
  refine aK (by simp;omega) ?_
  simp only[e,cC,fH hj,hsh j hj,b1,bO,ak,vR,seval, -List.reduceReplicate]
  refine ⟨by kernel_rfl, ?_⟩
  refine (RA h1 hp hs (hf j)).cI (fun _=>0) (cy (rw:=false) ?_ hp) rfl ?_ (fun M h n _=>RB e (h _ (List.Mem.head _))) ?_
  ·simp only[ae,vR,seval, -List.reduceReplicate]
  ·have:AV.ren (fun _=>0) (Ag (aU s))=Ag (aU s):=by rw[dW];rw[e];simp only[SV.ren,kY];rw[← e]
   have h2:AV.ren (fun _=>0) (Ag (je (f j)))=Ag (je (f j)):=AV.bj (show AV.plain (Ag (je (f j)))=true from jL (e:=f j)) _
   simp only[List.map_cons,List.map_nil,this,h2]
  have nb:AV.ok (fun n=>n < 7) (Ag (aU s)):=bR (h1.ok (by decide))
  rcases Bool.eq_false_or_eq_true (wQ s (f j)) with p1 | p1
  ·by_cases j0:j=0
   ·have d0:decide (0 < (j:Int))=false:=decide_eq_false (by omega)
    have g1:nD s f (j+1)=true:=by rw[nD,hinv,Jl,p1,decide_eq_true j0];rfl
    simp only[p1,d0,g1,Bool.not_true,dX j (by omega),vR,seval, -List.reduceReplicate]
    exact ⟨aD hp,nb⟩
   ·have d0:decide (0 < (j:Int))=true:=decide_eq_true (by omega)
    have w1:IntKind.i64.wrap ((j:Int) - 1)=((j - 1:Nat):Int):=Z6 j 1 (by omega) (by omega)
    have hj1:j - 1 < n:=by omega
    have b2:=hsh.lt hj1
    simp only[p1,d0,e,w1,cC,fH hj1,hsh (j - 1) hj1,b2,Bool.not_true,bO,ak,vR,seval, -List.reduceReplicate]
    refine cO.draw (y8 (f (j - 1)) (f j)) Tryz.JK ?_
    by_cases hc0:Py (f (j - 1)).ep (f (j - 1)).n < Py (f j).ep (f j).n
    ·have d1:decide (0≤PD (po (f (j - 1)).ep (f j).ep) (po (f (j - 1)).n (f j).n))=false:=decide_eq_false fun h=>(My (hf _) (hf _)).1 h hc0
     have g1:nD s f (j+1)=true:=by rw[nD,hinv,Jl,p1,decide_eq_true hc0];simp
     simp only[d1,g1,dX j (by omega),vR,seval, -List.reduceReplicate]
     exact ⟨aD hp,nb⟩
    ·have d1:decide (0≤PD (po (f (j - 1)).ep (f j).ep) (po (f (j - 1)).n (f j).n))=true:=decide_eq_true ((My (hf _) (hf _)).2 hc0)
     have g1:nD s f n=false:=B0 hj (by rw[Jl,decide_eq_false hc0,decide_eq_false j0];simp)
     simp only[d1,g1,vR,seval, -List.reduceReplicate]
     exact ao rfl ⟨rfl,rfl⟩
  ·have g1:nD s f n=false:=B0 hj (by rw[Jl,p1];rfl)
   simp only[p1,g1,Bool.not_false,vR,seval, -List.reduceReplicate]
   exact ao rfl ⟨rfl,rfl⟩
 ·intro hinv
  simp only[vR,seval, -List.reduceReplicate]
  refine aZ (by simp) ?_
  simp only[hinv,vR,seval, -List.reduceReplicate]
  exact ao rfl ⟨rfl,rfl⟩
theorem iA.calls {P:Program} [bA.Tables P] {s:AS} {nm n fn:Nat} {f:Nat→En} {x:St} {w:AV} (h:iA s.box x.store n f) (hw:AV.plain w=true)
  (hm: ∀ (v:SV) (cs:List SV),aO 0 v n f cs→cs.all SV.plain=true→bz P fn [Ag (aU { x with store:=v })] 1 (lk [(0,⟨false,cs⟩)]) (fun u out=>u=w∧out=fun _=>none)) {dst:Option Nat} {K:AS→Prop} (hk:K (s.put dst (some w))):
  aB P nm fn (some [Ag (aU x)]) dst K s:=by
 obtain ⟨t,rw,cs,hb,hp,hi⟩:=h
 obtain ⟨v0,g0,e0⟩:=hi.name (k:=0)
 refine (hm v0 cs g0 hp).dP (fun _=>t) (cy hb hp) hw ?_ hk
 simp only[List.map_cons,List.map_nil,dW,e0 (fun _=>t) rfl]
theorem RD {s:St} {v:SV} {f:Nat→En} {n:Nat}:nD { s with store:=v } f n=nD s f n:=by
 induction n with
 | zero=>rfl
 | succ n ih=>rw[nD,nD,ih];rfl
theorem Dl {s:St} {v:SV} {f:Nat→En} {n:Nat}:iP { s with store:=v } n f=iP s n f:=by
 unfold iP;rw[RD];rfl
theorem Mz {s:St} {n:Nat} {f:Nat→En} {cs:List SV} (h0:aO 0 s.store n f cs) (hp:cs.all SV.plain=true) (hs:fy s) (hf: ∀ i,ku (f i)) (hn:n < 4611686018427387904):
  bz Tryz.prog 25 [Ag (aU s)] 1 (lk [(0,⟨false,cs⟩)]) (fun v out=>v=B (iP s n f)∧out=fun _=>none):=by
 refine aA Tryz.func25 rfl (by kernel_rfl) (by simp[Tryz.ntmps25]) Tryz.rI (fun y hy=>by
  obtain rfl:=List.mem_singleton.1 hy
  exact bR (h0.ok (by decide))) eH (eL hp) ?_
 have Ea: ∀ {box:Nat→Option aI},box 0=some ⟨false,cs⟩→iA box s.store n f:=fun hb=>⟨0,false,cs,hb,hp,h0⟩
 simp only[Tryz.results25,ak,vR,seval, -List.reduceReplicate]
 refine iA.calls (n:=n) (f:=f) (w:=B (iF s n)) (Ea (by simp only[ae,vR,seval, -List.reduceReplicate])) rfl (fun v cs hv hp=>Rx (s:={ s with store:=v }) hv hp) ?_
 rcases Bool.eq_false_or_eq_true (iF s n) with b1 | b1
 rotate_left 1
 ·simp only[iP,b1,Bool.false_and,ak,vR,seval, -List.reduceReplicate]
  exact ao rfl ⟨rfl,rfl⟩
 have fin: ∀ {t:AS} {b:Bool},b=iP s n f→sV 1 (fun v out=>v=B (iP s n f)∧out=fun _=>none) (B b) t:=fun e=>ao rfl ⟨by rw[e],rfl⟩
 rcases Bool.eq_false_or_eq_true s.own with b2 | b2
 rotate_left 1
 rcases Bool.eq_false_or_eq_true s.peer with b3 | b3
 rotate_left 1
 ·simp only[b1,b2,b3,ak,vR,seval, -List.reduceReplicate]
  exact fin (by simp[iP,b2,b3])
 all_goals
  simp only[b1,b2,ak,vR,seval, -List.reduceReplicate]
  try simp only[b3,ak,vR,seval, -List.reduceReplicate]
  refine iA.calls (n:=n) (f:=f) (w:=B (fJ s)) (Ea (by simp only[ae,vR,seval, -List.reduceReplicate])) rfl (fun v cs hv hp=>Ry (s:={ s with store:=v }) hv hp) ?_
  rcases Bool.eq_false_or_eq_true (fJ s) with b4 | b4
  rotate_left 1
  ·simp only[b4,ak,vR,seval, -List.reduceReplicate]
   exact fin (by simp[iP,b4])
  simp only[b4,ak,vR,seval, -List.reduceReplicate]
  refine iA.calls (n:=n) (f:=f) (w:=B (im s)) (Ea (by simp only[ae,vR,seval, -List.reduceReplicate])) rfl (fun v cs hv hp=>Ot (s:={ s with store:=v }) hv hp) ?_
  rcases Bool.eq_false_or_eq_true (im s) with b5 | b5
  rotate_left 1
  ·simp only[b5,ak,vR,seval, -List.reduceReplicate]
   exact fin (by simp[iP,b5])
  simp only[b5,ak,vR,seval, -List.reduceReplicate]
  refine iA.calls (n:=n) (f:=f) (w:=B (C4 s)) (Ea (by simp only[ae,vR,seval, -List.reduceReplicate])) rfl (fun v cs hv hp=>Rz (s:={ s with store:=v }) hv hp) ?_
  rcases Bool.eq_false_or_eq_true (C4 s) with b6 | b6
  rotate_left 1
  ·simp only[b6,ak,vR,seval, -List.reduceReplicate]
   exact fin (by simp[iP,b6])
  simp only[b6,ak,vR,seval, -List.reduceReplicate]
  refine iA.calls (n:=n) (f:=f) (w:=B (nD s f n)) (Ea (by simp only[ae,vR,seval, -List.reduceReplicate])) rfl (fun v cs hv hp=>by have:=Dk (s:={ s with store:=v }) hv hp (hs.ws v) hf hn;rwa [RD]at this) ?_
  simp only[ak,vR,seval, -List.reduceReplicate]
  exact fin (by simp[iP,b1,b2,b4,b5,b6, *])
end Go.Proofs.YtbipdofobgabhaaGreatDoor
