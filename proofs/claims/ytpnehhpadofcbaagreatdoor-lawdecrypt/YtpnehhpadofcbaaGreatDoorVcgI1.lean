/-
  errors.Is at two of the machine's sentinels: equal where they are the same one. Go's own text of errors.Is and errors.is, walked with the kit's lemmas on interfaces.
-/
import Derived.Test.YtpnehhpadofcbaaGreatDoorVcgFacts
import Derived.WalkKit
import Derived.LaidEql
import Derived.Stop.Asserts
import Derived.RowKitTokens
import Derived.Test.YtpnehhpadofcbaaGreatDoorVcgSk
set_option linter.unusedVariables false
set_option linter.unusedSimpArgs false
set_option maxRecDepth 100000
set_option linter.unusedSectionVars false
set_option maxHeartbeats 16000000
namespace Go.Proofs.YtpnehhpadofcbaaGreatDoor
open Go.bU
variable [aO]
open Go.RowKit Go.Extern.Stop Go.Stop Go.Extern
theorem Tryz.EV (v:Value) (w:World):(Extern.ReflectliteType.typeOf #[.iface 219 v]).run Tryz.prog w= .ok (.iface 133 (.agg #[.pointer (some ⟨12,219,none⟩)])) w:=by kernel_rfl
def T6 (t:TypeId):Sem Value:=do Extern.Rtype.noPackHeld "Comparable" t;pure (.bool (← typeInfo t).comparable)
theorem Tryz.JT (w:World):((Extern.ReflectliteType.method T6) #[.agg #[.pointer (some ⟨12,219,none⟩)]]).run Tryz.prog w= .ok (.bool true) w:=by kernel_rfl
theorem Tryz.za (v:Value) (w:World):(Go.method 356 133 v "Comparable").run Tryz.prog w= .ok (180,v) w:=by kernel_rfl
theorem Tryz.EW:(Tryz.prog.info? 219).map (·.comparable)=some true:=by kernel_rfl
theorem Tryz.EX:(Tryz.prog.info? 244).map (·.size)=some 1:=by kernel_rfl
theorem Tryz.Wp (v:Value) (xT:TypeId) (w:World):(Instr.typeAssert (.iface 219 v) xT 135 true).run Tryz.prog w= .ok (.tuple #[.nilIface, .bool false]) w:=run_typeAssert_lacksB Tryz.underlying135 (by kernel_rfl) (by kernel_rfl) v xT w
theorem Tryz.JU (v:Value) (xT:TypeId) (w:World):(Instr.typeAssert (.iface 219 v) xT 138 true).run Tryz.prog w= .ok (.tuple #[.nilIface, .bool false]) w:=run_typeAssert_lacksB Tryz.underlying138 (by kernel_rfl) (by kernel_rfl) v xT w
theorem Tryz.Gg (v:Value) (xT:TypeId) (w:World):(Instr.typeAssert (.iface 219 v) xT 140 true).run Tryz.prog w= .ok (.tuple #[.nilIface, .bool false]) w:=run_typeAssert_lacksB Tryz.underlying140 (by kernel_rfl) (by kernel_rfl) v xT w
theorem abX (a:Addr) (w:World):
  Calls Tryz.prog 32 #[.iface 219 (.pointer (some a)), .iface 219 (.pointer (some a))] w fun e w'=>e= .returned (.bool true)∧Kept w w':=by
 obtain ⟨i,hi,hcmp⟩:=Option.map_eq_some_iff.1 Tryz.EW
 obtain ⟨j,hj,hjs⟩:=Option.map_eq_some_iff.1 Tryz.EX
 have hTy:= @run_callFunc_extern Tryz.prog 63 _ Extern.ReflectliteType.typeOf Tryz.func63 (by kernel_rfl) (by kernel_rfl) (by kernel_rfl) (by kernel_rfl)
 have hCm:= @run_callFunc_extern Tryz.prog 180 _ (Extern.ReflectliteType.method T6) Tryz.func180 (by kernel_rfl) (by kernel_rfl) (by kernel_rfl) (by kernel_rfl)
 have tT:=Tryz.EV
 have cT:=Tryz.JT
 have mR:=Tryz.za
 have heq:=run_eql_iface_ptr_same (P:=Tryz.prog) w a Tryz.underlying50 Tryz.underlying219 hi hcmp hj
 go_enter Tryz.func32,Tryz.ntmps32
 go_wp2
 refine wp_loop_rounds 1 ?_
 rw[rounds_succ]
 go_wp2
 go_ret
 exact ⟨rfl,Frame.refl _ _⟩
theorem abY (a b:Addr) (ca cb:Array Value) (ta tb:TypeId) (w:World) (hne:a≠b) (ha:w.heap[a.block]? =some (.cells ca ta (0,0))) (hb:w.heap[b.block]? =some (.cells cb tb (0,0))):
  Calls Tryz.prog 32 #[.iface 219 (.pointer (some a)), .iface 219 (.pointer (some b))] w fun e w'=>e= .returned (.bool false)∧Kept w w':=by
 obtain ⟨i,hi,hcmp⟩:=Option.map_eq_some_iff.1 Tryz.EW
 obtain ⟨j,hj,hjs⟩:=Option.map_eq_some_iff.1 Tryz.EX
 have hTy:= @run_callFunc_extern Tryz.prog 63 _ Extern.ReflectliteType.typeOf Tryz.func63 (by kernel_rfl) (by kernel_rfl) (by kernel_rfl) (by kernel_rfl)
 have hCm:= @run_callFunc_extern Tryz.prog 180 _ (Extern.ReflectliteType.method T6) Tryz.func180 (by kernel_rfl) (by kernel_rfl) (by kernel_rfl) (by kernel_rfl)
 have tT:=Tryz.EV
 have cT:=Tryz.JT
 have mR:=Tryz.za
 have nE:=Tryz.Wp
 have uE:=Tryz.JU
 have vE:=Tryz.Gg
 have heq:=run_eql_iface_ptr_other (P:=Tryz.prog) w Tryz.underlying50 Tryz.underlying219 hi hcmp hj (by rw[hjs];decide) hne ha hb
 go_enter Tryz.func32,Tryz.ntmps32
 go_wp2
 refine wp_loop_rounds 1 ?_
 rw[rounds_succ]
 go_wp2
 go_ret
 exact ⟨rfl,Frame.refl _ _⟩
theorem MF {i:Nat} (h:i < 9): ∃ k,BR (aO.place i).block=some k:=by
 unfold BR
 rcases hf:(List.range 9).find? (fun k=>(aO.place k).block==(aO.place i).block) with _ | k
 ·have:=List.find?_eq_none.1 hf i (List.mem_range.2 h)
  simp at this
 ·exact ⟨k,rfl⟩
theorem BV {i:Nat} (h:i < 9): ∃ c t,Tables.Vy Tryz.prog (aO.place i).block=some (.cells c t (0,0)):=by
 obtain ⟨k,hk⟩:=MF h
 refine ⟨aO.cells k,aO.ty k, ?_⟩
 show tF _=_
 unfold tF
 rw[hk]
theorem MG (i:Nat):AV.plain (V (gH i))=true:=rfl
theorem pF {i j:Nat} (hi:i < 9) (hj:j < 9):cI Tryz.prog 32 [V (gH i),V (gH j)] (B (i==j)):=by
 refine ⟨by simp[MG],fun r h=>by subst h;rfl,fun w hL=> ?_⟩
 by_cases h:i=j
 ·subst h
  refine (abX (aO.place i) w).mono ?_
  rintro e w' ⟨rfl,hk⟩
  exact ⟨_,rfl,by rw[beq_self_eq_true];rfl,hk⟩
 ·obtain ⟨c1,t1,h1⟩:=BV hi
  obtain ⟨c2,t2,h2⟩:=BV hj
  refine (abY (aO.place i) (aO.place j) _ _ _ _ w (fun e=>h (aO.inj i j hi hj e)) (hL.YL _ _ h1) (hL.YL _ _ h2)).mono ?_
  rintro e w' ⟨rfl,hk⟩
  exact ⟨_,rfl,by rw[beq_eq_false_iff_ne.2 h];rfl,hk⟩
theorem rh {n:Nat} {f:Nat→En} {u v:SV} {cs ds:List SV} (h0:aH 0 u n f cs) (h1:aH 1 v n f ds) (hp:cs.all SV.plain=true) (hq:ds.all SV.plain=true) (hn:n < 4611686018427387904):
  bf Tryz.prog 26 [.inl (.inl u), .inl (.inl v)] 2 (lk [(0,⟨false,cs⟩),(1,⟨false,ds⟩)]) (fun v out=>v=B true∧out=fun _=>none):=by
 refine av Tryz.func26 rfl (by kernel_rfl) (by simp[Tryz.ntmps26]) Tryz.tU (fun x hx=>by
  simp only[List.mem_cons,List.not_mem_nil,or_false]at hx
  rcases hx with rfl | rfl
  ·exact (h0.ok (by decide)).1
  ·exact (h1.ok (by decide)).1) lC (nU hp hq) ?_
 have fO: ∀ {M:Nat→Prop},(∀ x ∈ cs,SV.ok M x)=True:=eq_true (aC hp)
 have jX: ∀ {M:Nat→Prop},(∀ x ∈ ds,SV.ok M x)=True:=eq_true (aC hq)
 have oku:AV.ok (fun k=>k < 2) (.inl (.inl u))=True:=eq_true (h0.ok (by decide)).1
 have okv:AV.ok (fun k=>k < 2) (.inl (.inl v))=True:=eq_true (h1.ok (by decide)).1
 simp only[Tryz.results26,h0.len,h1.len,bne_self_eq_false,vR,seval]
 refine aE n (fun k=>[(0, .inl (.inl u)),(1, .inl (.inl v)),(12,I .i64 n),(13,I .i64 k)])
  (fun k=>[(0,⟨false,cs⟩),(1,⟨false,ds⟩)]) _ ?_ ?_ ?_
 ·simp only[fO,jX,vR,seval]
  exact ⟨(h0.ok (by decide)).1,(h1.ok (by decide)).1⟩
 ·intro j hj
  rcases h0 with ⟨_,rfl⟩ | ⟨o,c,rfl,_,hs⟩
  ·omega
  rcases h1 with ⟨_,rfl⟩ | ⟨o',c',rfl,_,hs'⟩
  ·omega
  have b1:=hs.lt hj
  have b2:=hs'.lt hj
  simp only[vR,seval]
  refine az (by simp;omega) ?_
  simp only[aW,cF hj,hs j hj,hs' j hj,b1,b2,Zg,bt j (by omega),vR,seval]
  refine ⟨by kernel_rfl, ?_⟩
  simp only[Bool.not_true,bt j (by omega),vR,seval]
  exact ⟨aC hp,aC hq⟩
 ·simp only[vR,seval]
  refine aD (by simp) ?_
  simp only[vR,seval]
  exact ak rfl ⟨rfl,rfl⟩
theorem BW {s:AS} {nm t u n:Nat} {f:Nat→En} {v w:SV} {cs ds:List SV} {ra rb:Bool} (hb:s.box t=some ⟨ra,cs⟩) (hp:cs.all SV.plain=true) (hb':s.box u=some ⟨rb,ds⟩) (hq:ds.all SV.plain=true)
  (h0:aH t v n f cs) (h1:aH u w n f ds) (hn:n < 4611686018427387904) {dst:Option Nat} {K:AS→Prop} (hk:K (s.put dst (some (B true)))):
  ax Tryz.prog nm 26 (some [.inl (.inl v), .inl (.inl w)]) dst K s:=by
 obtain ⟨v0,g0,e0⟩:=h0.name (k:=0)
 obtain ⟨w0,g1,e1⟩:=h1.name (k:=1)
 refine (rh g0 g1 hp hq hn).cW (two t u) (ie hb hp hb' hq) rfl ?_ hk
 simp only[List.map_cons,List.map_nil,AV.aI,CV.aI,e0 (two t u) rfl,e1 (two t u) rfl]
theorem JV {x:St} {n:Nat} {f:Nat→En} {u v:SV} {cs ds:List SV} (h0:aH 0 u n f cs) (h1:aH 1 v n f ds) (hp:cs.all SV.plain=true) (hq:ds.all SV.plain=true) (hn:n < 4611686018427387904):
  bf Tryz.prog 19 [Ag (bC { x with store:=u }),Ag (bC { x with store:=v })] 2 (lk [(0,⟨false,cs⟩),(1,⟨false,ds⟩)]) (fun v out=>v=B true∧out=fun _=>none):=by
 refine av Tryz.func19 rfl (by kernel_rfl) (by simp[Tryz.ntmps19]) Tryz.tM (fun y hy=>by
  simp only[List.mem_cons,List.not_mem_nil,or_false]at hy
  rcases hy with rfl | rfl
  ·exact bF (h0.ok (by decide))
  ·exact bF (h1.ok (by decide))) lC (nU hp hq) ?_
 simp only[Tryz.results19,ao,vR,seval]
 refine BW (n:=n) (f:=f) (t:=0) (u:=1) (ra:=false) (rb:=false) (by simp only[ae,vR,seval]) hp (by simp only[ae,vR,seval]) hq h0 h1 hn ?_
 simp only[Bool.not_true,bne_self_eq_false,beq_self_eq_true,Me,ao,vR,seval]
 exact ak rfl ⟨rfl,rfl⟩
theorem T7 {s:St} {n:Nat} {f:Nat→En} {cs:List SV} (h0:aH 0 s.store n f cs) (hp:cs.all SV.plain=true):
  bf Tryz.prog 46 [Ag (bC s)] 1 (lk [(0,⟨false,cs⟩)]) (fun v out=>v=B (fx s n)∧out=fun _=>none):=by
 refine av Tryz.func46 rfl (by kernel_rfl) (by simp[Tryz.ntmps46]) Tryz.uf (fun y hy=>by
  obtain rfl:=List.mem_singleton.1 hy
  exact bF (h0.ok (by decide))) dG (dH hp) ?_
 have hl:=h0.len
 rcases Bool.eq_false_or_eq_true (decide (0≤s.skip)) with h0 | h0
 ·rcases Bool.eq_false_or_eq_true (decide (s.skip≤1000)) with h1 | h1
  ·rcases Bool.eq_false_or_eq_true (decide (0≤s.room)) with h2 | h2
   ·rcases Bool.eq_false_or_eq_true (decide (s.room≤1000)) with h3 | h3
    ·rcases Bool.eq_false_or_eq_true (decide ((n:Int)≤s.room)) with h4 | h4
     ·(have e:fx s n=true:=(by simp[fx,h0,h1,h2,h3,h4]);rw[e];simp only[Tryz.results46,h0,h1,h2,h3,h4,Bool.not_true,Bool.not_false,bne,aL,aM,aF,aj,ao,hl,vR,seval, -List.reduceReplicate];exact ak rfl ⟨rfl,rfl⟩)
     ·(have e:fx s n=false:=(by simp[fx,h0,h1,h2,h3,h4]);rw[e];simp only[Tryz.results46,h0,h1,h2,h3,h4,Bool.not_true,Bool.not_false,bne,aL,aM,aF,aj,ao,hl,vR,seval, -List.reduceReplicate];exact ak rfl ⟨rfl,rfl⟩)
    ·(have e:fx s n=false:=(by simp[fx,h0,h1,h2,h3]);rw[e];simp only[Tryz.results46,h0,h1,h2,h3,Bool.not_true,Bool.not_false,bne,aL,aM,aF,aj,ao,hl,vR,seval, -List.reduceReplicate];exact ak rfl ⟨rfl,rfl⟩)
   ·(have e:fx s n=false:=(by simp[fx,h0,h1,h2]);rw[e];simp only[Tryz.results46,h0,h1,h2,Bool.not_true,Bool.not_false,bne,aL,aM,aF,aj,ao,hl,vR,seval, -List.reduceReplicate];exact ak rfl ⟨rfl,rfl⟩)
  ·(have e:fx s n=false:=(by simp[fx,h0,h1]);rw[e];simp only[Tryz.results46,h0,h1,Bool.not_true,Bool.not_false,bne,aL,aM,aF,aj,ao,hl,vR,seval, -List.reduceReplicate];exact ak rfl ⟨rfl,rfl⟩)
 ·(have e:fx s n=false:=(by simp[fx,h0]);rw[e];simp only[Tryz.results46,h0,Bool.not_true,Bool.not_false,bne,aL,aM,aF,aj,ao,hl,vR,seval, -List.reduceReplicate];exact ak rfl ⟨rfl,rfl⟩)
theorem T8 {s:St} {n:Nat} {f:Nat→En} {cs:List SV} (h0:aH 0 s.store n f cs) (hp:cs.all SV.plain=true):
  bf Tryz.prog 47 [Ag (bC s)] 1 (lk [(0,⟨false,cs⟩)]) (fun v out=>v=B (dp s)∧out=fun _=>none):=by
 refine av Tryz.func47 rfl (by kernel_rfl) (by simp[Tryz.ntmps47]) Tryz.ug (fun y hy=>by
  obtain rfl:=List.mem_singleton.1 hy
  exact bF (h0.ok (by decide))) dG (dH hp) ?_
 have hl:=h0.len
 rcases Bool.eq_false_or_eq_true (s.own) with h0 | h0
 ·rcases Bool.eq_false_or_eq_true (s.peer) with h1 | h1
  ·rcases Bool.eq_false_or_eq_true (s.has) with h2 | h2
   ·(have e:dp s=true:=(by simp[dp,h0,h1,h2]);rw[e];simp only[Tryz.results47,h0,h1,h2,Bool.not_true,Bool.not_false,bne,aL,aM,aF,aj,ao,hl,vR,seval, -List.reduceReplicate];exact ak rfl ⟨rfl,rfl⟩)
   ·rcases Bool.eq_false_or_eq_true (xF s.send) with h3 | h3
    ·(have e:dp s=true:=(by simp[dp,h0,h1,h2,h3]);rw[e];simp only[Tryz.results47,h0,h1,h2,h3,Bool.not_true,Bool.not_false,bne,aL,aM,aF,aj,ao,hl,vR,seval, -List.reduceReplicate];exact ak rfl ⟨rfl,rfl⟩)
    ·(have e:dp s=false:=(by simp[dp,h0,h1,h2,h3]);rw[e];simp only[Tryz.results47,h0,h1,h2,h3,Bool.not_true,Bool.not_false,bne,aL,aM,aF,aj,ao,hl,vR,seval, -List.reduceReplicate];exact ak rfl ⟨rfl,rfl⟩)
  ·rcases Bool.eq_false_or_eq_true (xF s.zA) with h2 | h2
   ·rcases Bool.eq_false_or_eq_true (s.has) with h3 | h3
    ·(have e:dp s=true:=(by simp[dp,h0,h1,h2,h3]);rw[e];simp only[Tryz.results47,h0,h1,h2,h3,Bool.not_true,Bool.not_false,bne,aL,aM,aF,aj,ao,hl,vR,seval, -List.reduceReplicate];exact ak rfl ⟨rfl,rfl⟩)
    ·rcases Bool.eq_false_or_eq_true (xF s.send) with h4 | h4
     ·(have e:dp s=true:=(by simp[dp,h0,h1,h2,h3,h4]);rw[e];simp only[Tryz.results47,h0,h1,h2,h3,h4,Bool.not_true,Bool.not_false,bne,aL,aM,aF,aj,ao,hl,vR,seval, -List.reduceReplicate];exact ak rfl ⟨rfl,rfl⟩)
     ·(have e:dp s=false:=(by simp[dp,h0,h1,h2,h3,h4]);rw[e];simp only[Tryz.results47,h0,h1,h2,h3,h4,Bool.not_true,Bool.not_false,bne,aL,aM,aF,aj,ao,hl,vR,seval, -List.reduceReplicate];exact ak rfl ⟨rfl,rfl⟩)
   ·(have e:dp s=false:=(by simp[dp,h0,h1,h2]);rw[e];simp only[Tryz.results47,h0,h1,h2,Bool.not_true,Bool.not_false,bne,aL,aM,aF,aj,ao,hl,vR,seval, -List.reduceReplicate];exact ak rfl ⟨rfl,rfl⟩)
 ·rcases Bool.eq_false_or_eq_true (xF s.priv) with h1 | h1
  ·rcases Bool.eq_false_or_eq_true (xF s.aG) with h2 | h2
   ·rcases Bool.eq_false_or_eq_true (s.peer) with h3 | h3
    ·rcases Bool.eq_false_or_eq_true (s.has) with h4 | h4
     ·(have e:dp s=true:=(by simp[dp,h0,h1,h2,h3,h4]);rw[e];simp only[Tryz.results47,h0,h1,h2,h3,h4,Bool.not_true,Bool.not_false,bne,aL,aM,aF,aj,ao,hl,vR,seval, -List.reduceReplicate];exact ak rfl ⟨rfl,rfl⟩)
     ·rcases Bool.eq_false_or_eq_true (xF s.send) with h5 | h5
      ·(have e:dp s=true:=(by simp[dp,h0,h1,h2,h3,h4,h5]);rw[e];simp only[Tryz.results47,h0,h1,h2,h3,h4,h5,Bool.not_true,Bool.not_false,bne,aL,aM,aF,aj,ao,hl,vR,seval, -List.reduceReplicate];exact ak rfl ⟨rfl,rfl⟩)
      ·(have e:dp s=false:=(by simp[dp,h0,h1,h2,h3,h4,h5]);rw[e];simp only[Tryz.results47,h0,h1,h2,h3,h4,h5,Bool.not_true,Bool.not_false,bne,aL,aM,aF,aj,ao,hl,vR,seval, -List.reduceReplicate];exact ak rfl ⟨rfl,rfl⟩)
    ·rcases Bool.eq_false_or_eq_true (xF s.zA) with h4 | h4
     ·rcases Bool.eq_false_or_eq_true (s.has) with h5 | h5
      ·(have e:dp s=true:=(by simp[dp,h0,h1,h2,h3,h4,h5]);rw[e];simp only[Tryz.results47,h0,h1,h2,h3,h4,h5,Bool.not_true,Bool.not_false,bne,aL,aM,aF,aj,ao,hl,vR,seval, -List.reduceReplicate];exact ak rfl ⟨rfl,rfl⟩)
      ·rcases Bool.eq_false_or_eq_true (xF s.send) with h6 | h6
       ·(have e:dp s=true:=(by simp[dp,h0,h1,h2,h3,h4,h5,h6]);rw[e];simp only[Tryz.results47,h0,h1,h2,h3,h4,h5,h6,Bool.not_true,Bool.not_false,bne,aL,aM,aF,aj,ao,hl,vR,seval, -List.reduceReplicate];exact ak rfl ⟨rfl,rfl⟩)
       ·(have e:dp s=false:=(by simp[dp,h0,h1,h2,h3,h4,h5,h6]);rw[e];simp only[Tryz.results47,h0,h1,h2,h3,h4,h5,h6,Bool.not_true,Bool.not_false,bne,aL,aM,aF,aj,ao,hl,vR,seval, -List.reduceReplicate];exact ak rfl ⟨rfl,rfl⟩)
     ·(have e:dp s=false:=(by simp[dp,h0,h1,h2,h3,h4]);rw[e];simp only[Tryz.results47,h0,h1,h2,h3,h4,Bool.not_true,Bool.not_false,bne,aL,aM,aF,aj,ao,hl,vR,seval, -List.reduceReplicate];exact ak rfl ⟨rfl,rfl⟩)
   ·(have e:dp s=false:=(by simp[dp,h0,h1,h2]);rw[e];simp only[Tryz.results47,h0,h1,h2,Bool.not_true,Bool.not_false,bne,aL,aM,aF,aj,ao,hl,vR,seval, -List.reduceReplicate];exact ak rfl ⟨rfl,rfl⟩)
  ·(have e:dp s=false:=(by simp[dp,h0,h1]);rw[e];simp only[Tryz.results47,h0,h1,Bool.not_true,Bool.not_false,bne,aL,aM,aF,aj,ao,hl,vR,seval, -List.reduceReplicate];exact ak rfl ⟨rfl,rfl⟩)
theorem Rf {s:St} {n:Nat} {f:Nat→En} {cs:List SV} (h0:aH 0 s.store n f cs) (hp:cs.all SV.plain=true):
  bf Tryz.prog 48 [Ag (bC s)] 1 (lk [(0,⟨false,cs⟩)]) (fun v out=>v=B (eQ s)∧out=fun _=>none):=by
 refine av Tryz.func48 rfl (by kernel_rfl) (by simp[Tryz.ntmps48]) Tryz.uh (fun y hy=>by
  obtain rfl:=List.mem_singleton.1 hy
  exact bF (h0.ok (by decide))) dG (dH hp) ?_
 have hl:=h0.len
 rcases Bool.eq_false_or_eq_true (s.re==0) with h0 | h0
 ·rcases Bool.eq_false_or_eq_true (xF s.recv) with h1 | h1
  ·rcases Bool.eq_false_or_eq_true (s.nr==0) with h2 | h2
   ·rcases Bool.eq_false_or_eq_true (decide (0 < s.se)) with h3 | h3
    ·(have e:eQ s=true:=(by simp[eQ,h0,h1,h2,h3]);rw[e];simp only[Tryz.results48,h0,h1,h2,h3,Bool.not_true,Bool.not_false,bne,aL,aM,aF,aj,ao,hl,vR,seval, -List.reduceReplicate];exact ak rfl ⟨rfl,rfl⟩)
    ·rcases Bool.eq_false_or_eq_true (s.has) with h4 | h4
     ·(have e:eQ s=false:=(by simp[eQ,h0,h1,h2,h3,h4]);rw[e];simp only[Tryz.results48,h0,h1,h2,h3,h4,Bool.not_true,Bool.not_false,bne,aL,aM,aF,aj,ao,hl,vR,seval, -List.reduceReplicate];exact ak rfl ⟨rfl,rfl⟩)
     ·rcases Bool.eq_false_or_eq_true (s.ns==0) with h5 | h5
      ·rcases Bool.eq_false_or_eq_true (s.pn==0) with h6 | h6
       ·(have e:eQ s=true:=(by simp[eQ,h0,h1,h2,h3,h4,h5,h6]);rw[e];simp only[Tryz.results48,h0,h1,h2,h3,h4,h5,h6,Bool.not_true,Bool.not_false,bne,aL,aM,aF,aj,ao,hl,vR,seval, -List.reduceReplicate];exact ak rfl ⟨rfl,rfl⟩)
       ·(have e:eQ s=false:=(by simp[eQ,h0,h1,h2,h3,h4,h5,h6]);rw[e];simp only[Tryz.results48,h0,h1,h2,h3,h4,h5,h6,Bool.not_true,Bool.not_false,bne,aL,aM,aF,aj,ao,hl,vR,seval, -List.reduceReplicate];exact ak rfl ⟨rfl,rfl⟩)
      ·(have e:eQ s=false:=(by simp[eQ,h0,h1,h2,h3,h4,h5]);rw[e];simp only[Tryz.results48,h0,h1,h2,h3,h4,h5,Bool.not_true,Bool.not_false,bne,aL,aM,aF,aj,ao,hl,vR,seval, -List.reduceReplicate];exact ak rfl ⟨rfl,rfl⟩)
   ·(have e:eQ s=false:=(by simp[eQ,h0,h1,h2]);rw[e];simp only[Tryz.results48,h0,h1,h2,Bool.not_true,Bool.not_false,bne,aL,aM,aF,aj,ao,hl,vR,seval, -List.reduceReplicate];exact ak rfl ⟨rfl,rfl⟩)
  ·(have e:eQ s=false:=(by simp[eQ,h0,h1]);rw[e];simp only[Tryz.results48,h0,h1,Bool.not_true,Bool.not_false,bne,aL,aM,aF,aj,ao,hl,vR,seval, -List.reduceReplicate];exact ak rfl ⟨rfl,rfl⟩)
 ·rcases Bool.eq_false_or_eq_true (decide (0 < s.se)) with h1 | h1
  ·(have e:eQ s=true:=(by simp[eQ,h0,h1]);rw[e];simp only[Tryz.results48,h0,h1,Bool.not_true,Bool.not_false,bne,aL,aM,aF,aj,ao,hl,vR,seval, -List.reduceReplicate];exact ak rfl ⟨rfl,rfl⟩)
  ·rcases Bool.eq_false_or_eq_true (s.has) with h2 | h2
   ·(have e:eQ s=false:=(by simp[eQ,h0,h1,h2]);rw[e];simp only[Tryz.results48,h0,h1,h2,Bool.not_true,Bool.not_false,bne,aL,aM,aF,aj,ao,hl,vR,seval, -List.reduceReplicate];exact ak rfl ⟨rfl,rfl⟩)
   ·rcases Bool.eq_false_or_eq_true (s.ns==0) with h3 | h3
    ·rcases Bool.eq_false_or_eq_true (s.pn==0) with h4 | h4
     ·(have e:eQ s=true:=(by simp[eQ,h0,h1,h2,h3,h4]);rw[e];simp only[Tryz.results48,h0,h1,h2,h3,h4,Bool.not_true,Bool.not_false,bne,aL,aM,aF,aj,ao,hl,vR,seval, -List.reduceReplicate];exact ak rfl ⟨rfl,rfl⟩)
     ·(have e:eQ s=false:=(by simp[eQ,h0,h1,h2,h3,h4]);rw[e];simp only[Tryz.results48,h0,h1,h2,h3,h4,Bool.not_true,Bool.not_false,bne,aL,aM,aF,aj,ao,hl,vR,seval, -List.reduceReplicate];exact ak rfl ⟨rfl,rfl⟩)
    ·(have e:eQ s=false:=(by simp[eQ,h0,h1,h2,h3]);rw[e];simp only[Tryz.results48,h0,h1,h2,h3,Bool.not_true,Bool.not_false,bne,aL,aM,aF,aj,ao,hl,vR,seval, -List.reduceReplicate];exact ak rfl ⟨rfl,rfl⟩)
theorem T9 {s:St} {n:Nat} {f:Nat→En} {cs:List SV} (h0:aH 0 s.store n f cs) (hp:cs.all SV.plain=true):
  bf Tryz.prog 49 [Ag (bC s)] 1 (lk [(0,⟨false,cs⟩)]) (fun v out=>v=B (qo s)∧out=fun _=>none):=by
 refine av Tryz.func49 rfl (by kernel_rfl) (by simp[Tryz.ntmps49]) Tryz.ui (fun y hy=>by
  obtain rfl:=List.mem_singleton.1 hy
  exact bF (h0.ok (by decide))) dG (dH hp) ?_
 have hl:=h0.len
 rcases Bool.eq_false_or_eq_true (decide (0 < s.se)) with h0 | h0
 ·rcases Bool.eq_false_or_eq_true (s.own) with h1 | h1
  ·rcases Bool.eq_false_or_eq_true (s.peer) with h2 | h2
   ·(have e:qo s=true:=(by simp[qo,h0,h1,h2]);rw[e];simp only[Tryz.results49,h0,h1,h2,Bool.not_true,Bool.not_false,bne,aL,aM,aF,aj,ao,hl,vR,seval, -List.reduceReplicate];exact ak rfl ⟨rfl,rfl⟩)
   ·(have e:qo s=false:=(by simp[qo,h0,h1,h2]);rw[e];simp only[Tryz.results49,h0,h1,h2,Bool.not_true,Bool.not_false,bne,aL,aM,aF,aj,ao,hl,vR,seval, -List.reduceReplicate];exact ak rfl ⟨rfl,rfl⟩)
  ·(have e:qo s=false:=(by simp[qo,h0,h1]);rw[e];simp only[Tryz.results49,h0,h1,Bool.not_true,Bool.not_false,bne,aL,aM,aF,aj,ao,hl,vR,seval, -List.reduceReplicate];exact ak rfl ⟨rfl,rfl⟩)
 ·rcases Bool.eq_false_or_eq_true (decide (0 < s.re)) with h1 | h1
  ·rcases Bool.eq_false_or_eq_true (s.own) with h2 | h2
   ·rcases Bool.eq_false_or_eq_true (s.peer) with h3 | h3
    ·(have e:qo s=true:=(by simp[qo,h0,h1,h2,h3]);rw[e];simp only[Tryz.results49,h0,h1,h2,h3,Bool.not_true,Bool.not_false,bne,aL,aM,aF,aj,ao,hl,vR,seval, -List.reduceReplicate];exact ak rfl ⟨rfl,rfl⟩)
    ·(have e:qo s=false:=(by simp[qo,h0,h1,h2,h3]);rw[e];simp only[Tryz.results49,h0,h1,h2,h3,Bool.not_true,Bool.not_false,bne,aL,aM,aF,aj,ao,hl,vR,seval, -List.reduceReplicate];exact ak rfl ⟨rfl,rfl⟩)
   ·(have e:qo s=false:=(by simp[qo,h0,h1,h2]);rw[e];simp only[Tryz.results49,h0,h1,h2,Bool.not_true,Bool.not_false,bne,aL,aM,aF,aj,ao,hl,vR,seval, -List.reduceReplicate];exact ak rfl ⟨rfl,rfl⟩)
  ·(have e:qo s=true:=(by simp[qo,h0,h1]);rw[e];simp only[Tryz.results49,h0,h1,Bool.not_true,Bool.not_false,bne,aL,aM,aF,aj,ao,hl,vR,seval, -List.reduceReplicate];exact ak rfl ⟨rfl,rfl⟩)
theorem Yd {M:Nat→Prop} {e:En}:AV.ok M (Ag (gB e)):=fun x hx=>SV.bk (List.all_eq_true.1 jO x hx)
theorem wq {s:St} {e:En} (hs:gy s) (he:nV e):vZ s e=true↔1≤e.ep∧(e.ep < s.re∨e.ep=s.re∧e.n < s.nr):=by
 have w1:=he.ep;have w2:=he.n;have w3:=hs.re;have w4:=hs.nr
 simp only[mC]at w1 w2 w3 w4
 simp only[vZ,Bool.and_eq_true,Bool.not_eq_true',beq_eq_false_iff_ne,decide_eq_true_eq]
 unfold vY
 constructor
 ·intro h;have:=h.1;have:=h.2;omega
 ·intro h;exact ⟨by omega,by omega⟩
theorem Ua {s:St} {e:En} {n:Nat} {f:Nat→En} {cs:List SV} (h0:aH 0 s.store n f cs) (hp:cs.all SV.plain=true) (hs:gy s) (he:nV e):
  bf Tryz.prog 76 [Ag (bC s),Ag (gB e)] 1 (lk [(0,⟨false,cs⟩)]) (fun v out=>v=B (vZ s e)∧out=fun _=>none):=by
 refine av Tryz.func76 rfl (by kernel_rfl) (by simp[Tryz.ntmps76]) Tryz.MB (fun y hy=>by
  rcases List.mem_cons.1 hy with rfl | hy
  ·exact bF (h0.ok (by decide))
  ·obtain rfl:=List.mem_singleton.1 hy
   exact Yd) dG (dH hp) ?_
 have w1:=he.ep;have w2:=he.n;have w3:=hs.re;have w4:=hs.nr
 simp only[mC]at w1 w2 w3 w4
 rcases Bool.eq_false_or_eq_true (decide (e.ep < 1)) with h0 | h0
 ·(have gh0:(e.ep < 1):=(by simpa using h0);have e:vZ s e=false:=(Bool.eq_false_iff.2 fun hh=>by have:=(wq hs he).1 hh;omega);rw[e];simp only[Tryz.results76,h0,bw,ao,vR,seval];exact ak rfl ⟨rfl,rfl⟩)
 ·rcases Bool.eq_false_or_eq_true (decide (s.re < e.ep)) with h1 | h1
  ·(have gh0: ¬ (e.ep < 1):=(by simpa using h0);have gh1:(s.re < e.ep):=(by simpa using h1);have e:vZ s e=false:=(Bool.eq_false_iff.2 fun hh=>by have:=(wq hs he).1 hh;omega);rw[e];simp only[Tryz.results76,h0,h1,bw,ao,vR,seval];exact ak rfl ⟨rfl,rfl⟩)
  ·rcases Bool.eq_false_or_eq_true (decide (e.ep < s.re)) with h2 | h2
   ·(have gh0: ¬ (e.ep < 1):=(by simpa using h0);have gh1: ¬ (s.re < e.ep):=(by simpa using h1);have gh2:(e.ep < s.re):=(by simpa using h2);have e:vZ s e=true:=((wq hs he).2 (by omega));rw[e];simp only[Tryz.results76,h0,h1,h2,bw,ao,vR,seval];exact ak rfl ⟨rfl,rfl⟩)
   ·rcases Bool.eq_false_or_eq_true (decide (e.n < s.nr)) with h3 | h3
    ·(have gh0: ¬ (e.ep < 1):=(by simpa using h0);have gh1: ¬ (s.re < e.ep):=(by simpa using h1);have gh2: ¬ (e.ep < s.re):=(by simpa using h2);have gh3:(e.n < s.nr):=(by simpa using h3);have e:vZ s e=true:=((wq hs he).2 (by omega));rw[e];simp only[Tryz.results76,h0,h1,h2,h3,bw,ao,vR,seval];exact ak rfl ⟨rfl,rfl⟩)
    ·(have gh0: ¬ (e.ep < 1):=(by simpa using h0);have gh1: ¬ (s.re < e.ep):=(by simpa using h1);have gh2: ¬ (e.ep < s.re):=(by simpa using h2);have gh3: ¬ (e.n < s.nr):=(by simpa using h3);have e:vZ s e=false:=(Bool.eq_false_iff.2 fun hh=>by have:=(wq hs he).1 hh;omega);rw[e];simp only[Tryz.results76,h0,h1,h2,h3,bw,ao,vR,seval];exact ak rfl ⟨rfl,rfl⟩)
def ri (x y:Int):Int:=if x < y then -1 else if y < x then 1 else 0
def Sf (a b:Int):Int:=if a=0 then b else a
theorem EY (x:Int):cI Tryz.prog 117 [I .u32 x] (B false):=by
 refine aJ Tryz.func117 rfl (by kernel_rfl) (by simp[Tryz.ntmps117]) rfl rfl ?_
 simp only[Tryz.results117,vS,seval]
 simp
theorem zb (x y:Int):cI Tryz.prog 96 [I .u32 x,I .u32 y] (I .i64 (ri x y)):=by
 refine aJ Tryz.func96 rfl (by kernel_rfl) (by simp[Tryz.ntmps96]) rfl rfl ?_
 simp only[Tryz.results96,vS,seval]
 refine (EY x).ax ?_
 simp only[vR,seval]
 refine (EY y).ax ?_
 simp only[vR,seval]
 by_cases h1:x < y
 ·simp only[ri,h1,decide_true,vR,seval]
 ·by_cases h2:y < x
  ·simp only[ri,h1,h2,decide_true,decide_false,vR,seval]
  ·simp only[ri,h1,h2,decide_true,decide_false,vR,seval]
theorem aeu (a b:Int):bf Tryz.prog 95 [Sl 0 0 2 2] 1 (lk [(0,⟨false,[Sum.inl (.int .i64 a),Sum.inl (.int .i64 b)]⟩)]) (fun v out=>v=I .i64 (Sf a b)∧out=fun _=>none):=by
 refine av Tryz.func95 rfl (by kernel_rfl) (by simp[Tryz.ntmps95]) Tryz.MD (by simp[AV.ok,CV.ok,SV.names]) dG (dH rfl) ?_
 simp only[Tryz.results95,vR,seval]
 have w0:IntKind.i64.wrap 1=1:=by decide
 have w1:IntKind.i64.wrap 2=2:=by decide
 by_cases ha:a=0
 ·have da:(a != 0)=false:=by simp[ha]
  by_cases hb:b=0
  ·have db:(b != 0)=false:=by simp[hb]
   refine aE 2 (fun k=>[(3,I .i64 0),(6,Sl 0 0 2 2),(7,I .i64 2),(8,I .i64 k)]) (fun k=>[(0,⟨false,[Sum.inl (.int .i64 a),Sum.inl (.int .i64 b)]⟩)]) _ ?_ ?_ ?_
   ·simp only[vR,seval]
   ·intro j hj
    have:j=0∨j=1:=by omega
    rcases this with rfl | rfl
    ·simp only[vR,seval]
     refine az rfl ?_
     simp only[da,w0,vR,seval]
    ·simp only[vR,seval]
     refine az rfl ?_
     simp only[db,w1,vR,seval]
   ·simp only[vR,seval]
    refine aD rfl ?_
    have e:Sf a b=0:=by simp[Sf,ha,hb]
    simp only[e,vR,seval]
    exact ak rfl ⟨rfl,rfl⟩
  ·have db:(b != 0)=true:=by simp[hb]
   refine aE 1 (fun k=>[(3,I .i64 0),(6,Sl 0 0 2 2),(7,I .i64 2),(8,I .i64 k)]) (fun k=>[(0,⟨false,[Sum.inl (.int .i64 a),Sum.inl (.int .i64 b)]⟩)]) _ ?_ ?_ ?_
   ·simp only[vR,seval]
   ·intro j hj
    obtain rfl:j=0:=by omega
    simp only[vR,seval]
    refine az rfl ?_
    simp only[da,w0,vR,seval]
   ·simp only[vR,seval]
    refine az rfl ?_
    have e:Sf a b=b:=by simp[Sf,ha]
    simp only[db,e,vR,seval]
    exact ak rfl ⟨rfl,rfl⟩
 ·have da:(a != 0)=true:=by simp[ha]
  refine aE 0 (fun k=>[(3,I .i64 0),(6,Sl 0 0 2 2),(7,I .i64 2),(8,I .i64 k)]) (fun k=>[(0,⟨false,[Sum.inl (.int .i64 a),Sum.inl (.int .i64 b)]⟩)]) _ ?_ ?_ ?_
  ·simp only[vR,seval]
  ·intro j hj;omega
  ·simp only[vR,seval]
   refine az rfl ?_
   have e:Sf a b=a:=by simp[Sf,ha]
   simp only[da,e,vR,seval]
   exact ak rfl ⟨rfl,rfl⟩
theorem PI {x y:En} (hx:nV x) (hy:nV y):(0≤Sf (ri x.ep y.ep) (ri x.n y.n))↔ ¬ (vY x.ep x.n < vY y.ep y.n):=by
 have w1:=hx.ep;have w2:=hx.n;have w3:=hy.ep;have w4:=hy.n
 simp only[mC]at w1 w2 w3 w4
 unfold vY Sf ri
 constructor
 ·intro h h';revert h;split<;>(try split)<;>(try split)<;>(try split)<;>omega
 ·intro h;split<;>(try split)<;>(try split)<;>(try split)<;>omega
theorem BX (x y:En):cI Tryz.prog 77 [Ag (gB x),Ag (gB y)] (I .i64 (Sf (ri x.ep y.ep) (ri x.n y.n))):=by
 refine aJ Tryz.func77 rfl (by kernel_rfl) (by simp[Tryz.ntmps77]) (by simp only[List.all_cons,List.all_nil,Bool.and_true];exact Bool.and_eq_true_iff.2 ⟨show List.all (gB x) SV.plain=true from jO,show List.all (gB y) SV.plain=true from jO⟩) rfl ?_
 simp only[Tryz.results77,bw,vR,seval]
 refine ⟨by kernel_rfl, ?_⟩
 refine cI.draw (zb x.ep y.ep) Tryz.BT ?_
 simp only[bw,vR,seval]
 refine cI.draw (zb x.n y.n) Tryz.BT ?_
 have spl: ∀ a b:SV,splice (splice (af IntKind.i64 2 fun _=>0) 0 [a]) 1 [b]=[a,b]:=fun _ _=>rfl
 simp only[spl,bw,vR,seval]
 refine ⟨Nat.le_refl 2, ?_⟩
 refine (aeu (ri x.ep y.ep) (ri x.n y.n)).cQ (fun _=>13) (bS (rw:=true) (cs:=[Sum.inl (Value.int IntKind.i64 (ri x.ep y.ep)),Sum.inl (Value.int IntKind.i64 (ri x.n y.n))]) ?_ rfl) rfl rfl (fun M h n _=>h _ (List.Mem.head _)) ?_
 ·simp only[ay]
 simp only[vR,seval]
theorem oB {s:St} {f:Nat→En} {j n:Nat} (hj:j < n) (h:Bt s f j=false):mN s f n=false:=by
 induction n with
 | zero=>omega
 | succ n ih=>
  rw[mN]
  by_cases e:j=n
  ·subst e;rw[h,Bool.and_false]
  ·rw[ih (by omega),Bool.false_and]
theorem Ub {M:Nat→Prop} {s:St} {t o n c:Nat} (e:s.store= .inr (.inr (t,o,n,c))) (h:AV.ok M (Ag (bC s))):M t:=by
 have:s.store ∈ bC s:=by simp[bC,xh]
 have:=(h _ this).1
 rw[e]at this;exact this
theorem Gh {s:St} {n:Nat} {f:Nat→En} {cs:List SV} (h0:aH 0 s.store n f cs) (hp:cs.all SV.plain=true) (hs:gy s) (hf: ∀ i,nV (f i)) (hn:n < 4611686018427387904):
  bf Tryz.prog 50 [Ag (bC s)] 1 (lk [(0,⟨false,cs⟩)]) (fun v out=>v=B (mN s f n)∧out=fun _=>none):=by
 refine av Tryz.func50 rfl (by kernel_rfl) (by simp[Tryz.ntmps50]) Tryz.uj (fun y hy=>by
  obtain rfl:=List.mem_singleton.1 hy
  exact bF (h0.ok (by decide))) dG (dH hp) ?_
 have fO: ∀ {M:Nat→Prop},(∀ x ∈ cs,SV.ok M x)=True:=eq_true (aC hp)
 have hl:=h0.len
 simp only[Tryz.results50,hl,ao,vR,seval, -List.reduceReplicate]
 refine qE n (fun k=>mN s f k=true) (fun k=>[(1,Ptr 1 0),(6, .inl (.inl s.store)),(7,I .i64 n),(8,I .i64 k)]) (fun k=>[(0,⟨false,cs⟩),(1,⟨true,bC s⟩)]) _ ?_ ?_ ?_
 ·refine ⟨rfl, ?_⟩
  simp only[fO,vR,seval, -List.reduceReplicate]
  exact ⟨(h0.ok (M:=fun n=>n < 7) (by decide)).1,bF (h0.ok (by decide))⟩
 ·intro j hj hinv
  have h1:=h0
  rcases h0 with ⟨_,rfl⟩ | ⟨o,c,e,hc,hsh⟩
  ·omega
  have b1:=hsh.lt hj
  simp only[vR,seval, -List.reduceReplicate]
  refine az (by simp;omega) ?_
  simp only[e,aW,cF hj,hsh j hj,b1,bw,ao,vR,seval, -List.reduceReplicate]
  refine ⟨by kernel_rfl, ?_⟩
  refine (Ua h1 hp hs (hf j)).cQ (fun _=>0) (bS (rw:=false) ?_ hp) rfl ?_ (fun M h n _=>Ub e (h _ (List.Mem.head _))) ?_
  ·simp only[ae,vR,seval, -List.reduceReplicate]
  ·have:AV.aI (fun _=>0) (Ag (bC s))=Ag (bC s):=by rw[eM];rw[e];simp only[SV.aI,jI];rw[← e]
   have h2:AV.aI (fun _=>0) (Ag (gB (f j)))=Ag (gB (f j)):=AV.bB (show AV.plain (Ag (gB (f j)))=true from jO (e:=f j)) _
   simp only[List.map_cons,List.map_nil,this,h2]
  have nb:AV.ok (fun n=>n < 7) (Ag (bC s)):=bF (h1.ok (by decide))
  rcases Bool.eq_false_or_eq_true (vZ s (f j)) with p1 | p1
  ·by_cases j0:j=0
   ·have d0:decide (0 < (j:Int))=false:=decide_eq_false (by omega)
    have g1:mN s f (j+1)=true:=by rw[mN,hinv,Bt,p1,decide_eq_true j0];rfl
    simp only[p1,d0,g1,Bool.not_true,bt j (by omega),vR,seval, -List.reduceReplicate]
    exact ⟨aC hp,nb⟩
   ·have d0:decide (0 < (j:Int))=true:=decide_eq_true (by omega)
    have w1:IntKind.i64.wrap ((j:Int) - 1)=((j - 1:Nat):Int):=X2 j 1 (by omega) (by omega)
    have Sg:j - 1 < n:=by omega
    have b2:=hsh.lt Sg
    simp only[p1,d0,e,w1,aW,cF Sg,hsh (j - 1) Sg,b2,Bool.not_true,bw,ao,vR,seval, -List.reduceReplicate]
    refine cI.draw (BX (f (j - 1)) (f j)) Tryz.MC ?_
    by_cases hc0:vY (f (j - 1)).ep (f (j - 1)).n < vY (f j).ep (f j).n
    ·have d1:decide (0≤Sf (ri (f (j - 1)).ep (f j).ep) (ri (f (j - 1)).n (f j).n))=false:=decide_eq_false fun h=>(PI (hf _) (hf _)).1 h hc0
     have g1:mN s f (j+1)=true:=by rw[mN,hinv,Bt,p1,decide_eq_true hc0];simp
     simp only[d1,g1,bt j (by omega),vR,seval, -List.reduceReplicate]
     exact ⟨aC hp,nb⟩
    ·have d1:decide (0≤Sf (ri (f (j - 1)).ep (f j).ep) (ri (f (j - 1)).n (f j).n))=true:=decide_eq_true ((PI (hf _) (hf _)).2 hc0)
     have g1:mN s f n=false:=oB hj (by rw[Bt,decide_eq_false hc0,decide_eq_false j0];simp)
     simp only[d1,g1,vR,seval, -List.reduceReplicate]
     exact ak rfl ⟨rfl,rfl⟩
  ·have g1:mN s f n=false:=oB hj (by rw[Bt,p1];rfl)
   simp only[p1,g1,Bool.not_false,vR,seval, -List.reduceReplicate]
   exact ak rfl ⟨rfl,rfl⟩
 ·intro hinv
  simp only[vR,seval, -List.reduceReplicate]
  refine aD (by simp) ?_
  simp only[hinv,vR,seval, -List.reduceReplicate]
  exact ak rfl ⟨rfl,rfl⟩
theorem jv.calls {P:Program} [bU.Tables P] {s:AS} {nm n fn:Nat} {f:Nat→En} {x:St} {w:AV} (h:jv s.box x.store n f) (hw:AV.plain w=true)
  (hm: ∀ (v:SV) (cs:List SV),aH 0 v n f cs→cs.all SV.plain=true→bf P fn [Ag (bC { x with store:=v })] 1 (lk [(0,⟨false,cs⟩)]) (fun u out=>u=w∧out=fun _=>none)) {dst:Option Nat} {K:AS→Prop} (hk:K (s.put dst (some w))):
  ax P nm fn (some [Ag (bC x)]) dst K s:=by
 obtain ⟨t,rw,cs,hb,hp,hi⟩:=h
 obtain ⟨v0,g0,e0⟩:=hi.name (k:=0)
 refine (hm v0 cs g0 hp).cW (fun _=>t) (bS hb hp) hw ?_ hk
 simp only[List.map_cons,List.map_nil,eM,e0 (fun _=>t) rfl]
theorem Uc {s:St} {v:SV} {f:Nat→En} {n:Nat}:mN { s with store:=v } f n=mN s f n:=by
 induction n with
 | zero=>rfl
 | succ n ih=>rw[mN,mN,ih];rfl
theorem MH {s:St} {v:SV} {f:Nat→En} {n:Nat}:jn { s with store:=v } n f=jn s n f:=by
 unfold jn;rw[Uc];rfl
theorem Wq {s:St} {n:Nat} {f:Nat→En} {cs:List SV} (h0:aH 0 s.store n f cs) (hp:cs.all SV.plain=true) (hs:gy s) (hf: ∀ i,nV (f i)) (hn:n < 4611686018427387904):
  bf Tryz.prog 27 [Ag (bC s)] 1 (lk [(0,⟨false,cs⟩)]) (fun v out=>v=B (jn s n f)∧out=fun _=>none):=by
 refine av Tryz.func27 rfl (by kernel_rfl) (by simp[Tryz.ntmps27]) Tryz.tV (fun y hy=>by
  obtain rfl:=List.mem_singleton.1 hy
  exact bF (h0.ok (by decide))) dG (dH hp) ?_
 have CY: ∀ {box:Nat→Option aN},box 0=some ⟨false,cs⟩→jv box s.store n f:=fun hb=>⟨0,false,cs,hb,hp,h0⟩
 simp only[Tryz.results27,ao,vR,seval, -List.reduceReplicate]
 refine jv.calls (n:=n) (f:=f) (w:=B (fx s n)) (CY (by simp only[ae,vR,seval, -List.reduceReplicate])) rfl (fun v cs hv hp=>T7 (s:={ s with store:=v }) hv hp) ?_
 rcases Bool.eq_false_or_eq_true (fx s n) with b1 | b1
 rotate_left 1
 ·simp only[jn,b1,Bool.false_and,ao,vR,seval, -List.reduceReplicate]
  exact ak rfl ⟨rfl,rfl⟩
 have fin: ∀ {t:AS} {b:Bool},b=jn s n f→qA 1 (fun v out=>v=B (jn s n f)∧out=fun _=>none) (B b) t:=fun e=>ak rfl ⟨by rw[e],rfl⟩
 rcases Bool.eq_false_or_eq_true s.own with b2 | b2
 rotate_left 1
 rcases Bool.eq_false_or_eq_true s.peer with b3 | b3
 rotate_left 1
 ·simp only[b1,b2,b3,ao,vR,seval, -List.reduceReplicate]
  exact fin (by simp[jn,b2,b3])
 all_goals
  simp only[b1,b2,ao,vR,seval, -List.reduceReplicate]
  try simp only[b3,ao,vR,seval, -List.reduceReplicate]
  refine jv.calls (n:=n) (f:=f) (w:=B (dp s)) (CY (by simp only[ae,vR,seval, -List.reduceReplicate])) rfl (fun v cs hv hp=>T8 (s:={ s with store:=v }) hv hp) ?_
  rcases Bool.eq_false_or_eq_true (dp s) with b4 | b4
  rotate_left 1
  ·simp only[b4,ao,vR,seval, -List.reduceReplicate]
   exact fin (by simp[jn,b4])
  simp only[b4,ao,vR,seval, -List.reduceReplicate]
  refine jv.calls (n:=n) (f:=f) (w:=B (eQ s)) (CY (by simp only[ae,vR,seval, -List.reduceReplicate])) rfl (fun v cs hv hp=>Rf (s:={ s with store:=v }) hv hp) ?_
  rcases Bool.eq_false_or_eq_true (eQ s) with b5 | b5
  rotate_left 1
  ·simp only[b5,ao,vR,seval, -List.reduceReplicate]
   exact fin (by simp[jn,b5])
  simp only[b5,ao,vR,seval, -List.reduceReplicate]
  refine jv.calls (n:=n) (f:=f) (w:=B (qo s)) (CY (by simp only[ae,vR,seval, -List.reduceReplicate])) rfl (fun v cs hv hp=>T9 (s:={ s with store:=v }) hv hp) ?_
  rcases Bool.eq_false_or_eq_true (qo s) with b6 | b6
  rotate_left 1
  ·simp only[b6,ao,vR,seval, -List.reduceReplicate]
   exact fin (by simp[jn,b6])
  simp only[b6,ao,vR,seval, -List.reduceReplicate]
  refine jv.calls (n:=n) (f:=f) (w:=B (mN s f n)) (CY (by simp only[ae,vR,seval, -List.reduceReplicate])) rfl (fun v cs hv hp=>by have:=Gh (s:={ s with store:=v }) hv hp (hs.ws v) hf hn;rwa [Uc]at this) ?_
  simp only[ao,vR,seval, -List.reduceReplicate]
  exact fin (by simp[jn,b1,b2,b4,b5,b6, *])
end Go.Proofs.YtpnehhpadofcbaaGreatDoor
