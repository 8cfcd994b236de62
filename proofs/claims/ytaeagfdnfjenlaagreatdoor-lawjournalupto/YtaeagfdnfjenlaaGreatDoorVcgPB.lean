/-
  The function at whatever is handed in: it returns true and writes nothing that was there.
-/
import Derived.Test.YtaeagfdnfjenlaaGreatDoorVcgPL
import Derived.Test.YtaeagfdnfjenlaaGreatDoorVcgN7
import Derived.Deep.DeepHandedRow
import Derived.Deep.DeepWitnessRowRef
set_option maxRecDepth 100000
set_option linter.unusedVariables false
set_option linter.unusedSimpArgs false
namespace Go.Proofs.YtaeagfdnfjenlaaGreatDoor.lawJournalDone

open Go.ChangeShapes Go.WideShapes Go.ChangeAt Go.RowKit
open Go.cn
set_option linter.unusedVariables false
set_option linter.unusedSimpArgs false
theorem EC [aX] {w:World} {v:Value} {n t:Nat} {f:Nat→Int} (h0:0 < w.heap.size) (h:vZ w v n f):
  ∃ sv b o cs,(∀ g:Where,g t=(b,o)→SV.ah g sv=v)∧cS t sv n f cs∧cs.all SV.plain=true∧b < w.heap.size∧ ∀ (g:Where) i x,cs[i]? =some x→w.cell? ⟨b,o+i,none⟩=some (SV.ah g x):=by
 rcases h with ⟨a,rfl,rfl⟩ | ⟨b,o,c,rfl,hb,hc,hf⟩
 ·exact ⟨.inl (.slice a 0 0),0,0,[],fun g _=>rfl, .inl ⟨⟨a,rfl⟩,rfl⟩,rfl,h0,fun g i x hx=>by cases hx⟩
 ·refine ⟨.inr (.inr (t,0,n,c)),b,o,ai .u8 n f,fun g hg=> ?_, .inr ⟨0,c,rfl,hc,dL⟩,az,hb,fun g i x hx=> ?_⟩
  ·show Value.slice (some ⟨(g t).1,(g t).2+0,none⟩) n c=_
   rw[hg];rfl
  ·by_cases hi:i < n
   ·rw[bN .u8 n f i hi]at hx
    obtain rfl:=Option.some.inj hx
    exact hf i hi
   ·rw[List.getElem?_eq_none (by rw[aD];omega)]at hx;cases hx
theorem L7 [aX] {w:World} {v:Value} {n t:Nat} {f:Nat→Bool} (h0:0 < w.heap.size) (h:yo w v n f):
  ∃ sv b o cs,(∀ g:Where,g t=(b,o)→SV.ah g sv=v)∧dE t sv n f cs∧cs.all SV.plain=true∧b < w.heap.size∧ ∀ (g:Where) i x,cs[i]? =some x→w.cell? ⟨b,o+i,none⟩=some (SV.ah g x):=by
 rcases h with ⟨a,rfl,rfl⟩ | ⟨b,o,c,rfl,hb,hc,hf⟩
 ·exact ⟨.inl (.slice a 0 0),0,0,[],fun g _=>rfl, .inl ⟨⟨a,rfl⟩,rfl⟩,rfl,h0,fun g i x hx=>by cases hx⟩
 ·refine ⟨.inr (.inr (t,0,n,c)),b,o,nw n f,fun g hg=> ?_, .inr ⟨0,c,rfl,fun i hi=>by rw[Nat.zero_add];exact nJ hi⟩,gp,hb,fun g i x hx=> ?_⟩
  ·show Value.slice (some ⟨(g t).1,(g t).2+0,none⟩) n c=_
   rw[hg];rfl
  ·by_cases hi:i < n
   ·rw[nJ hi]at hx
    obtain rfl:=Option.some.inj hx
    exact hf i hi
   ·rw[List.getElem?_eq_none (by rw[jB];omega)]at hx;cases hx
def three (a b c:Nat×Nat) (t:Nat):Nat×Nat:=if t=0 then a else if t=1 then b else c
theorem afk [aX] {w:World} {a b c:Nat×Nat} {cs ds es:List SV} (ha:a.1 < w.heap.size) (hb:b.1 < w.heap.size) (hc:c.1 < w.heap.size)
  (ca: ∀ (g:Where) i x,cs[i]? =some x→w.cell? ⟨a.1,a.2+i,none⟩=some (SV.ah g x)) (cb: ∀ (g:Where) i x,ds[i]? =some x→w.cell? ⟨b.1,b.2+i,none⟩=some (SV.ah g x)) (cc: ∀ (g:Where) i x,es[i]? =some x→w.cell? ⟨c.1,c.2+i,none⟩=some (SV.ah g x)):
  cY (three a b c) (kB (lk [(0,⟨false,cs⟩),(1,⟨false,ds⟩),(2,⟨false,es⟩)])) w:=by
 refine ⟨fun t bx ht=> ?_,fun t bx ht i x hx=> ?_,fun t bx ht hrw=> ?_,fun t t' bx oB ht hrw=> ?_⟩
 ·rcases Vh ht with ⟨rfl,rfl⟩ | ⟨rfl,rfl⟩ | ⟨rfl,rfl⟩
  ·exact ha
  ·exact hb
  ·exact hc
 ·rcases Vh ht with ⟨rfl,rfl⟩ | ⟨rfl,rfl⟩ | ⟨rfl,rfl⟩
  ·exact ca _ i x hx
  ·exact cb _ i x hx
  ·exact cc _ i x hx
 ·rcases Vh ht with ⟨rfl,rfl⟩ | ⟨rfl,rfl⟩ | ⟨rfl,rfl⟩<;>cases hrw
 ·rcases Vh ht with ⟨rfl,rfl⟩ | ⟨rfl,rfl⟩ | ⟨rfl,rfl⟩<;>cases hrw
theorem walk [aX] {w:World} {rg at_ cut:Int} {v1 v2 ks:Value} {n np kn:Nat} {f pf:Nat→Int} {kb:Nat→Bool} (hl:Laid Tryz.prog w) (hf:eJ f) (hpf:eJ pf) (hn:n≤1048576) (hnp:np≤1048576) (hkn:kn≤1048576)
  (h1:vZ w v1 n f) (h2:vZ w v2 np pf) (h3:yo w ks kn kb):
  Calls Tryz.prog 3 #[.int .i64 rg,v1,v2, .agg #[.int .i64 at_,ks, .int .i64 cut]] w fun e w'=>e= .returned (.bool true)∧Below w.heap.size w w':=by
 have h0:0 < w.heap.size:=(hl.rows 0 _ Tryz.Zm).1
 obtain ⟨sp,b1,o1,ps,g1,p1,q1,l1,c1⟩:=EC (t:=1) h0 h2
 obtain ⟨sk,b2,o2,kc,g2,p2,q2,l2,c2⟩:=L7 (t:=2) h0 h3
 obtain ⟨si,b,o,cs,g0,p0,q0,l0,c0⟩:=EC (t:=0) h0 h1
 have hm:=(acD (rg:=rg) (at_:=at_) (cut:=cut) p0 q0 hn hf p2 q2 hkn p1 q1 hpf hnp).call (fun _=>False) (three (b,o) (b1,o1) (b2,o2)) w hl (fun _ _ _ h=>h)
  (afk l0 l1 l2 c0 c1 c2) (fun t bx ht hrw=>by rcases Vh ht with ⟨rfl,rfl⟩ | ⟨rfl,rfl⟩ | ⟨rfl,rfl⟩<;>cases hrw)
 have e0:SV.ah (three (b,o) (b1,o1) (b2,o2)) si=v1:=g0 _ rfl
 have e1:SV.ah (three (b,o) (b1,o1) (b2,o2)) sp=v2:=g1 _ rfl
 have e2:SV.ah (three (b,o) (b1,o1) (b2,o2)) sk=ks:=g2 _ rfl
 subst e0;subst e1;subst e2
 refine hm.mono ?_
 rintro e w' ⟨r,out,g',rfl,⟨rfl,rfl⟩,_,_,_,_,_,hfr⟩
 exact ⟨rfl,Kept.below hfr⟩
open Go.ChangeShapes Go.WideShapes Go.ChangeAt Go.RowKit
open Go.cn
set_option linter.unusedVariables false
set_option linter.unusedSimpArgs false
theorem UN (os:Os) (args:Array Value):laidMetH Tryz.prog tabs ((World.doorLaid Tryz.prog 4000 os).forCall (fun _ _=>0) ⟨#[],args,[]⟩).memory:=
 laidMetH_of_parts3 (fuel:=8) (laidMet_of_run' 8 (by kernel_rfl) (by kernel_rfl)) (by kernel_rfl) (by kernel_rfl)
theorem bound {H:Type} {l:List (DataW H)} (h:Rows.uptoSmall H l=true):Rows.uptoBulkAll l≤1048576:=of_decide_eq_true h
theorem contract (H:Type) (enc:TypeId×Value→H) (W:World) (base:Nat) (args:Array Value) (ds gs:List (DataW H)) (before:List MemPlace)
  (hval: ∀ (j:Nat) t v,Tryz.f3.params[j]? =some t→args[j]? =some v→Value.okWide Tryz.prog W .any base t v)
  (hW:DataW.Whole enc Tryz.prog Tryz.f3.params.toList Rows.lawJournalSpec.vars false W args.toList ds gs before) (hk:Rows.uptoSmall H (ds++gs)=true) (hL:laidMetH Tryz.prog tabs W):
  Calls Tryz.prog 3 args W fun e W'=> ∃ v,e= .returned v∧Rows.lawJournalSpec.post enc Tryz.prog Tryz.f3 false true false false W args v W':=by
 have hW':=hW
 have AA:=bound hk
 obtain ⟨p,q,qd,hV,rfl,hfz,hnd⟩:=hW
 have hA:DataW.TrodAll enc Tryz.prog W 0 (fun _=>true) true Tryz.f3.params.toList args.toList ds p:=qd
 rw[Tryz.params3]at hA hval
 obtain ⟨v0,vs0,e0,ds0,p0,q0,hargs,rfl,rfl,h0,r0⟩:=trodAll_cons hA
 obtain ⟨v1,vs1,e1,ds1,p1,q1,rfl,rfl,rfl,h1,r1⟩:=trodAll_cons r0
 obtain ⟨v2,vs2,e2,ds2,p2,q2,rfl,rfl,rfl,h2,r2⟩:=trodAll_cons r1
 obtain ⟨v3,vs3,e3,ds3,p3,q3,rfl,rfl,rfl,h3,r3⟩:=trodAll_cons r2
 obtain ⟨rfl,rfl,rfl⟩:=trodAll_nil r3
 obtain rfl:args= #[v0,v1,v2,v3]:=by cases args;simp_all
 obtain ⟨rfl,rfl⟩:=trodVars_none hV
 have b1:=rk (l:=[e0,e1,e2,e3]++[]) (i:=1) (d:=e1) rfl
 have b2:=rk (l:=[e0,e1,e2,e3]++[]) (i:=2) (d:=e2) rfl
 have b3:=rk (l:=[e0,e1,e2,e3]++[]) (i:=3) (d:=e3) rfl
 have lt0: ∀ x ∈ p0,x.block < W.heap.size:=by obtain ⟨m,hm⟩:=h0;exact DataW.trod_lt m _ _ _ hm
 have lt1: ∀ x ∈ p1,x.block < W.heap.size:=by obtain ⟨m,hm⟩:=h1;exact DataW.trod_lt m _ _ _ hm
 have lt2: ∀ x ∈ p2,x.block < W.heap.size:=by obtain ⟨m,hm⟩:=h2;exact DataW.trod_lt m _ _ _ hm
 have lt3: ∀ x ∈ p3,x.block < W.heap.size:=by obtain ⟨m,hm⟩:=h3;exact DataW.trod_lt m _ _ _ hm
 obtain ⟨rg,rfl⟩: ∃ rg,v0= .int .i64 rg:=by
  obtain ⟨m,rfl,_⟩:=open_int Tryz.underlying3 (hval 0 3 v0 rfl rfl) h0
  exact ⟨m,rfl⟩
 obtain ⟨a1,adv,adw,rfl⟩:=okWide_slice Tryz.underlying22 (hval 1 22 v1 rfl rfl)
 obtain ⟨a2,adx,ady,rfl⟩:=okWide_slice Tryz.underlying22 (hval 2 22 v2 rfl rfl)
 obtain ⟨n,f,bf,m1,i1⟩: ∃ n f,eJ f∧n≤Rows.uptoBulk e1∧vZ W (.slice a1 adv adw) n f:=by
  have h1':=h1
  obtain ⟨fuel,hfu⟩:=h1'
  obtain ⟨v,n,f,e,g1,g2,g3⟩:=D4 hfu
  obtain rfl:Value.slice a1 adv adw=v:=by simpa[Value.cells] using e
  exact ⟨n,f,g1,g2,g3⟩
 obtain ⟨np,pf,bp,m2,i2⟩: ∃ n f,eJ f∧n≤Rows.uptoBulk e2∧vZ W (.slice a2 adx ady) n f:=by
  have h2':=h2
  obtain ⟨fuel,hfu⟩:=h2'
  obtain ⟨v,n,f,e,g1,g2,g3⟩:=D4 hfu
  obtain rfl:Value.slice a2 adx ady=v:=by simpa[Value.cells] using e
  exact ⟨n,f,g1,g2,g3⟩
 obtain ⟨at_,ks,cut,kn,kb,rfl,m3,i3⟩:=K9 (hval 3 25 v3 rfl rfl) h3
 clear qd
 obtain ⟨E,hLd⟩:=VE hL
 refine (walk hLd bf bp (Nat.le_trans m1 (Nat.le_trans b1 AA)) (Nat.le_trans m2 (Nat.le_trans b2 AA)) (Nat.le_trans m3 (Nat.le_trans b3 AA)) i1 i2 i3).mono fun e W' ⟨he,bel⟩=> ?_
 subst he
 exact ⟨_,rfl,_,_,_,[],_,[],hW',trodAll_mk1 (shut_bool Tryz.underlying4 _),
  (trodAll_cons_mk (Below.trod laidOut (by kernel_rfl) (of_decide_eq_true (by kernel_rfl)) h0 bel lt0) (trodAll_cons_mk (Below.trod laidOut (by kernel_rfl) (of_decide_eq_true (by kernel_rfl)) h1 bel lt1) (trodAll_cons_mk (Below.trod laidOut (by kernel_rfl) (of_decide_eq_true (by kernel_rfl)) h2 bel lt2) (trodAll_cons_mk (Below.trod laidOut (by kernel_rfl) (of_decide_eq_true (by kernel_rfl)) h3 bel lt3) trodAll_mk0)))),rfl,bel.frame _,fun h=>by cases h⟩
def B5:Array Value:= #[.int .i64 0, .slice none 0 0, .slice none 0 0, .agg #[.int .i64 0, .slice none 0 0, .int .i64 0]]
theorem reads (os:Os) {H:Type} (enc:TypeId×Value→H): ∃ places,DataW.whole enc Tryz.prog ((World.doorLaid Tryz.prog 4000 os).forCall (fun _ _=>0) ⟨#[],B5,[]⟩).memory Tryz.f3.params.toList Rows.lawJournalSpec.vars false B5.toList 40=some ([.lit (.int .i64 0), .nil, .nil, .agg [.lit (.int .i64 0), .nil, .lit (.int .i64 0)]],[],places):=
 ⟨[],by kernel_rfl⟩
theorem lifted (os:Os) (started:os.Started) (H:Type) (enc:TypeId×Value→H) (F:Stop.Interp):
  ReturnsInHanded {} Tryz.checked os 3 .any ((Rows.OpenSpec.upto Rows.lawJournalSpec).preRow enc Tryz.prog Tryz.f3 Rows.lawJournalUptoRow.domain false Rows.lawJournalUptoRow.laid) (((Rows.OpenSpec.upto Rows.lawJournalSpec).at F).post enc Tryz.prog Tryz.f3 false true false false):=by
 obtain ⟨places,hx⟩:=reads os enc
 refine returnsInHanded_of_row (C:=Tryz.checked) (s:=Rows.OpenSpec.upto Rows.lawJournalSpec) own started (by kernel_rfl) Tryz.func3
  (witness_row_atRef (enc:=enc) (C:=Tryz.checked) false (World.doorLaid Tryz.prog 4000 os) B5 rfl (by kernel_rfl) (by kernel_rfl) (by kernel_rfl)
   (OpenSpec.preRow_of_cond 40 hx (by kernel_rfl) (fun k hk=>by cases hk;kernel_rfl) (by kernel_rfl) (UN os _))) ?_
 intro W base args ds gs before hval hW _ qk _ hL _ _
 exact contract H enc W base args ds gs before hval hW (qk _ rfl) hL
theorem over:Rows.LawJournalUptoSaid:=
 OpenClaim.holds_of_cond 3 Tryz.f3 rfl rfl rfl rfl rfl rfl rfl ⟨rfl,rfl,rfl,rfl,rfl⟩ rfl rfl rfl rfl rfl (by kernel_rfl) Tryz.func3 (by kernel_rfl)
  (of_decide_eq_true (by kernel_rfl)) (by unfold Func.isWrapper;first | (rw[if_pos (by decide+kernel)];kernel_rfl) | (rw[if_neg (by decide+kernel)];exact ⟨rfl,rfl⟩))
  (fun os started H enc _ F=>by rw[OpenClaim.pre_eq_preRow];exact lifted os started H enc F)
end Go.Proofs.YtaeagfdnfjenlaaGreatDoor.lawJournalDone
