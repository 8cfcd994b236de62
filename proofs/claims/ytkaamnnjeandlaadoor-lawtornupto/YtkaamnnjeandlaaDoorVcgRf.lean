/-
  A range over an iterator that never yields; and a function's way out past the mark that such a range has left. Nothing here speaks of a program.
-/
import Derived.Test.YtkaamnnjeandlaaDoorVcgPz
import Derived.RangeFuncRecord
import Derived.ControlIn
set_option linter.unusedSimpArgs false
set_option linter.unusedVariables false
namespace Go.bM
set_option linter.unusedSectionVars false
section
variable {P:Program} [Tables P] {W:Nat→Prop} {N:Nat} {w0:Base P} {M:Nat→Prop} {g:Where} {s:AS} {a:Act} {w:World}
theorem Kept.alloc (w:World) (o:Obj):Kept w (w.alloc o):=
 ⟨rfl,rfl,rfl,by simp,fun k hk _=>RowKit.Below.heap_alloc w o k hk⟩
theorem Kept.put {w w':World} (h:Kept w w') {l:Nat} (o:Obj) (hl:w.heap.size≤l):Kept w (w'.putObj l o):=
 ⟨h.os,h.tape,h.output,by rw[World.putObj_size];exact h.size,fun k hk hn=>by rw[World.putObj_heap_other (by omega)];exact h.block k hk hn⟩
theorem x8 {op:Operand} {ps:Array Tmp} {assign body:Code} {Q:Exit→Act→World→Prop} {gf:Nat} {lb:Array Value} (hg:a.eval op= .func (.func gf) #[] lb) (hc:au P gf=true)
  (vU: ∀ l W,Kept w W→Calls P gf (#[.func (.yield l) #[] #[]]++lb) W fun e W'=>(∃ v,e= .returned v)∧Kept W W')
  (hQ: ∀ D W',w.heap.size≤D→Kept w W'→W'.heap[D]? =some (.deferred (some []))→Q .normal { a with defers:={ target:= .collected D,args:= #[] }::a.defers } W'):
  (Code.rangeFunc op ps assign body).wp P Q a w:=by
 refine (wpIn_wide (n:=0)).1 (wpIn_rangeFunc ?_)
 intro fn _
 let M8:Loop:={ state:= .ready,pending:=none,fn,tmps:=a.tmps,params:=ps,assign,body,defers:=w.heap.size }
 let W1:World:=(w.alloc (.deferred (some []))).alloc (.loop M8)
 have k1:Kept w W1:=(Kept.alloc w _).trans ((Kept.alloc _ _))
 have hD:W1.heap[w.heap.size]? =some (.deferred (some [])):=(RowKit.Below.heap_alloc _ _ _ (by simp)).trans (World.alloc_heap_new w _)
 have hL:W1.heap[w.heap.size+1]? =some (.loop M8):=by
  have:=World.alloc_heap_new (w.alloc (.deferred (some []))) (.loop M8)
  rwa [World.size_alloc]at this
 refine ⟨w.heap.size+1,[{ target:= .collected w.heap.size,args:= #[] }],W1,{ target:= .fn (.func gf) lb,args:= #[.func (.yield (w.heap.size+1)) #[] #[]] },W1,gf,
  #[.func (.yield (w.heap.size+1)) #[] #[]]++lb,W1,run_enterLoop_outer _ _ _ _ _, ?_,fun _ _=>trivial, ?_,fun h=>(by cases h), ?_⟩
 ·have hy:a.eval (.const (.func (.yield (w.heap.size+1)) #[] #[]))= .func (.yield (w.heap.size+1)) #[] #[]:=rfl
  simp[resolve,hg,Deferred.ofValue,hy]
 ·simp only[invoke]
  exact cq hc _ _
 ·refine callsIn_wide.2 ((vU _ W1 k1).mono ?_)
  rintro e W2 ⟨⟨v,rfl⟩,k2⟩
  have s1:W1.heap.size=w.heap.size+2:=by show ((w.alloc _).alloc _).heap.size=_;simp
  have hL2:W2.heap[w.heap.size+1]? =some (.loop M8):=(k2.heap (by omega)).trans hL
  have hD2:W2.heap[w.heap.size]? =some (.deferred (some [])):=(k2.heap (by omega)).trans hD
  refine ⟨none,_,run_endLoop hL2 (by simp[M8]), ?_⟩
  exact hQ w.heap.size _ (Nat.le_refl _) (Kept.put (k1.trans k2) _ (by omega)) (by rw[World.putObj_heap_other (by omega)];exact hD2)
theorem br.Pf (h:br W N w0 M g s a w) {D:Nat} {x y:Option (List Deferred)} (hD:w.heap[D]? =some (.deferred x)) (hlt:w0.heap.size≤D):br W N w0 M g s a (w.putObj D (.deferred y)):=by
 have hc: ∀ b i,b≠D→(w.putObj D (.deferred y)).cell? ⟨b,i,none⟩=w.cell? ⟨b,i,none⟩:=fun b i hb=>by
  unfold World.cell?
  simp only[World.putObj_heap_other hb]
 have hn: ∀ i,w.cell? ⟨D,i,none⟩=none:=fun i=>by
  unfold World.cell?
  simp only[hD]
 have hd:D < w.heap.size:=(Array.getElem?_eq_some_iff.1 hD).1
 refine ⟨h.size,h.defers,h.env,h.names,⟨fun t b hb=>by rw[World.putObj_size];exact h.mem.lt t b hb,fun t b hb i v hv=> ?_,fun t b hb hrw i hi=> ?_,h.mem.sep⟩,h.own, ?_,h.pin,h.tabs⟩
 ·have h1:=h.mem.cell t b hb i v hv
  by_cases e:(g t).1=D
  ·rw[e,hn]at h1;cases h1
  ·rw[hc _ _ e];exact h1
 ·have h1:=h.mem.free t b hb hrw i hi
  by_cases e:(g t).1=D
  ·unfold bN
   simp only[e,World.putObj_heap_same hd]
  ·unfold bN at h1 ⊢
   simp only[World.putObj_heap_other e]
   exact h1
 ·have hf:=h.frame
  exact ⟨hf.os,hf.tape,hf.output,by rw[World.putObj_size];exact hf.size,fun k hk hW=>by rw[World.putObj_heap_other (by omega)];exact hf.block k hk hW⟩
def Idle (P:Program) [Tables P] (fv:Option AV) (s:AS):Prop:= ∃ gf l,fv=some (V (.func (.func gf) #[] ⟨l⟩))∧au P gf=true∧
 ∀ (W:Nat→Prop) (N:Nat) (w0:Base P) (g:Where) (a:Act) (w:World),br W N w0 (fun n=>n < s.next) g s a w→ ∀ lp W1,Kept w W1→Calls P gf (#[.func (.yield lp) #[] #[]]++(⟨l.map (jS g)⟩:Array Value)) W1 fun e W'=>(∃ v,e= .returned v)∧Kept W1 W'
theorem wQ {f:Nat} {fn:Func} {c1 c2 c3 assign body:Code} {id:Nat} {op:Operand} {ps:Array Tmp} (hf:P.funcs[f]? =some fn) (hb:fn.body=some (.seq c1 (.seq (.seq c2 (.block id (.rangeFunc op ps assign body))) c3)))
  (Gl:codeOk fn.ntmps (.seq c1 c2)=true) (Wd:codeOk fn.ntmps c3=true) (wd:List Nat) {args:List AV} {k:Nat} {ins:Nat→Option aG}
  (hlen:args.length≤fn.ntmps) (hc:au P f=true) (hargs: ∀ v ∈ args,AV.ok (fun n=>n < k) v) (hall: ∀ n,n < k→ ∃ b,ins n=some b) (du: ∀ n b,ins n=some b→n < k∧ ∀ x ∈ b.cells,SV.ok (fun n=>n < k) x)
  {Post:AV→(Nat→Option aG)→Prop} (hv:iX P wd [] (.seq c1 c2) (fun e s=>e= .normal∧Idle P (s.aK op) s∧iX P wd [] c3 (jX P fn.results.toList (nA k Post)) s) (start args ins k)):bC P f args k ins Post:=by
 refine ⟨hc,hall,fun n b hb=>(du n b hb).1,fun W g w hlaid gR hm hown=> ?_⟩
 have hS:br W fn.ntmps (⟨w,k,g,hlaid⟩:Base P) (fun n=>n < (start args ins k).next) g (start args ins k) { tmps:=(args.map (AV.ah g)).toArray++Array.replicate (fn.ntmps - (args.map (AV.ah g)).toArray.size) undef,defers:=[] } w:=by
  refine ⟨by simp;omega,rfl,fun d v hd=> ?_,⟨fun d v hd=> ?_,du⟩,⟨hm.lt,hm.cell,hm.free,hm.sep⟩,fun t b hb hrw=>Or.inr (hown t b hb hrw),Frame.refl _ _,fun k hk=>⟨hk,rfl⟩,gR⟩
  ·simp only[start]at hd
   have hlt:d < args.length:=(List.getElem?_eq_some_iff.1 hd).1
   rw[Array.getElem?_append_left (by simpa using hlt)]
   simp[hd]
  ·simp only[start]at hd
   exact hargs v (List.mem_of_getElem? hd)
 refine callsIn_wide.1 (callsIn_of_wp_marks (n:=0) hf hb trivial (wpIn_wide.2 ?_))
 have go: ∀ Q:Exit→Act→World→Prop,(∀ g' s' a' w',br W fn.ntmps (⟨w,k,g,hlaid⟩:Base P) (fun n=>n < s'.next) g' s' a' w'→Idle P (s'.aK op) s'→iX P wd [] c3 (jX P fn.results.toList (nA k Post)) s'→(Code.block id (.rangeFunc op ps assign body)).wp P (Exit.then (c3.wp P Q) Q) a' w')→
   (Code.seq c1 (.seq (.seq c2 (.block id (.rangeFunc op ps assign body))) c3)).wp P Q { tmps:=(args.map (AV.ah g)).toArray++Array.replicate (fn.ntmps - (args.map (AV.ah g)).toArray.size) undef,defers:=[] } w:=fun Q hQ=>by
  simp only[codeOk,Bool.and_eq_true]at Gl
  simp only[iX]at hv
  have h1:=dC (ds:=[]) c1 _ _ Gl.1 hv g _ w (Exit.then ((Code.seq (.seq c2 (.block id (.rangeFunc op ps assign body))) c3).wp P Q) Q) hS fun e g' s' a' w' hr hk=>by
   cases e with
   | normal=>
    rw[gB]
    refine wp_seq (wp_seq ?_)
    have h2:=dC (ds:=[]) c2 _ _ Gl.2 hk g' a' w' (Exit.then ((Code.block id (.rangeFunc op ps assign body)).wp P (Exit.then (c3.wp P Q) Q)) (Exit.then (c3.wp P Q) Q)) hr fun e g' s' a' w' hr hk=>by
     obtain ⟨rfl,hi,TP⟩:=hk
     rw[gB]
     exact hQ g' s' a' w' hr hi TP
    rw[gB]at h2
    exact h2
   | _=>exact absurd hk.1 (by simp)
  rw[gB]at h1
  exact wp_seq h1
 refine go _ fun g1 s1 a1 w1 h1 ⟨gf,l,hop,Y5,Ua⟩ TP=>wp_block (x8 (lb:=⟨l.map (jS g1)⟩) (h1.eval hop) Y5 (Ua _ _ _ _ _ _ h1) fun D w2 hD hk hm=> ?_)
 show c3.wp P _ _ w2
 have h2:=h1.kept hk
 have h3:=h2.kL (pn:=s1.next) fun n hn=>hn
 have e0:({ a1 with defers:={ target:= .collected D,args:= #[] }::a1.defers }:Act)=kR [{ target:= .collected D,args:= #[] }] a1:=by
  unfold kR;rw[h1.defers];rfl
 rw[e0]
 refine dC c3 _ s1 Wd TP g1 a1 w2 _ h3 fun e g4 s4 a4 w4 h4 Wf=> ?_
 have hno: ¬ kK g1 s1 D:=by
  rintro ⟨t,bx,hb,_,e⟩
  have:=h1.mem.lt t bx hb
  omega
 have hD2:D < w2.heap.size:=(Array.getElem?_eq_some_iff.1 hm).1
 have SE:w4.heap[D]? =some (.deferred (some [])):=(h4.frame.block D hD2 hno).trans hm
 have h5:=(h2.kM (fun n hn=>hn) h4).Pf (y:=none) SE (Nat.le_trans h1.frame.size hD)
 have fin:nW (iV (fO P s4 fn.results.toList)) (nA k Post) s4→LeavesInM Fence.wide 0 P fn (kR [{ target:= .collected D,args:= #[] }] a4).tmps
   (fun e w'=> ∃ v out g',e= .returned (AV.ah g' v)∧Post v out∧(∀ n,n < k→g' n=g n)∧AV.ok (fun n=>n < k+1) v∧
   (∀ n b,out n=some b→n < k+1∧(n=k→b.rw=true)∧ ∀ x ∈ b.cells,SV.ok (fun n=>n < k+1) x)∧cw g' (jY out) w'∧
   (∀ t b,out t=some b→b.rw=true→w.heap.size≤(g' t).1∨W (g' t).1)∧Frame W w w') (kR [{ target:= .collected D,args:= #[] }] a4).defers .returning w4:=fun hr=>by
  have ed:(kR [{ target:= .collected D,args:= #[] }] a4).defers=[{ target:= .collected D,args:= #[] }]:=by
   unfold kR;rw[h4.defers];rfl
  rw[ed]
  refine ⟨by simp, .inl ⟨D,_,rfl,run_takeDeferred SE, ?_⟩⟩
  unfold nW at hr
  split at hr
  ·rename_i v hv
   obtain ⟨h6,h7⟩:=gy h5 hv
   obtain ⟨q,v0,out,hq,rfl,JC,hout,hpost⟩:=hr
   have Y6: ∀ n,n < k→iT k q n=n:=fun n hn=>by unfold iT;rw[if_neg (by omega)]
   have hinj: ∀ n n',n < k+1→n' < k+1→iT k q n=iT k q n'→n=n':=fun n n' h1 h2 e=>by
    unfold iT at e
    split at e<;>split at e<;>omega
   refine ⟨_,h6,v0,out,fun n=>g4 (iT k q n),by rw[AV.bG],hpost,fun n hn=> ?_,JC,fun n b hb=> ?_,⟨fun t b hb=> ?_,fun t b hb i v hv=> ?_,fun t b hb hrw i hi=> ?_,fun t t' b b' hb hrw hb' hne=> ?_⟩,fun t b hb hrw=> ?_,h5.frame⟩
   ·show g4 (iT k q n)=_
    rw[Y6 n hn];exact (h5.pin n hn).2
   ·obtain ⟨h1,h2,h3,_⟩:=hout n b hb
    exact ⟨h1,h2,h3⟩
   ·obtain ⟨h1,_,_,b',h2,_⟩:=hout t b hb
    exact h5.mem.lt _ b' h2
   ·obtain ⟨h1,_,_,b',h2,_,h4⟩:=hout t b hb
    have:=h5.mem.cell _ b' h2 i (SV.ren (iT k q) v) (by rw[h4];simp[hv])
    rw[this,SV.bG]
   ·obtain ⟨h1,_,_,b',h2,h3,h4⟩:=hout t b hb
    exact h5.mem.free _ b' h2 (h3 hrw) i (by rw[h4];simpa using hi)
   ·obtain ⟨h1,_,_,c1,h2,h3,_⟩:=hout t b hb
    obtain ⟨h1',_,_,c2,h2',_,_⟩:=hout t' b' hb'
    exact h5.mem.sep _ _ c1 c2 h2 (h3 hrw) h2' (fun e=>hne (hinj _ _ h1 h1' e))
   ·obtain ⟨h1,_,_,b',h2,h3,_⟩:=hout t b hb
    exact h5.own _ b' h2 (h3 hrw)
  ·exact hr.elim
 cases e with
 | normal=>exact fin Wf
 | ret=>exact fin Wf
 | _=>exact Wf.elim
theorem Pg {gf t:Nat} {eY:Bool} {cs:List SV} {Post:AV→(Nat→Option aG)→Prop} (h: ∀ lp,bC P gf [V (.func (.yield lp) #[] #[]),Ptr 0 0] 1 (lk [(0,⟨false,cs⟩)]) Post) (hb:s.box t=some ⟨eY,cs⟩) (hp:cs.all SV.plain=true):
  Idle P (some (V (.func (.func gf) #[] ⟨[.pointer (some ⟨t,0,none⟩)]⟩))) s:=by
 refine ⟨gf,_,rfl,(h 0).body,fun W N w0 g a w hr lp W1 hk=> ?_⟩
 have h1:=hr.kept hk
 have hc: ∀ v ∈ cs,SV.ah g v=SV.ah (fun _=>g t) v:=fun v hv=>SV.aZ (SV.dq (List.all_eq_true.1 hp v hv) (M:=fun n=>g n=g t)).1
 have hm:cw (fun _=>g t) (jY (lk [(0,⟨false,cs⟩)])) W1:=by
  refine ⟨fun t' b hb'=> ?_,fun t' b hb' i v hv=> ?_,fun t' b hb' hrw=> ?_,fun t' t'' b b' hb' hrw=> ?_⟩
  ·exact h1.mem.lt t _ hb
  ·obtain ⟨rfl,rfl⟩:=HM hb'
   rw[← hc v (List.mem_of_getElem? hv)]
   exact h1.mem.cell t _ hb i v hv
  ·obtain ⟨rfl,rfl⟩:=HM hb';cases hrw
  ·obtain ⟨rfl,rfl⟩:=HM hb';cases hrw
 have:=(h lp).call (fun _=>False) (fun _=>g t) W1 h1.laid (fun _ _ _=>id) hm (fun t' b hb' hrw=>by obtain ⟨rfl,rfl⟩:=HM hb';cases hrw)
 refine Calls.mono (R:=_) this ?_
 rintro e w' ⟨v,out,g',rfl,_,_,_,_,_,_,hf⟩
 exact ⟨⟨_,rfl⟩,hf⟩
end
end Go.bM
