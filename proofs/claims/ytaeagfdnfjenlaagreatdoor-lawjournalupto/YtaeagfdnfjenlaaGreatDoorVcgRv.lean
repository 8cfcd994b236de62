/-
  Deferred calls, as contracts over boxes.
-/
import Derived.Test.YtaeagfdnfjenlaaGreatDoorVcgPz
import Derived.Recover
set_option linter.unusedSimpArgs false
set_option linter.unusedVariables false
namespace Go.cn

theorem qL {P:Program} {f:FuncId} {args:Array Value} {u:FrameMode} {w:World} {R R':Ending→FrameMode→World→Prop} (h:CallsD P f args u w R) (hi: ∀ e u' w',R e u' w'→R' e u' w'):CallsD P f args u w R':=by
 intro c cs hu
 obtain ⟨e,u',w',fr,hR,xc⟩:=h c cs hu
 exact ⟨e,u',w',fr,hi _ _ _ hR,xc⟩
section
variable {P:Program} [Tables P] {W:Nat→Prop} {N:Nat} {w0:Base P} {g:Where} {s:AS} {a:Act} {w:World} {nm:Nat}
structure Lw (P:Program) [Tables P] (f:Nat) (args:List AV) (k:Nat) (ins:Nat→Option aI) (u u':FrameMode) (Post:(Nat→Option aI)→Prop):Prop where
 all: ∀ n,n < k→ ∃ b,ins n=some b
 qY: ∀ n b,ins n=some b→n < k
 call: ∀ (W:Nat→Prop) (g:Where) (w:World),Laid P w→(∀ b bx,Tables.row P b=some bx→ ¬ W b)→cY g (kB ins) w→(∀ t b,ins t=some b→b.rw=true→W (g t).1)→
  CallsD P f (args.map (AV.ah g)).toArray u w fun e u1 w'=>u1=u'∧ ∃ (v:AV) (out:Nat→Option aI) (g':Where),e= .returned (AV.ah g' v)∧Post out∧(∀ n,n < k→g' n=g n)∧AV.ok (fun n=>n < k+1) v∧
   (∀ n b,out n=some b→n < k+1∧(k≤n→b.rw=true)∧ ∀ x ∈ b.cells,SV.ok (fun n=>n < k+1) x)∧cY g' (kB out) w'∧
   (∀ t b,out t=some b→b.rw=true→w.heap.size≤(g' t).1∨W (g' t).1)∧Frame W w w'
theorem Lw.rep {f k:Nat} {args:List AV} {ins:Nat→Option aI} {u u':FrameMode} {Post:(Nat→Option aI)→Prop} (h:Lw P f args k ins u u' Post) (hs:bF W N w0 (fun n=>n < nm) g s a w) {r:Nat→Nat} {ws:List Nat} (hfit:jr s r ins ws):
  CallsD P f ((args.map (AV.ren r)).map (AV.ah g)).toArray u w fun e u1 w'=>u1=u'∧ ∃ v out g',e= .returned (AV.ah g' v)∧Post out∧bF W N w0 (fun n=>n < nm+1) g' { s with box:=cL s r k 1 nm ws out } a w':=by
 have:=Ak (C:=fun xs w R=>CallsD P f xs u w fun e u1 w'=>u1=u'∧R e w') (fun _ _ _ _ h h'=>qL h fun e u1 w' hh=>⟨hh.1,h' _ _ hh.2⟩) (E:= .returned) (m:=1) (Post:=fun _ out=>Post out) h.all h.qY h.call hs hfit
 refine qL this ?_
 rintro e u1 w' ⟨hu,v,out,g',he,hpost,_,bk,_,_⟩
 exact ⟨hu,_,out,g',he,hpost,bk⟩
theorem FH {f:Nat} {fn:Func} {c:Code} (hf:P.funcs[f]? =some fn) (hb:fn.body=some c) {args:List AV} {k:Nat} {ins:Nat→Option aI} (hall: ∀ n,n < k→ ∃ b,ins n=some b) (fO: ∀ n b,ins n=some b→n < k) {u u':FrameMode} {Post:(Nat→Option aI)→Prop}
  (h: ∀ (W:Nat→Prop) (g:Where) (w:World),Laid P w→(∀ b bx,Tables.row P b=some bx→ ¬ W b)→cY g (kB ins) w→(∀ t b,ins t=some b→b.rw=true→W (g t).1)→ ∀ (c₀:Go.Frame) (cs:List Go.Frame),c₀.mode=u→
   c.wpS P (bodyPostS P fn c₀ cs fun e u1 w'=>u1=u'∧ ∃ (v:AV) (out:Nat→Option aI) (g':Where),e= .returned (AV.ah g' v)∧Post out∧(∀ n,n < k→g' n=g n)∧AV.ok (fun n=>n < k+1) v∧
    (∀ n b,out n=some b→n < k+1∧(k≤n→b.rw=true)∧ ∀ x ∈ b.cells,SV.ok (fun n=>n < k+1) x)∧cY g' (kB out) w'∧
    (∀ t b,out t=some b→b.rw=true→w.heap.size≤(g' t).1∨W (g' t).1)∧Frame W w w') { tmps:=(args.map (AV.ah g)).toArray++Array.replicate (fn.ntmps - (args.map (AV.ah g)).toArray.size) undef,defers:=[] } (c₀::cs) w):
  Lw P f args k ins u u' Post:=
 ⟨hall,fO,fun W g w h1 h2 h3 h4=>callsD_of_wpS hf hb fun c₀ cs hu=>h W g w h1 h2 h3 h4 c₀ cs hu⟩
def Ei (E:List (Nat×AV)) (s:AS):AS:=E.foldl (fun s x=>s.put (some x.1) (some x.2)) s
def Xk (g:Where) (E:List (Nat×AV)) (a:Act):Act:=E.foldl (fun a x=>a.put (some x.1) (AV.ah g x.2)) a
theorem bF.puts {M:Nat→Prop}: ∀ {E:List (Nat×AV)} {s:AS} {a:Act},bF W N w0 M g s a w→(∀ x ∈ E,x.1 < N∧AV.ok M x.2)→bF W N w0 M g (Ei E s) (Xk g E a) w
 | [],s,a,h,_=>h
 | x::E,s,a,h,hE=>bF.puts (E:=E) (h.put (fun d hd=>by cases hd;exact (hE x (List.mem_cons_self ..)).1) (hE x (List.mem_cons_self ..)).2) fun y hy=>hE y (List.mem_cons_of_mem _ hy)
theorem xW {f:Nat} {fn:Func} {id:Nat} {PY:Array Oper} {rest:Code} (hf:P.funcs[f]? =some fn) (hb:fn.body=some (.seq (.region id PY false) rest)) (hok:codeOk fn.ntmps rest=true) (wd pz:List Nat) {args:List AV} {k:Nat} {ins:Nat→Option aI}
  (hlen:args.length≤fn.ntmps) (hargs: ∀ v ∈ args,AV.ok (fun n=>n < k) v) (hall: ∀ n,n < k→ ∃ b,ins n=some b) (fO: ∀ n b,ins n=some b→n < k∧ ∀ x ∈ b.cells,SV.ok (fun n=>n < k) x) {u u':FrameMode} {Post:(Nat→Option aI)→Prop} (E:List (Nat×AV)) (hE: ∀ x ∈ E,x.1 < fn.ntmps∧AV.ok (fun n=>n < k) x.2)
  (Jg: ∀ (Q:Exit→Act→List Go.Frame→World→Prop) (g:Where) (a:Act) (c₀:Go.Frame) (cs:List Go.Frame) (w:World),c₀.mode=u→a.tmps.size=fn.ntmps→Q .normal (Xk g E a) ({ c₀ with mode:=u' }::cs) w→wpOpsS P PY Q (List.range PY.size) a (c₀::cs) w)
  (hv:kT P wd pz rest (kA P fn.results.toList (m8 k fun _ out=>Post out)) (Ei E (start args ins k))):Lw P f args k ins u u' Post:=by
 refine FH hf hb hall (fun n b hn=>(fO n b hn).1) fun W g w hlaid iF hm hown c₀ cs hu=> ?_
 have hsz:((args.map (AV.ah g)).toArray++Array.replicate (fn.ntmps - (args.map (AV.ah g)).toArray.size) undef).size=fn.ntmps:=by simp;omega
 refine wpS_seq (wpS_region (Jg _ g _ c₀ cs w hu hsz ?_))
 refine wpS_of_wp ?_
 have bk:bF W fn.ntmps ⟨w,k,g,hlaid⟩ (fun n=>n < k) g (start args ins k) { tmps:=(args.map (AV.ah g)).toArray++Array.replicate (fn.ntmps - (args.map (AV.ah g)).toArray.size) undef,defers:=[] } w:=by
  refine ⟨hsz,rfl,fun d v hd=> ?_,⟨fun d v hd=> ?_,fO⟩,⟨hm.lt,hm.cell,hm.free,hm.sep⟩,fun t b hb hrw=>Or.inr (hown t b hb hrw),Frame.refl _ _,fun k hk=>⟨hk,rfl⟩,iF⟩
  ·simp only[start]at hd
   have hlt:d < args.length:=(List.getElem?_eq_some_iff.1 hd).1
   rw[Array.getElem?_append_left (by simpa using hlt)]
   simp[hd]
  ·simp only[start]at hd
   exact hargs v (List.mem_of_getElem? hd)
 have rJ:(Ei E (start args ins k)).next=k:=by
  have: ∀ (E:List (Nat×AV)) (s:AS),(Ei E s).next=s.next:=fun E=>by
   induction E with
   | nil=>exact fun s=>rfl
   | cons x E ih=>exact fun s=>ih _
  exact this E _
 have sj:=bk.puts hE
 have:=eI (ds:=[]) rest _ _ hok hv g _ w (fun e a' w'=>bodyPostS P fn c₀ cs (fun e u1 w'=>u1=u'∧ ∃ (v:AV) (out:Nat→Option aI) (g':Where),e= .returned (AV.ah g' v)∧Post out∧(∀ n,n < k→g' n=g n)∧AV.ok (fun n=>n < k+1) v∧
    (∀ n b,out n=some b→n < k+1∧(k≤n→b.rw=true)∧ ∀ x ∈ b.cells,SV.ok (fun n=>n < k+1) x)∧cY g' (kB out) w'∧
    (∀ t b,out t=some b→b.rw=true→w.heap.size≤(g' t).1∨W (g' t).1)∧Frame W w w') e a' ({ c₀ with mode:=u' }::cs) w') (by rw[rJ];exact sj) ?_
 ·rw[gT]at this
  exact this
 ·intro e g' s' a' w' h' hk
  rw[gT]
  have fin:qm (kr (gQ P s' fn.results.toList)) (m8 k fun _ out=>Post out) s'→a'.defers=[]∧ ∃ u1,({ c₀ with mode:=u' }::cs:List Go.Frame)={ c₀ with mode:=u1 }::cs∧ ∃ v,(results fn a'.tmps).run P w'= .ok v w'∧u1=u'∧ ∃ (v1:AV) (out:Nat→Option aI) (g1:Where),Ending.returned v= .returned (AV.ah g1 v1)∧Post out∧(∀ n,n < k→g1 n=g n)∧AV.ok (fun n=>n < k+1) v1∧
    (∀ n b,out n=some b→n < k+1∧(k≤n→b.rw=true)∧ ∀ x ∈ b.cells,SV.ok (fun n=>n < k+1) x)∧cY g1 (kB out) w'∧
    (∀ t b,out t=some b→b.rw=true→w.heap.size≤(g1 t).1∨W (g1 t).1)∧Frame W w w':=fun hr=>by
   unfold qm at hr
   split at hr
   ·rename_i v hv
    obtain ⟨h1,h2⟩:=iT h' hv
    obtain ⟨q,v0,out,hq,rfl,Kv,hout,hpost⟩:=hr
    have hr: ∀ n,n < k→jY k q n=n:=fun n hn=>by unfold jY;rw[if_neg (by omega)]
    have hinj: ∀ n n',n < k+1→n' < k+1→jY k q n=jY k q n'→n=n':=fun n n' h1 h2 e=>by
     unfold jY at e
     split at e<;>split at e<;>omega
    refine ⟨h'.defers,u',rfl,_,h1,rfl,v0,out,fun n=>g' (jY k q n),by rw[AV.cg],hpost,fun n hn=> ?_,Kv,fun n b hb=> ?_,⟨fun t b hb=> ?_,fun t b hb i v hv=> ?_,fun t b hb hrw i hi=> ?_,fun t t' b b' hb hrw hb' hne=> ?_⟩,fun t b hb hrw=> ?_,h'.frame⟩
    ·show g' (jY k q n)=_
     rw[hr n hn];exact (h'.pin n hn).2
    ·obtain ⟨h1,h2,h3,_⟩:=hout n b hb
     exact ⟨h1,fun hk=>h2 (by omega),h3⟩
    ·obtain ⟨h1,_,_,b',h2,_⟩:=hout t b hb
     exact h'.mem.lt _ b' h2
    ·obtain ⟨h1,_,_,b',h2,_,h4⟩:=hout t b hb
     have:=h'.mem.cell _ b' h2 i (SV.ren (jY k q) v) (by rw[h4];simp[hv])
     rw[this,SV.cg]
    ·obtain ⟨h1,_,_,b',h2,h3,h4⟩:=hout t b hb
     exact h'.mem.free _ b' h2 (h3 hrw) i (by rw[h4];simpa using hi)
    ·obtain ⟨h1,_,_,c1,h2,h3,_⟩:=hout t b hb
     obtain ⟨h1',_,_,c2,h2',_,_⟩:=hout t' b' hb'
     exact h'.mem.sep _ _ c1 c2 h2 (h3 hrw) h2' (fun e=>hne (hinj _ _ h1 h1' e))
    ·obtain ⟨h1,_,_,b',h2,h3,_⟩:=hout t b hb
     exact h'.own _ b' h2 (h3 hrw)
   ·exact hr.elim
  cases e<;>simp only[kA]at hk
  ·exact fin hk
  ·exact fin hk
end
end Go.cn
