/-
  Deferred calls, as contracts over boxes.
-/
import Derived.Test.YtkaamnnjeandlaaDoorVcgPz
import Derived.Recover
set_option linter.unusedSimpArgs false
set_option linter.unusedVariables false
namespace Go.bM

theorem oF {P:Program} {f:FuncId} {args:Array Value} {u:FrameMode} {w:World} {R R':Ending→FrameMode→World→Prop} (h:CallsD P f args u w R) (hi: ∀ e u' w',R e u' w'→R' e u' w'):CallsD P f args u w R':=by
 intro c cs hu
 obtain ⟨e,u',w',fr,hR,lz⟩:=h c cs hu
 exact ⟨e,u',w',fr,hi _ _ _ hR,lz⟩
section
variable {P:Program} [Tables P] {W:Nat→Prop} {N:Nat} {w0:Base P} {g:Where} {s:AS} {a:Act} {w:World} {nm:Nat}
structure GD (P:Program) [Tables P] (f:Nat) (args:List AV) (k:Nat) (ins:Nat→Option aG) (u u':FrameMode) (Post:(Nat→Option aG)→Prop):Prop where
 all: ∀ n,n < k→ ∃ b,ins n=some b
 um: ∀ n b,ins n=some b→n < k
 call: ∀ (W:Nat→Prop) (g:Where) (w:World),Laid P w→(∀ b bx,Tables.row P b=some bx→ ¬ W b)→cw g (jY ins) w→(∀ t b,ins t=some b→b.rw=true→W (g t).1)→
  CallsD P f (args.map (AV.ah g)).toArray u w fun e u1 w'=>u1=u'∧ ∃ (v:AV) (out:Nat→Option aG) (g':Where),e= .returned (AV.ah g' v)∧Post out∧(∀ n,n < k→g' n=g n)∧AV.ok (fun n=>n < k+1) v∧
   (∀ n b,out n=some b→n < k+1∧(k≤n→b.rw=true)∧ ∀ x ∈ b.cells,SV.ok (fun n=>n < k+1) x)∧cw g' (jY out) w'∧
   (∀ t b,out t=some b→b.rw=true→w.heap.size≤(g' t).1∨W (g' t).1)∧Frame W w w'
theorem GD.rep {f k:Nat} {args:List AV} {ins:Nat→Option aG} {u u':FrameMode} {Post:(Nat→Option aG)→Prop} (h:GD P f args k ins u u' Post) (hs:br W N w0 (fun n=>n < nm) g s a w) {r:Nat→Nat} {ws:List Nat} (hfit:iW s r ins ws):
  CallsD P f ((args.map (AV.ren r)).map (AV.ah g)).toArray u w fun e u1 w'=>u1=u'∧ ∃ v out g',e= .returned (AV.ah g' v)∧Post out∧br W N w0 (fun n=>n < nm+1) g' { s with box:=dL s r k 1 nm ws out } a w':=by
 have:=wh (C:=fun xs w R=>CallsD P f xs u w fun e u1 w'=>u1=u'∧R e w') (fun _ _ _ _ h h'=>oF h fun e u1 w' hh=>⟨hh.1,h' _ _ hh.2⟩) (E:= .returned) (m:=1) (Post:=fun _ out=>Post out) h.all h.um h.call hs hfit
 refine oF this ?_
 rintro e u1 w' ⟨hu,v,out,g',he,hpost,_,bh,_,_⟩
 exact ⟨hu,_,out,g',he,hpost,bh⟩
theorem BA {f:Nat} {fn:Func} {c:Code} (hf:P.funcs[f]? =some fn) (hb:fn.body=some c) {args:List AV} {k:Nat} {ins:Nat→Option aG} (hall: ∀ n,n < k→ ∃ b,ins n=some b) (du: ∀ n b,ins n=some b→n < k) {u u':FrameMode} {Post:(Nat→Option aG)→Prop}
  (h: ∀ (W:Nat→Prop) (g:Where) (w:World),Laid P w→(∀ b bx,Tables.row P b=some bx→ ¬ W b)→cw g (jY ins) w→(∀ t b,ins t=some b→b.rw=true→W (g t).1)→ ∀ (c₀:Go.Frame) (cs:List Go.Frame),c₀.mode=u→
   c.wpS P (bodyPostS P fn c₀ cs fun e u1 w'=>u1=u'∧ ∃ (v:AV) (out:Nat→Option aG) (g':Where),e= .returned (AV.ah g' v)∧Post out∧(∀ n,n < k→g' n=g n)∧AV.ok (fun n=>n < k+1) v∧
    (∀ n b,out n=some b→n < k+1∧(k≤n→b.rw=true)∧ ∀ x ∈ b.cells,SV.ok (fun n=>n < k+1) x)∧cw g' (jY out) w'∧
    (∀ t b,out t=some b→b.rw=true→w.heap.size≤(g' t).1∨W (g' t).1)∧Frame W w w') { tmps:=(args.map (AV.ah g)).toArray++Array.replicate (fn.ntmps - (args.map (AV.ah g)).toArray.size) undef,defers:=[] } (c₀::cs) w):
  GD P f args k ins u u' Post:=
 ⟨hall,du,fun W g w h1 h2 h3 h4=>callsD_of_wpS hf hb fun c₀ cs hu=>h W g w h1 h2 h3 h4 c₀ cs hu⟩
def Ad (E:List (Nat×AV)) (s:AS):AS:=E.foldl (fun s x=>s.put (some x.1) (some x.2)) s
def QX (g:Where) (E:List (Nat×AV)) (a:Act):Act:=E.foldl (fun a x=>a.put (some x.1) (AV.ah g x.2)) a
theorem br.puts {M:Nat→Prop}: ∀ {E:List (Nat×AV)} {s:AS} {a:Act},br W N w0 M g s a w→(∀ x ∈ E,x.1 < N∧AV.ok M x.2)→br W N w0 M g (Ad E s) (QX g E a) w
 | [],s,a,h,_=>h
 | x::E,s,a,h,hE=>br.puts (E:=E) (h.put (fun d hd=>by cases hd;exact (hE x (List.mem_cons_self ..)).1) (hE x (List.mem_cons_self ..)).2) fun y hy=>hE y (List.mem_cons_of_mem _ hy)
theorem tS {f:Nat} {fn:Func} {id:Nat} {Kt:Array Oper} {rest:Code} (hf:P.funcs[f]? =some fn) (hb:fn.body=some (.seq (.region id Kt false) rest)) (hok:codeOk fn.ntmps rest=true) (wd pz:List Nat) {args:List AV} {k:Nat} {ins:Nat→Option aG}
  (hlen:args.length≤fn.ntmps) (hargs: ∀ v ∈ args,AV.ok (fun n=>n < k) v) (hall: ∀ n,n < k→ ∃ b,ins n=some b) (du: ∀ n b,ins n=some b→n < k∧ ∀ x ∈ b.cells,SV.ok (fun n=>n < k) x) {u u':FrameMode} {Post:(Nat→Option aG)→Prop} (E:List (Nat×AV)) (hE: ∀ x ∈ E,x.1 < fn.ntmps∧AV.ok (fun n=>n < k) x.2)
  (Wn: ∀ (Q:Exit→Act→List Go.Frame→World→Prop) (g:Where) (a:Act) (c₀:Go.Frame) (cs:List Go.Frame) (w:World),c₀.mode=u→a.tmps.size=fn.ntmps→Q .normal (QX g E a) ({ c₀ with mode:=u' }::cs) w→wpOpsS P Kt Q (List.range Kt.size) a (c₀::cs) w)
  (hv:iX P wd pz rest (jX P fn.results.toList (nA k fun _ out=>Post out)) (Ad E (start args ins k))):GD P f args k ins u u' Post:=by
 refine BA hf hb hall (fun n b hn=>(du n b hn).1) fun W g w hlaid gR hm hown c₀ cs hu=> ?_
 have hsz:((args.map (AV.ah g)).toArray++Array.replicate (fn.ntmps - (args.map (AV.ah g)).toArray.size) undef).size=fn.ntmps:=by simp;omega
 refine wpS_seq (wpS_region (Wn _ g _ c₀ cs w hu hsz ?_))
 refine wpS_of_wp ?_
 have bh:br W fn.ntmps ⟨w,k,g,hlaid⟩ (fun n=>n < k) g (start args ins k) { tmps:=(args.map (AV.ah g)).toArray++Array.replicate (fn.ntmps - (args.map (AV.ah g)).toArray.size) undef,defers:=[] } w:=by
  refine ⟨hsz,rfl,fun d v hd=> ?_,⟨fun d v hd=> ?_,du⟩,⟨hm.lt,hm.cell,hm.free,hm.sep⟩,fun t b hb hrw=>Or.inr (hown t b hb hrw),Frame.refl _ _,fun k hk=>⟨hk,rfl⟩,gR⟩
  ·simp only[start]at hd
   have hlt:d < args.length:=(List.getElem?_eq_some_iff.1 hd).1
   rw[Array.getElem?_append_left (by simpa using hlt)]
   simp[hd]
  ·simp only[start]at hd
   exact hargs v (List.mem_of_getElem? hd)
 have uk:(Ad E (start args ins k)).next=k:=by
  have: ∀ (E:List (Nat×AV)) (s:AS),(Ad E s).next=s.next:=fun E=>by
   induction E with
   | nil=>exact fun s=>rfl
   | cons x E ih=>exact fun s=>ih _
  exact this E _
 have pE:=bh.puts hE
 have:=dC (ds:=[]) rest _ _ hok hv g _ w (fun e a' w'=>bodyPostS P fn c₀ cs (fun e u1 w'=>u1=u'∧ ∃ (v:AV) (out:Nat→Option aG) (g':Where),e= .returned (AV.ah g' v)∧Post out∧(∀ n,n < k→g' n=g n)∧AV.ok (fun n=>n < k+1) v∧
    (∀ n b,out n=some b→n < k+1∧(k≤n→b.rw=true)∧ ∀ x ∈ b.cells,SV.ok (fun n=>n < k+1) x)∧cw g' (jY out) w'∧
    (∀ t b,out t=some b→b.rw=true→w.heap.size≤(g' t).1∨W (g' t).1)∧Frame W w w') e a' ({ c₀ with mode:=u' }::cs) w') (by rw[uk];exact pE) ?_
 ·rw[gB]at this
  exact this
 ·intro e g' s' a' w' h' hk
  rw[gB]
  have fin:nW (iV (fO P s' fn.results.toList)) (nA k fun _ out=>Post out) s'→a'.defers=[]∧ ∃ u1,({ c₀ with mode:=u' }::cs:List Go.Frame)={ c₀ with mode:=u1 }::cs∧ ∃ v,(results fn a'.tmps).run P w'= .ok v w'∧u1=u'∧ ∃ (v1:AV) (out:Nat→Option aG) (g1:Where),Ending.returned v= .returned (AV.ah g1 v1)∧Post out∧(∀ n,n < k→g1 n=g n)∧AV.ok (fun n=>n < k+1) v1∧
    (∀ n b,out n=some b→n < k+1∧(k≤n→b.rw=true)∧ ∀ x ∈ b.cells,SV.ok (fun n=>n < k+1) x)∧cw g1 (jY out) w'∧
    (∀ t b,out t=some b→b.rw=true→w.heap.size≤(g1 t).1∨W (g1 t).1)∧Frame W w w':=fun hr=>by
   unfold nW at hr
   split at hr
   ·rename_i v hv
    obtain ⟨h1,h2⟩:=gy h' hv
    obtain ⟨q,v0,out,hq,rfl,JC,hout,hpost⟩:=hr
    have hr: ∀ n,n < k→iT k q n=n:=fun n hn=>by unfold iT;rw[if_neg (by omega)]
    have hinj: ∀ n n',n < k+1→n' < k+1→iT k q n=iT k q n'→n=n':=fun n n' h1 h2 e=>by
     unfold iT at e
     split at e<;>split at e<;>omega
    refine ⟨h'.defers,u',rfl,_,h1,rfl,v0,out,fun n=>g' (iT k q n),by rw[AV.bG],hpost,fun n hn=> ?_,JC,fun n b hb=> ?_,⟨fun t b hb=> ?_,fun t b hb i v hv=> ?_,fun t b hb hrw i hi=> ?_,fun t t' b b' hb hrw hb' hne=> ?_⟩,fun t b hb hrw=> ?_,h'.frame⟩
    ·show g' (iT k q n)=_
     rw[hr n hn];exact (h'.pin n hn).2
    ·obtain ⟨h1,h2,h3,_⟩:=hout n b hb
     exact ⟨h1,fun hk=>h2 (by omega),h3⟩
    ·obtain ⟨h1,_,_,b',h2,_⟩:=hout t b hb
     exact h'.mem.lt _ b' h2
    ·obtain ⟨h1,_,_,b',h2,_,h4⟩:=hout t b hb
     have:=h'.mem.cell _ b' h2 i (SV.ren (iT k q) v) (by rw[h4];simp[hv])
     rw[this,SV.bG]
    ·obtain ⟨h1,_,_,b',h2,h3,h4⟩:=hout t b hb
     exact h'.mem.free _ b' h2 (h3 hrw) i (by rw[h4];simpa using hi)
    ·obtain ⟨h1,_,_,c1,h2,h3,_⟩:=hout t b hb
     obtain ⟨h1',_,_,c2,h2',_,_⟩:=hout t' b' hb'
     exact h'.mem.sep _ _ c1 c2 h2 (h3 hrw) h2' (fun e=>hne (hinj _ _ h1 h1' e))
    ·obtain ⟨h1,_,_,b',h2,h3,_⟩:=hout t b hb
     exact h'.own _ b' h2 (h3 hrw)
   ·exact hr.elim
  cases e<;>simp only[jX]at hk
  ·exact fin hk
  ·exact fin hk
end
end Go.bM
