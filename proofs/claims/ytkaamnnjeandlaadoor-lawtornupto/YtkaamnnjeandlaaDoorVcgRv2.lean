/-
  A function that defers one call.
-/
import Derived.Test.YtkaamnnjeandlaaDoorVcgRv
set_option linter.unusedSimpArgs false
set_option linter.unusedVariables false
namespace Go.bM
def Ur (P:Program) (o:Oper) (Q:Exit→Act→World→Prop) (e:Exit) (a:Act) (w:World):Prop:=match e with
 | .normal=> ∀ next:Act→World→Prop,o.wp P a w next Q
 | e=>Q e a w
theorem I2 {P:Program} {o:Oper} {Q:Exit→Act→World→Prop}: ∀ e a w,e≠ .normal→Ur P o Q e a w→Q e a w:=fun e a w he h=>by
 cases e<;>first | exact absurd rfl he | exact h
section
variable {P:Program} [Tables P] {W:Nat→Prop} {N:Nat} {w0:Base P} {g:Where} {s:AS} {a:Act} {w:World} {nm:Nat}
theorem EC {ops ops':Array Oper} {o:Oper} {B:List Oper} {Q:Exit→Act→World→Prop}: ∀ (l:List Oper) (a:Act) (w:World),l.all (fun o=>o.guard.isNone)=true→o.guard=none→wpList P ops (Ur P o Q) l a w→wpList P ops' Q (l++o::B) a w
 | [],a,w,_,ho,h=>by
  show (if Region.wanted o (yielded ops' a.tmps) then o.wp P a w (wpList P ops' Q B) Q∨_ else _)
  rw[if_pos (by simp[Region.wanted,ho])]
  exact .inl (h _)
 | p::r,a,w,hg,ho,h=>by
  simp only[List.all_cons,Bool.and_eq_true,Option.isNone_iff_eq_none]at hg
  unfold wpList at h
  show (if Region.wanted p (yielded ops' a.tmps) then p.wp P a w (wpList P ops' Q (r++o::B)) Q∨_ else _)
  rw[if_pos (by simp[Region.wanted,hg.1])]at h ⊢
  rcases h with h | ⟨h1,h2⟩
  ·exact .inl (wG (fun a w hk=>EC r a w hg.2 ho hk) I2 h)
  ·exact .inr ⟨h1,qD I2 h2⟩
def Nu (P:Program) [Tables P] (wd:List Nat) (k:Nat):Code→(Exit→AS→Prop)→AS→Prop
 | .seq (.region id ops false) _,F,s=>(ops.toList.take k).all (fun o=>o.guard.isNone)=true∧match ops.toList.drop k with
  | o::_=>o.guard=none∧mN P wd (.region id (ops.toList.take k).toArray false) (RL P o F) s
  | []=>False
 | _,_,_=>False
def QY (F:Exit→AS→Prop) (e:Exit) (s:AS):Prop:=F e s∧e≠ .normal
theorem BD {o:Oper} {F:Exit→AS→Prop} {s:AS} (hv:l9 P o F s):l9 P o (QY F) s:=by
 have hc: ∀ f xs,dV P f xs F s→dV P f xs (QY F) s:=fun f xs hv=>by
  unfold dV at hv ⊢
  split at hv
  ·exact hv
  ·intro W N w0 g a w hr
   refine (hv W N w0 g a w hr).mono ?_
   rintro e w' ⟨ch,g',s',h1,h2,h3⟩
   exact ⟨ch,g',s',h1,h2,h3,by simp⟩
 unfold l9 at hv ⊢
 split at hv
 ·exact ⟨hv.1,hc _ _ hv.2⟩
 ·unfold Ke at hv ⊢
  split at hv
  ·exact ⟨hv.1,hc _ _ hv.2⟩
  ·exact hv
 ·unfold MU at hv ⊢
  split at hv
  ·exact ⟨hv,by simp⟩
  ·exact hv
 ·exact hv
theorem GF {wd:List Nat} {ds:List Deferred} {k:Nat} {c:Code} {F:Exit→AS→Prop} (hok:codeOk N c=true) (hv:Nu P wd k c F s) {Q:Exit→Act→World→Prop} (h:br W N w0 (fun n=>n < s.next) g s a w)
  (hQ: ∀ e g' s' a' w',br W N w0 (fun n=>n < s'.next) g' s' a' w'→F e s'→Q e (kR ds a') w'):c.wp P Q (kR ds a) w:=by
 unfold Nu at hv
 split at hv
 ·rename_i id ops c2
  obtain ⟨hg,hv⟩:=hv
  split at hv
  ·rename_i o B ho
   obtain ⟨nz,hv⟩:=hv
   simp only[codeOk,Bool.and_eq_true]at hok
   have wK:ops.toList=ops.toList.take k++o::B:=by rw[← ho,List.take_append_drop]
   have Gl:=hok.1
   rw[wK]at Gl
   simp only[List.all_append,Bool.and_eq_true]at Gl
   refine wp_seq (wp_region_list (uo (Q:=fun e a w=>e≠ .normal∧Q e (kR ds a) w) (fun e a w h=> ?_) _ _ _ ?_))
   ·cases e with
    | normal=>exact absurd rfl h.1
    | _=>exact h.2
   ·rw[wK]
    refine EC (ops:=(ops.toList.take k).toArray) _ _ _ hg nz (si (by simpa using Gl.1) h hv fun g' s' a' w' h' hk next=> ?_)
    exact sg h' (BD hk) fun e g' s' a' w' h' hk=>⟨hk.2,hQ _ _ _ _ _ h' hk.1⟩
  ·exact hv.elim
 ·exact hv.elim
def Sd (P:Program) [Tables P] (wd pz:List Nat) (c:Code) (F:Exit→AS→Prop) (s:AS):Prop:=iX P wd pz c F s∨ ∃ k,Nu P wd k c F s
theorem xq {wd pz:List Nat} {ds:List Deferred} {c:Code} {F:Exit→AS→Prop} (hok:codeOk N c=true) (hv:Sd P wd pz c F s) {Q:Exit→Act→World→Prop} (h:br W N w0 (fun n=>n < s.next) g s a w)
  (hQ: ∀ e g' s' a' w',br W N w0 (fun n=>n < s'.next) g' s' a' w'→F e s'→Q e (kR ds a') w'):c.wp P Q (kR ds a) w:=by
 rcases hv with hv | ⟨k,hv⟩
 ·exact dC _ _ _ hok hv g a w Q h hQ
 ·exact GF hok hv h hQ
theorem ED {f:Nat} {fn:Func} {r0 c:Code} (hf:P.funcs[f]? =some fn) (hb:fn.body=some (.seq r0 c)) (Se:codeOk fn.ntmps r0=true) (hok:codeOk fn.ntmps c=true) (wd pz:List Nat) {args:List AV} {k:Nat} {ins:Nat→Option aG}
  (hlen:args.length≤fn.ntmps) (hc:au P f=true) (hargs: ∀ v ∈ args,AV.ok (fun n=>n < k) v) (hall: ∀ n,n < k→ ∃ b,ins n=some b) (du: ∀ n b,ins n=some b→n < k∧ ∀ x ∈ b.cells,SV.ok (fun n=>n < k) x)
  {ch:List PanicEntry} {Post:(Nat→Option aG)→Prop} (hv:iX P wd pz r0 (fun e s=>e= .normal∧Sd P wd pz c (Bd k ch Post) s) (start args ins k)):ud P f args k ins ch Post:=by
 refine ⟨hc,hall,fun n b hb=>(du n b hb).1,fun W g w hlaid gR hm hown=> ?_⟩
 refine calls_of_wp hf hb ?_
 have MO: ∀ e g' s' a' w',br W fn.ntmps ⟨w,k,g,hlaid⟩ (fun n=>n < s'.next) g' s' a' w'→Bd k ch Post e s'→(bodyPost P fn fun e w'=> ∃ (v:AV) (out:Nat→Option aG) (g':Where),e= .panicked ch∧Post out∧(∀ n,n < k→g' n=g n)∧AV.ok (fun n=>n < k+0) v∧
   (∀ n b,out n=some b→n < k+0∧(k≤n→b.rw=true)∧ ∀ x ∈ b.cells,SV.ok (fun n=>n < k+0) x)∧cw g' (jY out) w'∧
   (∀ t b,out t=some b→b.rw=true→w.heap.size≤(g' t).1∨W (g' t).1)∧Frame W w w') e (kR [] a') w':= ?_
 have bh:br W fn.ntmps ⟨w,k,g,hlaid⟩ (fun n=>n < k) g (start args ins k) { tmps:=(args.map (AV.ah g)).toArray++Array.replicate (fn.ntmps - (args.map (AV.ah g)).toArray.size) undef,defers:=[] } w:=⟨?_,rfl, ?_,⟨fun d v hd=> ?_,du⟩,⟨hm.lt,hm.cell,hm.free,hm.sep⟩,fun t b hb hrw=>Or.inr (hown t b hb hrw),Frame.refl _ _,fun k hk=>⟨hk,rfl⟩,gR⟩
 ·refine wp_seq ?_
  have:=dC (ds:=[]) r0 _ _ Se hv g _ w (fun e a1 wq=>e= .normal∧c.wp P (bodyPost P fn fun e w'=> ∃ (v:AV) (out:Nat→Option aG) (g':Where),e= .panicked ch∧Post out∧(∀ n,n < k→g' n=g n)∧AV.ok (fun n=>n < k+0) v∧
   (∀ n b,out n=some b→n < k+0∧(k≤n→b.rw=true)∧ ∀ x ∈ b.cells,SV.ok (fun n=>n < k+0) x)∧cw g' (jY out) w'∧
   (∀ t b,out t=some b→b.rw=true→w.heap.size≤(g' t).1∨W (g' t).1)∧Frame W w w') a1 wq) bh (fun e g1 s1 a1 w1 h1 hk=>⟨hk.1,xq hok hk.2 h1 MO⟩)
  rw[gB]at this
  exact Code.wp_mono (fun e a w hk=>by obtain ⟨rfl,hk⟩:=hk;exact hk) this
 ·simp;omega
 ·intro d v hd
  simp only[start]at hd
  have hlt:d < args.length:=(List.getElem?_eq_some_iff.1 hd).1
  rw[Array.getElem?_append_left (by simpa using hlt)]
  simp[hd]
 ·simp only[start]at hd
  exact hargs v (List.mem_of_getElem? hd)
 ·intro e g' s' a' w' h' hk
  rw[gB]
  cases e with
  | panic c=>
   obtain ⟨rfl,out,hout,hpost⟩:=hk
   have uY: ∀ n,n < k→g' n=g n:=fun n hn=>(h'.pin n hn).2
   refine ⟨h'.defers,B true,out,g',rfl,hpost,uY,trivial,fun n b hb=>⟨(hout n b hb).1,fun hk=>absurd (hout n b hb).1 (by omega),(hout n b hb).2.1⟩,⟨fun t b hb=> ?_,fun t b hb i v hv=> ?_,fun t b hb hrw i hi=> ?_,fun t t' b b' hb hrw hb' hne=> ?_⟩,fun t b hb hrw=> ?_,h'.frame⟩
   ·obtain ⟨_,_,b',h2,_⟩:=hout t b hb
    exact h'.mem.lt _ b' h2
   ·obtain ⟨_,_,b',h2,_,h4⟩:=hout t b hb
    exact h'.mem.cell _ b' h2 i v (by rw[h4];exact hv)
   ·obtain ⟨_,_,b',h2,h3,h4⟩:=hout t b hb
    exact h'.mem.free _ b' h2 (h3 hrw) i (by rw[h4];exact hi)
   ·obtain ⟨_,_,c1,h2,h3,_⟩:=hout t b hb
    obtain ⟨_,_,c2,h2',_,_⟩:=hout t' b' hb'
    exact h'.mem.sep _ _ c1 c2 h2 (h3 hrw) h2' hne
   ·obtain ⟨_,_,b',h2,h3,_⟩:=hout t b hb
    exact h'.own _ b' h2 (h3 hrw)
  | _=>exact hk.elim
def Wo (e:Exit) (u:FrameMode):Prop:=match e with
 | .ret=>u= .returning
 | .normal=>u= .returning
 | .panic ch=>u= .panicking ch
 | _=>False
def Us (P:Program) [Tables P] (fd:Nat) (l:List AV) (rs:List ResultVar) (Post:AV→AS→Prop) (e:Exit) (s:AS):Prop:=
 ∃ (u u':FrameMode),Wo e u∧settle u'= .returning∧ ∃ (k1:Nat) (args:List AV) (ins:Nat→Option aG) (r:Nat→Nat) (ws:List Nat) (PD:(Nat→Option aG)→Prop),
  GD P fd args k1 ins u u' PD∧iW s r ins ws∧l=args.map (AV.ren r)∧ ∀ out,PD out→nW (iV (fO P { s with box:=dL s r k1 1 s.next ws out,next:=s.next+1 } rs)) Post { s with box:=dL s r k1 1 s.next ws out,next:=s.next+1 }
theorem xr {fd:Nat} {fn:Func} {l:List AV} {Post:AV→AS→Prop} {e:Exit} (bh:br W N w0 (fun n=>n < s.next) g s a w) (hc:au P fd=true) (hk:Us P fd l fn.results.toList Post e s) {R:Ending→World→Prop}
  (hR: ∀ v g' s' w',br W N w0 (fun n=>n < s'.next) g' s' a w'→Post v s'→AV.ok (fun n=>n < s'.next) v→R (.returned (AV.ah g' v)) w'):
  bodyPostD P fn R e (kR [{ target:= .fn (.func fd) (l.map (AV.ah g)).toArray,args:= #[] }] a) w:=by
 obtain ⟨u,u',he,Fy,k1,args,ins,r,ws,PD,hD,hfit,rfl,hp⟩:=hk
 have main:u≠ .run→Leaves P fn a.tmps R [{ target:= .fn (.func fd) ((args.map (AV.ren r)).map (AV.ah g)).toArray,args:= #[] }] u w:=fun hu=>by
  refine leaves_cons (f:=fd) (args:=((args.map (AV.ren r)).map (AV.ah g)).toArray) hu ?_ (oF (hD.rep bh hfit) ?_)
  ·have:invoke (.fn (.func fd) ((args.map (AV.ren r)).map (AV.ah g)).toArray) #[]=callFunc fd (#[]++((args.map (AV.ren r)).map (AV.ah g)).toArray):=rfl
   rw[this,cq hc]
   simp
  ·rintro e1 u1 w' ⟨rfl,v,out,g',rfl,hpost,cM⟩
   show Leaves P fn a.tmps R [] (settle u1) w'
   rw[Fy]
   have hq:=hp out hpost
   unfold nW at hq
   split at hq
   ·rename_i v1 SD
    have pE:br W N w0 (fun n=>n < s.next+1) g' { s with box:=dL s r k1 1 s.next ws out,next:=s.next+1 } a w':=⟨cM.size,cM.defers,cM.env,⟨cM.names.env,cM.names.box⟩,⟨cM.mem.lt,cM.mem.cell,cM.mem.free,cM.mem.sep⟩,cM.own,cM.frame,cM.pin,cM.tabs⟩
    obtain ⟨k1,k2⟩:=gy pE SD
    exact ⟨_,k1,hR v1 g' _ w' pE hq k2⟩
   ·exact hq.elim
 have hd:(kR [{ target:= .fn (.func fd) ((args.map (AV.ren r)).map (AV.ah g)).toArray,args:= #[] }] a).defers=[{ target:= .fn (.func fd) ((args.map (AV.ren r)).map (AV.ah g)).toArray,args:= #[] }]:=by
  unfold kR
  rw[bh.defers]
  rfl
 cases e with
 | normal=>
  cases he
  show Leaves P fn _ R (kR _ a).defers .returning w
  rw[hd]
  exact main (by simp)
 | ret=>
  cases he
  show Leaves P fn _ R (kR _ a).defers .returning w
  rw[hd]
  exact main (by simp)
 | panic ch=>
  cases he
  show Leaves P fn _ R (kR _ a).defers (.panicking ch) w
  rw[hd]
  exact main (by simp)
 | _=>exact he.elim
theorem yg {f:Nat} {fn:Func} {r0 rest:Code} {id d fd:Nat} {caps:Array Operand} {ty Vn:TypeId} {pos pos2:String} {af Vo:Array Edge} (hf:P.funcs[f]? =some fn)
  (hb:fn.body=some (.seq r0 (.seq (.region id #[⟨some d, .makeFunc (.func fd) #[] caps,ty,pos,af,none⟩,⟨none, .defer ⟨.value (.tmp d), #[], #[]⟩,Vn,pos2,Vo,none⟩] false) rest))) (Se:codeOk fn.ntmps r0=true) (hok:codeOk fn.ntmps rest=true) (Mp:d < fn.ntmps) (hcd:au P fd=true) (wd pz:List Nat) {args:List AV} {k:Nat} {ins:Nat→Option aG}
  (hlen:args.length≤fn.ntmps) (hc:au P f=true) (hargs: ∀ v ∈ args,AV.ok (fun n=>n < k) v) (hall: ∀ n,n < k→ ∃ b,ins n=some b) (du: ∀ n b,ins n=some b→n < k∧ ∀ x ∈ b.cells,SV.ok (fun n=>n < k) x) {Post:AV→(Nat→Option aG)→Prop}
  (hv:iX P wd pz r0 (fun e s=>e= .normal∧bK P s.next ⟨some d, .makeFunc (.func fd) #[] caps,ty,pos,af,none⟩ (fun s2=> ∃ (cv:List Value) (l:List AV),s2.env d=some (V (.func (.func fd) #[] ⟨cv⟩))∧kB cv=some l∧(∀ v ∈ l,AV.ok (fun n=>n < s.next+1) v)∧
   Sd P wd pz rest (Us P fd l fn.results.toList (nA k Post)) { s2 with next:=s.next+1 }) s) (start args ins k)):bC P f args k ins Post:=by
 refine ⟨hc,hall,fun n b hb=>(du n b hb).1,fun W g w hlaid gR hm hown=> ?_⟩
 refine calls_of_wp_defers hf hb ?_
 have bh:br W fn.ntmps ⟨w,k,g,hlaid⟩ (fun n=>n < k) g (start args ins k) { tmps:=(args.map (AV.ah g)).toArray++Array.replicate (fn.ntmps - (args.map (AV.ah g)).toArray.size) undef,defers:=[] } w:=by
  refine ⟨by simp;omega,rfl,fun d v hd=> ?_,⟨fun d v hd=> ?_,du⟩,⟨hm.lt,hm.cell,hm.free,hm.sep⟩,fun t b hb hrw=>Or.inr (hown t b hb hrw),Frame.refl _ _,fun k hk=>⟨hk,rfl⟩,gR⟩
  ·simp only[start]at hd
   have hlt:d < args.length:=(List.getElem?_eq_some_iff.1 hd).1
   rw[Array.getElem?_append_left (by simpa using hlt)]
   simp[hd]
  ·simp only[start]at hd
   exact hargs v (List.mem_of_getElem? hd)
 refine wp_seq ?_
 refine dC (ds:=[]) r0 _ _ Se hv g _ w _ bh ?_
 rintro e g1 s1 a1 w1 h1 ⟨rfl,hk⟩
 rw[gB]
 show Code.wp P _ _ a1 w1
 refine wp_seq (wp_region ?_)
 have Tq:List.range (#[⟨some d, .makeFunc (.func fd) #[] caps,ty,pos,af,none⟩,⟨none, .defer ⟨.value (.tmp d), #[], #[]⟩,Vn,pos2,Vo,none⟩]:Array Oper).size=[0,1]:=rfl
 rw[Tq]
 refine Or.inl ?_
 refine kt h1 (fun x hx=>by cases hx;exact Mp) hk ?_
 rintro g2 s2 a2 w2 h2 ⟨cv,l,GG,hl,Wp,lz⟩
 refine Or.inl ?_
 have Ju:a2.eval (.tmp d)= .func (.func fd) #[] ⟨cv.map (jS g2)⟩:=h2.eval (x:= .tmp d) GG
 have hrun:(execOp a2.eval ⟨none, .defer ⟨.value (.tmp d), #[], #[]⟩,Vn,pos2,Vo,none⟩).run P w2= .ok (.defer { target:= .fn (.func fd) ⟨cv.map (jS g2)⟩,args:= #[] }) w2:=by
  simp[execOp,resolve,Ju,Deferred.ofValue]
 show Oper.wp P ⟨none, .defer ⟨.value (.tmp d), #[], #[]⟩,Vn,pos2,Vo,none⟩ a2 w2 _ _
 unfold Oper.wp
 rw[hrun]
 show Code.wp P rest _ { a2 with defers:={ target:= .fn (.func fd) ⟨cv.map (jS g2)⟩,args:= #[] }::a2.defers } w2
 have Zo:({ a2 with defers:={ target:= .fn (.func fd) ⟨cv.map (jS g2)⟩,args:= #[] }::a2.defers }:Act)=kR [{ target:= .fn (.func fd) ⟨cv.map (jS g2)⟩,args:= #[] }] a2:=by
  unfold kR
  rw[h2.defers]
  rfl
 rw[Zo]
 have h2':br W fn.ntmps ⟨w,k,g,hlaid⟩ (fun n=>n < ({ s2 with next:=s1.next+1 }:AS).next) g2 { s2 with next:=s1.next+1 } a2 w2:=⟨h2.size,h2.defers,h2.env,⟨h2.names.env,h2.names.box⟩,⟨h2.mem.lt,h2.mem.cell,h2.mem.free,h2.mem.sep⟩,h2.own,h2.frame,h2.pin,h2.tabs⟩
 refine xq hok lz (h2'.kL (pn:=s1.next+1) fun n hn=>hn) ?_
 intro e g3 s3 a3 w3 h3 Zp
 have hcs:(⟨cv.map (jS g2)⟩:Array Value)=(l.map (AV.ah g3)).toArray:=by
  apply Array.ext'
  show cv.map (jS g2)=l.map (AV.ah g3)
  rw[← kD _ _ hl]
  exact List.map_congr_left fun v hv=>AV.aZ (AV.aI (fun n hn=>(h3.pin n hn).2.symm) (Wp v hv))
 rw[hcs]
 have h3':br W fn.ntmps ⟨w,k,g,hlaid⟩ (fun n=>n < s3.next) g3 s3 a3 w3:=h2'.kM (fun n hn=>hn) h3
 refine xr h3' hcd Zp ?_
 rintro v g' s' w' h' ⟨q,v0,out,hq,rfl,JC,hout,hpost⟩ _
 have hr: ∀ n,n < k→iT k q n=n:=fun n hn=>by unfold iT;rw[if_neg (by omega)]
 have hinj: ∀ n n',n < k+1→n' < k+1→iT k q n=iT k q n'→n=n':=fun n n' h1 h2 e=>by
  unfold iT at e
  split at e<;>split at e<;>omega
 refine ⟨v0,out,fun n=>g' (iT k q n),by rw[AV.bG],hpost,fun n hn=> ?_,JC,fun n b hb=> ?_,⟨fun t b hb=> ?_,fun t b hb i v hv=> ?_,fun t b hb hrw i hi=> ?_,fun t t' b b' hb hrw hb' hne=> ?_⟩,fun t b hb hrw=> ?_,h'.frame⟩
 ·show g' (iT k q n)=_
  rw[hr n hn];exact (h'.pin n hn).2
 ·obtain ⟨h1,h2,h3,_⟩:=hout n b hb
  exact ⟨h1,h2,h3⟩
 ·obtain ⟨h1,_,_,b',h2,_⟩:=hout t b hb
  exact h'.mem.lt _ b' h2
 ·obtain ⟨h1,_,_,b',h2,_,h4⟩:=hout t b hb
  have:=h'.mem.cell _ b' h2 i (SV.ren (iT k q) v) (by rw[h4];simp[hv])
  rw[this,SV.bG]
 ·obtain ⟨h1,_,_,b',h2,h3,h4⟩:=hout t b hb
  exact h'.mem.free _ b' h2 (h3 hrw) i (by rw[h4];simpa using hi)
 ·obtain ⟨h1,_,_,c1,h2,h3,_⟩:=hout t b hb
  obtain ⟨h1',_,_,c2,h2',_,_⟩:=hout t' b' hb'
  exact h'.mem.sep _ _ c1 c2 h2 (h3 hrw) h2' (fun e=>hne (hinj _ _ h1 h1' e))
 ·obtain ⟨h1,_,_,b',h2,h3,_⟩:=hout t b hb
  exact h'.own _ b' h2 (h3 hrw)
end
end Go.bM
