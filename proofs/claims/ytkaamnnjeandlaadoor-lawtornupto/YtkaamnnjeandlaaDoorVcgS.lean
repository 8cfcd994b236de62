/-
  The calculus: contracts of functions that are handed boxes (pointers and slices), and how a call of such a function turns a state. Nothing here speaks of a program.
-/
import Derived.Test.YtkaamnnjeandlaaDoorVcgQ0
set_option linter.unusedVariables false
set_option linter.unusedSimpArgs false
namespace Go.bM
set_option linter.unusedSectionVars false
def jY (box:Nat→Option aG):AS:=⟨fun _=>none,box,0⟩
def iT (k q:Nat):Nat→Nat:=fun n=>if n=k then q else n
structure bC (P:Program) [Tables P] (f:Nat) (args:List AV) (k:Nat) (ins:Nat→Option aG) (Post:AV→(Nat→Option aG)→Prop):Prop where
 body:au P f=true
 all: ∀ n,n < k→ ∃ b,ins n=some b
 um: ∀ n b,ins n=some b→n < k
 call: ∀ (W:Nat→Prop) (g:Where) (w:World),Laid P w→(∀ b bx,Tables.row P b=some bx→ ¬ W b)→cw g (jY ins) w→(∀ t b,ins t=some b→b.rw=true→W (g t).1)→
  Calls P f (args.map (AV.ah g)).toArray w fun e w'=> ∃ v out g',e= .returned (AV.ah g' v)∧Post v out∧(∀ n,n < k→g' n=g n)∧AV.ok (fun n=>n < k+1) v∧
   (∀ n b,out n=some b→n < k+1∧(n=k→b.rw=true)∧ ∀ x ∈ b.cells,SV.ok (fun n=>n < k+1) x)∧cw g' (jY out) w'∧
   (∀ t b,out t=some b→b.rw=true→w.heap.size≤(g' t).1∨W (g' t).1)∧Frame W w w'
def nA (k:Nat) (Post:AV→(Nat→Option aG)→Prop) (v:AV) (s:AS):Prop:=
 ∃ (q:Nat) (v0:AV) (out:Nat→Option aG),k≤q∧v=AV.ren (iT k q) v0∧AV.ok (fun n=>n < k+1) v0∧
  (∀ n b,out n=some b→n < k+1∧(n=k→b.rw=true)∧(∀ x ∈ b.cells,SV.ok (fun n=>n < k+1) x)∧ ∃ b',s.box (iT k q n)=some b'∧(b.rw=true→b'.rw=true)∧b'.cells=b.cells.map (SV.ren (iT k q)))∧Post v0 out
section
variable {P:Program} [Tables P] {W:Nat→Prop} {N:Nat} {w0:Base P} {M:Nat→Prop} {g:Where} {s:AS} {a:Act} {w:World} {nm:Nat}
theorem aU {f:Nat} {fn:Func} {c:Code} (hf:P.funcs[f]? =some fn) (hb:fn.body=some c) (hok:codeOk fn.ntmps c=true) {args:List AV} {k:Nat} {ins:Nat→Option aG}
  (hlen:args.length≤fn.ntmps) (hc:au P f=true) (hargs: ∀ v ∈ args,AV.ok (fun n=>n < k) v) (hall: ∀ n,n < k→ ∃ b,ins n=some b) (du: ∀ n b,ins n=some b→n < k∧ ∀ x ∈ b.cells,SV.ok (fun n=>n < k) x)
  {Post:AV→(Nat→Option aG)→Prop} (hv:vc P c (jX P fn.results.toList (nA k Post)) (start args ins k)):bC P f args k ins Post:=by
 refine ⟨hc,hall,fun n b hb=>(du n b hb).1,fun W g w hlaid gR hm hown=> ?_⟩
 refine (sV (W:=W) (g:=g) (w:=w) hf hb hok hlen hlaid gR ⟨fun d v hd=> ?_,fun t b ht=>du t b ht⟩ ⟨hm.lt,hm.cell,hm.free,hm.sep⟩ hown hv).mono ?_
 ·simp only[start]at hd
  exact hargs v (List.mem_of_getElem? hd)
 ·rintro e w' ⟨v,g',s',rfl,⟨q,v0,out,hq,rfl,JC,hout,hpost⟩,_,uY,hmem,LJ,Dg,hfr⟩
  have hr: ∀ n,n < k→iT k q n=n:=fun n hn=>by unfold iT;rw[if_neg (by omega)]
  have hinj: ∀ n n',n < k+1→n' < k+1→iT k q n=iT k q n'→n=n':=fun n n' h1 h2 e=>by
   unfold iT at e
   split at e<;>split at e<;>omega
  refine ⟨v0,out,fun n=>g' (iT k q n),by rw[AV.bG],hpost,fun n hn=> ?_,JC,fun n b hb=> ?_,⟨fun t b hb=> ?_,fun t b hb i v hv=> ?_,fun t b hb hrw i hi=> ?_,fun t t' b b' hb hrw hb' hne=> ?_⟩,fun t b hb hrw=> ?_,hfr⟩
  ·show g' (iT k q n)=_
   rw[hr n hn];exact (uY n hn).2
  ·obtain ⟨h1,h2,h3,_⟩:=hout n b hb
   exact ⟨h1,h2,h3⟩
  ·obtain ⟨h1,_,_,b',h2,_⟩:=hout t b hb
   exact hmem.lt _ b' h2
  ·obtain ⟨h1,_,_,b',h2,_,h4⟩:=hout t b hb
   have:=hmem.cell _ b' h2 i (SV.ren (iT k q) v) (by rw[h4];simp[hv])
   rw[this,SV.bG]
  ·obtain ⟨h1,_,_,b',h2,h3,h4⟩:=hout t b hb
   exact hmem.free _ b' h2 (h3 hrw) i (by rw[h4];simpa using hi)
  ·obtain ⟨h1,_,_,c1,h2,h3,_⟩:=hout t b hb
   obtain ⟨h1',_,_,c2,h2',_,_⟩:=hout t' b' hb'
   exact hmem.sep _ _ c1 c2 h2 (h3 hrw) h2' (fun e=>hne (hinj _ _ h1 h1' e))
  ·obtain ⟨h1,_,_,b',h2,h3,_⟩:=hout t b hb
   exact Dg _ b' h2 (h3 hrw)
def aG.ren (r:Nat→Nat) (b:aG):aG:=⟨b.rw,b.cells.map (SV.ren r)⟩
def dy (r:Nat→Nat) (k nm:Nat):Nat→Nat:=fun n=>if n=k then nm else r n
def after (s:AS) (r:Nat→Nat) (k nm:Nat) (wr:Option Nat) (out:Nat→Option aG):Nat→Option aG:=
 let b1:=match out k with
  | none=>s.box
  | some b=>upd s.box nm (some (aG.ren (dy r k nm) b))
 match wr with
  | none=>b1
  | some n=>upd b1 (r n) ((out n).map (aG.ren (dy r k nm)))
structure Fits (s:AS) (r:Nat→Nat) (ins:Nat→Option aG) (wr:Option Nat):Prop where
 box: ∀ n b,ins n=some b→ ∃ b',s.box (r n)=some b'∧(b.rw=true→b'.rw=true)∧b'.cells=b.cells.map (SV.ren r)
 inj: ∀ n n' b b',ins n=some b→b.rw=true→ins n'=some b'→r n=r n'→n=n'
 only: ∀ n b,ins n=some b→b.rw=true→wr=some n
 Dh: ∀ n,wr=some n→ ∃ b,ins n=some b∧b.rw=true
theorem je {r:Nat→Nat} {k:Nat} {wr:Option Nat} {out:Nat→Option aG} {t:Nat} {b:aG} (h:after s r k nm wr out t=some b):
  (∃ n c,wr=some n∧t=r n∧out n=some c∧b=aG.ren (dy r k nm) c)∨((∀ n,wr=some n→t≠r n)∧((∃ c,t=nm∧out k=some c∧b=aG.ren (dy r k nm) c)∨(s.box t=some b∧(t=nm→out k=none)))):=by
 have key:(match out k with | none=>s.box | some b=>upd s.box nm (some (aG.ren (dy r k nm) b))) t=some b→
   (∃ c,t=nm∧out k=some c∧b=aG.ren (dy r k nm) c)∨(s.box t=some b∧(t=nm→out k=none)):=fun h=>by
  cases ho:out k with
  | none=>rw[ho]at h;exact .inr ⟨h,fun _=>rfl⟩
  | some c=>
   rw[ho]at h
   simp only[upd]at h
   split at h
   ·rename_i e
    simp only[Option.some.injEq]at h
    exact .inl ⟨c,e,rfl,h.symm⟩
   ·rename_i e
    exact .inr ⟨h,fun e'=>absurd e' e⟩
 unfold after at h
 cases wr with
 | none=>exact .inr ⟨fun n e=>(by cases e),key h⟩
 | some n=>
  simp only[upd]at h
  split at h
  ·rename_i e
   cases ho:out n with
   | none=>rw[ho]at h;cases h
   | some c=>
    rw[ho]at h
    simp only[Option.map_some,Option.some.injEq]at h
    exact .inl ⟨n,c,rfl,e,ho,h.symm⟩
  ·rename_i e
   exact .inr ⟨fun n' e'=>(by cases e';exact e),key h⟩
theorem bC.rep {f k:Nat} {args:List AV} {ins:Nat→Option aG} {Post:AV→(Nat→Option aG)→Prop} (h:bC P f args k ins Post) (hs:br W N w0 M g s a w) (hnm: ¬ M nm)
  {r:Nat→Nat} {wr:Option Nat} (hfit:Fits s r ins wr):
  Calls P f ((args.map (AV.ren r)).map (AV.ah g)).toArray w fun e w'=> ∃ v out g',e= .returned (AV.ah g' (AV.ren (dy r k nm) v))∧Post v out∧(∀ n b,out n=some b→n=k→b.rw=true)∧(∀ n,M n→g' n=g n)∧
   br W N w0 (fun n=>M n∨n=nm) g' { s with box:=after s r k nm wr out } a w'∧AV.ok (fun n=>M n∨n=nm) (AV.ren (dy r k nm) v):=by
 have mJ: ∀ n,n < k→M (r n):=fun n hn=>by
  obtain ⟨b,hb⟩:=h.all n hn
  obtain ⟨b',hb',_⟩:=hfit.box n b hb
  exact (hs.names.box _ b' hb').1
 have hargs:(args.map (AV.ren r)).map (AV.ah g)=args.map (AV.ah fun n=>g (r n)):=by
  rw[List.map_map];exact List.map_congr_left fun x _=>AV.bG g r x
 rw[hargs]
 have hm0:cw (fun n=>g (r n)) (jY ins) w:=by
  refine ⟨fun t b hb=> ?_,fun t b hb i v hv=> ?_,fun t b hb hrw i hi=> ?_,fun t t' b b' hb hrw hb' hne=> ?_⟩
  ·obtain ⟨b',h1,_⟩:=hfit.box t b hb
   exact hs.mem.lt _ b' h1
  ·obtain ⟨b',h1,_,h3⟩:=hfit.box t b hb
   have:=hs.mem.cell _ b' h1 i (SV.ren r v) (by rw[h3];simp[hv])
   rw[this,SV.bG]
  ·obtain ⟨b',h1,h2,h3⟩:=hfit.box t b hb
   exact hs.mem.free _ b' h1 (h2 hrw) i (by rw[h3];simpa using hi)
  ·obtain ⟨c,h1,h2,_⟩:=hfit.box t b hb
   obtain ⟨c',h1',_,_⟩:=hfit.box t' b' hb'
   exact hs.mem.sep _ _ c c' h1 (h2 hrw) h1' (fun e=>hne (hfit.inj _ _ b b' hb hrw hb' e))
 have htb: ∀ b bx,Tables.row P b=some bx→ ¬ ∃ n,wr=some n∧b=(g (r n)).1:=fun b bx hb=>by
  rintro ⟨n,hn,rfl⟩
  obtain ⟨c,hc,hrw⟩:=hfit.Dh n hn
  obtain ⟨b',h1,h2,_⟩:=hfit.box n c hc
  rcases hs.own _ b' h1 (h2 hrw) with h3 | h3
  ·have:=(w0.laid.rows _ bx hb).1;omega
  ·exact hs.tabs _ bx hb h3
 refine (h.call (fun Ob=> ∃ n,wr=some n∧Ob=(g (r n)).1) (fun n=>g (r n)) w hs.laid htb hm0 (fun t b hb hrw=>⟨t,hfit.only t b hb hrw,rfl⟩)).mono ?_
 rintro e w' ⟨v,out,gc,rfl,hpost,hsame,hv,hout,hmem,hown,hfr⟩
 have fP: ∀ n,M n→upd g nm (gc k) n=g n:=fun n hn=>aW _ _ _ _ (fun e=>hnm (by rw[← e];exact hn))
 have Ln: ∀ n,n < k+1→upd g nm (gc k) (dy r k nm n)=gc n:=fun n hn=>by
  unfold dy
  by_cases e:n=k
  ·rw[if_pos e,aT,e]
  ·rw[if_neg e,fP _ (mJ n (by omega)),hsame n (by omega)]
 have rS: ∀ x:SV,SV.names (fun n=>n < k+1) x→SV.ah gc x=SV.ah (upd g nm (gc k)) (SV.ren (dy r k nm) x):=fun x hx=>by
  rw[SV.bG];exact SV.aZ (SV.aY (fun n hn=>(Ln n hn).symm) hx)
 have vw:AV.ah gc v=AV.ah (upd g nm (gc k)) (AV.ren (dy r k nm) v):=by
  rw[AV.bG];exact AV.aZ (AV.aI (fun n hn=>(Ln n hn).symm) hv)
 have Qj: ∀ n,n < k+1→M (dy r k nm n)∨dy r k nm n=nm:=fun n hn=>by
  unfold dy
  by_cases e:n=k
  ·rw[if_pos e];exact .inr rfl
  ·rw[if_neg e];exact .inl (mJ n (by omega))
 have vx: ∀ x:SV,SV.ok (fun n=>n < k+1) x→SV.ok (fun n=>M n∨n=nm) (SV.ren (dy r k nm) x):=fun x hx=>by
  exact ⟨SV.kr.2 (SV.aY Qj hx.1),SV.Ay.trans hx.2⟩
 have Di: ∀ x:CV,CV.ok (fun n=>n < k+1) x→CV.ok (fun n=>M n∨n=nm) (CV.ren (dy r k nm) x):=fun x hx=>by
  rcases x with x | l
  ·exact SV.kr.2 (SV.aY Qj hx)
  ·intro y hy
   simp only[List.mem_map]at hy
   obtain ⟨z,hz,rfl⟩:=hy
   exact vx z (hx z hz)
 have LK:AV.ok (fun n=>M n∨n=nm) (AV.ren (dy r k nm) v):=by
  rcases v with x | l
  ·exact Di x hv
  ·intro y hy
   simp only[List.mem_map]at hy
   obtain ⟨z,hz,rfl⟩:=hy
   exact Di z (hv z hz)
 have im: ∀ n,wr=some n→n < k∧ ∃ b',s.box (r n)=some b'∧b'.rw=true:=fun n hn=>by
  obtain ⟨b,hb,hrw⟩:=hfit.Dh n hn
  obtain ⟨b',h1,h2,_⟩:=hfit.box n b hb
  exact ⟨h.um n b hb,b',h1,h2 hrw⟩
 have Qk: ∀ t b,s.box t=some b→(∀ n,wr=some n→t≠r n)→ ¬ ∃ n,wr=some n∧(g t).1=(g (r n)).1:=fun t b hb hne=>by
  rintro ⟨n,hn,e⟩
  obtain ⟨_,b',h1,h2⟩:=im n hn
  exact hs.mem.sep _ _ b' b h1 h2 hb (fun e=>hne n hn e.symm) e.symm
 have hkeep: ∀ t b,s.box t=some b→(∀ n,wr=some n→t≠r n)→w'.heap[(g t).1]? =w.heap[(g t).1]? :=fun t b hb hne=>
  hfr.block _ (hs.mem.lt t b hb) (Qk t b hb hne)
 have lX: ∀ t b,s.box t=some b→M t:=fun t b hb=>(hs.names.box t b hb).1
 have Yu: ∀ b,s.box nm≠some b:=fun b hb=>hnm (lX nm b hb)
 have nY: ∀ t b c,s.box t=some b→(∀ n,wr=some n→t≠r n)→out k=some c→(gc k).1≠(g t).1:=fun t b c hb hne hc=>by
  rcases hown k c hc ((hout k c hc).2.1 rfl) with h1 | ⟨n,hn,h1⟩
  ·have:=hs.mem.lt t b hb;omega
  ·rw[h1]
   intro e
   exact Qk t b hb hne ⟨n,hn,e.symm⟩
 have lA: ∀ n c c',wr=some n→out k=some c→out n=some c'→(gc k).1≠(g (r n)).1:=fun n c c' hn hc nB=>by
  have hlt:=(im n hn).1
  have:=hmem.sep k n c c' hc ((hout k c hc).2.1 rfl) nB (by omega)
  rwa [hsame n hlt]at this
 refine ⟨v,out,upd g nm (gc k),by rw[vw],hpost,fun n b hb e=>(hout n b hb).2.1 e,fP,⟨hs.size,hs.defers,fun d x hd=> ?_,⟨fun d x hd=> ?_,fun t b hb=> ?_⟩,⟨fun t b hb=> ?_,fun t b hb i x hx=> ?_,fun t b hb hrw i hi=> ?_,fun t t' b b' hb hrw hb' hne=> ?_⟩,fun t b hb hrw=> ?_, ?_,fun n hn=>⟨.inl (hs.pin n hn).1,(fP n (hs.pin n hn).1).trans (hs.pin n hn).2⟩,hs.tabs⟩,LK⟩
 ·rw[hs.env d x hd]
  rw[AV.aZ (AV.aI (fun n hn=>(fP n hn).symm) (hs.names.env d x hd))]
 ·exact AV.aI (fun _ hn=> .inl hn) (hs.names.env d x hd)
 ·rcases je hb with ⟨n,c,hn,rfl,hc,rfl⟩ | ⟨_,⟨c,rfl,hc,rfl⟩ | ⟨hb',_⟩⟩
  ·refine ⟨.inl (mJ n (im n hn).1),fun x hx=> ?_⟩
   simp only[aG.ren,List.mem_map]at hx
   obtain ⟨z,hz,rfl⟩:=hx
   exact vx z ((hout n c hc).2.2 z hz)
  ·refine ⟨.inr rfl,fun x hx=> ?_⟩
   simp only[aG.ren,List.mem_map]at hx
   obtain ⟨z,hz,rfl⟩:=hx
   exact vx z ((hout k c hc).2.2 z hz)
  ·exact ⟨.inl (lX t b hb'),fun x hx=>SV.aI (fun _ hn=> .inl hn) ((hs.names.box t b hb').2 x hx)⟩
 ·rcases je hb with ⟨n,c,hn,rfl,hc,rfl⟩ | ⟨_,⟨c,rfl,hc,rfl⟩ | ⟨hb',_⟩⟩
  ·have:=hmem.lt n c hc
   rw[fP _ (mJ n (im n hn).1), ← hsame n (im n hn).1];exact this
  ·rw[aT];exact hmem.lt k c hc
  ·rw[fP t (lX t b hb')];exact Nat.lt_of_lt_of_le (hs.mem.lt t b hb') hfr.size
 ·rcases je hb with ⟨n,c,hn,rfl,hc,rfl⟩ | ⟨hne,⟨c,rfl,hc,rfl⟩ | ⟨hb',_⟩⟩
  ·simp only[aG.ren,List.getElem?_map]at hx
   cases hz:c.cells[i]? with
   | none=>rw[hz]at hx;cases hx
   | some z=>
    rw[hz]at hx
    simp only[Option.map_some,Option.some.injEq]at hx;subst hx
    have:=hmem.cell n c hc i z hz
    rw[fP _ (mJ n (im n hn).1), ← hsame n (im n hn).1,this]
    rw[rS z ((hout n c hc).2.2 z (List.mem_of_getElem? hz)).1]
  ·simp only[aG.ren,List.getElem?_map]at hx
   cases hz:c.cells[i]? with
   | none=>rw[hz]at hx;cases hx
   | some z=>
    rw[hz]at hx
    simp only[Option.map_some,Option.some.injEq]at hx;subst hx
    rw[aT,hmem.cell k c hc i z hz]
    rw[rS z ((hout k c hc).2.2 z (List.mem_of_getElem? hz)).1]
  ·have h1:=hs.mem.cell t b hb' i x hx
   rw[fP t (lX t b hb')]
   have h2:w'.cell? ⟨(g t).1,(g t).2+i,none⟩=w.cell? ⟨(g t).1,(g t).2+i,none⟩:=by
    unfold World.cell?;simp only[hkeep t b hb' hne]
   rw[h2,h1]
   rw[SV.aZ (SV.aY (fun n hn=>(fP n hn).symm) ((hs.names.box t b hb').2 x (List.mem_of_getElem? hx)).1)]
 ·rcases je hb with ⟨n,c,hn,rfl,hc,rfl⟩ | ⟨hne,⟨c,rfl,hc,rfl⟩ | ⟨hb',_⟩⟩
  ·have:=hmem.free n c hc hrw i (by simpa[aG.ren] using hi)
   rw[fP _ (mJ n (im n hn).1), ← hsame n (im n hn).1];exact this
  ·rw[aT];exact hmem.free k c hc hrw i (by simpa[aG.ren] using hi)
  ·rw[fP t (lX t b hb')]
   have h2:bN w' ⟨(g t).1,(g t).2+i,none⟩=bN w ⟨(g t).1,(g t).2+i,none⟩:=by
    unfold bN;simp only[hkeep t b hb' hne]
   rw[h2];exact hs.mem.free t b hb' hrw i hi
 ·rcases je hb with ⟨n,c,hn,rfl,hc,rfl⟩ | ⟨LL,⟨c,rfl,hc,rfl⟩ | ⟨hb1,_⟩⟩<;>rcases je hb' with ⟨n',c',hn',rfl,nB,rfl⟩ | ⟨LM,⟨c',rfl,nB,rfl⟩ | ⟨hb2,_⟩⟩
  ·rw[hn]at hn';cases hn';exact absurd rfl hne
  ·rw[aT,fP _ (mJ n (im n hn).1)]
   exact fun e=>lA n c' c hn nB hc e.symm
  ·obtain ⟨hlt,b0,h1,h2⟩:=im n hn
   rw[fP _ (mJ n hlt),fP _ (lX _ _ hb2)]
   exact hs.mem.sep _ _ b0 b' h1 h2 hb2 hne
  ·rw[aT,fP _ (mJ n' (im n' hn').1)]
   exact lA n' c c' hn' hc nB
  ·exact absurd rfl hne
  ·rw[aT,fP _ (lX _ _ hb2)]
   exact nY t' b' c hb2 LM hc
  ·obtain ⟨hlt,b0,h1,h2⟩:=im n' hn'
   rw[fP _ (mJ n' hlt),fP _ (lX _ _ hb1)]
   exact hs.mem.sep _ _ b b0 hb1 hrw h1 hne
  ·rw[aT,fP _ (lX _ _ hb1)]
   exact fun e=>nY t b c' hb1 LL nB e.symm
  ·rw[fP _ (lX _ _ hb1),fP _ (lX _ _ hb2)]
   exact hs.mem.sep _ _ b b' hb1 hrw hb2 hne
 ·have Ql: ∀ x,(w.heap.size≤x∨ ∃ n,wr=some n∧x=(g (r n)).1)→w0.heap.size≤x∨W x:=fun x hx=>by
   rcases hx with hx | ⟨n,hn,rfl⟩
   ·exact .inl (Nat.le_trans hs.frame.size hx)
   ·obtain ⟨_,b0,h1,h2⟩:=im n hn
    exact hs.own _ b0 h1 h2
  rcases je hb with ⟨n,c,hn,rfl,hc,rfl⟩ | ⟨_,⟨c,rfl,hc,rfl⟩ | ⟨hb',_⟩⟩
  ·rw[fP _ (mJ n (im n hn).1)]
   exact Ql _ (.inr ⟨n,hn,rfl⟩)
  ·rw[aT];exact Ql _ (hown k c hc hrw)
  ·rw[fP _ (lX _ _ hb')];exact hs.own t b hb' hrw
 ·have hf:=hs.frame
  refine ⟨hfr.os.trans hf.os,hfr.tape.trans hf.tape,hfr.output.trans hf.output,Nat.le_trans hf.size hfr.size,fun x hx hW=> ?_⟩
  rw[hfr.block x (Nat.lt_of_lt_of_le hx hf.size) ?_]
  ·exact hf.block x hx hW
  ·rintro ⟨n,hn,rfl⟩
   obtain ⟨_,b0,h1,h2⟩:=im n hn
   rcases hs.own _ b0 h1 h2 with h3 | h3
   ·exact absurd hx (Nat.not_lt.2 h3)
   ·exact hW h3
end
end Go.bM
