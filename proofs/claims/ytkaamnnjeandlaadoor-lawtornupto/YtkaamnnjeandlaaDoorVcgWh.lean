/-
  The calculus: contracts of functions that make several boxes, and the walk over a code with regions by a plan. Nothing here speaks of a program.
-/
import Derived.Test.YtkaamnnjeandlaaDoorVcgWg
namespace Go.bM
set_option linter.unusedSectionVars false
set_option linter.unusedSimpArgs false
set_option linter.unusedVariables false
def o6 (k:Nat) (q:Nat→Nat) (n:Nat):Nat:=if n < k then n else q (n - k)
def aR (r:Nat→Nat) (k nm:Nat) (n:Nat):Nat:=if n < k then r n else nm+(n - k)
structure lB (P:Program) [Tables P] (f:Nat) (args:List AV) (k m:Nat) (ins:Nat→Option aG) (Post:AV→(Nat→Option aG)→Prop):Prop where
 body:au P f=true
 le:m≤4
 all: ∀ n,n < k→ ∃ b,ins n=some b
 um: ∀ n b,ins n=some b→n < k
 call: ∀ (W:Nat→Prop) (g:Where) (w:World),Laid P w→(∀ b bx,Tables.row P b=some bx→ ¬ W b)→cw g (jY ins) w→(∀ t b,ins t=some b→b.rw=true→W (g t).1)→
  Calls P f (args.map (AV.ah g)).toArray w fun e w'=> ∃ v out g',e= .returned (AV.ah g' v)∧Post v out∧(∀ n,n < k→g' n=g n)∧AV.ok (fun n=>n < k+m) v∧
   (∀ n b,out n=some b→n < k+m∧(k≤n→b.rw=true)∧ ∀ x ∈ b.cells,SV.ok (fun n=>n < k+m) x)∧cw g' (jY out) w'∧
   (∀ t b,out t=some b→b.rw=true→w.heap.size≤(g' t).1∨W (g' t).1)∧Frame W w w'
def TA (k m:Nat) (Post:AV→(Nat→Option aG)→Prop) (v:AV) (s:AS):Prop:=
 ∃ (q:Nat→Nat) (v0:AV) (out:Nat→Option aG),(∀ j,j < m→k≤q j)∧(∀ i j,i < m→j < m→q i=q j→i=j)∧v=AV.ren (o6 k q) v0∧AV.ok (fun n=>n < k+m) v0∧
  (∀ n b,out n=some b→n < k+m∧(k≤n→b.rw=true)∧(∀ x ∈ b.cells,SV.ok (fun n=>n < k+m) x)∧ ∃ b',s.box (o6 k q n)=some b'∧(b.rw=true→b'.rw=true)∧b'.cells=b.cells.map (SV.ren (o6 k q)))∧Post v0 out
def ia (s:AS) (r:Nat→Nat) (k m nm:Nat) (wr:Option Nat) (out:Nat→Option aG) (t:Nat):Option aG:=
 if nm≤t∧t < nm+m then (out (k+(t - nm))).map (aG.ren (aR r k nm)) else match wr with
  | none=>s.box t
  | some n=>if t=r n then (out n).map (aG.ren (aR r k nm)) else s.box t
section
variable {P:Program} [Tables P] {W:Nat→Prop} {N:Nat} {w0:Base P} {M:Nat→Prop} {g:Where} {s:AS} {a:Act} {w:World} {nm:Nat}
theorem bC.wide {f k:Nat} {args:List AV} {ins:Nat→Option aG} {Post:AV→(Nat→Option aG)→Prop} (h:bC P f args k ins Post):lB P f args k 1 ins Post:=
 ⟨h.body,by decide,h.all,h.um,fun W g w h1 h2 h3 h4=>(h.call W g w h1 h2 h3 h4).mono (by
  rintro e w' ⟨v,out,g',k1,k2,k3,k4,k5,k6,k7,k8⟩
  exact ⟨v,out,g',k1,k2,k3,k4,fun n b hb=>⟨(k5 n b hb).1,fun hn=>(k5 n b hb).2.1 (by have:=(k5 n b hb).1;omega),(k5 n b hb).2.2⟩,k6,k7,k8⟩)⟩
theorem vW {f:Nat} {fn:Func} {c:Code} (hf:P.funcs[f]? =some fn) (hb:fn.body=some c) {args:List AV} {k m:Nat} {ins:Nat→Option aG}
  (hlen:args.length≤fn.ntmps) (hc:au P f=true) (SE:m≤4) (hargs: ∀ v ∈ args,AV.ok (fun n=>n < k) v) (hall: ∀ n,n < k→ ∃ b,ins n=some b) (du: ∀ n b,ins n=some b→n < k∧ ∀ x ∈ b.cells,SV.ok (fun n=>n < k) x)
  {Post:AV→(Nat→Option aG)→Prop} (hv: ∀ (W:Nat→Prop) (w0:Base P),w0.pn≤k→Sound P W fn.ntmps w0 c (jX P fn.results.toList (TA k m Post)) (start args ins k)):lB P f args k m ins Post:=by
 refine ⟨hc,SE,hall,fun n b hb=>(du n b hb).1,fun W g w hlaid gR hm hown=> ?_⟩
 refine (oh (W:=W) (g:=g) (w:=w) hf hb hlen hlaid gR ⟨fun d v hd=> ?_,fun t b ht=>du t b ht⟩ ⟨hm.lt,hm.cell,hm.free,hm.sep⟩ hown (hv W)).mono ?_
 ·simp only[start]at hd
  exact hargs v (List.mem_of_getElem? hd)
 ·rintro e w' ⟨v,g',s',rfl,⟨q,v0,out,hq,YH,rfl,JC,hout,hpost⟩,_,uY,hmem,LJ,Dg,hfr⟩
  have hr: ∀ n,n < k→o6 k q n=n:=fun n hn=>by unfold o6;rw[if_pos hn]
  have hinj: ∀ n n',n < k+m→n' < k+m→o6 k q n=o6 k q n'→n=n':=fun n n' h1 h2 e=>by
   unfold o6 at e
   split at e<;>split at e
   ·exact e
   ·have:=hq (n' - k) (by omega);omega
   ·have:=hq (n - k) (by omega);omega
   ·have:=YH (n - k) (n' - k) (by omega) (by omega) e;omega
  refine ⟨v0,out,fun n=>g' (o6 k q n),by rw[AV.bG],hpost,fun n hn=> ?_,JC,fun n b hb=> ?_,⟨fun t b hb=> ?_,fun t b hb i v hv=> ?_,fun t b hb hrw i hi=> ?_,fun t t' b b' hb hrw hb' hne=> ?_⟩,fun t b hb hrw=> ?_,hfr⟩
  ·show g' (o6 k q n)=_
   rw[hr n hn];exact (uY n hn).2
  ·obtain ⟨h1,h2,h3,_⟩:=hout n b hb
   exact ⟨h1,h2,h3⟩
  ·obtain ⟨h1,_,_,b',h2,_⟩:=hout t b hb
   exact hmem.lt _ b' h2
  ·obtain ⟨h1,_,_,b',h2,_,h4⟩:=hout t b hb
   have:=hmem.cell _ b' h2 i (SV.ren (o6 k q) v) (by rw[h4];simp[hv])
   rw[this,SV.bG]
  ·obtain ⟨h1,_,_,b',h2,h3,h4⟩:=hout t b hb
   exact hmem.free _ b' h2 (h3 hrw) i (by rw[h4];simpa using hi)
  ·obtain ⟨h1,_,_,c1,h2,h3,_⟩:=hout t b hb
   obtain ⟨h1',_,_,c2,h2',_,_⟩:=hout t' b' hb'
   exact hmem.sep _ _ c1 c2 h2 (h3 hrw) h2' (fun e=>hne (hinj _ _ h1 h1' e))
  ·obtain ⟨h1,_,_,b',h2,h3,_⟩:=hout t b hb
   exact Dg _ b' h2 (h3 hrw)
theorem gq {r:Nat→Nat} {k m:Nat} {wr:Option Nat} {out:Nat→Option aG} {t:Nat} {b:aG} (h:ia s r k m nm wr out t=some b):
  (∃ j c,j < m∧t=nm+j∧out (k+j)=some c∧b=aG.ren (aR r k nm) c)∨(¬ (nm≤t∧t < nm+m)∧((∃ n c,wr=some n∧t=r n∧out n=some c∧b=aG.ren (aR r k nm) c)∨((∀ n,wr=some n→t≠r n)∧s.box t=some b))):=by
 unfold ia at h
 split at h
 ·rename_i hr
  left
  cases ho:out (k+(t - nm)) with
  | none=>rw[ho]at h;cases h
  | some c=>
   rw[ho]at h
   simp only[Option.map_some,Option.some.injEq]at h
   exact ⟨t - nm,c,by omega,by omega,ho,h.symm⟩
 ·rename_i hr
  refine .inr ⟨hr, ?_⟩
  cases wr with
  | none=>exact .inr ⟨fun n e=>(by cases e),h⟩
  | some n=>
   simp only at h
   split at h
   ·rename_i e
    left
    cases ho:out n with
    | none=>rw[ho]at h;cases h
    | some c=>
     rw[ho]at h
     simp only[Option.map_some,Option.some.injEq]at h
     exact ⟨n,c,rfl,e,ho,h.symm⟩
   ·rename_i e
    exact .inr ⟨fun n' e'=>(by cases e';exact e),h⟩
theorem lB.rep {f k m:Nat} {args:List AV} {ins:Nat→Option aG} {Post:AV→(Nat→Option aG)→Prop} (h:lB P f args k m ins Post) (hs:br W N w0 (fun n=>n < nm) g s a w)
  {r:Nat→Nat} {wr:Option Nat} (hfit:Fits s r ins wr):
  Calls P f ((args.map (AV.ren r)).map (AV.ah g)).toArray w fun e w'=> ∃ v out g',e= .returned (AV.ah g' (AV.ren (aR r k nm) v))∧Post v out∧(∀ n,n < nm→g' n=g n)∧
   br W N w0 (fun n=>n < nm+m) g' { s with box:=ia s r k m nm wr out } a w'∧AV.ok (fun n=>n < nm+m) (AV.ren (aR r k nm) v)∧
   (∀ t b,ia s r k m nm wr out t=some b→b.rw=true∨ ∃ b0,s.box t=some b0∧g' t=g t):=by
 have mJ: ∀ n,n < k→r n < nm:=fun n hn=>by
  obtain ⟨b,hb⟩:=h.all n hn
  obtain ⟨b',hb',_⟩:=hfit.box n b hb
  exact (hs.names.box _ b' hb').1
 have hargs:(args.map (AV.ren r)).map (AV.ah g)=args.map (AV.ah fun n=>g (r n)):=by
  rw[List.map_map];exact List.map_congr_left fun x _=>AV.bG g r x
 rw[hargs]
 have hm0:cw (fun n=>g (r n)) (jY ins) w:=by
  refine ⟨fun t b hb=> ?_,fun t b hb i v hv=> ?_,fun t b hb hrw i hi=> ?_,fun t t' b b' hb hrw hb' hne=> ?_⟩
  ·obtain ⟨b',h1,_⟩:=hfit.box t b hb
   exact hs.mem.lt _ b' h1
  ·obtain ⟨b',h1,_,h3⟩:=hfit.box t b hb
   have:=hs.mem.cell _ b' h1 i (SV.ren r v) (by rw[h3];simp[hv])
   rw[this,SV.bG]
  ·obtain ⟨b',h1,h2,h3⟩:=hfit.box t b hb
   exact hs.mem.free _ b' h1 (h2 hrw) i (by rw[h3];simpa using hi)
  ·obtain ⟨c,h1,h2,_⟩:=hfit.box t b hb
   obtain ⟨c',h1',_,_⟩:=hfit.box t' b' hb'
   exact hs.mem.sep _ _ c c' h1 (h2 hrw) h1' (fun e=>hne (hfit.inj _ _ b b' hb hrw hb' e))
 have htb: ∀ b bx,Tables.row P b=some bx→ ¬ ∃ n,wr=some n∧b=(g (r n)).1:=fun b bx hb=>by
  rintro ⟨n,hn,rfl⟩
  obtain ⟨c,hc,hrw⟩:=hfit.Dh n hn
  obtain ⟨b',h1,h2,_⟩:=hfit.box n c hc
  rcases hs.own _ b' h1 (h2 hrw) with h3 | h3
  ·have:=(w0.laid.rows _ bx hb).1;omega
  ·exact hs.tabs _ bx hb h3
 refine (h.call (fun Ob=> ∃ n,wr=some n∧Ob=(g (r n)).1) (fun n=>g (r n)) w hs.laid htb hm0 (fun t b hb hrw=>⟨t,hfit.only t b hb hrw,rfl⟩)).mono ?_
 rintro e w' ⟨v,out,gc,rfl,hpost,hsame,hv,hout,hmem,hown,hfr⟩
 let G:Where:=fun n=>if nm≤n then gc (k+(n - nm)) else g n
 have fP: ∀ n,n < nm→G n=g n:=fun n hn=>if_neg (by omega)
 have gu: ∀ j,G (nm+j)=gc (k+j):=fun j=>by show (if nm≤nm+j then gc (k+(nm+j - nm)) else _)=_;rw[if_pos (by omega)];congr 1;omega
 have Ln: ∀ n,n < k+m→G (aR r k nm n)=gc n:=fun n hn=>by
  unfold aR
  split
  ·rename_i e;rw[fP _ (mJ n e),hsame n e]
  ·rename_i e;rw[gu];congr 1;omega
 have rS: ∀ x:SV,SV.names (fun n=>n < k+m) x→SV.ah gc x=SV.ah G (SV.ren (aR r k nm) x):=fun x hx=>by
  rw[SV.bG];exact SV.aZ (SV.aY (fun n hn=>(Ln n hn).symm) hx)
 have vw:AV.ah gc v=AV.ah G (AV.ren (aR r k nm) v):=by
  rw[AV.bG];exact AV.aZ (AV.aI (fun n hn=>(Ln n hn).symm) hv)
 have Qj: ∀ n,n < k+m→aR r k nm n < nm+m:=fun n hn=>by
  unfold aR
  split
  ·rename_i e;have:=mJ n e;omega
  ·omega
 have vx: ∀ x:SV,SV.ok (fun n=>n < k+m) x→SV.ok (fun n=>n < nm+m) (SV.ren (aR r k nm) x):=fun x hx=>by
  exact ⟨SV.kr.2 (SV.aY Qj hx.1),SV.Ay.trans hx.2⟩
 have Di: ∀ x:CV,CV.ok (fun n=>n < k+m) x→CV.ok (fun n=>n < nm+m) (CV.ren (aR r k nm) x):=fun x hx=>by
  rcases x with x | l
  ·exact SV.kr.2 (SV.aY Qj hx)
  ·intro y hy
   simp only[List.mem_map]at hy
   obtain ⟨z,hz,rfl⟩:=hy
   exact vx z (hx z hz)
 have LK:AV.ok (fun n=>n < nm+m) (AV.ren (aR r k nm) v):=by
  rcases v with x | l
  ·exact Di x hv
  ·intro y hy
   simp only[List.mem_map]at hy
   obtain ⟨z,hz,rfl⟩:=hy
   exact Di z (hv z hz)
 have im: ∀ n,wr=some n→n < k∧ ∃ b',s.box (r n)=some b'∧b'.rw=true:=fun n hn=>by
  obtain ⟨b,hb,hrw⟩:=hfit.Dh n hn
  obtain ⟨b',h1,h2,_⟩:=hfit.box n b hb
  exact ⟨h.um n b hb,b',h1,h2 hrw⟩
 have Qk: ∀ t b,s.box t=some b→(∀ n,wr=some n→t≠r n)→ ¬ ∃ n,wr=some n∧(g t).1=(g (r n)).1:=fun t b hb hne=>by
  rintro ⟨n,hn,e⟩
  obtain ⟨_,b',h1,h2⟩:=im n hn
  exact hs.mem.sep _ _ b' b h1 h2 hb (fun e=>hne n hn e.symm) e.symm
 have hkeep: ∀ t b,s.box t=some b→(∀ n,wr=some n→t≠r n)→w'.heap[(g t).1]? =w.heap[(g t).1]? :=fun t b hb hne=>
  hfr.block _ (hs.mem.lt t b hb) (Qk t b hb hne)
 have lX: ∀ t b,s.box t=some b→t < nm:=fun t b hb=>(hs.names.box t b hb).1
 have nY: ∀ j t b c,j < m→s.box t=some b→(∀ n,wr=some n→t≠r n)→out (k+j)=some c→(gc (k+j)).1≠(g t).1:=fun j t b c hj hb hne hc=>by
  rcases hown (k+j) c hc ((hout (k+j) c hc).2.1 (by omega)) with h1 | ⟨n,hn,h1⟩
  ·have:=hs.mem.lt t b hb;omega
  ·rw[h1]
   intro e
   exact Qk t b hb hne ⟨n,hn,e.symm⟩
 have lA: ∀ j n c c',j < m→wr=some n→out (k+j)=some c→out n=some c'→(gc (k+j)).1≠(g (r n)).1:=fun j n c c' hj hn hc nB=>by
  have hlt:=(im n hn).1
  have:=hmem.sep (k+j) n c c' hc ((hout (k+j) c hc).2.1 (by omega)) nB (by omega)
  rwa [hsame n hlt]at this
 have hcell: ∀ n c i x,out n=some c→n < k+m→(aG.ren (aR r k nm) c).cells[i]? =some x→w'.cell? ⟨(gc n).1,(gc n).2+i,none⟩=some (SV.ah G x):=fun n c i x hc hn hx=>by
  simp only[aG.ren,List.getElem?_map]at hx
  cases hz:c.cells[i]? with
  | none=>rw[hz]at hx;cases hx
  | some z=>
   rw[hz]at hx
   simp only[Option.map_some,Option.some.injEq]at hx;subst hx
   rw[hmem.cell n c hc i z hz,rS z ((hout n c hc).2.2 z (List.mem_of_getElem? hz)).1]
 refine ⟨v,out,G,by rw[vw],hpost,fP,⟨hs.size,hs.defers,fun d x hd=> ?_,⟨fun d x hd=> ?_,fun t b hb=> ?_⟩,⟨fun t b hb=> ?_,fun t b hb i x hx=> ?_,fun t b hb hrw i hi=> ?_,fun t t' b b' hb hrw hb' hne=> ?_⟩,fun t b hb hrw=> ?_, ?_,fun n hn=>⟨Nat.lt_of_lt_of_le (hs.pin n hn).1 (Nat.le_add_right _ _),(fP n (hs.pin n hn).1).trans (hs.pin n hn).2⟩,hs.tabs⟩,LK,fun t b hb=> ?_⟩
 ·rw[hs.env d x hd]
  rw[AV.aZ (AV.aI (fun n hn=>(fP n hn).symm) (hs.names.env d x hd))]
 ·exact AV.aI (fun _ hn=>Nat.lt_of_lt_of_le hn (Nat.le_add_right _ _)) (hs.names.env d x hd)
 ·rcases gq hb with ⟨j,c,hj,rfl,hc,rfl⟩ | ⟨_,⟨n,c,hn,rfl,hc,rfl⟩ | ⟨_,hb'⟩⟩
  ·refine ⟨by omega,fun x hx=> ?_⟩
   simp only[aG.ren,List.mem_map]at hx
   obtain ⟨z,hz,rfl⟩:=hx
   exact vx z ((hout _ c hc).2.2 z hz)
  ·refine ⟨by have:=mJ n (im n hn).1;omega,fun x hx=> ?_⟩
   simp only[aG.ren,List.mem_map]at hx
   obtain ⟨z,hz,rfl⟩:=hx
   exact vx z ((hout n c hc).2.2 z hz)
  ·exact ⟨Nat.lt_of_lt_of_le (lX t b hb') (Nat.le_add_right _ _),fun x hx=>SV.aI (fun _ hn=>Nat.lt_of_lt_of_le hn (Nat.le_add_right _ _)) ((hs.names.box t b hb').2 x hx)⟩
 ·rcases gq hb with ⟨j,c,hj,rfl,hc,rfl⟩ | ⟨_,⟨n,c,hn,rfl,hc,rfl⟩ | ⟨_,hb'⟩⟩
  ·rw[gu];exact hmem.lt _ c hc
  ·have:=hmem.lt n c hc
   rw[fP _ (mJ n (im n hn).1), ← hsame n (im n hn).1];exact this
  ·rw[fP t (lX t b hb')];exact Nat.lt_of_lt_of_le (hs.mem.lt t b hb') hfr.size
 ·rcases gq hb with ⟨j,c,hj,rfl,hc,rfl⟩ | ⟨_,⟨n,c,hn,rfl,hc,rfl⟩ | ⟨hne,hb'⟩⟩
  ·rw[gu];exact hcell _ c i x hc (by omega) hx
  ·rw[fP _ (mJ n (im n hn).1), ← hsame n (im n hn).1]
   exact hcell n c i x hc (by have:=(im n hn).1;omega) hx
  ·have h1:=hs.mem.cell t b hb' i x hx
   rw[fP t (lX t b hb')]
   have h2:w'.cell? ⟨(g t).1,(g t).2+i,none⟩=w.cell? ⟨(g t).1,(g t).2+i,none⟩:=by
    unfold World.cell?;simp only[hkeep t b hb' hne]
   rw[h2,h1]
   rw[SV.aZ (SV.aY (fun n hn=>(fP n hn).symm) ((hs.names.box t b hb').2 x (List.mem_of_getElem? hx)).1)]
 ·rcases gq hb with ⟨j,c,hj,rfl,hc,rfl⟩ | ⟨_,⟨n,c,hn,rfl,hc,rfl⟩ | ⟨hne,hb'⟩⟩
  ·rw[gu];exact hmem.free _ c hc hrw i (by simpa[aG.ren] using hi)
  ·have:=hmem.free n c hc hrw i (by simpa[aG.ren] using hi)
   rw[fP _ (mJ n (im n hn).1), ← hsame n (im n hn).1];exact this
  ·rw[fP t (lX t b hb')]
   have h2:bN w' ⟨(g t).1,(g t).2+i,none⟩=bN w ⟨(g t).1,(g t).2+i,none⟩:=by
    unfold bN;simp only[hkeep t b hb' hne]
   rw[h2];exact hs.mem.free t b hb' hrw i hi
 ·rcases gq hb with ⟨j,c,hj,rfl,hc,rfl⟩ | ⟨hz1,⟨n,c,hn,rfl,hc,rfl⟩ | ⟨LL,hb1⟩⟩<;>rcases gq hb' with ⟨j',c',hj',rfl,nB,rfl⟩ | ⟨hz2,⟨n',c',hn',rfl,nB,rfl⟩ | ⟨LM,hb2⟩⟩
  ·rw[gu,gu]
   exact hmem.sep _ _ c c' hc hrw nB (by omega)
  ·rw[gu,fP _ (mJ n' (im n' hn').1)]
   exact lA j n' c c' hj hn' hc nB
  ·rw[gu,fP _ (lX _ _ hb2)]
   exact nY j t' b' c hj hb2 LM hc
  ·rw[gu,fP _ (mJ n (im n hn).1)]
   exact fun e=>lA j' n c' c hj' hn nB hc e.symm
  ·rw[hn]at hn';cases hn';exact absurd rfl hne
  ·obtain ⟨hlt,b0,h1,h2⟩:=im n hn
   rw[fP _ (mJ n hlt),fP _ (lX _ _ hb2)]
   exact hs.mem.sep _ _ b0 b' h1 h2 hb2 hne
  ·rw[gu,fP _ (lX _ _ hb1)]
   exact fun e=>nY j' t b c' hj' hb1 LL nB e.symm
  ·obtain ⟨hlt,b0,h1,h2⟩:=im n' hn'
   rw[fP _ (mJ n' hlt),fP _ (lX _ _ hb1)]
   exact hs.mem.sep _ _ b b0 hb1 hrw h1 hne
  ·rw[fP _ (lX _ _ hb1),fP _ (lX _ _ hb2)]
   exact hs.mem.sep _ _ b b' hb1 hrw hb2 hne
 ·have Ql: ∀ x,(w.heap.size≤x∨ ∃ n,wr=some n∧x=(g (r n)).1)→w0.heap.size≤x∨W x:=fun x hx=>by
   rcases hx with hx | ⟨n,hn,rfl⟩
   ·exact .inl (Nat.le_trans hs.frame.size hx)
   ·obtain ⟨_,b0,h1,h2⟩:=im n hn
    exact hs.own _ b0 h1 h2
  rcases gq hb with ⟨j,c,hj,rfl,hc,rfl⟩ | ⟨_,⟨n,c,hn,rfl,hc,rfl⟩ | ⟨_,hb'⟩⟩
  ·rw[gu];exact Ql _ (hown _ c hc hrw)
  ·rw[fP _ (mJ n (im n hn).1)]
   exact Ql _ (.inr ⟨n,hn,rfl⟩)
  ·rw[fP _ (lX _ _ hb')];exact hs.own t b hb' hrw
 ·have hf:=hs.frame
  refine ⟨hfr.os.trans hf.os,hfr.tape.trans hf.tape,hfr.output.trans hf.output,Nat.le_trans hf.size hfr.size,fun x hx hW=> ?_⟩
  rw[hfr.block x (Nat.lt_of_lt_of_le hx hf.size) ?_]
  ·exact hf.block x hx hW
  ·rintro ⟨n,hn,rfl⟩
   obtain ⟨_,b0,h1,h2⟩:=im n hn
   rcases hs.own _ b0 h1 h2 with h3 | h3
   ·exact absurd hx (Nat.not_lt.2 h3)
   ·exact hW h3
 ·rcases gq hb with ⟨j,c,hj,rfl,hc,rfl⟩ | ⟨_,⟨n,c,hn,rfl,hc,rfl⟩ | ⟨_,hb'⟩⟩
  ·exact .inl ((hout _ c hc).2.1 (by omega))
  ·obtain ⟨_,b0,h1,h2⟩:=im n hn
   exact .inr ⟨b0,h1,fP _ (mJ n (im n hn).1)⟩
  ·exact .inr ⟨b,hb',fP t (lX t b hb')⟩
theorem lB.aB {f k m:Nat} {args l:List AV} {ins:Nat→Option aG} {Post:AV→(Nat→Option aG)→Prop} (h:lB P f args k m ins Post) (r:Nat→Nat) (wr:Option Nat) (hfit:Fits s r ins wr) (hl:l=args.map (AV.ren r))
  {dst:Option Nat} {K:AS→Prop} (hk: ∀ v out,Post v out→K (({ s with box:=ia s r k m nm wr out }:AS).put dst (some (AV.ren (aR r k nm) v)))):bD P nm f (some l) dst K s:=by
 intro W N w0 g a w bh
 rw[hl]
 refine (h.rep bh hfit).mono ?_
 rintro e w' ⟨v,out,g',rfl,hpost,hsame,cM,hok,hnew⟩
 have hle:=h.le
 exact ⟨_,g',_,rfl,AV.aI (fun n hn=>by omega) hok,cM.mono (fun n hn=>by omega),hnew,hk v out hpost⟩
end
end Go.bM
