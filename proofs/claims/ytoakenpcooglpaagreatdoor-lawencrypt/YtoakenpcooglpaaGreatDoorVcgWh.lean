/-
  The calculus: contracts of functions that make several boxes, and the walk over a code with regions by a plan. Nothing here speaks of a program.
-/
import Derived.Test.YtoakenpcooglpaaGreatDoorVcgWg
set_option linter.unusedVariables false
set_option linter.unusedSimpArgs false
namespace Go.cA
set_option linter.unusedSectionVars false
def gM (k:Nat) (q:Nat→Nat) (n:Nat):Nat:=if n < k then n else q (n - k)
def dt (r:Nat→Nat) (k nm:Nat) (n:Nat):Nat:=if n < k then r n else nm+(n - k)
structure mL (P:Program) [Tables P] (f:Nat) (args:List AV) (k m:Nat) (ins:Nat→Option aW) (Post:AV→(Nat→Option aW)→Prop):Prop where
 body:ai P f=true
 le:m≤4
 all: ∀ n,n < k→ ∃ b,ins n=some b
 np: ∀ n b,ins n=some b→n < k
 call: ∀ (W:Nat→Prop) (g:bG) (w:World),Laid P w→(∀ b bx,Tables.row P b=some bx→ ¬ W b)→eX g (wz ins) w→(∀ t b,ins t=some b→b.rw=true→W (g t).1)→
  Calls P f (args.map (AV.av g)).toArray w fun e w'=> ∃ v out g',e= .returned (AV.av g' v)∧Post v out∧(∀ n,n < k→g' n=g n)∧AV.ok (fun n=>n < k+m) v∧
   (∀ n b,out n=some b→n < k+m∧(k≤n→b.rw=true)∧ ∀ x ∈ b.cells,SV.ok (fun n=>n < k+m) x)∧eX g' (wz out) w'∧
   (∀ t b,out t=some b→b.rw=true→w.heap.size≤(g' t).1∨W (g' t).1)∧Frame W w w'
def Cz (k m:Nat) (Post:AV→(Nat→Option aW)→Prop) (v:AV) (s:AS):Prop:=
 ∃ (q:Nat→Nat) (v0:AV) (out:Nat→Option aW),(∀ j,j < m→k≤q j)∧(∀ i j,i < m→j < m→q i=q j→i=j)∧v=AV.bh (gM k q) v0∧AV.ok (fun n=>n < k+m) v0∧
  (∀ n b,out n=some b→n < k+m∧(k≤n→b.rw=true)∧(∀ x ∈ b.cells,SV.ok (fun n=>n < k+m) x)∧ ∃ b',s.box (gM k q n)=some b'∧(b.rw=true→b'.rw=true)∧b'.cells=b.cells.map (SV.bh (gM k q)))∧Post v0 out
def ky (s:AS) (r:Nat→Nat) (k m nm:Nat) (wr:Option Nat) (out:Nat→Option aW) (t:Nat):Option aW:=
 if nm≤t∧t < nm+m then (out (k+(t - nm))).map (aW.bh (dt r k nm)) else match wr with
  | none=>s.box t
  | some n=>if t=r n then (out n).map (aW.bh (dt r k nm)) else s.box t
section
variable {P:Program} [Tables P] {W:Nat→Prop} {N:Nat} {w0:gF P} {M:Nat→Prop} {g:bG} {s:AS} {a:Act} {w:World} {nm:Nat}
theorem bt.wide {f k:Nat} {args:List AV} {ins:Nat→Option aW} {Post:AV→(Nat→Option aW)→Prop} (h:bt P f args k ins Post):mL P f args k 1 ins Post:=
 ⟨h.body,by decide,h.all,h.np,fun W g w h1 h2 h3 h4=>(h.call W g w h1 h2 h3 h4).mono (by
  rintro e w' ⟨v,out,g',k1,k2,k3,k4,k5,k6,k7,k8⟩
  exact ⟨v,out,g',k1,k2,k3,k4,fun n b hb=>⟨(k5 n b hb).1,fun hn=>(k5 n b hb).2.1 (by have:=(k5 n b hb).1;omega),(k5 n b hb).2.2⟩,k6,k7,k8⟩)⟩
theorem Bo {f:Nat} {fn:Func} {c:Code} (hf:P.funcs[f]? =some fn) (hb:fn.body=some c) {args:List AV} {k m:Nat} {ins:Nat→Option aW}
  (hlen:args.length≤fn.ntmps) (hc:ai P f=true) (hm4:m≤4) (hargs: ∀ v ∈ args,AV.ok (fun n=>n < k) v) (hall: ∀ n,n < k→ ∃ b,ins n=some b) (j6: ∀ n b,ins n=some b→n < k∧ ∀ x ∈ b.cells,SV.ok (fun n=>n < k) x)
  {Post:AV→(Nat→Option aW)→Prop} (hv: ∀ (W:Nat→Prop) (w0:gF P),w0.pn≤k→Sound P W fn.ntmps w0 c (kY P fn.results.toList (Cz k m Post)) (start args ins k)):mL P f args k m ins Post:=by
 refine ⟨hc,hm4,hall,fun n b hb=>(j6 n b hb).1,fun W g w hlaid ko hm hown=> ?_⟩
 refine (nS (W:=W) (g:=g) (w:=w) hf hb hlen hlaid ko ⟨fun d v hd=> ?_,fun t b ht=>j6 t b ht⟩ ⟨hm.lt,hm.cell,hm.free,hm.sep⟩ hown (hv W)).mono ?_
 ·simp only[start]at hd
  exact hargs v (List.mem_of_getElem? hd)
 ·rintro e w' ⟨v,g',s',rfl,⟨q,v0,out,hq,hqi,rfl,Vs,hout,hpost⟩,_,Gl,hmem,NH,xN,hfr⟩
  have hr: ∀ n,n < k→gM k q n=n:=fun n hn=>by unfold gM;rw[if_pos hn]
  have hinj: ∀ n n',n < k+m→n' < k+m→gM k q n=gM k q n'→n=n':=fun n n' h1 h2 e=>by
   unfold gM at e
   split at e<;>split at e
   ·exact e
   ·have:=hq (n' - k) (by omega);omega
   ·have:=hq (n - k) (by omega);omega
   ·have:=hqi (n - k) (n' - k) (by omega) (by omega) e;omega
  refine ⟨v0,out,fun n=>g' (gM k q n),by rw[AV.cP],hpost,fun n hn=> ?_,Vs,fun n b hb=> ?_,⟨fun t b hb=> ?_,fun t b hb i v hv=> ?_,fun t b hb hrw i hi=> ?_,fun t t' b b' hb hrw hb' hne=> ?_⟩,fun t b hb hrw=> ?_,hfr⟩
  ·show g' (gM k q n)=_
   rw[hr n hn];exact (Gl n hn).2
  ·obtain ⟨h1,h2,h3,_⟩:=hout n b hb
   exact ⟨h1,h2,h3⟩
  ·obtain ⟨h1,_,_,b',h2,_⟩:=hout t b hb
   exact hmem.lt _ b' h2
  ·obtain ⟨h1,_,_,b',h2,_,h4⟩:=hout t b hb
   have:=hmem.cell _ b' h2 i (SV.bh (gM k q) v) (by rw[h4];simp[hv])
   rw[this,SV.cP]
  ·obtain ⟨h1,_,_,b',h2,h3,h4⟩:=hout t b hb
   exact hmem.free _ b' h2 (h3 hrw) i (by rw[h4];simpa using hi)
  ·obtain ⟨h1,_,_,c1,h2,h3,_⟩:=hout t b hb
   obtain ⟨h1',_,_,c2,h2',_,_⟩:=hout t' b' hb'
   exact hmem.sep _ _ c1 c2 h2 (h3 hrw) h2' (fun e=>hne (hinj _ _ h1 h1' e))
  ·obtain ⟨h1,_,_,b',h2,h3,_⟩:=hout t b hb
   exact xN _ b' h2 (h3 hrw)
theorem gl {r:Nat→Nat} {k m:Nat} {wr:Option Nat} {out:Nat→Option aW} {t:Nat} {b:aW} (h:ky s r k m nm wr out t=some b):
  (∃ j c,j < m∧t=nm+j∧out (k+j)=some c∧b=aW.bh (dt r k nm) c)∨(¬ (nm≤t∧t < nm+m)∧((∃ n c,wr=some n∧t=r n∧out n=some c∧b=aW.bh (dt r k nm) c)∨((∀ n,wr=some n→t≠r n)∧s.box t=some b))):=by
 unfold ky at h
 split at h
 ·rename_i hr
  left
  cases ho:out (k+(t - nm)) with
  | none=>rw[ho]at h;cases h
  | some c=>
   rw[ho]at h
   simp only[Option.map_some,Option.some.injEq]at h
   exact ⟨t - nm,c,by omega,by omega,ho,h.symm⟩
 ·rename_i hr
  refine .inr ⟨hr, ?_⟩
  cases wr with
  | none=>exact .inr ⟨fun n e=>(by cases e),h⟩
  | some n=>
   simp only at h
   split at h
   ·rename_i e
    left
    cases ho:out n with
    | none=>rw[ho]at h;cases h
    | some c=>
     rw[ho]at h
     simp only[Option.map_some,Option.some.injEq]at h
     exact ⟨n,c,rfl,e,ho,h.symm⟩
   ·rename_i e
    exact .inr ⟨fun n' e'=>(by cases e';exact e),h⟩
theorem mL.rep {f k m:Nat} {args:List AV} {ins:Nat→Option aW} {Post:AV→(Nat→Option aW)→Prop} (h:mL P f args k m ins Post) (hs:cE W N w0 (fun n=>n < nm) g s a w)
  {r:Nat→Nat} {wr:Option Nat} (hfit:Fits s r ins wr):
  Calls P f ((args.map (AV.bh r)).map (AV.av g)).toArray w fun e w'=> ∃ v out g',e= .returned (AV.av g' (AV.bh (dt r k nm) v))∧Post v out∧(∀ n,n < nm→g' n=g n)∧
   cE W N w0 (fun n=>n < nm+m) g' { s with box:=ky s r k m nm wr out } a w'∧AV.ok (fun n=>n < nm+m) (AV.bh (dt r k nm) v)∧
   (∀ t b,ky s r k m nm wr out t=some b→b.rw=true∨ ∃ b0,s.box t=some b0∧g' t=g t):=by
 have wJ: ∀ n,n < k→r n < nm:=fun n hn=>by
  obtain ⟨b,hb⟩:=h.all n hn
  obtain ⟨b',hb',_⟩:=hfit.box n b hb
  exact (hs.names.box _ b' hb').1
 have hargs:(args.map (AV.bh r)).map (AV.av g)=args.map (AV.av fun n=>g (r n)):=by
  rw[List.map_map];exact List.map_congr_left fun x _=>AV.cP g r x
 rw[hargs]
 have hm0:eX (fun n=>g (r n)) (wz ins) w:=by
  refine ⟨fun t b hb=> ?_,fun t b hb i v hv=> ?_,fun t b hb hrw i hi=> ?_,fun t t' b b' hb hrw hb' hne=> ?_⟩
  ·obtain ⟨b',h1,_⟩:=hfit.box t b hb
   exact hs.mem.lt _ b' h1
  ·obtain ⟨b',h1,_,h3⟩:=hfit.box t b hb
   have:=hs.mem.cell _ b' h1 i (SV.bh r v) (by rw[h3];simp[hv])
   rw[this,SV.cP]
  ·obtain ⟨b',h1,h2,h3⟩:=hfit.box t b hb
   exact hs.mem.free _ b' h1 (h2 hrw) i (by rw[h3];simpa using hi)
  ·obtain ⟨c,h1,h2,_⟩:=hfit.box t b hb
   obtain ⟨c',h1',_,_⟩:=hfit.box t' b' hb'
   exact hs.mem.sep _ _ c c' h1 (h2 hrw) h1' (fun e=>hne (hfit.inj _ _ b b' hb hrw hb' e))
 have htb: ∀ b bx,Tables.row P b=some bx→ ¬ ∃ n,wr=some n∧b=(g (r n)).1:=fun b bx hb=>by
  rintro ⟨n,hn,rfl⟩
  obtain ⟨c,hc,hrw⟩:=hfit.Xh n hn
  obtain ⟨b',h1,h2,_⟩:=hfit.box n c hc
  rcases hs.own _ b' h1 (h2 hrw) with h3 | h3
  ·have:=(w0.laid.rows _ bx hb).1;omega
  ·exact hs.tabs _ bx hb h3
 refine (h.call (fun blk=> ∃ n,wr=some n∧blk=(g (r n)).1) (fun n=>g (r n)) w hs.laid htb hm0 (fun t b hb hrw=>⟨t,hfit.only t b hb hrw,rfl⟩)).mono ?_
 rintro e w' ⟨v,out,gc,rfl,hpost,hsame,hv,hout,hmem,hown,hfr⟩
 let G:bG:=fun n=>if nm≤n then gc (k+(n - nm)) else g n
 have gx: ∀ n,n < nm→G n=g n:=fun n hn=>if_neg (by omega)
 have gC: ∀ j,G (nm+j)=gc (k+j):=fun j=>by show (if nm≤nm+j then gc (k+(nm+j - nm)) else _)=_;rw[if_pos (by omega)];congr 1;omega
 have hgr: ∀ n,n < k+m→G (dt r k nm n)=gc n:=fun n hn=>by
  unfold dt
  split
  ·rename_i e;rw[gx _ (wJ n e),hsame n e]
  ·rename_i e;rw[gC];congr 1;omega
 have Gq: ∀ x:SV,SV.names (fun n=>n < k+m) x→SV.av gc x=SV.av G (SV.bh (dt r k nm) x):=fun x hx=>by
  rw[SV.cP];exact SV.bX (SV.eY (fun n hn=>(hgr n hn).symm) hx)
 have NI:AV.av gc v=AV.av G (AV.bh (dt r k nm) v):=by
  rw[AV.cP];exact AV.bX (AV.bA (fun n hn=>(hgr n hn).symm) hv)
 have hMn: ∀ n,n < k+m→dt r k nm n < nm+m:=fun n hn=>by
  unfold dt
  split
  ·rename_i e;have:=wJ n e;omega
  ·omega
 have NJ: ∀ x:SV,SV.ok (fun n=>n < k+m) x→SV.ok (fun n=>n < nm+m) (SV.bh (dt r k nm) x):=fun x hx=>by
  rcases x with v | ⟨t,o⟩ | ⟨t,o,n,c⟩
  ·exact ⟨trivial,hx.2⟩
  ·exact ⟨hMn _ hx.1,rfl⟩
  ·exact ⟨hMn _ hx.1,rfl⟩
 have Xi: ∀ x:CV,CV.ok (fun n=>n < k+m) x→CV.ok (fun n=>n < nm+m) (CV.bh (dt r k nm) x):=fun x hx=>by
  rcases x with x | l
  ·rcases x with v | ⟨t,o⟩ | ⟨t,o,n,c⟩
   ·trivial
   ·exact hMn _ hx
   ·exact hMn _ hx
  ·intro y hy
   simp only[List.mem_map]at hy
   obtain ⟨z,hz,rfl⟩:=hy
   exact NJ z (hx z hz)
 have afO:AV.ok (fun n=>n < nm+m) (AV.bh (dt r k nm) v):=by
  rcases v with x | l
  ·exact Xi x hv
  ·intro y hy
   simp only[List.mem_map]at hy
   obtain ⟨z,hz,rfl⟩:=hy
   exact Xi z (hv z hz)
 have mV: ∀ n,wr=some n→n < k∧ ∃ b',s.box (r n)=some b'∧b'.rw=true:=fun n hn=>by
  obtain ⟨b,hb,hrw⟩:=hfit.Xh n hn
  obtain ⟨b',h1,h2,_⟩:=hfit.box n b hb
  exact ⟨h.np n b hb,b',h1,h2 hrw⟩
 have hWc: ∀ t b,s.box t=some b→(∀ n,wr=some n→t≠r n)→ ¬ ∃ n,wr=some n∧(g t).1=(g (r n)).1:=fun t b hb hne=>by
  rintro ⟨n,hn,e⟩
  obtain ⟨_,b',h1,h2⟩:=mV n hn
  exact hs.mem.sep _ _ b' b h1 h2 hb (fun e=>hne n hn e.symm) e.symm
 have hkeep: ∀ t b,s.box t=some b→(∀ n,wr=some n→t≠r n)→w'.heap[(g t).1]? =w.heap[(g t).1]? :=fun t b hb hne=>
  hfr.block _ (hs.mem.lt t b hb) (hWc t b hb hne)
 have sM: ∀ t b,s.box t=some b→t < nm:=fun t b hb=>(hs.names.box t b hb).1
 have xO: ∀ j t b c,j < m→s.box t=some b→(∀ n,wr=some n→t≠r n)→out (k+j)=some c→(gc (k+j)).1≠(g t).1:=fun j t b c hj hb hne hc=>by
  rcases hown (k+j) c hc ((hout (k+j) c hc).2.1 (by omega)) with h1 | ⟨n,hn,h1⟩
  ·have:=hs.mem.lt t b hb;omega
  ·rw[h1]
   intro e
   exact hWc t b hb hne ⟨n,hn,e.symm⟩
 have rG: ∀ j n c c',j < m→wr=some n→out (k+j)=some c→out n=some c'→(gc (k+j)).1≠(g (r n)).1:=fun j n c c' hj hn hc Cm=>by
  have hlt:=(mV n hn).1
  have:=hmem.sep (k+j) n c c' hc ((hout (k+j) c hc).2.1 (by omega)) Cm (by omega)
  rwa [hsame n hlt]at this
 have hcell: ∀ n c i x,out n=some c→n < k+m→(aW.bh (dt r k nm) c).cells[i]? =some x→w'.cell? ⟨(gc n).1,(gc n).2+i,none⟩=some (SV.av G x):=fun n c i x hc hn hx=>by
  simp only[aW.bh,List.getElem?_map]at hx
  cases hz:c.cells[i]? with
  | none=>rw[hz]at hx;cases hx
  | some z=>
   rw[hz]at hx
   simp only[Option.map_some,Option.some.injEq]at hx;subst hx
   rw[hmem.cell n c hc i z hz,Gq z ((hout n c hc).2.2 z (List.mem_of_getElem? hz)).1]
 refine ⟨v,out,G,by rw[NI],hpost,gx,⟨hs.size,hs.defers,fun d x hd=> ?_,⟨fun d x hd=> ?_,fun t b hb=> ?_⟩,⟨fun t b hb=> ?_,fun t b hb i x hx=> ?_,fun t b hb hrw i hi=> ?_,fun t t' b b' hb hrw hb' hne=> ?_⟩,fun t b hb hrw=> ?_, ?_,fun n hn=>⟨Nat.lt_of_lt_of_le (hs.kJ n hn).1 (Nat.le_add_right _ _),(gx n (hs.kJ n hn).1).trans (hs.kJ n hn).2⟩,hs.tabs⟩,afO,fun t b hb=> ?_⟩
 ·rw[hs.env d x hd]
  rw[AV.bX (AV.bA (fun n hn=>(gx n hn).symm) (hs.names.env d x hd))]
 ·exact AV.bA (fun _ hn=>Nat.lt_of_lt_of_le hn (Nat.le_add_right _ _)) (hs.names.env d x hd)
 ·rcases gl hb with ⟨j,c,hj,rfl,hc,rfl⟩ | ⟨_,⟨n,c,hn,rfl,hc,rfl⟩ | ⟨_,hb'⟩⟩
  ·refine ⟨by omega,fun x hx=> ?_⟩
   simp only[aW.bh,List.mem_map]at hx
   obtain ⟨z,hz,rfl⟩:=hx
   exact NJ z ((hout _ c hc).2.2 z hz)
  ·refine ⟨by have:=wJ n (mV n hn).1;omega,fun x hx=> ?_⟩
   simp only[aW.bh,List.mem_map]at hx
   obtain ⟨z,hz,rfl⟩:=hx
   exact NJ z ((hout n c hc).2.2 z hz)
  ·exact ⟨Nat.lt_of_lt_of_le (sM t b hb') (Nat.le_add_right _ _),fun x hx=>SV.bA (fun _ hn=>Nat.lt_of_lt_of_le hn (Nat.le_add_right _ _)) ((hs.names.box t b hb').2 x hx)⟩
 ·rcases gl hb with ⟨j,c,hj,rfl,hc,rfl⟩ | ⟨_,⟨n,c,hn,rfl,hc,rfl⟩ | ⟨_,hb'⟩⟩
  ·rw[gC];exact hmem.lt _ c hc
  ·have:=hmem.lt n c hc
   rw[gx _ (wJ n (mV n hn).1), ← hsame n (mV n hn).1];exact this
  ·rw[gx t (sM t b hb')];exact Nat.lt_of_lt_of_le (hs.mem.lt t b hb') hfr.size
 ·rcases gl hb with ⟨j,c,hj,rfl,hc,rfl⟩ | ⟨_,⟨n,c,hn,rfl,hc,rfl⟩ | ⟨hne,hb'⟩⟩
  ·rw[gC];exact hcell _ c i x hc (by omega) hx
  ·rw[gx _ (wJ n (mV n hn).1), ← hsame n (mV n hn).1]
   exact hcell n c i x hc (by have:=(mV n hn).1;omega) hx
  ·have h1:=hs.mem.cell t b hb' i x hx
   rw[gx t (sM t b hb')]
   have h2:w'.cell? ⟨(g t).1,(g t).2+i,none⟩=w.cell? ⟨(g t).1,(g t).2+i,none⟩:=by
    unfold World.cell?;simp only[hkeep t b hb' hne]
   rw[h2,h1]
   rw[SV.bX (SV.eY (fun n hn=>(gx n hn).symm) ((hs.names.box t b hb').2 x (List.mem_of_getElem? hx)).1)]
 ·rcases gl hb with ⟨j,c,hj,rfl,hc,rfl⟩ | ⟨_,⟨n,c,hn,rfl,hc,rfl⟩ | ⟨hne,hb'⟩⟩
  ·rw[gC];exact hmem.free _ c hc hrw i (by simpa[aW.bh] using hi)
  ·have:=hmem.free n c hc hrw i (by simpa[aW.bh] using hi)
   rw[gx _ (wJ n (mV n hn).1), ← hsame n (mV n hn).1];exact this
  ·rw[gx t (sM t b hb')]
   have h2:dq w' ⟨(g t).1,(g t).2+i,none⟩=dq w ⟨(g t).1,(g t).2+i,none⟩:=by
    unfold dq;simp only[hkeep t b hb' hne]
   rw[h2];exact hs.mem.free t b hb' hrw i hi
 ·rcases gl hb with ⟨j,c,hj,rfl,hc,rfl⟩ | ⟨hz1,⟨n,c,hn,rfl,hc,rfl⟩ | ⟨afP,ux⟩⟩<;>rcases gl hb' with ⟨j',c',hj',rfl,Cm,rfl⟩ | ⟨hz2,⟨n',c',hn',rfl,Cm,rfl⟩ | ⟨afQ,sW⟩⟩
  ·rw[gC,gC]
   exact hmem.sep _ _ c c' hc hrw Cm (by omega)
  ·rw[gC,gx _ (wJ n' (mV n' hn').1)]
   exact rG j n' c c' hj hn' hc Cm
  ·rw[gC,gx _ (sM _ _ sW)]
   exact xO j t' b' c hj sW afQ hc
  ·rw[gC,gx _ (wJ n (mV n hn).1)]
   exact fun e=>rG j' n c' c hj' hn Cm hc e.symm
  ·rw[hn]at hn';cases hn';exact absurd rfl hne
  ·obtain ⟨hlt,b0,h1,h2⟩:=mV n hn
   rw[gx _ (wJ n hlt),gx _ (sM _ _ sW)]
   exact hs.mem.sep _ _ b0 b' h1 h2 sW hne
  ·rw[gC,gx _ (sM _ _ ux)]
   exact fun e=>xO j' t b c' hj' ux afP Cm e.symm
  ·obtain ⟨hlt,b0,h1,h2⟩:=mV n' hn'
   rw[gx _ (wJ n' hlt),gx _ (sM _ _ ux)]
   exact hs.mem.sep _ _ b b0 ux hrw h1 hne
  ·rw[gx _ (sM _ _ ux),gx _ (sM _ _ sW)]
   exact hs.mem.sep _ _ b b' ux hrw sW hne
 ·have hW0: ∀ x,(w.heap.size≤x∨ ∃ n,wr=some n∧x=(g (r n)).1)→w0.heap.size≤x∨W x:=fun x hx=>by
   rcases hx with hx | ⟨n,hn,rfl⟩
   ·exact .inl (Nat.le_trans hs.frame.size hx)
   ·obtain ⟨_,b0,h1,h2⟩:=mV n hn
    exact hs.own _ b0 h1 h2
  rcases gl hb with ⟨j,c,hj,rfl,hc,rfl⟩ | ⟨_,⟨n,c,hn,rfl,hc,rfl⟩ | ⟨_,hb'⟩⟩
  ·rw[gC];exact hW0 _ (hown _ c hc hrw)
  ·rw[gx _ (wJ n (mV n hn).1)]
   exact hW0 _ (.inr ⟨n,hn,rfl⟩)
  ·rw[gx _ (sM _ _ hb')];exact hs.own t b hb' hrw
 ·have hf:=hs.frame
  refine ⟨hfr.os.trans hf.os,hfr.tape.trans hf.tape,hfr.output.trans hf.output,Nat.le_trans hf.size hfr.size,fun x hx hW=> ?_⟩
  rw[hfr.block x (Nat.lt_of_lt_of_le hx hf.size) ?_]
  ·exact hf.block x hx hW
  ·rintro ⟨n,hn,rfl⟩
   obtain ⟨_,b0,h1,h2⟩:=mV n hn
   rcases hs.own _ b0 h1 h2 with h3 | h3
   ·exact absurd hx (Nat.not_lt.2 h3)
   ·exact hW h3
 ·rcases gl hb with ⟨j,c,hj,rfl,hc,rfl⟩ | ⟨_,⟨n,c,hn,rfl,hc,rfl⟩ | ⟨_,hb'⟩⟩
  ·exact .inl ((hout _ c hc).2.1 (by omega))
  ·obtain ⟨_,b0,h1,h2⟩:=mV n hn
   exact .inr ⟨b0,h1,gx _ (wJ n (mV n hn).1)⟩
  ·exact .inr ⟨b,hb',gx t (sM t b hb')⟩
theorem mL.aB {f k m:Nat} {args l:List AV} {ins:Nat→Option aW} {Post:AV→(Nat→Option aW)→Prop} (h:mL P f args k m ins Post) (r:Nat→Nat) (wr:Option Nat) (hfit:Fits s r ins wr) (hl:l=args.map (AV.bh r))
  {dst:Option Nat} {K:AS→Prop} (hk: ∀ v out,Post v out→K (({ s with box:=ky s r k m nm wr out }:AS).put dst (some (AV.bh (dt r k nm) v)))):bZ P nm f (some l) dst K s:=by
 intro W N w0 g a w dr
 rw[hl]
 refine (h.rep dr hfit).mono ?_
 rintro e w' ⟨v,out,g',rfl,hpost,hsame,ly,hok,hnew⟩
 have hle:=h.le
 exact ⟨_,g',_,rfl,AV.bA (fun n hn=>by omega) hok,ly.mono (fun n hn=>by omega),hnew,hk v out hpost⟩
end
end Go.cA
