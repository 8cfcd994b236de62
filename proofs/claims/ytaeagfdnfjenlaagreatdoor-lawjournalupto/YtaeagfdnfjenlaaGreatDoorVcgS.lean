/-
  The calculus: contracts of functions that are handed boxes (pointers and slices), and how a call of such a function turns a state. Nothing here speaks of a program.
-/
import Derived.Test.YtaeagfdnfjenlaaGreatDoorVcgQ0
set_option linter.unusedVariables false
set_option linter.unusedSimpArgs false
namespace Go.cn
set_option linter.unusedSectionVars false
def kB (box:Nat→Option aI):AS:=⟨fun _=>none,box,0⟩
def jY (k q:Nat):Nat→Nat:=fun n=>if n=k then q else n
structure bd (P:Program) [Tables P] (f:Nat) (args:List AV) (k:Nat) (ins:Nat→Option aI) (Post:AV→(Nat→Option aI)→Prop):Prop where
 body:ak P f=true
 all: ∀ n,n < k→ ∃ b,ins n=some b
 qY: ∀ n b,ins n=some b→n < k
 call: ∀ (W:Nat→Prop) (g:Where) (w:World),Laid P w→(∀ b bx,Tables.row P b=some bx→ ¬ W b)→cY g (kB ins) w→(∀ t b,ins t=some b→b.rw=true→W (g t).1)→
  Calls P f (args.map (AV.ah g)).toArray w fun e w'=> ∃ v out g',e= .returned (AV.ah g' v)∧Post v out∧(∀ n,n < k→g' n=g n)∧AV.ok (fun n=>n < k+1) v∧
   (∀ n b,out n=some b→n < k+1∧(n=k→b.rw=true)∧ ∀ x ∈ b.cells,SV.ok (fun n=>n < k+1) x)∧cY g' (kB out) w'∧
   (∀ t b,out t=some b→b.rw=true→w.heap.size≤(g' t).1∨W (g' t).1)∧Frame W w w'
def m8 (k:Nat) (Post:AV→(Nat→Option aI)→Prop) (v:AV) (s:AS):Prop:=
 ∃ (q:Nat) (v0:AV) (out:Nat→Option aI),k≤q∧v=AV.ren (jY k q) v0∧AV.ok (fun n=>n < k+1) v0∧
  (∀ n b,out n=some b→n < k+1∧(n=k→b.rw=true)∧(∀ x ∈ b.cells,SV.ok (fun n=>n < k+1) x)∧ ∃ b',s.box (jY k q n)=some b'∧(b.rw=true→b'.rw=true)∧b'.cells=b.cells.map (SV.ren (jY k q)))∧Post v0 out
section
variable {P:Program} [Tables P] {W:Nat→Prop} {N:Nat} {w0:Base P} {M:Nat→Prop} {g:Where} {s:AS} {a:Act} {w:World} {nm:Nat}
theorem aG {f:Nat} {fn:Func} {c:Code} (hf:P.funcs[f]? =some fn) (hb:fn.body=some c) (hok:codeOk fn.ntmps c=true) {args:List AV} {k:Nat} {ins:Nat→Option aI}
  (hlen:args.length≤fn.ntmps) (hc:ak P f=true) (hargs: ∀ v ∈ args,AV.ok (fun n=>n < k) v) (hall: ∀ n,n < k→ ∃ b,ins n=some b) (fO: ∀ n b,ins n=some b→n < k∧ ∀ x ∈ b.cells,SV.ok (fun n=>n < k) x)
  {Post:AV→(Nat→Option aI)→Prop} (hv:vc P c (kA P fn.results.toList (m8 k Post)) (start args ins k)):bd P f args k ins Post:=by
 refine ⟨hc,hall,fun n b hb=>(fO n b hb).1,fun W g w hlaid iF hm hown=> ?_⟩
 refine (xe (W:=W) (g:=g) (w:=w) hf hb hok hlen hlaid iF ⟨fun d v hd=> ?_,fun t b ht=>fO t b ht⟩ ⟨hm.lt,hm.cell,hm.free,hm.sep⟩ hown hv).mono ?_
 ·simp only[start]at hd
  exact hargs v (List.mem_of_getElem? hd)
 ·rintro e w' ⟨v,g',s',rfl,⟨q,v0,out,hq,rfl,Kv,hout,hpost⟩,_,vz,hmem,Kw,zx,hfr⟩
  have hr: ∀ n,n < k→jY k q n=n:=fun n hn=>by unfold jY;rw[if_neg (by omega)]
  have hinj: ∀ n n',n < k+1→n' < k+1→jY k q n=jY k q n'→n=n':=fun n n' h1 h2 e=>by
   unfold jY at e
   split at e<;>split at e<;>omega
  refine ⟨v0,out,fun n=>g' (jY k q n),by rw[AV.cg],hpost,fun n hn=> ?_,Kv,fun n b hb=> ?_,⟨fun t b hb=> ?_,fun t b hb i v hv=> ?_,fun t b hb hrw i hi=> ?_,fun t t' b b' hb hrw hb' hne=> ?_⟩,fun t b hb hrw=> ?_,hfr⟩
  ·show g' (jY k q n)=_
   rw[hr n hn];exact (vz n hn).2
  ·obtain ⟨h1,h2,h3,_⟩:=hout n b hb
   exact ⟨h1,h2,h3⟩
  ·obtain ⟨h1,_,_,b',h2,_⟩:=hout t b hb
   exact hmem.lt _ b' h2
  ·obtain ⟨h1,_,_,b',h2,_,h4⟩:=hout t b hb
   have:=hmem.cell _ b' h2 i (SV.ren (jY k q) v) (by rw[h4];simp[hv])
   rw[this,SV.cg]
  ·obtain ⟨h1,_,_,b',h2,h3,h4⟩:=hout t b hb
   exact hmem.free _ b' h2 (h3 hrw) i (by rw[h4];simpa using hi)
  ·obtain ⟨h1,_,_,c1,h2,h3,_⟩:=hout t b hb
   obtain ⟨h1',_,_,c2,h2',_,_⟩:=hout t' b' hb'
   exact hmem.sep _ _ c1 c2 h2 (h3 hrw) h2' (fun e=>hne (hinj _ _ h1 h1' e))
  ·obtain ⟨h1,_,_,b',h2,h3,_⟩:=hout t b hb
   exact zx _ b' h2 (h3 hrw)
def aI.ren (r:Nat→Nat) (b:aI):aI:=⟨b.rw,b.cells.map (SV.ren r)⟩
def df (r:Nat→Nat) (k nm:Nat):Nat→Nat:=fun n=>if n=k then nm else r n
def after (s:AS) (r:Nat→Nat) (k nm:Nat) (wr:Option Nat) (out:Nat→Option aI):Nat→Option aI:=
 let b1:=match out k with
  | none=>s.box
  | some b=>upd s.box nm (some (aI.ren (df r k nm) b))
 match wr with
  | none=>b1
  | some n=>upd b1 (r n) ((out n).map (aI.ren (df r k nm)))
structure Fits (s:AS) (r:Nat→Nat) (ins:Nat→Option aI) (wr:Option Nat):Prop where
 box: ∀ n b,ins n=some b→ ∃ b',s.box (r n)=some b'∧(b.rw=true→b'.rw=true)∧b'.cells=b.cells.map (SV.ren r)
 inj: ∀ n n' b b',ins n=some b→b.rw=true→ins n'=some b'→r n=r n'→n=n'
 only: ∀ n b,ins n=some b→b.rw=true→wr=some n
 HF: ∀ n,wr=some n→ ∃ b,ins n=some b∧b.rw=true
theorem kC {r:Nat→Nat} {k:Nat} {wr:Option Nat} {out:Nat→Option aI} {t:Nat} {b:aI} (h:after s r k nm wr out t=some b):
  (∃ n c,wr=some n∧t=r n∧out n=some c∧b=aI.ren (df r k nm) c)∨((∀ n,wr=some n→t≠r n)∧((∃ c,t=nm∧out k=some c∧b=aI.ren (df r k nm) c)∨(s.box t=some b∧(t=nm→out k=none)))):=by
 have key:(match out k with | none=>s.box | some b=>upd s.box nm (some (aI.ren (df r k nm) b))) t=some b→
   (∃ c,t=nm∧out k=some c∧b=aI.ren (df r k nm) c)∨(s.box t=some b∧(t=nm→out k=none)):=fun h=>by
  cases ho:out k with
  | none=>rw[ho]at h;exact .inr ⟨h,fun _=>rfl⟩
  | some c=>
   rw[ho]at h
   simp only[upd]at h
   split at h
   ·rename_i e
    simp only[Option.some.injEq]at h
    exact .inl ⟨c,e,rfl,h.symm⟩
   ·rename_i e
    exact .inr ⟨h,fun e'=>absurd e' e⟩
 unfold after at h
 cases wr with
 | none=>exact .inr ⟨fun n e=>(by cases e),key h⟩
 | some n=>
  simp only[upd]at h
  split at h
  ·rename_i e
   cases ho:out n with
   | none=>rw[ho]at h;cases h
   | some c=>
    rw[ho]at h
    simp only[Option.map_some,Option.some.injEq]at h
    exact .inl ⟨n,c,rfl,e,ho,h.symm⟩
  ·rename_i e
   exact .inr ⟨fun n' e'=>(by cases e';exact e),key h⟩
theorem bd.rep {f k:Nat} {args:List AV} {ins:Nat→Option aI} {Post:AV→(Nat→Option aI)→Prop} (h:bd P f args k ins Post) (hs:bF W N w0 M g s a w) (hnm: ¬ M nm)
  {r:Nat→Nat} {wr:Option Nat} (hfit:Fits s r ins wr):
  Calls P f ((args.map (AV.ren r)).map (AV.ah g)).toArray w fun e w'=> ∃ v out g',e= .returned (AV.ah g' (AV.ren (df r k nm) v))∧Post v out∧(∀ n b,out n=some b→n=k→b.rw=true)∧(∀ n,M n→g' n=g n)∧
   bF W N w0 (fun n=>M n∨n=nm) g' { s with box:=after s r k nm wr out } a w'∧AV.ok (fun n=>M n∨n=nm) (AV.ren (df r k nm) v):=by
 have oL: ∀ n,n < k→M (r n):=fun n hn=>by
  obtain ⟨b,hb⟩:=h.all n hn
  obtain ⟨b',hb',_⟩:=hfit.box n b hb
  exact (hs.names.box _ b' hb').1
 have hargs:(args.map (AV.ren r)).map (AV.ah g)=args.map (AV.ah fun n=>g (r n)):=by
  rw[List.map_map];exact List.map_congr_left fun x _=>AV.cg g r x
 rw[hargs]
 have hm0:cY (fun n=>g (r n)) (kB ins) w:=by
  refine ⟨fun t b hb=> ?_,fun t b hb i v hv=> ?_,fun t b hb hrw i hi=> ?_,fun t t' b b' hb hrw hb' hne=> ?_⟩
  ·obtain ⟨b',h1,_⟩:=hfit.box t b hb
   exact hs.mem.lt _ b' h1
  ·obtain ⟨b',h1,_,h3⟩:=hfit.box t b hb
   have:=hs.mem.cell _ b' h1 i (SV.ren r v) (by rw[h3];simp[hv])
   rw[this,SV.cg]
  ·obtain ⟨b',h1,h2,h3⟩:=hfit.box t b hb
   exact hs.mem.free _ b' h1 (h2 hrw) i (by rw[h3];simpa using hi)
  ·obtain ⟨c,h1,h2,_⟩:=hfit.box t b hb
   obtain ⟨c',h1',_,_⟩:=hfit.box t' b' hb'
   exact hs.mem.sep _ _ c c' h1 (h2 hrw) h1' (fun e=>hne (hfit.inj _ _ b b' hb hrw hb' e))
 have htb: ∀ b bx,Tables.row P b=some bx→ ¬ ∃ n,wr=some n∧b=(g (r n)).1:=fun b bx hb=>by
  rintro ⟨n,hn,rfl⟩
  obtain ⟨c,hc,hrw⟩:=hfit.HF n hn
  obtain ⟨b',h1,h2,_⟩:=hfit.box n c hc
  rcases hs.own _ b' h1 (h2 hrw) with h3 | h3
  ·have:=(w0.laid.rows _ bx hb).1;omega
  ·exact hs.tabs _ bx hb h3
 refine (h.call (fun UO=> ∃ n,wr=some n∧UO=(g (r n)).1) (fun n=>g (r n)) w hs.laid htb hm0 (fun t b hb hrw=>⟨t,hfit.only t b hb hrw,rfl⟩)).mono ?_
 rintro e w' ⟨v,out,gc,rfl,hpost,hsame,hv,hout,hmem,hown,hfr⟩
 have gE: ∀ n,M n→upd g nm (gc k) n=g n:=fun n hn=>bh _ _ _ _ (fun e=>hnm (by rw[← e];exact hn))
 have QX: ∀ n,n < k+1→upd g nm (gc k) (df r k nm n)=gc n:=fun n hn=>by
  unfold df
  by_cases e:n=k
  ·rw[if_pos e,aQ,e]
  ·rw[if_neg e,gE _ (oL n (by omega)),hsame n (by omega)]
 have vA: ∀ x:SV,SV.names (fun n=>n < k+1) x→SV.ah gc x=SV.ah (upd g nm (gc k)) (SV.ren (df r k nm) x):=fun x hx=>by
  rw[SV.cg];exact SV.bu (SV.br (fun n hn=>(QX n hn).symm) hx)
 have zy:AV.ah gc v=AV.ah (upd g nm (gc k)) (AV.ren (df r k nm) v):=by
  rw[AV.cg];exact AV.bu (AV.aL (fun n hn=>(QX n hn).symm) hv)
 have WJ: ∀ n,n < k+1→M (df r k nm n)∨df r k nm n=nm:=fun n hn=>by
  unfold df
  by_cases e:n=k
  ·rw[if_pos e];exact .inr rfl
  ·rw[if_neg e];exact .inl (oL n (by omega))
 have zz: ∀ x:SV,SV.ok (fun n=>n < k+1) x→SV.ok (fun n=>M n∨n=nm) (SV.ren (df r k nm) x):=fun x hx=>by
  exact ⟨SV.me.2 (SV.br WJ hx.1),SV.EK.trans hx.2⟩
 have HG: ∀ x:CV,CV.ok (fun n=>n < k+1) x→CV.ok (fun n=>M n∨n=nm) (CV.ren (df r k nm) x):=fun x hx=>by
  rcases x with x | l
  ·exact SV.me.2 (SV.br WJ hx)
  ·intro y hy
   simp only[List.mem_map]at hy
   obtain ⟨z,hz,rfl⟩:=hy
   exact zz z (hx z hz)
 have Rk:AV.ok (fun n=>M n∨n=nm) (AV.ren (df r k nm) v):=by
  rcases v with x | l
  ·exact HG x hv
  ·intro y hy
   simp only[List.mem_map]at hy
   obtain ⟨z,hz,rfl⟩:=hy
   exact HG z (hv z hz)
 have jU: ∀ n,wr=some n→n < k∧ ∃ b',s.box (r n)=some b'∧b'.rw=true:=fun n hn=>by
  obtain ⟨b,hb,hrw⟩:=hfit.HF n hn
  obtain ⟨b',h1,h2,_⟩:=hfit.box n b hb
  exact ⟨h.qY n b hb,b',h1,h2 hrw⟩
 have WK: ∀ t b,s.box t=some b→(∀ n,wr=some n→t≠r n)→ ¬ ∃ n,wr=some n∧(g t).1=(g (r n)).1:=fun t b hb hne=>by
  rintro ⟨n,hn,e⟩
  obtain ⟨_,b',h1,h2⟩:=jU n hn
  exact hs.mem.sep _ _ b' b h1 h2 hb (fun e=>hne n hn e.symm) e.symm
 have hkeep: ∀ t b,s.box t=some b→(∀ n,wr=some n→t≠r n)→w'.heap[(g t).1]? =w.heap[(g t).1]? :=fun t b hb hne=>
  hfr.block _ (hs.mem.lt t b hb) (WK t b hb hne)
 have oc: ∀ t b,s.box t=some b→M t:=fun t b hb=>(hs.names.box t b hb).1
 have agn: ∀ b,s.box nm≠some b:=fun b hb=>hnm (oc nm b hb)
 have qn: ∀ t b c,s.box t=some b→(∀ n,wr=some n→t≠r n)→out k=some c→(gc k).1≠(g t).1:=fun t b c hb hne hc=>by
  rcases hown k c hc ((hout k c hc).2.1 rfl) with h1 | ⟨n,hn,h1⟩
  ·have:=hs.mem.lt t b hb;omega
  ·rw[h1]
   intro e
   exact WK t b hb hne ⟨n,hn,e.symm⟩
 have nt: ∀ n c c',wr=some n→out k=some c→out n=some c'→(gc k).1≠(g (r n)).1:=fun n c c' hn hc pV=>by
  have hlt:=(jU n hn).1
  have:=hmem.sep k n c c' hc ((hout k c hc).2.1 rfl) pV (by omega)
  rwa [hsame n hlt]at this
 refine ⟨v,out,upd g nm (gc k),by rw[zy],hpost,fun n b hb e=>(hout n b hb).2.1 e,gE,⟨hs.size,hs.defers,fun d x hd=> ?_,⟨fun d x hd=> ?_,fun t b hb=> ?_⟩,⟨fun t b hb=> ?_,fun t b hb i x hx=> ?_,fun t b hb hrw i hi=> ?_,fun t t' b b' hb hrw hb' hne=> ?_⟩,fun t b hb hrw=> ?_, ?_,fun n hn=>⟨.inl (hs.pin n hn).1,(gE n (hs.pin n hn).1).trans (hs.pin n hn).2⟩,hs.tabs⟩,Rk⟩
 ·rw[hs.env d x hd]
  rw[AV.bu (AV.aL (fun n hn=>(gE n hn).symm) (hs.names.env d x hd))]
 ·exact AV.aL (fun _ hn=> .inl hn) (hs.names.env d x hd)
 ·rcases kC hb with ⟨n,c,hn,rfl,hc,rfl⟩ | ⟨_,⟨c,rfl,hc,rfl⟩ | ⟨hb',_⟩⟩
  ·refine ⟨.inl (oL n (jU n hn).1),fun x hx=> ?_⟩
   simp only[aI.ren,List.mem_map]at hx
   obtain ⟨z,hz,rfl⟩:=hx
   exact zz z ((hout n c hc).2.2 z hz)
  ·refine ⟨.inr rfl,fun x hx=> ?_⟩
   simp only[aI.ren,List.mem_map]at hx
   obtain ⟨z,hz,rfl⟩:=hx
   exact zz z ((hout k c hc).2.2 z hz)
  ·exact ⟨.inl (oc t b hb'),fun x hx=>SV.aL (fun _ hn=> .inl hn) ((hs.names.box t b hb').2 x hx)⟩
 ·rcases kC hb with ⟨n,c,hn,rfl,hc,rfl⟩ | ⟨_,⟨c,rfl,hc,rfl⟩ | ⟨hb',_⟩⟩
  ·have:=hmem.lt n c hc
   rw[gE _ (oL n (jU n hn).1), ← hsame n (jU n hn).1];exact this
  ·rw[aQ];exact hmem.lt k c hc
  ·rw[gE t (oc t b hb')];exact Nat.lt_of_lt_of_le (hs.mem.lt t b hb') hfr.size
 ·rcases kC hb with ⟨n,c,hn,rfl,hc,rfl⟩ | ⟨hne,⟨c,rfl,hc,rfl⟩ | ⟨hb',_⟩⟩
  ·simp only[aI.ren,List.getElem?_map]at hx
   cases hz:c.cells[i]? with
   | none=>rw[hz]at hx;cases hx
   | some z=>
    rw[hz]at hx
    simp only[Option.map_some,Option.some.injEq]at hx;subst hx
    have:=hmem.cell n c hc i z hz
    rw[gE _ (oL n (jU n hn).1), ← hsame n (jU n hn).1,this]
    rw[vA z ((hout n c hc).2.2 z (List.mem_of_getElem? hz)).1]
  ·simp only[aI.ren,List.getElem?_map]at hx
   cases hz:c.cells[i]? with
   | none=>rw[hz]at hx;cases hx
   | some z=>
    rw[hz]at hx
    simp only[Option.map_some,Option.some.injEq]at hx;subst hx
    rw[aQ,hmem.cell k c hc i z hz]
    rw[vA z ((hout k c hc).2.2 z (List.mem_of_getElem? hz)).1]
  ·have h1:=hs.mem.cell t b hb' i x hx
   rw[gE t (oc t b hb')]
   have h2:w'.cell? ⟨(g t).1,(g t).2+i,none⟩=w.cell? ⟨(g t).1,(g t).2+i,none⟩:=by
    unfold World.cell?;simp only[hkeep t b hb' hne]
   rw[h2,h1]
   rw[SV.bu (SV.br (fun n hn=>(gE n hn).symm) ((hs.names.box t b hb').2 x (List.mem_of_getElem? hx)).1)]
 ·rcases kC hb with ⟨n,c,hn,rfl,hc,rfl⟩ | ⟨hne,⟨c,rfl,hc,rfl⟩ | ⟨hb',_⟩⟩
  ·have:=hmem.free n c hc hrw i (by simpa[aI.ren] using hi)
   rw[gE _ (oL n (jU n hn).1), ← hsame n (jU n hn).1];exact this
  ·rw[aQ];exact hmem.free k c hc hrw i (by simpa[aI.ren] using hi)
  ·rw[gE t (oc t b hb')]
   have h2:cC w' ⟨(g t).1,(g t).2+i,none⟩=cC w ⟨(g t).1,(g t).2+i,none⟩:=by
    unfold cC;simp only[hkeep t b hb' hne]
   rw[h2];exact hs.mem.free t b hb' hrw i hi
 ·rcases kC hb with ⟨n,c,hn,rfl,hc,rfl⟩ | ⟨Rl,⟨c,rfl,hc,rfl⟩ | ⟨hb1,_⟩⟩<;>rcases kC hb' with ⟨n',c',hn',rfl,pV,rfl⟩ | ⟨Kx,⟨c',rfl,pV,rfl⟩ | ⟨hb2,_⟩⟩
  ·rw[hn]at hn';cases hn';exact absurd rfl hne
  ·rw[aQ,gE _ (oL n (jU n hn).1)]
   exact fun e=>nt n c' c hn pV hc e.symm
  ·obtain ⟨hlt,b0,h1,h2⟩:=jU n hn
   rw[gE _ (oL n hlt),gE _ (oc _ _ hb2)]
   exact hs.mem.sep _ _ b0 b' h1 h2 hb2 hne
  ·rw[aQ,gE _ (oL n' (jU n' hn').1)]
   exact nt n' c c' hn' hc pV
  ·exact absurd rfl hne
  ·rw[aQ,gE _ (oc _ _ hb2)]
   exact qn t' b' c hb2 Kx hc
  ·obtain ⟨hlt,b0,h1,h2⟩:=jU n' hn'
   rw[gE _ (oL n' hlt),gE _ (oc _ _ hb1)]
   exact hs.mem.sep _ _ b b0 hb1 hrw h1 hne
  ·rw[aQ,gE _ (oc _ _ hb1)]
   exact fun e=>qn t b c' hb1 Rl pV e.symm
  ·rw[gE _ (oc _ _ hb1),gE _ (oc _ _ hb2)]
   exact hs.mem.sep _ _ b b' hb1 hrw hb2 hne
 ·have WL: ∀ x,(w.heap.size≤x∨ ∃ n,wr=some n∧x=(g (r n)).1)→w0.heap.size≤x∨W x:=fun x hx=>by
   rcases hx with hx | ⟨n,hn,rfl⟩
   ·exact .inl (Nat.le_trans hs.frame.size hx)
   ·obtain ⟨_,b0,h1,h2⟩:=jU n hn
    exact hs.own _ b0 h1 h2
  rcases kC hb with ⟨n,c,hn,rfl,hc,rfl⟩ | ⟨_,⟨c,rfl,hc,rfl⟩ | ⟨hb',_⟩⟩
  ·rw[gE _ (oL n (jU n hn).1)]
   exact WL _ (.inr ⟨n,hn,rfl⟩)
  ·rw[aQ];exact WL _ (hown k c hc hrw)
  ·rw[gE _ (oc _ _ hb')];exact hs.own t b hb' hrw
 ·have hf:=hs.frame
  refine ⟨hfr.os.trans hf.os,hfr.tape.trans hf.tape,hfr.output.trans hf.output,Nat.le_trans hf.size hfr.size,fun x hx hW=> ?_⟩
  rw[hfr.block x (Nat.lt_of_lt_of_le hx hf.size) ?_]
  ·exact hf.block x hx hW
  ·rintro ⟨n,hn,rfl⟩
   obtain ⟨_,b0,h1,h2⟩:=jU n hn
   rcases hs.own _ b0 h1 h2 with h3 | h3
   ·exact absurd hx (Nat.not_lt.2 h3)
   ·exact hW h3
end
end Go.cn
