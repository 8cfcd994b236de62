/-
  The calculus: calls by contracts over boxes, and the builtins append and copy. Nothing here speaks of a program.
-/
import Derived.Test.YtaeagfdnfjenlaaGreatDoorVcgS
import Derived.Deep.AppendSrc
import Derived.Lib.AppendZerosOnto
set_option linter.unusedVariables false
set_option linter.unusedSimpArgs false
namespace Go.cn
set_option linter.unusedSectionVars false
section
variable {P:Program} [Tables P] {W:Nat→Prop} {N:Nat} {w0:Base P} {M:Nat→Prop} {g:Where} {s:AS} {a:Act} {w:World} {nm:Nat}
theorem SV.dG {x:SV} (h:SV.plain x=true) (r:Nat→Nat):SV.ren r x=x:=by
 rcases x with v | v
 ·exact congrArg Sum.inl (Gq (Bool.and_eq_true_iff.1 h).2)
 ·simp[SV.plain]at h
theorem au {cs:List SV} (h:cs.all SV.plain=true) (r:Nat→Nat):cs.map (SV.ren r)=cs:=by
 conv=>rhs;rw[← List.map_id cs]
 exact List.map_congr_left fun x hx=>SV.dG (List.all_eq_true.1 h x hx) r
theorem ao {cs:List SV} (h:cs.all SV.plain=true) {M:Nat→Prop}: ∀ x ∈ cs,SV.ok M x:=fun x hx=>SV.ek (List.all_eq_true.1 h x hx)
theorem bd.av {f k:Nat} {args l:List AV} {ins:Nat→Option aI} {Post:AV→(Nat→Option aI)→Prop} (h:bd P f args k ins Post) (r:Nat→Nat) (wr:Option Nat) (hfit:Fits s r ins wr) (hl:l=args.map (AV.ren r))
  {dst:Option Nat} {K:AS→Prop} (hk: ∀ v out,Post v out→(∀ b,out k=some b→b.rw=true)→K (({ s with box:=after s r k nm wr out }:AS).put dst (some (AV.ren (df r k nm) v)))):av P nm f (some l) dst K s:=by
 intro W N w0 g a w bk
 rw[hl]
 refine (h.rep bk (nm:=nm) (Nat.lt_irrefl nm) hfit).mono ?_
 rintro e w' ⟨v,out,g',rfl,hpost,hrw,_,cF,hok⟩
 exact ⟨_,g',_,rfl,AV.aL (fun n hn=>by rcases hn with h | h<;>omega) hok,cF.mono (fun n hn=>by rcases hn with h | h<;>omega),hk v out hpost (fun b hb=>hrw k b hb rfl)⟩
def Ky (r:Nat→Nat) (k nm:Nat) (v:AV) (out:Nat→Option aI):dU:=(some (AV.ren (df r k nm) v),match out k with
 | none=>none
 | some b=>some (.inl (b.cells.map (SV.ren (df r k nm)))))
theorem bd.Y5 {f k:Nat} {args l:List AV} {ins:Nat→Option aI} {Post:AV→(Nat→Option aI)→Prop} (h:bd P f args k ins Post) (r:Nat→Nat) (hfit:Fits s r ins none) (hl:l=args.map (AV.ren r))
  (hnamed: ∀ M:Nat→Prop,(∀ v ∈ l,AV.ok M v)→(∀ n,n < k→M (r n)→ ∀ b,s.box (r n)=some b→ ∀ x ∈ b.cells,SV.ok M x)→ ∀ n,n < k→M (r n)) {D:dU→Prop} (hD: ∀ v out,Post v out→D (Ky r k nm v out)) (hmem: ∀ e,D e→e.2=none∨ ∃ cs,e.2=some (.inl cs)):
  Reads P nm f (some l) s D:=by
 refine ⟨l,(List.range k).map fun n=>(r n,(s.box (r n)).getD ⟨false,[]⟩),rfl,fun p hp=> ?_,h.body,fun M hM oF p hp=> ?_,hmem, ?_⟩
 ·simp only[List.mem_map,List.mem_range]at hp
  obtain ⟨n,hn,rfl⟩:=hp
  obtain ⟨b,hb⟩:=h.all n hn
  obtain ⟨b',hb',_⟩:=hfit.box n b hb
  simp[hb']
 ·simp only[List.mem_map,List.mem_range]at hp
  obtain ⟨n,hn,rfl⟩:=hp
  refine hnamed M hM (fun m hm hMm b hb=> ?_) n hn
  have:=oF (r m,(s.box (r m)).getD ⟨false,[]⟩) (List.mem_map.2 ⟨m,List.mem_range.2 hm,rfl⟩) hMm
  rw[hb]at this
  exact this
 ·intro W N w0 M g s' a w bk hnm _ MX
  have aa6:Fits s' r ins none:=⟨fun n b hb=>by
   obtain ⟨b',h1,h2,h3⟩:=hfit.box n b hb
   have:=MX (r n,(s.box (r n)).getD ⟨false,[]⟩) (List.mem_map.2 ⟨n,List.mem_range.2 (h.qY n b hb),rfl⟩)
   rw[h1]at this
   exact ⟨b',this,h2,h3⟩,hfit.inj,hfit.only,hfit.HF⟩
  unfold Hands
  rw[hl]
  refine (h.rep bk hnm aa6).mono ?_
  rintro e w' ⟨v,out,g',rfl,hpost,hrw,hsame,cF,hok⟩
  refine ⟨Ky r k nm v out,_,g',hD v out hpost,rfl,rfl,hsame, ?_,hok⟩
  have:({ s' with box:=after s' r k nm none out }:AS)=s'.mem nm (Ky r k nm v out).2:=by
   unfold after Ky AS.mem
   cases ho:out k with
   | none=>simp[ho]
   | some b=>
    have hb:=hrw k b ho rfl
    simp only[aI.ren,hb]
  rw[← this]
  exact cF
theorem bd.reads {f k:Nat} {args l:List AV} {ins:Nat→Option aI} {Post:AV→(Nat→Option aI)→Prop} (h:bd P f args k ins Post) (r:Nat→Nat) (hfit:Fits s r ins none) (hl:l=args.map (AV.ren r))
  (hnamed: ∀ M:Nat→Prop,(∀ v ∈ l,AV.ok M v)→ ∀ n,n < k→M (r n)) {D:dU→Prop} (hD: ∀ v out,Post v out→D (Ky r k nm v out)) (hmem: ∀ e,D e→e.2=none∨ ∃ cs,e.2=some (.inl cs)):
  Reads P nm f (some l) s D:=h.Y5 r hfit hl (fun M hM _=>hnamed M hM) hD hmem
theorem fQ {r:Nat→Nat}:Fits s r (fun _=>none) none:=⟨fun n b h=>(by cases h),fun n n' b b' h=>(by cases h),fun n b h=>(by cases h),fun n h=>(by cases h)⟩
theorem J0 {b b':aI} {n:Nat} (h:lk [(0,b)] n=some b'):n=0∧b'=b:=by
 simp only[lk]at h
 split at h
 ·rename_i e;simp only[Option.some.injEq]at h;exact ⟨e,h.symm⟩
 ·cases h
theorem WM {b c b':aI} {n:Nat} (h:lk [(0,b),(1,c)] n=some b'):(n=0∧b'=b)∨(n=1∧b'=c):=by
 simp only[lk]at h
 split at h
 ·rename_i e;simp only[Option.some.injEq]at h;exact .inl ⟨e,h.symm⟩
 ·split at h
  ·rename_i e;simp only[Option.some.injEq]at h;exact .inr ⟨e,h.symm⟩
  ·cases h
theorem bZ {t:Nat} {rw:Bool} {cs:List SV} (h:s.box t=some ⟨rw,cs⟩) (hp:cs.all SV.plain=true):Fits s (fun _=>t) (lk [(0,⟨false,cs⟩)]) none:=
 ⟨fun n b hb=>by
  obtain ⟨rfl,rfl⟩:=J0 hb
  exact ⟨_,h,fun e=>(by cases e),(au hp _).symm⟩,
  fun n n' b b' hb hrw=>(by obtain ⟨rfl,rfl⟩:=J0 hb;cases hrw),fun n b hb hrw=>(by obtain ⟨rfl,rfl⟩:=J0 hb;cases hrw),fun n hn=>(by cases hn)⟩
theorem Kz {t:Nat} {cs:List SV} (h:s.box t=some ⟨true,cs⟩) (hp:cs.all SV.plain=true):Fits s (fun _=>t) (lk [(0,⟨true,cs⟩)]) (some 0):=
 ⟨fun n b hb=>by
  obtain ⟨rfl,rfl⟩:=J0 hb
  exact ⟨_,h,fun _=>rfl,(au hp _).symm⟩,
  fun n n' b b' hb _ hb' _=>(by obtain ⟨rfl,rfl⟩:=J0 hb;obtain ⟨rfl,rfl⟩:=J0 hb';rfl),fun n b hb _=>(by obtain ⟨rfl,rfl⟩:=J0 hb;rfl),
  fun n hn=>(by cases hn;exact ⟨_,rfl,rfl⟩)⟩
def two (t u:Nat):Nat→Nat:=fun n=>if n=0 then t else u
theorem jq {t u:Nat} {rw rw':Bool} {cs ds:List SV} (h:s.box t=some ⟨rw,cs⟩) (hp:cs.all SV.plain=true) (h':s.box u=some ⟨rw',ds⟩) (hp':ds.all SV.plain=true):Fits s (two t u) (lk [(0,⟨false,cs⟩),(1,⟨false,ds⟩)]) none:=
 ⟨fun n b hb=>by
  rcases WM hb with ⟨rfl,rfl⟩ | ⟨rfl,rfl⟩
  ·exact ⟨_,h,fun e=>(by cases e),(au hp _).symm⟩
  ·exact ⟨_,h',fun e=>(by cases e),(au hp' _).symm⟩,
  fun n n' b b' hb hrw=>(by rcases WM hb with ⟨rfl,rfl⟩ | ⟨rfl,rfl⟩<;>cases hrw),fun n b hb hrw=>(by rcases WM hb with ⟨rfl,rfl⟩ | ⟨rfl,rfl⟩<;>cases hrw),fun n hn=>(by cases hn)⟩
theorem bF.forget (h:bF W N w0 M g s a w) (b:Nat):bF W N w0 M g { s with box:=upd s.box b none } a w:=by
 have hb: ∀ t x,upd s.box b none t=some x→s.box t=some x:=fun t x ht=>by
  simp only[upd]at ht
  split at ht
  ·cases ht
  ·exact ht
 exact ⟨h.size,h.defers,h.env,⟨h.names.env,fun t x ht=>h.names.box t x (hb t x ht)⟩,⟨fun t x ht=>h.mem.lt t x (hb t x ht),fun t x ht=>h.mem.cell t x (hb t x ht),fun t x ht=>h.mem.free t x (hb t x ht),
  fun t t' x x' ht hrw ht'=>h.mem.sep t t' x x' (hb t x ht) hrw (hb t' x' ht')⟩,fun t x ht=>h.own t x (hb t x ht),h.frame,h.pin,h.tabs⟩
theorem bF.move (h:bF W N w0 M g s a w) (hnm: ¬ M nm) {b o:Nat} {cs:List SV} (hb:s.box b=some ⟨true,cs⟩):
  bF W N w0 (fun n=>M n∨n=nm) (upd g nm ((g b).1,(g b).2+o)) { s with box:=upd (upd s.box b none) nm (some ⟨true,cs.drop o⟩) } a w:=by
 have hg: ∀ n,M n→g n=upd g nm ((g b).1,(g b).2+o) n:=fun n hn=>(bh _ _ _ _ (fun e=>hnm (by rw[← e];exact hn))).symm
 have hM: ∀ n,M n→M n∨n=nm:=fun n hn=>Or.inl hn
 have key: ∀ t x,upd (upd s.box b none) nm (some ⟨true,cs.drop o⟩) t=some x→(t=nm∧x=⟨true,cs.drop o⟩)∨(t≠nm∧t≠b∧s.box t=some x):=fun t x ht=>by
  simp only[upd]at ht
  split at ht
  ·rename_i e;simp only[Option.some.injEq]at ht;exact .inl ⟨e,ht.symm⟩
  ·rename_i e
   split at ht
   ·cases ht
   ·rename_i e2;exact .inr ⟨e,e2,ht⟩
 have oc:=(h.names.box b _ hb)
 refine ⟨h.size,h.defers,fun d v hv=> ?_,⟨fun d v hv=> ?_,fun t x ht=> ?_⟩,⟨fun t x ht=> ?_,fun t x ht i v hv=> ?_,fun t x ht hrw i hi=> ?_,fun t t' x x' ht hrw ht' hne=> ?_⟩,fun t x ht hrw=> ?_,h.frame,fun n hn=>⟨.inl (h.pin n hn).1,(hg n (h.pin n hn).1).symm.trans (h.pin n hn).2⟩,h.tabs⟩
 ·rw[h.env d v hv,AV.bu (AV.aL hg (h.names.env d v hv))]
 ·exact AV.aL hM (h.names.env d v hv)
 ·rcases key t x ht with ⟨rfl,rfl⟩ | ⟨_,_,ht⟩
  ·exact ⟨.inr rfl,fun y hy=>SV.aL hM (oc.2 y (List.mem_of_mem_drop hy))⟩
  ·exact ⟨.inl (h.names.box t x ht).1,fun y hy=>SV.aL hM ((h.names.box t x ht).2 y hy)⟩
 ·rcases key t x ht with ⟨rfl,rfl⟩ | ⟨e,_,ht⟩
  ·rw[aQ];exact h.mem.lt b _ hb
  ·rw[bh _ _ _ _ e];exact h.mem.lt t x ht
 ·rcases key t x ht with ⟨rfl,rfl⟩ | ⟨e,_,ht⟩
  ·rw[aQ]
   simp only[List.getElem?_drop]at hv
   have:=h.mem.cell b _ hb (o+i) v hv
   simp only[Nat.add_assoc]
   rw[this,SV.bu (SV.br hg (oc.2 v (List.mem_of_getElem? hv)).1)]
  ·rw[bh _ _ _ _ e,h.mem.cell t x ht i v hv,SV.bu (SV.br hg ((h.names.box t x ht).2 v (List.mem_of_getElem? hv)).1)]
 ·rcases key t x ht with ⟨rfl,rfl⟩ | ⟨e,_,ht⟩
  ·rw[aQ]
   simp only[Nat.add_assoc]
   exact h.mem.free b _ hb rfl (o+i) (by simp at hi ⊢;omega)
  ·rw[bh _ _ _ _ e];exact h.mem.free t x ht hrw i hi
 ·rcases key t x ht with ⟨rfl,rfl⟩ | ⟨e,eb,ht⟩<;>rcases key t' x' ht' with ⟨rfl,rfl⟩ | ⟨e',eb',ht'⟩
  ·exact absurd rfl hne
  ·rw[aQ,bh _ _ _ _ e'];exact h.mem.sep b t' _ x' hb rfl ht' (fun e=>eb' e.symm)
  ·rename_i ht0
   rw[aQ,bh _ _ _ _ e];exact h.mem.sep t b x _ (by assumption) hrw hb eb
  ·rw[bh _ _ _ _ e,bh _ _ _ _ e'];exact h.mem.sep t t' x x' ht hrw ht' hne
 ·rcases key t x ht with ⟨rfl,rfl⟩ | ⟨e,_,ht⟩
  ·rw[aQ];exact h.own b _ hb rfl
  ·rw[bh _ _ _ _ e];exact h.own t x ht hrw
def HI (s:AS) (sz:Nat) (x:AV) (m:Nat) (news:List SV) (b:Option Nat):Prop:=
 (∃ t o c bx,x=Sl t o m c∧s.box t=some bx∧news.length=m*sz∧(∀ j u,news[j]? =some u→bx.cells[o+j]? =some u)∧b≠some t)∨((∃ ad,x=V (.slice ad 0 0))∧m=0∧news=[])
theorem HI.src (h:bF W N w0 M g s a w) {sz Pg:Nat} {tx:TypeId} (hk:uB P tx=some (none,Pg)) {x:AV} {m:Nat} {news:List SV} {b:Option Nat} (hs:HI s sz x m news b):
  Src P sz tx (AV.ah g x) m (news.map (SV.ah g)) w∧ ∀ y ∈ news,SV.ok M y:=by
 obtain ⟨e,i,_,_,⟨_,hu⟩ | ⟨n,hn,_⟩⟩:=n5 hk
 ·rcases hs with ⟨t,o,c,bx,rfl,hb,hl,hc,_⟩ | ⟨⟨ad,rfl⟩,rfl,rfl⟩
  ·have hok: ∀ y ∈ news,SV.ok M y:=fun y hy=>by
    obtain ⟨j,hj⟩:=List.getElem?_of_mem hy
    exact (h.names.box t bx hb).2 y (List.mem_of_getElem? (hc j y hj))
   refine ⟨Src.ofSlice w hu ⟨(g t).1,(g t).2+o,none⟩ m c _ (by simp[hl]) (fun j u hj=> ?_) (fun u hu=> ?_),hok⟩
   ·rw[List.getElem?_map]at hj
    cases hz:news[j]? with
    | none=>rw[hz]at hj;cases hj
    | some z=>
     rw[hz]at hj
     simp only[Option.map_some,Option.some.injEq]at hj;subst hj
     rw[add_eq,Nat.add_assoc]
     exact h.mem.cell t bx hb (o+j) z (hc j z hz)
   ·simp only[List.mem_map]at hu
    obtain ⟨z,hz,rfl⟩:=hu
    have:=(hok z hz).2
    exact Mb this
  ·refine ⟨?_,fun y hy=>by cases hy⟩
   cases ad with
   | none=>exact Src.ofNil w hu 0
   | some ad=>exact Src.ofSlice w hu ad 0 0 [] (by simp) (fun j u h=>by simp at h) (fun u h=>by cases h)
 ·cases hn
def cZ (z:List Value) (n:Nat):List SV:=(Builtin.zeroCells z.toArray n).toList.map Sum.inl
theorem kD {z:List Value} {n:Nat}:(cZ z n).length=n*z.length:=by simp[cZ,Builtin.zeroCells]
theorem du {z:List Value} {n:Nat} (hz:0 < z.length) (hall:z.all Value.oneCell'=true) (jj:z.all iP=true):(cZ z n).all SV.plain=true:=by
 rw[List.all_eq_true]
 intro x hx
 simp only[cZ,Builtin.zeroCells,List.mem_map,Array.mem_toList_iff,Array.mem_map,Array.mem_range]at hx
 obtain ⟨v,⟨i,_,rfl⟩,rfl⟩:=hx
 have hlt:i%z.toArray.size < z.toArray.size:=Nat.mod_lt _ (by simpa using hz)
 rw[getElem!_pos z.toArray _ hlt]
 exact Bool.and_eq_true_iff.2 ⟨List.all_eq_true.1 hall _ (by simp),List.all_eq_true.1 jj _ (by simp)⟩
theorem iG {z:List Value} {n:Nat} (g:Where) (hz:0 < z.length) (hall:z.all Value.oneCell'=true) (jj:z.all iP=true):(cZ z n).map (SV.ah g)=(Builtin.zeroCells z.toArray n).toList:=by
 have h:(Builtin.zeroCells z.toArray n).toList.all iP=true:=List.all_eq_true.2 fun x hx=>(Bool.and_eq_true_iff.1 (List.all_eq_true.1 (du (n:=n) hz hall jj) (.inl x) (List.mem_map_of_mem hx))).2
 simp only[cZ,List.map_map]
 exact uz h
def fY (P:Program) [Tables P] (nm:Nat) (b:Builtin) (tys:Array TypeId) (type:TypeId) (consts:Array Bool) (l:List AV) (dst:Option Nat) (K:AS→Prop) (s:AS):Prop:=
 ∀ (W:Nat→Prop) (N:Nat) (w0:Base P) (g:Where) (a:Act) (w:World),bF W N w0 (fun n=>n < nm) g s a w→
  ∃ v g' bx w',(builtin b tys type consts (l.map (AV.ah g)).toArray).run P w= .ok (.value (AV.ah g' v)) w'∧AV.ok (fun n=>n < nm+1) v∧bF W N w0 (fun n=>n < nm+1) g' { s with box:=bx } a w'∧
   (∀ t b,bx t=some b→b.rw=true∨ ∃ b0,s.box t=some b0∧g' t=g t)∧K (({ s with box:=bx }:AS).put dst (some v))
theorem fY.plain {b:Builtin} {tys:Array TypeId} {type:TypeId} {ct:Array Bool} {l:List AV} {dst:Option Nat} {K:AS→Prop} (h:fY P nm b tys type ct l dst K s):cp P nm b tys type ct (some l) dst K s:=by
 intro W N w0 g a w hr
 obtain ⟨v,g',bx,w',h1,h2,h3,_,h4⟩:=h W N w0 g a w hr
 exact ⟨v,g',_,w',h1,h2,h3,h4⟩
theorem MY {b nm:Nat} {B:aI} {g:Where} {x:Nat×Nat} (hB:B.rw=true:=by rfl): ∀ t c,upd (upd s.box b none) nm (some B) t=some c→c.rw=true∨ ∃ b0,s.box t=some b0∧upd g nm x t=g t:=fun t c hc=>by
 unfold upd at hc ⊢
 split at hc
 ·cases hc;exact .inl hB
 ·split at hc
  ·cases hc
  ·rename_i h1 h2
   exact .inr ⟨c,hc,if_neg h1⟩
theorem sG {t tx Pg:Nat} {z:List Value} {sz mA:Nat} (hk:pT P t=some (z,sz,mA)) (hx:uB P tx=some (none,Pg)) (hz:z.length=sz) (hz0:0 < z.length) (zB:z.all Value.oneCell'=true)
  {b o n c m:Nat} {cs olds news:List SV} {x:AV} (hb:s.box b=some ⟨true,cs⟩) (hl:cs.length=o+c*sz) (hnc:n≤c) (WN:olds.length=n*sz) (hold: ∀ j u,olds[j]? =some u→cs[o+j]? =some u) (hcs:cs.all SV.plain=true)
  (hsrc:HI s sz x m news (some b)) (h63:n+m≤9223372036854775807) (hby:(n+m)*mA≤140737488355328) {ty:TypeId} {ct:Array Bool} {dst:Option Nat} {K:AS→Prop}
  (hK: ∀ c' tail,n+m≤c'→tail.length=(c' - (n+m))*sz→tail.all SV.plain=true→K (({ s with box:=upd (upd s.box b none) nm (some ⟨true,olds++news++tail⟩) }:AS).put dst (some (Sl nm 0 (n+m) c')))):
  fY P nm .append #[t,tx] ty ct [Sl b o n c,x] dst K s:=by
 intro W N w0 g a w h
 obtain ⟨e,i,v,hu,hi,hv,UT,hsz,vB,jj⟩:=lg hk
 obtain ⟨qZ,vC⟩:=hsrc.src h hx
 subst hsz
 have QS:news.length=m*i.size:=by simpa using qZ.newsLen
 have CQ:v.cells=z.toArray:=by rw[← UT]
 by_cases hroom:n+m≤c
 ·have hle:(n+m)*i.size≤c*i.size:=Nat.mul_le_mul_right _ hroom
  rw[Nat.add_mul]at hle
  have hr:=run_append_room_src (P:=P) w t tx ty e i hu hi (g b).1 ((g b).2+o) n c (AV.ah g x) m (news.map (SV.ah g)) qZ hroom
   (fun j hj=>by
    have hj':j < news.length:=by simpa using hj
    have hlt:o+n*i.size+j < cs.length:=by omega
    have:=h.mem.cell b _ hb (o+n*i.size+j) _ (List.getElem?_eq_getElem hlt)
    rw[show (g b).2+o+n*i.size+j=(g b).2+(o+n*i.size+j) by omega,this];rfl)
   (fun j hj=>by
    have hj':j < news.length:=by simpa using hj
    rw[show (g b).2+o+n*i.size+j=(g b).2+(o+n*i.size+j) by omega]
    exact mq (h.mem.free b _ hb rfl _ (by simp only;omega)))
  have hw:=h.write hb rfl (o:=o+n*i.size) (new:=news) (by simp only;omega) vC nm
  have J1:=hw.move (nm:=nm) (b:=b) (o:=o) (cs:=splice cs (o+n*i.size) news) (Nat.lt_irrefl nm) (by simp[AS.mem,upd])
  have hsp:(splice cs (o+n*i.size) news).drop o=olds++news++cs.drop (o+(n+m)*i.size):=by
   apply List.ext_getElem?
   intro j
   rw[List.getElem?_drop,gk _ _ _ (by omega)]
   by_cases h1:j < n*i.size
   ·rw[if_pos (by omega),List.append_assoc,List.getElem?_append_left (by omega)]
    have:=List.getElem?_eq_getElem (l:=olds) (i:=j) (by omega)
    rw[this]
    exact hold j _ this
   ·rw[if_neg (by omega)]
    by_cases h2:j < n*i.size+news.length
    ·rw[if_pos (by omega),List.append_assoc,List.getElem?_append_right (by omega),List.getElem?_append_left (by omega)]
     congr 1;omega
    ·rw[if_neg (by omega),List.getElem?_append_right (by simp;omega),List.getElem?_drop]
     congr 1;simp[Nat.add_mul];omega
  have iR: ∀ B:aI,upd (upd (upd s.box b (some ⟨true,splice cs (o+n*i.size) news⟩)) b none) nm (some B)=upd (upd s.box b none) nm (some B):=fun B=>by
   funext y;simp only[upd];split<;>try rfl
   split<;>rfl
  have he:({ (s.mem nm (some (.inr (b,⟨true,splice cs (o+n*i.size) news⟩)))) with box:=upd (upd (s.mem nm (some (.inr (b,⟨true,splice cs (o+n*i.size) news⟩)))).box b none) nm (some ⟨true,(splice cs (o+n*i.size) news).drop o⟩) }:AS)=
    { s with box:=upd (upd s.box b none) nm (some ⟨true,(splice cs (o+n*i.size) news).drop o⟩) }:=by
   simp only[AS.mem,iR]
  rw[he]at J1
  refine ⟨Sl nm 0 (n+m) c,_,_,_, ?_,Nat.lt_succ_self nm,J1.mono (fun n hn=>by rcases hn with h | h<;>omega),MY, ?_⟩
  ·simp only[builtin,List.map_cons,List.map_nil,Sem.run_bind]
   show (((Builtin.append_ #[t,tx] ty #[.slice (some ⟨(g b).1,(g b).2+o,none⟩) n c,AV.ah g x]).run P w).andThen fun a w'=>(pure (Next.value a):Sem Next).run P w')=_
   rw[hr]
   simp[AV.ah,CV.ah,SV.ah,cW,aQ,Nat.add_assoc]
  ·have:=hK c (cs.drop (o+(n+m)*i.size)) hroom (by rw[List.length_drop,hl,Nat.sub_mul];omega) (by
    rw[List.all_eq_true]at hcs ⊢
    exact fun y hy=>hcs y (List.mem_of_mem_drop hy))
   rw[← hsp]at this
   exact this
 ·have HJ:(Builtin.firstCells i.size n (.slice (some ⟨(g b).1,(g b).2+o,none⟩) n c)).run P w.drew= .ok (olds.map (SV.ah g)).toArray w.drew:=by
   refine run_firstCells_some w.drew i.size n _ n c _ (by simp[WN]) (fun j u hj=> ?_)
   rw[List.getElem?_map]at hj
   cases hz:olds[j]? with
   | none=>rw[hz]at hj;cases hj
   | some y=>
    rw[hz]at hj
    simp only[Option.map_some,Option.some.injEq]at hj;subst hj
    rw[add_eq,Nat.add_assoc]
    have:=h.mem.cell b _ hb (o+j) y (hold j y hz)
    simpa using this
  have hr:=run_append_grow_src (P:=P) w t tx ty e i v hu hi hv (some ⟨(g b).1,(g b).2+o,none⟩) n c _ HJ (AV.ah g x) m (news.map (SV.ah g)) qZ (by omega) (by omega) (growslice_fits (by omega) (by rw[vB];exact hby))
  have hge:=grownCap_ge w (n+m) c e
  generalize grownCap w (n+m) c e=c' at hr hge
  have hall: ∀ y ∈ olds++news++cZ z (c' - (n+m)),SV.ok (fun n=>n < nm) y:=fun y hy=>by
   simp only[List.mem_append]at hy
   rcases hy with (hy | hy) | hy
   ·obtain ⟨j,hj⟩:=List.getElem?_of_mem hy
    exact (h.names.box b _ hb).2 y (List.mem_of_getElem? (hold j y hj))
   ·exact vC y hy
   ·exact ao (du hz0 zB jj) y hy
  have hnb:=((h.drew.sA (nm:=nm) (Nat.lt_irrefl nm) hall e).forget b)
  have Rm:b≠nm:=fun e=>Nat.lt_irrefl nm (e▸(h.names.box b _ hb).1)
  have iR:upd (upd s.box nm (some ⟨true,olds++news++cZ z (c' - (n+m))⟩)) b none=upd (upd s.box b none) nm (some ⟨true,olds++news++cZ z (c' - (n+m))⟩):=mo _ _ _ _ _ (fun e=>Rm e.symm)
  simp only[AS.mem,iR]at hnb
  refine ⟨Sl nm 0 (n+m) c',_,_,_, ?_,Nat.lt_succ_self nm,hnb.mono (fun n hn=>by rcases hn with h | h<;>omega),MY, ?_⟩
  ·simp only[builtin,List.map_cons,List.map_nil,Sem.run_bind]
   show (((Builtin.append_ #[t,tx] ty #[.slice (some ⟨(g b).1,(g b).2+o,none⟩) n c,AV.ah g x]).run P w).andThen fun a w'=>(pure (Next.value a):Sem Next).run P w')=_
   rw[hr]
   simp only[Result.andThen_ok,Sem.run_pure,AV.ah,CV.ah,SV.ah,cW,aQ,Nat.zero_add]
   congr 1
   show World.alloc _ _=World.alloc _ _
   congr 2
   apply Array.ext'
   simp[CQ,iG _ hz0 zB jj]
  ·exact hK c' _ hge (by rw[kD,hz]) (du hz0 zB jj)
theorem vD {t tx Pg:Nat} {z:List Value} {sz mA:Nat} (hk:pT P t=some (z,sz,mA)) (hx:uB P tx=some (none,Pg)) (hz:z.length=sz) (hz0:0 < z.length) (zB:z.all Value.oneCell'=true)
  {b o n c m:Nat} {cs olds news:List SV} {x:AV} (hb:s.box b=some ⟨true,cs⟩) (hl:cs.length=o+c*sz) (hnc:n≤c) (WN:olds.length=n*sz) (hold: ∀ j u,olds[j]? =some u→cs[o+j]? =some u) (hcs:cs.all SV.plain=true)
  (hsrc:HI s sz x m news (some b)) (h63:n+m≤9223372036854775807) (hby:(n+m)*mA≤140737488355328) {ty:TypeId} {ct:Array Bool} {dst:Option Nat} {K:AS→Prop}
  (hK: ∀ c' tail,n+m≤c'→tail.length=(c' - (n+m))*sz→tail.all SV.plain=true→K (({ s with box:=upd (upd s.box b none) nm (some ⟨true,olds++news++tail⟩) }:AS).put dst (some (Sl nm 0 (n+m) c')))):
  cp P nm .append #[t,tx] ty ct (some [Sl b o n c,x]) dst K s:=
 (sG hk hx hz hz0 zB hb hl hnc WN hold hcs hsrc h63 hby hK).plain
theorem aa7 {nm:Nat} {B:aI} {g:Where} {x:Nat×Nat} (hB:B.rw=true:=by rfl): ∀ t c,upd s.box nm (some B) t=some c→c.rw=true∨ ∃ b0,s.box t=some b0∧upd g nm x t=g t:=fun t c hc=>by
 unfold upd at hc ⊢
 split at hc
 ·cases hc;exact .inl hB
 ·rename_i h1
  exact .inr ⟨c,hc,if_neg h1⟩
theorem j0 {t tx Pg:Nat} {z:List Value} {sz mA:Nat} (hk:pT P t=some (z,sz,mA)) (hx:uB P tx=some (none,Pg)) (hz:z.length=sz) (hz0:0 < z.length) (zB:z.all Value.oneCell'=true)
  {m:Nat} {news:List SV} {x:AV} (hsrc:HI s sz x m news none) (h63:m≤9223372036854775807) (hby:m*mA≤140737488355328) {ty:TypeId} {ct:Array Bool} {dst:Option Nat} {K:AS→Prop}
  (h0:m=0→K (s.put dst (some (V (.slice none 0 0)))))
  (hK:0 < m→ ∀ c' tail,m≤c'→tail.length=(c' - m)*sz→tail.all SV.plain=true→K (({ s with box:=upd s.box nm (some ⟨true,news++tail⟩) }:AS).put dst (some (Sl nm 0 m c')))):
  fY P nm .append #[t,tx] ty ct [V (.slice none 0 0),x] dst K s:=by
 intro W N w0 g a w h
 obtain ⟨e,i,v,hu,hi,hv,UT,hsz,vB,jj⟩:=lg hk
 obtain ⟨qZ,vC⟩:=hsrc.src h hx
 subst hsz
 have CQ:v.cells=z.toArray:=by rw[← UT]
 by_cases hm:m=0
 ·subst hm
  have hr:(Builtin.append_ #[t,tx] ty #[.slice none 0 0,AV.ah g x]).run P w= .ok (.slice none 0 0) w:=by
   rcases qZ.kind with ⟨e',hk'⟩ | hk'<;>simp[Builtin.append_,run_underlying hu,run_underlying hk',sizeOf,typeInfo,hi,qZ.len,qZ.cells]
  refine ⟨V (.slice none 0 0),g,s.box,_, ?_,trivial,h.mono (fun n hn=>by omega),fun t b hb=> .inr ⟨b,hb,rfl⟩,h0 rfl⟩
  simp only[builtin,List.map_cons,List.map_nil,Sem.run_bind]
  show (((Builtin.append_ #[t,tx] ty #[.slice none 0 0,AV.ah g x]).run P w).andThen fun a w'=>(pure (Next.value a):Sem Next).run P w')=_
  rw[hr]
  rfl
 ·have hr:=run_append_grow_src (P:=P) w t tx ty e i v hu hi hv none 0 0 [] (run_firstCells_none w.drew i.size 0 0 0) (AV.ah g x) m (news.map (SV.ah g)) qZ (by omega) (by omega) (growslice_fits (by omega) (by rw[vB,Nat.zero_add];exact hby))
  rw[Nat.zero_add]at hr
  have hge:=grownCap_ge w m 0 e
  generalize grownCap w m 0 e=c' at hr hge
  have hall: ∀ y ∈ news++cZ z (c' - m),SV.ok (fun n=>n < nm) y:=fun y hy=>by
   simp only[List.mem_append]at hy
   rcases hy with hy | hy
   ·exact vC y hy
   ·exact ao (du hz0 zB jj) y hy
  have hnb:=h.drew.sA (nm:=nm) (Nat.lt_irrefl nm) hall e
  refine ⟨Sl nm 0 m c',_,upd s.box nm (some ⟨true,news++cZ z (c' - m)⟩),_, ?_,Nat.lt_succ_self nm,hnb.mono (fun n hn=>by rcases hn with h | h<;>omega),aa7, ?_⟩
  ·simp only[builtin,List.map_cons,List.map_nil,Sem.run_bind]
   show (((Builtin.append_ #[t,tx] ty #[.slice none 0 0,AV.ah g x]).run P w).andThen fun a w'=>(pure (Next.value a):Sem Next).run P w')=_
   rw[hr]
   simp only[Result.andThen_ok,Sem.run_pure,AV.ah,CV.ah,SV.ah,cW,aQ,Nat.zero_add]
   congr 1
   show World.alloc _ _=World.alloc _ _
   congr 2
   apply Array.ext'
   simp[CQ,iG _ hz0 zB jj]
  ·exact hK (by omega) c' _ hge (by rw[kD,hz]) (du hz0 zB jj)
theorem sd {t tx Pg:Nat} {z:List Value} {sz mA:Nat} (hk:pT P t=some (z,sz,mA)) (hx:uB P tx=some (none,Pg)) (hz:z.length=sz) (hz0:0 < z.length) (zB:z.all Value.oneCell'=true)
  {m:Nat} {news:List SV} {x:AV} (hsrc:HI s sz x m news none) (h63:m≤9223372036854775807) (hby:m*mA≤140737488355328) {ty:TypeId} {ct:Array Bool} {dst:Option Nat} {K:AS→Prop}
  (h0:m=0→K (s.put dst (some (V (.slice none 0 0)))))
  (hK:0 < m→ ∀ c' tail,m≤c'→tail.length=(c' - m)*sz→tail.all SV.plain=true→K (({ s with box:=upd s.box nm (some ⟨true,news++tail⟩) }:AS).put dst (some (Sl nm 0 m c')))):
  cp P nm .append #[t,tx] ty ct (some [V (.slice none 0 0),x]) dst K s:=
 (j0 hk hx hz hz0 zB hsrc h63 hby h0 hK).plain
theorem pW (t tn ty e:TypeId) (i:TypeInfo) (z:Value) (kq kn:IntKind) (ht:P.underlying t=some (.slice e)) (htn:P.underlying tn=some (.int kn)) (hi:P.info? e=some i) (hz:i.zero=some z)
  (b off sLen sCap k:Nat) (h0:0 < k) (hs:0 < i.size) (hroom:sLen+k≤sCap) (h63:k≤281474976710656) (h48:k*i.bytes≤281474976710656)
  (hc: ∀ j,j < (Builtin.zeroCells z.cells k).size→(w.cell? ⟨b,off+sLen*i.size+j,none⟩).isSome=true) (hf: ∀ j,j < (Builtin.zeroCells z.cells k).size→w.frozen? ⟨b,off+sLen*i.size+j,none⟩=false)
  (h1: ∀ v ∈ (Builtin.zeroCells z.cells k).toList,v.oneCell'=true):
  (Builtin.append_ #[t,tn] ty #[.slice (some ⟨b,off,none⟩) sLen sCap, .int kq k]).run P w= .ok (.slice (some ⟨b,off,none⟩) (sLen+k) sCap) (w.setCells b (off+sLen*i.size) (Builtin.zeroCells z.cells k).toList):=by
 have hk:k≠0:=by omega
 have hw:IntKind.i64.wrap (k:Int)=k:=by rw[IntKind.wrap_i64];omega
 have aei: ¬ (281474976710656 < (k:Int)*(i.bytes:Int)):=by
  rw[← Int.natCast_mul]
  omega
 have hneg: ¬ ((k:Int) < 0):=by omega
 have qc: ¬ (k*i.size=0):=Nat.mul_ne_zero hk (by omega)
 have hst:=run_storeCells_cells (P:=P) b (off+sLen*i.size) (Builtin.zeroCells z.cells k).toList 0 w (by simpa using hc) (by simpa using hf) h1
 simp only[Nat.add_zero]at hst
 simp[Builtin.append_,run_underlying ht,run_underlying htn,sizeOf,typeInfo,zeroValue,hi,hz,asInt,asIntOf,hw,hneg,qc,aei,hroom,Addr.add_lit,hst]
theorem lz {t tx:Nat} {kn:IntKind} {z:List Value} {sz mA:Nat} (hk:pT P t=some (z,sz,mA)) (hx:kindOf P tx=some kn) (hz:z.length=sz) (hz0:0 < z.length) (zB:z.all Value.oneCell'=true)
  {b o n c m:Nat} {kq:IntKind} {cs olds:List SV} (hb:s.box b=some ⟨true,cs⟩) (hl:cs.length=o+c*sz) (WN:olds.length=n*sz) (hold: ∀ j u,olds[j]? =some u→cs[o+j]? =some u) (hcs:cs.all SV.plain=true)
  (hm0:0 < m) (hm1:m≤281474976710656) (hm2:m*mA≤281474976710656) (h63:n+m≤9223372036854775807) (hby:(n+m)*mA≤140737488355328) {ty:TypeId} {ct:Array Bool} {dst:Option Nat} {K:AS→Prop}
  (hK: ∀ c' tail,n+m≤c'→tail.length=(c' - (n+m))*sz→tail.all SV.plain=true→K (({ s with box:=upd (upd s.box b none) nm (some ⟨true,olds++cZ z m++tail⟩) }:AS).put dst (some (Sl nm 0 (n+m) c')))):
  cp P nm .append #[t,tx] ty ct (some [Sl b o n c,I kq m]) dst K s:=by
 intro W N w0 g a w h
 obtain ⟨e,i,v,hu,hi,hv,UT,hsz,vB,jj⟩:=lg hk
 have hux:P.underlying tx=some (.int kn):=by
  unfold kindOf at hx
  split at hx
  ·rename_i k hk';simp only[Option.some.injEq]at hx;rw[hk',hx]
  ·cases hx
 subst hsz
 have CQ:v.cells=z.toArray:=by rw[← UT]
 have QS:(cZ z m).length=m*i.size:=by rw[kD,hz]
 have vC: ∀ y ∈ cZ z m,SV.ok (fun n=>n < nm) y:=ao (du hz0 zB jj)
 by_cases hroom:n+m≤c
 ·have hle:(n+m)*i.size≤c*i.size:=Nat.mul_le_mul_right _ hroom
  rw[Nat.add_mul]at hle
  have hzl:(Builtin.zeroCells v.cells m).size=m*i.size:=by
   rw[CQ, ← hz];simp[Builtin.zeroCells]
  have hr:=pW (P:=P) (w:=w) t tx ty e i v kq kn hu hux hi hv (g b).1 ((g b).2+o) n c m hm0 (by omega) hroom hm1 (by rw[vB];exact hm2)
   (fun j hj=>by
    have hlt:o+n*i.size+j < cs.length:=by omega
    have:=h.mem.cell b _ hb (o+n*i.size+j) _ (List.getElem?_eq_getElem hlt)
    rw[show (g b).2+o+n*i.size+j=(g b).2+(o+n*i.size+j) by omega,this];rfl)
   (fun j hj=>by
    rw[show (g b).2+o+n*i.size+j=(g b).2+(o+n*i.size+j) by omega]
    exact mq (h.mem.free b _ hb rfl _ (by simp only;omega)))
   (fun u hu=>by
    rw[CQ, ← iG (z:=z) (n:=m) g hz0 zB jj]at hu
    simp only[List.mem_map]at hu
    obtain ⟨y,hy,rfl⟩:=hu
    have:=List.all_eq_true.1 (du hz0 zB jj) y hy
    exact Mb (by
     rcases y with y | y
     ·exact (Bool.and_eq_true_iff.1 this).1
     ·cases this))
  rw[CQ, ← iG (z:=z) (n:=m) g hz0 zB jj]at hr
  have hw:=h.write hb rfl (o:=o+n*i.size) (new:=cZ z m) (by simp only;omega) vC nm
  have J1:=hw.move (nm:=nm) (b:=b) (o:=o) (cs:=splice cs (o+n*i.size) (cZ z m)) (Nat.lt_irrefl nm) (by simp[AS.mem,upd])
  have hsp:(splice cs (o+n*i.size) (cZ z m)).drop o=olds++cZ z m++cs.drop (o+(n+m)*i.size):=by
   apply List.ext_getElem?
   intro j
   rw[List.getElem?_drop,gk _ _ _ (by omega)]
   by_cases h1:j < n*i.size
   ·rw[if_pos (by omega),List.append_assoc,List.getElem?_append_left (by omega)]
    have:=List.getElem?_eq_getElem (l:=olds) (i:=j) (by omega)
    rw[this]
    exact hold j _ this
   ·rw[if_neg (by omega)]
    by_cases h2:j < n*i.size+(cZ z m).length
    ·rw[if_pos (by omega),List.append_assoc,List.getElem?_append_right (by omega),List.getElem?_append_left (by omega)]
     congr 1;omega
    ·rw[if_neg (by omega),List.getElem?_append_right (by simp;omega),List.getElem?_drop]
     congr 1;simp only[List.length_append,WN,QS,Nat.add_mul];omega
  have iR: ∀ B:aI,upd (upd (upd s.box b (some ⟨true,splice cs (o+n*i.size) (cZ z m)⟩)) b none) nm (some B)=upd (upd s.box b none) nm (some B):=fun B=>by
   funext y;simp only[upd];split<;>try rfl
   split<;>rfl
  refine ⟨Sl nm 0 (n+m) c,_,_,_, ?_,Nat.lt_succ_self nm,J1.mono (fun n hn=>by rcases hn with h | h<;>omega), ?_⟩
  ·simp only[builtin,List.map_cons,List.map_nil,Sem.run_bind]
   show (((Builtin.append_ #[t,tx] ty #[.slice (some ⟨(g b).1,(g b).2+o,none⟩) n c, .int kq m]).run P w).andThen fun a w'=>(pure (Next.value a):Sem Next).run P w')=_
   rw[hr]
   simp[AV.ah,CV.ah,SV.ah,cW,aQ,Nat.add_assoc]
  ·have:=hK c (cs.drop (o+(n+m)*i.size)) hroom (by rw[List.length_drop,hl,Nat.sub_mul];omega) (by
    rw[List.all_eq_true]at hcs ⊢
    exact fun y hy=>hcs y (List.mem_of_mem_drop hy))
   rw[← hsp]at this
   have he:({ (s.mem nm (some (.inr (b,⟨true,splice cs (o+n*i.size) (cZ z m)⟩)))) with box:=upd (upd (s.mem nm (some (.inr (b,⟨true,splice cs (o+n*i.size) (cZ z m)⟩)))).box b none) nm (some ⟨true,(splice cs (o+n*i.size) (cZ z m)).drop o⟩) }:AS)=
     { s with box:=upd (upd s.box b none) nm (some ⟨true,(splice cs (o+n*i.size) (cZ z m)).drop o⟩) }:=by
    simp only[AS.mem,iR]
   simp only at he ⊢
   rw[he];exact this
 ·have HJ:(Builtin.firstCells i.size n (.slice (some ⟨(g b).1,(g b).2+o,none⟩) n c)).run P w.drew= .ok (olds.map (SV.ah g)).toArray w.drew:=by
   refine run_firstCells_some w.drew i.size n _ n c _ (by simp[WN]) (fun j u hj=> ?_)
   rw[List.getElem?_map]at hj
   cases hz:olds[j]? with
   | none=>rw[hz]at hj;cases hj
   | some y=>
    rw[hz]at hj
    simp only[Option.map_some,Option.some.injEq]at hj;subst hj
    rw[add_eq,Nat.add_assoc]
    have:=h.mem.cell b _ hb (o+j) y (hold j y hz)
    simpa using this
  have hr:=Lib.run_append_grow_zeros (P:=P) w t tx ty e i v kq kn hu hux hi hv (some ⟨(g b).1,(g b).2+o,none⟩) n c _ HJ m hm0 (by omega) (by omega) (by omega) (by rw[vB];exact hm2) (growslice_fits (by omega) (by rw[vB];exact hby))
  have hge:=grownCap_ge w (n+m) c e
  generalize grownCap w (n+m) c e=c' at hr hge
  have hall: ∀ y ∈ olds++cZ z m++cZ z (c' - (n+m)),SV.ok (fun n=>n < nm) y:=fun y hy=>by
   simp only[List.mem_append]at hy
   rcases hy with (hy | hy) | hy
   ·obtain ⟨j,hj⟩:=List.getElem?_of_mem hy
    exact (h.names.box b _ hb).2 y (List.mem_of_getElem? (hold j y hj))
   ·exact vC y hy
   ·exact ao (du hz0 zB jj) y hy
  have hnb:=((h.drew.sA (nm:=nm) (Nat.lt_irrefl nm) hall e).forget b)
  have Rm:b≠nm:=fun e=>Nat.lt_irrefl nm (e▸(h.names.box b _ hb).1)
  have iR:upd (upd s.box nm (some ⟨true,olds++cZ z m++cZ z (c' - (n+m))⟩)) b none=upd (upd s.box b none) nm (some ⟨true,olds++cZ z m++cZ z (c' - (n+m))⟩):=mo _ _ _ _ _ (fun e=>Rm e.symm)
  refine ⟨Sl nm 0 (n+m) c',_,_,_, ?_,Nat.lt_succ_self nm,hnb.mono (fun n hn=>by rcases hn with h | h<;>omega), ?_⟩
  ·simp only[builtin,List.map_cons,List.map_nil,Sem.run_bind]
   show (((Builtin.append_ #[t,tx] ty #[.slice (some ⟨(g b).1,(g b).2+o,none⟩) n c, .int kq m]).run P w).andThen fun a w'=>(pure (Next.value a):Sem Next).run P w')=_
   rw[hr]
   simp only[Result.andThen_ok,Sem.run_pure,AV.ah,CV.ah,SV.ah,cW,aQ,Nat.zero_add]
   congr 1
   show World.alloc _ _=World.alloc _ _
   congr 2
   apply Array.ext'
   simp[CQ,iG _ hz0 zB jj,List.append_assoc]
  ·simp only[AS.mem,iR]
   exact hK c' _ hge (by rw[kD,hz]) (du hz0 zB jj)
theorem EP {t tx Pg:Nat} {z:List Value} {mA:Nat} (hk:pT P t=some (z,1,mA)) (_hx:uB P tx=some (none,Pg)) {b o n c b2 o2 m c2:Nat} {cs news:List SV} {bx:aI} (hb:s.box b=some ⟨true,cs⟩) (hb2:s.box b2=some bx)
  (QS:news.length=Nat.min m n) (hnews: ∀ j u,news[j]? =some u→bx.cells[o2+j]? =some u) (hl:o+Nat.min m n≤cs.length) {ty:TypeId} {ct:Array Bool} {dst:Option Nat} {K:AS→Prop}
  (hK:K (({ s with box:=upd s.box b (some ⟨true,splice cs o news⟩) }:AS).put dst (some (I .i64 (Nat.min m n))))):
  cp P nm .copy #[t,tx] ty ct (some [Sl b o n c,Sl b2 o2 m c2]) dst K s:=by
 intro W N w0 g a w h
 obtain ⟨e,i,v,hu,hi,hv,UT,hsz,vB,jj⟩:=lg hk
 have vC: ∀ y ∈ news,SV.ok (fun n=>n < nm) y:=fun y hy=>by
  obtain ⟨j,hj⟩:=List.getElem?_of_mem hy
  exact (h.names.box b2 bx hb2).2 y (List.mem_of_getElem? (hnews j y hj))
 have hr:=run_copy_cells (P:=P) w t tx ty e (g b).1 ((g b).2+o) n c ⟨(g b2).1,(g b2).2+o2,none⟩ m c2 (news.map (SV.ah g)) hu (by simp[hi,hsz]) (by simpa using QS)
  (fun j u hj=>by
   rw[List.getElem?_map]at hj
   cases hz:news[j]? with
   | none=>rw[hz]at hj;cases hj
   | some y=>
    rw[hz]at hj
    simp only[Option.map_some,Option.some.injEq]at hj;subst hj
    rw[add_eq,Nat.add_assoc]
    exact h.mem.cell b2 bx hb2 (o2+j) y (hnews j y hz))
  (fun j hj=>by
   have hj':j < news.length:=by simpa using hj
   have:=h.mem.cell b _ hb (o+j) _ (List.getElem?_eq_getElem (show o+j < cs.length by omega))
   rw[Nat.add_assoc,this];rfl)
  (fun j hj=>by
   have hj':j < news.length:=by simpa using hj
   rw[Nat.add_assoc]
   exact mq (h.mem.free b _ hb rfl _ (by simp only;omega)))
  (fun u hu=>by
   simp only[List.mem_map]at hu
   obtain ⟨y,hy,rfl⟩:=hu
   have:=(vC y hy).2
   exact Mb this)
 have hw:=h.write hb rfl (o:=o) (new:=news) (by simp only;omega) vC nm
 refine ⟨I .i64 (Nat.min m n),g,_,_, ?_,trivial,hw.mono (fun n hn=>by omega),hK⟩
 simp only[builtin,List.map_cons,List.map_nil,Sem.run_bind]
 show (((Builtin.copy_ #[t,tx] ty #[.slice (some ⟨(g b).1,(g b).2+o,none⟩) n c, .slice (some ⟨(g b2).1,(g b2).2+o2,none⟩) m c2]).run P w).andThen fun a w'=>(pure (Next.value a):Sem Next).run P w')=_
 rw[hr]
 simp[AV.ah,CV.ah,SV.ah,cW,goInt,QS]
theorem CV.dG {x:CV} (h:CV.plain x=true) (r:Nat→Nat):CV.ren r x=x:=by
 rcases x with (v | v) | l
 ·exact congrArg (fun z=>Sum.inl (Sum.inl z)) (Gq (by simpa[CV.plain] using h))
 ·simp[CV.plain]at h
 ·simp only[CV.ren];rw[au h]
theorem AV.dG {x:AV} (h:AV.plain x=true) (r:Nat→Nat):AV.ren r x=x:=by
 rcases x with c | l
 ·simp only[AV.ren];rw[CV.dG h]
 ·simp only[AV.ren]
  congr 1
  conv=>rhs;rw[← List.map_id l]
  exact List.map_congr_left fun x hx=>CV.dG (List.all_eq_true.1 h x hx) r
theorem aJ {k:Nat} {Post:AV→(Nat→Option aI)→Prop} {v:AV} (hv:AV.plain v=true) (h:Post v (fun _=>none)):m8 k Post v s:=
 ⟨k,v,fun _=>none,Nat.le_refl k,(AV.dG hv _).symm,AV.ek hv,fun n b hb=>(by cases hb),h⟩
theorem KA {k q n:Nat} (h:n < k):jY k q n=n:=by unfold jY;rw[if_neg (by omega)]
theorem kt {k q:Nat}:jY k q k=q:=by unfold jY;rw[if_pos rfl]
theorem gR {k q o n c:Nat} {cs:List SV} {Post:AV→(Nat→Option aI)→Prop} (hq:k≤q) (hb:s.box q=some ⟨true,cs⟩) (hp:cs.all SV.plain=true)
  (h:Post (Sl k o n c) (lk [(k,⟨true,cs⟩)])):m8 k Post (Sl q o n c) s:=by
 refine ⟨q,Sl k o n c,lk [(k,⟨true,cs⟩)],hq, ?_,Nat.lt_succ_self k,fun m b hm=> ?_,h⟩
 ·show Sl q o n c=Sl (jY k q k) o n c
  rw[kt]
 ·simp only[lk]at hm
  split at hm
  ·rename_i e
   simp only[Option.some.injEq]at hm;subst e hm
   exact ⟨Nat.lt_succ_self m,fun _=>rfl,ao hp,⟨true,cs⟩,by rw[kt];exact hb,fun _=>rfl,(au hp _).symm⟩
  ·cases hm
theorem Y6 {k t o n c:Nat} {Post:AV→(Nat→Option aI)→Prop} (ht:t < k) (h:Post (Sl t o n c) (fun _=>none)):m8 k Post (Sl t o n c) s:=
 ⟨k,Sl t o n c,fun _=>none,Nat.le_refl k,by show Sl t o n c=Sl (jY k k t) o n c;rw[KA ht],Nat.lt_succ_of_lt ht,fun n b hb=>(by cases hb),h⟩
theorem bM {k:Nat} {v:AV} {cs:List SV} {Post:AV→(Nat→Option aI)→Prop} (hk:0 < k) (hv:AV.plain v=true) (hb:s.box 0=some ⟨true,cs⟩) (hp:cs.all SV.plain=true) (h:Post v (lk [(0,⟨true,cs⟩)])):m8 k Post v s:=by
 refine ⟨k,v,lk [(0,⟨true,cs⟩)],Nat.le_refl k,(AV.dG hv _).symm,AV.ek hv,fun n b hn=> ?_,h⟩
 obtain ⟨rfl,rfl⟩:=J0 hn
 exact ⟨by omega,fun e=>by omega,ao hp,⟨true,cs⟩,by rw[KA hk];exact hb,fun _=>rfl,(au hp _).symm⟩
theorem fF {b:aI}: ∀ n,n < 1→ ∃ c,lk [(0,b)] n=some c:=fun n hn=>⟨b,by simp[lk];omega⟩
theorem pX {b c:aI}: ∀ n,n < 2→ ∃ d,lk [(0,b),(1,c)] n=some d:=fun n hn=>by
 by_cases h:n=0
 ·exact ⟨b,by simp[lk,h]⟩
 ·exact ⟨c,by simp only[lk];rw[if_neg h,if_pos (by omega)]⟩
theorem fG {rw:Bool} {cs:List SV} (hp:cs.all SV.plain=true): ∀ n c,lk [(0,(⟨rw,cs⟩:aI))] n=some c→n < 1∧ ∀ x ∈ c.cells,SV.ok (fun n=>n < 1) x:=fun n c h=>by
 obtain ⟨rfl,rfl⟩:=J0 h
 exact ⟨by omega,ao hp⟩
theorem pY {rw rw':Bool} {cs ds:List SV} (hp:cs.all SV.plain=true) (hq:ds.all SV.plain=true): ∀ n c,lk [(0,(⟨rw,cs⟩:aI)),(1,⟨rw',ds⟩)] n=some c→n < 2∧ ∀ x ∈ c.cells,SV.ok (fun n=>n < 2) x:=fun n c h=>by
 rcases WM h with ⟨rfl,rfl⟩ | ⟨rfl,rfl⟩
 ·exact ⟨by omega,ao hp⟩
 ·exact ⟨by omega,ao hq⟩
theorem rK: ∀ n,n < 0→ ∃ c:aI,(fun _=>none:Nat→Option aI) n=some c:=fun n hn=>by omega
theorem rL: ∀ n (c:aI),(fun _=>none:Nat→Option aI) n=some c→n < 0∧ ∀ x ∈ c.cells,SV.ok (fun n=>n < 0) x:=fun n c h=>by cases h
theorem Rn {c:Code} {F:Exit→AS→Prop} (n:Nat) (Inv:Nat→Prop) (env:Nat→List (Nat×AV)) (box:Nat→List (Nat×aI)) (next:Nat)
  (h0:Inv 0∧ev s (env 0) (box 0) next)
  (hstep: ∀ k,k < n→Inv k→vc P c (fI (fun s'=>Inv (k+1)∧ev s' (env (k+1)) (box (k+1)) next) F) (pF (env k) (box k) next))
  (hend:Inv n→vc P c (fI (fun _=>False) F) (pF (env n) (box n) next)) (hn:s.next≤next:=by first | exact Nat.le_refl _ | decide | simp):kv (vc P c) F s:=by
 have hmono: ∀ (K K':AS→Prop) t,(∀ s,K s→K' s)→vc P c (fI K F) t→vc P c (fI K' F) t:=fun K K' t h hv=>gv c _ _ (fun e s hs=>by
  cases e with
  | normal=>exact h s hs
  | _=>exact hs) t hv
 refine ⟨{ k:Nat // k≤n∧Inv k },fun k=>pF (env k.1) (box k.1) next,fun k=>n - k.1,⟨0,Nat.zero_le _,h0.1⟩,⟨_,h0.2.eR,fun _ _=>rfl⟩,fun _=>hn,fun k=> ?_⟩
 rcases Nat.lt_or_ge k.1 n with h | h
 ·exact hmono _ _ _ (fun s hs=>⟨⟨k.1+1,h,hs.1⟩,by show n - (k.1+1) < n - k.1;omega,_,hs.2.eR,fun _ _=>rfl⟩) (hstep k.1 h k.2.2)
 ·have e:k.1=n:=Nat.le_antisymm k.2.1 h
  exact hmono _ _ _ (fun s hs=>hs.elim) (e▸hend (e▸k.2.2))
theorem bd.cG {f k:Nat} {args l:List AV} {ins:Nat→Option aI} {v:AV} (h:bd P f args k ins (fun x out=>x=v∧out=fun _=>none)) (r:Nat→Nat) (hfit:Fits s r ins none) (hv:AV.plain v=true) (hl:l=args.map (AV.ren r))
  {dst:Option Nat} {K:AS→Prop} (hk:K (s.put dst (some v))):Go.cn.av P nm f (some l) dst K s:=by
 refine h.av r none hfit hl ?_
 rintro x out ⟨rfl,rfl⟩ _
 rw[AV.dG hv]
 exact hk
theorem bd.eV {f k:Nat} {args l:List AV} {ins:Nat→Option aI} {v:AV} (h:bd P f args k ins (fun x out=>x=v∧out=fun _=>none)) (r:Nat→Nat) (hfit:Fits s r ins none) (hv:AV.plain v=true) (hl:l=args.map (AV.ren r))
  (hn: ∀ M:Nat→Prop,(∀ x ∈ l,AV.ok M x)→ ∀ n,n < k→M (r n)) {ops:Array Oper} {i:Nat} {dst:Option Nat} {K:AS→Prop} (hk:K (s.put dst (some v))):km P ops i nm f (some l) dst K s:=by
 refine .inr (.inl ⟨(some v,none),h.reads r hfit hl hn ?_ ?_,hk⟩)
 ·rintro x out ⟨rfl,rfl⟩
  show (some (AV.ren _ x),none)=(some x,none)
  rw[AV.dG hv]
 ·rintro e rfl
  exact .inl rfl
theorem bd.Vg {f:Nat} {args l:List AV} {cs ds:List SV} {v:AV} (h:bd P f args 1 (lk [(0,⟨true,cs⟩)]) (fun x out=>x=v∧out=lk [(0,⟨true,ds⟩)])) {t:Nat} (hb:s.box t=some ⟨true,cs⟩) (hp:cs.all SV.plain=true) (hq:ds.all SV.plain=true)
  (hv:AV.plain v=true) (hl:l=args.map (AV.ren fun _=>t)) {dst:Option Nat} {K:AS→Prop} (hk:K (({ s with box:=upd s.box t (some ⟨true,ds⟩) }:AS).put dst (some v))):Go.cn.av P nm f (some l) dst K s:=by
 refine h.av (fun _=>t) (some 0) (Kz hb hp) hl ?_
 rintro x out ⟨rfl,rfl⟩ _
 rw[AV.dG hv]
 have:after s (fun _=>t) 1 nm (some 0) (lk [(0,⟨true,ds⟩)])=upd s.box t (some ⟨true,ds⟩):=by
  simp[after,lk,aI.ren,au hq]
 rw[this]
 exact hk
theorem qo (k:IntKind) (n m o:Nat) (f g:Nat→Int) (h:o+m≤n):splice (ai k n f) o (ai k m g)=ai k n (fun i=>if o≤i∧i < o+m then g (i - o) else f i):=by
 apply List.ext_getElem?
 intro j
 rw[gk _ _ _ (by simp[aD];omega),aD]
 by_cases hj:j < n
 ·rw[bN k n (fun i=>if o≤i∧i < o+m then g (i - o) else f i) j hj]
  by_cases h1:j < o
  ·rw[if_pos h1,bN k n f j hj,if_neg (by omega)]
  ·rw[if_neg h1]
   by_cases h2:j < o+m
   ·rw[if_pos h2,bN k m g (j - o) (by omega),if_pos (by omega)]
   ·rw[if_neg h2,bN k n f j hj,if_neg (by omega)]
 ·have e: ∀ F:Nat→Int,(ai k n F)[j]? =none:=fun F=>List.getElem?_eq_none (by rw[aD];omega)
  rw[if_neg (by omega),if_neg (by omega),e,e]
def HK (m p q:Nat) (s:AS) (env:List (Nat×AV)) (box:List (Nat×aI)) (next:Nat):Prop:=
 m≤p∧m≤q∧(∀ x ∈ env,s.env x.1=some (AV.ren (upd (fun n=>n) p q) x.2)∧AV.ok (fun n=>n < next) x.2)∧
  (∀ x ∈ box,(x.1 < m∨x.1=p)∧s.box (upd (fun n=>n) p q x.1)=some x.2∧x.1 < next∧x.2.cells.all SV.plain=true)
theorem HK.eR {m p q:Nat} {env:List (Nat×AV)} {box:List (Nat×aI)} {next:Nat} (h:HK m p q s env box next):ll m s (pF env box next):=by
 obtain ⟨hp,hq,he,hb⟩:=h
 refine ⟨upd (fun n=>n) p q,⟨fun d v hv=>(he _ (bt _ _ _ hv)).1,fun n b hn=> ?_,fun n n' b b' hn _ hn' e=> ?_,fun d v hv=>(he _ (bt _ _ _ hv)).2,fun t b ht=> ?_⟩,fun n hn=>bh _ _ _ _ (by omega)⟩
 ·have:=hb _ (bt _ _ _ hn)
  exact ⟨b,this.2.1,fun h=>h,(au this.2.2.2 _).symm⟩
 ·have h1:=(hb _ (bt _ _ _ hn)).1
  have h2:=(hb _ (bt _ _ _ hn')).1
  simp only at h1 h2
  simp only[upd]at e
  split at e<;>split at e<;>omega
 ·have:=hb _ (bt _ _ _ ht)
  exact ⟨this.2.2.1,ao this.2.2.2⟩
end
end Go.cn
