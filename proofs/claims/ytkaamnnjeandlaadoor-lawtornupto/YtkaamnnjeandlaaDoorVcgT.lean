/-
  The calculus: calls by contracts over boxes, and the builtins append and copy. Nothing here speaks of a program.
-/
import Derived.Test.YtkaamnnjeandlaaDoorVcgS
import Derived.Deep.AppendSrc
import Derived.Lib.AppendZerosOnto
set_option linter.unusedVariables false
set_option linter.unusedSimpArgs false
namespace Go.bM
set_option linter.unusedSectionVars false
section
variable {P:Program} [Tables P] {W:Nat→Prop} {N:Nat} {w0:Base P} {M:Nat→Prop} {g:Where} {s:AS} {a:Act} {w:World} {nm:Nat}
theorem SV.cJ {x:SV} (h:SV.plain x=true) (r:Nat→Nat):SV.ren r x=x:=by
 rcases x with v | v
 ·exact congrArg Sum.inl (B1 (Bool.and_eq_true_iff.1 h).2)
 ·simp[SV.plain]at h
theorem az {cs:List SV} (h:cs.all SV.plain=true) (r:Nat→Nat):cs.map (SV.ren r)=cs:=by
 conv=>rhs;rw[← List.map_id cs]
 exact List.map_congr_left fun x hx=>SV.cJ (List.all_eq_true.1 h x hx) r
theorem ai {cs:List SV} (h:cs.all SV.plain=true) {M:Nat→Prop}: ∀ x ∈ cs,SV.ok M x:=fun x hx=>SV.dq (List.all_eq_true.1 h x hx)
theorem bC.aB {f k:Nat} {args l:List AV} {ins:Nat→Option aG} {Post:AV→(Nat→Option aG)→Prop} (h:bC P f args k ins Post) (r:Nat→Nat) (wr:Option Nat) (hfit:Fits s r ins wr) (hl:l=args.map (AV.ren r))
  {dst:Option Nat} {K:AS→Prop} (hk: ∀ v out,Post v out→(∀ b,out k=some b→b.rw=true)→K (({ s with box:=after s r k nm wr out }:AS).put dst (some (AV.ren (dy r k nm) v)))):aB P nm f (some l) dst K s:=by
 intro W N w0 g a w bh
 rw[hl]
 refine (h.rep bh (nm:=nm) (Nat.lt_irrefl nm) hfit).mono ?_
 rintro e w' ⟨v,out,g',rfl,hpost,hrw,_,cM,hok⟩
 exact ⟨_,g',_,rfl,AV.aI (fun n hn=>by rcases hn with h | h<;>omega) hok,cM.mono (fun n hn=>by rcases hn with h | h<;>omega),hk v out hpost (fun b hb=>hrw k b hb rfl)⟩
def FA (r:Nat→Nat) (k nm:Nat) (v:AV) (out:Nat→Option aG):c6:=(some (AV.ren (dy r k nm) v),match out k with
 | none=>none
 | some b=>some (.inl (b.cells.map (SV.ren (dy r k nm)))))
theorem bC.Rq {f k:Nat} {args l:List AV} {ins:Nat→Option aG} {Post:AV→(Nat→Option aG)→Prop} (h:bC P f args k ins Post) (r:Nat→Nat) (hfit:Fits s r ins none) (hl:l=args.map (AV.ren r))
  (hnamed: ∀ M:Nat→Prop,(∀ v ∈ l,AV.ok M v)→(∀ n,n < k→M (r n)→ ∀ b,s.box (r n)=some b→ ∀ x ∈ b.cells,SV.ok M x)→ ∀ n,n < k→M (r n)) {D:c6→Prop} (hD: ∀ v out,Post v out→D (FA r k nm v out)) (hmem: ∀ e,D e→e.2=none∨ ∃ cs,e.2=some (.inl cs)):
  Reads P nm f (some l) s D:=by
 refine ⟨l,(List.range k).map fun n=>(r n,(s.box (r n)).getD ⟨false,[]⟩),rfl,fun p hp=> ?_,h.body,fun M hM iw p hp=> ?_,hmem, ?_⟩
 ·simp only[List.mem_map,List.mem_range]at hp
  obtain ⟨n,hn,rfl⟩:=hp
  obtain ⟨b,hb⟩:=h.all n hn
  obtain ⟨b',hb',_⟩:=hfit.box n b hb
  simp[hb']
 ·simp only[List.mem_map,List.mem_range]at hp
  obtain ⟨n,hn,rfl⟩:=hp
  refine hnamed M hM (fun m hm Yv b hb=> ?_) n hn
  have:=iw (r m,(s.box (r m)).getD ⟨false,[]⟩) (List.mem_map.2 ⟨m,List.mem_range.2 hm,rfl⟩) Yv
  rw[hb]at this
  exact this
 ·intro W N w0 M g s' a w bh hnm _ zk
  have Tg:Fits s' r ins none:=⟨fun n b hb=>by
   obtain ⟨b',h1,h2,h3⟩:=hfit.box n b hb
   have:=zk (r n,(s.box (r n)).getD ⟨false,[]⟩) (List.mem_map.2 ⟨n,List.mem_range.2 (h.um n b hb),rfl⟩)
   rw[h1]at this
   exact ⟨b',this,h2,h3⟩,hfit.inj,hfit.only,hfit.Dh⟩
  unfold Hands
  rw[hl]
  refine (h.rep bh hnm Tg).mono ?_
  rintro e w' ⟨v,out,g',rfl,hpost,hrw,hsame,cM,hok⟩
  refine ⟨FA r k nm v out,_,g',hD v out hpost,rfl,rfl,hsame, ?_,hok⟩
  have:({ s' with box:=after s' r k nm none out }:AS)=s'.mem nm (FA r k nm v out).2:=by
   unfold after FA AS.mem
   cases ho:out k with
   | none=>simp[ho]
   | some b=>
    have hb:=hrw k b ho rfl
    simp only[aG.ren,hb]
  rw[← this]
  exact cM
theorem bC.reads {f k:Nat} {args l:List AV} {ins:Nat→Option aG} {Post:AV→(Nat→Option aG)→Prop} (h:bC P f args k ins Post) (r:Nat→Nat) (hfit:Fits s r ins none) (hl:l=args.map (AV.ren r))
  (hnamed: ∀ M:Nat→Prop,(∀ v ∈ l,AV.ok M v)→ ∀ n,n < k→M (r n)) {D:c6→Prop} (hD: ∀ v out,Post v out→D (FA r k nm v out)) (hmem: ∀ e,D e→e.2=none∨ ∃ cs,e.2=some (.inl cs)):
  Reads P nm f (some l) s D:=h.Rq r hfit hl (fun M hM _=>hnamed M hM) hD hmem
theorem Dj {r:Nat→Nat}:Fits s r (fun _=>none) none:=⟨fun n b h=>(by cases h),fun n n' b b' h=>(by cases h),fun n b h=>(by cases h),fun n h=>(by cases h)⟩
theorem HM {b b':aG} {n:Nat} (h:lk [(0,b)] n=some b'):n=0∧b'=b:=by
 simp only[lk]at h
 split at h
 ·rename_i e;simp only[Option.some.injEq]at h;exact ⟨e,h.symm⟩
 ·cases h
theorem Qm {b c b':aG} {n:Nat} (h:lk [(0,b),(1,c)] n=some b'):(n=0∧b'=b)∨(n=1∧b'=c):=by
 simp only[lk]at h
 split at h
 ·rename_i e;simp only[Option.some.injEq]at h;exact .inl ⟨e,h.symm⟩
 ·split at h
  ·rename_i e;simp only[Option.some.injEq]at h;exact .inr ⟨e,h.symm⟩
  ·cases h
theorem dU {t:Nat} {rw:Bool} {cs:List SV} (h:s.box t=some ⟨rw,cs⟩) (hp:cs.all SV.plain=true):Fits s (fun _=>t) (lk [(0,⟨false,cs⟩)]) none:=
 ⟨fun n b hb=>by
  obtain ⟨rfl,rfl⟩:=HM hb
  exact ⟨_,h,fun e=>(by cases e),(az hp _).symm⟩,
  fun n n' b b' hb hrw=>(by obtain ⟨rfl,rfl⟩:=HM hb;cases hrw),fun n b hb hrw=>(by obtain ⟨rfl,rfl⟩:=HM hb;cases hrw),fun n hn=>(by cases hn)⟩
theorem LN {t:Nat} {cs:List SV} (h:s.box t=some ⟨true,cs⟩) (hp:cs.all SV.plain=true):Fits s (fun _=>t) (lk [(0,⟨true,cs⟩)]) (some 0):=
 ⟨fun n b hb=>by
  obtain ⟨rfl,rfl⟩:=HM hb
  exact ⟨_,h,fun _=>rfl,(az hp _).symm⟩,
  fun n n' b b' hb _ hb' _=>(by obtain ⟨rfl,rfl⟩:=HM hb;obtain ⟨rfl,rfl⟩:=HM hb';rfl),fun n b hb _=>(by obtain ⟨rfl,rfl⟩:=HM hb;rfl),
  fun n hn=>(by cases hn;exact ⟨_,rfl,rfl⟩)⟩
def two (t u:Nat):Nat→Nat:=fun n=>if n=0 then t else u
theorem lY {t u:Nat} {rw rw':Bool} {cs ds:List SV} (h:s.box t=some ⟨rw,cs⟩) (hp:cs.all SV.plain=true) (h':s.box u=some ⟨rw',ds⟩) (hp':ds.all SV.plain=true):Fits s (two t u) (lk [(0,⟨false,cs⟩),(1,⟨false,ds⟩)]) none:=
 ⟨fun n b hb=>by
  rcases Qm hb with ⟨rfl,rfl⟩ | ⟨rfl,rfl⟩
  ·exact ⟨_,h,fun e=>(by cases e),(az hp _).symm⟩
  ·exact ⟨_,h',fun e=>(by cases e),(az hp' _).symm⟩,
  fun n n' b b' hb hrw=>(by rcases Qm hb with ⟨rfl,rfl⟩ | ⟨rfl,rfl⟩<;>cases hrw),fun n b hb hrw=>(by rcases Qm hb with ⟨rfl,rfl⟩ | ⟨rfl,rfl⟩<;>cases hrw),fun n hn=>(by cases hn)⟩
theorem br.forget (h:br W N w0 M g s a w) (b:Nat):br W N w0 M g { s with box:=upd s.box b none } a w:=by
 have hb: ∀ t x,upd s.box b none t=some x→s.box t=some x:=fun t x ht=>by
  simp only[upd]at ht
  split at ht
  ·cases ht
  ·exact ht
 exact ⟨h.size,h.defers,h.env,⟨h.names.env,fun t x ht=>h.names.box t x (hb t x ht)⟩,⟨fun t x ht=>h.mem.lt t x (hb t x ht),fun t x ht=>h.mem.cell t x (hb t x ht),fun t x ht=>h.mem.free t x (hb t x ht),
  fun t t' x x' ht hrw ht'=>h.mem.sep t t' x x' (hb t x ht) hrw (hb t' x' ht')⟩,fun t x ht=>h.own t x (hb t x ht),h.frame,h.pin,h.tabs⟩
theorem br.move (h:br W N w0 M g s a w) (hnm: ¬ M nm) {b o:Nat} {cs:List SV} (hb:s.box b=some ⟨true,cs⟩):
  br W N w0 (fun n=>M n∨n=nm) (upd g nm ((g b).1,(g b).2+o)) { s with box:=upd (upd s.box b none) nm (some ⟨true,cs.drop o⟩) } a w:=by
 have hg: ∀ n,M n→g n=upd g nm ((g b).1,(g b).2+o) n:=fun n hn=>(aW _ _ _ _ (fun e=>hnm (by rw[← e];exact hn))).symm
 have hM: ∀ n,M n→M n∨n=nm:=fun n hn=>Or.inl hn
 have key: ∀ t x,upd (upd s.box b none) nm (some ⟨true,cs.drop o⟩) t=some x→(t=nm∧x=⟨true,cs.drop o⟩)∨(t≠nm∧t≠b∧s.box t=some x):=fun t x ht=>by
  simp only[upd]at ht
  split at ht
  ·rename_i e;simp only[Option.some.injEq]at ht;exact .inl ⟨e,ht.symm⟩
  ·rename_i e
   split at ht
   ·cases ht
   ·rename_i e2;exact .inr ⟨e,e2,ht⟩
 have lX:=(h.names.box b _ hb)
 refine ⟨h.size,h.defers,fun d v hv=> ?_,⟨fun d v hv=> ?_,fun t x ht=> ?_⟩,⟨fun t x ht=> ?_,fun t x ht i v hv=> ?_,fun t x ht hrw i hi=> ?_,fun t t' x x' ht hrw ht' hne=> ?_⟩,fun t x ht hrw=> ?_,h.frame,fun n hn=>⟨.inl (h.pin n hn).1,(hg n (h.pin n hn).1).symm.trans (h.pin n hn).2⟩,h.tabs⟩
 ·rw[h.env d v hv,AV.aZ (AV.aI hg (h.names.env d v hv))]
 ·exact AV.aI hM (h.names.env d v hv)
 ·rcases key t x ht with ⟨rfl,rfl⟩ | ⟨_,_,ht⟩
  ·exact ⟨.inr rfl,fun y hy=>SV.aI hM (lX.2 y (List.mem_of_mem_drop hy))⟩
  ·exact ⟨.inl (h.names.box t x ht).1,fun y hy=>SV.aI hM ((h.names.box t x ht).2 y hy)⟩
 ·rcases key t x ht with ⟨rfl,rfl⟩ | ⟨e,_,ht⟩
  ·rw[aT];exact h.mem.lt b _ hb
  ·rw[aW _ _ _ _ e];exact h.mem.lt t x ht
 ·rcases key t x ht with ⟨rfl,rfl⟩ | ⟨e,_,ht⟩
  ·rw[aT]
   simp only[List.getElem?_drop]at hv
   have:=h.mem.cell b _ hb (o+i) v hv
   simp only[Nat.add_assoc]
   rw[this,SV.aZ (SV.aY hg (lX.2 v (List.mem_of_getElem? hv)).1)]
  ·rw[aW _ _ _ _ e,h.mem.cell t x ht i v hv,SV.aZ (SV.aY hg ((h.names.box t x ht).2 v (List.mem_of_getElem? hv)).1)]
 ·rcases key t x ht with ⟨rfl,rfl⟩ | ⟨e,_,ht⟩
  ·rw[aT]
   simp only[Nat.add_assoc]
   exact h.mem.free b _ hb rfl (o+i) (by simp at hi ⊢;omega)
  ·rw[aW _ _ _ _ e];exact h.mem.free t x ht hrw i hi
 ·rcases key t x ht with ⟨rfl,rfl⟩ | ⟨e,eb,ht⟩<;>rcases key t' x' ht' with ⟨rfl,rfl⟩ | ⟨e',eb',ht'⟩
  ·exact absurd rfl hne
  ·rw[aT,aW _ _ _ _ e'];exact h.mem.sep b t' _ x' hb rfl ht' (fun e=>eb' e.symm)
  ·rename_i Z5
   rw[aT,aW _ _ _ _ e];exact h.mem.sep t b x _ (by assumption) hrw hb eb
  ·rw[aW _ _ _ _ e,aW _ _ _ _ e'];exact h.mem.sep t t' x x' ht hrw ht' hne
 ·rcases key t x ht with ⟨rfl,rfl⟩ | ⟨e,_,ht⟩
  ·rw[aT];exact h.own b _ hb rfl
  ·rw[aW _ _ _ _ e];exact h.own t x ht hrw
def JD (s:AS) (sz:Nat) (x:AV) (m:Nat) (news:List SV) (b:Option Nat):Prop:=
 (∃ t o c bx,x=Sl t o m c∧s.box t=some bx∧news.length=m*sz∧(∀ j u,news[j]? =some u→bx.cells[o+j]? =some u)∧b≠some t)∨((∃ ad,x=V (.slice ad 0 0))∧m=0∧news=[])
theorem JD.src (h:br W N w0 M g s a w) {sz LO:Nat} {tx:TypeId} (hk:sF P tx=some (none,LO)) {x:AV} {m:Nat} {news:List SV} {b:Option Nat} (hs:JD s sz x m news b):
  Src P sz tx (AV.ah g x) m (news.map (SV.ah g)) w∧ ∀ y ∈ news,SV.ok M y:=by
 obtain ⟨e,i,_,_,⟨_,hu⟩ | ⟨n,hn,_⟩⟩:=lU hk
 ·rcases hs with ⟨t,o,c,bx,rfl,hb,hl,hc,_⟩ | ⟨⟨ad,rfl⟩,rfl,rfl⟩
  ·have hok: ∀ y ∈ news,SV.ok M y:=fun y hy=>by
    obtain ⟨j,hj⟩:=List.getElem?_of_mem hy
    exact (h.names.box t bx hb).2 y (List.mem_of_getElem? (hc j y hj))
   refine ⟨Src.ofSlice w hu ⟨(g t).1,(g t).2+o,none⟩ m c _ (by simp[hl]) (fun j u hj=> ?_) (fun u hu=> ?_),hok⟩
   ·rw[List.getElem?_map]at hj
    cases hz:news[j]? with
    | none=>rw[hz]at hj;cases hj
    | some z=>
     rw[hz]at hj
     simp only[Option.map_some,Option.some.injEq]at hj;subst hj
     rw[add_eq,Nat.add_assoc]
     exact h.mem.cell t bx hb (o+j) z (hc j z hz)
   ·simp only[List.mem_map]at hu
    obtain ⟨z,hz,rfl⟩:=hu
    have:=(hok z hz).2
    exact K5 this
  ·refine ⟨?_,fun y hy=>by cases hy⟩
   cases ad with
   | none=>exact Src.ofNil w hu 0
   | some ad=>exact Src.ofSlice w hu ad 0 0 [] (by simp) (fun j u h=>by simp at h) (fun u h=>by cases h)
 ·cases hn
def fU (z:List Value) (n:Nat):List SV:=(Builtin.zeroCells z.toArray n).toList.map Sum.inl
theorem pR {z:List Value} {n:Nat}:(fU z n).length=n*z.length:=by simp[fU,Builtin.zeroCells]
theorem fj {z:List Value} {n:Nat} (hz:0 < z.length) (hall:z.all Value.oneCell'=true) (ky:z.all gx=true):(fU z n).all SV.plain=true:=by
 rw[List.all_eq_true]
 intro x hx
 simp only[fU,Builtin.zeroCells,List.mem_map,Array.mem_toList_iff,Array.mem_map,Array.mem_range]at hx
 obtain ⟨v,⟨i,_,rfl⟩,rfl⟩:=hx
 have hlt:i%z.toArray.size < z.toArray.size:=Nat.mod_lt _ (by simpa using hz)
 rw[getElem!_pos z.toArray _ hlt]
 exact Bool.and_eq_true_iff.2 ⟨List.all_eq_true.1 hall _ (by simp),List.all_eq_true.1 ky _ (by simp)⟩
theorem n6 {z:List Value} {n:Nat} (g:Where) (hz:0 < z.length) (hall:z.all Value.oneCell'=true) (ky:z.all gx=true):(fU z n).map (SV.ah g)=(Builtin.zeroCells z.toArray n).toList:=by
 have h:(Builtin.zeroCells z.toArray n).toList.all gx=true:=List.all_eq_true.2 fun x hx=>(Bool.and_eq_true_iff.1 (List.all_eq_true.1 (fj (n:=n) hz hall ky) (.inl x) (List.mem_map_of_mem hx))).2
 simp only[fU,List.map_map]
 exact qR h
def kF (P:Program) [Tables P] (nm:Nat) (b:Builtin) (tys:Array TypeId) (type:TypeId) (consts:Array Bool) (l:List AV) (dst:Option Nat) (K:AS→Prop) (s:AS):Prop:=
 ∀ (W:Nat→Prop) (N:Nat) (w0:Base P) (g:Where) (a:Act) (w:World),br W N w0 (fun n=>n < nm) g s a w→
  ∃ v g' bx w',(builtin b tys type consts (l.map (AV.ah g)).toArray).run P w= .ok (.value (AV.ah g' v)) w'∧AV.ok (fun n=>n < nm+1) v∧br W N w0 (fun n=>n < nm+1) g' { s with box:=bx } a w'∧
   (∀ t b,bx t=some b→b.rw=true∨ ∃ b0,s.box t=some b0∧g' t=g t)∧K (({ s with box:=bx }:AS).put dst (some v))
theorem kF.plain {b:Builtin} {tys:Array TypeId} {type:TypeId} {ct:Array Bool} {l:List AV} {dst:Option Nat} {K:AS→Prop} (h:kF P nm b tys type ct l dst K s):bU P nm b tys type ct (some l) dst K s:=by
 intro W N w0 g a w hr
 obtain ⟨v,g',bx,w',h1,h2,h3,_,h4⟩:=h W N w0 g a w hr
 exact ⟨v,g',_,w',h1,h2,h3,h4⟩
theorem Qn {b nm:Nat} {B:aG} {g:Where} {x:Nat×Nat} (hB:B.rw=true:=by rfl): ∀ t c,upd (upd s.box b none) nm (some B) t=some c→c.rw=true∨ ∃ b0,s.box t=some b0∧upd g nm x t=g t:=fun t c hc=>by
 unfold upd at hc ⊢
 split at hc
 ·cases hc;exact .inl hB
 ·split at hc
  ·cases hc
  ·rename_i h1 h2
   exact .inr ⟨c,hc,if_neg h1⟩
theorem pS {t tx LO:Nat} {z:List Value} {sz mq:Nat} (hk:qU P t=some (z,sz,mq)) (hx:sF P tx=some (none,LO)) (hz:z.length=sz) (hz0:0 < z.length) (LP:z.all Value.oneCell'=true)
  {b o n c m:Nat} {cs olds news:List SV} {x:AV} (hb:s.box b=some ⟨true,cs⟩) (hl:cs.length=o+c*sz) (hnc:n≤c) (VR:olds.length=n*sz) (hold: ∀ j u,olds[j]? =some u→cs[o+j]? =some u) (hcs:cs.all SV.plain=true)
  (hsrc:JD s sz x m news (some b)) (h63:n+m≤9223372036854775807) (hby:(n+m)*mq≤140737488355328) {ty:TypeId} {ct:Array Bool} {dst:Option Nat} {K:AS→Prop}
  (hK: ∀ c' tail,n+m≤c'→tail.length=(c' - (n+m))*sz→tail.all SV.plain=true→K (({ s with box:=upd (upd s.box b none) nm (some ⟨true,olds++news++tail⟩) }:AS).put dst (some (Sl nm 0 (n+m) c')))):
  kF P nm .append #[t,tx] ty ct [Sl b o n c,x] dst K s:=by
 intro W N w0 g a w h
 obtain ⟨e,i,v,hu,hi,hv,SC,hsz,FB,ky⟩:=lV hk
 obtain ⟨zm,FC⟩:=hsrc.src h hx
 subst hsz
 have Sz:news.length=m*i.size:=by simpa using zm.newsLen
 have Jv:v.cells=z.toArray:=by rw[← SC]
 by_cases hroom:n+m≤c
 ·have hle:(n+m)*i.size≤c*i.size:=Nat.mul_le_mul_right _ hroom
  rw[Nat.add_mul]at hle
  have hr:=run_append_room_src (P:=P) w t tx ty e i hu hi (g b).1 ((g b).2+o) n c (AV.ah g x) m (news.map (SV.ah g)) zm hroom
   (fun j hj=>by
    have hj':j < news.length:=by simpa using hj
    have hlt:o+n*i.size+j < cs.length:=by omega
    have:=h.mem.cell b _ hb (o+n*i.size+j) _ (List.getElem?_eq_getElem hlt)
    rw[show (g b).2+o+n*i.size+j=(g b).2+(o+n*i.size+j) by omega,this];rfl)
   (fun j hj=>by
    have hj':j < news.length:=by simpa using hj
    rw[show (g b).2+o+n*i.size+j=(g b).2+(o+n*i.size+j) by omega]
    exact pK (h.mem.free b _ hb rfl _ (by simp only;omega)))
  have hw:=h.write hb rfl (o:=o+n*i.size) (new:=news) (by simp only;omega) FC nm
  have Ti:=hw.move (nm:=nm) (b:=b) (o:=o) (cs:=splice cs (o+n*i.size) news) (Nat.lt_irrefl nm) (by simp[AS.mem,upd])
  have hsp:(splice cs (o+n*i.size) news).drop o=olds++news++cs.drop (o+(n+m)*i.size):=by
   apply List.ext_getElem?
   intro j
   rw[List.getElem?_drop,gW _ _ _ (by omega)]
   by_cases h1:j < n*i.size
   ·rw[if_pos (by omega),List.append_assoc,List.getElem?_append_left (by omega)]
    have:=List.getElem?_eq_getElem (l:=olds) (i:=j) (by omega)
    rw[this]
    exact hold j _ this
   ·rw[if_neg (by omega)]
    by_cases h2:j < n*i.size+news.length
    ·rw[if_pos (by omega),List.append_assoc,List.getElem?_append_right (by omega),List.getElem?_append_left (by omega)]
     congr 1;omega
    ·rw[if_neg (by omega),List.getElem?_append_right (by simp;omega),List.getElem?_drop]
     congr 1;simp[Nat.add_mul];omega
  have uj: ∀ B:aG,upd (upd (upd s.box b (some ⟨true,splice cs (o+n*i.size) news⟩)) b none) nm (some B)=upd (upd s.box b none) nm (some B):=fun B=>by
   funext y;simp only[upd];split<;>try rfl
   split<;>rfl
  have he:({ (s.mem nm (some (.inr (b,⟨true,splice cs (o+n*i.size) news⟩)))) with box:=upd (upd (s.mem nm (some (.inr (b,⟨true,splice cs (o+n*i.size) news⟩)))).box b none) nm (some ⟨true,(splice cs (o+n*i.size) news).drop o⟩) }:AS)=
    { s with box:=upd (upd s.box b none) nm (some ⟨true,(splice cs (o+n*i.size) news).drop o⟩) }:=by
   simp only[AS.mem,uj]
  rw[he]at Ti
  refine ⟨Sl nm 0 (n+m) c,_,_,_, ?_,Nat.lt_succ_self nm,Ti.mono (fun n hn=>by rcases hn with h | h<;>omega),Qn, ?_⟩
  ·simp only[builtin,List.map_cons,List.map_nil,Sem.run_bind]
   show (((Builtin.append_ #[t,tx] ty #[.slice (some ⟨(g b).1,(g b).2+o,none⟩) n c,AV.ah g x]).run P w).andThen fun a w'=>(pure (Next.value a):Sem Next).run P w')=_
   rw[hr]
   simp[AV.ah,CV.ah,SV.ah,cu,aT,Nat.add_assoc]
  ·have:=hK c (cs.drop (o+(n+m)*i.size)) hroom (by rw[List.length_drop,hl,Nat.sub_mul];omega) (by
    rw[List.all_eq_true]at hcs ⊢
    exact fun y hy=>hcs y (List.mem_of_mem_drop hy))
   rw[← hsp]at this
   exact this
 ·have Tj:(Builtin.firstCells i.size n (.slice (some ⟨(g b).1,(g b).2+o,none⟩) n c)).run P w.drew= .ok (olds.map (SV.ah g)).toArray w.drew:=by
   refine run_firstCells_some w.drew i.size n _ n c _ (by simp[VR]) (fun j u hj=> ?_)
   rw[List.getElem?_map]at hj
   cases hz:olds[j]? with
   | none=>rw[hz]at hj;cases hj
   | some y=>
    rw[hz]at hj
    simp only[Option.map_some,Option.some.injEq]at hj;subst hj
    rw[add_eq,Nat.add_assoc]
    have:=h.mem.cell b _ hb (o+j) y (hold j y hz)
    simpa using this
  have hr:=run_append_grow_src (P:=P) w t tx ty e i v hu hi hv (some ⟨(g b).1,(g b).2+o,none⟩) n c _ Tj (AV.ah g x) m (news.map (SV.ah g)) zm (by omega) (by omega) (growslice_fits (by omega) (by rw[FB];exact hby))
  have hge:=grownCap_ge w (n+m) c e
  generalize grownCap w (n+m) c e=c' at hr hge
  have hall: ∀ y ∈ olds++news++fU z (c' - (n+m)),SV.ok (fun n=>n < nm) y:=fun y hy=>by
   simp only[List.mem_append]at hy
   rcases hy with (hy | hy) | hy
   ·obtain ⟨j,hj⟩:=List.getElem?_of_mem hy
    exact (h.names.box b _ hb).2 y (List.mem_of_getElem? (hold j y hj))
   ·exact FC y hy
   ·exact ai (fj hz0 LP ky) y hy
  have hnb:=((h.drew.uH (nm:=nm) (Nat.lt_irrefl nm) hall e).forget b)
  have VT:b≠nm:=fun e=>Nat.lt_irrefl nm (e▸(h.names.box b _ hb).1)
  have uj:upd (upd s.box nm (some ⟨true,olds++news++fU z (c' - (n+m))⟩)) b none=upd (upd s.box b none) nm (some ⟨true,olds++news++fU z (c' - (n+m))⟩):=nK _ _ _ _ _ (fun e=>VT e.symm)
  simp only[AS.mem,uj]at hnb
  refine ⟨Sl nm 0 (n+m) c',_,_,_, ?_,Nat.lt_succ_self nm,hnb.mono (fun n hn=>by rcases hn with h | h<;>omega),Qn, ?_⟩
  ·simp only[builtin,List.map_cons,List.map_nil,Sem.run_bind]
   show (((Builtin.append_ #[t,tx] ty #[.slice (some ⟨(g b).1,(g b).2+o,none⟩) n c,AV.ah g x]).run P w).andThen fun a w'=>(pure (Next.value a):Sem Next).run P w')=_
   rw[hr]
   simp only[Result.andThen_ok,Sem.run_pure,AV.ah,CV.ah,SV.ah,cu,aT,Nat.zero_add]
   congr 1
   show World.alloc _ _=World.alloc _ _
   congr 2
   apply Array.ext'
   simp[Jv,n6 _ hz0 LP ky]
  ·exact hK c' _ hge (by rw[pR,hz]) (fj hz0 LP ky)
theorem JE {t tx LO:Nat} {z:List Value} {sz mq:Nat} (hk:qU P t=some (z,sz,mq)) (hx:sF P tx=some (none,LO)) (hz:z.length=sz) (hz0:0 < z.length) (LP:z.all Value.oneCell'=true)
  {b o n c m:Nat} {cs olds news:List SV} {x:AV} (hb:s.box b=some ⟨true,cs⟩) (hl:cs.length=o+c*sz) (hnc:n≤c) (VR:olds.length=n*sz) (hold: ∀ j u,olds[j]? =some u→cs[o+j]? =some u) (hcs:cs.all SV.plain=true)
  (hsrc:JD s sz x m news (some b)) (h63:n+m≤9223372036854775807) (hby:(n+m)*mq≤140737488355328) {ty:TypeId} {ct:Array Bool} {dst:Option Nat} {K:AS→Prop}
  (hK: ∀ c' tail,n+m≤c'→tail.length=(c' - (n+m))*sz→tail.all SV.plain=true→K (({ s with box:=upd (upd s.box b none) nm (some ⟨true,olds++news++tail⟩) }:AS).put dst (some (Sl nm 0 (n+m) c')))):
  bU P nm .append #[t,tx] ty ct (some [Sl b o n c,x]) dst K s:=
 (pS hk hx hz hz0 LP hb hl hnc VR hold hcs hsrc h63 hby hK).plain
theorem Tk {nm:Nat} {B:aG} {g:Where} {x:Nat×Nat} (hB:B.rw=true:=by rfl): ∀ t c,upd s.box nm (some B) t=some c→c.rw=true∨ ∃ b0,s.box t=some b0∧upd g nm x t=g t:=fun t c hc=>by
 unfold upd at hc ⊢
 split at hc
 ·cases hc;exact .inl hB
 ·rename_i h1
  exact .inr ⟨c,hc,if_neg h1⟩
theorem kG {t tx LO:Nat} {z:List Value} {sz mq:Nat} (hk:qU P t=some (z,sz,mq)) (hx:sF P tx=some (none,LO)) (hz:z.length=sz) (hz0:0 < z.length) (LP:z.all Value.oneCell'=true)
  {m:Nat} {news:List SV} {x:AV} (hsrc:JD s sz x m news none) (h63:m≤9223372036854775807) (hby:m*mq≤140737488355328) {ty:TypeId} {ct:Array Bool} {dst:Option Nat} {K:AS→Prop}
  (h0:m=0→K (s.put dst (some (V (.slice none 0 0)))))
  (hK:0 < m→ ∀ c' tail,m≤c'→tail.length=(c' - m)*sz→tail.all SV.plain=true→K (({ s with box:=upd s.box nm (some ⟨true,news++tail⟩) }:AS).put dst (some (Sl nm 0 m c')))):
  kF P nm .append #[t,tx] ty ct [V (.slice none 0 0),x] dst K s:=by
 intro W N w0 g a w h
 obtain ⟨e,i,v,hu,hi,hv,SC,hsz,FB,ky⟩:=lV hk
 obtain ⟨zm,FC⟩:=hsrc.src h hx
 subst hsz
 have Jv:v.cells=z.toArray:=by rw[← SC]
 by_cases hm:m=0
 ·subst hm
  have hr:(Builtin.append_ #[t,tx] ty #[.slice none 0 0,AV.ah g x]).run P w= .ok (.slice none 0 0) w:=by
   rcases zm.kind with ⟨e',hk'⟩ | hk'<;>simp[Builtin.append_,run_underlying hu,run_underlying hk',sizeOf,typeInfo,hi,zm.len,zm.cells]
  refine ⟨V (.slice none 0 0),g,s.box,_, ?_,trivial,h.mono (fun n hn=>by omega),fun t b hb=> .inr ⟨b,hb,rfl⟩,h0 rfl⟩
  simp only[builtin,List.map_cons,List.map_nil,Sem.run_bind]
  show (((Builtin.append_ #[t,tx] ty #[.slice none 0 0,AV.ah g x]).run P w).andThen fun a w'=>(pure (Next.value a):Sem Next).run P w')=_
  rw[hr]
  rfl
 ·have hr:=run_append_grow_src (P:=P) w t tx ty e i v hu hi hv none 0 0 [] (run_firstCells_none w.drew i.size 0 0 0) (AV.ah g x) m (news.map (SV.ah g)) zm (by omega) (by omega) (growslice_fits (by omega) (by rw[FB,Nat.zero_add];exact hby))
  rw[Nat.zero_add]at hr
  have hge:=grownCap_ge w m 0 e
  generalize grownCap w m 0 e=c' at hr hge
  have hall: ∀ y ∈ news++fU z (c' - m),SV.ok (fun n=>n < nm) y:=fun y hy=>by
   simp only[List.mem_append]at hy
   rcases hy with hy | hy
   ·exact FC y hy
   ·exact ai (fj hz0 LP ky) y hy
  have hnb:=h.drew.uH (nm:=nm) (Nat.lt_irrefl nm) hall e
  refine ⟨Sl nm 0 m c',_,upd s.box nm (some ⟨true,news++fU z (c' - m)⟩),_, ?_,Nat.lt_succ_self nm,hnb.mono (fun n hn=>by rcases hn with h | h<;>omega),Tk, ?_⟩
  ·simp only[builtin,List.map_cons,List.map_nil,Sem.run_bind]
   show (((Builtin.append_ #[t,tx] ty #[.slice none 0 0,AV.ah g x]).run P w).andThen fun a w'=>(pure (Next.value a):Sem Next).run P w')=_
   rw[hr]
   simp only[Result.andThen_ok,Sem.run_pure,AV.ah,CV.ah,SV.ah,cu,aT,Nat.zero_add]
   congr 1
   show World.alloc _ _=World.alloc _ _
   congr 2
   apply Array.ext'
   simp[Jv,n6 _ hz0 LP ky]
  ·exact hK (by omega) c' _ hge (by rw[pR,hz]) (fj hz0 LP ky)
theorem pA {t tx LO:Nat} {z:List Value} {sz mq:Nat} (hk:qU P t=some (z,sz,mq)) (hx:sF P tx=some (none,LO)) (hz:z.length=sz) (hz0:0 < z.length) (LP:z.all Value.oneCell'=true)
  {m:Nat} {news:List SV} {x:AV} (hsrc:JD s sz x m news none) (h63:m≤9223372036854775807) (hby:m*mq≤140737488355328) {ty:TypeId} {ct:Array Bool} {dst:Option Nat} {K:AS→Prop}
  (h0:m=0→K (s.put dst (some (V (.slice none 0 0)))))
  (hK:0 < m→ ∀ c' tail,m≤c'→tail.length=(c' - m)*sz→tail.all SV.plain=true→K (({ s with box:=upd s.box nm (some ⟨true,news++tail⟩) }:AS).put dst (some (Sl nm 0 m c')))):
  bU P nm .append #[t,tx] ty ct (some [V (.slice none 0 0),x]) dst K s:=
 (kG hk hx hz hz0 LP hsrc h63 hby h0 hK).plain
theorem AE {t tx LO:Nat} {z:List Value} {mq:Nat} (hk:qU P t=some (z,1,mq)) (_hx:sF P tx=some (none,LO)) {b o n c b2 o2 m c2:Nat} {cs news:List SV} {bx:aG} (hb:s.box b=some ⟨true,cs⟩) (hb2:s.box b2=some bx)
  (Sz:news.length=Nat.min m n) (hnews: ∀ j u,news[j]? =some u→bx.cells[o2+j]? =some u) (hl:o+Nat.min m n≤cs.length) {ty:TypeId} {ct:Array Bool} {dst:Option Nat} {K:AS→Prop}
  (hK:K (({ s with box:=upd s.box b (some ⟨true,splice cs o news⟩) }:AS).put dst (some (I .i64 (Nat.min m n))))):
  bU P nm .copy #[t,tx] ty ct (some [Sl b o n c,Sl b2 o2 m c2]) dst K s:=by
 intro W N w0 g a w h
 obtain ⟨e,i,v,hu,hi,hv,SC,hsz,FB,ky⟩:=lV hk
 have FC: ∀ y ∈ news,SV.ok (fun n=>n < nm) y:=fun y hy=>by
  obtain ⟨j,hj⟩:=List.getElem?_of_mem hy
  exact (h.names.box b2 bx hb2).2 y (List.mem_of_getElem? (hnews j y hj))
 have hr:=run_copy_cells (P:=P) w t tx ty e (g b).1 ((g b).2+o) n c ⟨(g b2).1,(g b2).2+o2,none⟩ m c2 (news.map (SV.ah g)) hu (by simp[hi,hsz]) (by simpa using Sz)
  (fun j u hj=>by
   rw[List.getElem?_map]at hj
   cases hz:news[j]? with
   | none=>rw[hz]at hj;cases hj
   | some y=>
    rw[hz]at hj
    simp only[Option.map_some,Option.some.injEq]at hj;subst hj
    rw[add_eq,Nat.add_assoc]
    exact h.mem.cell b2 bx hb2 (o2+j) y (hnews j y hz))
  (fun j hj=>by
   have hj':j < news.length:=by simpa using hj
   have:=h.mem.cell b _ hb (o+j) _ (List.getElem?_eq_getElem (show o+j < cs.length by omega))
   rw[Nat.add_assoc,this];rfl)
  (fun j hj=>by
   have hj':j < news.length:=by simpa using hj
   rw[Nat.add_assoc]
   exact pK (h.mem.free b _ hb rfl _ (by simp only;omega)))
  (fun u hu=>by
   simp only[List.mem_map]at hu
   obtain ⟨y,hy,rfl⟩:=hu
   have:=(FC y hy).2
   exact K5 this)
 have hw:=h.write hb rfl (o:=o) (new:=news) (by simp only;omega) FC nm
 refine ⟨I .i64 (Nat.min m n),g,_,_, ?_,trivial,hw.mono (fun n hn=>by omega),hK⟩
 simp only[builtin,List.map_cons,List.map_nil,Sem.run_bind]
 show (((Builtin.copy_ #[t,tx] ty #[.slice (some ⟨(g b).1,(g b).2+o,none⟩) n c, .slice (some ⟨(g b2).1,(g b2).2+o2,none⟩) m c2]).run P w).andThen fun a w'=>(pure (Next.value a):Sem Next).run P w')=_
 rw[hr]
 simp[AV.ah,CV.ah,SV.ah,cu,goInt,Sz]
theorem CV.cJ {x:CV} (h:CV.plain x=true) (r:Nat→Nat):CV.ren r x=x:=by
 rcases x with (v | v) | l
 ·exact congrArg (fun z=>Sum.inl (Sum.inl z)) (B1 (by simpa[CV.plain] using h))
 ·simp[CV.plain]at h
 ·simp only[CV.ren];rw[az h]
theorem AV.cJ {x:AV} (h:AV.plain x=true) (r:Nat→Nat):AV.ren r x=x:=by
 rcases x with c | l
 ·simp only[AV.ren];rw[CV.cJ h]
 ·simp only[AV.ren]
  congr 1
  conv=>rhs;rw[← List.map_id l]
  exact List.map_congr_left fun x hx=>CV.cJ (List.all_eq_true.1 h x hx) r
theorem aL {k:Nat} {Post:AV→(Nat→Option aG)→Prop} {v:AV} (hv:AV.plain v=true) (h:Post v (fun _=>none)):nA k Post v s:=
 ⟨k,v,fun _=>none,Nat.le_refl k,(AV.cJ hv _).symm,AV.dq hv,fun n b hb=>(by cases hb),h⟩
theorem LQ {k q n:Nat} (h:n < k):iT k q n=n:=by unfold iT;rw[if_neg (by omega)]
theorem jO {k q:Nat}:iT k q k=q:=by unfold iT;rw[if_pos rfl]
theorem gX {k q o n c:Nat} {cs:List SV} {Post:AV→(Nat→Option aG)→Prop} (hq:k≤q) (hb:s.box q=some ⟨true,cs⟩) (hp:cs.all SV.plain=true)
  (h:Post (Sl k o n c) (lk [(k,⟨true,cs⟩)])):nA k Post (Sl q o n c) s:=by
 refine ⟨q,Sl k o n c,lk [(k,⟨true,cs⟩)],hq, ?_,Nat.lt_succ_self k,fun m b hm=> ?_,h⟩
 ·show Sl q o n c=Sl (iT k q k) o n c
  rw[jO]
 ·simp only[lk]at hm
  split at hm
  ·rename_i e
   simp only[Option.some.injEq]at hm;subst e hm
   exact ⟨Nat.lt_succ_self m,fun _=>rfl,ai hp,⟨true,cs⟩,by rw[jO];exact hb,fun _=>rfl,(az hp _).symm⟩
  ·cases hm
theorem ig {k:Nat} {v:AV} {cs:List SV} {Post:AV→(Nat→Option aG)→Prop} (hk:0 < k) (hv:AV.plain v=true) (hb:s.box 0=some ⟨true,cs⟩) (hp:cs.all SV.plain=true) (h:Post v (lk [(0,⟨true,cs⟩)])):nA k Post v s:=by
 refine ⟨k,v,lk [(0,⟨true,cs⟩)],Nat.le_refl k,(AV.cJ hv _).symm,AV.dq hv,fun n b hn=> ?_,h⟩
 obtain ⟨rfl,rfl⟩:=HM hn
 exact ⟨by omega,fun e=>by omega,ai hp,⟨true,cs⟩,by rw[LQ hk];exact hb,fun _=>rfl,(az hp _).symm⟩
theorem j0 {b:aG}: ∀ n,n < 1→ ∃ c,lk [(0,b)] n=some c:=fun n hn=>⟨b,by simp[lk];omega⟩
theorem xX {b c:aG}: ∀ n,n < 2→ ∃ d,lk [(0,b),(1,c)] n=some d:=fun n hn=>by
 by_cases h:n=0
 ·exact ⟨b,by simp[lk,h]⟩
 ·exact ⟨c,by simp only[lk];rw[if_neg h,if_pos (by omega)]⟩
theorem j5 {rw:Bool} {cs:List SV} (hp:cs.all SV.plain=true): ∀ n c,lk [(0,(⟨rw,cs⟩:aG))] n=some c→n < 1∧ ∀ x ∈ c.cells,SV.ok (fun n=>n < 1) x:=fun n c h=>by
 obtain ⟨rfl,rfl⟩:=HM h
 exact ⟨by omega,ai hp⟩
theorem xY {rw rw':Bool} {cs ds:List SV} (hp:cs.all SV.plain=true) (hq:ds.all SV.plain=true): ∀ n c,lk [(0,(⟨rw,cs⟩:aG)),(1,⟨rw',ds⟩)] n=some c→n < 2∧ ∀ x ∈ c.cells,SV.ok (fun n=>n < 2) x:=fun n c h=>by
 rcases Qm h with ⟨rfl,rfl⟩ | ⟨rfl,rfl⟩
 ·exact ⟨by omega,ai hp⟩
 ·exact ⟨by omega,ai hq⟩
theorem OE: ∀ n,n < 0→ ∃ c:aG,(fun _=>none:Nat→Option aG) n=some c:=fun n hn=>by omega
theorem OG: ∀ n (c:aG),(fun _=>none:Nat→Option aG) n=some c→n < 0∧ ∀ x ∈ c.cells,SV.ok (fun n=>n < 0) x:=fun n c h=>by cases h
theorem bC.iB {f k:Nat} {args l:List AV} {ins:Nat→Option aG} {v:AV} (h:bC P f args k ins (fun x out=>x=v∧out=fun _=>none)) (r:Nat→Nat) (hfit:Fits s r ins none) (hv:AV.plain v=true) (hl:l=args.map (AV.ren r))
  {dst:Option Nat} {K:AS→Prop} (hk:K (s.put dst (some v))):Go.bM.aB P nm f (some l) dst K s:=by
 refine h.aB r none hfit hl ?_
 rintro x out ⟨rfl,rfl⟩ _
 rw[AV.cJ hv]
 exact hk
theorem bC.iC {f k:Nat} {args l:List AV} {ins:Nat→Option aG} {v:AV} (h:bC P f args k ins (fun x out=>x=v∧out=fun _=>none)) (r:Nat→Nat) (hfit:Fits s r ins none) (hv:AV.plain v=true) (hl:l=args.map (AV.ren r))
  (hn: ∀ M:Nat→Prop,(∀ x ∈ l,AV.ok M x)→ ∀ n,n < k→M (r n)) {ops:Array Oper} {i:Nat} {dst:Option Nat} {K:AS→Prop} (hk:K (s.put dst (some v))):qW P ops i nm f (some l) dst K s:=by
 refine .inr (.inl ⟨(some v,none),h.reads r hfit hl hn ?_ ?_,hk⟩)
 ·rintro x out ⟨rfl,rfl⟩
  show (some (AV.ren _ x),none)=(some x,none)
  rw[AV.cJ hv]
 ·rintro e rfl
  exact .inl rfl
theorem bC.OH {f:Nat} {args l:List AV} {cs ds:List SV} {v:AV} (h:bC P f args 1 (lk [(0,⟨true,cs⟩)]) (fun x out=>x=v∧out=lk [(0,⟨true,ds⟩)])) {t:Nat} (hb:s.box t=some ⟨true,cs⟩) (hp:cs.all SV.plain=true) (hq:ds.all SV.plain=true)
  (hv:AV.plain v=true) (hl:l=args.map (AV.ren fun _=>t)) {dst:Option Nat} {K:AS→Prop} (hk:K (({ s with box:=upd s.box t (some ⟨true,ds⟩) }:AS).put dst (some v))):Go.bM.aB P nm f (some l) dst K s:=by
 refine h.aB (fun _=>t) (some 0) (LN hb hp) hl ?_
 rintro x out ⟨rfl,rfl⟩ _
 rw[AV.cJ hv]
 have:after s (fun _=>t) 1 nm (some 0) (lk [(0,⟨true,ds⟩)])=upd s.box t (some ⟨true,ds⟩):=by
  simp[after,lk,aG.ren,az hq]
 rw[this]
 exact hk
theorem oa (k:IntKind) (n m o:Nat) (f g:Nat→Int) (h:o+m≤n):splice (aA k n f) o (aA k m g)=aA k n (fun i=>if o≤i∧i < o+m then g (i - o) else f i):=by
 apply List.ext_getElem?
 intro j
 rw[gW _ _ _ (by simp[aH];omega),aH]
 by_cases hj:j < n
 ·rw[bI k n (fun i=>if o≤i∧i < o+m then g (i - o) else f i) j hj]
  by_cases h1:j < o
  ·rw[if_pos h1,bI k n f j hj,if_neg (by omega)]
  ·rw[if_neg h1]
   by_cases h2:j < o+m
   ·rw[if_pos h2,bI k m g (j - o) (by omega),if_pos (by omega)]
   ·rw[if_neg h2,bI k n f j hj,if_neg (by omega)]
 ·have e: ∀ F:Nat→Int,(aA k n F)[j]? =none:=fun F=>List.getElem?_eq_none (by rw[aH];omega)
  rw[if_neg (by omega),if_neg (by omega),e,e]
def Dk (m p q:Nat) (s:AS) (env:List (Nat×AV)) (box:List (Nat×aG)) (next:Nat):Prop:=
 m≤p∧m≤q∧(∀ x ∈ env,s.env x.1=some (AV.ren (upd (fun n=>n) p q) x.2)∧AV.ok (fun n=>n < next) x.2)∧
  (∀ x ∈ box,(x.1 < m∨x.1=p)∧s.box (upd (fun n=>n) p q x.1)=some x.2∧x.1 < next∧x.2.cells.all SV.plain=true)
theorem Dk.eW {m p q:Nat} {env:List (Nat×AV)} {box:List (Nat×aG)} {next:Nat} (h:Dk m p q s env box next):lh m s (nX env box next):=by
 obtain ⟨hp,hq,he,hb⟩:=h
 refine ⟨upd (fun n=>n) p q,⟨fun d v hv=>(he _ (bg _ _ _ hv)).1,fun n b hn=> ?_,fun n n' b b' hn _ hn' e=> ?_,fun d v hv=>(he _ (bg _ _ _ hv)).2,fun t b ht=> ?_⟩,fun n hn=>aW _ _ _ _ (by omega)⟩
 ·have:=hb _ (bg _ _ _ hn)
  exact ⟨b,this.2.1,fun h=>h,(az this.2.2.2 _).symm⟩
 ·have h1:=(hb _ (bg _ _ _ hn)).1
  have h2:=(hb _ (bg _ _ _ hn')).1
  simp only at h1 h2
  simp only[upd]at e
  split at e<;>split at e<;>omega
 ·have:=hb _ (bg _ _ _ ht)
  exact ⟨this.2.2.1,ai this.2.2.2⟩
end
end Go.bM
