/-
  The calculus: calls by contracts over boxes, and the builtins append and copy. Nothing here speaks of a program.
-/
import Derived.Test.YtoakenpcooglpaaGreatDoorVcgH
import Derived.Deep.AppendSrc
import Derived.Lib.AppendZerosOnto
set_option linter.unusedVariables false
set_option linter.unusedSimpArgs false
namespace Go.cA
set_option linter.unusedSectionVars false
section
variable {P:Program} [Tables P] {W:Nat→Prop} {N:Nat} {w0:gF P} {M:Nat→Prop} {g:bG} {s:AS} {a:Act} {w:World} {nm:Nat}
theorem SV.cw {x:SV} (h:SV.plain x=true) (r:Nat→Nat):SV.bh r x=x:=by
 rcases x with v | v
 ·rfl
 ·simp[SV.plain]at h
theorem bj {cs:List SV} (h:cs.all SV.plain=true) (r:Nat→Nat):cs.map (SV.bh r)=cs:=by
 conv=>rhs;rw[← List.map_id cs]
 exact List.map_congr_left fun x hx=>SV.cw (List.all_eq_true.1 h x hx) r
theorem aJ {cs:List SV} (h:cs.all SV.plain=true) {M:Nat→Prop}: ∀ x ∈ cs,SV.ok M x:=fun x hx=>SV.bH (List.all_eq_true.1 h x hx)
theorem bt.aB {f k:Nat} {args l:List AV} {ins:Nat→Option aW} {Post:AV→(Nat→Option aW)→Prop} (h:bt P f args k ins Post) (r:Nat→Nat) (wr:Option Nat) (hfit:Fits s r ins wr) (hl:l=args.map (AV.bh r))
  {dst:Option Nat} {K:AS→Prop} (hk: ∀ v out,Post v out→(∀ b,out k=some b→b.rw=true)→K (({ s with box:=after s r k nm wr out }:AS).put dst (some (AV.bh (fb r k nm) v)))):aB P nm f (some l) dst K s:=by
 intro W N w0 g a w dr
 rw[hl]
 refine (h.rep dr (nm:=nm) (Nat.lt_irrefl nm) hfit).mono ?_
 rintro e w' ⟨v,out,g',rfl,hpost,hrw,_,ly,hok⟩
 exact ⟨_,g',_,rfl,AV.bA (fun n hn=>by rcases hn with h | h<;>omega) hok,ly.mono (fun n hn=>by rcases hn with h | h<;>omega),hk v out hpost (fun b hb=>hrw k b hb rfl)⟩
def NK (r:Nat→Nat) (k nm:Nat) (v:AV) (out:Nat→Option aW):dE:=(some (AV.bh (fb r k nm) v),match out k with
 | none=>none
 | some b=>some (.inl (b.cells.map (SV.bh (fb r k nm)))))
theorem bt.Xj {f k:Nat} {args l:List AV} {ins:Nat→Option aW} {Post:AV→(Nat→Option aW)→Prop} (h:bt P f args k ins Post) (r:Nat→Nat) (hfit:Fits s r ins none) (hl:l=args.map (AV.bh r))
  (hnamed: ∀ M:Nat→Prop,(∀ v ∈ l,AV.ok M v)→(∀ n,n < k→M (r n)→ ∀ b,s.box (r n)=some b→ ∀ x ∈ b.cells,SV.ok M x)→ ∀ n,n < k→M (r n)) {D:dE→Prop} (hD: ∀ v out,Post v out→D (NK r k nm v out)) (hmem: ∀ e,D e→e.2=none∨ ∃ cs,e.2=some (.inl cs)):
  Reads P nm f (some l) s D:=by
 refine ⟨l,(List.range k).map fun n=>(r n,(s.box (r n)).getD ⟨false,[]⟩),rfl,fun p hp=> ?_,h.body,fun M hM sL p hp=> ?_,hmem, ?_⟩
 ·simp only[List.mem_map,List.mem_range]at hp
  obtain ⟨n,hn,rfl⟩:=hp
  obtain ⟨b,hb⟩:=h.all n hn
  obtain ⟨b',hb',_⟩:=hfit.box n b hb
  simp[hb']
 ·simp only[List.mem_map,List.mem_range]at hp
  obtain ⟨n,hn,rfl⟩:=hp
  refine hnamed M hM (fun m hm hMm b hb=> ?_) n hn
  have:=sL (r m,(s.box (r m)).getD ⟨false,[]⟩) (List.mem_map.2 ⟨m,List.mem_range.2 hm,rfl⟩) hMm
  rw[hb]at this
  exact this
 ·intro W N w0 M g s' a w dr hnm _ ah'
  have aia:Fits s' r ins none:=⟨fun n b hb=>by
   obtain ⟨b',h1,h2,h3⟩:=hfit.box n b hb
   have:=ah' (r n,(s.box (r n)).getD ⟨false,[]⟩) (List.mem_map.2 ⟨n,List.mem_range.2 (h.np n b hb),rfl⟩)
   rw[h1]at this
   exact ⟨b',this,h2,h3⟩,hfit.inj,hfit.only,hfit.Xh⟩
  unfold CX
  rw[hl]
  refine (h.rep dr hnm aia).mono ?_
  rintro e w' ⟨v,out,g',rfl,hpost,hrw,hsame,ly,hok⟩
  refine ⟨NK r k nm v out,_,g',hD v out hpost,rfl,rfl,hsame, ?_,hok⟩
  have:({ s' with box:=after s' r k nm none out }:AS)=s'.mem nm (NK r k nm v out).2:=by
   unfold after NK AS.mem
   cases ho:out k with
   | none=>simp[ho]
   | some b=>
    have hb:=hrw k b ho rfl
    simp only[aW.bh,hb]
  rw[← this]
  exact ly
theorem bt.reads {f k:Nat} {args l:List AV} {ins:Nat→Option aW} {Post:AV→(Nat→Option aW)→Prop} (h:bt P f args k ins Post) (r:Nat→Nat) (hfit:Fits s r ins none) (hl:l=args.map (AV.bh r))
  (hnamed: ∀ M:Nat→Prop,(∀ v ∈ l,AV.ok M v)→ ∀ n,n < k→M (r n)) {D:dE→Prop} (hD: ∀ v out,Post v out→D (NK r k nm v out)) (hmem: ∀ e,D e→e.2=none∨ ∃ cs,e.2=some (.inl cs)):
  Reads P nm f (some l) s D:=h.Xj r hfit hl (fun M hM _=>hnamed M hM) hD hmem
theorem gI {r:Nat→Nat}:Fits s r (fun _=>none) none:=⟨fun n b h=>(by cases h),fun n n' b b' h=>(by cases h),fun n b h=>(by cases h),fun n h=>(by cases h)⟩
theorem NL {b b':aW} {n:Nat} (h:lk [(0,b)] n=some b'):n=0∧b'=b:=by
 simp only[lk]at h
 split at h
 ·rename_i e;simp only[Option.some.injEq]at h;exact ⟨e,h.symm⟩
 ·cases h
theorem HC {b c b':aW} {n:Nat} (h:lk [(0,b),(1,c)] n=some b'):(n=0∧b'=b)∨(n=1∧b'=c):=by
 simp only[lk]at h
 split at h
 ·rename_i e;simp only[Option.some.injEq]at h;exact .inl ⟨e,h.symm⟩
 ·split at h
  ·rename_i e;simp only[Option.some.injEq]at h;exact .inr ⟨e,h.symm⟩
  ·cases h
theorem dp {t:Nat} {rw:Bool} {cs:List SV} (h:s.box t=some ⟨rw,cs⟩) (hp:cs.all SV.plain=true):Fits s (fun _=>t) (lk [(0,⟨false,cs⟩)]) none:=
 ⟨fun n b hb=>by
  obtain ⟨rfl,rfl⟩:=NL hb
  exact ⟨_,h,fun e=>(by cases e),(bj hp _).symm⟩,
  fun n n' b b' hb hrw=>(by obtain ⟨rfl,rfl⟩:=NL hb;cases hrw),fun n b hb hrw=>(by obtain ⟨rfl,rfl⟩:=NL hb;cases hrw),fun n hn=>(by cases hn)⟩
theorem Gr {t:Nat} {cs:List SV} (h:s.box t=some ⟨true,cs⟩) (hp:cs.all SV.plain=true):Fits s (fun _=>t) (lk [(0,⟨true,cs⟩)]) (some 0):=
 ⟨fun n b hb=>by
  obtain ⟨rfl,rfl⟩:=NL hb
  exact ⟨_,h,fun _=>rfl,(bj hp _).symm⟩,
  fun n n' b b' hb _ hb' _=>(by obtain ⟨rfl,rfl⟩:=NL hb;obtain ⟨rfl,rfl⟩:=NL hb';rfl),fun n b hb _=>(by obtain ⟨rfl,rfl⟩:=NL hb;rfl),
  fun n hn=>(by cases hn;exact ⟨_,rfl,rfl⟩)⟩
def two (t u:Nat):Nat→Nat:=fun n=>if n=0 then t else u
theorem jz {t u:Nat} {rw rw':Bool} {cs ds:List SV} (h:s.box t=some ⟨rw,cs⟩) (hp:cs.all SV.plain=true) (h':s.box u=some ⟨rw',ds⟩) (hp':ds.all SV.plain=true):Fits s (two t u) (lk [(0,⟨false,cs⟩),(1,⟨false,ds⟩)]) none:=
 ⟨fun n b hb=>by
  rcases HC hb with ⟨rfl,rfl⟩ | ⟨rfl,rfl⟩
  ·exact ⟨_,h,fun e=>(by cases e),(bj hp _).symm⟩
  ·exact ⟨_,h',fun e=>(by cases e),(bj hp' _).symm⟩,
  fun n n' b b' hb hrw=>(by rcases HC hb with ⟨rfl,rfl⟩ | ⟨rfl,rfl⟩<;>cases hrw),fun n b hb hrw=>(by rcases HC hb with ⟨rfl,rfl⟩ | ⟨rfl,rfl⟩<;>cases hrw),fun n hn=>(by cases hn)⟩
theorem cE.forget (h:cE W N w0 M g s a w) (b:Nat):cE W N w0 M g { s with box:=upd s.box b none } a w:=by
 have hb: ∀ t x,upd s.box b none t=some x→s.box t=some x:=fun t x ht=>by
  simp only[upd]at ht
  split at ht
  ·cases ht
  ·exact ht
 exact ⟨h.size,h.defers,h.env,⟨h.names.env,fun t x ht=>h.names.box t x (hb t x ht)⟩,⟨fun t x ht=>h.mem.lt t x (hb t x ht),fun t x ht=>h.mem.cell t x (hb t x ht),fun t x ht=>h.mem.free t x (hb t x ht),
  fun t t' x x' ht hrw ht'=>h.mem.sep t t' x x' (hb t x ht) hrw (hb t' x' ht')⟩,fun t x ht=>h.own t x (hb t x ht),h.frame,h.kJ,h.tabs⟩
theorem cE.move (h:cE W N w0 M g s a w) (hnm: ¬ M nm) {b o:Nat} {cs:List SV} (hb:s.box b=some ⟨true,cs⟩):
  cE W N w0 (fun n=>M n∨n=nm) (upd g nm ((g b).1,(g b).2+o)) { s with box:=upd (upd s.box b none) nm (some ⟨true,cs.drop o⟩) } a w:=by
 have hg: ∀ n,M n→g n=upd g nm ((g b).1,(g b).2+o) n:=fun n hn=>(bg _ _ _ _ (fun e=>hnm (by rw[← e];exact hn))).symm
 have hM: ∀ n,M n→M n∨n=nm:=fun n hn=>Or.inl hn
 have key: ∀ t x,upd (upd s.box b none) nm (some ⟨true,cs.drop o⟩) t=some x→(t=nm∧x=⟨true,cs.drop o⟩)∨(t≠nm∧t≠b∧s.box t=some x):=fun t x ht=>by
  simp only[upd]at ht
  split at ht
  ·rename_i e;simp only[Option.some.injEq]at ht;exact .inl ⟨e,ht.symm⟩
  ·rename_i e
   split at ht
   ·cases ht
   ·rename_i e2;exact .inr ⟨e,e2,ht⟩
 have sM:=(h.names.box b _ hb)
 refine ⟨h.size,h.defers,fun d v hv=> ?_,⟨fun d v hv=> ?_,fun t x ht=> ?_⟩,⟨fun t x ht=> ?_,fun t x ht i v hv=> ?_,fun t x ht hrw i hi=> ?_,fun t t' x x' ht hrw ht' hne=> ?_⟩,fun t x ht hrw=> ?_,h.frame,fun n hn=>⟨.inl (h.kJ n hn).1,(hg n (h.kJ n hn).1).symm.trans (h.kJ n hn).2⟩,h.tabs⟩
 ·rw[h.env d v hv,AV.bX (AV.bA hg (h.names.env d v hv))]
 ·exact AV.bA hM (h.names.env d v hv)
 ·rcases key t x ht with ⟨rfl,rfl⟩ | ⟨_,_,ht⟩
  ·exact ⟨.inr rfl,fun y hy=>SV.bA hM (sM.2 y (List.mem_of_mem_drop hy))⟩
  ·exact ⟨.inl (h.names.box t x ht).1,fun y hy=>SV.bA hM ((h.names.box t x ht).2 y hy)⟩
 ·rcases key t x ht with ⟨rfl,rfl⟩ | ⟨e,_,ht⟩
  ·rw[ax];exact h.mem.lt b _ hb
  ·rw[bg _ _ _ _ e];exact h.mem.lt t x ht
 ·rcases key t x ht with ⟨rfl,rfl⟩ | ⟨e,_,ht⟩
  ·rw[ax]
   simp only[List.getElem?_drop]at hv
   have:=h.mem.cell b _ hb (o+i) v hv
   simp only[Nat.add_assoc]
   rw[this,SV.bX (SV.eY hg (sM.2 v (List.mem_of_getElem? hv)).1)]
  ·rw[bg _ _ _ _ e,h.mem.cell t x ht i v hv,SV.bX (SV.eY hg ((h.names.box t x ht).2 v (List.mem_of_getElem? hv)).1)]
 ·rcases key t x ht with ⟨rfl,rfl⟩ | ⟨e,_,ht⟩
  ·rw[ax]
   simp only[Nat.add_assoc]
   exact h.mem.free b _ hb rfl (o+i) (by simp at hi ⊢;omega)
  ·rw[bg _ _ _ _ e];exact h.mem.free t x ht hrw i hi
 ·rcases key t x ht with ⟨rfl,rfl⟩ | ⟨e,eb,ht⟩<;>rcases key t' x' ht' with ⟨rfl,rfl⟩ | ⟨e',eb',ht'⟩
  ·exact absurd rfl hne
  ·rw[ax,bg _ _ _ _ e'];exact h.mem.sep b t' _ x' hb rfl ht' (fun e=>eb' e.symm)
  ·rename_i ht0
   rw[ax,bg _ _ _ _ e];exact h.mem.sep t b x _ (by assumption) hrw hb eb
  ·rw[bg _ _ _ _ e,bg _ _ _ _ e'];exact h.mem.sep t t' x x' ht hrw ht' hne
 ·rcases key t x ht with ⟨rfl,rfl⟩ | ⟨e,_,ht⟩
  ·rw[ax];exact h.own b _ hb rfl
  ·rw[bg _ _ _ _ e];exact h.own t x ht hrw
def abr (s:AS) (sz:Nat) (x:AV) (m:Nat) (news:List SV) (b:Option Nat):Prop:=
 (∃ t o c bx,x=Sl t o m c∧s.box t=some bx∧news.length=m*sz∧(∀ j u,news[j]? =some u→bx.cells[o+j]? =some u)∧b≠some t)∨((∃ ad,x=V (.slice ad 0 0))∧m=0∧news=[])
theorem abr.src (h:cE W N w0 M g s a w) {sz szx:Nat} {tx:TypeId} (hk:ln P tx=some (none,szx)) {x:AV} {m:Nat} {news:List SV} {b:Option Nat} (hs:abr s sz x m news b):
  Src P sz tx (AV.av g x) m (news.map (SV.av g)) w∧ ∀ y ∈ news,SV.ok M y:=by
 obtain ⟨e,i,_,_,⟨_,hu⟩ | ⟨n,hn,_⟩⟩:=nh hk
 ·rcases hs with ⟨t,o,c,bx,rfl,hb,hl,hc,_⟩ | ⟨⟨ad,rfl⟩,rfl,rfl⟩
  ·have hok: ∀ y ∈ news,SV.ok M y:=fun y hy=>by
    obtain ⟨j,hj⟩:=List.getElem?_of_mem hy
    exact (h.names.box t bx hb).2 y (List.mem_of_getElem? (hc j y hj))
   refine ⟨Src.ofSlice w hu ⟨(g t).1,(g t).2+o,none⟩ m c _ (by simp[hl]) (fun j u hj=> ?_) (fun u hu=> ?_),hok⟩
   ·rw[List.getElem?_map]at hj
    cases hz:news[j]? with
    | none=>rw[hz]at hj;cases hj
    | some z=>
     rw[hz]at hj
     simp only[Option.map_some,Option.some.injEq]at hj;subst hj
     rw[add_eq,Nat.add_assoc]
     exact h.mem.cell t bx hb (o+j) z (hc j z hz)
   ·simp only[List.mem_map]at hu
    obtain ⟨z,hz,rfl⟩:=hu
    have:=(hok z hz).2
    rcases z with v | v | v
    ·exact this
    ·rfl
    ·rfl
  ·refine ⟨?_,fun y hy=>by cases hy⟩
   cases ad with
   | none=>exact Src.ofNil w hu 0
   | some ad=>exact Src.ofSlice w hu ad 0 0 [] (by simp) (fun j u h=>by simp at h) (fun u h=>by cases h)
 ·cases hn
def cS (z:List Value) (n:Nat):List SV:=(Builtin.zeroCells z.toArray n).toList.map Sum.inl
theorem kp {z:List Value} {n:Nat}:(cS z n).length=n*z.length:=by simp[cS,Builtin.zeroCells]
theorem dJ {z:List Value} {n:Nat} (hz:0 < z.length) (hall:z.all Value.oneCell'=true):(cS z n).all SV.plain=true:=by
 rw[List.all_eq_true]
 intro x hx
 simp only[cS,Builtin.zeroCells,List.mem_map,Array.mem_toList_iff,Array.mem_map,Array.mem_range]at hx
 obtain ⟨v,⟨i,_,rfl⟩,rfl⟩:=hx
 have hlt:i%z.toArray.size < z.toArray.size:=Nat.mod_lt _ (by simpa using hz)
 show Value.oneCell' _=true
 rw[getElem!_pos z.toArray _ hlt]
 exact List.all_eq_true.1 hall _ (by simp)
theorem g9 {z:List Value} {n:Nat} (g:bG):(cS z n).map (SV.av g)=(Builtin.zeroCells z.toArray n).toList:=by
 simp[cS,SV.av,Function.comp_def]
theorem hH {t tx szx:Nat} {z:List Value} {sz lM:Nat} (hk:ru P t=some (z,sz,lM)) (hx:ln P tx=some (none,szx)) (hz:z.length=sz) (hz0:0 < z.length) (hzz:z.all Value.oneCell'=true)
  {b o n c m:Nat} {cs olds news:List SV} {x:AV} (hb:s.box b=some ⟨true,cs⟩) (hl:cs.length=o+c*sz) (hnc:n≤c) (hol:olds.length=n*sz) (hold: ∀ j u,olds[j]? =some u→cs[o+j]? =some u) (hcs:cs.all SV.plain=true)
  (hsrc:abr s sz x m news (some b)) (h63:n+m≤9223372036854775807) (hby:(n+m)*lM≤140737488355328) {ty:TypeId} {ct:Array Bool} {dst:Option Nat} {K:AS→Prop}
  (hK: ∀ c' tail,n+m≤c'→tail.length=(c' - (n+m))*sz→tail.all SV.plain=true→K (({ s with box:=upd (upd s.box b none) nm (some ⟨true,olds++news++tail⟩) }:AS).put dst (some (Sl nm 0 (n+m) c')))):
  cC P nm .append #[t,tx] ty ct (some [Sl b o n c,x]) dst K s:=by
 intro W N w0 g a w h
 obtain ⟨e,i,v,hu,hi,hv,hvz,hsz,xP⟩:=kl hk
 obtain ⟨Wx,Cu⟩:=hsrc.src h hx
 subst hsz
 have hnl:news.length=m*i.size:=by simpa using Wx.newsLen
 have HB:v.cells=z.toArray:=by rw[← hvz]
 by_cases hroom:n+m≤c
 ·have hle:(n+m)*i.size≤c*i.size:=Nat.mul_le_mul_right _ hroom
  rw[Nat.add_mul]at hle
  have hr:=run_append_room_src (P:=P) w t tx ty e i hu hi (g b).1 ((g b).2+o) n c (AV.av g x) m (news.map (SV.av g)) Wx hroom
   (fun j hj=>by
    have hj':j < news.length:=by simpa using hj
    have hlt:o+n*i.size+j < cs.length:=by omega
    have:=h.mem.cell b _ hb (o+n*i.size+j) _ (List.getElem?_eq_getElem hlt)
    rw[show (g b).2+o+n*i.size+j=(g b).2+(o+n*i.size+j) by omega,this];rfl)
   (fun j hj=>by
    have hj':j < news.length:=by simpa using hj
    rw[show (g b).2+o+n*i.size+j=(g b).2+(o+n*i.size+j) by omega]
    exact lO (h.mem.free b _ hb rfl _ (by simp only;omega)))
  have hw:=h.write hb rfl (o:=o+n*i.size) (new:=news) (by simp only;omega) Cu nm
  have hmv:=hw.move (nm:=nm) (b:=b) (o:=o) (cs:=splice cs (o+n*i.size) news) (Nat.lt_irrefl nm) (by simp[AS.mem,upd])
  have hsp:(splice cs (o+n*i.size) news).drop o=olds++news++cs.drop (o+(n+m)*i.size):=by
   apply List.ext_getElem?
   intro j
   rw[List.getElem?_drop,fN _ _ _ (by omega)]
   by_cases h1:j < n*i.size
   ·rw[if_pos (by omega),List.append_assoc,List.getElem?_append_left (by omega)]
    have:=List.getElem?_eq_getElem (l:=olds) (i:=j) (by omega)
    rw[this]
    exact hold j _ this
   ·rw[if_neg (by omega)]
    by_cases h2:j < n*i.size+news.length
    ·rw[if_pos (by omega),List.append_assoc,List.getElem?_append_right (by omega),List.getElem?_append_left (by omega)]
     congr 1;omega
    ·rw[if_neg (by omega),List.getElem?_append_right (by simp;omega),List.getElem?_drop]
     congr 1;simp[Nat.add_mul];omega
  have lT: ∀ B:aW,upd (upd (upd s.box b (some ⟨true,splice cs (o+n*i.size) news⟩)) b none) nm (some B)=upd (upd s.box b none) nm (some B):=fun B=>by
   funext y;simp only[upd];split<;>try rfl
   split<;>rfl
  refine ⟨Sl nm 0 (n+m) c,_,_,_, ?_,Nat.lt_succ_self nm,hmv.mono (fun n hn=>by rcases hn with h | h<;>omega), ?_⟩
  ·simp only[builtin,List.map_cons,List.map_nil,Sem.run_bind]
   show (((Builtin.append_ #[t,tx] ty #[.slice (some ⟨(g b).1,(g b).2+o,none⟩) n c,AV.av g x]).run P w).andThen fun a w'=>(pure (Next.value a):Sem Next).run P w')=_
   rw[hr]
   simp[AV.av,CV.av,SV.av,ax,Nat.add_assoc]
  ·have:=hK c (cs.drop (o+(n+m)*i.size)) hroom (by rw[List.length_drop,hl,Nat.sub_mul];omega) (by
    rw[List.all_eq_true]at hcs ⊢
    exact fun y hy=>hcs y (List.mem_of_mem_drop hy))
   rw[← hsp]at this
   have he:({ (s.mem nm (some (.inr (b,⟨true,splice cs (o+n*i.size) news⟩)))) with box:=upd (upd (s.mem nm (some (.inr (b,⟨true,splice cs (o+n*i.size) news⟩)))).box b none) nm (some ⟨true,(splice cs (o+n*i.size) news).drop o⟩) }:AS)=
     { s with box:=upd (upd s.box b none) nm (some ⟨true,(splice cs (o+n*i.size) news).drop o⟩) }:=by
    simp only[AS.mem,lT]
   simp only at he ⊢
   rw[he];exact this
 ·have Xk:(Builtin.firstCells i.size n (.slice (some ⟨(g b).1,(g b).2+o,none⟩) n c)).run P w.drew= .ok (olds.map (SV.av g)).toArray w.drew:=by
   refine run_firstCells_some w.drew i.size n _ n c _ (by simp[hol]) (fun j u hj=> ?_)
   rw[List.getElem?_map]at hj
   cases hz:olds[j]? with
   | none=>rw[hz]at hj;cases hj
   | some y=>
    rw[hz]at hj
    simp only[Option.map_some,Option.some.injEq]at hj;subst hj
    rw[add_eq,Nat.add_assoc]
    have:=h.mem.cell b _ hb (o+j) y (hold j y hz)
    simpa using this
  have hr:=run_append_grow_src (P:=P) w t tx ty e i v hu hi hv (some ⟨(g b).1,(g b).2+o,none⟩) n c _ Xk (AV.av g x) m (news.map (SV.av g)) Wx (by omega) (by omega) (growslice_fits (by omega) (by rw[xP];exact hby))
  have hge:=grownCap_ge w (n+m) c e
  generalize grownCap w (n+m) c e=c' at hr hge
  have hall: ∀ y ∈ olds++news++cS z (c' - (n+m)),SV.ok (fun n=>n < nm) y:=fun y hy=>by
   simp only[List.mem_append]at hy
   rcases hy with (hy | hy) | hy
   ·obtain ⟨j,hj⟩:=List.getElem?_of_mem hy
    exact (h.names.box b _ hb).2 y (List.mem_of_getElem? (hold j y hj))
   ·exact Cu y hy
   ·exact aJ (dJ hz0 hzz) y hy
  have hnb:=((h.drew.sQ (nm:=nm) (Nat.lt_irrefl nm) hall e).forget b)
  have afT:b≠nm:=fun e=>Nat.lt_irrefl nm (e▸(h.names.box b _ hb).1)
  have lT:upd (upd s.box nm (some ⟨true,olds++news++cS z (c' - (n+m))⟩)) b none=upd (upd s.box b none) nm (some ⟨true,olds++news++cS z (c' - (n+m))⟩):=lp _ _ _ _ _ (fun e=>afT e.symm)
  refine ⟨Sl nm 0 (n+m) c',_,_,_, ?_,Nat.lt_succ_self nm,hnb.mono (fun n hn=>by rcases hn with h | h<;>omega), ?_⟩
  ·simp only[builtin,List.map_cons,List.map_nil,Sem.run_bind]
   show (((Builtin.append_ #[t,tx] ty #[.slice (some ⟨(g b).1,(g b).2+o,none⟩) n c,AV.av g x]).run P w).andThen fun a w'=>(pure (Next.value a):Sem Next).run P w')=_
   rw[hr]
   simp only[Result.andThen_ok,Sem.run_pure,AV.av,CV.av,SV.av,ax,Nat.zero_add]
   congr 1
   show World.alloc _ _=World.alloc _ _
   congr 2
   apply Array.ext'
   simp[HB,g9]
  ·simp only[AS.mem,lT]
   exact hK c' _ hge (by rw[kp,hz]) (dJ hz0 hzz)
theorem gJ {t tx szx:Nat} {z:List Value} {sz lM:Nat} (hk:ru P t=some (z,sz,lM)) (hx:ln P tx=some (none,szx)) (hz:z.length=sz) (hz0:0 < z.length) (hzz:z.all Value.oneCell'=true)
  {m:Nat} {news:List SV} {x:AV} (hsrc:abr s sz x m news none) (h63:m≤9223372036854775807) (hby:m*lM≤140737488355328) {ty:TypeId} {ct:Array Bool} {dst:Option Nat} {K:AS→Prop}
  (h0:m=0→K (s.put dst (some (V (.slice none 0 0)))))
  (hK:0 < m→ ∀ c' tail,m≤c'→tail.length=(c' - m)*sz→tail.all SV.plain=true→K (({ s with box:=upd s.box nm (some ⟨true,news++tail⟩) }:AS).put dst (some (Sl nm 0 m c')))):
  cC P nm .append #[t,tx] ty ct (some [V (.slice none 0 0),x]) dst K s:=by
 intro W N w0 g a w h
 obtain ⟨e,i,v,hu,hi,hv,hvz,hsz,xP⟩:=kl hk
 obtain ⟨Wx,Cu⟩:=hsrc.src h hx
 subst hsz
 have HB:v.cells=z.toArray:=by rw[← hvz]
 by_cases hm:m=0
 ·subst hm
  have hr:(Builtin.append_ #[t,tx] ty #[.slice none 0 0,AV.av g x]).run P w= .ok (.slice none 0 0) w:=by
   rcases Wx.kind with ⟨e',hk'⟩ | hk'<;>simp[Builtin.append_,run_underlying hu,run_underlying hk',sizeOf,typeInfo,hi,Wx.len,Wx.cells]
  refine ⟨V (.slice none 0 0),g,_,_, ?_,trivial,h.mono (fun n hn=>by omega),h0 rfl⟩
  simp only[builtin,List.map_cons,List.map_nil,Sem.run_bind]
  show (((Builtin.append_ #[t,tx] ty #[.slice none 0 0,AV.av g x]).run P w).andThen fun a w'=>(pure (Next.value a):Sem Next).run P w')=_
  rw[hr]
  rfl
 ·have hr:=run_append_grow_src (P:=P) w t tx ty e i v hu hi hv none 0 0 [] (run_firstCells_none w.drew i.size 0 0 0) (AV.av g x) m (news.map (SV.av g)) Wx (by omega) (by omega) (growslice_fits (by omega) (by rw[xP,Nat.zero_add];exact hby))
  rw[Nat.zero_add]at hr
  have hge:=grownCap_ge w m 0 e
  generalize grownCap w m 0 e=c' at hr hge
  have hall: ∀ y ∈ news++cS z (c' - m),SV.ok (fun n=>n < nm) y:=fun y hy=>by
   simp only[List.mem_append]at hy
   rcases hy with hy | hy
   ·exact Cu y hy
   ·exact aJ (dJ hz0 hzz) y hy
  have hnb:=h.drew.sQ (nm:=nm) (Nat.lt_irrefl nm) hall e
  refine ⟨Sl nm 0 m c',_,_,_, ?_,Nat.lt_succ_self nm,hnb.mono (fun n hn=>by rcases hn with h | h<;>omega), ?_⟩
  ·simp only[builtin,List.map_cons,List.map_nil,Sem.run_bind]
   show (((Builtin.append_ #[t,tx] ty #[.slice none 0 0,AV.av g x]).run P w).andThen fun a w'=>(pure (Next.value a):Sem Next).run P w')=_
   rw[hr]
   simp only[Result.andThen_ok,Sem.run_pure,AV.av,CV.av,SV.av,ax,Nat.zero_add]
   congr 1
   show World.alloc _ _=World.alloc _ _
   congr 2
   apply Array.ext'
   simp[HB,g9]
  ·exact hK (by omega) c' _ hge (by rw[kp,hz]) (dJ hz0 hzz)
theorem mQ (t tn ty e:TypeId) (i:TypeInfo) (z:Value) (kq kn:IntKind) (ht:P.underlying t=some (.slice e)) (htn:P.underlying tn=some (.int kn)) (hi:P.info? e=some i) (hz:i.zero=some z)
  (b off sLen sCap k:Nat) (h0:0 < k) (hs:0 < i.size) (hroom:sLen+k≤sCap) (h63:k≤281474976710656) (h48:k*i.bytes≤281474976710656)
  (hc: ∀ j,j < (Builtin.zeroCells z.cells k).size→(w.cell? ⟨b,off+sLen*i.size+j,none⟩).isSome=true) (hf: ∀ j,j < (Builtin.zeroCells z.cells k).size→w.frozen? ⟨b,off+sLen*i.size+j,none⟩=false)
  (h1: ∀ v ∈ (Builtin.zeroCells z.cells k).toList,v.oneCell'=true):
  (Builtin.append_ #[t,tn] ty #[.slice (some ⟨b,off,none⟩) sLen sCap, .int kq k]).run P w= .ok (.slice (some ⟨b,off,none⟩) (sLen+k) sCap) (w.setCells b (off+sLen*i.size) (Builtin.zeroCells z.cells k).toList):=by
 have hk:k≠0:=by omega
 have hw:IntKind.i64.wrap (k:Int)=k:=by rw[IntKind.wrap_i64];omega
 have alf: ¬ (281474976710656 < (k:Int)*(i.bytes:Int)):=by
  rw[← Int.natCast_mul]
  omega
 have hneg: ¬ ((k:Int) < 0):=by omega
 have hns: ¬ (k*i.size=0):=Nat.mul_ne_zero hk (by omega)
 have hst:=run_storeCells_cells (P:=P) b (off+sLen*i.size) (Builtin.zeroCells z.cells k).toList 0 w (by simpa using hc) (by simpa using hf) h1
 simp only[Nat.add_zero]at hst
 simp[Builtin.append_,run_underlying ht,run_underlying htn,sizeOf,typeInfo,zeroValue,hi,hz,asInt,asIntOf,hw,hneg,hns,alf,hroom,Addr.add_lit,hst]
theorem mI {t tx:Nat} {kn:IntKind} {z:List Value} {sz lM:Nat} (hk:ru P t=some (z,sz,lM)) (hx:kindOf P tx=some kn) (hz:z.length=sz) (hz0:0 < z.length) (hzz:z.all Value.oneCell'=true)
  {b o n c m:Nat} {kq:IntKind} {cs olds:List SV} (hb:s.box b=some ⟨true,cs⟩) (hl:cs.length=o+c*sz) (hol:olds.length=n*sz) (hold: ∀ j u,olds[j]? =some u→cs[o+j]? =some u) (hcs:cs.all SV.plain=true)
  (hm0:0 < m) (hm1:m≤281474976710656) (hm2:m*lM≤281474976710656) (h63:n+m≤9223372036854775807) (hby:(n+m)*lM≤140737488355328) {ty:TypeId} {ct:Array Bool} {dst:Option Nat} {K:AS→Prop}
  (hK: ∀ c' tail,n+m≤c'→tail.length=(c' - (n+m))*sz→tail.all SV.plain=true→K (({ s with box:=upd (upd s.box b none) nm (some ⟨true,olds++cS z m++tail⟩) }:AS).put dst (some (Sl nm 0 (n+m) c')))):
  cC P nm .append #[t,tx] ty ct (some [Sl b o n c,I kq m]) dst K s:=by
 intro W N w0 g a w h
 obtain ⟨e,i,v,hu,hi,hv,hvz,hsz,xP⟩:=kl hk
 have hux:P.underlying tx=some (.int kn):=by
  unfold kindOf at hx
  split at hx
  ·rename_i k hk';simp only[Option.some.injEq]at hx;rw[hk',hx]
  ·cases hx
 subst hsz
 have HB:v.cells=z.toArray:=by rw[← hvz]
 have hnl:(cS z m).length=m*i.size:=by rw[kp,hz]
 have Cu: ∀ y ∈ cS z m,SV.ok (fun n=>n < nm) y:=aJ (dJ hz0 hzz)
 by_cases hroom:n+m≤c
 ·have hle:(n+m)*i.size≤c*i.size:=Nat.mul_le_mul_right _ hroom
  rw[Nat.add_mul]at hle
  have hzl:(Builtin.zeroCells v.cells m).size=m*i.size:=by
   rw[HB, ← hz];simp[Builtin.zeroCells]
  have hr:=mQ (P:=P) (w:=w) t tx ty e i v kq kn hu hux hi hv (g b).1 ((g b).2+o) n c m hm0 (by omega) hroom hm1 (by rw[xP];exact hm2)
   (fun j hj=>by
    have hlt:o+n*i.size+j < cs.length:=by omega
    have:=h.mem.cell b _ hb (o+n*i.size+j) _ (List.getElem?_eq_getElem hlt)
    rw[show (g b).2+o+n*i.size+j=(g b).2+(o+n*i.size+j) by omega,this];rfl)
   (fun j hj=>by
    rw[show (g b).2+o+n*i.size+j=(g b).2+(o+n*i.size+j) by omega]
    exact lO (h.mem.free b _ hb rfl _ (by simp only;omega)))
   (fun u hu=>by
    rw[HB, ← g9 (z:=z) (n:=m) g]at hu
    simp only[List.mem_map]at hu
    obtain ⟨y,hy,rfl⟩:=hu
    have:=List.all_eq_true.1 (dJ hz0 hzz) y hy
    rcases y with y | y
    ·exact this
    ·cases this)
  rw[HB, ← g9 (z:=z) (n:=m) g]at hr
  have hw:=h.write hb rfl (o:=o+n*i.size) (new:=cS z m) (by simp only;omega) Cu nm
  have hmv:=hw.move (nm:=nm) (b:=b) (o:=o) (cs:=splice cs (o+n*i.size) (cS z m)) (Nat.lt_irrefl nm) (by simp[AS.mem,upd])
  have hsp:(splice cs (o+n*i.size) (cS z m)).drop o=olds++cS z m++cs.drop (o+(n+m)*i.size):=by
   apply List.ext_getElem?
   intro j
   rw[List.getElem?_drop,fN _ _ _ (by omega)]
   by_cases h1:j < n*i.size
   ·rw[if_pos (by omega),List.append_assoc,List.getElem?_append_left (by omega)]
    have:=List.getElem?_eq_getElem (l:=olds) (i:=j) (by omega)
    rw[this]
    exact hold j _ this
   ·rw[if_neg (by omega)]
    by_cases h2:j < n*i.size+(cS z m).length
    ·rw[if_pos (by omega),List.append_assoc,List.getElem?_append_right (by omega),List.getElem?_append_left (by omega)]
     congr 1;omega
    ·rw[if_neg (by omega),List.getElem?_append_right (by simp;omega),List.getElem?_drop]
     congr 1;simp only[List.length_append,hol,hnl,Nat.add_mul];omega
  have lT: ∀ B:aW,upd (upd (upd s.box b (some ⟨true,splice cs (o+n*i.size) (cS z m)⟩)) b none) nm (some B)=upd (upd s.box b none) nm (some B):=fun B=>by
   funext y;simp only[upd];split<;>try rfl
   split<;>rfl
  refine ⟨Sl nm 0 (n+m) c,_,_,_, ?_,Nat.lt_succ_self nm,hmv.mono (fun n hn=>by rcases hn with h | h<;>omega), ?_⟩
  ·simp only[builtin,List.map_cons,List.map_nil,Sem.run_bind]
   show (((Builtin.append_ #[t,tx] ty #[.slice (some ⟨(g b).1,(g b).2+o,none⟩) n c, .int kq m]).run P w).andThen fun a w'=>(pure (Next.value a):Sem Next).run P w')=_
   rw[hr]
   simp[AV.av,CV.av,SV.av,ax,Nat.add_assoc]
  ·have:=hK c (cs.drop (o+(n+m)*i.size)) hroom (by rw[List.length_drop,hl,Nat.sub_mul];omega) (by
    rw[List.all_eq_true]at hcs ⊢
    exact fun y hy=>hcs y (List.mem_of_mem_drop hy))
   rw[← hsp]at this
   have he:({ (s.mem nm (some (.inr (b,⟨true,splice cs (o+n*i.size) (cS z m)⟩)))) with box:=upd (upd (s.mem nm (some (.inr (b,⟨true,splice cs (o+n*i.size) (cS z m)⟩)))).box b none) nm (some ⟨true,(splice cs (o+n*i.size) (cS z m)).drop o⟩) }:AS)=
     { s with box:=upd (upd s.box b none) nm (some ⟨true,(splice cs (o+n*i.size) (cS z m)).drop o⟩) }:=by
    simp only[AS.mem,lT]
   simp only at he ⊢
   rw[he];exact this
 ·have Xk:(Builtin.firstCells i.size n (.slice (some ⟨(g b).1,(g b).2+o,none⟩) n c)).run P w.drew= .ok (olds.map (SV.av g)).toArray w.drew:=by
   refine run_firstCells_some w.drew i.size n _ n c _ (by simp[hol]) (fun j u hj=> ?_)
   rw[List.getElem?_map]at hj
   cases hz:olds[j]? with
   | none=>rw[hz]at hj;cases hj
   | some y=>
    rw[hz]at hj
    simp only[Option.map_some,Option.some.injEq]at hj;subst hj
    rw[add_eq,Nat.add_assoc]
    have:=h.mem.cell b _ hb (o+j) y (hold j y hz)
    simpa using this
  have hr:=Lib.run_append_grow_zeros (P:=P) w t tx ty e i v kq kn hu hux hi hv (some ⟨(g b).1,(g b).2+o,none⟩) n c _ Xk m hm0 (by omega) (by omega) (by omega) (by rw[xP];exact hm2) (growslice_fits (by omega) (by rw[xP];exact hby))
  have hge:=grownCap_ge w (n+m) c e
  generalize grownCap w (n+m) c e=c' at hr hge
  have hall: ∀ y ∈ olds++cS z m++cS z (c' - (n+m)),SV.ok (fun n=>n < nm) y:=fun y hy=>by
   simp only[List.mem_append]at hy
   rcases hy with (hy | hy) | hy
   ·obtain ⟨j,hj⟩:=List.getElem?_of_mem hy
    exact (h.names.box b _ hb).2 y (List.mem_of_getElem? (hold j y hj))
   ·exact Cu y hy
   ·exact aJ (dJ hz0 hzz) y hy
  have hnb:=((h.drew.sQ (nm:=nm) (Nat.lt_irrefl nm) hall e).forget b)
  have afT:b≠nm:=fun e=>Nat.lt_irrefl nm (e▸(h.names.box b _ hb).1)
  have lT:upd (upd s.box nm (some ⟨true,olds++cS z m++cS z (c' - (n+m))⟩)) b none=upd (upd s.box b none) nm (some ⟨true,olds++cS z m++cS z (c' - (n+m))⟩):=lp _ _ _ _ _ (fun e=>afT e.symm)
  refine ⟨Sl nm 0 (n+m) c',_,_,_, ?_,Nat.lt_succ_self nm,hnb.mono (fun n hn=>by rcases hn with h | h<;>omega), ?_⟩
  ·simp only[builtin,List.map_cons,List.map_nil,Sem.run_bind]
   show (((Builtin.append_ #[t,tx] ty #[.slice (some ⟨(g b).1,(g b).2+o,none⟩) n c, .int kq m]).run P w).andThen fun a w'=>(pure (Next.value a):Sem Next).run P w')=_
   rw[hr]
   simp only[Result.andThen_ok,Sem.run_pure,AV.av,CV.av,SV.av,ax,Nat.zero_add]
   congr 1
   show World.alloc _ _=World.alloc _ _
   congr 2
   apply Array.ext'
   simp[HB,g9,List.append_assoc]
  ·simp only[AS.mem,lT]
   exact hK c' _ hge (by rw[kp,hz]) (dJ hz0 hzz)
theorem rH {t tx szx:Nat} {z:List Value} {lM:Nat} (hk:ru P t=some (z,1,lM)) (_hx:ln P tx=some (none,szx)) {b o n c b2 o2 m c2:Nat} {cs news:List SV} {bx:aW} (hb:s.box b=some ⟨true,cs⟩) (sW:s.box b2=some bx)
  (hnl:news.length=Nat.min m n) (hnews: ∀ j u,news[j]? =some u→bx.cells[o2+j]? =some u) (hl:o+Nat.min m n≤cs.length) {ty:TypeId} {ct:Array Bool} {dst:Option Nat} {K:AS→Prop}
  (hK:K (({ s with box:=upd s.box b (some ⟨true,splice cs o news⟩) }:AS).put dst (some (I .i64 (Nat.min m n))))):
  cC P nm .copy #[t,tx] ty ct (some [Sl b o n c,Sl b2 o2 m c2]) dst K s:=by
 intro W N w0 g a w h
 obtain ⟨e,i,v,hu,hi,hv,hvz,hsz,xP⟩:=kl hk
 have Cu: ∀ y ∈ news,SV.ok (fun n=>n < nm) y:=fun y hy=>by
  obtain ⟨j,hj⟩:=List.getElem?_of_mem hy
  exact (h.names.box b2 bx sW).2 y (List.mem_of_getElem? (hnews j y hj))
 have hr:=run_copy_cells (P:=P) w t tx ty e (g b).1 ((g b).2+o) n c ⟨(g b2).1,(g b2).2+o2,none⟩ m c2 (news.map (SV.av g)) hu (by simp[hi,hsz]) (by simpa using hnl)
  (fun j u hj=>by
   rw[List.getElem?_map]at hj
   cases hz:news[j]? with
   | none=>rw[hz]at hj;cases hj
   | some y=>
    rw[hz]at hj
    simp only[Option.map_some,Option.some.injEq]at hj;subst hj
    rw[add_eq,Nat.add_assoc]
    exact h.mem.cell b2 bx sW (o2+j) y (hnews j y hz))
  (fun j hj=>by
   have hj':j < news.length:=by simpa using hj
   have:=h.mem.cell b _ hb (o+j) _ (List.getElem?_eq_getElem (show o+j < cs.length by omega))
   rw[Nat.add_assoc,this];rfl)
  (fun j hj=>by
   have hj':j < news.length:=by simpa using hj
   rw[Nat.add_assoc]
   exact lO (h.mem.free b _ hb rfl _ (by simp only;omega)))
  (fun u hu=>by
   simp only[List.mem_map]at hu
   obtain ⟨y,hy,rfl⟩:=hu
   have:=(Cu y hy).2
   rcases y with y | y | y
   ·exact this
   ·rfl
   ·rfl)
 have hw:=h.write hb rfl (o:=o) (new:=news) (by simp only;omega) Cu nm
 refine ⟨I .i64 (Nat.min m n),g,_,_, ?_,trivial,hw.mono (fun n hn=>by omega),hK⟩
 simp only[builtin,List.map_cons,List.map_nil,Sem.run_bind]
 show (((Builtin.copy_ #[t,tx] ty #[.slice (some ⟨(g b).1,(g b).2+o,none⟩) n c, .slice (some ⟨(g b2).1,(g b2).2+o2,none⟩) m c2]).run P w).andThen fun a w'=>(pure (Next.value a):Sem Next).run P w')=_
 rw[hr]
 simp[AV.av,CV.av,SV.av,goInt,hnl]
theorem CV.cw {x:CV} (h:CV.plain x=true) (r:Nat→Nat):CV.bh r x=x:=by
 rcases x with (v | v) | l
 ·rfl
 ·simp[CV.plain]at h
 ·simp only[CV.bh];rw[bj h]
theorem AV.cw {x:AV} (h:AV.plain x=true) (r:Nat→Nat):AV.bh r x=x:=by
 rcases x with c | l
 ·simp only[AV.bh];rw[CV.cw h]
 ·simp only[AV.bh]
  congr 1
  conv=>rhs;rw[← List.map_id l]
  exact List.map_congr_left fun x hx=>CV.cw (List.all_eq_true.1 h x hx) r
theorem aC {k:Nat} {Post:AV→(Nat→Option aW)→Prop} {v:AV} (hv:AV.plain v=true) (h:Post v (fun _=>none)):Ct k Post v s:=
 ⟨k,v,fun _=>none,Nat.le_refl k,(AV.cw hv _).symm,AV.bH hv,fun n b hb=>(by cases hb),h⟩
theorem NM {k q n:Nat} (h:n < k):mH k q n=n:=by unfold mH;rw[if_neg (by omega)]
theorem kM {k q:Nat}:mH k q k=q:=by unfold mH;rw[if_pos rfl]
theorem dS {k q o n c:Nat} {cs:List SV} {Post:AV→(Nat→Option aW)→Prop} (hq:k≤q) (hb:s.box q=some ⟨true,cs⟩) (hp:cs.all SV.plain=true)
  (h:Post (Sl k o n c) (lk [(k,⟨true,cs⟩)])):Ct k Post (Sl q o n c) s:=by
 refine ⟨q,Sl k o n c,lk [(k,⟨true,cs⟩)],hq, ?_,Nat.lt_succ_self k,fun m b hm=> ?_,h⟩
 ·show Sl q o n c=Sl (mH k q k) o n c
  rw[kM]
 ·simp only[lk]at hm
  split at hm
  ·rename_i e
   simp only[Option.some.injEq]at hm;subst e hm
   exact ⟨Nat.lt_succ_self m,fun _=>rfl,aJ hp,⟨true,cs⟩,by rw[kM];exact hb,fun _=>rfl,(bj hp _).symm⟩
  ·cases hm
theorem afU {k t o n c:Nat} {Post:AV→(Nat→Option aW)→Prop} (ht:t < k) (h:Post (Sl t o n c) (fun _=>none)):Ct k Post (Sl t o n c) s:=
 ⟨k,Sl t o n c,fun _=>none,Nat.le_refl k,by show Sl t o n c=Sl (mH k k t) o n c;rw[NM ht],Nat.lt_succ_of_lt ht,fun n b hb=>(by cases hb),h⟩
theorem sX {k:Nat} {v:AV} {cs:List SV} {Post:AV→(Nat→Option aW)→Prop} (hk:0 < k) (hv:AV.plain v=true) (hb:s.box 0=some ⟨true,cs⟩) (hp:cs.all SV.plain=true) (h:Post v (lk [(0,⟨true,cs⟩)])):Ct k Post v s:=by
 refine ⟨k,v,lk [(0,⟨true,cs⟩)],Nat.le_refl k,(AV.cw hv _).symm,AV.bH hv,fun n b hn=> ?_,h⟩
 obtain ⟨rfl,rfl⟩:=NL hn
 exact ⟨by omega,fun e=>by omega,aJ hp,⟨true,cs⟩,by rw[NM hk];exact hb,fun _=>rfl,(bj hp _).symm⟩
theorem eG {b:aW}: ∀ n,n < 1→ ∃ c,lk [(0,b)] n=some c:=fun n hn=>⟨b,by simp[lk];omega⟩
theorem nq {b c:aW}: ∀ n,n < 2→ ∃ d,lk [(0,b),(1,c)] n=some d:=fun n hn=>by
 by_cases h:n=0
 ·exact ⟨b,by simp[lk,h]⟩
 ·exact ⟨c,by simp only[lk];rw[if_neg h,if_pos (by omega)]⟩
theorem eH {rw:Bool} {cs:List SV} (hp:cs.all SV.plain=true): ∀ n c,lk [(0,(⟨rw,cs⟩:aW))] n=some c→n < 1∧ ∀ x ∈ c.cells,SV.ok (fun n=>n < 1) x:=fun n c h=>by
 obtain ⟨rfl,rfl⟩:=NL h
 exact ⟨by omega,aJ hp⟩
theorem rI {rw rw':Bool} {cs ds:List SV} (hp:cs.all SV.plain=true) (hq:ds.all SV.plain=true): ∀ n c,lk [(0,(⟨rw,cs⟩:aW)),(1,⟨rw',ds⟩)] n=some c→n < 2∧ ∀ x ∈ c.cells,SV.ok (fun n=>n < 2) x:=fun n c h=>by
 rcases HC h with ⟨rfl,rfl⟩ | ⟨rfl,rfl⟩
 ·exact ⟨by omega,aJ hp⟩
 ·exact ⟨by omega,aJ hq⟩
theorem xQ: ∀ n,n < 0→ ∃ c:aW,(fun _=>none:Nat→Option aW) n=some c:=fun n hn=>by omega
theorem xR: ∀ n (c:aW),(fun _=>none:Nat→Option aW) n=some c→n < 0∧ ∀ x ∈ c.cells,SV.ok (fun n=>n < 0) x:=fun n c h=>by cases h
theorem xS {c:Code} {F:Exit→AS→Prop} (n:Nat) (Inv:Nat→Prop) (env:Nat→List (Nat×AV)) (box:Nat→List (Nat×aW)) (next:Nat)
  (h0:Inv 0∧ga s (env 0) (box 0) next)
  (hstep: ∀ k,k < n→Inv k→vc P c (fi (fun s'=>Inv (k+1)∧ga s' (env (k+1)) (box (k+1)) next) F) (ou (env k) (box k) next))
  (hend:Inv n→vc P c (fi (fun _=>False) F) (ou (env n) (box n) next)) (hn:s.next≤next:=by first | exact Nat.le_refl _ | decide | simp):jJ (vc P c) F s:=by
 have hmono: ∀ (K K':AS→Prop) t,(∀ s,K s→K' s)→vc P c (fi K F) t→vc P c (fi K' F) t:=fun K K' t h hv=>fU c _ _ (fun e s hs=>by
  cases e with
  | normal=>exact h s hs
  | _=>exact hs) t hv
 refine ⟨{ k:Nat // k≤n∧Inv k },fun k=>ou (env k.1) (box k.1) next,fun k=>n - k.1,⟨0,Nat.zero_le _,h0.1⟩,⟨_,h0.2.dv,fun _ _=>rfl⟩,fun _=>hn,fun k=> ?_⟩
 rcases Nat.lt_or_ge k.1 n with h | h
 ·exact hmono _ _ _ (fun s hs=>⟨⟨k.1+1,h,hs.1⟩,by show n - (k.1+1) < n - k.1;omega,_,hs.2.dv,fun _ _=>rfl⟩) (hstep k.1 h k.2.2)
 ·have e:k.1=n:=Nat.le_antisymm k.2.1 h
  exact hmono _ _ _ (fun s hs=>hs.elim) (e▸hend (e▸k.2.2))
theorem bt.dV {f k:Nat} {args l:List AV} {ins:Nat→Option aW} {v:AV} (h:bt P f args k ins (fun x out=>x=v∧out=fun _=>none)) (r:Nat→Nat) (hfit:Fits s r ins none) (hv:AV.plain v=true) (hl:l=args.map (AV.bh r))
  {dst:Option Nat} {K:AS→Prop} (hk:K (s.put dst (some v))):Go.cA.aB P nm f (some l) dst K s:=by
 refine h.aB r none hfit hl ?_
 rintro x out ⟨rfl,rfl⟩ _
 rw[AV.cw hv]
 exact hk
theorem bt.en {f k:Nat} {args l:List AV} {ins:Nat→Option aW} {v:AV} (h:bt P f args k ins (fun x out=>x=v∧out=fun _=>none)) (r:Nat→Nat) (hfit:Fits s r ins none) (hv:AV.plain v=true) (hl:l=args.map (AV.bh r))
  (hn: ∀ M:Nat→Prop,(∀ x ∈ l,AV.ok M x)→ ∀ n,n < k→M (r n)) {ops:Array Oper} {i:Nat} {dst:Option Nat} {K:AS→Prop} (hk:K (s.put dst (some v))):mG P ops i nm f (some l) dst K s:=by
 refine .inr (.inl ⟨(some v,none),h.reads r hfit hl hn ?_ ?_,hk⟩)
 ·rintro x out ⟨rfl,rfl⟩
  show (some (AV.bh _ x),none)=(some x,none)
  rw[AV.cw hv]
 ·rintro e rfl
  exact .inl rfl
theorem bt.Vt {f k:Nat} {args l:List AV} {ins:Nat→Option aW} {v:AV} (h:bt P f args k ins (fun x out=>x=v∧out=fun _=>none)) (r:Nat→Nat) (hfit:Fits s r ins none) (hv:AV.plain v=true) (hl:l=args.map (AV.bh r))
  (hn: ∀ M:Nat→Prop,(∀ x ∈ l,AV.ok M x)→(∀ n,n < k→M (r n)→ ∀ b,s.box (r n)=some b→ ∀ x ∈ b.cells,SV.ok M x)→ ∀ n,n < k→M (r n)) {ops:Array Oper} {i:Nat} {dst:Option Nat} {K:AS→Prop} (hk:K (s.put dst (some v))):mG P ops i nm f (some l) dst K s:=by
 refine .inr (.inl ⟨(some v,none),h.Xj r hfit hl hn ?_ ?_,hk⟩)
 ·rintro x out ⟨rfl,rfl⟩
  show (some (AV.bh _ x),none)=(some x,none)
  rw[AV.cw hv]
 ·rintro e rfl
  exact .inl rfl
theorem bt.abt {f:Nat} {args l:List AV} {cs ds:List SV} {v:AV} (h:bt P f args 1 (lk [(0,⟨true,cs⟩)]) (fun x out=>x=v∧out=lk [(0,⟨true,ds⟩)])) {t:Nat} (hb:s.box t=some ⟨true,cs⟩) (hp:cs.all SV.plain=true) (hq:ds.all SV.plain=true)
  (hv:AV.plain v=true) (hl:l=args.map (AV.bh fun _=>t)) {dst:Option Nat} {K:AS→Prop} (hk:K (({ s with box:=upd s.box t (some ⟨true,ds⟩) }:AS).put dst (some v))):Go.cA.aB P nm f (some l) dst K s:=by
 refine h.aB (fun _=>t) (some 0) (Gr hb hp) hl ?_
 rintro x out ⟨rfl,rfl⟩ _
 rw[AV.cw hv]
 have:after s (fun _=>t) 1 nm (some 0) (lk [(0,⟨true,ds⟩)])=upd s.box t (some ⟨true,ds⟩):=by
  simp[after,lk,aW.bh,bj hq]
 rw[this]
 exact hk
theorem kr (k:IntKind) (n m o:Nat) (f g:Nat→Int) (h:o+m≤n):splice (ae k n f) o (ae k m g)=ae k n (fun i=>if o≤i∧i < o+m then g (i - o) else f i):=by
 apply List.ext_getElem?
 intro j
 rw[fN _ _ _ (by simp[ah];omega),ah]
 by_cases hj:j < n
 ·rw[ay k n (fun i=>if o≤i∧i < o+m then g (i - o) else f i) j hj]
  by_cases h1:j < o
  ·rw[if_pos h1,ay k n f j hj,if_neg (by omega)]
  ·rw[if_neg h1]
   by_cases h2:j < o+m
   ·rw[if_pos h2,ay k m g (j - o) (by omega),if_pos (by omega)]
   ·rw[if_neg h2,ay k n f j hj,if_neg (by omega)]
 ·have e: ∀ F:Nat→Int,(ae k n F)[j]? =none:=fun F=>List.getElem?_eq_none (by rw[ah];omega)
  rw[if_neg (by omega),if_neg (by omega),e,e]
def rJ (m p q:Nat) (s:AS) (env:List (Nat×AV)) (box:List (Nat×aW)) (next:Nat):Prop:=
 m≤p∧m≤q∧(∀ x ∈ env,s.env x.1=some (AV.bh (upd (fun n=>n) p q) x.2)∧AV.ok (fun n=>n < next) x.2)∧
  (∀ x ∈ box,(x.1 < m∨x.1=p)∧s.box (upd (fun n=>n) p q x.1)=some x.2∧x.1 < next∧x.2.cells.all SV.plain=true)
theorem rJ.dv {m p q:Nat} {env:List (Nat×AV)} {box:List (Nat×aW)} {next:Nat} (h:rJ m p q s env box next):wv m s (ou env box next):=by
 obtain ⟨hp,hq,he,hb⟩:=h
 refine ⟨upd (fun n=>n) p q,⟨fun d v hv=>(he _ (bq _ _ _ hv)).1,fun n b hn=> ?_,fun n n' b b' hn _ hn' e=> ?_,fun d v hv=>(he _ (bq _ _ _ hv)).2,fun t b ht=> ?_⟩,fun n hn=>bg _ _ _ _ (by omega)⟩
 ·have:=hb _ (bq _ _ _ hn)
  exact ⟨b,this.2.1,fun h=>h,(bj this.2.2.2 _).symm⟩
 ·have h1:=(hb _ (bq _ _ _ hn)).1
  have h2:=(hb _ (bq _ _ _ hn')).1
  simp only at h1 h2
  simp only[upd]at e
  split at e<;>split at e<;>omega
 ·have:=hb _ (bq _ _ _ ht)
  exact ⟨this.2.2.1,aJ this.2.2.2⟩
theorem Vu {c:Code} {F:Exit→AS→Prop} {β:Type} (n:Nat) (Inv:Nat→β→Prop) (env:Nat→β→List (Nat×AV)) (box:Nat→β→List (Nat×aW)) (next:Nat) (x0:β)
  (h0:Inv 0 x0∧ ∃ p q,rJ s.next p q s (env 0 x0) (box 0 x0) next)
  (hstep: ∀ k x,k < n→Inv k x→vc P c (fi (fun s'=> ∃ y,Inv (k+1) y∧ ∃ p q,rJ s.next p q s' (env (k+1) y) (box (k+1) y) next) F) (ou (env k x) (box k x) next))
  (hend: ∀ x,Inv n x→vc P c (fi (fun _=>False) F) (ou (env n x) (box n x) next)) (hn:s.next≤next):jJ (vc P c) F s:=by
 have hmono: ∀ (K K':AS→Prop) t,(∀ s,K s→K' s)→vc P c (fi K F) t→vc P c (fi K' F) t:=fun K K' t h hv=>fU c _ _ (fun e s hs=>by
  cases e with
  | normal=>exact h s hs
  | _=>exact hs) t hv
 obtain ⟨wH,p0,q0,hb0⟩:=h0
 refine ⟨{ y:Nat×β // y.1≤n∧Inv y.1 y.2 },fun y=>ou (env y.1.1 y.1.2) (box y.1.1 y.1.2) next,fun y=>n - y.1.1,⟨(0,x0),Nat.zero_le _,wH⟩,hb0.dv,fun _=>hn,fun y=> ?_⟩
 obtain ⟨⟨k,x⟩,h1,h2⟩:=y
 rcases Nat.lt_or_ge k n with h | h
 ·refine hmono _ _ _ (fun s' hs=> ?_) (hstep k x h h2)
  obtain ⟨z,hz,p,q,hb⟩:=hs
  exact ⟨⟨(k+1,z),h,hz⟩,by show n - (k+1) < n - k;omega,hb.dv⟩
 ·have e:k=n:=Nat.le_antisymm h1 h
  subst e
  exact hmono (fun _=>False) _ _ (fun s' hs=>False.elim hs) (hend x h2)
end
end Go.cA
namespace Go.cA
theorem wrap_u64 (x:Int):IntKind.u64.wrap x=x%18446744073709551616:=by
 simp[IntKind.wrap,IntKind.bits,IntKind.signed]
theorem wrap_u32 (x:Int):IntKind.u32.wrap x=x%4294967296:=by
 simp[IntKind.wrap,IntKind.bits,IntKind.signed]
theorem wrap_u8 (x:Int):IntKind.u8.wrap x=x%256:=by
 simp[IntKind.wrap,IntKind.bits,IntKind.signed]
theorem wrap_i64 (x:Int) (h1: -9223372036854775808≤x) (h2:x < 9223372036854775808):IntKind.i64.wrap x=x:=by
 simp only[IntKind.wrap,IntKind.bits,IntKind.signed,Bool.true_and]
 split
 ·rename_i h;simp at h;omega
 ·rename_i h;simp at h;omega
theorem au (x:Int) (h1:0≤x) (h2:x < 18446744073709551616):IntKind.u64.wrap x=x:=by rw[wrap_u64];omega
theorem kN (x:Int) (h1:0≤x) (h2:x < 4294967296):IntKind.u32.wrap x=x:=by rw[wrap_u32];omega
theorem ja (x:Int) (h1:0≤x) (h2:x < 256):IntKind.u8.wrap x=x:=by rw[wrap_u8];omega
theorem dK (k:IntKind) (x:Int) (n:Nat) (h:n≤k.bits):cr k x n=x / 2^n:=by
 simp only[cr,Int.toNat_natCast,Nat.min_eq_left h]
 rw[Int.fdiv_eq_ediv_of_nonneg _ (Int.le_of_lt (Int.pow_pos (by decide)))]
theorem lY (k:IntKind) (x:Int) (n:Nat) (h:n≤k.bits):gT k x n=k.wrap (x*2^n):=by
 simp only[gT,Int.toNat_natCast,Nat.min_eq_left h]
theorem mJ (x:Int):cr .u64 x 51=x / 2251799813685248:=dK .u64 x 51 (by decide)
theorem aib (x:Int):gT .u64 x 13=x*8192%18446744073709551616:=(lY .u64 x 13 (by decide)).trans (wrap_u64 _)
theorem IY (x:Int):cr .u64 x 32=x / 4294967296:=dK .u64 x 32 (by decide)
theorem rK (k:IntKind) (x y:Nat) (hx:x < 2^k.bits) (hy:y < 2^k.bits):
  aS .and k x y=k.wrap ((x &&& y:Nat):Int)∧aS .or k x y=k.wrap ((x ||| y:Nat):Int)∧aS .xor k x y=k.wrap ((x ^^^ y:Nat):Int):=by
 refine ⟨?_, ?_, ?_⟩<;>simp only[aS,BitVec.ofInt_natCast,BitVec.toNat_and,BitVec.toNat_or,BitVec.toNat_xor,BitVec.toNat_ofNat]<;>
  rw[Nat.mod_eq_of_lt hx,Nat.mod_eq_of_lt hy]
theorem fP (x y:Nat) (hx:x < 18446744073709551616) (hy:y < 18446744073709551616):
  aS .and .u64 x y=((x &&& y:Nat):Int)∧aS .or .u64 x y=((x ||| y:Nat):Int)∧aS .xor .u64 x y=((x ^^^ y:Nat):Int):=by
 have h1:x &&& y < 2^64:=Nat.and_lt_two_pow x hy
 have h2:x ||| y < 2^64:=Nat.or_lt_two_pow hx hy
 have h3:x ^^^ y < 2^64:=Nat.xor_lt_two_pow hx hy
 obtain ⟨e1,e2,e3⟩:=rK .u64 x y hx hy
 refine ⟨e1.trans ?_,e2.trans ?_,e3.trans ?_⟩<;>rw[wrap_u64]<;>omega
theorem abu (x y:Nat) (hx:x < 256) (hy:y < 256):
  aS .and .u8 x y=((x &&& y:Nat):Int)∧aS .or .u8 x y=((x ||| y:Nat):Int)∧aS .xor .u8 x y=((x ^^^ y:Nat):Int):=by
 have h1:x &&& y < 2^8:=Nat.and_lt_two_pow x hy
 have h2:x ||| y < 2^8:=Nat.or_lt_two_pow hx hy
 have h3:x ^^^ y < 2^8:=Nat.xor_lt_two_pow hx hy
 obtain ⟨e1,e2,e3⟩:=rK .u8 x y hx hy
 refine ⟨e1.trans ?_,e2.trans ?_,e3.trans ?_⟩<;>rw[wrap_u8]<;>omega
theorem rL (x:Int) (n:Nat) (h0:0≤x) (h1:x < 18446744073709551616) (hn:n < 64):aS .and .u64 x (2^n - 1)=x%2^n:=by
 obtain ⟨m,rfl⟩:=Int.eq_ofNat_of_zero_le h0
 have hp:0 < 2^n:=Nat.two_pow_pos n
 have hlt:2^n - 1 < 18446744073709551616:=by
  have:2^n < 2^64:=Nat.pow_lt_pow_right (by decide) hn
  omega
 have e:(2:Int)^n - 1=((2^n - 1:Nat):Int):=by
  have:(2:Int)^n=((2^n:Nat):Int):=by simp
  omega
 rw[e,(fP m (2^n - 1) (by omega) hlt).1,Nat.and_two_pow_sub_one_eq_mod]
 simp
theorem hX (x:Int) (h0:0≤x) (h1:x < 18446744073709551616):aS .and .u64 x 2251799813685247=x%2251799813685248:=
 rL x 51 h0 h1 (by decide)
theorem Xl (x:Int) (h0:0≤x) (h1:x < 18446744073709551616):aS .and .u64 x 4294967295=x%4294967296:=
 rL x 32 h0 h1 (by decide)
theorem Xm (x y:Int) (n:Nat) (hn:n < 64) (h0:0≤x) (h1:x*2^n < 18446744073709551616) (h2:0≤y) (h3:y < 2^n):aS .or .u64 (x*2^n) y=x*2^n+y:=by
 obtain ⟨a,rfl⟩:=Int.eq_ofNat_of_zero_le h0
 obtain ⟨b,rfl⟩:=Int.eq_ofNat_of_zero_le h2
 have e:(2:Int)^n=((2^n:Nat):Int):=by simp
 rw[e]at h1 h3 ⊢
 have hb:b < 2^n:=by omega
 have e2:((a:Int)*((2^n:Nat):Int))=((a*2^n:Nat):Int):=by simp
 rw[e2]at h1 ⊢
 have hp:2^n < 2^64:=Nat.pow_lt_pow_right (by decide) hn
 by_cases ha:a=0
 ·subst ha
  simp only[Nat.zero_mul]at h1 ⊢
  rw[(fP 0 b (by decide) (by omega)).2.1];simp
 ·have:2^n≤a*2^n:=Nat.le_mul_of_pos_left _ (Nat.pos_of_ne_zero ha)
  rw[(fP (a*2^n) b (by omega) (by omega)).2.1]
  have:a*2^n ||| b=a*2^n+b:=by
   rw[← Nat.shiftLeft_eq,Nat.shiftLeft_add_eq_or_of_lt hb]
  rw[this];simp
theorem pP {a b m n:Int} (ha:0≤a) (ha':a≤m) (hb:0≤b) (hb':b≤n):0≤a*b∧a*b≤m*n:=
 ⟨Int.mul_nonneg ha hb,Int.mul_le_mul ha' hb' hb (Int.le_trans ha ha')⟩
theorem NN (x y:Int) (hx:0≤x) (hx':x < 18446744073709551616) (hy:0≤y) (hy':y < 18446744073709551616):
  IntKind.u64.wrap (IntKind.u64.wrap (IntKind.u64.wrap (cr .u64 x 32*cr .u64 y 32)+
    cr .u64 (IntKind.u64.wrap (IntKind.u64.wrap (cr .u64 x 32*aS .and .u64 y 4294967295)+
     cr .u64 (IntKind.u64.wrap (aS .and .u64 x 4294967295*aS .and .u64 y 4294967295)) 32)) 32)+
   cr .u64 (IntKind.u64.wrap (aS .and .u64 (IntKind.u64.wrap (IntKind.u64.wrap (cr .u64 x 32*aS .and .u64 y 4294967295)+
     cr .u64 (IntKind.u64.wrap (aS .and .u64 x 4294967295*aS .and .u64 y 4294967295)) 32)) 4294967295+
    IntKind.u64.wrap (aS .and .u64 x 4294967295*cr .u64 y 32))) 32)=x*y / 18446744073709551616:=by
 rw[IY x,IY y,Xl x hx hx',Xl y hy hy']
 have ex:x=(x / 4294967296)*4294967296+x%4294967296:=by omega
 have ey:y=(y / 4294967296)*4294967296+y%4294967296:=by omega
 generalize hx1:x / 4294967296=x1 at*
 generalize hx0:x%4294967296=x0 at*
 generalize hy1:y / 4294967296=y1 at*
 generalize hy0:y%4294967296=y0 at*
 have b1:0≤x1∧x1≤4294967295:=by omega
 have b2:0≤x0∧x0≤4294967295:=by omega
 have b3:0≤y1∧y1≤4294967295:=by omega
 have b4:0≤y0∧y0≤4294967295:=by omega
 have p11:=pP b1.1 b1.2 b3.1 b3.2
 have p10:=pP b1.1 b1.2 b4.1 b4.2
 have p01:=pP b2.1 b2.2 b3.1 b3.2
 have p00:=pP b2.1 b2.2 b4.1 b4.2
 have exy:x*y=(x1*y1)*18446744073709551616+(x1*y0+x0*y1)*4294967296+x0*y0:=by
  rw[ex,ey];simp only[Int.add_mul,Int.mul_add]
  have e1:x1*4294967296*(y1*4294967296)=(x1*y1)*18446744073709551616:=by
   rw[Int.mul_assoc,Int.mul_left_comm 4294967296 y1, ← Int.mul_assoc];rfl
  have e2:x1*4294967296*y0=(x1*y0)*4294967296:=by rw[Int.mul_assoc,Int.mul_comm 4294967296 y0, ← Int.mul_assoc]
  have e3:x0*(y1*4294967296)=(x0*y1)*4294967296:=by rw[← Int.mul_assoc]
  rw[e1,e2,e3];omega
 rw[exy]
 generalize x1*y1=a at*
 generalize x1*y0=b at*
 generalize x0*y1=c at*
 generalize x0*y0=d at*
 rw[au a (by omega) (by omega),au b (by omega) (by omega),au c (by omega) (by omega),au d (by omega) (by omega),IY d]
 rw[au (b+d / 4294967296) (by omega) (by omega),IY (b+d / 4294967296),Xl (b+d / 4294967296) (by omega) (by omega)]
 rw[au ((b+d / 4294967296)%4294967296+c) (by omega) (by omega),IY]
 rw[au (a+(b+d / 4294967296) / 4294967296) (by omega) (by omega)]
 rw[au _ (by omega) (by omega)]
 omega
end Go.cA
namespace Go.cA
set_option linter.unusedSectionVars false
def bY (f:Nat→Int):Prop:= ∀ i,0≤f i∧f i < 256
theorem aw {k:IntKind} {n:Nat} {f:Nat→Int}:(ae k n f).all SV.plain=true:=km k n f
theorem Gs (n:Nat):(0≤(n:Int))=True:=by simp
theorem bl (t:Nat):(0≤(t:Int))=True:=by simp
theorem cf {n m:Nat} (h:n < m):((n:Int) < (m:Int))=True:=by simp[h]
theorem dO {a b:Nat} (h:a < b):((a:Int) < (b:Int))=True:=eq_true (by omega)
theorem Vv {a b:Nat} (h:a≤b):((a:Int)≤(b:Int))=True:=eq_true (by omega)
theorem Cv (t d:Nat) (h:t < 9223372036854775808):IntKind.i64.wrap ((t:Int).tdiv (d:Int))=((t / d:Nat):Int):=by
 have:t / d≤t:=Nat.div_le_self t d
 rw[← Int.ofNat_tdiv]
 generalize t / d=q at*
 rw[wrap_i64 _ (by omega) (by omega)]
theorem Xn (t:Nat) (h:t < 9223372036854775808):IntKind.i64.wrap ((t:Int).tdiv 8)=((t / 8:Nat):Int):=Cv t 8 h
theorem IZ (t:Nat):(t:Int).tmod 8=((t%8:Nat):Int):=(Int.ofNat_tmod t 8).symm
theorem NO (t d:Nat):(t:Int).tmod (d:Int)=((t%d:Nat):Int):=(Int.ofNat_tmod t d).symm
theorem Xo (n:Nat) (h:n < 9223372036854775808):IntKind.i64.wrap ((n:Int))=(n:Int):=wrap_i64 _ (by omega) (by omega)
theorem bD (n:Nat) (h:n < 9223372036854775807):IntKind.i64.wrap ((n:Int)+1)=((n+1:Nat):Int):=wrap_i64 _ (by omega) (by omega)
theorem I0 (n m:Nat) (h:n+m < 9223372036854775807):IntKind.i64.wrap ((n:Int)+(m:Int))=((n+m:Nat):Int):=wrap_i64 _ (by omega) (by omega)
theorem ac9 (n m:Nat) (h:m≤n) (h':n < 9223372036854775807):IntKind.i64.wrap ((n:Int) - (m:Int))=((n - m:Nat):Int):=by
 rw[show (n:Int) - (m:Int)=((n - m:Nat):Int) by omega];exact Xo _ (by omega)
theorem ov (n:Nat) (k:IntKind) (c:Int):(List.replicate n (Value.int k c)).all Value.oneCell'=true:=by
 rw[List.all_eq_true];intro x hx;rw[List.eq_of_mem_replicate hx];rfl
theorem aF (n:Nat) (k:IntKind) (c:Int):List.map Sum.inl (List.replicate n (Value.int k c))=ae k n (fun _=>c):=by
 rw[ae,List.map_replicate]
 apply List.ext_getElem?
 intro i
 simp[List.getElem?_replicate]
 split
 ·rename_i h;rw[List.getElem?_range h];rfl
 ·rename_i h;rw[List.getElem?_eq_none (by simp;omega)];rfl
theorem al (n:Nat) (k:IntKind) (c:Int):List.replicate n (Sum.inl (Value.int k c):SV)=ae k n (fun _=>c):=by
 rw[← aF];simp
theorem dP (k:IntKind) (n:Nat) (f g:Nat→Int):splice (ae k n f) 0 (ae k n g)=ae k n g:=by
 rw[splice];simp[ah]
theorem hY (k:IntKind) (n:Nat) (f:Nat→Int):List.take n (ae k n f)=ae k n f:=List.take_of_length_le (by rw[ah];exact Nat.le_refl n)
theorem xU {k:IntKind} {n:Nat} {f g:Nat→Int} (h: ∀ i,i < n→f i=g i):Ag (ae k n f)=Ag (ae k n g):=by rw[aV h]
theorem fc {k:IntKind} {n m:Nat} {f:Nat→Int}:ae k n (upd (fun i=>if i < m then f i else 0) m (f m))=ae k n (fun i=>if i < m+1 then f i else 0):=by
 refine aV fun i _=> ?_
 simp only[upd]
 split
 ·rename_i e;subst e;rw[if_pos (by omega)]
 ·split
  ·rw[if_pos (by omega)]
  ·rw[if_neg (by omega)]
theorem fj {k:IntKind} {n m:Nat} {f g:Nat→Int}:ae k n (upd (fun i=>if i < m then f i else g i) m (f m))=ae k n (fun i=>if i < m+1 then f i else g i):=by
 refine aV fun i _=> ?_
 simp only[upd]
 split
 ·rename_i e;subst e;rw[if_pos (by omega)]
 ·split
  ·rw[if_pos (by omega)]
  ·rw[if_neg (by omega)]
theorem dG {k:IntKind} {n:Nat} {f g:Nat→Int}:ae k n (fun i=>if i < n then f i else g i)=ae k n f:=
 aV fun i hi=>by rw[if_pos hi]
theorem rM {k:IntKind} {n:Nat} {f g:Nat→Int}:ae k n (fun i=>if i < 0 then f i else g i)=ae k n g:=
 aV fun i hi=>by rw[if_neg (by omega)]
theorem gq (op:BinOp) (x y:Int):0≤aS op .u8 x y∧aS op .u8 x y < 256:=by
 have h: ∀ z:Int,0≤IntKind.u8.wrap z∧IntKind.u8.wrap z < 256:=fun z=>by rw[wrap_u8];omega
 simp only[aS]
 split<;>exact h _
theorem Xp (k:IntKind) (n:Nat) (f:Nat→Int) (v:Int):ae k n f++[Sum.inl (Value.int k v)]=ae k (n+1) (upd f n v):=by
 simp only[ae,List.range_succ,List.map_append,List.map_cons,List.map_nil,ax]
 congr 1
 refine List.map_congr_left fun i hi=> ?_
 rw[bg _ _ _ _ (by have:=List.mem_range.1 hi;omega)]
theorem I1 (k:IntKind) (n m:Nat) (f g:Nat→Int):ae k n f++ae k m g=ae k (n+m) (fun i=>if i < n then f i else g (i - n)):=by
 apply List.ext_getElem?
 intro i
 by_cases h:i < n
 ·rw[List.getElem?_append_left (by rw[ah];exact h),ay k n f i h,ay k (n+m) _ i (by omega),if_pos h]
 ·rw[List.getElem?_append_right (by rw[ah];omega),ah]
  by_cases h2:i - n < m
  ·rw[ay k m g _ h2,ay k (n+m) _ i (by omega),if_neg h]
  ·rw[List.getElem?_eq_none (by rw[ah];omega),List.getElem?_eq_none (by rw[ah];omega)]
def eI (m p q:Nat) (s:AS) (env:List (Nat×AV)) (box:List (Nat×aW)) (next:Nat):Prop:=
 m≤p∧(m≤q∨ ∀ x ∈ box,x.1≠q)∧(∀ x ∈ env,s.env x.1=some (AV.bh (upd (fun n=>n) p q) x.2)∧AV.ok (fun n=>n < next) x.2)∧
  (∀ x ∈ box,(x.1 < m∨x.1=p)∧s.box (upd (fun n=>n) p q x.1)=some x.2∧x.1 < next∧(x.2.cells.all SV.plain=true∨ ∀ y ∈ x.2.cells,SV.ok (fun n=>n < next∧n≠p) y))
theorem Vw {p q next:Nat} {l:List SV} (h: ∀ y ∈ l,SV.ok (fun n=>n < next∧n≠p) y):l=l.map (SV.bh (upd (fun n=>n) p q)):=by
 conv=>lhs;rw[← List.map_id l]
 refine List.map_congr_left fun y hy=> ?_
 have:=h y hy
 rcases y with v | ⟨t,o⟩ | ⟨t,o,n,c⟩
 ·rfl
 ·have h1:t≠p:=this.1.2
  simp only[SV.bh,id,bg _ _ _ _ h1]
 ·have h1:t≠p:=this.1.2
  simp only[SV.bh,id,bg _ _ _ _ h1]
theorem eI.dv {s:AS} {m p q:Nat} {env:List (Nat×AV)} {box:List (Nat×aW)} {next:Nat} (h:eI m p q s env box next):wv m s (ou env box next):=by
 obtain ⟨hp,hq,he,hb⟩:=h
 refine ⟨upd (fun n=>n) p q,⟨fun d v hv=>(he _ (bq _ _ _ hv)).1,fun n b hn=> ?_,fun n n' b b' hn _ hn' e=> ?_,fun d v hv=>(he _ (bq _ _ _ hv)).2,fun t b ht=> ?_⟩,fun n hn=>bg _ _ _ _ (by omega)⟩
 ·have:=hb _ (bq _ _ _ hn)
  refine ⟨b,this.2.1,fun h=>h, ?_⟩
  rcases this.2.2.2 with h | h
  ·exact (bj h _).symm
  ·exact Vw h
 ·have h1:=(hb _ (bq _ _ _ hn)).1
  have h2:=(hb _ (bq _ _ _ hn')).1
  have h3:m≤q∨(n≠q∧n'≠q):=by
   rcases hq with h | h
   ·exact .inl h
   ·exact .inr ⟨h _ (bq _ _ _ hn),h _ (bq _ _ _ hn')⟩
  simp only at h1 h2
  simp only[upd]at e
  split at e<;>split at e<;>omega
 ·have:=hb _ (bq _ _ _ ht)
  refine ⟨this.2.2.1, ?_⟩
  rcases this.2.2.2 with h | h
  ·exact aJ h
  ·exact fun y hy=>SV.bA (fun n hn=>hn.1) (h y hy)
theorem uy {s:AS} {m p q k next:Nat} {env:List (Nat×AV)} {l:List (Nat×aW)} {cs:List SV} (hmp:m≤p) (WU:p < next) (hkm:k≤m) (hkq:k≤q) (gH: ∀ x ∈ env,s.env x.1=some (AV.bh (upd (fun n=>n) p q) x.2)∧AV.ok (fun n=>n < next) x.2)
  (hb:s.box q=some ⟨true,cs⟩) (hp:cs.all SV.plain=true) (hl: ∀ x ∈ l,x.1 < k∧lk l x.1=some x.2∧ ∀ y ∈ x.2.cells,SV.ok (fun n=>n < k) y) (hs: ∀ t,t < k→s.box t=lk l t):eI m p q s env ((p,⟨true,cs⟩)::l) next:=by
 refine ⟨hmp, ?_,gH,fun x hx=> ?_⟩
 ·rcases Nat.lt_or_ge q m with h | h
  ·refine .inr fun x hx=> ?_
   rcases List.mem_cons.1 hx with rfl | hx
   ·show p≠q;omega
   ·have:=(hl x hx).1;omega
  ·exact .inl h
 ·rcases List.mem_cons.1 hx with rfl | hx
  ·exact ⟨.inr rfl,by simpa only[ax] using hb,WU, .inl hp⟩
  ·obtain ⟨h1,h2,h3⟩:=hl x hx
   refine ⟨.inl (by omega), ?_,by omega, .inr fun y hy=>SV.bA (fun n hn=>⟨by omega,by omega⟩) (h3 y hy)⟩
   rw[bg _ _ _ _ (by omega),hs _ h1,h2]
theorem lz {P:Program} [Tables P] {s:AS} {c:Code} {F:Exit→AS→Prop} {β:Type} (n:Nat) (Inv:Nat→β→Prop) (env:Nat→β→List (Nat×AV)) (box:Nat→β→List (Nat×aW)) (next:Nat) (x0:β)
  (h0:Inv 0 x0∧ ∃ p q,eI s.next p q s (env 0 x0) (box 0 x0) next)
  (hstep: ∀ k x,k < n→Inv k x→vc P c (fi (fun s'=> ∃ y,Inv (k+1) y∧ ∃ p q,eI s.next p q s' (env (k+1) y) (box (k+1) y) next) F) (ou (env k x) (box k x) next))
  (hend: ∀ x,Inv n x→vc P c (fi (fun _=>False) F) (ou (env n x) (box n x) next)) (hn:s.next≤next):jJ (vc P c) F s:=by
 have hmono: ∀ (K K':AS→Prop) t,(∀ s,K s→K' s)→vc P c (fi K F) t→vc P c (fi K' F) t:=fun K K' t h hv=>fU c _ _ (fun e s hs=>by
  cases e with
  | normal=>exact h s hs
  | _=>exact hs) t hv
 obtain ⟨wH,p0,q0,hb0⟩:=h0
 refine ⟨{ y:Nat×β // y.1≤n∧Inv y.1 y.2 },fun y=>ou (env y.1.1 y.1.2) (box y.1.1 y.1.2) next,fun y=>n - y.1.1,⟨(0,x0),Nat.zero_le _,wH⟩,hb0.dv,fun _=>hn,fun y=> ?_⟩
 obtain ⟨⟨k,x⟩,h1,h2⟩:=y
 rcases Nat.lt_or_ge k n with h | h
 ·refine hmono _ _ _ (fun s' hs=> ?_) (hstep k x h h2)
  obtain ⟨z,hz,p,q,hb⟩:=hs
  exact ⟨⟨(k+1,z),h,hz⟩,by show n - (k+1) < n - k;omega,hb.dv⟩
 ·have e:k=n:=Nat.le_antisymm h1 h
  subst e
  exact hmono (fun _=>False) _ _ (fun s' hs=>False.elim hs) (hend x h2)
def ox (m:Nat) (r:Nat→Nat) (s:AS) (env:List (Nat×AV)) (box:List (Nat×aW)) (next:Nat):Prop:=
 (∀ n,n < m→r n=n)∧(∀ x ∈ env,s.env x.1=some (AV.bh r x.2)∧AV.ok (fun n=>n < next) x.2)∧
  (∀ x ∈ box,s.box (r x.1)=some x.2∧x.1 < next∧x.2.cells.all SV.plain=true)∧(∀ x ∈ box, ∀ y ∈ box,r x.1=r y.1→x.1=y.1)
theorem ox.dv {s:AS} {m:Nat} {r:Nat→Nat} {env:List (Nat×AV)} {box:List (Nat×aW)} {next:Nat} (h:ox m r s env box next):wv m s (ou env box next):=by
 obtain ⟨hm,he,hb,hi⟩:=h
 refine ⟨r,⟨fun d v hv=>(he _ (bq _ _ _ hv)).1,fun n b hn=> ?_,fun n n' b b' hn _ hn' e=>hi _ (bq _ _ _ hn) _ (bq _ _ _ hn') e,fun d v hv=>(he _ (bq _ _ _ hv)).2,fun t b ht=> ?_⟩,hm⟩
 ·have:=hb _ (bq _ _ _ hn)
  exact ⟨b,this.1,fun h=>h,(bj this.2.2 _).symm⟩
 ·have:=hb _ (bq _ _ _ ht)
  exact ⟨this.2.1,aJ this.2.2⟩
theorem xV {P:Program} [Tables P] {s:AS} {c:Code} {F:Exit→AS→Prop} {β:Type} (n:Nat) (Inv:Nat→β→Prop) (env:Nat→β→List (Nat×AV)) (box:Nat→β→List (Nat×aW)) (next:Nat) (x0:β)
  (h0:Inv 0 x0∧ ∃ r,ox s.next r s (env 0 x0) (box 0 x0) next)
  (hstep: ∀ k x,k < n→Inv k x→vc P c (fi (fun s'=> ∃ y,Inv (k+1) y∧ ∃ r,ox s.next r s' (env (k+1) y) (box (k+1) y) next) F) (ou (env k x) (box k x) next))
  (hend: ∀ x,Inv n x→vc P c (fi (fun _=>False) F) (ou (env n x) (box n x) next)) (hn:s.next≤next):jJ (vc P c) F s:=by
 have hmono: ∀ (K K':AS→Prop) t,(∀ s,K s→K' s)→vc P c (fi K F) t→vc P c (fi K' F) t:=fun K K' t h hv=>fU c _ _ (fun e s hs=>by
  cases e with
  | normal=>exact h s hs
  | _=>exact hs) t hv
 obtain ⟨wH,r0,hb0⟩:=h0
 refine ⟨{ y:Nat×β // y.1≤n∧Inv y.1 y.2 },fun y=>ou (env y.1.1 y.1.2) (box y.1.1 y.1.2) next,fun y=>n - y.1.1,⟨(0,x0),Nat.zero_le _,wH⟩,hb0.dv,fun _=>hn,fun y=> ?_⟩
 obtain ⟨⟨k,x⟩,h1,h2⟩:=y
 rcases Nat.lt_or_ge k n with h | h
 ·refine hmono _ _ _ (fun s' hs=> ?_) (hstep k x h h2)
  obtain ⟨z,hz,r,hb⟩:=hs
  exact ⟨⟨(k+1,z),h,hz⟩,by show n - (k+1) < n - k;omega,hb.dv⟩
 ·have e:k=n:=Nat.le_antisymm h1 h
  subst e
  exact hmono (fun _=>False) _ _ (fun s' hs=>False.elim hs) (hend x h2)
theorem xW {s:AS} {m p q next:Nat} {env:List (Nat×AV)} {l:List (Nat×aW)} {cs:List SV} (hmp:m≤p) (WU:p < next) (gH: ∀ x ∈ env,s.env x.1=some (AV.bh (upd (fun n=>n) p q) x.2)∧AV.ok (fun n=>n < next) x.2)
  (hb:s.box q=some ⟨true,cs⟩) (hp:cs.all SV.plain=true) (hl: ∀ x ∈ l,x.1 < m∧x.1≠q∧s.box x.1=some x.2∧x.2.cells.all SV.plain=true):eI m p q s env ((p,⟨true,cs⟩)::l) next:=by
 refine ⟨hmp, ?_,gH,fun x hx=> ?_⟩
 ·rcases Nat.lt_or_ge q m with h | h
  ·refine .inr fun x hx=> ?_
   rcases List.mem_cons.1 hx with rfl | hx
   ·show p≠q;omega
   ·exact (hl x hx).2.1
  ·exact .inl h
 ·rcases List.mem_cons.1 hx with rfl | hx
  ·exact ⟨.inr rfl,by simpa only[ax] using hb,WU, .inl hp⟩
  ·obtain ⟨h1,h2,h3,h4⟩:=hl x hx
   exact ⟨.inl h1,by rw[bg _ _ _ _ (by omega),h3],by omega, .inl h4⟩
theorem gu {r:Nat→Nat} {k:Nat} (hr: ∀ n,n < k→r n=n) {v:AV} (h:AV.ok (fun n=>n < k) v):AV.bh r v=v:=by
 have hs: ∀ x:SV,SV.names (fun n=>n < k) x→SV.bh r x=x:=fun x hx=>by
  rcases x with v | ⟨t,o⟩ | ⟨t,o,n,c⟩
  ·rfl
  ·simp only[SV.bh,hr t hx]
  ·simp only[SV.bh,hr t hx]
 have hc: ∀ x:CV,CV.ok (fun n=>n < k) x→CV.bh r x=x:=fun x hx=>by
  rcases x with x | l
  ·simp only[CV.bh];rw[hs x hx]
  ·simp only[CV.bh]
   congr 1
   conv=>rhs;rw[← List.map_id l]
   exact List.map_congr_left fun y hy=>hs y (hx y hy).1
 rcases v with x | l
 ·simp only[AV.bh];rw[hc x h]
 ·simp only[AV.bh]
  congr 1
  conv=>rhs;rw[← List.map_id l]
  exact List.map_congr_left fun y hy=>hc y (h y hy)
theorem Xq {P:Program} [Tables P] {c1 c2:Code} {F:Exit→AS→Prop} {s:AS} {b:Bool} (oO:AS→Prop) (h1:b=true→vc P c1 (fi oO (fun _ _=>False)) s) (h2:b=false→vc P c2 (fi oO (fun _ _=>False)) s) (h: ∀ s',oO s'→F .normal s'):
  mP (some (B b)) (vc P c1 F) (vc P c2 F) s:=by
 have hm: ∀ e s',fi oO (fun _ _=>False) e s'→F e s':=fun e s' hs=>by
  cases e with
  | normal=>exact h s' hs
  | _=>exact False.elim hs
 exact ⟨fun hb=>fU c1 _ _ hm s (h1 hb),fun hb=>fU c2 _ _ hm s (h2 hb)⟩
theorem oy {s:AS} {m p q next:Nat} {env:List (Nat×AV)} {l:List (Nat×aW)} {cs ds:List SV} (hm:m≤60) (hn:61 < next) (hpq:p≠q)
  (gH: ∀ x ∈ env,s.env x.1=some (AV.bh (upd (upd (fun n=>n) 60 p) 61 q) x.2)∧AV.ok (fun n=>n < next) x.2)
  (hp:s.box p=some ⟨true,cs⟩) (hcs:cs.all SV.plain=true) (hq:s.box q=some ⟨true,ds⟩) (hds:ds.all SV.plain=true)
  (hl: ∀ x ∈ l,x.1 < m∧x.1≠p∧x.1≠q∧s.box x.1=some x.2∧x.2.cells.all SV.plain=true):ox m (upd (upd (fun n=>n) 60 p) 61 q) s env ((60,⟨true,cs⟩)::(61,⟨true,ds⟩)::l) next:=by
 have e60:upd (upd (fun n=>n) 60 p) 61 q 60=p:=by rw[bg _ _ _ _ (by decide),ax]
 have e61:upd (upd (fun n=>n) 60 p) 61 q 61=q:=ax _ _ _
 have el: ∀ x,x < m→upd (upd (fun n=>n) 60 p) 61 q x=x:=fun x hx=>by rw[bg _ _ _ _ (by omega),bg _ _ _ _ (by omega)]
 refine ⟨fun n hn=>el n hn,gH,fun x hx=> ?_,fun x hx y hy e=> ?_⟩
 ·rcases List.mem_cons.1 hx with rfl | hx
  ·exact ⟨by rw[e60];exact hp,by show 60 < next;omega,hcs⟩
  ·rcases List.mem_cons.1 hx with rfl | hx
   ·exact ⟨by rw[e61];exact hq,hn,hds⟩
   ·obtain ⟨h1,_,_,h4,h5⟩:=hl x hx
    exact ⟨by rw[el _ h1];exact h4,by omega,h5⟩
 ·rcases List.mem_cons.1 hx with rfl | hx<;>rcases List.mem_cons.1 hy with rfl | hy
  ·rfl
  ·rcases List.mem_cons.1 hy with rfl | hy
   ·rw[e60,e61]at e;exact absurd e hpq
   ·obtain ⟨h1,h2,_⟩:=hl y hy
    rw[e60,el _ h1]at e;exact absurd e.symm h2
  ·rcases List.mem_cons.1 hx with rfl | hx
   ·rw[e60,e61]at e;exact absurd e.symm hpq
   ·obtain ⟨h1,h2,_⟩:=hl x hx
    rw[e60,el _ h1]at e;exact absurd e h2
  ·rcases List.mem_cons.1 hx with rfl | hx<;>rcases List.mem_cons.1 hy with rfl | hy
   ·rfl
   ·obtain ⟨h1,_,h2,_⟩:=hl y hy
    rw[e61,el _ h1]at e;exact absurd e.symm h2
   ·obtain ⟨h1,_,h2,_⟩:=hl x hx
    rw[e61,el _ h1]at e;exact absurd e h2
   ·rw[el _ (hl x hx).1,el _ (hl y hy).1]at e;exact e
theorem Vx {s:AS} {m next:Nat} {env:List (Nat×AV)} {l:List (Nat×aW)} (hmn:m≤next) (gH: ∀ x ∈ env,s.env x.1=some x.2∧AV.ok (fun n=>n < next) x.2)
  (hl: ∀ x ∈ l,x.1 < m∧s.box x.1=some x.2∧x.2.cells.all SV.plain=true):ox m (fun n=>n) s env l next:=by
 have hr: ∀ v:AV,AV.ok (fun n=>n < next) v→AV.bh (fun n=>n) v=v:=fun v hv=>gu (k:=next) (fun n _=>rfl) hv
 exact ⟨fun n _=>rfl,fun x hx=>⟨by rw[hr _ (gH x hx).2];exact (gH x hx).1,(gH x hx).2⟩,fun x hx=>⟨(hl x hx).2.1,by have:=(hl x hx).1;omega,(hl x hx).2.2⟩,fun x _ y _ e=>e⟩
theorem gy {r:Nat→Nat} {k:IntKind} {n:Int}:AV.bh r (I k n)=I k n:=rfl
theorem jS {r:Nat→Nat} {v:Value}:AV.bh r (V v)=V v:=rfl
theorem iT {r:Nat→Nat} {t o:Nat}:AV.bh r (Ptr t o)=Ptr (r t) o:=rfl
theorem er {r:Nat→Nat} {t o n c:Nat}:AV.bh r (Sl t o n c)=Sl (r t) o n c:=rfl
theorem fV {r:Nat→Nat} {k:IntKind} {n:Nat} {f:Nat→Int}:AV.bh r (Ag (ae k n f))=Ag (ae k n f):=by
 show AV.bh r (.inl (.inr _))=_
 simp only[AV.bh,CV.bh,bj aw]
theorem aie {M:Nat→Prop} {k:IntKind} {n:Int}:AV.ok M (I k n)=True:=rfl
def aR (n:Nat) (f g:Nat→Int) (i:Nat):Int:=if i < n then f i else g (i - n)
def bE (cs:List SV) (o n:Nat) (f:Nat→Int):Prop:= ∀ i,i < n→cs[o+i]? =some (Sum.inl (.int .u8 (f i)))
def bC (box:Nat→Option aW) (v:AV) (n:Nat) (f:Nat→Int):Prop:=
 ((∃ a,v=V (.slice a 0 0))∧n=0)∨ ∃ t o c rw cs,v=Sl t o n c∧box t=some ⟨rw,cs⟩∧cs.all SV.plain=true∧bE cs o n f
def Made (k n:Nat) (f:Nat→Int) (v:AV) (out:Nat→Option aW):Prop:=
 ∃ c tail,v=Sl k 0 n c∧out=lk [(k,⟨true,ae .u8 n f++tail⟩)]∧n≤c∧tail.length=c - n∧tail.all SV.plain=true
theorem cH {n:Nat} {f:Nat→Int} {tail:List SV} (h:tail.all SV.plain=true):(ae .u8 n f++tail).all SV.plain=true:=by
 rw[List.all_append,aw,h];rfl
theorem cV {n:Nat} {f:Nat→Int} {tail:List SV}:bE (ae .u8 n f++tail) 0 n f:=fun i hi=>by
 rw[Nat.zero_add,List.getElem?_append_left (by rw[ah];exact hi),ay .u8 n f i hi]
theorem aP {n:Nat} {f:Nat→Int}:bE (ae .u8 n f) 0 n f:=fun i hi=>by rw[Nat.zero_add,ay .u8 n f i hi]
theorem fk {cs:List SV} {o n:Nat} {f:Nat→Int} (h:bE cs o n f): ∀ j u,(ae .u8 n f)[j]? =some u→cs[o+j]? =some u:=fun j u hj=>by
 by_cases hlt:j < n
 ·rw[ay .u8 n f j hlt]at hj;rw[h j hlt];exact hj
 ·rw[List.getElem?_eq_none (by rw[ah];omega)]at hj;cases hj
theorem QA {cs:List SV} {o:Nat}: ∀ j (u:SV),([]:List SV)[j]? =some u→cs[o+j]? =some u:=fun j u h=>by simp at h
theorem jc {cs:List SV} {o n:Nat} {f:Nat→Int} (h:bE cs o n f) (a m:Nat) (hm:a+m≤n):bE cs (o+a) m (fun i=>f (a+i)):=fun i hi=>by
 rw[Nat.add_assoc];exact h (a+i) (by omega)
theorem lZ {cs:List SV} {o n m:Nat} {f:Nat→Int} (h:bE cs o n f) (hm:m≤n):bE cs o m f:=fun i hi=>h i (by omega)
theorem kO {cs:List SV} {o n:Nat} {f g:Nat→Int} (h:bE cs o n f) (e: ∀ i,i < n→f i=g i):bE cs o n g:=fun i hi=>by rw[← e i hi];exact h i hi
theorem I2 {cs:List SV} {n:Nat} {f:Nat→Int} (h:bE cs 0 n f) (hl:n≤cs.length):cs=ae .u8 n f++cs.drop n:=by
 apply List.ext_getElem?
 intro i
 by_cases hi:i < n
 ·rw[List.getElem?_append_left (by rw[ah];exact hi),ay .u8 n f i hi]
  have:=h i hi
  rwa [Nat.zero_add]at this
 ·rw[List.getElem?_append_right (by rw[ah];omega),ah,List.getElem?_drop,show n+(i - n)=i by omega]
structure bR (cs:List SV) (o n c:Nat) (f:Nat→Int):Prop where
 len:cs.length=o+c
 room:n≤c
 plain:cs.all SV.plain=true
 ez:bE cs o n f
theorem bR.made {cs:List SV} {n c k:Nat} {f:Nat→Int} (h:bR cs 0 n c f):Made k n f (Sl k 0 n c) (lk [(k,⟨true,cs⟩)]):=by
 have hl:=h.len
 have hr:=h.room
 have e:=I2 h.ez (by omega)
 refine ⟨c,cs.drop n,rfl,by rw[← e],hr,by rw[List.length_drop];omega, ?_⟩
 have:=h.plain
 rw[e,List.all_append]at this
 exact (Bool.and_eq_true _ _▸this).2
theorem bR.row {n c:Nat} {f:Nat→Int} {tail:List SV} (hc:n≤c) (hl:tail.length=c - n) (hp:tail.all SV.plain=true):bR (ae .u8 n f++tail) 0 n c f:=
 ⟨by rw[List.length_append,ah];omega,hc,cH hp,cV⟩
theorem bR.snoc {n c:Nat} {f g:Nat→Int} {v:Int} {tail:List SV} (hv:g n=v) (hfg: ∀ i,i < n→f i=g i) (hc:n+1≤c) (hl:tail.length=(c - (n+1))*1) (hp:tail.all SV.plain=true):bR (ae .u8 n f++[Sum.inl (.int .u8 v)]++tail) 0 (n+1) c g:=by
 rw[Xp,aV (g:=g) (fun i hi=> ?_)]
 ·exact bR.row hc (by omega) hp
 ·simp only[upd];split
  ·rename_i e;rw[e];exact hv.symm
  ·exact hfg i (by omega)
theorem bR.join {n m c:Nat} {f g h:Nat→Int} {tail:List SV} (h1: ∀ i,i < n→f i=h i) (h2: ∀ i,i < m→g i=h (n+i)) (hc:n+m≤c) (hl:tail.length=(c - (n+m))*1) (hp:tail.all SV.plain=true):bR (ae .u8 n f++ae .u8 m g++tail) 0 (n+m) c h:=by
 rw[I1,aV (g:=h) (fun i hi=> ?_)]
 ·exact bR.row hc (by omega) hp
 ·split
  ·exact h1 i ‹_›
  ·rw[h2 _ (by omega),show n+(i - n)=i by omega]
theorem b7 {v:Int}:bE [Sum.inl (.int .u8 v)] 0 1 (fun _=>v):=fun i hi=>by
 have:i=0:=by omega
 subst this;rfl
theorem bR.congr {cs:List SV} {o n m c:Nat} {f g:Nat→Int} (h:bR cs o n c f) (e:n=m) (hfg: ∀ i,i < n→f i=g i):bR cs o m c g:=
 ⟨h.len,e▸h.room,h.plain,e▸kO h.ez hfg⟩
theorem NP {n k:Nat} {f g:Nat→Int}: ∀ i,i < n+k+1→aR (n+k) (aR n f g) (fun _=>g k) i=aR n f g i:=fun i hi=>by
 by_cases h:i < n+k
 ·simp only[aR,if_pos h]
 ·have:i=n+k:=by omega
  subst this
  simp only[aR];rw[if_neg (by omega),if_neg (by omega),show n+k - n=k by omega]
theorem dL {k:IntKind} {g:Nat→Int} {x:SV}:splice (ae k 1 g) 0 [x]=[x]:=rfl
theorem iB {r:Nat→Nat} {k nm:Nat}:fb r k nm k=nm:=by unfold fb;rw[if_pos rfl]
theorem gb {s:AS} {r:Nat→Nat} {k nm:Nat} {cs:List SV} (hp:cs.all SV.plain=true):after s r k nm none (lk [(k,⟨true,cs⟩)])=upd s.box nm (some ⟨true,cs⟩):=by
 simp[after,lk,aW.bh,bj hp]
section
variable {P:Program} [Tables P]
theorem dW {s:AS} {fn k n nm:Nat} {f:Nat→Int} {args l:List AV} {ins:Nat→Option aW} (h:bt P fn args k ins (Made k n f)) (r:Nat→Nat) (hfit:Fits s r ins none) (hl:l=args.map (AV.bh r)) {dst:Option Nat} {K:AS→Prop}
  (hk: ∀ c tail,n≤c→tail.length=c - n→tail.all SV.plain=true→K ((⟨s.env,upd s.box nm (some ⟨true,ae .u8 n f++tail⟩),s.next⟩:AS).put dst (some (Sl nm 0 n c)))):aB P nm fn (some l) dst K s:=by
 refine h.aB r none hfit hl ?_
 rintro v out ⟨c,tail,rfl,rfl,h1,h2,h3⟩ _
 rw[gb (cH h3)]
 have e:AV.bh (fb r k nm) (Sl k 0 n c)=Sl nm 0 n c:=by show Sl (fb r k nm k) 0 n c=_;rw[iB]
 rw[e]
 exact hk c tail h1 h2 h3
theorem oz {s:AS} {fn k n nm:Nat} {f:Nat→Int} {args l:List AV} {ins:Nat→Option aW} (h:bt P fn args k ins (Made k n f)) (r:Nat→Nat) (hfit:Fits s r ins none) (hl:l=args.map (AV.bh r))
  (hnamed: ∀ M:Nat→Prop,(∀ v ∈ l,AV.ok M v)→ ∀ n,n < k→M (r n)) {ops:Array Oper} {i:Nat} (C3:late ops i=true) {dst:Option Nat} {K:AS→Prop}
  (hk: ∀ c tail,n≤c→tail.length=c - n→tail.all SV.plain=true→K ((⟨s.env,upd s.box nm (some ⟨true,ae .u8 n f++tail⟩),s.next⟩:AS).put dst (some (Sl nm 0 n c)))):mG P ops i nm fn (some l) dst K s:=by
 refine .inr (.inr (.inl ⟨C3,fun e=> ∃ c tail,e=(some (Sl nm 0 n c),some (.inl (ae .u8 n f++tail)))∧n≤c∧tail.length=c - n∧tail.all SV.plain=true,h.reads r hfit hl hnamed ?_ ?_, ?_⟩))
 ·rintro v out ⟨c,tail,rfl,rfl,h1,h2,h3⟩
  refine ⟨c,tail, ?_,h1,h2,h3⟩
  have e:AV.bh (fb r k nm) (Sl k 0 n c)=Sl nm 0 n c:=by show Sl (fb r k nm k) 0 n c=_;rw[iB]
  simp[NK,lk,bj (cH h3),e]
 ·rintro e ⟨c,tail,rfl,_⟩
  exact .inr ⟨_,rfl⟩
 ·rintro e ⟨c,tail,rfl,h1,h2,h3⟩
  exact hk c tail h1 h2 h3
end
theorem cB.draw {P:Program} [cA.Tables P] {f:Nat} {l:List AV} {r:AV} (h:cB P f l r) (hc:ai P f=true) {ops:Array Oper} {i nm:Nat} {dst:Option Nat} {K:AS→Prop} {s:AS} (hk:K (s.put dst (some r))):mG P ops i nm f (some l) dst K s:=
 .inl ⟨l,r,rfl, .inl ⟨hc,h⟩,hk⟩
theorem lk3 {b c d b':aW} {n:Nat} (h:lk [(0,b),(1,c),(2,d)] n=some b'):(n=0∧b'=b)∨(n=1∧b'=c)∨(n=2∧b'=d):=by
 have:=bq _ _ _ h
 simp only[List.mem_cons,List.not_mem_nil,or_false,Prod.mk.injEq]at this
 exact this
theorem alg {b c d:aW}: ∀ n,n < 3→ ∃ e,lk [(0,b),(1,c),(2,d)] n=some e:=fun n hn=>by
 have:n=0∨n=1∨n=2:=by omega
 rcases this with rfl | rfl | rfl<;>exact ⟨_,rfl⟩
theorem alh {r0 r1 r2:Bool} {cs ds es:List SV} (hp:cs.all SV.plain=true) (hq:ds.all SV.plain=true) (hr:es.all SV.plain=true): ∀ n c,lk [(0,(⟨r0,cs⟩:aW)),(1,⟨r1,ds⟩),(2,⟨r2,es⟩)] n=some c→n < 3∧ ∀ x ∈ c.cells,SV.ok (fun n=>n < 3) x:=fun n c h=>by
 rcases lk3 h with ⟨rfl,rfl⟩ | ⟨rfl,rfl⟩ | ⟨rfl,rfl⟩
 ·exact ⟨by omega,aJ hp⟩
 ·exact ⟨by omega,aJ hq⟩
 ·exact ⟨by omega,aJ hr⟩
def three (a b c:Nat):Nat→Nat:=fun n=>if n=0 then a else if n=1 then b else c
theorem aif {s:AS} {t u x:Nat} {r0 r1 r2:Bool} {cs ds es:List SV} (h:s.box t=some ⟨r0,cs⟩) (hp:cs.all SV.plain=true) (h':s.box u=some ⟨r1,ds⟩) (hp':ds.all SV.plain=true) (h2:s.box x=some ⟨r2,es⟩) (hp2:es.all SV.plain=true):
  Fits s (three t u x) (lk [(0,⟨false,cs⟩),(1,⟨false,ds⟩),(2,⟨false,es⟩)]) none:=
 ⟨fun n b hb=>by
  rcases lk3 hb with ⟨rfl,rfl⟩ | ⟨rfl,rfl⟩ | ⟨rfl,rfl⟩
  ·exact ⟨_,h,fun e=>(by cases e),(bj hp _).symm⟩
  ·exact ⟨_,h',fun e=>(by cases e),(bj hp' _).symm⟩
  ·exact ⟨_,h2,fun e=>(by cases e),(bj hp2 _).symm⟩,
  fun n n' b b' hb hrw=>(by rcases lk3 hb with ⟨rfl,rfl⟩ | ⟨rfl,rfl⟩ | ⟨rfl,rfl⟩<;>cases hrw),fun n b hb hrw=>(by rcases lk3 hb with ⟨rfl,rfl⟩ | ⟨rfl,rfl⟩ | ⟨rfl,rfl⟩<;>cases hrw),fun n hn=>(by cases hn)⟩
def nt (box:Nat→Option aW) (b:Nat) (v:AV) (n:Nat) (f:Nat→Int):Prop:=
 ((∃ a,v=V (.slice a 0 0))∧n=0)∨ ∃ t o c rw cs,v=Sl t o n c∧box t=some ⟨rw,cs⟩∧bE cs o n f∧t≠b
theorem lA {ins box:Nat→Option aW} {b k n:Nat} {f:Nat→Int} {v:AV} (h:bC ins v n f) (hok:AV.ok (fun n=>n < k) v) (hb:k≤b) (hs: ∀ t,t < k→box t=ins t):nt box b v n f:=by
 rcases h with h | ⟨t,o,c,rw,cs,rfl,h1,h2,h3⟩
 ·exact .inl h
 ·have ht:t < k:=hok
  exact .inr ⟨t,o,c,rw,cs,rfl,by rw[hs t ht,h1],h3,by omega⟩
theorem at_len {box:Nat→Option aW} {v:AV} {n:Nat} {f:Nat→Int} (h:bC box v n f):fB 1 (some [v])=some (some (I .i64 n),none):=by
 rcases h with ⟨⟨a,rfl⟩,rfl⟩ | ⟨t,o,c,rw,cs,rfl,_⟩<;>rfl
theorem l6 {b1 b2:Nat→Option aW} {v:AV} {n:Nat} {f:Nat→Int} (h:bC b1 v n f) (e: ∀ t b,b1 t=some b→b2 t=some b):bC b2 v n f:=by
 rcases h with h | ⟨t,o,c,rw,cs,h0,h1,h2,h3⟩
 ·exact .inl h
 ·exact .inr ⟨t,o,c,rw,cs,h0,e _ _ h1,h2,h3⟩
theorem afX {b1 b2:Nat→Option aW} {b:Nat} {v:AV} {n:Nat} {f:Nat→Int} (h:bC b1 v n f) (e: ∀ t x,b1 t=some x→b2 t=some x∧t≠b):nt b2 b v n f:=by
 rcases h with h | ⟨t,o,c,rw,cs,h0,h1,h2,h3⟩
 ·exact .inl h
 ·exact .inr ⟨t,o,c,rw,cs,h0,(e _ _ h1).1,h3,(e _ _ h1).2⟩
theorem oA {box:Nat→Option aW} {v:AV} {n:Nat} {f:Nat→Int} (h:bC box v n f) (hn:0 < n): ∃ t o c rw cs,v=Sl t o n c∧box t=some ⟨rw,cs⟩∧cs.all SV.plain=true∧bE cs o n f:=by
 rcases h with ⟨_,rfl⟩ | h
 ·omega
 ·exact h
def eD (t:Nat) (v:AV) (n:Nat) (f:Nat→Int) (cs:List SV):Prop:=((∃ a,v=V (.slice a 0 0))∧n=0)∨ ∃ o c,v=Sl t o n c∧bE cs o n f
theorem eD.at {t n:Nat} {v:AV} {f:Nat→Int} {cs:List SV} {rw:Bool} {box:Nat→Option aW} (h:eD t v n f cs) (hb:box t=some ⟨rw,cs⟩) (hp:cs.all SV.plain=true):bC box v n f:=by
 rcases h with ⟨⟨a,rfl⟩,h0⟩ | ⟨o,c,rfl,hs⟩
 ·exact .inl ⟨⟨_,rfl⟩,h0⟩
 ·exact .inr ⟨t,o,c,rw,cs,rfl,hb,hp,hs⟩
theorem eD.ok {t n:Nat} {v:AV} {f:Nat→Int} {cs:List SV} {M:Nat→Prop} (h:eD t v n f cs) (hM:M t):AV.ok M v:=by
 rcases h with ⟨⟨a,rfl⟩,h0⟩ | ⟨o,c,rfl,hs⟩
 ·trivial
 ·exact hM
structure Handed (k:Nat) (l:List (Nat×aW)):Prop where
 np: ∀ x ∈ l,x.1 < k∧lk l x.1=some x.2∧x.2.cells.all SV.plain=true
 ro: ∀ x ∈ l,x.2.rw=false
 all: ∀ n,n < k→ ∃ b,lk l n=some b
 le:k≤20
theorem Handed.lt {k:Nat} {l:List (Nat×aW)} (h:Handed k l): ∀ x ∈ l,x.1 < k:=fun x hx=>(h.np x hx).1
theorem Handed.j6 {k:Nat} {l:List (Nat×aW)} (h:Handed k l): ∀ n b,lk l n=some b→n < k∧ ∀ x ∈ b.cells,SV.ok (fun n=>n < k) x:=fun n b hb=>⟨(h.np _ (bq _ _ _ hb)).1,aJ (h.np _ (bq _ _ _ hb)).2.2⟩
structure Arg (k:Nat) (l:List (Nat×aW)) (v:AV) (n:Nat) (f:Nat→Int):Prop where
 at_:bC (lk l) v n f
 ok:AV.ok (fun n=>n < k) v
structure xX (s:AS) (k:Nat) (l:List (Nat×aW)) (r:Nat→Nat) (L:List AV):Prop where
 good:Handed k l
 fits:Fits s r (lk l) none
 named: ∀ M:Nat→Prop,(∀ v ∈ L,AV.ok M v)→ ∀ n,n < k→M (r n)
theorem oB {s:AS}:xX s 0 [] (fun n=>n) []:=⟨⟨fun x hx=>(by cases hx),fun x hx=>(by cases hx),fun n hn=>by omega,by decide⟩,gI,fun M _ n hn=>by omega⟩
theorem oC {s:AS} {k t n:Nat} {l:List (Nat×aW)} {r:Nat→Nat} {L:List AV} {v:AV} {f:Nat→Int} {cs:List SV} {rw:Bool} (h:xX s k l r L) (hk:k < 20) (hv:eD t v n f cs) (hb:s.box t=some ⟨rw,cs⟩) (hp:cs.all SV.plain=true):
  ∃ k' l' r' v',k'≤k+1∧xX s k' l' r' (v::L)∧Arg k' l' v' n f∧AV.bh r' v'=v∧ ∀ u m g,Arg k l u m g→Arg k' l' u m g∧AV.bh r' u=AV.bh r u:=by
 rcases hv with ⟨⟨a,rfl⟩,h0⟩ | ⟨o,c,rfl,hs⟩
 ·exact ⟨k,l,r,V (.slice a 0 0),by omega,⟨h.good,h.fits,fun M hM=>h.named M fun u hu=>hM u (List.Mem.tail _ hu)⟩,⟨.inl ⟨⟨_,rfl⟩,h0⟩,trivial⟩,rfl,fun u m g hu=>⟨hu,rfl⟩⟩
 ·have hlk: ∀ x b,lk l x=some b→lk ((k,(⟨false,cs⟩:aW))::l) x=some b:=fun x b hx=>by
   have:=(h.good.np _ (bq _ _ _ hx)).1
   simp only at this
   simp only[lk];rw[if_neg (by omega)];exact hx
  refine ⟨k+1,(k,⟨false,cs⟩)::l,upd r k t,Sl k o n c,Nat.le_refl _,⟨⟨fun x hx=> ?_,fun x hx=> ?_,fun x hx=> ?_,hk⟩,⟨fun x b hx=> ?_,fun x x' b b' hx hrw=> ?_,fun x b hx hrw=> ?_,fun x hx=>(by cases hx)⟩,fun M hM x hx=> ?_⟩,⟨.inr ⟨k,o,c,false,cs,rfl,by simp only[lk];exact if_pos trivial,hp,hs⟩,Nat.lt_succ_self k⟩, ?_,fun u m g hu=>⟨⟨l6 hu.at_ hlk,AV.bA (fun n hn=>Nat.lt_succ_of_lt hn) hu.ok⟩, ?_⟩⟩
  ·rcases List.mem_cons.1 hx with rfl | hx
   ·exact ⟨Nat.lt_succ_self k,by simp only[lk];exact if_pos trivial,hp⟩
   ·obtain ⟨h1,h2,h3⟩:=h.good.np x hx
    exact ⟨Nat.lt_succ_of_lt h1,hlk _ _ h2,h3⟩
  ·rcases List.mem_cons.1 hx with rfl | hx
   ·rfl
   ·exact h.good.ro x hx
  ·by_cases e:x=k
   ·exact ⟨⟨false,cs⟩,by simp only[lk];rw[if_pos e]⟩
   ·obtain ⟨b,hb⟩:=h.good.all x (by omega)
    exact ⟨b,hlk _ _ hb⟩
  ·simp only[lk]at hx
   split at hx
   ·rename_i e;subst e
    simp only[Option.some.injEq]at hx;subst hx
    exact ⟨⟨rw,cs⟩,by rw[ax];exact hb,fun e=>(by cases e),(bj hp _).symm⟩
   ·rename_i e
    obtain ⟨b',h1,h2,h3⟩:=h.fits.box x b hx
    refine ⟨b',by rw[bg _ _ _ _ e];exact h1,h2, ?_⟩
    rw[h3,bj (h.good.np _ (bq _ _ _ hx)).2.2,bj (h.good.np _ (bq _ _ _ hx)).2.2]
  ·have hro:b.rw=false:=by
    have:=bq _ _ _ hx
    rcases List.mem_cons.1 this with e | hx
    ·cases e;rfl
    ·exact h.good.ro _ hx
   rw[hro]at hrw;cases hrw
  ·have hro:b.rw=false:=by
    have:=bq _ _ _ hx
    rcases List.mem_cons.1 this with e | hx
    ·cases e;rfl
    ·exact h.good.ro _ hx
   rw[hro]at hrw;cases hrw
  ·by_cases e:x=k
   ·subst e;rw[ax];exact hM _ (List.Mem.head _)
   ·rw[bg _ _ _ _ e];exact h.named M (fun u hu=>hM u (List.Mem.tail _ hu)) x (by omega)
  ·rw[er,ax]
  ·have hs: ∀ x:SV,SV.names (fun n=>n < k) x→SV.bh (upd r k t) x=SV.bh r x:=fun x hx=>by
    rcases x with v | ⟨t',o⟩ | ⟨t',o,n,c⟩
    ·rfl
    ·have h1:t' < k:=hx
     simp only[SV.bh];rw[bg _ _ _ _ (by omega)]
    ·have h1:t' < k:=hx
     simp only[SV.bh];rw[bg _ _ _ _ (by omega)]
   rcases hu.at_ with ⟨⟨a,rfl⟩,_⟩ | ⟨t',o',c',rw',cs',rfl,h1,_,_⟩
   ·rfl
   ·have h1:t' < k:=hu.ok
    rw[er,er,bg _ _ _ _ (by omega)]
theorem Vy {s:AS} {l:List (Nat×aW)} {k:Nat} (h:Handed k l) (hs: ∀ t,t < k→s.box t=lk l t):Fits s (fun n=>n) (lk l) none:=by
 refine ⟨fun n b hb=>⟨b, ?_,fun h=>h, ?_⟩,fun n n' b b' _ _ _ e=>e,fun n b hb hrw=> ?_,fun n hn=>(by cases hn)⟩
 ·rw[hs n (h.np _ (bq _ _ _ hb)).1];exact hb
 ·exact (bj (h.np _ (bq _ _ _ hb)).2.2 _).symm
 ·have:=h.ro _ (bq _ _ _ hb)
  simp only at this
  rw[this]at hrw;cases hrw
theorem Arg.id {k n:Nat} {l:List (Nat×aW)} {v:AV} {f:Nat→Int} (h:Arg k l v n f):AV.bh (fun n=>n) v=v:=gu (fun n _=>rfl) h.ok
section
variable {P:Program} [Tables P]
theorem bn {t tx:Nat} (hk:ru P t=some ([Value.int .u8 0],1,1)) (hx:ln P tx=some (none,1)) {s:AS} {nm b o n c m:Nat} {f g:Nat→Int} {cs:List SV} {x:AV} (hb:s.box b=some ⟨true,cs⟩) (hg:bR cs o n c f)
  (hsrc:nt s.box b x m g) (hby:n+m≤140737488355328) {ty:TypeId} {ct:Array Bool} {dst:Option Nat} {K:AS→Prop}
  (hK: ∀ c' cs',bR cs' 0 (n+m) c' (aR n f g)→K ((⟨s.env,upd (upd s.box b none) nm (some ⟨true,cs'⟩),s.next⟩:AS).put dst (some (Sl nm 0 (n+m) c')))):
  cC P nm .append #[t,tx] ty ct (some [Sl b o n c,x]) dst K s:=by
 have e1: ∀ i,i < n→f i=aR n f g i:=fun i hi=>by simp only[aR,if_pos hi]
 have e2: ∀ i,i < m→g i=aR n f g (n+i):=fun i hi=>by simp only[aR];rw[if_neg (by omega),show n+i - n=i by omega]
 refine hH (olds:=ae .u8 n f) (news:=ae .u8 m g) hk hx rfl (by decide) rfl hb (by rw[hg.len,Nat.mul_one]) hg.room (by rw[ah,Nat.mul_one]) (fk hg.ez) hg.plain ?_ (by omega) (by omega)
  (fun c' tail h1 h2 h3=>hK c' _ (bR.join e1 e2 h1 h2 h3))
 rcases hsrc with ⟨⟨a,rfl⟩,rfl⟩ | ⟨t',o',c',rw',cs',rfl,h1,h2,h3⟩
 ·exact .inr ⟨⟨_,rfl⟩,rfl,rfl⟩
 ·exact .inl ⟨t',o',c',⟨rw',cs'⟩,rfl,h1,by rw[ah,Nat.mul_one],fk h2,fun e=>h3 (by cases e;rfl)⟩
theorem ia {t tx:Nat} (hk:ru P t=some ([Value.int .u8 0],1,1)) (hx:ln P tx=some (none,1)) {s:AS} {nm m:Nat} {g:Nat→Int} {x:AV}
  (hsrc:bC s.box x m g) (hby:m≤140737488355328) {ty:TypeId} {ct:Array Bool} {dst:Option Nat} {K:AS→Prop}
  (h0:m=0→K (s.put dst (some (V (.slice none 0 0)))))
  (hK:0 < m→ ∀ c' cs',bR cs' 0 m c' g→K ((⟨s.env,upd s.box nm (some ⟨true,cs'⟩),s.next⟩:AS).put dst (some (Sl nm 0 m c')))):
  cC P nm .append #[t,tx] ty ct (some [V (.slice none 0 0),x]) dst K s:=by
 refine gJ (news:=ae .u8 m g) hk hx rfl (by decide) rfl ?_ (by omega) (by omega) h0 (fun h c' tail h1 h2 h3=>hK h c' _ (bR.row h1 (by omega) h3))
 rcases hsrc with ⟨⟨a,rfl⟩,rfl⟩ | ⟨t',o',c',rw',cs',rfl,h1,_,h2⟩
 ·exact .inr ⟨⟨_,rfl⟩,rfl,rfl⟩
 ·exact .inl ⟨t',o',c',⟨rw',cs'⟩,rfl,h1,by rw[ah,Nat.mul_one],fk h2,fun e=>by cases e⟩
end
theorem rN {P:Program} [Tables P] {s:AS} {fn n nm t:Nat} {f:Nat→Int} {args l:List AV} {cs:List SV} (h:bt P fn args 1 (lk [(0,⟨true,cs⟩)]) (Made 1 n f)) (hb:s.box t=some ⟨true,cs⟩) (hp:cs.all SV.plain=true) (hl:l=args.map (AV.bh fun _=>t)) {dst:Option Nat} {K:AS→Prop}
  (hk: ∀ c cs',bR cs' 0 n c f→K ((⟨s.env,upd (upd s.box nm (some ⟨true,cs'⟩)) t none,s.next⟩:AS).put dst (some (Sl nm 0 n c)))):aB P nm fn (some l) dst K s:=by
 refine h.aB (fun _=>t) (some 0) (Gr hb hp) hl ?_
 rintro v out ⟨c,tail,rfl,rfl,h1,h2,h3⟩ _
 have e:AV.bh (fb (fun _=>t) 1 nm) (Sl 1 0 n c)=Sl nm 0 n c:=by show Sl (fb (fun _=>t) 1 nm 1) 0 n c=_;rw[iB]
 rw[e]
 have:=hk c _ (bR.row h1 h2 h3)
 have e2:after s (fun _=>t) 1 nm (some 0) (lk [(1,(⟨true,ae .u8 n f++tail⟩:aW))])=upd (upd s.box nm (some ⟨true,ae .u8 n f++tail⟩)) t none:=by
  simp[after,lk,aW.bh,bj (cH h3)]
 rw[e2]
 exact this
theorem eQ {s:AS} {k q n m c:Nat} {f:Nat→Int} {cs:List SV} (hq:k≤q) (h:bR cs 0 n c f) (hb:s.box q=some ⟨true,cs⟩) (e:n=m):Ct k (Made k m f) (Sl q 0 n c) s:=by
 subst e
 exact dS hq hb h.plain h.made
def Bytes (k n:Nat) (f:Nat→Int) (v:AV) (out:Nat→Option aW):Prop:=(n=0∧v=V (.slice none 0 0)∧out=fun _=>none)∨Made k n f v out
theorem NQ {P:Program} [Tables P] {s:AS} {fn k n nm:Nat} {f:Nat→Int} {args l:List AV} {ins:Nat→Option aW} (h:bt P fn args k ins (Bytes k n f)) (r:Nat→Nat) (hfit:Fits s r ins none) (hl:l=args.map (AV.bh r)) {dst:Option Nat} {K:AS→Prop}
  (hk: ∀ x I3,(∀ t,t≠nm→I3 t=s.box t)→(∀ b,b≠nm→nt I3 b x n f)→bC I3 x n f→K ((⟨s.env,I3,s.next⟩:AS).put dst (some x))):aB P nm fn (some l) dst K s:=by
 refine h.aB r none hfit hl ?_
 rintro v out (⟨rfl,rfl,rfl⟩ | ⟨c,tail,rfl,rfl,h1,h2,h3⟩) _
 ·exact hk (V (.slice none 0 0)) s.box (fun _ _=>rfl) (fun _ _=> .inl ⟨⟨_,rfl⟩,rfl⟩) (.inl ⟨⟨_,rfl⟩,rfl⟩)
 ·rw[gb (cH h3)]
  have e:AV.bh (fb r k nm) (Sl k 0 n c)=Sl nm 0 n c:=by show Sl (fb r k nm k) 0 n c=_;rw[iB]
  rw[e]
  exact hk (Sl nm 0 n c) _ (fun t ht=>bg _ _ _ _ ht) (fun b hb=> .inr ⟨nm,0,c,true,_,rfl,ax _ _ _,cV,fun e=>hb e.symm⟩) (.inr ⟨nm,0,c,true,_,rfl,ax _ _ _,cH h3,cV⟩)
def xY (k n:Nat) (f:Nat→Int) (v:AV) (out:Nat→Option aW):Prop:=v=Sl k 0 n n∧out=lk [(k,⟨true,ae .u8 n f⟩)]
theorem xY.made {k n:Nat} {f:Nat→Int} {v:AV} {out:Nat→Option aW} (h:xY k n f v out):Made k n f v out:=
 ⟨n,[],h.1,by rw[List.append_nil];exact h.2,Nat.le_refl _,by simp,rfl⟩
theorem jd {P:Program} [Tables P] {s:AS} {fn k n nm:Nat} {f:Nat→Int} {args l:List AV} {ins:Nat→Option aW} (h:bt P fn args k ins (xY k n f)) (r:Nat→Nat) (hfit:Fits s r ins none) (hl:l=args.map (AV.bh r)) {dst:Option Nat} {K:AS→Prop}
  (hk:K ((⟨s.env,upd s.box nm (some ⟨true,ae .u8 n f⟩),s.next⟩:AS).put dst (some (Sl nm 0 n n)))):aB P nm fn (some l) dst K s:=by
 refine h.aB r none hfit hl ?_
 rintro v out ⟨rfl,rfl⟩ _
 rw[gb aw]
 have e:AV.bh (fb r k nm) (Sl k 0 n n)=Sl nm 0 n n:=by show Sl (fb r k nm k) 0 n n=_;rw[iB]
 rw[e]
 exact hk
theorem NR {P:Program} [Tables P] {s:AS} {fn k n nm:Nat} {f:Nat→Int} {args l:List AV} {ins:Nat→Option aW} (h:bt P fn args k ins (xY k n f)) (r:Nat→Nat) (hfit:Fits s r ins none) (hl:l=args.map (AV.bh r))
  (hnamed: ∀ M:Nat→Prop,(∀ v ∈ l,AV.ok M v)→ ∀ n,n < k→M (r n)) {ops:Array Oper} {i:Nat} {dst:Option Nat} {K:AS→Prop}
  (hk:K ((⟨s.env,upd s.box nm (some ⟨true,ae .u8 n f⟩),s.next⟩:AS).put dst (some (Sl nm 0 n n)))):mG P ops i nm fn (some l) dst K s:=by
 refine .inr (.inl ⟨(some (Sl nm 0 n n),some (.inl (ae .u8 n f))),h.reads r hfit hl hnamed ?_ ?_,hk⟩)
 ·rintro v out ⟨rfl,rfl⟩
  have e:AV.bh (fb r k nm) (Sl k 0 n n)=Sl nm 0 n n:=by show Sl (fb r k nm k) 0 n n=_;rw[iB]
  simp[NK,lk,bj aw,e]
 ·rintro e rfl
  exact .inr ⟨_,rfl⟩
theorem xZ (m:Nat):cS [Value.int .u8 0] m=ae .u8 m (fun _=>0):=by
 have h:(Builtin.zeroCells [Value.int IntKind.u8 0].toArray m).toList=(List.range m).map fun _=>Value.int .u8 0:=by
  simp[Builtin.zeroCells,Nat.mod_one]
 simp only[cS,h,ae,List.map_map,Function.comp_def]
section
variable {P:Program} [Tables P]
theorem QB {n c z:Nat} {hi:Option Int}:fC (some (none,z)) (some (V (.slice none n c))) (some none) (some hi)=slN c 0 (hi.getD n):=rfl
theorem QC {n c z:Nat} {l:Int} {hi:Option Int}:fC (some (none,z)) (some (V (.slice none n c))) (some (some l)) (some hi)=slN c l (hi.getD n):=rfl
theorem QD {c:Nat} {l h:Int}:slN c l h=if 0≤l∧l≤h∧h≤c then some (some (V (.slice none (h.toNat - l.toNat) (c - l.toNat))),none) else none:=rfl
theorem QE {nm:Nat} {dst:Option Nat} {K:AS→Prop} {s:AS} {ty:TypeId} {pos:String} {after:Array Edge} {xs:List Operand} {tys:Array TypeId}:cv P nm ⟨dst, .call ⟨.builtin .cap,xs.toArray,tys⟩,ty,pos,after,none⟩ K s=
  cC P nm .cap tys ty (xs.toArray.map isConst) (bN s xs) dst K s:=rfl
theorem yb {t sz:Nat} (hx:ln P t=some (none,sz)) {a:Option Addr} {n c:Nat} {s:AS} {nm:Nat} {ty:TypeId} {ct:Array Bool} {dst:Option Nat} {K:AS→Prop} (hk:K (s.put dst (some (I .i64 c)))):
  cC P nm .cap #[t] ty ct (some [V (.slice a n c)]) dst K s:=by
 intro W N w0 g a' w h
 obtain ⟨e,i,_,_,⟨_,hu⟩ | ⟨m,hm,_⟩⟩:=nh hx
 ·exact ⟨I .i64 c,g,s,w,by simp[builtin,Builtin.cap_,run_underlying hu,AV.av,CV.av,SV.av,goInt],trivial,h.mono (fun n hn=>by omega),hk⟩
 ·cases hm
theorem Gt {t tx:Nat} {kn:IntKind} (hk:ru P t=some ([Value.int .u8 0],1,1)) (hx:kindOf P tx=some kn)
  {m:Nat} {kq:IntKind} (hm0:0 < m) (hm1:m≤140737488355328) {s:AS} {nm:Nat} {ty:TypeId} {ct:Array Bool} {dst:Option Nat} {K:AS→Prop}
  (hK: ∀ c' cs',bR cs' 0 m c' (fun _=>0)→K ((⟨s.env,upd s.box nm (some ⟨true,cs'⟩),s.next⟩:AS).put dst (some (Sl nm 0 m c')))):
  cC P nm .append #[t,tx] ty ct (some [V (.slice none 0 0),I kq m]) dst K s:=by
 intro W N w0 g a w h
 obtain ⟨e,i,v,hu,hi,hv,hvz,hsz,xP⟩:=kl hk
 have hux:P.underlying tx=some (.int kn):=by
  unfold kindOf at hx
  split at hx
  ·rename_i k hk';simp only[Option.some.injEq]at hx;rw[hk',hx]
  ·cases hx
 have HB:v.cells=[Value.int .u8 0].toArray:=by rw[← hvz]
 have hr:=Lib.run_append_grow_zeros (P:=P) w t tx ty e i v kq kn hu hux hi hv none 0 0 [] (run_firstCells_none w.drew i.size 0 0 0) m hm0 (by omega) (by omega) (by omega) (by rw[xP];omega) (growslice_fits (by omega) (by rw[xP];omega))
 rw[Nat.zero_add]at hr
 have hge:=grownCap_ge w m 0 e
 generalize grownCap w m 0 e=c' at hr hge
 have hz1:([Value.int .u8 0]:List Value).all Value.oneCell'=true:=rfl
 have hp:(cS [Value.int .u8 0] m++cS [Value.int .u8 0] (c' - m)).all SV.plain=true:=by
  rw[List.all_append,dJ (by decide) hz1,dJ (by decide) hz1];rfl
 have hnb:=h.drew.sQ (nm:=nm) (Nat.lt_irrefl nm) (aJ hp) e
 refine ⟨Sl nm 0 m c',_,_,_, ?_,Nat.lt_succ_self nm,hnb.mono (fun n hn=>by rcases hn with h | h<;>omega), ?_⟩
 ·simp only[builtin,List.map_cons,List.map_nil,Sem.run_bind]
  show (((Builtin.append_ #[t,tx] ty #[.slice none 0 0, .int kq m]).run P w).andThen fun a w'=>(pure (Next.value a):Sem Next).run P w')=_
  rw[hr]
  simp only[Result.andThen_ok,Sem.run_pure,AV.av,CV.av,SV.av,ax,Nat.zero_add]
  congr 1
  show World.alloc _ _=World.alloc _ _
  congr 2
  apply Array.ext'
  simp[HB,g9]
 ·have e2:cS [Value.int .u8 0] m++cS [Value.int .u8 0] (c' - m)=ae .u8 m (fun _=>0)++cS [Value.int .u8 0] (c' - m):=by rw[xZ m]
  have:=hK c' _ (bR.row (f:=fun _=>0) hge (by rw[kp];simp) (dJ (z:=[Value.int .u8 0]) (n:=c' - m) (by decide) hz1))
  rw[← e2]at this
  exact this
end
end Go.cA
