/-
  The calculus: append onto a slice whose own cells may name boxes.
-/
import Derived.Test.YtaeagfdnfjenlaaGreatDoorVcgFv
set_option linter.unusedVariables false
set_option linter.unusedSimpArgs false
set_option linter.unusedSectionVars false
namespace Go.cn

section
variable {P:Program} [Tables P] {W:Nat→Prop} {N:Nat} {w0:Base P} {M:Nat→Prop} {g:Where} {s:AS} {a:Act} {w:World} {nm:Nat}
theorem mN {t tx Pg:Nat} {z:List Value} {sz mA:Nat} (hk:pT P t=some (z,sz,mA)) (hx:uB P tx=some (none,Pg)) (hz:z.length=sz) (hz0:0 < z.length) (zB:z.all Value.oneCell'=true)
  {b o n c m:Nat} {cs olds news:List SV} {x:AV} (hb:s.box b=some ⟨true,cs⟩) (hl:cs.length=o+c*sz) (hnc:n≤c) (WN:olds.length=n*sz) (hold: ∀ j u,olds[j]? =some u→cs[o+j]? =some u) (hcs:(cs.drop (o+n*sz)).all SV.plain=true)
  (hsrc:HI s sz x m news (some b)) (h63:n+m≤9223372036854775807) (hby:(n+m)*mA≤140737488355328) {ty:TypeId} {ct:Array Bool} {dst:Option Nat} {K:AS→Prop}
  (hK: ∀ c' tail,n+m≤c'→tail.length=(c' - (n+m))*sz→tail.all SV.plain=true→K (({ s with box:=upd (upd s.box b none) nm (some ⟨true,olds++news++tail⟩) }:AS).put dst (some (Sl nm 0 (n+m) c')))):
  fY P nm .append #[t,tx] ty ct [Sl b o n c,x] dst K s:=by
 intro W N w0 g a w h
 obtain ⟨e,i,v,hu,hi,hv,UT,hsz,vB,jj⟩:=lg hk
 obtain ⟨qZ,vC⟩:=hsrc.src h hx
 subst hsz
 have QS:news.length=m*i.size:=by simpa using qZ.newsLen
 have CQ:v.cells=z.toArray:=by rw[← UT]
 by_cases hroom:n+m≤c
 ·have hle:(n+m)*i.size≤c*i.size:=Nat.mul_le_mul_right _ hroom
  rw[Nat.add_mul]at hle
  have hr:=run_append_room_src (P:=P) w t tx ty e i hu hi (g b).1 ((g b).2+o) n c (AV.ah g x) m (news.map (SV.ah g)) qZ hroom
   (fun j hj=>by
    have hj':j < news.length:=by simpa using hj
    have hlt:o+n*i.size+j < cs.length:=by omega
    have:=h.mem.cell b _ hb (o+n*i.size+j) _ (List.getElem?_eq_getElem hlt)
    rw[show (g b).2+o+n*i.size+j=(g b).2+(o+n*i.size+j) by omega,this];rfl)
   (fun j hj=>by
    have hj':j < news.length:=by simpa using hj
    rw[show (g b).2+o+n*i.size+j=(g b).2+(o+n*i.size+j) by omega]
    exact mq (h.mem.free b _ hb rfl _ (by simp only;omega)))
  have hw:=h.write hb rfl (o:=o+n*i.size) (new:=news) (by simp only;omega) vC nm
  have J1:=hw.move (nm:=nm) (b:=b) (o:=o) (cs:=splice cs (o+n*i.size) news) (Nat.lt_irrefl nm) (by simp[AS.mem,upd])
  have hsp:(splice cs (o+n*i.size) news).drop o=olds++news++cs.drop (o+(n+m)*i.size):=by
   apply List.ext_getElem?
   intro j
   rw[List.getElem?_drop,gk _ _ _ (by omega)]
   by_cases h1:j < n*i.size
   ·rw[if_pos (by omega),List.append_assoc,List.getElem?_append_left (by omega)]
    have:=List.getElem?_eq_getElem (l:=olds) (i:=j) (by omega)
    rw[this]
    exact hold j _ this
   ·rw[if_neg (by omega)]
    by_cases h2:j < n*i.size+news.length
    ·rw[if_pos (by omega),List.append_assoc,List.getElem?_append_right (by omega),List.getElem?_append_left (by omega)]
     congr 1;omega
    ·rw[if_neg (by omega),List.getElem?_append_right (by simp;omega),List.getElem?_drop]
     congr 1;simp[Nat.add_mul];omega
  have iR: ∀ B:aI,upd (upd (upd s.box b (some ⟨true,splice cs (o+n*i.size) news⟩)) b none) nm (some B)=upd (upd s.box b none) nm (some B):=fun B=>by
   funext y;simp only[upd];split<;>try rfl
   split<;>rfl
  have he:({ (s.mem nm (some (.inr (b,⟨true,splice cs (o+n*i.size) news⟩)))) with box:=upd (upd (s.mem nm (some (.inr (b,⟨true,splice cs (o+n*i.size) news⟩)))).box b none) nm (some ⟨true,(splice cs (o+n*i.size) news).drop o⟩) }:AS)=
    { s with box:=upd (upd s.box b none) nm (some ⟨true,(splice cs (o+n*i.size) news).drop o⟩) }:=by
   simp only[AS.mem,iR]
  rw[he]at J1
  refine ⟨Sl nm 0 (n+m) c,_,_,_, ?_,Nat.lt_succ_self nm,J1.mono (fun n hn=>by rcases hn with h | h<;>omega),MY, ?_⟩
  ·simp only[builtin,List.map_cons,List.map_nil,Sem.run_bind]
   show (((Builtin.append_ #[t,tx] ty #[.slice (some ⟨(g b).1,(g b).2+o,none⟩) n c,AV.ah g x]).run P w).andThen fun a w'=>(pure (Next.value a):Sem Next).run P w')=_
   rw[hr]
   simp[AV.ah,CV.ah,SV.ah,cW,aQ,Nat.add_assoc]
  ·have:=hK c (cs.drop (o+(n+m)*i.size)) hroom (by rw[List.length_drop,hl,Nat.sub_mul];omega) (by
    rw[List.all_eq_true]at hcs ⊢
    exact fun y hy=>hcs y (by
     rw[show o+(n+m)*i.size=(o+n*i.size)+m*i.size by rw[Nat.add_mul];omega, ← List.drop_drop]at hy
     exact List.mem_of_mem_drop hy))
   rw[← hsp]at this
   exact this
 ·have HJ:(Builtin.firstCells i.size n (.slice (some ⟨(g b).1,(g b).2+o,none⟩) n c)).run P w.drew= .ok (olds.map (SV.ah g)).toArray w.drew:=by
   refine run_firstCells_some w.drew i.size n _ n c _ (by simp[WN]) (fun j u hj=> ?_)
   rw[List.getElem?_map]at hj
   cases hz:olds[j]? with
   | none=>rw[hz]at hj;cases hj
   | some y=>
    rw[hz]at hj
    simp only[Option.map_some,Option.some.injEq]at hj;subst hj
    rw[add_eq,Nat.add_assoc]
    have:=h.mem.cell b _ hb (o+j) y (hold j y hz)
    simpa using this
  have hr:=run_append_grow_src (P:=P) w t tx ty e i v hu hi hv (some ⟨(g b).1,(g b).2+o,none⟩) n c _ HJ (AV.ah g x) m (news.map (SV.ah g)) qZ (by omega) (by omega) (growslice_fits (by omega) (by rw[vB];exact hby))
  have hge:=grownCap_ge w (n+m) c e
  generalize grownCap w (n+m) c e=c' at hr hge
  have hall: ∀ y ∈ olds++news++cZ z (c' - (n+m)),SV.ok (fun n=>n < nm) y:=fun y hy=>by
   simp only[List.mem_append]at hy
   rcases hy with (hy | hy) | hy
   ·obtain ⟨j,hj⟩:=List.getElem?_of_mem hy
    exact (h.names.box b _ hb).2 y (List.mem_of_getElem? (hold j y hj))
   ·exact vC y hy
   ·exact ao (du hz0 zB jj) y hy
  have hnb:=((h.drew.sA (nm:=nm) (Nat.lt_irrefl nm) hall e).forget b)
  have Rm:b≠nm:=fun e=>Nat.lt_irrefl nm (e▸(h.names.box b _ hb).1)
  have iR:upd (upd s.box nm (some ⟨true,olds++news++cZ z (c' - (n+m))⟩)) b none=upd (upd s.box b none) nm (some ⟨true,olds++news++cZ z (c' - (n+m))⟩):=mo _ _ _ _ _ (fun e=>Rm e.symm)
  simp only[AS.mem,iR]at hnb
  refine ⟨Sl nm 0 (n+m) c',_,_,_, ?_,Nat.lt_succ_self nm,hnb.mono (fun n hn=>by rcases hn with h | h<;>omega),MY, ?_⟩
  ·simp only[builtin,List.map_cons,List.map_nil,Sem.run_bind]
   show (((Builtin.append_ #[t,tx] ty #[.slice (some ⟨(g b).1,(g b).2+o,none⟩) n c,AV.ah g x]).run P w).andThen fun a w'=>(pure (Next.value a):Sem Next).run P w')=_
   rw[hr]
   simp only[Result.andThen_ok,Sem.run_pure,AV.ah,CV.ah,SV.ah,cW,aQ,Nat.zero_add]
   congr 1
   show World.alloc _ _=World.alloc _ _
   congr 2
   apply Array.ext'
   simp[CQ,iG _ hz0 zB jj]
  ·exact hK c' _ hge (by rw[kD,hz]) (du hz0 zB jj)
end
end Go.cn
