/-
  Function values with what they have captured, as rules; slices with a capacity, appended onto themselves, cleared. Nothing here speaks of a program.
-/
import Derived.Test.YtbipdofobgabhaaGreatDoorVcgK
import Derived.Laws.Small
set_option linter.unusedVariables false
namespace Go.bA
set_option linter.unusedSectionVars false
set_option linter.unusedSimpArgs false
section
variable {P:Program} [Tables P] {K:AS→Prop} {s:AS} {nm:Nat} {dst:Option Nat} {ty:TypeId} {pos:String} {after:Array Edge} {gd:Option (Nat×Bool)}
theorem BN {f:Nat} {l:List Operand}:bM P nm ⟨dst, .makeFunc (.func f) #[] l.toArray,ty,pos,after,gd⟩ K s=bD (oQ f (lT s l)) nm dst K s:=rfl
theorem BO:lT s []=some []:=rfl
theorem yP {x:Operand} {r:List Operand}:lT s (x::r)=KV (T5 (s.aL x)) (lT s r):=rfl
theorem Ri {t o:Nat}:T5 (some (Ptr t o))=some (.pointer (some ⟨t,o,none⟩)):=rfl
theorem yQ {v:Value} {l:List Value}:KV (some v) (some l)=some (v::l):=rfl
theorem GL {f:Nat} {l:List Value}:oQ f (some l)=some (some (V (.func (.func f) #[] ⟨l⟩)),none):=rfl
theorem BP {d:Nat} {xs:List Operand} {tys:Array TypeId}:bM P nm ⟨dst, .call ⟨.value (.tmp d),xs.toArray,tys⟩,ty,pos,after,gd⟩ K s=IJ P nm (s.env d) (bk s xs) dst K s:=rfl
theorem Mr {f:Nat} {l:List Value} {xs:Option (List AV)}:IJ P nm (some (V (.func (.func f) #[] ⟨l⟩))) xs dst K s=(au P f=true∧aB P nm f (II xs (qp l)) dst K s):=rfl
theorem BQ:qp []=some []:=rfl
theorem yR {x:Value} {r:List Value}:qp (x::r)=KX (Ub x) (qp r):=rfl
theorem Rj {b o:Nat}:Ub (.pointer (some ⟨b,o,none⟩))=some (Ptr b o):=rfl
theorem yS {v:AV} {l:List AV}:KX (some v) (some l)=some (v::l):=rfl
theorem BR {l m:List AV}:II (some l) (some m)=some (l++m):=rfl
theorem yT {t:Nat} {x mx:Operand} {lo hi:Option Operand}:bM P nm ⟨dst, .slice t x lo hi (some mx),ty,pos,after,gd⟩ K s=bD (jE (sZ P t) (s.aL x) (eV s lo) (eV s hi) (eV s (some mx))) nm dst K s:=rfl
theorem yU {z b o n c:Nat} {l h m:Int}:jE (some (none,z)) (some (Sl b o n c)) (some (some l)) (some (some h)) (some (some m))=
  if 0≤l∧l≤h∧h≤m∧m≤c then some (some (Sl b (if m.toNat=l.toNat then o else o+l.toNat*z) (h.toNat - l.toNat) (m.toNat - l.toNat)),none) else none:=rfl
theorem BS {xs:List Operand} {tys:Array TypeId}:bM P nm ⟨dst, .call ⟨.builtin .clear,xs.toArray,tys⟩,ty,pos,after,gd⟩ K s=
  bS P nm .clear tys ty (xs.toArray.map isConst) (bk s xs) dst K s:=rfl
theorem Ms {M:Nat→Prop} {f:Fn} {as:Array Value}:j9 M (.func f as ⟨[]⟩)=True:=eq_true fun c hc=>by cases hc
theorem GM {M:Nat→Prop} {f:Fn} {as:Array Value} {b o:Nat} {l:List Value}:j9 M (.func f as ⟨.pointer (some ⟨b,o,none⟩)::l⟩)=(M b∧j9 M (.func f as ⟨l⟩)):=by
 refine propext ⟨fun h=>⟨h _ (List.mem_cons_self ..),fun c hc=>h c (List.mem_cons_of_mem _ hc)⟩,fun h c hc=> ?_⟩
 rcases List.mem_cons.1 hc with rfl | hc
 ·exact h.1
 ·exact h.2 c hc
theorem okF {M:Nat→Prop} {f:Fn} {as cs:Array Value}:AV.ok M (V (.func f as cs))=j9 M (.func f as cs):=rfl
theorem GN {xs:List Operand} {tys:Array TypeId}:bM P nm ⟨dst, .call ⟨.builtin .max,xs.toArray,tys⟩,ty,pos,after,gd⟩ K s=
  bS P nm .max tys ty (xs.toArray.map isConst) (bk s xs) dst K s:=rfl
theorem rB:type_of% @Ms∧type_of% @GM∧type_of% @okF∧type_of% @GN∧type_of% @BN∧type_of% @BO∧type_of% @yP∧type_of% @Ri∧type_of% @yQ∧type_of% @GL∧type_of% @BP∧type_of% @Mr∧type_of% @BQ∧type_of% @yR∧type_of% @Rj∧type_of% @yS∧type_of% @BR∧type_of% @yT∧type_of% @yU∧type_of% @BS:=
 ⟨@Ms, @GM, @okF, @GN, @BN, @BO, @yP, @Ri, @yQ, @GL, @BP, @Mr, @BQ, @yR, @Rj, @yS, @BR, @yT, @yU, @BS⟩
theorem De {tys:Array TypeId} {ct:Array Bool} {k k':IntKind} {x y:Int} (hK:K (s.put dst (some (I k (if y > x then y else x))))):bS P nm .max tys ty ct (some [I k x,I k' y]) dst K s:=by
 intro W N w0 g a w h
 refine ⟨I k (if y > x then y else x),g,s,w, ?_,trivial,h.mono (fun n hn=>by omega),hK⟩
 simp only[builtin,List.map_cons,List.map_nil,Sem.run_bind]
 show (((Builtin.max_ tys ty #[.int k x, .int k' y]).run P w).andThen fun a w'=>(pure (Next.value a):Sem Next).run P w')=_
 rw[run_max_int2]
 rfl
theorem Df {t tx FG:Nat} {z:List Value} {sz kB:Nat} (hk:qQ P t=some (z,sz,kB)) (hx:sZ P tx=some (none,FG))
  {b o n c m o2 c2:Nat} {cs:List SV} (hb:s.box b=some ⟨true,cs⟩) (hroom:n+m≤c) (hl:o+(n+m)*sz≤cs.length) (h2:o2+m*sz≤cs.length) {ct:Array Bool}
  (hK:K (({ s with box:=upd s.box b (some ⟨true,splice cs (o+n*sz) ((cs.drop o2).take (m*sz))⟩) }:AS).put dst (some (Sl b o (n+m) c)))) (hxz:FG=sz):
  bS P nm .append #[t,tx] ty ct (some [Sl b o n c,Sl b o2 m c2]) dst K s:=by
 intro W N w0 g a w h
 obtain ⟨e,i,v,hu,hi,hv,Qu,hsz,yp,jD⟩:=iY hk
 have KY:((cs.drop o2).take (m*sz)).length=m*sz:=by simp;omega
 have hsrc:FE s FG (Sl b o2 m c2) m ((cs.drop o2).take (m*sz)) none:= .inl ⟨b,o2,c2,_,rfl,hb,by rw[KY,hxz],(fun j u hj=>by
  rw[List.getElem?_take]at hj
  split at hj
  ·rw[List.getElem?_drop]at hj;exact hj
  ·cases hj),by simp⟩
 obtain ⟨zH,tA⟩:=hsrc.src h hx
 subst hsz hxz
 rw[Nat.add_mul]at hl
 have hr:=run_append_room_src (P:=P) w t tx ty e i hu hi (g b).1 ((g b).2+o) n c (AV.aq g (Sl b o2 m c2)) m (((cs.drop o2).take (m*i.size)).map (SV.aq g)) zH hroom
  (fun j hj=>by
   have hj':j < m*i.size:=by rw[List.length_map,KY]at hj;exact hj
   have hlt:o+n*i.size+j < cs.length:=by omega
   have:=h.mem.cell b _ hb (o+n*i.size+j) _ (List.getElem?_eq_getElem hlt)
   rw[show (g b).2+o+n*i.size+j=(g b).2+(o+n*i.size+j) by omega,this];rfl)
  (fun j hj=>by
   have hj':j < m*i.size:=by rw[List.length_map,KY]at hj;exact hj
   rw[show (g b).2+o+n*i.size+j=(g b).2+(o+n*i.size+j) by omega]
   exact jC (h.mem.free b _ hb rfl _ (by simp only;omega)))
 have hw:=h.write hb rfl (o:=o+n*i.size) (new:=(cs.drop o2).take (m*i.size)) (by simp only[KY];omega) tA nm
 refine ⟨Sl b o (n+m) c,_,_,_, ?_,Nat.lt_succ_of_lt ((h.names.box b _ hb).1),hw.mono (fun n hn=>by omega),hK⟩
 simp only[builtin,List.map_cons,List.map_nil,Sem.run_bind]
 show (((Builtin.append_ #[t,tx] ty #[.slice (some ⟨(g b).1,(g b).2+o,none⟩) n c,AV.aq g (Sl b o2 m c2)]).run P w).andThen fun a w'=>(pure (Next.value a):Sem Next).run P w')=_
 rw[hr]
 simp[AV.aq,CV.aq,SV.aq,bX,Nat.add_assoc]
theorem Rk {t:Nat} {z:List Value} {sz kB:Nat} (hk:qQ P t=some (z,sz,kB)) (hz:z.length=sz) (hz0:0 < z.length) (D9:z.all Value.oneCell'=true)
  {b o n c:Nat} {cs:List SV} (hb:s.box b=some ⟨true,cs⟩) (hl:o+n*sz≤cs.length) {ct:Array Bool}
  (hK:K (({ s with box:=upd s.box b (some ⟨true,splice cs o (cZ z n)⟩) }:AS).put dst (some (.inr [])))):
  bS P nm .clear #[t] ty ct (some [Sl b o n c]) dst K s:=by
 intro W N w0 g a w h
 obtain ⟨e,i,v,hu,hi,hv,Qu,hsz,yp,jD⟩:=iY hk
 subst hsz
 have Ek:v.cells=z.toArray:=by rw[← Qu]
 have KY:(cZ z n).length=n*i.size:=by rw[jH,hz]
 have hp:=cQ (n:=n) hz0 D9 jD
 have tA: ∀ y ∈ cZ z n,SV.ok (fun n=>n < nm) y:=aD hp
 have hw:=h.write hb rfl (o:=o) (new:=cZ z n) (by simp only[KY];omega) tA nm
 refine ⟨.inr [],_,_,_, ?_,fun x hx=>(by cases hx),hw.mono (fun n hn=>by omega),hK⟩
 simp only[builtin,List.map_cons,List.map_nil,Sem.run_bind]
 show (((Builtin.clear_ #[t] ty #[.slice (some ⟨(g b).1,(g b).2+o,none⟩) n c]).run P w).andThen fun a w'=>(pure (Next.value a):Sem Next).run P w')=_
 rw[ki g hz0 D9 jD]
 have hzl:(Builtin.zeroCells z.toArray n).toList.length=n*i.size:=by
  have:(cZ z n).length=(Builtin.zeroCells z.toArray n).toList.length:=by simp[cZ]
  omega
 have hst:=run_storeCells_cells (P:=P) (g b).1 ((g b).2+o) (Builtin.zeroCells z.toArray n).toList 0 w
  (fun j hj=>by
   have hlt:o+j < cs.length:=by omega
   have:=h.mem.cell b _ hb (o+j) _ (List.getElem?_eq_getElem hlt)
   rw[show (g b).2+o+0+j=(g b).2+(o+j) by omega,this];rfl)
  (fun j hj=>by
   rw[show (g b).2+o+0+j=(g b).2+(o+j) by omega]
   exact jC (h.mem.free b _ hb rfl _ (by simp only;omega)))
  (fun u hu=>by
   have:(.inl u:SV) ∈ cZ z n:=List.mem_map_of_mem hu
   exact (Bool.and_eq_true_iff.1 (List.all_eq_true.1 hp _ this)).1)
 simp only[Nat.add_zero]at hst
 cases n with
 | zero=>
  have:(Builtin.zeroCells z.toArray 0).toList=[]:=by
   apply List.eq_nil_of_length_eq_zero;omega
  rw[this]
  simp[Builtin.clear_,run_underlying hu,World.setCells,AV.aq]
 | succ n=>
  simp[Builtin.clear_,run_underlying hu,zeroValue,typeInfo,hi,hv,Ek,hst,AV.aq]
end
end Go.bA
