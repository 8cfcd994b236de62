/-
  Function values with what they have captured, as rules; slices with a capacity, appended onto themselves, cleared. Nothing here speaks of a program.
-/
import Derived.Test.YtpnehhpadofcbaaGreatDoorVcgK
import Derived.Laws.Small
set_option linter.unusedVariables false
namespace Go.bU
set_option linter.unusedSectionVars false
set_option linter.unusedSimpArgs false
section
variable {P:Program} [Tables P] {K:AS→Prop} {s:AS} {nm:Nat} {dst:Option Nat} {ty:TypeId} {pos:String} {after:Array Edge} {gd:Option (Nat×Bool)}
theorem EN {f:Nat} {l:List Operand}:cl P nm ⟨dst, .makeFunc (.func f) #[] l.toArray,ty,pos,after,gd⟩ K s=bO (qx f (ny s l)) nm dst K s:=rfl
theorem EO:ny s []=some []:=rfl
theorem BL {x:Operand} {r:List Operand}:ny s (x::r)=N6 (VJ (s.aT x)) (ny s r):=rfl
theorem TX {t o:Nat}:VJ (some (Ptr t o))=some (.pointer (some ⟨t,o,none⟩)):=rfl
theorem BM {v:Value} {l:List Value}:N6 (some v) (some l)=some (v::l):=rfl
theorem Js {f:Nat} {l:List Value}:qx f (some l)=some (some (V (.func (.func f) #[] ⟨l⟩)),none):=rfl
theorem EP {d:Nat} {xs:List Operand} {tys:Array TypeId}:cl P nm ⟨dst, .call ⟨.value (.tmp d),xs.toArray,tys⟩,ty,pos,after,gd⟩ K s=LG P nm (s.env d) (bD s xs) dst K s:=rfl
theorem PD {f:Nat} {l:List Value} {xs:Option (List AV)}:LG P nm (some (V (.func (.func f) #[] ⟨l⟩))) xs dst K s=(ai P f=true∧ax P nm f (LD xs (sA l)) dst K s):=rfl
theorem ER:sA []=some []:=rfl
theorem BN {x:Value} {r:List Value}:sA (x::r)=Oa (VP x) (sA r):=rfl
theorem TY {b o:Nat}:VP (.pointer (some ⟨b,o,none⟩))=some (Ptr b o):=rfl
theorem BO {v:AV} {l:List AV}:Oa (some v) (some l)=some (v::l):=rfl
theorem ES {l m:List AV}:LD (some l) (some m)=some (l++m):=rfl
theorem BP {t:Nat} {x mx:Operand} {lo hi:Option Operand}:cl P nm ⟨dst, .slice t x lo hi (some mx),ty,pos,after,gd⟩ K s=bO (kG (rZ P t) (s.aT x) (fY s lo) (fY s hi) (fY s (some mx))) nm dst K s:=rfl
theorem BQ {z b o n c:Nat} {l h m:Int}:kG (some (none,z)) (some (Sl b o n c)) (some (some l)) (some (some h)) (some (some m))=
  if 0≤l∧l≤h∧h≤m∧m≤c then some (some (Sl b (if m.toNat=l.toNat then o else o+l.toNat*z) (h.toNat - l.toNat) (m.toNat - l.toNat)),none) else none:=rfl
theorem ET {xs:List Operand} {tys:Array TypeId}:cl P nm ⟨dst, .call ⟨.builtin .clear,xs.toArray,tys⟩,ty,pos,after,gd⟩ K s=
  bQ P nm .clear tys ty (xs.toArray.map isConst) (bD s xs) dst K s:=rfl
theorem PE {M:Nat→Prop} {f:Fn} {as:Array Value}:lq M (.func f as ⟨[]⟩)=True:=eq_true fun c hc=>by cases hc
theorem Jt {M:Nat→Prop} {f:Fn} {as:Array Value} {b o:Nat} {l:List Value}:lq M (.func f as ⟨.pointer (some ⟨b,o,none⟩)::l⟩)=(M b∧lq M (.func f as ⟨l⟩)):=by
 refine propext ⟨fun h=>⟨h _ (List.mem_cons_self ..),fun c hc=>h c (List.mem_cons_of_mem _ hc)⟩,fun h c hc=> ?_⟩
 rcases List.mem_cons.1 hc with rfl | hc
 ·exact h.1
 ·exact h.2 c hc
theorem okF {M:Nat→Prop} {f:Fn} {as cs:Array Value}:AV.ok M (V (.func f as cs))=lq M (.func f as cs):=rfl
theorem Ju {xs:List Operand} {tys:Array TypeId}:cl P nm ⟨dst, .call ⟨.builtin .max,xs.toArray,tys⟩,ty,pos,after,gd⟩ K s=
  bQ P nm .max tys ty (xs.toArray.map isConst) (bD s xs) dst K s:=rfl
theorem tE:type_of% @PE∧type_of% @Jt∧type_of% @okF∧type_of% @Ju∧type_of% @EN∧type_of% @EO∧type_of% @BL∧type_of% @TX∧type_of% @BM∧type_of% @Js∧type_of% @EP∧type_of% @PD∧type_of% @ER∧type_of% @BN∧type_of% @TY∧type_of% @BO∧type_of% @ES∧type_of% @BP∧type_of% @BQ∧type_of% @ET:=
 ⟨@PE, @Jt, @okF, @Ju, @EN, @EO, @BL, @TX, @BM, @Js, @EP, @PD, @ER, @BN, @TY, @BO, @ES, @BP, @BQ, @ET⟩
theorem Gb {tys:Array TypeId} {ct:Array Bool} {k k':IntKind} {x y:Int} (hK:K (s.put dst (some (I k (if y > x then y else x))))):bQ P nm .max tys ty ct (some [I k x,I k' y]) dst K s:=by
 intro W N w0 g a w h
 refine ⟨I k (if y > x then y else x),g,s,w, ?_,trivial,h.mono (fun n hn=>by omega),hK⟩
 simp only[builtin,List.map_cons,List.map_nil,Sem.run_bind]
 show (((Builtin.max_ tys ty #[.int k x, .int k' y]).run P w).andThen fun a w'=>(pure (Next.value a):Sem Next).run P w')=_
 rw[run_max_int2]
 rfl
theorem Gc {t tx LS:Nat} {z:List Value} {sz by':Nat} (hk:qh P t=some (z,sz,by')) (hx:rZ P tx=some (none,LS))
  {b o n c m o2 c2:Nat} {cs:List SV} (hb:s.box b=some ⟨true,cs⟩) (hroom:n+m≤c) (hl:o+(n+m)*sz≤cs.length) (h2:o2+m*sz≤cs.length) {ct:Array Bool}
  (hK:K (({ s with box:=upd s.box b (some ⟨true,splice cs (o+n*sz) ((cs.drop o2).take (m*sz))⟩) }:AS).put dst (some (Sl b o (n+m) c)))) (hxz:LS=sz):
  bQ P nm .append #[t,tx] ty ct (some [Sl b o n c,Sl b o2 m c2]) dst K s:=by
 intro W N w0 g a w h
 obtain ⟨e,i,v,hu,hi,hv,S7,hsz,xy,j5⟩:=j8 hk
 have LJ:((cs.drop o2).take (m*sz)).length=m*sz:=by simp;omega
 have hsrc:LR s LS (Sl b o2 m c2) m ((cs.drop o2).take (m*sz)) none:= .inl ⟨b,o2,c2,_,rfl,hb,by rw[LJ,hxz],(fun j u hj=>by
  rw[List.getElem?_take]at hj
  split at hj
  ·rw[List.getElem?_drop]at hj;exact hj
  ·cases hj),by simp⟩
 obtain ⟨G6,vF⟩:=hsrc.src h hx
 subst hsz hxz
 rw[Nat.add_mul]at hl
 have hr:=run_append_room_src (P:=P) w t tx ty e i hu hi (g b).1 ((g b).2+o) n c (AV.aq g (Sl b o2 m c2)) m (((cs.drop o2).take (m*i.size)).map (SV.aq g)) G6 hroom
  (fun j hj=>by
   have hj':j < m*i.size:=by rw[List.length_map,LJ]at hj;exact hj
   have hlt:o+n*i.size+j < cs.length:=by omega
   have:=h.mem.cell b _ hb (o+n*i.size+j) _ (List.getElem?_eq_getElem hlt)
   rw[show (g b).2+o+n*i.size+j=(g b).2+(o+n*i.size+j) by omega,this];rfl)
  (fun j hj=>by
   have hj':j < m*i.size:=by rw[List.length_map,LJ]at hj;exact hj
   rw[show (g b).2+o+n*i.size+j=(g b).2+(o+n*i.size+j) by omega]
   exact kF (h.mem.free b _ hb rfl _ (by simp only;omega)))
 have hw:=h.write hb rfl (o:=o+n*i.size) (new:=(cs.drop o2).take (m*i.size)) (by simp only[LJ];omega) vF nm
 refine ⟨Sl b o (n+m) c,_,_,_, ?_,Nat.lt_succ_of_lt ((h.names.box b _ hb).1),hw.mono (fun n hn=>by omega),hK⟩
 simp only[builtin,List.map_cons,List.map_nil,Sem.run_bind]
 show (((Builtin.append_ #[t,tx] ty #[.slice (some ⟨(g b).1,(g b).2+o,none⟩) n c,AV.aq g (Sl b o2 m c2)]).run P w).andThen fun a w'=>(pure (Next.value a):Sem Next).run P w')=_
 rw[hr]
 simp[AV.aq,CV.aq,SV.aq,cP,Nat.add_assoc]
theorem T0 {t:Nat} {z:List Value} {sz by':Nat} (hk:qh P t=some (z,sz,by')) (hz:z.length=sz) (CW:0 < z.length) (CX:z.all Value.oneCell'=true)
  {b o n c:Nat} {cs:List SV} (hb:s.box b=some ⟨true,cs⟩) (hl:o+n*sz≤cs.length) {ct:Array Bool}
  (hK:K (({ s with box:=upd s.box b (some ⟨true,splice cs o (cC z n)⟩) }:AS).put dst (some (.inr [])))):
  bQ P nm .clear #[t] ty ct (some [Sl b o n c]) dst K s:=by
 intro W N w0 g a w h
 obtain ⟨e,i,v,hu,hi,hv,S7,hsz,xy,j5⟩:=j8 hk
 subst hsz
 have DB:v.cells=z.toArray:=by rw[← S7]
 have LJ:(cC z n).length=n*i.size:=by rw[jB,hz]
 have hp:=dh (n:=n) CW CX j5
 have vF: ∀ y ∈ cC z n,SV.ok (fun n=>n < nm) y:=aC hp
 have hw:=h.write hb rfl (o:=o) (new:=cC z n) (by simp only[LJ];omega) vF nm
 refine ⟨.inr [],_,_,_, ?_,fun x hx=>(by cases hx),hw.mono (fun n hn=>by omega),hK⟩
 simp only[builtin,List.map_cons,List.map_nil,Sem.run_bind]
 show (((Builtin.clear_ #[t] ty #[.slice (some ⟨(g b).1,(g b).2+o,none⟩) n c]).run P w).andThen fun a w'=>(pure (Next.value a):Sem Next).run P w')=_
 rw[iu g CW CX j5]
 have hzl:(Builtin.zeroCells z.toArray n).toList.length=n*i.size:=by
  have:(cC z n).length=(Builtin.zeroCells z.toArray n).toList.length:=by simp[cC]
  omega
 have hst:=run_storeCells_cells (P:=P) (g b).1 ((g b).2+o) (Builtin.zeroCells z.toArray n).toList 0 w
  (fun j hj=>by
   have hlt:o+j < cs.length:=by omega
   have:=h.mem.cell b _ hb (o+j) _ (List.getElem?_eq_getElem hlt)
   rw[show (g b).2+o+0+j=(g b).2+(o+j) by omega,this];rfl)
  (fun j hj=>by
   rw[show (g b).2+o+0+j=(g b).2+(o+j) by omega]
   exact kF (h.mem.free b _ hb rfl _ (by simp only;omega)))
  (fun u hu=>by
   have:(.inl u:SV) ∈ cC z n:=List.mem_map_of_mem hu
   exact (Bool.and_eq_true_iff.1 (List.all_eq_true.1 hp _ this)).1)
 simp only[Nat.add_zero]at hst
 cases n with
 | zero=>
  have:(Builtin.zeroCells z.toArray 0).toList=[]:=by
   apply List.eq_nil_of_length_eq_zero;omega
  rw[this]
  simp[Builtin.clear_,run_underlying hu,World.setCells,AV.aq]
 | succ n=>
  simp[Builtin.clear_,run_underlying hu,zeroValue,typeInfo,hi,hv,DB,hst,AV.aq]
end
end Go.bU
