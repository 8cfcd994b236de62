/-
  The calculus: calls with room for several boxes, by contract. Nothing here speaks of a program.
-/
import Derived.Test.YtaeagfdnfjenlaaGreatDoorVcgWi
set_option linter.unusedVariables false
set_option linter.unusedSectionVars false
set_option linter.unusedSimpArgs false
namespace Go.cn

section
variable {P:Program} [Tables P] {s:AS} {nm:Nat}
theorem nz {r:Nat→Nat} {k nm:Nat}:aV r k nm k=nm:=by unfold aV;rw[if_neg (by omega)];omega
theorem fq {r:Nat→Nat} {k:Nat} {out:Nat→Option aI}:gH s r k 1 nm none out=upd s.box nm ((out k).map (aI.ren (aV r k nm))):=by
 funext t
 unfold gH upd
 by_cases h:t=nm
 ·subst h;simp
 ·rw[if_neg (by omega)];simp[h]
theorem H9 {r:Nat→Nat} {k:Nat} {out:Nat→Option aI}:gH s r k 2 nm none out=upd (upd s.box nm ((out k).map (aI.ren (aV r k nm)))) (nm+1) ((out (k+1)).map (aI.ren (aV r k nm))):=by
 funext t
 unfold gH upd
 by_cases h:t=nm
 ·subst h;simp
 by_cases h1:t=nm+1
 ·subst h1;simp
 ·rw[if_neg (by omega)];simp[h,h1]
theorem Pure.cq {f:Nat} {l:List AV} {Post:AV→Prop} (h:Pure P f l Post) {dst:Option Nat} {K:AS→Prop} (hk: ∀ r,Post r→K (s.put dst (some r))):
  cq P nm f (some l) dst K s:=by
 intro W N w0 g a w bk
 have hl:l.map (AV.ah g)=l.map AV.val:=List.map_congr_left fun x hx=>AV.iE (List.all_eq_true.1 h.args x hx) g
 rw[hl]
 refine (h.call w bk.laid).mono ?_
 rintro e w' ⟨r,hr,rfl,n8⟩
 exact ⟨r,g,s.box,by rw[AV.iE (h.res r hr)],AV.ek (h.res r hr),(bk.kept n8).mono (fun n hn=>by omega),fun t b hb=> .inr ⟨b,hb,rfl⟩,hk r hr⟩
theorem pU.cq {f:Nat} {l:List AV} {r:AV} (h:pU P f l r) {dst:Option Nat} {K:AS→Prop} (hk:K (s.put dst (some r))):
  cq P nm f (some l) dst K s:=Pure.cq h (fun _ hv=>hv▸hk)
theorem bd.cq {f k:Nat} {args l:List AV} {ins:Nat→Option aI} {Post:AV→(Nat→Option aI)→Prop} (h:bd P f args k ins Post) (r:Nat→Nat) (hfit:Fits s r ins none) (hl:l=args.map (AV.ren r))
  {dst:Option Nat} {K:AS→Prop} (hk: ∀ v out,Post v out→K ((⟨s.env,upd s.box nm ((out k).map (aI.ren (aV r k nm))),s.next⟩:AS).put dst (some (AV.ren (aV r k nm) v)))):Go.cn.cq P nm f (some l) dst K s:=
 h.wide.av r none hfit hl fun v out hp=>by rw[fq];exact hk v out hp
theorem eW {ops:Array Oper} {K:AS→Prop} {s:AS} (hm:P.follows .mixedOrders=true) (A R Z F dm D:List Nat) (h1:iH ops A R Z F=true) (h2:(R++Z).all (iq P ops)=true) (hD:dstsOf ops (A++R++Z++F)=D)
  (hv:ij P ops s.next (fun sr=>da P ops s.next K (R++Z++F) 0 ⟨sr.env,nO dm s.box,s.next⟩) A ⟨uL D s.env,fun t=>DL (nO dm s.box t),s.next⟩):Ae P ops K s:=
 ⟨hm, .inl ⟨A,R,Z,F,dm,h1,h2,by subst hD;exact hv⟩⟩
theorem H' {ops:Array Oper} {K:AS→Prop} {s:AS} (hm:P.follows .mixedOrders=true) (A R Z F dm pm D:List Nat) (h1:iH ops A R Z F=true) (h2:(R++Z).all (iq P ops)=true) (hD:dstsOf ops (A++R++Z++F)=D)
  (hb: ∀ t ∈ pm,dm.contains t=true∧ ∃ cs,s.box t=some ⟨true,cs⟩)
  (hv:ij P ops s.next (fun sr=>da P ops s.next (fun s1=>da P ops s.next K (Z++F) R.length ⟨s1.env,J3 pm s.box s1.box,s1.next⟩) R 0 ⟨sr.env,nO dm s.box,s.next⟩) A ⟨uL D s.env,fun t=>DL (nO dm s.box t),s.next⟩):Ae P ops K s:=
 ⟨hm, .inr (.inl ⟨A,R,Z,F,dm,pm,h1,h2,hb,by subst hD;exact hv⟩)⟩
theorem lq {ops:Array Oper} {K:AS→Prop} {s:AS} (hm:P.follows .mixedOrders=true) (A R Z F dm pm D:List Nat) (tr:dc) (h1:j4 ops A R Z F=true) (h3:EY ops F tr=true) (h2:(R++Z).all (iq P ops)=true) (hD:dstsOf ops (A++R++Z++F)=D)
  (hb: ∀ t ∈ pm,dm.contains t=true∧ ∃ cs,s.box t=some ⟨true,cs⟩)
  (hv:ij P ops s.next (fun sr=>da P ops s.next (fun s1=>da P ops s.next (fun s2=>Ck P ops (s.next+4*(R.length+Z.length+1)) K tr 0 s2) Z R.length ⟨s1.env,J3 pm s.box s1.box,s1.next⟩) R 0 ⟨sr.env,nO dm s.box,s.next⟩) A ⟨uL D s.env,fun t=>DL (nO dm s.box t),s.next⟩):Ae P ops K s:=
 ⟨hm, .inr (.inr ⟨A,R,Z,F,dm,pm,tr,h1,h3,h2,hb,by subst hD;exact hv⟩)⟩
theorem jg {pm:List Nat} {b0 b:Nat→Option aI} {t:Nat}:J3 pm b0 b t=if pm.contains t=true then b0 t else b t:=rfl
theorem RQ {D:List Nat} {env:Nat→Option AV} {d:Nat}:uL D env d=if D.contains d=true then none else env d:=rfl
def dmO (b:Option aI):Option aI:=b.map fun b=>⟨false,b.cells⟩
theorem RR {D:List Nat} {box:Nat→Option aI} {t:Nat}:nO D box t=if D.contains t=true then dmO (box t) else box t:=by
 unfold nO dmO
 split
 ·cases box t<;>rfl
 ·rfl
theorem Ia {rw:Bool} {cs:List SV}:dmO (some ⟨rw,cs⟩)=some ⟨false,cs⟩:=rfl
theorem Nq {d:Nat}:([]:List Nat).contains d=false:=rfl
theorem Ib {a d:Nat} {l:List Nat}:(a::l).contains d=(d==a||l.contains d):=List.contains_cons
theorem Ic {nm:Nat}:AS.mem s nm none=s:=rfl
theorem rg5:List.range' 0 5=[0,1,2,3,4]:=rfl
theorem rg7:List.range' 0 7=[0,1,2,3,4,5,6]:=rfl
theorem abh:List.range' 0 10=[0,1,2,3,4,5,6,7,8,9]:=rfl
theorem aq:type_of% @rg5∧type_of% @rg7∧type_of% @abh∧type_of% @Ic∧type_of% @RQ∧type_of% @RR∧type_of% @Ia∧type_of% @VB∧type_of% @Ib∧type_of% @Nq∧type_of% @Bool.or_false∧type_of% @Bool.or_true:=
 ⟨@rg5, @rg7, @abh, @Ic, @RQ, @RR, @Ia, @VB, @Ib, @Nq, @Bool.or_false, @Bool.or_true⟩
end
end Go.cn
