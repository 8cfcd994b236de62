/-
  The calculus: calls with room for several boxes, by contract. Nothing here speaks of a program.
-/
import Derived.Test.YtkaamnnjeandlaaDoorVcgWi
set_option linter.unusedVariables false
set_option linter.unusedSectionVars false
set_option linter.unusedSimpArgs false
namespace Go.bM

section
variable {P:Program} [Tables P] {s:AS} {nm:Nat}
theorem lC {r:Nat→Nat} {k nm:Nat}:aR r k nm k=nm:=by unfold aR;rw[if_neg (by omega)];omega
theorem dJ {r:Nat→Nat} {k:Nat} {out:Nat→Option aG}:ia s r k 1 nm none out=upd s.box nm ((out k).map (aG.ren (aR r k nm))):=by
 funext t
 unfold ia upd
 by_cases h:t=nm
 ·subst h;simp
 ·rw[if_neg (by omega)];simp[h]
theorem Pure.bD {f:Nat} {l:List AV} {Post:AV→Prop} (h:Pure P f l Post) {dst:Option Nat} {K:AS→Prop} (hk: ∀ r,Post r→K (s.put dst (some r))):
  bD P nm f (some l) dst K s:=by
 intro W N w0 g a w bh
 have hl:l.map (AV.ah g)=l.map AV.val:=List.map_congr_left fun x hx=>AV.gj (List.all_eq_true.1 h.args x hx) g
 rw[hl]
 refine (h.call w bh.laid).mono ?_
 rintro e w' ⟨r,hr,rfl,qV⟩
 exact ⟨r,g,s.box,by rw[AV.gj (h.res r hr)],AV.dq (h.res r hr),(bh.kept qV).mono (fun n hn=>by omega),fun t b hb=> .inr ⟨b,hb,rfl⟩,hk r hr⟩
theorem sM.bD {f:Nat} {l:List AV} {r:AV} (h:sM P f l r) {dst:Option Nat} {K:AS→Prop} (hk:K (s.put dst (some r))):
  bD P nm f (some l) dst K s:=Pure.bD h (fun _ hv=>hv▸hk)
theorem bC.bD {f k:Nat} {args l:List AV} {ins:Nat→Option aG} {Post:AV→(Nat→Option aG)→Prop} (h:bC P f args k ins Post) (r:Nat→Nat) (hfit:Fits s r ins none) (hl:l=args.map (AV.ren r))
  {dst:Option Nat} {K:AS→Prop} (hk: ∀ v out,Post v out→K ((⟨s.env,upd s.box nm ((out k).map (aG.ren (aR r k nm))),s.next⟩:AS).put dst (some (AV.ren (aR r k nm) v)))):Go.bM.bD P nm f (some l) dst K s:=
 h.wide.aB r none hfit hl fun v out hp=>by rw[dJ];exact hk v out hp
theorem dK {ops:Array Oper} {K:AS→Prop} {s:AS} (hm:P.follows .mixedOrders=true) (A R Z F dm D:List Nat) (h1:kJ ops A R Z F=true) (h2:(R++Z).all (iH P ops)=true) (hD:dstsOf ops (A++R++Z++F)=D)
  (hv:gp P ops s.next (fun sr=>cm P ops s.next K (R++Z++F) 0 ⟨sr.env,kI dm s.box,s.next⟩) A ⟨vN D s.env,fun t=>E5 (kI dm s.box t),s.next⟩):tC P ops K s:=
 ⟨hm, .inl ⟨A,R,Z,F,dm,h1,h2,D,fun d hd=>by rw[← hD,c9];exact List.mem_append_left _ hd,hv⟩⟩
theorem J1 {ops:Array Oper} {K:AS→Prop} {s:AS} (hm:P.follows .mixedOrders=true) (A R Z F dm D:List Nat) (h1:kJ ops A R Z F=true) (h2:(R++Z).all (iH P ops)=true) (hD:dstsOf ops (A++R++Z)=D)
  (hv:gp P ops s.next (fun sr=>cm P ops s.next K (R++Z++F) 0 ⟨sr.env,kI dm s.box,s.next⟩) A ⟨vN D s.env,fun t=>E5 (kI dm s.box t),s.next⟩):tC P ops K s:=
 ⟨hm, .inl ⟨A,R,Z,F,dm,h1,h2,D,fun d hd=>by rw[← hD];exact hd,hv⟩⟩
theorem DI {ops:Array Oper} {K:AS→Prop} {s:AS} (hm:P.follows .mixedOrders=true) (A R Z F dm pm D:List Nat) (h1:kJ ops A R Z F=true) (h2:(R++Z).all (iH P ops)=true) (hD:dstsOf ops (A++R++Z++F)=D)
  (hb: ∀ t ∈ pm,dm.contains t=true∧ ∃ cs,s.box t=some ⟨true,cs⟩)
  (hv:gp P ops s.next (fun sr=>cm P ops s.next (fun s1=>cm P ops s.next K (Z++F) R.length ⟨s1.env,E6 pm s.box s1.box,s1.next⟩) R 0 ⟨sr.env,kI dm s.box,s.next⟩) A ⟨vN D s.env,fun t=>E5 (kI dm s.box t),s.next⟩):tC P ops K s:=
 ⟨hm, .inr (.inl ⟨A,R,Z,F,dm,pm,h1,h2,hb,by subst hD;exact hv⟩)⟩
theorem jC {ops:Array Oper} {K:AS→Prop} {s:AS} (hm:P.follows .mixedOrders=true) (A R Z F dm pm D:List Nat) (tr:cp) (h1:jr ops A R Z F=true) (h3:AQ ops F tr=true) (h2:(R++Z).all (iH P ops)=true) (hD:dstsOf ops (A++R++Z++F)=D)
  (hb: ∀ t ∈ pm,dm.contains t=true∧ ∃ cs,s.box t=some ⟨true,cs⟩)
  (hv:gp P ops s.next (fun sr=>cm P ops s.next (fun s1=>cm P ops s.next (fun s2=>xZ P ops (s.next+4*(R.length+Z.length+1)) K tr 0 s2) Z R.length ⟨s1.env,E6 pm s.box s1.box,s1.next⟩) R 0 ⟨sr.env,kI dm s.box,s.next⟩) A ⟨vN D s.env,fun t=>E5 (kI dm s.box t),s.next⟩):tC P ops K s:=
 ⟨hm, .inr (.inr ⟨A,R,Z,F,dm,pm,tr,h1,h3,h2,hb,by subst hD;exact hv⟩)⟩
theorem gL {pm:List Nat} {b0 b:Nat→Option aG} {t:Nat}:E6 pm b0 b t=if pm.contains t=true then b0 t else b t:=rfl
theorem Mx {D:List Nat} {env:Nat→Option AV} {d:Nat}:vN D env d=if D.contains d=true then none else env d:=rfl
def V8 (b:Option aG):Option aG:=b.map fun b=>⟨false,b.cells⟩
theorem My {D:List Nat} {box:Nat→Option aG} {t:Nat}:kI D box t=if D.contains t=true then V8 (box t) else box t:=by
 unfold kI V8
 split
 ·cases box t<;>rfl
 ·rfl
theorem DJ {rw:Bool} {cs:List SV}:V8 (some ⟨rw,cs⟩)=some ⟨false,cs⟩:=rfl
theorem Ic {d:Nat}:([]:List Nat).contains d=false:=rfl
theorem DK {a d:Nat} {l:List Nat}:(a::l).contains d=(d==a||l.contains d):=List.contains_cons
theorem DL {nm:Nat}:AS.mem s nm none=s:=rfl
theorem Xt:List.range' 0 5=[0,1,2,3,4]:=rfl
theorem Xu:List.range' 0 7=[0,1,2,3,4,5,6]:=rfl
theorem TB:List.range' 0 10=[0,1,2,3,4,5,6,7,8,9]:=rfl
theorem ao:type_of% @Xt∧type_of% @Xu∧type_of% @TB∧type_of% @DL∧type_of% @Mx∧type_of% @My∧type_of% @DJ∧type_of% @O7∧type_of% @DK∧type_of% @Ic∧type_of% @Bool.or_false∧type_of% @Bool.or_true:=
 ⟨@Xt, @Xu, @TB, @DL, @Mx, @My, @DJ, @O7, @DK, @Ic, @Bool.or_false, @Bool.or_true⟩
end
end Go.bM
