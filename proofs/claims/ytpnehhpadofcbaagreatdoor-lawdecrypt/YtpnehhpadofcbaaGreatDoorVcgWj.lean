/-
  The calculus: calls with room for several boxes, by contract. Nothing here speaks of a program.
-/
import Derived.Test.YtpnehhpadofcbaaGreatDoorVcgWi
set_option linter.unusedVariables false
namespace Go.bU
set_option linter.unusedSectionVars false
set_option linter.unusedSimpArgs false
section
variable {P:Program} [Tables P] {s:AS} {nm:Nat}
theorem iN {r:Nat→Nat} {k nm:Nat}:bI r k nm k=nm:=by unfold bI;rw[if_neg (by omega)];omega
theorem BK {r:Nat→Nat} {k nm:Nat}:bI r k nm (k+1)=nm+1:=by unfold bI;rw[if_neg (by omega)];omega
theorem TU {r:Nat→Nat} {k:Nat} {out:Nat→Option aN}:mT s r k 1 nm none out=upd s.box nm ((out k).map (aN.aI (bI r k nm))):=by
 funext t
 unfold mT upd
 by_cases h:t=nm
 ·subst h;simp
 ·rw[if_neg (by omega)];simp[h]
theorem wj {r:Nat→Nat} {k:Nat} {out:Nat→Option aN}:mT s r k 2 nm none out=upd (upd s.box nm ((out k).map (aN.aI (bI r k nm)))) (nm+1) ((out (k+1)).map (aN.aI (bI r k nm))):=by
 funext t
 unfold mT upd
 by_cases h:t=nm
 ·subst h;simp
 by_cases h1:t=nm+1
 ·subst h1;simp
 ·rw[if_neg (by omega)];simp[h,h1]
theorem F9 {r:Nat→Nat} {rw:Bool} {cs:List SV} (hp:cs.all SV.plain=true):aN.aI r ⟨rw,cs⟩=⟨rw,cs⟩:=by unfold aN.aI;rw[aQ hp]
theorem fh {r:Nat→Nat} {rw:Bool} {cs:List SV} (hp:cs.all SV.plain=true):(some (⟨rw,cs⟩:aN)).map (aN.aI r)=some ⟨rw,cs⟩:=by rw[Option.map_some,F9 hp]
theorem Pure.bA {f:Nat} {l:List AV} {Post:AV→Prop} (h:Pure P f l Post) {dst:Option Nat} {K:AS→Prop} (hk: ∀ r,Post r→K (s.put dst (some r))):
  bA P nm f (some l) dst K s:=by
 intro W N w0 g a w bT
 have hl:l.map (AV.aq g)=l.map AV.val:=List.map_congr_left fun x hx=>AV.il (List.all_eq_true.1 h.args x hx) g
 rw[hl]
 refine (h.call w bT.laid).mono ?_
 rintro e w' ⟨r,hr,rfl,vv⟩
 exact ⟨r,g,s.box,by rw[AV.il (h.res r hr)],AV.bk (h.res r hr),(bT.kept vv).mono (fun n hn=>by omega),fun t b hb=> .inr ⟨b,hb,rfl⟩,hk r hr⟩
theorem cI.bA {f:Nat} {l:List AV} {r:AV} (h:cI P f l r) {dst:Option Nat} {K:AS→Prop} (hk:K (s.put dst (some r))):
  bA P nm f (some l) dst K s:=Pure.bA h (fun _ hv=>hv▸hk)
theorem bf.bA {f k:Nat} {args l:List AV} {ins:Nat→Option aN} {Post:AV→(Nat→Option aN)→Prop} (h:bf P f args k ins Post) (r:Nat→Nat) (hfit:Fits s r ins none) (hl:l=args.map (AV.aI r))
  {dst:Option Nat} {K:AS→Prop} (hk: ∀ v out,Post v out→K ((⟨s.env,upd s.box nm ((out k).map (aN.aI (bI r k nm))),s.next⟩:AS).put dst (some (AV.aI (bI r k nm) v)))):Go.bU.bA P nm f (some l) dst K s:=
 h.wide.ax r none hfit hl fun v out hp=>by rw[TU];exact hk v out hp
theorem bf.Ga {f k:Nat} {args l:List AV} {ins:Nat→Option aN} {v:AV} (h:bf P f args k ins (fun x out=>x=v∧out=fun _=>none)) (r:Nat→Nat) (hfit:Fits s r ins none) (hv:AV.plain v=true) (hl:l=args.map (AV.aI r))
  {dst:Option Nat} {K:AS→Prop} (hk:K ((⟨s.env,upd s.box nm none,s.next⟩:AS).put dst (some v))):Go.bU.bA P nm f (some l) dst K s:=
 h.bA r hfit hl fun x out ⟨hx,ho⟩=>by
  subst hx ho
  rw[AV.bB hv]
  exact hk
theorem wk {ops:Array Oper} {K:AS→Prop} {s:AS} (hm:P.follows .mixedOrders=true) (A R Z F dm D:List Nat) (h1:nW ops A R Z F=true) (h2:(R++Z).all (kP P ops)=true) (hD:dstsOf ops (A++R++Z++F)=D)
  (hv:iX P ops s.next (fun sr=>cX P ops s.next K (R++Z++F) 0 ⟨sr.env,qp dm s.box,s.next⟩) A ⟨CZ D s.env,fun t=>Mf (qp dm s.box t),s.next⟩):BD P ops K s:=
 ⟨hm, .inl ⟨A,R,Z,F,dm,h1,h2,by subst hD;exact hv⟩⟩
theorem wm {ops:Array Oper} {K:AS→Prop} {s:AS} (hm:P.follows .mixedOrders=true) (A R Z F dm pm D:List Nat) (h1:nW ops A R Z F=true) (h2:(R++Z).all (kP P ops)=true) (hD:dstsOf ops (A++R++Z++F)=D)
  (hb: ∀ t ∈ pm,dm.contains t=true∧ ∃ cs,s.box t=some ⟨true,cs⟩)
  (hv:iX P ops s.next (fun sr=>cX P ops s.next (fun s1=>cX P ops s.next K (Z++F) R.length ⟨s1.env,Lh pm s.box s1.box,s1.next⟩) R 0 ⟨sr.env,qp dm s.box,s.next⟩) A ⟨CZ D s.env,fun t=>Mf (qp dm s.box t),s.next⟩):BD P ops K s:=
 ⟨hm, .inr (.inl ⟨A,R,Z,F,dm,pm,h1,h2,hb,by subst hD;exact hv⟩)⟩
theorem oA {ops:Array Oper} {K:AS→Prop} {s:AS} (hm:P.follows .mixedOrders=true) (A R Z F dm pm D:List Nat) (tr:bn) (h1:lj ops A R Z F=true) (h3:F1 ops F tr=true) (h2:(R++Z).all (kP P ops)=true) (hD:dstsOf ops (A++R++Z++F)=D)
  (hb: ∀ t ∈ pm,dm.contains t=true∧ ∃ cs,s.box t=some ⟨true,cs⟩)
  (hv:iX P ops s.next (fun sr=>cX P ops s.next (fun s1=>cX P ops s.next (fun s2=>Da P ops (s.next+4*(R.length+Z.length+1)) K tr 0 s2) Z R.length ⟨s1.env,Lh pm s.box s1.box,s1.next⟩) R 0 ⟨sr.env,qp dm s.box,s.next⟩) A ⟨CZ D s.env,fun t=>Mf (qp dm s.box t),s.next⟩):BD P ops K s:=
 ⟨hm, .inr (.inr ⟨A,R,Z,F,dm,pm,tr,h1,h3,h2,hb,by subst hD;exact hv⟩)⟩
theorem cp {pm:List Nat} {b0 b:Nat→Option aN} {t:Nat}:Lh pm b0 b t=if pm.contains t=true then b0 t else b t:=rfl
theorem TV {D:List Nat} {env:Nat→Option AV} {d:Nat}:CZ D env d=if D.contains d=true then none else env d:=rfl
def dmO (b:Option aN):Option aN:=b.map fun b=>⟨false,b.cells⟩
theorem TW {D:List Nat} {box:Nat→Option aN} {t:Nat}:qp D box t=if D.contains t=true then dmO (box t) else box t:=by
 unfold qp dmO
 split
 ·cases box t<;>rfl
 ·rfl
theorem Jq {rw:Bool} {cs:List SV}:dmO (some ⟨rw,cs⟩)=some ⟨false,cs⟩:=rfl
theorem PA {d:Nat}:([]:List Nat).contains d=false:=rfl
theorem Jr {a d:Nat} {l:List Nat}:(a::l).contains d=(d==a||l.contains d):=List.contains_cons
theorem rg3:List.range' 0 3=[0,1,2]:=rfl
theorem rg4:List.range' 0 4=[0,1,2,3]:=rfl
theorem rg5:List.range' 0 5=[0,1,2,3,4]:=rfl
theorem rg7:List.range' 0 7=[0,1,2,3,4,5,6]:=rfl
theorem rg8:List.range' 0 8=[0,1,2,3,4,5,6,7]:=rfl
theorem rg9:List.range' 0 9=[0,1,2,3,4,5,6,7,8]:=rfl
theorem aK:type_of% @rg3∧type_of% @rg4∧type_of% @rg5∧type_of% @rg7∧type_of% @rg8∧type_of% @rg9∧type_of% @TV∧type_of% @TW∧type_of% @Jq∧type_of% @abF∧type_of% @Jr∧type_of% @PA∧type_of% @Bool.or_false∧type_of% @Bool.or_true∧type_of% @Bool.false_eq_true:=
 ⟨@rg3, @rg4, @rg5, @rg7, @rg8, @rg9, @TV, @TW, @Jq, @abF, @Jr, @PA, @Bool.or_false, @Bool.or_true, @Bool.false_eq_true⟩
end
end Go.bU
