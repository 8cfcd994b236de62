/-
  The calculus: calls with room for several boxes, by contract. Nothing here speaks of a program.
-/
import Derived.Test.YtbipdofobgabhaaGreatDoorVcgWi
set_option linter.unusedVariables false
set_option linter.unusedSectionVars false
set_option linter.unusedSimpArgs false
namespace Go.bA

section
variable {P:Program} [Tables P] {s:AS} {nm:Nat}
theorem fU {r:Nat→Nat} {k nm:Nat}:bt r k nm k=nm:=by unfold bt;rw[if_neg (by omega)];omega
theorem pb {r:Nat→Nat} {k nm:Nat}:bt r k nm (k+1)=nm+1:=by unfold bt;rw[if_neg (by omega)];omega
theorem Rf {r:Nat→Nat} {k:Nat} {out:Nat→Option aI}:lr s r k 1 nm none out=upd s.box nm ((out k).map (aI.ren (bt r k nm))):=by
 funext t
 unfold lr upd
 by_cases h:t=nm
 ·subst h;simp
 ·rw[if_neg (by omega)];simp[h]
theorem mS {r:Nat→Nat} {k:Nat} {out:Nat→Option aI}:lr s r k 2 nm none out=upd (upd s.box nm ((out k).map (aI.ren (bt r k nm)))) (nm+1) ((out (k+1)).map (aI.ren (bt r k nm))):=by
 funext t
 unfold lr upd
 by_cases h:t=nm
 ·subst h;simp
 by_cases h1:t=nm+1
 ·subst h1;simp
 ·rw[if_neg (by omega)];simp[h,h1]
theorem Dd {r:Nat→Nat} {rw:Bool} {cs:List SV} (hp:cs.all SV.plain=true):aI.ren r ⟨rw,cs⟩=⟨rw,cs⟩:=by unfold aI.ren;rw[aN hp]
theorem cG {r:Nat→Nat} {rw:Bool} {cs:List SV} (hp:cs.all SV.plain=true):(some (⟨rw,cs⟩:aI)).map (aI.ren r)=some ⟨rw,cs⟩:=by rw[Option.map_some,Dd hp]
theorem Pure.bw {f:Nat} {l:List AV} {Post:AV→Prop} (h:Pure P f l Post) {dst:Option Nat} {K:AS→Prop} (hk: ∀ r,Post r→K (s.put dst (some r))):
  bw P nm f (some l) dst K s:=by
 intro W N w0 g a w bH
 have hl:l.map (AV.aq g)=l.map AV.val:=List.map_congr_left fun x hx=>AV.gJ (List.all_eq_true.1 h.args x hx) g
 rw[hl]
 refine (h.call w bH.laid).mono ?_
 rintro e w' ⟨r,hr,rfl,tj⟩
 exact ⟨r,g,s.box,by rw[AV.gJ (h.res r hr)],AV.aM (h.res r hr),(bH.kept tj).mono (fun n hn=>by omega),fun t b hb=> .inr ⟨b,hb,rfl⟩,hk r hr⟩
theorem cO.bw {f:Nat} {l:List AV} {r:AV} (h:cO P f l r) {dst:Option Nat} {K:AS→Prop} (hk:K (s.put dst (some r))):
  bw P nm f (some l) dst K s:=Pure.bw h (fun _ hv=>hv▸hk)
theorem bz.bw {f k:Nat} {args l:List AV} {ins:Nat→Option aI} {Post:AV→(Nat→Option aI)→Prop} (h:bz P f args k ins Post) (r:Nat→Nat) (hfit:Fits s r ins none) (hl:l=args.map (AV.ren r))
  {dst:Option Nat} {K:AS→Prop} (hk: ∀ v out,Post v out→K ((⟨s.env,upd s.box nm ((out k).map (aI.ren (bt r k nm))),s.next⟩:AS).put dst (some (AV.ren (bt r k nm) v)))):Go.bA.bw P nm f (some l) dst K s:=
 h.wide.aB r none hfit hl fun v out hp=>by rw[Rf];exact hk v out hp
theorem mT {ops:Array Oper} {K:AS→Prop} {s:AS} (hm:P.follows .mixedOrders=true) (A R Z F dm D:List Nat) (h1:mq ops A R Z F=true) (h2:(R++Z).all (jN P ops)=true) (hD:dstsOf ops (A++R++Z++F)=D)
  (hv:hY P ops s.next (fun sr=>cr P ops s.next K (R++Z++F) 0 ⟨sr.env,mC dm s.box,s.next⟩) A ⟨zI D s.env,fun t=>Jm (mC dm s.box t),s.next⟩):yK P ops K s:=
 ⟨hm, .inl ⟨A,R,Z,F,dm,h1,h2,by subst hD;exact hv⟩⟩
theorem pd {ops:Array Oper} {K:AS→Prop} {s:AS} (hm:P.follows .mixedOrders=true) (A R Z F dm pm D:List Nat) (h1:mq ops A R Z F=true) (h2:(R++Z).all (jN P ops)=true) (hD:dstsOf ops (A++R++Z++F)=D)
  (hb: ∀ t ∈ pm,dm.contains t=true∧ ∃ cs,s.box t=some ⟨true,cs⟩)
  (hv:hY P ops s.next (fun sr=>cr P ops s.next (fun s1=>cr P ops s.next K (Z++F) R.length ⟨s1.env,zU pm s.box s1.box,s1.next⟩) R 0 ⟨sr.env,mC dm s.box,s.next⟩) A ⟨zI D s.env,fun t=>Jm (mC dm s.box t),s.next⟩):yK P ops K s:=
 ⟨hm, .inr (.inl ⟨A,R,Z,F,dm,pm,h1,h2,hb,by subst hD;exact hv⟩)⟩
theorem tM {ops:Array Oper} {K:AS→Prop} {s:AS} (hm:P.follows .mixedOrders=true) (A R Z F dm pm D:List Nat) (tr:aT) (h1:j5 ops A R Z F=true) (h3:C6 ops F tr=true) (h2:(R++Z).all (jN P ops)=true) (hD:dstsOf ops (A++R++Z++F)=D)
  (hb: ∀ t ∈ pm,dm.contains t=true∧ ∃ cs,s.box t=some ⟨true,cs⟩)
  (hv:hY P ops s.next (fun sr=>cr P ops s.next (fun s1=>cr P ops s.next (fun s2=>zR P ops (s.next+4*(R.length+Z.length+1)) K tr 0 s2) Z R.length ⟨s1.env,zU pm s.box s1.box,s1.next⟩) R 0 ⟨sr.env,mC dm s.box,s.next⟩) A ⟨zI D s.env,fun t=>Jm (mC dm s.box t),s.next⟩):yK P ops K s:=
 ⟨hm, .inr (.inr ⟨A,R,Z,F,dm,pm,tr,h1,h3,h2,hb,by subst hD;exact hv⟩)⟩
theorem eO {pm:List Nat} {b0 b:Nat→Option aI} {t:Nat}:zU pm b0 b t=if pm.contains t=true then b0 t else b t:=rfl
theorem Rg {D:List Nat} {env:Nat→Option AV} {d:Nat}:zI D env d=if D.contains d=true then none else env d:=rfl
def dmO (b:Option aI):Option aI:=b.map fun b=>⟨false,b.cells⟩
theorem Rh {D:List Nat} {box:Nat→Option aI} {t:Nat}:mC D box t=if D.contains t=true then dmO (box t) else box t:=by
 unfold mC dmO
 split
 ·cases box t<;>rfl
 ·rfl
theorem GJ {rw:Bool} {cs:List SV}:dmO (some ⟨rw,cs⟩)=some ⟨false,cs⟩:=rfl
theorem Mp {d:Nat}:([]:List Nat).contains d=false:=rfl
theorem GK {a d:Nat} {l:List Nat}:(a::l).contains d=(d==a||l.contains d):=List.contains_cons
theorem rg3:List.range' 0 3=[0,1,2]:=rfl
theorem rg4:List.range' 0 4=[0,1,2,3]:=rfl
theorem rg5:List.range' 0 5=[0,1,2,3,4]:=rfl
theorem rg6:List.range' 0 6=[0,1,2,3,4,5]:=rfl
theorem rg7:List.range' 0 7=[0,1,2,3,4,5,6]:=rfl
theorem rg8:List.range' 0 8=[0,1,2,3,4,5,6,7]:=rfl
theorem rg9:List.range' 0 9=[0,1,2,3,4,5,6,7,8]:=rfl
theorem av:type_of% @rg3∧type_of% @rg4∧type_of% @rg5∧type_of% @rg6∧type_of% @rg7∧type_of% @rg8∧type_of% @rg9∧type_of% @Rg∧type_of% @Rh∧type_of% @GJ∧type_of% @aak∧type_of% @GK∧type_of% @Mp∧type_of% @Bool.or_false∧type_of% @Bool.or_true∧type_of% @Bool.false_eq_true:=
 ⟨@rg3, @rg4, @rg5, @rg6, @rg7, @rg8, @rg9, @Rg, @Rh, @GJ, @aak, @GK, @Mp, @Bool.or_false, @Bool.or_true, @Bool.false_eq_true⟩
end
end Go.bA
