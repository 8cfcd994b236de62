/-
  The calculus: what a row of bytes says of a state. Nothing here speaks of a program's code.
-/
import Derived.Test.YtkaamnnjeandlaaDoorVcgWM
import Derived.Test.YtkaamnnjeandlaaDoorVcgZ1
import Derived.Test.YtkaamnnjeandlaaDoorVcgPz
set_option linter.unusedSectionVars false
set_option linter.unusedSimpArgs false
set_option linter.unusedVariables false
namespace Go.bM

theorem vJ.congr {cs:List SV} {o n m c:Nat} {f g:Nat→En} (h:vJ cs o n c f) (e:n=m) (hfg: ∀ i,i < n→f i=g i):vJ cs o m c g:=
 ⟨h.len,e▸h.room,h.plain,e▸AP h.shows hfg⟩
theorem D5 {a b x:SV}:splice [a,b] 0 [x]=[x,b]:=rfl
theorem D6 {a b x:SV}:splice [a,b] 1 [x]=[a,x]:=rfl
theorem pF {a b x y:SV}:splice [a,b] 0 [x,y]=[x,y]:=rfl
theorem Gi {k:IntKind} {m n:Nat} (hm:0 < m):gi (List.replicate m (Value.int k 0)) n=aA k n fun _=>0:=by
 unfold gi aA
 refine List.map_congr_left fun i hi=> ?_
 have hs:(List.replicate m (Value.int k 0)).toArray.size=m:=by simp
 have h2:i%m < m:=Nat.mod_lt _ hm
 rw[hs,getElem!_pos _ _ (by rw[hs];exact h2)]
 simp
theorem wN {nm n:Nat} {k1 k2:IntKind} (hn:n≤1048576):iu nm (some (List.replicate 64 (Value.int .u8 0),64,64)) (some (I k1 n)) (some (I k2 n))=some (some (Sl nm 0 n n),some (.inl (aA .u8 (64*n) fun _=>0))):=by
 show (if (0≤(n:Int)∧(n:Int)≤n∧((64:Nat):Int)*n≤281474976710656∧(n:Int)≤9223372036854775807)∧(0 < (List.replicate 64 (Value.int .u8 0)).length∧(List.replicate 64 (Value.int .u8 0)).all Value.oneCell'=true) then some (some (Sl nm 0 (n:Int).toNat (n:Int).toNat),some (Sum.inl (gi (List.replicate 64 (Value.int .u8 0)) ((n:Int).toNat*64)))) else none:Option c6)=_
 rw[if_pos ⟨⟨by omega,by omega,by omega,by omega⟩,by decide,by decide⟩,Gi (by decide),Int.toNat_natCast,Nat.mul_comm]
end Go.bM
