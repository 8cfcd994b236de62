/-
  The calculus: what a row of bytes says of a state. Nothing here speaks of a program's code.
-/
import Derived.Test.YtaeagfdnfjenlaaGreatDoorVcgWM
import Derived.Test.YtaeagfdnfjenlaaGreatDoorVcgZ1
import Derived.Test.YtaeagfdnfjenlaaGreatDoorVcgPz
set_option linter.unusedSectionVars false
set_option linter.unusedSimpArgs false
set_option linter.unusedVariables false
namespace Go.cn

theorem zS.congr {cs:List SV} {o n m c:Nat} {f g:Nat→En} (h:zS cs o n c f) (e:n=m) (hfg: ∀ i,i < n→f i=g i):zS cs o m c g:=
 ⟨h.len,e▸h.room,h.plain,e▸EX h.shows hfg⟩
theorem IA {a b x:SV}:splice [a,b] 0 [x]=[x,b]:=rfl
theorem IB {a b x:SV}:splice [a,b] 1 [x]=[a,x]:=rfl
theorem sn {a b x y:SV}:splice [a,b] 0 [x,y]=[x,y]:=rfl
theorem Le {k:IntKind} {m n:Nat} (hm:0 < m):dS (List.replicate m (Value.int k 0)) n=ai k n fun _=>0:=by
 unfold dS ai
 refine List.map_congr_left fun i hi=> ?_
 have hs:(List.replicate m (Value.int k 0)).toArray.size=m:=by simp
 have h2:i%m < m:=Nat.mod_lt _ hm
 rw[hs,getElem!_pos _ _ (by rw[hs];exact h2)]
 simp
theorem AP {nm n:Nat} {k1 k2:IntKind} (hn:n≤1048576):iQ nm (some (List.replicate 64 (Value.int .u8 0),64,64)) (some (I k1 n)) (some (I k2 n))=some (some (Sl nm 0 n n),some (.inl (ai .u8 (64*n) fun _=>0))):=by
 show (if (0≤(n:Int)∧(n:Int)≤n∧((64:Nat):Int)*n≤281474976710656∧(n:Int)≤9223372036854775807)∧(0 < (List.replicate 64 (Value.int .u8 0)).length∧(List.replicate 64 (Value.int .u8 0)).all Value.oneCell'=true) then some (some (Sl nm 0 (n:Int).toNat (n:Int).toNat),some (Sum.inl (dS (List.replicate 64 (Value.int .u8 0)) ((n:Int).toNat*64)))) else none:Option dU)=_
 rw[if_pos ⟨⟨by omega,by omega,by omega,by omega⟩,by decide,by decide⟩,Le (by decide),Int.toNat_natCast,Nat.mul_comm]
end Go.cn
