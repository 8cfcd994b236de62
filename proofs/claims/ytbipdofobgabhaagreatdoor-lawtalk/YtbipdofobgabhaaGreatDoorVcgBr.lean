/-
  The calculus: loops that make a slice anew each round, beside boxes that stay; calls that are handed a state in a box. Nothing here speaks of a program's code.
-/
import Derived.Test.YtbipdofobgabhaaGreatDoorVcgSk
set_option linter.unusedSectionVars false
set_option linter.unusedSimpArgs false
set_option linter.unusedVariables false
namespace Go.bA

def g9 (x:Int) (j:Nat):Int:=IntKind.u8.wrap (ft .u32 x (24 - 8*(j:Int)))
theorem yE (x:Int):bg (g9 x):=fun i=>by simp only[g9,wrap_u8];omega
theorem acK {g:Nat→Int}:ah .u8 4 g=[Sum.inl (.int .u8 (g 0)),Sum.inl (.int .u8 (g 1)),Sum.inl (.int .u8 (g 2)),Sum.inl (.int .u8 (g 3))]:=rfl
theorem XO {g:Nat→Int} {a:SV}:splice (ah .u8 4 g) 0 [a]=[a,Sum.inl (.int .u8 (g 1)),Sum.inl (.int .u8 (g 2)),Sum.inl (.int .u8 (g 3))]:=rfl
theorem XP {a x b c d:SV}:splice [a,x,c,d] 1 [b]=[a,b,c,d]:=rfl
theorem XQ {a b x c d:SV}:splice [a,b,x,d] 2 [c]=[a,b,c,d]:=rfl
theorem XR {a b c x d:SV}:splice [a,b,c,x] 3 [d]=[a,b,c,d]:=rfl
theorem XS {g:Nat→Int}:br [Sum.inl (.int .u8 (g 0)),Sum.inl (.int .u8 (g 1)),Sum.inl (.int .u8 (g 2)),Sum.inl (.int .u8 (g 3))] 0 4 g:=fun i hi=>by
 rw[← acK];exact bN i hi
theorem QX {α:Type} {Q:α→Prop} {a0:α} (h0:Q a0): ∀ x ∈ [a0],Q x:=fun x hx=>by
 simp only[List.mem_cons,List.not_mem_nil,or_false]at hx
 subst hx
 exact h0
theorem Gr {α:Type} {Q:α→Prop} {a0 a1:α} (h0:Q a0) (h1:Q a1): ∀ x ∈ [a0,a1],Q x:=fun x hx=>by
 simp only[List.mem_cons,List.not_mem_nil,or_false]at hx
 rcases hx with rfl | rfl
 ·exact h0
 ·exact h1
theorem uI {s:AS} {k:Nat} {P Q:AV→(Nat→Option aI)→Prop} {v:AV} (h:sV k P v s) (hi: ∀ v out,P v out→Q v out):sV k Q v s:=by
 obtain ⟨q,v0,out,h1,h2,h3,h4,h5⟩:=h
 exact ⟨q,v0,out,h1,h2,h3,h4,hi _ _ h5⟩
theorem dQ.cell {cs:List SV} {o n:Nat} {f:Nat→En} (h:dQ cs o n f) {i k:Nat} (hi:i < n) (hk:k < 66):cs[o+i*66+k]? =(je (f i))[k]? :=by
 rw[← h i hi,List.getElem?_take_of_lt hk,List.getElem?_drop]
theorem dQ.ep {cs:List SV} {o n:Nat} {f:Nat→En} (h:dQ cs o n f) {i:Nat} (hi:i < n):cs[o+i*66]? =some (Sum.inl (.int .u32 (f i).ep)):=h.cell (k:=0) hi (by decide)
theorem dQ.num {cs:List SV} {o n:Nat} {f:Nat→En} (h:dQ cs o n f) {i:Nat} (hi:i < n):cs[o+i*66+1]? =some (Sum.inl (.int .u32 (f i).n)):=h.cell (k:=1) hi (by decide)
theorem dQ.aF {cs:List SV} {o n:Nat} {f:Nat→En} (h:dQ cs o n f) {i:Nat} (hi:i < n):br cs (o+i*66+2) 32 (f i).aF:=fun j hj=>by
 have:=h.cell (k:=2+j) hi (by omega)
 rw[XL j hj]at this
 rw[← this];congr 1;omega
theorem dQ.key {cs:List SV} {o n:Nat} {f:Nat→En} (h:dQ cs o n f) {i:Nat} (hi:i < n):br cs (o+i*66+34) 32 (f i).key:=fun j hj=>by
 have:=h.cell (k:=34+j) hi (by omega)
 rw[Uv j hj]at this
 rw[← this];congr 1;omega
section
variable {a b c d e f g:Nat→Int}
end
end Go.bA
