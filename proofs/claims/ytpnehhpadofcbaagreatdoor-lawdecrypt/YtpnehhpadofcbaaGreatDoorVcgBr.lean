/-
  The calculus: loops that make a slice anew each round, beside boxes that stay; calls that are handed a state in a box. Nothing here speaks of a program's code.
-/
import Derived.Test.YtpnehhpadofcbaaGreatDoorVcgSk
set_option linter.unusedSectionVars false
set_option linter.unusedSimpArgs false
set_option linter.unusedVariables false
namespace Go.bU

def fC (x:Int) (j:Nat):Int:=IntKind.u8.wrap (cy .u32 x (24 - 8*(j:Int)))
theorem Bu (x:Int):br (fC x):=fun i=>by simp only[fC,wrap_u8];omega
theorem aea {g:Nat→Int}:af .u8 4 g=[Sum.inl (.int .u8 (g 0)),Sum.inl (.int .u8 (g 1)),Sum.inl (.int .u8 (g 2)),Sum.inl (.int .u8 (g 3))]:=rfl
theorem Zh {g:Nat→Int} {a:SV}:splice (af .u8 4 g) 0 [a]=[a,Sum.inl (.int .u8 (g 1)),Sum.inl (.int .u8 (g 2)),Sum.inl (.int .u8 (g 3))]:=rfl
theorem Zi {a x b c d:SV}:splice [a,x,c,d] 1 [b]=[a,b,c,d]:=rfl
theorem Zj {a b x c d:SV}:splice [a,b,x,d] 2 [c]=[a,b,c,d]:=rfl
theorem Zk {a b c x d:SV}:splice [a,b,c,x] 3 [d]=[a,b,c,d]:=rfl
theorem Zl {g:Nat→Int}:aZ [Sum.inl (.int .u8 (g 0)),Sum.inl (.int .u8 (g 1)),Sum.inl (.int .u8 (g 2)),Sum.inl (.int .u8 (g 3))] 0 4 g:=fun i hi=>by
 rw[← aea];exact aV i hi
theorem F0 {α:Type} {Q:α→Prop} {a0:α} (h0:Q a0): ∀ x ∈ [a0],Q x:=fun x hx=>by
 simp only[List.mem_cons,List.not_mem_nil,or_false]at hx
 subst hx
 exact h0
theorem Dc {α:Type} {Q:α→Prop} {a0 a1:α} (h0:Q a0) (h1:Q a1): ∀ x ∈ [a0,a1],Q x:=fun x hx=>by
 simp only[List.mem_cons,List.not_mem_nil,or_false]at hx
 rcases hx with rfl | rfl
 ·exact h0
 ·exact h1
theorem TB {α:Type} {Q:α→Prop} {a0 a1 a2:α} (h0:Q a0) (h1:Q a1) (h2:Q a2): ∀ x ∈ [a0,a1,a2],Q x:=fun x hx=>by
 simp only[List.mem_cons,List.not_mem_nil,or_false]at hx
 rcases hx with rfl | rfl | rfl
 ·exact h0
 ·exact h1
 ·exact h2
theorem TC {α:Type} {Q:α→Prop} {a0 a1 a2 a3:α} (h0:Q a0) (h1:Q a1) (h2:Q a2) (h3:Q a3): ∀ x ∈ [a0,a1,a2,a3],Q x:=fun x hx=>by
 simp only[List.mem_cons,List.not_mem_nil,or_false]at hx
 rcases hx with rfl | rfl | rfl | rfl
 ·exact h0
 ·exact h1
 ·exact h2
 ·exact h3
theorem V' {α:Type} {Q:α→Prop} {a0 a1 a2 a3 a4:α} (h0:Q a0) (h1:Q a1) (h2:Q a2) (h3:Q a3) (h4:Q a4): ∀ x ∈ [a0,a1,a2,a3,a4],Q x:=fun x hx=>by
 simp only[List.mem_cons,List.not_mem_nil,or_false]at hx
 rcases hx with rfl | rfl | rfl | rfl | rfl
 ·exact h0
 ·exact h1
 ·exact h2
 ·exact h3
 ·exact h4
theorem qG {s:AS} {k:Nat} {P Q:AV→(Nat→Option aN)→Prop} {v:AV} (h:qA k P v s) (hi: ∀ v out,P v out→Q v out):qA k Q v s:=by
 obtain ⟨q,v0,out,h1,h2,h3,h4,h5⟩:=h
 exact ⟨q,v0,out,h1,h2,h3,h4,hi _ _ h5⟩
theorem cO.cell {cs:List SV} {o n:Nat} {f:Nat→En} (h:cO cs o n f) {i k:Nat} (hi:i < n) (hk:k < 66):cs[o+i*66+k]? =(gB (f i))[k]? :=by
 rw[← h i hi,List.getElem?_take_of_lt hk,List.getElem?_drop]
theorem cO.ep {cs:List SV} {o n:Nat} {f:Nat→En} (h:cO cs o n f) {i:Nat} (hi:i < n):cs[o+i*66]? =some (Sum.inl (.int .u32 (f i).ep)):=h.cell (k:=0) hi (by decide)
theorem cO.num {cs:List SV} {o n:Nat} {f:Nat→En} (h:cO cs o n f) {i:Nat} (hi:i < n):cs[o+i*66+1]? =some (Sum.inl (.int .u32 (f i).n)):=h.cell (k:=1) hi (by decide)
theorem cO.aG {cs:List SV} {o n:Nat} {f:Nat→En} (h:cO cs o n f) {i:Nat} (hi:i < n):aZ cs (o+i*66+2) 32 (f i).aG:=fun j hj=>by
 have:=h.cell (k:=2+j) hi (by omega)
 rw[Zf j hj]at this
 rw[← this];congr 1;omega
theorem cO.key {cs:List SV} {o n:Nat} {f:Nat→En} (h:cO cs o n f) {i:Nat} (hi:i < n):aZ cs (o+i*66+34) 32 (f i).key:=fun j hj=>by
 have:=h.cell (k:=34+j) hi (by omega)
 rw[V8 j hj]at this
 rw[← this];congr 1;omega
def K6 (a b c d e f:Nat→Int):List SV:=af .u8 32 a++(af .u8 32 b++(af .u8 32 c++(af .u8 32 d++(af .u8 32 e++af .u8 32 f))))
section
variable {a b c d e f g:Nat→Int}
end
end Go.bU
