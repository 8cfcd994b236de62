/-
  The calculus: rows of keys that grow by one. Nothing here speaks of a program.
-/
import Derived.Test.YtbipdofobgabhaaGreatDoorVcgRw
set_option linter.unusedSimpArgs false
set_option linter.unusedVariables false
namespace Go.bA

def WW (f:Nat→Nat→Int) (j:Nat):Int:=f (j / 32) (j%32)
structure SZ (cs:List SV) (n c:Nat) (f:Nat→Nat→Int):Prop where
 len:cs.length=c*32
 room:n≤c
 plain:cs.all SV.plain=true
 shows:br cs 0 (n*32) (WW f)
theorem SZ.key {cs:List SV} {n c:Nat} {f:Nat→Nat→Int} (h:SZ cs n c f) {i:Nat} (hi:i < n):br cs (i*32) 32 (f i):=fun j hj=>by
 have:=h.shows (i*32+j) (by omega)
 rw[Nat.zero_add]at this
 rw[this]
 unfold WW
 rw[show (i*32+j) / 32=i by omega,show (i*32+j)%32=j by omega]
section
variable {P:Program} [Tables P]
end
end Go.bA
