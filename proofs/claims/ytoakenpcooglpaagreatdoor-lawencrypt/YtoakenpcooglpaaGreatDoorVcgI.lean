/-
  The calculus: functions that are handed a pointer to a struct that holds one slice, and take bytes off its front. Nothing here speaks of a program.
-/
import Derived.Test.YtoakenpcooglpaaGreatDoorVcgJ
import Derived.Test.YtoakenpcooglpaaGreatDoorVcgZ1
set_option linter.unusedVariables false
set_option linter.unusedSimpArgs false
namespace Go.cA
set_option linter.unusedSectionVars false
abbrev rd (b o n c:Nat):SV:=Sum.inr (.inr (b,o,n,c))
section
variable {P:Program} [Tables P]
theorem AH {cs:List SV} {o n m:Nat} {f:Nat→Int} (h:bE cs o n f) (hm:m≤n):List.take m (List.drop o cs)=ae .u8 m f:=by
 apply List.ext_getElem?
 intro i
 by_cases hi:i < m
 ·rw[ay .u8 m f i hi,List.getElem?_take_of_lt hi,List.getElem?_drop,h i (by omega)]
 ·rw[List.getElem?_eq_none (by rw[List.length_take];omega),List.getElem?_eq_none (by rw[ah];omega)]
end
end Go.cA
