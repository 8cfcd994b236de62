/-
  The calculus: append onto a slice whose own cells may name boxes.
-/
import Derived.Test.YtkaamnnjeandlaaDoorVcgFv
set_option linter.unusedVariables false
set_option linter.unusedSimpArgs false
set_option linter.unusedSectionVars false
namespace Go.bM

section
variable {P:Program} [Tables P] {W:Nat→Prop} {N:Nat} {w0:Base P} {M:Nat→Prop} {g:Where} {s:AS} {a:Act} {w:World} {nm:Nat}
end
end Go.bM
