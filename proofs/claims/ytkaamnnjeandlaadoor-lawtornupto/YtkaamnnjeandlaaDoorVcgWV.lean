/-
  Bundles of rules.
-/
import Derived.Test.YtkaamnnjeandlaaDoorVcgWj
import Derived.Test.YtkaamnnjeandlaaDoorVcgFacts
set_option linter.unusedVariables false
set_option linter.unusedSimpArgs false
namespace Go.Proofs.YtkaamnnjeandlaaDoor
open Go.bM
theorem eJ:type_of% @ao∧type_of% @ae∧type_of% @vR:=⟨@ao, @ae, @vR⟩
end Go.Proofs.YtkaamnnjeandlaaDoor
