/-
  Bundles of rules.
-/
import Derived.Test.YtkaamnnjeandlaaDoorVcgDk
import Derived.Test.YtkaamnnjeandlaaDoorVcgPz
import Derived.Test.YtkaamnnjeandlaaDoorVcgWj
import Derived.Test.YtkaamnnjeandlaaDoorVcgFv
import Derived.Test.YtkaamnnjeandlaaDoorVcgWi
import Derived.Test.YtkaamnnjeandlaaDoorVcgJ
import Derived.Test.YtkaamnnjeandlaaDoorVcgFacts
set_option linter.unusedVariables false
set_option linter.unusedSimpArgs false
namespace Go.Proofs.YtkaamnnjeandlaaDoor
open Go.bM
theorem E7:type_of% @cO∧type_of% @bm∧type_of% @ao∧type_of% @aq∧type_of% @bq∧type_of% @aS∧type_of% @vR:=⟨@cO, @bm, @ao, @aq, @bq, @aS, @vR⟩
theorem IC:type_of% @bm∧type_of% @ao∧type_of% @aq∧type_of% @bq∧type_of% @aS∧type_of% @vR:=⟨@bm, @ao, @aq, @bq, @aS, @vR⟩
end Go.Proofs.YtkaamnnjeandlaaDoor
