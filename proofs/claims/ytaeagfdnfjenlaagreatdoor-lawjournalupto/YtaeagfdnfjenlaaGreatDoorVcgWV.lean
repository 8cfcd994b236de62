/-
  Bundles of rules.
-/
import Derived.Test.YtaeagfdnfjenlaaGreatDoorVcgWj
import Derived.Test.YtaeagfdnfjenlaaGreatDoorVcgFacts
set_option linter.unusedVariables false
set_option linter.unusedSimpArgs false
namespace Go.Proofs.YtaeagfdnfjenlaaGreatDoor
open Go.cn
theorem bV:type_of% @aq∧type_of% @ae∧type_of% @vR:=⟨@aq, @ae, @vR⟩
end Go.Proofs.YtaeagfdnfjenlaaGreatDoor
