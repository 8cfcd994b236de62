/-
  Bundles of rules.
-/
import Derived.Test.YtaeagfdnfjenlaaGreatDoorVcgDk
import Derived.Test.YtaeagfdnfjenlaaGreatDoorVcgPz
import Derived.Test.YtaeagfdnfjenlaaGreatDoorVcgWj
import Derived.Test.YtaeagfdnfjenlaaGreatDoorVcgFv
import Derived.Test.YtaeagfdnfjenlaaGreatDoorVcgWi
import Derived.Test.YtaeagfdnfjenlaaGreatDoorVcgJ
import Derived.Test.YtaeagfdnfjenlaaGreatDoorVcgFacts
set_option linter.unusedVariables false
set_option linter.unusedSimpArgs false
namespace Go.Proofs.YtaeagfdnfjenlaaGreatDoor
open Go.cn
theorem ib:type_of% @dz∧type_of% @bI∧type_of% @aq∧type_of% @ay∧type_of% @bK∧type_of% @bm∧type_of% @vR:=⟨@dz, @bI, @aq, @ay, @bK, @bm, @vR⟩
theorem NT:type_of% @bI∧type_of% @aq∧type_of% @ay∧type_of% @bK∧type_of% @bm∧type_of% @vR:=⟨@bI, @aq, @ay, @bK, @bm, @vR⟩
end Go.Proofs.YtaeagfdnfjenlaaGreatDoor
