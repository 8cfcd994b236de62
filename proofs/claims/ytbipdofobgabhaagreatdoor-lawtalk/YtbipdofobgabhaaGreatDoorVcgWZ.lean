/-
  Bundles of rules.
-/
import Derived.Test.YtbipdofobgabhaaGreatDoorVcgU5
import Derived.Test.YtbipdofobgabhaaGreatDoorVcgSk
import Derived.Test.YtbipdofobgabhaaGreatDoorVcgTu
import Derived.Test.YtbipdofobgabhaaGreatDoorVcgRw
import Derived.Test.YtbipdofobgabhaaGreatDoorVcgWn
import Derived.Test.YtbipdofobgabhaaGreatDoorVcgSt
import Derived.Test.YtbipdofobgabhaaGreatDoorVcgWj
import Derived.Test.YtbipdofobgabhaaGreatDoorVcgWi
set_option linter.unusedVariables false
set_option linter.unusedSimpArgs false
namespace Go.Proofs.YtbipdofobgabhaaGreatDoor
open Go.bA
theorem wAa:type_of% @bY∧type_of% @dg∧type_of% @nV∧type_of% @fE∧type_of% @zL0∧type_of% @Ze∧type_of% @Jk∧type_of% @Bz∧type_of% @UK∧type_of% @bp∧type_of% @bJ∧type_of% @bO∧type_of% @ak∧type_of% @aS∧type_of% @av∧type_of% @ay:=⟨@bY, @dg, @nV, @fE, @zL0, @Ze, @Jk, @Bz, @UK, @bp, @bJ, @bO, @ak, @aS, @av, @ay⟩
theorem ia:type_of% @bY∧type_of% @dg∧type_of% @nV∧type_of% @fE∧type_of% @bJ∧type_of% @ak∧type_of% @aS∧type_of% @av∧type_of% @ay∧type_of% @bO:=⟨@bY, @dg, @nV, @fE, @bJ, @ak, @aS, @av, @ay, @bO⟩
theorem wCc:type_of% @bY∧type_of% @dg∧type_of% @nV∧type_of% @fE∧type_of% @zL0∧type_of% @Ze∧type_of% @Jk∧type_of% @Bz∧type_of% @UK:=⟨@bY, @dg, @nV, @fE, @zL0, @Ze, @Jk, @Bz, @UK⟩
theorem wDd:type_of% @bp∧type_of% @bJ∧type_of% @bO∧type_of% @ak∧type_of% @aS∧type_of% @av∧type_of% @ay:=⟨@bp, @bJ, @bO, @ak, @aS, @av, @ay⟩
end Go.Proofs.YtbipdofobgabhaaGreatDoor
