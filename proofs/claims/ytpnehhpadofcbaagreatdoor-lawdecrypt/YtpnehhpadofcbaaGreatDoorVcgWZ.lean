/-
  Bundles of rules.
-/
import Derived.Test.YtpnehhpadofcbaaGreatDoorVcgR5
import Derived.Test.YtpnehhpadofcbaaGreatDoorVcgSk
import Derived.Test.YtpnehhpadofcbaaGreatDoorVcgTu
import Derived.Test.YtpnehhpadofcbaaGreatDoorVcgRw
import Derived.Test.YtpnehhpadofcbaaGreatDoorVcgWn
import Derived.Test.YtpnehhpadofcbaaGreatDoorVcgSt
import Derived.Test.YtpnehhpadofcbaaGreatDoorVcgWj
import Derived.Test.YtpnehhpadofcbaaGreatDoorVcgWi
set_option linter.unusedVariables false
set_option linter.unusedSimpArgs false
namespace Go.Proofs.YtpnehhpadofcbaaGreatDoor
open Go.bU
theorem ju:type_of% @eZ∧type_of% @gk∧type_of% @wu∧type_of% @jY∧type_of% @zL0∧type_of% @V9∧type_of% @Db∧type_of% @v7∧type_of% @MI∧type_of% @fS∧type_of% @bV∧type_of% @bw∧type_of% @ao∧type_of% @bN∧type_of% @aK∧type_of% @aR:=⟨@eZ, @gk, @wu, @jY, @zL0, @V9, @Db, @v7, @MI, @fS, @bV, @bw, @ao, @bN, @aK, @aR⟩
theorem iZ:type_of% @eZ∧type_of% @gk∧type_of% @wu∧type_of% @jY∧type_of% @bV∧type_of% @ao∧type_of% @bN∧type_of% @aK∧type_of% @aR∧type_of% @bw:=⟨@eZ, @gk, @wu, @jY, @bV, @ao, @bN, @aK, @aR, @bw⟩
theorem qt:type_of% @eZ∧type_of% @gk∧type_of% @wu∧type_of% @jY∧type_of% @zL0∧type_of% @V9∧type_of% @Db∧type_of% @v7∧type_of% @MI:=⟨@eZ, @gk, @wu, @jY, @zL0, @V9, @Db, @v7, @MI⟩
theorem zF:type_of% @fS∧type_of% @bV∧type_of% @bw∧type_of% @ao∧type_of% @bN∧type_of% @aK∧type_of% @aR:=⟨@fS, @bV, @bw, @ao, @bN, @aK, @aR⟩
end Go.Proofs.YtpnehhpadofcbaaGreatDoor
