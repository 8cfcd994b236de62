/-
  What it is to lie in a list that is written out.
-/
import GoSem.Claim
set_option linter.unusedVariables false
set_option linter.unusedSimpArgs false
namespace Go.bM

theorem cz:(∀ {α:Type} {a b:α} {l:List α},a ∈ b::l↔a=b∨a ∈ l)∧(∀ {α:Type} {a:α}, ¬a ∈ ([]:List α))∧ ∀ {p:Prop},(p∨False)=p:=
 ⟨List.mem_cons,List.not_mem_nil,or_false _⟩
end Go.bM
