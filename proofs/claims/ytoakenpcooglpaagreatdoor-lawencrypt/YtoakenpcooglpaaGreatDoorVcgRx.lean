/-
  The calculus: a state's bytes say what the state is. Nothing here speaks of a program's code.
-/
import Derived.Test.YtoakenpcooglpaaGreatDoorVcgRw
set_option linter.unusedVariables false
set_option linter.unusedSimpArgs false
namespace Go.cA
set_option linter.unusedSectionVars false
def LU (f g:Nat→Int):Prop:= ∀ i,i < 32→f i=g i
structure EqS (s t:St):Prop where
 own:s.own=t.own
 peer:s.peer=t.peer
 has:s.has=t.has
 root:LU s.root t.root
 priv:LU s.priv t.priv
 cQ:LU s.cQ t.cQ
 rU:LU s.rU t.rU
 send:LU s.send t.send
 recv:LU s.recv t.recv
 se:s.se=t.se
 re:s.re=t.re
 ns:s.ns=t.ns
 nr:s.nr=t.nr
 pn:s.pn=t.pn
 skip:s.skip=t.skip
 room:s.room=t.room
structure EqE (d e:En):Prop where
 ep:d.ep=e.ep
 n:d.n=e.n
 cQ:LU d.cQ e.cQ
 key:LU d.key e.key
section
variable {s:St} {n:Nat} {f:Nat→En}
end
end Go.cA
