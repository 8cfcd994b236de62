/-
  The calculus: a state's bytes say what the state is. Nothing here speaks of a program's code.
-/
import Derived.Test.YtpnehhpadofcbaaGreatDoorVcgRw
set_option linter.unusedSectionVars false
set_option linter.unusedSimpArgs false
set_option linter.unusedVariables false
namespace Go.bU

def JZ (f g:Nat→Int):Prop:= ∀ i,i < 32→f i=g i
structure EqS (s t:St):Prop where
 own:s.own=t.own
 peer:s.peer=t.peer
 has:s.has=t.has
 root:JZ s.root t.root
 priv:JZ s.priv t.priv
 aG:JZ s.aG t.aG
 zA:JZ s.zA t.zA
 send:JZ s.send t.send
 recv:JZ s.recv t.recv
 se:s.se=t.se
 re:s.re=t.re
 ns:s.ns=t.ns
 nr:s.nr=t.nr
 pn:s.pn=t.pn
 skip:s.skip=t.skip
 room:s.room=t.room
structure EqE (d e:En):Prop where
 ep:d.ep=e.ep
 n:d.n=e.n
 aG:JZ d.aG e.aG
 key:JZ d.key e.key
section
variable {s:St} {n:Nat} {f:Nat→En}
end
end Go.bU
