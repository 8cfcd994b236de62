/-
  The two primes of the curve, by certificates; the field of remainders; its inverses; a number that is no square. Nothing here speaks of a program.
-/
import Derived.Test.YtbipdofobgabhaaGreatDoorVcgAg1
set_option linter.unusedSimpArgs false
set_option linter.unusedVariables false
set_option maxRecDepth 100000
namespace Go.bA.Ag

abbrev PN:Nat:=57896044618658097711785492504343953926634992332820282019728792003956564819949
abbrev LN:Nat:=7237005577332262213973186563042994240857116359379907606001950938285454250989
theorem q1:mD 991:=iO _ 32 (by decide) (by decide) (by decide+kernel)
theorem q2:mD 103:=iO _ 11 (by decide) (by decide) (by decide+kernel)
theorem q3:mD 127:=iO _ 12 (by decide) (by decide) (by decide+kernel)
theorem q4:mD 569003:=iO _ 755 (by decide) (by decide) (by decide+kernel)
theorem q5:mD 430751:=iO _ 657 (by decide) (by decide) (by decide+kernel)
theorem q6:mD 4153:=iO _ 65 (by decide) (by decide) (by decide+kernel)
theorem q7:mD 1224481:=iO _ 1107 (by decide) (by decide) (by decide+kernel)
theorem q8:mD 531581:=iO _ 730 (by decide) (by decide) (by decide+kernel)
theorem q9:mD 8574133:=qh 256 2 2 (by decide) q1 q2 (by decide) (by decide+kernel) (by decide+kernel) (by decide+kernel)
theorem q10:mD 2773320623:=mb 256 2 (by decide) q4 (by decide+kernel) (by decide+kernel)
theorem q11:mD 72106336199:=mb 256 2 (by decide) q10 (by decide+kernel) (by decide+kernel)
theorem q12:mD 1919519569386763:=qh 256 2 2 (by decide) q9 q3 (by decide) (by decide+kernel) (by decide+kernel) (by decide+kernel)
theorem q13:mD 75445702479781427272750846543864801:=qh 256 2 2 (by decide) q12 q11 (by decide) (by decide+kernel) (by decide+kernel) (by decide+kernel)
theorem q14:mD 31757755568855353:=qh 256 2 2 (by decide) q5 q6 (by decide) (by decide+kernel) (by decide+kernel) (by decide+kernel)
theorem q15:mD 74058212732561358302231226437062788676166966415465897661863160754340907:=qh 256 2 2 (by decide) q13 q14 (by decide) (by decide+kernel) (by decide+kernel) (by decide+kernel)
theorem abj:mD PN:=mb 256 2 (by decide) q15 (by decide+kernel) (by decide+kernel)
theorem q16:mD 1257559732178653:=qh 256 2 2 (by decide) q7 q8 (by decide) (by decide+kernel) (by decide+kernel) (by decide+kernel)
theorem q17:mD 4434155615661930479:=mb 256 2 (by decide) q16 (by decide+kernel) (by decide+kernel)
theorem q18:mD 172054593956031949258510691:=mb 256 2 (by decide) q17 (by decide+kernel) (by decide+kernel)
theorem q19:mD 19757330305831588566944191468367130476339:=mb 256 2 (by decide) q18 (by decide+kernel) (by decide+kernel)
theorem q20:mD 276602624281642239937218680557139826668747:=mb 256 2 (by decide) q19 (by decide+kernel) (by decide+kernel)
theorem abk:mD LN:=mb 256 2 (by decide) q20 (by decide+kernel) (by decide+kernel)
end Go.bA.Ag
