/-
  The two primes of the curve, by certificates; the field of remainders; its inverses; a number that is no square. Nothing here speaks of a program.
-/
import Derived.Test.YtemllgnejllcpaaVcgAg1
set_option linter.unusedSimpArgs false
namespace Go.Vcg.Ag
set_option linter.unusedVariables false
set_option maxRecDepth 100000
abbrev PN : Nat := 57896044618658097711785492504343953926634992332820282019728792003956564819949
abbrev LN : Nat := 7237005577332262213973186563042994240857116359379907606001950938285454250989
theorem q1 : Prm 991 := prm_small _ 32 (by decide) (by decide) (by decide +kernel)
theorem q2 : Prm 103 := prm_small _ 11 (by decide) (by decide) (by decide +kernel)
theorem q3 : Prm 127 := prm_small _ 12 (by decide) (by decide) (by decide +kernel)
theorem q4 : Prm 569003 := prm_small _ 755 (by decide) (by decide) (by decide +kernel)
theorem q5 : Prm 430751 := prm_small _ 657 (by decide) (by decide) (by decide +kernel)
theorem q6 : Prm 4153 := prm_small _ 65 (by decide) (by decide) (by decide +kernel)
theorem q7 : Prm 1224481 := prm_small _ 1107 (by decide) (by decide) (by decide +kernel)
theorem q8 : Prm 531581 := prm_small _ 730 (by decide) (by decide) (by decide +kernel)
theorem q9 : Prm 8574133 := prm_two 256 2 2 (by decide) q1 q2 (by decide) (by decide +kernel) (by decide +kernel) (by decide +kernel)
theorem q10 : Prm 2773320623 := prm_one 256 2 (by decide) q4 (by decide +kernel) (by decide +kernel)
theorem q11 : Prm 72106336199 := prm_one 256 2 (by decide) q10 (by decide +kernel) (by decide +kernel)
theorem q12 : Prm 1919519569386763 := prm_two 256 2 2 (by decide) q9 q3 (by decide) (by decide +kernel) (by decide +kernel) (by decide +kernel)
theorem q13 : Prm 75445702479781427272750846543864801 := prm_two 256 2 2 (by decide) q12 q11 (by decide) (by decide +kernel) (by decide +kernel) (by decide +kernel)
theorem q14 : Prm 31757755568855353 := prm_two 256 2 2 (by decide) q5 q6 (by decide) (by decide +kernel) (by decide +kernel) (by decide +kernel)
theorem q15 : Prm 74058212732561358302231226437062788676166966415465897661863160754340907 := prm_two 256 2 2 (by decide) q13 q14 (by decide) (by decide +kernel) (by decide +kernel) (by decide +kernel)
theorem pPrm : Prm PN := prm_one 256 2 (by decide) q15 (by decide +kernel) (by decide +kernel)
theorem q16 : Prm 1257559732178653 := prm_two 256 2 2 (by decide) q7 q8 (by decide) (by decide +kernel) (by decide +kernel) (by decide +kernel)
theorem q17 : Prm 4434155615661930479 := prm_one 256 2 (by decide) q16 (by decide +kernel) (by decide +kernel)
theorem q18 : Prm 172054593956031949258510691 := prm_one 256 2 (by decide) q17 (by decide +kernel) (by decide +kernel)
theorem q19 : Prm 19757330305831588566944191468367130476339 := prm_one 256 2 (by decide) q18 (by decide +kernel) (by decide +kernel)
theorem q20 : Prm 276602624281642239937218680557139826668747 := prm_one 256 2 (by decide) q19 (by decide +kernel) (by decide +kernel)
theorem lPrm : Prm LN := prm_one 256 2 (by decide) q20 (by decide +kernel) (by decide +kernel)
end Go.Vcg.Ag
