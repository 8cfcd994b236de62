/-
  Common rewriting rules of lists, numbers and options, gathered, so that texts name them at once. Nothing here speaks of a program.
-/
import Derived.Test.YtbipdofobgabhaaGreatDoorVcgE
set_option linter.unusedSimpArgs false
set_option linter.unusedVariables false
namespace Go.bA

theorem Wb:type_of% @List.size_toArray.{0}∧type_of% @List.getElem?_toArray.{0}∧type_of% @List.getElem?_cons_zero.{0}∧type_of% @List.getElem?_cons_succ.{0}∧type_of% @List.getElem?_nil.{0}∧type_of% @List.length_cons.{0}∧type_of% @List.length_nil.{0}∧type_of% @List.length_singleton.{0}∧
  type_of% @Nat.zero_add∧type_of% @Nat.add_zero∧type_of% @Nat.zero_mul∧type_of% @Nat.mul_one∧type_of% @Nat.le_refl∧type_of% @and_true∧type_of% @true_and∧type_of% @and_self∧type_of% @List.drop_zero.{0}∧type_of% @List.take_zero.{0}∧type_of% @List.drop_succ_cons.{0}∧type_of% @List.take_succ_cons.{0}∧type_of% @List.take_nil.{0}∧type_of% @List.drop_nil.{0}∧
  type_of% @List.map_cons.{0,0}∧type_of% @List.map_nil.{0,0}∧type_of% @List.all_cons.{0}∧type_of% @List.all_nil.{0}∧type_of% @Bool.and_true∧type_of% @List.append_nil.{0}∧type_of% @List.nil_append.{0}∧type_of% @List.cons_append.{0}∧type_of% @List.toList_toArray.{0}∧type_of% @ne_eq.{1}∧type_of% @Bool.false_eq_true∧type_of% @Int.cast_ofNat_Int∧type_of% @Option.getD_none.{0}∧type_of% @Option.getD_some.{0}∧type_of% @eq_self.{1}:=
 ⟨@List.size_toArray, @List.getElem?_toArray, @List.getElem?_cons_zero, @List.getElem?_cons_succ, @List.getElem?_nil, @List.length_cons, @List.length_nil, @List.length_singleton, @Nat.zero_add, @Nat.add_zero, @Nat.zero_mul, @Nat.mul_one, @Nat.le_refl, @and_true, @true_and, @and_self, @List.drop_zero, @List.take_zero, @List.drop_succ_cons, @List.take_succ_cons, @List.take_nil, @List.drop_nil,
  @List.map_cons, @List.map_nil, @List.all_cons, @List.all_nil, @Bool.and_true, @List.append_nil, @List.nil_append, @List.cons_append, @List.toList_toArray, @ne_eq, @Bool.false_eq_true, @Int.cast_ofNat_Int, @Option.getD_none, @Option.getD_some, @eq_self⟩
end Go.bA
