/-
  Closed facts on the tables of this seat's program, each by the kernel (made by program from the translation: wip/lib/facts.py).
-/
import Derived.Test.YtemllgnejllcpaaVcgQ0
import Derived.Test.YtemllgnejllcpaaVcgC
import Derived.Test.YtemllgnejllcpaaProg
import Derived.KernelRfl
set_option linter.unusedVariables false
set_option linter.unusedSimpArgs false
namespace Go.Proofs.Ytemllgnejllcpaa
open Go.Vcg
instance : Vcg.Tables Try.prog := ⟨fun _ => none⟩
theorem Try.ty2 : tyOf Try.prog 2 = some (false, 1) := by kernel_rfl
theorem Try.kind2 : kindOf Try.prog 2 = some IntKind.i64 := by kernel_rfl
theorem Try.zero2 : zeroOf Try.prog 2 = some ([Value.int IntKind.i64 0]) := by kernel_rfl
theorem Try.ty3 : tyOf Try.prog 3 = some (false, 1) := by kernel_rfl
theorem Try.kind3 : kindOf Try.prog 3 = some IntKind.i64 := by kernel_rfl
theorem Try.zero3 : zeroOf Try.prog 3 = some ([Value.int IntKind.i64 0]) := by kernel_rfl
theorem Try.ty4 : tyOf Try.prog 4 = some (false, 1) := by kernel_rfl
theorem Try.zero4 : zeroOf Try.prog 4 = some ([Value.bool false]) := by kernel_rfl
theorem Try.ty5 : tyOf Try.prog 5 = some (false, 1) := by kernel_rfl
theorem Try.kind5 : kindOf Try.prog 5 = some IntKind.u8 := by kernel_rfl
theorem Try.zero5 : zeroOf Try.prog 5 = some ([Value.int IntKind.u8 0]) := by kernel_rfl
theorem Try.ty6 : tyOf Try.prog 6 = some (false, 1) := by kernel_rfl
theorem Try.kind6 : kindOf Try.prog 6 = some IntKind.u8 := by kernel_rfl
theorem Try.zero6 : zeroOf Try.prog 6 = some ([Value.int IntKind.u8 0]) := by kernel_rfl
theorem Try.ty7 : tyOf Try.prog 7 = some (true, 4) := by kernel_rfl
theorem Try.zero7 : zeroOf Try.prog 7 = some ([Value.int IntKind.i64 0, Value.int IntKind.i64 0, Value.bool false, Value.int IntKind.u8 0]) := by kernel_rfl
theorem Try.blank7 : blankOf Try.prog 7 = some ([Sum.inl (Value.int IntKind.i64 0), Sum.inl (Value.int IntKind.i64 0), Sum.inl (Value.bool false), Sum.inl (Value.int IntKind.u8 0)]) := by kernel_rfl
theorem Try.fld7_0 : fieldOf Try.prog 7 0 = some (0, false, 1) := by kernel_rfl
theorem Try.place7_0 : placeOf Try.prog 7 0 = some (0, 1) := by kernel_rfl
theorem Try.fld7_1 : fieldOf Try.prog 7 1 = some (1, false, 1) := by kernel_rfl
theorem Try.place7_1 : placeOf Try.prog 7 1 = some (1, 1) := by kernel_rfl
theorem Try.fld7_2 : fieldOf Try.prog 7 2 = some (2, false, 1) := by kernel_rfl
theorem Try.place7_2 : placeOf Try.prog 7 2 = some (2, 1) := by kernel_rfl
theorem Try.fld7_3 : fieldOf Try.prog 7 3 = some (3, false, 1) := by kernel_rfl
theorem Try.place7_3 : placeOf Try.prog 7 3 = some (3, 1) := by kernel_rfl
theorem Try.ty8 : tyOf Try.prog 8 = some (true, 4) := by kernel_rfl
theorem Try.zero8 : zeroOf Try.prog 8 = some ([Value.int IntKind.i64 0, Value.int IntKind.i64 0, Value.bool false, Value.int IntKind.u8 0]) := by kernel_rfl
theorem Try.blank8 : blankOf Try.prog 8 = some ([Sum.inl (Value.int IntKind.i64 0), Sum.inl (Value.int IntKind.i64 0), Sum.inl (Value.bool false), Sum.inl (Value.int IntKind.u8 0)]) := by kernel_rfl
theorem Try.fld8_0 : fieldOf Try.prog 8 0 = some (0, false, 1) := by kernel_rfl
theorem Try.place8_0 : placeOf Try.prog 8 0 = some (0, 1) := by kernel_rfl
theorem Try.fld8_1 : fieldOf Try.prog 8 1 = some (1, false, 1) := by kernel_rfl
theorem Try.place8_1 : placeOf Try.prog 8 1 = some (1, 1) := by kernel_rfl
theorem Try.fld8_2 : fieldOf Try.prog 8 2 = some (2, false, 1) := by kernel_rfl
theorem Try.place8_2 : placeOf Try.prog 8 2 = some (2, 1) := by kernel_rfl
theorem Try.fld8_3 : fieldOf Try.prog 8 3 = some (3, false, 1) := by kernel_rfl
theorem Try.place8_3 : placeOf Try.prog 8 3 = some (3, 1) := by kernel_rfl
theorem Try.ty9 : tyOf Try.prog 9 = some (false, 1) := by kernel_rfl
theorem Try.zero9 : zeroOf Try.prog 9 = some ([Value.string ByteArray.empty]) := by kernel_rfl
theorem Try.ty10 : tyOf Try.prog 10 = some (false, 1) := by kernel_rfl
theorem Try.zero10 : zeroOf Try.prog 10 = some ([Value.string ByteArray.empty]) := by kernel_rfl
theorem Try.ty11 : tyOf Try.prog 11 = some (false, 1) := by kernel_rfl
theorem Try.zero11 : zeroOf Try.prog 11 = some ([Value.string ByteArray.empty]) := by kernel_rfl
theorem Try.ty12 : tyOf Try.prog 12 = some (false, 1) := by kernel_rfl
theorem Try.kind12 : kindOf Try.prog 12 = some IntKind.u64 := by kernel_rfl
theorem Try.zero12 : zeroOf Try.prog 12 = some ([Value.int IntKind.u64 0]) := by kernel_rfl
theorem Try.ty13 : tyOf Try.prog 13 = some (true, 2) := by kernel_rfl
theorem Try.zero13 : zeroOf Try.prog 13 = some ([Value.string ByteArray.empty, Value.int IntKind.u64 0]) := by kernel_rfl
theorem Try.blank13 : blankOf Try.prog 13 = some ([Sum.inl (Value.string ByteArray.empty), Sum.inl (Value.int IntKind.u64 0)]) := by kernel_rfl
theorem Try.fld13_0 : fieldOf Try.prog 13 0 = some (0, false, 1) := by kernel_rfl
theorem Try.place13_0 : placeOf Try.prog 13 0 = some (0, 1) := by kernel_rfl
theorem Try.fld13_1 : fieldOf Try.prog 13 1 = some (1, false, 1) := by kernel_rfl
theorem Try.place13_1 : placeOf Try.prog 13 1 = some (1, 1) := by kernel_rfl
theorem Try.ty14 : tyOf Try.prog 14 = some (true, 2) := by kernel_rfl
theorem Try.zero14 : zeroOf Try.prog 14 = some ([Value.string ByteArray.empty, Value.int IntKind.u64 0]) := by kernel_rfl
theorem Try.blank14 : blankOf Try.prog 14 = some ([Sum.inl (Value.string ByteArray.empty), Sum.inl (Value.int IntKind.u64 0)]) := by kernel_rfl
theorem Try.fld14_0 : fieldOf Try.prog 14 0 = some (0, false, 1) := by kernel_rfl
theorem Try.place14_0 : placeOf Try.prog 14 0 = some (0, 1) := by kernel_rfl
theorem Try.fld14_1 : fieldOf Try.prog 14 1 = some (1, false, 1) := by kernel_rfl
theorem Try.place14_1 : placeOf Try.prog 14 1 = some (1, 1) := by kernel_rfl
theorem Try.ty15 : tyOf Try.prog 15 = some (false, 1) := by kernel_rfl
theorem Try.zero15 : zeroOf Try.prog 15 = some ([Value.pointer none]) := by kernel_rfl
theorem Try.ty16 : tyOf Try.prog 16 = some (false, 1) := by kernel_rfl
theorem Try.zero16 : zeroOf Try.prog 16 = some ([Value.pointer none]) := by kernel_rfl
theorem Try.ty17 : tyOf Try.prog 17 = some (false, 1) := by kernel_rfl
theorem Try.zero17 : zeroOf Try.prog 17 = some ([Value.pointer none]) := by kernel_rfl
theorem Try.ty18 : tyOf Try.prog 18 = some (true, 1) := by kernel_rfl
theorem Try.zero18 : zeroOf Try.prog 18 = some ([Value.pointer none]) := by kernel_rfl
theorem Try.blank18 : blankOf Try.prog 18 = some ([Sum.inl (Value.pointer none)]) := by kernel_rfl
theorem Try.fld18_0 : fieldOf Try.prog 18 0 = some (0, false, 1) := by kernel_rfl
theorem Try.place18_0 : placeOf Try.prog 18 0 = some (0, 1) := by kernel_rfl
theorem Try.ty19 : tyOf Try.prog 19 = some (true, 1) := by kernel_rfl
theorem Try.zero19 : zeroOf Try.prog 19 = some ([Value.pointer none]) := by kernel_rfl
theorem Try.blank19 : blankOf Try.prog 19 = some ([Sum.inl (Value.pointer none)]) := by kernel_rfl
theorem Try.fld19_0 : fieldOf Try.prog 19 0 = some (0, false, 1) := by kernel_rfl
theorem Try.place19_0 : placeOf Try.prog 19 0 = some (0, 1) := by kernel_rfl
theorem Try.ty21 : tyOf Try.prog 21 = some (false, 1) := by kernel_rfl
theorem Try.kind21 : kindOf Try.prog 21 = some IntKind.i32 := by kernel_rfl
theorem Try.zero21 : zeroOf Try.prog 21 = some ([Value.int IntKind.i32 0]) := by kernel_rfl
theorem Try.ty22 : tyOf Try.prog 22 = some (true, 32) := by kernel_rfl
theorem Try.arr22 : arrOf Try.prog 22 = some (32, 1) := by kernel_rfl
theorem Try.el22 : arrEl Try.prog 22 = some (32, false, 1) := by kernel_rfl
theorem Try.slK22 : slK Try.prog 22 = some (some 32, 1) := by kernel_rfl
theorem Try.zero22 : zeroOf Try.prog 22 = some (List.replicate 32 (Value.int IntKind.u8 0)) := by kernel_rfl
theorem Try.blank22 : blankOf Try.prog 22 = some (List.replicate 32 (Sum.inl (Value.int IntKind.u8 0))) := by kernel_rfl
theorem Try.place22 (i : Nat) : placeOf Try.prog 22 i = some (i * 1, 1) := by unfold placeOf; rw [Try.arr22]
theorem Try.ty23 : tyOf Try.prog 23 = some (true, 32) := by kernel_rfl
theorem Try.arr23 : arrOf Try.prog 23 = some (32, 1) := by kernel_rfl
theorem Try.el23 : arrEl Try.prog 23 = some (32, false, 1) := by kernel_rfl
theorem Try.slK23 : slK Try.prog 23 = some (some 32, 1) := by kernel_rfl
theorem Try.zero23 : zeroOf Try.prog 23 = some (List.replicate 32 (Value.int IntKind.u8 0)) := by kernel_rfl
theorem Try.blank23 : blankOf Try.prog 23 = some (List.replicate 32 (Sum.inl (Value.int IntKind.u8 0))) := by kernel_rfl
theorem Try.place23 (i : Nat) : placeOf Try.prog 23 i = some (i * 1, 1) := by unfold placeOf; rw [Try.arr23]
theorem Try.ty27 : tyOf Try.prog 27 = some (false, 1) := by kernel_rfl
theorem Try.kind27 : kindOf Try.prog 27 = some IntKind.u64 := by kernel_rfl
theorem Try.zero27 : zeroOf Try.prog 27 = some ([Value.int IntKind.u64 0]) := by kernel_rfl
theorem Try.ty28 : tyOf Try.prog 28 = some (true, 5) := by kernel_rfl
theorem Try.arr28 : arrOf Try.prog 28 = some (5, 1) := by kernel_rfl
theorem Try.el28 : arrEl Try.prog 28 = some (5, false, 1) := by kernel_rfl
theorem Try.slK28 : slK Try.prog 28 = some (some 5, 1) := by kernel_rfl
theorem Try.zero28 : zeroOf Try.prog 28 = some ([Value.int IntKind.u64 0, Value.int IntKind.u64 0, Value.int IntKind.u64 0, Value.int IntKind.u64 0, Value.int IntKind.u64 0]) := by kernel_rfl
theorem Try.blank28 : blankOf Try.prog 28 = some ([Sum.inl (Value.int IntKind.u64 0), Sum.inl (Value.int IntKind.u64 0), Sum.inl (Value.int IntKind.u64 0), Sum.inl (Value.int IntKind.u64 0), Sum.inl (Value.int IntKind.u64 0)]) := by kernel_rfl
theorem Try.place28 (i : Nat) : placeOf Try.prog 28 i = some (i * 1, 1) := by unfold placeOf; rw [Try.arr28]
theorem Try.ty29 : tyOf Try.prog 29 = some (true, 5) := by kernel_rfl
theorem Try.arr29 : arrOf Try.prog 29 = some (5, 1) := by kernel_rfl
theorem Try.el29 : arrEl Try.prog 29 = some (5, false, 1) := by kernel_rfl
theorem Try.slK29 : slK Try.prog 29 = some (some 5, 1) := by kernel_rfl
theorem Try.zero29 : zeroOf Try.prog 29 = some ([Value.int IntKind.u64 0, Value.int IntKind.u64 0, Value.int IntKind.u64 0, Value.int IntKind.u64 0, Value.int IntKind.u64 0]) := by kernel_rfl
theorem Try.blank29 : blankOf Try.prog 29 = some ([Sum.inl (Value.int IntKind.u64 0), Sum.inl (Value.int IntKind.u64 0), Sum.inl (Value.int IntKind.u64 0), Sum.inl (Value.int IntKind.u64 0), Sum.inl (Value.int IntKind.u64 0)]) := by kernel_rfl
theorem Try.place29 (i : Nat) : placeOf Try.prog 29 i = some (i * 1, 1) := by unfold placeOf; rw [Try.arr29]
theorem Try.ty34 : tyOf Try.prog 34 = some (false, 1) := by kernel_rfl
theorem Try.kind34 : kindOf Try.prog 34 = some IntKind.u64 := by kernel_rfl
theorem Try.zero34 : zeroOf Try.prog 34 = some ([Value.int IntKind.u64 0]) := by kernel_rfl
theorem Try.ty35 : tyOf Try.prog 35 = some (true, 4) := by kernel_rfl
theorem Try.arr35 : arrOf Try.prog 35 = some (4, 1) := by kernel_rfl
theorem Try.el35 : arrEl Try.prog 35 = some (4, false, 1) := by kernel_rfl
theorem Try.slK35 : slK Try.prog 35 = some (some 4, 1) := by kernel_rfl
theorem Try.zero35 : zeroOf Try.prog 35 = some ([Value.int IntKind.u64 0, Value.int IntKind.u64 0, Value.int IntKind.u64 0, Value.int IntKind.u64 0]) := by kernel_rfl
theorem Try.blank35 : blankOf Try.prog 35 = some ([Sum.inl (Value.int IntKind.u64 0), Sum.inl (Value.int IntKind.u64 0), Sum.inl (Value.int IntKind.u64 0), Sum.inl (Value.int IntKind.u64 0)]) := by kernel_rfl
theorem Try.place35 (i : Nat) : placeOf Try.prog 35 i = some (i * 1, 1) := by unfold placeOf; rw [Try.arr35]
theorem Try.ty36 : tyOf Try.prog 36 = some (true, 20) := by kernel_rfl
theorem Try.zero36 : zeroOf Try.prog 36 = some (List.replicate 20 (Value.int IntKind.u64 0)) := by kernel_rfl
theorem Try.blank36 : blankOf Try.prog 36 = some (List.replicate 20 (Sum.inl (Value.int IntKind.u64 0))) := by kernel_rfl
theorem Try.fld36_0 : fieldOf Try.prog 36 0 = some (0, true, 5) := by kernel_rfl
theorem Try.place36_0 : placeOf Try.prog 36 0 = some (0, 5) := by kernel_rfl
theorem Try.fld36_1 : fieldOf Try.prog 36 1 = some (5, true, 5) := by kernel_rfl
theorem Try.place36_1 : placeOf Try.prog 36 1 = some (5, 5) := by kernel_rfl
theorem Try.fld36_2 : fieldOf Try.prog 36 2 = some (10, true, 5) := by kernel_rfl
theorem Try.place36_2 : placeOf Try.prog 36 2 = some (10, 5) := by kernel_rfl
theorem Try.fld36_3 : fieldOf Try.prog 36 3 = some (15, true, 5) := by kernel_rfl
theorem Try.place36_3 : placeOf Try.prog 36 3 = some (15, 5) := by kernel_rfl
theorem Try.ty37 : tyOf Try.prog 37 = some (true, 20) := by kernel_rfl
theorem Try.zero37 : zeroOf Try.prog 37 = some (List.replicate 20 (Value.int IntKind.u64 0)) := by kernel_rfl
theorem Try.blank37 : blankOf Try.prog 37 = some (List.replicate 20 (Sum.inl (Value.int IntKind.u64 0))) := by kernel_rfl
theorem Try.fld37_0 : fieldOf Try.prog 37 0 = some (0, true, 5) := by kernel_rfl
theorem Try.place37_0 : placeOf Try.prog 37 0 = some (0, 5) := by kernel_rfl
theorem Try.fld37_1 : fieldOf Try.prog 37 1 = some (5, true, 5) := by kernel_rfl
theorem Try.place37_1 : placeOf Try.prog 37 1 = some (5, 5) := by kernel_rfl
theorem Try.fld37_2 : fieldOf Try.prog 37 2 = some (10, true, 5) := by kernel_rfl
theorem Try.place37_2 : placeOf Try.prog 37 2 = some (10, 5) := by kernel_rfl
theorem Try.fld37_3 : fieldOf Try.prog 37 3 = some (15, true, 5) := by kernel_rfl
theorem Try.place37_3 : placeOf Try.prog 37 3 = some (15, 5) := by kernel_rfl
theorem Try.ty41 : tyOf Try.prog 41 = some (true, 2) := by kernel_rfl
theorem Try.zero41 : zeroOf Try.prog 41 = some ([Value.int IntKind.u64 0, Value.int IntKind.u64 0]) := by kernel_rfl
theorem Try.blank41 : blankOf Try.prog 41 = some ([Sum.inl (Value.int IntKind.u64 0), Sum.inl (Value.int IntKind.u64 0)]) := by kernel_rfl
theorem Try.fld41_0 : fieldOf Try.prog 41 0 = some (0, false, 1) := by kernel_rfl
theorem Try.place41_0 : placeOf Try.prog 41 0 = some (0, 1) := by kernel_rfl
theorem Try.fld41_1 : fieldOf Try.prog 41 1 = some (1, false, 1) := by kernel_rfl
theorem Try.place41_1 : placeOf Try.prog 41 1 = some (1, 1) := by kernel_rfl
theorem Try.ty42 : tyOf Try.prog 42 = some (true, 2) := by kernel_rfl
theorem Try.zero42 : zeroOf Try.prog 42 = some ([Value.int IntKind.u64 0, Value.int IntKind.u64 0]) := by kernel_rfl
theorem Try.blank42 : blankOf Try.prog 42 = some ([Sum.inl (Value.int IntKind.u64 0), Sum.inl (Value.int IntKind.u64 0)]) := by kernel_rfl
theorem Try.fld42_0 : fieldOf Try.prog 42 0 = some (0, false, 1) := by kernel_rfl
theorem Try.place42_0 : placeOf Try.prog 42 0 = some (0, 1) := by kernel_rfl
theorem Try.fld42_1 : fieldOf Try.prog 42 1 = some (1, false, 1) := by kernel_rfl
theorem Try.place42_1 : placeOf Try.prog 42 1 = some (1, 1) := by kernel_rfl
theorem Try.ty50 : tyOf Try.prog 50 = some (true, 4) := by kernel_rfl
theorem Try.zero50 : zeroOf Try.prog 50 = some ([Value.pointer none, Value.pointer none, Value.pointer none, Value.string ByteArray.empty]) := by kernel_rfl
theorem Try.blank50 : blankOf Try.prog 50 = some ([Sum.inl (Value.pointer none), Sum.inl (Value.pointer none), Sum.inl (Value.pointer none), Sum.inl (Value.string ByteArray.empty)]) := by kernel_rfl
theorem Try.fld50_0 : fieldOf Try.prog 50 0 = some (0, false, 1) := by kernel_rfl
theorem Try.place50_0 : placeOf Try.prog 50 0 = some (0, 1) := by kernel_rfl
theorem Try.fld50_1 : fieldOf Try.prog 50 1 = some (1, false, 1) := by kernel_rfl
theorem Try.place50_1 : placeOf Try.prog 50 1 = some (1, 1) := by kernel_rfl
theorem Try.fld50_2 : fieldOf Try.prog 50 2 = some (2, false, 1) := by kernel_rfl
theorem Try.place50_2 : placeOf Try.prog 50 2 = some (2, 1) := by kernel_rfl
theorem Try.fld50_3 : fieldOf Try.prog 50 3 = some (3, false, 1) := by kernel_rfl
theorem Try.place50_3 : placeOf Try.prog 50 3 = some (3, 1) := by kernel_rfl
theorem Try.ty51 : tyOf Try.prog 51 = some (true, 4) := by kernel_rfl
theorem Try.zero51 : zeroOf Try.prog 51 = some ([Value.pointer none, Value.pointer none, Value.pointer none, Value.string ByteArray.empty]) := by kernel_rfl
theorem Try.blank51 : blankOf Try.prog 51 = some ([Sum.inl (Value.pointer none), Sum.inl (Value.pointer none), Sum.inl (Value.pointer none), Sum.inl (Value.string ByteArray.empty)]) := by kernel_rfl
theorem Try.fld51_0 : fieldOf Try.prog 51 0 = some (0, false, 1) := by kernel_rfl
theorem Try.place51_0 : placeOf Try.prog 51 0 = some (0, 1) := by kernel_rfl
theorem Try.fld51_1 : fieldOf Try.prog 51 1 = some (1, false, 1) := by kernel_rfl
theorem Try.place51_1 : placeOf Try.prog 51 1 = some (1, 1) := by kernel_rfl
theorem Try.fld51_2 : fieldOf Try.prog 51 2 = some (2, false, 1) := by kernel_rfl
theorem Try.place51_2 : placeOf Try.prog 51 2 = some (2, 1) := by kernel_rfl
theorem Try.fld51_3 : fieldOf Try.prog 51 3 = some (3, false, 1) := by kernel_rfl
theorem Try.place51_3 : placeOf Try.prog 51 3 = some (3, 1) := by kernel_rfl
theorem Try.ty56 : tyOf Try.prog 56 = some (false, 1) := by kernel_rfl
theorem Try.kind56 : kindOf Try.prog 56 = some IntKind.u32 := by kernel_rfl
theorem Try.zero56 : zeroOf Try.prog 56 = some ([Value.int IntKind.u32 0]) := by kernel_rfl
theorem Try.ty57 : tyOf Try.prog 57 = some (false, 1) := by kernel_rfl
theorem Try.kind57 : kindOf Try.prog 57 = some IntKind.u8 := by kernel_rfl
theorem Try.zero57 : zeroOf Try.prog 57 = some ([Value.int IntKind.u8 0]) := by kernel_rfl
theorem Try.ty58 : tyOf Try.prog 58 = some (false, 1) := by kernel_rfl
theorem Try.kind58 : kindOf Try.prog 58 = some IntKind.u8 := by kernel_rfl
theorem Try.zero58 : zeroOf Try.prog 58 = some ([Value.int IntKind.u8 0]) := by kernel_rfl
theorem Try.ty60 : tyOf Try.prog 60 = some (false, 1) := by kernel_rfl
theorem Try.zero60 : zeroOf Try.prog 60 = some ([Value.pointer none]) := by kernel_rfl
theorem Try.ty61 : tyOf Try.prog 61 = some (false, 1) := by kernel_rfl
theorem Try.kind61 : kindOf Try.prog 61 = some IntKind.i32 := by kernel_rfl
theorem Try.zero61 : zeroOf Try.prog 61 = some ([Value.int IntKind.i32 0]) := by kernel_rfl
theorem Try.ty62 : tyOf Try.prog 62 = some (false, 1) := by kernel_rfl
theorem Try.kind62 : kindOf Try.prog 62 = some IntKind.i32 := by kernel_rfl
theorem Try.zero62 : zeroOf Try.prog 62 = some ([Value.int IntKind.i32 0]) := by kernel_rfl
theorem Try.ty63 : tyOf Try.prog 63 = some (true, 11) := by kernel_rfl
theorem Try.zero63 : zeroOf Try.prog 63 = some ([Value.int IntKind.u64 0, Value.int IntKind.u64 0, Value.int IntKind.u32 0, Value.int IntKind.u8 0, Value.int IntKind.u8 0, Value.int IntKind.u8 0, Value.int IntKind.u8 0, Value.nilFunc, Value.pointer none, Value.int IntKind.i32 0, Value.int IntKind.i32 0]) := by kernel_rfl
theorem Try.blank63 : blankOf Try.prog 63 = some ([Sum.inl (Value.int IntKind.u64 0), Sum.inl (Value.int IntKind.u64 0), Sum.inl (Value.int IntKind.u32 0), Sum.inl (Value.int IntKind.u8 0), Sum.inl (Value.int IntKind.u8 0), Sum.inl (Value.int IntKind.u8 0), Sum.inl (Value.int IntKind.u8 0), Sum.inl (Value.nilFunc), Sum.inl (Value.pointer none), Sum.inl (Value.int IntKind.i32 0), Sum.inl (Value.int IntKind.i32 0)]) := by kernel_rfl
theorem Try.fld63_0 : fieldOf Try.prog 63 0 = some (0, false, 1) := by kernel_rfl
theorem Try.place63_0 : placeOf Try.prog 63 0 = some (0, 1) := by kernel_rfl
theorem Try.fld63_1 : fieldOf Try.prog 63 1 = some (1, false, 1) := by kernel_rfl
theorem Try.place63_1 : placeOf Try.prog 63 1 = some (1, 1) := by kernel_rfl
theorem Try.fld63_2 : fieldOf Try.prog 63 2 = some (2, false, 1) := by kernel_rfl
theorem Try.place63_2 : placeOf Try.prog 63 2 = some (2, 1) := by kernel_rfl
theorem Try.fld63_3 : fieldOf Try.prog 63 3 = some (3, false, 1) := by kernel_rfl
theorem Try.place63_3 : placeOf Try.prog 63 3 = some (3, 1) := by kernel_rfl
theorem Try.fld63_4 : fieldOf Try.prog 63 4 = some (4, false, 1) := by kernel_rfl
theorem Try.place63_4 : placeOf Try.prog 63 4 = some (4, 1) := by kernel_rfl
theorem Try.fld63_5 : fieldOf Try.prog 63 5 = some (5, false, 1) := by kernel_rfl
theorem Try.place63_5 : placeOf Try.prog 63 5 = some (5, 1) := by kernel_rfl
theorem Try.fld63_6 : fieldOf Try.prog 63 6 = some (6, false, 1) := by kernel_rfl
theorem Try.place63_6 : placeOf Try.prog 63 6 = some (6, 1) := by kernel_rfl
theorem Try.fld63_7 : fieldOf Try.prog 63 7 = some (7, false, 1) := by kernel_rfl
theorem Try.place63_7 : placeOf Try.prog 63 7 = some (7, 1) := by kernel_rfl
theorem Try.fld63_8 : fieldOf Try.prog 63 8 = some (8, false, 1) := by kernel_rfl
theorem Try.place63_8 : placeOf Try.prog 63 8 = some (8, 1) := by kernel_rfl
theorem Try.fld63_9 : fieldOf Try.prog 63 9 = some (9, false, 1) := by kernel_rfl
theorem Try.place63_9 : placeOf Try.prog 63 9 = some (9, 1) := by kernel_rfl
theorem Try.fld63_10 : fieldOf Try.prog 63 10 = some (10, false, 1) := by kernel_rfl
theorem Try.place63_10 : placeOf Try.prog 63 10 = some (10, 1) := by kernel_rfl
theorem Try.ty64 : tyOf Try.prog 64 = some (true, 11) := by kernel_rfl
theorem Try.zero64 : zeroOf Try.prog 64 = some ([Value.int IntKind.u64 0, Value.int IntKind.u64 0, Value.int IntKind.u32 0, Value.int IntKind.u8 0, Value.int IntKind.u8 0, Value.int IntKind.u8 0, Value.int IntKind.u8 0, Value.nilFunc, Value.pointer none, Value.int IntKind.i32 0, Value.int IntKind.i32 0]) := by kernel_rfl
theorem Try.blank64 : blankOf Try.prog 64 = some ([Sum.inl (Value.int IntKind.u64 0), Sum.inl (Value.int IntKind.u64 0), Sum.inl (Value.int IntKind.u32 0), Sum.inl (Value.int IntKind.u8 0), Sum.inl (Value.int IntKind.u8 0), Sum.inl (Value.int IntKind.u8 0), Sum.inl (Value.int IntKind.u8 0), Sum.inl (Value.nilFunc), Sum.inl (Value.pointer none), Sum.inl (Value.int IntKind.i32 0), Sum.inl (Value.int IntKind.i32 0)]) := by kernel_rfl
theorem Try.fld64_0 : fieldOf Try.prog 64 0 = some (0, false, 1) := by kernel_rfl
theorem Try.place64_0 : placeOf Try.prog 64 0 = some (0, 1) := by kernel_rfl
theorem Try.fld64_1 : fieldOf Try.prog 64 1 = some (1, false, 1) := by kernel_rfl
theorem Try.place64_1 : placeOf Try.prog 64 1 = some (1, 1) := by kernel_rfl
theorem Try.fld64_2 : fieldOf Try.prog 64 2 = some (2, false, 1) := by kernel_rfl
theorem Try.place64_2 : placeOf Try.prog 64 2 = some (2, 1) := by kernel_rfl
theorem Try.fld64_3 : fieldOf Try.prog 64 3 = some (3, false, 1) := by kernel_rfl
theorem Try.place64_3 : placeOf Try.prog 64 3 = some (3, 1) := by kernel_rfl
theorem Try.fld64_4 : fieldOf Try.prog 64 4 = some (4, false, 1) := by kernel_rfl
theorem Try.place64_4 : placeOf Try.prog 64 4 = some (4, 1) := by kernel_rfl
theorem Try.fld64_5 : fieldOf Try.prog 64 5 = some (5, false, 1) := by kernel_rfl
theorem Try.place64_5 : placeOf Try.prog 64 5 = some (5, 1) := by kernel_rfl
theorem Try.fld64_6 : fieldOf Try.prog 64 6 = some (6, false, 1) := by kernel_rfl
theorem Try.place64_6 : placeOf Try.prog 64 6 = some (6, 1) := by kernel_rfl
theorem Try.fld64_7 : fieldOf Try.prog 64 7 = some (7, false, 1) := by kernel_rfl
theorem Try.place64_7 : placeOf Try.prog 64 7 = some (7, 1) := by kernel_rfl
theorem Try.fld64_8 : fieldOf Try.prog 64 8 = some (8, false, 1) := by kernel_rfl
theorem Try.place64_8 : placeOf Try.prog 64 8 = some (8, 1) := by kernel_rfl
theorem Try.fld64_9 : fieldOf Try.prog 64 9 = some (9, false, 1) := by kernel_rfl
theorem Try.place64_9 : placeOf Try.prog 64 9 = some (9, 1) := by kernel_rfl
theorem Try.fld64_10 : fieldOf Try.prog 64 10 = some (10, false, 1) := by kernel_rfl
theorem Try.place64_10 : placeOf Try.prog 64 10 = some (10, 1) := by kernel_rfl
theorem Try.callable3 : callable Try.prog 3 = true := by kernel_rfl
theorem Try.callable4 : callable Try.prog 4 = true := by kernel_rfl
theorem Try.callable5 : callable Try.prog 5 = true := by kernel_rfl
theorem Try.callable6 : callable Try.prog 6 = true := by kernel_rfl
theorem Try.callable7 : callable Try.prog 7 = true := by kernel_rfl
theorem Try.callable8 : callable Try.prog 8 = true := by kernel_rfl
theorem Try.callable9 : callable Try.prog 9 = true := by kernel_rfl
theorem Try.callable10 : callable Try.prog 10 = true := by kernel_rfl
theorem Try.callable11 : callable Try.prog 11 = true := by kernel_rfl
theorem Try.callable12 : callable Try.prog 12 = true := by kernel_rfl
theorem Try.callable13 : callable Try.prog 13 = true := by kernel_rfl
theorem Try.callable14 : callable Try.prog 14 = true := by kernel_rfl
theorem Try.callable15 : callable Try.prog 15 = true := by kernel_rfl
theorem Try.callable16 : callable Try.prog 16 = true := by kernel_rfl
theorem Try.callable17 : callable Try.prog 17 = true := by kernel_rfl
theorem Try.callable18 : callable Try.prog 18 = true := by kernel_rfl
theorem Try.callable19 : callable Try.prog 19 = true := by kernel_rfl
theorem Try.callable20 : callable Try.prog 20 = true := by kernel_rfl
theorem Try.callable21 : callable Try.prog 21 = false := by kernel_rfl
theorem Try.callable22 : callable Try.prog 22 = false := by kernel_rfl
theorem Try.callable23 : callable Try.prog 23 = false := by kernel_rfl
theorem Try.callable24 : callable Try.prog 24 = false := by kernel_rfl
theorem Try.callable25 : callable Try.prog 25 = false := by kernel_rfl
theorem Try.callable26 : callable Try.prog 26 = false := by kernel_rfl
theorem Try.callable27 : callable Try.prog 27 = false := by kernel_rfl
theorem Try.callable28 : callable Try.prog 28 = false := by kernel_rfl
theorem Try.callable29 : callable Try.prog 29 = false := by kernel_rfl
theorem Try.callable30 : callable Try.prog 30 = false := by kernel_rfl
theorem Try.callable31 : callable Try.prog 31 = false := by kernel_rfl
theorem Try.callable32 : callable Try.prog 32 = false := by kernel_rfl
theorem Try.callable33 : callable Try.prog 33 = false := by kernel_rfl
theorem Try.callable34 : callable Try.prog 34 = false := by kernel_rfl
theorem Try.callable35 : callable Try.prog 35 = false := by kernel_rfl
theorem Try.callable36 : callable Try.prog 36 = false := by kernel_rfl
theorem Try.callable37 : callable Try.prog 37 = false := by kernel_rfl
theorem Try.mixed : Try.prog.follows .mixedOrders = true := by kernel_rfl
theorem Try.isb4 : isBool Try.prog 4 = true := by kernel_rfl
theorem Try.lenK9 : lenK Try.prog [9] = 2 := by kernel_rfl
theorem Try.lenK10 : lenK Try.prog [10] = 2 := by kernel_rfl
theorem Try.lenK11 : lenK Try.prog [11] = 2 := by kernel_rfl
theorem Try.arrI22 : arrIntOf Try.prog 22 = some (32, IntKind.u8) := by kernel_rfl
theorem Try.arrI23 : arrIntOf Try.prog 23 = some (32, IntKind.u8) := by kernel_rfl
theorem Try.arrI28 : arrIntOf Try.prog 28 = some (5, IntKind.u64) := by kernel_rfl
theorem Try.arrI29 : arrIntOf Try.prog 29 = some (5, IntKind.u64) := by kernel_rfl
theorem Try.arrI35 : arrIntOf Try.prog 35 = some (4, IntKind.u64) := by kernel_rfl
theorem Try.arrN36 : arrIntOf Try.prog 36 = none := by kernel_rfl
theorem Try.fds36 : fdsOf Try.prog 36 = some [(0, 5, IntKind.u64), (5, 5, IntKind.u64), (10, 5, IntKind.u64), (15, 5, IntKind.u64)] := by kernel_rfl
theorem Try.arrN37 : arrIntOf Try.prog 37 = none := by kernel_rfl
theorem Try.fds37 : fdsOf Try.prog 37 = some [(0, 5, IntKind.u64), (5, 5, IntKind.u64), (10, 5, IntKind.u64), (15, 5, IntKind.u64)] := by kernel_rfl
theorem Try.arrN41 : arrIntOf Try.prog 41 = none := by kernel_rfl
theorem Try.fds41 : fdsOf Try.prog 41 = some [(0, 1, IntKind.u64), (1, 1, IntKind.u64)] := by kernel_rfl
theorem Try.arrN42 : arrIntOf Try.prog 42 = none := by kernel_rfl
theorem Try.fds42 : fdsOf Try.prog 42 = some [(0, 1, IntKind.u64), (1, 1, IntKind.u64)] := by kernel_rfl
theorem Try.facts0 : type_of% @Try.ty2 ∧ type_of% @Try.kind2 ∧ type_of% @Try.zero2 ∧ type_of% @Try.ty3 ∧ type_of% @Try.kind3 ∧ type_of% @Try.zero3 ∧ type_of% @Try.ty4 ∧ type_of% @Try.zero4 ∧ type_of% @Try.ty5 ∧ type_of% @Try.kind5 ∧ type_of% @Try.zero5 ∧ type_of% @Try.ty6 ∧ type_of% @Try.kind6 ∧ type_of% @Try.zero6 ∧ type_of% @Try.ty7 ∧ type_of% @Try.zero7 ∧ type_of% @Try.blank7 ∧ type_of% @Try.fld7_0 ∧ type_of% @Try.place7_0 ∧ type_of% @Try.fld7_1 ∧ type_of% @Try.place7_1 ∧ type_of% @Try.fld7_2 ∧ type_of% @Try.place7_2 ∧ type_of% @Try.fld7_3 ∧ type_of% @Try.place7_3 ∧ type_of% @Try.ty8 ∧ type_of% @Try.zero8 ∧ type_of% @Try.blank8 ∧ type_of% @Try.fld8_0 ∧ type_of% @Try.place8_0 ∧ type_of% @Try.fld8_1 ∧ type_of% @Try.place8_1 ∧ type_of% @Try.fld8_2 ∧ type_of% @Try.place8_2 ∧ type_of% @Try.fld8_3 ∧ type_of% @Try.place8_3 ∧ type_of% @Try.ty9 ∧ type_of% @Try.zero9 ∧ type_of% @Try.ty10 ∧ type_of% @Try.zero10 ∧ type_of% @Try.ty11 ∧ type_of% @Try.zero11 ∧ type_of% @Try.ty12 ∧ type_of% @Try.kind12 ∧ type_of% @Try.zero12 ∧ type_of% @Try.ty13 ∧ type_of% @Try.zero13 ∧ type_of% @Try.blank13 ∧ type_of% @Try.fld13_0 ∧ type_of% @Try.place13_0 ∧ type_of% @Try.fld13_1 ∧ type_of% @Try.place13_1 ∧ type_of% @Try.ty14 ∧ type_of% @Try.zero14 ∧ type_of% @Try.blank14 ∧ type_of% @Try.fld14_0 ∧ type_of% @Try.place14_0 ∧ type_of% @Try.fld14_1 ∧ type_of% @Try.place14_1 ∧ type_of% @Try.ty15 :=
  ⟨@Try.ty2, @Try.kind2, @Try.zero2, @Try.ty3, @Try.kind3, @Try.zero3, @Try.ty4, @Try.zero4, @Try.ty5, @Try.kind5, @Try.zero5, @Try.ty6, @Try.kind6, @Try.zero6, @Try.ty7, @Try.zero7, @Try.blank7, @Try.fld7_0, @Try.place7_0, @Try.fld7_1, @Try.place7_1, @Try.fld7_2, @Try.place7_2, @Try.fld7_3, @Try.place7_3, @Try.ty8, @Try.zero8, @Try.blank8, @Try.fld8_0, @Try.place8_0, @Try.fld8_1, @Try.place8_1, @Try.fld8_2, @Try.place8_2, @Try.fld8_3, @Try.place8_3, @Try.ty9, @Try.zero9, @Try.ty10, @Try.zero10, @Try.ty11, @Try.zero11, @Try.ty12, @Try.kind12, @Try.zero12, @Try.ty13, @Try.zero13, @Try.blank13, @Try.fld13_0, @Try.place13_0, @Try.fld13_1, @Try.place13_1, @Try.ty14, @Try.zero14, @Try.blank14, @Try.fld14_0, @Try.place14_0, @Try.fld14_1, @Try.place14_1, @Try.ty15⟩
theorem Try.facts1 : type_of% @Try.zero15 ∧ type_of% @Try.ty16 ∧ type_of% @Try.zero16 ∧ type_of% @Try.ty17 ∧ type_of% @Try.zero17 ∧ type_of% @Try.ty18 ∧ type_of% @Try.zero18 ∧ type_of% @Try.blank18 ∧ type_of% @Try.fld18_0 ∧ type_of% @Try.place18_0 ∧ type_of% @Try.ty19 ∧ type_of% @Try.zero19 ∧ type_of% @Try.blank19 ∧ type_of% @Try.fld19_0 ∧ type_of% @Try.place19_0 ∧ type_of% @Try.ty21 ∧ type_of% @Try.kind21 ∧ type_of% @Try.zero21 ∧ type_of% @Try.ty22 ∧ type_of% @Try.arr22 ∧ type_of% @Try.el22 ∧ type_of% @Try.slK22 ∧ type_of% @Try.zero22 ∧ type_of% @Try.blank22 ∧ type_of% @Try.place22 ∧ type_of% @Try.ty23 ∧ type_of% @Try.arr23 ∧ type_of% @Try.el23 ∧ type_of% @Try.slK23 ∧ type_of% @Try.zero23 ∧ type_of% @Try.blank23 ∧ type_of% @Try.place23 ∧ type_of% @Try.ty27 ∧ type_of% @Try.kind27 ∧ type_of% @Try.zero27 ∧ type_of% @Try.ty28 ∧ type_of% @Try.arr28 ∧ type_of% @Try.el28 ∧ type_of% @Try.slK28 ∧ type_of% @Try.zero28 ∧ type_of% @Try.blank28 ∧ type_of% @Try.place28 ∧ type_of% @Try.ty29 ∧ type_of% @Try.arr29 ∧ type_of% @Try.el29 ∧ type_of% @Try.slK29 ∧ type_of% @Try.zero29 ∧ type_of% @Try.blank29 ∧ type_of% @Try.place29 ∧ type_of% @Try.ty34 ∧ type_of% @Try.kind34 ∧ type_of% @Try.zero34 ∧ type_of% @Try.ty35 ∧ type_of% @Try.arr35 ∧ type_of% @Try.el35 ∧ type_of% @Try.slK35 ∧ type_of% @Try.zero35 ∧ type_of% @Try.blank35 ∧ type_of% @Try.place35 ∧ type_of% @Try.ty36 :=
  ⟨@Try.zero15, @Try.ty16, @Try.zero16, @Try.ty17, @Try.zero17, @Try.ty18, @Try.zero18, @Try.blank18, @Try.fld18_0, @Try.place18_0, @Try.ty19, @Try.zero19, @Try.blank19, @Try.fld19_0, @Try.place19_0, @Try.ty21, @Try.kind21, @Try.zero21, @Try.ty22, @Try.arr22, @Try.el22, @Try.slK22, @Try.zero22, @Try.blank22, @Try.place22, @Try.ty23, @Try.arr23, @Try.el23, @Try.slK23, @Try.zero23, @Try.blank23, @Try.place23, @Try.ty27, @Try.kind27, @Try.zero27, @Try.ty28, @Try.arr28, @Try.el28, @Try.slK28, @Try.zero28, @Try.blank28, @Try.place28, @Try.ty29, @Try.arr29, @Try.el29, @Try.slK29, @Try.zero29, @Try.blank29, @Try.place29, @Try.ty34, @Try.kind34, @Try.zero34, @Try.ty35, @Try.arr35, @Try.el35, @Try.slK35, @Try.zero35, @Try.blank35, @Try.place35, @Try.ty36⟩
theorem Try.facts2 : type_of% @Try.zero36 ∧ type_of% @Try.blank36 ∧ type_of% @Try.fld36_0 ∧ type_of% @Try.place36_0 ∧ type_of% @Try.fld36_1 ∧ type_of% @Try.place36_1 ∧ type_of% @Try.fld36_2 ∧ type_of% @Try.place36_2 ∧ type_of% @Try.fld36_3 ∧ type_of% @Try.place36_3 ∧ type_of% @Try.ty37 ∧ type_of% @Try.zero37 ∧ type_of% @Try.blank37 ∧ type_of% @Try.fld37_0 ∧ type_of% @Try.place37_0 ∧ type_of% @Try.fld37_1 ∧ type_of% @Try.place37_1 ∧ type_of% @Try.fld37_2 ∧ type_of% @Try.place37_2 ∧ type_of% @Try.fld37_3 ∧ type_of% @Try.place37_3 ∧ type_of% @Try.ty41 ∧ type_of% @Try.zero41 ∧ type_of% @Try.blank41 ∧ type_of% @Try.fld41_0 ∧ type_of% @Try.place41_0 ∧ type_of% @Try.fld41_1 ∧ type_of% @Try.place41_1 ∧ type_of% @Try.ty42 ∧ type_of% @Try.zero42 ∧ type_of% @Try.blank42 ∧ type_of% @Try.fld42_0 ∧ type_of% @Try.place42_0 ∧ type_of% @Try.fld42_1 ∧ type_of% @Try.place42_1 ∧ type_of% @Try.ty50 ∧ type_of% @Try.zero50 ∧ type_of% @Try.blank50 ∧ type_of% @Try.fld50_0 ∧ type_of% @Try.place50_0 ∧ type_of% @Try.fld50_1 ∧ type_of% @Try.place50_1 ∧ type_of% @Try.fld50_2 ∧ type_of% @Try.place50_2 ∧ type_of% @Try.fld50_3 ∧ type_of% @Try.place50_3 ∧ type_of% @Try.ty51 ∧ type_of% @Try.zero51 ∧ type_of% @Try.blank51 ∧ type_of% @Try.fld51_0 ∧ type_of% @Try.place51_0 ∧ type_of% @Try.fld51_1 ∧ type_of% @Try.place51_1 ∧ type_of% @Try.fld51_2 ∧ type_of% @Try.place51_2 ∧ type_of% @Try.fld51_3 ∧ type_of% @Try.place51_3 ∧ type_of% @Try.ty56 ∧ type_of% @Try.kind56 ∧ type_of% @Try.zero56 :=
  ⟨@Try.zero36, @Try.blank36, @Try.fld36_0, @Try.place36_0, @Try.fld36_1, @Try.place36_1, @Try.fld36_2, @Try.place36_2, @Try.fld36_3, @Try.place36_3, @Try.ty37, @Try.zero37, @Try.blank37, @Try.fld37_0, @Try.place37_0, @Try.fld37_1, @Try.place37_1, @Try.fld37_2, @Try.place37_2, @Try.fld37_3, @Try.place37_3, @Try.ty41, @Try.zero41, @Try.blank41, @Try.fld41_0, @Try.place41_0, @Try.fld41_1, @Try.place41_1, @Try.ty42, @Try.zero42, @Try.blank42, @Try.fld42_0, @Try.place42_0, @Try.fld42_1, @Try.place42_1, @Try.ty50, @Try.zero50, @Try.blank50, @Try.fld50_0, @Try.place50_0, @Try.fld50_1, @Try.place50_1, @Try.fld50_2, @Try.place50_2, @Try.fld50_3, @Try.place50_3, @Try.ty51, @Try.zero51, @Try.blank51, @Try.fld51_0, @Try.place51_0, @Try.fld51_1, @Try.place51_1, @Try.fld51_2, @Try.place51_2, @Try.fld51_3, @Try.place51_3, @Try.ty56, @Try.kind56, @Try.zero56⟩
theorem Try.facts3 : type_of% @Try.ty57 ∧ type_of% @Try.kind57 ∧ type_of% @Try.zero57 ∧ type_of% @Try.ty58 ∧ type_of% @Try.kind58 ∧ type_of% @Try.zero58 ∧ type_of% @Try.ty60 ∧ type_of% @Try.zero60 ∧ type_of% @Try.ty61 ∧ type_of% @Try.kind61 ∧ type_of% @Try.zero61 ∧ type_of% @Try.ty62 ∧ type_of% @Try.kind62 ∧ type_of% @Try.zero62 ∧ type_of% @Try.ty63 ∧ type_of% @Try.zero63 ∧ type_of% @Try.blank63 ∧ type_of% @Try.fld63_0 ∧ type_of% @Try.place63_0 ∧ type_of% @Try.fld63_1 ∧ type_of% @Try.place63_1 ∧ type_of% @Try.fld63_2 ∧ type_of% @Try.place63_2 ∧ type_of% @Try.fld63_3 ∧ type_of% @Try.place63_3 ∧ type_of% @Try.fld63_4 ∧ type_of% @Try.place63_4 ∧ type_of% @Try.fld63_5 ∧ type_of% @Try.place63_5 ∧ type_of% @Try.fld63_6 ∧ type_of% @Try.place63_6 ∧ type_of% @Try.fld63_7 ∧ type_of% @Try.place63_7 ∧ type_of% @Try.fld63_8 ∧ type_of% @Try.place63_8 ∧ type_of% @Try.fld63_9 ∧ type_of% @Try.place63_9 ∧ type_of% @Try.fld63_10 ∧ type_of% @Try.place63_10 ∧ type_of% @Try.ty64 ∧ type_of% @Try.zero64 ∧ type_of% @Try.blank64 ∧ type_of% @Try.fld64_0 ∧ type_of% @Try.place64_0 ∧ type_of% @Try.fld64_1 ∧ type_of% @Try.place64_1 ∧ type_of% @Try.fld64_2 ∧ type_of% @Try.place64_2 ∧ type_of% @Try.fld64_3 ∧ type_of% @Try.place64_3 ∧ type_of% @Try.fld64_4 ∧ type_of% @Try.place64_4 ∧ type_of% @Try.fld64_5 ∧ type_of% @Try.place64_5 ∧ type_of% @Try.fld64_6 ∧ type_of% @Try.place64_6 ∧ type_of% @Try.fld64_7 ∧ type_of% @Try.place64_7 ∧ type_of% @Try.fld64_8 ∧ type_of% @Try.place64_8 :=
  ⟨@Try.ty57, @Try.kind57, @Try.zero57, @Try.ty58, @Try.kind58, @Try.zero58, @Try.ty60, @Try.zero60, @Try.ty61, @Try.kind61, @Try.zero61, @Try.ty62, @Try.kind62, @Try.zero62, @Try.ty63, @Try.zero63, @Try.blank63, @Try.fld63_0, @Try.place63_0, @Try.fld63_1, @Try.place63_1, @Try.fld63_2, @Try.place63_2, @Try.fld63_3, @Try.place63_3, @Try.fld63_4, @Try.place63_4, @Try.fld63_5, @Try.place63_5, @Try.fld63_6, @Try.place63_6, @Try.fld63_7, @Try.place63_7, @Try.fld63_8, @Try.place63_8, @Try.fld63_9, @Try.place63_9, @Try.fld63_10, @Try.place63_10, @Try.ty64, @Try.zero64, @Try.blank64, @Try.fld64_0, @Try.place64_0, @Try.fld64_1, @Try.place64_1, @Try.fld64_2, @Try.place64_2, @Try.fld64_3, @Try.place64_3, @Try.fld64_4, @Try.place64_4, @Try.fld64_5, @Try.place64_5, @Try.fld64_6, @Try.place64_6, @Try.fld64_7, @Try.place64_7, @Try.fld64_8, @Try.place64_8⟩
theorem Try.facts4 : type_of% @Try.fld64_9 ∧ type_of% @Try.place64_9 ∧ type_of% @Try.fld64_10 ∧ type_of% @Try.place64_10 ∧ type_of% @Try.callable3 ∧ type_of% @Try.callable4 ∧ type_of% @Try.callable5 ∧ type_of% @Try.callable6 ∧ type_of% @Try.callable7 ∧ type_of% @Try.callable8 ∧ type_of% @Try.callable9 ∧ type_of% @Try.callable10 ∧ type_of% @Try.callable11 ∧ type_of% @Try.callable12 ∧ type_of% @Try.callable13 ∧ type_of% @Try.callable14 ∧ type_of% @Try.callable15 ∧ type_of% @Try.callable16 ∧ type_of% @Try.callable17 ∧ type_of% @Try.callable18 ∧ type_of% @Try.callable19 ∧ type_of% @Try.callable20 ∧ type_of% @Try.callable21 ∧ type_of% @Try.callable22 ∧ type_of% @Try.callable23 ∧ type_of% @Try.callable24 ∧ type_of% @Try.callable25 ∧ type_of% @Try.callable26 ∧ type_of% @Try.callable27 ∧ type_of% @Try.callable28 ∧ type_of% @Try.callable29 ∧ type_of% @Try.callable30 ∧ type_of% @Try.callable31 ∧ type_of% @Try.callable32 ∧ type_of% @Try.callable33 ∧ type_of% @Try.callable34 ∧ type_of% @Try.callable35 ∧ type_of% @Try.callable36 ∧ type_of% @Try.callable37 ∧ type_of% @Try.mixed ∧ type_of% @Try.isb4 ∧ type_of% @Try.lenK9 ∧ type_of% @Try.lenK10 ∧ type_of% @Try.lenK11 ∧ type_of% @Try.arrI22 ∧ type_of% @Try.arrI23 ∧ type_of% @Try.arrI28 ∧ type_of% @Try.arrI29 ∧ type_of% @Try.arrI35 ∧ type_of% @Try.arrN36 ∧ type_of% @Try.fds36 ∧ type_of% @Try.arrN37 ∧ type_of% @Try.fds37 ∧ type_of% @Try.arrN41 ∧ type_of% @Try.fds41 ∧ type_of% @Try.arrN42 ∧ type_of% @Try.fds42 :=
  ⟨@Try.fld64_9, @Try.place64_9, @Try.fld64_10, @Try.place64_10, @Try.callable3, @Try.callable4, @Try.callable5, @Try.callable6, @Try.callable7, @Try.callable8, @Try.callable9, @Try.callable10, @Try.callable11, @Try.callable12, @Try.callable13, @Try.callable14, @Try.callable15, @Try.callable16, @Try.callable17, @Try.callable18, @Try.callable19, @Try.callable20, @Try.callable21, @Try.callable22, @Try.callable23, @Try.callable24, @Try.callable25, @Try.callable26, @Try.callable27, @Try.callable28, @Try.callable29, @Try.callable30, @Try.callable31, @Try.callable32, @Try.callable33, @Try.callable34, @Try.callable35, @Try.callable36, @Try.callable37, @Try.mixed, @Try.isb4, @Try.lenK9, @Try.lenK10, @Try.lenK11, @Try.arrI22, @Try.arrI23, @Try.arrI28, @Try.arrI29, @Try.arrI35, @Try.arrN36, @Try.fds36, @Try.arrN37, @Try.fds37, @Try.arrN41, @Try.fds41, @Try.arrN42, @Try.fds42⟩
/-- All of them, under one name. -/
theorem Try.facts : type_of% @Try.facts0 ∧ type_of% @Try.facts1 ∧ type_of% @Try.facts2 ∧ type_of% @Try.facts3 ∧ type_of% @Try.facts4 :=
  ⟨@Try.facts0, @Try.facts1, @Try.facts2, @Try.facts3, @Try.facts4⟩
end Go.Proofs.Ytemllgnejllcpaa
