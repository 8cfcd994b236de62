/-
  Closed facts on the tables of this seat's program, each by the kernel (made by program from the translation: wip/lib/facts.py).
-/
import Derived.Test.YtikibkboebbdjaaVcgQ0
import Derived.Test.YtikibkboebbdjaaVcgC
import Derived.Test.YtikibkboebbdjaaProg
import Derived.KernelRfl
set_option linter.unusedVariables false
set_option linter.unusedSimpArgs false
namespace Go.Proofs.Ytikibkboebbdjaa
open Go.Vcg
instance : Vcg.Tables Try.prog := ⟨fun _ => none⟩
theorem Try.ty2 : tyOf Try.prog 2 = some (false, 1) := by kernel_rfl
theorem Try.kind2 : kindOf Try.prog 2 = some IntKind.i64 := by kernel_rfl
theorem Try.zero2 : zeroOf Try.prog 2 = some ([Value.int IntKind.i64 0]) := by kernel_rfl
theorem Try.ty3 : tyOf Try.prog 3 = some (false, 1) := by kernel_rfl
theorem Try.kind3 : kindOf Try.prog 3 = some IntKind.i64 := by kernel_rfl
theorem Try.zero3 : zeroOf Try.prog 3 = some ([Value.int IntKind.i64 0]) := by kernel_rfl
theorem Try.ty4 : tyOf Try.prog 4 = some (false, 1) := by kernel_rfl
theorem Try.zero4 : zeroOf Try.prog 4 = some ([Value.bool false]) := by kernel_rfl
theorem Try.ty5 : tyOf Try.prog 5 = some (false, 1) := by kernel_rfl
theorem Try.kind5 : kindOf Try.prog 5 = some IntKind.u8 := by kernel_rfl
theorem Try.zero5 : zeroOf Try.prog 5 = some ([Value.int IntKind.u8 0]) := by kernel_rfl
theorem Try.ty6 : tyOf Try.prog 6 = some (false, 1) := by kernel_rfl
theorem Try.kind6 : kindOf Try.prog 6 = some IntKind.u8 := by kernel_rfl
theorem Try.zero6 : zeroOf Try.prog 6 = some ([Value.int IntKind.u8 0]) := by kernel_rfl
theorem Try.ty7 : tyOf Try.prog 7 = some (true, 4) := by kernel_rfl
theorem Try.zero7 : zeroOf Try.prog 7 = some ([Value.int IntKind.i64 0, Value.int IntKind.i64 0, Value.bool false, Value.int IntKind.u8 0]) := by kernel_rfl
theorem Try.blank7 : blankOf Try.prog 7 = some ([Sum.inl (Value.int IntKind.i64 0), Sum.inl (Value.int IntKind.i64 0), Sum.inl (Value.bool false), Sum.inl (Value.int IntKind.u8 0)]) := by kernel_rfl
theorem Try.fld7_0 : fieldOf Try.prog 7 0 = some (0, false, 1) := by kernel_rfl
theorem Try.place7_0 : placeOf Try.prog 7 0 = some (0, 1) := by kernel_rfl
theorem Try.fld7_1 : fieldOf Try.prog 7 1 = some (1, false, 1) := by kernel_rfl
theorem Try.place7_1 : placeOf Try.prog 7 1 = some (1, 1) := by kernel_rfl
theorem Try.fld7_2 : fieldOf Try.prog 7 2 = some (2, false, 1) := by kernel_rfl
theorem Try.place7_2 : placeOf Try.prog 7 2 = some (2, 1) := by kernel_rfl
theorem Try.fld7_3 : fieldOf Try.prog 7 3 = some (3, false, 1) := by kernel_rfl
theorem Try.place7_3 : placeOf Try.prog 7 3 = some (3, 1) := by kernel_rfl
theorem Try.ty8 : tyOf Try.prog 8 = some (true, 4) := by kernel_rfl
theorem Try.zero8 : zeroOf Try.prog 8 = some ([Value.int IntKind.i64 0, Value.int IntKind.i64 0, Value.bool false, Value.int IntKind.u8 0]) := by kernel_rfl
theorem Try.blank8 : blankOf Try.prog 8 = some ([Sum.inl (Value.int IntKind.i64 0), Sum.inl (Value.int IntKind.i64 0), Sum.inl (Value.bool false), Sum.inl (Value.int IntKind.u8 0)]) := by kernel_rfl
theorem Try.fld8_0 : fieldOf Try.prog 8 0 = some (0, false, 1) := by kernel_rfl
theorem Try.place8_0 : placeOf Try.prog 8 0 = some (0, 1) := by kernel_rfl
theorem Try.fld8_1 : fieldOf Try.prog 8 1 = some (1, false, 1) := by kernel_rfl
theorem Try.place8_1 : placeOf Try.prog 8 1 = some (1, 1) := by kernel_rfl
theorem Try.fld8_2 : fieldOf Try.prog 8 2 = some (2, false, 1) := by kernel_rfl
theorem Try.place8_2 : placeOf Try.prog 8 2 = some (2, 1) := by kernel_rfl
theorem Try.fld8_3 : fieldOf Try.prog 8 3 = some (3, false, 1) := by kernel_rfl
theorem Try.place8_3 : placeOf Try.prog 8 3 = some (3, 1) := by kernel_rfl
theorem Try.ty9 : tyOf Try.prog 9 = some (false, 1) := by kernel_rfl
theorem Try.zero9 : zeroOf Try.prog 9 = some ([Value.string ByteArray.empty]) := by kernel_rfl
theorem Try.ty10 : tyOf Try.prog 10 = some (false, 1) := by kernel_rfl
theorem Try.zero10 : zeroOf Try.prog 10 = some ([Value.string ByteArray.empty]) := by kernel_rfl
theorem Try.ty11 : tyOf Try.prog 11 = some (false, 1) := by kernel_rfl
theorem Try.zero11 : zeroOf Try.prog 11 = some ([Value.string ByteArray.empty]) := by kernel_rfl
theorem Try.ty12 : tyOf Try.prog 12 = some (false, 1) := by kernel_rfl
theorem Try.kind12 : kindOf Try.prog 12 = some IntKind.u64 := by kernel_rfl
theorem Try.zero12 : zeroOf Try.prog 12 = some ([Value.int IntKind.u64 0]) := by kernel_rfl
theorem Try.ty13 : tyOf Try.prog 13 = some (true, 2) := by kernel_rfl
theorem Try.zero13 : zeroOf Try.prog 13 = some ([Value.string ByteArray.empty, Value.int IntKind.u64 0]) := by kernel_rfl
theorem Try.blank13 : blankOf Try.prog 13 = some ([Sum.inl (Value.string ByteArray.empty), Sum.inl (Value.int IntKind.u64 0)]) := by kernel_rfl
theorem Try.fld13_0 : fieldOf Try.prog 13 0 = some (0, false, 1) := by kernel_rfl
theorem Try.place13_0 : placeOf Try.prog 13 0 = some (0, 1) := by kernel_rfl
theorem Try.fld13_1 : fieldOf Try.prog 13 1 = some (1, false, 1) := by kernel_rfl
theorem Try.place13_1 : placeOf Try.prog 13 1 = some (1, 1) := by kernel_rfl
theorem Try.ty14 : tyOf Try.prog 14 = some (true, 2) := by kernel_rfl
theorem Try.zero14 : zeroOf Try.prog 14 = some ([Value.string ByteArray.empty, Value.int IntKind.u64 0]) := by kernel_rfl
theorem Try.blank14 : blankOf Try.prog 14 = some ([Sum.inl (Value.string ByteArray.empty), Sum.inl (Value.int IntKind.u64 0)]) := by kernel_rfl
theorem Try.fld14_0 : fieldOf Try.prog 14 0 = some (0, false, 1) := by kernel_rfl
theorem Try.place14_0 : placeOf Try.prog 14 0 = some (0, 1) := by kernel_rfl
theorem Try.fld14_1 : fieldOf Try.prog 14 1 = some (1, false, 1) := by kernel_rfl
theorem Try.place14_1 : placeOf Try.prog 14 1 = some (1, 1) := by kernel_rfl
theorem Try.ty15 : tyOf Try.prog 15 = some (false, 1) := by kernel_rfl
theorem Try.zero15 : zeroOf Try.prog 15 = some ([Value.pointer none]) := by kernel_rfl
theorem Try.ty16 : tyOf Try.prog 16 = some (false, 1) := by kernel_rfl
theorem Try.zero16 : zeroOf Try.prog 16 = some ([Value.pointer none]) := by kernel_rfl
theorem Try.ty17 : tyOf Try.prog 17 = some (false, 1) := by kernel_rfl
theorem Try.zero17 : zeroOf Try.prog 17 = some ([Value.pointer none]) := by kernel_rfl
theorem Try.ty18 : tyOf Try.prog 18 = some (true, 1) := by kernel_rfl
theorem Try.zero18 : zeroOf Try.prog 18 = some ([Value.pointer none]) := by kernel_rfl
theorem Try.blank18 : blankOf Try.prog 18 = some ([Sum.inl (Value.pointer none)]) := by kernel_rfl
theorem Try.fld18_0 : fieldOf Try.prog 18 0 = some (0, false, 1) := by kernel_rfl
theorem Try.place18_0 : placeOf Try.prog 18 0 = some (0, 1) := by kernel_rfl
theorem Try.ty19 : tyOf Try.prog 19 = some (true, 1) := by kernel_rfl
theorem Try.zero19 : zeroOf Try.prog 19 = some ([Value.pointer none]) := by kernel_rfl
theorem Try.blank19 : blankOf Try.prog 19 = some ([Sum.inl (Value.pointer none)]) := by kernel_rfl
theorem Try.fld19_0 : fieldOf Try.prog 19 0 = some (0, false, 1) := by kernel_rfl
theorem Try.place19_0 : placeOf Try.prog 19 0 = some (0, 1) := by kernel_rfl
theorem Try.ty21 : tyOf Try.prog 21 = some (false, 1) := by kernel_rfl
theorem Try.kind21 : kindOf Try.prog 21 = some IntKind.i32 := by kernel_rfl
theorem Try.zero21 : zeroOf Try.prog 21 = some ([Value.int IntKind.i32 0]) := by kernel_rfl
theorem Try.ty22 : tyOf Try.prog 22 = some (true, 32) := by kernel_rfl
theorem Try.arr22 : arrOf Try.prog 22 = some (32, 1) := by kernel_rfl
theorem Try.el22 : arrEl Try.prog 22 = some (32, false, 1) := by kernel_rfl
theorem Try.slK22 : slK Try.prog 22 = some (some 32, 1) := by kernel_rfl
theorem Try.zero22 : zeroOf Try.prog 22 = some (List.replicate 32 (Value.int IntKind.u8 0)) := by kernel_rfl
theorem Try.blank22 : blankOf Try.prog 22 = some (List.replicate 32 (Sum.inl (Value.int IntKind.u8 0))) := by kernel_rfl
theorem Try.place22 (i : Nat) : placeOf Try.prog 22 i = some (i * 1, 1) := by unfold placeOf; rw [Try.arr22]
theorem Try.ty23 : tyOf Try.prog 23 = some (true, 32) := by kernel_rfl
theorem Try.arr23 : arrOf Try.prog 23 = some (32, 1) := by kernel_rfl
theorem Try.el23 : arrEl Try.prog 23 = some (32, false, 1) := by kernel_rfl
theorem Try.slK23 : slK Try.prog 23 = some (some 32, 1) := by kernel_rfl
theorem Try.zero23 : zeroOf Try.prog 23 = some (List.replicate 32 (Value.int IntKind.u8 0)) := by kernel_rfl
theorem Try.blank23 : blankOf Try.prog 23 = some (List.replicate 32 (Sum.inl (Value.int IntKind.u8 0))) := by kernel_rfl
theorem Try.place23 (i : Nat) : placeOf Try.prog 23 i = some (i * 1, 1) := by unfold placeOf; rw [Try.arr23]
theorem Try.ty24 : tyOf Try.prog 24 = some (false, 1) := by kernel_rfl
theorem Try.kind24 : kindOf Try.prog 24 = some IntKind.u32 := by kernel_rfl
theorem Try.zero24 : zeroOf Try.prog 24 = some ([Value.int IntKind.u32 0]) := by kernel_rfl
theorem Try.ty25 : tyOf Try.prog 25 = some (false, 1) := by kernel_rfl
theorem Try.sl25 : Vcg.elemOf Try.prog 25 = some 66 := by kernel_rfl
theorem Try.slK25 : slK Try.prog 25 = some (none, 66) := by kernel_rfl
theorem Try.mkK25 : mkK Try.prog 25 = some (List.replicate 2 (Value.int IntKind.u32 0) ++ List.replicate 64 (Value.int IntKind.u8 0), 66, 72) := by kernel_rfl
theorem Try.zero25 : zeroOf Try.prog 25 = some ([Value.slice none 0 0]) := by kernel_rfl
theorem Try.ty26 : tyOf Try.prog 26 = some (true, 203) := by kernel_rfl
theorem Try.zero26 : zeroOf Try.prog 26 = some (List.replicate 3 (Value.bool false) ++ List.replicate 192 (Value.int IntKind.u8 0) ++ List.replicate 5 (Value.int IntKind.u32 0) ++ List.replicate 2 (Value.int IntKind.i64 0) ++ List.replicate 1 (Value.slice none 0 0)) := by kernel_rfl
theorem Try.blank26 : blankOf Try.prog 26 = some (List.replicate 3 (Sum.inl (Value.bool false)) ++ List.replicate 192 (Sum.inl (Value.int IntKind.u8 0)) ++ List.replicate 5 (Sum.inl (Value.int IntKind.u32 0)) ++ List.replicate 2 (Sum.inl (Value.int IntKind.i64 0)) ++ List.replicate 1 (Sum.inl (Value.slice none 0 0))) := by kernel_rfl
theorem Try.fld26_0 : fieldOf Try.prog 26 0 = some (0, false, 1) := by kernel_rfl
theorem Try.place26_0 : placeOf Try.prog 26 0 = some (0, 1) := by kernel_rfl
theorem Try.fld26_1 : fieldOf Try.prog 26 1 = some (1, false, 1) := by kernel_rfl
theorem Try.place26_1 : placeOf Try.prog 26 1 = some (1, 1) := by kernel_rfl
theorem Try.fld26_2 : fieldOf Try.prog 26 2 = some (2, false, 1) := by kernel_rfl
theorem Try.place26_2 : placeOf Try.prog 26 2 = some (2, 1) := by kernel_rfl
theorem Try.fld26_3 : fieldOf Try.prog 26 3 = some (3, true, 32) := by kernel_rfl
theorem Try.place26_3 : placeOf Try.prog 26 3 = some (3, 32) := by kernel_rfl
theorem Try.fld26_4 : fieldOf Try.prog 26 4 = some (35, true, 32) := by kernel_rfl
theorem Try.place26_4 : placeOf Try.prog 26 4 = some (35, 32) := by kernel_rfl
theorem Try.fld26_5 : fieldOf Try.prog 26 5 = some (67, true, 32) := by kernel_rfl
theorem Try.place26_5 : placeOf Try.prog 26 5 = some (67, 32) := by kernel_rfl
theorem Try.fld26_6 : fieldOf Try.prog 26 6 = some (99, true, 32) := by kernel_rfl
theorem Try.place26_6 : placeOf Try.prog 26 6 = some (99, 32) := by kernel_rfl
theorem Try.fld26_7 : fieldOf Try.prog 26 7 = some (131, true, 32) := by kernel_rfl
theorem Try.place26_7 : placeOf Try.prog 26 7 = some (131, 32) := by kernel_rfl
theorem Try.fld26_8 : fieldOf Try.prog 26 8 = some (163, true, 32) := by kernel_rfl
theorem Try.place26_8 : placeOf Try.prog 26 8 = some (163, 32) := by kernel_rfl
theorem Try.fld26_9 : fieldOf Try.prog 26 9 = some (195, false, 1) := by kernel_rfl
theorem Try.place26_9 : placeOf Try.prog 26 9 = some (195, 1) := by kernel_rfl
theorem Try.fld26_10 : fieldOf Try.prog 26 10 = some (196, false, 1) := by kernel_rfl
theorem Try.place26_10 : placeOf Try.prog 26 10 = some (196, 1) := by kernel_rfl
theorem Try.fld26_11 : fieldOf Try.prog 26 11 = some (197, false, 1) := by kernel_rfl
theorem Try.place26_11 : placeOf Try.prog 26 11 = some (197, 1) := by kernel_rfl
theorem Try.fld26_12 : fieldOf Try.prog 26 12 = some (198, false, 1) := by kernel_rfl
theorem Try.place26_12 : placeOf Try.prog 26 12 = some (198, 1) := by kernel_rfl
theorem Try.fld26_13 : fieldOf Try.prog 26 13 = some (199, false, 1) := by kernel_rfl
theorem Try.place26_13 : placeOf Try.prog 26 13 = some (199, 1) := by kernel_rfl
theorem Try.fld26_14 : fieldOf Try.prog 26 14 = some (200, false, 1) := by kernel_rfl
theorem Try.place26_14 : placeOf Try.prog 26 14 = some (200, 1) := by kernel_rfl
theorem Try.fld26_15 : fieldOf Try.prog 26 15 = some (201, false, 1) := by kernel_rfl
theorem Try.place26_15 : placeOf Try.prog 26 15 = some (201, 1) := by kernel_rfl
theorem Try.fld26_16 : fieldOf Try.prog 26 16 = some (202, false, 1) := by kernel_rfl
theorem Try.place26_16 : placeOf Try.prog 26 16 = some (202, 1) := by kernel_rfl
theorem Try.ty27 : tyOf Try.prog 27 = some (true, 203) := by kernel_rfl
theorem Try.zero27 : zeroOf Try.prog 27 = some (List.replicate 3 (Value.bool false) ++ List.replicate 192 (Value.int IntKind.u8 0) ++ List.replicate 5 (Value.int IntKind.u32 0) ++ List.replicate 2 (Value.int IntKind.i64 0) ++ List.replicate 1 (Value.slice none 0 0)) := by kernel_rfl
theorem Try.blank27 : blankOf Try.prog 27 = some (List.replicate 3 (Sum.inl (Value.bool false)) ++ List.replicate 192 (Sum.inl (Value.int IntKind.u8 0)) ++ List.replicate 5 (Sum.inl (Value.int IntKind.u32 0)) ++ List.replicate 2 (Sum.inl (Value.int IntKind.i64 0)) ++ List.replicate 1 (Sum.inl (Value.slice none 0 0))) := by kernel_rfl
theorem Try.fld27_0 : fieldOf Try.prog 27 0 = some (0, false, 1) := by kernel_rfl
theorem Try.place27_0 : placeOf Try.prog 27 0 = some (0, 1) := by kernel_rfl
theorem Try.fld27_1 : fieldOf Try.prog 27 1 = some (1, false, 1) := by kernel_rfl
theorem Try.place27_1 : placeOf Try.prog 27 1 = some (1, 1) := by kernel_rfl
theorem Try.fld27_2 : fieldOf Try.prog 27 2 = some (2, false, 1) := by kernel_rfl
theorem Try.place27_2 : placeOf Try.prog 27 2 = some (2, 1) := by kernel_rfl
theorem Try.fld27_3 : fieldOf Try.prog 27 3 = some (3, true, 32) := by kernel_rfl
theorem Try.place27_3 : placeOf Try.prog 27 3 = some (3, 32) := by kernel_rfl
theorem Try.fld27_4 : fieldOf Try.prog 27 4 = some (35, true, 32) := by kernel_rfl
theorem Try.place27_4 : placeOf Try.prog 27 4 = some (35, 32) := by kernel_rfl
theorem Try.fld27_5 : fieldOf Try.prog 27 5 = some (67, true, 32) := by kernel_rfl
theorem Try.place27_5 : placeOf Try.prog 27 5 = some (67, 32) := by kernel_rfl
theorem Try.fld27_6 : fieldOf Try.prog 27 6 = some (99, true, 32) := by kernel_rfl
theorem Try.place27_6 : placeOf Try.prog 27 6 = some (99, 32) := by kernel_rfl
theorem Try.fld27_7 : fieldOf Try.prog 27 7 = some (131, true, 32) := by kernel_rfl
theorem Try.place27_7 : placeOf Try.prog 27 7 = some (131, 32) := by kernel_rfl
theorem Try.fld27_8 : fieldOf Try.prog 27 8 = some (163, true, 32) := by kernel_rfl
theorem Try.place27_8 : placeOf Try.prog 27 8 = some (163, 32) := by kernel_rfl
theorem Try.fld27_9 : fieldOf Try.prog 27 9 = some (195, false, 1) := by kernel_rfl
theorem Try.place27_9 : placeOf Try.prog 27 9 = some (195, 1) := by kernel_rfl
theorem Try.fld27_10 : fieldOf Try.prog 27 10 = some (196, false, 1) := by kernel_rfl
theorem Try.place27_10 : placeOf Try.prog 27 10 = some (196, 1) := by kernel_rfl
theorem Try.fld27_11 : fieldOf Try.prog 27 11 = some (197, false, 1) := by kernel_rfl
theorem Try.place27_11 : placeOf Try.prog 27 11 = some (197, 1) := by kernel_rfl
theorem Try.fld27_12 : fieldOf Try.prog 27 12 = some (198, false, 1) := by kernel_rfl
theorem Try.place27_12 : placeOf Try.prog 27 12 = some (198, 1) := by kernel_rfl
theorem Try.fld27_13 : fieldOf Try.prog 27 13 = some (199, false, 1) := by kernel_rfl
theorem Try.place27_13 : placeOf Try.prog 27 13 = some (199, 1) := by kernel_rfl
theorem Try.fld27_14 : fieldOf Try.prog 27 14 = some (200, false, 1) := by kernel_rfl
theorem Try.place27_14 : placeOf Try.prog 27 14 = some (200, 1) := by kernel_rfl
theorem Try.fld27_15 : fieldOf Try.prog 27 15 = some (201, false, 1) := by kernel_rfl
theorem Try.place27_15 : placeOf Try.prog 27 15 = some (201, 1) := by kernel_rfl
theorem Try.fld27_16 : fieldOf Try.prog 27 16 = some (202, false, 1) := by kernel_rfl
theorem Try.place27_16 : placeOf Try.prog 27 16 = some (202, 1) := by kernel_rfl
theorem Try.ty28 : tyOf Try.prog 28 = some (false, 1) := by kernel_rfl
theorem Try.sl28 : Vcg.elemOf Try.prog 28 = some 1 := by kernel_rfl
theorem Try.slK28 : slK Try.prog 28 = some (none, 1) := by kernel_rfl
theorem Try.byt28 : bytK Try.prog 28 = true := by kernel_rfl
theorem Try.mkK28 : mkK Try.prog 28 = some ([Value.int IntKind.u8 0], 1, 1) := by kernel_rfl
theorem Try.zero28 : zeroOf Try.prog 28 = some ([Value.slice none 0 0]) := by kernel_rfl
theorem Try.ty29 : tyOf Try.prog 29 = some (true, 2) := by kernel_rfl
theorem Try.zero29 : zeroOf Try.prog 29 = some ([Value.slice none 0 0, Value.int IntKind.i64 0]) := by kernel_rfl
theorem Try.blank29 : blankOf Try.prog 29 = some ([Sum.inl (Value.slice none 0 0), Sum.inl (Value.int IntKind.i64 0)]) := by kernel_rfl
theorem Try.fld29_0 : fieldOf Try.prog 29 0 = some (0, false, 1) := by kernel_rfl
theorem Try.place29_0 : placeOf Try.prog 29 0 = some (0, 1) := by kernel_rfl
theorem Try.fld29_1 : fieldOf Try.prog 29 1 = some (1, false, 1) := by kernel_rfl
theorem Try.place29_1 : placeOf Try.prog 29 1 = some (1, 1) := by kernel_rfl
theorem Try.ty30 : tyOf Try.prog 30 = some (true, 2) := by kernel_rfl
theorem Try.zero30 : zeroOf Try.prog 30 = some ([Value.slice none 0 0, Value.int IntKind.i64 0]) := by kernel_rfl
theorem Try.blank30 : blankOf Try.prog 30 = some ([Sum.inl (Value.slice none 0 0), Sum.inl (Value.int IntKind.i64 0)]) := by kernel_rfl
theorem Try.fld30_0 : fieldOf Try.prog 30 0 = some (0, false, 1) := by kernel_rfl
theorem Try.place30_0 : placeOf Try.prog 30 0 = some (0, 1) := by kernel_rfl
theorem Try.fld30_1 : fieldOf Try.prog 30 1 = some (1, false, 1) := by kernel_rfl
theorem Try.place30_1 : placeOf Try.prog 30 1 = some (1, 1) := by kernel_rfl
theorem Try.ty32 : tyOf Try.prog 32 = some (true, 2) := by kernel_rfl
theorem Try.zero32 : zeroOf Try.prog 32 = some ([Value.slice none 0 0, Value.int IntKind.i64 0]) := by kernel_rfl
theorem Try.blank32 : blankOf Try.prog 32 = some ([Sum.inl (Value.slice none 0 0), Sum.inl (Value.int IntKind.i64 0)]) := by kernel_rfl
theorem Try.fld32_0 : fieldOf Try.prog 32 0 = some (0, false, 1) := by kernel_rfl
theorem Try.place32_0 : placeOf Try.prog 32 0 = some (0, 1) := by kernel_rfl
theorem Try.fld32_1 : fieldOf Try.prog 32 1 = some (1, false, 1) := by kernel_rfl
theorem Try.place32_1 : placeOf Try.prog 32 1 = some (1, 1) := by kernel_rfl
theorem Try.ty33 : tyOf Try.prog 33 = some (true, 2) := by kernel_rfl
theorem Try.zero33 : zeroOf Try.prog 33 = some ([Value.slice none 0 0, Value.int IntKind.i64 0]) := by kernel_rfl
theorem Try.blank33 : blankOf Try.prog 33 = some ([Sum.inl (Value.slice none 0 0), Sum.inl (Value.int IntKind.i64 0)]) := by kernel_rfl
theorem Try.fld33_0 : fieldOf Try.prog 33 0 = some (0, false, 1) := by kernel_rfl
theorem Try.place33_0 : placeOf Try.prog 33 0 = some (0, 1) := by kernel_rfl
theorem Try.fld33_1 : fieldOf Try.prog 33 1 = some (1, false, 1) := by kernel_rfl
theorem Try.place33_1 : placeOf Try.prog 33 1 = some (1, 1) := by kernel_rfl
theorem Try.ty48 : tyOf Try.prog 48 = some (true, 66) := by kernel_rfl
theorem Try.zero48 : zeroOf Try.prog 48 = some (List.replicate 2 (Value.int IntKind.u32 0) ++ List.replicate 64 (Value.int IntKind.u8 0)) := by kernel_rfl
theorem Try.blank48 : blankOf Try.prog 48 = some (List.replicate 2 (Sum.inl (Value.int IntKind.u32 0)) ++ List.replicate 64 (Sum.inl (Value.int IntKind.u8 0))) := by kernel_rfl
theorem Try.fld48_0 : fieldOf Try.prog 48 0 = some (0, false, 1) := by kernel_rfl
theorem Try.place48_0 : placeOf Try.prog 48 0 = some (0, 1) := by kernel_rfl
theorem Try.fld48_1 : fieldOf Try.prog 48 1 = some (1, false, 1) := by kernel_rfl
theorem Try.place48_1 : placeOf Try.prog 48 1 = some (1, 1) := by kernel_rfl
theorem Try.fld48_2 : fieldOf Try.prog 48 2 = some (2, true, 32) := by kernel_rfl
theorem Try.place48_2 : placeOf Try.prog 48 2 = some (2, 32) := by kernel_rfl
theorem Try.fld48_3 : fieldOf Try.prog 48 3 = some (34, true, 32) := by kernel_rfl
theorem Try.place48_3 : placeOf Try.prog 48 3 = some (34, 32) := by kernel_rfl
theorem Try.ty49 : tyOf Try.prog 49 = some (true, 66) := by kernel_rfl
theorem Try.zero49 : zeroOf Try.prog 49 = some (List.replicate 2 (Value.int IntKind.u32 0) ++ List.replicate 64 (Value.int IntKind.u8 0)) := by kernel_rfl
theorem Try.blank49 : blankOf Try.prog 49 = some (List.replicate 2 (Sum.inl (Value.int IntKind.u32 0)) ++ List.replicate 64 (Sum.inl (Value.int IntKind.u8 0))) := by kernel_rfl
theorem Try.fld49_0 : fieldOf Try.prog 49 0 = some (0, false, 1) := by kernel_rfl
theorem Try.place49_0 : placeOf Try.prog 49 0 = some (0, 1) := by kernel_rfl
theorem Try.fld49_1 : fieldOf Try.prog 49 1 = some (1, false, 1) := by kernel_rfl
theorem Try.place49_1 : placeOf Try.prog 49 1 = some (1, 1) := by kernel_rfl
theorem Try.fld49_2 : fieldOf Try.prog 49 2 = some (2, true, 32) := by kernel_rfl
theorem Try.place49_2 : placeOf Try.prog 49 2 = some (2, 32) := by kernel_rfl
theorem Try.fld49_3 : fieldOf Try.prog 49 3 = some (34, true, 32) := by kernel_rfl
theorem Try.place49_3 : placeOf Try.prog 49 3 = some (34, 32) := by kernel_rfl
theorem Try.ty53 : tyOf Try.prog 53 = some (false, 1) := by kernel_rfl
theorem Try.kind53 : kindOf Try.prog 53 = some IntKind.u64 := by kernel_rfl
theorem Try.zero53 : zeroOf Try.prog 53 = some ([Value.int IntKind.u64 0]) := by kernel_rfl
theorem Try.ty59 : tyOf Try.prog 59 = some (false, 1) := by kernel_rfl
theorem Try.zero59 : zeroOf Try.prog 59 = some ([Value.pointer none]) := by kernel_rfl
theorem Try.ty60 : tyOf Try.prog 60 = some (true, 6) := by kernel_rfl
theorem Try.arr60 : arrOf Try.prog 60 = some (6, 1) := by kernel_rfl
theorem Try.el60 : arrEl Try.prog 60 = some (6, false, 1) := by kernel_rfl
theorem Try.slK60 : slK Try.prog 60 = some (some 6, 1) := by kernel_rfl
theorem Try.zero60 : zeroOf Try.prog 60 = some ([Value.pointer none, Value.pointer none, Value.pointer none, Value.pointer none, Value.pointer none, Value.pointer none]) := by kernel_rfl
theorem Try.blank60 : blankOf Try.prog 60 = some ([Sum.inl (Value.pointer none), Sum.inl (Value.pointer none), Sum.inl (Value.pointer none), Sum.inl (Value.pointer none), Sum.inl (Value.pointer none), Sum.inl (Value.pointer none)]) := by kernel_rfl
theorem Try.place60 (i : Nat) : placeOf Try.prog 60 i = some (i * 1, 1) := by unfold placeOf; rw [Try.arr60]
theorem Try.ty62 : tyOf Try.prog 62 = some (false, 1) := by kernel_rfl
theorem Try.zero62 : zeroOf Try.prog 62 = some ([Value.pointer none]) := by kernel_rfl
theorem Try.ty63 : tyOf Try.prog 63 = some (false, 1) := by kernel_rfl
theorem Try.zero63 : zeroOf Try.prog 63 = some ([Value.pointer none]) := by kernel_rfl
theorem Try.ty64 : tyOf Try.prog 64 = some (true, 5) := by kernel_rfl
theorem Try.arr64 : arrOf Try.prog 64 = some (5, 1) := by kernel_rfl
theorem Try.el64 : arrEl Try.prog 64 = some (5, false, 1) := by kernel_rfl
theorem Try.slK64 : slK Try.prog 64 = some (some 5, 1) := by kernel_rfl
theorem Try.zero64 : zeroOf Try.prog 64 = some ([Value.pointer none, Value.pointer none, Value.pointer none, Value.pointer none, Value.pointer none]) := by kernel_rfl
theorem Try.blank64 : blankOf Try.prog 64 = some ([Sum.inl (Value.pointer none), Sum.inl (Value.pointer none), Sum.inl (Value.pointer none), Sum.inl (Value.pointer none), Sum.inl (Value.pointer none)]) := by kernel_rfl
theorem Try.place64 (i : Nat) : placeOf Try.prog 64 i = some (i * 1, 1) := by unfold placeOf; rw [Try.arr64]
theorem Try.ty68 : tyOf Try.prog 68 = some (true, 1) := by kernel_rfl
theorem Try.zero68 : zeroOf Try.prog 68 = some ([Value.slice none 0 0]) := by kernel_rfl
theorem Try.blank68 : blankOf Try.prog 68 = some ([Sum.inl (Value.slice none 0 0)]) := by kernel_rfl
theorem Try.fld68_0 : fieldOf Try.prog 68 0 = some (0, false, 1) := by kernel_rfl
theorem Try.place68_0 : placeOf Try.prog 68 0 = some (0, 1) := by kernel_rfl
theorem Try.ty69 : tyOf Try.prog 69 = some (true, 1) := by kernel_rfl
theorem Try.zero69 : zeroOf Try.prog 69 = some ([Value.slice none 0 0]) := by kernel_rfl
theorem Try.blank69 : blankOf Try.prog 69 = some ([Sum.inl (Value.slice none 0 0)]) := by kernel_rfl
theorem Try.fld69_0 : fieldOf Try.prog 69 0 = some (0, false, 1) := by kernel_rfl
theorem Try.place69_0 : placeOf Try.prog 69 0 = some (0, 1) := by kernel_rfl
theorem Try.ty73 : tyOf Try.prog 73 = some (false, 1) := by kernel_rfl
theorem Try.kind73 : kindOf Try.prog 73 = some IntKind.u64 := by kernel_rfl
theorem Try.zero73 : zeroOf Try.prog 73 = some ([Value.int IntKind.u64 0]) := by kernel_rfl
theorem Try.ty76 : tyOf Try.prog 76 = some (true, 192) := by kernel_rfl
theorem Try.arr76 : arrOf Try.prog 76 = some (6, 32) := by kernel_rfl
theorem Try.el76 : arrEl Try.prog 76 = some (6, true, 32) := by kernel_rfl
theorem Try.slK76 : slK Try.prog 76 = some (some 6, 32) := by kernel_rfl
theorem Try.zero76 : zeroOf Try.prog 76 = some (List.replicate 192 (Value.int IntKind.u8 0)) := by kernel_rfl
theorem Try.blank76 : blankOf Try.prog 76 = some (List.replicate 192 (Sum.inl (Value.int IntKind.u8 0))) := by kernel_rfl
theorem Try.place76 (i : Nat) : placeOf Try.prog 76 i = some (i * 32, 32) := by unfold placeOf; rw [Try.arr76]
theorem Try.ty77 : tyOf Try.prog 77 = some (true, 8) := by kernel_rfl
theorem Try.arr77 : arrOf Try.prog 77 = some (8, 1) := by kernel_rfl
theorem Try.el77 : arrEl Try.prog 77 = some (8, false, 1) := by kernel_rfl
theorem Try.slK77 : slK Try.prog 77 = some (some 8, 1) := by kernel_rfl
theorem Try.zero77 : zeroOf Try.prog 77 = some ([Value.int IntKind.u32 0, Value.int IntKind.u32 0, Value.int IntKind.u32 0, Value.int IntKind.u32 0, Value.int IntKind.u32 0, Value.int IntKind.u32 0, Value.int IntKind.u32 0, Value.int IntKind.u32 0]) := by kernel_rfl
theorem Try.blank77 : blankOf Try.prog 77 = some ([Sum.inl (Value.int IntKind.u32 0), Sum.inl (Value.int IntKind.u32 0), Sum.inl (Value.int IntKind.u32 0), Sum.inl (Value.int IntKind.u32 0), Sum.inl (Value.int IntKind.u32 0), Sum.inl (Value.int IntKind.u32 0), Sum.inl (Value.int IntKind.u32 0), Sum.inl (Value.int IntKind.u32 0)]) := by kernel_rfl
theorem Try.place77 (i : Nat) : placeOf Try.prog 77 i = some (i * 1, 1) := by unfold placeOf; rw [Try.arr77]
theorem Try.ty79 : tyOf Try.prog 79 = some (false, 1) := by kernel_rfl
theorem Try.zero79 : zeroOf Try.prog 79 = some ([Value.pointer none]) := by kernel_rfl
theorem Try.ty82 : tyOf Try.prog 82 = some (false, 1) := by kernel_rfl
theorem Try.sl82 : Vcg.elemOf Try.prog 82 = some 1 := by kernel_rfl
theorem Try.slK82 : slK Try.prog 82 = some (none, 1) := by kernel_rfl
theorem Try.mkK82 : mkK Try.prog 82 = some ([Value.int IntKind.i64 0], 1, 8) := by kernel_rfl
theorem Try.zero82 : zeroOf Try.prog 82 = some ([Value.slice none 0 0]) := by kernel_rfl
theorem Try.ty85 : tyOf Try.prog 85 = some (true, 4) := by kernel_rfl
theorem Try.zero85 : zeroOf Try.prog 85 = some ([Value.pointer none, Value.pointer none, Value.pointer none, Value.string ByteArray.empty]) := by kernel_rfl
theorem Try.blank85 : blankOf Try.prog 85 = some ([Sum.inl (Value.pointer none), Sum.inl (Value.pointer none), Sum.inl (Value.pointer none), Sum.inl (Value.string ByteArray.empty)]) := by kernel_rfl
theorem Try.fld85_0 : fieldOf Try.prog 85 0 = some (0, false, 1) := by kernel_rfl
theorem Try.place85_0 : placeOf Try.prog 85 0 = some (0, 1) := by kernel_rfl
theorem Try.fld85_1 : fieldOf Try.prog 85 1 = some (1, false, 1) := by kernel_rfl
theorem Try.place85_1 : placeOf Try.prog 85 1 = some (1, 1) := by kernel_rfl
theorem Try.fld85_2 : fieldOf Try.prog 85 2 = some (2, false, 1) := by kernel_rfl
theorem Try.place85_2 : placeOf Try.prog 85 2 = some (2, 1) := by kernel_rfl
theorem Try.fld85_3 : fieldOf Try.prog 85 3 = some (3, false, 1) := by kernel_rfl
theorem Try.place85_3 : placeOf Try.prog 85 3 = some (3, 1) := by kernel_rfl
theorem Try.ty86 : tyOf Try.prog 86 = some (true, 4) := by kernel_rfl
theorem Try.zero86 : zeroOf Try.prog 86 = some ([Value.pointer none, Value.pointer none, Value.pointer none, Value.string ByteArray.empty]) := by kernel_rfl
theorem Try.blank86 : blankOf Try.prog 86 = some ([Sum.inl (Value.pointer none), Sum.inl (Value.pointer none), Sum.inl (Value.pointer none), Sum.inl (Value.string ByteArray.empty)]) := by kernel_rfl
theorem Try.fld86_0 : fieldOf Try.prog 86 0 = some (0, false, 1) := by kernel_rfl
theorem Try.place86_0 : placeOf Try.prog 86 0 = some (0, 1) := by kernel_rfl
theorem Try.fld86_1 : fieldOf Try.prog 86 1 = some (1, false, 1) := by kernel_rfl
theorem Try.place86_1 : placeOf Try.prog 86 1 = some (1, 1) := by kernel_rfl
theorem Try.fld86_2 : fieldOf Try.prog 86 2 = some (2, false, 1) := by kernel_rfl
theorem Try.place86_2 : placeOf Try.prog 86 2 = some (2, 1) := by kernel_rfl
theorem Try.fld86_3 : fieldOf Try.prog 86 3 = some (3, false, 1) := by kernel_rfl
theorem Try.place86_3 : placeOf Try.prog 86 3 = some (3, 1) := by kernel_rfl
theorem Try.ty91 : tyOf Try.prog 91 = some (false, 1) := by kernel_rfl
theorem Try.kind91 : kindOf Try.prog 91 = some IntKind.u8 := by kernel_rfl
theorem Try.zero91 : zeroOf Try.prog 91 = some ([Value.int IntKind.u8 0]) := by kernel_rfl
theorem Try.ty92 : tyOf Try.prog 92 = some (false, 1) := by kernel_rfl
theorem Try.kind92 : kindOf Try.prog 92 = some IntKind.u8 := by kernel_rfl
theorem Try.zero92 : zeroOf Try.prog 92 = some ([Value.int IntKind.u8 0]) := by kernel_rfl
theorem Try.ty94 : tyOf Try.prog 94 = some (false, 1) := by kernel_rfl
theorem Try.zero94 : zeroOf Try.prog 94 = some ([Value.pointer none]) := by kernel_rfl
theorem Try.ty95 : tyOf Try.prog 95 = some (false, 1) := by kernel_rfl
theorem Try.kind95 : kindOf Try.prog 95 = some IntKind.i32 := by kernel_rfl
theorem Try.zero95 : zeroOf Try.prog 95 = some ([Value.int IntKind.i32 0]) := by kernel_rfl
theorem Try.ty96 : tyOf Try.prog 96 = some (false, 1) := by kernel_rfl
theorem Try.kind96 : kindOf Try.prog 96 = some IntKind.i32 := by kernel_rfl
theorem Try.zero96 : zeroOf Try.prog 96 = some ([Value.int IntKind.i32 0]) := by kernel_rfl
theorem Try.ty97 : tyOf Try.prog 97 = some (true, 11) := by kernel_rfl
theorem Try.zero97 : zeroOf Try.prog 97 = some ([Value.int IntKind.u64 0, Value.int IntKind.u64 0, Value.int IntKind.u32 0, Value.int IntKind.u8 0, Value.int IntKind.u8 0, Value.int IntKind.u8 0, Value.int IntKind.u8 0, Value.nilFunc, Value.pointer none, Value.int IntKind.i32 0, Value.int IntKind.i32 0]) := by kernel_rfl
theorem Try.blank97 : blankOf Try.prog 97 = some ([Sum.inl (Value.int IntKind.u64 0), Sum.inl (Value.int IntKind.u64 0), Sum.inl (Value.int IntKind.u32 0), Sum.inl (Value.int IntKind.u8 0), Sum.inl (Value.int IntKind.u8 0), Sum.inl (Value.int IntKind.u8 0), Sum.inl (Value.int IntKind.u8 0), Sum.inl (Value.nilFunc), Sum.inl (Value.pointer none), Sum.inl (Value.int IntKind.i32 0), Sum.inl (Value.int IntKind.i32 0)]) := by kernel_rfl
theorem Try.fld97_0 : fieldOf Try.prog 97 0 = some (0, false, 1) := by kernel_rfl
theorem Try.place97_0 : placeOf Try.prog 97 0 = some (0, 1) := by kernel_rfl
theorem Try.fld97_1 : fieldOf Try.prog 97 1 = some (1, false, 1) := by kernel_rfl
theorem Try.place97_1 : placeOf Try.prog 97 1 = some (1, 1) := by kernel_rfl
theorem Try.fld97_2 : fieldOf Try.prog 97 2 = some (2, false, 1) := by kernel_rfl
theorem Try.place97_2 : placeOf Try.prog 97 2 = some (2, 1) := by kernel_rfl
theorem Try.fld97_3 : fieldOf Try.prog 97 3 = some (3, false, 1) := by kernel_rfl
theorem Try.place97_3 : placeOf Try.prog 97 3 = some (3, 1) := by kernel_rfl
theorem Try.fld97_4 : fieldOf Try.prog 97 4 = some (4, false, 1) := by kernel_rfl
theorem Try.place97_4 : placeOf Try.prog 97 4 = some (4, 1) := by kernel_rfl
theorem Try.fld97_5 : fieldOf Try.prog 97 5 = some (5, false, 1) := by kernel_rfl
theorem Try.place97_5 : placeOf Try.prog 97 5 = some (5, 1) := by kernel_rfl
theorem Try.fld97_6 : fieldOf Try.prog 97 6 = some (6, false, 1) := by kernel_rfl
theorem Try.place97_6 : placeOf Try.prog 97 6 = some (6, 1) := by kernel_rfl
theorem Try.fld97_7 : fieldOf Try.prog 97 7 = some (7, false, 1) := by kernel_rfl
theorem Try.place97_7 : placeOf Try.prog 97 7 = some (7, 1) := by kernel_rfl
theorem Try.fld97_8 : fieldOf Try.prog 97 8 = some (8, false, 1) := by kernel_rfl
theorem Try.place97_8 : placeOf Try.prog 97 8 = some (8, 1) := by kernel_rfl
theorem Try.fld97_9 : fieldOf Try.prog 97 9 = some (9, false, 1) := by kernel_rfl
theorem Try.place97_9 : placeOf Try.prog 97 9 = some (9, 1) := by kernel_rfl
theorem Try.fld97_10 : fieldOf Try.prog 97 10 = some (10, false, 1) := by kernel_rfl
theorem Try.place97_10 : placeOf Try.prog 97 10 = some (10, 1) := by kernel_rfl
theorem Try.ty98 : tyOf Try.prog 98 = some (true, 11) := by kernel_rfl
theorem Try.zero98 : zeroOf Try.prog 98 = some ([Value.int IntKind.u64 0, Value.int IntKind.u64 0, Value.int IntKind.u32 0, Value.int IntKind.u8 0, Value.int IntKind.u8 0, Value.int IntKind.u8 0, Value.int IntKind.u8 0, Value.nilFunc, Value.pointer none, Value.int IntKind.i32 0, Value.int IntKind.i32 0]) := by kernel_rfl
theorem Try.blank98 : blankOf Try.prog 98 = some ([Sum.inl (Value.int IntKind.u64 0), Sum.inl (Value.int IntKind.u64 0), Sum.inl (Value.int IntKind.u32 0), Sum.inl (Value.int IntKind.u8 0), Sum.inl (Value.int IntKind.u8 0), Sum.inl (Value.int IntKind.u8 0), Sum.inl (Value.int IntKind.u8 0), Sum.inl (Value.nilFunc), Sum.inl (Value.pointer none), Sum.inl (Value.int IntKind.i32 0), Sum.inl (Value.int IntKind.i32 0)]) := by kernel_rfl
theorem Try.fld98_0 : fieldOf Try.prog 98 0 = some (0, false, 1) := by kernel_rfl
theorem Try.place98_0 : placeOf Try.prog 98 0 = some (0, 1) := by kernel_rfl
theorem Try.fld98_1 : fieldOf Try.prog 98 1 = some (1, false, 1) := by kernel_rfl
theorem Try.place98_1 : placeOf Try.prog 98 1 = some (1, 1) := by kernel_rfl
theorem Try.fld98_2 : fieldOf Try.prog 98 2 = some (2, false, 1) := by kernel_rfl
theorem Try.place98_2 : placeOf Try.prog 98 2 = some (2, 1) := by kernel_rfl
theorem Try.fld98_3 : fieldOf Try.prog 98 3 = some (3, false, 1) := by kernel_rfl
theorem Try.place98_3 : placeOf Try.prog 98 3 = some (3, 1) := by kernel_rfl
theorem Try.fld98_4 : fieldOf Try.prog 98 4 = some (4, false, 1) := by kernel_rfl
theorem Try.place98_4 : placeOf Try.prog 98 4 = some (4, 1) := by kernel_rfl
theorem Try.fld98_5 : fieldOf Try.prog 98 5 = some (5, false, 1) := by kernel_rfl
theorem Try.place98_5 : placeOf Try.prog 98 5 = some (5, 1) := by kernel_rfl
theorem Try.fld98_6 : fieldOf Try.prog 98 6 = some (6, false, 1) := by kernel_rfl
theorem Try.place98_6 : placeOf Try.prog 98 6 = some (6, 1) := by kernel_rfl
theorem Try.fld98_7 : fieldOf Try.prog 98 7 = some (7, false, 1) := by kernel_rfl
theorem Try.place98_7 : placeOf Try.prog 98 7 = some (7, 1) := by kernel_rfl
theorem Try.fld98_8 : fieldOf Try.prog 98 8 = some (8, false, 1) := by kernel_rfl
theorem Try.place98_8 : placeOf Try.prog 98 8 = some (8, 1) := by kernel_rfl
theorem Try.fld98_9 : fieldOf Try.prog 98 9 = some (9, false, 1) := by kernel_rfl
theorem Try.place98_9 : placeOf Try.prog 98 9 = some (9, 1) := by kernel_rfl
theorem Try.fld98_10 : fieldOf Try.prog 98 10 = some (10, false, 1) := by kernel_rfl
theorem Try.place98_10 : placeOf Try.prog 98 10 = some (10, 1) := by kernel_rfl
theorem Try.callable3 : callable Try.prog 3 = true := by kernel_rfl
theorem Try.callable4 : callable Try.prog 4 = true := by kernel_rfl
theorem Try.callable5 : callable Try.prog 5 = true := by kernel_rfl
theorem Try.callable6 : callable Try.prog 6 = true := by kernel_rfl
theorem Try.callable7 : callable Try.prog 7 = true := by kernel_rfl
theorem Try.callable8 : callable Try.prog 8 = true := by kernel_rfl
theorem Try.callable9 : callable Try.prog 9 = true := by kernel_rfl
theorem Try.callable10 : callable Try.prog 10 = true := by kernel_rfl
theorem Try.callable11 : callable Try.prog 11 = true := by kernel_rfl
theorem Try.callable12 : callable Try.prog 12 = true := by kernel_rfl
theorem Try.callable13 : callable Try.prog 13 = true := by kernel_rfl
theorem Try.callable14 : callable Try.prog 14 = true := by kernel_rfl
theorem Try.callable15 : callable Try.prog 15 = true := by kernel_rfl
theorem Try.callable16 : callable Try.prog 16 = true := by kernel_rfl
theorem Try.callable17 : callable Try.prog 17 = true := by kernel_rfl
theorem Try.callable18 : callable Try.prog 18 = true := by kernel_rfl
theorem Try.callable19 : callable Try.prog 19 = true := by kernel_rfl
theorem Try.callable20 : callable Try.prog 20 = true := by kernel_rfl
theorem Try.callable21 : callable Try.prog 21 = true := by kernel_rfl
theorem Try.callable22 : callable Try.prog 22 = true := by kernel_rfl
theorem Try.callable23 : callable Try.prog 23 = true := by kernel_rfl
theorem Try.callable24 : callable Try.prog 24 = true := by kernel_rfl
theorem Try.callable25 : callable Try.prog 25 = true := by kernel_rfl
theorem Try.callable26 : callable Try.prog 26 = true := by kernel_rfl
theorem Try.callable27 : callable Try.prog 27 = true := by kernel_rfl
theorem Try.callable28 : callable Try.prog 28 = true := by kernel_rfl
theorem Try.callable29 : callable Try.prog 29 = true := by kernel_rfl
theorem Try.callable30 : callable Try.prog 30 = true := by kernel_rfl
theorem Try.callable31 : callable Try.prog 31 = true := by kernel_rfl
theorem Try.callable32 : callable Try.prog 32 = true := by kernel_rfl
theorem Try.callable33 : callable Try.prog 33 = true := by kernel_rfl
theorem Try.callable34 : callable Try.prog 34 = true := by kernel_rfl
theorem Try.callable35 : callable Try.prog 35 = true := by kernel_rfl
theorem Try.callable36 : callable Try.prog 36 = true := by kernel_rfl
theorem Try.callable37 : callable Try.prog 37 = true := by kernel_rfl
theorem Try.callable38 : callable Try.prog 38 = true := by kernel_rfl
theorem Try.callable39 : callable Try.prog 39 = true := by kernel_rfl
theorem Try.callable40 : callable Try.prog 40 = true := by kernel_rfl
theorem Try.callable41 : callable Try.prog 41 = true := by kernel_rfl
theorem Try.callable42 : callable Try.prog 42 = true := by kernel_rfl
theorem Try.callable43 : callable Try.prog 43 = true := by kernel_rfl
theorem Try.callable44 : callable Try.prog 44 = true := by kernel_rfl
theorem Try.callable45 : callable Try.prog 45 = true := by kernel_rfl
theorem Try.callable46 : callable Try.prog 46 = true := by kernel_rfl
theorem Try.callable47 : callable Try.prog 47 = true := by kernel_rfl
theorem Try.callable48 : callable Try.prog 48 = true := by kernel_rfl
theorem Try.callable49 : callable Try.prog 49 = true := by kernel_rfl
theorem Try.callable50 : callable Try.prog 50 = false := by kernel_rfl
theorem Try.callable51 : callable Try.prog 51 = false := by kernel_rfl
theorem Try.callable52 : callable Try.prog 52 = false := by kernel_rfl
theorem Try.callable53 : callable Try.prog 53 = false := by kernel_rfl
theorem Try.callable54 : callable Try.prog 54 = false := by kernel_rfl
theorem Try.callable55 : callable Try.prog 55 = false := by kernel_rfl
theorem Try.callable56 : callable Try.prog 56 = false := by kernel_rfl
theorem Try.callable57 : callable Try.prog 57 = false := by kernel_rfl
theorem Try.callable58 : callable Try.prog 58 = false := by kernel_rfl
theorem Try.callable59 : callable Try.prog 59 = false := by kernel_rfl
theorem Try.callable60 : callable Try.prog 60 = false := by kernel_rfl
theorem Try.callable61 : callable Try.prog 61 = false := by kernel_rfl
theorem Try.callable62 : callable Try.prog 62 = false := by kernel_rfl
theorem Try.callable63 : callable Try.prog 63 = false := by kernel_rfl
theorem Try.callable64 : callable Try.prog 64 = false := by kernel_rfl
theorem Try.callable65 : callable Try.prog 65 = false := by kernel_rfl
theorem Try.mixed : Try.prog.follows .mixedOrders = true := by kernel_rfl
theorem Try.isb4 : isBool Try.prog 4 = true := by kernel_rfl
theorem Try.lenK9 : lenK Try.prog [9] = 2 := by kernel_rfl
theorem Try.lenK10 : lenK Try.prog [10] = 2 := by kernel_rfl
theorem Try.lenK11 : lenK Try.prog [11] = 2 := by kernel_rfl
theorem Try.arrI22 : arrIntOf Try.prog 22 = some (32, IntKind.u8) := by kernel_rfl
theorem Try.arrI23 : arrIntOf Try.prog 23 = some (32, IntKind.u8) := by kernel_rfl
theorem Try.lenK25 : lenK Try.prog [25] = 1 := by kernel_rfl
theorem Try.lenK28 : lenK Try.prog [28] = 1 := by kernel_rfl
theorem Try.arrN48 : arrIntOf Try.prog 48 = none := by kernel_rfl
theorem Try.fds48 : fdsOf Try.prog 48 = some [(0, 1, IntKind.u32), (1, 1, IntKind.u32), (2, 32, IntKind.u8), (34, 32, IntKind.u8)] := by kernel_rfl
theorem Try.arrN49 : arrIntOf Try.prog 49 = none := by kernel_rfl
theorem Try.fds49 : fdsOf Try.prog 49 = some [(0, 1, IntKind.u32), (1, 1, IntKind.u32), (2, 32, IntKind.u8), (34, 32, IntKind.u8)] := by kernel_rfl
theorem Try.arrI77 : arrIntOf Try.prog 77 = some (8, IntKind.u32) := by kernel_rfl
theorem Try.lenK82 : lenK Try.prog [82] = 1 := by kernel_rfl
theorem Try.facts0 : type_of% @Try.ty2 ∧ type_of% @Try.kind2 ∧ type_of% @Try.zero2 ∧ type_of% @Try.ty3 ∧ type_of% @Try.kind3 ∧ type_of% @Try.zero3 ∧ type_of% @Try.ty4 ∧ type_of% @Try.zero4 ∧ type_of% @Try.ty5 ∧ type_of% @Try.kind5 ∧ type_of% @Try.zero5 ∧ type_of% @Try.ty6 ∧ type_of% @Try.kind6 ∧ type_of% @Try.zero6 ∧ type_of% @Try.ty7 ∧ type_of% @Try.zero7 ∧ type_of% @Try.blank7 ∧ type_of% @Try.fld7_0 ∧ type_of% @Try.place7_0 ∧ type_of% @Try.fld7_1 ∧ type_of% @Try.place7_1 ∧ type_of% @Try.fld7_2 ∧ type_of% @Try.place7_2 ∧ type_of% @Try.fld7_3 ∧ type_of% @Try.place7_3 ∧ type_of% @Try.ty8 ∧ type_of% @Try.zero8 ∧ type_of% @Try.blank8 ∧ type_of% @Try.fld8_0 ∧ type_of% @Try.place8_0 ∧ type_of% @Try.fld8_1 ∧ type_of% @Try.place8_1 ∧ type_of% @Try.fld8_2 ∧ type_of% @Try.place8_2 ∧ type_of% @Try.fld8_3 ∧ type_of% @Try.place8_3 ∧ type_of% @Try.ty9 ∧ type_of% @Try.zero9 ∧ type_of% @Try.ty10 ∧ type_of% @Try.zero10 ∧ type_of% @Try.ty11 ∧ type_of% @Try.zero11 ∧ type_of% @Try.ty12 ∧ type_of% @Try.kind12 ∧ type_of% @Try.zero12 ∧ type_of% @Try.ty13 ∧ type_of% @Try.zero13 ∧ type_of% @Try.blank13 ∧ type_of% @Try.fld13_0 ∧ type_of% @Try.place13_0 ∧ type_of% @Try.fld13_1 ∧ type_of% @Try.place13_1 ∧ type_of% @Try.ty14 ∧ type_of% @Try.zero14 ∧ type_of% @Try.blank14 ∧ type_of% @Try.fld14_0 ∧ type_of% @Try.place14_0 ∧ type_of% @Try.fld14_1 ∧ type_of% @Try.place14_1 ∧ type_of% @Try.ty15 :=
  ⟨@Try.ty2, @Try.kind2, @Try.zero2, @Try.ty3, @Try.kind3, @Try.zero3, @Try.ty4, @Try.zero4, @Try.ty5, @Try.kind5, @Try.zero5, @Try.ty6, @Try.kind6, @Try.zero6, @Try.ty7, @Try.zero7, @Try.blank7, @Try.fld7_0, @Try.place7_0, @Try.fld7_1, @Try.place7_1, @Try.fld7_2, @Try.place7_2, @Try.fld7_3, @Try.place7_3, @Try.ty8, @Try.zero8, @Try.blank8, @Try.fld8_0, @Try.place8_0, @Try.fld8_1, @Try.place8_1, @Try.fld8_2, @Try.place8_2, @Try.fld8_3, @Try.place8_3, @Try.ty9, @Try.zero9, @Try.ty10, @Try.zero10, @Try.ty11, @Try.zero11, @Try.ty12, @Try.kind12, @Try.zero12, @Try.ty13, @Try.zero13, @Try.blank13, @Try.fld13_0, @Try.place13_0, @Try.fld13_1, @Try.place13_1, @Try.ty14, @Try.zero14, @Try.blank14, @Try.fld14_0, @Try.place14_0, @Try.fld14_1, @Try.place14_1, @Try.ty15⟩
theorem Try.facts1 : type_of% @Try.zero15 ∧ type_of% @Try.ty16 ∧ type_of% @Try.zero16 ∧ type_of% @Try.ty17 ∧ type_of% @Try.zero17 ∧ type_of% @Try.ty18 ∧ type_of% @Try.zero18 ∧ type_of% @Try.blank18 ∧ type_of% @Try.fld18_0 ∧ type_of% @Try.place18_0 ∧ type_of% @Try.ty19 ∧ type_of% @Try.zero19 ∧ type_of% @Try.blank19 ∧ type_of% @Try.fld19_0 ∧ type_of% @Try.place19_0 ∧ type_of% @Try.ty21 ∧ type_of% @Try.kind21 ∧ type_of% @Try.zero21 ∧ type_of% @Try.ty22 ∧ type_of% @Try.arr22 ∧ type_of% @Try.el22 ∧ type_of% @Try.slK22 ∧ type_of% @Try.zero22 ∧ type_of% @Try.blank22 ∧ type_of% @Try.place22 ∧ type_of% @Try.ty23 ∧ type_of% @Try.arr23 ∧ type_of% @Try.el23 ∧ type_of% @Try.slK23 ∧ type_of% @Try.zero23 ∧ type_of% @Try.blank23 ∧ type_of% @Try.place23 ∧ type_of% @Try.ty24 ∧ type_of% @Try.kind24 ∧ type_of% @Try.zero24 ∧ type_of% @Try.ty25 ∧ type_of% @Try.sl25 ∧ type_of% @Try.slK25 ∧ type_of% @Try.mkK25 ∧ type_of% @Try.zero25 ∧ type_of% @Try.ty26 ∧ type_of% @Try.zero26 ∧ type_of% @Try.blank26 ∧ type_of% @Try.fld26_0 ∧ type_of% @Try.place26_0 ∧ type_of% @Try.fld26_1 ∧ type_of% @Try.place26_1 ∧ type_of% @Try.fld26_2 ∧ type_of% @Try.place26_2 ∧ type_of% @Try.fld26_3 ∧ type_of% @Try.place26_3 ∧ type_of% @Try.fld26_4 ∧ type_of% @Try.place26_4 ∧ type_of% @Try.fld26_5 ∧ type_of% @Try.place26_5 ∧ type_of% @Try.fld26_6 ∧ type_of% @Try.place26_6 ∧ type_of% @Try.fld26_7 ∧ type_of% @Try.place26_7 ∧ type_of% @Try.fld26_8 :=
  ⟨@Try.zero15, @Try.ty16, @Try.zero16, @Try.ty17, @Try.zero17, @Try.ty18, @Try.zero18, @Try.blank18, @Try.fld18_0, @Try.place18_0, @Try.ty19, @Try.zero19, @Try.blank19, @Try.fld19_0, @Try.place19_0, @Try.ty21, @Try.kind21, @Try.zero21, @Try.ty22, @Try.arr22, @Try.el22, @Try.slK22, @Try.zero22, @Try.blank22, @Try.place22, @Try.ty23, @Try.arr23, @Try.el23, @Try.slK23, @Try.zero23, @Try.blank23, @Try.place23, @Try.ty24, @Try.kind24, @Try.zero24, @Try.ty25, @Try.sl25, @Try.slK25, @Try.mkK25, @Try.zero25, @Try.ty26, @Try.zero26, @Try.blank26, @Try.fld26_0, @Try.place26_0, @Try.fld26_1, @Try.place26_1, @Try.fld26_2, @Try.place26_2, @Try.fld26_3, @Try.place26_3, @Try.fld26_4, @Try.place26_4, @Try.fld26_5, @Try.place26_5, @Try.fld26_6, @Try.place26_6, @Try.fld26_7, @Try.place26_7, @Try.fld26_8⟩
theorem Try.facts2 : type_of% @Try.place26_8 ∧ type_of% @Try.fld26_9 ∧ type_of% @Try.place26_9 ∧ type_of% @Try.fld26_10 ∧ type_of% @Try.place26_10 ∧ type_of% @Try.fld26_11 ∧ type_of% @Try.place26_11 ∧ type_of% @Try.fld26_12 ∧ type_of% @Try.place26_12 ∧ type_of% @Try.fld26_13 ∧ type_of% @Try.place26_13 ∧ type_of% @Try.fld26_14 ∧ type_of% @Try.place26_14 ∧ type_of% @Try.fld26_15 ∧ type_of% @Try.place26_15 ∧ type_of% @Try.fld26_16 ∧ type_of% @Try.place26_16 ∧ type_of% @Try.ty27 ∧ type_of% @Try.zero27 ∧ type_of% @Try.blank27 ∧ type_of% @Try.fld27_0 ∧ type_of% @Try.place27_0 ∧ type_of% @Try.fld27_1 ∧ type_of% @Try.place27_1 ∧ type_of% @Try.fld27_2 ∧ type_of% @Try.place27_2 ∧ type_of% @Try.fld27_3 ∧ type_of% @Try.place27_3 ∧ type_of% @Try.fld27_4 ∧ type_of% @Try.place27_4 ∧ type_of% @Try.fld27_5 ∧ type_of% @Try.place27_5 ∧ type_of% @Try.fld27_6 ∧ type_of% @Try.place27_6 ∧ type_of% @Try.fld27_7 ∧ type_of% @Try.place27_7 ∧ type_of% @Try.fld27_8 ∧ type_of% @Try.place27_8 ∧ type_of% @Try.fld27_9 ∧ type_of% @Try.place27_9 ∧ type_of% @Try.fld27_10 ∧ type_of% @Try.place27_10 ∧ type_of% @Try.fld27_11 ∧ type_of% @Try.place27_11 ∧ type_of% @Try.fld27_12 ∧ type_of% @Try.place27_12 ∧ type_of% @Try.fld27_13 ∧ type_of% @Try.place27_13 ∧ type_of% @Try.fld27_14 ∧ type_of% @Try.place27_14 ∧ type_of% @Try.fld27_15 ∧ type_of% @Try.place27_15 ∧ type_of% @Try.fld27_16 ∧ type_of% @Try.place27_16 ∧ type_of% @Try.ty28 ∧ type_of% @Try.sl28 ∧ type_of% @Try.slK28 ∧ type_of% @Try.byt28 ∧ type_of% @Try.mkK28 ∧ type_of% @Try.zero28 :=
  ⟨@Try.place26_8, @Try.fld26_9, @Try.place26_9, @Try.fld26_10, @Try.place26_10, @Try.fld26_11, @Try.place26_11, @Try.fld26_12, @Try.place26_12, @Try.fld26_13, @Try.place26_13, @Try.fld26_14, @Try.place26_14, @Try.fld26_15, @Try.place26_15, @Try.fld26_16, @Try.place26_16, @Try.ty27, @Try.zero27, @Try.blank27, @Try.fld27_0, @Try.place27_0, @Try.fld27_1, @Try.place27_1, @Try.fld27_2, @Try.place27_2, @Try.fld27_3, @Try.place27_3, @Try.fld27_4, @Try.place27_4, @Try.fld27_5, @Try.place27_5, @Try.fld27_6, @Try.place27_6, @Try.fld27_7, @Try.place27_7, @Try.fld27_8, @Try.place27_8, @Try.fld27_9, @Try.place27_9, @Try.fld27_10, @Try.place27_10, @Try.fld27_11, @Try.place27_11, @Try.fld27_12, @Try.place27_12, @Try.fld27_13, @Try.place27_13, @Try.fld27_14, @Try.place27_14, @Try.fld27_15, @Try.place27_15, @Try.fld27_16, @Try.place27_16, @Try.ty28, @Try.sl28, @Try.slK28, @Try.byt28, @Try.mkK28, @Try.zero28⟩
theorem Try.facts3 : type_of% @Try.ty29 ∧ type_of% @Try.zero29 ∧ type_of% @Try.blank29 ∧ type_of% @Try.fld29_0 ∧ type_of% @Try.place29_0 ∧ type_of% @Try.fld29_1 ∧ type_of% @Try.place29_1 ∧ type_of% @Try.ty30 ∧ type_of% @Try.zero30 ∧ type_of% @Try.blank30 ∧ type_of% @Try.fld30_0 ∧ type_of% @Try.place30_0 ∧ type_of% @Try.fld30_1 ∧ type_of% @Try.place30_1 ∧ type_of% @Try.ty32 ∧ type_of% @Try.zero32 ∧ type_of% @Try.blank32 ∧ type_of% @Try.fld32_0 ∧ type_of% @Try.place32_0 ∧ type_of% @Try.fld32_1 ∧ type_of% @Try.place32_1 ∧ type_of% @Try.ty33 ∧ type_of% @Try.zero33 ∧ type_of% @Try.blank33 ∧ type_of% @Try.fld33_0 ∧ type_of% @Try.place33_0 ∧ type_of% @Try.fld33_1 ∧ type_of% @Try.place33_1 ∧ type_of% @Try.ty48 ∧ type_of% @Try.zero48 ∧ type_of% @Try.blank48 ∧ type_of% @Try.fld48_0 ∧ type_of% @Try.place48_0 ∧ type_of% @Try.fld48_1 ∧ type_of% @Try.place48_1 ∧ type_of% @Try.fld48_2 ∧ type_of% @Try.place48_2 ∧ type_of% @Try.fld48_3 ∧ type_of% @Try.place48_3 ∧ type_of% @Try.ty49 ∧ type_of% @Try.zero49 ∧ type_of% @Try.blank49 ∧ type_of% @Try.fld49_0 ∧ type_of% @Try.place49_0 ∧ type_of% @Try.fld49_1 ∧ type_of% @Try.place49_1 ∧ type_of% @Try.fld49_2 ∧ type_of% @Try.place49_2 ∧ type_of% @Try.fld49_3 ∧ type_of% @Try.place49_3 ∧ type_of% @Try.ty53 ∧ type_of% @Try.kind53 ∧ type_of% @Try.zero53 ∧ type_of% @Try.ty59 ∧ type_of% @Try.zero59 ∧ type_of% @Try.ty60 ∧ type_of% @Try.arr60 ∧ type_of% @Try.el60 ∧ type_of% @Try.slK60 ∧ type_of% @Try.zero60 :=
  ⟨@Try.ty29, @Try.zero29, @Try.blank29, @Try.fld29_0, @Try.place29_0, @Try.fld29_1, @Try.place29_1, @Try.ty30, @Try.zero30, @Try.blank30, @Try.fld30_0, @Try.place30_0, @Try.fld30_1, @Try.place30_1, @Try.ty32, @Try.zero32, @Try.blank32, @Try.fld32_0, @Try.place32_0, @Try.fld32_1, @Try.place32_1, @Try.ty33, @Try.zero33, @Try.blank33, @Try.fld33_0, @Try.place33_0, @Try.fld33_1, @Try.place33_1, @Try.ty48, @Try.zero48, @Try.blank48, @Try.fld48_0, @Try.place48_0, @Try.fld48_1, @Try.place48_1, @Try.fld48_2, @Try.place48_2, @Try.fld48_3, @Try.place48_3, @Try.ty49, @Try.zero49, @Try.blank49, @Try.fld49_0, @Try.place49_0, @Try.fld49_1, @Try.place49_1, @Try.fld49_2, @Try.place49_2, @Try.fld49_3, @Try.place49_3, @Try.ty53, @Try.kind53, @Try.zero53, @Try.ty59, @Try.zero59, @Try.ty60, @Try.arr60, @Try.el60, @Try.slK60, @Try.zero60⟩
theorem Try.facts4 : type_of% @Try.blank60 ∧ type_of% @Try.place60 ∧ type_of% @Try.ty62 ∧ type_of% @Try.zero62 ∧ type_of% @Try.ty63 ∧ type_of% @Try.zero63 ∧ type_of% @Try.ty64 ∧ type_of% @Try.arr64 ∧ type_of% @Try.el64 ∧ type_of% @Try.slK64 ∧ type_of% @Try.zero64 ∧ type_of% @Try.blank64 ∧ type_of% @Try.place64 ∧ type_of% @Try.ty68 ∧ type_of% @Try.zero68 ∧ type_of% @Try.blank68 ∧ type_of% @Try.fld68_0 ∧ type_of% @Try.place68_0 ∧ type_of% @Try.ty69 ∧ type_of% @Try.zero69 ∧ type_of% @Try.blank69 ∧ type_of% @Try.fld69_0 ∧ type_of% @Try.place69_0 ∧ type_of% @Try.ty73 ∧ type_of% @Try.kind73 ∧ type_of% @Try.zero73 ∧ type_of% @Try.ty76 ∧ type_of% @Try.arr76 ∧ type_of% @Try.el76 ∧ type_of% @Try.slK76 ∧ type_of% @Try.zero76 ∧ type_of% @Try.blank76 ∧ type_of% @Try.place76 ∧ type_of% @Try.ty77 ∧ type_of% @Try.arr77 ∧ type_of% @Try.el77 ∧ type_of% @Try.slK77 ∧ type_of% @Try.zero77 ∧ type_of% @Try.blank77 ∧ type_of% @Try.place77 ∧ type_of% @Try.ty79 ∧ type_of% @Try.zero79 ∧ type_of% @Try.ty82 ∧ type_of% @Try.sl82 ∧ type_of% @Try.slK82 ∧ type_of% @Try.mkK82 ∧ type_of% @Try.zero82 ∧ type_of% @Try.ty85 ∧ type_of% @Try.zero85 ∧ type_of% @Try.blank85 ∧ type_of% @Try.fld85_0 ∧ type_of% @Try.place85_0 ∧ type_of% @Try.fld85_1 ∧ type_of% @Try.place85_1 ∧ type_of% @Try.fld85_2 ∧ type_of% @Try.place85_2 ∧ type_of% @Try.fld85_3 ∧ type_of% @Try.place85_3 ∧ type_of% @Try.ty86 ∧ type_of% @Try.zero86 :=
  ⟨@Try.blank60, @Try.place60, @Try.ty62, @Try.zero62, @Try.ty63, @Try.zero63, @Try.ty64, @Try.arr64, @Try.el64, @Try.slK64, @Try.zero64, @Try.blank64, @Try.place64, @Try.ty68, @Try.zero68, @Try.blank68, @Try.fld68_0, @Try.place68_0, @Try.ty69, @Try.zero69, @Try.blank69, @Try.fld69_0, @Try.place69_0, @Try.ty73, @Try.kind73, @Try.zero73, @Try.ty76, @Try.arr76, @Try.el76, @Try.slK76, @Try.zero76, @Try.blank76, @Try.place76, @Try.ty77, @Try.arr77, @Try.el77, @Try.slK77, @Try.zero77, @Try.blank77, @Try.place77, @Try.ty79, @Try.zero79, @Try.ty82, @Try.sl82, @Try.slK82, @Try.mkK82, @Try.zero82, @Try.ty85, @Try.zero85, @Try.blank85, @Try.fld85_0, @Try.place85_0, @Try.fld85_1, @Try.place85_1, @Try.fld85_2, @Try.place85_2, @Try.fld85_3, @Try.place85_3, @Try.ty86, @Try.zero86⟩
theorem Try.facts5 : type_of% @Try.blank86 ∧ type_of% @Try.fld86_0 ∧ type_of% @Try.place86_0 ∧ type_of% @Try.fld86_1 ∧ type_of% @Try.place86_1 ∧ type_of% @Try.fld86_2 ∧ type_of% @Try.place86_2 ∧ type_of% @Try.fld86_3 ∧ type_of% @Try.place86_3 ∧ type_of% @Try.ty91 ∧ type_of% @Try.kind91 ∧ type_of% @Try.zero91 ∧ type_of% @Try.ty92 ∧ type_of% @Try.kind92 ∧ type_of% @Try.zero92 ∧ type_of% @Try.ty94 ∧ type_of% @Try.zero94 ∧ type_of% @Try.ty95 ∧ type_of% @Try.kind95 ∧ type_of% @Try.zero95 ∧ type_of% @Try.ty96 ∧ type_of% @Try.kind96 ∧ type_of% @Try.zero96 ∧ type_of% @Try.ty97 ∧ type_of% @Try.zero97 ∧ type_of% @Try.blank97 ∧ type_of% @Try.fld97_0 ∧ type_of% @Try.place97_0 ∧ type_of% @Try.fld97_1 ∧ type_of% @Try.place97_1 ∧ type_of% @Try.fld97_2 ∧ type_of% @Try.place97_2 ∧ type_of% @Try.fld97_3 ∧ type_of% @Try.place97_3 ∧ type_of% @Try.fld97_4 ∧ type_of% @Try.place97_4 ∧ type_of% @Try.fld97_5 ∧ type_of% @Try.place97_5 ∧ type_of% @Try.fld97_6 ∧ type_of% @Try.place97_6 ∧ type_of% @Try.fld97_7 ∧ type_of% @Try.place97_7 ∧ type_of% @Try.fld97_8 ∧ type_of% @Try.place97_8 ∧ type_of% @Try.fld97_9 ∧ type_of% @Try.place97_9 ∧ type_of% @Try.fld97_10 ∧ type_of% @Try.place97_10 ∧ type_of% @Try.ty98 ∧ type_of% @Try.zero98 ∧ type_of% @Try.blank98 ∧ type_of% @Try.fld98_0 ∧ type_of% @Try.place98_0 ∧ type_of% @Try.fld98_1 ∧ type_of% @Try.place98_1 ∧ type_of% @Try.fld98_2 ∧ type_of% @Try.place98_2 ∧ type_of% @Try.fld98_3 ∧ type_of% @Try.place98_3 ∧ type_of% @Try.fld98_4 :=
  ⟨@Try.blank86, @Try.fld86_0, @Try.place86_0, @Try.fld86_1, @Try.place86_1, @Try.fld86_2, @Try.place86_2, @Try.fld86_3, @Try.place86_3, @Try.ty91, @Try.kind91, @Try.zero91, @Try.ty92, @Try.kind92, @Try.zero92, @Try.ty94, @Try.zero94, @Try.ty95, @Try.kind95, @Try.zero95, @Try.ty96, @Try.kind96, @Try.zero96, @Try.ty97, @Try.zero97, @Try.blank97, @Try.fld97_0, @Try.place97_0, @Try.fld97_1, @Try.place97_1, @Try.fld97_2, @Try.place97_2, @Try.fld97_3, @Try.place97_3, @Try.fld97_4, @Try.place97_4, @Try.fld97_5, @Try.place97_5, @Try.fld97_6, @Try.place97_6, @Try.fld97_7, @Try.place97_7, @Try.fld97_8, @Try.place97_8, @Try.fld97_9, @Try.place97_9, @Try.fld97_10, @Try.place97_10, @Try.ty98, @Try.zero98, @Try.blank98, @Try.fld98_0, @Try.place98_0, @Try.fld98_1, @Try.place98_1, @Try.fld98_2, @Try.place98_2, @Try.fld98_3, @Try.place98_3, @Try.fld98_4⟩
theorem Try.facts6 : type_of% @Try.place98_4 ∧ type_of% @Try.fld98_5 ∧ type_of% @Try.place98_5 ∧ type_of% @Try.fld98_6 ∧ type_of% @Try.place98_6 ∧ type_of% @Try.fld98_7 ∧ type_of% @Try.place98_7 ∧ type_of% @Try.fld98_8 ∧ type_of% @Try.place98_8 ∧ type_of% @Try.fld98_9 ∧ type_of% @Try.place98_9 ∧ type_of% @Try.fld98_10 ∧ type_of% @Try.place98_10 ∧ type_of% @Try.callable3 ∧ type_of% @Try.callable4 ∧ type_of% @Try.callable5 ∧ type_of% @Try.callable6 ∧ type_of% @Try.callable7 ∧ type_of% @Try.callable8 ∧ type_of% @Try.callable9 ∧ type_of% @Try.callable10 ∧ type_of% @Try.callable11 ∧ type_of% @Try.callable12 ∧ type_of% @Try.callable13 ∧ type_of% @Try.callable14 ∧ type_of% @Try.callable15 ∧ type_of% @Try.callable16 ∧ type_of% @Try.callable17 ∧ type_of% @Try.callable18 ∧ type_of% @Try.callable19 ∧ type_of% @Try.callable20 ∧ type_of% @Try.callable21 ∧ type_of% @Try.callable22 ∧ type_of% @Try.callable23 ∧ type_of% @Try.callable24 ∧ type_of% @Try.callable25 ∧ type_of% @Try.callable26 ∧ type_of% @Try.callable27 ∧ type_of% @Try.callable28 ∧ type_of% @Try.callable29 ∧ type_of% @Try.callable30 ∧ type_of% @Try.callable31 ∧ type_of% @Try.callable32 ∧ type_of% @Try.callable33 ∧ type_of% @Try.callable34 ∧ type_of% @Try.callable35 ∧ type_of% @Try.callable36 ∧ type_of% @Try.callable37 ∧ type_of% @Try.callable38 ∧ type_of% @Try.callable39 ∧ type_of% @Try.callable40 ∧ type_of% @Try.callable41 ∧ type_of% @Try.callable42 ∧ type_of% @Try.callable43 ∧ type_of% @Try.callable44 ∧ type_of% @Try.callable45 ∧ type_of% @Try.callable46 ∧ type_of% @Try.callable47 ∧ type_of% @Try.callable48 ∧ type_of% @Try.callable49 :=
  ⟨@Try.place98_4, @Try.fld98_5, @Try.place98_5, @Try.fld98_6, @Try.place98_6, @Try.fld98_7, @Try.place98_7, @Try.fld98_8, @Try.place98_8, @Try.fld98_9, @Try.place98_9, @Try.fld98_10, @Try.place98_10, @Try.callable3, @Try.callable4, @Try.callable5, @Try.callable6, @Try.callable7, @Try.callable8, @Try.callable9, @Try.callable10, @Try.callable11, @Try.callable12, @Try.callable13, @Try.callable14, @Try.callable15, @Try.callable16, @Try.callable17, @Try.callable18, @Try.callable19, @Try.callable20, @Try.callable21, @Try.callable22, @Try.callable23, @Try.callable24, @Try.callable25, @Try.callable26, @Try.callable27, @Try.callable28, @Try.callable29, @Try.callable30, @Try.callable31, @Try.callable32, @Try.callable33, @Try.callable34, @Try.callable35, @Try.callable36, @Try.callable37, @Try.callable38, @Try.callable39, @Try.callable40, @Try.callable41, @Try.callable42, @Try.callable43, @Try.callable44, @Try.callable45, @Try.callable46, @Try.callable47, @Try.callable48, @Try.callable49⟩
theorem Try.facts7 : type_of% @Try.callable50 ∧ type_of% @Try.callable51 ∧ type_of% @Try.callable52 ∧ type_of% @Try.callable53 ∧ type_of% @Try.callable54 ∧ type_of% @Try.callable55 ∧ type_of% @Try.callable56 ∧ type_of% @Try.callable57 ∧ type_of% @Try.callable58 ∧ type_of% @Try.callable59 ∧ type_of% @Try.callable60 ∧ type_of% @Try.callable61 ∧ type_of% @Try.callable62 ∧ type_of% @Try.callable63 ∧ type_of% @Try.callable64 ∧ type_of% @Try.callable65 ∧ type_of% @Try.mixed ∧ type_of% @Try.isb4 ∧ type_of% @Try.lenK9 ∧ type_of% @Try.lenK10 ∧ type_of% @Try.lenK11 ∧ type_of% @Try.arrI22 ∧ type_of% @Try.arrI23 ∧ type_of% @Try.lenK25 ∧ type_of% @Try.lenK28 ∧ type_of% @Try.arrN48 ∧ type_of% @Try.fds48 ∧ type_of% @Try.arrN49 ∧ type_of% @Try.fds49 ∧ type_of% @Try.arrI77 ∧ type_of% @Try.lenK82 :=
  ⟨@Try.callable50, @Try.callable51, @Try.callable52, @Try.callable53, @Try.callable54, @Try.callable55, @Try.callable56, @Try.callable57, @Try.callable58, @Try.callable59, @Try.callable60, @Try.callable61, @Try.callable62, @Try.callable63, @Try.callable64, @Try.callable65, @Try.mixed, @Try.isb4, @Try.lenK9, @Try.lenK10, @Try.lenK11, @Try.arrI22, @Try.arrI23, @Try.lenK25, @Try.lenK28, @Try.arrN48, @Try.fds48, @Try.arrN49, @Try.fds49, @Try.arrI77, @Try.lenK82⟩
/-- All of them, under one name. -/
theorem Try.facts : type_of% @Try.facts0 ∧ type_of% @Try.facts1 ∧ type_of% @Try.facts2 ∧ type_of% @Try.facts3 ∧ type_of% @Try.facts4 ∧ type_of% @Try.facts5 ∧ type_of% @Try.facts6 ∧ type_of% @Try.facts7 :=
  ⟨@Try.facts0, @Try.facts1, @Try.facts2, @Try.facts3, @Try.facts4, @Try.facts5, @Try.facts6, @Try.facts7⟩
end Go.Proofs.Ytikibkboebbdjaa
