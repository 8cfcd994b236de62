/-
  Closed facts on the tables of this seat's program, each by the kernel (made by program from the translation: wip/lib/facts.py).
-/
import Derived.Test.YtdhkpdakialkbaaVcgQ0
import Derived.Test.YtdhkpdakialkbaaVcgC
import Derived.Test.YtdhkpdakialkbaaProg
import Derived.KernelRfl
set_option linter.unusedVariables false
set_option linter.unusedSimpArgs false
namespace Go.Proofs.Ytdhkpdakialkbaa
open Go.Vcg
instance : Vcg.Tables Try.prog := ⟨fun _ => none⟩
theorem Try.ty2 : tyOf Try.prog 2 = some (false, 1) := by kernel_rfl
theorem Try.kind2 : kindOf Try.prog 2 = some IntKind.i64 := by kernel_rfl
theorem Try.zero2 : zeroOf Try.prog 2 = some ([Value.int IntKind.i64 0]) := by kernel_rfl
theorem Try.ty3 : tyOf Try.prog 3 = some (false, 1) := by kernel_rfl
theorem Try.kind3 : kindOf Try.prog 3 = some IntKind.i64 := by kernel_rfl
theorem Try.zero3 : zeroOf Try.prog 3 = some ([Value.int IntKind.i64 0]) := by kernel_rfl
theorem Try.ty4 : tyOf Try.prog 4 = some (false, 1) := by kernel_rfl
theorem Try.zero4 : zeroOf Try.prog 4 = some ([Value.bool false]) := by kernel_rfl
theorem Try.ty5 : tyOf Try.prog 5 = some (false, 1) := by kernel_rfl
theorem Try.kind5 : kindOf Try.prog 5 = some IntKind.u8 := by kernel_rfl
theorem Try.zero5 : zeroOf Try.prog 5 = some ([Value.int IntKind.u8 0]) := by kernel_rfl
theorem Try.ty6 : tyOf Try.prog 6 = some (false, 1) := by kernel_rfl
theorem Try.kind6 : kindOf Try.prog 6 = some IntKind.u8 := by kernel_rfl
theorem Try.zero6 : zeroOf Try.prog 6 = some ([Value.int IntKind.u8 0]) := by kernel_rfl
theorem Try.ty7 : tyOf Try.prog 7 = some (true, 4) := by kernel_rfl
theorem Try.zero7 : zeroOf Try.prog 7 = some ([Value.int IntKind.i64 0, Value.int IntKind.i64 0, Value.bool false, Value.int IntKind.u8 0]) := by kernel_rfl
theorem Try.blank7 : blankOf Try.prog 7 = some ([Sum.inl (Value.int IntKind.i64 0), Sum.inl (Value.int IntKind.i64 0), Sum.inl (Value.bool false), Sum.inl (Value.int IntKind.u8 0)]) := by kernel_rfl
theorem Try.fld7_0 : fieldOf Try.prog 7 0 = some (0, false, 1) := by kernel_rfl
theorem Try.place7_0 : placeOf Try.prog 7 0 = some (0, 1) := by kernel_rfl
theorem Try.fld7_1 : fieldOf Try.prog 7 1 = some (1, false, 1) := by kernel_rfl
theorem Try.place7_1 : placeOf Try.prog 7 1 = some (1, 1) := by kernel_rfl
theorem Try.fld7_2 : fieldOf Try.prog 7 2 = some (2, false, 1) := by kernel_rfl
theorem Try.place7_2 : placeOf Try.prog 7 2 = some (2, 1) := by kernel_rfl
theorem Try.fld7_3 : fieldOf Try.prog 7 3 = some (3, false, 1) := by kernel_rfl
theorem Try.place7_3 : placeOf Try.prog 7 3 = some (3, 1) := by kernel_rfl
theorem Try.ty8 : tyOf Try.prog 8 = some (true, 4) := by kernel_rfl
theorem Try.zero8 : zeroOf Try.prog 8 = some ([Value.int IntKind.i64 0, Value.int IntKind.i64 0, Value.bool false, Value.int IntKind.u8 0]) := by kernel_rfl
theorem Try.blank8 : blankOf Try.prog 8 = some ([Sum.inl (Value.int IntKind.i64 0), Sum.inl (Value.int IntKind.i64 0), Sum.inl (Value.bool false), Sum.inl (Value.int IntKind.u8 0)]) := by kernel_rfl
theorem Try.fld8_0 : fieldOf Try.prog 8 0 = some (0, false, 1) := by kernel_rfl
theorem Try.place8_0 : placeOf Try.prog 8 0 = some (0, 1) := by kernel_rfl
theorem Try.fld8_1 : fieldOf Try.prog 8 1 = some (1, false, 1) := by kernel_rfl
theorem Try.place8_1 : placeOf Try.prog 8 1 = some (1, 1) := by kernel_rfl
theorem Try.fld8_2 : fieldOf Try.prog 8 2 = some (2, false, 1) := by kernel_rfl
theorem Try.place8_2 : placeOf Try.prog 8 2 = some (2, 1) := by kernel_rfl
theorem Try.fld8_3 : fieldOf Try.prog 8 3 = some (3, false, 1) := by kernel_rfl
theorem Try.place8_3 : placeOf Try.prog 8 3 = some (3, 1) := by kernel_rfl
theorem Try.ty9 : tyOf Try.prog 9 = some (false, 1) := by kernel_rfl
theorem Try.zero9 : zeroOf Try.prog 9 = some ([Value.string ByteArray.empty]) := by kernel_rfl
theorem Try.ty10 : tyOf Try.prog 10 = some (false, 1) := by kernel_rfl
theorem Try.zero10 : zeroOf Try.prog 10 = some ([Value.string ByteArray.empty]) := by kernel_rfl
theorem Try.ty11 : tyOf Try.prog 11 = some (false, 1) := by kernel_rfl
theorem Try.zero11 : zeroOf Try.prog 11 = some ([Value.string ByteArray.empty]) := by kernel_rfl
theorem Try.ty12 : tyOf Try.prog 12 = some (false, 1) := by kernel_rfl
theorem Try.kind12 : kindOf Try.prog 12 = some IntKind.u64 := by kernel_rfl
theorem Try.zero12 : zeroOf Try.prog 12 = some ([Value.int IntKind.u64 0]) := by kernel_rfl
theorem Try.ty13 : tyOf Try.prog 13 = some (true, 2) := by kernel_rfl
theorem Try.zero13 : zeroOf Try.prog 13 = some ([Value.string ByteArray.empty, Value.int IntKind.u64 0]) := by kernel_rfl
theorem Try.blank13 : blankOf Try.prog 13 = some ([Sum.inl (Value.string ByteArray.empty), Sum.inl (Value.int IntKind.u64 0)]) := by kernel_rfl
theorem Try.fld13_0 : fieldOf Try.prog 13 0 = some (0, false, 1) := by kernel_rfl
theorem Try.place13_0 : placeOf Try.prog 13 0 = some (0, 1) := by kernel_rfl
theorem Try.fld13_1 : fieldOf Try.prog 13 1 = some (1, false, 1) := by kernel_rfl
theorem Try.place13_1 : placeOf Try.prog 13 1 = some (1, 1) := by kernel_rfl
theorem Try.ty14 : tyOf Try.prog 14 = some (true, 2) := by kernel_rfl
theorem Try.zero14 : zeroOf Try.prog 14 = some ([Value.string ByteArray.empty, Value.int IntKind.u64 0]) := by kernel_rfl
theorem Try.blank14 : blankOf Try.prog 14 = some ([Sum.inl (Value.string ByteArray.empty), Sum.inl (Value.int IntKind.u64 0)]) := by kernel_rfl
theorem Try.fld14_0 : fieldOf Try.prog 14 0 = some (0, false, 1) := by kernel_rfl
theorem Try.place14_0 : placeOf Try.prog 14 0 = some (0, 1) := by kernel_rfl
theorem Try.fld14_1 : fieldOf Try.prog 14 1 = some (1, false, 1) := by kernel_rfl
theorem Try.place14_1 : placeOf Try.prog 14 1 = some (1, 1) := by kernel_rfl
theorem Try.ty15 : tyOf Try.prog 15 = some (false, 1) := by kernel_rfl
theorem Try.zero15 : zeroOf Try.prog 15 = some ([Value.pointer none]) := by kernel_rfl
theorem Try.ty16 : tyOf Try.prog 16 = some (false, 1) := by kernel_rfl
theorem Try.zero16 : zeroOf Try.prog 16 = some ([Value.pointer none]) := by kernel_rfl
theorem Try.ty17 : tyOf Try.prog 17 = some (false, 1) := by kernel_rfl
theorem Try.zero17 : zeroOf Try.prog 17 = some ([Value.pointer none]) := by kernel_rfl
theorem Try.ty18 : tyOf Try.prog 18 = some (true, 1) := by kernel_rfl
theorem Try.zero18 : zeroOf Try.prog 18 = some ([Value.pointer none]) := by kernel_rfl
theorem Try.blank18 : blankOf Try.prog 18 = some ([Sum.inl (Value.pointer none)]) := by kernel_rfl
theorem Try.fld18_0 : fieldOf Try.prog 18 0 = some (0, false, 1) := by kernel_rfl
theorem Try.place18_0 : placeOf Try.prog 18 0 = some (0, 1) := by kernel_rfl
theorem Try.ty19 : tyOf Try.prog 19 = some (true, 1) := by kernel_rfl
theorem Try.zero19 : zeroOf Try.prog 19 = some ([Value.pointer none]) := by kernel_rfl
theorem Try.blank19 : blankOf Try.prog 19 = some ([Sum.inl (Value.pointer none)]) := by kernel_rfl
theorem Try.fld19_0 : fieldOf Try.prog 19 0 = some (0, false, 1) := by kernel_rfl
theorem Try.place19_0 : placeOf Try.prog 19 0 = some (0, 1) := by kernel_rfl
theorem Try.ty21 : tyOf Try.prog 21 = some (false, 1) := by kernel_rfl
theorem Try.kind21 : kindOf Try.prog 21 = some IntKind.i32 := by kernel_rfl
theorem Try.zero21 : zeroOf Try.prog 21 = some ([Value.int IntKind.i32 0]) := by kernel_rfl
theorem Try.ty22 : tyOf Try.prog 22 = some (true, 32) := by kernel_rfl
theorem Try.arr22 : arrOf Try.prog 22 = some (32, 1) := by kernel_rfl
theorem Try.el22 : arrEl Try.prog 22 = some (32, false, 1) := by kernel_rfl
theorem Try.slK22 : slK Try.prog 22 = some (some 32, 1) := by kernel_rfl
theorem Try.zero22 : zeroOf Try.prog 22 = some (List.replicate 32 (Value.int IntKind.u8 0)) := by kernel_rfl
theorem Try.blank22 : blankOf Try.prog 22 = some (List.replicate 32 (Sum.inl (Value.int IntKind.u8 0))) := by kernel_rfl
theorem Try.place22 (i : Nat) : placeOf Try.prog 22 i = some (i * 1, 1) := by unfold placeOf; rw [Try.arr22]
theorem Try.ty23 : tyOf Try.prog 23 = some (true, 32) := by kernel_rfl
theorem Try.arr23 : arrOf Try.prog 23 = some (32, 1) := by kernel_rfl
theorem Try.el23 : arrEl Try.prog 23 = some (32, false, 1) := by kernel_rfl
theorem Try.slK23 : slK Try.prog 23 = some (some 32, 1) := by kernel_rfl
theorem Try.zero23 : zeroOf Try.prog 23 = some (List.replicate 32 (Value.int IntKind.u8 0)) := by kernel_rfl
theorem Try.blank23 : blankOf Try.prog 23 = some (List.replicate 32 (Sum.inl (Value.int IntKind.u8 0))) := by kernel_rfl
theorem Try.place23 (i : Nat) : placeOf Try.prog 23 i = some (i * 1, 1) := by unfold placeOf; rw [Try.arr23]
theorem Try.ty24 : tyOf Try.prog 24 = some (false, 1) := by kernel_rfl
theorem Try.kind24 : kindOf Try.prog 24 = some IntKind.u32 := by kernel_rfl
theorem Try.zero24 : zeroOf Try.prog 24 = some ([Value.int IntKind.u32 0]) := by kernel_rfl
theorem Try.ty25 : tyOf Try.prog 25 = some (true, 34) := by kernel_rfl
theorem Try.zero25 : zeroOf Try.prog 25 = some (List.replicate 32 (Value.int IntKind.u8 0) ++ List.replicate 2 (Value.int IntKind.u32 0)) := by kernel_rfl
theorem Try.blank25 : blankOf Try.prog 25 = some (List.replicate 32 (Sum.inl (Value.int IntKind.u8 0)) ++ List.replicate 2 (Sum.inl (Value.int IntKind.u32 0))) := by kernel_rfl
theorem Try.fld25_0 : fieldOf Try.prog 25 0 = some (0, true, 32) := by kernel_rfl
theorem Try.place25_0 : placeOf Try.prog 25 0 = some (0, 32) := by kernel_rfl
theorem Try.fld25_1 : fieldOf Try.prog 25 1 = some (32, false, 1) := by kernel_rfl
theorem Try.place25_1 : placeOf Try.prog 25 1 = some (32, 1) := by kernel_rfl
theorem Try.fld25_2 : fieldOf Try.prog 25 2 = some (33, false, 1) := by kernel_rfl
theorem Try.place25_2 : placeOf Try.prog 25 2 = some (33, 1) := by kernel_rfl
theorem Try.ty26 : tyOf Try.prog 26 = some (true, 34) := by kernel_rfl
theorem Try.zero26 : zeroOf Try.prog 26 = some (List.replicate 32 (Value.int IntKind.u8 0) ++ List.replicate 2 (Value.int IntKind.u32 0)) := by kernel_rfl
theorem Try.blank26 : blankOf Try.prog 26 = some (List.replicate 32 (Sum.inl (Value.int IntKind.u8 0)) ++ List.replicate 2 (Sum.inl (Value.int IntKind.u32 0))) := by kernel_rfl
theorem Try.fld26_0 : fieldOf Try.prog 26 0 = some (0, true, 32) := by kernel_rfl
theorem Try.place26_0 : placeOf Try.prog 26 0 = some (0, 32) := by kernel_rfl
theorem Try.fld26_1 : fieldOf Try.prog 26 1 = some (32, false, 1) := by kernel_rfl
theorem Try.place26_1 : placeOf Try.prog 26 1 = some (32, 1) := by kernel_rfl
theorem Try.fld26_2 : fieldOf Try.prog 26 2 = some (33, false, 1) := by kernel_rfl
theorem Try.place26_2 : placeOf Try.prog 26 2 = some (33, 1) := by kernel_rfl
theorem Try.ty27 : tyOf Try.prog 27 = some (false, 1) := by kernel_rfl
theorem Try.sl27 : Vcg.elemOf Try.prog 27 = some 1 := by kernel_rfl
theorem Try.slK27 : slK Try.prog 27 = some (none, 1) := by kernel_rfl
theorem Try.byt27 : bytK Try.prog 27 = true := by kernel_rfl
theorem Try.mkK27 : mkK Try.prog 27 = some ([Value.int IntKind.u8 0], 1, 1) := by kernel_rfl
theorem Try.zero27 : zeroOf Try.prog 27 = some ([Value.slice none 0 0]) := by kernel_rfl
theorem Try.ty28 : tyOf Try.prog 28 = some (true, 67) := by kernel_rfl
theorem Try.zero28 : zeroOf Try.prog 28 = some (List.replicate 32 (Value.int IntKind.u8 0) ++ List.replicate 2 (Value.int IntKind.u32 0) ++ List.replicate 1 (Value.slice none 0 0) ++ List.replicate 32 (Value.int IntKind.u8 0)) := by kernel_rfl
theorem Try.blank28 : blankOf Try.prog 28 = some (List.replicate 32 (Sum.inl (Value.int IntKind.u8 0)) ++ List.replicate 2 (Sum.inl (Value.int IntKind.u32 0)) ++ List.replicate 1 (Sum.inl (Value.slice none 0 0)) ++ List.replicate 32 (Sum.inl (Value.int IntKind.u8 0))) := by kernel_rfl
theorem Try.fld28_0 : fieldOf Try.prog 28 0 = some (0, true, 34) := by kernel_rfl
theorem Try.place28_0 : placeOf Try.prog 28 0 = some (0, 34) := by kernel_rfl
theorem Try.fld28_1 : fieldOf Try.prog 28 1 = some (34, false, 1) := by kernel_rfl
theorem Try.place28_1 : placeOf Try.prog 28 1 = some (34, 1) := by kernel_rfl
theorem Try.fld28_2 : fieldOf Try.prog 28 2 = some (35, true, 32) := by kernel_rfl
theorem Try.place28_2 : placeOf Try.prog 28 2 = some (35, 32) := by kernel_rfl
theorem Try.ty29 : tyOf Try.prog 29 = some (true, 67) := by kernel_rfl
theorem Try.zero29 : zeroOf Try.prog 29 = some (List.replicate 32 (Value.int IntKind.u8 0) ++ List.replicate 2 (Value.int IntKind.u32 0) ++ List.replicate 1 (Value.slice none 0 0) ++ List.replicate 32 (Value.int IntKind.u8 0)) := by kernel_rfl
theorem Try.blank29 : blankOf Try.prog 29 = some (List.replicate 32 (Sum.inl (Value.int IntKind.u8 0)) ++ List.replicate 2 (Sum.inl (Value.int IntKind.u32 0)) ++ List.replicate 1 (Sum.inl (Value.slice none 0 0)) ++ List.replicate 32 (Sum.inl (Value.int IntKind.u8 0))) := by kernel_rfl
theorem Try.fld29_0 : fieldOf Try.prog 29 0 = some (0, true, 34) := by kernel_rfl
theorem Try.place29_0 : placeOf Try.prog 29 0 = some (0, 34) := by kernel_rfl
theorem Try.fld29_1 : fieldOf Try.prog 29 1 = some (34, false, 1) := by kernel_rfl
theorem Try.place29_1 : placeOf Try.prog 29 1 = some (34, 1) := by kernel_rfl
theorem Try.fld29_2 : fieldOf Try.prog 29 2 = some (35, true, 32) := by kernel_rfl
theorem Try.place29_2 : placeOf Try.prog 29 2 = some (35, 32) := by kernel_rfl
theorem Try.ty30 : tyOf Try.prog 30 = some (true, 2) := by kernel_rfl
theorem Try.zero30 : zeroOf Try.prog 30 = some ([Value.slice none 0 0, Value.int IntKind.i64 0]) := by kernel_rfl
theorem Try.blank30 : blankOf Try.prog 30 = some ([Sum.inl (Value.slice none 0 0), Sum.inl (Value.int IntKind.i64 0)]) := by kernel_rfl
theorem Try.fld30_0 : fieldOf Try.prog 30 0 = some (0, false, 1) := by kernel_rfl
theorem Try.place30_0 : placeOf Try.prog 30 0 = some (0, 1) := by kernel_rfl
theorem Try.fld30_1 : fieldOf Try.prog 30 1 = some (1, false, 1) := by kernel_rfl
theorem Try.place30_1 : placeOf Try.prog 30 1 = some (1, 1) := by kernel_rfl
theorem Try.ty31 : tyOf Try.prog 31 = some (true, 2) := by kernel_rfl
theorem Try.zero31 : zeroOf Try.prog 31 = some ([Value.slice none 0 0, Value.int IntKind.i64 0]) := by kernel_rfl
theorem Try.blank31 : blankOf Try.prog 31 = some ([Sum.inl (Value.slice none 0 0), Sum.inl (Value.int IntKind.i64 0)]) := by kernel_rfl
theorem Try.fld31_0 : fieldOf Try.prog 31 0 = some (0, false, 1) := by kernel_rfl
theorem Try.place31_0 : placeOf Try.prog 31 0 = some (0, 1) := by kernel_rfl
theorem Try.fld31_1 : fieldOf Try.prog 31 1 = some (1, false, 1) := by kernel_rfl
theorem Try.place31_1 : placeOf Try.prog 31 1 = some (1, 1) := by kernel_rfl
theorem Try.ty39 : tyOf Try.prog 39 = some (false, 1) := by kernel_rfl
theorem Try.kind39 : kindOf Try.prog 39 = some IntKind.u64 := by kernel_rfl
theorem Try.zero39 : zeroOf Try.prog 39 = some ([Value.int IntKind.u64 0]) := by kernel_rfl
theorem Try.ty50 : tyOf Try.prog 50 = some (true, 1) := by kernel_rfl
theorem Try.zero50 : zeroOf Try.prog 50 = some ([Value.slice none 0 0]) := by kernel_rfl
theorem Try.blank50 : blankOf Try.prog 50 = some ([Sum.inl (Value.slice none 0 0)]) := by kernel_rfl
theorem Try.fld50_0 : fieldOf Try.prog 50 0 = some (0, false, 1) := by kernel_rfl
theorem Try.place50_0 : placeOf Try.prog 50 0 = some (0, 1) := by kernel_rfl
theorem Try.ty51 : tyOf Try.prog 51 = some (true, 1) := by kernel_rfl
theorem Try.zero51 : zeroOf Try.prog 51 = some ([Value.slice none 0 0]) := by kernel_rfl
theorem Try.blank51 : blankOf Try.prog 51 = some ([Sum.inl (Value.slice none 0 0)]) := by kernel_rfl
theorem Try.fld51_0 : fieldOf Try.prog 51 0 = some (0, false, 1) := by kernel_rfl
theorem Try.place51_0 : placeOf Try.prog 51 0 = some (0, 1) := by kernel_rfl
theorem Try.ty55 : tyOf Try.prog 55 = some (false, 1) := by kernel_rfl
theorem Try.kind55 : kindOf Try.prog 55 = some IntKind.u64 := by kernel_rfl
theorem Try.zero55 : zeroOf Try.prog 55 = some ([Value.int IntKind.u64 0]) := by kernel_rfl
theorem Try.ty56 : tyOf Try.prog 56 = some (false, 1) := by kernel_rfl
theorem Try.zero56 : zeroOf Try.prog 56 = some ([Value.pointer none]) := by kernel_rfl
theorem Try.ty58 : tyOf Try.prog 58 = some (true, 4) := by kernel_rfl
theorem Try.zero58 : zeroOf Try.prog 58 = some ([Value.pointer none, Value.pointer none, Value.pointer none, Value.string ByteArray.empty]) := by kernel_rfl
theorem Try.blank58 : blankOf Try.prog 58 = some ([Sum.inl (Value.pointer none), Sum.inl (Value.pointer none), Sum.inl (Value.pointer none), Sum.inl (Value.string ByteArray.empty)]) := by kernel_rfl
theorem Try.fld58_0 : fieldOf Try.prog 58 0 = some (0, false, 1) := by kernel_rfl
theorem Try.place58_0 : placeOf Try.prog 58 0 = some (0, 1) := by kernel_rfl
theorem Try.fld58_1 : fieldOf Try.prog 58 1 = some (1, false, 1) := by kernel_rfl
theorem Try.place58_1 : placeOf Try.prog 58 1 = some (1, 1) := by kernel_rfl
theorem Try.fld58_2 : fieldOf Try.prog 58 2 = some (2, false, 1) := by kernel_rfl
theorem Try.place58_2 : placeOf Try.prog 58 2 = some (2, 1) := by kernel_rfl
theorem Try.fld58_3 : fieldOf Try.prog 58 3 = some (3, false, 1) := by kernel_rfl
theorem Try.place58_3 : placeOf Try.prog 58 3 = some (3, 1) := by kernel_rfl
theorem Try.ty59 : tyOf Try.prog 59 = some (true, 4) := by kernel_rfl
theorem Try.zero59 : zeroOf Try.prog 59 = some ([Value.pointer none, Value.pointer none, Value.pointer none, Value.string ByteArray.empty]) := by kernel_rfl
theorem Try.blank59 : blankOf Try.prog 59 = some ([Sum.inl (Value.pointer none), Sum.inl (Value.pointer none), Sum.inl (Value.pointer none), Sum.inl (Value.string ByteArray.empty)]) := by kernel_rfl
theorem Try.fld59_0 : fieldOf Try.prog 59 0 = some (0, false, 1) := by kernel_rfl
theorem Try.place59_0 : placeOf Try.prog 59 0 = some (0, 1) := by kernel_rfl
theorem Try.fld59_1 : fieldOf Try.prog 59 1 = some (1, false, 1) := by kernel_rfl
theorem Try.place59_1 : placeOf Try.prog 59 1 = some (1, 1) := by kernel_rfl
theorem Try.fld59_2 : fieldOf Try.prog 59 2 = some (2, false, 1) := by kernel_rfl
theorem Try.place59_2 : placeOf Try.prog 59 2 = some (2, 1) := by kernel_rfl
theorem Try.fld59_3 : fieldOf Try.prog 59 3 = some (3, false, 1) := by kernel_rfl
theorem Try.place59_3 : placeOf Try.prog 59 3 = some (3, 1) := by kernel_rfl
theorem Try.ty64 : tyOf Try.prog 64 = some (false, 1) := by kernel_rfl
theorem Try.kind64 : kindOf Try.prog 64 = some IntKind.u8 := by kernel_rfl
theorem Try.zero64 : zeroOf Try.prog 64 = some ([Value.int IntKind.u8 0]) := by kernel_rfl
theorem Try.ty65 : tyOf Try.prog 65 = some (false, 1) := by kernel_rfl
theorem Try.kind65 : kindOf Try.prog 65 = some IntKind.u8 := by kernel_rfl
theorem Try.zero65 : zeroOf Try.prog 65 = some ([Value.int IntKind.u8 0]) := by kernel_rfl
theorem Try.ty67 : tyOf Try.prog 67 = some (false, 1) := by kernel_rfl
theorem Try.zero67 : zeroOf Try.prog 67 = some ([Value.pointer none]) := by kernel_rfl
theorem Try.ty68 : tyOf Try.prog 68 = some (false, 1) := by kernel_rfl
theorem Try.kind68 : kindOf Try.prog 68 = some IntKind.i32 := by kernel_rfl
theorem Try.zero68 : zeroOf Try.prog 68 = some ([Value.int IntKind.i32 0]) := by kernel_rfl
theorem Try.ty69 : tyOf Try.prog 69 = some (false, 1) := by kernel_rfl
theorem Try.kind69 : kindOf Try.prog 69 = some IntKind.i32 := by kernel_rfl
theorem Try.zero69 : zeroOf Try.prog 69 = some ([Value.int IntKind.i32 0]) := by kernel_rfl
theorem Try.ty70 : tyOf Try.prog 70 = some (true, 11) := by kernel_rfl
theorem Try.zero70 : zeroOf Try.prog 70 = some ([Value.int IntKind.u64 0, Value.int IntKind.u64 0, Value.int IntKind.u32 0, Value.int IntKind.u8 0, Value.int IntKind.u8 0, Value.int IntKind.u8 0, Value.int IntKind.u8 0, Value.nilFunc, Value.pointer none, Value.int IntKind.i32 0, Value.int IntKind.i32 0]) := by kernel_rfl
theorem Try.blank70 : blankOf Try.prog 70 = some ([Sum.inl (Value.int IntKind.u64 0), Sum.inl (Value.int IntKind.u64 0), Sum.inl (Value.int IntKind.u32 0), Sum.inl (Value.int IntKind.u8 0), Sum.inl (Value.int IntKind.u8 0), Sum.inl (Value.int IntKind.u8 0), Sum.inl (Value.int IntKind.u8 0), Sum.inl (Value.nilFunc), Sum.inl (Value.pointer none), Sum.inl (Value.int IntKind.i32 0), Sum.inl (Value.int IntKind.i32 0)]) := by kernel_rfl
theorem Try.fld70_0 : fieldOf Try.prog 70 0 = some (0, false, 1) := by kernel_rfl
theorem Try.place70_0 : placeOf Try.prog 70 0 = some (0, 1) := by kernel_rfl
theorem Try.fld70_1 : fieldOf Try.prog 70 1 = some (1, false, 1) := by kernel_rfl
theorem Try.place70_1 : placeOf Try.prog 70 1 = some (1, 1) := by kernel_rfl
theorem Try.fld70_2 : fieldOf Try.prog 70 2 = some (2, false, 1) := by kernel_rfl
theorem Try.place70_2 : placeOf Try.prog 70 2 = some (2, 1) := by kernel_rfl
theorem Try.fld70_3 : fieldOf Try.prog 70 3 = some (3, false, 1) := by kernel_rfl
theorem Try.place70_3 : placeOf Try.prog 70 3 = some (3, 1) := by kernel_rfl
theorem Try.fld70_4 : fieldOf Try.prog 70 4 = some (4, false, 1) := by kernel_rfl
theorem Try.place70_4 : placeOf Try.prog 70 4 = some (4, 1) := by kernel_rfl
theorem Try.fld70_5 : fieldOf Try.prog 70 5 = some (5, false, 1) := by kernel_rfl
theorem Try.place70_5 : placeOf Try.prog 70 5 = some (5, 1) := by kernel_rfl
theorem Try.fld70_6 : fieldOf Try.prog 70 6 = some (6, false, 1) := by kernel_rfl
theorem Try.place70_6 : placeOf Try.prog 70 6 = some (6, 1) := by kernel_rfl
theorem Try.fld70_7 : fieldOf Try.prog 70 7 = some (7, false, 1) := by kernel_rfl
theorem Try.place70_7 : placeOf Try.prog 70 7 = some (7, 1) := by kernel_rfl
theorem Try.fld70_8 : fieldOf Try.prog 70 8 = some (8, false, 1) := by kernel_rfl
theorem Try.place70_8 : placeOf Try.prog 70 8 = some (8, 1) := by kernel_rfl
theorem Try.fld70_9 : fieldOf Try.prog 70 9 = some (9, false, 1) := by kernel_rfl
theorem Try.place70_9 : placeOf Try.prog 70 9 = some (9, 1) := by kernel_rfl
theorem Try.fld70_10 : fieldOf Try.prog 70 10 = some (10, false, 1) := by kernel_rfl
theorem Try.place70_10 : placeOf Try.prog 70 10 = some (10, 1) := by kernel_rfl
theorem Try.ty71 : tyOf Try.prog 71 = some (true, 11) := by kernel_rfl
theorem Try.zero71 : zeroOf Try.prog 71 = some ([Value.int IntKind.u64 0, Value.int IntKind.u64 0, Value.int IntKind.u32 0, Value.int IntKind.u8 0, Value.int IntKind.u8 0, Value.int IntKind.u8 0, Value.int IntKind.u8 0, Value.nilFunc, Value.pointer none, Value.int IntKind.i32 0, Value.int IntKind.i32 0]) := by kernel_rfl
theorem Try.blank71 : blankOf Try.prog 71 = some ([Sum.inl (Value.int IntKind.u64 0), Sum.inl (Value.int IntKind.u64 0), Sum.inl (Value.int IntKind.u32 0), Sum.inl (Value.int IntKind.u8 0), Sum.inl (Value.int IntKind.u8 0), Sum.inl (Value.int IntKind.u8 0), Sum.inl (Value.int IntKind.u8 0), Sum.inl (Value.nilFunc), Sum.inl (Value.pointer none), Sum.inl (Value.int IntKind.i32 0), Sum.inl (Value.int IntKind.i32 0)]) := by kernel_rfl
theorem Try.fld71_0 : fieldOf Try.prog 71 0 = some (0, false, 1) := by kernel_rfl
theorem Try.place71_0 : placeOf Try.prog 71 0 = some (0, 1) := by kernel_rfl
theorem Try.fld71_1 : fieldOf Try.prog 71 1 = some (1, false, 1) := by kernel_rfl
theorem Try.place71_1 : placeOf Try.prog 71 1 = some (1, 1) := by kernel_rfl
theorem Try.fld71_2 : fieldOf Try.prog 71 2 = some (2, false, 1) := by kernel_rfl
theorem Try.place71_2 : placeOf Try.prog 71 2 = some (2, 1) := by kernel_rfl
theorem Try.fld71_3 : fieldOf Try.prog 71 3 = some (3, false, 1) := by kernel_rfl
theorem Try.place71_3 : placeOf Try.prog 71 3 = some (3, 1) := by kernel_rfl
theorem Try.fld71_4 : fieldOf Try.prog 71 4 = some (4, false, 1) := by kernel_rfl
theorem Try.place71_4 : placeOf Try.prog 71 4 = some (4, 1) := by kernel_rfl
theorem Try.fld71_5 : fieldOf Try.prog 71 5 = some (5, false, 1) := by kernel_rfl
theorem Try.place71_5 : placeOf Try.prog 71 5 = some (5, 1) := by kernel_rfl
theorem Try.fld71_6 : fieldOf Try.prog 71 6 = some (6, false, 1) := by kernel_rfl
theorem Try.place71_6 : placeOf Try.prog 71 6 = some (6, 1) := by kernel_rfl
theorem Try.fld71_7 : fieldOf Try.prog 71 7 = some (7, false, 1) := by kernel_rfl
theorem Try.place71_7 : placeOf Try.prog 71 7 = some (7, 1) := by kernel_rfl
theorem Try.fld71_8 : fieldOf Try.prog 71 8 = some (8, false, 1) := by kernel_rfl
theorem Try.place71_8 : placeOf Try.prog 71 8 = some (8, 1) := by kernel_rfl
theorem Try.fld71_9 : fieldOf Try.prog 71 9 = some (9, false, 1) := by kernel_rfl
theorem Try.place71_9 : placeOf Try.prog 71 9 = some (9, 1) := by kernel_rfl
theorem Try.fld71_10 : fieldOf Try.prog 71 10 = some (10, false, 1) := by kernel_rfl
theorem Try.place71_10 : placeOf Try.prog 71 10 = some (10, 1) := by kernel_rfl
theorem Try.callable3 : callable Try.prog 3 = true := by kernel_rfl
theorem Try.callable4 : callable Try.prog 4 = true := by kernel_rfl
theorem Try.callable5 : callable Try.prog 5 = true := by kernel_rfl
theorem Try.callable6 : callable Try.prog 6 = true := by kernel_rfl
theorem Try.callable7 : callable Try.prog 7 = true := by kernel_rfl
theorem Try.callable8 : callable Try.prog 8 = true := by kernel_rfl
theorem Try.callable9 : callable Try.prog 9 = true := by kernel_rfl
theorem Try.callable10 : callable Try.prog 10 = true := by kernel_rfl
theorem Try.callable11 : callable Try.prog 11 = true := by kernel_rfl
theorem Try.callable12 : callable Try.prog 12 = true := by kernel_rfl
theorem Try.callable13 : callable Try.prog 13 = true := by kernel_rfl
theorem Try.callable14 : callable Try.prog 14 = true := by kernel_rfl
theorem Try.callable15 : callable Try.prog 15 = true := by kernel_rfl
theorem Try.callable16 : callable Try.prog 16 = true := by kernel_rfl
theorem Try.callable17 : callable Try.prog 17 = true := by kernel_rfl
theorem Try.callable18 : callable Try.prog 18 = true := by kernel_rfl
theorem Try.callable19 : callable Try.prog 19 = true := by kernel_rfl
theorem Try.callable20 : callable Try.prog 20 = true := by kernel_rfl
theorem Try.callable21 : callable Try.prog 21 = true := by kernel_rfl
theorem Try.callable22 : callable Try.prog 22 = true := by kernel_rfl
theorem Try.callable23 : callable Try.prog 23 = true := by kernel_rfl
theorem Try.callable24 : callable Try.prog 24 = false := by kernel_rfl
theorem Try.callable25 : callable Try.prog 25 = false := by kernel_rfl
theorem Try.callable26 : callable Try.prog 26 = false := by kernel_rfl
theorem Try.callable27 : callable Try.prog 27 = false := by kernel_rfl
theorem Try.callable28 : callable Try.prog 28 = false := by kernel_rfl
theorem Try.callable29 : callable Try.prog 29 = false := by kernel_rfl
theorem Try.callable30 : callable Try.prog 30 = false := by kernel_rfl
theorem Try.callable31 : callable Try.prog 31 = false := by kernel_rfl
theorem Try.callable32 : callable Try.prog 32 = false := by kernel_rfl
theorem Try.callable33 : callable Try.prog 33 = false := by kernel_rfl
theorem Try.callable34 : callable Try.prog 34 = false := by kernel_rfl
theorem Try.callable35 : callable Try.prog 35 = false := by kernel_rfl
theorem Try.callable36 : callable Try.prog 36 = false := by kernel_rfl
theorem Try.callable37 : callable Try.prog 37 = false := by kernel_rfl
theorem Try.callable38 : callable Try.prog 38 = false := by kernel_rfl
theorem Try.callable39 : callable Try.prog 39 = false := by kernel_rfl
theorem Try.mixed : Try.prog.follows .mixedOrders = true := by kernel_rfl
theorem Try.isb4 : isBool Try.prog 4 = true := by kernel_rfl
theorem Try.lenK9 : lenK Try.prog [9] = 2 := by kernel_rfl
theorem Try.lenK10 : lenK Try.prog [10] = 2 := by kernel_rfl
theorem Try.lenK11 : lenK Try.prog [11] = 2 := by kernel_rfl
theorem Try.arrI22 : arrIntOf Try.prog 22 = some (32, IntKind.u8) := by kernel_rfl
theorem Try.arrI23 : arrIntOf Try.prog 23 = some (32, IntKind.u8) := by kernel_rfl
theorem Try.arrN25 : arrIntOf Try.prog 25 = none := by kernel_rfl
theorem Try.fds25 : fdsOf Try.prog 25 = some [(0, 32, IntKind.u8), (32, 1, IntKind.u32), (33, 1, IntKind.u32)] := by kernel_rfl
theorem Try.arrN26 : arrIntOf Try.prog 26 = none := by kernel_rfl
theorem Try.fds26 : fdsOf Try.prog 26 = some [(0, 32, IntKind.u8), (32, 1, IntKind.u32), (33, 1, IntKind.u32)] := by kernel_rfl
theorem Try.lenK27 : lenK Try.prog [27] = 1 := by kernel_rfl
theorem Try.facts0 : type_of% @Try.ty2 ∧ type_of% @Try.kind2 ∧ type_of% @Try.zero2 ∧ type_of% @Try.ty3 ∧ type_of% @Try.kind3 ∧ type_of% @Try.zero3 ∧ type_of% @Try.ty4 ∧ type_of% @Try.zero4 ∧ type_of% @Try.ty5 ∧ type_of% @Try.kind5 ∧ type_of% @Try.zero5 ∧ type_of% @Try.ty6 ∧ type_of% @Try.kind6 ∧ type_of% @Try.zero6 ∧ type_of% @Try.ty7 ∧ type_of% @Try.zero7 ∧ type_of% @Try.blank7 ∧ type_of% @Try.fld7_0 ∧ type_of% @Try.place7_0 ∧ type_of% @Try.fld7_1 ∧ type_of% @Try.place7_1 ∧ type_of% @Try.fld7_2 ∧ type_of% @Try.place7_2 ∧ type_of% @Try.fld7_3 ∧ type_of% @Try.place7_3 ∧ type_of% @Try.ty8 ∧ type_of% @Try.zero8 ∧ type_of% @Try.blank8 ∧ type_of% @Try.fld8_0 ∧ type_of% @Try.place8_0 ∧ type_of% @Try.fld8_1 ∧ type_of% @Try.place8_1 ∧ type_of% @Try.fld8_2 ∧ type_of% @Try.place8_2 ∧ type_of% @Try.fld8_3 ∧ type_of% @Try.place8_3 ∧ type_of% @Try.ty9 ∧ type_of% @Try.zero9 ∧ type_of% @Try.ty10 ∧ type_of% @Try.zero10 ∧ type_of% @Try.ty11 ∧ type_of% @Try.zero11 ∧ type_of% @Try.ty12 ∧ type_of% @Try.kind12 ∧ type_of% @Try.zero12 ∧ type_of% @Try.ty13 ∧ type_of% @Try.zero13 ∧ type_of% @Try.blank13 ∧ type_of% @Try.fld13_0 ∧ type_of% @Try.place13_0 ∧ type_of% @Try.fld13_1 ∧ type_of% @Try.place13_1 ∧ type_of% @Try.ty14 ∧ type_of% @Try.zero14 ∧ type_of% @Try.blank14 ∧ type_of% @Try.fld14_0 ∧ type_of% @Try.place14_0 ∧ type_of% @Try.fld14_1 ∧ type_of% @Try.place14_1 ∧ type_of% @Try.ty15 :=
  ⟨@Try.ty2, @Try.kind2, @Try.zero2, @Try.ty3, @Try.kind3, @Try.zero3, @Try.ty4, @Try.zero4, @Try.ty5, @Try.kind5, @Try.zero5, @Try.ty6, @Try.kind6, @Try.zero6, @Try.ty7, @Try.zero7, @Try.blank7, @Try.fld7_0, @Try.place7_0, @Try.fld7_1, @Try.place7_1, @Try.fld7_2, @Try.place7_2, @Try.fld7_3, @Try.place7_3, @Try.ty8, @Try.zero8, @Try.blank8, @Try.fld8_0, @Try.place8_0, @Try.fld8_1, @Try.place8_1, @Try.fld8_2, @Try.place8_2, @Try.fld8_3, @Try.place8_3, @Try.ty9, @Try.zero9, @Try.ty10, @Try.zero10, @Try.ty11, @Try.zero11, @Try.ty12, @Try.kind12, @Try.zero12, @Try.ty13, @Try.zero13, @Try.blank13, @Try.fld13_0, @Try.place13_0, @Try.fld13_1, @Try.place13_1, @Try.ty14, @Try.zero14, @Try.blank14, @Try.fld14_0, @Try.place14_0, @Try.fld14_1, @Try.place14_1, @Try.ty15⟩
theorem Try.facts1 : type_of% @Try.zero15 ∧ type_of% @Try.ty16 ∧ type_of% @Try.zero16 ∧ type_of% @Try.ty17 ∧ type_of% @Try.zero17 ∧ type_of% @Try.ty18 ∧ type_of% @Try.zero18 ∧ type_of% @Try.blank18 ∧ type_of% @Try.fld18_0 ∧ type_of% @Try.place18_0 ∧ type_of% @Try.ty19 ∧ type_of% @Try.zero19 ∧ type_of% @Try.blank19 ∧ type_of% @Try.fld19_0 ∧ type_of% @Try.place19_0 ∧ type_of% @Try.ty21 ∧ type_of% @Try.kind21 ∧ type_of% @Try.zero21 ∧ type_of% @Try.ty22 ∧ type_of% @Try.arr22 ∧ type_of% @Try.el22 ∧ type_of% @Try.slK22 ∧ type_of% @Try.zero22 ∧ type_of% @Try.blank22 ∧ type_of% @Try.place22 ∧ type_of% @Try.ty23 ∧ type_of% @Try.arr23 ∧ type_of% @Try.el23 ∧ type_of% @Try.slK23 ∧ type_of% @Try.zero23 ∧ type_of% @Try.blank23 ∧ type_of% @Try.place23 ∧ type_of% @Try.ty24 ∧ type_of% @Try.kind24 ∧ type_of% @Try.zero24 ∧ type_of% @Try.ty25 ∧ type_of% @Try.zero25 ∧ type_of% @Try.blank25 ∧ type_of% @Try.fld25_0 ∧ type_of% @Try.place25_0 ∧ type_of% @Try.fld25_1 ∧ type_of% @Try.place25_1 ∧ type_of% @Try.fld25_2 ∧ type_of% @Try.place25_2 ∧ type_of% @Try.ty26 ∧ type_of% @Try.zero26 ∧ type_of% @Try.blank26 ∧ type_of% @Try.fld26_0 ∧ type_of% @Try.place26_0 ∧ type_of% @Try.fld26_1 ∧ type_of% @Try.place26_1 ∧ type_of% @Try.fld26_2 ∧ type_of% @Try.place26_2 ∧ type_of% @Try.ty27 ∧ type_of% @Try.sl27 ∧ type_of% @Try.slK27 ∧ type_of% @Try.byt27 ∧ type_of% @Try.mkK27 ∧ type_of% @Try.zero27 ∧ type_of% @Try.ty28 :=
  ⟨@Try.zero15, @Try.ty16, @Try.zero16, @Try.ty17, @Try.zero17, @Try.ty18, @Try.zero18, @Try.blank18, @Try.fld18_0, @Try.place18_0, @Try.ty19, @Try.zero19, @Try.blank19, @Try.fld19_0, @Try.place19_0, @Try.ty21, @Try.kind21, @Try.zero21, @Try.ty22, @Try.arr22, @Try.el22, @Try.slK22, @Try.zero22, @Try.blank22, @Try.place22, @Try.ty23, @Try.arr23, @Try.el23, @Try.slK23, @Try.zero23, @Try.blank23, @Try.place23, @Try.ty24, @Try.kind24, @Try.zero24, @Try.ty25, @Try.zero25, @Try.blank25, @Try.fld25_0, @Try.place25_0, @Try.fld25_1, @Try.place25_1, @Try.fld25_2, @Try.place25_2, @Try.ty26, @Try.zero26, @Try.blank26, @Try.fld26_0, @Try.place26_0, @Try.fld26_1, @Try.place26_1, @Try.fld26_2, @Try.place26_2, @Try.ty27, @Try.sl27, @Try.slK27, @Try.byt27, @Try.mkK27, @Try.zero27, @Try.ty28⟩
theorem Try.facts2 : type_of% @Try.zero28 ∧ type_of% @Try.blank28 ∧ type_of% @Try.fld28_0 ∧ type_of% @Try.place28_0 ∧ type_of% @Try.fld28_1 ∧ type_of% @Try.place28_1 ∧ type_of% @Try.fld28_2 ∧ type_of% @Try.place28_2 ∧ type_of% @Try.ty29 ∧ type_of% @Try.zero29 ∧ type_of% @Try.blank29 ∧ type_of% @Try.fld29_0 ∧ type_of% @Try.place29_0 ∧ type_of% @Try.fld29_1 ∧ type_of% @Try.place29_1 ∧ type_of% @Try.fld29_2 ∧ type_of% @Try.place29_2 ∧ type_of% @Try.ty30 ∧ type_of% @Try.zero30 ∧ type_of% @Try.blank30 ∧ type_of% @Try.fld30_0 ∧ type_of% @Try.place30_0 ∧ type_of% @Try.fld30_1 ∧ type_of% @Try.place30_1 ∧ type_of% @Try.ty31 ∧ type_of% @Try.zero31 ∧ type_of% @Try.blank31 ∧ type_of% @Try.fld31_0 ∧ type_of% @Try.place31_0 ∧ type_of% @Try.fld31_1 ∧ type_of% @Try.place31_1 ∧ type_of% @Try.ty39 ∧ type_of% @Try.kind39 ∧ type_of% @Try.zero39 ∧ type_of% @Try.ty50 ∧ type_of% @Try.zero50 ∧ type_of% @Try.blank50 ∧ type_of% @Try.fld50_0 ∧ type_of% @Try.place50_0 ∧ type_of% @Try.ty51 ∧ type_of% @Try.zero51 ∧ type_of% @Try.blank51 ∧ type_of% @Try.fld51_0 ∧ type_of% @Try.place51_0 ∧ type_of% @Try.ty55 ∧ type_of% @Try.kind55 ∧ type_of% @Try.zero55 ∧ type_of% @Try.ty56 ∧ type_of% @Try.zero56 ∧ type_of% @Try.ty58 ∧ type_of% @Try.zero58 ∧ type_of% @Try.blank58 ∧ type_of% @Try.fld58_0 ∧ type_of% @Try.place58_0 ∧ type_of% @Try.fld58_1 ∧ type_of% @Try.place58_1 ∧ type_of% @Try.fld58_2 ∧ type_of% @Try.place58_2 ∧ type_of% @Try.fld58_3 ∧ type_of% @Try.place58_3 :=
  ⟨@Try.zero28, @Try.blank28, @Try.fld28_0, @Try.place28_0, @Try.fld28_1, @Try.place28_1, @Try.fld28_2, @Try.place28_2, @Try.ty29, @Try.zero29, @Try.blank29, @Try.fld29_0, @Try.place29_0, @Try.fld29_1, @Try.place29_1, @Try.fld29_2, @Try.place29_2, @Try.ty30, @Try.zero30, @Try.blank30, @Try.fld30_0, @Try.place30_0, @Try.fld30_1, @Try.place30_1, @Try.ty31, @Try.zero31, @Try.blank31, @Try.fld31_0, @Try.place31_0, @Try.fld31_1, @Try.place31_1, @Try.ty39, @Try.kind39, @Try.zero39, @Try.ty50, @Try.zero50, @Try.blank50, @Try.fld50_0, @Try.place50_0, @Try.ty51, @Try.zero51, @Try.blank51, @Try.fld51_0, @Try.place51_0, @Try.ty55, @Try.kind55, @Try.zero55, @Try.ty56, @Try.zero56, @Try.ty58, @Try.zero58, @Try.blank58, @Try.fld58_0, @Try.place58_0, @Try.fld58_1, @Try.place58_1, @Try.fld58_2, @Try.place58_2, @Try.fld58_3, @Try.place58_3⟩
theorem Try.facts3 : type_of% @Try.ty59 ∧ type_of% @Try.zero59 ∧ type_of% @Try.blank59 ∧ type_of% @Try.fld59_0 ∧ type_of% @Try.place59_0 ∧ type_of% @Try.fld59_1 ∧ type_of% @Try.place59_1 ∧ type_of% @Try.fld59_2 ∧ type_of% @Try.place59_2 ∧ type_of% @Try.fld59_3 ∧ type_of% @Try.place59_3 ∧ type_of% @Try.ty64 ∧ type_of% @Try.kind64 ∧ type_of% @Try.zero64 ∧ type_of% @Try.ty65 ∧ type_of% @Try.kind65 ∧ type_of% @Try.zero65 ∧ type_of% @Try.ty67 ∧ type_of% @Try.zero67 ∧ type_of% @Try.ty68 ∧ type_of% @Try.kind68 ∧ type_of% @Try.zero68 ∧ type_of% @Try.ty69 ∧ type_of% @Try.kind69 ∧ type_of% @Try.zero69 ∧ type_of% @Try.ty70 ∧ type_of% @Try.zero70 ∧ type_of% @Try.blank70 ∧ type_of% @Try.fld70_0 ∧ type_of% @Try.place70_0 ∧ type_of% @Try.fld70_1 ∧ type_of% @Try.place70_1 ∧ type_of% @Try.fld70_2 ∧ type_of% @Try.place70_2 ∧ type_of% @Try.fld70_3 ∧ type_of% @Try.place70_3 ∧ type_of% @Try.fld70_4 ∧ type_of% @Try.place70_4 ∧ type_of% @Try.fld70_5 ∧ type_of% @Try.place70_5 ∧ type_of% @Try.fld70_6 ∧ type_of% @Try.place70_6 ∧ type_of% @Try.fld70_7 ∧ type_of% @Try.place70_7 ∧ type_of% @Try.fld70_8 ∧ type_of% @Try.place70_8 ∧ type_of% @Try.fld70_9 ∧ type_of% @Try.place70_9 ∧ type_of% @Try.fld70_10 ∧ type_of% @Try.place70_10 ∧ type_of% @Try.ty71 ∧ type_of% @Try.zero71 ∧ type_of% @Try.blank71 ∧ type_of% @Try.fld71_0 ∧ type_of% @Try.place71_0 ∧ type_of% @Try.fld71_1 ∧ type_of% @Try.place71_1 ∧ type_of% @Try.fld71_2 ∧ type_of% @Try.place71_2 ∧ type_of% @Try.fld71_3 :=
  ⟨@Try.ty59, @Try.zero59, @Try.blank59, @Try.fld59_0, @Try.place59_0, @Try.fld59_1, @Try.place59_1, @Try.fld59_2, @Try.place59_2, @Try.fld59_3, @Try.place59_3, @Try.ty64, @Try.kind64, @Try.zero64, @Try.ty65, @Try.kind65, @Try.zero65, @Try.ty67, @Try.zero67, @Try.ty68, @Try.kind68, @Try.zero68, @Try.ty69, @Try.kind69, @Try.zero69, @Try.ty70, @Try.zero70, @Try.blank70, @Try.fld70_0, @Try.place70_0, @Try.fld70_1, @Try.place70_1, @Try.fld70_2, @Try.place70_2, @Try.fld70_3, @Try.place70_3, @Try.fld70_4, @Try.place70_4, @Try.fld70_5, @Try.place70_5, @Try.fld70_6, @Try.place70_6, @Try.fld70_7, @Try.place70_7, @Try.fld70_8, @Try.place70_8, @Try.fld70_9, @Try.place70_9, @Try.fld70_10, @Try.place70_10, @Try.ty71, @Try.zero71, @Try.blank71, @Try.fld71_0, @Try.place71_0, @Try.fld71_1, @Try.place71_1, @Try.fld71_2, @Try.place71_2, @Try.fld71_3⟩
theorem Try.facts4 : type_of% @Try.place71_3 ∧ type_of% @Try.fld71_4 ∧ type_of% @Try.place71_4 ∧ type_of% @Try.fld71_5 ∧ type_of% @Try.place71_5 ∧ type_of% @Try.fld71_6 ∧ type_of% @Try.place71_6 ∧ type_of% @Try.fld71_7 ∧ type_of% @Try.place71_7 ∧ type_of% @Try.fld71_8 ∧ type_of% @Try.place71_8 ∧ type_of% @Try.fld71_9 ∧ type_of% @Try.place71_9 ∧ type_of% @Try.fld71_10 ∧ type_of% @Try.place71_10 ∧ type_of% @Try.callable3 ∧ type_of% @Try.callable4 ∧ type_of% @Try.callable5 ∧ type_of% @Try.callable6 ∧ type_of% @Try.callable7 ∧ type_of% @Try.callable8 ∧ type_of% @Try.callable9 ∧ type_of% @Try.callable10 ∧ type_of% @Try.callable11 ∧ type_of% @Try.callable12 ∧ type_of% @Try.callable13 ∧ type_of% @Try.callable14 ∧ type_of% @Try.callable15 ∧ type_of% @Try.callable16 ∧ type_of% @Try.callable17 ∧ type_of% @Try.callable18 ∧ type_of% @Try.callable19 ∧ type_of% @Try.callable20 ∧ type_of% @Try.callable21 ∧ type_of% @Try.callable22 ∧ type_of% @Try.callable23 ∧ type_of% @Try.callable24 ∧ type_of% @Try.callable25 ∧ type_of% @Try.callable26 ∧ type_of% @Try.callable27 ∧ type_of% @Try.callable28 ∧ type_of% @Try.callable29 ∧ type_of% @Try.callable30 ∧ type_of% @Try.callable31 ∧ type_of% @Try.callable32 ∧ type_of% @Try.callable33 ∧ type_of% @Try.callable34 ∧ type_of% @Try.callable35 ∧ type_of% @Try.callable36 ∧ type_of% @Try.callable37 ∧ type_of% @Try.callable38 ∧ type_of% @Try.callable39 ∧ type_of% @Try.mixed ∧ type_of% @Try.isb4 ∧ type_of% @Try.lenK9 ∧ type_of% @Try.lenK10 ∧ type_of% @Try.lenK11 ∧ type_of% @Try.arrI22 ∧ type_of% @Try.arrI23 ∧ type_of% @Try.arrN25 :=
  ⟨@Try.place71_3, @Try.fld71_4, @Try.place71_4, @Try.fld71_5, @Try.place71_5, @Try.fld71_6, @Try.place71_6, @Try.fld71_7, @Try.place71_7, @Try.fld71_8, @Try.place71_8, @Try.fld71_9, @Try.place71_9, @Try.fld71_10, @Try.place71_10, @Try.callable3, @Try.callable4, @Try.callable5, @Try.callable6, @Try.callable7, @Try.callable8, @Try.callable9, @Try.callable10, @Try.callable11, @Try.callable12, @Try.callable13, @Try.callable14, @Try.callable15, @Try.callable16, @Try.callable17, @Try.callable18, @Try.callable19, @Try.callable20, @Try.callable21, @Try.callable22, @Try.callable23, @Try.callable24, @Try.callable25, @Try.callable26, @Try.callable27, @Try.callable28, @Try.callable29, @Try.callable30, @Try.callable31, @Try.callable32, @Try.callable33, @Try.callable34, @Try.callable35, @Try.callable36, @Try.callable37, @Try.callable38, @Try.callable39, @Try.mixed, @Try.isb4, @Try.lenK9, @Try.lenK10, @Try.lenK11, @Try.arrI22, @Try.arrI23, @Try.arrN25⟩
theorem Try.facts5 : type_of% @Try.fds25 ∧ type_of% @Try.arrN26 ∧ type_of% @Try.fds26 ∧ type_of% @Try.lenK27 :=
  ⟨@Try.fds25, @Try.arrN26, @Try.fds26, @Try.lenK27⟩
/-- All of them, under one name. -/
theorem Try.facts : type_of% @Try.facts0 ∧ type_of% @Try.facts1 ∧ type_of% @Try.facts2 ∧ type_of% @Try.facts3 ∧ type_of% @Try.facts4 ∧ type_of% @Try.facts5 :=
  ⟨@Try.facts0, @Try.facts1, @Try.facts2, @Try.facts3, @Try.facts4, @Try.facts5⟩
end Go.Proofs.Ytdhkpdakialkbaa
