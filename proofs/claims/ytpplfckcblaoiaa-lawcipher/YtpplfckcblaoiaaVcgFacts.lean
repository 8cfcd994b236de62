/-
  Closed facts on the tables of this seat's program, each by the kernel (made by program from the translation: wip/lib/facts.py).
-/
import Derived.Test.YtpplfckcblaoiaaVcgQ0
import Derived.Test.YtpplfckcblaoiaaVcgC
import Derived.Test.YtpplfckcblaoiaaProg
import Derived.KernelRfl
set_option linter.unusedVariables false
set_option linter.unusedSimpArgs false
namespace Go.Proofs.Ytpplfckcblaoiaa
open Go.Vcg
instance : Vcg.Tables Try.prog := ⟨fun _ => none⟩
theorem Try.ty2 : tyOf Try.prog 2 = some (false, 1) := by kernel_rfl
theorem Try.kind2 : kindOf Try.prog 2 = some IntKind.i64 := by kernel_rfl
theorem Try.zero2 : zeroOf Try.prog 2 = some ([Value.int IntKind.i64 0]) := by kernel_rfl
theorem Try.ty3 : tyOf Try.prog 3 = some (false, 1) := by kernel_rfl
theorem Try.kind3 : kindOf Try.prog 3 = some IntKind.i64 := by kernel_rfl
theorem Try.zero3 : zeroOf Try.prog 3 = some ([Value.int IntKind.i64 0]) := by kernel_rfl
theorem Try.ty4 : tyOf Try.prog 4 = some (false, 1) := by kernel_rfl
theorem Try.zero4 : zeroOf Try.prog 4 = some ([Value.bool false]) := by kernel_rfl
theorem Try.ty5 : tyOf Try.prog 5 = some (false, 1) := by kernel_rfl
theorem Try.kind5 : kindOf Try.prog 5 = some IntKind.u8 := by kernel_rfl
theorem Try.zero5 : zeroOf Try.prog 5 = some ([Value.int IntKind.u8 0]) := by kernel_rfl
theorem Try.ty6 : tyOf Try.prog 6 = some (false, 1) := by kernel_rfl
theorem Try.kind6 : kindOf Try.prog 6 = some IntKind.u8 := by kernel_rfl
theorem Try.zero6 : zeroOf Try.prog 6 = some ([Value.int IntKind.u8 0]) := by kernel_rfl
theorem Try.ty7 : tyOf Try.prog 7 = some (true, 4) := by kernel_rfl
theorem Try.zero7 : zeroOf Try.prog 7 = some ([Value.int IntKind.i64 0, Value.int IntKind.i64 0, Value.bool false, Value.int IntKind.u8 0]) := by kernel_rfl
theorem Try.blank7 : blankOf Try.prog 7 = some ([Sum.inl (Value.int IntKind.i64 0), Sum.inl (Value.int IntKind.i64 0), Sum.inl (Value.bool false), Sum.inl (Value.int IntKind.u8 0)]) := by kernel_rfl
theorem Try.fld7_0 : fieldOf Try.prog 7 0 = some (0, false, 1) := by kernel_rfl
theorem Try.place7_0 : placeOf Try.prog 7 0 = some (0, 1) := by kernel_rfl
theorem Try.fld7_1 : fieldOf Try.prog 7 1 = some (1, false, 1) := by kernel_rfl
theorem Try.place7_1 : placeOf Try.prog 7 1 = some (1, 1) := by kernel_rfl
theorem Try.fld7_2 : fieldOf Try.prog 7 2 = some (2, false, 1) := by kernel_rfl
theorem Try.place7_2 : placeOf Try.prog 7 2 = some (2, 1) := by kernel_rfl
theorem Try.fld7_3 : fieldOf Try.prog 7 3 = some (3, false, 1) := by kernel_rfl
theorem Try.place7_3 : placeOf Try.prog 7 3 = some (3, 1) := by kernel_rfl
theorem Try.ty8 : tyOf Try.prog 8 = some (true, 4) := by kernel_rfl
theorem Try.zero8 : zeroOf Try.prog 8 = some ([Value.int IntKind.i64 0, Value.int IntKind.i64 0, Value.bool false, Value.int IntKind.u8 0]) := by kernel_rfl
theorem Try.blank8 : blankOf Try.prog 8 = some ([Sum.inl (Value.int IntKind.i64 0), Sum.inl (Value.int IntKind.i64 0), Sum.inl (Value.bool false), Sum.inl (Value.int IntKind.u8 0)]) := by kernel_rfl
theorem Try.fld8_0 : fieldOf Try.prog 8 0 = some (0, false, 1) := by kernel_rfl
theorem Try.place8_0 : placeOf Try.prog 8 0 = some (0, 1) := by kernel_rfl
theorem Try.fld8_1 : fieldOf Try.prog 8 1 = some (1, false, 1) := by kernel_rfl
theorem Try.place8_1 : placeOf Try.prog 8 1 = some (1, 1) := by kernel_rfl
theorem Try.fld8_2 : fieldOf Try.prog 8 2 = some (2, false, 1) := by kernel_rfl
theorem Try.place8_2 : placeOf Try.prog 8 2 = some (2, 1) := by kernel_rfl
theorem Try.fld8_3 : fieldOf Try.prog 8 3 = some (3, false, 1) := by kernel_rfl
theorem Try.place8_3 : placeOf Try.prog 8 3 = some (3, 1) := by kernel_rfl
theorem Try.ty9 : tyOf Try.prog 9 = some (false, 1) := by kernel_rfl
theorem Try.zero9 : zeroOf Try.prog 9 = some ([Value.string ByteArray.empty]) := by kernel_rfl
theorem Try.ty10 : tyOf Try.prog 10 = some (false, 1) := by kernel_rfl
theorem Try.zero10 : zeroOf Try.prog 10 = some ([Value.string ByteArray.empty]) := by kernel_rfl
theorem Try.ty11 : tyOf Try.prog 11 = some (false, 1) := by kernel_rfl
theorem Try.zero11 : zeroOf Try.prog 11 = some ([Value.string ByteArray.empty]) := by kernel_rfl
theorem Try.ty12 : tyOf Try.prog 12 = some (false, 1) := by kernel_rfl
theorem Try.kind12 : kindOf Try.prog 12 = some IntKind.u64 := by kernel_rfl
theorem Try.zero12 : zeroOf Try.prog 12 = some ([Value.int IntKind.u64 0]) := by kernel_rfl
theorem Try.ty13 : tyOf Try.prog 13 = some (true, 2) := by kernel_rfl
theorem Try.zero13 : zeroOf Try.prog 13 = some ([Value.string ByteArray.empty, Value.int IntKind.u64 0]) := by kernel_rfl
theorem Try.blank13 : blankOf Try.prog 13 = some ([Sum.inl (Value.string ByteArray.empty), Sum.inl (Value.int IntKind.u64 0)]) := by kernel_rfl
theorem Try.fld13_0 : fieldOf Try.prog 13 0 = some (0, false, 1) := by kernel_rfl
theorem Try.place13_0 : placeOf Try.prog 13 0 = some (0, 1) := by kernel_rfl
theorem Try.fld13_1 : fieldOf Try.prog 13 1 = some (1, false, 1) := by kernel_rfl
theorem Try.place13_1 : placeOf Try.prog 13 1 = some (1, 1) := by kernel_rfl
theorem Try.ty14 : tyOf Try.prog 14 = some (true, 2) := by kernel_rfl
theorem Try.zero14 : zeroOf Try.prog 14 = some ([Value.string ByteArray.empty, Value.int IntKind.u64 0]) := by kernel_rfl
theorem Try.blank14 : blankOf Try.prog 14 = some ([Sum.inl (Value.string ByteArray.empty), Sum.inl (Value.int IntKind.u64 0)]) := by kernel_rfl
theorem Try.fld14_0 : fieldOf Try.prog 14 0 = some (0, false, 1) := by kernel_rfl
theorem Try.place14_0 : placeOf Try.prog 14 0 = some (0, 1) := by kernel_rfl
theorem Try.fld14_1 : fieldOf Try.prog 14 1 = some (1, false, 1) := by kernel_rfl
theorem Try.place14_1 : placeOf Try.prog 14 1 = some (1, 1) := by kernel_rfl
theorem Try.ty15 : tyOf Try.prog 15 = some (false, 1) := by kernel_rfl
theorem Try.zero15 : zeroOf Try.prog 15 = some ([Value.pointer none]) := by kernel_rfl
theorem Try.ty16 : tyOf Try.prog 16 = some (false, 1) := by kernel_rfl
theorem Try.zero16 : zeroOf Try.prog 16 = some ([Value.pointer none]) := by kernel_rfl
theorem Try.ty17 : tyOf Try.prog 17 = some (false, 1) := by kernel_rfl
theorem Try.zero17 : zeroOf Try.prog 17 = some ([Value.pointer none]) := by kernel_rfl
theorem Try.ty18 : tyOf Try.prog 18 = some (true, 1) := by kernel_rfl
theorem Try.zero18 : zeroOf Try.prog 18 = some ([Value.pointer none]) := by kernel_rfl
theorem Try.blank18 : blankOf Try.prog 18 = some ([Sum.inl (Value.pointer none)]) := by kernel_rfl
theorem Try.fld18_0 : fieldOf Try.prog 18 0 = some (0, false, 1) := by kernel_rfl
theorem Try.place18_0 : placeOf Try.prog 18 0 = some (0, 1) := by kernel_rfl
theorem Try.ty19 : tyOf Try.prog 19 = some (true, 1) := by kernel_rfl
theorem Try.zero19 : zeroOf Try.prog 19 = some ([Value.pointer none]) := by kernel_rfl
theorem Try.blank19 : blankOf Try.prog 19 = some ([Sum.inl (Value.pointer none)]) := by kernel_rfl
theorem Try.fld19_0 : fieldOf Try.prog 19 0 = some (0, false, 1) := by kernel_rfl
theorem Try.place19_0 : placeOf Try.prog 19 0 = some (0, 1) := by kernel_rfl
theorem Try.ty21 : tyOf Try.prog 21 = some (false, 1) := by kernel_rfl
theorem Try.kind21 : kindOf Try.prog 21 = some IntKind.i32 := by kernel_rfl
theorem Try.zero21 : zeroOf Try.prog 21 = some ([Value.int IntKind.i32 0]) := by kernel_rfl
theorem Try.ty22 : tyOf Try.prog 22 = some (true, 32) := by kernel_rfl
theorem Try.arr22 : arrOf Try.prog 22 = some (32, 1) := by kernel_rfl
theorem Try.el22 : arrEl Try.prog 22 = some (32, false, 1) := by kernel_rfl
theorem Try.slK22 : slK Try.prog 22 = some (some 32, 1) := by kernel_rfl
theorem Try.zero22 : zeroOf Try.prog 22 = some (List.replicate 32 (Value.int IntKind.u8 0)) := by kernel_rfl
theorem Try.blank22 : blankOf Try.prog 22 = some (List.replicate 32 (Sum.inl (Value.int IntKind.u8 0))) := by kernel_rfl
theorem Try.place22 (i : Nat) : placeOf Try.prog 22 i = some (i * 1, 1) := by unfold placeOf; rw [Try.arr22]
theorem Try.ty23 : tyOf Try.prog 23 = some (true, 32) := by kernel_rfl
theorem Try.arr23 : arrOf Try.prog 23 = some (32, 1) := by kernel_rfl
theorem Try.el23 : arrEl Try.prog 23 = some (32, false, 1) := by kernel_rfl
theorem Try.slK23 : slK Try.prog 23 = some (some 32, 1) := by kernel_rfl
theorem Try.zero23 : zeroOf Try.prog 23 = some (List.replicate 32 (Value.int IntKind.u8 0)) := by kernel_rfl
theorem Try.blank23 : blankOf Try.prog 23 = some (List.replicate 32 (Sum.inl (Value.int IntKind.u8 0))) := by kernel_rfl
theorem Try.place23 (i : Nat) : placeOf Try.prog 23 i = some (i * 1, 1) := by unfold placeOf; rw [Try.arr23]
theorem Try.ty26 : tyOf Try.prog 26 = some (true, 16) := by kernel_rfl
theorem Try.arr26 : arrOf Try.prog 26 = some (16, 1) := by kernel_rfl
theorem Try.el26 : arrEl Try.prog 26 = some (16, false, 1) := by kernel_rfl
theorem Try.slK26 : slK Try.prog 26 = some (some 16, 1) := by kernel_rfl
theorem Try.zero26 : zeroOf Try.prog 26 = some (List.replicate 16 (Value.int IntKind.u8 0)) := by kernel_rfl
theorem Try.blank26 : blankOf Try.prog 26 = some (List.replicate 16 (Sum.inl (Value.int IntKind.u8 0))) := by kernel_rfl
theorem Try.place26 (i : Nat) : placeOf Try.prog 26 i = some (i * 1, 1) := by unfold placeOf; rw [Try.arr26]
theorem Try.ty27 : tyOf Try.prog 27 = some (true, 16) := by kernel_rfl
theorem Try.arr27 : arrOf Try.prog 27 = some (16, 1) := by kernel_rfl
theorem Try.el27 : arrEl Try.prog 27 = some (16, false, 1) := by kernel_rfl
theorem Try.slK27 : slK Try.prog 27 = some (some 16, 1) := by kernel_rfl
theorem Try.zero27 : zeroOf Try.prog 27 = some (List.replicate 16 (Value.int IntKind.u8 0)) := by kernel_rfl
theorem Try.blank27 : blankOf Try.prog 27 = some (List.replicate 16 (Sum.inl (Value.int IntKind.u8 0))) := by kernel_rfl
theorem Try.place27 (i : Nat) : placeOf Try.prog 27 i = some (i * 1, 1) := by unfold placeOf; rw [Try.arr27]
theorem Try.ty28 : tyOf Try.prog 28 = some (false, 1) := by kernel_rfl
theorem Try.sl28 : Vcg.elemOf Try.prog 28 = some 1 := by kernel_rfl
theorem Try.slK28 : slK Try.prog 28 = some (none, 1) := by kernel_rfl
theorem Try.byt28 : bytK Try.prog 28 = true := by kernel_rfl
theorem Try.mkK28 : mkK Try.prog 28 = some ([Value.int IntKind.u8 0], 1, 1) := by kernel_rfl
theorem Try.zero28 : zeroOf Try.prog 28 = some ([Value.slice none 0 0]) := by kernel_rfl
theorem Try.ty29 : tyOf Try.prog 29 = some (true, 2) := by kernel_rfl
theorem Try.zero29 : zeroOf Try.prog 29 = some ([Value.slice none 0 0, Value.int IntKind.i64 0]) := by kernel_rfl
theorem Try.blank29 : blankOf Try.prog 29 = some ([Sum.inl (Value.slice none 0 0), Sum.inl (Value.int IntKind.i64 0)]) := by kernel_rfl
theorem Try.fld29_0 : fieldOf Try.prog 29 0 = some (0, false, 1) := by kernel_rfl
theorem Try.place29_0 : placeOf Try.prog 29 0 = some (0, 1) := by kernel_rfl
theorem Try.fld29_1 : fieldOf Try.prog 29 1 = some (1, false, 1) := by kernel_rfl
theorem Try.place29_1 : placeOf Try.prog 29 1 = some (1, 1) := by kernel_rfl
theorem Try.ty30 : tyOf Try.prog 30 = some (true, 2) := by kernel_rfl
theorem Try.zero30 : zeroOf Try.prog 30 = some ([Value.slice none 0 0, Value.int IntKind.i64 0]) := by kernel_rfl
theorem Try.blank30 : blankOf Try.prog 30 = some ([Sum.inl (Value.slice none 0 0), Sum.inl (Value.int IntKind.i64 0)]) := by kernel_rfl
theorem Try.fld30_0 : fieldOf Try.prog 30 0 = some (0, false, 1) := by kernel_rfl
theorem Try.place30_0 : placeOf Try.prog 30 0 = some (0, 1) := by kernel_rfl
theorem Try.fld30_1 : fieldOf Try.prog 30 1 = some (1, false, 1) := by kernel_rfl
theorem Try.place30_1 : placeOf Try.prog 30 1 = some (1, 1) := by kernel_rfl
theorem Try.ty40 : tyOf Try.prog 40 = some (false, 1) := by kernel_rfl
theorem Try.kind40 : kindOf Try.prog 40 = some IntKind.u64 := by kernel_rfl
theorem Try.zero40 : zeroOf Try.prog 40 = some ([Value.int IntKind.u64 0]) := by kernel_rfl
theorem Try.ty41 : tyOf Try.prog 41 = some (true, 5) := by kernel_rfl
theorem Try.arr41 : arrOf Try.prog 41 = some (5, 1) := by kernel_rfl
theorem Try.el41 : arrEl Try.prog 41 = some (5, false, 1) := by kernel_rfl
theorem Try.slK41 : slK Try.prog 41 = some (some 5, 1) := by kernel_rfl
theorem Try.zero41 : zeroOf Try.prog 41 = some ([Value.int IntKind.u64 0, Value.int IntKind.u64 0, Value.int IntKind.u64 0, Value.int IntKind.u64 0, Value.int IntKind.u64 0]) := by kernel_rfl
theorem Try.blank41 : blankOf Try.prog 41 = some ([Sum.inl (Value.int IntKind.u64 0), Sum.inl (Value.int IntKind.u64 0), Sum.inl (Value.int IntKind.u64 0), Sum.inl (Value.int IntKind.u64 0), Sum.inl (Value.int IntKind.u64 0)]) := by kernel_rfl
theorem Try.place41 (i : Nat) : placeOf Try.prog 41 i = some (i * 1, 1) := by unfold placeOf; rw [Try.arr41]
theorem Try.ty42 : tyOf Try.prog 42 = some (true, 5) := by kernel_rfl
theorem Try.arr42 : arrOf Try.prog 42 = some (5, 1) := by kernel_rfl
theorem Try.el42 : arrEl Try.prog 42 = some (5, false, 1) := by kernel_rfl
theorem Try.slK42 : slK Try.prog 42 = some (some 5, 1) := by kernel_rfl
theorem Try.zero42 : zeroOf Try.prog 42 = some ([Value.int IntKind.u64 0, Value.int IntKind.u64 0, Value.int IntKind.u64 0, Value.int IntKind.u64 0, Value.int IntKind.u64 0]) := by kernel_rfl
theorem Try.blank42 : blankOf Try.prog 42 = some ([Sum.inl (Value.int IntKind.u64 0), Sum.inl (Value.int IntKind.u64 0), Sum.inl (Value.int IntKind.u64 0), Sum.inl (Value.int IntKind.u64 0), Sum.inl (Value.int IntKind.u64 0)]) := by kernel_rfl
theorem Try.place42 (i : Nat) : placeOf Try.prog 42 i = some (i * 1, 1) := by unfold placeOf; rw [Try.arr42]
theorem Try.ty46 : tyOf Try.prog 46 = some (true, 16) := by kernel_rfl
theorem Try.arr46 : arrOf Try.prog 46 = some (16, 1) := by kernel_rfl
theorem Try.el46 : arrEl Try.prog 46 = some (16, false, 1) := by kernel_rfl
theorem Try.slK46 : slK Try.prog 46 = some (some 16, 1) := by kernel_rfl
theorem Try.zero46 : zeroOf Try.prog 46 = some (List.replicate 16 (Value.int IntKind.u64 0)) := by kernel_rfl
theorem Try.blank46 : blankOf Try.prog 46 = some (List.replicate 16 (Sum.inl (Value.int IntKind.u64 0))) := by kernel_rfl
theorem Try.place46 (i : Nat) : placeOf Try.prog 46 i = some (i * 1, 1) := by unfold placeOf; rw [Try.arr46]
theorem Try.ty47 : tyOf Try.prog 47 = some (true, 16) := by kernel_rfl
theorem Try.arr47 : arrOf Try.prog 47 = some (16, 1) := by kernel_rfl
theorem Try.el47 : arrEl Try.prog 47 = some (16, false, 1) := by kernel_rfl
theorem Try.slK47 : slK Try.prog 47 = some (some 16, 1) := by kernel_rfl
theorem Try.zero47 : zeroOf Try.prog 47 = some (List.replicate 16 (Value.int IntKind.u64 0)) := by kernel_rfl
theorem Try.blank47 : blankOf Try.prog 47 = some (List.replicate 16 (Sum.inl (Value.int IntKind.u64 0))) := by kernel_rfl
theorem Try.place47 (i : Nat) : placeOf Try.prog 47 i = some (i * 1, 1) := by unfold placeOf; rw [Try.arr47]
theorem Try.ty49 : tyOf Try.prog 49 = some (true, 64) := by kernel_rfl
theorem Try.zero49 : zeroOf Try.prog 49 = some (List.replicate 64 (Value.int IntKind.u64 0)) := by kernel_rfl
theorem Try.blank49 : blankOf Try.prog 49 = some (List.replicate 64 (Sum.inl (Value.int IntKind.u64 0))) := by kernel_rfl
theorem Try.fld49_0 : fieldOf Try.prog 49 0 = some (0, true, 16) := by kernel_rfl
theorem Try.place49_0 : placeOf Try.prog 49 0 = some (0, 16) := by kernel_rfl
theorem Try.fld49_1 : fieldOf Try.prog 49 1 = some (16, true, 16) := by kernel_rfl
theorem Try.place49_1 : placeOf Try.prog 49 1 = some (16, 16) := by kernel_rfl
theorem Try.fld49_2 : fieldOf Try.prog 49 2 = some (32, true, 16) := by kernel_rfl
theorem Try.place49_2 : placeOf Try.prog 49 2 = some (32, 16) := by kernel_rfl
theorem Try.fld49_3 : fieldOf Try.prog 49 3 = some (48, true, 16) := by kernel_rfl
theorem Try.place49_3 : placeOf Try.prog 49 3 = some (48, 16) := by kernel_rfl
theorem Try.ty50 : tyOf Try.prog 50 = some (true, 64) := by kernel_rfl
theorem Try.zero50 : zeroOf Try.prog 50 = some (List.replicate 64 (Value.int IntKind.u64 0)) := by kernel_rfl
theorem Try.blank50 : blankOf Try.prog 50 = some (List.replicate 64 (Sum.inl (Value.int IntKind.u64 0))) := by kernel_rfl
theorem Try.fld50_0 : fieldOf Try.prog 50 0 = some (0, true, 16) := by kernel_rfl
theorem Try.place50_0 : placeOf Try.prog 50 0 = some (0, 16) := by kernel_rfl
theorem Try.fld50_1 : fieldOf Try.prog 50 1 = some (16, true, 16) := by kernel_rfl
theorem Try.place50_1 : placeOf Try.prog 50 1 = some (16, 16) := by kernel_rfl
theorem Try.fld50_2 : fieldOf Try.prog 50 2 = some (32, true, 16) := by kernel_rfl
theorem Try.place50_2 : placeOf Try.prog 50 2 = some (32, 16) := by kernel_rfl
theorem Try.fld50_3 : fieldOf Try.prog 50 3 = some (48, true, 16) := by kernel_rfl
theorem Try.place50_3 : placeOf Try.prog 50 3 = some (48, 16) := by kernel_rfl
theorem Try.ty56 : tyOf Try.prog 56 = some (true, 256) := by kernel_rfl
theorem Try.arr56 : arrOf Try.prog 56 = some (256, 1) := by kernel_rfl
theorem Try.el56 : arrEl Try.prog 56 = some (256, false, 1) := by kernel_rfl
theorem Try.slK56 : slK Try.prog 56 = some (some 256, 1) := by kernel_rfl
theorem Try.zero56 : zeroOf Try.prog 56 = some (List.replicate 256 (Value.int IntKind.u8 0)) := by kernel_rfl
theorem Try.blank56 : blankOf Try.prog 56 = some (List.replicate 256 (Sum.inl (Value.int IntKind.u8 0))) := by kernel_rfl
theorem Try.place56 (i : Nat) : placeOf Try.prog 56 i = some (i * 1, 1) := by unfold placeOf; rw [Try.arr56]
theorem Try.ty57 : tyOf Try.prog 57 = some (true, 240) := by kernel_rfl
theorem Try.arr57 : arrOf Try.prog 57 = some (15, 16) := by kernel_rfl
theorem Try.el57 : arrEl Try.prog 57 = some (15, true, 16) := by kernel_rfl
theorem Try.slK57 : slK Try.prog 57 = some (some 15, 16) := by kernel_rfl
theorem Try.zero57 : zeroOf Try.prog 57 = some (List.replicate 240 (Value.int IntKind.u8 0)) := by kernel_rfl
theorem Try.blank57 : blankOf Try.prog 57 = some (List.replicate 240 (Sum.inl (Value.int IntKind.u8 0))) := by kernel_rfl
theorem Try.place57 (i : Nat) : placeOf Try.prog 57 i = some (i * 16, 16) := by unfold placeOf; rw [Try.arr57]
theorem Try.ty58 : tyOf Try.prog 58 = some (true, 496) := by kernel_rfl
theorem Try.zero58 : zeroOf Try.prog 58 = some (List.replicate 496 (Value.int IntKind.u8 0)) := by kernel_rfl
theorem Try.blank58 : blankOf Try.prog 58 = some (List.replicate 496 (Sum.inl (Value.int IntKind.u8 0))) := by kernel_rfl
theorem Try.fld58_0 : fieldOf Try.prog 58 0 = some (0, true, 256) := by kernel_rfl
theorem Try.place58_0 : placeOf Try.prog 58 0 = some (0, 256) := by kernel_rfl
theorem Try.fld58_1 : fieldOf Try.prog 58 1 = some (256, true, 240) := by kernel_rfl
theorem Try.place58_1 : placeOf Try.prog 58 1 = some (256, 240) := by kernel_rfl
theorem Try.ty59 : tyOf Try.prog 59 = some (true, 496) := by kernel_rfl
theorem Try.zero59 : zeroOf Try.prog 59 = some (List.replicate 496 (Value.int IntKind.u8 0)) := by kernel_rfl
theorem Try.blank59 : blankOf Try.prog 59 = some (List.replicate 496 (Sum.inl (Value.int IntKind.u8 0))) := by kernel_rfl
theorem Try.fld59_0 : fieldOf Try.prog 59 0 = some (0, true, 256) := by kernel_rfl
theorem Try.place59_0 : placeOf Try.prog 59 0 = some (0, 256) := by kernel_rfl
theorem Try.fld59_1 : fieldOf Try.prog 59 1 = some (256, true, 240) := by kernel_rfl
theorem Try.place59_1 : placeOf Try.prog 59 1 = some (256, 240) := by kernel_rfl
theorem Try.ty63 : tyOf Try.prog 63 = some (true, 240) := by kernel_rfl
theorem Try.arr63 : arrOf Try.prog 63 = some (240, 1) := by kernel_rfl
theorem Try.el63 : arrEl Try.prog 63 = some (240, false, 1) := by kernel_rfl
theorem Try.slK63 : slK Try.prog 63 = some (some 240, 1) := by kernel_rfl
theorem Try.zero63 : zeroOf Try.prog 63 = some (List.replicate 240 (Value.int IntKind.u8 0)) := by kernel_rfl
theorem Try.blank63 : blankOf Try.prog 63 = some (List.replicate 240 (Sum.inl (Value.int IntKind.u8 0))) := by kernel_rfl
theorem Try.place63 (i : Nat) : placeOf Try.prog 63 i = some (i * 1, 1) := by unfold placeOf; rw [Try.arr63]
theorem Try.ty68 : tyOf Try.prog 68 = some (false, 1) := by kernel_rfl
theorem Try.kind68 : kindOf Try.prog 68 = some IntKind.u64 := by kernel_rfl
theorem Try.zero68 : zeroOf Try.prog 68 = some ([Value.int IntKind.u64 0]) := by kernel_rfl
theorem Try.ty69 : tyOf Try.prog 69 = some (true, 4) := by kernel_rfl
theorem Try.arr69 : arrOf Try.prog 69 = some (4, 1) := by kernel_rfl
theorem Try.el69 : arrEl Try.prog 69 = some (4, false, 1) := by kernel_rfl
theorem Try.slK69 : slK Try.prog 69 = some (some 4, 1) := by kernel_rfl
theorem Try.zero69 : zeroOf Try.prog 69 = some ([Value.int IntKind.u64 0, Value.int IntKind.u64 0, Value.int IntKind.u64 0, Value.int IntKind.u64 0]) := by kernel_rfl
theorem Try.blank69 : blankOf Try.prog 69 = some ([Sum.inl (Value.int IntKind.u64 0), Sum.inl (Value.int IntKind.u64 0), Sum.inl (Value.int IntKind.u64 0), Sum.inl (Value.int IntKind.u64 0)]) := by kernel_rfl
theorem Try.place69 (i : Nat) : placeOf Try.prog 69 i = some (i * 1, 1) := by unfold placeOf; rw [Try.arr69]
theorem Try.ty70 : tyOf Try.prog 70 = some (true, 20) := by kernel_rfl
theorem Try.zero70 : zeroOf Try.prog 70 = some (List.replicate 20 (Value.int IntKind.u64 0)) := by kernel_rfl
theorem Try.blank70 : blankOf Try.prog 70 = some (List.replicate 20 (Sum.inl (Value.int IntKind.u64 0))) := by kernel_rfl
theorem Try.fld70_0 : fieldOf Try.prog 70 0 = some (0, true, 5) := by kernel_rfl
theorem Try.place70_0 : placeOf Try.prog 70 0 = some (0, 5) := by kernel_rfl
theorem Try.fld70_1 : fieldOf Try.prog 70 1 = some (5, true, 5) := by kernel_rfl
theorem Try.place70_1 : placeOf Try.prog 70 1 = some (5, 5) := by kernel_rfl
theorem Try.fld70_2 : fieldOf Try.prog 70 2 = some (10, true, 5) := by kernel_rfl
theorem Try.place70_2 : placeOf Try.prog 70 2 = some (10, 5) := by kernel_rfl
theorem Try.fld70_3 : fieldOf Try.prog 70 3 = some (15, true, 5) := by kernel_rfl
theorem Try.place70_3 : placeOf Try.prog 70 3 = some (15, 5) := by kernel_rfl
theorem Try.ty71 : tyOf Try.prog 71 = some (true, 20) := by kernel_rfl
theorem Try.zero71 : zeroOf Try.prog 71 = some (List.replicate 20 (Value.int IntKind.u64 0)) := by kernel_rfl
theorem Try.blank71 : blankOf Try.prog 71 = some (List.replicate 20 (Sum.inl (Value.int IntKind.u64 0))) := by kernel_rfl
theorem Try.fld71_0 : fieldOf Try.prog 71 0 = some (0, true, 5) := by kernel_rfl
theorem Try.place71_0 : placeOf Try.prog 71 0 = some (0, 5) := by kernel_rfl
theorem Try.fld71_1 : fieldOf Try.prog 71 1 = some (5, true, 5) := by kernel_rfl
theorem Try.place71_1 : placeOf Try.prog 71 1 = some (5, 5) := by kernel_rfl
theorem Try.fld71_2 : fieldOf Try.prog 71 2 = some (10, true, 5) := by kernel_rfl
theorem Try.place71_2 : placeOf Try.prog 71 2 = some (10, 5) := by kernel_rfl
theorem Try.fld71_3 : fieldOf Try.prog 71 3 = some (15, true, 5) := by kernel_rfl
theorem Try.place71_3 : placeOf Try.prog 71 3 = some (15, 5) := by kernel_rfl
theorem Try.ty79 : tyOf Try.prog 79 = some (false, 1) := by kernel_rfl
theorem Try.zero79 : zeroOf Try.prog 79 = some ([Value.pointer none]) := by kernel_rfl
theorem Try.ty82 : tyOf Try.prog 82 = some (true, 2) := by kernel_rfl
theorem Try.zero82 : zeroOf Try.prog 82 = some ([Value.int IntKind.u64 0, Value.int IntKind.u64 0]) := by kernel_rfl
theorem Try.blank82 : blankOf Try.prog 82 = some ([Sum.inl (Value.int IntKind.u64 0), Sum.inl (Value.int IntKind.u64 0)]) := by kernel_rfl
theorem Try.fld82_0 : fieldOf Try.prog 82 0 = some (0, false, 1) := by kernel_rfl
theorem Try.place82_0 : placeOf Try.prog 82 0 = some (0, 1) := by kernel_rfl
theorem Try.fld82_1 : fieldOf Try.prog 82 1 = some (1, false, 1) := by kernel_rfl
theorem Try.place82_1 : placeOf Try.prog 82 1 = some (1, 1) := by kernel_rfl
theorem Try.ty83 : tyOf Try.prog 83 = some (true, 2) := by kernel_rfl
theorem Try.zero83 : zeroOf Try.prog 83 = some ([Value.int IntKind.u64 0, Value.int IntKind.u64 0]) := by kernel_rfl
theorem Try.blank83 : blankOf Try.prog 83 = some ([Sum.inl (Value.int IntKind.u64 0), Sum.inl (Value.int IntKind.u64 0)]) := by kernel_rfl
theorem Try.fld83_0 : fieldOf Try.prog 83 0 = some (0, false, 1) := by kernel_rfl
theorem Try.place83_0 : placeOf Try.prog 83 0 = some (0, 1) := by kernel_rfl
theorem Try.fld83_1 : fieldOf Try.prog 83 1 = some (1, false, 1) := by kernel_rfl
theorem Try.place83_1 : placeOf Try.prog 83 1 = some (1, 1) := by kernel_rfl
theorem Try.ty87 : tyOf Try.prog 87 = some (true, 255) := by kernel_rfl
theorem Try.arr87 : arrOf Try.prog 87 = some (255, 1) := by kernel_rfl
theorem Try.el87 : arrEl Try.prog 87 = some (255, false, 1) := by kernel_rfl
theorem Try.slK87 : slK Try.prog 87 = some (some 255, 1) := by kernel_rfl
theorem Try.zero87 : zeroOf Try.prog 87 = some (List.replicate 255 (Value.int IntKind.u8 0)) := by kernel_rfl
theorem Try.blank87 : blankOf Try.prog 87 = some (List.replicate 255 (Sum.inl (Value.int IntKind.u8 0))) := by kernel_rfl
theorem Try.place87 (i : Nat) : placeOf Try.prog 87 i = some (i * 1, 1) := by unfold placeOf; rw [Try.arr87]
theorem Try.ty89 : tyOf Try.prog 89 = some (true, 4) := by kernel_rfl
theorem Try.arr89 : arrOf Try.prog 89 = some (4, 1) := by kernel_rfl
theorem Try.el89 : arrEl Try.prog 89 = some (4, false, 1) := by kernel_rfl
theorem Try.slK89 : slK Try.prog 89 = some (some 4, 1) := by kernel_rfl
theorem Try.zero89 : zeroOf Try.prog 89 = some ([Value.int IntKind.u8 0, Value.int IntKind.u8 0, Value.int IntKind.u8 0, Value.int IntKind.u8 0]) := by kernel_rfl
theorem Try.blank89 : blankOf Try.prog 89 = some ([Sum.inl (Value.int IntKind.u8 0), Sum.inl (Value.int IntKind.u8 0), Sum.inl (Value.int IntKind.u8 0), Sum.inl (Value.int IntKind.u8 0)]) := by kernel_rfl
theorem Try.place89 (i : Nat) : placeOf Try.prog 89 i = some (i * 1, 1) := by unfold placeOf; rw [Try.arr89]
theorem Try.ty90 : tyOf Try.prog 90 = some (true, 240) := by kernel_rfl
theorem Try.arr90 : arrOf Try.prog 90 = some (60, 4) := by kernel_rfl
theorem Try.el90 : arrEl Try.prog 90 = some (60, true, 4) := by kernel_rfl
theorem Try.slK90 : slK Try.prog 90 = some (some 60, 4) := by kernel_rfl
theorem Try.zero90 : zeroOf Try.prog 90 = some (List.replicate 240 (Value.int IntKind.u8 0)) := by kernel_rfl
theorem Try.blank90 : blankOf Try.prog 90 = some (List.replicate 240 (Sum.inl (Value.int IntKind.u8 0))) := by kernel_rfl
theorem Try.place90 (i : Nat) : placeOf Try.prog 90 i = some (i * 4, 4) := by unfold placeOf; rw [Try.arr90]
theorem Try.ty97 : tyOf Try.prog 97 = some (true, 4) := by kernel_rfl
theorem Try.zero97 : zeroOf Try.prog 97 = some ([Value.pointer none, Value.pointer none, Value.pointer none, Value.string ByteArray.empty]) := by kernel_rfl
theorem Try.blank97 : blankOf Try.prog 97 = some ([Sum.inl (Value.pointer none), Sum.inl (Value.pointer none), Sum.inl (Value.pointer none), Sum.inl (Value.string ByteArray.empty)]) := by kernel_rfl
theorem Try.fld97_0 : fieldOf Try.prog 97 0 = some (0, false, 1) := by kernel_rfl
theorem Try.place97_0 : placeOf Try.prog 97 0 = some (0, 1) := by kernel_rfl
theorem Try.fld97_1 : fieldOf Try.prog 97 1 = some (1, false, 1) := by kernel_rfl
theorem Try.place97_1 : placeOf Try.prog 97 1 = some (1, 1) := by kernel_rfl
theorem Try.fld97_2 : fieldOf Try.prog 97 2 = some (2, false, 1) := by kernel_rfl
theorem Try.place97_2 : placeOf Try.prog 97 2 = some (2, 1) := by kernel_rfl
theorem Try.fld97_3 : fieldOf Try.prog 97 3 = some (3, false, 1) := by kernel_rfl
theorem Try.place97_3 : placeOf Try.prog 97 3 = some (3, 1) := by kernel_rfl
theorem Try.ty98 : tyOf Try.prog 98 = some (true, 4) := by kernel_rfl
theorem Try.zero98 : zeroOf Try.prog 98 = some ([Value.pointer none, Value.pointer none, Value.pointer none, Value.string ByteArray.empty]) := by kernel_rfl
theorem Try.blank98 : blankOf Try.prog 98 = some ([Sum.inl (Value.pointer none), Sum.inl (Value.pointer none), Sum.inl (Value.pointer none), Sum.inl (Value.string ByteArray.empty)]) := by kernel_rfl
theorem Try.fld98_0 : fieldOf Try.prog 98 0 = some (0, false, 1) := by kernel_rfl
theorem Try.place98_0 : placeOf Try.prog 98 0 = some (0, 1) := by kernel_rfl
theorem Try.fld98_1 : fieldOf Try.prog 98 1 = some (1, false, 1) := by kernel_rfl
theorem Try.place98_1 : placeOf Try.prog 98 1 = some (1, 1) := by kernel_rfl
theorem Try.fld98_2 : fieldOf Try.prog 98 2 = some (2, false, 1) := by kernel_rfl
theorem Try.place98_2 : placeOf Try.prog 98 2 = some (2, 1) := by kernel_rfl
theorem Try.fld98_3 : fieldOf Try.prog 98 3 = some (3, false, 1) := by kernel_rfl
theorem Try.place98_3 : placeOf Try.prog 98 3 = some (3, 1) := by kernel_rfl
theorem Try.ty103 : tyOf Try.prog 103 = some (false, 1) := by kernel_rfl
theorem Try.kind103 : kindOf Try.prog 103 = some IntKind.u32 := by kernel_rfl
theorem Try.zero103 : zeroOf Try.prog 103 = some ([Value.int IntKind.u32 0]) := by kernel_rfl
theorem Try.ty104 : tyOf Try.prog 104 = some (false, 1) := by kernel_rfl
theorem Try.kind104 : kindOf Try.prog 104 = some IntKind.u8 := by kernel_rfl
theorem Try.zero104 : zeroOf Try.prog 104 = some ([Value.int IntKind.u8 0]) := by kernel_rfl
theorem Try.ty105 : tyOf Try.prog 105 = some (false, 1) := by kernel_rfl
theorem Try.kind105 : kindOf Try.prog 105 = some IntKind.u8 := by kernel_rfl
theorem Try.zero105 : zeroOf Try.prog 105 = some ([Value.int IntKind.u8 0]) := by kernel_rfl
theorem Try.ty107 : tyOf Try.prog 107 = some (false, 1) := by kernel_rfl
theorem Try.zero107 : zeroOf Try.prog 107 = some ([Value.pointer none]) := by kernel_rfl
theorem Try.ty108 : tyOf Try.prog 108 = some (false, 1) := by kernel_rfl
theorem Try.kind108 : kindOf Try.prog 108 = some IntKind.i32 := by kernel_rfl
theorem Try.zero108 : zeroOf Try.prog 108 = some ([Value.int IntKind.i32 0]) := by kernel_rfl
theorem Try.ty109 : tyOf Try.prog 109 = some (false, 1) := by kernel_rfl
theorem Try.kind109 : kindOf Try.prog 109 = some IntKind.i32 := by kernel_rfl
theorem Try.zero109 : zeroOf Try.prog 109 = some ([Value.int IntKind.i32 0]) := by kernel_rfl
theorem Try.ty110 : tyOf Try.prog 110 = some (true, 11) := by kernel_rfl
theorem Try.zero110 : zeroOf Try.prog 110 = some ([Value.int IntKind.u64 0, Value.int IntKind.u64 0, Value.int IntKind.u32 0, Value.int IntKind.u8 0, Value.int IntKind.u8 0, Value.int IntKind.u8 0, Value.int IntKind.u8 0, Value.nilFunc, Value.pointer none, Value.int IntKind.i32 0, Value.int IntKind.i32 0]) := by kernel_rfl
theorem Try.blank110 : blankOf Try.prog 110 = some ([Sum.inl (Value.int IntKind.u64 0), Sum.inl (Value.int IntKind.u64 0), Sum.inl (Value.int IntKind.u32 0), Sum.inl (Value.int IntKind.u8 0), Sum.inl (Value.int IntKind.u8 0), Sum.inl (Value.int IntKind.u8 0), Sum.inl (Value.int IntKind.u8 0), Sum.inl (Value.nilFunc), Sum.inl (Value.pointer none), Sum.inl (Value.int IntKind.i32 0), Sum.inl (Value.int IntKind.i32 0)]) := by kernel_rfl
theorem Try.fld110_0 : fieldOf Try.prog 110 0 = some (0, false, 1) := by kernel_rfl
theorem Try.place110_0 : placeOf Try.prog 110 0 = some (0, 1) := by kernel_rfl
theorem Try.fld110_1 : fieldOf Try.prog 110 1 = some (1, false, 1) := by kernel_rfl
theorem Try.place110_1 : placeOf Try.prog 110 1 = some (1, 1) := by kernel_rfl
theorem Try.fld110_2 : fieldOf Try.prog 110 2 = some (2, false, 1) := by kernel_rfl
theorem Try.place110_2 : placeOf Try.prog 110 2 = some (2, 1) := by kernel_rfl
theorem Try.fld110_3 : fieldOf Try.prog 110 3 = some (3, false, 1) := by kernel_rfl
theorem Try.place110_3 : placeOf Try.prog 110 3 = some (3, 1) := by kernel_rfl
theorem Try.fld110_4 : fieldOf Try.prog 110 4 = some (4, false, 1) := by kernel_rfl
theorem Try.place110_4 : placeOf Try.prog 110 4 = some (4, 1) := by kernel_rfl
theorem Try.fld110_5 : fieldOf Try.prog 110 5 = some (5, false, 1) := by kernel_rfl
theorem Try.place110_5 : placeOf Try.prog 110 5 = some (5, 1) := by kernel_rfl
theorem Try.fld110_6 : fieldOf Try.prog 110 6 = some (6, false, 1) := by kernel_rfl
theorem Try.place110_6 : placeOf Try.prog 110 6 = some (6, 1) := by kernel_rfl
theorem Try.fld110_7 : fieldOf Try.prog 110 7 = some (7, false, 1) := by kernel_rfl
theorem Try.place110_7 : placeOf Try.prog 110 7 = some (7, 1) := by kernel_rfl
theorem Try.fld110_8 : fieldOf Try.prog 110 8 = some (8, false, 1) := by kernel_rfl
theorem Try.place110_8 : placeOf Try.prog 110 8 = some (8, 1) := by kernel_rfl
theorem Try.fld110_9 : fieldOf Try.prog 110 9 = some (9, false, 1) := by kernel_rfl
theorem Try.place110_9 : placeOf Try.prog 110 9 = some (9, 1) := by kernel_rfl
theorem Try.fld110_10 : fieldOf Try.prog 110 10 = some (10, false, 1) := by kernel_rfl
theorem Try.place110_10 : placeOf Try.prog 110 10 = some (10, 1) := by kernel_rfl
theorem Try.ty111 : tyOf Try.prog 111 = some (true, 11) := by kernel_rfl
theorem Try.zero111 : zeroOf Try.prog 111 = some ([Value.int IntKind.u64 0, Value.int IntKind.u64 0, Value.int IntKind.u32 0, Value.int IntKind.u8 0, Value.int IntKind.u8 0, Value.int IntKind.u8 0, Value.int IntKind.u8 0, Value.nilFunc, Value.pointer none, Value.int IntKind.i32 0, Value.int IntKind.i32 0]) := by kernel_rfl
theorem Try.blank111 : blankOf Try.prog 111 = some ([Sum.inl (Value.int IntKind.u64 0), Sum.inl (Value.int IntKind.u64 0), Sum.inl (Value.int IntKind.u32 0), Sum.inl (Value.int IntKind.u8 0), Sum.inl (Value.int IntKind.u8 0), Sum.inl (Value.int IntKind.u8 0), Sum.inl (Value.int IntKind.u8 0), Sum.inl (Value.nilFunc), Sum.inl (Value.pointer none), Sum.inl (Value.int IntKind.i32 0), Sum.inl (Value.int IntKind.i32 0)]) := by kernel_rfl
theorem Try.fld111_0 : fieldOf Try.prog 111 0 = some (0, false, 1) := by kernel_rfl
theorem Try.place111_0 : placeOf Try.prog 111 0 = some (0, 1) := by kernel_rfl
theorem Try.fld111_1 : fieldOf Try.prog 111 1 = some (1, false, 1) := by kernel_rfl
theorem Try.place111_1 : placeOf Try.prog 111 1 = some (1, 1) := by kernel_rfl
theorem Try.fld111_2 : fieldOf Try.prog 111 2 = some (2, false, 1) := by kernel_rfl
theorem Try.place111_2 : placeOf Try.prog 111 2 = some (2, 1) := by kernel_rfl
theorem Try.fld111_3 : fieldOf Try.prog 111 3 = some (3, false, 1) := by kernel_rfl
theorem Try.place111_3 : placeOf Try.prog 111 3 = some (3, 1) := by kernel_rfl
theorem Try.fld111_4 : fieldOf Try.prog 111 4 = some (4, false, 1) := by kernel_rfl
theorem Try.place111_4 : placeOf Try.prog 111 4 = some (4, 1) := by kernel_rfl
theorem Try.fld111_5 : fieldOf Try.prog 111 5 = some (5, false, 1) := by kernel_rfl
theorem Try.place111_5 : placeOf Try.prog 111 5 = some (5, 1) := by kernel_rfl
theorem Try.fld111_6 : fieldOf Try.prog 111 6 = some (6, false, 1) := by kernel_rfl
theorem Try.place111_6 : placeOf Try.prog 111 6 = some (6, 1) := by kernel_rfl
theorem Try.fld111_7 : fieldOf Try.prog 111 7 = some (7, false, 1) := by kernel_rfl
theorem Try.place111_7 : placeOf Try.prog 111 7 = some (7, 1) := by kernel_rfl
theorem Try.fld111_8 : fieldOf Try.prog 111 8 = some (8, false, 1) := by kernel_rfl
theorem Try.place111_8 : placeOf Try.prog 111 8 = some (8, 1) := by kernel_rfl
theorem Try.fld111_9 : fieldOf Try.prog 111 9 = some (9, false, 1) := by kernel_rfl
theorem Try.place111_9 : placeOf Try.prog 111 9 = some (9, 1) := by kernel_rfl
theorem Try.fld111_10 : fieldOf Try.prog 111 10 = some (10, false, 1) := by kernel_rfl
theorem Try.place111_10 : placeOf Try.prog 111 10 = some (10, 1) := by kernel_rfl
theorem Try.callable3 : callable Try.prog 3 = true := by kernel_rfl
theorem Try.callable4 : callable Try.prog 4 = true := by kernel_rfl
theorem Try.callable5 : callable Try.prog 5 = true := by kernel_rfl
theorem Try.callable6 : callable Try.prog 6 = true := by kernel_rfl
theorem Try.callable7 : callable Try.prog 7 = true := by kernel_rfl
theorem Try.callable8 : callable Try.prog 8 = true := by kernel_rfl
theorem Try.callable9 : callable Try.prog 9 = true := by kernel_rfl
theorem Try.callable10 : callable Try.prog 10 = true := by kernel_rfl
theorem Try.callable11 : callable Try.prog 11 = true := by kernel_rfl
theorem Try.callable12 : callable Try.prog 12 = true := by kernel_rfl
theorem Try.callable13 : callable Try.prog 13 = true := by kernel_rfl
theorem Try.callable14 : callable Try.prog 14 = true := by kernel_rfl
theorem Try.callable15 : callable Try.prog 15 = true := by kernel_rfl
theorem Try.callable16 : callable Try.prog 16 = true := by kernel_rfl
theorem Try.callable17 : callable Try.prog 17 = true := by kernel_rfl
theorem Try.callable18 : callable Try.prog 18 = true := by kernel_rfl
theorem Try.callable19 : callable Try.prog 19 = true := by kernel_rfl
theorem Try.callable20 : callable Try.prog 20 = true := by kernel_rfl
theorem Try.callable21 : callable Try.prog 21 = true := by kernel_rfl
theorem Try.callable22 : callable Try.prog 22 = true := by kernel_rfl
theorem Try.callable23 : callable Try.prog 23 = true := by kernel_rfl
theorem Try.callable24 : callable Try.prog 24 = true := by kernel_rfl
theorem Try.callable25 : callable Try.prog 25 = true := by kernel_rfl
theorem Try.callable26 : callable Try.prog 26 = true := by kernel_rfl
theorem Try.callable27 : callable Try.prog 27 = true := by kernel_rfl
theorem Try.callable28 : callable Try.prog 28 = true := by kernel_rfl
theorem Try.callable29 : callable Try.prog 29 = true := by kernel_rfl
theorem Try.callable30 : callable Try.prog 30 = true := by kernel_rfl
theorem Try.callable31 : callable Try.prog 31 = true := by kernel_rfl
theorem Try.callable32 : callable Try.prog 32 = true := by kernel_rfl
theorem Try.callable33 : callable Try.prog 33 = true := by kernel_rfl
theorem Try.callable34 : callable Try.prog 34 = true := by kernel_rfl
theorem Try.callable35 : callable Try.prog 35 = true := by kernel_rfl
theorem Try.callable36 : callable Try.prog 36 = true := by kernel_rfl
theorem Try.callable37 : callable Try.prog 37 = true := by kernel_rfl
theorem Try.callable38 : callable Try.prog 38 = true := by kernel_rfl
theorem Try.callable39 : callable Try.prog 39 = true := by kernel_rfl
theorem Try.callable40 : callable Try.prog 40 = true := by kernel_rfl
theorem Try.callable41 : callable Try.prog 41 = true := by kernel_rfl
theorem Try.callable42 : callable Try.prog 42 = true := by kernel_rfl
theorem Try.callable43 : callable Try.prog 43 = true := by kernel_rfl
theorem Try.callable44 : callable Try.prog 44 = true := by kernel_rfl
theorem Try.callable45 : callable Try.prog 45 = true := by kernel_rfl
theorem Try.callable46 : callable Try.prog 46 = true := by kernel_rfl
theorem Try.callable47 : callable Try.prog 47 = true := by kernel_rfl
theorem Try.callable48 : callable Try.prog 48 = true := by kernel_rfl
theorem Try.callable49 : callable Try.prog 49 = true := by kernel_rfl
theorem Try.callable50 : callable Try.prog 50 = true := by kernel_rfl
theorem Try.callable51 : callable Try.prog 51 = true := by kernel_rfl
theorem Try.callable52 : callable Try.prog 52 = true := by kernel_rfl
theorem Try.callable53 : callable Try.prog 53 = true := by kernel_rfl
theorem Try.callable54 : callable Try.prog 54 = true := by kernel_rfl
theorem Try.callable55 : callable Try.prog 55 = true := by kernel_rfl
theorem Try.callable56 : callable Try.prog 56 = true := by kernel_rfl
theorem Try.callable57 : callable Try.prog 57 = true := by kernel_rfl
theorem Try.callable58 : callable Try.prog 58 = true := by kernel_rfl
theorem Try.callable59 : callable Try.prog 59 = true := by kernel_rfl
theorem Try.callable60 : callable Try.prog 60 = true := by kernel_rfl
theorem Try.callable61 : callable Try.prog 61 = true := by kernel_rfl
theorem Try.callable62 : callable Try.prog 62 = true := by kernel_rfl
theorem Try.callable63 : callable Try.prog 63 = false := by kernel_rfl
theorem Try.callable64 : callable Try.prog 64 = true := by kernel_rfl
theorem Try.callable65 : callable Try.prog 65 = false := by kernel_rfl
theorem Try.callable66 : callable Try.prog 66 = false := by kernel_rfl
theorem Try.callable67 : callable Try.prog 67 = false := by kernel_rfl
theorem Try.callable68 : callable Try.prog 68 = false := by kernel_rfl
theorem Try.callable69 : callable Try.prog 69 = false := by kernel_rfl
theorem Try.callable70 : callable Try.prog 70 = false := by kernel_rfl
theorem Try.callable71 : callable Try.prog 71 = false := by kernel_rfl
theorem Try.callable72 : callable Try.prog 72 = false := by kernel_rfl
theorem Try.callable73 : callable Try.prog 73 = false := by kernel_rfl
theorem Try.callable74 : callable Try.prog 74 = false := by kernel_rfl
theorem Try.callable75 : callable Try.prog 75 = false := by kernel_rfl
theorem Try.callable76 : callable Try.prog 76 = false := by kernel_rfl
theorem Try.callable77 : callable Try.prog 77 = false := by kernel_rfl
theorem Try.callable78 : callable Try.prog 78 = false := by kernel_rfl
theorem Try.callable79 : callable Try.prog 79 = false := by kernel_rfl
theorem Try.callable80 : callable Try.prog 80 = false := by kernel_rfl
theorem Try.mixed : Try.prog.follows .mixedOrders = true := by kernel_rfl
theorem Try.isb4 : isBool Try.prog 4 = true := by kernel_rfl
theorem Try.lenK9 : lenK Try.prog [9] = 2 := by kernel_rfl
theorem Try.lenK10 : lenK Try.prog [10] = 2 := by kernel_rfl
theorem Try.lenK11 : lenK Try.prog [11] = 2 := by kernel_rfl
theorem Try.arrI22 : arrIntOf Try.prog 22 = some (32, IntKind.u8) := by kernel_rfl
theorem Try.arrI23 : arrIntOf Try.prog 23 = some (32, IntKind.u8) := by kernel_rfl
theorem Try.arrI26 : arrIntOf Try.prog 26 = some (16, IntKind.u8) := by kernel_rfl
theorem Try.arrI27 : arrIntOf Try.prog 27 = some (16, IntKind.u8) := by kernel_rfl
theorem Try.lenK28 : lenK Try.prog [28] = 1 := by kernel_rfl
theorem Try.arrI41 : arrIntOf Try.prog 41 = some (5, IntKind.u64) := by kernel_rfl
theorem Try.arrI42 : arrIntOf Try.prog 42 = some (5, IntKind.u64) := by kernel_rfl
theorem Try.arrI46 : arrIntOf Try.prog 46 = some (16, IntKind.u64) := by kernel_rfl
theorem Try.arrI47 : arrIntOf Try.prog 47 = some (16, IntKind.u64) := by kernel_rfl
theorem Try.arrN49 : arrIntOf Try.prog 49 = none := by kernel_rfl
theorem Try.fds49 : fdsOf Try.prog 49 = some [(0, 16, IntKind.u64), (16, 16, IntKind.u64), (32, 16, IntKind.u64), (48, 16, IntKind.u64)] := by kernel_rfl
theorem Try.arrN50 : arrIntOf Try.prog 50 = none := by kernel_rfl
theorem Try.fds50 : fdsOf Try.prog 50 = some [(0, 16, IntKind.u64), (16, 16, IntKind.u64), (32, 16, IntKind.u64), (48, 16, IntKind.u64)] := by kernel_rfl
theorem Try.arrI56 : arrIntOf Try.prog 56 = some (256, IntKind.u8) := by kernel_rfl
theorem Try.arrI63 : arrIntOf Try.prog 63 = some (240, IntKind.u8) := by kernel_rfl
theorem Try.arrI69 : arrIntOf Try.prog 69 = some (4, IntKind.u64) := by kernel_rfl
theorem Try.arrN70 : arrIntOf Try.prog 70 = none := by kernel_rfl
theorem Try.fds70 : fdsOf Try.prog 70 = some [(0, 5, IntKind.u64), (5, 5, IntKind.u64), (10, 5, IntKind.u64), (15, 5, IntKind.u64)] := by kernel_rfl
theorem Try.arrN71 : arrIntOf Try.prog 71 = none := by kernel_rfl
theorem Try.fds71 : fdsOf Try.prog 71 = some [(0, 5, IntKind.u64), (5, 5, IntKind.u64), (10, 5, IntKind.u64), (15, 5, IntKind.u64)] := by kernel_rfl
theorem Try.arrN82 : arrIntOf Try.prog 82 = none := by kernel_rfl
theorem Try.fds82 : fdsOf Try.prog 82 = some [(0, 1, IntKind.u64), (1, 1, IntKind.u64)] := by kernel_rfl
theorem Try.arrN83 : arrIntOf Try.prog 83 = none := by kernel_rfl
theorem Try.fds83 : fdsOf Try.prog 83 = some [(0, 1, IntKind.u64), (1, 1, IntKind.u64)] := by kernel_rfl
theorem Try.arrI87 : arrIntOf Try.prog 87 = some (255, IntKind.u8) := by kernel_rfl
theorem Try.arrI89 : arrIntOf Try.prog 89 = some (4, IntKind.u8) := by kernel_rfl
theorem Try.facts0 : type_of% @Try.ty2 ∧ type_of% @Try.kind2 ∧ type_of% @Try.zero2 ∧ type_of% @Try.ty3 ∧ type_of% @Try.kind3 ∧ type_of% @Try.zero3 ∧ type_of% @Try.ty4 ∧ type_of% @Try.zero4 ∧ type_of% @Try.ty5 ∧ type_of% @Try.kind5 ∧ type_of% @Try.zero5 ∧ type_of% @Try.ty6 ∧ type_of% @Try.kind6 ∧ type_of% @Try.zero6 ∧ type_of% @Try.ty7 ∧ type_of% @Try.zero7 ∧ type_of% @Try.blank7 ∧ type_of% @Try.fld7_0 ∧ type_of% @Try.place7_0 ∧ type_of% @Try.fld7_1 ∧ type_of% @Try.place7_1 ∧ type_of% @Try.fld7_2 ∧ type_of% @Try.place7_2 ∧ type_of% @Try.fld7_3 ∧ type_of% @Try.place7_3 ∧ type_of% @Try.ty8 ∧ type_of% @Try.zero8 ∧ type_of% @Try.blank8 ∧ type_of% @Try.fld8_0 ∧ type_of% @Try.place8_0 ∧ type_of% @Try.fld8_1 ∧ type_of% @Try.place8_1 ∧ type_of% @Try.fld8_2 ∧ type_of% @Try.place8_2 ∧ type_of% @Try.fld8_3 ∧ type_of% @Try.place8_3 ∧ type_of% @Try.ty9 ∧ type_of% @Try.zero9 ∧ type_of% @Try.ty10 ∧ type_of% @Try.zero10 ∧ type_of% @Try.ty11 ∧ type_of% @Try.zero11 ∧ type_of% @Try.ty12 ∧ type_of% @Try.kind12 ∧ type_of% @Try.zero12 ∧ type_of% @Try.ty13 ∧ type_of% @Try.zero13 ∧ type_of% @Try.blank13 ∧ type_of% @Try.fld13_0 ∧ type_of% @Try.place13_0 ∧ type_of% @Try.fld13_1 ∧ type_of% @Try.place13_1 ∧ type_of% @Try.ty14 ∧ type_of% @Try.zero14 ∧ type_of% @Try.blank14 ∧ type_of% @Try.fld14_0 ∧ type_of% @Try.place14_0 ∧ type_of% @Try.fld14_1 ∧ type_of% @Try.place14_1 ∧ type_of% @Try.ty15 :=
  ⟨@Try.ty2, @Try.kind2, @Try.zero2, @Try.ty3, @Try.kind3, @Try.zero3, @Try.ty4, @Try.zero4, @Try.ty5, @Try.kind5, @Try.zero5, @Try.ty6, @Try.kind6, @Try.zero6, @Try.ty7, @Try.zero7, @Try.blank7, @Try.fld7_0, @Try.place7_0, @Try.fld7_1, @Try.place7_1, @Try.fld7_2, @Try.place7_2, @Try.fld7_3, @Try.place7_3, @Try.ty8, @Try.zero8, @Try.blank8, @Try.fld8_0, @Try.place8_0, @Try.fld8_1, @Try.place8_1, @Try.fld8_2, @Try.place8_2, @Try.fld8_3, @Try.place8_3, @Try.ty9, @Try.zero9, @Try.ty10, @Try.zero10, @Try.ty11, @Try.zero11, @Try.ty12, @Try.kind12, @Try.zero12, @Try.ty13, @Try.zero13, @Try.blank13, @Try.fld13_0, @Try.place13_0, @Try.fld13_1, @Try.place13_1, @Try.ty14, @Try.zero14, @Try.blank14, @Try.fld14_0, @Try.place14_0, @Try.fld14_1, @Try.place14_1, @Try.ty15⟩
theorem Try.facts1 : type_of% @Try.zero15 ∧ type_of% @Try.ty16 ∧ type_of% @Try.zero16 ∧ type_of% @Try.ty17 ∧ type_of% @Try.zero17 ∧ type_of% @Try.ty18 ∧ type_of% @Try.zero18 ∧ type_of% @Try.blank18 ∧ type_of% @Try.fld18_0 ∧ type_of% @Try.place18_0 ∧ type_of% @Try.ty19 ∧ type_of% @Try.zero19 ∧ type_of% @Try.blank19 ∧ type_of% @Try.fld19_0 ∧ type_of% @Try.place19_0 ∧ type_of% @Try.ty21 ∧ type_of% @Try.kind21 ∧ type_of% @Try.zero21 ∧ type_of% @Try.ty22 ∧ type_of% @Try.arr22 ∧ type_of% @Try.el22 ∧ type_of% @Try.slK22 ∧ type_of% @Try.zero22 ∧ type_of% @Try.blank22 ∧ type_of% @Try.place22 ∧ type_of% @Try.ty23 ∧ type_of% @Try.arr23 ∧ type_of% @Try.el23 ∧ type_of% @Try.slK23 ∧ type_of% @Try.zero23 ∧ type_of% @Try.blank23 ∧ type_of% @Try.place23 ∧ type_of% @Try.ty26 ∧ type_of% @Try.arr26 ∧ type_of% @Try.el26 ∧ type_of% @Try.slK26 ∧ type_of% @Try.zero26 ∧ type_of% @Try.blank26 ∧ type_of% @Try.place26 ∧ type_of% @Try.ty27 ∧ type_of% @Try.arr27 ∧ type_of% @Try.el27 ∧ type_of% @Try.slK27 ∧ type_of% @Try.zero27 ∧ type_of% @Try.blank27 ∧ type_of% @Try.place27 ∧ type_of% @Try.ty28 ∧ type_of% @Try.sl28 ∧ type_of% @Try.slK28 ∧ type_of% @Try.byt28 ∧ type_of% @Try.mkK28 ∧ type_of% @Try.zero28 ∧ type_of% @Try.ty29 ∧ type_of% @Try.zero29 ∧ type_of% @Try.blank29 ∧ type_of% @Try.fld29_0 ∧ type_of% @Try.place29_0 ∧ type_of% @Try.fld29_1 ∧ type_of% @Try.place29_1 ∧ type_of% @Try.ty30 :=
  ⟨@Try.zero15, @Try.ty16, @Try.zero16, @Try.ty17, @Try.zero17, @Try.ty18, @Try.zero18, @Try.blank18, @Try.fld18_0, @Try.place18_0, @Try.ty19, @Try.zero19, @Try.blank19, @Try.fld19_0, @Try.place19_0, @Try.ty21, @Try.kind21, @Try.zero21, @Try.ty22, @Try.arr22, @Try.el22, @Try.slK22, @Try.zero22, @Try.blank22, @Try.place22, @Try.ty23, @Try.arr23, @Try.el23, @Try.slK23, @Try.zero23, @Try.blank23, @Try.place23, @Try.ty26, @Try.arr26, @Try.el26, @Try.slK26, @Try.zero26, @Try.blank26, @Try.place26, @Try.ty27, @Try.arr27, @Try.el27, @Try.slK27, @Try.zero27, @Try.blank27, @Try.place27, @Try.ty28, @Try.sl28, @Try.slK28, @Try.byt28, @Try.mkK28, @Try.zero28, @Try.ty29, @Try.zero29, @Try.blank29, @Try.fld29_0, @Try.place29_0, @Try.fld29_1, @Try.place29_1, @Try.ty30⟩
theorem Try.facts2 : type_of% @Try.zero30 ∧ type_of% @Try.blank30 ∧ type_of% @Try.fld30_0 ∧ type_of% @Try.place30_0 ∧ type_of% @Try.fld30_1 ∧ type_of% @Try.place30_1 ∧ type_of% @Try.ty40 ∧ type_of% @Try.kind40 ∧ type_of% @Try.zero40 ∧ type_of% @Try.ty41 ∧ type_of% @Try.arr41 ∧ type_of% @Try.el41 ∧ type_of% @Try.slK41 ∧ type_of% @Try.zero41 ∧ type_of% @Try.blank41 ∧ type_of% @Try.place41 ∧ type_of% @Try.ty42 ∧ type_of% @Try.arr42 ∧ type_of% @Try.el42 ∧ type_of% @Try.slK42 ∧ type_of% @Try.zero42 ∧ type_of% @Try.blank42 ∧ type_of% @Try.place42 ∧ type_of% @Try.ty46 ∧ type_of% @Try.arr46 ∧ type_of% @Try.el46 ∧ type_of% @Try.slK46 ∧ type_of% @Try.zero46 ∧ type_of% @Try.blank46 ∧ type_of% @Try.place46 ∧ type_of% @Try.ty47 ∧ type_of% @Try.arr47 ∧ type_of% @Try.el47 ∧ type_of% @Try.slK47 ∧ type_of% @Try.zero47 ∧ type_of% @Try.blank47 ∧ type_of% @Try.place47 ∧ type_of% @Try.ty49 ∧ type_of% @Try.zero49 ∧ type_of% @Try.blank49 ∧ type_of% @Try.fld49_0 ∧ type_of% @Try.place49_0 ∧ type_of% @Try.fld49_1 ∧ type_of% @Try.place49_1 ∧ type_of% @Try.fld49_2 ∧ type_of% @Try.place49_2 ∧ type_of% @Try.fld49_3 ∧ type_of% @Try.place49_3 ∧ type_of% @Try.ty50 ∧ type_of% @Try.zero50 ∧ type_of% @Try.blank50 ∧ type_of% @Try.fld50_0 ∧ type_of% @Try.place50_0 ∧ type_of% @Try.fld50_1 ∧ type_of% @Try.place50_1 ∧ type_of% @Try.fld50_2 ∧ type_of% @Try.place50_2 ∧ type_of% @Try.fld50_3 ∧ type_of% @Try.place50_3 ∧ type_of% @Try.ty56 :=
  ⟨@Try.zero30, @Try.blank30, @Try.fld30_0, @Try.place30_0, @Try.fld30_1, @Try.place30_1, @Try.ty40, @Try.kind40, @Try.zero40, @Try.ty41, @Try.arr41, @Try.el41, @Try.slK41, @Try.zero41, @Try.blank41, @Try.place41, @Try.ty42, @Try.arr42, @Try.el42, @Try.slK42, @Try.zero42, @Try.blank42, @Try.place42, @Try.ty46, @Try.arr46, @Try.el46, @Try.slK46, @Try.zero46, @Try.blank46, @Try.place46, @Try.ty47, @Try.arr47, @Try.el47, @Try.slK47, @Try.zero47, @Try.blank47, @Try.place47, @Try.ty49, @Try.zero49, @Try.blank49, @Try.fld49_0, @Try.place49_0, @Try.fld49_1, @Try.place49_1, @Try.fld49_2, @Try.place49_2, @Try.fld49_3, @Try.place49_3, @Try.ty50, @Try.zero50, @Try.blank50, @Try.fld50_0, @Try.place50_0, @Try.fld50_1, @Try.place50_1, @Try.fld50_2, @Try.place50_2, @Try.fld50_3, @Try.place50_3, @Try.ty56⟩
theorem Try.facts3 : type_of% @Try.arr56 ∧ type_of% @Try.el56 ∧ type_of% @Try.slK56 ∧ type_of% @Try.zero56 ∧ type_of% @Try.blank56 ∧ type_of% @Try.place56 ∧ type_of% @Try.ty57 ∧ type_of% @Try.arr57 ∧ type_of% @Try.el57 ∧ type_of% @Try.slK57 ∧ type_of% @Try.zero57 ∧ type_of% @Try.blank57 ∧ type_of% @Try.place57 ∧ type_of% @Try.ty58 ∧ type_of% @Try.zero58 ∧ type_of% @Try.blank58 ∧ type_of% @Try.fld58_0 ∧ type_of% @Try.place58_0 ∧ type_of% @Try.fld58_1 ∧ type_of% @Try.place58_1 ∧ type_of% @Try.ty59 ∧ type_of% @Try.zero59 ∧ type_of% @Try.blank59 ∧ type_of% @Try.fld59_0 ∧ type_of% @Try.place59_0 ∧ type_of% @Try.fld59_1 ∧ type_of% @Try.place59_1 ∧ type_of% @Try.ty63 ∧ type_of% @Try.arr63 ∧ type_of% @Try.el63 ∧ type_of% @Try.slK63 ∧ type_of% @Try.zero63 ∧ type_of% @Try.blank63 ∧ type_of% @Try.place63 ∧ type_of% @Try.ty68 ∧ type_of% @Try.kind68 ∧ type_of% @Try.zero68 ∧ type_of% @Try.ty69 ∧ type_of% @Try.arr69 ∧ type_of% @Try.el69 ∧ type_of% @Try.slK69 ∧ type_of% @Try.zero69 ∧ type_of% @Try.blank69 ∧ type_of% @Try.place69 ∧ type_of% @Try.ty70 ∧ type_of% @Try.zero70 ∧ type_of% @Try.blank70 ∧ type_of% @Try.fld70_0 ∧ type_of% @Try.place70_0 ∧ type_of% @Try.fld70_1 ∧ type_of% @Try.place70_1 ∧ type_of% @Try.fld70_2 ∧ type_of% @Try.place70_2 ∧ type_of% @Try.fld70_3 ∧ type_of% @Try.place70_3 ∧ type_of% @Try.ty71 ∧ type_of% @Try.zero71 ∧ type_of% @Try.blank71 ∧ type_of% @Try.fld71_0 ∧ type_of% @Try.place71_0 :=
  ⟨@Try.arr56, @Try.el56, @Try.slK56, @Try.zero56, @Try.blank56, @Try.place56, @Try.ty57, @Try.arr57, @Try.el57, @Try.slK57, @Try.zero57, @Try.blank57, @Try.place57, @Try.ty58, @Try.zero58, @Try.blank58, @Try.fld58_0, @Try.place58_0, @Try.fld58_1, @Try.place58_1, @Try.ty59, @Try.zero59, @Try.blank59, @Try.fld59_0, @Try.place59_0, @Try.fld59_1, @Try.place59_1, @Try.ty63, @Try.arr63, @Try.el63, @Try.slK63, @Try.zero63, @Try.blank63, @Try.place63, @Try.ty68, @Try.kind68, @Try.zero68, @Try.ty69, @Try.arr69, @Try.el69, @Try.slK69, @Try.zero69, @Try.blank69, @Try.place69, @Try.ty70, @Try.zero70, @Try.blank70, @Try.fld70_0, @Try.place70_0, @Try.fld70_1, @Try.place70_1, @Try.fld70_2, @Try.place70_2, @Try.fld70_3, @Try.place70_3, @Try.ty71, @Try.zero71, @Try.blank71, @Try.fld71_0, @Try.place71_0⟩
theorem Try.facts4 : type_of% @Try.fld71_1 ∧ type_of% @Try.place71_1 ∧ type_of% @Try.fld71_2 ∧ type_of% @Try.place71_2 ∧ type_of% @Try.fld71_3 ∧ type_of% @Try.place71_3 ∧ type_of% @Try.ty79 ∧ type_of% @Try.zero79 ∧ type_of% @Try.ty82 ∧ type_of% @Try.zero82 ∧ type_of% @Try.blank82 ∧ type_of% @Try.fld82_0 ∧ type_of% @Try.place82_0 ∧ type_of% @Try.fld82_1 ∧ type_of% @Try.place82_1 ∧ type_of% @Try.ty83 ∧ type_of% @Try.zero83 ∧ type_of% @Try.blank83 ∧ type_of% @Try.fld83_0 ∧ type_of% @Try.place83_0 ∧ type_of% @Try.fld83_1 ∧ type_of% @Try.place83_1 ∧ type_of% @Try.ty87 ∧ type_of% @Try.arr87 ∧ type_of% @Try.el87 ∧ type_of% @Try.slK87 ∧ type_of% @Try.zero87 ∧ type_of% @Try.blank87 ∧ type_of% @Try.place87 ∧ type_of% @Try.ty89 ∧ type_of% @Try.arr89 ∧ type_of% @Try.el89 ∧ type_of% @Try.slK89 ∧ type_of% @Try.zero89 ∧ type_of% @Try.blank89 ∧ type_of% @Try.place89 ∧ type_of% @Try.ty90 ∧ type_of% @Try.arr90 ∧ type_of% @Try.el90 ∧ type_of% @Try.slK90 ∧ type_of% @Try.zero90 ∧ type_of% @Try.blank90 ∧ type_of% @Try.place90 ∧ type_of% @Try.ty97 ∧ type_of% @Try.zero97 ∧ type_of% @Try.blank97 ∧ type_of% @Try.fld97_0 ∧ type_of% @Try.place97_0 ∧ type_of% @Try.fld97_1 ∧ type_of% @Try.place97_1 ∧ type_of% @Try.fld97_2 ∧ type_of% @Try.place97_2 ∧ type_of% @Try.fld97_3 ∧ type_of% @Try.place97_3 ∧ type_of% @Try.ty98 ∧ type_of% @Try.zero98 ∧ type_of% @Try.blank98 ∧ type_of% @Try.fld98_0 ∧ type_of% @Try.place98_0 ∧ type_of% @Try.fld98_1 :=
  ⟨@Try.fld71_1, @Try.place71_1, @Try.fld71_2, @Try.place71_2, @Try.fld71_3, @Try.place71_3, @Try.ty79, @Try.zero79, @Try.ty82, @Try.zero82, @Try.blank82, @Try.fld82_0, @Try.place82_0, @Try.fld82_1, @Try.place82_1, @Try.ty83, @Try.zero83, @Try.blank83, @Try.fld83_0, @Try.place83_0, @Try.fld83_1, @Try.place83_1, @Try.ty87, @Try.arr87, @Try.el87, @Try.slK87, @Try.zero87, @Try.blank87, @Try.place87, @Try.ty89, @Try.arr89, @Try.el89, @Try.slK89, @Try.zero89, @Try.blank89, @Try.place89, @Try.ty90, @Try.arr90, @Try.el90, @Try.slK90, @Try.zero90, @Try.blank90, @Try.place90, @Try.ty97, @Try.zero97, @Try.blank97, @Try.fld97_0, @Try.place97_0, @Try.fld97_1, @Try.place97_1, @Try.fld97_2, @Try.place97_2, @Try.fld97_3, @Try.place97_3, @Try.ty98, @Try.zero98, @Try.blank98, @Try.fld98_0, @Try.place98_0, @Try.fld98_1⟩
theorem Try.facts5 : type_of% @Try.place98_1 ∧ type_of% @Try.fld98_2 ∧ type_of% @Try.place98_2 ∧ type_of% @Try.fld98_3 ∧ type_of% @Try.place98_3 ∧ type_of% @Try.ty103 ∧ type_of% @Try.kind103 ∧ type_of% @Try.zero103 ∧ type_of% @Try.ty104 ∧ type_of% @Try.kind104 ∧ type_of% @Try.zero104 ∧ type_of% @Try.ty105 ∧ type_of% @Try.kind105 ∧ type_of% @Try.zero105 ∧ type_of% @Try.ty107 ∧ type_of% @Try.zero107 ∧ type_of% @Try.ty108 ∧ type_of% @Try.kind108 ∧ type_of% @Try.zero108 ∧ type_of% @Try.ty109 ∧ type_of% @Try.kind109 ∧ type_of% @Try.zero109 ∧ type_of% @Try.ty110 ∧ type_of% @Try.zero110 ∧ type_of% @Try.blank110 ∧ type_of% @Try.fld110_0 ∧ type_of% @Try.place110_0 ∧ type_of% @Try.fld110_1 ∧ type_of% @Try.place110_1 ∧ type_of% @Try.fld110_2 ∧ type_of% @Try.place110_2 ∧ type_of% @Try.fld110_3 ∧ type_of% @Try.place110_3 ∧ type_of% @Try.fld110_4 ∧ type_of% @Try.place110_4 ∧ type_of% @Try.fld110_5 ∧ type_of% @Try.place110_5 ∧ type_of% @Try.fld110_6 ∧ type_of% @Try.place110_6 ∧ type_of% @Try.fld110_7 ∧ type_of% @Try.place110_7 ∧ type_of% @Try.fld110_8 ∧ type_of% @Try.place110_8 ∧ type_of% @Try.fld110_9 ∧ type_of% @Try.place110_9 ∧ type_of% @Try.fld110_10 ∧ type_of% @Try.place110_10 ∧ type_of% @Try.ty111 ∧ type_of% @Try.zero111 ∧ type_of% @Try.blank111 ∧ type_of% @Try.fld111_0 ∧ type_of% @Try.place111_0 ∧ type_of% @Try.fld111_1 ∧ type_of% @Try.place111_1 ∧ type_of% @Try.fld111_2 ∧ type_of% @Try.place111_2 ∧ type_of% @Try.fld111_3 ∧ type_of% @Try.place111_3 ∧ type_of% @Try.fld111_4 ∧ type_of% @Try.place111_4 :=
  ⟨@Try.place98_1, @Try.fld98_2, @Try.place98_2, @Try.fld98_3, @Try.place98_3, @Try.ty103, @Try.kind103, @Try.zero103, @Try.ty104, @Try.kind104, @Try.zero104, @Try.ty105, @Try.kind105, @Try.zero105, @Try.ty107, @Try.zero107, @Try.ty108, @Try.kind108, @Try.zero108, @Try.ty109, @Try.kind109, @Try.zero109, @Try.ty110, @Try.zero110, @Try.blank110, @Try.fld110_0, @Try.place110_0, @Try.fld110_1, @Try.place110_1, @Try.fld110_2, @Try.place110_2, @Try.fld110_3, @Try.place110_3, @Try.fld110_4, @Try.place110_4, @Try.fld110_5, @Try.place110_5, @Try.fld110_6, @Try.place110_6, @Try.fld110_7, @Try.place110_7, @Try.fld110_8, @Try.place110_8, @Try.fld110_9, @Try.place110_9, @Try.fld110_10, @Try.place110_10, @Try.ty111, @Try.zero111, @Try.blank111, @Try.fld111_0, @Try.place111_0, @Try.fld111_1, @Try.place111_1, @Try.fld111_2, @Try.place111_2, @Try.fld111_3, @Try.place111_3, @Try.fld111_4, @Try.place111_4⟩
theorem Try.facts6 : type_of% @Try.fld111_5 ∧ type_of% @Try.place111_5 ∧ type_of% @Try.fld111_6 ∧ type_of% @Try.place111_6 ∧ type_of% @Try.fld111_7 ∧ type_of% @Try.place111_7 ∧ type_of% @Try.fld111_8 ∧ type_of% @Try.place111_8 ∧ type_of% @Try.fld111_9 ∧ type_of% @Try.place111_9 ∧ type_of% @Try.fld111_10 ∧ type_of% @Try.place111_10 ∧ type_of% @Try.callable3 ∧ type_of% @Try.callable4 ∧ type_of% @Try.callable5 ∧ type_of% @Try.callable6 ∧ type_of% @Try.callable7 ∧ type_of% @Try.callable8 ∧ type_of% @Try.callable9 ∧ type_of% @Try.callable10 ∧ type_of% @Try.callable11 ∧ type_of% @Try.callable12 ∧ type_of% @Try.callable13 ∧ type_of% @Try.callable14 ∧ type_of% @Try.callable15 ∧ type_of% @Try.callable16 ∧ type_of% @Try.callable17 ∧ type_of% @Try.callable18 ∧ type_of% @Try.callable19 ∧ type_of% @Try.callable20 ∧ type_of% @Try.callable21 ∧ type_of% @Try.callable22 ∧ type_of% @Try.callable23 ∧ type_of% @Try.callable24 ∧ type_of% @Try.callable25 ∧ type_of% @Try.callable26 ∧ type_of% @Try.callable27 ∧ type_of% @Try.callable28 ∧ type_of% @Try.callable29 ∧ type_of% @Try.callable30 ∧ type_of% @Try.callable31 ∧ type_of% @Try.callable32 ∧ type_of% @Try.callable33 ∧ type_of% @Try.callable34 ∧ type_of% @Try.callable35 ∧ type_of% @Try.callable36 ∧ type_of% @Try.callable37 ∧ type_of% @Try.callable38 ∧ type_of% @Try.callable39 ∧ type_of% @Try.callable40 ∧ type_of% @Try.callable41 ∧ type_of% @Try.callable42 ∧ type_of% @Try.callable43 ∧ type_of% @Try.callable44 ∧ type_of% @Try.callable45 ∧ type_of% @Try.callable46 ∧ type_of% @Try.callable47 ∧ type_of% @Try.callable48 ∧ type_of% @Try.callable49 ∧ type_of% @Try.callable50 :=
  ⟨@Try.fld111_5, @Try.place111_5, @Try.fld111_6, @Try.place111_6, @Try.fld111_7, @Try.place111_7, @Try.fld111_8, @Try.place111_8, @Try.fld111_9, @Try.place111_9, @Try.fld111_10, @Try.place111_10, @Try.callable3, @Try.callable4, @Try.callable5, @Try.callable6, @Try.callable7, @Try.callable8, @Try.callable9, @Try.callable10, @Try.callable11, @Try.callable12, @Try.callable13, @Try.callable14, @Try.callable15, @Try.callable16, @Try.callable17, @Try.callable18, @Try.callable19, @Try.callable20, @Try.callable21, @Try.callable22, @Try.callable23, @Try.callable24, @Try.callable25, @Try.callable26, @Try.callable27, @Try.callable28, @Try.callable29, @Try.callable30, @Try.callable31, @Try.callable32, @Try.callable33, @Try.callable34, @Try.callable35, @Try.callable36, @Try.callable37, @Try.callable38, @Try.callable39, @Try.callable40, @Try.callable41, @Try.callable42, @Try.callable43, @Try.callable44, @Try.callable45, @Try.callable46, @Try.callable47, @Try.callable48, @Try.callable49, @Try.callable50⟩
theorem Try.facts7 : type_of% @Try.callable51 ∧ type_of% @Try.callable52 ∧ type_of% @Try.callable53 ∧ type_of% @Try.callable54 ∧ type_of% @Try.callable55 ∧ type_of% @Try.callable56 ∧ type_of% @Try.callable57 ∧ type_of% @Try.callable58 ∧ type_of% @Try.callable59 ∧ type_of% @Try.callable60 ∧ type_of% @Try.callable61 ∧ type_of% @Try.callable62 ∧ type_of% @Try.callable63 ∧ type_of% @Try.callable64 ∧ type_of% @Try.callable65 ∧ type_of% @Try.callable66 ∧ type_of% @Try.callable67 ∧ type_of% @Try.callable68 ∧ type_of% @Try.callable69 ∧ type_of% @Try.callable70 ∧ type_of% @Try.callable71 ∧ type_of% @Try.callable72 ∧ type_of% @Try.callable73 ∧ type_of% @Try.callable74 ∧ type_of% @Try.callable75 ∧ type_of% @Try.callable76 ∧ type_of% @Try.callable77 ∧ type_of% @Try.callable78 ∧ type_of% @Try.callable79 ∧ type_of% @Try.callable80 ∧ type_of% @Try.mixed ∧ type_of% @Try.isb4 ∧ type_of% @Try.lenK9 ∧ type_of% @Try.lenK10 ∧ type_of% @Try.lenK11 ∧ type_of% @Try.arrI22 ∧ type_of% @Try.arrI23 ∧ type_of% @Try.arrI26 ∧ type_of% @Try.arrI27 ∧ type_of% @Try.lenK28 ∧ type_of% @Try.arrI41 ∧ type_of% @Try.arrI42 ∧ type_of% @Try.arrI46 ∧ type_of% @Try.arrI47 ∧ type_of% @Try.arrN49 ∧ type_of% @Try.fds49 ∧ type_of% @Try.arrN50 ∧ type_of% @Try.fds50 ∧ type_of% @Try.arrI56 ∧ type_of% @Try.arrI63 ∧ type_of% @Try.arrI69 ∧ type_of% @Try.arrN70 ∧ type_of% @Try.fds70 ∧ type_of% @Try.arrN71 ∧ type_of% @Try.fds71 ∧ type_of% @Try.arrN82 ∧ type_of% @Try.fds82 ∧ type_of% @Try.arrN83 ∧ type_of% @Try.fds83 ∧ type_of% @Try.arrI87 :=
  ⟨@Try.callable51, @Try.callable52, @Try.callable53, @Try.callable54, @Try.callable55, @Try.callable56, @Try.callable57, @Try.callable58, @Try.callable59, @Try.callable60, @Try.callable61, @Try.callable62, @Try.callable63, @Try.callable64, @Try.callable65, @Try.callable66, @Try.callable67, @Try.callable68, @Try.callable69, @Try.callable70, @Try.callable71, @Try.callable72, @Try.callable73, @Try.callable74, @Try.callable75, @Try.callable76, @Try.callable77, @Try.callable78, @Try.callable79, @Try.callable80, @Try.mixed, @Try.isb4, @Try.lenK9, @Try.lenK10, @Try.lenK11, @Try.arrI22, @Try.arrI23, @Try.arrI26, @Try.arrI27, @Try.lenK28, @Try.arrI41, @Try.arrI42, @Try.arrI46, @Try.arrI47, @Try.arrN49, @Try.fds49, @Try.arrN50, @Try.fds50, @Try.arrI56, @Try.arrI63, @Try.arrI69, @Try.arrN70, @Try.fds70, @Try.arrN71, @Try.fds71, @Try.arrN82, @Try.fds82, @Try.arrN83, @Try.fds83, @Try.arrI87⟩
theorem Try.facts8 : type_of% @Try.arrI89 :=
  @Try.arrI89
/-- All of them, under one name. -/
theorem Try.facts : type_of% @Try.facts0 ∧ type_of% @Try.facts1 ∧ type_of% @Try.facts2 ∧ type_of% @Try.facts3 ∧ type_of% @Try.facts4 ∧ type_of% @Try.facts5 ∧ type_of% @Try.facts6 ∧ type_of% @Try.facts7 ∧ type_of% @Try.facts8 :=
  ⟨@Try.facts0, @Try.facts1, @Try.facts2, @Try.facts3, @Try.facts4, @Try.facts5, @Try.facts6, @Try.facts7, @Try.facts8⟩
end Go.Proofs.Ytpplfckcblaoiaa
