/-
  Closed facts on the tables of this seat's program, each by the kernel (made by program from the translation: wip/lib/facts.py).
-/
import Derived.Test.YtdbaoohbnenopaaDoorVcgE
import Derived.Test.YtdbaoohbnenopaaDoorVcgZ1
import Derived.Test.YtdbaoohbnenopaaDoorProg
import Derived.KernelRfl
set_option linter.unusedVariables false
set_option linter.unusedSimpArgs false
namespace Go.Proofs.YtdbaoohbnenopaaDoor
open Go.Vcg
instance : Vcg.Tables Tryd.prog := ⟨fun n => if n = 0 then some ⟨false, rowI .u32 8 ivW⟩ else if n = 1 then some ⟨false, rowI .u32 64 kW⟩ else if n = 2 then some ⟨false, rowI .u32 64 kW⟩ else none⟩
theorem Tryd.tab0 : Tables.row Tryd.prog 0 = some ⟨false, rowI .u32 8 ivW⟩ := rfl
theorem Tryd.tab1 : Tables.row Tryd.prog 1 = some ⟨false, rowI .u32 64 kW⟩ := rfl
theorem Tryd.tab2 : Tables.row Tryd.prog 2 = some ⟨false, rowI .u32 64 kW⟩ := rfl

theorem Tryd.ty2 : tyOf Tryd.prog 2 = some (false, 1) := by kernel_rfl
theorem Tryd.kind2 : kindOf Tryd.prog 2 = some IntKind.i64 := by kernel_rfl
theorem Tryd.zero2 : zeroOf Tryd.prog 2 = some ([Value.int IntKind.i64 0]) := by kernel_rfl
theorem Tryd.ty3 : tyOf Tryd.prog 3 = some (false, 1) := by kernel_rfl
theorem Tryd.kind3 : kindOf Tryd.prog 3 = some IntKind.i64 := by kernel_rfl
theorem Tryd.zero3 : zeroOf Tryd.prog 3 = some ([Value.int IntKind.i64 0]) := by kernel_rfl
theorem Tryd.ty4 : tyOf Tryd.prog 4 = some (false, 1) := by kernel_rfl
theorem Tryd.zero4 : zeroOf Tryd.prog 4 = some ([Value.bool false]) := by kernel_rfl
theorem Tryd.ty5 : tyOf Tryd.prog 5 = some (false, 1) := by kernel_rfl
theorem Tryd.kind5 : kindOf Tryd.prog 5 = some IntKind.u8 := by kernel_rfl
theorem Tryd.zero5 : zeroOf Tryd.prog 5 = some ([Value.int IntKind.u8 0]) := by kernel_rfl
theorem Tryd.ty6 : tyOf Tryd.prog 6 = some (false, 1) := by kernel_rfl
theorem Tryd.kind6 : kindOf Tryd.prog 6 = some IntKind.u8 := by kernel_rfl
theorem Tryd.zero6 : zeroOf Tryd.prog 6 = some ([Value.int IntKind.u8 0]) := by kernel_rfl
theorem Tryd.ty7 : tyOf Tryd.prog 7 = some (true, 4) := by kernel_rfl
theorem Tryd.zero7 : zeroOf Tryd.prog 7 = some ([Value.int IntKind.i64 0, Value.int IntKind.i64 0, Value.bool false, Value.int IntKind.u8 0]) := by kernel_rfl
theorem Tryd.blank7 : blankOf Tryd.prog 7 = some ([Sum.inl (Value.int IntKind.i64 0), Sum.inl (Value.int IntKind.i64 0), Sum.inl (Value.bool false), Sum.inl (Value.int IntKind.u8 0)]) := by kernel_rfl
theorem Tryd.fld7_0 : fieldOf Tryd.prog 7 0 = some (0, false, 1) := by kernel_rfl
theorem Tryd.place7_0 : placeOf Tryd.prog 7 0 = some (0, 1) := by kernel_rfl
theorem Tryd.fld7_1 : fieldOf Tryd.prog 7 1 = some (1, false, 1) := by kernel_rfl
theorem Tryd.place7_1 : placeOf Tryd.prog 7 1 = some (1, 1) := by kernel_rfl
theorem Tryd.fld7_2 : fieldOf Tryd.prog 7 2 = some (2, false, 1) := by kernel_rfl
theorem Tryd.place7_2 : placeOf Tryd.prog 7 2 = some (2, 1) := by kernel_rfl
theorem Tryd.fld7_3 : fieldOf Tryd.prog 7 3 = some (3, false, 1) := by kernel_rfl
theorem Tryd.place7_3 : placeOf Tryd.prog 7 3 = some (3, 1) := by kernel_rfl
theorem Tryd.ty8 : tyOf Tryd.prog 8 = some (true, 4) := by kernel_rfl
theorem Tryd.zero8 : zeroOf Tryd.prog 8 = some ([Value.int IntKind.i64 0, Value.int IntKind.i64 0, Value.bool false, Value.int IntKind.u8 0]) := by kernel_rfl
theorem Tryd.blank8 : blankOf Tryd.prog 8 = some ([Sum.inl (Value.int IntKind.i64 0), Sum.inl (Value.int IntKind.i64 0), Sum.inl (Value.bool false), Sum.inl (Value.int IntKind.u8 0)]) := by kernel_rfl
theorem Tryd.fld8_0 : fieldOf Tryd.prog 8 0 = some (0, false, 1) := by kernel_rfl
theorem Tryd.place8_0 : placeOf Tryd.prog 8 0 = some (0, 1) := by kernel_rfl
theorem Tryd.fld8_1 : fieldOf Tryd.prog 8 1 = some (1, false, 1) := by kernel_rfl
theorem Tryd.place8_1 : placeOf Tryd.prog 8 1 = some (1, 1) := by kernel_rfl
theorem Tryd.fld8_2 : fieldOf Tryd.prog 8 2 = some (2, false, 1) := by kernel_rfl
theorem Tryd.place8_2 : placeOf Tryd.prog 8 2 = some (2, 1) := by kernel_rfl
theorem Tryd.fld8_3 : fieldOf Tryd.prog 8 3 = some (3, false, 1) := by kernel_rfl
theorem Tryd.place8_3 : placeOf Tryd.prog 8 3 = some (3, 1) := by kernel_rfl
theorem Tryd.ty9 : tyOf Tryd.prog 9 = some (false, 1) := by kernel_rfl
theorem Tryd.zero9 : zeroOf Tryd.prog 9 = some ([Value.string ByteArray.empty]) := by kernel_rfl
theorem Tryd.ty10 : tyOf Tryd.prog 10 = some (false, 1) := by kernel_rfl
theorem Tryd.zero10 : zeroOf Tryd.prog 10 = some ([Value.string ByteArray.empty]) := by kernel_rfl
theorem Tryd.ty11 : tyOf Tryd.prog 11 = some (false, 1) := by kernel_rfl
theorem Tryd.zero11 : zeroOf Tryd.prog 11 = some ([Value.string ByteArray.empty]) := by kernel_rfl
theorem Tryd.ty12 : tyOf Tryd.prog 12 = some (false, 1) := by kernel_rfl
theorem Tryd.kind12 : kindOf Tryd.prog 12 = some IntKind.u64 := by kernel_rfl
theorem Tryd.zero12 : zeroOf Tryd.prog 12 = some ([Value.int IntKind.u64 0]) := by kernel_rfl
theorem Tryd.ty13 : tyOf Tryd.prog 13 = some (true, 2) := by kernel_rfl
theorem Tryd.zero13 : zeroOf Tryd.prog 13 = some ([Value.string ByteArray.empty, Value.int IntKind.u64 0]) := by kernel_rfl
theorem Tryd.blank13 : blankOf Tryd.prog 13 = some ([Sum.inl (Value.string ByteArray.empty), Sum.inl (Value.int IntKind.u64 0)]) := by kernel_rfl
theorem Tryd.fld13_0 : fieldOf Tryd.prog 13 0 = some (0, false, 1) := by kernel_rfl
theorem Tryd.place13_0 : placeOf Tryd.prog 13 0 = some (0, 1) := by kernel_rfl
theorem Tryd.fld13_1 : fieldOf Tryd.prog 13 1 = some (1, false, 1) := by kernel_rfl
theorem Tryd.place13_1 : placeOf Tryd.prog 13 1 = some (1, 1) := by kernel_rfl
theorem Tryd.ty14 : tyOf Tryd.prog 14 = some (true, 2) := by kernel_rfl
theorem Tryd.zero14 : zeroOf Tryd.prog 14 = some ([Value.string ByteArray.empty, Value.int IntKind.u64 0]) := by kernel_rfl
theorem Tryd.blank14 : blankOf Tryd.prog 14 = some ([Sum.inl (Value.string ByteArray.empty), Sum.inl (Value.int IntKind.u64 0)]) := by kernel_rfl
theorem Tryd.fld14_0 : fieldOf Tryd.prog 14 0 = some (0, false, 1) := by kernel_rfl
theorem Tryd.place14_0 : placeOf Tryd.prog 14 0 = some (0, 1) := by kernel_rfl
theorem Tryd.fld14_1 : fieldOf Tryd.prog 14 1 = some (1, false, 1) := by kernel_rfl
theorem Tryd.place14_1 : placeOf Tryd.prog 14 1 = some (1, 1) := by kernel_rfl
theorem Tryd.ty15 : tyOf Tryd.prog 15 = some (false, 1) := by kernel_rfl
theorem Tryd.zero15 : zeroOf Tryd.prog 15 = some ([Value.pointer none]) := by kernel_rfl
theorem Tryd.ty16 : tyOf Tryd.prog 16 = some (false, 1) := by kernel_rfl
theorem Tryd.zero16 : zeroOf Tryd.prog 16 = some ([Value.pointer none]) := by kernel_rfl
theorem Tryd.ty17 : tyOf Tryd.prog 17 = some (false, 1) := by kernel_rfl
theorem Tryd.zero17 : zeroOf Tryd.prog 17 = some ([Value.pointer none]) := by kernel_rfl
theorem Tryd.ty18 : tyOf Tryd.prog 18 = some (true, 1) := by kernel_rfl
theorem Tryd.zero18 : zeroOf Tryd.prog 18 = some ([Value.pointer none]) := by kernel_rfl
theorem Tryd.blank18 : blankOf Tryd.prog 18 = some ([Sum.inl (Value.pointer none)]) := by kernel_rfl
theorem Tryd.fld18_0 : fieldOf Tryd.prog 18 0 = some (0, false, 1) := by kernel_rfl
theorem Tryd.place18_0 : placeOf Tryd.prog 18 0 = some (0, 1) := by kernel_rfl
theorem Tryd.ty19 : tyOf Tryd.prog 19 = some (true, 1) := by kernel_rfl
theorem Tryd.zero19 : zeroOf Tryd.prog 19 = some ([Value.pointer none]) := by kernel_rfl
theorem Tryd.blank19 : blankOf Tryd.prog 19 = some ([Sum.inl (Value.pointer none)]) := by kernel_rfl
theorem Tryd.fld19_0 : fieldOf Tryd.prog 19 0 = some (0, false, 1) := by kernel_rfl
theorem Tryd.place19_0 : placeOf Tryd.prog 19 0 = some (0, 1) := by kernel_rfl
theorem Tryd.ty21 : tyOf Tryd.prog 21 = some (false, 1) := by kernel_rfl
theorem Tryd.kind21 : kindOf Tryd.prog 21 = some IntKind.i32 := by kernel_rfl
theorem Tryd.zero21 : zeroOf Tryd.prog 21 = some ([Value.int IntKind.i32 0]) := by kernel_rfl
theorem Tryd.ty22 : tyOf Tryd.prog 22 = some (false, 1) := by kernel_rfl
theorem Tryd.sl22 : Vcg.elemOf Tryd.prog 22 = some 1 := by kernel_rfl
theorem Tryd.slK22 : slK Tryd.prog 22 = some (none, 1) := by kernel_rfl
theorem Tryd.mkK22 : mkK Tryd.prog 22 = some ([Value.int IntKind.u8 0], 1, 1) := by kernel_rfl
theorem Tryd.zero22 : zeroOf Tryd.prog 22 = some ([Value.slice none 0 0]) := by kernel_rfl
theorem Tryd.ty23 : tyOf Tryd.prog 23 = some (true, 2) := by kernel_rfl
theorem Tryd.zero23 : zeroOf Tryd.prog 23 = some ([Value.slice none 0 0, Value.int IntKind.i64 0]) := by kernel_rfl
theorem Tryd.blank23 : blankOf Tryd.prog 23 = some ([Sum.inl (Value.slice none 0 0), Sum.inl (Value.int IntKind.i64 0)]) := by kernel_rfl
theorem Tryd.fld23_0 : fieldOf Tryd.prog 23 0 = some (0, false, 1) := by kernel_rfl
theorem Tryd.place23_0 : placeOf Tryd.prog 23 0 = some (0, 1) := by kernel_rfl
theorem Tryd.fld23_1 : fieldOf Tryd.prog 23 1 = some (1, false, 1) := by kernel_rfl
theorem Tryd.place23_1 : placeOf Tryd.prog 23 1 = some (1, 1) := by kernel_rfl
theorem Tryd.ty24 : tyOf Tryd.prog 24 = some (true, 2) := by kernel_rfl
theorem Tryd.zero24 : zeroOf Tryd.prog 24 = some ([Value.slice none 0 0, Value.int IntKind.i64 0]) := by kernel_rfl
theorem Tryd.blank24 : blankOf Tryd.prog 24 = some ([Sum.inl (Value.slice none 0 0), Sum.inl (Value.int IntKind.i64 0)]) := by kernel_rfl
theorem Tryd.fld24_0 : fieldOf Tryd.prog 24 0 = some (0, false, 1) := by kernel_rfl
theorem Tryd.place24_0 : placeOf Tryd.prog 24 0 = some (0, 1) := by kernel_rfl
theorem Tryd.fld24_1 : fieldOf Tryd.prog 24 1 = some (1, false, 1) := by kernel_rfl
theorem Tryd.place24_1 : placeOf Tryd.prog 24 1 = some (1, 1) := by kernel_rfl
theorem Tryd.ty26 : tyOf Tryd.prog 26 = some (true, 32) := by kernel_rfl
theorem Tryd.arr26 : arrOf Tryd.prog 26 = some (32, 1) := by kernel_rfl
theorem Tryd.el26 : arrEl Tryd.prog 26 = some (32, false, 1) := by kernel_rfl
theorem Tryd.slK26 : slK Tryd.prog 26 = some (some 32, 1) := by kernel_rfl
theorem Tryd.zero26 : zeroOf Tryd.prog 26 = some (List.replicate 32 (Value.int IntKind.u8 0)) := by kernel_rfl
theorem Tryd.blank26 : blankOf Tryd.prog 26 = some (List.replicate 32 (Sum.inl (Value.int IntKind.u8 0))) := by kernel_rfl
theorem Tryd.place26 (i : Nat) : placeOf Tryd.prog 26 i = some (i * 1, 1) := by unfold placeOf; rw [Tryd.arr26]
theorem Tryd.ty27 : tyOf Tryd.prog 27 = some (true, 32) := by kernel_rfl
theorem Tryd.arr27 : arrOf Tryd.prog 27 = some (32, 1) := by kernel_rfl
theorem Tryd.el27 : arrEl Tryd.prog 27 = some (32, false, 1) := by kernel_rfl
theorem Tryd.slK27 : slK Tryd.prog 27 = some (some 32, 1) := by kernel_rfl
theorem Tryd.zero27 : zeroOf Tryd.prog 27 = some (List.replicate 32 (Value.int IntKind.u8 0)) := by kernel_rfl
theorem Tryd.blank27 : blankOf Tryd.prog 27 = some (List.replicate 32 (Sum.inl (Value.int IntKind.u8 0))) := by kernel_rfl
theorem Tryd.place27 (i : Nat) : placeOf Tryd.prog 27 i = some (i * 1, 1) := by unfold placeOf; rw [Tryd.arr27]
theorem Tryd.ty39 : tyOf Tryd.prog 39 = some (false, 1) := by kernel_rfl
theorem Tryd.kind39 : kindOf Tryd.prog 39 = some IntKind.u32 := by kernel_rfl
theorem Tryd.zero39 : zeroOf Tryd.prog 39 = some ([Value.int IntKind.u32 0]) := by kernel_rfl
theorem Tryd.ty40 : tyOf Tryd.prog 40 = some (true, 8) := by kernel_rfl
theorem Tryd.arr40 : arrOf Tryd.prog 40 = some (8, 1) := by kernel_rfl
theorem Tryd.el40 : arrEl Tryd.prog 40 = some (8, false, 1) := by kernel_rfl
theorem Tryd.slK40 : slK Tryd.prog 40 = some (some 8, 1) := by kernel_rfl
theorem Tryd.zero40 : zeroOf Tryd.prog 40 = some ([Value.int IntKind.u32 0, Value.int IntKind.u32 0, Value.int IntKind.u32 0, Value.int IntKind.u32 0, Value.int IntKind.u32 0, Value.int IntKind.u32 0, Value.int IntKind.u32 0, Value.int IntKind.u32 0]) := by kernel_rfl
theorem Tryd.blank40 : blankOf Tryd.prog 40 = some ([Sum.inl (Value.int IntKind.u32 0), Sum.inl (Value.int IntKind.u32 0), Sum.inl (Value.int IntKind.u32 0), Sum.inl (Value.int IntKind.u32 0), Sum.inl (Value.int IntKind.u32 0), Sum.inl (Value.int IntKind.u32 0), Sum.inl (Value.int IntKind.u32 0), Sum.inl (Value.int IntKind.u32 0)]) := by kernel_rfl
theorem Tryd.place40 (i : Nat) : placeOf Tryd.prog 40 i = some (i * 1, 1) := by unfold placeOf; rw [Tryd.arr40]
theorem Tryd.ty44 : tyOf Tryd.prog 44 = some (false, 1) := by kernel_rfl
theorem Tryd.sl44 : Vcg.elemOf Tryd.prog 44 = some 1 := by kernel_rfl
theorem Tryd.slK44 : slK Tryd.prog 44 = some (none, 1) := by kernel_rfl
theorem Tryd.mkK44 : mkK Tryd.prog 44 = some ([Value.slice none 0 0], 1, 24) := by kernel_rfl
theorem Tryd.zero44 : zeroOf Tryd.prog 44 = some ([Value.slice none 0 0]) := by kernel_rfl
theorem Tryd.ty48 : tyOf Tryd.prog 48 = some (false, 1) := by kernel_rfl
theorem Tryd.kind48 : kindOf Tryd.prog 48 = some IntKind.u64 := by kernel_rfl
theorem Tryd.zero48 : zeroOf Tryd.prog 48 = some ([Value.int IntKind.u64 0]) := by kernel_rfl
theorem Tryd.ty49 : tyOf Tryd.prog 49 = some (false, 1) := by kernel_rfl
theorem Tryd.kind49 : kindOf Tryd.prog 49 = some IntKind.u64 := by kernel_rfl
theorem Tryd.zero49 : zeroOf Tryd.prog 49 = some ([Value.int IntKind.u64 0]) := by kernel_rfl
theorem Tryd.ty51 : tyOf Tryd.prog 51 = some (true, 64) := by kernel_rfl
theorem Tryd.arr51 : arrOf Tryd.prog 51 = some (64, 1) := by kernel_rfl
theorem Tryd.el51 : arrEl Tryd.prog 51 = some (64, false, 1) := by kernel_rfl
theorem Tryd.slK51 : slK Tryd.prog 51 = some (some 64, 1) := by kernel_rfl
theorem Tryd.zero51 : zeroOf Tryd.prog 51 = some (List.replicate 64 (Value.int IntKind.u32 0)) := by kernel_rfl
theorem Tryd.blank51 : blankOf Tryd.prog 51 = some (List.replicate 64 (Sum.inl (Value.int IntKind.u32 0))) := by kernel_rfl
theorem Tryd.place51 (i : Nat) : placeOf Tryd.prog 51 i = some (i * 1, 1) := by unfold placeOf; rw [Tryd.arr51]
theorem Tryd.ty59 : tyOf Tryd.prog 59 = some (true, 4) := by kernel_rfl
theorem Tryd.zero59 : zeroOf Tryd.prog 59 = some ([Value.pointer none, Value.pointer none, Value.pointer none, Value.string ByteArray.empty]) := by kernel_rfl
theorem Tryd.blank59 : blankOf Tryd.prog 59 = some ([Sum.inl (Value.pointer none), Sum.inl (Value.pointer none), Sum.inl (Value.pointer none), Sum.inl (Value.string ByteArray.empty)]) := by kernel_rfl
theorem Tryd.fld59_0 : fieldOf Tryd.prog 59 0 = some (0, false, 1) := by kernel_rfl
theorem Tryd.place59_0 : placeOf Tryd.prog 59 0 = some (0, 1) := by kernel_rfl
theorem Tryd.fld59_1 : fieldOf Tryd.prog 59 1 = some (1, false, 1) := by kernel_rfl
theorem Tryd.place59_1 : placeOf Tryd.prog 59 1 = some (1, 1) := by kernel_rfl
theorem Tryd.fld59_2 : fieldOf Tryd.prog 59 2 = some (2, false, 1) := by kernel_rfl
theorem Tryd.place59_2 : placeOf Tryd.prog 59 2 = some (2, 1) := by kernel_rfl
theorem Tryd.fld59_3 : fieldOf Tryd.prog 59 3 = some (3, false, 1) := by kernel_rfl
theorem Tryd.place59_3 : placeOf Tryd.prog 59 3 = some (3, 1) := by kernel_rfl
theorem Tryd.ty60 : tyOf Tryd.prog 60 = some (true, 4) := by kernel_rfl
theorem Tryd.zero60 : zeroOf Tryd.prog 60 = some ([Value.pointer none, Value.pointer none, Value.pointer none, Value.string ByteArray.empty]) := by kernel_rfl
theorem Tryd.blank60 : blankOf Tryd.prog 60 = some ([Sum.inl (Value.pointer none), Sum.inl (Value.pointer none), Sum.inl (Value.pointer none), Sum.inl (Value.string ByteArray.empty)]) := by kernel_rfl
theorem Tryd.fld60_0 : fieldOf Tryd.prog 60 0 = some (0, false, 1) := by kernel_rfl
theorem Tryd.place60_0 : placeOf Tryd.prog 60 0 = some (0, 1) := by kernel_rfl
theorem Tryd.fld60_1 : fieldOf Tryd.prog 60 1 = some (1, false, 1) := by kernel_rfl
theorem Tryd.place60_1 : placeOf Tryd.prog 60 1 = some (1, 1) := by kernel_rfl
theorem Tryd.fld60_2 : fieldOf Tryd.prog 60 2 = some (2, false, 1) := by kernel_rfl
theorem Tryd.place60_2 : placeOf Tryd.prog 60 2 = some (2, 1) := by kernel_rfl
theorem Tryd.fld60_3 : fieldOf Tryd.prog 60 3 = some (3, false, 1) := by kernel_rfl
theorem Tryd.place60_3 : placeOf Tryd.prog 60 3 = some (3, 1) := by kernel_rfl
theorem Tryd.ty65 : tyOf Tryd.prog 65 = some (false, 1) := by kernel_rfl
theorem Tryd.kind65 : kindOf Tryd.prog 65 = some IntKind.u8 := by kernel_rfl
theorem Tryd.zero65 : zeroOf Tryd.prog 65 = some ([Value.int IntKind.u8 0]) := by kernel_rfl
theorem Tryd.ty66 : tyOf Tryd.prog 66 = some (false, 1) := by kernel_rfl
theorem Tryd.kind66 : kindOf Tryd.prog 66 = some IntKind.u8 := by kernel_rfl
theorem Tryd.zero66 : zeroOf Tryd.prog 66 = some ([Value.int IntKind.u8 0]) := by kernel_rfl
theorem Tryd.ty68 : tyOf Tryd.prog 68 = some (false, 1) := by kernel_rfl
theorem Tryd.zero68 : zeroOf Tryd.prog 68 = some ([Value.pointer none]) := by kernel_rfl
theorem Tryd.ty69 : tyOf Tryd.prog 69 = some (false, 1) := by kernel_rfl
theorem Tryd.kind69 : kindOf Tryd.prog 69 = some IntKind.i32 := by kernel_rfl
theorem Tryd.zero69 : zeroOf Tryd.prog 69 = some ([Value.int IntKind.i32 0]) := by kernel_rfl
theorem Tryd.ty70 : tyOf Tryd.prog 70 = some (false, 1) := by kernel_rfl
theorem Tryd.kind70 : kindOf Tryd.prog 70 = some IntKind.i32 := by kernel_rfl
theorem Tryd.zero70 : zeroOf Tryd.prog 70 = some ([Value.int IntKind.i32 0]) := by kernel_rfl
theorem Tryd.ty71 : tyOf Tryd.prog 71 = some (true, 11) := by kernel_rfl
theorem Tryd.zero71 : zeroOf Tryd.prog 71 = some ([Value.int IntKind.u64 0, Value.int IntKind.u64 0, Value.int IntKind.u32 0, Value.int IntKind.u8 0, Value.int IntKind.u8 0, Value.int IntKind.u8 0, Value.int IntKind.u8 0, Value.nilFunc, Value.pointer none, Value.int IntKind.i32 0, Value.int IntKind.i32 0]) := by kernel_rfl
theorem Tryd.blank71 : blankOf Tryd.prog 71 = some ([Sum.inl (Value.int IntKind.u64 0), Sum.inl (Value.int IntKind.u64 0), Sum.inl (Value.int IntKind.u32 0), Sum.inl (Value.int IntKind.u8 0), Sum.inl (Value.int IntKind.u8 0), Sum.inl (Value.int IntKind.u8 0), Sum.inl (Value.int IntKind.u8 0), Sum.inl (Value.nilFunc), Sum.inl (Value.pointer none), Sum.inl (Value.int IntKind.i32 0), Sum.inl (Value.int IntKind.i32 0)]) := by kernel_rfl
theorem Tryd.fld71_0 : fieldOf Tryd.prog 71 0 = some (0, false, 1) := by kernel_rfl
theorem Tryd.place71_0 : placeOf Tryd.prog 71 0 = some (0, 1) := by kernel_rfl
theorem Tryd.fld71_1 : fieldOf Tryd.prog 71 1 = some (1, false, 1) := by kernel_rfl
theorem Tryd.place71_1 : placeOf Tryd.prog 71 1 = some (1, 1) := by kernel_rfl
theorem Tryd.fld71_2 : fieldOf Tryd.prog 71 2 = some (2, false, 1) := by kernel_rfl
theorem Tryd.place71_2 : placeOf Tryd.prog 71 2 = some (2, 1) := by kernel_rfl
theorem Tryd.fld71_3 : fieldOf Tryd.prog 71 3 = some (3, false, 1) := by kernel_rfl
theorem Tryd.place71_3 : placeOf Tryd.prog 71 3 = some (3, 1) := by kernel_rfl
theorem Tryd.fld71_4 : fieldOf Tryd.prog 71 4 = some (4, false, 1) := by kernel_rfl
theorem Tryd.place71_4 : placeOf Tryd.prog 71 4 = some (4, 1) := by kernel_rfl
theorem Tryd.fld71_5 : fieldOf Tryd.prog 71 5 = some (5, false, 1) := by kernel_rfl
theorem Tryd.place71_5 : placeOf Tryd.prog 71 5 = some (5, 1) := by kernel_rfl
theorem Tryd.fld71_6 : fieldOf Tryd.prog 71 6 = some (6, false, 1) := by kernel_rfl
theorem Tryd.place71_6 : placeOf Tryd.prog 71 6 = some (6, 1) := by kernel_rfl
theorem Tryd.fld71_7 : fieldOf Tryd.prog 71 7 = some (7, false, 1) := by kernel_rfl
theorem Tryd.place71_7 : placeOf Tryd.prog 71 7 = some (7, 1) := by kernel_rfl
theorem Tryd.fld71_8 : fieldOf Tryd.prog 71 8 = some (8, false, 1) := by kernel_rfl
theorem Tryd.place71_8 : placeOf Tryd.prog 71 8 = some (8, 1) := by kernel_rfl
theorem Tryd.fld71_9 : fieldOf Tryd.prog 71 9 = some (9, false, 1) := by kernel_rfl
theorem Tryd.place71_9 : placeOf Tryd.prog 71 9 = some (9, 1) := by kernel_rfl
theorem Tryd.fld71_10 : fieldOf Tryd.prog 71 10 = some (10, false, 1) := by kernel_rfl
theorem Tryd.place71_10 : placeOf Tryd.prog 71 10 = some (10, 1) := by kernel_rfl
theorem Tryd.ty72 : tyOf Tryd.prog 72 = some (true, 11) := by kernel_rfl
theorem Tryd.zero72 : zeroOf Tryd.prog 72 = some ([Value.int IntKind.u64 0, Value.int IntKind.u64 0, Value.int IntKind.u32 0, Value.int IntKind.u8 0, Value.int IntKind.u8 0, Value.int IntKind.u8 0, Value.int IntKind.u8 0, Value.nilFunc, Value.pointer none, Value.int IntKind.i32 0, Value.int IntKind.i32 0]) := by kernel_rfl
theorem Tryd.blank72 : blankOf Tryd.prog 72 = some ([Sum.inl (Value.int IntKind.u64 0), Sum.inl (Value.int IntKind.u64 0), Sum.inl (Value.int IntKind.u32 0), Sum.inl (Value.int IntKind.u8 0), Sum.inl (Value.int IntKind.u8 0), Sum.inl (Value.int IntKind.u8 0), Sum.inl (Value.int IntKind.u8 0), Sum.inl (Value.nilFunc), Sum.inl (Value.pointer none), Sum.inl (Value.int IntKind.i32 0), Sum.inl (Value.int IntKind.i32 0)]) := by kernel_rfl
theorem Tryd.fld72_0 : fieldOf Tryd.prog 72 0 = some (0, false, 1) := by kernel_rfl
theorem Tryd.place72_0 : placeOf Tryd.prog 72 0 = some (0, 1) := by kernel_rfl
theorem Tryd.fld72_1 : fieldOf Tryd.prog 72 1 = some (1, false, 1) := by kernel_rfl
theorem Tryd.place72_1 : placeOf Tryd.prog 72 1 = some (1, 1) := by kernel_rfl
theorem Tryd.fld72_2 : fieldOf Tryd.prog 72 2 = some (2, false, 1) := by kernel_rfl
theorem Tryd.place72_2 : placeOf Tryd.prog 72 2 = some (2, 1) := by kernel_rfl
theorem Tryd.fld72_3 : fieldOf Tryd.prog 72 3 = some (3, false, 1) := by kernel_rfl
theorem Tryd.place72_3 : placeOf Tryd.prog 72 3 = some (3, 1) := by kernel_rfl
theorem Tryd.fld72_4 : fieldOf Tryd.prog 72 4 = some (4, false, 1) := by kernel_rfl
theorem Tryd.place72_4 : placeOf Tryd.prog 72 4 = some (4, 1) := by kernel_rfl
theorem Tryd.fld72_5 : fieldOf Tryd.prog 72 5 = some (5, false, 1) := by kernel_rfl
theorem Tryd.place72_5 : placeOf Tryd.prog 72 5 = some (5, 1) := by kernel_rfl
theorem Tryd.fld72_6 : fieldOf Tryd.prog 72 6 = some (6, false, 1) := by kernel_rfl
theorem Tryd.place72_6 : placeOf Tryd.prog 72 6 = some (6, 1) := by kernel_rfl
theorem Tryd.fld72_7 : fieldOf Tryd.prog 72 7 = some (7, false, 1) := by kernel_rfl
theorem Tryd.place72_7 : placeOf Tryd.prog 72 7 = some (7, 1) := by kernel_rfl
theorem Tryd.fld72_8 : fieldOf Tryd.prog 72 8 = some (8, false, 1) := by kernel_rfl
theorem Tryd.place72_8 : placeOf Tryd.prog 72 8 = some (8, 1) := by kernel_rfl
theorem Tryd.fld72_9 : fieldOf Tryd.prog 72 9 = some (9, false, 1) := by kernel_rfl
theorem Tryd.place72_9 : placeOf Tryd.prog 72 9 = some (9, 1) := by kernel_rfl
theorem Tryd.fld72_10 : fieldOf Tryd.prog 72 10 = some (10, false, 1) := by kernel_rfl
theorem Tryd.place72_10 : placeOf Tryd.prog 72 10 = some (10, 1) := by kernel_rfl
theorem Tryd.callable3 : callable Tryd.prog 3 = true := by kernel_rfl
theorem Tryd.callable4 : callable Tryd.prog 4 = true := by kernel_rfl
theorem Tryd.callable5 : callable Tryd.prog 5 = true := by kernel_rfl
theorem Tryd.callable6 : callable Tryd.prog 6 = true := by kernel_rfl
theorem Tryd.callable7 : callable Tryd.prog 7 = true := by kernel_rfl
theorem Tryd.callable8 : callable Tryd.prog 8 = true := by kernel_rfl
theorem Tryd.callable9 : callable Tryd.prog 9 = true := by kernel_rfl
theorem Tryd.callable10 : callable Tryd.prog 10 = true := by kernel_rfl
theorem Tryd.callable11 : callable Tryd.prog 11 = true := by kernel_rfl
theorem Tryd.callable12 : callable Tryd.prog 12 = true := by kernel_rfl
theorem Tryd.callable13 : callable Tryd.prog 13 = true := by kernel_rfl
theorem Tryd.callable14 : callable Tryd.prog 14 = true := by kernel_rfl
theorem Tryd.callable15 : callable Tryd.prog 15 = true := by kernel_rfl
theorem Tryd.callable16 : callable Tryd.prog 16 = true := by kernel_rfl
theorem Tryd.callable17 : callable Tryd.prog 17 = true := by kernel_rfl
theorem Tryd.callable18 : callable Tryd.prog 18 = true := by kernel_rfl
theorem Tryd.callable19 : callable Tryd.prog 19 = true := by kernel_rfl
theorem Tryd.callable20 : callable Tryd.prog 20 = true := by kernel_rfl
theorem Tryd.callable21 : callable Tryd.prog 21 = true := by kernel_rfl
theorem Tryd.callable22 : callable Tryd.prog 22 = true := by kernel_rfl
theorem Tryd.callable23 : callable Tryd.prog 23 = true := by kernel_rfl
theorem Tryd.callable24 : callable Tryd.prog 24 = true := by kernel_rfl
theorem Tryd.callable25 : callable Tryd.prog 25 = true := by kernel_rfl
theorem Tryd.callable26 : callable Tryd.prog 26 = true := by kernel_rfl
theorem Tryd.callable27 : callable Tryd.prog 27 = true := by kernel_rfl
theorem Tryd.callable28 : callable Tryd.prog 28 = true := by kernel_rfl
theorem Tryd.callable29 : callable Tryd.prog 29 = true := by kernel_rfl
theorem Tryd.callable30 : callable Tryd.prog 30 = true := by kernel_rfl
theorem Tryd.callable31 : callable Tryd.prog 31 = true := by kernel_rfl
theorem Tryd.callable32 : callable Tryd.prog 32 = true := by kernel_rfl
theorem Tryd.callable33 : callable Tryd.prog 33 = true := by kernel_rfl
theorem Tryd.callable34 : callable Tryd.prog 34 = true := by kernel_rfl
theorem Tryd.callable35 : callable Tryd.prog 35 = true := by kernel_rfl
theorem Tryd.callable36 : callable Tryd.prog 36 = true := by kernel_rfl
theorem Tryd.callable37 : callable Tryd.prog 37 = true := by kernel_rfl
theorem Tryd.callable38 : callable Tryd.prog 38 = true := by kernel_rfl
theorem Tryd.callable39 : callable Tryd.prog 39 = false := by kernel_rfl
theorem Tryd.callable40 : callable Tryd.prog 40 = false := by kernel_rfl
theorem Tryd.callable41 : callable Tryd.prog 41 = false := by kernel_rfl
theorem Tryd.callable42 : callable Tryd.prog 42 = false := by kernel_rfl
theorem Tryd.callable43 : callable Tryd.prog 43 = false := by kernel_rfl
theorem Tryd.callable44 : callable Tryd.prog 44 = false := by kernel_rfl
theorem Tryd.callable45 : callable Tryd.prog 45 = false := by kernel_rfl
theorem Tryd.callable46 : callable Tryd.prog 46 = false := by kernel_rfl
theorem Tryd.callable47 : callable Tryd.prog 47 = false := by kernel_rfl
theorem Tryd.callable48 : callable Tryd.prog 48 = false := by kernel_rfl
theorem Tryd.callable49 : callable Tryd.prog 49 = false := by kernel_rfl
theorem Tryd.callable50 : callable Tryd.prog 50 = false := by kernel_rfl
theorem Tryd.callable51 : callable Tryd.prog 51 = false := by kernel_rfl
theorem Tryd.callable52 : callable Tryd.prog 52 = false := by kernel_rfl
theorem Tryd.callable53 : callable Tryd.prog 53 = false := by kernel_rfl
theorem Tryd.callable54 : callable Tryd.prog 54 = false := by kernel_rfl
theorem Tryd.callable55 : callable Tryd.prog 55 = false := by kernel_rfl
theorem Tryd.callable56 : callable Tryd.prog 56 = false := by kernel_rfl
theorem Tryd.callable57 : callable Tryd.prog 57 = false := by kernel_rfl
theorem Tryd.callable58 : callable Tryd.prog 58 = false := by kernel_rfl
theorem Tryd.callable59 : callable Tryd.prog 59 = false := by kernel_rfl
theorem Tryd.callable60 : callable Tryd.prog 60 = true := by kernel_rfl
theorem Tryd.mixed : Tryd.prog.follows .mixedOrders = true := by kernel_rfl
theorem Tryd.isb4 : isBool Tryd.prog 4 = true := by kernel_rfl
theorem Tryd.lenK9 : lenK Tryd.prog [9] = 2 := by kernel_rfl
theorem Tryd.lenK10 : lenK Tryd.prog [10] = 2 := by kernel_rfl
theorem Tryd.lenK11 : lenK Tryd.prog [11] = 2 := by kernel_rfl
theorem Tryd.lenK22 : lenK Tryd.prog [22] = 1 := by kernel_rfl
theorem Tryd.arrI26 : arrIntOf Tryd.prog 26 = some (32, IntKind.u8) := by kernel_rfl
theorem Tryd.arrI27 : arrIntOf Tryd.prog 27 = some (32, IntKind.u8) := by kernel_rfl
theorem Tryd.arrI40 : arrIntOf Tryd.prog 40 = some (8, IntKind.u32) := by kernel_rfl
theorem Tryd.lenK44 : lenK Tryd.prog [44] = 1 := by kernel_rfl
theorem Tryd.arrI51 : arrIntOf Tryd.prog 51 = some (64, IntKind.u32) := by kernel_rfl
theorem Tryd.facts0 : type_of% @Tryd.ty2 ∧ type_of% @Tryd.kind2 ∧ type_of% @Tryd.zero2 ∧ type_of% @Tryd.ty3 ∧ type_of% @Tryd.kind3 ∧ type_of% @Tryd.zero3 ∧ type_of% @Tryd.ty4 ∧ type_of% @Tryd.zero4 ∧ type_of% @Tryd.ty5 ∧ type_of% @Tryd.kind5 ∧ type_of% @Tryd.zero5 ∧ type_of% @Tryd.ty6 ∧ type_of% @Tryd.kind6 ∧ type_of% @Tryd.zero6 ∧ type_of% @Tryd.ty7 ∧ type_of% @Tryd.zero7 ∧ type_of% @Tryd.blank7 ∧ type_of% @Tryd.fld7_0 ∧ type_of% @Tryd.place7_0 ∧ type_of% @Tryd.fld7_1 ∧ type_of% @Tryd.place7_1 ∧ type_of% @Tryd.fld7_2 ∧ type_of% @Tryd.place7_2 ∧ type_of% @Tryd.fld7_3 ∧ type_of% @Tryd.place7_3 ∧ type_of% @Tryd.ty8 ∧ type_of% @Tryd.zero8 ∧ type_of% @Tryd.blank8 ∧ type_of% @Tryd.fld8_0 ∧ type_of% @Tryd.place8_0 ∧ type_of% @Tryd.fld8_1 ∧ type_of% @Tryd.place8_1 ∧ type_of% @Tryd.fld8_2 ∧ type_of% @Tryd.place8_2 ∧ type_of% @Tryd.fld8_3 ∧ type_of% @Tryd.place8_3 ∧ type_of% @Tryd.ty9 ∧ type_of% @Tryd.zero9 ∧ type_of% @Tryd.ty10 ∧ type_of% @Tryd.zero10 ∧ type_of% @Tryd.ty11 ∧ type_of% @Tryd.zero11 ∧ type_of% @Tryd.ty12 ∧ type_of% @Tryd.kind12 ∧ type_of% @Tryd.zero12 ∧ type_of% @Tryd.ty13 ∧ type_of% @Tryd.zero13 ∧ type_of% @Tryd.blank13 ∧ type_of% @Tryd.fld13_0 ∧ type_of% @Tryd.place13_0 ∧ type_of% @Tryd.fld13_1 ∧ type_of% @Tryd.place13_1 ∧ type_of% @Tryd.ty14 ∧ type_of% @Tryd.zero14 ∧ type_of% @Tryd.blank14 ∧ type_of% @Tryd.fld14_0 ∧ type_of% @Tryd.place14_0 ∧ type_of% @Tryd.fld14_1 ∧ type_of% @Tryd.place14_1 ∧ type_of% @Tryd.ty15 :=
  ⟨@Tryd.ty2, @Tryd.kind2, @Tryd.zero2, @Tryd.ty3, @Tryd.kind3, @Tryd.zero3, @Tryd.ty4, @Tryd.zero4, @Tryd.ty5, @Tryd.kind5, @Tryd.zero5, @Tryd.ty6, @Tryd.kind6, @Tryd.zero6, @Tryd.ty7, @Tryd.zero7, @Tryd.blank7, @Tryd.fld7_0, @Tryd.place7_0, @Tryd.fld7_1, @Tryd.place7_1, @Tryd.fld7_2, @Tryd.place7_2, @Tryd.fld7_3, @Tryd.place7_3, @Tryd.ty8, @Tryd.zero8, @Tryd.blank8, @Tryd.fld8_0, @Tryd.place8_0, @Tryd.fld8_1, @Tryd.place8_1, @Tryd.fld8_2, @Tryd.place8_2, @Tryd.fld8_3, @Tryd.place8_3, @Tryd.ty9, @Tryd.zero9, @Tryd.ty10, @Tryd.zero10, @Tryd.ty11, @Tryd.zero11, @Tryd.ty12, @Tryd.kind12, @Tryd.zero12, @Tryd.ty13, @Tryd.zero13, @Tryd.blank13, @Tryd.fld13_0, @Tryd.place13_0, @Tryd.fld13_1, @Tryd.place13_1, @Tryd.ty14, @Tryd.zero14, @Tryd.blank14, @Tryd.fld14_0, @Tryd.place14_0, @Tryd.fld14_1, @Tryd.place14_1, @Tryd.ty15⟩
theorem Tryd.facts1 : type_of% @Tryd.zero15 ∧ type_of% @Tryd.ty16 ∧ type_of% @Tryd.zero16 ∧ type_of% @Tryd.ty17 ∧ type_of% @Tryd.zero17 ∧ type_of% @Tryd.ty18 ∧ type_of% @Tryd.zero18 ∧ type_of% @Tryd.blank18 ∧ type_of% @Tryd.fld18_0 ∧ type_of% @Tryd.place18_0 ∧ type_of% @Tryd.ty19 ∧ type_of% @Tryd.zero19 ∧ type_of% @Tryd.blank19 ∧ type_of% @Tryd.fld19_0 ∧ type_of% @Tryd.place19_0 ∧ type_of% @Tryd.ty21 ∧ type_of% @Tryd.kind21 ∧ type_of% @Tryd.zero21 ∧ type_of% @Tryd.ty22 ∧ type_of% @Tryd.sl22 ∧ type_of% @Tryd.slK22 ∧ type_of% @Tryd.mkK22 ∧ type_of% @Tryd.zero22 ∧ type_of% @Tryd.ty23 ∧ type_of% @Tryd.zero23 ∧ type_of% @Tryd.blank23 ∧ type_of% @Tryd.fld23_0 ∧ type_of% @Tryd.place23_0 ∧ type_of% @Tryd.fld23_1 ∧ type_of% @Tryd.place23_1 ∧ type_of% @Tryd.ty24 ∧ type_of% @Tryd.zero24 ∧ type_of% @Tryd.blank24 ∧ type_of% @Tryd.fld24_0 ∧ type_of% @Tryd.place24_0 ∧ type_of% @Tryd.fld24_1 ∧ type_of% @Tryd.place24_1 ∧ type_of% @Tryd.ty26 ∧ type_of% @Tryd.arr26 ∧ type_of% @Tryd.el26 ∧ type_of% @Tryd.slK26 ∧ type_of% @Tryd.zero26 ∧ type_of% @Tryd.blank26 ∧ type_of% @Tryd.place26 ∧ type_of% @Tryd.ty27 ∧ type_of% @Tryd.arr27 ∧ type_of% @Tryd.el27 ∧ type_of% @Tryd.slK27 ∧ type_of% @Tryd.zero27 ∧ type_of% @Tryd.blank27 ∧ type_of% @Tryd.place27 ∧ type_of% @Tryd.ty39 ∧ type_of% @Tryd.kind39 ∧ type_of% @Tryd.zero39 ∧ type_of% @Tryd.ty40 ∧ type_of% @Tryd.arr40 ∧ type_of% @Tryd.el40 ∧ type_of% @Tryd.slK40 ∧ type_of% @Tryd.zero40 ∧ type_of% @Tryd.blank40 :=
  ⟨@Tryd.zero15, @Tryd.ty16, @Tryd.zero16, @Tryd.ty17, @Tryd.zero17, @Tryd.ty18, @Tryd.zero18, @Tryd.blank18, @Tryd.fld18_0, @Tryd.place18_0, @Tryd.ty19, @Tryd.zero19, @Tryd.blank19, @Tryd.fld19_0, @Tryd.place19_0, @Tryd.ty21, @Tryd.kind21, @Tryd.zero21, @Tryd.ty22, @Tryd.sl22, @Tryd.slK22, @Tryd.mkK22, @Tryd.zero22, @Tryd.ty23, @Tryd.zero23, @Tryd.blank23, @Tryd.fld23_0, @Tryd.place23_0, @Tryd.fld23_1, @Tryd.place23_1, @Tryd.ty24, @Tryd.zero24, @Tryd.blank24, @Tryd.fld24_0, @Tryd.place24_0, @Tryd.fld24_1, @Tryd.place24_1, @Tryd.ty26, @Tryd.arr26, @Tryd.el26, @Tryd.slK26, @Tryd.zero26, @Tryd.blank26, @Tryd.place26, @Tryd.ty27, @Tryd.arr27, @Tryd.el27, @Tryd.slK27, @Tryd.zero27, @Tryd.blank27, @Tryd.place27, @Tryd.ty39, @Tryd.kind39, @Tryd.zero39, @Tryd.ty40, @Tryd.arr40, @Tryd.el40, @Tryd.slK40, @Tryd.zero40, @Tryd.blank40⟩
theorem Tryd.facts2 : type_of% @Tryd.place40 ∧ type_of% @Tryd.ty44 ∧ type_of% @Tryd.sl44 ∧ type_of% @Tryd.slK44 ∧ type_of% @Tryd.mkK44 ∧ type_of% @Tryd.zero44 ∧ type_of% @Tryd.ty48 ∧ type_of% @Tryd.kind48 ∧ type_of% @Tryd.zero48 ∧ type_of% @Tryd.ty49 ∧ type_of% @Tryd.kind49 ∧ type_of% @Tryd.zero49 ∧ type_of% @Tryd.ty51 ∧ type_of% @Tryd.arr51 ∧ type_of% @Tryd.el51 ∧ type_of% @Tryd.slK51 ∧ type_of% @Tryd.zero51 ∧ type_of% @Tryd.blank51 ∧ type_of% @Tryd.place51 ∧ type_of% @Tryd.ty59 ∧ type_of% @Tryd.zero59 ∧ type_of% @Tryd.blank59 ∧ type_of% @Tryd.fld59_0 ∧ type_of% @Tryd.place59_0 ∧ type_of% @Tryd.fld59_1 ∧ type_of% @Tryd.place59_1 ∧ type_of% @Tryd.fld59_2 ∧ type_of% @Tryd.place59_2 ∧ type_of% @Tryd.fld59_3 ∧ type_of% @Tryd.place59_3 ∧ type_of% @Tryd.ty60 ∧ type_of% @Tryd.zero60 ∧ type_of% @Tryd.blank60 ∧ type_of% @Tryd.fld60_0 ∧ type_of% @Tryd.place60_0 ∧ type_of% @Tryd.fld60_1 ∧ type_of% @Tryd.place60_1 ∧ type_of% @Tryd.fld60_2 ∧ type_of% @Tryd.place60_2 ∧ type_of% @Tryd.fld60_3 ∧ type_of% @Tryd.place60_3 ∧ type_of% @Tryd.ty65 ∧ type_of% @Tryd.kind65 ∧ type_of% @Tryd.zero65 ∧ type_of% @Tryd.ty66 ∧ type_of% @Tryd.kind66 ∧ type_of% @Tryd.zero66 ∧ type_of% @Tryd.ty68 ∧ type_of% @Tryd.zero68 ∧ type_of% @Tryd.ty69 ∧ type_of% @Tryd.kind69 ∧ type_of% @Tryd.zero69 ∧ type_of% @Tryd.ty70 ∧ type_of% @Tryd.kind70 ∧ type_of% @Tryd.zero70 ∧ type_of% @Tryd.ty71 ∧ type_of% @Tryd.zero71 ∧ type_of% @Tryd.blank71 ∧ type_of% @Tryd.fld71_0 ∧ type_of% @Tryd.place71_0 :=
  ⟨@Tryd.place40, @Tryd.ty44, @Tryd.sl44, @Tryd.slK44, @Tryd.mkK44, @Tryd.zero44, @Tryd.ty48, @Tryd.kind48, @Tryd.zero48, @Tryd.ty49, @Tryd.kind49, @Tryd.zero49, @Tryd.ty51, @Tryd.arr51, @Tryd.el51, @Tryd.slK51, @Tryd.zero51, @Tryd.blank51, @Tryd.place51, @Tryd.ty59, @Tryd.zero59, @Tryd.blank59, @Tryd.fld59_0, @Tryd.place59_0, @Tryd.fld59_1, @Tryd.place59_1, @Tryd.fld59_2, @Tryd.place59_2, @Tryd.fld59_3, @Tryd.place59_3, @Tryd.ty60, @Tryd.zero60, @Tryd.blank60, @Tryd.fld60_0, @Tryd.place60_0, @Tryd.fld60_1, @Tryd.place60_1, @Tryd.fld60_2, @Tryd.place60_2, @Tryd.fld60_3, @Tryd.place60_3, @Tryd.ty65, @Tryd.kind65, @Tryd.zero65, @Tryd.ty66, @Tryd.kind66, @Tryd.zero66, @Tryd.ty68, @Tryd.zero68, @Tryd.ty69, @Tryd.kind69, @Tryd.zero69, @Tryd.ty70, @Tryd.kind70, @Tryd.zero70, @Tryd.ty71, @Tryd.zero71, @Tryd.blank71, @Tryd.fld71_0, @Tryd.place71_0⟩
theorem Tryd.facts3 : type_of% @Tryd.fld71_1 ∧ type_of% @Tryd.place71_1 ∧ type_of% @Tryd.fld71_2 ∧ type_of% @Tryd.place71_2 ∧ type_of% @Tryd.fld71_3 ∧ type_of% @Tryd.place71_3 ∧ type_of% @Tryd.fld71_4 ∧ type_of% @Tryd.place71_4 ∧ type_of% @Tryd.fld71_5 ∧ type_of% @Tryd.place71_5 ∧ type_of% @Tryd.fld71_6 ∧ type_of% @Tryd.place71_6 ∧ type_of% @Tryd.fld71_7 ∧ type_of% @Tryd.place71_7 ∧ type_of% @Tryd.fld71_8 ∧ type_of% @Tryd.place71_8 ∧ type_of% @Tryd.fld71_9 ∧ type_of% @Tryd.place71_9 ∧ type_of% @Tryd.fld71_10 ∧ type_of% @Tryd.place71_10 ∧ type_of% @Tryd.ty72 ∧ type_of% @Tryd.zero72 ∧ type_of% @Tryd.blank72 ∧ type_of% @Tryd.fld72_0 ∧ type_of% @Tryd.place72_0 ∧ type_of% @Tryd.fld72_1 ∧ type_of% @Tryd.place72_1 ∧ type_of% @Tryd.fld72_2 ∧ type_of% @Tryd.place72_2 ∧ type_of% @Tryd.fld72_3 ∧ type_of% @Tryd.place72_3 ∧ type_of% @Tryd.fld72_4 ∧ type_of% @Tryd.place72_4 ∧ type_of% @Tryd.fld72_5 ∧ type_of% @Tryd.place72_5 ∧ type_of% @Tryd.fld72_6 ∧ type_of% @Tryd.place72_6 ∧ type_of% @Tryd.fld72_7 ∧ type_of% @Tryd.place72_7 ∧ type_of% @Tryd.fld72_8 ∧ type_of% @Tryd.place72_8 ∧ type_of% @Tryd.fld72_9 ∧ type_of% @Tryd.place72_9 ∧ type_of% @Tryd.fld72_10 ∧ type_of% @Tryd.place72_10 ∧ type_of% @Tryd.callable3 ∧ type_of% @Tryd.callable4 ∧ type_of% @Tryd.callable5 ∧ type_of% @Tryd.callable6 ∧ type_of% @Tryd.callable7 ∧ type_of% @Tryd.callable8 ∧ type_of% @Tryd.callable9 ∧ type_of% @Tryd.callable10 ∧ type_of% @Tryd.callable11 ∧ type_of% @Tryd.callable12 ∧ type_of% @Tryd.callable13 ∧ type_of% @Tryd.callable14 ∧ type_of% @Tryd.callable15 ∧ type_of% @Tryd.callable16 ∧ type_of% @Tryd.callable17 :=
  ⟨@Tryd.fld71_1, @Tryd.place71_1, @Tryd.fld71_2, @Tryd.place71_2, @Tryd.fld71_3, @Tryd.place71_3, @Tryd.fld71_4, @Tryd.place71_4, @Tryd.fld71_5, @Tryd.place71_5, @Tryd.fld71_6, @Tryd.place71_6, @Tryd.fld71_7, @Tryd.place71_7, @Tryd.fld71_8, @Tryd.place71_8, @Tryd.fld71_9, @Tryd.place71_9, @Tryd.fld71_10, @Tryd.place71_10, @Tryd.ty72, @Tryd.zero72, @Tryd.blank72, @Tryd.fld72_0, @Tryd.place72_0, @Tryd.fld72_1, @Tryd.place72_1, @Tryd.fld72_2, @Tryd.place72_2, @Tryd.fld72_3, @Tryd.place72_3, @Tryd.fld72_4, @Tryd.place72_4, @Tryd.fld72_5, @Tryd.place72_5, @Tryd.fld72_6, @Tryd.place72_6, @Tryd.fld72_7, @Tryd.place72_7, @Tryd.fld72_8, @Tryd.place72_8, @Tryd.fld72_9, @Tryd.place72_9, @Tryd.fld72_10, @Tryd.place72_10, @Tryd.callable3, @Tryd.callable4, @Tryd.callable5, @Tryd.callable6, @Tryd.callable7, @Tryd.callable8, @Tryd.callable9, @Tryd.callable10, @Tryd.callable11, @Tryd.callable12, @Tryd.callable13, @Tryd.callable14, @Tryd.callable15, @Tryd.callable16, @Tryd.callable17⟩
theorem Tryd.facts4 : type_of% @Tryd.callable18 ∧ type_of% @Tryd.callable19 ∧ type_of% @Tryd.callable20 ∧ type_of% @Tryd.callable21 ∧ type_of% @Tryd.callable22 ∧ type_of% @Tryd.callable23 ∧ type_of% @Tryd.callable24 ∧ type_of% @Tryd.callable25 ∧ type_of% @Tryd.callable26 ∧ type_of% @Tryd.callable27 ∧ type_of% @Tryd.callable28 ∧ type_of% @Tryd.callable29 ∧ type_of% @Tryd.callable30 ∧ type_of% @Tryd.callable31 ∧ type_of% @Tryd.callable32 ∧ type_of% @Tryd.callable33 ∧ type_of% @Tryd.callable34 ∧ type_of% @Tryd.callable35 ∧ type_of% @Tryd.callable36 ∧ type_of% @Tryd.callable37 ∧ type_of% @Tryd.callable38 ∧ type_of% @Tryd.callable39 ∧ type_of% @Tryd.callable40 ∧ type_of% @Tryd.callable41 ∧ type_of% @Tryd.callable42 ∧ type_of% @Tryd.callable43 ∧ type_of% @Tryd.callable44 ∧ type_of% @Tryd.callable45 ∧ type_of% @Tryd.callable46 ∧ type_of% @Tryd.callable47 ∧ type_of% @Tryd.callable48 ∧ type_of% @Tryd.callable49 ∧ type_of% @Tryd.callable50 ∧ type_of% @Tryd.callable51 ∧ type_of% @Tryd.callable52 ∧ type_of% @Tryd.callable53 ∧ type_of% @Tryd.callable54 ∧ type_of% @Tryd.callable55 ∧ type_of% @Tryd.callable56 ∧ type_of% @Tryd.callable57 ∧ type_of% @Tryd.callable58 ∧ type_of% @Tryd.callable59 ∧ type_of% @Tryd.callable60 ∧ type_of% @Tryd.mixed ∧ type_of% @Tryd.isb4 ∧ type_of% @Tryd.lenK9 ∧ type_of% @Tryd.lenK10 ∧ type_of% @Tryd.lenK11 ∧ type_of% @Tryd.lenK22 ∧ type_of% @Tryd.arrI26 ∧ type_of% @Tryd.arrI27 ∧ type_of% @Tryd.arrI40 ∧ type_of% @Tryd.lenK44 ∧ type_of% @Tryd.arrI51 ∧ type_of% @Tryd.tab0 ∧ type_of% @Tryd.tab1 ∧ type_of% @Tryd.tab2 :=
  ⟨@Tryd.callable18, @Tryd.callable19, @Tryd.callable20, @Tryd.callable21, @Tryd.callable22, @Tryd.callable23, @Tryd.callable24, @Tryd.callable25, @Tryd.callable26, @Tryd.callable27, @Tryd.callable28, @Tryd.callable29, @Tryd.callable30, @Tryd.callable31, @Tryd.callable32, @Tryd.callable33, @Tryd.callable34, @Tryd.callable35, @Tryd.callable36, @Tryd.callable37, @Tryd.callable38, @Tryd.callable39, @Tryd.callable40, @Tryd.callable41, @Tryd.callable42, @Tryd.callable43, @Tryd.callable44, @Tryd.callable45, @Tryd.callable46, @Tryd.callable47, @Tryd.callable48, @Tryd.callable49, @Tryd.callable50, @Tryd.callable51, @Tryd.callable52, @Tryd.callable53, @Tryd.callable54, @Tryd.callable55, @Tryd.callable56, @Tryd.callable57, @Tryd.callable58, @Tryd.callable59, @Tryd.callable60, @Tryd.mixed, @Tryd.isb4, @Tryd.lenK9, @Tryd.lenK10, @Tryd.lenK11, @Tryd.lenK22, @Tryd.arrI26, @Tryd.arrI27, @Tryd.arrI40, @Tryd.lenK44, @Tryd.arrI51, @Tryd.tab0, @Tryd.tab1, @Tryd.tab2⟩
/-- All of them, under one name. -/
theorem Tryd.facts : type_of% @Tryd.facts0 ∧ type_of% @Tryd.facts1 ∧ type_of% @Tryd.facts2 ∧ type_of% @Tryd.facts3 ∧ type_of% @Tryd.facts4 :=
  ⟨@Tryd.facts0, @Tryd.facts1, @Tryd.facts2, @Tryd.facts3, @Tryd.facts4⟩
end Go.Proofs.YtdbaoohbnenopaaDoor
