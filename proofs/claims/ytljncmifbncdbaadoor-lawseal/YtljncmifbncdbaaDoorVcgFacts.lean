/-
  Closed facts on the tables of this seat's program, each by the kernel (made by program from the translation: wip/lib/facts.py).
-/
import Derived.Test.YtljncmifbncdbaaDoorVcgQ0
import Derived.Test.YtljncmifbncdbaaDoorVcgZ1
import Derived.Test.YtljncmifbncdbaaDoorProg
import Derived.KernelRfl
set_option linter.unusedVariables false
set_option linter.unusedSimpArgs false
namespace Go.Proofs.YtljncmifbncdbaaDoor
open Go.Vcg
instance : Vcg.Tables Tryd.prog := ⟨fun n => if n = 0 then some ⟨false, rowI .u32 8 ivW⟩ else if n = 1 then some ⟨false, rowI .u32 64 kW⟩ else if n = 2 then some ⟨false, rowI .u32 64 kW⟩ else none⟩
theorem Tryd.tab0 : Tables.row Tryd.prog 0 = some ⟨false, rowI .u32 8 ivW⟩ := rfl
theorem Tryd.tab1 : Tables.row Tryd.prog 1 = some ⟨false, rowI .u32 64 kW⟩ := rfl
theorem Tryd.tab2 : Tables.row Tryd.prog 2 = some ⟨false, rowI .u32 64 kW⟩ := rfl

theorem Tryd.ty2 : tyOf Tryd.prog 2 = some (false, 1) := by kernel_rfl
theorem Tryd.kind2 : kindOf Tryd.prog 2 = some IntKind.i64 := by kernel_rfl
theorem Tryd.zero2 : zeroOf Tryd.prog 2 = some ([Value.int IntKind.i64 0]) := by kernel_rfl
theorem Tryd.ty3 : tyOf Tryd.prog 3 = some (false, 1) := by kernel_rfl
theorem Tryd.kind3 : kindOf Tryd.prog 3 = some IntKind.i64 := by kernel_rfl
theorem Tryd.zero3 : zeroOf Tryd.prog 3 = some ([Value.int IntKind.i64 0]) := by kernel_rfl
theorem Tryd.ty4 : tyOf Tryd.prog 4 = some (false, 1) := by kernel_rfl
theorem Tryd.zero4 : zeroOf Tryd.prog 4 = some ([Value.bool false]) := by kernel_rfl
theorem Tryd.ty5 : tyOf Tryd.prog 5 = some (false, 1) := by kernel_rfl
theorem Tryd.kind5 : kindOf Tryd.prog 5 = some IntKind.u8 := by kernel_rfl
theorem Tryd.zero5 : zeroOf Tryd.prog 5 = some ([Value.int IntKind.u8 0]) := by kernel_rfl
theorem Tryd.ty6 : tyOf Tryd.prog 6 = some (false, 1) := by kernel_rfl
theorem Tryd.kind6 : kindOf Tryd.prog 6 = some IntKind.u8 := by kernel_rfl
theorem Tryd.zero6 : zeroOf Tryd.prog 6 = some ([Value.int IntKind.u8 0]) := by kernel_rfl
theorem Tryd.ty7 : tyOf Tryd.prog 7 = some (true, 4) := by kernel_rfl
theorem Tryd.zero7 : zeroOf Tryd.prog 7 = some ([Value.int IntKind.i64 0, Value.int IntKind.i64 0, Value.bool false, Value.int IntKind.u8 0]) := by kernel_rfl
theorem Tryd.blank7 : blankOf Tryd.prog 7 = some ([Sum.inl (Value.int IntKind.i64 0), Sum.inl (Value.int IntKind.i64 0), Sum.inl (Value.bool false), Sum.inl (Value.int IntKind.u8 0)]) := by kernel_rfl
theorem Tryd.fld7_0 : fieldOf Tryd.prog 7 0 = some (0, false, 1) := by kernel_rfl
theorem Tryd.place7_0 : placeOf Tryd.prog 7 0 = some (0, 1) := by kernel_rfl
theorem Tryd.fld7_1 : fieldOf Tryd.prog 7 1 = some (1, false, 1) := by kernel_rfl
theorem Tryd.place7_1 : placeOf Tryd.prog 7 1 = some (1, 1) := by kernel_rfl
theorem Tryd.fld7_2 : fieldOf Tryd.prog 7 2 = some (2, false, 1) := by kernel_rfl
theorem Tryd.place7_2 : placeOf Tryd.prog 7 2 = some (2, 1) := by kernel_rfl
theorem Tryd.fld7_3 : fieldOf Tryd.prog 7 3 = some (3, false, 1) := by kernel_rfl
theorem Tryd.place7_3 : placeOf Tryd.prog 7 3 = some (3, 1) := by kernel_rfl
theorem Tryd.ty8 : tyOf Tryd.prog 8 = some (true, 4) := by kernel_rfl
theorem Tryd.zero8 : zeroOf Tryd.prog 8 = some ([Value.int IntKind.i64 0, Value.int IntKind.i64 0, Value.bool false, Value.int IntKind.u8 0]) := by kernel_rfl
theorem Tryd.blank8 : blankOf Tryd.prog 8 = some ([Sum.inl (Value.int IntKind.i64 0), Sum.inl (Value.int IntKind.i64 0), Sum.inl (Value.bool false), Sum.inl (Value.int IntKind.u8 0)]) := by kernel_rfl
theorem Tryd.fld8_0 : fieldOf Tryd.prog 8 0 = some (0, false, 1) := by kernel_rfl
theorem Tryd.place8_0 : placeOf Tryd.prog 8 0 = some (0, 1) := by kernel_rfl
theorem Tryd.fld8_1 : fieldOf Tryd.prog 8 1 = some (1, false, 1) := by kernel_rfl
theorem Tryd.place8_1 : placeOf Tryd.prog 8 1 = some (1, 1) := by kernel_rfl
theorem Tryd.fld8_2 : fieldOf Tryd.prog 8 2 = some (2, false, 1) := by kernel_rfl
theorem Tryd.place8_2 : placeOf Tryd.prog 8 2 = some (2, 1) := by kernel_rfl
theorem Tryd.fld8_3 : fieldOf Tryd.prog 8 3 = some (3, false, 1) := by kernel_rfl
theorem Tryd.place8_3 : placeOf Tryd.prog 8 3 = some (3, 1) := by kernel_rfl
theorem Tryd.ty9 : tyOf Tryd.prog 9 = some (false, 1) := by kernel_rfl
theorem Tryd.zero9 : zeroOf Tryd.prog 9 = some ([Value.string ByteArray.empty]) := by kernel_rfl
theorem Tryd.ty10 : tyOf Tryd.prog 10 = some (false, 1) := by kernel_rfl
theorem Tryd.zero10 : zeroOf Tryd.prog 10 = some ([Value.string ByteArray.empty]) := by kernel_rfl
theorem Tryd.ty11 : tyOf Tryd.prog 11 = some (false, 1) := by kernel_rfl
theorem Tryd.zero11 : zeroOf Tryd.prog 11 = some ([Value.string ByteArray.empty]) := by kernel_rfl
theorem Tryd.ty12 : tyOf Tryd.prog 12 = some (false, 1) := by kernel_rfl
theorem Tryd.kind12 : kindOf Tryd.prog 12 = some IntKind.u64 := by kernel_rfl
theorem Tryd.zero12 : zeroOf Tryd.prog 12 = some ([Value.int IntKind.u64 0]) := by kernel_rfl
theorem Tryd.ty13 : tyOf Tryd.prog 13 = some (true, 2) := by kernel_rfl
theorem Tryd.zero13 : zeroOf Tryd.prog 13 = some ([Value.string ByteArray.empty, Value.int IntKind.u64 0]) := by kernel_rfl
theorem Tryd.blank13 : blankOf Tryd.prog 13 = some ([Sum.inl (Value.string ByteArray.empty), Sum.inl (Value.int IntKind.u64 0)]) := by kernel_rfl
theorem Tryd.fld13_0 : fieldOf Tryd.prog 13 0 = some (0, false, 1) := by kernel_rfl
theorem Tryd.place13_0 : placeOf Tryd.prog 13 0 = some (0, 1) := by kernel_rfl
theorem Tryd.fld13_1 : fieldOf Tryd.prog 13 1 = some (1, false, 1) := by kernel_rfl
theorem Tryd.place13_1 : placeOf Tryd.prog 13 1 = some (1, 1) := by kernel_rfl
theorem Tryd.ty14 : tyOf Tryd.prog 14 = some (true, 2) := by kernel_rfl
theorem Tryd.zero14 : zeroOf Tryd.prog 14 = some ([Value.string ByteArray.empty, Value.int IntKind.u64 0]) := by kernel_rfl
theorem Tryd.blank14 : blankOf Tryd.prog 14 = some ([Sum.inl (Value.string ByteArray.empty), Sum.inl (Value.int IntKind.u64 0)]) := by kernel_rfl
theorem Tryd.fld14_0 : fieldOf Tryd.prog 14 0 = some (0, false, 1) := by kernel_rfl
theorem Tryd.place14_0 : placeOf Tryd.prog 14 0 = some (0, 1) := by kernel_rfl
theorem Tryd.fld14_1 : fieldOf Tryd.prog 14 1 = some (1, false, 1) := by kernel_rfl
theorem Tryd.place14_1 : placeOf Tryd.prog 14 1 = some (1, 1) := by kernel_rfl
theorem Tryd.ty15 : tyOf Tryd.prog 15 = some (false, 1) := by kernel_rfl
theorem Tryd.zero15 : zeroOf Tryd.prog 15 = some ([Value.pointer none]) := by kernel_rfl
theorem Tryd.ty16 : tyOf Tryd.prog 16 = some (false, 1) := by kernel_rfl
theorem Tryd.zero16 : zeroOf Tryd.prog 16 = some ([Value.pointer none]) := by kernel_rfl
theorem Tryd.ty17 : tyOf Tryd.prog 17 = some (false, 1) := by kernel_rfl
theorem Tryd.zero17 : zeroOf Tryd.prog 17 = some ([Value.pointer none]) := by kernel_rfl
theorem Tryd.ty18 : tyOf Tryd.prog 18 = some (true, 1) := by kernel_rfl
theorem Tryd.zero18 : zeroOf Tryd.prog 18 = some ([Value.pointer none]) := by kernel_rfl
theorem Tryd.blank18 : blankOf Tryd.prog 18 = some ([Sum.inl (Value.pointer none)]) := by kernel_rfl
theorem Tryd.fld18_0 : fieldOf Tryd.prog 18 0 = some (0, false, 1) := by kernel_rfl
theorem Tryd.place18_0 : placeOf Tryd.prog 18 0 = some (0, 1) := by kernel_rfl
theorem Tryd.ty19 : tyOf Tryd.prog 19 = some (true, 1) := by kernel_rfl
theorem Tryd.zero19 : zeroOf Tryd.prog 19 = some ([Value.pointer none]) := by kernel_rfl
theorem Tryd.blank19 : blankOf Tryd.prog 19 = some ([Sum.inl (Value.pointer none)]) := by kernel_rfl
theorem Tryd.fld19_0 : fieldOf Tryd.prog 19 0 = some (0, false, 1) := by kernel_rfl
theorem Tryd.place19_0 : placeOf Tryd.prog 19 0 = some (0, 1) := by kernel_rfl
theorem Tryd.ty21 : tyOf Tryd.prog 21 = some (false, 1) := by kernel_rfl
theorem Tryd.kind21 : kindOf Tryd.prog 21 = some IntKind.i32 := by kernel_rfl
theorem Tryd.zero21 : zeroOf Tryd.prog 21 = some ([Value.int IntKind.i32 0]) := by kernel_rfl
theorem Tryd.ty22 : tyOf Tryd.prog 22 = some (true, 32) := by kernel_rfl
theorem Tryd.arr22 : arrOf Tryd.prog 22 = some (32, 1) := by kernel_rfl
theorem Tryd.el22 : arrEl Tryd.prog 22 = some (32, false, 1) := by kernel_rfl
theorem Tryd.slK22 : slK Tryd.prog 22 = some (some 32, 1) := by kernel_rfl
theorem Tryd.zero22 : zeroOf Tryd.prog 22 = some (List.replicate 32 (Value.int IntKind.u8 0)) := by kernel_rfl
theorem Tryd.blank22 : blankOf Tryd.prog 22 = some (List.replicate 32 (Sum.inl (Value.int IntKind.u8 0))) := by kernel_rfl
theorem Tryd.place22 (i : Nat) : placeOf Tryd.prog 22 i = some (i * 1, 1) := by unfold placeOf; rw [Tryd.arr22]
theorem Tryd.ty23 : tyOf Tryd.prog 23 = some (true, 32) := by kernel_rfl
theorem Tryd.arr23 : arrOf Tryd.prog 23 = some (32, 1) := by kernel_rfl
theorem Tryd.el23 : arrEl Tryd.prog 23 = some (32, false, 1) := by kernel_rfl
theorem Tryd.slK23 : slK Tryd.prog 23 = some (some 32, 1) := by kernel_rfl
theorem Tryd.zero23 : zeroOf Tryd.prog 23 = some (List.replicate 32 (Value.int IntKind.u8 0)) := by kernel_rfl
theorem Tryd.blank23 : blankOf Tryd.prog 23 = some (List.replicate 32 (Sum.inl (Value.int IntKind.u8 0))) := by kernel_rfl
theorem Tryd.place23 (i : Nat) : placeOf Tryd.prog 23 i = some (i * 1, 1) := by unfold placeOf; rw [Tryd.arr23]
theorem Tryd.ty24 : tyOf Tryd.prog 24 = some (false, 1) := by kernel_rfl
theorem Tryd.sl24 : Vcg.elemOf Tryd.prog 24 = some 1 := by kernel_rfl
theorem Tryd.slK24 : slK Tryd.prog 24 = some (none, 1) := by kernel_rfl
theorem Tryd.byt24 : bytK Tryd.prog 24 = true := by kernel_rfl
theorem Tryd.mkK24 : mkK Tryd.prog 24 = some ([Value.int IntKind.u8 0], 1, 1) := by kernel_rfl
theorem Tryd.zero24 : zeroOf Tryd.prog 24 = some ([Value.slice none 0 0]) := by kernel_rfl
theorem Tryd.ty25 : tyOf Tryd.prog 25 = some (true, 2) := by kernel_rfl
theorem Tryd.zero25 : zeroOf Tryd.prog 25 = some ([Value.slice none 0 0, Value.int IntKind.i64 0]) := by kernel_rfl
theorem Tryd.blank25 : blankOf Tryd.prog 25 = some ([Sum.inl (Value.slice none 0 0), Sum.inl (Value.int IntKind.i64 0)]) := by kernel_rfl
theorem Tryd.fld25_0 : fieldOf Tryd.prog 25 0 = some (0, false, 1) := by kernel_rfl
theorem Tryd.place25_0 : placeOf Tryd.prog 25 0 = some (0, 1) := by kernel_rfl
theorem Tryd.fld25_1 : fieldOf Tryd.prog 25 1 = some (1, false, 1) := by kernel_rfl
theorem Tryd.place25_1 : placeOf Tryd.prog 25 1 = some (1, 1) := by kernel_rfl
theorem Tryd.ty26 : tyOf Tryd.prog 26 = some (true, 2) := by kernel_rfl
theorem Tryd.zero26 : zeroOf Tryd.prog 26 = some ([Value.slice none 0 0, Value.int IntKind.i64 0]) := by kernel_rfl
theorem Tryd.blank26 : blankOf Tryd.prog 26 = some ([Sum.inl (Value.slice none 0 0), Sum.inl (Value.int IntKind.i64 0)]) := by kernel_rfl
theorem Tryd.fld26_0 : fieldOf Tryd.prog 26 0 = some (0, false, 1) := by kernel_rfl
theorem Tryd.place26_0 : placeOf Tryd.prog 26 0 = some (0, 1) := by kernel_rfl
theorem Tryd.fld26_1 : fieldOf Tryd.prog 26 1 = some (1, false, 1) := by kernel_rfl
theorem Tryd.place26_1 : placeOf Tryd.prog 26 1 = some (1, 1) := by kernel_rfl
theorem Tryd.ty28 : tyOf Tryd.prog 28 = some (true, 33) := by kernel_rfl
theorem Tryd.zero28 : zeroOf Tryd.prog 28 = some (List.replicate 1 (Value.slice none 0 0) ++ List.replicate 32 (Value.int IntKind.u8 0)) := by kernel_rfl
theorem Tryd.blank28 : blankOf Tryd.prog 28 = some (List.replicate 1 (Sum.inl (Value.slice none 0 0)) ++ List.replicate 32 (Sum.inl (Value.int IntKind.u8 0))) := by kernel_rfl
theorem Tryd.fld28_0 : fieldOf Tryd.prog 28 0 = some (0, false, 1) := by kernel_rfl
theorem Tryd.place28_0 : placeOf Tryd.prog 28 0 = some (0, 1) := by kernel_rfl
theorem Tryd.fld28_1 : fieldOf Tryd.prog 28 1 = some (1, true, 32) := by kernel_rfl
theorem Tryd.place28_1 : placeOf Tryd.prog 28 1 = some (1, 32) := by kernel_rfl
theorem Tryd.ty29 : tyOf Tryd.prog 29 = some (true, 33) := by kernel_rfl
theorem Tryd.zero29 : zeroOf Tryd.prog 29 = some (List.replicate 1 (Value.slice none 0 0) ++ List.replicate 32 (Value.int IntKind.u8 0)) := by kernel_rfl
theorem Tryd.blank29 : blankOf Tryd.prog 29 = some (List.replicate 1 (Sum.inl (Value.slice none 0 0)) ++ List.replicate 32 (Sum.inl (Value.int IntKind.u8 0))) := by kernel_rfl
theorem Tryd.fld29_0 : fieldOf Tryd.prog 29 0 = some (0, false, 1) := by kernel_rfl
theorem Tryd.place29_0 : placeOf Tryd.prog 29 0 = some (0, 1) := by kernel_rfl
theorem Tryd.fld29_1 : fieldOf Tryd.prog 29 1 = some (1, true, 32) := by kernel_rfl
theorem Tryd.place29_1 : placeOf Tryd.prog 29 1 = some (1, 32) := by kernel_rfl
theorem Tryd.ty39 : tyOf Tryd.prog 39 = some (true, 16) := by kernel_rfl
theorem Tryd.arr39 : arrOf Tryd.prog 39 = some (16, 1) := by kernel_rfl
theorem Tryd.el39 : arrEl Tryd.prog 39 = some (16, false, 1) := by kernel_rfl
theorem Tryd.slK39 : slK Tryd.prog 39 = some (some 16, 1) := by kernel_rfl
theorem Tryd.zero39 : zeroOf Tryd.prog 39 = some (List.replicate 16 (Value.int IntKind.u8 0)) := by kernel_rfl
theorem Tryd.blank39 : blankOf Tryd.prog 39 = some (List.replicate 16 (Sum.inl (Value.int IntKind.u8 0))) := by kernel_rfl
theorem Tryd.place39 (i : Nat) : placeOf Tryd.prog 39 i = some (i * 1, 1) := by unfold placeOf; rw [Tryd.arr39]
theorem Tryd.ty40 : tyOf Tryd.prog 40 = some (true, 16) := by kernel_rfl
theorem Tryd.arr40 : arrOf Tryd.prog 40 = some (16, 1) := by kernel_rfl
theorem Tryd.el40 : arrEl Tryd.prog 40 = some (16, false, 1) := by kernel_rfl
theorem Tryd.slK40 : slK Tryd.prog 40 = some (some 16, 1) := by kernel_rfl
theorem Tryd.zero40 : zeroOf Tryd.prog 40 = some (List.replicate 16 (Value.int IntKind.u8 0)) := by kernel_rfl
theorem Tryd.blank40 : blankOf Tryd.prog 40 = some (List.replicate 16 (Sum.inl (Value.int IntKind.u8 0))) := by kernel_rfl
theorem Tryd.place40 (i : Nat) : placeOf Tryd.prog 40 i = some (i * 1, 1) := by unfold placeOf; rw [Tryd.arr40]
theorem Tryd.ty41 : tyOf Tryd.prog 41 = some (true, 80) := by kernel_rfl
theorem Tryd.zero41 : zeroOf Tryd.prog 41 = some (List.replicate 80 (Value.int IntKind.u8 0)) := by kernel_rfl
theorem Tryd.blank41 : blankOf Tryd.prog 41 = some (List.replicate 80 (Sum.inl (Value.int IntKind.u8 0))) := by kernel_rfl
theorem Tryd.fld41_0 : fieldOf Tryd.prog 41 0 = some (0, true, 32) := by kernel_rfl
theorem Tryd.place41_0 : placeOf Tryd.prog 41 0 = some (0, 32) := by kernel_rfl
theorem Tryd.fld41_1 : fieldOf Tryd.prog 41 1 = some (32, true, 32) := by kernel_rfl
theorem Tryd.place41_1 : placeOf Tryd.prog 41 1 = some (32, 32) := by kernel_rfl
theorem Tryd.fld41_2 : fieldOf Tryd.prog 41 2 = some (64, true, 16) := by kernel_rfl
theorem Tryd.place41_2 : placeOf Tryd.prog 41 2 = some (64, 16) := by kernel_rfl
theorem Tryd.ty42 : tyOf Tryd.prog 42 = some (true, 80) := by kernel_rfl
theorem Tryd.zero42 : zeroOf Tryd.prog 42 = some (List.replicate 80 (Value.int IntKind.u8 0)) := by kernel_rfl
theorem Tryd.blank42 : blankOf Tryd.prog 42 = some (List.replicate 80 (Sum.inl (Value.int IntKind.u8 0))) := by kernel_rfl
theorem Tryd.fld42_0 : fieldOf Tryd.prog 42 0 = some (0, true, 32) := by kernel_rfl
theorem Tryd.place42_0 : placeOf Tryd.prog 42 0 = some (0, 32) := by kernel_rfl
theorem Tryd.fld42_1 : fieldOf Tryd.prog 42 1 = some (32, true, 32) := by kernel_rfl
theorem Tryd.place42_1 : placeOf Tryd.prog 42 1 = some (32, 32) := by kernel_rfl
theorem Tryd.fld42_2 : fieldOf Tryd.prog 42 2 = some (64, true, 16) := by kernel_rfl
theorem Tryd.place42_2 : placeOf Tryd.prog 42 2 = some (64, 16) := by kernel_rfl
theorem Tryd.ty52 : tyOf Tryd.prog 52 = some (true, 256) := by kernel_rfl
theorem Tryd.arr52 : arrOf Tryd.prog 52 = some (256, 1) := by kernel_rfl
theorem Tryd.el52 : arrEl Tryd.prog 52 = some (256, false, 1) := by kernel_rfl
theorem Tryd.slK52 : slK Tryd.prog 52 = some (some 256, 1) := by kernel_rfl
theorem Tryd.zero52 : zeroOf Tryd.prog 52 = some (List.replicate 256 (Value.int IntKind.u8 0)) := by kernel_rfl
theorem Tryd.blank52 : blankOf Tryd.prog 52 = some (List.replicate 256 (Sum.inl (Value.int IntKind.u8 0))) := by kernel_rfl
theorem Tryd.place52 (i : Nat) : placeOf Tryd.prog 52 i = some (i * 1, 1) := by unfold placeOf; rw [Tryd.arr52]
theorem Tryd.ty53 : tyOf Tryd.prog 53 = some (true, 240) := by kernel_rfl
theorem Tryd.arr53 : arrOf Tryd.prog 53 = some (15, 16) := by kernel_rfl
theorem Tryd.el53 : arrEl Tryd.prog 53 = some (15, true, 16) := by kernel_rfl
theorem Tryd.slK53 : slK Tryd.prog 53 = some (some 15, 16) := by kernel_rfl
theorem Tryd.zero53 : zeroOf Tryd.prog 53 = some (List.replicate 240 (Value.int IntKind.u8 0)) := by kernel_rfl
theorem Tryd.blank53 : blankOf Tryd.prog 53 = some (List.replicate 240 (Sum.inl (Value.int IntKind.u8 0))) := by kernel_rfl
theorem Tryd.place53 (i : Nat) : placeOf Tryd.prog 53 i = some (i * 16, 16) := by unfold placeOf; rw [Tryd.arr53]
theorem Tryd.ty54 : tyOf Tryd.prog 54 = some (true, 496) := by kernel_rfl
theorem Tryd.zero54 : zeroOf Tryd.prog 54 = some (List.replicate 496 (Value.int IntKind.u8 0)) := by kernel_rfl
theorem Tryd.blank54 : blankOf Tryd.prog 54 = some (List.replicate 496 (Sum.inl (Value.int IntKind.u8 0))) := by kernel_rfl
theorem Tryd.fld54_0 : fieldOf Tryd.prog 54 0 = some (0, true, 256) := by kernel_rfl
theorem Tryd.place54_0 : placeOf Tryd.prog 54 0 = some (0, 256) := by kernel_rfl
theorem Tryd.fld54_1 : fieldOf Tryd.prog 54 1 = some (256, true, 240) := by kernel_rfl
theorem Tryd.place54_1 : placeOf Tryd.prog 54 1 = some (256, 240) := by kernel_rfl
theorem Tryd.ty55 : tyOf Tryd.prog 55 = some (true, 496) := by kernel_rfl
theorem Tryd.zero55 : zeroOf Tryd.prog 55 = some (List.replicate 496 (Value.int IntKind.u8 0)) := by kernel_rfl
theorem Tryd.blank55 : blankOf Tryd.prog 55 = some (List.replicate 496 (Sum.inl (Value.int IntKind.u8 0))) := by kernel_rfl
theorem Tryd.fld55_0 : fieldOf Tryd.prog 55 0 = some (0, true, 256) := by kernel_rfl
theorem Tryd.place55_0 : placeOf Tryd.prog 55 0 = some (0, 256) := by kernel_rfl
theorem Tryd.fld55_1 : fieldOf Tryd.prog 55 1 = some (256, true, 240) := by kernel_rfl
theorem Tryd.place55_1 : placeOf Tryd.prog 55 1 = some (256, 240) := by kernel_rfl
theorem Tryd.ty59 : tyOf Tryd.prog 59 = some (false, 1) := by kernel_rfl
theorem Tryd.kind59 : kindOf Tryd.prog 59 = some IntKind.u64 := by kernel_rfl
theorem Tryd.zero59 : zeroOf Tryd.prog 59 = some ([Value.int IntKind.u64 0]) := by kernel_rfl
theorem Tryd.ty62 : tyOf Tryd.prog 62 = some (false, 1) := by kernel_rfl
theorem Tryd.sl62 : Vcg.elemOf Tryd.prog 62 = some 1 := by kernel_rfl
theorem Tryd.slK62 : slK Tryd.prog 62 = some (none, 1) := by kernel_rfl
theorem Tryd.mkK62 : mkK Tryd.prog 62 = some ([Value.slice none 0 0], 1, 24) := by kernel_rfl
theorem Tryd.zero62 : zeroOf Tryd.prog 62 = some ([Value.slice none 0 0]) := by kernel_rfl
theorem Tryd.ty68 : tyOf Tryd.prog 68 = some (false, 1) := by kernel_rfl
theorem Tryd.zero68 : zeroOf Tryd.prog 68 = some ([Value.pointer none]) := by kernel_rfl
theorem Tryd.ty70 : tyOf Tryd.prog 70 = some (true, 240) := by kernel_rfl
theorem Tryd.arr70 : arrOf Tryd.prog 70 = some (240, 1) := by kernel_rfl
theorem Tryd.el70 : arrEl Tryd.prog 70 = some (240, false, 1) := by kernel_rfl
theorem Tryd.slK70 : slK Tryd.prog 70 = some (some 240, 1) := by kernel_rfl
theorem Tryd.zero70 : zeroOf Tryd.prog 70 = some (List.replicate 240 (Value.int IntKind.u8 0)) := by kernel_rfl
theorem Tryd.blank70 : blankOf Tryd.prog 70 = some (List.replicate 240 (Sum.inl (Value.int IntKind.u8 0))) := by kernel_rfl
theorem Tryd.place70 (i : Nat) : placeOf Tryd.prog 70 i = some (i * 1, 1) := by unfold placeOf; rw [Tryd.arr70]
theorem Tryd.ty75 : tyOf Tryd.prog 75 = some (false, 1) := by kernel_rfl
theorem Tryd.kind75 : kindOf Tryd.prog 75 = some IntKind.u32 := by kernel_rfl
theorem Tryd.zero75 : zeroOf Tryd.prog 75 = some ([Value.int IntKind.u32 0]) := by kernel_rfl
theorem Tryd.ty76 : tyOf Tryd.prog 76 = some (false, 1) := by kernel_rfl
theorem Tryd.kind76 : kindOf Tryd.prog 76 = some IntKind.u64 := by kernel_rfl
theorem Tryd.zero76 : zeroOf Tryd.prog 76 = some ([Value.int IntKind.u64 0]) := by kernel_rfl
theorem Tryd.ty77 : tyOf Tryd.prog 77 = some (true, 8) := by kernel_rfl
theorem Tryd.arr77 : arrOf Tryd.prog 77 = some (8, 1) := by kernel_rfl
theorem Tryd.el77 : arrEl Tryd.prog 77 = some (8, false, 1) := by kernel_rfl
theorem Tryd.slK77 : slK Tryd.prog 77 = some (some 8, 1) := by kernel_rfl
theorem Tryd.zero77 : zeroOf Tryd.prog 77 = some ([Value.int IntKind.u32 0, Value.int IntKind.u32 0, Value.int IntKind.u32 0, Value.int IntKind.u32 0, Value.int IntKind.u32 0, Value.int IntKind.u32 0, Value.int IntKind.u32 0, Value.int IntKind.u32 0]) := by kernel_rfl
theorem Tryd.blank77 : blankOf Tryd.prog 77 = some ([Sum.inl (Value.int IntKind.u32 0), Sum.inl (Value.int IntKind.u32 0), Sum.inl (Value.int IntKind.u32 0), Sum.inl (Value.int IntKind.u32 0), Sum.inl (Value.int IntKind.u32 0), Sum.inl (Value.int IntKind.u32 0), Sum.inl (Value.int IntKind.u32 0), Sum.inl (Value.int IntKind.u32 0)]) := by kernel_rfl
theorem Tryd.place77 (i : Nat) : placeOf Tryd.prog 77 i = some (i * 1, 1) := by unfold placeOf; rw [Tryd.arr77]
theorem Tryd.ty81 : tyOf Tryd.prog 81 = some (true, 255) := by kernel_rfl
theorem Tryd.arr81 : arrOf Tryd.prog 81 = some (255, 1) := by kernel_rfl
theorem Tryd.el81 : arrEl Tryd.prog 81 = some (255, false, 1) := by kernel_rfl
theorem Tryd.slK81 : slK Tryd.prog 81 = some (some 255, 1) := by kernel_rfl
theorem Tryd.zero81 : zeroOf Tryd.prog 81 = some (List.replicate 255 (Value.int IntKind.u8 0)) := by kernel_rfl
theorem Tryd.blank81 : blankOf Tryd.prog 81 = some (List.replicate 255 (Sum.inl (Value.int IntKind.u8 0))) := by kernel_rfl
theorem Tryd.place81 (i : Nat) : placeOf Tryd.prog 81 i = some (i * 1, 1) := by unfold placeOf; rw [Tryd.arr81]
theorem Tryd.ty83 : tyOf Tryd.prog 83 = some (true, 4) := by kernel_rfl
theorem Tryd.arr83 : arrOf Tryd.prog 83 = some (4, 1) := by kernel_rfl
theorem Tryd.el83 : arrEl Tryd.prog 83 = some (4, false, 1) := by kernel_rfl
theorem Tryd.slK83 : slK Tryd.prog 83 = some (some 4, 1) := by kernel_rfl
theorem Tryd.zero83 : zeroOf Tryd.prog 83 = some ([Value.int IntKind.u8 0, Value.int IntKind.u8 0, Value.int IntKind.u8 0, Value.int IntKind.u8 0]) := by kernel_rfl
theorem Tryd.blank83 : blankOf Tryd.prog 83 = some ([Sum.inl (Value.int IntKind.u8 0), Sum.inl (Value.int IntKind.u8 0), Sum.inl (Value.int IntKind.u8 0), Sum.inl (Value.int IntKind.u8 0)]) := by kernel_rfl
theorem Tryd.place83 (i : Nat) : placeOf Tryd.prog 83 i = some (i * 1, 1) := by unfold placeOf; rw [Tryd.arr83]
theorem Tryd.ty84 : tyOf Tryd.prog 84 = some (true, 240) := by kernel_rfl
theorem Tryd.arr84 : arrOf Tryd.prog 84 = some (60, 4) := by kernel_rfl
theorem Tryd.el84 : arrEl Tryd.prog 84 = some (60, true, 4) := by kernel_rfl
theorem Tryd.slK84 : slK Tryd.prog 84 = some (some 60, 4) := by kernel_rfl
theorem Tryd.zero84 : zeroOf Tryd.prog 84 = some (List.replicate 240 (Value.int IntKind.u8 0)) := by kernel_rfl
theorem Tryd.blank84 : blankOf Tryd.prog 84 = some (List.replicate 240 (Sum.inl (Value.int IntKind.u8 0))) := by kernel_rfl
theorem Tryd.place84 (i : Nat) : placeOf Tryd.prog 84 i = some (i * 4, 4) := by unfold placeOf; rw [Tryd.arr84]
theorem Tryd.ty88 : tyOf Tryd.prog 88 = some (true, 64) := by kernel_rfl
theorem Tryd.arr88 : arrOf Tryd.prog 88 = some (64, 1) := by kernel_rfl
theorem Tryd.el88 : arrEl Tryd.prog 88 = some (64, false, 1) := by kernel_rfl
theorem Tryd.slK88 : slK Tryd.prog 88 = some (some 64, 1) := by kernel_rfl
theorem Tryd.zero88 : zeroOf Tryd.prog 88 = some (List.replicate 64 (Value.int IntKind.u32 0)) := by kernel_rfl
theorem Tryd.blank88 : blankOf Tryd.prog 88 = some (List.replicate 64 (Sum.inl (Value.int IntKind.u32 0))) := by kernel_rfl
theorem Tryd.place88 (i : Nat) : placeOf Tryd.prog 88 i = some (i * 1, 1) := by unfold placeOf; rw [Tryd.arr88]
theorem Tryd.ty95 : tyOf Tryd.prog 95 = some (true, 4) := by kernel_rfl
theorem Tryd.zero95 : zeroOf Tryd.prog 95 = some ([Value.pointer none, Value.pointer none, Value.pointer none, Value.string ByteArray.empty]) := by kernel_rfl
theorem Tryd.blank95 : blankOf Tryd.prog 95 = some ([Sum.inl (Value.pointer none), Sum.inl (Value.pointer none), Sum.inl (Value.pointer none), Sum.inl (Value.string ByteArray.empty)]) := by kernel_rfl
theorem Tryd.fld95_0 : fieldOf Tryd.prog 95 0 = some (0, false, 1) := by kernel_rfl
theorem Tryd.place95_0 : placeOf Tryd.prog 95 0 = some (0, 1) := by kernel_rfl
theorem Tryd.fld95_1 : fieldOf Tryd.prog 95 1 = some (1, false, 1) := by kernel_rfl
theorem Tryd.place95_1 : placeOf Tryd.prog 95 1 = some (1, 1) := by kernel_rfl
theorem Tryd.fld95_2 : fieldOf Tryd.prog 95 2 = some (2, false, 1) := by kernel_rfl
theorem Tryd.place95_2 : placeOf Tryd.prog 95 2 = some (2, 1) := by kernel_rfl
theorem Tryd.fld95_3 : fieldOf Tryd.prog 95 3 = some (3, false, 1) := by kernel_rfl
theorem Tryd.place95_3 : placeOf Tryd.prog 95 3 = some (3, 1) := by kernel_rfl
theorem Tryd.ty96 : tyOf Tryd.prog 96 = some (true, 4) := by kernel_rfl
theorem Tryd.zero96 : zeroOf Tryd.prog 96 = some ([Value.pointer none, Value.pointer none, Value.pointer none, Value.string ByteArray.empty]) := by kernel_rfl
theorem Tryd.blank96 : blankOf Tryd.prog 96 = some ([Sum.inl (Value.pointer none), Sum.inl (Value.pointer none), Sum.inl (Value.pointer none), Sum.inl (Value.string ByteArray.empty)]) := by kernel_rfl
theorem Tryd.fld96_0 : fieldOf Tryd.prog 96 0 = some (0, false, 1) := by kernel_rfl
theorem Tryd.place96_0 : placeOf Tryd.prog 96 0 = some (0, 1) := by kernel_rfl
theorem Tryd.fld96_1 : fieldOf Tryd.prog 96 1 = some (1, false, 1) := by kernel_rfl
theorem Tryd.place96_1 : placeOf Tryd.prog 96 1 = some (1, 1) := by kernel_rfl
theorem Tryd.fld96_2 : fieldOf Tryd.prog 96 2 = some (2, false, 1) := by kernel_rfl
theorem Tryd.place96_2 : placeOf Tryd.prog 96 2 = some (2, 1) := by kernel_rfl
theorem Tryd.fld96_3 : fieldOf Tryd.prog 96 3 = some (3, false, 1) := by kernel_rfl
theorem Tryd.place96_3 : placeOf Tryd.prog 96 3 = some (3, 1) := by kernel_rfl
theorem Tryd.ty101 : tyOf Tryd.prog 101 = some (false, 1) := by kernel_rfl
theorem Tryd.kind101 : kindOf Tryd.prog 101 = some IntKind.u8 := by kernel_rfl
theorem Tryd.zero101 : zeroOf Tryd.prog 101 = some ([Value.int IntKind.u8 0]) := by kernel_rfl
theorem Tryd.ty102 : tyOf Tryd.prog 102 = some (false, 1) := by kernel_rfl
theorem Tryd.kind102 : kindOf Tryd.prog 102 = some IntKind.u8 := by kernel_rfl
theorem Tryd.zero102 : zeroOf Tryd.prog 102 = some ([Value.int IntKind.u8 0]) := by kernel_rfl
theorem Tryd.ty104 : tyOf Tryd.prog 104 = some (false, 1) := by kernel_rfl
theorem Tryd.zero104 : zeroOf Tryd.prog 104 = some ([Value.pointer none]) := by kernel_rfl
theorem Tryd.ty105 : tyOf Tryd.prog 105 = some (false, 1) := by kernel_rfl
theorem Tryd.kind105 : kindOf Tryd.prog 105 = some IntKind.i32 := by kernel_rfl
theorem Tryd.zero105 : zeroOf Tryd.prog 105 = some ([Value.int IntKind.i32 0]) := by kernel_rfl
theorem Tryd.ty106 : tyOf Tryd.prog 106 = some (false, 1) := by kernel_rfl
theorem Tryd.kind106 : kindOf Tryd.prog 106 = some IntKind.i32 := by kernel_rfl
theorem Tryd.zero106 : zeroOf Tryd.prog 106 = some ([Value.int IntKind.i32 0]) := by kernel_rfl
theorem Tryd.ty107 : tyOf Tryd.prog 107 = some (true, 11) := by kernel_rfl
theorem Tryd.zero107 : zeroOf Tryd.prog 107 = some ([Value.int IntKind.u64 0, Value.int IntKind.u64 0, Value.int IntKind.u32 0, Value.int IntKind.u8 0, Value.int IntKind.u8 0, Value.int IntKind.u8 0, Value.int IntKind.u8 0, Value.nilFunc, Value.pointer none, Value.int IntKind.i32 0, Value.int IntKind.i32 0]) := by kernel_rfl
theorem Tryd.blank107 : blankOf Tryd.prog 107 = some ([Sum.inl (Value.int IntKind.u64 0), Sum.inl (Value.int IntKind.u64 0), Sum.inl (Value.int IntKind.u32 0), Sum.inl (Value.int IntKind.u8 0), Sum.inl (Value.int IntKind.u8 0), Sum.inl (Value.int IntKind.u8 0), Sum.inl (Value.int IntKind.u8 0), Sum.inl (Value.nilFunc), Sum.inl (Value.pointer none), Sum.inl (Value.int IntKind.i32 0), Sum.inl (Value.int IntKind.i32 0)]) := by kernel_rfl
theorem Tryd.fld107_0 : fieldOf Tryd.prog 107 0 = some (0, false, 1) := by kernel_rfl
theorem Tryd.place107_0 : placeOf Tryd.prog 107 0 = some (0, 1) := by kernel_rfl
theorem Tryd.fld107_1 : fieldOf Tryd.prog 107 1 = some (1, false, 1) := by kernel_rfl
theorem Tryd.place107_1 : placeOf Tryd.prog 107 1 = some (1, 1) := by kernel_rfl
theorem Tryd.fld107_2 : fieldOf Tryd.prog 107 2 = some (2, false, 1) := by kernel_rfl
theorem Tryd.place107_2 : placeOf Tryd.prog 107 2 = some (2, 1) := by kernel_rfl
theorem Tryd.fld107_3 : fieldOf Tryd.prog 107 3 = some (3, false, 1) := by kernel_rfl
theorem Tryd.place107_3 : placeOf Tryd.prog 107 3 = some (3, 1) := by kernel_rfl
theorem Tryd.fld107_4 : fieldOf Tryd.prog 107 4 = some (4, false, 1) := by kernel_rfl
theorem Tryd.place107_4 : placeOf Tryd.prog 107 4 = some (4, 1) := by kernel_rfl
theorem Tryd.fld107_5 : fieldOf Tryd.prog 107 5 = some (5, false, 1) := by kernel_rfl
theorem Tryd.place107_5 : placeOf Tryd.prog 107 5 = some (5, 1) := by kernel_rfl
theorem Tryd.fld107_6 : fieldOf Tryd.prog 107 6 = some (6, false, 1) := by kernel_rfl
theorem Tryd.place107_6 : placeOf Tryd.prog 107 6 = some (6, 1) := by kernel_rfl
theorem Tryd.fld107_7 : fieldOf Tryd.prog 107 7 = some (7, false, 1) := by kernel_rfl
theorem Tryd.place107_7 : placeOf Tryd.prog 107 7 = some (7, 1) := by kernel_rfl
theorem Tryd.fld107_8 : fieldOf Tryd.prog 107 8 = some (8, false, 1) := by kernel_rfl
theorem Tryd.place107_8 : placeOf Tryd.prog 107 8 = some (8, 1) := by kernel_rfl
theorem Tryd.fld107_9 : fieldOf Tryd.prog 107 9 = some (9, false, 1) := by kernel_rfl
theorem Tryd.place107_9 : placeOf Tryd.prog 107 9 = some (9, 1) := by kernel_rfl
theorem Tryd.fld107_10 : fieldOf Tryd.prog 107 10 = some (10, false, 1) := by kernel_rfl
theorem Tryd.place107_10 : placeOf Tryd.prog 107 10 = some (10, 1) := by kernel_rfl
theorem Tryd.ty108 : tyOf Tryd.prog 108 = some (true, 11) := by kernel_rfl
theorem Tryd.zero108 : zeroOf Tryd.prog 108 = some ([Value.int IntKind.u64 0, Value.int IntKind.u64 0, Value.int IntKind.u32 0, Value.int IntKind.u8 0, Value.int IntKind.u8 0, Value.int IntKind.u8 0, Value.int IntKind.u8 0, Value.nilFunc, Value.pointer none, Value.int IntKind.i32 0, Value.int IntKind.i32 0]) := by kernel_rfl
theorem Tryd.blank108 : blankOf Tryd.prog 108 = some ([Sum.inl (Value.int IntKind.u64 0), Sum.inl (Value.int IntKind.u64 0), Sum.inl (Value.int IntKind.u32 0), Sum.inl (Value.int IntKind.u8 0), Sum.inl (Value.int IntKind.u8 0), Sum.inl (Value.int IntKind.u8 0), Sum.inl (Value.int IntKind.u8 0), Sum.inl (Value.nilFunc), Sum.inl (Value.pointer none), Sum.inl (Value.int IntKind.i32 0), Sum.inl (Value.int IntKind.i32 0)]) := by kernel_rfl
theorem Tryd.fld108_0 : fieldOf Tryd.prog 108 0 = some (0, false, 1) := by kernel_rfl
theorem Tryd.place108_0 : placeOf Tryd.prog 108 0 = some (0, 1) := by kernel_rfl
theorem Tryd.fld108_1 : fieldOf Tryd.prog 108 1 = some (1, false, 1) := by kernel_rfl
theorem Tryd.place108_1 : placeOf Tryd.prog 108 1 = some (1, 1) := by kernel_rfl
theorem Tryd.fld108_2 : fieldOf Tryd.prog 108 2 = some (2, false, 1) := by kernel_rfl
theorem Tryd.place108_2 : placeOf Tryd.prog 108 2 = some (2, 1) := by kernel_rfl
theorem Tryd.fld108_3 : fieldOf Tryd.prog 108 3 = some (3, false, 1) := by kernel_rfl
theorem Tryd.place108_3 : placeOf Tryd.prog 108 3 = some (3, 1) := by kernel_rfl
theorem Tryd.fld108_4 : fieldOf Tryd.prog 108 4 = some (4, false, 1) := by kernel_rfl
theorem Tryd.place108_4 : placeOf Tryd.prog 108 4 = some (4, 1) := by kernel_rfl
theorem Tryd.fld108_5 : fieldOf Tryd.prog 108 5 = some (5, false, 1) := by kernel_rfl
theorem Tryd.place108_5 : placeOf Tryd.prog 108 5 = some (5, 1) := by kernel_rfl
theorem Tryd.fld108_6 : fieldOf Tryd.prog 108 6 = some (6, false, 1) := by kernel_rfl
theorem Tryd.place108_6 : placeOf Tryd.prog 108 6 = some (6, 1) := by kernel_rfl
theorem Tryd.fld108_7 : fieldOf Tryd.prog 108 7 = some (7, false, 1) := by kernel_rfl
theorem Tryd.place108_7 : placeOf Tryd.prog 108 7 = some (7, 1) := by kernel_rfl
theorem Tryd.fld108_8 : fieldOf Tryd.prog 108 8 = some (8, false, 1) := by kernel_rfl
theorem Tryd.place108_8 : placeOf Tryd.prog 108 8 = some (8, 1) := by kernel_rfl
theorem Tryd.fld108_9 : fieldOf Tryd.prog 108 9 = some (9, false, 1) := by kernel_rfl
theorem Tryd.place108_9 : placeOf Tryd.prog 108 9 = some (9, 1) := by kernel_rfl
theorem Tryd.fld108_10 : fieldOf Tryd.prog 108 10 = some (10, false, 1) := by kernel_rfl
theorem Tryd.place108_10 : placeOf Tryd.prog 108 10 = some (10, 1) := by kernel_rfl
theorem Tryd.callable3 : callable Tryd.prog 3 = true := by kernel_rfl
theorem Tryd.callable4 : callable Tryd.prog 4 = true := by kernel_rfl
theorem Tryd.callable5 : callable Tryd.prog 5 = true := by kernel_rfl
theorem Tryd.callable6 : callable Tryd.prog 6 = true := by kernel_rfl
theorem Tryd.callable7 : callable Tryd.prog 7 = true := by kernel_rfl
theorem Tryd.callable8 : callable Tryd.prog 8 = true := by kernel_rfl
theorem Tryd.callable9 : callable Tryd.prog 9 = true := by kernel_rfl
theorem Tryd.callable10 : callable Tryd.prog 10 = true := by kernel_rfl
theorem Tryd.callable11 : callable Tryd.prog 11 = true := by kernel_rfl
theorem Tryd.callable12 : callable Tryd.prog 12 = true := by kernel_rfl
theorem Tryd.callable13 : callable Tryd.prog 13 = true := by kernel_rfl
theorem Tryd.callable14 : callable Tryd.prog 14 = true := by kernel_rfl
theorem Tryd.callable15 : callable Tryd.prog 15 = true := by kernel_rfl
theorem Tryd.callable16 : callable Tryd.prog 16 = true := by kernel_rfl
theorem Tryd.callable17 : callable Tryd.prog 17 = true := by kernel_rfl
theorem Tryd.callable18 : callable Tryd.prog 18 = true := by kernel_rfl
theorem Tryd.callable19 : callable Tryd.prog 19 = true := by kernel_rfl
theorem Tryd.callable20 : callable Tryd.prog 20 = true := by kernel_rfl
theorem Tryd.callable21 : callable Tryd.prog 21 = true := by kernel_rfl
theorem Tryd.callable22 : callable Tryd.prog 22 = true := by kernel_rfl
theorem Tryd.callable23 : callable Tryd.prog 23 = true := by kernel_rfl
theorem Tryd.callable24 : callable Tryd.prog 24 = true := by kernel_rfl
theorem Tryd.callable25 : callable Tryd.prog 25 = true := by kernel_rfl
theorem Tryd.callable26 : callable Tryd.prog 26 = true := by kernel_rfl
theorem Tryd.callable27 : callable Tryd.prog 27 = true := by kernel_rfl
theorem Tryd.callable28 : callable Tryd.prog 28 = true := by kernel_rfl
theorem Tryd.callable29 : callable Tryd.prog 29 = true := by kernel_rfl
theorem Tryd.callable30 : callable Tryd.prog 30 = true := by kernel_rfl
theorem Tryd.callable31 : callable Tryd.prog 31 = true := by kernel_rfl
theorem Tryd.callable32 : callable Tryd.prog 32 = true := by kernel_rfl
theorem Tryd.callable33 : callable Tryd.prog 33 = true := by kernel_rfl
theorem Tryd.callable34 : callable Tryd.prog 34 = true := by kernel_rfl
theorem Tryd.callable35 : callable Tryd.prog 35 = true := by kernel_rfl
theorem Tryd.callable36 : callable Tryd.prog 36 = true := by kernel_rfl
theorem Tryd.callable37 : callable Tryd.prog 37 = true := by kernel_rfl
theorem Tryd.callable38 : callable Tryd.prog 38 = true := by kernel_rfl
theorem Tryd.callable39 : callable Tryd.prog 39 = true := by kernel_rfl
theorem Tryd.callable40 : callable Tryd.prog 40 = true := by kernel_rfl
theorem Tryd.callable41 : callable Tryd.prog 41 = true := by kernel_rfl
theorem Tryd.callable42 : callable Tryd.prog 42 = true := by kernel_rfl
theorem Tryd.callable43 : callable Tryd.prog 43 = true := by kernel_rfl
theorem Tryd.callable44 : callable Tryd.prog 44 = true := by kernel_rfl
theorem Tryd.callable45 : callable Tryd.prog 45 = true := by kernel_rfl
theorem Tryd.callable46 : callable Tryd.prog 46 = true := by kernel_rfl
theorem Tryd.callable47 : callable Tryd.prog 47 = true := by kernel_rfl
theorem Tryd.callable48 : callable Tryd.prog 48 = true := by kernel_rfl
theorem Tryd.callable49 : callable Tryd.prog 49 = true := by kernel_rfl
theorem Tryd.callable50 : callable Tryd.prog 50 = true := by kernel_rfl
theorem Tryd.callable51 : callable Tryd.prog 51 = true := by kernel_rfl
theorem Tryd.callable52 : callable Tryd.prog 52 = true := by kernel_rfl
theorem Tryd.callable53 : callable Tryd.prog 53 = true := by kernel_rfl
theorem Tryd.callable54 : callable Tryd.prog 54 = true := by kernel_rfl
theorem Tryd.callable55 : callable Tryd.prog 55 = true := by kernel_rfl
theorem Tryd.callable56 : callable Tryd.prog 56 = true := by kernel_rfl
theorem Tryd.callable57 : callable Tryd.prog 57 = true := by kernel_rfl
theorem Tryd.callable58 : callable Tryd.prog 58 = true := by kernel_rfl
theorem Tryd.callable59 : callable Tryd.prog 59 = true := by kernel_rfl
theorem Tryd.callable60 : callable Tryd.prog 60 = true := by kernel_rfl
theorem Tryd.callable61 : callable Tryd.prog 61 = true := by kernel_rfl
theorem Tryd.callable62 : callable Tryd.prog 62 = true := by kernel_rfl
theorem Tryd.callable63 : callable Tryd.prog 63 = false := by kernel_rfl
theorem Tryd.callable64 : callable Tryd.prog 64 = false := by kernel_rfl
theorem Tryd.callable65 : callable Tryd.prog 65 = false := by kernel_rfl
theorem Tryd.callable66 : callable Tryd.prog 66 = false := by kernel_rfl
theorem Tryd.callable67 : callable Tryd.prog 67 = false := by kernel_rfl
theorem Tryd.callable68 : callable Tryd.prog 68 = false := by kernel_rfl
theorem Tryd.callable69 : callable Tryd.prog 69 = false := by kernel_rfl
theorem Tryd.callable70 : callable Tryd.prog 70 = false := by kernel_rfl
theorem Tryd.callable71 : callable Tryd.prog 71 = false := by kernel_rfl
theorem Tryd.callable72 : callable Tryd.prog 72 = false := by kernel_rfl
theorem Tryd.callable73 : callable Tryd.prog 73 = false := by kernel_rfl
theorem Tryd.callable74 : callable Tryd.prog 74 = false := by kernel_rfl
theorem Tryd.callable75 : callable Tryd.prog 75 = false := by kernel_rfl
theorem Tryd.callable76 : callable Tryd.prog 76 = false := by kernel_rfl
theorem Tryd.callable77 : callable Tryd.prog 77 = false := by kernel_rfl
theorem Tryd.callable78 : callable Tryd.prog 78 = false := by kernel_rfl
theorem Tryd.callable79 : callable Tryd.prog 79 = false := by kernel_rfl
theorem Tryd.callable80 : callable Tryd.prog 80 = false := by kernel_rfl
theorem Tryd.callable81 : callable Tryd.prog 81 = false := by kernel_rfl
theorem Tryd.callable82 : callable Tryd.prog 82 = false := by kernel_rfl
theorem Tryd.callable83 : callable Tryd.prog 83 = false := by kernel_rfl
theorem Tryd.callable84 : callable Tryd.prog 84 = true := by kernel_rfl
theorem Tryd.mixed : Tryd.prog.follows .mixedOrders = true := by kernel_rfl
theorem Tryd.isb4 : isBool Tryd.prog 4 = true := by kernel_rfl
theorem Tryd.lenK9 : lenK Tryd.prog [9] = 2 := by kernel_rfl
theorem Tryd.lenK10 : lenK Tryd.prog [10] = 2 := by kernel_rfl
theorem Tryd.lenK11 : lenK Tryd.prog [11] = 2 := by kernel_rfl
theorem Tryd.arrI22 : arrIntOf Tryd.prog 22 = some (32, IntKind.u8) := by kernel_rfl
theorem Tryd.arrI23 : arrIntOf Tryd.prog 23 = some (32, IntKind.u8) := by kernel_rfl
theorem Tryd.lenK24 : lenK Tryd.prog [24] = 1 := by kernel_rfl
theorem Tryd.arrI39 : arrIntOf Tryd.prog 39 = some (16, IntKind.u8) := by kernel_rfl
theorem Tryd.arrI40 : arrIntOf Tryd.prog 40 = some (16, IntKind.u8) := by kernel_rfl
theorem Tryd.arrI52 : arrIntOf Tryd.prog 52 = some (256, IntKind.u8) := by kernel_rfl
theorem Tryd.lenK62 : lenK Tryd.prog [62] = 1 := by kernel_rfl
theorem Tryd.arrI70 : arrIntOf Tryd.prog 70 = some (240, IntKind.u8) := by kernel_rfl
theorem Tryd.arrI77 : arrIntOf Tryd.prog 77 = some (8, IntKind.u32) := by kernel_rfl
theorem Tryd.arrI81 : arrIntOf Tryd.prog 81 = some (255, IntKind.u8) := by kernel_rfl
theorem Tryd.arrI83 : arrIntOf Tryd.prog 83 = some (4, IntKind.u8) := by kernel_rfl
theorem Tryd.arrI88 : arrIntOf Tryd.prog 88 = some (64, IntKind.u32) := by kernel_rfl
theorem Tryd.facts0 : type_of% @Tryd.ty2 ∧ type_of% @Tryd.kind2 ∧ type_of% @Tryd.zero2 ∧ type_of% @Tryd.ty3 ∧ type_of% @Tryd.kind3 ∧ type_of% @Tryd.zero3 ∧ type_of% @Tryd.ty4 ∧ type_of% @Tryd.zero4 ∧ type_of% @Tryd.ty5 ∧ type_of% @Tryd.kind5 ∧ type_of% @Tryd.zero5 ∧ type_of% @Tryd.ty6 ∧ type_of% @Tryd.kind6 ∧ type_of% @Tryd.zero6 ∧ type_of% @Tryd.ty7 ∧ type_of% @Tryd.zero7 ∧ type_of% @Tryd.blank7 ∧ type_of% @Tryd.fld7_0 ∧ type_of% @Tryd.place7_0 ∧ type_of% @Tryd.fld7_1 ∧ type_of% @Tryd.place7_1 ∧ type_of% @Tryd.fld7_2 ∧ type_of% @Tryd.place7_2 ∧ type_of% @Tryd.fld7_3 ∧ type_of% @Tryd.place7_3 ∧ type_of% @Tryd.ty8 ∧ type_of% @Tryd.zero8 ∧ type_of% @Tryd.blank8 ∧ type_of% @Tryd.fld8_0 ∧ type_of% @Tryd.place8_0 ∧ type_of% @Tryd.fld8_1 ∧ type_of% @Tryd.place8_1 ∧ type_of% @Tryd.fld8_2 ∧ type_of% @Tryd.place8_2 ∧ type_of% @Tryd.fld8_3 ∧ type_of% @Tryd.place8_3 ∧ type_of% @Tryd.ty9 ∧ type_of% @Tryd.zero9 ∧ type_of% @Tryd.ty10 ∧ type_of% @Tryd.zero10 ∧ type_of% @Tryd.ty11 ∧ type_of% @Tryd.zero11 ∧ type_of% @Tryd.ty12 ∧ type_of% @Tryd.kind12 ∧ type_of% @Tryd.zero12 ∧ type_of% @Tryd.ty13 ∧ type_of% @Tryd.zero13 ∧ type_of% @Tryd.blank13 ∧ type_of% @Tryd.fld13_0 ∧ type_of% @Tryd.place13_0 ∧ type_of% @Tryd.fld13_1 ∧ type_of% @Tryd.place13_1 ∧ type_of% @Tryd.ty14 ∧ type_of% @Tryd.zero14 ∧ type_of% @Tryd.blank14 ∧ type_of% @Tryd.fld14_0 ∧ type_of% @Tryd.place14_0 ∧ type_of% @Tryd.fld14_1 ∧ type_of% @Tryd.place14_1 ∧ type_of% @Tryd.ty15 :=
  ⟨@Tryd.ty2, @Tryd.kind2, @Tryd.zero2, @Tryd.ty3, @Tryd.kind3, @Tryd.zero3, @Tryd.ty4, @Tryd.zero4, @Tryd.ty5, @Tryd.kind5, @Tryd.zero5, @Tryd.ty6, @Tryd.kind6, @Tryd.zero6, @Tryd.ty7, @Tryd.zero7, @Tryd.blank7, @Tryd.fld7_0, @Tryd.place7_0, @Tryd.fld7_1, @Tryd.place7_1, @Tryd.fld7_2, @Tryd.place7_2, @Tryd.fld7_3, @Tryd.place7_3, @Tryd.ty8, @Tryd.zero8, @Tryd.blank8, @Tryd.fld8_0, @Tryd.place8_0, @Tryd.fld8_1, @Tryd.place8_1, @Tryd.fld8_2, @Tryd.place8_2, @Tryd.fld8_3, @Tryd.place8_3, @Tryd.ty9, @Tryd.zero9, @Tryd.ty10, @Tryd.zero10, @Tryd.ty11, @Tryd.zero11, @Tryd.ty12, @Tryd.kind12, @Tryd.zero12, @Tryd.ty13, @Tryd.zero13, @Tryd.blank13, @Tryd.fld13_0, @Tryd.place13_0, @Tryd.fld13_1, @Tryd.place13_1, @Tryd.ty14, @Tryd.zero14, @Tryd.blank14, @Tryd.fld14_0, @Tryd.place14_0, @Tryd.fld14_1, @Tryd.place14_1, @Tryd.ty15⟩
theorem Tryd.facts1 : type_of% @Tryd.zero15 ∧ type_of% @Tryd.ty16 ∧ type_of% @Tryd.zero16 ∧ type_of% @Tryd.ty17 ∧ type_of% @Tryd.zero17 ∧ type_of% @Tryd.ty18 ∧ type_of% @Tryd.zero18 ∧ type_of% @Tryd.blank18 ∧ type_of% @Tryd.fld18_0 ∧ type_of% @Tryd.place18_0 ∧ type_of% @Tryd.ty19 ∧ type_of% @Tryd.zero19 ∧ type_of% @Tryd.blank19 ∧ type_of% @Tryd.fld19_0 ∧ type_of% @Tryd.place19_0 ∧ type_of% @Tryd.ty21 ∧ type_of% @Tryd.kind21 ∧ type_of% @Tryd.zero21 ∧ type_of% @Tryd.ty22 ∧ type_of% @Tryd.arr22 ∧ type_of% @Tryd.el22 ∧ type_of% @Tryd.slK22 ∧ type_of% @Tryd.zero22 ∧ type_of% @Tryd.blank22 ∧ type_of% @Tryd.place22 ∧ type_of% @Tryd.ty23 ∧ type_of% @Tryd.arr23 ∧ type_of% @Tryd.el23 ∧ type_of% @Tryd.slK23 ∧ type_of% @Tryd.zero23 ∧ type_of% @Tryd.blank23 ∧ type_of% @Tryd.place23 ∧ type_of% @Tryd.ty24 ∧ type_of% @Tryd.sl24 ∧ type_of% @Tryd.slK24 ∧ type_of% @Tryd.byt24 ∧ type_of% @Tryd.mkK24 ∧ type_of% @Tryd.zero24 ∧ type_of% @Tryd.ty25 ∧ type_of% @Tryd.zero25 ∧ type_of% @Tryd.blank25 ∧ type_of% @Tryd.fld25_0 ∧ type_of% @Tryd.place25_0 ∧ type_of% @Tryd.fld25_1 ∧ type_of% @Tryd.place25_1 ∧ type_of% @Tryd.ty26 ∧ type_of% @Tryd.zero26 ∧ type_of% @Tryd.blank26 ∧ type_of% @Tryd.fld26_0 ∧ type_of% @Tryd.place26_0 ∧ type_of% @Tryd.fld26_1 ∧ type_of% @Tryd.place26_1 ∧ type_of% @Tryd.ty28 ∧ type_of% @Tryd.zero28 ∧ type_of% @Tryd.blank28 ∧ type_of% @Tryd.fld28_0 ∧ type_of% @Tryd.place28_0 ∧ type_of% @Tryd.fld28_1 ∧ type_of% @Tryd.place28_1 ∧ type_of% @Tryd.ty29 :=
  ⟨@Tryd.zero15, @Tryd.ty16, @Tryd.zero16, @Tryd.ty17, @Tryd.zero17, @Tryd.ty18, @Tryd.zero18, @Tryd.blank18, @Tryd.fld18_0, @Tryd.place18_0, @Tryd.ty19, @Tryd.zero19, @Tryd.blank19, @Tryd.fld19_0, @Tryd.place19_0, @Tryd.ty21, @Tryd.kind21, @Tryd.zero21, @Tryd.ty22, @Tryd.arr22, @Tryd.el22, @Tryd.slK22, @Tryd.zero22, @Tryd.blank22, @Tryd.place22, @Tryd.ty23, @Tryd.arr23, @Tryd.el23, @Tryd.slK23, @Tryd.zero23, @Tryd.blank23, @Tryd.place23, @Tryd.ty24, @Tryd.sl24, @Tryd.slK24, @Tryd.byt24, @Tryd.mkK24, @Tryd.zero24, @Tryd.ty25, @Tryd.zero25, @Tryd.blank25, @Tryd.fld25_0, @Tryd.place25_0, @Tryd.fld25_1, @Tryd.place25_1, @Tryd.ty26, @Tryd.zero26, @Tryd.blank26, @Tryd.fld26_0, @Tryd.place26_0, @Tryd.fld26_1, @Tryd.place26_1, @Tryd.ty28, @Tryd.zero28, @Tryd.blank28, @Tryd.fld28_0, @Tryd.place28_0, @Tryd.fld28_1, @Tryd.place28_1, @Tryd.ty29⟩
theorem Tryd.facts2 : type_of% @Tryd.zero29 ∧ type_of% @Tryd.blank29 ∧ type_of% @Tryd.fld29_0 ∧ type_of% @Tryd.place29_0 ∧ type_of% @Tryd.fld29_1 ∧ type_of% @Tryd.place29_1 ∧ type_of% @Tryd.ty39 ∧ type_of% @Tryd.arr39 ∧ type_of% @Tryd.el39 ∧ type_of% @Tryd.slK39 ∧ type_of% @Tryd.zero39 ∧ type_of% @Tryd.blank39 ∧ type_of% @Tryd.place39 ∧ type_of% @Tryd.ty40 ∧ type_of% @Tryd.arr40 ∧ type_of% @Tryd.el40 ∧ type_of% @Tryd.slK40 ∧ type_of% @Tryd.zero40 ∧ type_of% @Tryd.blank40 ∧ type_of% @Tryd.place40 ∧ type_of% @Tryd.ty41 ∧ type_of% @Tryd.zero41 ∧ type_of% @Tryd.blank41 ∧ type_of% @Tryd.fld41_0 ∧ type_of% @Tryd.place41_0 ∧ type_of% @Tryd.fld41_1 ∧ type_of% @Tryd.place41_1 ∧ type_of% @Tryd.fld41_2 ∧ type_of% @Tryd.place41_2 ∧ type_of% @Tryd.ty42 ∧ type_of% @Tryd.zero42 ∧ type_of% @Tryd.blank42 ∧ type_of% @Tryd.fld42_0 ∧ type_of% @Tryd.place42_0 ∧ type_of% @Tryd.fld42_1 ∧ type_of% @Tryd.place42_1 ∧ type_of% @Tryd.fld42_2 ∧ type_of% @Tryd.place42_2 ∧ type_of% @Tryd.ty52 ∧ type_of% @Tryd.arr52 ∧ type_of% @Tryd.el52 ∧ type_of% @Tryd.slK52 ∧ type_of% @Tryd.zero52 ∧ type_of% @Tryd.blank52 ∧ type_of% @Tryd.place52 ∧ type_of% @Tryd.ty53 ∧ type_of% @Tryd.arr53 ∧ type_of% @Tryd.el53 ∧ type_of% @Tryd.slK53 ∧ type_of% @Tryd.zero53 ∧ type_of% @Tryd.blank53 ∧ type_of% @Tryd.place53 ∧ type_of% @Tryd.ty54 ∧ type_of% @Tryd.zero54 ∧ type_of% @Tryd.blank54 ∧ type_of% @Tryd.fld54_0 ∧ type_of% @Tryd.place54_0 ∧ type_of% @Tryd.fld54_1 ∧ type_of% @Tryd.place54_1 ∧ type_of% @Tryd.ty55 :=
  ⟨@Tryd.zero29, @Tryd.blank29, @Tryd.fld29_0, @Tryd.place29_0, @Tryd.fld29_1, @Tryd.place29_1, @Tryd.ty39, @Tryd.arr39, @Tryd.el39, @Tryd.slK39, @Tryd.zero39, @Tryd.blank39, @Tryd.place39, @Tryd.ty40, @Tryd.arr40, @Tryd.el40, @Tryd.slK40, @Tryd.zero40, @Tryd.blank40, @Tryd.place40, @Tryd.ty41, @Tryd.zero41, @Tryd.blank41, @Tryd.fld41_0, @Tryd.place41_0, @Tryd.fld41_1, @Tryd.place41_1, @Tryd.fld41_2, @Tryd.place41_2, @Tryd.ty42, @Tryd.zero42, @Tryd.blank42, @Tryd.fld42_0, @Tryd.place42_0, @Tryd.fld42_1, @Tryd.place42_1, @Tryd.fld42_2, @Tryd.place42_2, @Tryd.ty52, @Tryd.arr52, @Tryd.el52, @Tryd.slK52, @Tryd.zero52, @Tryd.blank52, @Tryd.place52, @Tryd.ty53, @Tryd.arr53, @Tryd.el53, @Tryd.slK53, @Tryd.zero53, @Tryd.blank53, @Tryd.place53, @Tryd.ty54, @Tryd.zero54, @Tryd.blank54, @Tryd.fld54_0, @Tryd.place54_0, @Tryd.fld54_1, @Tryd.place54_1, @Tryd.ty55⟩
theorem Tryd.facts3 : type_of% @Tryd.zero55 ∧ type_of% @Tryd.blank55 ∧ type_of% @Tryd.fld55_0 ∧ type_of% @Tryd.place55_0 ∧ type_of% @Tryd.fld55_1 ∧ type_of% @Tryd.place55_1 ∧ type_of% @Tryd.ty59 ∧ type_of% @Tryd.kind59 ∧ type_of% @Tryd.zero59 ∧ type_of% @Tryd.ty62 ∧ type_of% @Tryd.sl62 ∧ type_of% @Tryd.slK62 ∧ type_of% @Tryd.mkK62 ∧ type_of% @Tryd.zero62 ∧ type_of% @Tryd.ty68 ∧ type_of% @Tryd.zero68 ∧ type_of% @Tryd.ty70 ∧ type_of% @Tryd.arr70 ∧ type_of% @Tryd.el70 ∧ type_of% @Tryd.slK70 ∧ type_of% @Tryd.zero70 ∧ type_of% @Tryd.blank70 ∧ type_of% @Tryd.place70 ∧ type_of% @Tryd.ty75 ∧ type_of% @Tryd.kind75 ∧ type_of% @Tryd.zero75 ∧ type_of% @Tryd.ty76 ∧ type_of% @Tryd.kind76 ∧ type_of% @Tryd.zero76 ∧ type_of% @Tryd.ty77 ∧ type_of% @Tryd.arr77 ∧ type_of% @Tryd.el77 ∧ type_of% @Tryd.slK77 ∧ type_of% @Tryd.zero77 ∧ type_of% @Tryd.blank77 ∧ type_of% @Tryd.place77 ∧ type_of% @Tryd.ty81 ∧ type_of% @Tryd.arr81 ∧ type_of% @Tryd.el81 ∧ type_of% @Tryd.slK81 ∧ type_of% @Tryd.zero81 ∧ type_of% @Tryd.blank81 ∧ type_of% @Tryd.place81 ∧ type_of% @Tryd.ty83 ∧ type_of% @Tryd.arr83 ∧ type_of% @Tryd.el83 ∧ type_of% @Tryd.slK83 ∧ type_of% @Tryd.zero83 ∧ type_of% @Tryd.blank83 ∧ type_of% @Tryd.place83 ∧ type_of% @Tryd.ty84 ∧ type_of% @Tryd.arr84 ∧ type_of% @Tryd.el84 ∧ type_of% @Tryd.slK84 ∧ type_of% @Tryd.zero84 ∧ type_of% @Tryd.blank84 ∧ type_of% @Tryd.place84 ∧ type_of% @Tryd.ty88 ∧ type_of% @Tryd.arr88 ∧ type_of% @Tryd.el88 :=
  ⟨@Tryd.zero55, @Tryd.blank55, @Tryd.fld55_0, @Tryd.place55_0, @Tryd.fld55_1, @Tryd.place55_1, @Tryd.ty59, @Tryd.kind59, @Tryd.zero59, @Tryd.ty62, @Tryd.sl62, @Tryd.slK62, @Tryd.mkK62, @Tryd.zero62, @Tryd.ty68, @Tryd.zero68, @Tryd.ty70, @Tryd.arr70, @Tryd.el70, @Tryd.slK70, @Tryd.zero70, @Tryd.blank70, @Tryd.place70, @Tryd.ty75, @Tryd.kind75, @Tryd.zero75, @Tryd.ty76, @Tryd.kind76, @Tryd.zero76, @Tryd.ty77, @Tryd.arr77, @Tryd.el77, @Tryd.slK77, @Tryd.zero77, @Tryd.blank77, @Tryd.place77, @Tryd.ty81, @Tryd.arr81, @Tryd.el81, @Tryd.slK81, @Tryd.zero81, @Tryd.blank81, @Tryd.place81, @Tryd.ty83, @Tryd.arr83, @Tryd.el83, @Tryd.slK83, @Tryd.zero83, @Tryd.blank83, @Tryd.place83, @Tryd.ty84, @Tryd.arr84, @Tryd.el84, @Tryd.slK84, @Tryd.zero84, @Tryd.blank84, @Tryd.place84, @Tryd.ty88, @Tryd.arr88, @Tryd.el88⟩
theorem Tryd.facts4 : type_of% @Tryd.slK88 ∧ type_of% @Tryd.zero88 ∧ type_of% @Tryd.blank88 ∧ type_of% @Tryd.place88 ∧ type_of% @Tryd.ty95 ∧ type_of% @Tryd.zero95 ∧ type_of% @Tryd.blank95 ∧ type_of% @Tryd.fld95_0 ∧ type_of% @Tryd.place95_0 ∧ type_of% @Tryd.fld95_1 ∧ type_of% @Tryd.place95_1 ∧ type_of% @Tryd.fld95_2 ∧ type_of% @Tryd.place95_2 ∧ type_of% @Tryd.fld95_3 ∧ type_of% @Tryd.place95_3 ∧ type_of% @Tryd.ty96 ∧ type_of% @Tryd.zero96 ∧ type_of% @Tryd.blank96 ∧ type_of% @Tryd.fld96_0 ∧ type_of% @Tryd.place96_0 ∧ type_of% @Tryd.fld96_1 ∧ type_of% @Tryd.place96_1 ∧ type_of% @Tryd.fld96_2 ∧ type_of% @Tryd.place96_2 ∧ type_of% @Tryd.fld96_3 ∧ type_of% @Tryd.place96_3 ∧ type_of% @Tryd.ty101 ∧ type_of% @Tryd.kind101 ∧ type_of% @Tryd.zero101 ∧ type_of% @Tryd.ty102 ∧ type_of% @Tryd.kind102 ∧ type_of% @Tryd.zero102 ∧ type_of% @Tryd.ty104 ∧ type_of% @Tryd.zero104 ∧ type_of% @Tryd.ty105 ∧ type_of% @Tryd.kind105 ∧ type_of% @Tryd.zero105 ∧ type_of% @Tryd.ty106 ∧ type_of% @Tryd.kind106 ∧ type_of% @Tryd.zero106 ∧ type_of% @Tryd.ty107 ∧ type_of% @Tryd.zero107 ∧ type_of% @Tryd.blank107 ∧ type_of% @Tryd.fld107_0 ∧ type_of% @Tryd.place107_0 ∧ type_of% @Tryd.fld107_1 ∧ type_of% @Tryd.place107_1 ∧ type_of% @Tryd.fld107_2 ∧ type_of% @Tryd.place107_2 ∧ type_of% @Tryd.fld107_3 ∧ type_of% @Tryd.place107_3 ∧ type_of% @Tryd.fld107_4 ∧ type_of% @Tryd.place107_4 ∧ type_of% @Tryd.fld107_5 ∧ type_of% @Tryd.place107_5 ∧ type_of% @Tryd.fld107_6 ∧ type_of% @Tryd.place107_6 ∧ type_of% @Tryd.fld107_7 ∧ type_of% @Tryd.place107_7 ∧ type_of% @Tryd.fld107_8 :=
  ⟨@Tryd.slK88, @Tryd.zero88, @Tryd.blank88, @Tryd.place88, @Tryd.ty95, @Tryd.zero95, @Tryd.blank95, @Tryd.fld95_0, @Tryd.place95_0, @Tryd.fld95_1, @Tryd.place95_1, @Tryd.fld95_2, @Tryd.place95_2, @Tryd.fld95_3, @Tryd.place95_3, @Tryd.ty96, @Tryd.zero96, @Tryd.blank96, @Tryd.fld96_0, @Tryd.place96_0, @Tryd.fld96_1, @Tryd.place96_1, @Tryd.fld96_2, @Tryd.place96_2, @Tryd.fld96_3, @Tryd.place96_3, @Tryd.ty101, @Tryd.kind101, @Tryd.zero101, @Tryd.ty102, @Tryd.kind102, @Tryd.zero102, @Tryd.ty104, @Tryd.zero104, @Tryd.ty105, @Tryd.kind105, @Tryd.zero105, @Tryd.ty106, @Tryd.kind106, @Tryd.zero106, @Tryd.ty107, @Tryd.zero107, @Tryd.blank107, @Tryd.fld107_0, @Tryd.place107_0, @Tryd.fld107_1, @Tryd.place107_1, @Tryd.fld107_2, @Tryd.place107_2, @Tryd.fld107_3, @Tryd.place107_3, @Tryd.fld107_4, @Tryd.place107_4, @Tryd.fld107_5, @Tryd.place107_5, @Tryd.fld107_6, @Tryd.place107_6, @Tryd.fld107_7, @Tryd.place107_7, @Tryd.fld107_8⟩
theorem Tryd.facts5 : type_of% @Tryd.place107_8 ∧ type_of% @Tryd.fld107_9 ∧ type_of% @Tryd.place107_9 ∧ type_of% @Tryd.fld107_10 ∧ type_of% @Tryd.place107_10 ∧ type_of% @Tryd.ty108 ∧ type_of% @Tryd.zero108 ∧ type_of% @Tryd.blank108 ∧ type_of% @Tryd.fld108_0 ∧ type_of% @Tryd.place108_0 ∧ type_of% @Tryd.fld108_1 ∧ type_of% @Tryd.place108_1 ∧ type_of% @Tryd.fld108_2 ∧ type_of% @Tryd.place108_2 ∧ type_of% @Tryd.fld108_3 ∧ type_of% @Tryd.place108_3 ∧ type_of% @Tryd.fld108_4 ∧ type_of% @Tryd.place108_4 ∧ type_of% @Tryd.fld108_5 ∧ type_of% @Tryd.place108_5 ∧ type_of% @Tryd.fld108_6 ∧ type_of% @Tryd.place108_6 ∧ type_of% @Tryd.fld108_7 ∧ type_of% @Tryd.place108_7 ∧ type_of% @Tryd.fld108_8 ∧ type_of% @Tryd.place108_8 ∧ type_of% @Tryd.fld108_9 ∧ type_of% @Tryd.place108_9 ∧ type_of% @Tryd.fld108_10 ∧ type_of% @Tryd.place108_10 ∧ type_of% @Tryd.callable3 ∧ type_of% @Tryd.callable4 ∧ type_of% @Tryd.callable5 ∧ type_of% @Tryd.callable6 ∧ type_of% @Tryd.callable7 ∧ type_of% @Tryd.callable8 ∧ type_of% @Tryd.callable9 ∧ type_of% @Tryd.callable10 ∧ type_of% @Tryd.callable11 ∧ type_of% @Tryd.callable12 ∧ type_of% @Tryd.callable13 ∧ type_of% @Tryd.callable14 ∧ type_of% @Tryd.callable15 ∧ type_of% @Tryd.callable16 ∧ type_of% @Tryd.callable17 ∧ type_of% @Tryd.callable18 ∧ type_of% @Tryd.callable19 ∧ type_of% @Tryd.callable20 ∧ type_of% @Tryd.callable21 ∧ type_of% @Tryd.callable22 ∧ type_of% @Tryd.callable23 ∧ type_of% @Tryd.callable24 ∧ type_of% @Tryd.callable25 ∧ type_of% @Tryd.callable26 ∧ type_of% @Tryd.callable27 ∧ type_of% @Tryd.callable28 ∧ type_of% @Tryd.callable29 ∧ type_of% @Tryd.callable30 ∧ type_of% @Tryd.callable31 ∧ type_of% @Tryd.callable32 :=
  ⟨@Tryd.place107_8, @Tryd.fld107_9, @Tryd.place107_9, @Tryd.fld107_10, @Tryd.place107_10, @Tryd.ty108, @Tryd.zero108, @Tryd.blank108, @Tryd.fld108_0, @Tryd.place108_0, @Tryd.fld108_1, @Tryd.place108_1, @Tryd.fld108_2, @Tryd.place108_2, @Tryd.fld108_3, @Tryd.place108_3, @Tryd.fld108_4, @Tryd.place108_4, @Tryd.fld108_5, @Tryd.place108_5, @Tryd.fld108_6, @Tryd.place108_6, @Tryd.fld108_7, @Tryd.place108_7, @Tryd.fld108_8, @Tryd.place108_8, @Tryd.fld108_9, @Tryd.place108_9, @Tryd.fld108_10, @Tryd.place108_10, @Tryd.callable3, @Tryd.callable4, @Tryd.callable5, @Tryd.callable6, @Tryd.callable7, @Tryd.callable8, @Tryd.callable9, @Tryd.callable10, @Tryd.callable11, @Tryd.callable12, @Tryd.callable13, @Tryd.callable14, @Tryd.callable15, @Tryd.callable16, @Tryd.callable17, @Tryd.callable18, @Tryd.callable19, @Tryd.callable20, @Tryd.callable21, @Tryd.callable22, @Tryd.callable23, @Tryd.callable24, @Tryd.callable25, @Tryd.callable26, @Tryd.callable27, @Tryd.callable28, @Tryd.callable29, @Tryd.callable30, @Tryd.callable31, @Tryd.callable32⟩
theorem Tryd.facts6 : type_of% @Tryd.callable33 ∧ type_of% @Tryd.callable34 ∧ type_of% @Tryd.callable35 ∧ type_of% @Tryd.callable36 ∧ type_of% @Tryd.callable37 ∧ type_of% @Tryd.callable38 ∧ type_of% @Tryd.callable39 ∧ type_of% @Tryd.callable40 ∧ type_of% @Tryd.callable41 ∧ type_of% @Tryd.callable42 ∧ type_of% @Tryd.callable43 ∧ type_of% @Tryd.callable44 ∧ type_of% @Tryd.callable45 ∧ type_of% @Tryd.callable46 ∧ type_of% @Tryd.callable47 ∧ type_of% @Tryd.callable48 ∧ type_of% @Tryd.callable49 ∧ type_of% @Tryd.callable50 ∧ type_of% @Tryd.callable51 ∧ type_of% @Tryd.callable52 ∧ type_of% @Tryd.callable53 ∧ type_of% @Tryd.callable54 ∧ type_of% @Tryd.callable55 ∧ type_of% @Tryd.callable56 ∧ type_of% @Tryd.callable57 ∧ type_of% @Tryd.callable58 ∧ type_of% @Tryd.callable59 ∧ type_of% @Tryd.callable60 ∧ type_of% @Tryd.callable61 ∧ type_of% @Tryd.callable62 ∧ type_of% @Tryd.callable63 ∧ type_of% @Tryd.callable64 ∧ type_of% @Tryd.callable65 ∧ type_of% @Tryd.callable66 ∧ type_of% @Tryd.callable67 ∧ type_of% @Tryd.callable68 ∧ type_of% @Tryd.callable69 ∧ type_of% @Tryd.callable70 ∧ type_of% @Tryd.callable71 ∧ type_of% @Tryd.callable72 ∧ type_of% @Tryd.callable73 ∧ type_of% @Tryd.callable74 ∧ type_of% @Tryd.callable75 ∧ type_of% @Tryd.callable76 ∧ type_of% @Tryd.callable77 ∧ type_of% @Tryd.callable78 ∧ type_of% @Tryd.callable79 ∧ type_of% @Tryd.callable80 ∧ type_of% @Tryd.callable81 ∧ type_of% @Tryd.callable82 ∧ type_of% @Tryd.callable83 ∧ type_of% @Tryd.callable84 ∧ type_of% @Tryd.mixed ∧ type_of% @Tryd.isb4 ∧ type_of% @Tryd.lenK9 ∧ type_of% @Tryd.lenK10 ∧ type_of% @Tryd.lenK11 ∧ type_of% @Tryd.arrI22 ∧ type_of% @Tryd.arrI23 ∧ type_of% @Tryd.lenK24 :=
  ⟨@Tryd.callable33, @Tryd.callable34, @Tryd.callable35, @Tryd.callable36, @Tryd.callable37, @Tryd.callable38, @Tryd.callable39, @Tryd.callable40, @Tryd.callable41, @Tryd.callable42, @Tryd.callable43, @Tryd.callable44, @Tryd.callable45, @Tryd.callable46, @Tryd.callable47, @Tryd.callable48, @Tryd.callable49, @Tryd.callable50, @Tryd.callable51, @Tryd.callable52, @Tryd.callable53, @Tryd.callable54, @Tryd.callable55, @Tryd.callable56, @Tryd.callable57, @Tryd.callable58, @Tryd.callable59, @Tryd.callable60, @Tryd.callable61, @Tryd.callable62, @Tryd.callable63, @Tryd.callable64, @Tryd.callable65, @Tryd.callable66, @Tryd.callable67, @Tryd.callable68, @Tryd.callable69, @Tryd.callable70, @Tryd.callable71, @Tryd.callable72, @Tryd.callable73, @Tryd.callable74, @Tryd.callable75, @Tryd.callable76, @Tryd.callable77, @Tryd.callable78, @Tryd.callable79, @Tryd.callable80, @Tryd.callable81, @Tryd.callable82, @Tryd.callable83, @Tryd.callable84, @Tryd.mixed, @Tryd.isb4, @Tryd.lenK9, @Tryd.lenK10, @Tryd.lenK11, @Tryd.arrI22, @Tryd.arrI23, @Tryd.lenK24⟩
theorem Tryd.facts7 : type_of% @Tryd.arrI39 ∧ type_of% @Tryd.arrI40 ∧ type_of% @Tryd.arrI52 ∧ type_of% @Tryd.lenK62 ∧ type_of% @Tryd.arrI70 ∧ type_of% @Tryd.arrI77 ∧ type_of% @Tryd.arrI81 ∧ type_of% @Tryd.arrI83 ∧ type_of% @Tryd.arrI88 ∧ type_of% @Tryd.tab0 ∧ type_of% @Tryd.tab1 ∧ type_of% @Tryd.tab2 :=
  ⟨@Tryd.arrI39, @Tryd.arrI40, @Tryd.arrI52, @Tryd.lenK62, @Tryd.arrI70, @Tryd.arrI77, @Tryd.arrI81, @Tryd.arrI83, @Tryd.arrI88, @Tryd.tab0, @Tryd.tab1, @Tryd.tab2⟩
/-- All of them, under one name. -/
theorem Tryd.facts : type_of% @Tryd.facts0 ∧ type_of% @Tryd.facts1 ∧ type_of% @Tryd.facts2 ∧ type_of% @Tryd.facts3 ∧ type_of% @Tryd.facts4 ∧ type_of% @Tryd.facts5 ∧ type_of% @Tryd.facts6 ∧ type_of% @Tryd.facts7 :=
  ⟨@Tryd.facts0, @Tryd.facts1, @Tryd.facts2, @Tryd.facts3, @Tryd.facts4, @Tryd.facts5, @Tryd.facts6, @Tryd.facts7⟩
end Go.Proofs.YtljncmifbncdbaaDoor
