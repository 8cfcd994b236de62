/-
  Closed facts on the tables of this seat's program, each by the kernel (made by program from the translation: wip/lib/facts.py).
-/
import Derived.Test.YtlpckbkmmocaaaaDoorVcgQ0
import Derived.Test.YtlpckbkmmocaaaaDoorVcgZ1
import Derived.Test.YtlpckbkmmocaaaaDoorProg
import Derived.KernelRfl
set_option linter.unusedVariables false
set_option linter.unusedSimpArgs false
namespace Go.Proofs.YtlpckbkmmocaaaaDoor
open Go.Vcg
instance : Vcg.Tables Tryd.prog := ⟨fun n => if n = 0 then some ⟨false, rowI .u32 8 ivW⟩ else if n = 1 then some ⟨false, rowI .u32 64 kW⟩ else if n = 2 then some ⟨false, rowI .u32 64 kW⟩ else none⟩
theorem Tryd.tab0 : Tables.row Tryd.prog 0 = some ⟨false, rowI .u32 8 ivW⟩ := rfl
theorem Tryd.tab1 : Tables.row Tryd.prog 1 = some ⟨false, rowI .u32 64 kW⟩ := rfl
theorem Tryd.tab2 : Tables.row Tryd.prog 2 = some ⟨false, rowI .u32 64 kW⟩ := rfl

theorem Tryd.ty2 : tyOf Tryd.prog 2 = some (false, 1) := by kernel_rfl
theorem Tryd.kind2 : kindOf Tryd.prog 2 = some IntKind.i64 := by kernel_rfl
theorem Tryd.zero2 : zeroOf Tryd.prog 2 = some ([Value.int IntKind.i64 0]) := by kernel_rfl
theorem Tryd.ty3 : tyOf Tryd.prog 3 = some (false, 1) := by kernel_rfl
theorem Tryd.kind3 : kindOf Tryd.prog 3 = some IntKind.i64 := by kernel_rfl
theorem Tryd.zero3 : zeroOf Tryd.prog 3 = some ([Value.int IntKind.i64 0]) := by kernel_rfl
theorem Tryd.ty4 : tyOf Tryd.prog 4 = some (false, 1) := by kernel_rfl
theorem Tryd.zero4 : zeroOf Tryd.prog 4 = some ([Value.bool false]) := by kernel_rfl
theorem Tryd.ty5 : tyOf Tryd.prog 5 = some (false, 1) := by kernel_rfl
theorem Tryd.kind5 : kindOf Tryd.prog 5 = some IntKind.u8 := by kernel_rfl
theorem Tryd.zero5 : zeroOf Tryd.prog 5 = some ([Value.int IntKind.u8 0]) := by kernel_rfl
theorem Tryd.ty6 : tyOf Tryd.prog 6 = some (false, 1) := by kernel_rfl
theorem Tryd.kind6 : kindOf Tryd.prog 6 = some IntKind.u8 := by kernel_rfl
theorem Tryd.zero6 : zeroOf Tryd.prog 6 = some ([Value.int IntKind.u8 0]) := by kernel_rfl
theorem Tryd.ty7 : tyOf Tryd.prog 7 = some (true, 4) := by kernel_rfl
theorem Tryd.zero7 : zeroOf Tryd.prog 7 = some ([Value.int IntKind.i64 0, Value.int IntKind.i64 0, Value.bool false, Value.int IntKind.u8 0]) := by kernel_rfl
theorem Tryd.blank7 : blankOf Tryd.prog 7 = some ([Sum.inl (Value.int IntKind.i64 0), Sum.inl (Value.int IntKind.i64 0), Sum.inl (Value.bool false), Sum.inl (Value.int IntKind.u8 0)]) := by kernel_rfl
theorem Tryd.fld7_0 : fieldOf Tryd.prog 7 0 = some (0, false, 1) := by kernel_rfl
theorem Tryd.place7_0 : placeOf Tryd.prog 7 0 = some (0, 1) := by kernel_rfl
theorem Tryd.fld7_1 : fieldOf Tryd.prog 7 1 = some (1, false, 1) := by kernel_rfl
theorem Tryd.place7_1 : placeOf Tryd.prog 7 1 = some (1, 1) := by kernel_rfl
theorem Tryd.fld7_2 : fieldOf Tryd.prog 7 2 = some (2, false, 1) := by kernel_rfl
theorem Tryd.place7_2 : placeOf Tryd.prog 7 2 = some (2, 1) := by kernel_rfl
theorem Tryd.fld7_3 : fieldOf Tryd.prog 7 3 = some (3, false, 1) := by kernel_rfl
theorem Tryd.place7_3 : placeOf Tryd.prog 7 3 = some (3, 1) := by kernel_rfl
theorem Tryd.ty8 : tyOf Tryd.prog 8 = some (true, 4) := by kernel_rfl
theorem Tryd.zero8 : zeroOf Tryd.prog 8 = some ([Value.int IntKind.i64 0, Value.int IntKind.i64 0, Value.bool false, Value.int IntKind.u8 0]) := by kernel_rfl
theorem Tryd.blank8 : blankOf Tryd.prog 8 = some ([Sum.inl (Value.int IntKind.i64 0), Sum.inl (Value.int IntKind.i64 0), Sum.inl (Value.bool false), Sum.inl (Value.int IntKind.u8 0)]) := by kernel_rfl
theorem Tryd.fld8_0 : fieldOf Tryd.prog 8 0 = some (0, false, 1) := by kernel_rfl
theorem Tryd.place8_0 : placeOf Tryd.prog 8 0 = some (0, 1) := by kernel_rfl
theorem Tryd.fld8_1 : fieldOf Tryd.prog 8 1 = some (1, false, 1) := by kernel_rfl
theorem Tryd.place8_1 : placeOf Tryd.prog 8 1 = some (1, 1) := by kernel_rfl
theorem Tryd.fld8_2 : fieldOf Tryd.prog 8 2 = some (2, false, 1) := by kernel_rfl
theorem Tryd.place8_2 : placeOf Tryd.prog 8 2 = some (2, 1) := by kernel_rfl
theorem Tryd.fld8_3 : fieldOf Tryd.prog 8 3 = some (3, false, 1) := by kernel_rfl
theorem Tryd.place8_3 : placeOf Tryd.prog 8 3 = some (3, 1) := by kernel_rfl
theorem Tryd.ty9 : tyOf Tryd.prog 9 = some (false, 1) := by kernel_rfl
theorem Tryd.zero9 : zeroOf Tryd.prog 9 = some ([Value.string ByteArray.empty]) := by kernel_rfl
theorem Tryd.ty10 : tyOf Tryd.prog 10 = some (false, 1) := by kernel_rfl
theorem Tryd.zero10 : zeroOf Tryd.prog 10 = some ([Value.string ByteArray.empty]) := by kernel_rfl
theorem Tryd.ty11 : tyOf Tryd.prog 11 = some (false, 1) := by kernel_rfl
theorem Tryd.zero11 : zeroOf Tryd.prog 11 = some ([Value.string ByteArray.empty]) := by kernel_rfl
theorem Tryd.ty12 : tyOf Tryd.prog 12 = some (false, 1) := by kernel_rfl
theorem Tryd.kind12 : kindOf Tryd.prog 12 = some IntKind.u64 := by kernel_rfl
theorem Tryd.zero12 : zeroOf Tryd.prog 12 = some ([Value.int IntKind.u64 0]) := by kernel_rfl
theorem Tryd.ty13 : tyOf Tryd.prog 13 = some (true, 2) := by kernel_rfl
theorem Tryd.zero13 : zeroOf Tryd.prog 13 = some ([Value.string ByteArray.empty, Value.int IntKind.u64 0]) := by kernel_rfl
theorem Tryd.blank13 : blankOf Tryd.prog 13 = some ([Sum.inl (Value.string ByteArray.empty), Sum.inl (Value.int IntKind.u64 0)]) := by kernel_rfl
theorem Tryd.fld13_0 : fieldOf Tryd.prog 13 0 = some (0, false, 1) := by kernel_rfl
theorem Tryd.place13_0 : placeOf Tryd.prog 13 0 = some (0, 1) := by kernel_rfl
theorem Tryd.fld13_1 : fieldOf Tryd.prog 13 1 = some (1, false, 1) := by kernel_rfl
theorem Tryd.place13_1 : placeOf Tryd.prog 13 1 = some (1, 1) := by kernel_rfl
theorem Tryd.ty14 : tyOf Tryd.prog 14 = some (true, 2) := by kernel_rfl
theorem Tryd.zero14 : zeroOf Tryd.prog 14 = some ([Value.string ByteArray.empty, Value.int IntKind.u64 0]) := by kernel_rfl
theorem Tryd.blank14 : blankOf Tryd.prog 14 = some ([Sum.inl (Value.string ByteArray.empty), Sum.inl (Value.int IntKind.u64 0)]) := by kernel_rfl
theorem Tryd.fld14_0 : fieldOf Tryd.prog 14 0 = some (0, false, 1) := by kernel_rfl
theorem Tryd.place14_0 : placeOf Tryd.prog 14 0 = some (0, 1) := by kernel_rfl
theorem Tryd.fld14_1 : fieldOf Tryd.prog 14 1 = some (1, false, 1) := by kernel_rfl
theorem Tryd.place14_1 : placeOf Tryd.prog 14 1 = some (1, 1) := by kernel_rfl
theorem Tryd.ty15 : tyOf Tryd.prog 15 = some (false, 1) := by kernel_rfl
theorem Tryd.zero15 : zeroOf Tryd.prog 15 = some ([Value.pointer none]) := by kernel_rfl
theorem Tryd.ty16 : tyOf Tryd.prog 16 = some (false, 1) := by kernel_rfl
theorem Tryd.zero16 : zeroOf Tryd.prog 16 = some ([Value.pointer none]) := by kernel_rfl
theorem Tryd.ty17 : tyOf Tryd.prog 17 = some (false, 1) := by kernel_rfl
theorem Tryd.zero17 : zeroOf Tryd.prog 17 = some ([Value.pointer none]) := by kernel_rfl
theorem Tryd.ty18 : tyOf Tryd.prog 18 = some (true, 1) := by kernel_rfl
theorem Tryd.zero18 : zeroOf Tryd.prog 18 = some ([Value.pointer none]) := by kernel_rfl
theorem Tryd.blank18 : blankOf Tryd.prog 18 = some ([Sum.inl (Value.pointer none)]) := by kernel_rfl
theorem Tryd.fld18_0 : fieldOf Tryd.prog 18 0 = some (0, false, 1) := by kernel_rfl
theorem Tryd.place18_0 : placeOf Tryd.prog 18 0 = some (0, 1) := by kernel_rfl
theorem Tryd.ty19 : tyOf Tryd.prog 19 = some (true, 1) := by kernel_rfl
theorem Tryd.zero19 : zeroOf Tryd.prog 19 = some ([Value.pointer none]) := by kernel_rfl
theorem Tryd.blank19 : blankOf Tryd.prog 19 = some ([Sum.inl (Value.pointer none)]) := by kernel_rfl
theorem Tryd.fld19_0 : fieldOf Tryd.prog 19 0 = some (0, false, 1) := by kernel_rfl
theorem Tryd.place19_0 : placeOf Tryd.prog 19 0 = some (0, 1) := by kernel_rfl
theorem Tryd.ty21 : tyOf Tryd.prog 21 = some (false, 1) := by kernel_rfl
theorem Tryd.kind21 : kindOf Tryd.prog 21 = some IntKind.i32 := by kernel_rfl
theorem Tryd.zero21 : zeroOf Tryd.prog 21 = some ([Value.int IntKind.i32 0]) := by kernel_rfl
theorem Tryd.ty22 : tyOf Tryd.prog 22 = some (true, 32) := by kernel_rfl
theorem Tryd.arr22 : arrOf Tryd.prog 22 = some (32, 1) := by kernel_rfl
theorem Tryd.el22 : arrEl Tryd.prog 22 = some (32, false, 1) := by kernel_rfl
theorem Tryd.slK22 : slK Tryd.prog 22 = some (some 32, 1) := by kernel_rfl
theorem Tryd.zero22 : zeroOf Tryd.prog 22 = some (List.replicate 32 (Value.int IntKind.u8 0)) := by kernel_rfl
theorem Tryd.blank22 : blankOf Tryd.prog 22 = some (List.replicate 32 (Sum.inl (Value.int IntKind.u8 0))) := by kernel_rfl
theorem Tryd.place22 (i : Nat) : placeOf Tryd.prog 22 i = some (i * 1, 1) := by unfold placeOf; rw [Tryd.arr22]
theorem Tryd.ty23 : tyOf Tryd.prog 23 = some (true, 32) := by kernel_rfl
theorem Tryd.arr23 : arrOf Tryd.prog 23 = some (32, 1) := by kernel_rfl
theorem Tryd.el23 : arrEl Tryd.prog 23 = some (32, false, 1) := by kernel_rfl
theorem Tryd.slK23 : slK Tryd.prog 23 = some (some 32, 1) := by kernel_rfl
theorem Tryd.zero23 : zeroOf Tryd.prog 23 = some (List.replicate 32 (Value.int IntKind.u8 0)) := by kernel_rfl
theorem Tryd.blank23 : blankOf Tryd.prog 23 = some (List.replicate 32 (Sum.inl (Value.int IntKind.u8 0))) := by kernel_rfl
theorem Tryd.place23 (i : Nat) : placeOf Tryd.prog 23 i = some (i * 1, 1) := by unfold placeOf; rw [Tryd.arr23]
theorem Tryd.ty27 : tyOf Tryd.prog 27 = some (false, 1) := by kernel_rfl
theorem Tryd.kind27 : kindOf Tryd.prog 27 = some IntKind.u32 := by kernel_rfl
theorem Tryd.zero27 : zeroOf Tryd.prog 27 = some ([Value.int IntKind.u32 0]) := by kernel_rfl
theorem Tryd.ty28 : tyOf Tryd.prog 28 = some (false, 1) := by kernel_rfl
theorem Tryd.sl28 : Vcg.elemOf Tryd.prog 28 = some 66 := by kernel_rfl
theorem Tryd.slK28 : slK Tryd.prog 28 = some (none, 66) := by kernel_rfl
theorem Tryd.mkK28 : mkK Tryd.prog 28 = some (List.replicate 2 (Value.int IntKind.u32 0) ++ List.replicate 64 (Value.int IntKind.u8 0), 66, 72) := by kernel_rfl
theorem Tryd.zero28 : zeroOf Tryd.prog 28 = some ([Value.slice none 0 0]) := by kernel_rfl
theorem Tryd.ty29 : tyOf Tryd.prog 29 = some (true, 203) := by kernel_rfl
theorem Tryd.zero29 : zeroOf Tryd.prog 29 = some (List.replicate 3 (Value.bool false) ++ List.replicate 192 (Value.int IntKind.u8 0) ++ List.replicate 5 (Value.int IntKind.u32 0) ++ List.replicate 2 (Value.int IntKind.i64 0) ++ List.replicate 1 (Value.slice none 0 0)) := by kernel_rfl
theorem Tryd.blank29 : blankOf Tryd.prog 29 = some (List.replicate 3 (Sum.inl (Value.bool false)) ++ List.replicate 192 (Sum.inl (Value.int IntKind.u8 0)) ++ List.replicate 5 (Sum.inl (Value.int IntKind.u32 0)) ++ List.replicate 2 (Sum.inl (Value.int IntKind.i64 0)) ++ List.replicate 1 (Sum.inl (Value.slice none 0 0))) := by kernel_rfl
theorem Tryd.fld29_0 : fieldOf Tryd.prog 29 0 = some (0, false, 1) := by kernel_rfl
theorem Tryd.place29_0 : placeOf Tryd.prog 29 0 = some (0, 1) := by kernel_rfl
theorem Tryd.fld29_1 : fieldOf Tryd.prog 29 1 = some (1, false, 1) := by kernel_rfl
theorem Tryd.place29_1 : placeOf Tryd.prog 29 1 = some (1, 1) := by kernel_rfl
theorem Tryd.fld29_2 : fieldOf Tryd.prog 29 2 = some (2, false, 1) := by kernel_rfl
theorem Tryd.place29_2 : placeOf Tryd.prog 29 2 = some (2, 1) := by kernel_rfl
theorem Tryd.fld29_3 : fieldOf Tryd.prog 29 3 = some (3, true, 32) := by kernel_rfl
theorem Tryd.place29_3 : placeOf Tryd.prog 29 3 = some (3, 32) := by kernel_rfl
theorem Tryd.fld29_4 : fieldOf Tryd.prog 29 4 = some (35, true, 32) := by kernel_rfl
theorem Tryd.place29_4 : placeOf Tryd.prog 29 4 = some (35, 32) := by kernel_rfl
theorem Tryd.fld29_5 : fieldOf Tryd.prog 29 5 = some (67, true, 32) := by kernel_rfl
theorem Tryd.place29_5 : placeOf Tryd.prog 29 5 = some (67, 32) := by kernel_rfl
theorem Tryd.fld29_6 : fieldOf Tryd.prog 29 6 = some (99, true, 32) := by kernel_rfl
theorem Tryd.place29_6 : placeOf Tryd.prog 29 6 = some (99, 32) := by kernel_rfl
theorem Tryd.fld29_7 : fieldOf Tryd.prog 29 7 = some (131, true, 32) := by kernel_rfl
theorem Tryd.place29_7 : placeOf Tryd.prog 29 7 = some (131, 32) := by kernel_rfl
theorem Tryd.fld29_8 : fieldOf Tryd.prog 29 8 = some (163, true, 32) := by kernel_rfl
theorem Tryd.place29_8 : placeOf Tryd.prog 29 8 = some (163, 32) := by kernel_rfl
theorem Tryd.fld29_9 : fieldOf Tryd.prog 29 9 = some (195, false, 1) := by kernel_rfl
theorem Tryd.place29_9 : placeOf Tryd.prog 29 9 = some (195, 1) := by kernel_rfl
theorem Tryd.fld29_10 : fieldOf Tryd.prog 29 10 = some (196, false, 1) := by kernel_rfl
theorem Tryd.place29_10 : placeOf Tryd.prog 29 10 = some (196, 1) := by kernel_rfl
theorem Tryd.fld29_11 : fieldOf Tryd.prog 29 11 = some (197, false, 1) := by kernel_rfl
theorem Tryd.place29_11 : placeOf Tryd.prog 29 11 = some (197, 1) := by kernel_rfl
theorem Tryd.fld29_12 : fieldOf Tryd.prog 29 12 = some (198, false, 1) := by kernel_rfl
theorem Tryd.place29_12 : placeOf Tryd.prog 29 12 = some (198, 1) := by kernel_rfl
theorem Tryd.fld29_13 : fieldOf Tryd.prog 29 13 = some (199, false, 1) := by kernel_rfl
theorem Tryd.place29_13 : placeOf Tryd.prog 29 13 = some (199, 1) := by kernel_rfl
theorem Tryd.fld29_14 : fieldOf Tryd.prog 29 14 = some (200, false, 1) := by kernel_rfl
theorem Tryd.place29_14 : placeOf Tryd.prog 29 14 = some (200, 1) := by kernel_rfl
theorem Tryd.fld29_15 : fieldOf Tryd.prog 29 15 = some (201, false, 1) := by kernel_rfl
theorem Tryd.place29_15 : placeOf Tryd.prog 29 15 = some (201, 1) := by kernel_rfl
theorem Tryd.fld29_16 : fieldOf Tryd.prog 29 16 = some (202, false, 1) := by kernel_rfl
theorem Tryd.place29_16 : placeOf Tryd.prog 29 16 = some (202, 1) := by kernel_rfl
theorem Tryd.ty30 : tyOf Tryd.prog 30 = some (true, 203) := by kernel_rfl
theorem Tryd.zero30 : zeroOf Tryd.prog 30 = some (List.replicate 3 (Value.bool false) ++ List.replicate 192 (Value.int IntKind.u8 0) ++ List.replicate 5 (Value.int IntKind.u32 0) ++ List.replicate 2 (Value.int IntKind.i64 0) ++ List.replicate 1 (Value.slice none 0 0)) := by kernel_rfl
theorem Tryd.blank30 : blankOf Tryd.prog 30 = some (List.replicate 3 (Sum.inl (Value.bool false)) ++ List.replicate 192 (Sum.inl (Value.int IntKind.u8 0)) ++ List.replicate 5 (Sum.inl (Value.int IntKind.u32 0)) ++ List.replicate 2 (Sum.inl (Value.int IntKind.i64 0)) ++ List.replicate 1 (Sum.inl (Value.slice none 0 0))) := by kernel_rfl
theorem Tryd.fld30_0 : fieldOf Tryd.prog 30 0 = some (0, false, 1) := by kernel_rfl
theorem Tryd.place30_0 : placeOf Tryd.prog 30 0 = some (0, 1) := by kernel_rfl
theorem Tryd.fld30_1 : fieldOf Tryd.prog 30 1 = some (1, false, 1) := by kernel_rfl
theorem Tryd.place30_1 : placeOf Tryd.prog 30 1 = some (1, 1) := by kernel_rfl
theorem Tryd.fld30_2 : fieldOf Tryd.prog 30 2 = some (2, false, 1) := by kernel_rfl
theorem Tryd.place30_2 : placeOf Tryd.prog 30 2 = some (2, 1) := by kernel_rfl
theorem Tryd.fld30_3 : fieldOf Tryd.prog 30 3 = some (3, true, 32) := by kernel_rfl
theorem Tryd.place30_3 : placeOf Tryd.prog 30 3 = some (3, 32) := by kernel_rfl
theorem Tryd.fld30_4 : fieldOf Tryd.prog 30 4 = some (35, true, 32) := by kernel_rfl
theorem Tryd.place30_4 : placeOf Tryd.prog 30 4 = some (35, 32) := by kernel_rfl
theorem Tryd.fld30_5 : fieldOf Tryd.prog 30 5 = some (67, true, 32) := by kernel_rfl
theorem Tryd.place30_5 : placeOf Tryd.prog 30 5 = some (67, 32) := by kernel_rfl
theorem Tryd.fld30_6 : fieldOf Tryd.prog 30 6 = some (99, true, 32) := by kernel_rfl
theorem Tryd.place30_6 : placeOf Tryd.prog 30 6 = some (99, 32) := by kernel_rfl
theorem Tryd.fld30_7 : fieldOf Tryd.prog 30 7 = some (131, true, 32) := by kernel_rfl
theorem Tryd.place30_7 : placeOf Tryd.prog 30 7 = some (131, 32) := by kernel_rfl
theorem Tryd.fld30_8 : fieldOf Tryd.prog 30 8 = some (163, true, 32) := by kernel_rfl
theorem Tryd.place30_8 : placeOf Tryd.prog 30 8 = some (163, 32) := by kernel_rfl
theorem Tryd.fld30_9 : fieldOf Tryd.prog 30 9 = some (195, false, 1) := by kernel_rfl
theorem Tryd.place30_9 : placeOf Tryd.prog 30 9 = some (195, 1) := by kernel_rfl
theorem Tryd.fld30_10 : fieldOf Tryd.prog 30 10 = some (196, false, 1) := by kernel_rfl
theorem Tryd.place30_10 : placeOf Tryd.prog 30 10 = some (196, 1) := by kernel_rfl
theorem Tryd.fld30_11 : fieldOf Tryd.prog 30 11 = some (197, false, 1) := by kernel_rfl
theorem Tryd.place30_11 : placeOf Tryd.prog 30 11 = some (197, 1) := by kernel_rfl
theorem Tryd.fld30_12 : fieldOf Tryd.prog 30 12 = some (198, false, 1) := by kernel_rfl
theorem Tryd.place30_12 : placeOf Tryd.prog 30 12 = some (198, 1) := by kernel_rfl
theorem Tryd.fld30_13 : fieldOf Tryd.prog 30 13 = some (199, false, 1) := by kernel_rfl
theorem Tryd.place30_13 : placeOf Tryd.prog 30 13 = some (199, 1) := by kernel_rfl
theorem Tryd.fld30_14 : fieldOf Tryd.prog 30 14 = some (200, false, 1) := by kernel_rfl
theorem Tryd.place30_14 : placeOf Tryd.prog 30 14 = some (200, 1) := by kernel_rfl
theorem Tryd.fld30_15 : fieldOf Tryd.prog 30 15 = some (201, false, 1) := by kernel_rfl
theorem Tryd.place30_15 : placeOf Tryd.prog 30 15 = some (201, 1) := by kernel_rfl
theorem Tryd.fld30_16 : fieldOf Tryd.prog 30 16 = some (202, false, 1) := by kernel_rfl
theorem Tryd.place30_16 : placeOf Tryd.prog 30 16 = some (202, 1) := by kernel_rfl
theorem Tryd.ty34 : tyOf Tryd.prog 34 = some (false, 1) := by kernel_rfl
theorem Tryd.sl34 : Vcg.elemOf Tryd.prog 34 = some 1 := by kernel_rfl
theorem Tryd.slK34 : slK Tryd.prog 34 = some (none, 1) := by kernel_rfl
theorem Tryd.byt34 : bytK Tryd.prog 34 = true := by kernel_rfl
theorem Tryd.mkK34 : mkK Tryd.prog 34 = some ([Value.int IntKind.u8 0], 1, 1) := by kernel_rfl
theorem Tryd.zero34 : zeroOf Tryd.prog 34 = some ([Value.slice none 0 0]) := by kernel_rfl
theorem Tryd.ty45 : tyOf Tryd.prog 45 = some (true, 66) := by kernel_rfl
theorem Tryd.zero45 : zeroOf Tryd.prog 45 = some (List.replicate 2 (Value.int IntKind.u32 0) ++ List.replicate 64 (Value.int IntKind.u8 0)) := by kernel_rfl
theorem Tryd.blank45 : blankOf Tryd.prog 45 = some (List.replicate 2 (Sum.inl (Value.int IntKind.u32 0)) ++ List.replicate 64 (Sum.inl (Value.int IntKind.u8 0))) := by kernel_rfl
theorem Tryd.fld45_0 : fieldOf Tryd.prog 45 0 = some (0, false, 1) := by kernel_rfl
theorem Tryd.place45_0 : placeOf Tryd.prog 45 0 = some (0, 1) := by kernel_rfl
theorem Tryd.fld45_1 : fieldOf Tryd.prog 45 1 = some (1, false, 1) := by kernel_rfl
theorem Tryd.place45_1 : placeOf Tryd.prog 45 1 = some (1, 1) := by kernel_rfl
theorem Tryd.fld45_2 : fieldOf Tryd.prog 45 2 = some (2, true, 32) := by kernel_rfl
theorem Tryd.place45_2 : placeOf Tryd.prog 45 2 = some (2, 32) := by kernel_rfl
theorem Tryd.fld45_3 : fieldOf Tryd.prog 45 3 = some (34, true, 32) := by kernel_rfl
theorem Tryd.place45_3 : placeOf Tryd.prog 45 3 = some (34, 32) := by kernel_rfl
theorem Tryd.ty46 : tyOf Tryd.prog 46 = some (true, 66) := by kernel_rfl
theorem Tryd.zero46 : zeroOf Tryd.prog 46 = some (List.replicate 2 (Value.int IntKind.u32 0) ++ List.replicate 64 (Value.int IntKind.u8 0)) := by kernel_rfl
theorem Tryd.blank46 : blankOf Tryd.prog 46 = some (List.replicate 2 (Sum.inl (Value.int IntKind.u32 0)) ++ List.replicate 64 (Sum.inl (Value.int IntKind.u8 0))) := by kernel_rfl
theorem Tryd.fld46_0 : fieldOf Tryd.prog 46 0 = some (0, false, 1) := by kernel_rfl
theorem Tryd.place46_0 : placeOf Tryd.prog 46 0 = some (0, 1) := by kernel_rfl
theorem Tryd.fld46_1 : fieldOf Tryd.prog 46 1 = some (1, false, 1) := by kernel_rfl
theorem Tryd.place46_1 : placeOf Tryd.prog 46 1 = some (1, 1) := by kernel_rfl
theorem Tryd.fld46_2 : fieldOf Tryd.prog 46 2 = some (2, true, 32) := by kernel_rfl
theorem Tryd.place46_2 : placeOf Tryd.prog 46 2 = some (2, 32) := by kernel_rfl
theorem Tryd.fld46_3 : fieldOf Tryd.prog 46 3 = some (34, true, 32) := by kernel_rfl
theorem Tryd.place46_3 : placeOf Tryd.prog 46 3 = some (34, 32) := by kernel_rfl
theorem Tryd.ty47 : tyOf Tryd.prog 47 = some (false, 1) := by kernel_rfl
theorem Tryd.sl47 : Vcg.elemOf Tryd.prog 47 = some 1 := by kernel_rfl
theorem Tryd.slK47 : slK Tryd.prog 47 = some (none, 1) := by kernel_rfl
theorem Tryd.mkK47 : mkK Tryd.prog 47 = some ([Value.slice none 0 0], 1, 24) := by kernel_rfl
theorem Tryd.zero47 : zeroOf Tryd.prog 47 = some ([Value.slice none 0 0]) := by kernel_rfl
theorem Tryd.ty51 : tyOf Tryd.prog 51 = some (false, 1) := by kernel_rfl
theorem Tryd.kind51 : kindOf Tryd.prog 51 = some IntKind.u64 := by kernel_rfl
theorem Tryd.zero51 : zeroOf Tryd.prog 51 = some ([Value.int IntKind.u64 0]) := by kernel_rfl
theorem Tryd.ty52 : tyOf Tryd.prog 52 = some (true, 8) := by kernel_rfl
theorem Tryd.arr52 : arrOf Tryd.prog 52 = some (8, 1) := by kernel_rfl
theorem Tryd.el52 : arrEl Tryd.prog 52 = some (8, false, 1) := by kernel_rfl
theorem Tryd.slK52 : slK Tryd.prog 52 = some (some 8, 1) := by kernel_rfl
theorem Tryd.zero52 : zeroOf Tryd.prog 52 = some ([Value.int IntKind.u32 0, Value.int IntKind.u32 0, Value.int IntKind.u32 0, Value.int IntKind.u32 0, Value.int IntKind.u32 0, Value.int IntKind.u32 0, Value.int IntKind.u32 0, Value.int IntKind.u32 0]) := by kernel_rfl
theorem Tryd.blank52 : blankOf Tryd.prog 52 = some ([Sum.inl (Value.int IntKind.u32 0), Sum.inl (Value.int IntKind.u32 0), Sum.inl (Value.int IntKind.u32 0), Sum.inl (Value.int IntKind.u32 0), Sum.inl (Value.int IntKind.u32 0), Sum.inl (Value.int IntKind.u32 0), Sum.inl (Value.int IntKind.u32 0), Sum.inl (Value.int IntKind.u32 0)]) := by kernel_rfl
theorem Tryd.place52 (i : Nat) : placeOf Tryd.prog 52 i = some (i * 1, 1) := by unfold placeOf; rw [Tryd.arr52]
theorem Tryd.ty54 : tyOf Tryd.prog 54 = some (false, 1) := by kernel_rfl
theorem Tryd.kind54 : kindOf Tryd.prog 54 = some IntKind.u64 := by kernel_rfl
theorem Tryd.zero54 : zeroOf Tryd.prog 54 = some ([Value.int IntKind.u64 0]) := by kernel_rfl
theorem Tryd.ty56 : tyOf Tryd.prog 56 = some (true, 5) := by kernel_rfl
theorem Tryd.arr56 : arrOf Tryd.prog 56 = some (5, 1) := by kernel_rfl
theorem Tryd.el56 : arrEl Tryd.prog 56 = some (5, false, 1) := by kernel_rfl
theorem Tryd.slK56 : slK Tryd.prog 56 = some (some 5, 1) := by kernel_rfl
theorem Tryd.zero56 : zeroOf Tryd.prog 56 = some ([Value.int IntKind.u64 0, Value.int IntKind.u64 0, Value.int IntKind.u64 0, Value.int IntKind.u64 0, Value.int IntKind.u64 0]) := by kernel_rfl
theorem Tryd.blank56 : blankOf Tryd.prog 56 = some ([Sum.inl (Value.int IntKind.u64 0), Sum.inl (Value.int IntKind.u64 0), Sum.inl (Value.int IntKind.u64 0), Sum.inl (Value.int IntKind.u64 0), Sum.inl (Value.int IntKind.u64 0)]) := by kernel_rfl
theorem Tryd.place56 (i : Nat) : placeOf Tryd.prog 56 i = some (i * 1, 1) := by unfold placeOf; rw [Tryd.arr56]
theorem Tryd.ty57 : tyOf Tryd.prog 57 = some (true, 5) := by kernel_rfl
theorem Tryd.arr57 : arrOf Tryd.prog 57 = some (5, 1) := by kernel_rfl
theorem Tryd.el57 : arrEl Tryd.prog 57 = some (5, false, 1) := by kernel_rfl
theorem Tryd.slK57 : slK Tryd.prog 57 = some (some 5, 1) := by kernel_rfl
theorem Tryd.zero57 : zeroOf Tryd.prog 57 = some ([Value.int IntKind.u64 0, Value.int IntKind.u64 0, Value.int IntKind.u64 0, Value.int IntKind.u64 0, Value.int IntKind.u64 0]) := by kernel_rfl
theorem Tryd.blank57 : blankOf Tryd.prog 57 = some ([Sum.inl (Value.int IntKind.u64 0), Sum.inl (Value.int IntKind.u64 0), Sum.inl (Value.int IntKind.u64 0), Sum.inl (Value.int IntKind.u64 0), Sum.inl (Value.int IntKind.u64 0)]) := by kernel_rfl
theorem Tryd.place57 (i : Nat) : placeOf Tryd.prog 57 i = some (i * 1, 1) := by unfold placeOf; rw [Tryd.arr57]
theorem Tryd.ty60 : tyOf Tryd.prog 60 = some (true, 16) := by kernel_rfl
theorem Tryd.arr60 : arrOf Tryd.prog 60 = some (16, 1) := by kernel_rfl
theorem Tryd.el60 : arrEl Tryd.prog 60 = some (16, false, 1) := by kernel_rfl
theorem Tryd.slK60 : slK Tryd.prog 60 = some (some 16, 1) := by kernel_rfl
theorem Tryd.zero60 : zeroOf Tryd.prog 60 = some (List.replicate 16 (Value.int IntKind.u64 0)) := by kernel_rfl
theorem Tryd.blank60 : blankOf Tryd.prog 60 = some (List.replicate 16 (Sum.inl (Value.int IntKind.u64 0))) := by kernel_rfl
theorem Tryd.place60 (i : Nat) : placeOf Tryd.prog 60 i = some (i * 1, 1) := by unfold placeOf; rw [Tryd.arr60]
theorem Tryd.ty61 : tyOf Tryd.prog 61 = some (true, 16) := by kernel_rfl
theorem Tryd.arr61 : arrOf Tryd.prog 61 = some (16, 1) := by kernel_rfl
theorem Tryd.el61 : arrEl Tryd.prog 61 = some (16, false, 1) := by kernel_rfl
theorem Tryd.slK61 : slK Tryd.prog 61 = some (some 16, 1) := by kernel_rfl
theorem Tryd.zero61 : zeroOf Tryd.prog 61 = some (List.replicate 16 (Value.int IntKind.u64 0)) := by kernel_rfl
theorem Tryd.blank61 : blankOf Tryd.prog 61 = some (List.replicate 16 (Sum.inl (Value.int IntKind.u64 0))) := by kernel_rfl
theorem Tryd.place61 (i : Nat) : placeOf Tryd.prog 61 i = some (i * 1, 1) := by unfold placeOf; rw [Tryd.arr61]
theorem Tryd.ty63 : tyOf Tryd.prog 63 = some (true, 64) := by kernel_rfl
theorem Tryd.zero63 : zeroOf Tryd.prog 63 = some (List.replicate 64 (Value.int IntKind.u64 0)) := by kernel_rfl
theorem Tryd.blank63 : blankOf Tryd.prog 63 = some (List.replicate 64 (Sum.inl (Value.int IntKind.u64 0))) := by kernel_rfl
theorem Tryd.fld63_0 : fieldOf Tryd.prog 63 0 = some (0, true, 16) := by kernel_rfl
theorem Tryd.place63_0 : placeOf Tryd.prog 63 0 = some (0, 16) := by kernel_rfl
theorem Tryd.fld63_1 : fieldOf Tryd.prog 63 1 = some (16, true, 16) := by kernel_rfl
theorem Tryd.place63_1 : placeOf Tryd.prog 63 1 = some (16, 16) := by kernel_rfl
theorem Tryd.fld63_2 : fieldOf Tryd.prog 63 2 = some (32, true, 16) := by kernel_rfl
theorem Tryd.place63_2 : placeOf Tryd.prog 63 2 = some (32, 16) := by kernel_rfl
theorem Tryd.fld63_3 : fieldOf Tryd.prog 63 3 = some (48, true, 16) := by kernel_rfl
theorem Tryd.place63_3 : placeOf Tryd.prog 63 3 = some (48, 16) := by kernel_rfl
theorem Tryd.ty64 : tyOf Tryd.prog 64 = some (true, 64) := by kernel_rfl
theorem Tryd.zero64 : zeroOf Tryd.prog 64 = some (List.replicate 64 (Value.int IntKind.u64 0)) := by kernel_rfl
theorem Tryd.blank64 : blankOf Tryd.prog 64 = some (List.replicate 64 (Sum.inl (Value.int IntKind.u64 0))) := by kernel_rfl
theorem Tryd.fld64_0 : fieldOf Tryd.prog 64 0 = some (0, true, 16) := by kernel_rfl
theorem Tryd.place64_0 : placeOf Tryd.prog 64 0 = some (0, 16) := by kernel_rfl
theorem Tryd.fld64_1 : fieldOf Tryd.prog 64 1 = some (16, true, 16) := by kernel_rfl
theorem Tryd.place64_1 : placeOf Tryd.prog 64 1 = some (16, 16) := by kernel_rfl
theorem Tryd.fld64_2 : fieldOf Tryd.prog 64 2 = some (32, true, 16) := by kernel_rfl
theorem Tryd.place64_2 : placeOf Tryd.prog 64 2 = some (32, 16) := by kernel_rfl
theorem Tryd.fld64_3 : fieldOf Tryd.prog 64 3 = some (48, true, 16) := by kernel_rfl
theorem Tryd.place64_3 : placeOf Tryd.prog 64 3 = some (48, 16) := by kernel_rfl
theorem Tryd.ty72 : tyOf Tryd.prog 72 = some (true, 64) := by kernel_rfl
theorem Tryd.arr72 : arrOf Tryd.prog 72 = some (64, 1) := by kernel_rfl
theorem Tryd.el72 : arrEl Tryd.prog 72 = some (64, false, 1) := by kernel_rfl
theorem Tryd.slK72 : slK Tryd.prog 72 = some (some 64, 1) := by kernel_rfl
theorem Tryd.zero72 : zeroOf Tryd.prog 72 = some (List.replicate 64 (Value.int IntKind.u32 0)) := by kernel_rfl
theorem Tryd.blank72 : blankOf Tryd.prog 72 = some (List.replicate 64 (Sum.inl (Value.int IntKind.u32 0))) := by kernel_rfl
theorem Tryd.place72 (i : Nat) : placeOf Tryd.prog 72 i = some (i * 1, 1) := by unfold placeOf; rw [Tryd.arr72]
theorem Tryd.ty76 : tyOf Tryd.prog 76 = some (true, 4) := by kernel_rfl
theorem Tryd.arr76 : arrOf Tryd.prog 76 = some (4, 1) := by kernel_rfl
theorem Tryd.el76 : arrEl Tryd.prog 76 = some (4, false, 1) := by kernel_rfl
theorem Tryd.slK76 : slK Tryd.prog 76 = some (some 4, 1) := by kernel_rfl
theorem Tryd.zero76 : zeroOf Tryd.prog 76 = some ([Value.int IntKind.u64 0, Value.int IntKind.u64 0, Value.int IntKind.u64 0, Value.int IntKind.u64 0]) := by kernel_rfl
theorem Tryd.blank76 : blankOf Tryd.prog 76 = some ([Sum.inl (Value.int IntKind.u64 0), Sum.inl (Value.int IntKind.u64 0), Sum.inl (Value.int IntKind.u64 0), Sum.inl (Value.int IntKind.u64 0)]) := by kernel_rfl
theorem Tryd.place76 (i : Nat) : placeOf Tryd.prog 76 i = some (i * 1, 1) := by unfold placeOf; rw [Tryd.arr76]
theorem Tryd.ty77 : tyOf Tryd.prog 77 = some (true, 20) := by kernel_rfl
theorem Tryd.zero77 : zeroOf Tryd.prog 77 = some (List.replicate 20 (Value.int IntKind.u64 0)) := by kernel_rfl
theorem Tryd.blank77 : blankOf Tryd.prog 77 = some (List.replicate 20 (Sum.inl (Value.int IntKind.u64 0))) := by kernel_rfl
theorem Tryd.fld77_0 : fieldOf Tryd.prog 77 0 = some (0, true, 5) := by kernel_rfl
theorem Tryd.place77_0 : placeOf Tryd.prog 77 0 = some (0, 5) := by kernel_rfl
theorem Tryd.fld77_1 : fieldOf Tryd.prog 77 1 = some (5, true, 5) := by kernel_rfl
theorem Tryd.place77_1 : placeOf Tryd.prog 77 1 = some (5, 5) := by kernel_rfl
theorem Tryd.fld77_2 : fieldOf Tryd.prog 77 2 = some (10, true, 5) := by kernel_rfl
theorem Tryd.place77_2 : placeOf Tryd.prog 77 2 = some (10, 5) := by kernel_rfl
theorem Tryd.fld77_3 : fieldOf Tryd.prog 77 3 = some (15, true, 5) := by kernel_rfl
theorem Tryd.place77_3 : placeOf Tryd.prog 77 3 = some (15, 5) := by kernel_rfl
theorem Tryd.ty78 : tyOf Tryd.prog 78 = some (true, 20) := by kernel_rfl
theorem Tryd.zero78 : zeroOf Tryd.prog 78 = some (List.replicate 20 (Value.int IntKind.u64 0)) := by kernel_rfl
theorem Tryd.blank78 : blankOf Tryd.prog 78 = some (List.replicate 20 (Sum.inl (Value.int IntKind.u64 0))) := by kernel_rfl
theorem Tryd.fld78_0 : fieldOf Tryd.prog 78 0 = some (0, true, 5) := by kernel_rfl
theorem Tryd.place78_0 : placeOf Tryd.prog 78 0 = some (0, 5) := by kernel_rfl
theorem Tryd.fld78_1 : fieldOf Tryd.prog 78 1 = some (5, true, 5) := by kernel_rfl
theorem Tryd.place78_1 : placeOf Tryd.prog 78 1 = some (5, 5) := by kernel_rfl
theorem Tryd.fld78_2 : fieldOf Tryd.prog 78 2 = some (10, true, 5) := by kernel_rfl
theorem Tryd.place78_2 : placeOf Tryd.prog 78 2 = some (10, 5) := by kernel_rfl
theorem Tryd.fld78_3 : fieldOf Tryd.prog 78 3 = some (15, true, 5) := by kernel_rfl
theorem Tryd.place78_3 : placeOf Tryd.prog 78 3 = some (15, 5) := by kernel_rfl
theorem Tryd.ty88 : tyOf Tryd.prog 88 = some (true, 2) := by kernel_rfl
theorem Tryd.zero88 : zeroOf Tryd.prog 88 = some ([Value.int IntKind.u64 0, Value.int IntKind.u64 0]) := by kernel_rfl
theorem Tryd.blank88 : blankOf Tryd.prog 88 = some ([Sum.inl (Value.int IntKind.u64 0), Sum.inl (Value.int IntKind.u64 0)]) := by kernel_rfl
theorem Tryd.fld88_0 : fieldOf Tryd.prog 88 0 = some (0, false, 1) := by kernel_rfl
theorem Tryd.place88_0 : placeOf Tryd.prog 88 0 = some (0, 1) := by kernel_rfl
theorem Tryd.fld88_1 : fieldOf Tryd.prog 88 1 = some (1, false, 1) := by kernel_rfl
theorem Tryd.place88_1 : placeOf Tryd.prog 88 1 = some (1, 1) := by kernel_rfl
theorem Tryd.ty89 : tyOf Tryd.prog 89 = some (true, 2) := by kernel_rfl
theorem Tryd.zero89 : zeroOf Tryd.prog 89 = some ([Value.int IntKind.u64 0, Value.int IntKind.u64 0]) := by kernel_rfl
theorem Tryd.blank89 : blankOf Tryd.prog 89 = some ([Sum.inl (Value.int IntKind.u64 0), Sum.inl (Value.int IntKind.u64 0)]) := by kernel_rfl
theorem Tryd.fld89_0 : fieldOf Tryd.prog 89 0 = some (0, false, 1) := by kernel_rfl
theorem Tryd.place89_0 : placeOf Tryd.prog 89 0 = some (0, 1) := by kernel_rfl
theorem Tryd.fld89_1 : fieldOf Tryd.prog 89 1 = some (1, false, 1) := by kernel_rfl
theorem Tryd.place89_1 : placeOf Tryd.prog 89 1 = some (1, 1) := by kernel_rfl
theorem Tryd.ty98 : tyOf Tryd.prog 98 = some (true, 4) := by kernel_rfl
theorem Tryd.zero98 : zeroOf Tryd.prog 98 = some ([Value.pointer none, Value.pointer none, Value.pointer none, Value.string ByteArray.empty]) := by kernel_rfl
theorem Tryd.blank98 : blankOf Tryd.prog 98 = some ([Sum.inl (Value.pointer none), Sum.inl (Value.pointer none), Sum.inl (Value.pointer none), Sum.inl (Value.string ByteArray.empty)]) := by kernel_rfl
theorem Tryd.fld98_0 : fieldOf Tryd.prog 98 0 = some (0, false, 1) := by kernel_rfl
theorem Tryd.place98_0 : placeOf Tryd.prog 98 0 = some (0, 1) := by kernel_rfl
theorem Tryd.fld98_1 : fieldOf Tryd.prog 98 1 = some (1, false, 1) := by kernel_rfl
theorem Tryd.place98_1 : placeOf Tryd.prog 98 1 = some (1, 1) := by kernel_rfl
theorem Tryd.fld98_2 : fieldOf Tryd.prog 98 2 = some (2, false, 1) := by kernel_rfl
theorem Tryd.place98_2 : placeOf Tryd.prog 98 2 = some (2, 1) := by kernel_rfl
theorem Tryd.fld98_3 : fieldOf Tryd.prog 98 3 = some (3, false, 1) := by kernel_rfl
theorem Tryd.place98_3 : placeOf Tryd.prog 98 3 = some (3, 1) := by kernel_rfl
theorem Tryd.ty99 : tyOf Tryd.prog 99 = some (true, 4) := by kernel_rfl
theorem Tryd.zero99 : zeroOf Tryd.prog 99 = some ([Value.pointer none, Value.pointer none, Value.pointer none, Value.string ByteArray.empty]) := by kernel_rfl
theorem Tryd.blank99 : blankOf Tryd.prog 99 = some ([Sum.inl (Value.pointer none), Sum.inl (Value.pointer none), Sum.inl (Value.pointer none), Sum.inl (Value.string ByteArray.empty)]) := by kernel_rfl
theorem Tryd.fld99_0 : fieldOf Tryd.prog 99 0 = some (0, false, 1) := by kernel_rfl
theorem Tryd.place99_0 : placeOf Tryd.prog 99 0 = some (0, 1) := by kernel_rfl
theorem Tryd.fld99_1 : fieldOf Tryd.prog 99 1 = some (1, false, 1) := by kernel_rfl
theorem Tryd.place99_1 : placeOf Tryd.prog 99 1 = some (1, 1) := by kernel_rfl
theorem Tryd.fld99_2 : fieldOf Tryd.prog 99 2 = some (2, false, 1) := by kernel_rfl
theorem Tryd.place99_2 : placeOf Tryd.prog 99 2 = some (2, 1) := by kernel_rfl
theorem Tryd.fld99_3 : fieldOf Tryd.prog 99 3 = some (3, false, 1) := by kernel_rfl
theorem Tryd.place99_3 : placeOf Tryd.prog 99 3 = some (3, 1) := by kernel_rfl
theorem Tryd.ty104 : tyOf Tryd.prog 104 = some (false, 1) := by kernel_rfl
theorem Tryd.kind104 : kindOf Tryd.prog 104 = some IntKind.u8 := by kernel_rfl
theorem Tryd.zero104 : zeroOf Tryd.prog 104 = some ([Value.int IntKind.u8 0]) := by kernel_rfl
theorem Tryd.ty105 : tyOf Tryd.prog 105 = some (false, 1) := by kernel_rfl
theorem Tryd.kind105 : kindOf Tryd.prog 105 = some IntKind.u8 := by kernel_rfl
theorem Tryd.zero105 : zeroOf Tryd.prog 105 = some ([Value.int IntKind.u8 0]) := by kernel_rfl
theorem Tryd.ty107 : tyOf Tryd.prog 107 = some (false, 1) := by kernel_rfl
theorem Tryd.zero107 : zeroOf Tryd.prog 107 = some ([Value.pointer none]) := by kernel_rfl
theorem Tryd.ty108 : tyOf Tryd.prog 108 = some (false, 1) := by kernel_rfl
theorem Tryd.kind108 : kindOf Tryd.prog 108 = some IntKind.i32 := by kernel_rfl
theorem Tryd.zero108 : zeroOf Tryd.prog 108 = some ([Value.int IntKind.i32 0]) := by kernel_rfl
theorem Tryd.ty109 : tyOf Tryd.prog 109 = some (false, 1) := by kernel_rfl
theorem Tryd.kind109 : kindOf Tryd.prog 109 = some IntKind.i32 := by kernel_rfl
theorem Tryd.zero109 : zeroOf Tryd.prog 109 = some ([Value.int IntKind.i32 0]) := by kernel_rfl
theorem Tryd.ty110 : tyOf Tryd.prog 110 = some (true, 11) := by kernel_rfl
theorem Tryd.zero110 : zeroOf Tryd.prog 110 = some ([Value.int IntKind.u64 0, Value.int IntKind.u64 0, Value.int IntKind.u32 0, Value.int IntKind.u8 0, Value.int IntKind.u8 0, Value.int IntKind.u8 0, Value.int IntKind.u8 0, Value.nilFunc, Value.pointer none, Value.int IntKind.i32 0, Value.int IntKind.i32 0]) := by kernel_rfl
theorem Tryd.blank110 : blankOf Tryd.prog 110 = some ([Sum.inl (Value.int IntKind.u64 0), Sum.inl (Value.int IntKind.u64 0), Sum.inl (Value.int IntKind.u32 0), Sum.inl (Value.int IntKind.u8 0), Sum.inl (Value.int IntKind.u8 0), Sum.inl (Value.int IntKind.u8 0), Sum.inl (Value.int IntKind.u8 0), Sum.inl (Value.nilFunc), Sum.inl (Value.pointer none), Sum.inl (Value.int IntKind.i32 0), Sum.inl (Value.int IntKind.i32 0)]) := by kernel_rfl
theorem Tryd.fld110_0 : fieldOf Tryd.prog 110 0 = some (0, false, 1) := by kernel_rfl
theorem Tryd.place110_0 : placeOf Tryd.prog 110 0 = some (0, 1) := by kernel_rfl
theorem Tryd.fld110_1 : fieldOf Tryd.prog 110 1 = some (1, false, 1) := by kernel_rfl
theorem Tryd.place110_1 : placeOf Tryd.prog 110 1 = some (1, 1) := by kernel_rfl
theorem Tryd.fld110_2 : fieldOf Tryd.prog 110 2 = some (2, false, 1) := by kernel_rfl
theorem Tryd.place110_2 : placeOf Tryd.prog 110 2 = some (2, 1) := by kernel_rfl
theorem Tryd.fld110_3 : fieldOf Tryd.prog 110 3 = some (3, false, 1) := by kernel_rfl
theorem Tryd.place110_3 : placeOf Tryd.prog 110 3 = some (3, 1) := by kernel_rfl
theorem Tryd.fld110_4 : fieldOf Tryd.prog 110 4 = some (4, false, 1) := by kernel_rfl
theorem Tryd.place110_4 : placeOf Tryd.prog 110 4 = some (4, 1) := by kernel_rfl
theorem Tryd.fld110_5 : fieldOf Tryd.prog 110 5 = some (5, false, 1) := by kernel_rfl
theorem Tryd.place110_5 : placeOf Tryd.prog 110 5 = some (5, 1) := by kernel_rfl
theorem Tryd.fld110_6 : fieldOf Tryd.prog 110 6 = some (6, false, 1) := by kernel_rfl
theorem Tryd.place110_6 : placeOf Tryd.prog 110 6 = some (6, 1) := by kernel_rfl
theorem Tryd.fld110_7 : fieldOf Tryd.prog 110 7 = some (7, false, 1) := by kernel_rfl
theorem Tryd.place110_7 : placeOf Tryd.prog 110 7 = some (7, 1) := by kernel_rfl
theorem Tryd.fld110_8 : fieldOf Tryd.prog 110 8 = some (8, false, 1) := by kernel_rfl
theorem Tryd.place110_8 : placeOf Tryd.prog 110 8 = some (8, 1) := by kernel_rfl
theorem Tryd.fld110_9 : fieldOf Tryd.prog 110 9 = some (9, false, 1) := by kernel_rfl
theorem Tryd.place110_9 : placeOf Tryd.prog 110 9 = some (9, 1) := by kernel_rfl
theorem Tryd.fld110_10 : fieldOf Tryd.prog 110 10 = some (10, false, 1) := by kernel_rfl
theorem Tryd.place110_10 : placeOf Tryd.prog 110 10 = some (10, 1) := by kernel_rfl
theorem Tryd.ty111 : tyOf Tryd.prog 111 = some (true, 11) := by kernel_rfl
theorem Tryd.zero111 : zeroOf Tryd.prog 111 = some ([Value.int IntKind.u64 0, Value.int IntKind.u64 0, Value.int IntKind.u32 0, Value.int IntKind.u8 0, Value.int IntKind.u8 0, Value.int IntKind.u8 0, Value.int IntKind.u8 0, Value.nilFunc, Value.pointer none, Value.int IntKind.i32 0, Value.int IntKind.i32 0]) := by kernel_rfl
theorem Tryd.blank111 : blankOf Tryd.prog 111 = some ([Sum.inl (Value.int IntKind.u64 0), Sum.inl (Value.int IntKind.u64 0), Sum.inl (Value.int IntKind.u32 0), Sum.inl (Value.int IntKind.u8 0), Sum.inl (Value.int IntKind.u8 0), Sum.inl (Value.int IntKind.u8 0), Sum.inl (Value.int IntKind.u8 0), Sum.inl (Value.nilFunc), Sum.inl (Value.pointer none), Sum.inl (Value.int IntKind.i32 0), Sum.inl (Value.int IntKind.i32 0)]) := by kernel_rfl
theorem Tryd.fld111_0 : fieldOf Tryd.prog 111 0 = some (0, false, 1) := by kernel_rfl
theorem Tryd.place111_0 : placeOf Tryd.prog 111 0 = some (0, 1) := by kernel_rfl
theorem Tryd.fld111_1 : fieldOf Tryd.prog 111 1 = some (1, false, 1) := by kernel_rfl
theorem Tryd.place111_1 : placeOf Tryd.prog 111 1 = some (1, 1) := by kernel_rfl
theorem Tryd.fld111_2 : fieldOf Tryd.prog 111 2 = some (2, false, 1) := by kernel_rfl
theorem Tryd.place111_2 : placeOf Tryd.prog 111 2 = some (2, 1) := by kernel_rfl
theorem Tryd.fld111_3 : fieldOf Tryd.prog 111 3 = some (3, false, 1) := by kernel_rfl
theorem Tryd.place111_3 : placeOf Tryd.prog 111 3 = some (3, 1) := by kernel_rfl
theorem Tryd.fld111_4 : fieldOf Tryd.prog 111 4 = some (4, false, 1) := by kernel_rfl
theorem Tryd.place111_4 : placeOf Tryd.prog 111 4 = some (4, 1) := by kernel_rfl
theorem Tryd.fld111_5 : fieldOf Tryd.prog 111 5 = some (5, false, 1) := by kernel_rfl
theorem Tryd.place111_5 : placeOf Tryd.prog 111 5 = some (5, 1) := by kernel_rfl
theorem Tryd.fld111_6 : fieldOf Tryd.prog 111 6 = some (6, false, 1) := by kernel_rfl
theorem Tryd.place111_6 : placeOf Tryd.prog 111 6 = some (6, 1) := by kernel_rfl
theorem Tryd.fld111_7 : fieldOf Tryd.prog 111 7 = some (7, false, 1) := by kernel_rfl
theorem Tryd.place111_7 : placeOf Tryd.prog 111 7 = some (7, 1) := by kernel_rfl
theorem Tryd.fld111_8 : fieldOf Tryd.prog 111 8 = some (8, false, 1) := by kernel_rfl
theorem Tryd.place111_8 : placeOf Tryd.prog 111 8 = some (8, 1) := by kernel_rfl
theorem Tryd.fld111_9 : fieldOf Tryd.prog 111 9 = some (9, false, 1) := by kernel_rfl
theorem Tryd.place111_9 : placeOf Tryd.prog 111 9 = some (9, 1) := by kernel_rfl
theorem Tryd.fld111_10 : fieldOf Tryd.prog 111 10 = some (10, false, 1) := by kernel_rfl
theorem Tryd.place111_10 : placeOf Tryd.prog 111 10 = some (10, 1) := by kernel_rfl
theorem Tryd.callable3 : callable Tryd.prog 3 = true := by kernel_rfl
theorem Tryd.callable4 : callable Tryd.prog 4 = true := by kernel_rfl
theorem Tryd.callable5 : callable Tryd.prog 5 = true := by kernel_rfl
theorem Tryd.callable6 : callable Tryd.prog 6 = true := by kernel_rfl
theorem Tryd.callable7 : callable Tryd.prog 7 = true := by kernel_rfl
theorem Tryd.callable8 : callable Tryd.prog 8 = true := by kernel_rfl
theorem Tryd.callable9 : callable Tryd.prog 9 = true := by kernel_rfl
theorem Tryd.callable10 : callable Tryd.prog 10 = true := by kernel_rfl
theorem Tryd.callable11 : callable Tryd.prog 11 = true := by kernel_rfl
theorem Tryd.callable12 : callable Tryd.prog 12 = true := by kernel_rfl
theorem Tryd.callable13 : callable Tryd.prog 13 = true := by kernel_rfl
theorem Tryd.callable14 : callable Tryd.prog 14 = true := by kernel_rfl
theorem Tryd.callable15 : callable Tryd.prog 15 = true := by kernel_rfl
theorem Tryd.callable16 : callable Tryd.prog 16 = true := by kernel_rfl
theorem Tryd.callable17 : callable Tryd.prog 17 = true := by kernel_rfl
theorem Tryd.callable18 : callable Tryd.prog 18 = true := by kernel_rfl
theorem Tryd.callable19 : callable Tryd.prog 19 = true := by kernel_rfl
theorem Tryd.callable20 : callable Tryd.prog 20 = true := by kernel_rfl
theorem Tryd.callable21 : callable Tryd.prog 21 = true := by kernel_rfl
theorem Tryd.callable22 : callable Tryd.prog 22 = true := by kernel_rfl
theorem Tryd.callable23 : callable Tryd.prog 23 = true := by kernel_rfl
theorem Tryd.callable24 : callable Tryd.prog 24 = true := by kernel_rfl
theorem Tryd.callable25 : callable Tryd.prog 25 = true := by kernel_rfl
theorem Tryd.callable26 : callable Tryd.prog 26 = true := by kernel_rfl
theorem Tryd.callable27 : callable Tryd.prog 27 = true := by kernel_rfl
theorem Tryd.callable28 : callable Tryd.prog 28 = true := by kernel_rfl
theorem Tryd.callable29 : callable Tryd.prog 29 = true := by kernel_rfl
theorem Tryd.callable30 : callable Tryd.prog 30 = true := by kernel_rfl
theorem Tryd.callable31 : callable Tryd.prog 31 = true := by kernel_rfl
theorem Tryd.callable32 : callable Tryd.prog 32 = true := by kernel_rfl
theorem Tryd.callable33 : callable Tryd.prog 33 = true := by kernel_rfl
theorem Tryd.callable34 : callable Tryd.prog 34 = true := by kernel_rfl
theorem Tryd.callable35 : callable Tryd.prog 35 = true := by kernel_rfl
theorem Tryd.callable36 : callable Tryd.prog 36 = true := by kernel_rfl
theorem Tryd.callable37 : callable Tryd.prog 37 = true := by kernel_rfl
theorem Tryd.callable38 : callable Tryd.prog 38 = true := by kernel_rfl
theorem Tryd.callable39 : callable Tryd.prog 39 = true := by kernel_rfl
theorem Tryd.callable40 : callable Tryd.prog 40 = true := by kernel_rfl
theorem Tryd.callable41 : callable Tryd.prog 41 = true := by kernel_rfl
theorem Tryd.callable42 : callable Tryd.prog 42 = true := by kernel_rfl
theorem Tryd.callable43 : callable Tryd.prog 43 = true := by kernel_rfl
theorem Tryd.callable44 : callable Tryd.prog 44 = true := by kernel_rfl
theorem Tryd.callable45 : callable Tryd.prog 45 = true := by kernel_rfl
theorem Tryd.callable46 : callable Tryd.prog 46 = true := by kernel_rfl
theorem Tryd.callable47 : callable Tryd.prog 47 = true := by kernel_rfl
theorem Tryd.callable48 : callable Tryd.prog 48 = true := by kernel_rfl
theorem Tryd.callable49 : callable Tryd.prog 49 = true := by kernel_rfl
theorem Tryd.callable50 : callable Tryd.prog 50 = true := by kernel_rfl
theorem Tryd.callable51 : callable Tryd.prog 51 = true := by kernel_rfl
theorem Tryd.callable52 : callable Tryd.prog 52 = true := by kernel_rfl
theorem Tryd.callable53 : callable Tryd.prog 53 = true := by kernel_rfl
theorem Tryd.callable54 : callable Tryd.prog 54 = true := by kernel_rfl
theorem Tryd.callable55 : callable Tryd.prog 55 = true := by kernel_rfl
theorem Tryd.callable56 : callable Tryd.prog 56 = true := by kernel_rfl
theorem Tryd.callable57 : callable Tryd.prog 57 = true := by kernel_rfl
theorem Tryd.callable58 : callable Tryd.prog 58 = true := by kernel_rfl
theorem Tryd.callable59 : callable Tryd.prog 59 = true := by kernel_rfl
theorem Tryd.callable60 : callable Tryd.prog 60 = true := by kernel_rfl
theorem Tryd.callable61 : callable Tryd.prog 61 = true := by kernel_rfl
theorem Tryd.callable62 : callable Tryd.prog 62 = true := by kernel_rfl
theorem Tryd.callable63 : callable Tryd.prog 63 = true := by kernel_rfl
theorem Tryd.callable64 : callable Tryd.prog 64 = true := by kernel_rfl
theorem Tryd.callable65 : callable Tryd.prog 65 = true := by kernel_rfl
theorem Tryd.callable66 : callable Tryd.prog 66 = true := by kernel_rfl
theorem Tryd.callable67 : callable Tryd.prog 67 = true := by kernel_rfl
theorem Tryd.callable68 : callable Tryd.prog 68 = true := by kernel_rfl
theorem Tryd.callable69 : callable Tryd.prog 69 = false := by kernel_rfl
theorem Tryd.callable70 : callable Tryd.prog 70 = true := by kernel_rfl
theorem Tryd.callable71 : callable Tryd.prog 71 = false := by kernel_rfl
theorem Tryd.callable72 : callable Tryd.prog 72 = false := by kernel_rfl
theorem Tryd.callable73 : callable Tryd.prog 73 = false := by kernel_rfl
theorem Tryd.callable74 : callable Tryd.prog 74 = false := by kernel_rfl
theorem Tryd.callable75 : callable Tryd.prog 75 = false := by kernel_rfl
theorem Tryd.callable76 : callable Tryd.prog 76 = false := by kernel_rfl
theorem Tryd.callable77 : callable Tryd.prog 77 = false := by kernel_rfl
theorem Tryd.callable78 : callable Tryd.prog 78 = false := by kernel_rfl
theorem Tryd.callable79 : callable Tryd.prog 79 = false := by kernel_rfl
theorem Tryd.callable80 : callable Tryd.prog 80 = false := by kernel_rfl
theorem Tryd.callable81 : callable Tryd.prog 81 = false := by kernel_rfl
theorem Tryd.callable82 : callable Tryd.prog 82 = false := by kernel_rfl
theorem Tryd.callable83 : callable Tryd.prog 83 = false := by kernel_rfl
theorem Tryd.callable84 : callable Tryd.prog 84 = false := by kernel_rfl
theorem Tryd.callable85 : callable Tryd.prog 85 = false := by kernel_rfl
theorem Tryd.callable86 : callable Tryd.prog 86 = false := by kernel_rfl
theorem Tryd.callable87 : callable Tryd.prog 87 = false := by kernel_rfl
theorem Tryd.callable88 : callable Tryd.prog 88 = false := by kernel_rfl
theorem Tryd.callable89 : callable Tryd.prog 89 = false := by kernel_rfl
theorem Tryd.callable90 : callable Tryd.prog 90 = false := by kernel_rfl
theorem Tryd.callable91 : callable Tryd.prog 91 = false := by kernel_rfl
theorem Tryd.callable92 : callable Tryd.prog 92 = true := by kernel_rfl
theorem Tryd.mixed : Tryd.prog.follows .mixedOrders = true := by kernel_rfl
theorem Tryd.isb4 : isBool Tryd.prog 4 = true := by kernel_rfl
theorem Tryd.lenK9 : lenK Tryd.prog [9] = 2 := by kernel_rfl
theorem Tryd.lenK10 : lenK Tryd.prog [10] = 2 := by kernel_rfl
theorem Tryd.lenK11 : lenK Tryd.prog [11] = 2 := by kernel_rfl
theorem Tryd.arrI22 : arrIntOf Tryd.prog 22 = some (32, IntKind.u8) := by kernel_rfl
theorem Tryd.arrI23 : arrIntOf Tryd.prog 23 = some (32, IntKind.u8) := by kernel_rfl
theorem Tryd.lenK28 : lenK Tryd.prog [28] = 1 := by kernel_rfl
theorem Tryd.lenK34 : lenK Tryd.prog [34] = 1 := by kernel_rfl
theorem Tryd.arrN45 : arrIntOf Tryd.prog 45 = none := by kernel_rfl
theorem Tryd.fds45 : fdsOf Tryd.prog 45 = some [(0, 1, IntKind.u32), (1, 1, IntKind.u32), (2, 32, IntKind.u8), (34, 32, IntKind.u8)] := by kernel_rfl
theorem Tryd.arrN46 : arrIntOf Tryd.prog 46 = none := by kernel_rfl
theorem Tryd.fds46 : fdsOf Tryd.prog 46 = some [(0, 1, IntKind.u32), (1, 1, IntKind.u32), (2, 32, IntKind.u8), (34, 32, IntKind.u8)] := by kernel_rfl
theorem Tryd.lenK47 : lenK Tryd.prog [47] = 1 := by kernel_rfl
theorem Tryd.arrI52 : arrIntOf Tryd.prog 52 = some (8, IntKind.u32) := by kernel_rfl
theorem Tryd.arrI56 : arrIntOf Tryd.prog 56 = some (5, IntKind.u64) := by kernel_rfl
theorem Tryd.arrI57 : arrIntOf Tryd.prog 57 = some (5, IntKind.u64) := by kernel_rfl
theorem Tryd.arrI60 : arrIntOf Tryd.prog 60 = some (16, IntKind.u64) := by kernel_rfl
theorem Tryd.arrI61 : arrIntOf Tryd.prog 61 = some (16, IntKind.u64) := by kernel_rfl
theorem Tryd.arrN63 : arrIntOf Tryd.prog 63 = none := by kernel_rfl
theorem Tryd.fds63 : fdsOf Tryd.prog 63 = some [(0, 16, IntKind.u64), (16, 16, IntKind.u64), (32, 16, IntKind.u64), (48, 16, IntKind.u64)] := by kernel_rfl
theorem Tryd.arrN64 : arrIntOf Tryd.prog 64 = none := by kernel_rfl
theorem Tryd.fds64 : fdsOf Tryd.prog 64 = some [(0, 16, IntKind.u64), (16, 16, IntKind.u64), (32, 16, IntKind.u64), (48, 16, IntKind.u64)] := by kernel_rfl
theorem Tryd.arrI72 : arrIntOf Tryd.prog 72 = some (64, IntKind.u32) := by kernel_rfl
theorem Tryd.arrI76 : arrIntOf Tryd.prog 76 = some (4, IntKind.u64) := by kernel_rfl
theorem Tryd.arrN77 : arrIntOf Tryd.prog 77 = none := by kernel_rfl
theorem Tryd.fds77 : fdsOf Tryd.prog 77 = some [(0, 5, IntKind.u64), (5, 5, IntKind.u64), (10, 5, IntKind.u64), (15, 5, IntKind.u64)] := by kernel_rfl
theorem Tryd.arrN78 : arrIntOf Tryd.prog 78 = none := by kernel_rfl
theorem Tryd.fds78 : fdsOf Tryd.prog 78 = some [(0, 5, IntKind.u64), (5, 5, IntKind.u64), (10, 5, IntKind.u64), (15, 5, IntKind.u64)] := by kernel_rfl
theorem Tryd.arrN88 : arrIntOf Tryd.prog 88 = none := by kernel_rfl
theorem Tryd.fds88 : fdsOf Tryd.prog 88 = some [(0, 1, IntKind.u64), (1, 1, IntKind.u64)] := by kernel_rfl
theorem Tryd.arrN89 : arrIntOf Tryd.prog 89 = none := by kernel_rfl
theorem Tryd.fds89 : fdsOf Tryd.prog 89 = some [(0, 1, IntKind.u64), (1, 1, IntKind.u64)] := by kernel_rfl
theorem Tryd.facts0 : type_of% @Tryd.ty2 ∧ type_of% @Tryd.kind2 ∧ type_of% @Tryd.zero2 ∧ type_of% @Tryd.ty3 ∧ type_of% @Tryd.kind3 ∧ type_of% @Tryd.zero3 ∧ type_of% @Tryd.ty4 ∧ type_of% @Tryd.zero4 ∧ type_of% @Tryd.ty5 ∧ type_of% @Tryd.kind5 ∧ type_of% @Tryd.zero5 ∧ type_of% @Tryd.ty6 ∧ type_of% @Tryd.kind6 ∧ type_of% @Tryd.zero6 ∧ type_of% @Tryd.ty7 ∧ type_of% @Tryd.zero7 ∧ type_of% @Tryd.blank7 ∧ type_of% @Tryd.fld7_0 ∧ type_of% @Tryd.place7_0 ∧ type_of% @Tryd.fld7_1 ∧ type_of% @Tryd.place7_1 ∧ type_of% @Tryd.fld7_2 ∧ type_of% @Tryd.place7_2 ∧ type_of% @Tryd.fld7_3 ∧ type_of% @Tryd.place7_3 ∧ type_of% @Tryd.ty8 ∧ type_of% @Tryd.zero8 ∧ type_of% @Tryd.blank8 ∧ type_of% @Tryd.fld8_0 ∧ type_of% @Tryd.place8_0 ∧ type_of% @Tryd.fld8_1 ∧ type_of% @Tryd.place8_1 ∧ type_of% @Tryd.fld8_2 ∧ type_of% @Tryd.place8_2 ∧ type_of% @Tryd.fld8_3 ∧ type_of% @Tryd.place8_3 ∧ type_of% @Tryd.ty9 ∧ type_of% @Tryd.zero9 ∧ type_of% @Tryd.ty10 ∧ type_of% @Tryd.zero10 ∧ type_of% @Tryd.ty11 ∧ type_of% @Tryd.zero11 ∧ type_of% @Tryd.ty12 ∧ type_of% @Tryd.kind12 ∧ type_of% @Tryd.zero12 ∧ type_of% @Tryd.ty13 ∧ type_of% @Tryd.zero13 ∧ type_of% @Tryd.blank13 ∧ type_of% @Tryd.fld13_0 ∧ type_of% @Tryd.place13_0 ∧ type_of% @Tryd.fld13_1 ∧ type_of% @Tryd.place13_1 ∧ type_of% @Tryd.ty14 ∧ type_of% @Tryd.zero14 ∧ type_of% @Tryd.blank14 ∧ type_of% @Tryd.fld14_0 ∧ type_of% @Tryd.place14_0 ∧ type_of% @Tryd.fld14_1 ∧ type_of% @Tryd.place14_1 ∧ type_of% @Tryd.ty15 :=
  ⟨@Tryd.ty2, @Tryd.kind2, @Tryd.zero2, @Tryd.ty3, @Tryd.kind3, @Tryd.zero3, @Tryd.ty4, @Tryd.zero4, @Tryd.ty5, @Tryd.kind5, @Tryd.zero5, @Tryd.ty6, @Tryd.kind6, @Tryd.zero6, @Tryd.ty7, @Tryd.zero7, @Tryd.blank7, @Tryd.fld7_0, @Tryd.place7_0, @Tryd.fld7_1, @Tryd.place7_1, @Tryd.fld7_2, @Tryd.place7_2, @Tryd.fld7_3, @Tryd.place7_3, @Tryd.ty8, @Tryd.zero8, @Tryd.blank8, @Tryd.fld8_0, @Tryd.place8_0, @Tryd.fld8_1, @Tryd.place8_1, @Tryd.fld8_2, @Tryd.place8_2, @Tryd.fld8_3, @Tryd.place8_3, @Tryd.ty9, @Tryd.zero9, @Tryd.ty10, @Tryd.zero10, @Tryd.ty11, @Tryd.zero11, @Tryd.ty12, @Tryd.kind12, @Tryd.zero12, @Tryd.ty13, @Tryd.zero13, @Tryd.blank13, @Tryd.fld13_0, @Tryd.place13_0, @Tryd.fld13_1, @Tryd.place13_1, @Tryd.ty14, @Tryd.zero14, @Tryd.blank14, @Tryd.fld14_0, @Tryd.place14_0, @Tryd.fld14_1, @Tryd.place14_1, @Tryd.ty15⟩
theorem Tryd.facts1 : type_of% @Tryd.zero15 ∧ type_of% @Tryd.ty16 ∧ type_of% @Tryd.zero16 ∧ type_of% @Tryd.ty17 ∧ type_of% @Tryd.zero17 ∧ type_of% @Tryd.ty18 ∧ type_of% @Tryd.zero18 ∧ type_of% @Tryd.blank18 ∧ type_of% @Tryd.fld18_0 ∧ type_of% @Tryd.place18_0 ∧ type_of% @Tryd.ty19 ∧ type_of% @Tryd.zero19 ∧ type_of% @Tryd.blank19 ∧ type_of% @Tryd.fld19_0 ∧ type_of% @Tryd.place19_0 ∧ type_of% @Tryd.ty21 ∧ type_of% @Tryd.kind21 ∧ type_of% @Tryd.zero21 ∧ type_of% @Tryd.ty22 ∧ type_of% @Tryd.arr22 ∧ type_of% @Tryd.el22 ∧ type_of% @Tryd.slK22 ∧ type_of% @Tryd.zero22 ∧ type_of% @Tryd.blank22 ∧ type_of% @Tryd.place22 ∧ type_of% @Tryd.ty23 ∧ type_of% @Tryd.arr23 ∧ type_of% @Tryd.el23 ∧ type_of% @Tryd.slK23 ∧ type_of% @Tryd.zero23 ∧ type_of% @Tryd.blank23 ∧ type_of% @Tryd.place23 ∧ type_of% @Tryd.ty27 ∧ type_of% @Tryd.kind27 ∧ type_of% @Tryd.zero27 ∧ type_of% @Tryd.ty28 ∧ type_of% @Tryd.sl28 ∧ type_of% @Tryd.slK28 ∧ type_of% @Tryd.mkK28 ∧ type_of% @Tryd.zero28 ∧ type_of% @Tryd.ty29 ∧ type_of% @Tryd.zero29 ∧ type_of% @Tryd.blank29 ∧ type_of% @Tryd.fld29_0 ∧ type_of% @Tryd.place29_0 ∧ type_of% @Tryd.fld29_1 ∧ type_of% @Tryd.place29_1 ∧ type_of% @Tryd.fld29_2 ∧ type_of% @Tryd.place29_2 ∧ type_of% @Tryd.fld29_3 ∧ type_of% @Tryd.place29_3 ∧ type_of% @Tryd.fld29_4 ∧ type_of% @Tryd.place29_4 ∧ type_of% @Tryd.fld29_5 ∧ type_of% @Tryd.place29_5 ∧ type_of% @Tryd.fld29_6 ∧ type_of% @Tryd.place29_6 ∧ type_of% @Tryd.fld29_7 ∧ type_of% @Tryd.place29_7 ∧ type_of% @Tryd.fld29_8 :=
  ⟨@Tryd.zero15, @Tryd.ty16, @Tryd.zero16, @Tryd.ty17, @Tryd.zero17, @Tryd.ty18, @Tryd.zero18, @Tryd.blank18, @Tryd.fld18_0, @Tryd.place18_0, @Tryd.ty19, @Tryd.zero19, @Tryd.blank19, @Tryd.fld19_0, @Tryd.place19_0, @Tryd.ty21, @Tryd.kind21, @Tryd.zero21, @Tryd.ty22, @Tryd.arr22, @Tryd.el22, @Tryd.slK22, @Tryd.zero22, @Tryd.blank22, @Tryd.place22, @Tryd.ty23, @Tryd.arr23, @Tryd.el23, @Tryd.slK23, @Tryd.zero23, @Tryd.blank23, @Tryd.place23, @Tryd.ty27, @Tryd.kind27, @Tryd.zero27, @Tryd.ty28, @Tryd.sl28, @Tryd.slK28, @Tryd.mkK28, @Tryd.zero28, @Tryd.ty29, @Tryd.zero29, @Tryd.blank29, @Tryd.fld29_0, @Tryd.place29_0, @Tryd.fld29_1, @Tryd.place29_1, @Tryd.fld29_2, @Tryd.place29_2, @Tryd.fld29_3, @Tryd.place29_3, @Tryd.fld29_4, @Tryd.place29_4, @Tryd.fld29_5, @Tryd.place29_5, @Tryd.fld29_6, @Tryd.place29_6, @Tryd.fld29_7, @Tryd.place29_7, @Tryd.fld29_8⟩
theorem Tryd.facts2 : type_of% @Tryd.place29_8 ∧ type_of% @Tryd.fld29_9 ∧ type_of% @Tryd.place29_9 ∧ type_of% @Tryd.fld29_10 ∧ type_of% @Tryd.place29_10 ∧ type_of% @Tryd.fld29_11 ∧ type_of% @Tryd.place29_11 ∧ type_of% @Tryd.fld29_12 ∧ type_of% @Tryd.place29_12 ∧ type_of% @Tryd.fld29_13 ∧ type_of% @Tryd.place29_13 ∧ type_of% @Tryd.fld29_14 ∧ type_of% @Tryd.place29_14 ∧ type_of% @Tryd.fld29_15 ∧ type_of% @Tryd.place29_15 ∧ type_of% @Tryd.fld29_16 ∧ type_of% @Tryd.place29_16 ∧ type_of% @Tryd.ty30 ∧ type_of% @Tryd.zero30 ∧ type_of% @Tryd.blank30 ∧ type_of% @Tryd.fld30_0 ∧ type_of% @Tryd.place30_0 ∧ type_of% @Tryd.fld30_1 ∧ type_of% @Tryd.place30_1 ∧ type_of% @Tryd.fld30_2 ∧ type_of% @Tryd.place30_2 ∧ type_of% @Tryd.fld30_3 ∧ type_of% @Tryd.place30_3 ∧ type_of% @Tryd.fld30_4 ∧ type_of% @Tryd.place30_4 ∧ type_of% @Tryd.fld30_5 ∧ type_of% @Tryd.place30_5 ∧ type_of% @Tryd.fld30_6 ∧ type_of% @Tryd.place30_6 ∧ type_of% @Tryd.fld30_7 ∧ type_of% @Tryd.place30_7 ∧ type_of% @Tryd.fld30_8 ∧ type_of% @Tryd.place30_8 ∧ type_of% @Tryd.fld30_9 ∧ type_of% @Tryd.place30_9 ∧ type_of% @Tryd.fld30_10 ∧ type_of% @Tryd.place30_10 ∧ type_of% @Tryd.fld30_11 ∧ type_of% @Tryd.place30_11 ∧ type_of% @Tryd.fld30_12 ∧ type_of% @Tryd.place30_12 ∧ type_of% @Tryd.fld30_13 ∧ type_of% @Tryd.place30_13 ∧ type_of% @Tryd.fld30_14 ∧ type_of% @Tryd.place30_14 ∧ type_of% @Tryd.fld30_15 ∧ type_of% @Tryd.place30_15 ∧ type_of% @Tryd.fld30_16 ∧ type_of% @Tryd.place30_16 ∧ type_of% @Tryd.ty34 ∧ type_of% @Tryd.sl34 ∧ type_of% @Tryd.slK34 ∧ type_of% @Tryd.byt34 ∧ type_of% @Tryd.mkK34 ∧ type_of% @Tryd.zero34 :=
  ⟨@Tryd.place29_8, @Tryd.fld29_9, @Tryd.place29_9, @Tryd.fld29_10, @Tryd.place29_10, @Tryd.fld29_11, @Tryd.place29_11, @Tryd.fld29_12, @Tryd.place29_12, @Tryd.fld29_13, @Tryd.place29_13, @Tryd.fld29_14, @Tryd.place29_14, @Tryd.fld29_15, @Tryd.place29_15, @Tryd.fld29_16, @Tryd.place29_16, @Tryd.ty30, @Tryd.zero30, @Tryd.blank30, @Tryd.fld30_0, @Tryd.place30_0, @Tryd.fld30_1, @Tryd.place30_1, @Tryd.fld30_2, @Tryd.place30_2, @Tryd.fld30_3, @Tryd.place30_3, @Tryd.fld30_4, @Tryd.place30_4, @Tryd.fld30_5, @Tryd.place30_5, @Tryd.fld30_6, @Tryd.place30_6, @Tryd.fld30_7, @Tryd.place30_7, @Tryd.fld30_8, @Tryd.place30_8, @Tryd.fld30_9, @Tryd.place30_9, @Tryd.fld30_10, @Tryd.place30_10, @Tryd.fld30_11, @Tryd.place30_11, @Tryd.fld30_12, @Tryd.place30_12, @Tryd.fld30_13, @Tryd.place30_13, @Tryd.fld30_14, @Tryd.place30_14, @Tryd.fld30_15, @Tryd.place30_15, @Tryd.fld30_16, @Tryd.place30_16, @Tryd.ty34, @Tryd.sl34, @Tryd.slK34, @Tryd.byt34, @Tryd.mkK34, @Tryd.zero34⟩
theorem Tryd.facts3 : type_of% @Tryd.ty45 ∧ type_of% @Tryd.zero45 ∧ type_of% @Tryd.blank45 ∧ type_of% @Tryd.fld45_0 ∧ type_of% @Tryd.place45_0 ∧ type_of% @Tryd.fld45_1 ∧ type_of% @Tryd.place45_1 ∧ type_of% @Tryd.fld45_2 ∧ type_of% @Tryd.place45_2 ∧ type_of% @Tryd.fld45_3 ∧ type_of% @Tryd.place45_3 ∧ type_of% @Tryd.ty46 ∧ type_of% @Tryd.zero46 ∧ type_of% @Tryd.blank46 ∧ type_of% @Tryd.fld46_0 ∧ type_of% @Tryd.place46_0 ∧ type_of% @Tryd.fld46_1 ∧ type_of% @Tryd.place46_1 ∧ type_of% @Tryd.fld46_2 ∧ type_of% @Tryd.place46_2 ∧ type_of% @Tryd.fld46_3 ∧ type_of% @Tryd.place46_3 ∧ type_of% @Tryd.ty47 ∧ type_of% @Tryd.sl47 ∧ type_of% @Tryd.slK47 ∧ type_of% @Tryd.mkK47 ∧ type_of% @Tryd.zero47 ∧ type_of% @Tryd.ty51 ∧ type_of% @Tryd.kind51 ∧ type_of% @Tryd.zero51 ∧ type_of% @Tryd.ty52 ∧ type_of% @Tryd.arr52 ∧ type_of% @Tryd.el52 ∧ type_of% @Tryd.slK52 ∧ type_of% @Tryd.zero52 ∧ type_of% @Tryd.blank52 ∧ type_of% @Tryd.place52 ∧ type_of% @Tryd.ty54 ∧ type_of% @Tryd.kind54 ∧ type_of% @Tryd.zero54 ∧ type_of% @Tryd.ty56 ∧ type_of% @Tryd.arr56 ∧ type_of% @Tryd.el56 ∧ type_of% @Tryd.slK56 ∧ type_of% @Tryd.zero56 ∧ type_of% @Tryd.blank56 ∧ type_of% @Tryd.place56 ∧ type_of% @Tryd.ty57 ∧ type_of% @Tryd.arr57 ∧ type_of% @Tryd.el57 ∧ type_of% @Tryd.slK57 ∧ type_of% @Tryd.zero57 ∧ type_of% @Tryd.blank57 ∧ type_of% @Tryd.place57 ∧ type_of% @Tryd.ty60 ∧ type_of% @Tryd.arr60 ∧ type_of% @Tryd.el60 ∧ type_of% @Tryd.slK60 ∧ type_of% @Tryd.zero60 ∧ type_of% @Tryd.blank60 :=
  ⟨@Tryd.ty45, @Tryd.zero45, @Tryd.blank45, @Tryd.fld45_0, @Tryd.place45_0, @Tryd.fld45_1, @Tryd.place45_1, @Tryd.fld45_2, @Tryd.place45_2, @Tryd.fld45_3, @Tryd.place45_3, @Tryd.ty46, @Tryd.zero46, @Tryd.blank46, @Tryd.fld46_0, @Tryd.place46_0, @Tryd.fld46_1, @Tryd.place46_1, @Tryd.fld46_2, @Tryd.place46_2, @Tryd.fld46_3, @Tryd.place46_3, @Tryd.ty47, @Tryd.sl47, @Tryd.slK47, @Tryd.mkK47, @Tryd.zero47, @Tryd.ty51, @Tryd.kind51, @Tryd.zero51, @Tryd.ty52, @Tryd.arr52, @Tryd.el52, @Tryd.slK52, @Tryd.zero52, @Tryd.blank52, @Tryd.place52, @Tryd.ty54, @Tryd.kind54, @Tryd.zero54, @Tryd.ty56, @Tryd.arr56, @Tryd.el56, @Tryd.slK56, @Tryd.zero56, @Tryd.blank56, @Tryd.place56, @Tryd.ty57, @Tryd.arr57, @Tryd.el57, @Tryd.slK57, @Tryd.zero57, @Tryd.blank57, @Tryd.place57, @Tryd.ty60, @Tryd.arr60, @Tryd.el60, @Tryd.slK60, @Tryd.zero60, @Tryd.blank60⟩
theorem Tryd.facts4 : type_of% @Tryd.place60 ∧ type_of% @Tryd.ty61 ∧ type_of% @Tryd.arr61 ∧ type_of% @Tryd.el61 ∧ type_of% @Tryd.slK61 ∧ type_of% @Tryd.zero61 ∧ type_of% @Tryd.blank61 ∧ type_of% @Tryd.place61 ∧ type_of% @Tryd.ty63 ∧ type_of% @Tryd.zero63 ∧ type_of% @Tryd.blank63 ∧ type_of% @Tryd.fld63_0 ∧ type_of% @Tryd.place63_0 ∧ type_of% @Tryd.fld63_1 ∧ type_of% @Tryd.place63_1 ∧ type_of% @Tryd.fld63_2 ∧ type_of% @Tryd.place63_2 ∧ type_of% @Tryd.fld63_3 ∧ type_of% @Tryd.place63_3 ∧ type_of% @Tryd.ty64 ∧ type_of% @Tryd.zero64 ∧ type_of% @Tryd.blank64 ∧ type_of% @Tryd.fld64_0 ∧ type_of% @Tryd.place64_0 ∧ type_of% @Tryd.fld64_1 ∧ type_of% @Tryd.place64_1 ∧ type_of% @Tryd.fld64_2 ∧ type_of% @Tryd.place64_2 ∧ type_of% @Tryd.fld64_3 ∧ type_of% @Tryd.place64_3 ∧ type_of% @Tryd.ty72 ∧ type_of% @Tryd.arr72 ∧ type_of% @Tryd.el72 ∧ type_of% @Tryd.slK72 ∧ type_of% @Tryd.zero72 ∧ type_of% @Tryd.blank72 ∧ type_of% @Tryd.place72 ∧ type_of% @Tryd.ty76 ∧ type_of% @Tryd.arr76 ∧ type_of% @Tryd.el76 ∧ type_of% @Tryd.slK76 ∧ type_of% @Tryd.zero76 ∧ type_of% @Tryd.blank76 ∧ type_of% @Tryd.place76 ∧ type_of% @Tryd.ty77 ∧ type_of% @Tryd.zero77 ∧ type_of% @Tryd.blank77 ∧ type_of% @Tryd.fld77_0 ∧ type_of% @Tryd.place77_0 ∧ type_of% @Tryd.fld77_1 ∧ type_of% @Tryd.place77_1 ∧ type_of% @Tryd.fld77_2 ∧ type_of% @Tryd.place77_2 ∧ type_of% @Tryd.fld77_3 ∧ type_of% @Tryd.place77_3 ∧ type_of% @Tryd.ty78 ∧ type_of% @Tryd.zero78 ∧ type_of% @Tryd.blank78 ∧ type_of% @Tryd.fld78_0 ∧ type_of% @Tryd.place78_0 :=
  ⟨@Tryd.place60, @Tryd.ty61, @Tryd.arr61, @Tryd.el61, @Tryd.slK61, @Tryd.zero61, @Tryd.blank61, @Tryd.place61, @Tryd.ty63, @Tryd.zero63, @Tryd.blank63, @Tryd.fld63_0, @Tryd.place63_0, @Tryd.fld63_1, @Tryd.place63_1, @Tryd.fld63_2, @Tryd.place63_2, @Tryd.fld63_3, @Tryd.place63_3, @Tryd.ty64, @Tryd.zero64, @Tryd.blank64, @Tryd.fld64_0, @Tryd.place64_0, @Tryd.fld64_1, @Tryd.place64_1, @Tryd.fld64_2, @Tryd.place64_2, @Tryd.fld64_3, @Tryd.place64_3, @Tryd.ty72, @Tryd.arr72, @Tryd.el72, @Tryd.slK72, @Tryd.zero72, @Tryd.blank72, @Tryd.place72, @Tryd.ty76, @Tryd.arr76, @Tryd.el76, @Tryd.slK76, @Tryd.zero76, @Tryd.blank76, @Tryd.place76, @Tryd.ty77, @Tryd.zero77, @Tryd.blank77, @Tryd.fld77_0, @Tryd.place77_0, @Tryd.fld77_1, @Tryd.place77_1, @Tryd.fld77_2, @Tryd.place77_2, @Tryd.fld77_3, @Tryd.place77_3, @Tryd.ty78, @Tryd.zero78, @Tryd.blank78, @Tryd.fld78_0, @Tryd.place78_0⟩
theorem Tryd.facts5 : type_of% @Tryd.fld78_1 ∧ type_of% @Tryd.place78_1 ∧ type_of% @Tryd.fld78_2 ∧ type_of% @Tryd.place78_2 ∧ type_of% @Tryd.fld78_3 ∧ type_of% @Tryd.place78_3 ∧ type_of% @Tryd.ty88 ∧ type_of% @Tryd.zero88 ∧ type_of% @Tryd.blank88 ∧ type_of% @Tryd.fld88_0 ∧ type_of% @Tryd.place88_0 ∧ type_of% @Tryd.fld88_1 ∧ type_of% @Tryd.place88_1 ∧ type_of% @Tryd.ty89 ∧ type_of% @Tryd.zero89 ∧ type_of% @Tryd.blank89 ∧ type_of% @Tryd.fld89_0 ∧ type_of% @Tryd.place89_0 ∧ type_of% @Tryd.fld89_1 ∧ type_of% @Tryd.place89_1 ∧ type_of% @Tryd.ty98 ∧ type_of% @Tryd.zero98 ∧ type_of% @Tryd.blank98 ∧ type_of% @Tryd.fld98_0 ∧ type_of% @Tryd.place98_0 ∧ type_of% @Tryd.fld98_1 ∧ type_of% @Tryd.place98_1 ∧ type_of% @Tryd.fld98_2 ∧ type_of% @Tryd.place98_2 ∧ type_of% @Tryd.fld98_3 ∧ type_of% @Tryd.place98_3 ∧ type_of% @Tryd.ty99 ∧ type_of% @Tryd.zero99 ∧ type_of% @Tryd.blank99 ∧ type_of% @Tryd.fld99_0 ∧ type_of% @Tryd.place99_0 ∧ type_of% @Tryd.fld99_1 ∧ type_of% @Tryd.place99_1 ∧ type_of% @Tryd.fld99_2 ∧ type_of% @Tryd.place99_2 ∧ type_of% @Tryd.fld99_3 ∧ type_of% @Tryd.place99_3 ∧ type_of% @Tryd.ty104 ∧ type_of% @Tryd.kind104 ∧ type_of% @Tryd.zero104 ∧ type_of% @Tryd.ty105 ∧ type_of% @Tryd.kind105 ∧ type_of% @Tryd.zero105 ∧ type_of% @Tryd.ty107 ∧ type_of% @Tryd.zero107 ∧ type_of% @Tryd.ty108 ∧ type_of% @Tryd.kind108 ∧ type_of% @Tryd.zero108 ∧ type_of% @Tryd.ty109 ∧ type_of% @Tryd.kind109 ∧ type_of% @Tryd.zero109 ∧ type_of% @Tryd.ty110 ∧ type_of% @Tryd.zero110 ∧ type_of% @Tryd.blank110 ∧ type_of% @Tryd.fld110_0 :=
  ⟨@Tryd.fld78_1, @Tryd.place78_1, @Tryd.fld78_2, @Tryd.place78_2, @Tryd.fld78_3, @Tryd.place78_3, @Tryd.ty88, @Tryd.zero88, @Tryd.blank88, @Tryd.fld88_0, @Tryd.place88_0, @Tryd.fld88_1, @Tryd.place88_1, @Tryd.ty89, @Tryd.zero89, @Tryd.blank89, @Tryd.fld89_0, @Tryd.place89_0, @Tryd.fld89_1, @Tryd.place89_1, @Tryd.ty98, @Tryd.zero98, @Tryd.blank98, @Tryd.fld98_0, @Tryd.place98_0, @Tryd.fld98_1, @Tryd.place98_1, @Tryd.fld98_2, @Tryd.place98_2, @Tryd.fld98_3, @Tryd.place98_3, @Tryd.ty99, @Tryd.zero99, @Tryd.blank99, @Tryd.fld99_0, @Tryd.place99_0, @Tryd.fld99_1, @Tryd.place99_1, @Tryd.fld99_2, @Tryd.place99_2, @Tryd.fld99_3, @Tryd.place99_3, @Tryd.ty104, @Tryd.kind104, @Tryd.zero104, @Tryd.ty105, @Tryd.kind105, @Tryd.zero105, @Tryd.ty107, @Tryd.zero107, @Tryd.ty108, @Tryd.kind108, @Tryd.zero108, @Tryd.ty109, @Tryd.kind109, @Tryd.zero109, @Tryd.ty110, @Tryd.zero110, @Tryd.blank110, @Tryd.fld110_0⟩
theorem Tryd.facts6 : type_of% @Tryd.place110_0 ∧ type_of% @Tryd.fld110_1 ∧ type_of% @Tryd.place110_1 ∧ type_of% @Tryd.fld110_2 ∧ type_of% @Tryd.place110_2 ∧ type_of% @Tryd.fld110_3 ∧ type_of% @Tryd.place110_3 ∧ type_of% @Tryd.fld110_4 ∧ type_of% @Tryd.place110_4 ∧ type_of% @Tryd.fld110_5 ∧ type_of% @Tryd.place110_5 ∧ type_of% @Tryd.fld110_6 ∧ type_of% @Tryd.place110_6 ∧ type_of% @Tryd.fld110_7 ∧ type_of% @Tryd.place110_7 ∧ type_of% @Tryd.fld110_8 ∧ type_of% @Tryd.place110_8 ∧ type_of% @Tryd.fld110_9 ∧ type_of% @Tryd.place110_9 ∧ type_of% @Tryd.fld110_10 ∧ type_of% @Tryd.place110_10 ∧ type_of% @Tryd.ty111 ∧ type_of% @Tryd.zero111 ∧ type_of% @Tryd.blank111 ∧ type_of% @Tryd.fld111_0 ∧ type_of% @Tryd.place111_0 ∧ type_of% @Tryd.fld111_1 ∧ type_of% @Tryd.place111_1 ∧ type_of% @Tryd.fld111_2 ∧ type_of% @Tryd.place111_2 ∧ type_of% @Tryd.fld111_3 ∧ type_of% @Tryd.place111_3 ∧ type_of% @Tryd.fld111_4 ∧ type_of% @Tryd.place111_4 ∧ type_of% @Tryd.fld111_5 ∧ type_of% @Tryd.place111_5 ∧ type_of% @Tryd.fld111_6 ∧ type_of% @Tryd.place111_6 ∧ type_of% @Tryd.fld111_7 ∧ type_of% @Tryd.place111_7 ∧ type_of% @Tryd.fld111_8 ∧ type_of% @Tryd.place111_8 ∧ type_of% @Tryd.fld111_9 ∧ type_of% @Tryd.place111_9 ∧ type_of% @Tryd.fld111_10 ∧ type_of% @Tryd.place111_10 ∧ type_of% @Tryd.callable3 ∧ type_of% @Tryd.callable4 ∧ type_of% @Tryd.callable5 ∧ type_of% @Tryd.callable6 ∧ type_of% @Tryd.callable7 ∧ type_of% @Tryd.callable8 ∧ type_of% @Tryd.callable9 ∧ type_of% @Tryd.callable10 ∧ type_of% @Tryd.callable11 ∧ type_of% @Tryd.callable12 ∧ type_of% @Tryd.callable13 ∧ type_of% @Tryd.callable14 ∧ type_of% @Tryd.callable15 ∧ type_of% @Tryd.callable16 :=
  ⟨@Tryd.place110_0, @Tryd.fld110_1, @Tryd.place110_1, @Tryd.fld110_2, @Tryd.place110_2, @Tryd.fld110_3, @Tryd.place110_3, @Tryd.fld110_4, @Tryd.place110_4, @Tryd.fld110_5, @Tryd.place110_5, @Tryd.fld110_6, @Tryd.place110_6, @Tryd.fld110_7, @Tryd.place110_7, @Tryd.fld110_8, @Tryd.place110_8, @Tryd.fld110_9, @Tryd.place110_9, @Tryd.fld110_10, @Tryd.place110_10, @Tryd.ty111, @Tryd.zero111, @Tryd.blank111, @Tryd.fld111_0, @Tryd.place111_0, @Tryd.fld111_1, @Tryd.place111_1, @Tryd.fld111_2, @Tryd.place111_2, @Tryd.fld111_3, @Tryd.place111_3, @Tryd.fld111_4, @Tryd.place111_4, @Tryd.fld111_5, @Tryd.place111_5, @Tryd.fld111_6, @Tryd.place111_6, @Tryd.fld111_7, @Tryd.place111_7, @Tryd.fld111_8, @Tryd.place111_8, @Tryd.fld111_9, @Tryd.place111_9, @Tryd.fld111_10, @Tryd.place111_10, @Tryd.callable3, @Tryd.callable4, @Tryd.callable5, @Tryd.callable6, @Tryd.callable7, @Tryd.callable8, @Tryd.callable9, @Tryd.callable10, @Tryd.callable11, @Tryd.callable12, @Tryd.callable13, @Tryd.callable14, @Tryd.callable15, @Tryd.callable16⟩
theorem Tryd.facts7 : type_of% @Tryd.callable17 ∧ type_of% @Tryd.callable18 ∧ type_of% @Tryd.callable19 ∧ type_of% @Tryd.callable20 ∧ type_of% @Tryd.callable21 ∧ type_of% @Tryd.callable22 ∧ type_of% @Tryd.callable23 ∧ type_of% @Tryd.callable24 ∧ type_of% @Tryd.callable25 ∧ type_of% @Tryd.callable26 ∧ type_of% @Tryd.callable27 ∧ type_of% @Tryd.callable28 ∧ type_of% @Tryd.callable29 ∧ type_of% @Tryd.callable30 ∧ type_of% @Tryd.callable31 ∧ type_of% @Tryd.callable32 ∧ type_of% @Tryd.callable33 ∧ type_of% @Tryd.callable34 ∧ type_of% @Tryd.callable35 ∧ type_of% @Tryd.callable36 ∧ type_of% @Tryd.callable37 ∧ type_of% @Tryd.callable38 ∧ type_of% @Tryd.callable39 ∧ type_of% @Tryd.callable40 ∧ type_of% @Tryd.callable41 ∧ type_of% @Tryd.callable42 ∧ type_of% @Tryd.callable43 ∧ type_of% @Tryd.callable44 ∧ type_of% @Tryd.callable45 ∧ type_of% @Tryd.callable46 ∧ type_of% @Tryd.callable47 ∧ type_of% @Tryd.callable48 ∧ type_of% @Tryd.callable49 ∧ type_of% @Tryd.callable50 ∧ type_of% @Tryd.callable51 ∧ type_of% @Tryd.callable52 ∧ type_of% @Tryd.callable53 ∧ type_of% @Tryd.callable54 ∧ type_of% @Tryd.callable55 ∧ type_of% @Tryd.callable56 ∧ type_of% @Tryd.callable57 ∧ type_of% @Tryd.callable58 ∧ type_of% @Tryd.callable59 ∧ type_of% @Tryd.callable60 ∧ type_of% @Tryd.callable61 ∧ type_of% @Tryd.callable62 ∧ type_of% @Tryd.callable63 ∧ type_of% @Tryd.callable64 ∧ type_of% @Tryd.callable65 ∧ type_of% @Tryd.callable66 ∧ type_of% @Tryd.callable67 ∧ type_of% @Tryd.callable68 ∧ type_of% @Tryd.callable69 ∧ type_of% @Tryd.callable70 ∧ type_of% @Tryd.callable71 ∧ type_of% @Tryd.callable72 ∧ type_of% @Tryd.callable73 ∧ type_of% @Tryd.callable74 ∧ type_of% @Tryd.callable75 ∧ type_of% @Tryd.callable76 :=
  ⟨@Tryd.callable17, @Tryd.callable18, @Tryd.callable19, @Tryd.callable20, @Tryd.callable21, @Tryd.callable22, @Tryd.callable23, @Tryd.callable24, @Tryd.callable25, @Tryd.callable26, @Tryd.callable27, @Tryd.callable28, @Tryd.callable29, @Tryd.callable30, @Tryd.callable31, @Tryd.callable32, @Tryd.callable33, @Tryd.callable34, @Tryd.callable35, @Tryd.callable36, @Tryd.callable37, @Tryd.callable38, @Tryd.callable39, @Tryd.callable40, @Tryd.callable41, @Tryd.callable42, @Tryd.callable43, @Tryd.callable44, @Tryd.callable45, @Tryd.callable46, @Tryd.callable47, @Tryd.callable48, @Tryd.callable49, @Tryd.callable50, @Tryd.callable51, @Tryd.callable52, @Tryd.callable53, @Tryd.callable54, @Tryd.callable55, @Tryd.callable56, @Tryd.callable57, @Tryd.callable58, @Tryd.callable59, @Tryd.callable60, @Tryd.callable61, @Tryd.callable62, @Tryd.callable63, @Tryd.callable64, @Tryd.callable65, @Tryd.callable66, @Tryd.callable67, @Tryd.callable68, @Tryd.callable69, @Tryd.callable70, @Tryd.callable71, @Tryd.callable72, @Tryd.callable73, @Tryd.callable74, @Tryd.callable75, @Tryd.callable76⟩
theorem Tryd.facts8 : type_of% @Tryd.callable77 ∧ type_of% @Tryd.callable78 ∧ type_of% @Tryd.callable79 ∧ type_of% @Tryd.callable80 ∧ type_of% @Tryd.callable81 ∧ type_of% @Tryd.callable82 ∧ type_of% @Tryd.callable83 ∧ type_of% @Tryd.callable84 ∧ type_of% @Tryd.callable85 ∧ type_of% @Tryd.callable86 ∧ type_of% @Tryd.callable87 ∧ type_of% @Tryd.callable88 ∧ type_of% @Tryd.callable89 ∧ type_of% @Tryd.callable90 ∧ type_of% @Tryd.callable91 ∧ type_of% @Tryd.callable92 ∧ type_of% @Tryd.mixed ∧ type_of% @Tryd.isb4 ∧ type_of% @Tryd.lenK9 ∧ type_of% @Tryd.lenK10 ∧ type_of% @Tryd.lenK11 ∧ type_of% @Tryd.arrI22 ∧ type_of% @Tryd.arrI23 ∧ type_of% @Tryd.lenK28 ∧ type_of% @Tryd.lenK34 ∧ type_of% @Tryd.arrN45 ∧ type_of% @Tryd.fds45 ∧ type_of% @Tryd.arrN46 ∧ type_of% @Tryd.fds46 ∧ type_of% @Tryd.lenK47 ∧ type_of% @Tryd.arrI52 ∧ type_of% @Tryd.arrI56 ∧ type_of% @Tryd.arrI57 ∧ type_of% @Tryd.arrI60 ∧ type_of% @Tryd.arrI61 ∧ type_of% @Tryd.arrN63 ∧ type_of% @Tryd.fds63 ∧ type_of% @Tryd.arrN64 ∧ type_of% @Tryd.fds64 ∧ type_of% @Tryd.arrI72 ∧ type_of% @Tryd.arrI76 ∧ type_of% @Tryd.arrN77 ∧ type_of% @Tryd.fds77 ∧ type_of% @Tryd.arrN78 ∧ type_of% @Tryd.fds78 ∧ type_of% @Tryd.arrN88 ∧ type_of% @Tryd.fds88 ∧ type_of% @Tryd.arrN89 ∧ type_of% @Tryd.fds89 ∧ type_of% @Tryd.tab0 ∧ type_of% @Tryd.tab1 ∧ type_of% @Tryd.tab2 :=
  ⟨@Tryd.callable77, @Tryd.callable78, @Tryd.callable79, @Tryd.callable80, @Tryd.callable81, @Tryd.callable82, @Tryd.callable83, @Tryd.callable84, @Tryd.callable85, @Tryd.callable86, @Tryd.callable87, @Tryd.callable88, @Tryd.callable89, @Tryd.callable90, @Tryd.callable91, @Tryd.callable92, @Tryd.mixed, @Tryd.isb4, @Tryd.lenK9, @Tryd.lenK10, @Tryd.lenK11, @Tryd.arrI22, @Tryd.arrI23, @Tryd.lenK28, @Tryd.lenK34, @Tryd.arrN45, @Tryd.fds45, @Tryd.arrN46, @Tryd.fds46, @Tryd.lenK47, @Tryd.arrI52, @Tryd.arrI56, @Tryd.arrI57, @Tryd.arrI60, @Tryd.arrI61, @Tryd.arrN63, @Tryd.fds63, @Tryd.arrN64, @Tryd.fds64, @Tryd.arrI72, @Tryd.arrI76, @Tryd.arrN77, @Tryd.fds77, @Tryd.arrN78, @Tryd.fds78, @Tryd.arrN88, @Tryd.fds88, @Tryd.arrN89, @Tryd.fds89, @Tryd.tab0, @Tryd.tab1, @Tryd.tab2⟩
/-- All of them, under one name. -/
theorem Tryd.facts : type_of% @Tryd.facts0 ∧ type_of% @Tryd.facts1 ∧ type_of% @Tryd.facts2 ∧ type_of% @Tryd.facts3 ∧ type_of% @Tryd.facts4 ∧ type_of% @Tryd.facts5 ∧ type_of% @Tryd.facts6 ∧ type_of% @Tryd.facts7 ∧ type_of% @Tryd.facts8 :=
  ⟨@Tryd.facts0, @Tryd.facts1, @Tryd.facts2, @Tryd.facts3, @Tryd.facts4, @Tryd.facts5, @Tryd.facts6, @Tryd.facts7, @Tryd.facts8⟩
end Go.Proofs.YtlpckbkmmocaaaaDoor
