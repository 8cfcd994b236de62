/-
  Closed facts on the tables of this seat's program, each by the kernel (made by program from the translation: wip/lib/facts.py).
-/
import Derived.Test.YtoakenpcooglpaaGreatDoorVcgQ0
import Derived.Test.YtoakenpcooglpaaGreatDoorVcgK
import Derived.Test.YtoakenpcooglpaaGreatDoorVcgZ1
import Derived.Test.YtoakenpcooglpaaGreatDoorProg
import Derived.KernelRfl
set_option linter.unusedVariables false
set_option linter.unusedSimpArgs false
namespace Go.Proofs.YtoakenpcooglpaaGreatDoor
open Go.cA
class aX where
 place:Nat→Addr
 cells:Nat→Array Value
 ty:Nat→TypeId
 inj: ∀ i j,i < 9→j < 9→place i=place j→i=j
def yf [aX] (n:Nat):Option Nat:=(List.range 9).find? fun i=>(aX.place i).block==n
def alj [aX] (i:Nat):Value:= .pointer (some (aX.place i))
def mS [aX] (i:Nat):Value:= .iface 192 (alj i)
def yg [aX] (n:Nat):Option aW:=if n < 9 then some ⟨false,[Sum.inl (mS n)]⟩ else if n=9 then some ⟨false,ae .u32 8 b9⟩ else if n=10 then some ⟨false,ae .u32 64 kW⟩ else if n=11 then some ⟨false,ae .u32 64 kW⟩ else match yf n with
 | some _=>some ⟨false,[]⟩
 | none=>none
def pR [aX] (n:Nat):Option Obj:=match yf n with
 | some i=>some (.cells (aX.cells i) (aX.ty i) (0,0))
 | none=>none
theorem afZ [aX] (b:Nat) (o:Obj) (h:pR b=some o): ∃ bx,yg b=some bx:=by
 unfold pR at h
 unfold yg
 split at h
 ·rename_i i hi
  split
  ·exact ⟨_,rfl⟩
  ·split
   ·exact ⟨_,rfl⟩
   ·split
    ·exact ⟨_,rfl⟩
    ·split
     ·exact ⟨_,rfl⟩
     ·exact ⟨_,rfl⟩
 ·cases h
instance [aX]:cA.Tables Tryz.prog:={ row:=yg,blk:=pR,sub:=afZ }
section
variable [aX]
theorem Tryz.aih:Tables.row Tryz.prog 0=some ⟨false,[Sum.inl (mS 0)]⟩:=rfl
theorem Tryz.aii:Tables.row Tryz.prog 1=some ⟨false,[Sum.inl (mS 1)]⟩:=rfl
theorem Tryz.aij:Tables.row Tryz.prog 2=some ⟨false,[Sum.inl (mS 2)]⟩:=rfl
theorem Tryz.aik:Tables.row Tryz.prog 3=some ⟨false,[Sum.inl (mS 3)]⟩:=rfl
theorem Tryz.ail:Tables.row Tryz.prog 4=some ⟨false,[Sum.inl (mS 4)]⟩:=rfl
theorem Tryz.aim:Tables.row Tryz.prog 5=some ⟨false,[Sum.inl (mS 5)]⟩:=rfl
theorem Tryz.tab6:Tables.row Tryz.prog 6=some ⟨false,[Sum.inl (mS 6)]⟩:=rfl
theorem Tryz.ain:Tables.row Tryz.prog 7=some ⟨false,[Sum.inl (mS 7)]⟩:=rfl
theorem Tryz.aio:Tables.row Tryz.prog 8=some ⟨false,[Sum.inl (mS 8)]⟩:=rfl
theorem Tryz.aip:Tables.row Tryz.prog 9=some ⟨false,ae .u32 8 b9⟩:=rfl
theorem Tryz.ac':Tables.row Tryz.prog 10=some ⟨false,ae .u32 64 kW⟩:=rfl
theorem Tryz.ada:Tables.row Tryz.prog 11=some ⟨false,ae .u32 64 kW⟩:=rfl
end
theorem Tryz.ty2:bu Tryz.prog 2=some (false,1):=by kernel_rfl
theorem Tryz.adb:kindOf Tryz.prog 2=some IntKind.i64:=by kernel_rfl
theorem Tryz.ade:zeroOf Tryz.prog 2=some ([Value.int IntKind.i64 0]):=by kernel_rfl
theorem Tryz.ty3:bu Tryz.prog 3=some (false,1):=by kernel_rfl
theorem Tryz.I7:kindOf Tryz.prog 3=some IntKind.i64:=by kernel_rfl
theorem Tryz.adg:zeroOf Tryz.prog 3=some ([Value.int IntKind.i64 0]):=by kernel_rfl
theorem Tryz.ty4:bu Tryz.prog 4=some (false,1):=by kernel_rfl
theorem Tryz.uz:zeroOf Tryz.prog 4=some ([Value.bool false]):=by kernel_rfl
theorem Tryz.ty5:bu Tryz.prog 5=some (false,1):=by kernel_rfl
theorem Tryz.adh:kindOf Tryz.prog 5=some IntKind.u8:=by kernel_rfl
theorem Tryz.adi:zeroOf Tryz.prog 5=some ([Value.int IntKind.u8 0]):=by kernel_rfl
theorem Tryz.ty6:bu Tryz.prog 6=some (false,1):=by kernel_rfl
theorem Tryz.adj:kindOf Tryz.prog 6=some IntKind.u8:=by kernel_rfl
theorem Tryz.zero6:zeroOf Tryz.prog 6=some ([Value.int IntKind.u8 0]):=by kernel_rfl
theorem Tryz.ty7:bu Tryz.prog 7=some (true,4):=by kernel_rfl
theorem Tryz.adk:zeroOf Tryz.prog 7=some ([Value.int IntKind.i64 0,Value.int IntKind.i64 0,Value.bool false,Value.int IntKind.u8 0]):=by kernel_rfl
theorem Tryz.Xy:aU Tryz.prog 7=some ([Sum.inl (Value.int IntKind.i64 0),Sum.inl (Value.int IntKind.i64 0),Sum.inl (Value.bool false),Sum.inl (Value.int IntKind.u8 0)]):=by kernel_rfl
theorem Tryz.Xz:ao Tryz.prog 7 0=some (0,false,1):=by kernel_rfl
theorem Tryz.I8:placeOf Tryz.prog 7 0=some (0,1):=by kernel_rfl
theorem Tryz.XA:ao Tryz.prog 7 1=some (1,false,1):=by kernel_rfl
theorem Tryz.I9:placeOf Tryz.prog 7 1=some (1,1):=by kernel_rfl
theorem Tryz.XB:ao Tryz.prog 7 2=some (2,false,1):=by kernel_rfl
theorem Tryz.I':placeOf Tryz.prog 7 2=some (2,1):=by kernel_rfl
theorem Tryz.XC:ao Tryz.prog 7 3=some (3,false,1):=by kernel_rfl
theorem Tryz.Ja:placeOf Tryz.prog 7 3=some (3,1):=by kernel_rfl
theorem Tryz.ty8:bu Tryz.prog 8=some (true,4):=by kernel_rfl
theorem Tryz.yh:zeroOf Tryz.prog 8=some ([Value.int IntKind.i64 0,Value.int IntKind.i64 0,Value.bool false,Value.int IntKind.u8 0]):=by kernel_rfl
theorem Tryz.XD:aU Tryz.prog 8=some ([Sum.inl (Value.int IntKind.i64 0),Sum.inl (Value.int IntKind.i64 0),Sum.inl (Value.bool false),Sum.inl (Value.int IntKind.u8 0)]):=by kernel_rfl
theorem Tryz.XE:ao Tryz.prog 8 0=some (0,false,1):=by kernel_rfl
theorem Tryz.Jb:placeOf Tryz.prog 8 0=some (0,1):=by kernel_rfl
theorem Tryz.XF:ao Tryz.prog 8 1=some (1,false,1):=by kernel_rfl
theorem Tryz.Jc:placeOf Tryz.prog 8 1=some (1,1):=by kernel_rfl
theorem Tryz.XG:ao Tryz.prog 8 2=some (2,false,1):=by kernel_rfl
theorem Tryz.Jd:placeOf Tryz.prog 8 2=some (2,1):=by kernel_rfl
theorem Tryz.XH:ao Tryz.prog 8 3=some (3,false,1):=by kernel_rfl
theorem Tryz.Je:placeOf Tryz.prog 8 3=some (3,1):=by kernel_rfl
theorem Tryz.ty9:bu Tryz.prog 9=some (false,1):=by kernel_rfl
theorem Tryz.adl:zeroOf Tryz.prog 9=some ([Value.string ByteArray.empty]):=by kernel_rfl
theorem Tryz.aiq:bu Tryz.prog 10=some (false,1):=by kernel_rfl
theorem Tryz.XI:zeroOf Tryz.prog 10=some ([Value.string ByteArray.empty]):=by kernel_rfl
theorem Tryz.air:bu Tryz.prog 11=some (false,1):=by kernel_rfl
theorem Tryz.XJ:zeroOf Tryz.prog 11=some ([Value.string ByteArray.empty]):=by kernel_rfl
theorem Tryz.ais:bu Tryz.prog 12=some (false,1):=by kernel_rfl
theorem Tryz.XK:kindOf Tryz.prog 12=some IntKind.u64:=by kernel_rfl
theorem Tryz.XL:zeroOf Tryz.prog 12=some ([Value.int IntKind.u64 0]):=by kernel_rfl
theorem Tryz.ait:bu Tryz.prog 13=some (true,2):=by kernel_rfl
theorem Tryz.XM:zeroOf Tryz.prog 13=some ([Value.string ByteArray.empty,Value.int IntKind.u64 0]):=by kernel_rfl
theorem Tryz.QF:aU Tryz.prog 13=some ([Sum.inl (Value.string ByteArray.empty),Sum.inl (Value.int IntKind.u64 0)]):=by kernel_rfl
theorem Tryz.QG:ao Tryz.prog 13 0=some (0,false,1):=by kernel_rfl
theorem Tryz.DT:placeOf Tryz.prog 13 0=some (0,1):=by kernel_rfl
theorem Tryz.QH:ao Tryz.prog 13 1=some (1,false,1):=by kernel_rfl
theorem Tryz.DU:placeOf Tryz.prog 13 1=some (1,1):=by kernel_rfl
theorem Tryz.aiu:bu Tryz.prog 14=some (true,2):=by kernel_rfl
theorem Tryz.XN:zeroOf Tryz.prog 14=some ([Value.string ByteArray.empty,Value.int IntKind.u64 0]):=by kernel_rfl
theorem Tryz.QI:aU Tryz.prog 14=some ([Sum.inl (Value.string ByteArray.empty),Sum.inl (Value.int IntKind.u64 0)]):=by kernel_rfl
theorem Tryz.QJ:ao Tryz.prog 14 0=some (0,false,1):=by kernel_rfl
theorem Tryz.DV:placeOf Tryz.prog 14 0=some (0,1):=by kernel_rfl
theorem Tryz.QK:ao Tryz.prog 14 1=some (1,false,1):=by kernel_rfl
theorem Tryz.DW:placeOf Tryz.prog 14 1=some (1,1):=by kernel_rfl
theorem Tryz.aiv:bu Tryz.prog 15=some (false,1):=by kernel_rfl
theorem Tryz.XO:zeroOf Tryz.prog 15=some ([Value.pointer none]):=by kernel_rfl
theorem Tryz.aiw:bu Tryz.prog 16=some (false,1):=by kernel_rfl
theorem Tryz.XP:zeroOf Tryz.prog 16=some ([Value.pointer none]):=by kernel_rfl
theorem Tryz.aix:bu Tryz.prog 17=some (false,1):=by kernel_rfl
theorem Tryz.XQ:zeroOf Tryz.prog 17=some ([Value.pointer none]):=by kernel_rfl
theorem Tryz.aiy:bu Tryz.prog 18=some (true,1):=by kernel_rfl
theorem Tryz.XR:zeroOf Tryz.prog 18=some ([Value.pointer none]):=by kernel_rfl
theorem Tryz.QL:aU Tryz.prog 18=some ([Sum.inl (Value.pointer none)]):=by kernel_rfl
theorem Tryz.QM:ao Tryz.prog 18 0=some (0,false,1):=by kernel_rfl
theorem Tryz.DX:placeOf Tryz.prog 18 0=some (0,1):=by kernel_rfl
theorem Tryz.aiz:bu Tryz.prog 19=some (true,1):=by kernel_rfl
theorem Tryz.XS:zeroOf Tryz.prog 19=some ([Value.pointer none]):=by kernel_rfl
theorem Tryz.QN:aU Tryz.prog 19=some ([Sum.inl (Value.pointer none)]):=by kernel_rfl
theorem Tryz.QO:ao Tryz.prog 19 0=some (0,false,1):=by kernel_rfl
theorem Tryz.DY:placeOf Tryz.prog 19 0=some (0,1):=by kernel_rfl
theorem Tryz.aiA:bu Tryz.prog 21=some (false,1):=by kernel_rfl
theorem Tryz.XT:kindOf Tryz.prog 21=some IntKind.i32:=by kernel_rfl
theorem Tryz.XU:zeroOf Tryz.prog 21=some ([Value.int IntKind.i32 0]):=by kernel_rfl
theorem Tryz.aiB:bu Tryz.prog 22=some (true,32):=by kernel_rfl
theorem Tryz.XV:eZ Tryz.prog 22=some (32,1):=by kernel_rfl
theorem Tryz.aiC:gw Tryz.prog 22=some (32,false,1):=by kernel_rfl
theorem Tryz.adn:ln Tryz.prog 22=some (some 32,1):=by kernel_rfl
theorem Tryz.XW:zeroOf Tryz.prog 22=some (List.replicate 32 (Value.int IntKind.u8 0)):=by kernel_rfl
theorem Tryz.QP:aU Tryz.prog 22=some (List.replicate 32 (Sum.inl (Value.int IntKind.u8 0))):=by kernel_rfl
theorem Tryz.QQ (i:Nat):placeOf Tryz.prog 22 i=some (i*1,1):=by unfold placeOf;rw[Tryz.XV]
theorem Tryz.aiD:bu Tryz.prog 23=some (true,32):=by kernel_rfl
theorem Tryz.XX:eZ Tryz.prog 23=some (32,1):=by kernel_rfl
theorem Tryz.aiE:gw Tryz.prog 23=some (32,false,1):=by kernel_rfl
theorem Tryz.ado:ln Tryz.prog 23=some (some 32,1):=by kernel_rfl
theorem Tryz.XY:zeroOf Tryz.prog 23=some (List.replicate 32 (Value.int IntKind.u8 0)):=by kernel_rfl
theorem Tryz.QR:aU Tryz.prog 23=some (List.replicate 32 (Sum.inl (Value.int IntKind.u8 0))):=by kernel_rfl
theorem Tryz.QS (i:Nat):placeOf Tryz.prog 23 i=some (i*1,1):=by unfold placeOf;rw[Tryz.XX]
theorem Tryz.aiF:bu Tryz.prog 24=some (false,1):=by kernel_rfl
theorem Tryz.XZ:kindOf Tryz.prog 24=some IntKind.u32:=by kernel_rfl
theorem Tryz.X0:zeroOf Tryz.prog 24=some ([Value.int IntKind.u32 0]):=by kernel_rfl
theorem Tryz.aiG:bu Tryz.prog 25=some (false,1):=by kernel_rfl
theorem Tryz.aiH:cA.elemOf Tryz.prog 25=some 66:=by kernel_rfl
theorem Tryz.rS:ln Tryz.prog 25=some (none,66):=by kernel_rfl
theorem Tryz.rT:ru Tryz.prog 25=some (List.replicate 2 (Value.int IntKind.u32 0)++List.replicate 64 (Value.int IntKind.u8 0),66,72):=by kernel_rfl
theorem Tryz.X1:zeroOf Tryz.prog 25=some ([Value.slice none 0 0]):=by kernel_rfl
theorem Tryz.aiI:bu Tryz.prog 26=some (true,203):=by kernel_rfl
theorem Tryz.X2:zeroOf Tryz.prog 26=some (List.replicate 3 (Value.bool false)++List.replicate 192 (Value.int IntKind.u8 0)++List.replicate 5 (Value.int IntKind.u32 0)++List.replicate 2 (Value.int IntKind.i64 0)++List.replicate 1 (Value.slice none 0 0)):=by kernel_rfl
theorem Tryz.QT:aU Tryz.prog 26=some (List.replicate 3 (Sum.inl (Value.bool false))++List.replicate 192 (Sum.inl (Value.int IntKind.u8 0))++List.replicate 5 (Sum.inl (Value.int IntKind.u32 0))++List.replicate 2 (Sum.inl (Value.int IntKind.i64 0))++List.replicate 1 (Sum.inl (Value.slice none 0 0))):=by kernel_rfl
theorem Tryz.QU:ao Tryz.prog 26 0=some (0,false,1):=by kernel_rfl
theorem Tryz.DZ:placeOf Tryz.prog 26 0=some (0,1):=by kernel_rfl
theorem Tryz.QV:ao Tryz.prog 26 1=some (1,false,1):=by kernel_rfl
theorem Tryz.D0:placeOf Tryz.prog 26 1=some (1,1):=by kernel_rfl
theorem Tryz.QW:ao Tryz.prog 26 2=some (2,false,1):=by kernel_rfl
theorem Tryz.D1:placeOf Tryz.prog 26 2=some (2,1):=by kernel_rfl
theorem Tryz.QX:ao Tryz.prog 26 3=some (3,true,32):=by kernel_rfl
theorem Tryz.D2:placeOf Tryz.prog 26 3=some (3,32):=by kernel_rfl
theorem Tryz.QY:ao Tryz.prog 26 4=some (35,true,32):=by kernel_rfl
theorem Tryz.D3:placeOf Tryz.prog 26 4=some (35,32):=by kernel_rfl
theorem Tryz.QZ:ao Tryz.prog 26 5=some (67,true,32):=by kernel_rfl
theorem Tryz.D4:placeOf Tryz.prog 26 5=some (67,32):=by kernel_rfl
theorem Tryz.Q0:ao Tryz.prog 26 6=some (99,true,32):=by kernel_rfl
theorem Tryz.D5:placeOf Tryz.prog 26 6=some (99,32):=by kernel_rfl
theorem Tryz.Q5:ao Tryz.prog 26 7=some (131,true,32):=by kernel_rfl
theorem Tryz.D6:placeOf Tryz.prog 26 7=some (131,32):=by kernel_rfl
theorem Tryz.Q6:ao Tryz.prog 26 8=some (163,true,32):=by kernel_rfl
theorem Tryz.D7:placeOf Tryz.prog 26 8=some (163,32):=by kernel_rfl
theorem Tryz.Q7:ao Tryz.prog 26 9=some (195,false,1):=by kernel_rfl
theorem Tryz.D8:placeOf Tryz.prog 26 9=some (195,1):=by kernel_rfl
theorem Tryz.Jf:ao Tryz.prog 26 10=some (196,false,1):=by kernel_rfl
theorem Tryz.yi:placeOf Tryz.prog 26 10=some (196,1):=by kernel_rfl
theorem Tryz.Jg:ao Tryz.prog 26 11=some (197,false,1):=by kernel_rfl
theorem Tryz.yj:placeOf Tryz.prog 26 11=some (197,1):=by kernel_rfl
theorem Tryz.Jh:ao Tryz.prog 26 12=some (198,false,1):=by kernel_rfl
theorem Tryz.yk:placeOf Tryz.prog 26 12=some (198,1):=by kernel_rfl
theorem Tryz.Ji:ao Tryz.prog 26 13=some (199,false,1):=by kernel_rfl
theorem Tryz.yl:placeOf Tryz.prog 26 13=some (199,1):=by kernel_rfl
theorem Tryz.Jj:ao Tryz.prog 26 14=some (200,false,1):=by kernel_rfl
theorem Tryz.ym:placeOf Tryz.prog 26 14=some (200,1):=by kernel_rfl
theorem Tryz.Jk:ao Tryz.prog 26 15=some (201,false,1):=by kernel_rfl
theorem Tryz.yn:placeOf Tryz.prog 26 15=some (201,1):=by kernel_rfl
theorem Tryz.Jl:ao Tryz.prog 26 16=some (202,false,1):=by kernel_rfl
theorem Tryz.yo:placeOf Tryz.prog 26 16=some (202,1):=by kernel_rfl
theorem Tryz.aiJ:bu Tryz.prog 27=some (true,203):=by kernel_rfl
theorem Tryz.X3:zeroOf Tryz.prog 27=some (List.replicate 3 (Value.bool false)++List.replicate 192 (Value.int IntKind.u8 0)++List.replicate 5 (Value.int IntKind.u32 0)++List.replicate 2 (Value.int IntKind.i64 0)++List.replicate 1 (Value.slice none 0 0)):=by kernel_rfl
theorem Tryz.Q8:aU Tryz.prog 27=some (List.replicate 3 (Sum.inl (Value.bool false))++List.replicate 192 (Sum.inl (Value.int IntKind.u8 0))++List.replicate 5 (Sum.inl (Value.int IntKind.u32 0))++List.replicate 2 (Sum.inl (Value.int IntKind.i64 0))++List.replicate 1 (Sum.inl (Value.slice none 0 0))):=by kernel_rfl
theorem Tryz.Q9:ao Tryz.prog 27 0=some (0,false,1):=by kernel_rfl
theorem Tryz.D9:placeOf Tryz.prog 27 0=some (0,1):=by kernel_rfl
theorem Tryz.Q':ao Tryz.prog 27 1=some (1,false,1):=by kernel_rfl
theorem Tryz.D':placeOf Tryz.prog 27 1=some (1,1):=by kernel_rfl
theorem Tryz.Ra:ao Tryz.prog 27 2=some (2,false,1):=by kernel_rfl
theorem Tryz.Ea:placeOf Tryz.prog 27 2=some (2,1):=by kernel_rfl
theorem Tryz.Rb:ao Tryz.prog 27 3=some (3,true,32):=by kernel_rfl
theorem Tryz.Eb:placeOf Tryz.prog 27 3=some (3,32):=by kernel_rfl
theorem Tryz.Rc:ao Tryz.prog 27 4=some (35,true,32):=by kernel_rfl
theorem Tryz.Ec:placeOf Tryz.prog 27 4=some (35,32):=by kernel_rfl
theorem Tryz.Rd:ao Tryz.prog 27 5=some (67,true,32):=by kernel_rfl
theorem Tryz.Ed:placeOf Tryz.prog 27 5=some (67,32):=by kernel_rfl
theorem Tryz.Re:ao Tryz.prog 27 6=some (99,true,32):=by kernel_rfl
theorem Tryz.Ee:placeOf Tryz.prog 27 6=some (99,32):=by kernel_rfl
theorem Tryz.Rf:ao Tryz.prog 27 7=some (131,true,32):=by kernel_rfl
theorem Tryz.Ef:placeOf Tryz.prog 27 7=some (131,32):=by kernel_rfl
theorem Tryz.Rg:ao Tryz.prog 27 8=some (163,true,32):=by kernel_rfl
theorem Tryz.Eg:placeOf Tryz.prog 27 8=some (163,32):=by kernel_rfl
theorem Tryz.Rh:ao Tryz.prog 27 9=some (195,false,1):=by kernel_rfl
theorem Tryz.Eh:placeOf Tryz.prog 27 9=some (195,1):=by kernel_rfl
theorem Tryz.Jm:ao Tryz.prog 27 10=some (196,false,1):=by kernel_rfl
theorem Tryz.yp:placeOf Tryz.prog 27 10=some (196,1):=by kernel_rfl
theorem Tryz.Jn:ao Tryz.prog 27 11=some (197,false,1):=by kernel_rfl
theorem Tryz.yq:placeOf Tryz.prog 27 11=some (197,1):=by kernel_rfl
theorem Tryz.Jo:ao Tryz.prog 27 12=some (198,false,1):=by kernel_rfl
theorem Tryz.yr:placeOf Tryz.prog 27 12=some (198,1):=by kernel_rfl
theorem Tryz.Jp:ao Tryz.prog 27 13=some (199,false,1):=by kernel_rfl
theorem Tryz.yu:placeOf Tryz.prog 27 13=some (199,1):=by kernel_rfl
theorem Tryz.Jq:ao Tryz.prog 27 14=some (200,false,1):=by kernel_rfl
theorem Tryz.yv:placeOf Tryz.prog 27 14=some (200,1):=by kernel_rfl
theorem Tryz.Jr:ao Tryz.prog 27 15=some (201,false,1):=by kernel_rfl
theorem Tryz.yw:placeOf Tryz.prog 27 15=some (201,1):=by kernel_rfl
theorem Tryz.Js:ao Tryz.prog 27 16=some (202,false,1):=by kernel_rfl
theorem Tryz.yx:placeOf Tryz.prog 27 16=some (202,1):=by kernel_rfl
theorem Tryz.aiK:bu Tryz.prog 28=some (false,1):=by kernel_rfl
theorem Tryz.aiL:cA.elemOf Tryz.prog 28=some 1:=by kernel_rfl
theorem Tryz.bW:ln Tryz.prog 28=some (none,1):=by kernel_rfl
theorem Tryz.adp:abb Tryz.prog 28=true:=by kernel_rfl
theorem Tryz.bS:ru Tryz.prog 28=some ([Value.int IntKind.u8 0],1,1):=by kernel_rfl
theorem Tryz.X4:zeroOf Tryz.prog 28=some ([Value.slice none 0 0]):=by kernel_rfl
theorem Tryz.aiM:bu Tryz.prog 29=some (true,2):=by kernel_rfl
theorem Tryz.X5:zeroOf Tryz.prog 29=some ([Value.slice none 0 0,Value.int IntKind.i64 0]):=by kernel_rfl
theorem Tryz.Ri:aU Tryz.prog 29=some ([Sum.inl (Value.slice none 0 0),Sum.inl (Value.int IntKind.i64 0)]):=by kernel_rfl
theorem Tryz.Rj:ao Tryz.prog 29 0=some (0,false,1):=by kernel_rfl
theorem Tryz.Ei:placeOf Tryz.prog 29 0=some (0,1):=by kernel_rfl
theorem Tryz.Rk:ao Tryz.prog 29 1=some (1,false,1):=by kernel_rfl
theorem Tryz.Ej:placeOf Tryz.prog 29 1=some (1,1):=by kernel_rfl
theorem Tryz.aiN:bu Tryz.prog 30=some (true,2):=by kernel_rfl
theorem Tryz.X6:zeroOf Tryz.prog 30=some ([Value.slice none 0 0,Value.int IntKind.i64 0]):=by kernel_rfl
theorem Tryz.Rl:aU Tryz.prog 30=some ([Sum.inl (Value.slice none 0 0),Sum.inl (Value.int IntKind.i64 0)]):=by kernel_rfl
theorem Tryz.Rm:ao Tryz.prog 30 0=some (0,false,1):=by kernel_rfl
theorem Tryz.Ek:placeOf Tryz.prog 30 0=some (0,1):=by kernel_rfl
theorem Tryz.Rn:ao Tryz.prog 30 1=some (1,false,1):=by kernel_rfl
theorem Tryz.El:placeOf Tryz.prog 30 1=some (1,1):=by kernel_rfl
theorem Tryz.aiO:bu Tryz.prog 32=some (true,2):=by kernel_rfl
theorem Tryz.zero32:zeroOf Tryz.prog 32=some ([Value.slice none 0 0,Value.int IntKind.i64 0]):=by kernel_rfl
theorem Tryz.Ro:aU Tryz.prog 32=some ([Sum.inl (Value.slice none 0 0),Sum.inl (Value.int IntKind.i64 0)]):=by kernel_rfl
theorem Tryz.Rp:ao Tryz.prog 32 0=some (0,false,1):=by kernel_rfl
theorem Tryz.Em:placeOf Tryz.prog 32 0=some (0,1):=by kernel_rfl
theorem Tryz.Rq:ao Tryz.prog 32 1=some (1,false,1):=by kernel_rfl
theorem Tryz.Eo:placeOf Tryz.prog 32 1=some (1,1):=by kernel_rfl
theorem Tryz.aiP:bu Tryz.prog 33=some (true,2):=by kernel_rfl
theorem Tryz.X7:zeroOf Tryz.prog 33=some ([Value.slice none 0 0,Value.int IntKind.i64 0]):=by kernel_rfl
theorem Tryz.Rr:aU Tryz.prog 33=some ([Sum.inl (Value.slice none 0 0),Sum.inl (Value.int IntKind.i64 0)]):=by kernel_rfl
theorem Tryz.Rs:ao Tryz.prog 33 0=some (0,false,1):=by kernel_rfl
theorem Tryz.Ep:placeOf Tryz.prog 33 0=some (0,1):=by kernel_rfl
theorem Tryz.Rt:ao Tryz.prog 33 1=some (1,false,1):=by kernel_rfl
theorem Tryz.Er:placeOf Tryz.prog 33 1=some (1,1):=by kernel_rfl
theorem Tryz.aiQ:bu Tryz.prog 35=some (true,207):=by kernel_rfl
theorem Tryz.X8:zeroOf Tryz.prog 35=some (List.replicate 1 (Value.int IntKind.i64 0)++List.replicate 3 (Value.bool false)++List.replicate 192 (Value.int IntKind.u8 0)++List.replicate 5 (Value.int IntKind.u32 0)++List.replicate 2 (Value.int IntKind.i64 0)++List.replicate 2 (Value.slice none 0 0)++List.replicate 2 (Value.int IntKind.u32 0)):=by kernel_rfl
theorem Tryz.Ru:aU Tryz.prog 35=some (List.replicate 1 (Sum.inl (Value.int IntKind.i64 0))++List.replicate 3 (Sum.inl (Value.bool false))++List.replicate 192 (Sum.inl (Value.int IntKind.u8 0))++List.replicate 5 (Sum.inl (Value.int IntKind.u32 0))++List.replicate 2 (Sum.inl (Value.int IntKind.i64 0))++List.replicate 2 (Sum.inl (Value.slice none 0 0))++List.replicate 2 (Sum.inl (Value.int IntKind.u32 0))):=by kernel_rfl
theorem Tryz.Rv:ao Tryz.prog 35 0=some (0,false,1):=by kernel_rfl
theorem Tryz.Es:placeOf Tryz.prog 35 0=some (0,1):=by kernel_rfl
theorem Tryz.Rw:ao Tryz.prog 35 1=some (1,true,203):=by kernel_rfl
theorem Tryz.Et:placeOf Tryz.prog 35 1=some (1,203):=by kernel_rfl
theorem Tryz.Rx:ao Tryz.prog 35 2=some (204,false,1):=by kernel_rfl
theorem Tryz.Eu:placeOf Tryz.prog 35 2=some (204,1):=by kernel_rfl
theorem Tryz.Ry:ao Tryz.prog 35 3=some (205,false,1):=by kernel_rfl
theorem Tryz.Ev:placeOf Tryz.prog 35 3=some (205,1):=by kernel_rfl
theorem Tryz.Rz:ao Tryz.prog 35 4=some (206,false,1):=by kernel_rfl
theorem Tryz.Ew:placeOf Tryz.prog 35 4=some (206,1):=by kernel_rfl
theorem Tryz.aiR:bu Tryz.prog 36=some (true,207):=by kernel_rfl
theorem Tryz.X9:zeroOf Tryz.prog 36=some (List.replicate 1 (Value.int IntKind.i64 0)++List.replicate 3 (Value.bool false)++List.replicate 192 (Value.int IntKind.u8 0)++List.replicate 5 (Value.int IntKind.u32 0)++List.replicate 2 (Value.int IntKind.i64 0)++List.replicate 2 (Value.slice none 0 0)++List.replicate 2 (Value.int IntKind.u32 0)):=by kernel_rfl
theorem Tryz.RA:aU Tryz.prog 36=some (List.replicate 1 (Sum.inl (Value.int IntKind.i64 0))++List.replicate 3 (Sum.inl (Value.bool false))++List.replicate 192 (Sum.inl (Value.int IntKind.u8 0))++List.replicate 5 (Sum.inl (Value.int IntKind.u32 0))++List.replicate 2 (Sum.inl (Value.int IntKind.i64 0))++List.replicate 2 (Sum.inl (Value.slice none 0 0))++List.replicate 2 (Sum.inl (Value.int IntKind.u32 0))):=by kernel_rfl
theorem Tryz.RB:ao Tryz.prog 36 0=some (0,false,1):=by kernel_rfl
theorem Tryz.Ex:placeOf Tryz.prog 36 0=some (0,1):=by kernel_rfl
theorem Tryz.RC:ao Tryz.prog 36 1=some (1,true,203):=by kernel_rfl
theorem Tryz.Ey:placeOf Tryz.prog 36 1=some (1,203):=by kernel_rfl
theorem Tryz.RD:ao Tryz.prog 36 2=some (204,false,1):=by kernel_rfl
theorem Tryz.Ez:placeOf Tryz.prog 36 2=some (204,1):=by kernel_rfl
theorem Tryz.RE:ao Tryz.prog 36 3=some (205,false,1):=by kernel_rfl
theorem Tryz.EA:placeOf Tryz.prog 36 3=some (205,1):=by kernel_rfl
theorem Tryz.RF:ao Tryz.prog 36 4=some (206,false,1):=by kernel_rfl
theorem Tryz.EB:placeOf Tryz.prog 36 4=some (206,1):=by kernel_rfl
theorem Tryz.aiS:bu Tryz.prog 46=some (true,66):=by kernel_rfl
theorem Tryz.X':zeroOf Tryz.prog 46=some (List.replicate 2 (Value.int IntKind.u32 0)++List.replicate 64 (Value.int IntKind.u8 0)):=by kernel_rfl
theorem Tryz.RG:aU Tryz.prog 46=some (List.replicate 2 (Sum.inl (Value.int IntKind.u32 0))++List.replicate 64 (Sum.inl (Value.int IntKind.u8 0))):=by kernel_rfl
theorem Tryz.RH:ao Tryz.prog 46 0=some (0,false,1):=by kernel_rfl
theorem Tryz.EC:placeOf Tryz.prog 46 0=some (0,1):=by kernel_rfl
theorem Tryz.RI:ao Tryz.prog 46 1=some (1,false,1):=by kernel_rfl
theorem Tryz.ED:placeOf Tryz.prog 46 1=some (1,1):=by kernel_rfl
theorem Tryz.RJ:ao Tryz.prog 46 2=some (2,true,32):=by kernel_rfl
theorem Tryz.EE:placeOf Tryz.prog 46 2=some (2,32):=by kernel_rfl
theorem Tryz.RK:ao Tryz.prog 46 3=some (34,true,32):=by kernel_rfl
theorem Tryz.EF:placeOf Tryz.prog 46 3=some (34,32):=by kernel_rfl
theorem Tryz.aiT:bu Tryz.prog 47=some (true,66):=by kernel_rfl
theorem Tryz.Ya:zeroOf Tryz.prog 47=some (List.replicate 2 (Value.int IntKind.u32 0)++List.replicate 64 (Value.int IntKind.u8 0)):=by kernel_rfl
theorem Tryz.RL:aU Tryz.prog 47=some (List.replicate 2 (Sum.inl (Value.int IntKind.u32 0))++List.replicate 64 (Sum.inl (Value.int IntKind.u8 0))):=by kernel_rfl
theorem Tryz.RM:ao Tryz.prog 47 0=some (0,false,1):=by kernel_rfl
theorem Tryz.EG:placeOf Tryz.prog 47 0=some (0,1):=by kernel_rfl
theorem Tryz.RN:ao Tryz.prog 47 1=some (1,false,1):=by kernel_rfl
theorem Tryz.EH:placeOf Tryz.prog 47 1=some (1,1):=by kernel_rfl
theorem Tryz.RO:ao Tryz.prog 47 2=some (2,true,32):=by kernel_rfl
theorem Tryz.EI:placeOf Tryz.prog 47 2=some (2,32):=by kernel_rfl
theorem Tryz.RP:ao Tryz.prog 47 3=some (34,true,32):=by kernel_rfl
theorem Tryz.EJ:placeOf Tryz.prog 47 3=some (34,32):=by kernel_rfl
theorem Tryz.aiU:bu Tryz.prog 61=some (true,34):=by kernel_rfl
theorem Tryz.Yb:zeroOf Tryz.prog 61=some (List.replicate 32 (Value.int IntKind.u8 0)++List.replicate 2 (Value.int IntKind.u32 0)):=by kernel_rfl
theorem Tryz.RQ:aU Tryz.prog 61=some (List.replicate 32 (Sum.inl (Value.int IntKind.u8 0))++List.replicate 2 (Sum.inl (Value.int IntKind.u32 0))):=by kernel_rfl
theorem Tryz.RR:ao Tryz.prog 61 0=some (0,true,32):=by kernel_rfl
theorem Tryz.EK:placeOf Tryz.prog 61 0=some (0,32):=by kernel_rfl
theorem Tryz.RS:ao Tryz.prog 61 1=some (32,false,1):=by kernel_rfl
theorem Tryz.EL:placeOf Tryz.prog 61 1=some (32,1):=by kernel_rfl
theorem Tryz.RT:ao Tryz.prog 61 2=some (33,false,1):=by kernel_rfl
theorem Tryz.EM:placeOf Tryz.prog 61 2=some (33,1):=by kernel_rfl
theorem Tryz.aiV:bu Tryz.prog 62=some (true,34):=by kernel_rfl
theorem Tryz.Yc:zeroOf Tryz.prog 62=some (List.replicate 32 (Value.int IntKind.u8 0)++List.replicate 2 (Value.int IntKind.u32 0)):=by kernel_rfl
theorem Tryz.RU:aU Tryz.prog 62=some (List.replicate 32 (Sum.inl (Value.int IntKind.u8 0))++List.replicate 2 (Sum.inl (Value.int IntKind.u32 0))):=by kernel_rfl
theorem Tryz.RV:ao Tryz.prog 62 0=some (0,true,32):=by kernel_rfl
theorem Tryz.EN:placeOf Tryz.prog 62 0=some (0,32):=by kernel_rfl
theorem Tryz.RW:ao Tryz.prog 62 1=some (32,false,1):=by kernel_rfl
theorem Tryz.EO:placeOf Tryz.prog 62 1=some (32,1):=by kernel_rfl
theorem Tryz.RX:ao Tryz.prog 62 2=some (33,false,1):=by kernel_rfl
theorem Tryz.EP:placeOf Tryz.prog 62 2=some (33,1):=by kernel_rfl
theorem Tryz.aiW:bu Tryz.prog 63=some (false,1):=by kernel_rfl
theorem Tryz.aiX:cA.elemOf Tryz.prog 63=some 32:=by kernel_rfl
theorem Tryz.ER:ln Tryz.prog 63=some (none,32):=by kernel_rfl
theorem Tryz.ES:ru Tryz.prog 63=some (List.replicate 32 (Value.int IntKind.u8 0),32,32):=by kernel_rfl
theorem Tryz.Yd:zeroOf Tryz.prog 63=some ([Value.slice none 0 0]):=by kernel_rfl
theorem Tryz.aiY:bu Tryz.prog 65=some (true,33):=by kernel_rfl
theorem Tryz.Ye:zeroOf Tryz.prog 65=some (List.replicate 1 (Value.slice none 0 0)++List.replicate 32 (Value.int IntKind.u8 0)):=by kernel_rfl
theorem Tryz.RY:aU Tryz.prog 65=some (List.replicate 1 (Sum.inl (Value.slice none 0 0))++List.replicate 32 (Sum.inl (Value.int IntKind.u8 0))):=by kernel_rfl
theorem Tryz.RZ:ao Tryz.prog 65 0=some (0,false,1):=by kernel_rfl
theorem Tryz.ET:placeOf Tryz.prog 65 0=some (0,1):=by kernel_rfl
theorem Tryz.R0:ao Tryz.prog 65 1=some (1,true,32):=by kernel_rfl
theorem Tryz.EU:placeOf Tryz.prog 65 1=some (1,32):=by kernel_rfl
theorem Tryz.aiZ:bu Tryz.prog 66=some (true,33):=by kernel_rfl
theorem Tryz.Yf:zeroOf Tryz.prog 66=some (List.replicate 1 (Value.slice none 0 0)++List.replicate 32 (Value.int IntKind.u8 0)):=by kernel_rfl
theorem Tryz.R1:aU Tryz.prog 66=some (List.replicate 1 (Sum.inl (Value.slice none 0 0))++List.replicate 32 (Sum.inl (Value.int IntKind.u8 0))):=by kernel_rfl
theorem Tryz.R2:ao Tryz.prog 66 0=some (0,false,1):=by kernel_rfl
theorem Tryz.EV:placeOf Tryz.prog 66 0=some (0,1):=by kernel_rfl
theorem Tryz.R3:ao Tryz.prog 66 1=some (1,true,32):=by kernel_rfl
theorem Tryz.EW:placeOf Tryz.prog 66 1=some (1,32):=by kernel_rfl
theorem Tryz.ai0:bu Tryz.prog 70=some (true,67):=by kernel_rfl
theorem Tryz.Yg:zeroOf Tryz.prog 70=some (List.replicate 32 (Value.int IntKind.u8 0)++List.replicate 2 (Value.int IntKind.u32 0)++List.replicate 1 (Value.slice none 0 0)++List.replicate 32 (Value.int IntKind.u8 0)):=by kernel_rfl
theorem Tryz.R5:aU Tryz.prog 70=some (List.replicate 32 (Sum.inl (Value.int IntKind.u8 0))++List.replicate 2 (Sum.inl (Value.int IntKind.u32 0))++List.replicate 1 (Sum.inl (Value.slice none 0 0))++List.replicate 32 (Sum.inl (Value.int IntKind.u8 0))):=by kernel_rfl
theorem Tryz.R6:ao Tryz.prog 70 0=some (0,true,34):=by kernel_rfl
theorem Tryz.EX:placeOf Tryz.prog 70 0=some (0,34):=by kernel_rfl
theorem Tryz.R7:ao Tryz.prog 70 1=some (34,false,1):=by kernel_rfl
theorem Tryz.EY:placeOf Tryz.prog 70 1=some (34,1):=by kernel_rfl
theorem Tryz.R8:ao Tryz.prog 70 2=some (35,true,32):=by kernel_rfl
theorem Tryz.EZ:placeOf Tryz.prog 70 2=some (35,32):=by kernel_rfl
theorem Tryz.ai1:bu Tryz.prog 71=some (true,67):=by kernel_rfl
theorem Tryz.Yh:zeroOf Tryz.prog 71=some (List.replicate 32 (Value.int IntKind.u8 0)++List.replicate 2 (Value.int IntKind.u32 0)++List.replicate 1 (Value.slice none 0 0)++List.replicate 32 (Value.int IntKind.u8 0)):=by kernel_rfl
theorem Tryz.R9:aU Tryz.prog 71=some (List.replicate 32 (Sum.inl (Value.int IntKind.u8 0))++List.replicate 2 (Sum.inl (Value.int IntKind.u32 0))++List.replicate 1 (Sum.inl (Value.slice none 0 0))++List.replicate 32 (Sum.inl (Value.int IntKind.u8 0))):=by kernel_rfl
theorem Tryz.R':ao Tryz.prog 71 0=some (0,true,34):=by kernel_rfl
theorem Tryz.E2:placeOf Tryz.prog 71 0=some (0,34):=by kernel_rfl
theorem Tryz.Sb:ao Tryz.prog 71 1=some (34,false,1):=by kernel_rfl
theorem Tryz.E3:placeOf Tryz.prog 71 1=some (34,1):=by kernel_rfl
theorem Tryz.Sc:ao Tryz.prog 71 2=some (35,true,32):=by kernel_rfl
theorem Tryz.E5:placeOf Tryz.prog 71 2=some (35,32):=by kernel_rfl
theorem Tryz.ai2:bu Tryz.prog 75=some (false,1):=by kernel_rfl
theorem Tryz.Yi:zeroOf Tryz.prog 75=some ([Value.pointer none]):=by kernel_rfl
theorem Tryz.ai3:bu Tryz.prog 77=some (true,203):=by kernel_rfl
theorem Tryz.Yj:zeroOf Tryz.prog 77=some (List.replicate 3 (Value.bool false)++List.replicate 192 (Value.int IntKind.u8 0)++List.replicate 5 (Value.int IntKind.u32 0)++List.replicate 2 (Value.int IntKind.i64 0)++List.replicate 1 (Value.slice none 0 0)):=by kernel_rfl
theorem Tryz.Sd:aU Tryz.prog 77=some (List.replicate 3 (Sum.inl (Value.bool false))++List.replicate 192 (Sum.inl (Value.int IntKind.u8 0))++List.replicate 5 (Sum.inl (Value.int IntKind.u32 0))++List.replicate 2 (Sum.inl (Value.int IntKind.i64 0))++List.replicate 1 (Sum.inl (Value.slice none 0 0))):=by kernel_rfl
theorem Tryz.Se:ao Tryz.prog 77 0=some (0,true,203):=by kernel_rfl
theorem Tryz.E6:placeOf Tryz.prog 77 0=some (0,203):=by kernel_rfl
theorem Tryz.ai4:bu Tryz.prog 78=some (true,203):=by kernel_rfl
theorem Tryz.Yk:zeroOf Tryz.prog 78=some (List.replicate 3 (Value.bool false)++List.replicate 192 (Value.int IntKind.u8 0)++List.replicate 5 (Value.int IntKind.u32 0)++List.replicate 2 (Value.int IntKind.i64 0)++List.replicate 1 (Value.slice none 0 0)):=by kernel_rfl
theorem Tryz.Sf:aU Tryz.prog 78=some (List.replicate 3 (Sum.inl (Value.bool false))++List.replicate 192 (Sum.inl (Value.int IntKind.u8 0))++List.replicate 5 (Sum.inl (Value.int IntKind.u32 0))++List.replicate 2 (Sum.inl (Value.int IntKind.i64 0))++List.replicate 1 (Sum.inl (Value.slice none 0 0))):=by kernel_rfl
theorem Tryz.Sg:ao Tryz.prog 78 0=some (0,true,203):=by kernel_rfl
theorem Tryz.E7:placeOf Tryz.prog 78 0=some (0,203):=by kernel_rfl
theorem Tryz.ai5:bu Tryz.prog 81=some (false,1):=by kernel_rfl
theorem Tryz.Yl:kindOf Tryz.prog 81=some IntKind.u64:=by kernel_rfl
theorem Tryz.Ym:zeroOf Tryz.prog 81=some ([Value.int IntKind.u64 0]):=by kernel_rfl
theorem Tryz.ai6:bu Tryz.prog 85=some (true,16):=by kernel_rfl
theorem Tryz.Yn:eZ Tryz.prog 85=some (16,1):=by kernel_rfl
theorem Tryz.ai7:gw Tryz.prog 85=some (16,false,1):=by kernel_rfl
theorem Tryz.adq:ln Tryz.prog 85=some (some 16,1):=by kernel_rfl
theorem Tryz.Yo:zeroOf Tryz.prog 85=some (List.replicate 16 (Value.int IntKind.u64 0)):=by kernel_rfl
theorem Tryz.Sh:aU Tryz.prog 85=some (List.replicate 16 (Sum.inl (Value.int IntKind.u64 0))):=by kernel_rfl
theorem Tryz.Si (i:Nat):placeOf Tryz.prog 85 i=some (i*1,1):=by unfold placeOf;rw[Tryz.Yn]
theorem Tryz.ai8:bu Tryz.prog 86=some (true,16):=by kernel_rfl
theorem Tryz.Yp:eZ Tryz.prog 86=some (16,1):=by kernel_rfl
theorem Tryz.ai9:gw Tryz.prog 86=some (16,false,1):=by kernel_rfl
theorem Tryz.adr:ln Tryz.prog 86=some (some 16,1):=by kernel_rfl
theorem Tryz.Yq:zeroOf Tryz.prog 86=some (List.replicate 16 (Value.int IntKind.u64 0)):=by kernel_rfl
theorem Tryz.Sj:aU Tryz.prog 86=some (List.replicate 16 (Sum.inl (Value.int IntKind.u64 0))):=by kernel_rfl
theorem Tryz.Sk (i:Nat):placeOf Tryz.prog 86 i=some (i*1,1):=by unfold placeOf;rw[Tryz.Yp]
theorem Tryz.ai':bu Tryz.prog 88=some (true,64):=by kernel_rfl
theorem Tryz.Yr:zeroOf Tryz.prog 88=some (List.replicate 64 (Value.int IntKind.u64 0)):=by kernel_rfl
theorem Tryz.Sm:aU Tryz.prog 88=some (List.replicate 64 (Sum.inl (Value.int IntKind.u64 0))):=by kernel_rfl
theorem Tryz.Sn:ao Tryz.prog 88 0=some (0,true,16):=by kernel_rfl
theorem Tryz.E8:placeOf Tryz.prog 88 0=some (0,16):=by kernel_rfl
theorem Tryz.So:ao Tryz.prog 88 1=some (16,true,16):=by kernel_rfl
theorem Tryz.E9:placeOf Tryz.prog 88 1=some (16,16):=by kernel_rfl
theorem Tryz.Sp:ao Tryz.prog 88 2=some (32,true,16):=by kernel_rfl
theorem Tryz.E':placeOf Tryz.prog 88 2=some (32,16):=by kernel_rfl
theorem Tryz.Sq:ao Tryz.prog 88 3=some (48,true,16):=by kernel_rfl
theorem Tryz.Fa:placeOf Tryz.prog 88 3=some (48,16):=by kernel_rfl
theorem Tryz.aja:bu Tryz.prog 89=some (true,64):=by kernel_rfl
theorem Tryz.Ys:zeroOf Tryz.prog 89=some (List.replicate 64 (Value.int IntKind.u64 0)):=by kernel_rfl
theorem Tryz.Sr:aU Tryz.prog 89=some (List.replicate 64 (Sum.inl (Value.int IntKind.u64 0))):=by kernel_rfl
theorem Tryz.Ss:ao Tryz.prog 89 0=some (0,true,16):=by kernel_rfl
theorem Tryz.Fb:placeOf Tryz.prog 89 0=some (0,16):=by kernel_rfl
theorem Tryz.Sv:ao Tryz.prog 89 1=some (16,true,16):=by kernel_rfl
theorem Tryz.Fc:placeOf Tryz.prog 89 1=some (16,16):=by kernel_rfl
theorem Tryz.Sw:ao Tryz.prog 89 2=some (32,true,16):=by kernel_rfl
theorem Tryz.Fe:placeOf Tryz.prog 89 2=some (32,16):=by kernel_rfl
theorem Tryz.Sx:ao Tryz.prog 89 3=some (48,true,16):=by kernel_rfl
theorem Tryz.Ff:placeOf Tryz.prog 89 3=some (48,16):=by kernel_rfl
theorem Tryz.ads:bu Tryz.prog 104=some (true,16):=by kernel_rfl
theorem Tryz.NU:eZ Tryz.prog 104=some (16,1):=by kernel_rfl
theorem Tryz.adt:gw Tryz.prog 104=some (16,false,1):=by kernel_rfl
theorem Tryz.Yt:ln Tryz.prog 104=some (some 16,1):=by kernel_rfl
theorem Tryz.Sy:zeroOf Tryz.prog 104=some (List.replicate 16 (Value.int IntKind.u8 0)):=by kernel_rfl
theorem Tryz.Jt:aU Tryz.prog 104=some (List.replicate 16 (Sum.inl (Value.int IntKind.u8 0))):=by kernel_rfl
theorem Tryz.Ju (i:Nat):placeOf Tryz.prog 104 i=some (i*1,1):=by unfold placeOf;rw[Tryz.NU]
theorem Tryz.adu:bu Tryz.prog 105=some (true,16):=by kernel_rfl
theorem Tryz.NV:eZ Tryz.prog 105=some (16,1):=by kernel_rfl
theorem Tryz.adv:gw Tryz.prog 105=some (16,false,1):=by kernel_rfl
theorem Tryz.Yu:ln Tryz.prog 105=some (some 16,1):=by kernel_rfl
theorem Tryz.Sz:zeroOf Tryz.prog 105=some (List.replicate 16 (Value.int IntKind.u8 0)):=by kernel_rfl
theorem Tryz.Jv:aU Tryz.prog 105=some (List.replicate 16 (Sum.inl (Value.int IntKind.u8 0))):=by kernel_rfl
theorem Tryz.Jw (i:Nat):placeOf Tryz.prog 105 i=some (i*1,1):=by unfold placeOf;rw[Tryz.NV]
theorem Tryz.adw:bu Tryz.prog 106=some (true,80):=by kernel_rfl
theorem Tryz.SA:zeroOf Tryz.prog 106=some (List.replicate 80 (Value.int IntKind.u8 0)):=by kernel_rfl
theorem Tryz.Jx:aU Tryz.prog 106=some (List.replicate 80 (Sum.inl (Value.int IntKind.u8 0))):=by kernel_rfl
theorem Tryz.Jy:ao Tryz.prog 106 0=some (0,true,32):=by kernel_rfl
theorem Tryz.yy:placeOf Tryz.prog 106 0=some (0,32):=by kernel_rfl
theorem Tryz.Jz:ao Tryz.prog 106 1=some (32,true,32):=by kernel_rfl
theorem Tryz.yz:placeOf Tryz.prog 106 1=some (32,32):=by kernel_rfl
theorem Tryz.JA:ao Tryz.prog 106 2=some (64,true,16):=by kernel_rfl
theorem Tryz.yA:placeOf Tryz.prog 106 2=some (64,16):=by kernel_rfl
theorem Tryz.adx:bu Tryz.prog 107=some (true,80):=by kernel_rfl
theorem Tryz.SB:zeroOf Tryz.prog 107=some (List.replicate 80 (Value.int IntKind.u8 0)):=by kernel_rfl
theorem Tryz.JB:aU Tryz.prog 107=some (List.replicate 80 (Sum.inl (Value.int IntKind.u8 0))):=by kernel_rfl
theorem Tryz.JC:ao Tryz.prog 107 0=some (0,true,32):=by kernel_rfl
theorem Tryz.yB:placeOf Tryz.prog 107 0=some (0,32):=by kernel_rfl
theorem Tryz.JD:ao Tryz.prog 107 1=some (32,true,32):=by kernel_rfl
theorem Tryz.yC:placeOf Tryz.prog 107 1=some (32,32):=by kernel_rfl
theorem Tryz.JE:ao Tryz.prog 107 2=some (64,true,16):=by kernel_rfl
theorem Tryz.yD:placeOf Tryz.prog 107 2=some (64,16):=by kernel_rfl
theorem Tryz.ady:bu Tryz.prog 112=some (false,1):=by kernel_rfl
theorem Tryz.SC:kindOf Tryz.prog 112=some IntKind.u64:=by kernel_rfl
theorem Tryz.SD:zeroOf Tryz.prog 112=some ([Value.int IntKind.u64 0]):=by kernel_rfl
theorem Tryz.adz:bu Tryz.prog 120=some (true,1):=by kernel_rfl
theorem Tryz.SE:zeroOf Tryz.prog 120=some ([Value.pointer none]):=by kernel_rfl
theorem Tryz.JF:aU Tryz.prog 120=some ([Sum.inl (Value.pointer none)]):=by kernel_rfl
theorem Tryz.JG:ao Tryz.prog 120 0=some (0,false,1):=by kernel_rfl
theorem Tryz.yE:placeOf Tryz.prog 120 0=some (0,1):=by kernel_rfl
theorem Tryz.adA:bu Tryz.prog 121=some (true,1):=by kernel_rfl
theorem Tryz.SF:zeroOf Tryz.prog 121=some ([Value.pointer none]):=by kernel_rfl
theorem Tryz.JH:aU Tryz.prog 121=some ([Sum.inl (Value.pointer none)]):=by kernel_rfl
theorem Tryz.JI:ao Tryz.prog 121 0=some (0,false,1):=by kernel_rfl
theorem Tryz.yF:placeOf Tryz.prog 121 0=some (0,1):=by kernel_rfl
theorem Tryz.adB:bu Tryz.prog 122=some (false,1):=by kernel_rfl
theorem Tryz.SG:zeroOf Tryz.prog 122=some ([Value.pointer none]):=by kernel_rfl
theorem Tryz.adC:bu Tryz.prog 129=some (false,1):=by kernel_rfl
theorem Tryz.adD:cA.elemOf Tryz.prog 129=some 1:=by kernel_rfl
theorem Tryz.Yv:ln Tryz.prog 129=some (none,1):=by kernel_rfl
theorem Tryz.Yw:ru Tryz.prog 129=some ([Value.nilIface],1,16):=by kernel_rfl
theorem Tryz.SH:zeroOf Tryz.prog 129=some ([Value.slice none 0 0]):=by kernel_rfl
theorem Tryz.adE:bu Tryz.prog 132=some (true,5):=by kernel_rfl
theorem Tryz.NW:eZ Tryz.prog 132=some (5,1):=by kernel_rfl
theorem Tryz.adG:gw Tryz.prog 132=some (5,false,1):=by kernel_rfl
theorem Tryz.Yx:ln Tryz.prog 132=some (some 5,1):=by kernel_rfl
theorem Tryz.SI:zeroOf Tryz.prog 132=some ([Value.int IntKind.u64 0,Value.int IntKind.u64 0,Value.int IntKind.u64 0,Value.int IntKind.u64 0,Value.int IntKind.u64 0]):=by kernel_rfl
theorem Tryz.JJ:aU Tryz.prog 132=some ([Sum.inl (Value.int IntKind.u64 0),Sum.inl (Value.int IntKind.u64 0),Sum.inl (Value.int IntKind.u64 0),Sum.inl (Value.int IntKind.u64 0),Sum.inl (Value.int IntKind.u64 0)]):=by kernel_rfl
theorem Tryz.JK (i:Nat):placeOf Tryz.prog 132 i=some (i*1,1):=by unfold placeOf;rw[Tryz.NW]
theorem Tryz.adH:bu Tryz.prog 133=some (true,5):=by kernel_rfl
theorem Tryz.NY:eZ Tryz.prog 133=some (5,1):=by kernel_rfl
theorem Tryz.adI:gw Tryz.prog 133=some (5,false,1):=by kernel_rfl
theorem Tryz.Yy:ln Tryz.prog 133=some (some 5,1):=by kernel_rfl
theorem Tryz.SJ:zeroOf Tryz.prog 133=some ([Value.int IntKind.u64 0,Value.int IntKind.u64 0,Value.int IntKind.u64 0,Value.int IntKind.u64 0,Value.int IntKind.u64 0]):=by kernel_rfl
theorem Tryz.JL:aU Tryz.prog 133=some ([Sum.inl (Value.int IntKind.u64 0),Sum.inl (Value.int IntKind.u64 0),Sum.inl (Value.int IntKind.u64 0),Sum.inl (Value.int IntKind.u64 0),Sum.inl (Value.int IntKind.u64 0)]):=by kernel_rfl
theorem Tryz.JM (i:Nat):placeOf Tryz.prog 133 i=some (i*1,1):=by unfold placeOf;rw[Tryz.NY]
theorem Tryz.adJ:bu Tryz.prog 137=some (true,256):=by kernel_rfl
theorem Tryz.NZ:eZ Tryz.prog 137=some (256,1):=by kernel_rfl
theorem Tryz.adK:gw Tryz.prog 137=some (256,false,1):=by kernel_rfl
theorem Tryz.Yz:ln Tryz.prog 137=some (some 256,1):=by kernel_rfl
theorem Tryz.SK:zeroOf Tryz.prog 137=some (List.replicate 256 (Value.int IntKind.u8 0)):=by kernel_rfl
theorem Tryz.JN:aU Tryz.prog 137=some (List.replicate 256 (Sum.inl (Value.int IntKind.u8 0))):=by kernel_rfl
theorem Tryz.JO (i:Nat):placeOf Tryz.prog 137 i=some (i*1,1):=by unfold placeOf;rw[Tryz.NZ]
theorem Tryz.adL:bu Tryz.prog 138=some (true,240):=by kernel_rfl
theorem Tryz.N0:eZ Tryz.prog 138=some (15,16):=by kernel_rfl
theorem Tryz.adM:gw Tryz.prog 138=some (15,true,16):=by kernel_rfl
theorem Tryz.YA:ln Tryz.prog 138=some (some 15,16):=by kernel_rfl
theorem Tryz.SL:zeroOf Tryz.prog 138=some (List.replicate 240 (Value.int IntKind.u8 0)):=by kernel_rfl
theorem Tryz.JP:aU Tryz.prog 138=some (List.replicate 240 (Sum.inl (Value.int IntKind.u8 0))):=by kernel_rfl
theorem Tryz.JQ (i:Nat):placeOf Tryz.prog 138 i=some (i*16,16):=by unfold placeOf;rw[Tryz.N0]
theorem Tryz.adN:bu Tryz.prog 139=some (true,496):=by kernel_rfl
theorem Tryz.SM:zeroOf Tryz.prog 139=some (List.replicate 496 (Value.int IntKind.u8 0)):=by kernel_rfl
theorem Tryz.JR:aU Tryz.prog 139=some (List.replicate 496 (Sum.inl (Value.int IntKind.u8 0))):=by kernel_rfl
theorem Tryz.JS:ao Tryz.prog 139 0=some (0,true,256):=by kernel_rfl
theorem Tryz.yG:placeOf Tryz.prog 139 0=some (0,256):=by kernel_rfl
theorem Tryz.JT:ao Tryz.prog 139 1=some (256,true,240):=by kernel_rfl
theorem Tryz.yH:placeOf Tryz.prog 139 1=some (256,240):=by kernel_rfl
theorem Tryz.adO:bu Tryz.prog 140=some (true,496):=by kernel_rfl
theorem Tryz.SN:zeroOf Tryz.prog 140=some (List.replicate 496 (Value.int IntKind.u8 0)):=by kernel_rfl
theorem Tryz.JU:aU Tryz.prog 140=some (List.replicate 496 (Sum.inl (Value.int IntKind.u8 0))):=by kernel_rfl
theorem Tryz.JV:ao Tryz.prog 140 0=some (0,true,256):=by kernel_rfl
theorem Tryz.yI:placeOf Tryz.prog 140 0=some (0,256):=by kernel_rfl
theorem Tryz.JW:ao Tryz.prog 140 1=some (256,true,240):=by kernel_rfl
theorem Tryz.yJ:placeOf Tryz.prog 140 1=some (256,240):=by kernel_rfl
theorem Tryz.adP:bu Tryz.prog 147=some (true,240):=by kernel_rfl
theorem Tryz.N1:eZ Tryz.prog 147=some (240,1):=by kernel_rfl
theorem Tryz.adQ:gw Tryz.prog 147=some (240,false,1):=by kernel_rfl
theorem Tryz.YB:ln Tryz.prog 147=some (some 240,1):=by kernel_rfl
theorem Tryz.SO:zeroOf Tryz.prog 147=some (List.replicate 240 (Value.int IntKind.u8 0)):=by kernel_rfl
theorem Tryz.JX:aU Tryz.prog 147=some (List.replicate 240 (Sum.inl (Value.int IntKind.u8 0))):=by kernel_rfl
theorem Tryz.JY (i:Nat):placeOf Tryz.prog 147 i=some (i*1,1):=by unfold placeOf;rw[Tryz.N1]
theorem Tryz.adR:bu Tryz.prog 154=some (true,4):=by kernel_rfl
theorem Tryz.N2:eZ Tryz.prog 154=some (4,1):=by kernel_rfl
theorem Tryz.adS:gw Tryz.prog 154=some (4,false,1):=by kernel_rfl
theorem Tryz.YC:ln Tryz.prog 154=some (some 4,1):=by kernel_rfl
theorem Tryz.SP:zeroOf Tryz.prog 154=some ([Value.int IntKind.u64 0,Value.int IntKind.u64 0,Value.int IntKind.u64 0,Value.int IntKind.u64 0]):=by kernel_rfl
theorem Tryz.JZ:aU Tryz.prog 154=some ([Sum.inl (Value.int IntKind.u64 0),Sum.inl (Value.int IntKind.u64 0),Sum.inl (Value.int IntKind.u64 0),Sum.inl (Value.int IntKind.u64 0)]):=by kernel_rfl
theorem Tryz.J0 (i:Nat):placeOf Tryz.prog 154 i=some (i*1,1):=by unfold placeOf;rw[Tryz.N2]
theorem Tryz.adT:bu Tryz.prog 155=some (true,20):=by kernel_rfl
theorem Tryz.SQ:zeroOf Tryz.prog 155=some (List.replicate 20 (Value.int IntKind.u64 0)):=by kernel_rfl
theorem Tryz.J1:aU Tryz.prog 155=some (List.replicate 20 (Sum.inl (Value.int IntKind.u64 0))):=by kernel_rfl
theorem Tryz.J2:ao Tryz.prog 155 0=some (0,true,5):=by kernel_rfl
theorem Tryz.yK:placeOf Tryz.prog 155 0=some (0,5):=by kernel_rfl
theorem Tryz.J3:ao Tryz.prog 155 1=some (5,true,5):=by kernel_rfl
theorem Tryz.yL:placeOf Tryz.prog 155 1=some (5,5):=by kernel_rfl
theorem Tryz.J4:ao Tryz.prog 155 2=some (10,true,5):=by kernel_rfl
theorem Tryz.yM:placeOf Tryz.prog 155 2=some (10,5):=by kernel_rfl
theorem Tryz.J5:ao Tryz.prog 155 3=some (15,true,5):=by kernel_rfl
theorem Tryz.yN:placeOf Tryz.prog 155 3=some (15,5):=by kernel_rfl
theorem Tryz.adU:bu Tryz.prog 156=some (true,20):=by kernel_rfl
theorem Tryz.SR:zeroOf Tryz.prog 156=some (List.replicate 20 (Value.int IntKind.u64 0)):=by kernel_rfl
theorem Tryz.J6:aU Tryz.prog 156=some (List.replicate 20 (Sum.inl (Value.int IntKind.u64 0))):=by kernel_rfl
theorem Tryz.J7:ao Tryz.prog 156 0=some (0,true,5):=by kernel_rfl
theorem Tryz.yO:placeOf Tryz.prog 156 0=some (0,5):=by kernel_rfl
theorem Tryz.J8:ao Tryz.prog 156 1=some (5,true,5):=by kernel_rfl
theorem Tryz.yP:placeOf Tryz.prog 156 1=some (5,5):=by kernel_rfl
theorem Tryz.J9:ao Tryz.prog 156 2=some (10,true,5):=by kernel_rfl
theorem Tryz.yQ:placeOf Tryz.prog 156 2=some (10,5):=by kernel_rfl
theorem Tryz.J':ao Tryz.prog 156 3=some (15,true,5):=by kernel_rfl
theorem Tryz.yR:placeOf Tryz.prog 156 3=some (15,5):=by kernel_rfl
theorem Tryz.adV:bu Tryz.prog 160=some (false,1):=by kernel_rfl
theorem Tryz.adW:cA.elemOf Tryz.prog 160=some 1:=by kernel_rfl
theorem Tryz.YD:ln Tryz.prog 160=some (none,1):=by kernel_rfl
theorem Tryz.YE:ru Tryz.prog 160=some ([Value.slice none 0 0],1,24):=by kernel_rfl
theorem Tryz.SS:zeroOf Tryz.prog 160=some ([Value.slice none 0 0]):=by kernel_rfl
theorem Tryz.adX:bu Tryz.prog 163=some (false,1):=by kernel_rfl
theorem Tryz.SU:zeroOf Tryz.prog 163=some ([Value.pointer none]):=by kernel_rfl
theorem Tryz.adY:bu Tryz.prog 165=some (true,8):=by kernel_rfl
theorem Tryz.N3:eZ Tryz.prog 165=some (8,1):=by kernel_rfl
theorem Tryz.adZ:gw Tryz.prog 165=some (8,false,1):=by kernel_rfl
theorem Tryz.YF:ln Tryz.prog 165=some (some 8,1):=by kernel_rfl
theorem Tryz.SW:zeroOf Tryz.prog 165=some ([Value.int IntKind.u32 0,Value.int IntKind.u32 0,Value.int IntKind.u32 0,Value.int IntKind.u32 0,Value.int IntKind.u32 0,Value.int IntKind.u32 0,Value.int IntKind.u32 0,Value.int IntKind.u32 0]):=by kernel_rfl
theorem Tryz.Ka:aU Tryz.prog 165=some ([Sum.inl (Value.int IntKind.u32 0),Sum.inl (Value.int IntKind.u32 0),Sum.inl (Value.int IntKind.u32 0),Sum.inl (Value.int IntKind.u32 0),Sum.inl (Value.int IntKind.u32 0),Sum.inl (Value.int IntKind.u32 0),Sum.inl (Value.int IntKind.u32 0),Sum.inl (Value.int IntKind.u32 0)]):=by kernel_rfl
theorem Tryz.Kb (i:Nat):placeOf Tryz.prog 165 i=some (i*1,1):=by unfold placeOf;rw[Tryz.N3]
theorem Tryz.ad0:bu Tryz.prog 168=some (false,1):=by kernel_rfl
theorem Tryz.ad1:cA.elemOf Tryz.prog 168=some 1:=by kernel_rfl
theorem Tryz.YG:ln Tryz.prog 168=some (none,1):=by kernel_rfl
theorem Tryz.YH:ru Tryz.prog 168=some ([Value.int IntKind.i64 0],1,8):=by kernel_rfl
theorem Tryz.SX:zeroOf Tryz.prog 168=some ([Value.slice none 0 0]):=by kernel_rfl
theorem Tryz.ad2:bu Tryz.prog 170=some (true,2):=by kernel_rfl
theorem Tryz.SY:zeroOf Tryz.prog 170=some ([Value.int IntKind.u64 0,Value.int IntKind.u64 0]):=by kernel_rfl
theorem Tryz.Kc:aU Tryz.prog 170=some ([Sum.inl (Value.int IntKind.u64 0),Sum.inl (Value.int IntKind.u64 0)]):=by kernel_rfl
theorem Tryz.Kd:ao Tryz.prog 170 0=some (0,false,1):=by kernel_rfl
theorem Tryz.yS:placeOf Tryz.prog 170 0=some (0,1):=by kernel_rfl
theorem Tryz.Ke:ao Tryz.prog 170 1=some (1,false,1):=by kernel_rfl
theorem Tryz.yT:placeOf Tryz.prog 170 1=some (1,1):=by kernel_rfl
theorem Tryz.ad3:bu Tryz.prog 171=some (true,2):=by kernel_rfl
theorem Tryz.SZ:zeroOf Tryz.prog 171=some ([Value.int IntKind.u64 0,Value.int IntKind.u64 0]):=by kernel_rfl
theorem Tryz.Kf:aU Tryz.prog 171=some ([Sum.inl (Value.int IntKind.u64 0),Sum.inl (Value.int IntKind.u64 0)]):=by kernel_rfl
theorem Tryz.Kg:ao Tryz.prog 171 0=some (0,false,1):=by kernel_rfl
theorem Tryz.yU:placeOf Tryz.prog 171 0=some (0,1):=by kernel_rfl
theorem Tryz.Kh:ao Tryz.prog 171 1=some (1,false,1):=by kernel_rfl
theorem Tryz.yV:placeOf Tryz.prog 171 1=some (1,1):=by kernel_rfl
theorem Tryz.ad4:bu Tryz.prog 177=some (true,255):=by kernel_rfl
theorem Tryz.N5:eZ Tryz.prog 177=some (255,1):=by kernel_rfl
theorem Tryz.ad5:gw Tryz.prog 177=some (255,false,1):=by kernel_rfl
theorem Tryz.YI:ln Tryz.prog 177=some (some 255,1):=by kernel_rfl
theorem Tryz.S0:zeroOf Tryz.prog 177=some (List.replicate 255 (Value.int IntKind.u8 0)):=by kernel_rfl
theorem Tryz.Ki:aU Tryz.prog 177=some (List.replicate 255 (Sum.inl (Value.int IntKind.u8 0))):=by kernel_rfl
theorem Tryz.Kj (i:Nat):placeOf Tryz.prog 177 i=some (i*1,1):=by unfold placeOf;rw[Tryz.N5]
theorem Tryz.ad6:bu Tryz.prog 179=some (true,4):=by kernel_rfl
theorem Tryz.N6:eZ Tryz.prog 179=some (4,1):=by kernel_rfl
theorem Tryz.ad7:gw Tryz.prog 179=some (4,false,1):=by kernel_rfl
theorem Tryz.YJ:ln Tryz.prog 179=some (some 4,1):=by kernel_rfl
theorem Tryz.S1:zeroOf Tryz.prog 179=some ([Value.int IntKind.u8 0,Value.int IntKind.u8 0,Value.int IntKind.u8 0,Value.int IntKind.u8 0]):=by kernel_rfl
theorem Tryz.Kk:aU Tryz.prog 179=some ([Sum.inl (Value.int IntKind.u8 0),Sum.inl (Value.int IntKind.u8 0),Sum.inl (Value.int IntKind.u8 0),Sum.inl (Value.int IntKind.u8 0)]):=by kernel_rfl
theorem Tryz.Kl (i:Nat):placeOf Tryz.prog 179 i=some (i*1,1):=by unfold placeOf;rw[Tryz.N6]
theorem Tryz.ad8:bu Tryz.prog 180=some (true,240):=by kernel_rfl
theorem Tryz.N7:eZ Tryz.prog 180=some (60,4):=by kernel_rfl
theorem Tryz.ad9:gw Tryz.prog 180=some (60,true,4):=by kernel_rfl
theorem Tryz.YK:ln Tryz.prog 180=some (some 60,4):=by kernel_rfl
theorem Tryz.S2:zeroOf Tryz.prog 180=some (List.replicate 240 (Value.int IntKind.u8 0)):=by kernel_rfl
theorem Tryz.Km:aU Tryz.prog 180=some (List.replicate 240 (Sum.inl (Value.int IntKind.u8 0))):=by kernel_rfl
theorem Tryz.Kn (i:Nat):placeOf Tryz.prog 180 i=some (i*4,4):=by unfold placeOf;rw[Tryz.N7]
theorem Tryz.ad':bu Tryz.prog 182=some (true,64):=by kernel_rfl
theorem Tryz.N8:eZ Tryz.prog 182=some (64,1):=by kernel_rfl
theorem Tryz.aea:gw Tryz.prog 182=some (64,false,1):=by kernel_rfl
theorem Tryz.YL:ln Tryz.prog 182=some (some 64,1):=by kernel_rfl
theorem Tryz.S3:zeroOf Tryz.prog 182=some (List.replicate 64 (Value.int IntKind.u32 0)):=by kernel_rfl
theorem Tryz.Ko:aU Tryz.prog 182=some (List.replicate 64 (Sum.inl (Value.int IntKind.u32 0))):=by kernel_rfl
theorem Tryz.Kp (i:Nat):placeOf Tryz.prog 182 i=some (i*1,1):=by unfold placeOf;rw[Tryz.N8]
theorem Tryz.aeb:bu Tryz.prog 192=some (false,1):=by kernel_rfl
theorem Tryz.S4:zeroOf Tryz.prog 192=some ([Value.pointer none]):=by kernel_rfl
theorem Tryz.aec:bu Tryz.prog 194=some (true,4):=by kernel_rfl
theorem Tryz.S5:zeroOf Tryz.prog 194=some ([Value.pointer none,Value.pointer none,Value.pointer none,Value.string ByteArray.empty]):=by kernel_rfl
theorem Tryz.Kq:aU Tryz.prog 194=some ([Sum.inl (Value.pointer none),Sum.inl (Value.pointer none),Sum.inl (Value.pointer none),Sum.inl (Value.string ByteArray.empty)]):=by kernel_rfl
theorem Tryz.Kr:ao Tryz.prog 194 0=some (0,false,1):=by kernel_rfl
theorem Tryz.yW:placeOf Tryz.prog 194 0=some (0,1):=by kernel_rfl
theorem Tryz.Ks:ao Tryz.prog 194 1=some (1,false,1):=by kernel_rfl
theorem Tryz.yX:placeOf Tryz.prog 194 1=some (1,1):=by kernel_rfl
theorem Tryz.Kt:ao Tryz.prog 194 2=some (2,false,1):=by kernel_rfl
theorem Tryz.yY:placeOf Tryz.prog 194 2=some (2,1):=by kernel_rfl
theorem Tryz.Ku:ao Tryz.prog 194 3=some (3,false,1):=by kernel_rfl
theorem Tryz.yZ:placeOf Tryz.prog 194 3=some (3,1):=by kernel_rfl
theorem Tryz.aed:bu Tryz.prog 195=some (true,4):=by kernel_rfl
theorem Tryz.S6:zeroOf Tryz.prog 195=some ([Value.pointer none,Value.pointer none,Value.pointer none,Value.string ByteArray.empty]):=by kernel_rfl
theorem Tryz.Kv:aU Tryz.prog 195=some ([Sum.inl (Value.pointer none),Sum.inl (Value.pointer none),Sum.inl (Value.pointer none),Sum.inl (Value.string ByteArray.empty)]):=by kernel_rfl
theorem Tryz.Kw:ao Tryz.prog 195 0=some (0,false,1):=by kernel_rfl
theorem Tryz.y':placeOf Tryz.prog 195 0=some (0,1):=by kernel_rfl
theorem Tryz.Kx:ao Tryz.prog 195 1=some (1,false,1):=by kernel_rfl
theorem Tryz.za:placeOf Tryz.prog 195 1=some (1,1):=by kernel_rfl
theorem Tryz.Ky:ao Tryz.prog 195 2=some (2,false,1):=by kernel_rfl
theorem Tryz.zb:placeOf Tryz.prog 195 2=some (2,1):=by kernel_rfl
theorem Tryz.Kz:ao Tryz.prog 195 3=some (3,false,1):=by kernel_rfl
theorem Tryz.zc:placeOf Tryz.prog 195 3=some (3,1):=by kernel_rfl
theorem Tryz.aee:bu Tryz.prog 200=some (false,1):=by kernel_rfl
theorem Tryz.S7:kindOf Tryz.prog 200=some IntKind.u8:=by kernel_rfl
theorem Tryz.S8:zeroOf Tryz.prog 200=some ([Value.int IntKind.u8 0]):=by kernel_rfl
theorem Tryz.aef:bu Tryz.prog 201=some (false,1):=by kernel_rfl
theorem Tryz.S9:kindOf Tryz.prog 201=some IntKind.u8:=by kernel_rfl
theorem Tryz.S':zeroOf Tryz.prog 201=some ([Value.int IntKind.u8 0]):=by kernel_rfl
theorem Tryz.aeg:bu Tryz.prog 203=some (false,1):=by kernel_rfl
theorem Tryz.Ta:zeroOf Tryz.prog 203=some ([Value.pointer none]):=by kernel_rfl
theorem Tryz.aeh:bu Tryz.prog 204=some (false,1):=by kernel_rfl
theorem Tryz.Tb:kindOf Tryz.prog 204=some IntKind.i32:=by kernel_rfl
theorem Tryz.Tc:zeroOf Tryz.prog 204=some ([Value.int IntKind.i32 0]):=by kernel_rfl
theorem Tryz.aei:bu Tryz.prog 205=some (false,1):=by kernel_rfl
theorem Tryz.Td:kindOf Tryz.prog 205=some IntKind.i32:=by kernel_rfl
theorem Tryz.Te:zeroOf Tryz.prog 205=some ([Value.int IntKind.i32 0]):=by kernel_rfl
theorem Tryz.aej:bu Tryz.prog 206=some (true,11):=by kernel_rfl
theorem Tryz.Tf:zeroOf Tryz.prog 206=some ([Value.int IntKind.u64 0,Value.int IntKind.u64 0,Value.int IntKind.u32 0,Value.int IntKind.u8 0,Value.int IntKind.u8 0,Value.int IntKind.u8 0,Value.int IntKind.u8 0,Value.nilFunc,Value.pointer none,Value.int IntKind.i32 0,Value.int IntKind.i32 0]):=by kernel_rfl
theorem Tryz.KA:aU Tryz.prog 206=some ([Sum.inl (Value.int IntKind.u64 0),Sum.inl (Value.int IntKind.u64 0),Sum.inl (Value.int IntKind.u32 0),Sum.inl (Value.int IntKind.u8 0),Sum.inl (Value.int IntKind.u8 0),Sum.inl (Value.int IntKind.u8 0),Sum.inl (Value.int IntKind.u8 0),Sum.inl (Value.nilFunc),Sum.inl (Value.pointer none),Sum.inl (Value.int IntKind.i32 0),Sum.inl (Value.int IntKind.i32 0)]):=by kernel_rfl
theorem Tryz.KB:ao Tryz.prog 206 0=some (0,false,1):=by kernel_rfl
theorem Tryz.zd:placeOf Tryz.prog 206 0=some (0,1):=by kernel_rfl
theorem Tryz.KC:ao Tryz.prog 206 1=some (1,false,1):=by kernel_rfl
theorem Tryz.ze:placeOf Tryz.prog 206 1=some (1,1):=by kernel_rfl
theorem Tryz.KD:ao Tryz.prog 206 2=some (2,false,1):=by kernel_rfl
theorem Tryz.zf:placeOf Tryz.prog 206 2=some (2,1):=by kernel_rfl
theorem Tryz.KE:ao Tryz.prog 206 3=some (3,false,1):=by kernel_rfl
theorem Tryz.zg:placeOf Tryz.prog 206 3=some (3,1):=by kernel_rfl
theorem Tryz.KF:ao Tryz.prog 206 4=some (4,false,1):=by kernel_rfl
theorem Tryz.zh:placeOf Tryz.prog 206 4=some (4,1):=by kernel_rfl
theorem Tryz.KG:ao Tryz.prog 206 5=some (5,false,1):=by kernel_rfl
theorem Tryz.zj:placeOf Tryz.prog 206 5=some (5,1):=by kernel_rfl
theorem Tryz.KH:ao Tryz.prog 206 6=some (6,false,1):=by kernel_rfl
theorem Tryz.zk:placeOf Tryz.prog 206 6=some (6,1):=by kernel_rfl
theorem Tryz.KI:ao Tryz.prog 206 7=some (7,false,1):=by kernel_rfl
theorem Tryz.zm:placeOf Tryz.prog 206 7=some (7,1):=by kernel_rfl
theorem Tryz.KJ:ao Tryz.prog 206 8=some (8,false,1):=by kernel_rfl
theorem Tryz.zn:placeOf Tryz.prog 206 8=some (8,1):=by kernel_rfl
theorem Tryz.KK:ao Tryz.prog 206 9=some (9,false,1):=by kernel_rfl
theorem Tryz.zo:placeOf Tryz.prog 206 9=some (9,1):=by kernel_rfl
theorem Tryz.Fg:ao Tryz.prog 206 10=some (10,false,1):=by kernel_rfl
theorem Tryz.uA:placeOf Tryz.prog 206 10=some (10,1):=by kernel_rfl
theorem Tryz.aek:bu Tryz.prog 207=some (true,11):=by kernel_rfl
theorem Tryz.Tg:zeroOf Tryz.prog 207=some ([Value.int IntKind.u64 0,Value.int IntKind.u64 0,Value.int IntKind.u32 0,Value.int IntKind.u8 0,Value.int IntKind.u8 0,Value.int IntKind.u8 0,Value.int IntKind.u8 0,Value.nilFunc,Value.pointer none,Value.int IntKind.i32 0,Value.int IntKind.i32 0]):=by kernel_rfl
theorem Tryz.KL:aU Tryz.prog 207=some ([Sum.inl (Value.int IntKind.u64 0),Sum.inl (Value.int IntKind.u64 0),Sum.inl (Value.int IntKind.u32 0),Sum.inl (Value.int IntKind.u8 0),Sum.inl (Value.int IntKind.u8 0),Sum.inl (Value.int IntKind.u8 0),Sum.inl (Value.int IntKind.u8 0),Sum.inl (Value.nilFunc),Sum.inl (Value.pointer none),Sum.inl (Value.int IntKind.i32 0),Sum.inl (Value.int IntKind.i32 0)]):=by kernel_rfl
theorem Tryz.KM:ao Tryz.prog 207 0=some (0,false,1):=by kernel_rfl
theorem Tryz.zp:placeOf Tryz.prog 207 0=some (0,1):=by kernel_rfl
theorem Tryz.KN:ao Tryz.prog 207 1=some (1,false,1):=by kernel_rfl
theorem Tryz.zq:placeOf Tryz.prog 207 1=some (1,1):=by kernel_rfl
theorem Tryz.KO:ao Tryz.prog 207 2=some (2,false,1):=by kernel_rfl
theorem Tryz.zr:placeOf Tryz.prog 207 2=some (2,1):=by kernel_rfl
theorem Tryz.KP:ao Tryz.prog 207 3=some (3,false,1):=by kernel_rfl
theorem Tryz.zt:placeOf Tryz.prog 207 3=some (3,1):=by kernel_rfl
theorem Tryz.KQ:ao Tryz.prog 207 4=some (4,false,1):=by kernel_rfl
theorem Tryz.zu:placeOf Tryz.prog 207 4=some (4,1):=by kernel_rfl
theorem Tryz.KR:ao Tryz.prog 207 5=some (5,false,1):=by kernel_rfl
theorem Tryz.zv:placeOf Tryz.prog 207 5=some (5,1):=by kernel_rfl
theorem Tryz.KS:ao Tryz.prog 207 6=some (6,false,1):=by kernel_rfl
theorem Tryz.zw:placeOf Tryz.prog 207 6=some (6,1):=by kernel_rfl
theorem Tryz.KT:ao Tryz.prog 207 7=some (7,false,1):=by kernel_rfl
theorem Tryz.zx:placeOf Tryz.prog 207 7=some (7,1):=by kernel_rfl
theorem Tryz.KU:ao Tryz.prog 207 8=some (8,false,1):=by kernel_rfl
theorem Tryz.zy:placeOf Tryz.prog 207 8=some (8,1):=by kernel_rfl
theorem Tryz.KV:ao Tryz.prog 207 9=some (9,false,1):=by kernel_rfl
theorem Tryz.zA:placeOf Tryz.prog 207 9=some (9,1):=by kernel_rfl
theorem Tryz.Fh:ao Tryz.prog 207 10=some (10,false,1):=by kernel_rfl
theorem Tryz.uB:placeOf Tryz.prog 207 10=some (10,1):=by kernel_rfl
theorem Tryz.ael:bu Tryz.prog 215=some (true,2):=by kernel_rfl
theorem Tryz.Ti:zeroOf Tryz.prog 215=some ([Value.string ByteArray.empty,Value.int IntKind.u8 0]):=by kernel_rfl
theorem Tryz.KW:aU Tryz.prog 215=some ([Sum.inl (Value.string ByteArray.empty),Sum.inl (Value.int IntKind.u8 0)]):=by kernel_rfl
theorem Tryz.KX:ao Tryz.prog 215 0=some (0,false,1):=by kernel_rfl
theorem Tryz.zB:placeOf Tryz.prog 215 0=some (0,1):=by kernel_rfl
theorem Tryz.KY:ao Tryz.prog 215 1=some (1,false,1):=by kernel_rfl
theorem Tryz.zC:placeOf Tryz.prog 215 1=some (1,1):=by kernel_rfl
theorem Tryz.aem:bu Tryz.prog 216=some (true,2):=by kernel_rfl
theorem Tryz.Tj:zeroOf Tryz.prog 216=some ([Value.string ByteArray.empty,Value.int IntKind.u8 0]):=by kernel_rfl
theorem Tryz.KZ:aU Tryz.prog 216=some ([Sum.inl (Value.string ByteArray.empty),Sum.inl (Value.int IntKind.u8 0)]):=by kernel_rfl
theorem Tryz.K0:ao Tryz.prog 216 0=some (0,false,1):=by kernel_rfl
theorem Tryz.zD:placeOf Tryz.prog 216 0=some (0,1):=by kernel_rfl
theorem Tryz.K1:ao Tryz.prog 216 1=some (1,false,1):=by kernel_rfl
theorem Tryz.zE:placeOf Tryz.prog 216 1=some (1,1):=by kernel_rfl
theorem Tryz.aen:bu Tryz.prog 217=some (true,1):=by kernel_rfl
theorem Tryz.Tk:zeroOf Tryz.prog 217=some ([Value.string ByteArray.empty]):=by kernel_rfl
theorem Tryz.K2:aU Tryz.prog 217=some ([Sum.inl (Value.string ByteArray.empty)]):=by kernel_rfl
theorem Tryz.K9:ao Tryz.prog 217 0=some (0,false,1):=by kernel_rfl
theorem Tryz.zF:placeOf Tryz.prog 217 0=some (0,1):=by kernel_rfl
theorem Tryz.aeo:bu Tryz.prog 218=some (true,1):=by kernel_rfl
theorem Tryz.Tl:zeroOf Tryz.prog 218=some ([Value.string ByteArray.empty]):=by kernel_rfl
theorem Tryz.La:aU Tryz.prog 218=some ([Sum.inl (Value.string ByteArray.empty)]):=by kernel_rfl
theorem Tryz.Lb:ao Tryz.prog 218 0=some (0,false,1):=by kernel_rfl
theorem Tryz.zG:placeOf Tryz.prog 218 0=some (0,1):=by kernel_rfl
theorem Tryz.aep:bu Tryz.prog 220=some (false,1):=by kernel_rfl
theorem Tryz.Tm:zeroOf Tryz.prog 220=some ([Value.pointer none]):=by kernel_rfl
theorem Tryz.aeq:bu Tryz.prog 222=some (false,1):=by kernel_rfl
theorem Tryz.Tn:kindOf Tryz.prog 222=some IntKind.u16:=by kernel_rfl
theorem Tryz.Tp:zeroOf Tryz.prog 222=some ([Value.int IntKind.u16 0]):=by kernel_rfl
theorem Tryz.aer:bu Tryz.prog 223=some (true,5):=by kernel_rfl
theorem Tryz.Tq:zeroOf Tryz.prog 223=some ([Value.int IntKind.i32 0,Value.int IntKind.u16 0,Value.int IntKind.u16 0,Value.int IntKind.u32 0,Value.int IntKind.u32 0]):=by kernel_rfl
theorem Tryz.Lc:aU Tryz.prog 223=some ([Sum.inl (Value.int IntKind.i32 0),Sum.inl (Value.int IntKind.u16 0),Sum.inl (Value.int IntKind.u16 0),Sum.inl (Value.int IntKind.u32 0),Sum.inl (Value.int IntKind.u32 0)]):=by kernel_rfl
theorem Tryz.Ld:ao Tryz.prog 223 0=some (0,false,1):=by kernel_rfl
theorem Tryz.zH:placeOf Tryz.prog 223 0=some (0,1):=by kernel_rfl
theorem Tryz.Le:ao Tryz.prog 223 1=some (1,false,1):=by kernel_rfl
theorem Tryz.zI:placeOf Tryz.prog 223 1=some (1,1):=by kernel_rfl
theorem Tryz.Lf:ao Tryz.prog 223 2=some (2,false,1):=by kernel_rfl
theorem Tryz.zJ:placeOf Tryz.prog 223 2=some (2,1):=by kernel_rfl
theorem Tryz.Lg:ao Tryz.prog 223 3=some (3,false,1):=by kernel_rfl
theorem Tryz.zK:placeOf Tryz.prog 223 3=some (3,1):=by kernel_rfl
theorem Tryz.Lh:ao Tryz.prog 223 4=some (4,false,1):=by kernel_rfl
theorem Tryz.zL:placeOf Tryz.prog 223 4=some (4,1):=by kernel_rfl
theorem Tryz.aes:bu Tryz.prog 224=some (true,5):=by kernel_rfl
theorem Tryz.Tr:zeroOf Tryz.prog 224=some ([Value.int IntKind.i32 0,Value.int IntKind.u16 0,Value.int IntKind.u16 0,Value.int IntKind.u32 0,Value.int IntKind.u32 0]):=by kernel_rfl
theorem Tryz.Li:aU Tryz.prog 224=some ([Sum.inl (Value.int IntKind.i32 0),Sum.inl (Value.int IntKind.u16 0),Sum.inl (Value.int IntKind.u16 0),Sum.inl (Value.int IntKind.u32 0),Sum.inl (Value.int IntKind.u32 0)]):=by kernel_rfl
theorem Tryz.Lj:ao Tryz.prog 224 0=some (0,false,1):=by kernel_rfl
theorem Tryz.zM:placeOf Tryz.prog 224 0=some (0,1):=by kernel_rfl
theorem Tryz.Lk:ao Tryz.prog 224 1=some (1,false,1):=by kernel_rfl
theorem Tryz.zO:placeOf Tryz.prog 224 1=some (1,1):=by kernel_rfl
theorem Tryz.Ll:ao Tryz.prog 224 2=some (2,false,1):=by kernel_rfl
theorem Tryz.zP:placeOf Tryz.prog 224 2=some (2,1):=by kernel_rfl
theorem Tryz.Lm:ao Tryz.prog 224 3=some (3,false,1):=by kernel_rfl
theorem Tryz.zQ:placeOf Tryz.prog 224 3=some (3,1):=by kernel_rfl
theorem Tryz.Ln:ao Tryz.prog 224 4=some (4,false,1):=by kernel_rfl
theorem Tryz.zR:placeOf Tryz.prog 224 4=some (4,1):=by kernel_rfl
theorem Tryz.aet:bu Tryz.prog 225=some (false,1):=by kernel_rfl
theorem Tryz.aeu:cA.elemOf Tryz.prog 225=some 4:=by kernel_rfl
theorem Tryz.YM:ln Tryz.prog 225=some (none,4):=by kernel_rfl
theorem Tryz.YN:ru Tryz.prog 225=some ([Value.int IntKind.i32 0,Value.int IntKind.i32 0,Value.int IntKind.i32 0,Value.int IntKind.i32 0],4,16):=by kernel_rfl
theorem Tryz.Ts:zeroOf Tryz.prog 225=some ([Value.slice none 0 0]):=by kernel_rfl
theorem Tryz.aev:bu Tryz.prog 226=some (false,1):=by kernel_rfl
theorem Tryz.Tt:kindOf Tryz.prog 226=some IntKind.i32:=by kernel_rfl
theorem Tryz.Tv:zeroOf Tryz.prog 226=some ([Value.int IntKind.i32 0]):=by kernel_rfl
theorem Tryz.aew:bu Tryz.prog 227=some (true,4):=by kernel_rfl
theorem Tryz.Tw:zeroOf Tryz.prog 227=some ([Value.int IntKind.i32 0,Value.int IntKind.i32 0,Value.int IntKind.i32 0,Value.int IntKind.i32 0]):=by kernel_rfl
theorem Tryz.Lp:aU Tryz.prog 227=some ([Sum.inl (Value.int IntKind.i32 0),Sum.inl (Value.int IntKind.i32 0),Sum.inl (Value.int IntKind.i32 0),Sum.inl (Value.int IntKind.i32 0)]):=by kernel_rfl
theorem Tryz.Lq:ao Tryz.prog 227 0=some (0,false,1):=by kernel_rfl
theorem Tryz.zS:placeOf Tryz.prog 227 0=some (0,1):=by kernel_rfl
theorem Tryz.Lr:ao Tryz.prog 227 1=some (1,false,1):=by kernel_rfl
theorem Tryz.zT:placeOf Tryz.prog 227 1=some (1,1):=by kernel_rfl
theorem Tryz.Ls:ao Tryz.prog 227 2=some (2,false,1):=by kernel_rfl
theorem Tryz.zU:placeOf Tryz.prog 227 2=some (2,1):=by kernel_rfl
theorem Tryz.Lt:ao Tryz.prog 227 3=some (3,false,1):=by kernel_rfl
theorem Tryz.zV:placeOf Tryz.prog 227 3=some (3,1):=by kernel_rfl
theorem Tryz.aex:bu Tryz.prog 228=some (true,4):=by kernel_rfl
theorem Tryz.Tx:zeroOf Tryz.prog 228=some ([Value.int IntKind.i32 0,Value.int IntKind.i32 0,Value.int IntKind.i32 0,Value.int IntKind.i32 0]):=by kernel_rfl
theorem Tryz.Lu:aU Tryz.prog 228=some ([Sum.inl (Value.int IntKind.i32 0),Sum.inl (Value.int IntKind.i32 0),Sum.inl (Value.int IntKind.i32 0),Sum.inl (Value.int IntKind.i32 0)]):=by kernel_rfl
theorem Tryz.Lv:ao Tryz.prog 228 0=some (0,false,1):=by kernel_rfl
theorem Tryz.zW:placeOf Tryz.prog 228 0=some (0,1):=by kernel_rfl
theorem Tryz.Lw:ao Tryz.prog 228 1=some (1,false,1):=by kernel_rfl
theorem Tryz.zX:placeOf Tryz.prog 228 1=some (1,1):=by kernel_rfl
theorem Tryz.Lx:ao Tryz.prog 228 2=some (2,false,1):=by kernel_rfl
theorem Tryz.zY:placeOf Tryz.prog 228 2=some (2,1):=by kernel_rfl
theorem Tryz.Ly:ao Tryz.prog 228 3=some (3,false,1):=by kernel_rfl
theorem Tryz.zZ:placeOf Tryz.prog 228 3=some (3,1):=by kernel_rfl
theorem Tryz.tf:ai Tryz.prog 3=true:=by kernel_rfl
theorem Tryz.tg:ai Tryz.prog 4=true:=by kernel_rfl
theorem Tryz.oD:ai Tryz.prog 5=true:=by kernel_rfl
theorem Tryz.ti:ai Tryz.prog 6=true:=by kernel_rfl
theorem Tryz.tj:ai Tryz.prog 7=true:=by kernel_rfl
theorem Tryz.tm:ai Tryz.prog 8=true:=by kernel_rfl
theorem Tryz.tq:ai Tryz.prog 9=true:=by kernel_rfl
theorem Tryz.pS:ai Tryz.prog 10=true:=by kernel_rfl
theorem Tryz.pT:ai Tryz.prog 11=true:=by kernel_rfl
theorem Tryz.pU:ai Tryz.prog 12=true:=by kernel_rfl
theorem Tryz.l8:ai Tryz.prog 13=true:=by kernel_rfl
theorem Tryz.pV:ai Tryz.prog 14=true:=by kernel_rfl
theorem Tryz.l9:ai Tryz.prog 15=true:=by kernel_rfl
theorem Tryz.pW:ai Tryz.prog 16=true:=by kernel_rfl
theorem Tryz.pX:ai Tryz.prog 17=true:=by kernel_rfl
theorem Tryz.pY:ai Tryz.prog 18=true:=by kernel_rfl
theorem Tryz.jf:ai Tryz.prog 19=true:=by kernel_rfl
theorem Tryz.pZ:ai Tryz.prog 20=true:=by kernel_rfl
theorem Tryz.p':ai Tryz.prog 21=true:=by kernel_rfl
theorem Tryz.qa:ai Tryz.prog 22=true:=by kernel_rfl
theorem Tryz.z0:ai Tryz.prog 23=true:=by kernel_rfl
theorem Tryz.Aa:ai Tryz.prog 24=true:=by kernel_rfl
theorem Tryz.Ab:ai Tryz.prog 25=true:=by kernel_rfl
theorem Tryz.qb:ai Tryz.prog 26=true:=by kernel_rfl
theorem Tryz.qc:ai Tryz.prog 27=true:=by kernel_rfl
theorem Tryz.qd:ai Tryz.prog 28=true:=by kernel_rfl
theorem Tryz.qe:ai Tryz.prog 29=true:=by kernel_rfl
theorem Tryz.qf:ai Tryz.prog 30=true:=by kernel_rfl
theorem Tryz.qg:ai Tryz.prog 31=true:=by kernel_rfl
theorem Tryz.Ac:ai Tryz.prog 32=true:=by kernel_rfl
theorem Tryz.Ad:ai Tryz.prog 33=true:=by kernel_rfl
theorem Tryz.qh:ai Tryz.prog 34=true:=by kernel_rfl
theorem Tryz.qi:ai Tryz.prog 35=true:=by kernel_rfl
theorem Tryz.qj:ai Tryz.prog 36=true:=by kernel_rfl
theorem Tryz.qk:ai Tryz.prog 37=true:=by kernel_rfl
theorem Tryz.ql:ai Tryz.prog 38=true:=by kernel_rfl
theorem Tryz.qm:ai Tryz.prog 39=true:=by kernel_rfl
theorem Tryz.mb:ai Tryz.prog 40=true:=by kernel_rfl
theorem Tryz.jg:ai Tryz.prog 41=true:=by kernel_rfl
theorem Tryz.qn:ai Tryz.prog 42=true:=by kernel_rfl
theorem Tryz.qo:ai Tryz.prog 43=true:=by kernel_rfl
theorem Tryz.Ae:ai Tryz.prog 44=true:=by kernel_rfl
theorem Tryz.Af:ai Tryz.prog 45=true:=by kernel_rfl
theorem Tryz.Ah:ai Tryz.prog 46=true:=by kernel_rfl
theorem Tryz.Ai:ai Tryz.prog 47=true:=by kernel_rfl
theorem Tryz.gh:ai Tryz.prog 48=true:=by kernel_rfl
theorem Tryz.Aj:ai Tryz.prog 49=true:=by kernel_rfl
theorem Tryz.qp:ai Tryz.prog 50=true:=by kernel_rfl
theorem Tryz.qq:ai Tryz.prog 51=true:=by kernel_rfl
theorem Tryz.qt:ai Tryz.prog 52=true:=by kernel_rfl
theorem Tryz.mc:ai Tryz.prog 53=true:=by kernel_rfl
theorem Tryz.qu:ai Tryz.prog 54=true:=by kernel_rfl
theorem Tryz.qv:ai Tryz.prog 55=true:=by kernel_rfl
theorem Tryz.qw:ai Tryz.prog 56=true:=by kernel_rfl
theorem Tryz.qx:ai Tryz.prog 57=true:=by kernel_rfl
theorem Tryz.qy:ai Tryz.prog 58=true:=by kernel_rfl
theorem Tryz.Ak:ai Tryz.prog 59=false:=by kernel_rfl
theorem Tryz.Al:ai Tryz.prog 60=true:=by kernel_rfl
theorem Tryz.Am:ai Tryz.prog 61=true:=by kernel_rfl
theorem Tryz.An:ai Tryz.prog 62=true:=by kernel_rfl
theorem Tryz.Ao:ai Tryz.prog 63=true:=by kernel_rfl
theorem Tryz.qz:ai Tryz.prog 64=true:=by kernel_rfl
theorem Tryz.Ap:ai Tryz.prog 65=true:=by kernel_rfl
theorem Tryz.qA:ai Tryz.prog 66=true:=by kernel_rfl
theorem Tryz.qB:ai Tryz.prog 67=true:=by kernel_rfl
theorem Tryz.Aq:ai Tryz.prog 68=true:=by kernel_rfl
theorem Tryz.qC:ai Tryz.prog 69=true:=by kernel_rfl
theorem Tryz.qD:ai Tryz.prog 70=true:=by kernel_rfl
theorem Tryz.ji:ai Tryz.prog 71=true:=by kernel_rfl
theorem Tryz.Ar:ai Tryz.prog 72=true:=by kernel_rfl
theorem Tryz.As:ai Tryz.prog 73=true:=by kernel_rfl
theorem Tryz.At:ai Tryz.prog 74=true:=by kernel_rfl
theorem Tryz.Au:ai Tryz.prog 75=true:=by kernel_rfl
theorem Tryz.me:ai Tryz.prog 76=true:=by kernel_rfl
theorem Tryz.mf:ai Tryz.prog 77=true:=by kernel_rfl
theorem Tryz.qE:ai Tryz.prog 78=true:=by kernel_rfl
theorem Tryz.qF:ai Tryz.prog 79=true:=by kernel_rfl
theorem Tryz.qG:ai Tryz.prog 80=true:=by kernel_rfl
theorem Tryz.qH:ai Tryz.prog 81=true:=by kernel_rfl
theorem Tryz.qI:ai Tryz.prog 82=true:=by kernel_rfl
theorem Tryz.qJ:ai Tryz.prog 83=true:=by kernel_rfl
theorem Tryz.qK:ai Tryz.prog 84=true:=by kernel_rfl
theorem Tryz.qL:ai Tryz.prog 85=true:=by kernel_rfl
theorem Tryz.qM:ai Tryz.prog 86=true:=by kernel_rfl
theorem Tryz.Av:ai Tryz.prog 87=true:=by kernel_rfl
theorem Tryz.qN:ai Tryz.prog 88=true:=by kernel_rfl
theorem Tryz.Aw:ai Tryz.prog 89=true:=by kernel_rfl
theorem Tryz.mg:ai Tryz.prog 90=true:=by kernel_rfl
theorem Tryz.qO:ai Tryz.prog 91=true:=by kernel_rfl
theorem Tryz.qP:ai Tryz.prog 92=true:=by kernel_rfl
theorem Tryz.qQ:ai Tryz.prog 93=true:=by kernel_rfl
theorem Tryz.qR:ai Tryz.prog 94=true:=by kernel_rfl
theorem Tryz.Ax:ai Tryz.prog 95=true:=by kernel_rfl
theorem Tryz.Ay:ai Tryz.prog 96=true:=by kernel_rfl
theorem Tryz.Az:ai Tryz.prog 97=true:=by kernel_rfl
theorem Tryz.mh:ai Tryz.prog 98=true:=by kernel_rfl
theorem Tryz.mm:ai Tryz.prog 99=true:=by kernel_rfl
theorem Tryz.nw:ai Tryz.prog 100=true:=by kernel_rfl
theorem Tryz.kP:ai Tryz.prog 101=true:=by kernel_rfl
theorem Tryz.uC:ai Tryz.prog 102=true:=by kernel_rfl
theorem Tryz.kQ:ai Tryz.prog 103=true:=by kernel_rfl
theorem Tryz.ny:ai Tryz.prog 104=true:=by kernel_rfl
theorem Tryz.fq:ai Tryz.prog 105=true:=by kernel_rfl
theorem Tryz.nz:ai Tryz.prog 106=true:=by kernel_rfl
theorem Tryz.nA:ai Tryz.prog 107=true:=by kernel_rfl
theorem Tryz.nB:ai Tryz.prog 108=true:=by kernel_rfl
theorem Tryz.nC:ai Tryz.prog 109=true:=by kernel_rfl
theorem Tryz.uD:ai Tryz.prog 110=true:=by kernel_rfl
theorem Tryz.nD:ai Tryz.prog 111=true:=by kernel_rfl
theorem Tryz.jB:ai Tryz.prog 112=true:=by kernel_rfl
theorem Tryz.nF:ai Tryz.prog 113=true:=by kernel_rfl
theorem Tryz.nG:ai Tryz.prog 114=true:=by kernel_rfl
theorem Tryz.nH:ai Tryz.prog 115=true:=by kernel_rfl
theorem Tryz.uF:ai Tryz.prog 116=true:=by kernel_rfl
theorem Tryz.uG:ai Tryz.prog 117=true:=by kernel_rfl
theorem Tryz.ib:ai Tryz.prog 118=true:=by kernel_rfl
theorem Tryz.jC:ai Tryz.prog 119=true:=by kernel_rfl
theorem Tryz.ic:ai Tryz.prog 120=true:=by kernel_rfl
theorem Tryz.bB:ai Tryz.prog 121=true:=by kernel_rfl
theorem Tryz.nI:ai Tryz.prog 122=true:=by kernel_rfl
theorem Tryz.gi:ai Tryz.prog 123=true:=by kernel_rfl
theorem Tryz.nJ:ai Tryz.prog 124=true:=by kernel_rfl
theorem Tryz.nK:ai Tryz.prog 125=true:=by kernel_rfl
theorem Tryz.uH:ai Tryz.prog 126=true:=by kernel_rfl
theorem Tryz.nL:ai Tryz.prog 127=true:=by kernel_rfl
theorem Tryz.uI:ai Tryz.prog 128=true:=by kernel_rfl
theorem Tryz.uJ:ai Tryz.prog 129=true:=by kernel_rfl
theorem Tryz.nM:ai Tryz.prog 130=true:=by kernel_rfl
theorem Tryz.nN:ai Tryz.prog 131=true:=by kernel_rfl
theorem Tryz.ft:ai Tryz.prog 132=true:=by kernel_rfl
theorem Tryz.uK:ai Tryz.prog 133=true:=by kernel_rfl
theorem Tryz.uL:ai Tryz.prog 134=false:=by kernel_rfl
theorem Tryz.nO:ai Tryz.prog 135=true:=by kernel_rfl
theorem Tryz.nP:ai Tryz.prog 136=true:=by kernel_rfl
theorem Tryz.uM:ai Tryz.prog 137=true:=by kernel_rfl
theorem Tryz.ie:ai Tryz.prog 138=true:=by kernel_rfl
theorem Tryz.uN:ai Tryz.prog 139=true:=by kernel_rfl
theorem Tryz.uO:ai Tryz.prog 140=false:=by kernel_rfl
theorem Tryz.uP:ai Tryz.prog 141=false:=by kernel_rfl
theorem Tryz.uQ:ai Tryz.prog 142=false:=by kernel_rfl
theorem Tryz.uR:ai Tryz.prog 143=false:=by kernel_rfl
theorem Tryz.uS:ai Tryz.prog 144=false:=by kernel_rfl
theorem Tryz.uT:ai Tryz.prog 145=false:=by kernel_rfl
theorem Tryz.uU:ai Tryz.prog 146=false:=by kernel_rfl
theorem Tryz.uV:ai Tryz.prog 147=false:=by kernel_rfl
theorem Tryz.uW:ai Tryz.prog 148=false:=by kernel_rfl
theorem Tryz.uX:ai Tryz.prog 149=false:=by kernel_rfl
theorem Tryz.uY:ai Tryz.prog 150=false:=by kernel_rfl
theorem Tryz.uZ:ai Tryz.prog 151=false:=by kernel_rfl
theorem Tryz.ve:ai Tryz.prog 152=false:=by kernel_rfl
theorem Tryz.vf:ai Tryz.prog 153=false:=by kernel_rfl
theorem Tryz.vg:ai Tryz.prog 154=false:=by kernel_rfl
theorem Tryz.vh:ai Tryz.prog 155=false:=by kernel_rfl
theorem Tryz.vj:ai Tryz.prog 156=false:=by kernel_rfl
theorem Tryz.vl:ai Tryz.prog 157=false:=by kernel_rfl
theorem Tryz.vn:ai Tryz.prog 158=false:=by kernel_rfl
theorem Tryz.vt:ai Tryz.prog 159=false:=by kernel_rfl
theorem Tryz.vu:ai Tryz.prog 160=false:=by kernel_rfl
theorem Tryz.vv:ai Tryz.prog 161=false:=by kernel_rfl
theorem Tryz.vw:ai Tryz.prog 162=false:=by kernel_rfl
theorem Tryz.vx:ai Tryz.prog 163=false:=by kernel_rfl
theorem Tryz.vy:ai Tryz.prog 164=false:=by kernel_rfl
theorem Tryz.vz:ai Tryz.prog 165=false:=by kernel_rfl
theorem Tryz.vA:ai Tryz.prog 166=false:=by kernel_rfl
theorem Tryz.vB:ai Tryz.prog 167=false:=by kernel_rfl
theorem Tryz.vC:ai Tryz.prog 168=false:=by kernel_rfl
theorem Tryz.vD:ai Tryz.prog 169=false:=by kernel_rfl
theorem Tryz.vF:ai Tryz.prog 170=false:=by kernel_rfl
theorem Tryz.vG:ai Tryz.prog 171=true:=by kernel_rfl
theorem Tryz.vH:ai Tryz.prog 172=false:=by kernel_rfl
theorem Tryz.vI:ai Tryz.prog 173=false:=by kernel_rfl
theorem Tryz.vJ:ai Tryz.prog 174=false:=by kernel_rfl
theorem Tryz.vK:ai Tryz.prog 175=false:=by kernel_rfl
theorem Tryz.vL:ai Tryz.prog 176=false:=by kernel_rfl
theorem Tryz.vM:ai Tryz.prog 177=false:=by kernel_rfl
theorem Tryz.vN:ai Tryz.prog 178=false:=by kernel_rfl
theorem Tryz.vO:ai Tryz.prog 179=false:=by kernel_rfl
theorem Tryz.vP:ai Tryz.prog 180=false:=by kernel_rfl
theorem Tryz.vQ:ai Tryz.prog 181=false:=by kernel_rfl
theorem Tryz.vR:ai Tryz.prog 182=false:=by kernel_rfl
theorem Tryz.vS:ai Tryz.prog 183=false:=by kernel_rfl
theorem Tryz.vT:ai Tryz.prog 184=false:=by kernel_rfl
theorem Tryz.vU:ai Tryz.prog 185=false:=by kernel_rfl
theorem Tryz.vV:ai Tryz.prog 186=true:=by kernel_rfl
theorem Tryz.mixed:Tryz.prog.follows .mixedOrders=true:=by kernel_rfl
theorem Tryz.ajb:isBool Tryz.prog 4=true:=by kernel_rfl
theorem Tryz.aey:lq Tryz.prog [9]=2:=by kernel_rfl
theorem Tryz.YO:lq Tryz.prog [10]=2:=by kernel_rfl
theorem Tryz.YP:lq Tryz.prog [11]=2:=by kernel_rfl
theorem Tryz.aez:isIface Tryz.prog 20=true:=by kernel_rfl
theorem Tryz.YQ:bM Tryz.prog 22=some (32,IntKind.u8):=by kernel_rfl
theorem Tryz.YR:bM Tryz.prog 23=some (32,IntKind.u8):=by kernel_rfl
theorem Tryz.YS:lq Tryz.prog [25]=1:=by kernel_rfl
theorem Tryz.YT:lq Tryz.prog [28]=1:=by kernel_rfl
theorem Tryz.YU:bM Tryz.prog 46=none:=by kernel_rfl
theorem Tryz.aeA:jP Tryz.prog 46=some [(0,1,IntKind.u32),(1,1,IntKind.u32),(2,32,IntKind.u8),(34,32,IntKind.u8)]:=by kernel_rfl
theorem Tryz.YV:bM Tryz.prog 47=none:=by kernel_rfl
theorem Tryz.aeB:jP Tryz.prog 47=some [(0,1,IntKind.u32),(1,1,IntKind.u32),(2,32,IntKind.u8),(34,32,IntKind.u8)]:=by kernel_rfl
theorem Tryz.aeC:isIface Tryz.prog 49=true:=by kernel_rfl
theorem Tryz.aeD:isIface Tryz.prog 50=true:=by kernel_rfl
theorem Tryz.YW:bM Tryz.prog 61=none:=by kernel_rfl
theorem Tryz.aeE:jP Tryz.prog 61=some [(0,32,IntKind.u8),(32,1,IntKind.u32),(33,1,IntKind.u32)]:=by kernel_rfl
theorem Tryz.YX:bM Tryz.prog 62=none:=by kernel_rfl
theorem Tryz.aeF:jP Tryz.prog 62=some [(0,32,IntKind.u8),(32,1,IntKind.u32),(33,1,IntKind.u32)]:=by kernel_rfl
theorem Tryz.YY:lq Tryz.prog [63]=1:=by kernel_rfl
theorem Tryz.YZ:bM Tryz.prog 85=some (16,IntKind.u64):=by kernel_rfl
theorem Tryz.Y0:bM Tryz.prog 86=some (16,IntKind.u64):=by kernel_rfl
theorem Tryz.Y1:bM Tryz.prog 88=none:=by kernel_rfl
theorem Tryz.aeG:jP Tryz.prog 88=some [(0,16,IntKind.u64),(16,16,IntKind.u64),(32,16,IntKind.u64),(48,16,IntKind.u64)]:=by kernel_rfl
theorem Tryz.Y2:bM Tryz.prog 89=none:=by kernel_rfl
theorem Tryz.aeH:jP Tryz.prog 89=some [(0,16,IntKind.u64),(16,16,IntKind.u64),(32,16,IntKind.u64),(48,16,IntKind.u64)]:=by kernel_rfl
theorem Tryz.aeI:isIface Tryz.prog 99=true:=by kernel_rfl
theorem Tryz.Y3:isIface Tryz.prog 100=true:=by kernel_rfl
theorem Tryz.Ty:bM Tryz.prog 104=some (16,IntKind.u8):=by kernel_rfl
theorem Tryz.Tz:bM Tryz.prog 105=some (16,IntKind.u8):=by kernel_rfl
theorem Tryz.TA:bM Tryz.prog 106=none:=by kernel_rfl
theorem Tryz.Y4:jP Tryz.prog 106=some [(0,32,IntKind.u8),(32,32,IntKind.u8),(64,16,IntKind.u8)]:=by kernel_rfl
theorem Tryz.TB:bM Tryz.prog 107=none:=by kernel_rfl
theorem Tryz.Y5:jP Tryz.prog 107=some [(0,32,IntKind.u8),(32,32,IntKind.u8),(64,16,IntKind.u8)]:=by kernel_rfl
theorem Tryz.Y6:isIface Tryz.prog 123=true:=by kernel_rfl
theorem Tryz.Y7:isIface Tryz.prog 126=true:=by kernel_rfl
theorem Tryz.Y8:isIface Tryz.prog 128=true:=by kernel_rfl
theorem Tryz.TC:lq Tryz.prog [129]=1:=by kernel_rfl
theorem Tryz.TD:bM Tryz.prog 132=some (5,IntKind.u64):=by kernel_rfl
theorem Tryz.TE:bM Tryz.prog 133=some (5,IntKind.u64):=by kernel_rfl
theorem Tryz.TF:bM Tryz.prog 137=some (256,IntKind.u8):=by kernel_rfl
theorem Tryz.TG:bM Tryz.prog 147=some (240,IntKind.u8):=by kernel_rfl
theorem Tryz.TH:bM Tryz.prog 154=some (4,IntKind.u64):=by kernel_rfl
theorem Tryz.TI:bM Tryz.prog 155=none:=by kernel_rfl
theorem Tryz.Y9:jP Tryz.prog 155=some [(0,5,IntKind.u64),(5,5,IntKind.u64),(10,5,IntKind.u64),(15,5,IntKind.u64)]:=by kernel_rfl
theorem Tryz.TJ:bM Tryz.prog 156=none:=by kernel_rfl
theorem Tryz.Y':jP Tryz.prog 156=some [(0,5,IntKind.u64),(5,5,IntKind.u64),(10,5,IntKind.u64),(15,5,IntKind.u64)]:=by kernel_rfl
theorem Tryz.TK:lq Tryz.prog [160]=1:=by kernel_rfl
theorem Tryz.TL:bM Tryz.prog 165=some (8,IntKind.u32):=by kernel_rfl
theorem Tryz.TM:lq Tryz.prog [168]=1:=by kernel_rfl
theorem Tryz.TN:bM Tryz.prog 170=none:=by kernel_rfl
theorem Tryz.Za:jP Tryz.prog 170=some [(0,1,IntKind.u64),(1,1,IntKind.u64)]:=by kernel_rfl
theorem Tryz.TO:bM Tryz.prog 171=none:=by kernel_rfl
theorem Tryz.Zb:jP Tryz.prog 171=some [(0,1,IntKind.u64),(1,1,IntKind.u64)]:=by kernel_rfl
theorem Tryz.TP:bM Tryz.prog 177=some (255,IntKind.u8):=by kernel_rfl
theorem Tryz.TQ:bM Tryz.prog 179=some (4,IntKind.u8):=by kernel_rfl
theorem Tryz.TR:bM Tryz.prog 182=some (64,IntKind.u32):=by kernel_rfl
theorem Tryz.TS:bM Tryz.prog 223=none:=by kernel_rfl
theorem Tryz.TT:bM Tryz.prog 224=none:=by kernel_rfl
theorem Tryz.TU:lq Tryz.prog [225]=1:=by kernel_rfl
theorem Tryz.TV:bM Tryz.prog 227=none:=by kernel_rfl
theorem Tryz.TW:bM Tryz.prog 228=none:=by kernel_rfl
theorem Tryz.Zc:type_of% @Tryz.ty2∧type_of% @Tryz.adb∧type_of% @Tryz.ade∧type_of% @Tryz.ty3∧type_of% @Tryz.I7∧type_of% @Tryz.adg∧type_of% @Tryz.ty4∧type_of% @Tryz.uz∧type_of% @Tryz.ty5∧type_of% @Tryz.adh∧type_of% @Tryz.adi∧type_of% @Tryz.ty6∧type_of% @Tryz.adj∧type_of% @Tryz.zero6∧type_of% @Tryz.ty7∧type_of% @Tryz.adk∧type_of% @Tryz.Xy∧type_of% @Tryz.Xz∧type_of% @Tryz.I8∧type_of% @Tryz.XA∧type_of% @Tryz.I9∧type_of% @Tryz.XB∧type_of% @Tryz.I'∧type_of% @Tryz.XC∧type_of% @Tryz.Ja∧type_of% @Tryz.ty8∧type_of% @Tryz.yh∧type_of% @Tryz.XD∧type_of% @Tryz.XE∧type_of% @Tryz.Jb∧type_of% @Tryz.XF∧type_of% @Tryz.Jc∧type_of% @Tryz.XG∧type_of% @Tryz.Jd∧type_of% @Tryz.XH∧type_of% @Tryz.Je∧type_of% @Tryz.ty9∧type_of% @Tryz.adl∧type_of% @Tryz.aiq∧type_of% @Tryz.XI∧type_of% @Tryz.air∧type_of% @Tryz.XJ∧type_of% @Tryz.ais∧type_of% @Tryz.XK∧type_of% @Tryz.XL∧type_of% @Tryz.ait∧type_of% @Tryz.XM∧type_of% @Tryz.QF∧type_of% @Tryz.QG∧type_of% @Tryz.DT∧type_of% @Tryz.QH∧type_of% @Tryz.DU∧type_of% @Tryz.aiu∧type_of% @Tryz.XN∧type_of% @Tryz.QI∧type_of% @Tryz.QJ∧type_of% @Tryz.DV∧type_of% @Tryz.QK∧type_of% @Tryz.DW∧type_of% @Tryz.aiv:=
 ⟨@Tryz.ty2, @Tryz.adb, @Tryz.ade, @Tryz.ty3, @Tryz.I7, @Tryz.adg, @Tryz.ty4, @Tryz.uz, @Tryz.ty5, @Tryz.adh, @Tryz.adi, @Tryz.ty6, @Tryz.adj, @Tryz.zero6, @Tryz.ty7, @Tryz.adk, @Tryz.Xy, @Tryz.Xz, @Tryz.I8, @Tryz.XA, @Tryz.I9, @Tryz.XB, @Tryz.I', @Tryz.XC, @Tryz.Ja, @Tryz.ty8, @Tryz.yh, @Tryz.XD, @Tryz.XE, @Tryz.Jb, @Tryz.XF, @Tryz.Jc, @Tryz.XG, @Tryz.Jd, @Tryz.XH, @Tryz.Je, @Tryz.ty9, @Tryz.adl, @Tryz.aiq, @Tryz.XI, @Tryz.air, @Tryz.XJ, @Tryz.ais, @Tryz.XK, @Tryz.XL, @Tryz.ait, @Tryz.XM, @Tryz.QF, @Tryz.QG, @Tryz.DT, @Tryz.QH, @Tryz.DU, @Tryz.aiu, @Tryz.XN, @Tryz.QI, @Tryz.QJ, @Tryz.DV, @Tryz.QK, @Tryz.DW, @Tryz.aiv⟩
theorem Tryz.Zd:type_of% @Tryz.XO∧type_of% @Tryz.aiw∧type_of% @Tryz.XP∧type_of% @Tryz.aix∧type_of% @Tryz.XQ∧type_of% @Tryz.aiy∧type_of% @Tryz.XR∧type_of% @Tryz.QL∧type_of% @Tryz.QM∧type_of% @Tryz.DX∧type_of% @Tryz.aiz∧type_of% @Tryz.XS∧type_of% @Tryz.QN∧type_of% @Tryz.QO∧type_of% @Tryz.DY∧type_of% @Tryz.aiA∧type_of% @Tryz.XT∧type_of% @Tryz.XU∧type_of% @Tryz.aiB∧type_of% @Tryz.XV∧type_of% @Tryz.aiC∧type_of% @Tryz.adn∧type_of% @Tryz.XW∧type_of% @Tryz.QP∧type_of% @Tryz.QQ∧type_of% @Tryz.aiD∧type_of% @Tryz.XX∧type_of% @Tryz.aiE∧type_of% @Tryz.ado∧type_of% @Tryz.XY∧type_of% @Tryz.QR∧type_of% @Tryz.QS∧type_of% @Tryz.aiF∧type_of% @Tryz.XZ∧type_of% @Tryz.X0∧type_of% @Tryz.aiG∧type_of% @Tryz.aiH∧type_of% @Tryz.rS∧type_of% @Tryz.rT∧type_of% @Tryz.X1∧type_of% @Tryz.aiI∧type_of% @Tryz.X2∧type_of% @Tryz.QT∧type_of% @Tryz.QU∧type_of% @Tryz.DZ∧type_of% @Tryz.QV∧type_of% @Tryz.D0∧type_of% @Tryz.QW∧type_of% @Tryz.D1∧type_of% @Tryz.QX∧type_of% @Tryz.D2∧type_of% @Tryz.QY∧type_of% @Tryz.D3∧type_of% @Tryz.QZ∧type_of% @Tryz.D4∧type_of% @Tryz.Q0∧type_of% @Tryz.D5∧type_of% @Tryz.Q5∧type_of% @Tryz.D6∧type_of% @Tryz.Q6:=
 ⟨@Tryz.XO, @Tryz.aiw, @Tryz.XP, @Tryz.aix, @Tryz.XQ, @Tryz.aiy, @Tryz.XR, @Tryz.QL, @Tryz.QM, @Tryz.DX, @Tryz.aiz, @Tryz.XS, @Tryz.QN, @Tryz.QO, @Tryz.DY, @Tryz.aiA, @Tryz.XT, @Tryz.XU, @Tryz.aiB, @Tryz.XV, @Tryz.aiC, @Tryz.adn, @Tryz.XW, @Tryz.QP, @Tryz.QQ, @Tryz.aiD, @Tryz.XX, @Tryz.aiE, @Tryz.ado, @Tryz.XY, @Tryz.QR, @Tryz.QS, @Tryz.aiF, @Tryz.XZ, @Tryz.X0, @Tryz.aiG, @Tryz.aiH, @Tryz.rS, @Tryz.rT, @Tryz.X1, @Tryz.aiI, @Tryz.X2, @Tryz.QT, @Tryz.QU, @Tryz.DZ, @Tryz.QV, @Tryz.D0, @Tryz.QW, @Tryz.D1, @Tryz.QX, @Tryz.D2, @Tryz.QY, @Tryz.D3, @Tryz.QZ, @Tryz.D4, @Tryz.Q0, @Tryz.D5, @Tryz.Q5, @Tryz.D6, @Tryz.Q6⟩
theorem Tryz.Ze:type_of% @Tryz.D7∧type_of% @Tryz.Q7∧type_of% @Tryz.D8∧type_of% @Tryz.Jf∧type_of% @Tryz.yi∧type_of% @Tryz.Jg∧type_of% @Tryz.yj∧type_of% @Tryz.Jh∧type_of% @Tryz.yk∧type_of% @Tryz.Ji∧type_of% @Tryz.yl∧type_of% @Tryz.Jj∧type_of% @Tryz.ym∧type_of% @Tryz.Jk∧type_of% @Tryz.yn∧type_of% @Tryz.Jl∧type_of% @Tryz.yo∧type_of% @Tryz.aiJ∧type_of% @Tryz.X3∧type_of% @Tryz.Q8∧type_of% @Tryz.Q9∧type_of% @Tryz.D9∧type_of% @Tryz.Q'∧type_of% @Tryz.D'∧type_of% @Tryz.Ra∧type_of% @Tryz.Ea∧type_of% @Tryz.Rb∧type_of% @Tryz.Eb∧type_of% @Tryz.Rc∧type_of% @Tryz.Ec∧type_of% @Tryz.Rd∧type_of% @Tryz.Ed∧type_of% @Tryz.Re∧type_of% @Tryz.Ee∧type_of% @Tryz.Rf∧type_of% @Tryz.Ef∧type_of% @Tryz.Rg∧type_of% @Tryz.Eg∧type_of% @Tryz.Rh∧type_of% @Tryz.Eh∧type_of% @Tryz.Jm∧type_of% @Tryz.yp∧type_of% @Tryz.Jn∧type_of% @Tryz.yq∧type_of% @Tryz.Jo∧type_of% @Tryz.yr∧type_of% @Tryz.Jp∧type_of% @Tryz.yu∧type_of% @Tryz.Jq∧type_of% @Tryz.yv∧type_of% @Tryz.Jr∧type_of% @Tryz.yw∧type_of% @Tryz.Js∧type_of% @Tryz.yx∧type_of% @Tryz.aiK∧type_of% @Tryz.aiL∧type_of% @Tryz.bW∧type_of% @Tryz.adp∧type_of% @Tryz.bS∧type_of% @Tryz.X4:=
 ⟨@Tryz.D7, @Tryz.Q7, @Tryz.D8, @Tryz.Jf, @Tryz.yi, @Tryz.Jg, @Tryz.yj, @Tryz.Jh, @Tryz.yk, @Tryz.Ji, @Tryz.yl, @Tryz.Jj, @Tryz.ym, @Tryz.Jk, @Tryz.yn, @Tryz.Jl, @Tryz.yo, @Tryz.aiJ, @Tryz.X3, @Tryz.Q8, @Tryz.Q9, @Tryz.D9, @Tryz.Q', @Tryz.D', @Tryz.Ra, @Tryz.Ea, @Tryz.Rb, @Tryz.Eb, @Tryz.Rc, @Tryz.Ec, @Tryz.Rd, @Tryz.Ed, @Tryz.Re, @Tryz.Ee, @Tryz.Rf, @Tryz.Ef, @Tryz.Rg, @Tryz.Eg, @Tryz.Rh, @Tryz.Eh, @Tryz.Jm, @Tryz.yp, @Tryz.Jn, @Tryz.yq, @Tryz.Jo, @Tryz.yr, @Tryz.Jp, @Tryz.yu, @Tryz.Jq, @Tryz.yv, @Tryz.Jr, @Tryz.yw, @Tryz.Js, @Tryz.yx, @Tryz.aiK, @Tryz.aiL, @Tryz.bW, @Tryz.adp, @Tryz.bS, @Tryz.X4⟩
theorem Tryz.Zf:type_of% @Tryz.aiM∧type_of% @Tryz.X5∧type_of% @Tryz.Ri∧type_of% @Tryz.Rj∧type_of% @Tryz.Ei∧type_of% @Tryz.Rk∧type_of% @Tryz.Ej∧type_of% @Tryz.aiN∧type_of% @Tryz.X6∧type_of% @Tryz.Rl∧type_of% @Tryz.Rm∧type_of% @Tryz.Ek∧type_of% @Tryz.Rn∧type_of% @Tryz.El∧type_of% @Tryz.aiO∧type_of% @Tryz.zero32∧type_of% @Tryz.Ro∧type_of% @Tryz.Rp∧type_of% @Tryz.Em∧type_of% @Tryz.Rq∧type_of% @Tryz.Eo∧type_of% @Tryz.aiP∧type_of% @Tryz.X7∧type_of% @Tryz.Rr∧type_of% @Tryz.Rs∧type_of% @Tryz.Ep∧type_of% @Tryz.Rt∧type_of% @Tryz.Er∧type_of% @Tryz.aiQ∧type_of% @Tryz.X8∧type_of% @Tryz.Ru∧type_of% @Tryz.Rv∧type_of% @Tryz.Es∧type_of% @Tryz.Rw∧type_of% @Tryz.Et∧type_of% @Tryz.Rx∧type_of% @Tryz.Eu∧type_of% @Tryz.Ry∧type_of% @Tryz.Ev∧type_of% @Tryz.Rz∧type_of% @Tryz.Ew∧type_of% @Tryz.aiR∧type_of% @Tryz.X9∧type_of% @Tryz.RA∧type_of% @Tryz.RB∧type_of% @Tryz.Ex∧type_of% @Tryz.RC∧type_of% @Tryz.Ey∧type_of% @Tryz.RD∧type_of% @Tryz.Ez∧type_of% @Tryz.RE∧type_of% @Tryz.EA∧type_of% @Tryz.RF∧type_of% @Tryz.EB∧type_of% @Tryz.aiS∧type_of% @Tryz.X'∧type_of% @Tryz.RG∧type_of% @Tryz.RH∧type_of% @Tryz.EC∧type_of% @Tryz.RI:=
 ⟨@Tryz.aiM, @Tryz.X5, @Tryz.Ri, @Tryz.Rj, @Tryz.Ei, @Tryz.Rk, @Tryz.Ej, @Tryz.aiN, @Tryz.X6, @Tryz.Rl, @Tryz.Rm, @Tryz.Ek, @Tryz.Rn, @Tryz.El, @Tryz.aiO, @Tryz.zero32, @Tryz.Ro, @Tryz.Rp, @Tryz.Em, @Tryz.Rq, @Tryz.Eo, @Tryz.aiP, @Tryz.X7, @Tryz.Rr, @Tryz.Rs, @Tryz.Ep, @Tryz.Rt, @Tryz.Er, @Tryz.aiQ, @Tryz.X8, @Tryz.Ru, @Tryz.Rv, @Tryz.Es, @Tryz.Rw, @Tryz.Et, @Tryz.Rx, @Tryz.Eu, @Tryz.Ry, @Tryz.Ev, @Tryz.Rz, @Tryz.Ew, @Tryz.aiR, @Tryz.X9, @Tryz.RA, @Tryz.RB, @Tryz.Ex, @Tryz.RC, @Tryz.Ey, @Tryz.RD, @Tryz.Ez, @Tryz.RE, @Tryz.EA, @Tryz.RF, @Tryz.EB, @Tryz.aiS, @Tryz.X', @Tryz.RG, @Tryz.RH, @Tryz.EC, @Tryz.RI⟩
theorem Tryz.Zg:type_of% @Tryz.ED∧type_of% @Tryz.RJ∧type_of% @Tryz.EE∧type_of% @Tryz.RK∧type_of% @Tryz.EF∧type_of% @Tryz.aiT∧type_of% @Tryz.Ya∧type_of% @Tryz.RL∧type_of% @Tryz.RM∧type_of% @Tryz.EG∧type_of% @Tryz.RN∧type_of% @Tryz.EH∧type_of% @Tryz.RO∧type_of% @Tryz.EI∧type_of% @Tryz.RP∧type_of% @Tryz.EJ∧type_of% @Tryz.aiU∧type_of% @Tryz.Yb∧type_of% @Tryz.RQ∧type_of% @Tryz.RR∧type_of% @Tryz.EK∧type_of% @Tryz.RS∧type_of% @Tryz.EL∧type_of% @Tryz.RT∧type_of% @Tryz.EM∧type_of% @Tryz.aiV∧type_of% @Tryz.Yc∧type_of% @Tryz.RU∧type_of% @Tryz.RV∧type_of% @Tryz.EN∧type_of% @Tryz.RW∧type_of% @Tryz.EO∧type_of% @Tryz.RX∧type_of% @Tryz.EP∧type_of% @Tryz.aiW∧type_of% @Tryz.aiX∧type_of% @Tryz.ER∧type_of% @Tryz.ES∧type_of% @Tryz.Yd∧type_of% @Tryz.aiY∧type_of% @Tryz.Ye∧type_of% @Tryz.RY∧type_of% @Tryz.RZ∧type_of% @Tryz.ET∧type_of% @Tryz.R0∧type_of% @Tryz.EU∧type_of% @Tryz.aiZ∧type_of% @Tryz.Yf∧type_of% @Tryz.R1∧type_of% @Tryz.R2∧type_of% @Tryz.EV∧type_of% @Tryz.R3∧type_of% @Tryz.EW∧type_of% @Tryz.ai0∧type_of% @Tryz.Yg∧type_of% @Tryz.R5∧type_of% @Tryz.R6∧type_of% @Tryz.EX∧type_of% @Tryz.R7∧type_of% @Tryz.EY:=
 ⟨@Tryz.ED, @Tryz.RJ, @Tryz.EE, @Tryz.RK, @Tryz.EF, @Tryz.aiT, @Tryz.Ya, @Tryz.RL, @Tryz.RM, @Tryz.EG, @Tryz.RN, @Tryz.EH, @Tryz.RO, @Tryz.EI, @Tryz.RP, @Tryz.EJ, @Tryz.aiU, @Tryz.Yb, @Tryz.RQ, @Tryz.RR, @Tryz.EK, @Tryz.RS, @Tryz.EL, @Tryz.RT, @Tryz.EM, @Tryz.aiV, @Tryz.Yc, @Tryz.RU, @Tryz.RV, @Tryz.EN, @Tryz.RW, @Tryz.EO, @Tryz.RX, @Tryz.EP, @Tryz.aiW, @Tryz.aiX, @Tryz.ER, @Tryz.ES, @Tryz.Yd, @Tryz.aiY, @Tryz.Ye, @Tryz.RY, @Tryz.RZ, @Tryz.ET, @Tryz.R0, @Tryz.EU, @Tryz.aiZ, @Tryz.Yf, @Tryz.R1, @Tryz.R2, @Tryz.EV, @Tryz.R3, @Tryz.EW, @Tryz.ai0, @Tryz.Yg, @Tryz.R5, @Tryz.R6, @Tryz.EX, @Tryz.R7, @Tryz.EY⟩
theorem Tryz.Zh:type_of% @Tryz.R8∧type_of% @Tryz.EZ∧type_of% @Tryz.ai1∧type_of% @Tryz.Yh∧type_of% @Tryz.R9∧type_of% @Tryz.R'∧type_of% @Tryz.E2∧type_of% @Tryz.Sb∧type_of% @Tryz.E3∧type_of% @Tryz.Sc∧type_of% @Tryz.E5∧type_of% @Tryz.ai2∧type_of% @Tryz.Yi∧type_of% @Tryz.ai3∧type_of% @Tryz.Yj∧type_of% @Tryz.Sd∧type_of% @Tryz.Se∧type_of% @Tryz.E6∧type_of% @Tryz.ai4∧type_of% @Tryz.Yk∧type_of% @Tryz.Sf∧type_of% @Tryz.Sg∧type_of% @Tryz.E7∧type_of% @Tryz.ai5∧type_of% @Tryz.Yl∧type_of% @Tryz.Ym∧type_of% @Tryz.ai6∧type_of% @Tryz.Yn∧type_of% @Tryz.ai7∧type_of% @Tryz.adq∧type_of% @Tryz.Yo∧type_of% @Tryz.Sh∧type_of% @Tryz.Si∧type_of% @Tryz.ai8∧type_of% @Tryz.Yp∧type_of% @Tryz.ai9∧type_of% @Tryz.adr∧type_of% @Tryz.Yq∧type_of% @Tryz.Sj∧type_of% @Tryz.Sk∧type_of% @Tryz.ai'∧type_of% @Tryz.Yr∧type_of% @Tryz.Sm∧type_of% @Tryz.Sn∧type_of% @Tryz.E8∧type_of% @Tryz.So∧type_of% @Tryz.E9∧type_of% @Tryz.Sp∧type_of% @Tryz.E'∧type_of% @Tryz.Sq∧type_of% @Tryz.Fa∧type_of% @Tryz.aja∧type_of% @Tryz.Ys∧type_of% @Tryz.Sr∧type_of% @Tryz.Ss∧type_of% @Tryz.Fb∧type_of% @Tryz.Sv∧type_of% @Tryz.Fc∧type_of% @Tryz.Sw∧type_of% @Tryz.Fe:=
 ⟨@Tryz.R8, @Tryz.EZ, @Tryz.ai1, @Tryz.Yh, @Tryz.R9, @Tryz.R', @Tryz.E2, @Tryz.Sb, @Tryz.E3, @Tryz.Sc, @Tryz.E5, @Tryz.ai2, @Tryz.Yi, @Tryz.ai3, @Tryz.Yj, @Tryz.Sd, @Tryz.Se, @Tryz.E6, @Tryz.ai4, @Tryz.Yk, @Tryz.Sf, @Tryz.Sg, @Tryz.E7, @Tryz.ai5, @Tryz.Yl, @Tryz.Ym, @Tryz.ai6, @Tryz.Yn, @Tryz.ai7, @Tryz.adq, @Tryz.Yo, @Tryz.Sh, @Tryz.Si, @Tryz.ai8, @Tryz.Yp, @Tryz.ai9, @Tryz.adr, @Tryz.Yq, @Tryz.Sj, @Tryz.Sk, @Tryz.ai', @Tryz.Yr, @Tryz.Sm, @Tryz.Sn, @Tryz.E8, @Tryz.So, @Tryz.E9, @Tryz.Sp, @Tryz.E', @Tryz.Sq, @Tryz.Fa, @Tryz.aja, @Tryz.Ys, @Tryz.Sr, @Tryz.Ss, @Tryz.Fb, @Tryz.Sv, @Tryz.Fc, @Tryz.Sw, @Tryz.Fe⟩
theorem Tryz.Zi:type_of% @Tryz.Sx∧type_of% @Tryz.Ff∧type_of% @Tryz.ads∧type_of% @Tryz.NU∧type_of% @Tryz.adt∧type_of% @Tryz.Yt∧type_of% @Tryz.Sy∧type_of% @Tryz.Jt∧type_of% @Tryz.Ju∧type_of% @Tryz.adu∧type_of% @Tryz.NV∧type_of% @Tryz.adv∧type_of% @Tryz.Yu∧type_of% @Tryz.Sz∧type_of% @Tryz.Jv∧type_of% @Tryz.Jw∧type_of% @Tryz.adw∧type_of% @Tryz.SA∧type_of% @Tryz.Jx∧type_of% @Tryz.Jy∧type_of% @Tryz.yy∧type_of% @Tryz.Jz∧type_of% @Tryz.yz∧type_of% @Tryz.JA∧type_of% @Tryz.yA∧type_of% @Tryz.adx∧type_of% @Tryz.SB∧type_of% @Tryz.JB∧type_of% @Tryz.JC∧type_of% @Tryz.yB∧type_of% @Tryz.JD∧type_of% @Tryz.yC∧type_of% @Tryz.JE∧type_of% @Tryz.yD∧type_of% @Tryz.ady∧type_of% @Tryz.SC∧type_of% @Tryz.SD∧type_of% @Tryz.adz∧type_of% @Tryz.SE∧type_of% @Tryz.JF∧type_of% @Tryz.JG∧type_of% @Tryz.yE∧type_of% @Tryz.adA∧type_of% @Tryz.SF∧type_of% @Tryz.JH∧type_of% @Tryz.JI∧type_of% @Tryz.yF∧type_of% @Tryz.adB∧type_of% @Tryz.SG∧type_of% @Tryz.adC∧type_of% @Tryz.adD∧type_of% @Tryz.Yv∧type_of% @Tryz.Yw∧type_of% @Tryz.SH∧type_of% @Tryz.adE∧type_of% @Tryz.NW∧type_of% @Tryz.adG∧type_of% @Tryz.Yx∧type_of% @Tryz.SI∧type_of% @Tryz.JJ:=
 ⟨@Tryz.Sx, @Tryz.Ff, @Tryz.ads, @Tryz.NU, @Tryz.adt, @Tryz.Yt, @Tryz.Sy, @Tryz.Jt, @Tryz.Ju, @Tryz.adu, @Tryz.NV, @Tryz.adv, @Tryz.Yu, @Tryz.Sz, @Tryz.Jv, @Tryz.Jw, @Tryz.adw, @Tryz.SA, @Tryz.Jx, @Tryz.Jy, @Tryz.yy, @Tryz.Jz, @Tryz.yz, @Tryz.JA, @Tryz.yA, @Tryz.adx, @Tryz.SB, @Tryz.JB, @Tryz.JC, @Tryz.yB, @Tryz.JD, @Tryz.yC, @Tryz.JE, @Tryz.yD, @Tryz.ady, @Tryz.SC, @Tryz.SD, @Tryz.adz, @Tryz.SE, @Tryz.JF, @Tryz.JG, @Tryz.yE, @Tryz.adA, @Tryz.SF, @Tryz.JH, @Tryz.JI, @Tryz.yF, @Tryz.adB, @Tryz.SG, @Tryz.adC, @Tryz.adD, @Tryz.Yv, @Tryz.Yw, @Tryz.SH, @Tryz.adE, @Tryz.NW, @Tryz.adG, @Tryz.Yx, @Tryz.SI, @Tryz.JJ⟩
theorem Tryz.Zj:type_of% @Tryz.JK∧type_of% @Tryz.adH∧type_of% @Tryz.NY∧type_of% @Tryz.adI∧type_of% @Tryz.Yy∧type_of% @Tryz.SJ∧type_of% @Tryz.JL∧type_of% @Tryz.JM∧type_of% @Tryz.adJ∧type_of% @Tryz.NZ∧type_of% @Tryz.adK∧type_of% @Tryz.Yz∧type_of% @Tryz.SK∧type_of% @Tryz.JN∧type_of% @Tryz.JO∧type_of% @Tryz.adL∧type_of% @Tryz.N0∧type_of% @Tryz.adM∧type_of% @Tryz.YA∧type_of% @Tryz.SL∧type_of% @Tryz.JP∧type_of% @Tryz.JQ∧type_of% @Tryz.adN∧type_of% @Tryz.SM∧type_of% @Tryz.JR∧type_of% @Tryz.JS∧type_of% @Tryz.yG∧type_of% @Tryz.JT∧type_of% @Tryz.yH∧type_of% @Tryz.adO∧type_of% @Tryz.SN∧type_of% @Tryz.JU∧type_of% @Tryz.JV∧type_of% @Tryz.yI∧type_of% @Tryz.JW∧type_of% @Tryz.yJ∧type_of% @Tryz.adP∧type_of% @Tryz.N1∧type_of% @Tryz.adQ∧type_of% @Tryz.YB∧type_of% @Tryz.SO∧type_of% @Tryz.JX∧type_of% @Tryz.JY∧type_of% @Tryz.adR∧type_of% @Tryz.N2∧type_of% @Tryz.adS∧type_of% @Tryz.YC∧type_of% @Tryz.SP∧type_of% @Tryz.JZ∧type_of% @Tryz.J0∧type_of% @Tryz.adT∧type_of% @Tryz.SQ∧type_of% @Tryz.J1∧type_of% @Tryz.J2∧type_of% @Tryz.yK∧type_of% @Tryz.J3∧type_of% @Tryz.yL∧type_of% @Tryz.J4∧type_of% @Tryz.yM∧type_of% @Tryz.J5:=
 ⟨@Tryz.JK, @Tryz.adH, @Tryz.NY, @Tryz.adI, @Tryz.Yy, @Tryz.SJ, @Tryz.JL, @Tryz.JM, @Tryz.adJ, @Tryz.NZ, @Tryz.adK, @Tryz.Yz, @Tryz.SK, @Tryz.JN, @Tryz.JO, @Tryz.adL, @Tryz.N0, @Tryz.adM, @Tryz.YA, @Tryz.SL, @Tryz.JP, @Tryz.JQ, @Tryz.adN, @Tryz.SM, @Tryz.JR, @Tryz.JS, @Tryz.yG, @Tryz.JT, @Tryz.yH, @Tryz.adO, @Tryz.SN, @Tryz.JU, @Tryz.JV, @Tryz.yI, @Tryz.JW, @Tryz.yJ, @Tryz.adP, @Tryz.N1, @Tryz.adQ, @Tryz.YB, @Tryz.SO, @Tryz.JX, @Tryz.JY, @Tryz.adR, @Tryz.N2, @Tryz.adS, @Tryz.YC, @Tryz.SP, @Tryz.JZ, @Tryz.J0, @Tryz.adT, @Tryz.SQ, @Tryz.J1, @Tryz.J2, @Tryz.yK, @Tryz.J3, @Tryz.yL, @Tryz.J4, @Tryz.yM, @Tryz.J5⟩
theorem Tryz.Zk:type_of% @Tryz.yN∧type_of% @Tryz.adU∧type_of% @Tryz.SR∧type_of% @Tryz.J6∧type_of% @Tryz.J7∧type_of% @Tryz.yO∧type_of% @Tryz.J8∧type_of% @Tryz.yP∧type_of% @Tryz.J9∧type_of% @Tryz.yQ∧type_of% @Tryz.J'∧type_of% @Tryz.yR∧type_of% @Tryz.adV∧type_of% @Tryz.adW∧type_of% @Tryz.YD∧type_of% @Tryz.YE∧type_of% @Tryz.SS∧type_of% @Tryz.adX∧type_of% @Tryz.SU∧type_of% @Tryz.adY∧type_of% @Tryz.N3∧type_of% @Tryz.adZ∧type_of% @Tryz.YF∧type_of% @Tryz.SW∧type_of% @Tryz.Ka∧type_of% @Tryz.Kb∧type_of% @Tryz.ad0∧type_of% @Tryz.ad1∧type_of% @Tryz.YG∧type_of% @Tryz.YH∧type_of% @Tryz.SX∧type_of% @Tryz.ad2∧type_of% @Tryz.SY∧type_of% @Tryz.Kc∧type_of% @Tryz.Kd∧type_of% @Tryz.yS∧type_of% @Tryz.Ke∧type_of% @Tryz.yT∧type_of% @Tryz.ad3∧type_of% @Tryz.SZ∧type_of% @Tryz.Kf∧type_of% @Tryz.Kg∧type_of% @Tryz.yU∧type_of% @Tryz.Kh∧type_of% @Tryz.yV∧type_of% @Tryz.ad4∧type_of% @Tryz.N5∧type_of% @Tryz.ad5∧type_of% @Tryz.YI∧type_of% @Tryz.S0∧type_of% @Tryz.Ki∧type_of% @Tryz.Kj∧type_of% @Tryz.ad6∧type_of% @Tryz.N6∧type_of% @Tryz.ad7∧type_of% @Tryz.YJ∧type_of% @Tryz.S1∧type_of% @Tryz.Kk∧type_of% @Tryz.Kl∧type_of% @Tryz.ad8:=
 ⟨@Tryz.yN, @Tryz.adU, @Tryz.SR, @Tryz.J6, @Tryz.J7, @Tryz.yO, @Tryz.J8, @Tryz.yP, @Tryz.J9, @Tryz.yQ, @Tryz.J', @Tryz.yR, @Tryz.adV, @Tryz.adW, @Tryz.YD, @Tryz.YE, @Tryz.SS, @Tryz.adX, @Tryz.SU, @Tryz.adY, @Tryz.N3, @Tryz.adZ, @Tryz.YF, @Tryz.SW, @Tryz.Ka, @Tryz.Kb, @Tryz.ad0, @Tryz.ad1, @Tryz.YG, @Tryz.YH, @Tryz.SX, @Tryz.ad2, @Tryz.SY, @Tryz.Kc, @Tryz.Kd, @Tryz.yS, @Tryz.Ke, @Tryz.yT, @Tryz.ad3, @Tryz.SZ, @Tryz.Kf, @Tryz.Kg, @Tryz.yU, @Tryz.Kh, @Tryz.yV, @Tryz.ad4, @Tryz.N5, @Tryz.ad5, @Tryz.YI, @Tryz.S0, @Tryz.Ki, @Tryz.Kj, @Tryz.ad6, @Tryz.N6, @Tryz.ad7, @Tryz.YJ, @Tryz.S1, @Tryz.Kk, @Tryz.Kl, @Tryz.ad8⟩
theorem Tryz.Zl:type_of% @Tryz.N7∧type_of% @Tryz.ad9∧type_of% @Tryz.YK∧type_of% @Tryz.S2∧type_of% @Tryz.Km∧type_of% @Tryz.Kn∧type_of% @Tryz.ad'∧type_of% @Tryz.N8∧type_of% @Tryz.aea∧type_of% @Tryz.YL∧type_of% @Tryz.S3∧type_of% @Tryz.Ko∧type_of% @Tryz.Kp∧type_of% @Tryz.aeb∧type_of% @Tryz.S4∧type_of% @Tryz.aec∧type_of% @Tryz.S5∧type_of% @Tryz.Kq∧type_of% @Tryz.Kr∧type_of% @Tryz.yW∧type_of% @Tryz.Ks∧type_of% @Tryz.yX∧type_of% @Tryz.Kt∧type_of% @Tryz.yY∧type_of% @Tryz.Ku∧type_of% @Tryz.yZ∧type_of% @Tryz.aed∧type_of% @Tryz.S6∧type_of% @Tryz.Kv∧type_of% @Tryz.Kw∧type_of% @Tryz.y'∧type_of% @Tryz.Kx∧type_of% @Tryz.za∧type_of% @Tryz.Ky∧type_of% @Tryz.zb∧type_of% @Tryz.Kz∧type_of% @Tryz.zc∧type_of% @Tryz.aee∧type_of% @Tryz.S7∧type_of% @Tryz.S8∧type_of% @Tryz.aef∧type_of% @Tryz.S9∧type_of% @Tryz.S'∧type_of% @Tryz.aeg∧type_of% @Tryz.Ta∧type_of% @Tryz.aeh∧type_of% @Tryz.Tb∧type_of% @Tryz.Tc∧type_of% @Tryz.aei∧type_of% @Tryz.Td∧type_of% @Tryz.Te∧type_of% @Tryz.aej∧type_of% @Tryz.Tf∧type_of% @Tryz.KA∧type_of% @Tryz.KB∧type_of% @Tryz.zd∧type_of% @Tryz.KC∧type_of% @Tryz.ze∧type_of% @Tryz.KD∧type_of% @Tryz.zf:=
 ⟨@Tryz.N7, @Tryz.ad9, @Tryz.YK, @Tryz.S2, @Tryz.Km, @Tryz.Kn, @Tryz.ad', @Tryz.N8, @Tryz.aea, @Tryz.YL, @Tryz.S3, @Tryz.Ko, @Tryz.Kp, @Tryz.aeb, @Tryz.S4, @Tryz.aec, @Tryz.S5, @Tryz.Kq, @Tryz.Kr, @Tryz.yW, @Tryz.Ks, @Tryz.yX, @Tryz.Kt, @Tryz.yY, @Tryz.Ku, @Tryz.yZ, @Tryz.aed, @Tryz.S6, @Tryz.Kv, @Tryz.Kw, @Tryz.y', @Tryz.Kx, @Tryz.za, @Tryz.Ky, @Tryz.zb, @Tryz.Kz, @Tryz.zc, @Tryz.aee, @Tryz.S7, @Tryz.S8, @Tryz.aef, @Tryz.S9, @Tryz.S', @Tryz.aeg, @Tryz.Ta, @Tryz.aeh, @Tryz.Tb, @Tryz.Tc, @Tryz.aei, @Tryz.Td, @Tryz.Te, @Tryz.aej, @Tryz.Tf, @Tryz.KA, @Tryz.KB, @Tryz.zd, @Tryz.KC, @Tryz.ze, @Tryz.KD, @Tryz.zf⟩
theorem Tryz.TX:type_of% @Tryz.KE∧type_of% @Tryz.zg∧type_of% @Tryz.KF∧type_of% @Tryz.zh∧type_of% @Tryz.KG∧type_of% @Tryz.zj∧type_of% @Tryz.KH∧type_of% @Tryz.zk∧type_of% @Tryz.KI∧type_of% @Tryz.zm∧type_of% @Tryz.KJ∧type_of% @Tryz.zn∧type_of% @Tryz.KK∧type_of% @Tryz.zo∧type_of% @Tryz.Fg∧type_of% @Tryz.uA∧type_of% @Tryz.aek∧type_of% @Tryz.Tg∧type_of% @Tryz.KL∧type_of% @Tryz.KM∧type_of% @Tryz.zp∧type_of% @Tryz.KN∧type_of% @Tryz.zq∧type_of% @Tryz.KO∧type_of% @Tryz.zr∧type_of% @Tryz.KP∧type_of% @Tryz.zt∧type_of% @Tryz.KQ∧type_of% @Tryz.zu∧type_of% @Tryz.KR∧type_of% @Tryz.zv∧type_of% @Tryz.KS∧type_of% @Tryz.zw∧type_of% @Tryz.KT∧type_of% @Tryz.zx∧type_of% @Tryz.KU∧type_of% @Tryz.zy∧type_of% @Tryz.KV∧type_of% @Tryz.zA∧type_of% @Tryz.Fh∧type_of% @Tryz.uB∧type_of% @Tryz.ael∧type_of% @Tryz.Ti∧type_of% @Tryz.KW∧type_of% @Tryz.KX∧type_of% @Tryz.zB∧type_of% @Tryz.KY∧type_of% @Tryz.zC∧type_of% @Tryz.aem∧type_of% @Tryz.Tj∧type_of% @Tryz.KZ∧type_of% @Tryz.K0∧type_of% @Tryz.zD∧type_of% @Tryz.K1∧type_of% @Tryz.zE∧type_of% @Tryz.aen∧type_of% @Tryz.Tk∧type_of% @Tryz.K2∧type_of% @Tryz.K9∧type_of% @Tryz.zF:=
 ⟨@Tryz.KE, @Tryz.zg, @Tryz.KF, @Tryz.zh, @Tryz.KG, @Tryz.zj, @Tryz.KH, @Tryz.zk, @Tryz.KI, @Tryz.zm, @Tryz.KJ, @Tryz.zn, @Tryz.KK, @Tryz.zo, @Tryz.Fg, @Tryz.uA, @Tryz.aek, @Tryz.Tg, @Tryz.KL, @Tryz.KM, @Tryz.zp, @Tryz.KN, @Tryz.zq, @Tryz.KO, @Tryz.zr, @Tryz.KP, @Tryz.zt, @Tryz.KQ, @Tryz.zu, @Tryz.KR, @Tryz.zv, @Tryz.KS, @Tryz.zw, @Tryz.KT, @Tryz.zx, @Tryz.KU, @Tryz.zy, @Tryz.KV, @Tryz.zA, @Tryz.Fh, @Tryz.uB, @Tryz.ael, @Tryz.Ti, @Tryz.KW, @Tryz.KX, @Tryz.zB, @Tryz.KY, @Tryz.zC, @Tryz.aem, @Tryz.Tj, @Tryz.KZ, @Tryz.K0, @Tryz.zD, @Tryz.K1, @Tryz.zE, @Tryz.aen, @Tryz.Tk, @Tryz.K2, @Tryz.K9, @Tryz.zF⟩
theorem Tryz.TY:type_of% @Tryz.aeo∧type_of% @Tryz.Tl∧type_of% @Tryz.La∧type_of% @Tryz.Lb∧type_of% @Tryz.zG∧type_of% @Tryz.aep∧type_of% @Tryz.Tm∧type_of% @Tryz.aeq∧type_of% @Tryz.Tn∧type_of% @Tryz.Tp∧type_of% @Tryz.aer∧type_of% @Tryz.Tq∧type_of% @Tryz.Lc∧type_of% @Tryz.Ld∧type_of% @Tryz.zH∧type_of% @Tryz.Le∧type_of% @Tryz.zI∧type_of% @Tryz.Lf∧type_of% @Tryz.zJ∧type_of% @Tryz.Lg∧type_of% @Tryz.zK∧type_of% @Tryz.Lh∧type_of% @Tryz.zL∧type_of% @Tryz.aes∧type_of% @Tryz.Tr∧type_of% @Tryz.Li∧type_of% @Tryz.Lj∧type_of% @Tryz.zM∧type_of% @Tryz.Lk∧type_of% @Tryz.zO∧type_of% @Tryz.Ll∧type_of% @Tryz.zP∧type_of% @Tryz.Lm∧type_of% @Tryz.zQ∧type_of% @Tryz.Ln∧type_of% @Tryz.zR∧type_of% @Tryz.aet∧type_of% @Tryz.aeu∧type_of% @Tryz.YM∧type_of% @Tryz.YN∧type_of% @Tryz.Ts∧type_of% @Tryz.aev∧type_of% @Tryz.Tt∧type_of% @Tryz.Tv∧type_of% @Tryz.aew∧type_of% @Tryz.Tw∧type_of% @Tryz.Lp∧type_of% @Tryz.Lq∧type_of% @Tryz.zS∧type_of% @Tryz.Lr∧type_of% @Tryz.zT∧type_of% @Tryz.Ls∧type_of% @Tryz.zU∧type_of% @Tryz.Lt∧type_of% @Tryz.zV∧type_of% @Tryz.aex∧type_of% @Tryz.Tx∧type_of% @Tryz.Lu∧type_of% @Tryz.Lv∧type_of% @Tryz.zW:=
 ⟨@Tryz.aeo, @Tryz.Tl, @Tryz.La, @Tryz.Lb, @Tryz.zG, @Tryz.aep, @Tryz.Tm, @Tryz.aeq, @Tryz.Tn, @Tryz.Tp, @Tryz.aer, @Tryz.Tq, @Tryz.Lc, @Tryz.Ld, @Tryz.zH, @Tryz.Le, @Tryz.zI, @Tryz.Lf, @Tryz.zJ, @Tryz.Lg, @Tryz.zK, @Tryz.Lh, @Tryz.zL, @Tryz.aes, @Tryz.Tr, @Tryz.Li, @Tryz.Lj, @Tryz.zM, @Tryz.Lk, @Tryz.zO, @Tryz.Ll, @Tryz.zP, @Tryz.Lm, @Tryz.zQ, @Tryz.Ln, @Tryz.zR, @Tryz.aet, @Tryz.aeu, @Tryz.YM, @Tryz.YN, @Tryz.Ts, @Tryz.aev, @Tryz.Tt, @Tryz.Tv, @Tryz.aew, @Tryz.Tw, @Tryz.Lp, @Tryz.Lq, @Tryz.zS, @Tryz.Lr, @Tryz.zT, @Tryz.Ls, @Tryz.zU, @Tryz.Lt, @Tryz.zV, @Tryz.aex, @Tryz.Tx, @Tryz.Lu, @Tryz.Lv, @Tryz.zW⟩
theorem Tryz.T0:type_of% @Tryz.Lw∧type_of% @Tryz.zX∧type_of% @Tryz.Lx∧type_of% @Tryz.zY∧type_of% @Tryz.Ly∧type_of% @Tryz.zZ∧type_of% @Tryz.tf∧type_of% @Tryz.tg∧type_of% @Tryz.oD∧type_of% @Tryz.ti∧type_of% @Tryz.tj∧type_of% @Tryz.tm∧type_of% @Tryz.tq∧type_of% @Tryz.pS∧type_of% @Tryz.pT∧type_of% @Tryz.pU∧type_of% @Tryz.l8∧type_of% @Tryz.pV∧type_of% @Tryz.l9∧type_of% @Tryz.pW∧type_of% @Tryz.pX∧type_of% @Tryz.pY∧type_of% @Tryz.jf∧type_of% @Tryz.pZ∧type_of% @Tryz.p'∧type_of% @Tryz.qa∧type_of% @Tryz.z0∧type_of% @Tryz.Aa∧type_of% @Tryz.Ab∧type_of% @Tryz.qb∧type_of% @Tryz.qc∧type_of% @Tryz.qd∧type_of% @Tryz.qe∧type_of% @Tryz.qf∧type_of% @Tryz.qg∧type_of% @Tryz.Ac∧type_of% @Tryz.Ad∧type_of% @Tryz.qh∧type_of% @Tryz.qi∧type_of% @Tryz.qj∧type_of% @Tryz.qk∧type_of% @Tryz.ql∧type_of% @Tryz.qm∧type_of% @Tryz.mb∧type_of% @Tryz.jg∧type_of% @Tryz.qn∧type_of% @Tryz.qo∧type_of% @Tryz.Ae∧type_of% @Tryz.Af∧type_of% @Tryz.Ah∧type_of% @Tryz.Ai∧type_of% @Tryz.gh∧type_of% @Tryz.Aj∧type_of% @Tryz.qp∧type_of% @Tryz.qq∧type_of% @Tryz.qt∧type_of% @Tryz.mc∧type_of% @Tryz.qu∧type_of% @Tryz.qv∧type_of% @Tryz.qw:=
 ⟨@Tryz.Lw, @Tryz.zX, @Tryz.Lx, @Tryz.zY, @Tryz.Ly, @Tryz.zZ, @Tryz.tf, @Tryz.tg, @Tryz.oD, @Tryz.ti, @Tryz.tj, @Tryz.tm, @Tryz.tq, @Tryz.pS, @Tryz.pT, @Tryz.pU, @Tryz.l8, @Tryz.pV, @Tryz.l9, @Tryz.pW, @Tryz.pX, @Tryz.pY, @Tryz.jf, @Tryz.pZ, @Tryz.p', @Tryz.qa, @Tryz.z0, @Tryz.Aa, @Tryz.Ab, @Tryz.qb, @Tryz.qc, @Tryz.qd, @Tryz.qe, @Tryz.qf, @Tryz.qg, @Tryz.Ac, @Tryz.Ad, @Tryz.qh, @Tryz.qi, @Tryz.qj, @Tryz.qk, @Tryz.ql, @Tryz.qm, @Tryz.mb, @Tryz.jg, @Tryz.qn, @Tryz.qo, @Tryz.Ae, @Tryz.Af, @Tryz.Ah, @Tryz.Ai, @Tryz.gh, @Tryz.Aj, @Tryz.qp, @Tryz.qq, @Tryz.qt, @Tryz.mc, @Tryz.qu, @Tryz.qv, @Tryz.qw⟩
theorem Tryz.T4:type_of% @Tryz.qx∧type_of% @Tryz.qy∧type_of% @Tryz.Ak∧type_of% @Tryz.Al∧type_of% @Tryz.Am∧type_of% @Tryz.An∧type_of% @Tryz.Ao∧type_of% @Tryz.qz∧type_of% @Tryz.Ap∧type_of% @Tryz.qA∧type_of% @Tryz.qB∧type_of% @Tryz.Aq∧type_of% @Tryz.qC∧type_of% @Tryz.qD∧type_of% @Tryz.ji∧type_of% @Tryz.Ar∧type_of% @Tryz.As∧type_of% @Tryz.At∧type_of% @Tryz.Au∧type_of% @Tryz.me∧type_of% @Tryz.mf∧type_of% @Tryz.qE∧type_of% @Tryz.qF∧type_of% @Tryz.qG∧type_of% @Tryz.qH∧type_of% @Tryz.qI∧type_of% @Tryz.qJ∧type_of% @Tryz.qK∧type_of% @Tryz.qL∧type_of% @Tryz.qM∧type_of% @Tryz.Av∧type_of% @Tryz.qN∧type_of% @Tryz.Aw∧type_of% @Tryz.mg∧type_of% @Tryz.qO∧type_of% @Tryz.qP∧type_of% @Tryz.qQ∧type_of% @Tryz.qR∧type_of% @Tryz.Ax∧type_of% @Tryz.Ay∧type_of% @Tryz.Az∧type_of% @Tryz.mh∧type_of% @Tryz.mm∧type_of% @Tryz.nw∧type_of% @Tryz.kP∧type_of% @Tryz.uC∧type_of% @Tryz.kQ∧type_of% @Tryz.ny∧type_of% @Tryz.fq∧type_of% @Tryz.nz∧type_of% @Tryz.nA∧type_of% @Tryz.nB∧type_of% @Tryz.nC∧type_of% @Tryz.uD∧type_of% @Tryz.nD∧type_of% @Tryz.jB∧type_of% @Tryz.nF∧type_of% @Tryz.nG∧type_of% @Tryz.nH∧type_of% @Tryz.uF:=
 ⟨@Tryz.qx, @Tryz.qy, @Tryz.Ak, @Tryz.Al, @Tryz.Am, @Tryz.An, @Tryz.Ao, @Tryz.qz, @Tryz.Ap, @Tryz.qA, @Tryz.qB, @Tryz.Aq, @Tryz.qC, @Tryz.qD, @Tryz.ji, @Tryz.Ar, @Tryz.As, @Tryz.At, @Tryz.Au, @Tryz.me, @Tryz.mf, @Tryz.qE, @Tryz.qF, @Tryz.qG, @Tryz.qH, @Tryz.qI, @Tryz.qJ, @Tryz.qK, @Tryz.qL, @Tryz.qM, @Tryz.Av, @Tryz.qN, @Tryz.Aw, @Tryz.mg, @Tryz.qO, @Tryz.qP, @Tryz.qQ, @Tryz.qR, @Tryz.Ax, @Tryz.Ay, @Tryz.Az, @Tryz.mh, @Tryz.mm, @Tryz.nw, @Tryz.kP, @Tryz.uC, @Tryz.kQ, @Tryz.ny, @Tryz.fq, @Tryz.nz, @Tryz.nA, @Tryz.nB, @Tryz.nC, @Tryz.uD, @Tryz.nD, @Tryz.jB, @Tryz.nF, @Tryz.nG, @Tryz.nH, @Tryz.uF⟩
theorem Tryz.T5:type_of% @Tryz.uG∧type_of% @Tryz.ib∧type_of% @Tryz.jC∧type_of% @Tryz.ic∧type_of% @Tryz.bB∧type_of% @Tryz.nI∧type_of% @Tryz.gi∧type_of% @Tryz.nJ∧type_of% @Tryz.nK∧type_of% @Tryz.uH∧type_of% @Tryz.nL∧type_of% @Tryz.uI∧type_of% @Tryz.uJ∧type_of% @Tryz.nM∧type_of% @Tryz.nN∧type_of% @Tryz.ft∧type_of% @Tryz.uK∧type_of% @Tryz.uL∧type_of% @Tryz.nO∧type_of% @Tryz.nP∧type_of% @Tryz.uM∧type_of% @Tryz.ie∧type_of% @Tryz.uN∧type_of% @Tryz.uO∧type_of% @Tryz.uP∧type_of% @Tryz.uQ∧type_of% @Tryz.uR∧type_of% @Tryz.uS∧type_of% @Tryz.uT∧type_of% @Tryz.uU∧type_of% @Tryz.uV∧type_of% @Tryz.uW∧type_of% @Tryz.uX∧type_of% @Tryz.uY∧type_of% @Tryz.uZ∧type_of% @Tryz.ve∧type_of% @Tryz.vf∧type_of% @Tryz.vg∧type_of% @Tryz.vh∧type_of% @Tryz.vj∧type_of% @Tryz.vl∧type_of% @Tryz.vn∧type_of% @Tryz.vt∧type_of% @Tryz.vu∧type_of% @Tryz.vv∧type_of% @Tryz.vw∧type_of% @Tryz.vx∧type_of% @Tryz.vy∧type_of% @Tryz.vz∧type_of% @Tryz.vA∧type_of% @Tryz.vB∧type_of% @Tryz.vC∧type_of% @Tryz.vD∧type_of% @Tryz.vF∧type_of% @Tryz.vG∧type_of% @Tryz.vH∧type_of% @Tryz.vI∧type_of% @Tryz.vJ∧type_of% @Tryz.vK∧type_of% @Tryz.vL:=
 ⟨@Tryz.uG, @Tryz.ib, @Tryz.jC, @Tryz.ic, @Tryz.bB, @Tryz.nI, @Tryz.gi, @Tryz.nJ, @Tryz.nK, @Tryz.uH, @Tryz.nL, @Tryz.uI, @Tryz.uJ, @Tryz.nM, @Tryz.nN, @Tryz.ft, @Tryz.uK, @Tryz.uL, @Tryz.nO, @Tryz.nP, @Tryz.uM, @Tryz.ie, @Tryz.uN, @Tryz.uO, @Tryz.uP, @Tryz.uQ, @Tryz.uR, @Tryz.uS, @Tryz.uT, @Tryz.uU, @Tryz.uV, @Tryz.uW, @Tryz.uX, @Tryz.uY, @Tryz.uZ, @Tryz.ve, @Tryz.vf, @Tryz.vg, @Tryz.vh, @Tryz.vj, @Tryz.vl, @Tryz.vn, @Tryz.vt, @Tryz.vu, @Tryz.vv, @Tryz.vw, @Tryz.vx, @Tryz.vy, @Tryz.vz, @Tryz.vA, @Tryz.vB, @Tryz.vC, @Tryz.vD, @Tryz.vF, @Tryz.vG, @Tryz.vH, @Tryz.vI, @Tryz.vJ, @Tryz.vK, @Tryz.vL⟩
theorem Tryz.T6:type_of% @Tryz.vM∧type_of% @Tryz.vN∧type_of% @Tryz.vO∧type_of% @Tryz.vP∧type_of% @Tryz.vQ∧type_of% @Tryz.vR∧type_of% @Tryz.vS∧type_of% @Tryz.vT∧type_of% @Tryz.vU∧type_of% @Tryz.vV∧type_of% @Tryz.mixed∧type_of% @Tryz.ajb∧type_of% @Tryz.aey∧type_of% @Tryz.YO∧type_of% @Tryz.YP∧type_of% @Tryz.aez∧type_of% @Tryz.YQ∧type_of% @Tryz.YR∧type_of% @Tryz.YS∧type_of% @Tryz.YT∧type_of% @Tryz.YU∧type_of% @Tryz.aeA∧type_of% @Tryz.YV∧type_of% @Tryz.aeB∧type_of% @Tryz.aeC∧type_of% @Tryz.aeD∧type_of% @Tryz.YW∧type_of% @Tryz.aeE∧type_of% @Tryz.YX∧type_of% @Tryz.aeF∧type_of% @Tryz.YY∧type_of% @Tryz.YZ∧type_of% @Tryz.Y0∧type_of% @Tryz.Y1∧type_of% @Tryz.aeG∧type_of% @Tryz.Y2∧type_of% @Tryz.aeH∧type_of% @Tryz.aeI∧type_of% @Tryz.Y3∧type_of% @Tryz.Ty∧type_of% @Tryz.Tz∧type_of% @Tryz.TA∧type_of% @Tryz.Y4∧type_of% @Tryz.TB∧type_of% @Tryz.Y5∧type_of% @Tryz.Y6∧type_of% @Tryz.Y7∧type_of% @Tryz.Y8∧type_of% @Tryz.TC∧type_of% @Tryz.TD∧type_of% @Tryz.TE∧type_of% @Tryz.TF∧type_of% @Tryz.TG∧type_of% @Tryz.TH∧type_of% @Tryz.TI∧type_of% @Tryz.Y9∧type_of% @Tryz.TJ∧type_of% @Tryz.Y'∧type_of% @Tryz.TK∧type_of% @Tryz.TL:=
 ⟨@Tryz.vM, @Tryz.vN, @Tryz.vO, @Tryz.vP, @Tryz.vQ, @Tryz.vR, @Tryz.vS, @Tryz.vT, @Tryz.vU, @Tryz.vV, @Tryz.mixed, @Tryz.ajb, @Tryz.aey, @Tryz.YO, @Tryz.YP, @Tryz.aez, @Tryz.YQ, @Tryz.YR, @Tryz.YS, @Tryz.YT, @Tryz.YU, @Tryz.aeA, @Tryz.YV, @Tryz.aeB, @Tryz.aeC, @Tryz.aeD, @Tryz.YW, @Tryz.aeE, @Tryz.YX, @Tryz.aeF, @Tryz.YY, @Tryz.YZ, @Tryz.Y0, @Tryz.Y1, @Tryz.aeG, @Tryz.Y2, @Tryz.aeH, @Tryz.aeI, @Tryz.Y3, @Tryz.Ty, @Tryz.Tz, @Tryz.TA, @Tryz.Y4, @Tryz.TB, @Tryz.Y5, @Tryz.Y6, @Tryz.Y7, @Tryz.Y8, @Tryz.TC, @Tryz.TD, @Tryz.TE, @Tryz.TF, @Tryz.TG, @Tryz.TH, @Tryz.TI, @Tryz.Y9, @Tryz.TJ, @Tryz.Y', @Tryz.TK, @Tryz.TL⟩
theorem Tryz.T7:type_of% @Tryz.TM∧type_of% @Tryz.TN∧type_of% @Tryz.Za∧type_of% @Tryz.TO∧type_of% @Tryz.Zb∧type_of% @Tryz.TP∧type_of% @Tryz.TQ∧type_of% @Tryz.TR∧type_of% @Tryz.TS∧type_of% @Tryz.TT∧type_of% @Tryz.TU∧type_of% @Tryz.TV∧type_of% @Tryz.TW∧type_of% @Tryz.aih∧type_of% @Tryz.aii∧type_of% @Tryz.aij∧type_of% @Tryz.aik∧type_of% @Tryz.ail∧type_of% @Tryz.aim∧type_of% @Tryz.tab6∧type_of% @Tryz.ain∧type_of% @Tryz.aio∧type_of% @Tryz.aip∧type_of% @Tryz.ac'∧type_of% @Tryz.ada:=
 ⟨@Tryz.TM, @Tryz.TN, @Tryz.Za, @Tryz.TO, @Tryz.Zb, @Tryz.TP, @Tryz.TQ, @Tryz.TR, @Tryz.TS, @Tryz.TT, @Tryz.TU, @Tryz.TV, @Tryz.TW, @Tryz.aih, @Tryz.aii, @Tryz.aij, @Tryz.aik, @Tryz.ail, @Tryz.aim, @Tryz.tab6, @Tryz.ain, @Tryz.aio, @Tryz.aip, @Tryz.ac', @Tryz.ada⟩
theorem Tryz.facts:type_of% @Tryz.Zc∧type_of% @Tryz.Zd∧type_of% @Tryz.Ze∧type_of% @Tryz.Zf∧type_of% @Tryz.Zg∧type_of% @Tryz.Zh∧type_of% @Tryz.Zi∧type_of% @Tryz.Zj∧type_of% @Tryz.Zk∧type_of% @Tryz.Zl∧type_of% @Tryz.TX∧type_of% @Tryz.TY∧type_of% @Tryz.T0∧type_of% @Tryz.T4∧type_of% @Tryz.T5∧type_of% @Tryz.T6∧type_of% @Tryz.T7:=
 ⟨@Tryz.Zc, @Tryz.Zd, @Tryz.Ze, @Tryz.Zf, @Tryz.Zg, @Tryz.Zh, @Tryz.Zi, @Tryz.Zj, @Tryz.Zk, @Tryz.Zl, @Tryz.TX, @Tryz.TY, @Tryz.T0, @Tryz.T4, @Tryz.T5, @Tryz.T6, @Tryz.T7⟩
theorem Tryz.vq:type_of% @QB∧type_of% @QC∧type_of% @QD∧type_of% @QE∧type_of% @rules∧type_of% @Xf∧type_of% @DP∧type_of% @Tryz.facts∧type_of% @ac4∧type_of% @Int.toNat_zero∧type_of% @not_false_eq_true∧type_of% @Int.natCast_zero∧type_of% @Int.natCast_one:=
 ⟨@QB, @QC, @QD, @QE, @rules, @Xf, @DP, @Tryz.facts, @ac4, @Int.toNat_zero, @not_false_eq_true, @Int.natCast_zero, @Int.natCast_one⟩
theorem Tryz.vs:type_of% @Tryz.vq∧(∀ cs o new,splice cs o new=cs.take o++new++cs.drop (o+new.length)):=⟨@Tryz.vq,fun _ _ _=>rfl⟩
theorem Tryz.vr:type_of% @Tryz.vq∧type_of% @ah∧type_of% @hY∧type_of% @dP∧type_of% @ov∧type_of% @aF∧type_of% @Gs∧type_of% @Int.toNat_natCast∧type_of% @Nat.zero_add∧type_of% @bV:=
 ⟨@Tryz.vq, @ah, @hY, @dP, @ov, @aF, @Gs, @Int.toNat_natCast, @Nat.zero_add, @bV⟩
end Go.Proofs.YtoakenpcooglpaaGreatDoor
