/-
  Closed facts on the tables of this seat's program, each by the kernel (made by program from the translation: wip/lib/facts.py).
-/
import Derived.Test.YtpnehhpadofcbaaGreatDoorVcgQ0
import Derived.Test.YtpnehhpadofcbaaGreatDoorVcgWn
import Derived.Test.YtpnehhpadofcbaaGreatDoorVcgZ1
import Derived.Test.YtpnehhpadofcbaaGreatDoorProg
import Derived.KernelRfl
set_option linter.unusedVariables false
set_option linter.unusedSimpArgs false
namespace Go.Proofs.YtpnehhpadofcbaaGreatDoor
open Go.bU
class aO where
 place:Nat→Addr
 cells:Nat→Array Value
 ty:Nat→TypeId
 inj: ∀ i j,i < 9→j < 9→place i=place j→i=j
def BR [aO] (n:Nat):Option Nat:=(List.range 9).find? fun i=>(aO.place i).block==n
def aek [aO] (i:Nat):Value:= .pointer (some (aO.place i))
def gH [aO] (i:Nat):Value:= .iface 219 (aek i)
def abG (n:Nat):Nat:=[0,4,3,5,6,7,8,2,1].getD n 0
def BS [aO] (n:Nat):Option aN:=if n < 9 then some ⟨false,[Sum.inl (gH (abG n))]⟩ else if n=9 then some ⟨false,af .u32 8 cj⟩ else if n=10 then some ⟨false,af .u32 64 kW⟩ else if n=11 then some ⟨false,af .u32 64 kW⟩ else match BR n with
 | some _=>some ⟨false,[]⟩
 | none=>none
def tF [aO] (n:Nat):Option Obj:=match BR n with
 | some i=>some (.cells (aO.cells i) (aO.ty i) (0,0))
 | none=>none
theorem Zr [aO] (b:Nat) (o:Obj) (h:tF b=some o): ∃ bx,BS b=some bx:=by
 unfold tF at h
 unfold BS
 split at h
 ·rename_i i hi
  split
  ·exact ⟨_,rfl⟩
  ·split
   ·exact ⟨_,rfl⟩
   ·split
    ·exact ⟨_,rfl⟩
    ·split
     ·exact ⟨_,rfl⟩
     ·exact ⟨_,rfl⟩
 ·cases h
instance [aO]:bU.Tables Tryz.prog:={ row:=BS,Vy:=tF,sub:=Zr }
section
variable [aO]
theorem Tryz.abH:Tables.row Tryz.prog 0=some ⟨false,[Sum.inl (gH 0)]⟩:=rfl
theorem Tryz.abI:Tables.row Tryz.prog 1=some ⟨false,[Sum.inl (gH 4)]⟩:=rfl
theorem Tryz.abJ:Tables.row Tryz.prog 2=some ⟨false,[Sum.inl (gH 3)]⟩:=rfl
theorem Tryz.abK:Tables.row Tryz.prog 3=some ⟨false,[Sum.inl (gH 5)]⟩:=rfl
theorem Tryz.abL:Tables.row Tryz.prog 4=some ⟨false,[Sum.inl (gH 6)]⟩:=rfl
theorem Tryz.abM:Tables.row Tryz.prog 5=some ⟨false,[Sum.inl (gH 7)]⟩:=rfl
theorem Tryz.abN:Tables.row Tryz.prog 6=some ⟨false,[Sum.inl (gH 8)]⟩:=rfl
theorem Tryz.abO:Tables.row Tryz.prog 7=some ⟨false,[Sum.inl (gH 2)]⟩:=rfl
theorem Tryz.abP:Tables.row Tryz.prog 9=some ⟨false,af .u32 8 cj⟩:=rfl
theorem Tryz.Yb:Tables.row Tryz.prog 10=some ⟨false,af .u32 64 kW⟩:=rfl
theorem Tryz.Yc:Tables.row Tryz.prog 11=some ⟨false,af .u32 64 kW⟩:=rfl
end
theorem Tryz.Jw:kindOf Tryz.prog 3=some IntKind.i64:=by kernel_rfl
theorem Tryz.ki:rZ Tryz.prog 25=some (none,66):=by kernel_rfl
theorem Tryz.jQ:qh Tryz.prog 25=some (List.replicate 2 (Value.int IntKind.u32 0)++List.replicate 64 (Value.int IntKind.u8 0),66,72):=by kernel_rfl
theorem Tryz.bR:rZ Tryz.prog 28=some (none,1):=by kernel_rfl
theorem Tryz.bP:qh Tryz.prog 28=some ([Value.int IntKind.u8 0],1,1):=by kernel_rfl
theorem Tryz.PG:rZ Tryz.prog 83=some (none,32):=by kernel_rfl
theorem Tryz.EU:qh Tryz.prog 83=some (List.replicate 32 (Value.int IntKind.u8 0),32,32):=by kernel_rfl
theorem Tryz.Mu:gC Tryz.prog 117=some (16,1):=by kernel_rfl
theorem Tryz.Jx (i:Nat):placeOf Tryz.prog 117 i=some (i*1,1):=by unfold placeOf;rw[Tryz.Mu]
theorem Tryz.Mv:gC Tryz.prog 161=some (5,1):=by kernel_rfl
theorem Tryz.Jy (i:Nat):placeOf Tryz.prog 161 i=some (i*1,1):=by unfold placeOf;rw[Tryz.Mv]
theorem Tryz.Mw:gC Tryz.prog 183=some (4,1):=by kernel_rfl
theorem Tryz.Jz (i:Nat):placeOf Tryz.prog 183 i=some (i*1,1):=by unfold placeOf;rw[Tryz.Mw]
theorem Tryz.Mx:gC Tryz.prog 189=some (8,1):=by kernel_rfl
theorem Tryz.JA (i:Nat):placeOf Tryz.prog 189 i=some (i*1,1):=by unfold placeOf;rw[Tryz.Mx]
theorem Tryz.My:gC Tryz.prog 209=some (4,1):=by kernel_rfl
theorem Tryz.JB (i:Nat):placeOf Tryz.prog 209 i=some (i*1,1):=by unfold placeOf;rw[Tryz.My]
theorem Tryz.Re:ai Tryz.prog 3=true:=by kernel_rfl
theorem Tryz.xJ:ai Tryz.prog 4=true:=by kernel_rfl
theorem Tryz.rQ:ai Tryz.prog 5=true:=by kernel_rfl
theorem Tryz.xK:ai Tryz.prog 6=true:=by kernel_rfl
theorem Tryz.xL:ai Tryz.prog 7=true:=by kernel_rfl
theorem Tryz.xM:ai Tryz.prog 8=true:=by kernel_rfl
theorem Tryz.xN:ai Tryz.prog 9=true:=by kernel_rfl
theorem Tryz.tG:ai Tryz.prog 10=true:=by kernel_rfl
theorem Tryz.tH:ai Tryz.prog 11=true:=by kernel_rfl
theorem Tryz.tI:ai Tryz.prog 12=true:=by kernel_rfl
theorem Tryz.o8:ai Tryz.prog 13=true:=by kernel_rfl
theorem Tryz.tJ:ai Tryz.prog 14=true:=by kernel_rfl
theorem Tryz.o9:ai Tryz.prog 15=true:=by kernel_rfl
theorem Tryz.tK:ai Tryz.prog 16=true:=by kernel_rfl
theorem Tryz.tL:ai Tryz.prog 17=true:=by kernel_rfl
theorem Tryz.kQ:ai Tryz.prog 18=true:=by kernel_rfl
theorem Tryz.tM:ai Tryz.prog 19=true:=by kernel_rfl
theorem Tryz.tN:ai Tryz.prog 20=true:=by kernel_rfl
theorem Tryz.tO:ai Tryz.prog 21=true:=by kernel_rfl
theorem Tryz.tP:ai Tryz.prog 22=true:=by kernel_rfl
theorem Tryz.tQ:ai Tryz.prog 23=true:=by kernel_rfl
theorem Tryz.tR:ai Tryz.prog 24=true:=by kernel_rfl
theorem Tryz.tS:ai Tryz.prog 25=true:=by kernel_rfl
theorem Tryz.tU:ai Tryz.prog 26=true:=by kernel_rfl
theorem Tryz.tV:ai Tryz.prog 27=true:=by kernel_rfl
theorem Tryz.pa:ai Tryz.prog 28=true:=by kernel_rfl
theorem Tryz.tW:ai Tryz.prog 29=true:=by kernel_rfl
theorem Tryz.tX:ai Tryz.prog 30=true:=by kernel_rfl
theorem Tryz.pb:ai Tryz.prog 31=true:=by kernel_rfl
theorem Tryz.tY:ai Tryz.prog 34=true:=by kernel_rfl
theorem Tryz.ph:ai Tryz.prog 35=true:=by kernel_rfl
theorem Tryz.pj:ai Tryz.prog 36=true:=by kernel_rfl
theorem Tryz.po:ai Tryz.prog 37=true:=by kernel_rfl
theorem Tryz.tZ:ai Tryz.prog 38=true:=by kernel_rfl
theorem Tryz.ua:ai Tryz.prog 39=true:=by kernel_rfl
theorem Tryz.pq:ai Tryz.prog 40=true:=by kernel_rfl
theorem Tryz.ub:ai Tryz.prog 41=true:=by kernel_rfl
theorem Tryz.uc:ai Tryz.prog 42=true:=by kernel_rfl
theorem Tryz.ud:ai Tryz.prog 43=true:=by kernel_rfl
theorem Tryz.uf:ai Tryz.prog 46=true:=by kernel_rfl
theorem Tryz.ug:ai Tryz.prog 47=true:=by kernel_rfl
theorem Tryz.uh:ai Tryz.prog 48=true:=by kernel_rfl
theorem Tryz.ui:ai Tryz.prog 49=true:=by kernel_rfl
theorem Tryz.uj:ai Tryz.prog 50=true:=by kernel_rfl
theorem Tryz.uk:ai Tryz.prog 51=true:=by kernel_rfl
theorem Tryz.um:ai Tryz.prog 52=true:=by kernel_rfl
theorem Tryz.uo:ai Tryz.prog 53=true:=by kernel_rfl
theorem Tryz.uq:ai Tryz.prog 54=true:=by kernel_rfl
theorem Tryz.ur:ai Tryz.prog 55=true:=by kernel_rfl
theorem Tryz.uv:ai Tryz.prog 56=true:=by kernel_rfl
theorem Tryz.uw:ai Tryz.prog 57=true:=by kernel_rfl
theorem Tryz.ux:ai Tryz.prog 58=true:=by kernel_rfl
theorem Tryz.pv:ai Tryz.prog 59=true:=by kernel_rfl
theorem Tryz.pw:ai Tryz.prog 60=true:=by kernel_rfl
theorem Tryz.uy:ai Tryz.prog 61=true:=by kernel_rfl
theorem Tryz.uz:ai Tryz.prog 62=true:=by kernel_rfl
theorem Tryz.pz:ai Tryz.prog 65=true:=by kernel_rfl
theorem Tryz.uA:ai Tryz.prog 66=true:=by kernel_rfl
theorem Tryz.Mz:ai Tryz.prog 67=true:=by kernel_rfl
theorem Tryz.uB:ai Tryz.prog 68=true:=by kernel_rfl
theorem Tryz.MA:ai Tryz.prog 70=true:=by kernel_rfl
theorem Tryz.iC:ai Tryz.prog 75=true:=by kernel_rfl
theorem Tryz.MB:ai Tryz.prog 76=true:=by kernel_rfl
theorem Tryz.MC:ai Tryz.prog 77=true:=by kernel_rfl
theorem Tryz.uC:ai Tryz.prog 78=true:=by kernel_rfl
theorem Tryz.uD:ai Tryz.prog 79=true:=by kernel_rfl
theorem Tryz.uF:ai Tryz.prog 80=true:=by kernel_rfl
theorem Tryz.kR:ai Tryz.prog 81=true:=by kernel_rfl
theorem Tryz.uG:ai Tryz.prog 82=true:=by kernel_rfl
theorem Tryz.pA:ai Tryz.prog 83=true:=by kernel_rfl
theorem Tryz.pB:ai Tryz.prog 87=true:=by kernel_rfl
theorem Tryz.uH:ai Tryz.prog 88=true:=by kernel_rfl
theorem Tryz.pC:ai Tryz.prog 89=true:=by kernel_rfl
theorem Tryz.kS:ai Tryz.prog 90=true:=by kernel_rfl
theorem Tryz.MD:ai Tryz.prog 95=true:=by kernel_rfl
theorem Tryz.BT:ai Tryz.prog 96=true:=by kernel_rfl
theorem Tryz.uI:ai Tryz.prog 97=true:=by kernel_rfl
theorem Tryz.pD:ai Tryz.prog 98=true:=by kernel_rfl
theorem Tryz.nF:ai Tryz.prog 100=true:=by kernel_rfl
theorem Tryz.yY:ai Tryz.prog 101=true:=by kernel_rfl
theorem Tryz.nG:ai Tryz.prog 102=true:=by kernel_rfl
theorem Tryz.nH:ai Tryz.prog 103=true:=by kernel_rfl
theorem Tryz.JC:ai Tryz.prog 104=true:=by kernel_rfl
theorem Tryz.JD:ai Tryz.prog 105=true:=by kernel_rfl
theorem Tryz.JE:ai Tryz.prog 106=true:=by kernel_rfl
theorem Tryz.JF:ai Tryz.prog 107=true:=by kernel_rfl
theorem Tryz.JG:ai Tryz.prog 108=true:=by kernel_rfl
theorem Tryz.JH:ai Tryz.prog 109=true:=by kernel_rfl
theorem Tryz.qM:ai Tryz.prog 110=true:=by kernel_rfl
theorem Tryz.nI:ai Tryz.prog 113=true:=by kernel_rfl
theorem Tryz.yZ:ai Tryz.prog 114=true:=by kernel_rfl
theorem Tryz.qN:ai Tryz.prog 115=true:=by kernel_rfl
theorem Tryz.qO:ai Tryz.prog 118=true:=by kernel_rfl
theorem Tryz.qP:ai Tryz.prog 119=true:=by kernel_rfl
theorem Tryz.nJ:ai Tryz.prog 120=true:=by kernel_rfl
theorem Tryz.qQ:ai Tryz.prog 122=true:=by kernel_rfl
theorem Tryz.qR:ai Tryz.prog 124=true:=by kernel_rfl
theorem Tryz.y':ai Tryz.prog 126=true:=by kernel_rfl
theorem Tryz.JI:ai Tryz.prog 127=true:=by kernel_rfl
theorem Tryz.gi:ai Tryz.prog 128=true:=by kernel_rfl
theorem Tryz.JJ:ai Tryz.prog 129=true:=by kernel_rfl
theorem Tryz.JK:ai Tryz.prog 130=true:=by kernel_rfl
theorem Tryz.qS:ai Tryz.prog 132=true:=by kernel_rfl
theorem Tryz.qT:ai Tryz.prog 133=true:=by kernel_rfl
theorem Tryz.qU:ai Tryz.prog 134=true:=by kernel_rfl
theorem Tryz.qV:ai Tryz.prog 136=true:=by kernel_rfl
theorem Tryz.qW:ai Tryz.prog 137=true:=by kernel_rfl
theorem Tryz.JL:ai Tryz.prog 138=true:=by kernel_rfl
theorem Tryz.JM:ai Tryz.prog 139=true:=by kernel_rfl
theorem Tryz.qX:ai Tryz.prog 140=true:=by kernel_rfl
theorem Tryz.nK:ai Tryz.prog 141=true:=by kernel_rfl
theorem Tryz.lI:ai Tryz.prog 142=true:=by kernel_rfl
theorem Tryz.jS:ai Tryz.prog 143=true:=by kernel_rfl
theorem Tryz.bJ:ai Tryz.prog 144=true:=by kernel_rfl
theorem Tryz.qY:ai Tryz.prog 145=true:=by kernel_rfl
theorem Tryz.lJ:ai Tryz.prog 146=true:=by kernel_rfl
theorem Tryz.gj:ai Tryz.prog 147=true:=by kernel_rfl
theorem Tryz.JN:ai Tryz.prog 148=true:=by kernel_rfl
theorem Tryz.JO:ai Tryz.prog 149=true:=by kernel_rfl
theorem Tryz.qZ:ai Tryz.prog 151=true:=by kernel_rfl
theorem Tryz.rf:ai Tryz.prog 154=true:=by kernel_rfl
theorem Tryz.JQ:ai Tryz.prog 157=true:=by kernel_rfl
theorem Tryz.JR:ai Tryz.prog 158=true:=by kernel_rfl
theorem Tryz.jT:ai Tryz.prog 160=true:=by kernel_rfl
theorem Tryz.mixed:Tryz.prog.follows .mixedOrders=true:=by kernel_rfl
theorem fa0:dX Tryz.prog 3=some (false,1)∧dX Tryz.prog 4=some (false,1)∧dX Tryz.prog 5=some (false,1)∧kindOf Tryz.prog 5=some IntKind.u8∧dX Tryz.prog 23=some (true,32)∧gC Tryz.prog 23=some (32,1)∧qw Tryz.prog 23=some (32,false,1)∧rZ Tryz.prog 23=some (some 32,1)∧zeroOf Tryz.prog 23=some (List.replicate 32 (Value.int IntKind.u8 0))∧dO Tryz.prog 23=some (List.replicate 32 (Sum.inl (Value.int IntKind.u8 0)))∧dX Tryz.prog 24=some (false,1)∧kindOf Tryz.prog 24=some IntKind.u32∧dX Tryz.prog 25=some (false,1)∧bU.elemOf Tryz.prog 25=some 66∧dX Tryz.prog 27=some (true,203)∧zeroOf Tryz.prog 27=some (List.replicate 3 (Value.bool false)++List.replicate 192 (Value.int IntKind.u8 0)++List.replicate 5 (Value.int IntKind.u32 0)++List.replicate 2 (Value.int IntKind.i64 0)++List.replicate 1 (Value.slice none 0 0))∧bh Tryz.prog 27 0=some (0,false,1)∧bh Tryz.prog 27 1=some (1,false,1)∧bh Tryz.prog 27 2=some (2,false,1)∧bh Tryz.prog 27 3=some (3,true,32)∧bh Tryz.prog 27 4=some (35,true,32)∧bh Tryz.prog 27 5=some (67,true,32)∧bh Tryz.prog 27 6=some (99,true,32)∧bh Tryz.prog 27 7=some (131,true,32)∧bh Tryz.prog 27 8=some (163,true,32)∧bh Tryz.prog 27 9=some (195,false,1)∧bh Tryz.prog 27 10=some (196,false,1)∧bh Tryz.prog 27 11=some (197,false,1)∧bh Tryz.prog 27 12=some (198,false,1)∧bh Tryz.prog 27 13=some (199,false,1)∧bh Tryz.prog 27 14=some (200,false,1)∧bh Tryz.prog 27 15=some (201,false,1)∧bh Tryz.prog 27 16=some (202,false,1)∧dX Tryz.prog 28=some (false,1)∧bU.elemOf Tryz.prog 28=some 1∧VI Tryz.prog 28=true∧dX Tryz.prog 30=some (true,2)∧zeroOf Tryz.prog 30=some ([Value.slice none 0 0,Value.int IntKind.i64 0])∧dO Tryz.prog 30=some ([Sum.inl (Value.slice none 0 0),Sum.inl (Value.int IntKind.i64 0)])∧bh Tryz.prog 30 0=some (0,false,1)∧placeOf Tryz.prog 30 0=some (0,1)∧bh Tryz.prog 30 1=some (1,false,1)∧placeOf Tryz.prog 30 1=some (1,1)∧dX Tryz.prog 33=some (true,2)∧zeroOf Tryz.prog 33=some ([Value.slice none 0 0,Value.int IntKind.i64 0])∧dO Tryz.prog 33=some ([Sum.inl (Value.slice none 0 0),Sum.inl (Value.int IntKind.i64 0)])∧bh Tryz.prog 33 0=some (0,false,1)∧placeOf Tryz.prog 33 0=some (0,1)∧bh Tryz.prog 33 1=some (1,false,1)∧placeOf Tryz.prog 33 1=some (1,1):=by
 iterate 49 (refine ⟨by kernel_rfl, ?_⟩)
 kernel_rfl
theorem fa1:dX Tryz.prog 36=some (true,207)∧zeroOf Tryz.prog 36=some (List.replicate 1 (Value.int IntKind.i64 0)++List.replicate 3 (Value.bool false)++List.replicate 192 (Value.int IntKind.u8 0)++List.replicate 5 (Value.int IntKind.u32 0)++List.replicate 2 (Value.int IntKind.i64 0)++List.replicate 2 (Value.slice none 0 0)++List.replicate 2 (Value.int IntKind.u32 0))∧dO Tryz.prog 36=some (List.replicate 1 (Sum.inl (Value.int IntKind.i64 0))++List.replicate 3 (Sum.inl (Value.bool false))++List.replicate 192 (Sum.inl (Value.int IntKind.u8 0))++List.replicate 5 (Sum.inl (Value.int IntKind.u32 0))++List.replicate 2 (Sum.inl (Value.int IntKind.i64 0))++List.replicate 2 (Sum.inl (Value.slice none 0 0))++List.replicate 2 (Sum.inl (Value.int IntKind.u32 0)))∧bh Tryz.prog 36 0=some (0,false,1)∧placeOf Tryz.prog 36 0=some (0,1)∧bh Tryz.prog 36 1=some (1,true,203)∧placeOf Tryz.prog 36 1=some (1,203)∧bh Tryz.prog 36 2=some (204,false,1)∧placeOf Tryz.prog 36 2=some (204,1)∧bh Tryz.prog 36 3=some (205,false,1)∧placeOf Tryz.prog 36 3=some (205,1)∧bh Tryz.prog 36 4=some (206,false,1)∧placeOf Tryz.prog 36 4=some (206,1)∧dX Tryz.prog 47=some (true,66)∧zeroOf Tryz.prog 47=some (List.replicate 2 (Value.int IntKind.u32 0)++List.replicate 64 (Value.int IntKind.u8 0))∧dO Tryz.prog 47=some (List.replicate 2 (Sum.inl (Value.int IntKind.u32 0))++List.replicate 64 (Sum.inl (Value.int IntKind.u8 0)))∧bh Tryz.prog 47 0=some (0,false,1)∧placeOf Tryz.prog 47 0=some (0,1)∧bh Tryz.prog 47 1=some (1,false,1)∧placeOf Tryz.prog 47 1=some (1,1)∧bh Tryz.prog 47 2=some (2,true,32)∧placeOf Tryz.prog 47 2=some (2,32)∧bh Tryz.prog 47 3=some (34,true,32)∧placeOf Tryz.prog 47 3=some (34,32)∧dX Tryz.prog 59=some (true,34)∧zeroOf Tryz.prog 59=some (List.replicate 32 (Value.int IntKind.u8 0)++List.replicate 2 (Value.int IntKind.u32 0))∧dO Tryz.prog 59=some (List.replicate 32 (Sum.inl (Value.int IntKind.u8 0))++List.replicate 2 (Sum.inl (Value.int IntKind.u32 0)))∧bh Tryz.prog 59 0=some (0,true,32)∧placeOf Tryz.prog 59 0=some (0,32)∧bh Tryz.prog 59 1=some (32,false,1)∧placeOf Tryz.prog 59 1=some (32,1)∧bh Tryz.prog 59 2=some (33,false,1)∧placeOf Tryz.prog 59 2=some (33,1)∧dX Tryz.prog 61=some (true,67)∧zeroOf Tryz.prog 61=some (List.replicate 32 (Value.int IntKind.u8 0)++List.replicate 2 (Value.int IntKind.u32 0)++List.replicate 1 (Value.slice none 0 0)++List.replicate 32 (Value.int IntKind.u8 0))∧dO Tryz.prog 61=some (List.replicate 32 (Sum.inl (Value.int IntKind.u8 0))++List.replicate 2 (Sum.inl (Value.int IntKind.u32 0))++List.replicate 1 (Sum.inl (Value.slice none 0 0))++List.replicate 32 (Sum.inl (Value.int IntKind.u8 0)))∧bh Tryz.prog 61 0=some (0,true,34)∧placeOf Tryz.prog 61 0=some (0,34)∧bh Tryz.prog 61 1=some (34,false,1)∧placeOf Tryz.prog 61 1=some (34,1)∧bh Tryz.prog 61 2=some (35,true,32)∧placeOf Tryz.prog 61 2=some (35,32)∧dX Tryz.prog 73=some (false,1)∧kindOf Tryz.prog 73=some IntKind.u64∧dO Tryz.prog 82=some (List.replicate 1 (Sum.inl (Value.slice none 0 0))++List.replicate 32 (Sum.inl (Value.int IntKind.u8 0)))∧bh Tryz.prog 82 0=some (0,false,1)∧placeOf Tryz.prog 82 0=some (0,1)∧bh Tryz.prog 82 1=some (1,true,32)∧placeOf Tryz.prog 82 1=some (1,32)∧bU.elemOf Tryz.prog 83=some 32:=by
 iterate 49 (refine ⟨by kernel_rfl, ?_⟩)
 kernel_rfl
theorem fa2:dO Tryz.prog 103=some (List.replicate 3 (Sum.inl (Value.bool false))++List.replicate 192 (Sum.inl (Value.int IntKind.u8 0))++List.replicate 5 (Sum.inl (Value.int IntKind.u32 0))++List.replicate 2 (Sum.inl (Value.int IntKind.i64 0))++List.replicate 1 (Sum.inl (Value.slice none 0 0)))∧bh Tryz.prog 103 0=some (0,true,203)∧placeOf Tryz.prog 103 0=some (0,203)∧kindOf Tryz.prog 109=some IntKind.u64∧dX Tryz.prog 117=some (true,16)∧zeroOf Tryz.prog 117=some (List.replicate 16 (Value.int IntKind.u64 0))∧dO Tryz.prog 117=some (List.replicate 16 (Sum.inl (Value.int IntKind.u64 0)))∧dX Tryz.prog 120=some (true,64)∧zeroOf Tryz.prog 120=some (List.replicate 64 (Value.int IntKind.u64 0))∧dO Tryz.prog 120=some (List.replicate 64 (Sum.inl (Value.int IntKind.u64 0)))∧bh Tryz.prog 120 0=some (0,true,16)∧placeOf Tryz.prog 120 0=some (0,16)∧bh Tryz.prog 120 1=some (16,true,16)∧placeOf Tryz.prog 120 1=some (16,16)∧bh Tryz.prog 120 2=some (32,true,16)∧placeOf Tryz.prog 120 2=some (32,16)∧bh Tryz.prog 120 3=some (48,true,16)∧placeOf Tryz.prog 120 3=some (48,16)∧dX Tryz.prog 128=some (true,1)∧zeroOf Tryz.prog 128=some ([Value.slice none 0 0])∧dO Tryz.prog 128=some ([Sum.inl (Value.slice none 0 0)])∧bh Tryz.prog 128 0=some (0,false,1)∧placeOf Tryz.prog 128 0=some (0,1)∧dX Tryz.prog 146=some (true,16)∧gC Tryz.prog 146=some (16,1)∧rZ Tryz.prog 146=some (some 16,1)∧zeroOf Tryz.prog 146=some (List.replicate 16 (Value.int IntKind.u8 0))∧dX Tryz.prog 156=some (true,80)∧zeroOf Tryz.prog 156=some (List.replicate 80 (Value.int IntKind.u8 0))∧dO Tryz.prog 156=some (List.replicate 80 (Sum.inl (Value.int IntKind.u8 0)))∧bh Tryz.prog 156 0=some (0,true,32)∧placeOf Tryz.prog 156 0=some (0,32)∧bh Tryz.prog 156 1=some (32,true,32)∧placeOf Tryz.prog 156 1=some (32,32)∧bh Tryz.prog 156 2=some (64,true,16)∧placeOf Tryz.prog 156 2=some (64,16)∧dX Tryz.prog 161=some (true,5)∧qw Tryz.prog 161=some (5,false,1)∧zeroOf Tryz.prog 161=some ([Value.int IntKind.u64 0,Value.int IntKind.u64 0,Value.int IntKind.u64 0,Value.int IntKind.u64 0,Value.int IntKind.u64 0])∧dO Tryz.prog 161=some ([Sum.inl (Value.int IntKind.u64 0),Sum.inl (Value.int IntKind.u64 0),Sum.inl (Value.int IntKind.u64 0),Sum.inl (Value.int IntKind.u64 0),Sum.inl (Value.int IntKind.u64 0)])∧dX Tryz.prog 166=some (true,256)∧gC Tryz.prog 166=some (256,1)∧zeroOf Tryz.prog 166=some (List.replicate 256 (Value.int IntKind.u8 0))∧dX Tryz.prog 168=some (true,240)∧gC Tryz.prog 168=some (240,1)∧zeroOf Tryz.prog 168=some (List.replicate 240 (Value.int IntKind.u8 0))∧bU.elemOf Tryz.prog 172=some 1∧qh Tryz.prog 172=some ([Value.int IntKind.i64 0],1,8)∧gC Tryz.prog 176=some (15,16)∧dX Tryz.prog 178=some (true,496):=by
 iterate 49 (refine ⟨by kernel_rfl, ?_⟩)
 kernel_rfl
theorem fa3:zeroOf Tryz.prog 178=some (List.replicate 496 (Value.int IntKind.u8 0))∧dO Tryz.prog 178=some (List.replicate 496 (Sum.inl (Value.int IntKind.u8 0)))∧bh Tryz.prog 178 0=some (0,true,256)∧placeOf Tryz.prog 178 0=some (0,256)∧bh Tryz.prog 178 1=some (256,true,240)∧dX Tryz.prog 183=some (true,4)∧zeroOf Tryz.prog 183=some ([Value.int IntKind.u64 0,Value.int IntKind.u64 0,Value.int IntKind.u64 0,Value.int IntKind.u64 0])∧dO Tryz.prog 183=some ([Sum.inl (Value.int IntKind.u64 0),Sum.inl (Value.int IntKind.u64 0),Sum.inl (Value.int IntKind.u64 0),Sum.inl (Value.int IntKind.u64 0)])∧dX Tryz.prog 185=some (true,20)∧zeroOf Tryz.prog 185=some (List.replicate 20 (Value.int IntKind.u64 0))∧dO Tryz.prog 185=some (List.replicate 20 (Sum.inl (Value.int IntKind.u64 0)))∧bh Tryz.prog 185 0=some (0,true,5)∧placeOf Tryz.prog 185 0=some (0,5)∧bh Tryz.prog 185 1=some (5,true,5)∧placeOf Tryz.prog 185 1=some (5,5)∧bh Tryz.prog 185 2=some (10,true,5)∧placeOf Tryz.prog 185 2=some (10,5)∧bh Tryz.prog 185 3=some (15,true,5)∧placeOf Tryz.prog 185 3=some (15,5)∧dX Tryz.prog 189=some (true,8)∧qw Tryz.prog 189=some (8,false,1)∧zeroOf Tryz.prog 189=some ([Value.int IntKind.u32 0,Value.int IntKind.u32 0,Value.int IntKind.u32 0,Value.int IntKind.u32 0,Value.int IntKind.u32 0,Value.int IntKind.u32 0,Value.int IntKind.u32 0,Value.int IntKind.u32 0])∧dO Tryz.prog 189=some ([Sum.inl (Value.int IntKind.u32 0),Sum.inl (Value.int IntKind.u32 0),Sum.inl (Value.int IntKind.u32 0),Sum.inl (Value.int IntKind.u32 0),Sum.inl (Value.int IntKind.u32 0),Sum.inl (Value.int IntKind.u32 0),Sum.inl (Value.int IntKind.u32 0),Sum.inl (Value.int IntKind.u32 0)])∧bU.elemOf Tryz.prog 192=some 1∧qh Tryz.prog 192=some ([Value.slice none 0 0],1,24)∧dX Tryz.prog 199=some (true,2)∧zeroOf Tryz.prog 199=some ([Value.int IntKind.u64 0,Value.int IntKind.u64 0])∧dO Tryz.prog 199=some ([Sum.inl (Value.int IntKind.u64 0),Sum.inl (Value.int IntKind.u64 0)])∧bh Tryz.prog 199 0=some (0,false,1)∧placeOf Tryz.prog 199 0=some (0,1)∧bh Tryz.prog 199 1=some (1,false,1)∧placeOf Tryz.prog 199 1=some (1,1)∧dX Tryz.prog 203=some (true,64)∧gC Tryz.prog 203=some (64,1)∧zeroOf Tryz.prog 203=some (List.replicate 64 (Value.int IntKind.u32 0))∧dX Tryz.prog 207=some (true,255)∧gC Tryz.prog 207=some (255,1)∧qw Tryz.prog 207=some (255,false,1)∧zeroOf Tryz.prog 207=some (List.replicate 255 (Value.int IntKind.u8 0))∧dX Tryz.prog 209=some (true,4)∧qw Tryz.prog 209=some (4,false,1)∧rZ Tryz.prog 209=some (some 4,1)∧zeroOf Tryz.prog 209=some ([Value.int IntKind.u8 0,Value.int IntKind.u8 0,Value.int IntKind.u8 0,Value.int IntKind.u8 0])∧dO Tryz.prog 209=some ([Sum.inl (Value.int IntKind.u8 0),Sum.inl (Value.int IntKind.u8 0),Sum.inl (Value.int IntKind.u8 0),Sum.inl (Value.int IntKind.u8 0)])∧dX Tryz.prog 210=some (true,240)∧gC Tryz.prog 210=some (60,4)∧qw Tryz.prog 210=some (60,true,4)∧zeroOf Tryz.prog 210=some (List.replicate 240 (Value.int IntKind.u8 0))∧ai Tryz.prog 32=true∧ai Tryz.prog 33=true:=by
 iterate 49 (refine ⟨by kernel_rfl, ?_⟩)
 kernel_rfl
theorem fa4:ai Tryz.prog 69=true∧ai Tryz.prog 71=true∧ai Tryz.prog 72=true∧ai Tryz.prog 73=true∧ai Tryz.prog 74=true∧ai Tryz.prog 86=true∧ai Tryz.prog 91=true∧ai Tryz.prog 92=true∧ai Tryz.prog 93=true∧ai Tryz.prog 94=true∧ai Tryz.prog 99=true∧ai Tryz.prog 111=true∧ai Tryz.prog 112=true∧ai Tryz.prog 116=true∧ai Tryz.prog 117=true∧ai Tryz.prog 121=true∧ai Tryz.prog 123=true∧ai Tryz.prog 125=true∧ai Tryz.prog 131=true∧ai Tryz.prog 135=true∧ai Tryz.prog 150=true∧ai Tryz.prog 152=true∧ai Tryz.prog 153=true∧ai Tryz.prog 155=true∧ai Tryz.prog 156=false∧ai Tryz.prog 159=true∧ai Tryz.prog 161=true∧isBool Tryz.prog 4=true∧lu Tryz.prog 23=some (32,IntKind.u8)∧vq Tryz.prog [25]=1∧vq Tryz.prog [28]=1∧lu Tryz.prog 47=none∧G9 Tryz.prog 47=some [(0,1,IntKind.u32),(1,1,IntKind.u32),(2,32,IntKind.u8),(34,32,IntKind.u8)]∧isIface Tryz.prog 50=true∧vq Tryz.prog [172]=1∧vq Tryz.prog [192]=1:=by
 iterate 35 (refine ⟨by kernel_rfl, ?_⟩)
 kernel_rfl
theorem abQ:type_of% @Tryz.Jw∧type_of% @Tryz.ki∧type_of% @Tryz.jQ∧type_of% @Tryz.bR∧type_of% @Tryz.bP∧type_of% @Tryz.EU∧type_of% @Tryz.Jx∧type_of% @Tryz.Jy∧type_of% @Tryz.Jz∧type_of% @Tryz.JA∧type_of% @Tryz.JB∧type_of% @Tryz.xJ∧type_of% @Tryz.rQ∧type_of% @Tryz.xK∧type_of% @Tryz.xL∧type_of% @Tryz.xM∧type_of% @Tryz.xN∧type_of% @Tryz.tG∧type_of% @Tryz.tH∧type_of% @Tryz.tI∧type_of% @Tryz.o8∧type_of% @Tryz.tJ∧type_of% @Tryz.o9∧type_of% @Tryz.tK∧type_of% @Tryz.tL∧type_of% @Tryz.kQ∧type_of% @Tryz.tM∧type_of% @Tryz.tN∧type_of% @Tryz.tO∧type_of% @Tryz.tP∧type_of% @Tryz.tQ∧type_of% @Tryz.tR∧type_of% @Tryz.tS∧type_of% @Tryz.tU∧type_of% @Tryz.tV∧type_of% @Tryz.pa∧type_of% @Tryz.tW∧type_of% @Tryz.tX∧type_of% @Tryz.pb∧type_of% @Tryz.tY∧type_of% @Tryz.pj∧type_of% @Tryz.po∧type_of% @Tryz.tZ∧type_of% @Tryz.ua∧type_of% @Tryz.pq∧type_of% @Tryz.ub∧type_of% @Tryz.uc∧type_of% @Tryz.ud∧type_of% @Tryz.uf∧type_of% @Tryz.ug∧type_of% @Tryz.uh∧type_of% @Tryz.ui∧type_of% @Tryz.uj∧type_of% @Tryz.uk∧type_of% @Tryz.um∧type_of% @Tryz.uo∧type_of% @Tryz.uq∧type_of% @Tryz.ur∧type_of% @Tryz.uv∧type_of% @Tryz.uw∧type_of% @Tryz.ux∧type_of% @Tryz.pv∧type_of% @Tryz.pw∧type_of% @Tryz.uy∧type_of% @Tryz.uz∧type_of% @Tryz.pz∧type_of% @Tryz.uA∧type_of% @Tryz.uB∧type_of% @Tryz.iC∧type_of% @Tryz.uC∧type_of% @Tryz.uD∧type_of% @Tryz.uF∧type_of% @Tryz.kR∧type_of% @Tryz.uG∧type_of% @Tryz.pA∧type_of% @Tryz.pB∧type_of% @Tryz.uH∧type_of% @Tryz.pC∧type_of% @Tryz.kS∧type_of% @Tryz.uI∧type_of% @Tryz.pD∧type_of% @Tryz.nG∧type_of% @Tryz.nH∧type_of% @Tryz.qM∧type_of% @Tryz.nI∧type_of% @Tryz.qN∧type_of% @Tryz.qO∧type_of% @Tryz.qP∧type_of% @Tryz.nJ∧type_of% @Tryz.qQ∧type_of% @Tryz.qR∧type_of% @Tryz.gi∧type_of% @Tryz.qS∧type_of% @Tryz.qT∧type_of% @Tryz.qU∧type_of% @Tryz.qV∧type_of% @Tryz.qX∧type_of% @Tryz.lI∧type_of% @Tryz.jS∧type_of% @Tryz.qY∧type_of% @Tryz.gj∧type_of% @Tryz.qZ∧type_of% @Tryz.rf∧type_of% @Tryz.jT∧type_of% @Tryz.mixed∧type_of% @Tryz.Mu∧type_of% @Tryz.Mv∧type_of% @Tryz.Mw∧type_of% @Tryz.Mx∧type_of% @Tryz.My∧type_of% @Tryz.Yb∧type_of% @Tryz.abK∧type_of% @Tryz.abO∧type_of% @Tryz.Yc∧type_of% @Tryz.abI∧type_of% @Tryz.abM∧type_of% @Tryz.abL∧type_of% @Tryz.abJ∧type_of% @Tryz.abP∧type_of% @Tryz.abH∧type_of% @Tryz.abN∧type_of% @fa0∧type_of% @fa1∧type_of% @fa2∧type_of% @fa3∧type_of% @fa4:=
 ⟨@Tryz.Jw, @Tryz.ki, @Tryz.jQ, @Tryz.bR, @Tryz.bP, @Tryz.EU, @Tryz.Jx, @Tryz.Jy, @Tryz.Jz, @Tryz.JA, @Tryz.JB, @Tryz.xJ, @Tryz.rQ, @Tryz.xK, @Tryz.xL, @Tryz.xM, @Tryz.xN, @Tryz.tG, @Tryz.tH, @Tryz.tI, @Tryz.o8, @Tryz.tJ, @Tryz.o9, @Tryz.tK, @Tryz.tL, @Tryz.kQ, @Tryz.tM, @Tryz.tN, @Tryz.tO, @Tryz.tP, @Tryz.tQ, @Tryz.tR, @Tryz.tS, @Tryz.tU, @Tryz.tV, @Tryz.pa, @Tryz.tW, @Tryz.tX, @Tryz.pb, @Tryz.tY, @Tryz.pj, @Tryz.po, @Tryz.tZ, @Tryz.ua, @Tryz.pq, @Tryz.ub, @Tryz.uc, @Tryz.ud, @Tryz.uf, @Tryz.ug, @Tryz.uh, @Tryz.ui, @Tryz.uj, @Tryz.uk, @Tryz.um, @Tryz.uo, @Tryz.uq, @Tryz.ur, @Tryz.uv, @Tryz.uw, @Tryz.ux, @Tryz.pv, @Tryz.pw, @Tryz.uy, @Tryz.uz, @Tryz.pz, @Tryz.uA, @Tryz.uB, @Tryz.iC, @Tryz.uC, @Tryz.uD, @Tryz.uF, @Tryz.kR, @Tryz.uG, @Tryz.pA, @Tryz.pB, @Tryz.uH, @Tryz.pC, @Tryz.kS, @Tryz.uI, @Tryz.pD, @Tryz.nG, @Tryz.nH, @Tryz.qM, @Tryz.nI, @Tryz.qN, @Tryz.qO, @Tryz.qP, @Tryz.nJ, @Tryz.qQ, @Tryz.qR, @Tryz.gi, @Tryz.qS, @Tryz.qT, @Tryz.qU, @Tryz.qV, @Tryz.qX, @Tryz.lI, @Tryz.jS, @Tryz.qY, @Tryz.gj, @Tryz.qZ, @Tryz.rf, @Tryz.jT, @Tryz.mixed, @Tryz.Mu, @Tryz.Mv, @Tryz.Mw, @Tryz.Mx, @Tryz.My, @Tryz.Yb, @Tryz.abK, @Tryz.abO, @Tryz.Yc, @Tryz.abI, @Tryz.abM, @Tryz.abL, @Tryz.abJ, @Tryz.abP, @Tryz.abH, @Tryz.abN, @fa0, @fa1, @fa2, @fa3, @fa4⟩
theorem PH:(∀ k n,Value.oneCell' (.int k n)=true)∧(∀ b,Value.oneCell' (.bool b)=true)∧(∀ s,Value.oneCell' (.string s)=true)∧(∀ a,Value.oneCell' (.pointer a)=true)∧(∀ a n c,Value.oneCell' (.slice a n c)=true)∧(∀ f a c,Value.oneCell' (.func f a c)=true)∧Value.oneCell' .nilFunc=true∧(∀ t v,Value.oneCell' (.iface t v)=true)∧Value.oneCell' .nilIface=true:=⟨fun _ _=>rfl,fun _=>rfl,fun _=>rfl,fun _=>rfl,fun _ _ _=>rfl,fun _ _ _=>rfl,rfl,fun _ _=>rfl,rfl⟩
theorem vQ:type_of% @Pb∧type_of% @Pc∧type_of% @Pd∧type_of% @rules∧type_of% @S1∧type_of% @tE∧type_of% @fS∧type_of% @Er∧type_of% @abQ∧type_of% @XV∧type_of% @Int.toNat_zero∧type_of% @not_false_eq_true∧type_of% @PH:=
 ⟨@Pb, @Pc, @Pd, @rules, @S1, @tE, @fS, @Er, @abQ, @XV, @Int.toNat_zero, @not_false_eq_true, @PH⟩
theorem vS:type_of% @vQ∧(∀ cs o new,splice cs o new=cs.take o++new++cs.drop (o+new.length)):=⟨@vQ,fun _ _ _=>rfl⟩
theorem vR:type_of% @vQ∧type_of% @ah∧type_of% @ft∧type_of% @du∧type_of% @rF∧type_of% @aF∧type_of% @FM∧type_of% @Int.toNat_natCast:=
 ⟨@vQ, @ah, @ft, @du, @rF, @aF, @FM, @Int.toNat_natCast⟩
theorem vL:type_of% @vR∧type_of% @dv∧type_of% @Tn:=
 ⟨@vR, @dv, @Tn⟩
theorem vP:type_of% @vL∧type_of% @aK:=
 ⟨@vL, @aK⟩
end Go.Proofs.YtpnehhpadofcbaaGreatDoor
