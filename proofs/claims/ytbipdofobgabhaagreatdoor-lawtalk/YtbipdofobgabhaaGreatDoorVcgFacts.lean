/-
  Closed facts on the tables of this seat's program, each by the kernel (made by program from the translation: wip/lib/facts.py).
-/
import Derived.Test.YtbipdofobgabhaaGreatDoorVcgQ0
import Derived.Test.YtbipdofobgabhaaGreatDoorVcgWn
import Derived.Test.YtbipdofobgabhaaGreatDoorVcgZ1
import Derived.Test.YtbipdofobgabhaaGreatDoorProg
import Derived.KernelRfl
set_option linter.unusedVariables false
set_option linter.unusedSimpArgs false
namespace Go.Proofs.YtbipdofobgabhaaGreatDoor
open Go.bA
class aG where
 place:Nat→Addr
 cells:Nat→Array Value
 ty:Nat→TypeId
 inj: ∀ i j,i < 9→j < 9→place i=place j→i=j
def yV [aG] (n:Nat):Option Nat:=(List.range 9).find? fun i=>(aG.place i).block==n
def acT [aG] (i:Nat):Value:= .pointer (some (aG.place i))
def fA [aG] (i:Nat):Value:= .iface 181 (acT i)
def aal (n:Nat):Nat:=n
def yW [aG] (n:Nat):Option aI:=if n < 9 then some ⟨false,[Sum.inl (fA (aal n))]⟩ else if n=9 then some ⟨false,ah .u32 64 kW⟩ else match yV n with
 | some _=>some ⟨false,[]⟩
 | none=>none
def rC [aG] (n:Nat):Option Obj:=match yV n with
 | some i=>some (.cells (aG.cells i) (aG.ty i) (0,0))
 | none=>none
theorem XZ [aG] (b:Nat) (o:Obj) (h:rC b=some o): ∃ bx,yW b=some bx:=by
 unfold rC at h
 unfold yW
 split at h
 ·rename_i i hi
  split
  ·exact ⟨_,rfl⟩
  ·split
   ·exact ⟨_,rfl⟩
   ·exact ⟨_,rfl⟩
 ·cases h
instance [aG]:bA.Tables Tryz.prog:={ row:=yW,TL:=rC,sub:=XZ }
section
variable [aG]
theorem Tryz.aam:Tables.row Tryz.prog 0=some ⟨false,[Sum.inl (fA 0)]⟩:=rfl
theorem Tryz.aan:Tables.row Tryz.prog 1=some ⟨false,[Sum.inl (fA 1)]⟩:=rfl
theorem Tryz.aao:Tables.row Tryz.prog 2=some ⟨false,[Sum.inl (fA 2)]⟩:=rfl
theorem Tryz.aap:Tables.row Tryz.prog 3=some ⟨false,[Sum.inl (fA 3)]⟩:=rfl
theorem Tryz.aaq:Tables.row Tryz.prog 4=some ⟨false,[Sum.inl (fA 4)]⟩:=rfl
theorem Tryz.aar:Tables.row Tryz.prog 5=some ⟨false,[Sum.inl (fA 5)]⟩:=rfl
theorem Tryz.aas:Tables.row Tryz.prog 6=some ⟨false,[Sum.inl (fA 6)]⟩:=rfl
theorem Tryz.aat:Tables.row Tryz.prog 7=some ⟨false,[Sum.inl (fA 7)]⟩:=rfl
theorem Tryz.aau:Tables.row Tryz.prog 8=some ⟨false,[Sum.inl (fA 8)]⟩:=rfl
theorem Tryz.aav:Tables.row Tryz.prog 9=some ⟨false,ah .u32 64 kW⟩:=rfl
end
theorem Tryz.Rl:kindOf Tryz.prog 3=some IntKind.i64:=by kernel_rfl
theorem Tryz.Rm:fZ Tryz.prog 23=some (32,1):=by kernel_rfl
theorem Tryz.Mu (i:Nat):placeOf Tryz.prog 23 i=some (i*1,1):=by unfold placeOf;rw[Tryz.Rm]
theorem Tryz.Wt:sZ Tryz.prog 24=some (none,1):=by kernel_rfl
theorem Tryz.Mv:qQ Tryz.prog 24=some ([Value.slice none 0 0],1,24):=by kernel_rfl
theorem Tryz.wq:sZ Tryz.prog 27=some (none,66):=by kernel_rfl
theorem Tryz.tO:qQ Tryz.prog 27=some (List.replicate 2 (Value.int IntKind.u32 0)++List.replicate 64 (Value.int IntKind.u8 0),66,72):=by kernel_rfl
theorem Tryz.gi:sZ Tryz.prog 32=some (none,1):=by kernel_rfl
theorem Tryz.gA:qQ Tryz.prog 32=some ([Value.int IntKind.u8 0],1,1):=by kernel_rfl
theorem Tryz.Rn:fZ Tryz.prog 46=some (5,1):=by kernel_rfl
theorem Tryz.Mw (i:Nat):placeOf Tryz.prog 46 i=some (i*1,1):=by unfold placeOf;rw[Tryz.Rn]
theorem Tryz.Ro:fZ Tryz.prog 58=some (4,1):=by kernel_rfl
theorem Tryz.Mx (i:Nat):placeOf Tryz.prog 58 i=some (i*1,1):=by unfold placeOf;rw[Tryz.Ro]
theorem Tryz.JB:fZ Tryz.prog 167=some (8,1):=by kernel_rfl
theorem Tryz.GR (i:Nat):placeOf Tryz.prog 167 i=some (i*1,1):=by unfold placeOf;rw[Tryz.JB]
theorem Tryz.JC:fZ Tryz.prog 173=some (4,1):=by kernel_rfl
theorem Tryz.GU (i:Nat):placeOf Tryz.prog 173 i=some (i*1,1):=by unfold placeOf;rw[Tryz.JC]
theorem Tryz.BT:au Tryz.prog 3=true:=by kernel_rfl
theorem Tryz.uM:au Tryz.prog 4=true:=by kernel_rfl
theorem Tryz.uN:au Tryz.prog 5=true:=by kernel_rfl
theorem Tryz.uO:au Tryz.prog 6=true:=by kernel_rfl
theorem Tryz.uP:au Tryz.prog 7=true:=by kernel_rfl
theorem Tryz.uQ:au Tryz.prog 8=true:=by kernel_rfl
theorem Tryz.pX:au Tryz.prog 9=true:=by kernel_rfl
theorem Tryz.JD:au Tryz.prog 11=true:=by kernel_rfl
theorem Tryz.JE:au Tryz.prog 12=true:=by kernel_rfl
theorem Tryz.JF:au Tryz.prog 13=true:=by kernel_rfl
theorem Tryz.JG:au Tryz.prog 14=true:=by kernel_rfl
theorem Tryz.rD:au Tryz.prog 15=true:=by kernel_rfl
theorem Tryz.rE:au Tryz.prog 16=true:=by kernel_rfl
theorem Tryz.rF:au Tryz.prog 17=true:=by kernel_rfl
theorem Tryz.rG:au Tryz.prog 18=true:=by kernel_rfl
theorem Tryz.rH:au Tryz.prog 19=true:=by kernel_rfl
theorem Tryz.yX:au Tryz.prog 21=true:=by kernel_rfl
theorem Tryz.JH:au Tryz.prog 22=true:=by kernel_rfl
theorem Tryz.fV:au Tryz.prog 23=true:=by kernel_rfl
theorem Tryz.JI:au Tryz.prog 24=true:=by kernel_rfl
theorem Tryz.rI:au Tryz.prog 25=true:=by kernel_rfl
theorem Tryz.rJ:au Tryz.prog 28=true:=by kernel_rfl
theorem Tryz.rK:au Tryz.prog 29=true:=by kernel_rfl
theorem Tryz.rL:au Tryz.prog 30=true:=by kernel_rfl
theorem Tryz.nH:au Tryz.prog 31=true:=by kernel_rfl
theorem Tryz.rM:au Tryz.prog 32=true:=by kernel_rfl
theorem Tryz.rN:au Tryz.prog 33=true:=by kernel_rfl
theorem Tryz.nI:au Tryz.prog 34=true:=by kernel_rfl
theorem Tryz.nJ:au Tryz.prog 35=true:=by kernel_rfl
theorem Tryz.rO:au Tryz.prog 36=true:=by kernel_rfl
theorem Tryz.rP:au Tryz.prog 37=true:=by kernel_rfl
theorem Tryz.nK:au Tryz.prog 38=true:=by kernel_rfl
theorem Tryz.nL:au Tryz.prog 39=true:=by kernel_rfl
theorem Tryz.ly:au Tryz.prog 40=true:=by kernel_rfl
theorem Tryz.jO:au Tryz.prog 41=true:=by kernel_rfl
theorem Tryz.bG:au Tryz.prog 42=true:=by kernel_rfl
theorem Tryz.rQ:au Tryz.prog 43=true:=by kernel_rfl
theorem Tryz.lz:au Tryz.prog 44=true:=by kernel_rfl
theorem Tryz.rR:au Tryz.prog 45=true:=by kernel_rfl
theorem Tryz.rS:au Tryz.prog 46=true:=by kernel_rfl
theorem Tryz.rT:au Tryz.prog 47=true:=by kernel_rfl
theorem Tryz.rU:au Tryz.prog 48=true:=by kernel_rfl
theorem Tryz.rV:au Tryz.prog 49=true:=by kernel_rfl
theorem Tryz.nM:au Tryz.prog 53=true:=by kernel_rfl
theorem Tryz.nN:au Tryz.prog 55=true:=by kernel_rfl
theorem Tryz.nO:au Tryz.prog 56=true:=by kernel_rfl
theorem Tryz.rW:au Tryz.prog 58=true:=by kernel_rfl
theorem Tryz.rX:au Tryz.prog 59=true:=by kernel_rfl
theorem Tryz.rY:au Tryz.prog 60=true:=by kernel_rfl
theorem Tryz.rZ:au Tryz.prog 61=true:=by kernel_rfl
theorem Tryz.sb:au Tryz.prog 62=true:=by kernel_rfl
theorem Tryz.sd:au Tryz.prog 63=true:=by kernel_rfl
theorem Tryz.sf:au Tryz.prog 64=true:=by kernel_rfl
theorem Tryz.sg:au Tryz.prog 65=true:=by kernel_rfl
theorem Tryz.nP:au Tryz.prog 66=true:=by kernel_rfl
theorem Tryz.nQ:au Tryz.prog 67=true:=by kernel_rfl
theorem Tryz.sh:au Tryz.prog 68=true:=by kernel_rfl
theorem Tryz.si:au Tryz.prog 69=true:=by kernel_rfl
theorem Tryz.JJ:au Tryz.prog 72=true:=by kernel_rfl
theorem Tryz.JK:au Tryz.prog 73=true:=by kernel_rfl
theorem Tryz.JL:au Tryz.prog 74=true:=by kernel_rfl
theorem Tryz.sj:au Tryz.prog 75=true:=by kernel_rfl
theorem Tryz.sk:au Tryz.prog 76=true:=by kernel_rfl
theorem Tryz.sm:au Tryz.prog 78=true:=by kernel_rfl
theorem Tryz.nR:au Tryz.prog 80=true:=by kernel_rfl
theorem Tryz.JM:au Tryz.prog 81=true:=by kernel_rfl
theorem Tryz.sn:au Tryz.prog 82=true:=by kernel_rfl
theorem Tryz.su:au Tryz.prog 83=true:=by kernel_rfl
theorem Tryz.sx:au Tryz.prog 84=true:=by kernel_rfl
theorem Tryz.sy:au Tryz.prog 85=true:=by kernel_rfl
theorem Tryz.jP:au Tryz.prog 86=true:=by kernel_rfl
theorem Tryz.nS:au Tryz.prog 87=true:=by kernel_rfl
theorem Tryz.JN:au Tryz.prog 88=true:=by kernel_rfl
theorem Tryz.yY:au Tryz.prog 89=true:=by kernel_rfl
theorem Tryz.sC:au Tryz.prog 90=true:=by kernel_rfl
theorem Tryz.sD:au Tryz.prog 91=true:=by kernel_rfl
theorem Tryz.sE:au Tryz.prog 92=true:=by kernel_rfl
theorem Tryz.sF:au Tryz.prog 94=true:=by kernel_rfl
theorem Tryz.sG:au Tryz.prog 95=true:=by kernel_rfl
theorem Tryz.JO:au Tryz.prog 96=true:=by kernel_rfl
theorem Tryz.JQ:au Tryz.prog 97=true:=by kernel_rfl
theorem Tryz.sH:au Tryz.prog 98=true:=by kernel_rfl
theorem Tryz.nT:au Tryz.prog 99=true:=by kernel_rfl
theorem Tryz.GV:au Tryz.prog 101=true:=by kernel_rfl
theorem Tryz.GX:au Tryz.prog 102=true:=by kernel_rfl
theorem Tryz.ph:au Tryz.prog 104=true:=by kernel_rfl
theorem Tryz.pj:au Tryz.prog 107=true:=by kernel_rfl
theorem Tryz.GY:au Tryz.prog 108=true:=by kernel_rfl
theorem Tryz.GZ:au Tryz.prog 109=true:=by kernel_rfl
theorem Tryz.iN:au Tryz.prog 111=true:=by kernel_rfl
theorem Tryz.mixed:Tryz.prog.follows .mixedOrders=true:=by kernel_rfl
theorem fa0:dv Tryz.prog 3=some (false,1)∧dv Tryz.prog 4=some (false,1)∧dv Tryz.prog 5=some (false,1)∧kindOf Tryz.prog 5=some IntKind.u8∧dv Tryz.prog 23=some (true,32)∧oP Tryz.prog 23=some (32,false,1)∧sZ Tryz.prog 23=some (some 32,1)∧zeroOf Tryz.prog 23=some (List.replicate 32 (Value.int IntKind.u8 0))∧dr Tryz.prog 23=some (List.replicate 32 (Sum.inl (Value.int IntKind.u8 0)))∧bA.elemOf Tryz.prog 24=some 1∧bA.elemOf Tryz.prog 25=some 1∧dv Tryz.prog 26=some (false,1)∧kindOf Tryz.prog 26=some IntKind.u32∧dv Tryz.prog 27=some (false,1)∧bA.elemOf Tryz.prog 27=some 66∧dv Tryz.prog 29=some (true,203)∧zeroOf Tryz.prog 29=some (List.replicate 3 (Value.bool false)++List.replicate 192 (Value.int IntKind.u8 0)++List.replicate 5 (Value.int IntKind.u32 0)++List.replicate 2 (Value.int IntKind.i64 0)++List.replicate 1 (Value.slice none 0 0))∧dr Tryz.prog 29=some (List.replicate 3 (Sum.inl (Value.bool false))++List.replicate 192 (Sum.inl (Value.int IntKind.u8 0))++List.replicate 5 (Sum.inl (Value.int IntKind.u32 0))++List.replicate 2 (Sum.inl (Value.int IntKind.i64 0))++List.replicate 1 (Sum.inl (Value.slice none 0 0)))∧aX Tryz.prog 29 0=some (0,false,1)∧aX Tryz.prog 29 1=some (1,false,1)∧aX Tryz.prog 29 2=some (2,false,1)∧aX Tryz.prog 29 3=some (3,true,32)∧placeOf Tryz.prog 29 3=some (3,32)∧aX Tryz.prog 29 4=some (35,true,32)∧aX Tryz.prog 29 5=some (67,true,32)∧aX Tryz.prog 29 6=some (99,true,32)∧aX Tryz.prog 29 7=some (131,true,32)∧aX Tryz.prog 29 8=some (163,true,32)∧aX Tryz.prog 29 9=some (195,false,1)∧aX Tryz.prog 29 10=some (196,false,1)∧aX Tryz.prog 29 11=some (197,false,1)∧aX Tryz.prog 29 12=some (198,false,1)∧aX Tryz.prog 29 13=some (199,false,1)∧aX Tryz.prog 29 14=some (200,false,1)∧placeOf Tryz.prog 29 14=some (200,1)∧aX Tryz.prog 29 15=some (201,false,1)∧placeOf Tryz.prog 29 15=some (201,1)∧aX Tryz.prog 29 16=some (202,false,1)∧dv Tryz.prog 32=some (false,1)∧bA.elemOf Tryz.prog 32=some 1∧T4 Tryz.prog 32=true∧dv Tryz.prog 34=some (true,207)∧zeroOf Tryz.prog 34=some (List.replicate 1 (Value.int IntKind.i64 0)++List.replicate 3 (Value.bool false)++List.replicate 192 (Value.int IntKind.u8 0)++List.replicate 5 (Value.int IntKind.u32 0)++List.replicate 2 (Value.int IntKind.i64 0)++List.replicate 2 (Value.slice none 0 0)++List.replicate 2 (Value.int IntKind.u32 0))∧dr Tryz.prog 34=some (List.replicate 1 (Sum.inl (Value.int IntKind.i64 0))++List.replicate 3 (Sum.inl (Value.bool false))++List.replicate 192 (Sum.inl (Value.int IntKind.u8 0))++List.replicate 5 (Sum.inl (Value.int IntKind.u32 0))++List.replicate 2 (Sum.inl (Value.int IntKind.i64 0))++List.replicate 2 (Sum.inl (Value.slice none 0 0))++List.replicate 2 (Sum.inl (Value.int IntKind.u32 0)))∧aX Tryz.prog 34 0=some (0,false,1)∧placeOf Tryz.prog 34 0=some (0,1)∧aX Tryz.prog 34 1=some (1,true,203)∧placeOf Tryz.prog 34 1=some (1,203)∧aX Tryz.prog 34 2=some (204,false,1)∧placeOf Tryz.prog 34 2=some (204,1):=by
 iterate 49 (refine ⟨by kernel_rfl, ?_⟩)
 kernel_rfl
theorem fa1:aX Tryz.prog 34 3=some (205,false,1)∧placeOf Tryz.prog 34 3=some (205,1)∧aX Tryz.prog 34 4=some (206,false,1)∧placeOf Tryz.prog 34 4=some (206,1)∧bA.elemOf Tryz.prog 37=some 1∧qQ Tryz.prog 37=some ([Value.bool false],1,1)∧dv Tryz.prog 38=some (false,1)∧kindOf Tryz.prog 38=some IntKind.u16∧dv Tryz.prog 44=some (false,1)∧kindOf Tryz.prog 44=some IntKind.u64∧dv Tryz.prog 46=some (true,5)∧oP Tryz.prog 46=some (5,false,1)∧zeroOf Tryz.prog 46=some ([Value.int IntKind.u64 0,Value.int IntKind.u64 0,Value.int IntKind.u64 0,Value.int IntKind.u64 0,Value.int IntKind.u64 0])∧dr Tryz.prog 46=some ([Sum.inl (Value.int IntKind.u64 0),Sum.inl (Value.int IntKind.u64 0),Sum.inl (Value.int IntKind.u64 0),Sum.inl (Value.int IntKind.u64 0),Sum.inl (Value.int IntKind.u64 0)])∧kindOf Tryz.prog 57=some IntKind.u64∧dv Tryz.prog 58=some (true,4)∧zeroOf Tryz.prog 58=some ([Value.int IntKind.u64 0,Value.int IntKind.u64 0,Value.int IntKind.u64 0,Value.int IntKind.u64 0])∧dr Tryz.prog 58=some ([Sum.inl (Value.int IntKind.u64 0),Sum.inl (Value.int IntKind.u64 0),Sum.inl (Value.int IntKind.u64 0),Sum.inl (Value.int IntKind.u64 0)])∧dv Tryz.prog 60=some (true,20)∧zeroOf Tryz.prog 60=some (List.replicate 20 (Value.int IntKind.u64 0))∧dr Tryz.prog 60=some (List.replicate 20 (Sum.inl (Value.int IntKind.u64 0)))∧aX Tryz.prog 60 0=some (0,true,5)∧placeOf Tryz.prog 60 0=some (0,5)∧aX Tryz.prog 60 1=some (5,true,5)∧placeOf Tryz.prog 60 1=some (5,5)∧aX Tryz.prog 60 2=some (10,true,5)∧placeOf Tryz.prog 60 2=some (10,5)∧aX Tryz.prog 60 3=some (15,true,5)∧placeOf Tryz.prog 60 3=some (15,5)∧dr Tryz.prog 71=some (List.replicate 3 (Sum.inl (Value.bool false))++List.replicate 192 (Sum.inl (Value.int IntKind.u8 0))++List.replicate 5 (Sum.inl (Value.int IntKind.u32 0))++List.replicate 2 (Sum.inl (Value.int IntKind.i64 0))++List.replicate 1 (Sum.inl (Value.slice none 0 0)))∧aX Tryz.prog 71 0=some (0,true,203)∧placeOf Tryz.prog 71 0=some (0,203)∧dv Tryz.prog 74=some (true,34)∧zeroOf Tryz.prog 74=some (List.replicate 32 (Value.int IntKind.u8 0)++List.replicate 2 (Value.int IntKind.u32 0))∧dr Tryz.prog 74=some (List.replicate 32 (Sum.inl (Value.int IntKind.u8 0))++List.replicate 2 (Sum.inl (Value.int IntKind.u32 0)))∧aX Tryz.prog 74 0=some (0,true,32)∧placeOf Tryz.prog 74 0=some (0,32)∧aX Tryz.prog 74 1=some (32,false,1)∧placeOf Tryz.prog 74 1=some (32,1)∧aX Tryz.prog 74 2=some (33,false,1)∧placeOf Tryz.prog 74 2=some (33,1)∧dv Tryz.prog 76=some (true,33)∧zeroOf Tryz.prog 76=some (List.replicate 1 (Value.slice none 0 0)++List.replicate 32 (Value.int IntKind.u8 0))∧dr Tryz.prog 76=some (List.replicate 1 (Sum.inl (Value.slice none 0 0))++List.replicate 32 (Sum.inl (Value.int IntKind.u8 0)))∧aX Tryz.prog 76 0=some (0,false,1)∧placeOf Tryz.prog 76 0=some (0,1)∧aX Tryz.prog 76 1=some (1,true,32)∧placeOf Tryz.prog 76 1=some (1,32)∧dv Tryz.prog 81=some (true,67)∧zeroOf Tryz.prog 81=some (List.replicate 32 (Value.int IntKind.u8 0)++List.replicate 2 (Value.int IntKind.u32 0)++List.replicate 1 (Value.slice none 0 0)++List.replicate 32 (Value.int IntKind.u8 0)):=by
 iterate 49 (refine ⟨by kernel_rfl, ?_⟩)
 kernel_rfl
theorem fa2:dr Tryz.prog 81=some (List.replicate 32 (Sum.inl (Value.int IntKind.u8 0))++List.replicate 2 (Sum.inl (Value.int IntKind.u32 0))++List.replicate 1 (Sum.inl (Value.slice none 0 0))++List.replicate 32 (Sum.inl (Value.int IntKind.u8 0)))∧aX Tryz.prog 81 0=some (0,true,34)∧placeOf Tryz.prog 81 0=some (0,34)∧aX Tryz.prog 81 1=some (34,false,1)∧placeOf Tryz.prog 81 1=some (34,1)∧aX Tryz.prog 81 2=some (35,true,32)∧placeOf Tryz.prog 81 2=some (35,32)∧dv Tryz.prog 84=some (true,66)∧zeroOf Tryz.prog 84=some (List.replicate 2 (Value.int IntKind.u32 0)++List.replicate 64 (Value.int IntKind.u8 0))∧dr Tryz.prog 84=some (List.replicate 2 (Sum.inl (Value.int IntKind.u32 0))++List.replicate 64 (Sum.inl (Value.int IntKind.u8 0)))∧aX Tryz.prog 84 0=some (0,false,1)∧placeOf Tryz.prog 84 0=some (0,1)∧aX Tryz.prog 84 1=some (1,false,1)∧placeOf Tryz.prog 84 1=some (1,1)∧aX Tryz.prog 84 2=some (2,true,32)∧placeOf Tryz.prog 84 2=some (2,32)∧aX Tryz.prog 84 3=some (34,true,32)∧dv Tryz.prog 91=some (true,2)∧zeroOf Tryz.prog 91=some ([Value.int IntKind.u64 0,Value.int IntKind.u64 0])∧dr Tryz.prog 91=some ([Sum.inl (Value.int IntKind.u64 0),Sum.inl (Value.int IntKind.u64 0)])∧aX Tryz.prog 91 0=some (0,false,1)∧placeOf Tryz.prog 91 0=some (0,1)∧aX Tryz.prog 91 1=some (1,false,1)∧placeOf Tryz.prog 91 1=some (1,1)∧dv Tryz.prog 104=some (true,16)∧fZ Tryz.prog 104=some (16,1)∧sZ Tryz.prog 104=some (some 16,1)∧zeroOf Tryz.prog 104=some (List.replicate 16 (Value.int IntKind.u8 0))∧dv Tryz.prog 106=some (true,80)∧zeroOf Tryz.prog 106=some (List.replicate 80 (Value.int IntKind.u8 0))∧dr Tryz.prog 106=some (List.replicate 80 (Sum.inl (Value.int IntKind.u8 0)))∧aX Tryz.prog 106 0=some (0,true,32)∧placeOf Tryz.prog 106 0=some (0,32)∧aX Tryz.prog 106 1=some (32,true,32)∧placeOf Tryz.prog 106 1=some (32,32)∧aX Tryz.prog 106 2=some (64,true,16)∧placeOf Tryz.prog 106 2=some (64,16)∧dv Tryz.prog 140=some (true,256)∧fZ Tryz.prog 140=some (256,1)∧zeroOf Tryz.prog 140=some (List.replicate 256 (Value.int IntKind.u8 0))∧fZ Tryz.prog 141=some (15,16)∧dv Tryz.prog 143=some (true,496)∧zeroOf Tryz.prog 143=some (List.replicate 496 (Value.int IntKind.u8 0))∧dr Tryz.prog 143=some (List.replicate 496 (Sum.inl (Value.int IntKind.u8 0)))∧aX Tryz.prog 143 0=some (0,true,256)∧placeOf Tryz.prog 143 0=some (0,256)∧aX Tryz.prog 143 1=some (256,true,240)∧dv Tryz.prog 149=some (true,1)∧zeroOf Tryz.prog 149=some ([Value.slice none 0 0])∧dr Tryz.prog 149=some ([Sum.inl (Value.slice none 0 0)]):=by
 iterate 49 (refine ⟨by kernel_rfl, ?_⟩)
 kernel_rfl
theorem fa3:aX Tryz.prog 149 0=some (0,false,1)∧placeOf Tryz.prog 149 0=some (0,1)∧bA.elemOf Tryz.prog 165=some 1∧qQ Tryz.prog 165=some ([Value.int IntKind.i64 0],1,8)∧dv Tryz.prog 167=some (true,8)∧oP Tryz.prog 167=some (8,false,1)∧zeroOf Tryz.prog 167=some ([Value.int IntKind.u32 0,Value.int IntKind.u32 0,Value.int IntKind.u32 0,Value.int IntKind.u32 0,Value.int IntKind.u32 0,Value.int IntKind.u32 0,Value.int IntKind.u32 0,Value.int IntKind.u32 0])∧dr Tryz.prog 167=some ([Sum.inl (Value.int IntKind.u32 0),Sum.inl (Value.int IntKind.u32 0),Sum.inl (Value.int IntKind.u32 0),Sum.inl (Value.int IntKind.u32 0),Sum.inl (Value.int IntKind.u32 0),Sum.inl (Value.int IntKind.u32 0),Sum.inl (Value.int IntKind.u32 0),Sum.inl (Value.int IntKind.u32 0)])∧dv Tryz.prog 171=some (true,255)∧fZ Tryz.prog 171=some (255,1)∧oP Tryz.prog 171=some (255,false,1)∧zeroOf Tryz.prog 171=some (List.replicate 255 (Value.int IntKind.u8 0))∧dv Tryz.prog 173=some (true,4)∧oP Tryz.prog 173=some (4,false,1)∧sZ Tryz.prog 173=some (some 4,1)∧zeroOf Tryz.prog 173=some ([Value.int IntKind.u8 0,Value.int IntKind.u8 0,Value.int IntKind.u8 0,Value.int IntKind.u8 0])∧dr Tryz.prog 173=some ([Sum.inl (Value.int IntKind.u8 0),Sum.inl (Value.int IntKind.u8 0),Sum.inl (Value.int IntKind.u8 0),Sum.inl (Value.int IntKind.u8 0)])∧dv Tryz.prog 174=some (true,240)∧fZ Tryz.prog 174=some (60,4)∧oP Tryz.prog 174=some (60,true,4)∧zeroOf Tryz.prog 174=some (List.replicate 240 (Value.int IntKind.u8 0))∧dv Tryz.prog 177=some (true,64)∧fZ Tryz.prog 177=some (64,1)∧zeroOf Tryz.prog 177=some (List.replicate 64 (Value.int IntKind.u32 0))∧au Tryz.prog 10=true∧au Tryz.prog 20=true∧au Tryz.prog 26=true∧au Tryz.prog 27=true∧au Tryz.prog 54=true∧au Tryz.prog 57=true∧au Tryz.prog 70=true∧au Tryz.prog 71=false∧au Tryz.prog 77=true∧au Tryz.prog 79=true∧au Tryz.prog 93=true∧au Tryz.prog 100=true∧au Tryz.prog 103=true∧au Tryz.prog 105=true∧au Tryz.prog 106=true∧au Tryz.prog 110=true∧au Tryz.prog 112=true∧isBool Tryz.prog 4=true∧kb Tryz.prog 23=some (32,IntKind.u8)∧qP Tryz.prog [24]=1∧qP Tryz.prog [25]=1∧qP Tryz.prog [27]=1∧qP Tryz.prog [32]=1∧isIface Tryz.prog 50=true∧kb Tryz.prog 84=none∧Ed Tryz.prog 84=some [(0,1,IntKind.u32),(1,1,IntKind.u32),(2,32,IntKind.u8),(34,32,IntKind.u8)]:=by
 iterate 49 (refine ⟨by kernel_rfl, ?_⟩)
 kernel_rfl
theorem fa4:qP Tryz.prog [165]=1:=by
 iterate 0 (refine ⟨by kernel_rfl, ?_⟩)
 kernel_rfl
theorem aaw:type_of% @Tryz.Rl∧type_of% @Tryz.Mu∧type_of% @Tryz.Mv∧type_of% @Tryz.wq∧type_of% @Tryz.tO∧type_of% @Tryz.gi∧type_of% @Tryz.gA∧type_of% @Tryz.Mw∧type_of% @Tryz.Mx∧type_of% @Tryz.GR∧type_of% @Tryz.GU∧type_of% @Tryz.uM∧type_of% @Tryz.uN∧type_of% @Tryz.uO∧type_of% @Tryz.uP∧type_of% @Tryz.uQ∧type_of% @Tryz.rD∧type_of% @Tryz.rE∧type_of% @Tryz.rF∧type_of% @Tryz.rG∧type_of% @Tryz.rH∧type_of% @Tryz.fV∧type_of% @Tryz.rI∧type_of% @Tryz.rJ∧type_of% @Tryz.rK∧type_of% @Tryz.rL∧type_of% @Tryz.nH∧type_of% @Tryz.rM∧type_of% @Tryz.rN∧type_of% @Tryz.nI∧type_of% @Tryz.nJ∧type_of% @Tryz.rO∧type_of% @Tryz.rP∧type_of% @Tryz.nK∧type_of% @Tryz.ly∧type_of% @Tryz.jO∧type_of% @Tryz.rQ∧type_of% @Tryz.rR∧type_of% @Tryz.rS∧type_of% @Tryz.rT∧type_of% @Tryz.rU∧type_of% @Tryz.rV∧type_of% @Tryz.nM∧type_of% @Tryz.nN∧type_of% @Tryz.nO∧type_of% @Tryz.rW∧type_of% @Tryz.rX∧type_of% @Tryz.rY∧type_of% @Tryz.rZ∧type_of% @Tryz.sb∧type_of% @Tryz.sd∧type_of% @Tryz.sf∧type_of% @Tryz.sg∧type_of% @Tryz.nP∧type_of% @Tryz.nQ∧type_of% @Tryz.sh∧type_of% @Tryz.si∧type_of% @Tryz.sj∧type_of% @Tryz.sk∧type_of% @Tryz.sm∧type_of% @Tryz.nR∧type_of% @Tryz.sn∧type_of% @Tryz.su∧type_of% @Tryz.sx∧type_of% @Tryz.sy∧type_of% @Tryz.jP∧type_of% @Tryz.nS∧type_of% @Tryz.sC∧type_of% @Tryz.sD∧type_of% @Tryz.sE∧type_of% @Tryz.sF∧type_of% @Tryz.sH∧type_of% @Tryz.ph∧type_of% @Tryz.pj∧type_of% @Tryz.iN∧type_of% @Tryz.mixed∧type_of% @Tryz.Rm∧type_of% @Tryz.Rn∧type_of% @Tryz.Ro∧type_of% @Tryz.JB∧type_of% @Tryz.JC∧type_of% @Tryz.aan∧type_of% @Tryz.aam∧type_of% @Tryz.aat∧type_of% @Tryz.aar∧type_of% @Tryz.aav∧type_of% @Tryz.aau∧type_of% @Tryz.aap∧type_of% @Tryz.aao∧type_of% @Tryz.aaq∧type_of% @Tryz.aas∧type_of% @fa0∧type_of% @fa1∧type_of% @fa2∧type_of% @fa3∧type_of% @fa4:=
 ⟨@Tryz.Rl, @Tryz.Mu, @Tryz.Mv, @Tryz.wq, @Tryz.tO, @Tryz.gi, @Tryz.gA, @Tryz.Mw, @Tryz.Mx, @Tryz.GR, @Tryz.GU, @Tryz.uM, @Tryz.uN, @Tryz.uO, @Tryz.uP, @Tryz.uQ, @Tryz.rD, @Tryz.rE, @Tryz.rF, @Tryz.rG, @Tryz.rH, @Tryz.fV, @Tryz.rI, @Tryz.rJ, @Tryz.rK, @Tryz.rL, @Tryz.nH, @Tryz.rM, @Tryz.rN, @Tryz.nI, @Tryz.nJ, @Tryz.rO, @Tryz.rP, @Tryz.nK, @Tryz.ly, @Tryz.jO, @Tryz.rQ, @Tryz.rR, @Tryz.rS, @Tryz.rT, @Tryz.rU, @Tryz.rV, @Tryz.nM, @Tryz.nN, @Tryz.nO, @Tryz.rW, @Tryz.rX, @Tryz.rY, @Tryz.rZ, @Tryz.sb, @Tryz.sd, @Tryz.sf, @Tryz.sg, @Tryz.nP, @Tryz.nQ, @Tryz.sh, @Tryz.si, @Tryz.sj, @Tryz.sk, @Tryz.sm, @Tryz.nR, @Tryz.sn, @Tryz.su, @Tryz.sx, @Tryz.sy, @Tryz.jP, @Tryz.nS, @Tryz.sC, @Tryz.sD, @Tryz.sE, @Tryz.sF, @Tryz.sH, @Tryz.ph, @Tryz.pj, @Tryz.iN, @Tryz.mixed, @Tryz.Rm, @Tryz.Rn, @Tryz.Ro, @Tryz.JB, @Tryz.JC, @Tryz.aan, @Tryz.aam, @Tryz.aat, @Tryz.aar, @Tryz.aav, @Tryz.aau, @Tryz.aap, @Tryz.aao, @Tryz.aaq, @Tryz.aas, @fa0, @fa1, @fa2, @fa3, @fa4⟩
theorem Rq:(∀ k n,Value.oneCell' (.int k n)=true)∧(∀ b,Value.oneCell' (.bool b)=true)∧(∀ s,Value.oneCell' (.string s)=true)∧(∀ a,Value.oneCell' (.pointer a)=true)∧(∀ a n c,Value.oneCell' (.slice a n c)=true)∧(∀ f a c,Value.oneCell' (.func f a c)=true)∧Value.oneCell' .nilFunc=true∧(∀ t v,Value.oneCell' (.iface t v)=true)∧Value.oneCell' .nilIface=true:=⟨fun _ _=>rfl,fun _=>rfl,fun _=>rfl,fun _=>rfl,fun _ _ _=>rfl,fun _ _ _=>rfl,rfl,fun _ _=>rfl,rfl⟩
theorem vQ:type_of% @LS∧type_of% @LU∧type_of% @LV∧type_of% @rules∧type_of% @Qn∧type_of% @rB∧type_of% @bp∧type_of% @Bp∧type_of% @aaw∧type_of% @Wb∧type_of% @Int.toNat_zero∧type_of% @not_false_eq_true∧type_of% @Rq:=
 ⟨@LS, @LU, @LV, @rules, @Qn, @rB, @bp, @Bp, @aaw, @Wb, @Int.toNat_zero, @not_false_eq_true, @Rq⟩
theorem vS:type_of% @vQ∧(∀ cs o new,splice cs o new=cs.take o++new++cs.drop (o+new.length)):=⟨@vQ,fun _ _ _=>rfl⟩
theorem vR:type_of% @vQ∧type_of% @af∧type_of% @gW∧type_of% @dk∧type_of% @pP∧type_of% @aR∧type_of% @CO∧type_of% @Int.toNat_natCast:=
 ⟨@vQ, @af, @gW, @dk, @pP, @aR, @CO, @Int.toNat_natCast⟩
theorem vL:type_of% @vR∧type_of% @eu∧type_of% @QI:=
 ⟨@vR, @eu, @QI⟩
theorem vP:type_of% @vL∧type_of% @av:=
 ⟨@vL, @av⟩
end Go.Proofs.YtbipdofobgabhaaGreatDoor
