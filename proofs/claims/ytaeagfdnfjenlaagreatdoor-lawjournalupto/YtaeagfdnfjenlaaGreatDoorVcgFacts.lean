/-
  Closed facts on the tables of this seat's program, each by the kernel (made by program from the translation: wip/lib/facts.py).
-/
import Derived.Test.YtaeagfdnfjenlaaGreatDoorVcgQ0
import Derived.Test.YtaeagfdnfjenlaaGreatDoorVcgFv
import Derived.Test.YtaeagfdnfjenlaaGreatDoorVcgZ1
import Derived.Test.YtaeagfdnfjenlaaGreatDoorProg
import Derived.KernelRfl
set_option linter.unusedVariables false
set_option linter.unusedSimpArgs false
namespace Go.Proofs.YtaeagfdnfjenlaaGreatDoor
open Go.cn
class aX where
 place:Nat→Addr
 cells:Nat→Array Value
 ty:Nat→TypeId
 inj: ∀ i j,i < 5→j < 5→place i=place j→i=j
def Av [aX] (n:Nat):Option Nat:=(List.range 5).find? fun i=>(aX.place i).block==n
def aes [aX] (i:Nat):Value:= .pointer (some (aX.place i))
def cH [aX] (i:Nat):Value:= .iface 161 (aes i)
def abk (n:Nat):Nat:=n
def Aw [aX] (n:Nat):Option aI:=if n < 5 then some ⟨false,[Sum.inl (cH (abk n))]⟩ else if n=5 then some ⟨false,ai .u32 8 pH⟩ else if n=6 then some ⟨false,ai .u32 64 kW⟩ else if n=7 then some ⟨false,ai .u32 64 kW⟩ else match Av n with
 | some _=>some ⟨false,[]⟩
 | none=>none
def sM [aX] (n:Nat):Option Obj:=match Av n with
 | some i=>some (.cells (aX.cells i) (aX.ty i) (0,0))
 | none=>none
theorem Zl [aX] (b:Nat) (o:Obj) (h:sM b=some o): ∃ bx,Aw b=some bx:=by
 unfold sM at h
 unfold Aw
 split at h
 ·rename_i i hi
  (repeat' split)<;>exact ⟨_,rfl⟩
 ·cases h
instance [aX]:cn.Tables Tryz.prog:={ row:=Aw,UO:=sM,sub:=Zl }
section
variable [aX]
theorem Tryz.Zm:Tables.row Tryz.prog 0=some ⟨false,[Sum.inl (cH 0)]⟩:=rfl
theorem Tryz.abl:Tables.row Tryz.prog 1=some ⟨false,[Sum.inl (cH 1)]⟩:=rfl
theorem Tryz.abm:Tables.row Tryz.prog 2=some ⟨false,[Sum.inl (cH 2)]⟩:=rfl
theorem Tryz.abn:Tables.row Tryz.prog 3=some ⟨false,[Sum.inl (cH 3)]⟩:=rfl
theorem Tryz.abo:Tables.row Tryz.prog 4=some ⟨false,[Sum.inl (cH 4)]⟩:=rfl
theorem Tryz.abp:Tables.row Tryz.prog 5=some ⟨false,ai .u32 8 pH⟩:=rfl
theorem Tryz.abq:Tables.row Tryz.prog 6=some ⟨false,ai .u32 64 kW⟩:=rfl
theorem Tryz.abr:Tables.row Tryz.prog 7=some ⟨false,ai .u32 64 kW⟩:=rfl
end
theorem Tryz.D1:kindOf Tryz.prog 3=some IntKind.i64:=by kernel_rfl
theorem Tryz.fc:uB Tryz.prog 22=some (none,1):=by kernel_rfl
theorem Tryz.eK:pT Tryz.prog 22=some ([Value.int IntKind.u8 0],1,1):=by kernel_rfl
theorem Tryz.Nt:uB Tryz.prog 23=some (none,1):=by kernel_rfl
theorem Tryz.Nu:pT Tryz.prog 23=some ([Value.bool false],1,1):=by kernel_rfl
theorem Tryz.WU:uB Tryz.prog 71=some (none,3):=by kernel_rfl
theorem Tryz.Nv:pT Tryz.prog 71=some ([Value.bool false,Value.int IntKind.i64 0,Value.slice none 0 0],3,40):=by kernel_rfl
theorem Tryz.Nw:uB Tryz.prog 84=some (none,65):=by kernel_rfl
theorem Tryz.D2:pT Tryz.prog 84=some (List.replicate 1 (Value.int IntKind.i64 0)++List.replicate 64 (Value.int IntKind.u8 0),65,72):=by kernel_rfl
theorem Tryz.D3:uB Tryz.prog 98=some (none,1):=by kernel_rfl
theorem Tryz.xI:pT Tryz.prog 98=some ([Value.int IntKind.i64 0],1,8):=by kernel_rfl
theorem Tryz.KU:lJ Tryz.prog 152=some (8,1):=by kernel_rfl
theorem Tryz.Ii (i:Nat):placeOf Tryz.prog 152 i=some (i*1,1):=by unfold placeOf;rw[Tryz.KU]
theorem Tryz.Pz:ak Tryz.prog 3=true:=by kernel_rfl
theorem Tryz.ri:ak Tryz.prog 4=true:=by kernel_rfl
theorem Tryz.vU:ak Tryz.prog 5=true:=by kernel_rfl
theorem Tryz.vV:ak Tryz.prog 6=true:=by kernel_rfl
theorem Tryz.vW:ak Tryz.prog 7=true:=by kernel_rfl
theorem Tryz.vX:ak Tryz.prog 8=true:=by kernel_rfl
theorem Tryz.rj:ak Tryz.prog 9=true:=by kernel_rfl
theorem Tryz.kH:ak Tryz.prog 10=true:=by kernel_rfl
theorem Tryz.sN:ak Tryz.prog 11=true:=by kernel_rfl
theorem Tryz.sO:ak Tryz.prog 12=true:=by kernel_rfl
theorem Tryz.sQ:ak Tryz.prog 13=true:=by kernel_rfl
theorem Tryz.sR:ak Tryz.prog 14=true:=by kernel_rfl
theorem Tryz.oN:ak Tryz.prog 15=true:=by kernel_rfl
theorem Tryz.mJ:ak Tryz.prog 16=true:=by kernel_rfl
theorem Tryz.sS:ak Tryz.prog 17=true:=by kernel_rfl
theorem Tryz.sT:ak Tryz.prog 18=true:=by kernel_rfl
theorem Tryz.sU:ak Tryz.prog 19=true:=by kernel_rfl
theorem Tryz.oO:ak Tryz.prog 20=true:=by kernel_rfl
theorem Tryz.sV:ak Tryz.prog 21=true:=by kernel_rfl
theorem Tryz.oP:ak Tryz.prog 22=true:=by kernel_rfl
theorem Tryz.sW:ak Tryz.prog 24=true:=by kernel_rfl
theorem Tryz.sX:ak Tryz.prog 25=true:=by kernel_rfl
theorem Tryz.oQ:ak Tryz.prog 26=true:=by kernel_rfl
theorem Tryz.sY:ak Tryz.prog 27=true:=by kernel_rfl
theorem Tryz.sZ:ak Tryz.prog 28=true:=by kernel_rfl
theorem Tryz.s9:ak Tryz.prog 30=true:=by kernel_rfl
theorem Tryz.td:ak Tryz.prog 31=true:=by kernel_rfl
theorem Tryz.oR:ak Tryz.prog 32=true:=by kernel_rfl
theorem Tryz.tf:ak Tryz.prog 33=true:=by kernel_rfl
theorem Tryz.oS:ak Tryz.prog 34=true:=by kernel_rfl
theorem Tryz.tg:ak Tryz.prog 35=true:=by kernel_rfl
theorem Tryz.oT:ak Tryz.prog 36=true:=by kernel_rfl
theorem Tryz.tj:ak Tryz.prog 37=true:=by kernel_rfl
theorem Tryz.oU:ak Tryz.prog 38=true:=by kernel_rfl
theorem Tryz.KV:ak Tryz.prog 39=true:=by kernel_rfl
theorem Tryz.KW:ak Tryz.prog 40=true:=by kernel_rfl
theorem Tryz.oV:ak Tryz.prog 41=true:=by kernel_rfl
theorem Tryz.tq:ak Tryz.prog 42=true:=by kernel_rfl
theorem Tryz.tt:ak Tryz.prog 43=true:=by kernel_rfl
theorem Tryz.tu:ak Tryz.prog 44=true:=by kernel_rfl
theorem Tryz.Ax:ak Tryz.prog 45=true:=by kernel_rfl
theorem Tryz.tv:ak Tryz.prog 46=true:=by kernel_rfl
theorem Tryz.oW:ak Tryz.prog 47=true:=by kernel_rfl
theorem Tryz.oX:ak Tryz.prog 48=true:=by kernel_rfl
theorem Tryz.oY:ak Tryz.prog 49=true:=by kernel_rfl
theorem Tryz.KX:ak Tryz.prog 50=true:=by kernel_rfl
theorem Tryz.tw:ak Tryz.prog 51=true:=by kernel_rfl
theorem Tryz.tA:ak Tryz.prog 52=true:=by kernel_rfl
theorem Tryz.KY:ak Tryz.prog 53=true:=by kernel_rfl
theorem Tryz.tB:ak Tryz.prog 54=true:=by kernel_rfl
theorem Tryz.tC:ak Tryz.prog 55=true:=by kernel_rfl
theorem Tryz.tE:ak Tryz.prog 56=true:=by kernel_rfl
theorem Tryz.tF:ak Tryz.prog 57=true:=by kernel_rfl
theorem Tryz.oZ:ak Tryz.prog 58=true:=by kernel_rfl
theorem Tryz.tG:ak Tryz.prog 59=true:=by kernel_rfl
theorem Tryz.tH:ak Tryz.prog 61=true:=by kernel_rfl
theorem Tryz.tI:ak Tryz.prog 62=true:=by kernel_rfl
theorem Tryz.tJ:ak Tryz.prog 63=true:=by kernel_rfl
theorem Tryz.o4:ak Tryz.prog 64=true:=by kernel_rfl
theorem Tryz.tL:ak Tryz.prog 65=true:=by kernel_rfl
theorem Tryz.tM:ak Tryz.prog 66=true:=by kernel_rfl
theorem Tryz.tN:ak Tryz.prog 67=true:=by kernel_rfl
theorem Tryz.tO:ak Tryz.prog 68=true:=by kernel_rfl
theorem Tryz.o5:ak Tryz.prog 69=true:=by kernel_rfl
theorem Tryz.mK:ak Tryz.prog 70=true:=by kernel_rfl
theorem Tryz.o6:ak Tryz.prog 71=true:=by kernel_rfl
theorem Tryz.tQ:ak Tryz.prog 73=true:=by kernel_rfl
theorem Tryz.Ay:ak Tryz.prog 74=true:=by kernel_rfl
theorem Tryz.tR:ak Tryz.prog 75=true:=by kernel_rfl
theorem Tryz.tS:ak Tryz.prog 76=true:=by kernel_rfl
theorem Tryz.tU:ak Tryz.prog 79=true:=by kernel_rfl
theorem Tryz.tV:ak Tryz.prog 80=true:=by kernel_rfl
theorem Tryz.o7:ak Tryz.prog 81=true:=by kernel_rfl
theorem Tryz.tW:ak Tryz.prog 82=true:=by kernel_rfl
theorem Tryz.o8:ak Tryz.prog 83=true:=by kernel_rfl
theorem Tryz.tX:ak Tryz.prog 84=true:=by kernel_rfl
theorem Tryz.tY:ak Tryz.prog 85=true:=by kernel_rfl
theorem Tryz.KZ:ak Tryz.prog 86=true:=by kernel_rfl
theorem Tryz.tZ:ak Tryz.prog 87=true:=by kernel_rfl
theorem Tryz.K0:ak Tryz.prog 88=true:=by kernel_rfl
theorem Tryz.ua:ak Tryz.prog 89=true:=by kernel_rfl
theorem Tryz.ub:ak Tryz.prog 90=true:=by kernel_rfl
theorem Tryz.uc:ak Tryz.prog 91=true:=by kernel_rfl
theorem Tryz.ud:ak Tryz.prog 92=true:=by kernel_rfl
theorem Tryz.K1:ak Tryz.prog 93=true:=by kernel_rfl
theorem Tryz.K2:ak Tryz.prog 94=true:=by kernel_rfl
theorem Tryz.K3:ak Tryz.prog 95=true:=by kernel_rfl
theorem Tryz.K4:ak Tryz.prog 96=true:=by kernel_rfl
theorem Tryz.gS:ak Tryz.prog 98=true:=by kernel_rfl
theorem Tryz.K5:ak Tryz.prog 99=true:=by kernel_rfl
theorem Tryz.Ij:ak Tryz.prog 100=true:=by kernel_rfl
theorem Tryz.qB:ak Tryz.prog 101=true:=by kernel_rfl
theorem Tryz.jQ:ak Tryz.prog 102=true:=by kernel_rfl
theorem fa0:eY Tryz.prog 3=some (false,1)∧zeroOf Tryz.prog 3=some ([Value.int IntKind.i64 0])∧eY Tryz.prog 4=some (false,1)∧eY Tryz.prog 5=some (false,1)∧kindOf Tryz.prog 5=some IntKind.u8∧eY Tryz.prog 22=some (false,1)∧cn.elemOf Tryz.prog 22=some 1∧zeroOf Tryz.prog 22=some ([Value.slice none 0 0])∧eY Tryz.prog 23=some (false,1)∧cn.elemOf Tryz.prog 23=some 1∧eY Tryz.prog 25=some (true,3)∧fM Tryz.prog 25=some ([Sum.inl (Value.int IntKind.i64 0),Sum.inl (Value.slice none 0 0),Sum.inl (Value.int IntKind.i64 0)])∧cm Tryz.prog 25 0=some (0,false,1)∧cm Tryz.prog 25 1=some (1,false,1)∧cm Tryz.prog 25 2=some (2,false,1)∧eY Tryz.prog 27=some (true,2)∧zeroOf Tryz.prog 27=some ([Value.slice none 0 0,Value.int IntKind.i64 0])∧fM Tryz.prog 27=some ([Sum.inl (Value.slice none 0 0),Sum.inl (Value.int IntKind.i64 0)])∧cm Tryz.prog 27 0=some (0,false,1)∧placeOf Tryz.prog 27 0=some (0,1)∧cm Tryz.prog 27 1=some (1,false,1)∧placeOf Tryz.prog 27 1=some (1,1)∧eY Tryz.prog 30=some (true,4)∧fM Tryz.prog 30=some ([Sum.inl (Value.int IntKind.i64 0),Sum.inl (Value.slice none 0 0),Sum.inl (Value.int IntKind.i64 0),Sum.inl (Value.slice none 0 0)])∧cm Tryz.prog 30 0=some (0,true,3)∧placeOf Tryz.prog 30 0=some (0,3)∧cm Tryz.prog 30 1=some (3,false,1)∧placeOf Tryz.prog 30 1=some (3,1)∧eY Tryz.prog 34=some (false,1)∧kindOf Tryz.prog 34=some IntKind.u64∧eY Tryz.prog 36=some (true,5)∧fM Tryz.prog 36=some ([Sum.inl (Value.int IntKind.i64 0),Sum.inl (Value.int IntKind.u64 0),Sum.inl (Value.int IntKind.i64 0),Sum.inl (Value.int IntKind.i64 0),Sum.inl (Value.slice none 0 0)])∧cm Tryz.prog 36 0=some (0,false,1)∧placeOf Tryz.prog 36 0=some (0,1)∧cm Tryz.prog 36 1=some (1,false,1)∧placeOf Tryz.prog 36 1=some (1,1)∧cm Tryz.prog 36 2=some (2,false,1)∧placeOf Tryz.prog 36 2=some (2,1)∧cm Tryz.prog 36 3=some (3,false,1)∧placeOf Tryz.prog 36 3=some (3,1)∧cm Tryz.prog 36 4=some (4,false,1)∧placeOf Tryz.prog 36 4=some (4,1)∧eY Tryz.prog 40=some (true,2)∧fM Tryz.prog 40=some ([Sum.inl (Value.int IntKind.i64 0),Sum.inl (Value.slice none 0 0)])∧cm Tryz.prog 40 0=some (0,false,1)∧placeOf Tryz.prog 40 0=some (0,1)∧cm Tryz.prog 40 1=some (1,false,1)∧placeOf Tryz.prog 40 1=some (1,1)∧eY Tryz.prog 50=some (true,2)∧zeroOf Tryz.prog 50=some ([Value.int IntKind.u64 0,Value.slice none 0 0]):=by
 iterate 49 (refine ⟨by kernel_rfl, ?_⟩)
 kernel_rfl
theorem fa1:fM Tryz.prog 50=some ([Sum.inl (Value.int IntKind.u64 0),Sum.inl (Value.slice none 0 0)])∧cm Tryz.prog 50 0=some (0,false,1)∧placeOf Tryz.prog 50 0=some (0,1)∧cm Tryz.prog 50 1=some (1,false,1)∧placeOf Tryz.prog 50 1=some (1,1)∧eY Tryz.prog 56=some (true,4)∧zeroOf Tryz.prog 56=some ([Value.nilFunc,Value.nilFunc,Value.nilFunc,Value.nilFunc])∧fM Tryz.prog 56=some ([Sum.inl (Value.nilFunc),Sum.inl (Value.nilFunc),Sum.inl (Value.nilFunc),Sum.inl (Value.nilFunc)])∧cm Tryz.prog 56 0=some (0,false,1)∧placeOf Tryz.prog 56 0=some (0,1)∧cm Tryz.prog 56 1=some (1,false,1)∧placeOf Tryz.prog 56 1=some (1,1)∧cm Tryz.prog 56 2=some (2,false,1)∧placeOf Tryz.prog 56 2=some (2,1)∧cm Tryz.prog 56 3=some (3,false,1)∧placeOf Tryz.prog 56 3=some (3,1)∧eY Tryz.prog 58=some (false,1)∧cn.elemOf Tryz.prog 58=some 64∧pT Tryz.prog 58=some (List.replicate 64 (Value.int IntKind.u8 0),64,64)∧eY Tryz.prog 67=some (true,4)∧zeroOf Tryz.prog 67=some ([Value.int IntKind.i64 0,Value.int IntKind.i64 0,Value.int IntKind.u64 0,Value.slice none 0 0])∧fM Tryz.prog 67=some ([Sum.inl (Value.int IntKind.i64 0),Sum.inl (Value.int IntKind.i64 0),Sum.inl (Value.int IntKind.u64 0),Sum.inl (Value.slice none 0 0)])∧cm Tryz.prog 67 0=some (0,false,1)∧placeOf Tryz.prog 67 0=some (0,1)∧cm Tryz.prog 67 1=some (1,false,1)∧placeOf Tryz.prog 67 1=some (1,1)∧cm Tryz.prog 67 2=some (2,true,2)∧placeOf Tryz.prog 67 2=some (2,2)∧cn.elemOf Tryz.prog 71=some 3∧eY Tryz.prog 84=some (false,1)∧cn.elemOf Tryz.prog 84=some 65∧zeroOf Tryz.prog 84=some ([Value.slice none 0 0])∧eY Tryz.prog 86=some (true,64)∧lJ Tryz.prog 86=some (64,1)∧uB Tryz.prog 86=some (some 64,1)∧zeroOf Tryz.prog 86=some (List.replicate 64 (Value.int IntKind.u8 0))∧fM Tryz.prog 86=some (List.replicate 64 (Sum.inl (Value.int IntKind.u8 0)))∧eY Tryz.prog 90=some (true,65)∧zeroOf Tryz.prog 90=some (List.replicate 1 (Value.int IntKind.i64 0)++List.replicate 64 (Value.int IntKind.u8 0))∧fM Tryz.prog 90=some (List.replicate 1 (Sum.inl (Value.int IntKind.i64 0))++List.replicate 64 (Sum.inl (Value.int IntKind.u8 0)))∧cm Tryz.prog 90 0=some (0,false,1)∧placeOf Tryz.prog 90 0=some (0,1)∧cm Tryz.prog 90 1=some (1,true,64)∧placeOf Tryz.prog 90 1=some (1,64)∧cn.elemOf Tryz.prog 98=some 1∧eY Tryz.prog 101=some (true,3)∧fM Tryz.prog 101=some ([Sum.inl (Value.bool false),Sum.inl (Value.int IntKind.u64 0),Sum.inl (Value.slice none 0 0)])∧cm Tryz.prog 101 0=some (0,false,1)∧placeOf Tryz.prog 101 0=some (0,1)∧cm Tryz.prog 101 1=some (1,false,1):=by
 iterate 49 (refine ⟨by kernel_rfl, ?_⟩)
 kernel_rfl
theorem fa2:placeOf Tryz.prog 101 1=some (1,1)∧cm Tryz.prog 101 2=some (2,false,1)∧placeOf Tryz.prog 101 2=some (2,1)∧eY Tryz.prog 105=some (true,3)∧fM Tryz.prog 105=some ([Sum.inl (Value.bool false),Sum.inl (Value.int IntKind.i64 0),Sum.inl (Value.slice none 0 0)])∧cm Tryz.prog 105 0=some (0,false,1)∧placeOf Tryz.prog 105 0=some (0,1)∧cm Tryz.prog 105 1=some (1,false,1)∧placeOf Tryz.prog 105 1=some (1,1)∧cm Tryz.prog 105 2=some (2,false,1)∧placeOf Tryz.prog 105 2=some (2,1)∧eY Tryz.prog 118=some (true,32)∧lJ Tryz.prog 118=some (32,1)∧uB Tryz.prog 118=some (some 32,1)∧zeroOf Tryz.prog 118=some (List.replicate 32 (Value.int IntKind.u8 0))∧fM Tryz.prog 118=some (List.replicate 32 (Sum.inl (Value.int IntKind.u8 0)))∧eY Tryz.prog 129=some (false,1)∧kindOf Tryz.prog 129=some IntKind.u32∧kindOf Tryz.prog 131=some IntKind.u64∧cn.elemOf Tryz.prog 137=some 1∧pT Tryz.prog 137=some ([Value.slice none 0 0],1,24)∧eY Tryz.prog 152=some (true,8)∧CM Tryz.prog 152=some (8,false,1)∧zeroOf Tryz.prog 152=some ([Value.int IntKind.u32 0,Value.int IntKind.u32 0,Value.int IntKind.u32 0,Value.int IntKind.u32 0,Value.int IntKind.u32 0,Value.int IntKind.u32 0,Value.int IntKind.u32 0,Value.int IntKind.u32 0])∧fM Tryz.prog 152=some ([Sum.inl (Value.int IntKind.u32 0),Sum.inl (Value.int IntKind.u32 0),Sum.inl (Value.int IntKind.u32 0),Sum.inl (Value.int IntKind.u32 0),Sum.inl (Value.int IntKind.u32 0),Sum.inl (Value.int IntKind.u32 0),Sum.inl (Value.int IntKind.u32 0),Sum.inl (Value.int IntKind.u32 0)])∧eY Tryz.prog 155=some (true,64)∧lJ Tryz.prog 155=some (64,1)∧zeroOf Tryz.prog 155=some (List.replicate 64 (Value.int IntKind.u32 0))∧ak Tryz.prog 23=true∧ak Tryz.prog 29=true∧ak Tryz.prog 60=true∧ak Tryz.prog 72=true∧ak Tryz.prog 97=true∧ak Tryz.prog 103=true∧Tryz.prog.follows .mixedOrders=true∧isBool Tryz.prog 4=true∧qg Tryz.prog [22]=1∧qg Tryz.prog [23]=1∧qg Tryz.prog [58]=1∧isIface Tryz.prog 62=true∧qg Tryz.prog [71]=1∧qg Tryz.prog [84]=1∧mr Tryz.prog 86=some (64,IntKind.u8)∧qg Tryz.prog [98]=1∧qg Tryz.prog [137]=1:=by
 iterate 44 (refine ⟨by kernel_rfl, ?_⟩)
 kernel_rfl
theorem abt:type_of% @Tryz.D1∧type_of% @Tryz.fc∧type_of% @Tryz.eK∧type_of% @Tryz.Nt∧type_of% @Tryz.Nu∧type_of% @Tryz.Nv∧type_of% @Tryz.D2∧type_of% @Tryz.xI∧type_of% @Tryz.Ii∧type_of% @Tryz.ri∧type_of% @Tryz.vU∧type_of% @Tryz.vV∧type_of% @Tryz.vW∧type_of% @Tryz.vX∧type_of% @Tryz.rj∧type_of% @Tryz.kH∧type_of% @Tryz.sN∧type_of% @Tryz.sO∧type_of% @Tryz.sQ∧type_of% @Tryz.sR∧type_of% @Tryz.sU∧type_of% @Tryz.oO∧type_of% @Tryz.sV∧type_of% @Tryz.oP∧type_of% @Tryz.sW∧type_of% @Tryz.sX∧type_of% @Tryz.oQ∧type_of% @Tryz.sY∧type_of% @Tryz.sZ∧type_of% @Tryz.s9∧type_of% @Tryz.td∧type_of% @Tryz.oR∧type_of% @Tryz.tf∧type_of% @Tryz.oS∧type_of% @Tryz.tg∧type_of% @Tryz.oT∧type_of% @Tryz.oU∧type_of% @Tryz.oV∧type_of% @Tryz.tq∧type_of% @Tryz.tt∧type_of% @Tryz.tu∧type_of% @Tryz.tv∧type_of% @Tryz.oW∧type_of% @Tryz.oX∧type_of% @Tryz.oY∧type_of% @Tryz.tw∧type_of% @Tryz.tA∧type_of% @Tryz.tB∧type_of% @Tryz.tC∧type_of% @Tryz.tE∧type_of% @Tryz.tF∧type_of% @Tryz.oZ∧type_of% @Tryz.tG∧type_of% @Tryz.tH∧type_of% @Tryz.tI∧type_of% @Tryz.tJ∧type_of% @Tryz.o4∧type_of% @Tryz.tL∧type_of% @Tryz.tM∧type_of% @Tryz.tN∧type_of% @Tryz.tO∧type_of% @Tryz.o5∧type_of% @Tryz.mK∧type_of% @Tryz.o6∧type_of% @Tryz.tQ∧type_of% @Tryz.tR∧type_of% @Tryz.tS∧type_of% @Tryz.tU∧type_of% @Tryz.tV∧type_of% @Tryz.o7∧type_of% @Tryz.tW∧type_of% @Tryz.o8∧type_of% @Tryz.tX∧type_of% @Tryz.tY∧type_of% @Tryz.tZ∧type_of% @Tryz.ua∧type_of% @Tryz.ub∧type_of% @Tryz.uc∧type_of% @Tryz.ud∧type_of% @Tryz.gS∧type_of% @Tryz.qB∧type_of% @Tryz.jQ∧type_of% @Tryz.KU∧type_of% @Tryz.abm∧type_of% @Tryz.abo∧type_of% @Tryz.abq∧type_of% @Tryz.abn∧type_of% @Tryz.abl∧type_of% @Tryz.Zm∧type_of% @Tryz.abp∧type_of% @Tryz.abr∧type_of% @fa0∧type_of% @fa1∧type_of% @fa2:=
 ⟨@Tryz.D1, @Tryz.fc, @Tryz.eK, @Tryz.Nt, @Tryz.Nu, @Tryz.Nv, @Tryz.D2, @Tryz.xI, @Tryz.Ii, @Tryz.ri, @Tryz.vU, @Tryz.vV, @Tryz.vW, @Tryz.vX, @Tryz.rj, @Tryz.kH, @Tryz.sN, @Tryz.sO, @Tryz.sQ, @Tryz.sR, @Tryz.sU, @Tryz.oO, @Tryz.sV, @Tryz.oP, @Tryz.sW, @Tryz.sX, @Tryz.oQ, @Tryz.sY, @Tryz.sZ, @Tryz.s9, @Tryz.td, @Tryz.oR, @Tryz.tf, @Tryz.oS, @Tryz.tg, @Tryz.oT, @Tryz.oU, @Tryz.oV, @Tryz.tq, @Tryz.tt, @Tryz.tu, @Tryz.tv, @Tryz.oW, @Tryz.oX, @Tryz.oY, @Tryz.tw, @Tryz.tA, @Tryz.tB, @Tryz.tC, @Tryz.tE, @Tryz.tF, @Tryz.oZ, @Tryz.tG, @Tryz.tH, @Tryz.tI, @Tryz.tJ, @Tryz.o4, @Tryz.tL, @Tryz.tM, @Tryz.tN, @Tryz.tO, @Tryz.o5, @Tryz.mK, @Tryz.o6, @Tryz.tQ, @Tryz.tR, @Tryz.tS, @Tryz.tU, @Tryz.tV, @Tryz.o7, @Tryz.tW, @Tryz.o8, @Tryz.tX, @Tryz.tY, @Tryz.tZ, @Tryz.ua, @Tryz.ub, @Tryz.uc, @Tryz.ud, @Tryz.gS, @Tryz.qB, @Tryz.jQ, @Tryz.KU, @Tryz.abm, @Tryz.abo, @Tryz.abq, @Tryz.abn, @Tryz.abl, @Tryz.Zm, @Tryz.abp, @Tryz.abr, @fa0, @fa1, @fa2⟩
theorem WV:(∀ k n,Value.oneCell' (.int k n)=true)∧(∀ b,Value.oneCell' (.bool b)=true)∧(∀ s,Value.oneCell' (.string s)=true)∧(∀ a,Value.oneCell' (.pointer a)=true)∧(∀ a n c,Value.oneCell' (.slice a n c)=true)∧(∀ f a c,Value.oneCell' (.func f a c)=true)∧Value.oneCell' .nilFunc=true∧(∀ t v,Value.oneCell' (.iface t v)=true)∧Value.oneCell' .nilIface=true:=⟨fun _ _=>rfl,fun _=>rfl,fun _=>rfl,fun _=>rfl,fun _ _ _=>rfl,fun _ _ _=>rfl,rfl,fun _ _=>rfl,rfl⟩
theorem vQ:type_of% @M6∧type_of% @M7∧type_of% @M8∧type_of% @rules∧type_of% @Rh∧type_of% @Ar∧type_of% @ay∧type_of% @DC∧type_of% @abt∧type_of% @WH∧type_of% @Int.toNat_zero∧type_of% @not_false_eq_true∧type_of% @WV:=
 ⟨@M6, @M7, @M8, @rules, @Rh, @Ar, @ay, @DC, @abt, @WH, @Int.toNat_zero, @not_false_eq_true, @WV⟩
theorem vS:type_of% @vQ∧(∀ cs o new,splice cs o new=cs.take o++new++cs.drop (o+new.length)):=⟨@vQ,fun _ _ _=>rfl⟩
theorem vR:type_of% @vQ∧type_of% @aD∧type_of% @q8∧type_of% @gO∧type_of% @ER∧type_of% @zE∧type_of% @Rp∧type_of% @Int.toNat_natCast:=
 ⟨@vQ, @aD, @q8, @gO, @ER, @zE, @Rp, @Int.toNat_natCast⟩
theorem vL:type_of% @vR∧type_of% @bm∧type_of% @Rz:=
 ⟨@vR, @bm, @Rz⟩
theorem vP:type_of% @vL∧type_of% @aq:=
 ⟨@vL, @aq⟩
end Go.Proofs.YtaeagfdnfjenlaaGreatDoor
