/-
  Closed facts on the tables of this seat's program, each by the kernel (made by program from the translation: wip/lib/facts.py).
-/
import Derived.Test.YtkaamnnjeandlaaDoorVcgQ0
import Derived.Test.YtkaamnnjeandlaaDoorVcgFv
import Derived.Test.YtkaamnnjeandlaaDoorVcgZ1
import Derived.Test.YtkaamnnjeandlaaDoorProg
import Derived.KernelRfl
set_option linter.unusedVariables false
set_option linter.unusedSimpArgs false
namespace Go.Proofs.YtkaamnnjeandlaaDoor
open Go.bM
class aV where
 place:Nat→Addr
 cells:Nat→Array Value
 ty:Nat→TypeId
 inj: ∀ i j,i < 5→j < 5→place i=place j→i=j
def wx [aV] (n:Nat):Option Nat:=(List.range 5).find? fun i=>(aV.place i).block==n
def V9 [aV] (i:Nat):Value:= .pointer (some (aV.place i))
def bR [aV] (i:Nat):Value:= .iface 135 (V9 i)
def TF (n:Nat):Nat:=[0,4,1,2,3].getD n 0
def wy [aV] (n:Nat):Option aG:=if n < 5 then some ⟨false,[Sum.inl (bR (TF n))]⟩ else if n=5 then some ⟨false,aA .u32 64 kW⟩ else match wx n with
 | some _=>some ⟨false,[]⟩
 | none=>none
def pW [aV] (n:Nat):Option Obj:=match wx n with
 | some i=>some (.cells (aV.cells i) (aV.ty i) (0,0))
 | none=>none
theorem RG [aV] (b:Nat) (o:Obj) (h:pW b=some o): ∃ bx,wy b=some bx:=by
 unfold pW at h
 unfold wy
 split at h
 ·rename_i i hi
  (repeat' split)<;>exact ⟨_,rfl⟩
 ·cases h
instance [aV]:bM.Tables Tryd.prog:={ row:=wy,Ob:=pW,sub:=RG }
section
variable [aV]
theorem Tryd.RH:Tables.row Tryd.prog 0=some ⟨false,[Sum.inl (bR 0)]⟩:=rfl
theorem Tryd.TG:Tables.row Tryd.prog 1=some ⟨false,[Sum.inl (bR 4)]⟩:=rfl
theorem Tryd.TH:Tables.row Tryd.prog 2=some ⟨false,[Sum.inl (bR 1)]⟩:=rfl
theorem Tryd.TI:Tables.row Tryd.prog 3=some ⟨false,[Sum.inl (bR 2)]⟩:=rfl
theorem Tryd.TJ:Tables.row Tryd.prog 4=some ⟨false,[Sum.inl (bR 3)]⟩:=rfl
theorem Tryd.TK:Tables.row Tryd.prog 5=some ⟨false,aA .u32 64 kW⟩:=rfl
end
theorem Tryd.MB:kindOf Tryd.prog 3=some IntKind.i64:=by kernel_rfl
theorem Tryd.kP:sF Tryd.prog 22=some (none,1):=by kernel_rfl
theorem Tryd.lH:qU Tryd.prog 22=some ([Value.int IntKind.u8 0],1,1):=by kernel_rfl
theorem Tryd.Ig:sF Tryd.prog 69=some (none,65):=by kernel_rfl
theorem Tryd.zO:qU Tryd.prog 69=some (List.replicate 1 (Value.int IntKind.i64 0)++List.replicate 64 (Value.int IntKind.u8 0),65,72):=by kernel_rfl
theorem Tryd.zP:sF Tryd.prog 88=some (none,1):=by kernel_rfl
theorem Tryd.tH:qU Tryd.prog 88=some ([Value.int IntKind.i64 0],1,8):=by kernel_rfl
theorem Tryd.F1:jN Tryd.prog 126=some (8,1):=by kernel_rfl
theorem Tryd.DQ (i:Nat):placeOf Tryd.prog 126 i=some (i*1,1):=by unfold placeOf;rw[Tryd.F1]
theorem Tryd.J3:au Tryd.prog 3=true:=by kernel_rfl
theorem Tryd.rW:au Tryd.prog 4=true:=by kernel_rfl
theorem Tryd.rX:au Tryd.prog 5=true:=by kernel_rfl
theorem Tryd.rY:au Tryd.prog 6=true:=by kernel_rfl
theorem Tryd.ku:au Tryd.prog 7=true:=by kernel_rfl
theorem Tryd.oS:au Tryd.prog 8=true:=by kernel_rfl
theorem Tryd.rZ:au Tryd.prog 9=true:=by kernel_rfl
theorem Tryd.pX:au Tryd.prog 10=true:=by kernel_rfl
theorem Tryd.pY:au Tryd.prog 11=true:=by kernel_rfl
theorem Tryd.pZ:au Tryd.prog 12=true:=by kernel_rfl
theorem Tryd.p6:au Tryd.prog 14=true:=by kernel_rfl
theorem Tryd.p7:au Tryd.prog 15=true:=by kernel_rfl
theorem Tryd.mO:au Tryd.prog 16=true:=by kernel_rfl
theorem Tryd.p8:au Tryd.prog 17=true:=by kernel_rfl
theorem Tryd.mP:au Tryd.prog 18=true:=by kernel_rfl
theorem Tryd.p9:au Tryd.prog 19=true:=by kernel_rfl
theorem Tryd.mQ:au Tryd.prog 20=true:=by kernel_rfl
theorem Tryd.qa:au Tryd.prog 21=true:=by kernel_rfl
theorem Tryd.F2:au Tryd.prog 22=true:=by kernel_rfl
theorem Tryd.qb:au Tryd.prog 23=true:=by kernel_rfl
theorem Tryd.qc:au Tryd.prog 25=true:=by kernel_rfl
theorem Tryd.qd:au Tryd.prog 26=true:=by kernel_rfl
theorem Tryd.qe:au Tryd.prog 27=true:=by kernel_rfl
theorem Tryd.mS:au Tryd.prog 28=true:=by kernel_rfl
theorem Tryd.mT:au Tryd.prog 29=true:=by kernel_rfl
theorem Tryd.mU:au Tryd.prog 30=true:=by kernel_rfl
theorem Tryd.F3:au Tryd.prog 31=true:=by kernel_rfl
theorem Tryd.qf:au Tryd.prog 32=true:=by kernel_rfl
theorem Tryd.qg:au Tryd.prog 33=true:=by kernel_rfl
theorem Tryd.F4:au Tryd.prog 34=true:=by kernel_rfl
theorem Tryd.qh:au Tryd.prog 35=true:=by kernel_rfl
theorem Tryd.qi:au Tryd.prog 36=true:=by kernel_rfl
theorem Tryd.qj:au Tryd.prog 37=true:=by kernel_rfl
theorem Tryd.qk:au Tryd.prog 38=true:=by kernel_rfl
theorem Tryd.mV:au Tryd.prog 39=true:=by kernel_rfl
theorem Tryd.ql:au Tryd.prog 40=true:=by kernel_rfl
theorem Tryd.qm:au Tryd.prog 41=true:=by kernel_rfl
theorem Tryd.mW:au Tryd.prog 42=true:=by kernel_rfl
theorem Tryd.F5:au Tryd.prog 43=true:=by kernel_rfl
theorem Tryd.qn:au Tryd.prog 44=true:=by kernel_rfl
theorem Tryd.qo:au Tryd.prog 46=true:=by kernel_rfl
theorem Tryd.qp:au Tryd.prog 47=true:=by kernel_rfl
theorem Tryd.qq:au Tryd.prog 49=true:=by kernel_rfl
theorem Tryd.wA:au Tryd.prog 50=true:=by kernel_rfl
theorem Tryd.qt:au Tryd.prog 51=true:=by kernel_rfl
theorem Tryd.qu:au Tryd.prog 52=true:=by kernel_rfl
theorem Tryd.F6:au Tryd.prog 53=true:=by kernel_rfl
theorem Tryd.kQ:au Tryd.prog 54=true:=by kernel_rfl
theorem Tryd.qv:au Tryd.prog 55=true:=by kernel_rfl
theorem Tryd.qw:au Tryd.prog 58=true:=by kernel_rfl
theorem Tryd.qx:au Tryd.prog 59=true:=by kernel_rfl
theorem Tryd.F7:au Tryd.prog 60=true:=by kernel_rfl
theorem Tryd.qy:au Tryd.prog 61=true:=by kernel_rfl
theorem Tryd.qz:au Tryd.prog 62=true:=by kernel_rfl
theorem Tryd.qA:au Tryd.prog 63=true:=by kernel_rfl
theorem Tryd.qB:au Tryd.prog 64=true:=by kernel_rfl
theorem Tryd.F8:au Tryd.prog 65=true:=by kernel_rfl
theorem Tryd.F9:au Tryd.prog 66=true:=by kernel_rfl
theorem Tryd.Ga:au Tryd.prog 67=true:=by kernel_rfl
theorem Tryd.Gb:au Tryd.prog 69=true:=by kernel_rfl
theorem Tryd.Gc:au Tryd.prog 70=true:=by kernel_rfl
theorem Tryd.qC:au Tryd.prog 71=true:=by kernel_rfl
theorem Tryd.jg:au Tryd.prog 72=true:=by kernel_rfl
theorem Xv:dX Tryd.prog 3=some (false,1)∧zeroOf Tryd.prog 3=some ([Value.int IntKind.i64 0])∧dX Tryd.prog 4=some (false,1)∧dX Tryd.prog 5=some (false,1)∧kindOf Tryd.prog 5=some IntKind.u8∧dX Tryd.prog 22=some (false,1)∧bM.elemOf Tryd.prog 22=some 1∧zeroOf Tryd.prog 22=some ([Value.slice none 0 0])∧bM.elemOf Tryd.prog 23=some 1∧qU Tryd.prog 23=some ([Value.slice none 0 0],1,24)∧bM.elemOf Tryd.prog 24=some 3∧dX Tryd.prog 27=some (false,1)∧kindOf Tryd.prog 27=some IntKind.u64∧dX Tryd.prog 29=some (true,2)∧fK Tryd.prog 29=some ([Sum.inl (Value.int IntKind.i64 0),Sum.inl (Value.slice none 0 0)])∧cg Tryd.prog 29 0=some (0,false,1)∧placeOf Tryd.prog 29 0=some (0,1)∧cg Tryd.prog 29 1=some (1,false,1)∧placeOf Tryd.prog 29 1=some (1,1)∧dX Tryd.prog 31=some (false,1)∧bM.elemOf Tryd.prog 31=some 1∧dX Tryd.prog 33=some (true,3)∧fK Tryd.prog 33=some ([Sum.inl (Value.int IntKind.i64 0),Sum.inl (Value.slice none 0 0),Sum.inl (Value.int IntKind.i64 0)])∧cg Tryd.prog 33 0=some (0,false,1)∧cg Tryd.prog 33 1=some (1,false,1)∧cg Tryd.prog 33 2=some (2,false,1)∧dX Tryd.prog 40=some (true,5)∧zeroOf Tryd.prog 40=some ([Value.int IntKind.i64 0,Value.int IntKind.u64 0,Value.int IntKind.i64 0,Value.int IntKind.i64 0,Value.slice none 0 0])∧fK Tryd.prog 40=some ([Sum.inl (Value.int IntKind.i64 0),Sum.inl (Value.int IntKind.u64 0),Sum.inl (Value.int IntKind.i64 0),Sum.inl (Value.int IntKind.i64 0),Sum.inl (Value.slice none 0 0)])∧cg Tryd.prog 40 0=some (0,false,1)∧placeOf Tryd.prog 40 0=some (0,1)∧cg Tryd.prog 40 1=some (1,false,1)∧placeOf Tryd.prog 40 1=some (1,1)∧placeOf Tryd.prog 40 2=some (2,1)∧cg Tryd.prog 40 3=some (3,false,1)∧placeOf Tryd.prog 40 3=some (3,1)∧cg Tryd.prog 40 4=some (4,false,1)∧placeOf Tryd.prog 40 4=some (4,1)∧dX Tryd.prog 44=some (true,2)∧zeroOf Tryd.prog 44=some ([Value.int IntKind.u64 0,Value.slice none 0 0])∧fK Tryd.prog 44=some ([Sum.inl (Value.int IntKind.u64 0),Sum.inl (Value.slice none 0 0)])∧cg Tryd.prog 44 0=some (0,false,1)∧placeOf Tryd.prog 44 0=some (0,1)∧cg Tryd.prog 44 1=some (1,false,1)∧placeOf Tryd.prog 44 1=some (1,1)∧dX Tryd.prog 50=some (true,4)∧zeroOf Tryd.prog 50=some ([Value.nilFunc,Value.nilFunc,Value.nilFunc,Value.nilFunc])∧fK Tryd.prog 50=some ([Sum.inl (Value.nilFunc),Sum.inl (Value.nilFunc),Sum.inl (Value.nilFunc),Sum.inl (Value.nilFunc)])∧cg Tryd.prog 50 0=some (0,false,1)∧placeOf Tryd.prog 50 0=some (0,1):=by
 iterate 49 (refine ⟨by kernel_rfl, ?_⟩)
 kernel_rfl
theorem Xw:cg Tryd.prog 50 1=some (1,false,1)∧placeOf Tryd.prog 50 1=some (1,1)∧cg Tryd.prog 50 2=some (2,false,1)∧placeOf Tryd.prog 50 2=some (2,1)∧cg Tryd.prog 50 3=some (3,false,1)∧placeOf Tryd.prog 50 3=some (3,1)∧dX Tryd.prog 52=some (false,1)∧bM.elemOf Tryd.prog 52=some 64∧qU Tryd.prog 52=some (List.replicate 64 (Value.int IntKind.u8 0),64,64)∧dX Tryd.prog 64=some (true,4)∧zeroOf Tryd.prog 64=some ([Value.int IntKind.i64 0,Value.int IntKind.i64 0,Value.int IntKind.u64 0,Value.slice none 0 0])∧fK Tryd.prog 64=some ([Sum.inl (Value.int IntKind.i64 0),Sum.inl (Value.int IntKind.i64 0),Sum.inl (Value.int IntKind.u64 0),Sum.inl (Value.slice none 0 0)])∧cg Tryd.prog 64 0=some (0,false,1)∧placeOf Tryd.prog 64 0=some (0,1)∧cg Tryd.prog 64 1=some (1,false,1)∧placeOf Tryd.prog 64 1=some (1,1)∧cg Tryd.prog 64 2=some (2,true,2)∧placeOf Tryd.prog 64 2=some (2,2)∧dX Tryd.prog 69=some (false,1)∧bM.elemOf Tryd.prog 69=some 65∧zeroOf Tryd.prog 69=some ([Value.slice none 0 0])∧dX Tryd.prog 71=some (true,64)∧jN Tryd.prog 71=some (64,1)∧sF Tryd.prog 71=some (some 64,1)∧zeroOf Tryd.prog 71=some (List.replicate 64 (Value.int IntKind.u8 0))∧fK Tryd.prog 71=some (List.replicate 64 (Sum.inl (Value.int IntKind.u8 0)))∧dX Tryd.prog 75=some (true,65)∧zeroOf Tryd.prog 75=some (List.replicate 1 (Value.int IntKind.i64 0)++List.replicate 64 (Value.int IntKind.u8 0))∧fK Tryd.prog 75=some (List.replicate 1 (Sum.inl (Value.int IntKind.i64 0))++List.replicate 64 (Sum.inl (Value.int IntKind.u8 0)))∧cg Tryd.prog 75 0=some (0,false,1)∧placeOf Tryd.prog 75 0=some (0,1)∧cg Tryd.prog 75 1=some (1,true,64)∧placeOf Tryd.prog 75 1=some (1,64)∧bM.elemOf Tryd.prog 88=some 1∧dX Tryd.prog 95=some (true,32)∧jN Tryd.prog 95=some (32,1)∧sF Tryd.prog 95=some (some 32,1)∧zeroOf Tryd.prog 95=some (List.replicate 32 (Value.int IntKind.u8 0))∧fK Tryd.prog 95=some (List.replicate 32 (Sum.inl (Value.int IntKind.u8 0)))∧dX Tryd.prog 125=some (false,1)∧kindOf Tryd.prog 125=some IntKind.u32∧dX Tryd.prog 126=some (true,8)∧yl Tryd.prog 126=some (8,false,1)∧zeroOf Tryd.prog 126=some ([Value.int IntKind.u32 0,Value.int IntKind.u32 0,Value.int IntKind.u32 0,Value.int IntKind.u32 0,Value.int IntKind.u32 0,Value.int IntKind.u32 0,Value.int IntKind.u32 0,Value.int IntKind.u32 0])∧fK Tryd.prog 126=some ([Sum.inl (Value.int IntKind.u32 0),Sum.inl (Value.int IntKind.u32 0),Sum.inl (Value.int IntKind.u32 0),Sum.inl (Value.int IntKind.u32 0),Sum.inl (Value.int IntKind.u32 0),Sum.inl (Value.int IntKind.u32 0),Sum.inl (Value.int IntKind.u32 0),Sum.inl (Value.int IntKind.u32 0)])∧kindOf Tryd.prog 129=some IntKind.u64∧dX Tryd.prog 131=some (true,64)∧jN Tryd.prog 131=some (64,1)∧zeroOf Tryd.prog 131=some (List.replicate 64 (Value.int IntKind.u32 0))∧au Tryd.prog 13=true:=by
 iterate 49 (refine ⟨by kernel_rfl, ?_⟩)
 kernel_rfl
theorem Xx:au Tryd.prog 24=true∧au Tryd.prog 45=true∧au Tryd.prog 48=true∧au Tryd.prog 68=true∧au Tryd.prog 73=true∧Tryd.prog.follows .mixedOrders=true∧nO Tryd.prog [22]=1∧nO Tryd.prog [23]=1∧nO Tryd.prog [24]=1∧nO Tryd.prog [31]=1∧nO Tryd.prog [52]=1∧isIface Tryd.prog 57=true∧nO Tryd.prog [69]=1∧kz Tryd.prog 71=some (64,IntKind.u8)∧nO Tryd.prog [88]=1:=by
 iterate 14 (refine ⟨by kernel_rfl, ?_⟩)
 kernel_rfl
theorem TM:type_of% @Tryd.MB∧type_of% @Tryd.kP∧type_of% @Tryd.lH∧type_of% @Tryd.zO∧type_of% @Tryd.tH∧type_of% @Tryd.DQ∧type_of% @Tryd.rW∧type_of% @Tryd.rX∧type_of% @Tryd.rY∧type_of% @Tryd.ku∧type_of% @Tryd.oS∧type_of% @Tryd.rZ∧type_of% @Tryd.pX∧type_of% @Tryd.pY∧type_of% @Tryd.pZ∧type_of% @Tryd.p6∧type_of% @Tryd.p7∧type_of% @Tryd.mO∧type_of% @Tryd.p8∧type_of% @Tryd.mP∧type_of% @Tryd.mQ∧type_of% @Tryd.qa∧type_of% @Tryd.qb∧type_of% @Tryd.qc∧type_of% @Tryd.qd∧type_of% @Tryd.qe∧type_of% @Tryd.mS∧type_of% @Tryd.mT∧type_of% @Tryd.mU∧type_of% @Tryd.qf∧type_of% @Tryd.qg∧type_of% @Tryd.qh∧type_of% @Tryd.qi∧type_of% @Tryd.qj∧type_of% @Tryd.qk∧type_of% @Tryd.mV∧type_of% @Tryd.ql∧type_of% @Tryd.qm∧type_of% @Tryd.mW∧type_of% @Tryd.qn∧type_of% @Tryd.qo∧type_of% @Tryd.qp∧type_of% @Tryd.qq∧type_of% @Tryd.qt∧type_of% @Tryd.qu∧type_of% @Tryd.kQ∧type_of% @Tryd.qv∧type_of% @Tryd.qw∧type_of% @Tryd.qx∧type_of% @Tryd.qy∧type_of% @Tryd.qz∧type_of% @Tryd.qA∧type_of% @Tryd.qB∧type_of% @Tryd.qC∧type_of% @Tryd.jg∧type_of% @Tryd.F1∧type_of% @Tryd.TI∧type_of% @Tryd.TK∧type_of% @Tryd.RH∧type_of% @Tryd.TG∧type_of% @Tryd.TH∧type_of% @Tryd.TJ∧type_of% @Xv∧type_of% @Xw∧type_of% @Xx:=
 ⟨@Tryd.MB, @Tryd.kP, @Tryd.lH, @Tryd.zO, @Tryd.tH, @Tryd.DQ, @Tryd.rW, @Tryd.rX, @Tryd.rY, @Tryd.ku, @Tryd.oS, @Tryd.rZ, @Tryd.pX, @Tryd.pY, @Tryd.pZ, @Tryd.p6, @Tryd.p7, @Tryd.mO, @Tryd.p8, @Tryd.mP, @Tryd.mQ, @Tryd.qa, @Tryd.qb, @Tryd.qc, @Tryd.qd, @Tryd.qe, @Tryd.mS, @Tryd.mT, @Tryd.mU, @Tryd.qf, @Tryd.qg, @Tryd.qh, @Tryd.qi, @Tryd.qj, @Tryd.qk, @Tryd.mV, @Tryd.ql, @Tryd.qm, @Tryd.mW, @Tryd.qn, @Tryd.qo, @Tryd.qp, @Tryd.qq, @Tryd.qt, @Tryd.qu, @Tryd.kQ, @Tryd.qv, @Tryd.qw, @Tryd.qx, @Tryd.qy, @Tryd.qz, @Tryd.qA, @Tryd.qB, @Tryd.qC, @Tryd.jg, @Tryd.F1, @Tryd.TI, @Tryd.TK, @Tryd.RH, @Tryd.TG, @Tryd.TH, @Tryd.TJ, @Xv, @Xw, @Xx⟩
theorem Qw:(∀ k n,Value.oneCell' (.int k n)=true)∧(∀ b,Value.oneCell' (.bool b)=true)∧(∀ s,Value.oneCell' (.string s)=true)∧(∀ a,Value.oneCell' (.pointer a)=true)∧(∀ a n c,Value.oneCell' (.slice a n c)=true)∧(∀ f a c,Value.oneCell' (.func f a c)=true)∧Value.oneCell' .nilFunc=true∧(∀ t v,Value.oneCell' (.iface t v)=true)∧Value.oneCell' .nilIface=true:=⟨fun _ _=>rfl,fun _=>rfl,fun _=>rfl,fun _=>rfl,fun _ _ _=>rfl,fun _ _ _=>rfl,rfl,fun _ _=>rfl,rfl⟩
theorem vQ:type_of% @HT∧type_of% @HU∧type_of% @HV∧type_of% @rules∧type_of% @LD∧type_of% @wu∧type_of% @aq∧type_of% @zj∧type_of% @TM∧type_of% @Qg∧type_of% @Int.toNat_zero∧type_of% @not_false_eq_true∧type_of% @Qw:=
 ⟨@HT, @HU, @HV, @rules, @LD, @wu, @aq, @zj, @TM, @Qg, @Int.toNat_zero, @not_false_eq_true, @Qw⟩
theorem vS:type_of% @vQ∧(∀ cs o new,splice cs o new=cs.take o++new++cs.drop (o+new.length)):=⟨@vQ,fun _ _ _=>rfl⟩
theorem vR:type_of% @vQ∧type_of% @aH∧type_of% @oK∧type_of% @jz∧type_of% @AG∧type_of% @vz∧type_of% @LS∧type_of% @Int.toNat_natCast:=
 ⟨@vQ, @aH, @oK, @jz, @AG, @vz, @LS, @Int.toNat_natCast⟩
theorem vL:type_of% @vR∧type_of% @aS∧type_of% @Mf:=
 ⟨@vR, @aS, @Mf⟩
theorem vP:type_of% @vL∧type_of% @ao:=
 ⟨@vL, @ao⟩
end Go.Proofs.YtkaamnnjeandlaaDoor
