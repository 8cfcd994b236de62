/-
  The calculus: the cells of a turn (a code, a state, a slice, two counters). Nothing here speaks of a program. (Written by wip/lib2/bin/genTu.py.)
-/
import Derived.Test.YtbipdofobgabhaaGreatDoorVcgRw
import Derived.Test.YtbipdofobgabhaaGreatDoorVcgSt
import Derived.Test.YtbipdofobgabhaaGreatDoorVcgSk
set_option linter.unusedVariables false
set_option maxRecDepth 20000
namespace Go.bA
set_option linter.unusedSimpArgs false
def dO (c:Int) (s:St) (o:SV) (ep n:Int):List SV:=Sum.inl (.int .i64 c)::(aU s++[o,Sum.inl (.int .u32 ep),Sum.inl (.int .u32 n)])
section
variable {c c' ep n ep' n' x:Int} {s s':St} {o o':SV} {b:Bool} {g:Nat→Int}
theorem y9:(dO c s o ep n).length=207:=by simp[dO,fT]
theorem RF:List.take 207 (dO c s o ep n)=dO c s o ep n:=List.take_of_length_le (by rw[y9];omega)
theorem aaC:splice (dO c s o ep n) 0 (dO c' s' o' ep' n')=dO c' s' o' ep' n':=by
 unfold splice
 rw[List.take_zero,List.nil_append,List.drop_eq_nil_of_le (by rw[y9,y9];omega),List.append_nil]
theorem aaD {p:Nat} (h:p < 203):(dO c s o ep n)[1+p]? =(aU s)[p]? :=by
 rw[Nat.add_comm,dO,List.getElem?_cons_succ,List.getElem?_append_left (by rw[fT];exact h)]
theorem MA {p m:Nat} (h:p+m≤203):List.take m (List.drop (1+p) (dO c s o ep n))=List.take m (List.drop p (aU s)):=by
 rw[Nat.add_comm,dO,List.drop_succ_cons,List.drop_append_of_le_length (by rw[fT];omega),List.take_append_of_le_length (by rw[List.length_drop,fT];omega)]
theorem aaE {p:Nat} {l:List SV} (h:splice (aU s) p l=aU s') (hl:p+l.length≤203):splice (dO c s o ep n) (1+p) l=dO c s' o ep n:=by
 unfold splice at h ⊢
 rw[Nat.add_comm,dO,List.take_succ_cons,List.take_append_of_le_length (by rw[fT];omega),show p+1+l.length=(p+l.length)+1 by omega,List.drop_succ_cons,List.drop_append_of_le_length (by rw[fT];omega),dO, ← h]
 simp only[List.cons_append,List.append_assoc]
theorem Wx:(dO c s o ep n)[0]? =some (Sum.inl (.int .i64 c)):=rfl
theorem Wy:splice (dO c s o ep n) 0 [Sum.inl (.int .i64 x)]=dO x s o ep n:=rfl
theorem Wz:List.take 203 (List.drop 1 (dO c s o ep n))=aU s:=by
 have:=MA (c:=c) (s:=s) (o:=o) (ep:=ep) (n:=n) (p:=0) (m:=203) (by omega)
 rw[this];exact CY
theorem WA:splice (dO c s o ep n) 1 (aU s')=dO c s' o ep n:=aaE (p:=0) QJ (by rw[fT];omega)
theorem JX {k:Nat} {l:List SV} (h:204≤k):splice (dO c s o ep n) k l=(Sum.inl (.int .i64 c)::aU s)++splice [o,Sum.inl (.int .u32 ep),Sum.inl (.int .u32 n)] (k - 204) l:=by
 obtain ⟨j,rfl⟩: ∃ j,k=204+j:=⟨k - 204,by omega⟩
 have e:(Sum.inl (.int .i64 c)::aU s:List SV).length=204:=by simp[fT]
 have e2:dO c s o ep n=(Sum.inl (.int .i64 c)::aU s)++[o,Sum.inl (.int .u32 ep),Sum.inl (.int .u32 n)]:=rfl
 rw[e2,splice,splice, ← e,List.take_length_add_append,Nat.add_assoc,List.drop_length_add_append,Nat.add_sub_cancel_left]
 simp only[List.append_assoc]
theorem MB:splice (dO c s o ep n) 204 [o']=dO c s o' ep n:=JX (by omega)
theorem MC:splice (dO c s o ep n) 205 [Sum.inl (.int .u32 x)]=dO c s o x n:=JX (by omega)
theorem MD:splice (dO c s o ep n) 206 [Sum.inl (.int .u32 x)]=dO c s o ep x:=JX (by omega)
theorem JY {k:Nat} (h:204≤k):(dO c s o ep n)[k]? =[o,Sum.inl (.int .u32 ep),Sum.inl (.int .u32 n)][k - 204]? :=by
 have e2:dO c s o ep n=(Sum.inl (.int .i64 c)::aU s)++[o,Sum.inl (.int .u32 ep),Sum.inl (.int .u32 n)]:=rfl
 rw[e2,List.getElem?_append_right (by simp[fT];omega)]
 simp[fT]
theorem ME:(dO c s o ep n)[204]? =some o:=JY (by omega)
theorem MF:(dO c s o ep n)[205]? =some (Sum.inl (.int .u32 ep)):=JY (by omega)
theorem MG:(dO c s o ep n)[206]? =some (Sum.inl (.int .u32 n)):=JY (by omega)
theorem WB:(dO c s o ep n)[3]? =some (Sum.inl (.bool s.has)):=(aaD (p:=2) (by omega)).trans Jf
theorem WC:List.take 32 (List.drop 4 (dO c s o ep n))=ah .u8 32 s.root:=(MA (p:=3) (by omega)).trans Jg
theorem fE:(List.replicate 1 (Sum.inl (Value.int IntKind.i64 0))++List.replicate 3 (Sum.inl (Value.bool false))++List.replicate 192 (Sum.inl (Value.int IntKind.u8 0))++List.replicate 5 (Sum.inl (Value.int IntKind.u32 0))++List.replicate 2 (Sum.inl (Value.int IntKind.i64 0))++List.replicate 2 (Sum.inl (Value.slice none 0 0))++List.replicate 2 (Sum.inl (Value.int IntKind.u32 0)):List SV)=dO 0 nC (Sum.inl (.slice none 0 0)) 0 0:=by
 rw[dO, ← XI]
 have e:(List.replicate 2 (Sum.inl (Value.slice none 0 0)):List SV)=List.replicate 1 (Sum.inl (Value.slice none 0 0))++List.replicate 1 (Sum.inl (Value.slice none 0 0)):=rfl
 rw[e]
 simp only[List.append_assoc,List.replicate_one,List.cons_append,List.nil_append]
 rfl
theorem nV:List.map Sum.inl (List.replicate 1 (Value.int IntKind.i64 0)++List.replicate 3 (Value.bool false)++List.replicate 192 (Value.int IntKind.u8 0)++List.replicate 5 (Value.int IntKind.u32 0)++List.replicate 2 (Value.int IntKind.i64 0)++List.replicate 2 (Value.slice none 0 0)++List.replicate 2 (Value.int IntKind.u32 0))=dO 0 nC (Sum.inl (.slice none 0 0)) 0 0:=by
 rw[← fE];simp only[List.map_append,List.map_replicate]
theorem dg:((List.replicate 1 (Value.int IntKind.i64 0)++List.replicate 3 (Value.bool false)++List.replicate 192 (Value.int IntKind.u8 0)++List.replicate 5 (Value.int IntKind.u32 0)++List.replicate 2 (Value.int IntKind.i64 0)++List.replicate 2 (Value.slice none 0 0)++List.replicate 2 (Value.int IntKind.u32 0)).all Value.oneCell'=true)=True:=eq_true (by decide+kernel)
theorem RG {y:SV} (h:y ∈ dO c s o ep n):y=s.store∨y=o∨SV.plain y=true:=by
 simp only[dO,List.mem_cons,List.mem_append,List.not_mem_nil,or_false]at h
 rcases h with rfl | h | rfl | rfl | rfl
 ·exact .inr (.inr rfl)
 ·rcases CZ h with h | h
  ·exact .inl h
  ·exact .inr (.inr h)
 ·exact .inr (.inl rfl)
 ·exact .inr (.inr rfl)
 ·exact .inr (.inr rfl)
theorem RH (h:SV.plain s.store=true) (ho:SV.plain o=true):(dO c s o ep n).all SV.plain=true:=List.all_eq_true.2 fun y hy=>by
 rcases RG hy with rfl | rfl | h'<;>assumption
theorem B1 {M:Nat→Prop} (h:SV.ok M s.store) (ho:SV.ok M o): ∀ y ∈ dO c s o ep n,SV.ok M y:=fun y hy=>by
 rcases RG hy with rfl | rfl | h'
 ·exact h
 ·exact ho
 ·exact SV.aM h'
theorem lZ (h:SV.plain s.store=true) (ho:SV.plain o=true):AV.plain (Ag (dO c s o ep n))=true:=by
 have:=RH (c:=c) (ep:=ep) (n:=n) h ho
 simpa[AV.plain,CV.plain] using this
theorem JZ {r:Nat→Nat}:(dO c s o ep n).map (SV.ren r)=dO c { s with store:=SV.ren r s.store } (SV.ren r o) ep n:=by
 simp only[dO,List.map_cons,List.map_append,du,List.map_nil]
 rfl
theorem nW {r:Nat→Nat}:AV.ren r (Ag (dO c s o ep n))=Ag (dO c { s with store:=SV.ren r s.store } (SV.ren r o) ep n):=by
 rw[← JZ];rfl
theorem aS:type_of% @y9∧type_of% @RF∧type_of% @aaC∧type_of% @Wx∧type_of% @Wy∧type_of% @Wz∧type_of% @WA∧type_of% @MB∧type_of% @MC∧type_of% @MD∧type_of% @ME∧type_of% @MF∧type_of% @MG∧type_of% @WB∧type_of% @WC∧type_of% @fE:=
 ⟨@y9, @RF, @aaC, @Wx, @Wy, @Wz, @WA, @MB, @MC, @MD, @ME, @MF, @MG, @WB, @WC, @fE⟩
end
end Go.bA
