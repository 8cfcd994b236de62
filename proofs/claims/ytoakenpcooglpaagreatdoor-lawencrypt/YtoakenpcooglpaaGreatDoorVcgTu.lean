/-
  The calculus: the cells of a turn (a code, a state, a slice, two counters). Nothing here speaks of a program. (Written by wip/lib2/bin/genTu.py.)
-/
import Derived.Test.YtoakenpcooglpaaGreatDoorVcgRx
import Derived.Test.YtoakenpcooglpaaGreatDoorVcgSt
import Derived.Test.YtoakenpcooglpaaGreatDoorVcgSk
set_option linter.unusedVariables false
set_option linter.unusedSimpArgs false
namespace Go.cA
set_option maxRecDepth 20000
def dD (c:Int) (s:St) (o:SV) (ep n:Int):List SV:=Sum.inl (.int .i64 c)::(bO s++[o,Sum.inl (.int .u32 ep),Sum.inl (.int .u32 n)])
section
variable {c c' ep n ep' n' x:Int} {s s':St} {o o':SV} {b:Bool} {g:Nat→Int}
theorem Bx:(dD c s o ep n).length=207:=by simp[dD,fJ]
theorem ZX:List.take 207 (dD c s o ep n)=dD c s o ep n:=List.take_of_length_le (by rw[Bx];omega)
theorem aju:splice (dD c s o ep n) 0 (dD c' s' o' ep' n')=dD c' s' o' ep' n':=by
 unfold splice
 rw[List.take_zero,List.nil_append,List.drop_eq_nil_of_le (by rw[Bx,Bx];omega),List.append_nil]
theorem nW {p:Nat} (h:p < 203):(dD c s o ep n)[1+p]? =(bO s)[p]? :=by
 rw[Nat.add_comm,dD,List.getElem?_cons_succ,List.getElem?_append_left (by rw[fJ];exact h)]
theorem my {p m:Nat} (h:p+m≤203):List.take m (List.drop (1+p) (dD c s o ep n))=List.take m (List.drop p (bO s)):=by
 rw[Nat.add_comm,dD,List.drop_succ_cons,List.drop_append_of_le_length (by rw[fJ];omega),List.take_append_of_le_length (by rw[List.length_drop,fJ];omega)]
theorem iV {p:Nat} {l:List SV} (h:splice (bO s) p l=bO s') (hl:p+l.length≤203):splice (dD c s o ep n) (1+p) l=dD c s' o ep n:=by
 unfold splice at h ⊢
 rw[Nat.add_comm,dD,List.take_succ_cons,List.take_append_of_le_length (by rw[fJ];omega),show p+1+l.length=(p+l.length)+1 by omega,List.drop_succ_cons,List.drop_append_of_le_length (by rw[fJ];omega),dD, ← h]
 simp only[List.cons_append,List.append_assoc]
theorem aeW:(dD c s o ep n)[0]? =some (Sum.inl (.int .i64 c)):=rfl
theorem aeX:splice (dD c s o ep n) 0 [Sum.inl (.int .i64 x)]=dD x s o ep n:=rfl
theorem aeY:List.take 203 (List.drop 1 (dD c s o ep n))=bO s:=by
 have:=my (c:=c) (s:=s) (o:=o) (ep:=ep) (n:=n) (p:=0) (m:=203) (by omega)
 rw[this];exact GF
theorem aeZ:splice (dD c s o ep n) 1 (bO s')=dD c s' o ep n:=iV (p:=0) Zr (by rw[fJ];omega)
theorem ON {k:Nat} {l:List SV} (h:204≤k):splice (dD c s o ep n) k l=(Sum.inl (.int .i64 c)::bO s)++splice [o,Sum.inl (.int .u32 ep),Sum.inl (.int .u32 n)] (k - 204) l:=by
 obtain ⟨j,rfl⟩: ∃ j,k=204+j:=⟨k - 204,by omega⟩
 have e:(Sum.inl (.int .i64 c)::bO s:List SV).length=204:=by simp[fJ]
 have e2:dD c s o ep n=(Sum.inl (.int .i64 c)::bO s)++[o,Sum.inl (.int .u32 ep),Sum.inl (.int .u32 n)]:=rfl
 rw[e2,splice,splice, ← e,List.take_length_add_append,Nat.add_assoc,List.drop_length_add_append,Nat.add_sub_cancel_left]
 simp only[List.append_assoc]
theorem Uo:splice (dD c s o ep n) 204 [o']=dD c s o' ep n:=ON (by omega)
theorem Up:splice (dD c s o ep n) 205 [Sum.inl (.int .u32 x)]=dD c s o x n:=ON (by omega)
theorem Uq:splice (dD c s o ep n) 206 [Sum.inl (.int .u32 x)]=dD c s o ep x:=ON (by omega)
theorem OO {k:Nat} (h:204≤k):(dD c s o ep n)[k]? =[o,Sum.inl (.int .u32 ep),Sum.inl (.int .u32 n)][k - 204]? :=by
 have e2:dD c s o ep n=(Sum.inl (.int .i64 c)::bO s)++[o,Sum.inl (.int .u32 ep),Sum.inl (.int .u32 n)]:=rfl
 rw[e2,List.getElem?_append_right (by simp[fJ];omega)]
 simp[fJ]
theorem Ur:(dD c s o ep n)[204]? =some o:=OO (by omega)
theorem Us:(dD c s o ep n)[205]? =some (Sum.inl (.int .u32 ep)):=OO (by omega)
theorem Ut:(dD c s o ep n)[206]? =some (Sum.inl (.int .u32 n)):=OO (by omega)
theorem ae0:(dD c s o ep n)[1]? =some (Sum.inl (.bool s.own)):=(nW (p:=0) (by omega)).trans Oe
theorem ae1:splice (dD c s o ep n) 1 [Sum.inl (.bool b)]=dD c { s with own:=b } o ep n:=iV (p:=0) Og (by simp)
theorem ae2:(dD c s o ep n)[2]? =some (Sum.inl (.bool s.peer)):=(nW (p:=1) (by omega)).trans Oh
theorem ae3:splice (dD c s o ep n) 2 [Sum.inl (.bool b)]=dD c { s with peer:=b } o ep n:=iV (p:=1) Oi (by simp)
theorem ae4:(dD c s o ep n)[3]? =some (Sum.inl (.bool s.has)):=(nW (p:=2) (by omega)).trans Oj
theorem ae5:splice (dD c s o ep n) 3 [Sum.inl (.bool b)]=dD c { s with has:=b } o ep n:=iV (p:=2) Ol (by simp)
theorem Uu:(dD c s o ep n)[196]? =some (Sum.inl (.int .u32 s.se)):=(nW (p:=195) (by omega)).trans AK
theorem Uv:splice (dD c s o ep n) 196 [Sum.inl (.int .u32 x)]=dD c { s with se:=x } o ep n:=iV (p:=195) AL (by simp)
theorem Uw:(dD c s o ep n)[197]? =some (Sum.inl (.int .u32 s.re)):=(nW (p:=196) (by omega)).trans AN
theorem Ux:splice (dD c s o ep n) 197 [Sum.inl (.int .u32 x)]=dD c { s with re:=x } o ep n:=iV (p:=196) AO (by simp)
theorem Uy:(dD c s o ep n)[198]? =some (Sum.inl (.int .u32 s.ns)):=(nW (p:=197) (by omega)).trans AP
theorem Uz:splice (dD c s o ep n) 198 [Sum.inl (.int .u32 x)]=dD c { s with ns:=x } o ep n:=iV (p:=197) AQ (by simp)
theorem UA:(dD c s o ep n)[199]? =some (Sum.inl (.int .u32 s.nr)):=(nW (p:=198) (by omega)).trans AR
theorem UB:splice (dD c s o ep n) 199 [Sum.inl (.int .u32 x)]=dD c { s with nr:=x } o ep n:=iV (p:=198) AT (by simp)
theorem UC:(dD c s o ep n)[200]? =some (Sum.inl (.int .u32 s.pn)):=(nW (p:=199) (by omega)).trans AU
theorem UD:splice (dD c s o ep n) 200 [Sum.inl (.int .u32 x)]=dD c { s with pn:=x } o ep n:=iV (p:=199) AW (by simp)
theorem UE:(dD c s o ep n)[201]? =some (Sum.inl (.int .i64 s.skip)):=(nW (p:=200) (by omega)).trans AX
theorem UF:splice (dD c s o ep n) 201 [Sum.inl (.int .i64 x)]=dD c { s with skip:=x } o ep n:=iV (p:=200) AY (by simp)
theorem UG:(dD c s o ep n)[202]? =some (Sum.inl (.int .i64 s.room)):=(nW (p:=201) (by omega)).trans AZ
theorem UH:splice (dD c s o ep n) 202 [Sum.inl (.int .i64 x)]=dD c { s with room:=x } o ep n:=iV (p:=201) A4 (by simp)
theorem UI:(dD c s o ep n)[203]? =some s.store:=(nW (p:=202) (by omega)).trans A5
theorem UJ:splice (dD c s o ep n) 203 [o']=dD c { s with store:=o' } o ep n:=iV (p:=202) A6 (by simp)
theorem ae6:List.take 32 (List.drop 4 (dD c s o ep n))=ae .u8 32 s.root:=(my (p:=3) (by omega)).trans Om
theorem ae7:splice (dD c s o ep n) 4 (ae .u8 32 g)=dD c { s with root:=g } o ep n:=iV (p:=3) On (by rw[ah];omega)
theorem ZY:List.take 32 (List.drop 36 (dD c s o ep n))=ae .u8 32 s.priv:=(my (p:=35) (by omega)).trans GG
theorem ZZ:splice (dD c s o ep n) 36 (ae .u8 32 g)=dD c { s with priv:=g } o ep n:=iV (p:=35) GH (by rw[ah];omega)
theorem Z1:List.take 32 (List.drop 68 (dD c s o ep n))=ae .u8 32 s.cQ:=(my (p:=67) (by omega)).trans GI
theorem Z2:splice (dD c s o ep n) 68 (ae .u8 32 g)=dD c { s with cQ:=g } o ep n:=iV (p:=67) GJ (by rw[ah];omega)
theorem UK:List.take 32 (List.drop 100 (dD c s o ep n))=ae .u8 32 s.rU:=(my (p:=99) (by omega)).trans GK
theorem UL:splice (dD c s o ep n) 100 (ae .u8 32 g)=dD c { s with rU:=g } o ep n:=iV (p:=99) GL (by rw[ah];omega)
theorem UM:List.take 32 (List.drop 132 (dD c s o ep n))=ae .u8 32 s.send:=(my (p:=131) (by omega)).trans A7
theorem UN:splice (dD c s o ep n) 132 (ae .u8 32 g)=dD c { s with send:=g } o ep n:=iV (p:=131) A8 (by rw[ah];omega)
theorem UO:List.take 32 (List.drop 164 (dD c s o ep n))=ae .u8 32 s.recv:=(my (p:=163) (by omega)).trans A'
theorem UP:splice (dD c s o ep n) 164 (ae .u8 32 g)=dD c { s with recv:=g } o ep n:=iV (p:=163) Ba (by rw[ah];omega)
theorem cU:(List.replicate 1 (Sum.inl (Value.int IntKind.i64 0))++List.replicate 3 (Sum.inl (Value.bool false))++List.replicate 192 (Sum.inl (Value.int IntKind.u8 0))++List.replicate 5 (Sum.inl (Value.int IntKind.u32 0))++List.replicate 2 (Sum.inl (Value.int IntKind.i64 0))++List.replicate 2 (Sum.inl (Value.slice none 0 0))++List.replicate 2 (Sum.inl (Value.int IntKind.u32 0)):List SV)=dD 0 stZ (Sum.inl (.slice none 0 0)) 0 0:=by
 rw[dD, ← af2]
 have e:(List.replicate 2 (Sum.inl (Value.slice none 0 0)):List SV)=List.replicate 1 (Sum.inl (Value.slice none 0 0))++List.replicate 1 (Sum.inl (Value.slice none 0 0)):=rfl
 rw[e]
 simp only[List.append_assoc,List.replicate_one,List.cons_append,List.nil_append]
 rfl
theorem fW:List.map Sum.inl (List.replicate 1 (Value.int IntKind.i64 0)++List.replicate 3 (Value.bool false)++List.replicate 192 (Value.int IntKind.u8 0)++List.replicate 5 (Value.int IntKind.u32 0)++List.replicate 2 (Value.int IntKind.i64 0)++List.replicate 2 (Value.slice none 0 0)++List.replicate 2 (Value.int IntKind.u32 0))=dD 0 stZ (Sum.inl (.slice none 0 0)) 0 0:=by
 rw[← cU];simp only[List.map_append,List.map_replicate]
theorem bP:((List.replicate 1 (Value.int IntKind.i64 0)++List.replicate 3 (Value.bool false)++List.replicate 192 (Value.int IntKind.u8 0)++List.replicate 5 (Value.int IntKind.u32 0)++List.replicate 2 (Value.int IntKind.i64 0)++List.replicate 2 (Value.slice none 0 0)++List.replicate 2 (Value.int IntKind.u32 0)).all Value.oneCell'=true)=True:=eq_true (by decide+kernel)
theorem Z3 {y:SV} (h:y ∈ dD c s o ep n):y=s.store∨y=o∨SV.plain y=true:=by
 simp only[dD,List.mem_cons,List.mem_append,List.not_mem_nil,or_false]at h
 rcases h with rfl | h | rfl | rfl | rfl
 ·exact .inr (.inr rfl)
 ·rcases GM h with h | h
  ·exact .inl h
  ·exact .inr (.inr h)
 ·exact .inr (.inl rfl)
 ·exact .inr (.inr rfl)
 ·exact .inr (.inr rfl)
theorem Z4 (h:SV.plain s.store=true) (ho:SV.plain o=true):(dD c s o ep n).all SV.plain=true:=List.all_eq_true.2 fun y hy=>by
 rcases Z3 hy with rfl | rfl | h'<;>assumption
theorem v9 {M:Nat→Prop} (h:SV.ok M s.store) (ho:SV.ok M o): ∀ y ∈ dD c s o ep n,SV.ok M y:=fun y hy=>by
 rcases Z3 hy with rfl | rfl | h'
 ·exact h
 ·exact ho
 ·exact SV.bH h'
theorem ik (h:SV.plain s.store=true) (ho:SV.plain o=true):AV.plain (Ag (dD c s o ep n))=true:=by
 have:=Z4 (c:=c) (ep:=ep) (n:=n) h ho
 simpa[AV.plain,CV.plain] using this
theorem agl {r:Nat→Nat}:(dD c s o ep n).map (SV.bh r)=dD c { s with store:=SV.bh r s.store } (SV.bh r o) ep n:=by
 simp only[dD,List.map_cons,List.map_append,j7,List.map_nil]
 rfl
theorem kz {r:Nat→Nat}:AV.bh r (Ag (dD c s o ep n))=Ag (dD c { s with store:=SV.bh r s.store } (SV.bh r o) ep n):=by
 rw[← agl];rfl
theorem aI:type_of% @Bx∧type_of% @ZX∧type_of% @aju∧type_of% @aeW∧type_of% @aeX∧type_of% @aeY∧type_of% @aeZ∧type_of% @Uo∧type_of% @Up∧type_of% @Uq∧type_of% @Ur∧type_of% @Us∧type_of% @Ut∧type_of% @ae0∧type_of% @ae1∧type_of% @ae2∧type_of% @ae3∧type_of% @ae4∧type_of% @ae5∧type_of% @Uu∧type_of% @Uv∧type_of% @Uw∧type_of% @Ux∧type_of% @Uy∧type_of% @Uz∧type_of% @UA∧type_of% @UB∧type_of% @UC∧type_of% @UD∧type_of% @UE∧type_of% @UF∧type_of% @UG∧type_of% @UH∧type_of% @UI∧type_of% @UJ∧type_of% @ae6∧type_of% @ae7∧type_of% @ZY∧type_of% @ZZ∧type_of% @Z1∧type_of% @Z2∧type_of% @UK∧type_of% @UL∧type_of% @UM∧type_of% @UN∧type_of% @UO∧type_of% @UP∧type_of% @fW∧type_of% @cU∧type_of% @bP:=
 ⟨@Bx, @ZX, @aju, @aeW, @aeX, @aeY, @aeZ, @Uo, @Up, @Uq, @Ur, @Us, @Ut, @ae0, @ae1, @ae2, @ae3, @ae4, @ae5, @Uu, @Uv, @Uw, @Ux, @Uy, @Uz, @UA, @UB, @UC, @UD, @UE, @UF, @UG, @UH, @UI, @UJ, @ae6, @ae7, @ZY, @ZZ, @Z1, @Z2, @UK, @UL, @UM, @UN, @UO, @UP, @fW, @cU, @bP⟩
end
end Go.cA
