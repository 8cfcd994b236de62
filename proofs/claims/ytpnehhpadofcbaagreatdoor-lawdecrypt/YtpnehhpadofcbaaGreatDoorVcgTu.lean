/-
  The calculus: the cells of a turn (a code, a state, a slice, two counters). Nothing here speaks of a program. (Written by wip/lib2/bin/genTu.py.)
-/
import Derived.Test.YtpnehhpadofcbaaGreatDoorVcgRx
import Derived.Test.YtpnehhpadofcbaaGreatDoorVcgSt
import Derived.Test.YtpnehhpadofcbaaGreatDoorVcgSk
set_option linter.unusedVariables false
set_option maxRecDepth 20000
namespace Go.bU
set_option linter.unusedSimpArgs false
def eV (c:Int) (s:St) (o:SV) (ep n:Int):List SV:=Sum.inl (.int .i64 c)::(bC s++[o,Sum.inl (.int .u32 ep),Sum.inl (.int .u32 n)])
section
variable {c c' ep n ep' n' x:Int} {s s':St} {o o':SV} {b:Bool} {g:Nat→Int}
theorem B0:(eV c s o ep n).length=207:=by simp[eV,gW]
theorem Ui:List.take 207 (eV c s o ep n)=eV c s o ep n:=List.take_of_length_le (by rw[B0];omega)
theorem ab0:splice (eV c s o ep n) 0 (eV c' s' o' ep' n')=eV c' s' o' ep' n':=by
 unfold splice
 rw[List.take_zero,List.nil_append,List.drop_eq_nil_of_le (by rw[B0,B0];omega),List.append_nil]
theorem ab1 {p:Nat} (h:p < 203):(eV c s o ep n)[1+p]? =(bC s)[p]? :=by
 rw[Nat.add_comm,eV,List.getElem?_cons_succ,List.getElem?_append_left (by rw[gW];exact h)]
theorem Ws {p m:Nat} (h:p+m≤203):List.take m (List.drop (1+p) (eV c s o ep n))=List.take m (List.drop p (bC s)):=by
 rw[Nat.add_comm,eV,List.drop_succ_cons,List.drop_append_of_le_length (by rw[gW];omega),List.take_append_of_le_length (by rw[List.length_drop,gW];omega)]
theorem Yg {p:Nat} {l:List SV} (h:splice (bC s) p l=bC s') (hl:p+l.length≤203):splice (eV c s o ep n) (1+p) l=eV c s' o ep n:=by
 unfold splice at h ⊢
 rw[Nat.add_comm,eV,List.take_succ_cons,List.take_append_of_le_length (by rw[gW];omega),show p+1+l.length=(p+l.length)+1 by omega,List.drop_succ_cons,List.drop_append_of_le_length (by rw[gW];omega),eV, ← h]
 simp only[List.cons_append,List.append_assoc]
theorem Yh:(eV c s o ep n)[0]? =some (Sum.inl (.int .i64 c)):=rfl
theorem Yi:splice (eV c s o ep n) 0 [Sum.inl (.int .i64 x)]=eV x s o ep n:=rfl
theorem Yj:List.take 203 (List.drop 1 (eV c s o ep n))=bC s:=by
 have:=Ws (c:=c) (s:=s) (o:=o) (ep:=ep) (n:=n) (p:=0) (m:=203) (by omega)
 rw[this];exact FW
theorem Yk:splice (eV c s o ep n) 1 (bC s')=eV c s' o ep n:=Yg (p:=0) Tp (by rw[gW];omega)
theorem MO {k:Nat} {l:List SV} (h:204≤k):splice (eV c s o ep n) k l=(Sum.inl (.int .i64 c)::bC s)++splice [o,Sum.inl (.int .u32 ep),Sum.inl (.int .u32 n)] (k - 204) l:=by
 obtain ⟨j,rfl⟩: ∃ j,k=204+j:=⟨k - 204,by omega⟩
 have e:(Sum.inl (.int .i64 c)::bC s:List SV).length=204:=by simp[gW]
 have e2:eV c s o ep n=(Sum.inl (.int .i64 c)::bC s)++[o,Sum.inl (.int .u32 ep),Sum.inl (.int .u32 n)]:=rfl
 rw[e2,splice,splice, ← e,List.take_length_add_append,Nat.add_assoc,List.drop_length_add_append,Nat.add_sub_cancel_left]
 simp only[List.append_assoc]
theorem PL:splice (eV c s o ep n) 204 [o']=eV c s o' ep n:=MO (by omega)
theorem PN:splice (eV c s o ep n) 205 [Sum.inl (.int .u32 x)]=eV c s o x n:=MO (by omega)
theorem PO:splice (eV c s o ep n) 206 [Sum.inl (.int .u32 x)]=eV c s o ep x:=MO (by omega)
theorem MP {k:Nat} (h:204≤k):(eV c s o ep n)[k]? =[o,Sum.inl (.int .u32 ep),Sum.inl (.int .u32 n)][k - 204]? :=by
 have e2:eV c s o ep n=(Sum.inl (.int .i64 c)::bC s)++[o,Sum.inl (.int .u32 ep),Sum.inl (.int .u32 n)]:=rfl
 rw[e2,List.getElem?_append_right (by simp[gW];omega)]
 simp[gW]
theorem PQ:(eV c s o ep n)[204]? =some o:=MP (by omega)
theorem PR:(eV c s o ep n)[205]? =some (Sum.inl (.int .u32 ep)):=MP (by omega)
theorem PS:(eV c s o ep n)[206]? =some (Sum.inl (.int .u32 n)):=MP (by omega)
theorem PT:(eV c s o ep n)[203]? =some s.store:=(ab1 (p:=202) (by omega)).trans Bq
theorem PU:splice (eV c s o ep n) 203 [o']=eV c { s with store:=o' } o ep n:=Yg (p:=202) Br (by simp)
theorem jY:(List.replicate 1 (Sum.inl (Value.int IntKind.i64 0))++List.replicate 3 (Sum.inl (Value.bool false))++List.replicate 192 (Sum.inl (Value.int IntKind.u8 0))++List.replicate 5 (Sum.inl (Value.int IntKind.u32 0))++List.replicate 2 (Sum.inl (Value.int IntKind.i64 0))++List.replicate 2 (Sum.inl (Value.slice none 0 0))++List.replicate 2 (Sum.inl (Value.int IntKind.u32 0)):List SV)=eV 0 rM (Sum.inl (.slice none 0 0)) 0 0:=by
 rw[eV, ← Zc]
 have e:(List.replicate 2 (Sum.inl (Value.slice none 0 0)):List SV)=List.replicate 1 (Sum.inl (Value.slice none 0 0))++List.replicate 1 (Sum.inl (Value.slice none 0 0)):=rfl
 rw[e]
 simp only[List.append_assoc,List.replicate_one,List.cons_append,List.nil_append]
 rfl
theorem wu:List.map Sum.inl (List.replicate 1 (Value.int IntKind.i64 0)++List.replicate 3 (Value.bool false)++List.replicate 192 (Value.int IntKind.u8 0)++List.replicate 5 (Value.int IntKind.u32 0)++List.replicate 2 (Value.int IntKind.i64 0)++List.replicate 2 (Value.slice none 0 0)++List.replicate 2 (Value.int IntKind.u32 0))=eV 0 rM (Sum.inl (.slice none 0 0)) 0 0:=by
 rw[← jY];simp only[List.map_append,List.map_replicate]
theorem gk:((List.replicate 1 (Value.int IntKind.i64 0)++List.replicate 3 (Value.bool false)++List.replicate 192 (Value.int IntKind.u8 0)++List.replicate 5 (Value.int IntKind.u32 0)++List.replicate 2 (Value.int IntKind.i64 0)++List.replicate 2 (Value.slice none 0 0)++List.replicate 2 (Value.int IntKind.u32 0)).all Value.oneCell'=true)=True:=eq_true (by decide+kernel)
theorem Uj {y:SV} (h:y ∈ eV c s o ep n):y=s.store∨y=o∨SV.plain y=true:=by
 simp only[eV,List.mem_cons,List.mem_append,List.not_mem_nil,or_false]at h
 rcases h with rfl | h | rfl | rfl | rfl
 ·exact .inr (.inr rfl)
 ·rcases FX h with h | h
  ·exact .inl h
  ·exact .inr (.inr h)
 ·exact .inr (.inl rfl)
 ·exact .inr (.inr rfl)
 ·exact .inr (.inr rfl)
theorem Uk (h:SV.plain s.store=true) (ho:SV.plain o=true):(eV c s o ep n).all SV.plain=true:=List.all_eq_true.2 fun y hy=>by
 rcases Uj hy with rfl | rfl | h'<;>assumption
theorem wv {M:Nat→Prop} (h:SV.ok M s.store) (ho:SV.ok M o): ∀ y ∈ eV c s o ep n,SV.ok M y:=fun y hy=>by
 rcases Uj hy with rfl | rfl | h'
 ·exact h
 ·exact ho
 ·exact SV.bk h'
theorem jV (h:SV.plain s.store=true) (ho:SV.plain o=true):AV.plain (Ag (eV c s o ep n))=true:=by
 have:=Uk (c:=c) (ep:=ep) (n:=n) h ho
 simpa[AV.plain,CV.plain] using this
theorem B3 {r:Nat→Nat}:(eV c s o ep n).map (SV.aI r)=eV c { s with store:=SV.aI r s.store } (SV.aI r o) ep n:=by
 simp only[eV,List.map_cons,List.map_append,eN,List.map_nil]
 rfl
theorem uK {r:Nat→Nat}:AV.aI r (Ag (eV c s o ep n))=Ag (eV c { s with store:=SV.aI r s.store } (SV.aI r o) ep n):=by
 rw[← B3];rfl
theorem bN:type_of% @B0∧type_of% @Ui∧type_of% @ab0∧type_of% @Yh∧type_of% @Yi∧type_of% @Yj∧type_of% @Yk∧type_of% @PL∧type_of% @PN∧type_of% @PO∧type_of% @PQ∧type_of% @PR∧type_of% @PS∧type_of% @PT∧type_of% @PU:=
 ⟨@B0, @Ui, @ab0, @Yh, @Yi, @Yj, @Yk, @PL, @PN, @PO, @PQ, @PR, @PS, @PT, @PU⟩
end
end Go.bU
