/-
  The calculus: a state of the machine as a value: its flags, its keys, its counters, its store. Nothing here speaks of a program's code.
-/
import Derived.Test.YtpnehhpadofcbaaGreatDoorVcgV
set_option maxRecDepth 20000
namespace Go.bU
set_option linter.unusedSectionVars false
set_option linter.unusedSimpArgs false
set_option linter.unusedVariables false
structure St where
 own:Bool
 peer:Bool
 has:Bool
 root:Nat→Int
 priv:Nat→Int
 aG:Nat→Int
 zA:Nat→Int
 send:Nat→Int
 recv:Nat→Int
 se:Int
 re:Int
 ns:Int
 nr:Int
 pn:Int
 skip:Int
 room:Int
 store:SV
def bo (b:Bool):SV:=Sum.inl (.bool b)
def xh (s:St):List SV:=[Sum.inl (.int .u32 s.se),Sum.inl (.int .u32 s.re),Sum.inl (.int .u32 s.ns),Sum.inl (.int .u32 s.nr),Sum.inl (.int .u32 s.pn),Sum.inl (.int .i64 s.skip),Sum.inl (.int .i64 s.room),s.store]
def bC (s:St):List SV:=
 [Sum.inl (.bool s.own),Sum.inl (.bool s.peer),Sum.inl (.bool s.has)]++(af .u8 32 s.root++(af .u8 32 s.priv++(af .u8 32 s.aG++(af .u8 32 s.zA++(af .u8 32 s.send++(af .u8 32 s.recv++xh s))))))
def rM:St:=⟨false,false,false,fun _=>0,fun _=>0,fun _=>0,fun _=>0,fun _=>0,fun _=>0,0,0,0,0,0,0,0,Sum.inl (.slice none 0 0)⟩
theorem bY {k:IntKind} {n m:Nat} {f:Nat→Int} (h:n≤m):List.take m (af k n f)=af k n f:=List.take_of_length_le (by rw[ah];exact h)
theorem bZ {k:IntKind} {n m:Nat} {f:Nat→Int} (h:n≤m):List.drop m (af k n f)=[]:=List.drop_eq_nil_of_le (by rw[ah];exact h)
theorem gW {s:St}:(bC s).length=203:=by simp[bC,xh,ah]
theorem FW {s:St}:List.take 203 (bC s)=bC s:=List.take_of_length_le (by rw[gW];omega)
theorem Tp {s t:St}:splice (bC s) 0 (bC t)=bC t:=by
 unfold splice
 rw[List.take_zero,List.nil_append,List.drop_eq_nil_of_le (by rw[gW,gW];omega),List.append_nil]
theorem sK {cs:List SV} {o n:Nat} {f:Nat→Int} (h:List.take n (List.drop o cs)=af .u8 n f) (hl:o+n≤cs.length):aZ cs o n f:=fun i hi=>by
 have:(List.take n (List.drop o cs))[i]? =some (Sum.inl (.int .u8 (f i))):=by rw[h,aA .u8 n f i hi]
 rwa [List.getElem?_take_of_lt hi,List.getElem?_drop]at this
section
variable {s:St} {g:Nat→Int} {x:Int} {b:Bool} {v:SV}
theorem Tq:(bC s)[0]? =some (Sum.inl (.bool s.own)):=rfl
theorem Tr:(bC s)[1]? =some (Sum.inl (.bool s.peer)):=rfl
theorem Ts:splice (bC s) 1 [Sum.inl (.bool b)]=bC { s with peer:=b }:=rfl
theorem Tt:(bC s)[2]? =some (Sum.inl (.bool s.has)):=rfl
theorem Tv:splice (bC s) 2 [Sum.inl (.bool b)]=bC { s with has:=b }:=rfl
theorem IX:(bC s)[195]? =some (Sum.inl (.int .u32 s.se)):=by simp[bC,xh,splice,ah,List.take_append,List.drop_append,bY,bZ,List.getElem?_append]
theorem IY:(bC s)[196]? =some (Sum.inl (.int .u32 s.re)):=by simp[bC,xh,splice,ah,List.take_append,List.drop_append,bY,bZ,List.getElem?_append]
theorem IZ:splice (bC s) 196 [Sum.inl (.int .u32 x)]=bC { s with re:=x }:=by simp[bC,xh,splice,ah,List.take_append,List.drop_append,bY,bZ,List.getElem?_append]
theorem I0:(bC s)[197]? =some (Sum.inl (.int .u32 s.ns)):=by simp[bC,xh,splice,ah,List.take_append,List.drop_append,bY,bZ,List.getElem?_append]
theorem I1:(bC s)[198]? =some (Sum.inl (.int .u32 s.nr)):=by simp[bC,xh,splice,ah,List.take_append,List.drop_append,bY,bZ,List.getElem?_append]
theorem I2:splice (bC s) 198 [Sum.inl (.int .u32 x)]=bC { s with nr:=x }:=by simp[bC,xh,splice,ah,List.take_append,List.drop_append,bY,bZ,List.getElem?_append]
theorem I3:(bC s)[199]? =some (Sum.inl (.int .u32 s.pn)):=by simp[bC,xh,splice,ah,List.take_append,List.drop_append,bY,bZ,List.getElem?_append]
theorem I4:(bC s)[200]? =some (Sum.inl (.int .i64 s.skip)):=by simp[bC,xh,splice,ah,List.take_append,List.drop_append,bY,bZ,List.getElem?_append]
theorem I5:(bC s)[201]? =some (Sum.inl (.int .i64 s.room)):=by simp[bC,xh,splice,ah,List.take_append,List.drop_append,bY,bZ,List.getElem?_append]
theorem Bq:(bC s)[202]? =some s.store:=by simp[bC,xh,splice,ah,List.take_append,List.drop_append,bY,bZ,List.getElem?_append]
theorem Br:splice (bC s) 202 [v]=bC { s with store:=v }:=by simp[bC,xh,splice,ah,List.take_append,List.drop_append,bY,bZ,List.getElem?_append]
theorem Tw:List.take 32 (List.drop 3 (bC s))=af .u8 32 s.root:=by simp[bC,xh,splice,ah,List.take_append,List.drop_append,bY,bZ,List.getElem?_append]
theorem Tx:splice (bC s) 3 (af .u8 32 g)=bC { s with root:=g }:=by simp[bC,xh,splice,ah,List.take_append,List.drop_append,bY,bZ,List.getElem?_append]
theorem Pn:List.take 32 (List.drop 35 (bC s))=af .u8 32 s.priv:=by simp[bC,xh,splice,ah,List.take_append,List.drop_append,bY,bZ,List.getElem?_append]
theorem Po:List.take 32 (List.drop 67 (bC s))=af .u8 32 s.aG:=by simp[bC,xh,splice,ah,List.take_append,List.drop_append,bY,bZ,List.getElem?_append]
theorem Pp:List.take 32 (List.drop 99 (bC s))=af .u8 32 s.zA:=by simp[bC,xh,splice,ah,List.take_append,List.drop_append,bY,bZ,List.getElem?_append]
theorem Pq:splice (bC s) 99 (af .u8 32 g)=bC { s with zA:=g }:=by simp[bC,xh,splice,ah,List.take_append,List.drop_append,bY,bZ,List.getElem?_append]
theorem I6:List.take 32 (List.drop 131 (bC s))=af .u8 32 s.send:=by simp[bC,xh,splice,ah,List.take_append,List.drop_append,bY,bZ,List.getElem?_append]
theorem I7:splice (bC s) 131 (af .u8 32 g)=bC { s with send:=g }:=by simp[bC,xh,splice,ah,List.take_append,List.drop_append,bY,bZ,List.getElem?_append]
theorem I8:List.take 32 (List.drop 163 (bC s))=af .u8 32 s.recv:=by simp[bC,xh,splice,ah,List.take_append,List.drop_append,bY,bZ,List.getElem?_append]
theorem I9:splice (bC s) 163 (af .u8 32 g)=bC { s with recv:=g }:=by simp[bC,xh,splice,ah,List.take_append,List.drop_append,bY,bZ,List.getElem?_append]
theorem eN {r:Nat→Nat}:(bC s).map (SV.aI r)=bC { s with store:=SV.aI r s.store }:=by
 unfold bC xh
 simp only[List.map_append,aQ aw,List.map_cons,List.map_nil]
 rfl
theorem eM {r:Nat→Nat}:AV.aI r (Ag (bC s))=Ag (bC { s with store:=SV.aI r s.store }):=by
 show AV.aI r (.inl (.inr _))=_
 simp only[AV.aI,CV.aI,eN]
theorem FX {x:SV} (h:x ∈ bC s):x=s.store∨SV.plain x=true:=by
 have row: ∀ f,x ∈ af .u8 32 f→SV.plain x=true:=fun f hx=>List.all_eq_true.1 aw x hx
 simp only[bC,List.mem_append]at h
 rcases h with h | h | h | h | h | h | h | h
 ·simp only[List.mem_cons,List.not_mem_nil,or_false]at h
  rcases h with rfl | rfl | rfl<;>exact .inr rfl
 ·exact .inr (row _ h)
 ·exact .inr (row _ h)
 ·exact .inr (row _ h)
 ·exact .inr (row _ h)
 ·exact .inr (row _ h)
 ·exact .inr (row _ h)
 ·simp only[xh,List.mem_cons,List.not_mem_nil,or_false]at h
  rcases h with rfl | rfl | rfl | rfl | rfl | rfl | rfl | rfl<;>first | exact .inl rfl | exact .inr rfl
theorem xE (h:SV.plain s.store=true):(bC s).all SV.plain=true:=List.all_eq_true.2 fun x hx=>by
 rcases FX hx with rfl | h'
 ·exact h
 ·exact h'
theorem bF {M:Nat→Prop} (h:SV.ok M s.store): ∀ x ∈ bC s,SV.ok M x:=fun x hx=>by
 rcases FX hx with rfl | h'
 ·exact h
 ·exact SV.bk h'
theorem I' (h:SV.plain s.store=true):AV.plain (Ag (bC s))=true:=by
 have:=xE h
 simpa[AV.plain,CV.plain] using this
end
theorem zSt:List.map Sum.inl (List.replicate 3 (Value.bool false)++List.replicate 192 (Value.int IntKind.u8 0)++List.replicate 5 (Value.int IntKind.u32 0)++List.replicate 2 (Value.int IntKind.i64 0)++List.replicate 1 (Value.slice none 0 0))=bC rM:=by
 have e:(List.replicate 192 (Sum.inl (Value.int IntKind.u8 0)):List SV)=af .u8 32 (fun _=>0)++(af .u8 32 (fun _=>0)++(af .u8 32 (fun _=>0)++(af .u8 32 (fun _=>0)++(af .u8 32 (fun _=>0)++af .u8 32 (fun _=>0))))):=by
  simp only[← aj,List.replicate_append_replicate]
 simp only[List.map_append,List.map_replicate,e,List.append_assoc]
 rfl
theorem Zc:(List.replicate 3 (Sum.inl (Value.bool false))++List.replicate 192 (Sum.inl (Value.int IntKind.u8 0))++List.replicate 5 (Sum.inl (Value.int IntKind.u32 0))++List.replicate 2 (Sum.inl (Value.int IntKind.i64 0))++List.replicate 1 (Sum.inl (Value.slice none 0 0)):List SV)=bC rM:=by
 rw[← zSt];simp only[List.map_append,List.map_replicate]
theorem ao:type_of% @gW∧type_of% @FW∧type_of% @Tp∧type_of% @zSt∧type_of% @Zc∧type_of% @Tq∧type_of% @Tr∧type_of% @Tt∧type_of% @Ts∧type_of% @Tv∧type_of% @IX∧type_of% @IY∧type_of% @I0∧type_of% @I1∧type_of% @I3∧type_of% @I4∧type_of% @I5∧type_of% @IZ∧type_of% @I2∧type_of% @Bq∧type_of% @Br∧type_of% @Tw∧type_of% @Pn∧type_of% @Po∧type_of% @Pp∧type_of% @I6∧type_of% @I8∧type_of% @Tx∧type_of% @Pq∧type_of% @I7∧type_of% @I9:=
 ⟨@gW, @FW, @Tp, @zSt, @Zc, @Tq, @Tr, @Tt, @Ts, @Tv, @IX, @IY, @I0, @I1, @I3, @I4, @I5, @IZ, @I2, @Bq, @Br, @Tw, @Pn, @Po, @Pp, @I6, @I8, @Tx, @Pq, @I7, @I9⟩
end Go.bU
