/-
  The calculus: a state of the machine as a value: its flags, its keys, its counters, its store. Nothing here speaks of a program's code.
-/
import Derived.Test.YtoakenpcooglpaaGreatDoorVcgV
set_option linter.unusedVariables false
set_option linter.unusedSimpArgs false
namespace Go.cA
set_option maxRecDepth 20000
set_option linter.unusedSectionVars false
structure St where
 own:Bool
 peer:Bool
 has:Bool
 root:Nat→Int
 priv:Nat→Int
 cQ:Nat→Int
 rU:Nat→Int
 send:Nat→Int
 recv:Nat→Int
 se:Int
 re:Int
 ns:Int
 nr:Int
 pn:Int
 skip:Int
 room:Int
 store:SV
def bo (b:Bool):SV:=Sum.inl (.bool b)
def oE (s:St):List SV:=[Sum.inl (.int .u32 s.se),Sum.inl (.int .u32 s.re),Sum.inl (.int .u32 s.ns),Sum.inl (.int .u32 s.nr),Sum.inl (.int .u32 s.pn),Sum.inl (.int .i64 s.skip),Sum.inl (.int .i64 s.room),s.store]
def bO (s:St):List SV:=
 [Sum.inl (.bool s.own),Sum.inl (.bool s.peer),Sum.inl (.bool s.has)]++(ae .u8 32 s.root++(ae .u8 32 s.priv++(ae .u8 32 s.cQ++(ae .u8 32 s.rU++(ae .u8 32 s.send++(ae .u8 32 s.recv++oE s))))))
def stZ:St:=⟨false,false,false,fun _=>0,fun _=>0,fun _=>0,fun _=>0,fun _=>0,fun _=>0,0,0,0,0,0,0,0,Sum.inl (.slice none 0 0)⟩
theorem bw {k:IntKind} {n m:Nat} {f:Nat→Int} (h:n≤m):List.take m (ae k n f)=ae k n f:=List.take_of_length_le (by rw[ah];exact h)
theorem bz {k:IntKind} {n m:Nat} {f:Nat→Int} (h:n≤m):List.drop m (ae k n f)=[]:=List.drop_eq_nil_of_le (by rw[ah];exact h)
theorem fJ {s:St}:(bO s).length=203:=by simp[bO,oE,ah]
theorem GF {s:St}:List.take 203 (bO s)=bO s:=List.take_of_length_le (by rw[fJ];omega)
theorem Zr {s t:St}:splice (bO s) 0 (bO t)=bO t:=by
 unfold splice
 rw[List.take_zero,List.nil_append,List.drop_eq_nil_of_le (by rw[fJ,fJ];omega),List.append_nil]
theorem pq {cs:List SV} {o n:Nat} {f:Nat→Int} (h:List.take n (List.drop o cs)=ae .u8 n f) (hl:o+n≤cs.length):bE cs o n f:=fun i hi=>by
 have:(List.take n (List.drop o cs))[i]? =some (Sum.inl (.int .u8 (f i))):=by rw[h,ay .u8 n f i hi]
 rwa [List.getElem?_take_of_lt hi,List.getElem?_drop]at this
section
variable {s:St} {g:Nat→Int} {x:Int} {b:Bool} {v:SV}
theorem Oe:(bO s)[0]? =some (Sum.inl (.bool s.own)):=rfl
theorem Og:splice (bO s) 0 [Sum.inl (.bool b)]=bO { s with own:=b }:=rfl
theorem Oh:(bO s)[1]? =some (Sum.inl (.bool s.peer)):=rfl
theorem Oi:splice (bO s) 1 [Sum.inl (.bool b)]=bO { s with peer:=b }:=rfl
theorem Oj:(bO s)[2]? =some (Sum.inl (.bool s.has)):=rfl
theorem Ol:splice (bO s) 2 [Sum.inl (.bool b)]=bO { s with has:=b }:=rfl
theorem AK:(bO s)[195]? =some (Sum.inl (.int .u32 s.se)):=by simp[bO,oE,splice,ah,List.take_append,List.drop_append,bw,bz,List.getElem?_append]
theorem AL:splice (bO s) 195 [Sum.inl (.int .u32 x)]=bO { s with se:=x }:=by simp[bO,oE,splice,ah,List.take_append,List.drop_append,bw,bz,List.getElem?_append]
theorem AN:(bO s)[196]? =some (Sum.inl (.int .u32 s.re)):=by simp[bO,oE,splice,ah,List.take_append,List.drop_append,bw,bz,List.getElem?_append]
theorem AO:splice (bO s) 196 [Sum.inl (.int .u32 x)]=bO { s with re:=x }:=by simp[bO,oE,splice,ah,List.take_append,List.drop_append,bw,bz,List.getElem?_append]
theorem AP:(bO s)[197]? =some (Sum.inl (.int .u32 s.ns)):=by simp[bO,oE,splice,ah,List.take_append,List.drop_append,bw,bz,List.getElem?_append]
theorem AQ:splice (bO s) 197 [Sum.inl (.int .u32 x)]=bO { s with ns:=x }:=by simp[bO,oE,splice,ah,List.take_append,List.drop_append,bw,bz,List.getElem?_append]
theorem AR:(bO s)[198]? =some (Sum.inl (.int .u32 s.nr)):=by simp[bO,oE,splice,ah,List.take_append,List.drop_append,bw,bz,List.getElem?_append]
theorem AT:splice (bO s) 198 [Sum.inl (.int .u32 x)]=bO { s with nr:=x }:=by simp[bO,oE,splice,ah,List.take_append,List.drop_append,bw,bz,List.getElem?_append]
theorem AU:(bO s)[199]? =some (Sum.inl (.int .u32 s.pn)):=by simp[bO,oE,splice,ah,List.take_append,List.drop_append,bw,bz,List.getElem?_append]
theorem AW:splice (bO s) 199 [Sum.inl (.int .u32 x)]=bO { s with pn:=x }:=by simp[bO,oE,splice,ah,List.take_append,List.drop_append,bw,bz,List.getElem?_append]
theorem AX:(bO s)[200]? =some (Sum.inl (.int .i64 s.skip)):=by simp[bO,oE,splice,ah,List.take_append,List.drop_append,bw,bz,List.getElem?_append]
theorem AY:splice (bO s) 200 [Sum.inl (.int .i64 x)]=bO { s with skip:=x }:=by simp[bO,oE,splice,ah,List.take_append,List.drop_append,bw,bz,List.getElem?_append]
theorem AZ:(bO s)[201]? =some (Sum.inl (.int .i64 s.room)):=by simp[bO,oE,splice,ah,List.take_append,List.drop_append,bw,bz,List.getElem?_append]
theorem A4:splice (bO s) 201 [Sum.inl (.int .i64 x)]=bO { s with room:=x }:=by simp[bO,oE,splice,ah,List.take_append,List.drop_append,bw,bz,List.getElem?_append]
theorem A5:(bO s)[202]? =some s.store:=by simp[bO,oE,splice,ah,List.take_append,List.drop_append,bw,bz,List.getElem?_append]
theorem A6:splice (bO s) 202 [v]=bO { s with store:=v }:=by simp[bO,oE,splice,ah,List.take_append,List.drop_append,bw,bz,List.getElem?_append]
theorem Om:List.take 32 (List.drop 3 (bO s))=ae .u8 32 s.root:=by simp[bO,oE,splice,ah,List.take_append,List.drop_append,bw,bz,List.getElem?_append]
theorem On:splice (bO s) 3 (ae .u8 32 g)=bO { s with root:=g }:=by simp[bO,oE,splice,ah,List.take_append,List.drop_append,bw,bz,List.getElem?_append]
theorem GG:List.take 32 (List.drop 35 (bO s))=ae .u8 32 s.priv:=by simp[bO,oE,splice,ah,List.take_append,List.drop_append,bw,bz,List.getElem?_append]
theorem GH:splice (bO s) 35 (ae .u8 32 g)=bO { s with priv:=g }:=by simp[bO,oE,splice,ah,List.take_append,List.drop_append,bw,bz,List.getElem?_append]
theorem GI:List.take 32 (List.drop 67 (bO s))=ae .u8 32 s.cQ:=by simp[bO,oE,splice,ah,List.take_append,List.drop_append,bw,bz,List.getElem?_append]
theorem GJ:splice (bO s) 67 (ae .u8 32 g)=bO { s with cQ:=g }:=by simp[bO,oE,splice,ah,List.take_append,List.drop_append,bw,bz,List.getElem?_append]
theorem GK:List.take 32 (List.drop 99 (bO s))=ae .u8 32 s.rU:=by simp[bO,oE,splice,ah,List.take_append,List.drop_append,bw,bz,List.getElem?_append]
theorem GL:splice (bO s) 99 (ae .u8 32 g)=bO { s with rU:=g }:=by simp[bO,oE,splice,ah,List.take_append,List.drop_append,bw,bz,List.getElem?_append]
theorem A7:List.take 32 (List.drop 131 (bO s))=ae .u8 32 s.send:=by simp[bO,oE,splice,ah,List.take_append,List.drop_append,bw,bz,List.getElem?_append]
theorem A8:splice (bO s) 131 (ae .u8 32 g)=bO { s with send:=g }:=by simp[bO,oE,splice,ah,List.take_append,List.drop_append,bw,bz,List.getElem?_append]
theorem A':List.take 32 (List.drop 163 (bO s))=ae .u8 32 s.recv:=by simp[bO,oE,splice,ah,List.take_append,List.drop_append,bw,bz,List.getElem?_append]
theorem Ba:splice (bO s) 163 (ae .u8 32 g)=bO { s with recv:=g }:=by simp[bO,oE,splice,ah,List.take_append,List.drop_append,bw,bz,List.getElem?_append]
theorem j7 {r:Nat→Nat}:(bO s).map (SV.bh r)=bO { s with store:=SV.bh r s.store }:=by
 unfold bO oE
 simp only[List.map_append,bj aw,List.map_cons,List.map_nil]
 rfl
theorem gX {r:Nat→Nat}:AV.bh r (Ag (bO s))=Ag (bO { s with store:=SV.bh r s.store }):=by
 show AV.bh r (.inl (.inr _))=_
 simp only[AV.bh,CV.bh,j7]
theorem GM {x:SV} (h:x ∈ bO s):x=s.store∨SV.plain x=true:=by
 have row: ∀ f,x ∈ ae .u8 32 f→SV.plain x=true:=fun f hx=>List.all_eq_true.1 aw x hx
 simp only[bO,List.mem_append]at h
 rcases h with h | h | h | h | h | h | h | h
 ·simp only[List.mem_cons,List.not_mem_nil,or_false]at h
  rcases h with rfl | rfl | rfl<;>exact .inr rfl
 ·exact .inr (row _ h)
 ·exact .inr (row _ h)
 ·exact .inr (row _ h)
 ·exact .inr (row _ h)
 ·exact .inr (row _ h)
 ·exact .inr (row _ h)
 ·simp only[oE,List.mem_cons,List.not_mem_nil,or_false]at h
  rcases h with rfl | rfl | rfl | rfl | rfl | rfl | rfl | rfl<;>first | exact .inl rfl | exact .inr rfl
theorem tu (h:SV.plain s.store=true):(bO s).all SV.plain=true:=List.all_eq_true.2 fun x hx=>by
 rcases GM hx with rfl | h'
 ·exact h
 ·exact h'
theorem cO {M:Nat→Prop} (h:SV.ok M s.store): ∀ x ∈ bO s,SV.ok M x:=fun x hx=>by
 rcases GM hx with rfl | h'
 ·exact h
 ·exact SV.bH h'
theorem LM (h:SV.plain s.store=true):AV.plain (Ag (bO s))=true:=by
 have:=tu h
 simpa[AV.plain,CV.plain] using this
end
theorem zSt:List.map Sum.inl (List.replicate 3 (Value.bool false)++List.replicate 192 (Value.int IntKind.u8 0)++List.replicate 5 (Value.int IntKind.u32 0)++List.replicate 2 (Value.int IntKind.i64 0)++List.replicate 1 (Value.slice none 0 0))=bO stZ:=by
 have e:(List.replicate 192 (Sum.inl (Value.int IntKind.u8 0)):List SV)=ae .u8 32 (fun _=>0)++(ae .u8 32 (fun _=>0)++(ae .u8 32 (fun _=>0)++(ae .u8 32 (fun _=>0)++(ae .u8 32 (fun _=>0)++ae .u8 32 (fun _=>0))))):=by
  simp only[← al,List.replicate_append_replicate]
 simp only[List.map_append,List.map_replicate,e,List.append_assoc]
 rfl
theorem af2:(List.replicate 3 (Sum.inl (Value.bool false))++List.replicate 192 (Sum.inl (Value.int IntKind.u8 0))++List.replicate 5 (Sum.inl (Value.int IntKind.u32 0))++List.replicate 2 (Sum.inl (Value.int IntKind.i64 0))++List.replicate 1 (Sum.inl (Value.slice none 0 0)):List SV)=bO stZ:=by
 rw[← zSt];simp only[List.map_append,List.map_replicate]
theorem aq:type_of% @fJ∧type_of% @GF∧type_of% @Zr∧type_of% @zSt∧type_of% @af2∧type_of% @Oe∧type_of% @Oh∧type_of% @Oj∧type_of% @Og∧type_of% @Oi∧type_of% @Ol∧type_of% @AK∧type_of% @AN∧type_of% @AP∧type_of% @AR∧type_of% @AU∧type_of% @AX∧type_of% @AZ∧type_of% @AL∧type_of% @AO∧type_of% @AQ∧type_of% @AT∧type_of% @AW∧type_of% @AY∧type_of% @A4∧type_of% @A5∧type_of% @A6∧type_of% @Om∧type_of% @GG∧type_of% @GI∧type_of% @GK∧type_of% @A7∧type_of% @A'∧type_of% @On∧type_of% @GH∧type_of% @GJ∧type_of% @GL∧type_of% @A8∧type_of% @Ba:=
 ⟨@fJ, @GF, @Zr, @zSt, @af2, @Oe, @Oh, @Oj, @Og, @Oi, @Ol, @AK, @AN, @AP, @AR, @AU, @AX, @AZ, @AL, @AO, @AQ, @AT, @AW, @AY, @A4, @A5, @A6, @Om, @GG, @GI, @GK, @A7, @A', @On, @GH, @GJ, @GL, @A8, @Ba⟩
end Go.cA
