/-
  The calculus: a state of the machine as a value: its flags, its keys, its counters, its store. Nothing here speaks of a program's code.
-/
import Derived.Test.YtbipdofobgabhaaGreatDoorVcgV
set_option maxRecDepth 20000
namespace Go.bA
set_option linter.unusedSectionVars false
set_option linter.unusedSimpArgs false
set_option linter.unusedVariables false
structure St where
 own:Bool
 peer:Bool
 has:Bool
 root:Nat→Int
 priv:Nat→Int
 aF:Nat→Int
 rq:Nat→Int
 send:Nat→Int
 recv:Nat→Int
 se:Int
 re:Int
 ns:Int
 nr:Int
 pn:Int
 skip:Int
 room:Int
 store:SV
def bo (b:Bool):SV:=Sum.inl (.bool b)
def pT (s:St):List SV:=[Sum.inl (.int .u32 s.se),Sum.inl (.int .u32 s.re),Sum.inl (.int .u32 s.ns),Sum.inl (.int .u32 s.nr),Sum.inl (.int .u32 s.pn),Sum.inl (.int .i64 s.skip),Sum.inl (.int .i64 s.room),s.store]
def aU (s:St):List SV:=
 [Sum.inl (.bool s.own),Sum.inl (.bool s.peer),Sum.inl (.bool s.has)]++(ah .u8 32 s.root++(ah .u8 32 s.priv++(ah .u8 32 s.aF++(ah .u8 32 s.rq++(ah .u8 32 s.send++(ah .u8 32 s.recv++pT s))))))
def nC:St:=⟨false,false,false,fun _=>0,fun _=>0,fun _=>0,fun _=>0,fun _=>0,fun _=>0,0,0,0,0,0,0,0,Sum.inl (.slice none 0 0)⟩
theorem bm {k:IntKind} {n m:Nat} {f:Nat→Int} (h:n≤m):List.take m (ah k n f)=ah k n f:=List.take_of_length_le (by rw[af];exact h)
theorem bn {k:IntKind} {n m:Nat} {f:Nat→Int} (h:n≤m):List.drop m (ah k n f)=[]:=List.drop_eq_nil_of_le (by rw[af];exact h)
theorem fT {s:St}:(aU s).length=203:=by simp[aU,pT,af]
theorem CY {s:St}:List.take 203 (aU s)=aU s:=List.take_of_length_le (by rw[fT];omega)
theorem QJ {s t:St}:splice (aU s) 0 (aU t)=aU t:=by
 unfold splice
 rw[List.take_zero,List.nil_append,List.drop_eq_nil_of_le (by rw[fT,fT];omega),List.append_nil]
theorem qF {cs:List SV} {o n:Nat} {f:Nat→Int} (h:List.take n (List.drop o cs)=ah .u8 n f) (hl:o+n≤cs.length):br cs o n f:=fun i hi=>by
 have:(List.take n (List.drop o cs))[i]? =some (Sum.inl (.int .u8 (f i))):=by rw[h,aE .u8 n f i hi]
 rwa [List.getElem?_take_of_lt hi,List.getElem?_drop]at this
section
variable {s:St} {g:Nat→Int} {x:Int} {b:Bool} {v:SV}
theorem QK:(aU s)[0]? =some (Sum.inl (.bool s.own)):=rfl
theorem QL:splice (aU s) 0 [Sum.inl (.bool b)]=aU { s with own:=b }:=rfl
theorem QM:(aU s)[1]? =some (Sum.inl (.bool s.peer)):=rfl
theorem QN:splice (aU s) 1 [Sum.inl (.bool b)]=aU { s with peer:=b }:=rfl
theorem Jf:(aU s)[2]? =some (Sum.inl (.bool s.has)):=rfl
theorem QO:splice (aU s) 2 [Sum.inl (.bool b)]=aU { s with has:=b }:=rfl
theorem F4:(aU s)[195]? =some (Sum.inl (.int .u32 s.se)):=by simp[aU,pT,splice,af,List.take_append,List.drop_append,bm,bn,List.getElem?_append]
theorem F6:splice (aU s) 195 [Sum.inl (.int .u32 x)]=aU { s with se:=x }:=by simp[aU,pT,splice,af,List.take_append,List.drop_append,bm,bn,List.getElem?_append]
theorem F7:(aU s)[196]? =some (Sum.inl (.int .u32 s.re)):=by simp[aU,pT,splice,af,List.take_append,List.drop_append,bm,bn,List.getElem?_append]
theorem F8:splice (aU s) 196 [Sum.inl (.int .u32 x)]=aU { s with re:=x }:=by simp[aU,pT,splice,af,List.take_append,List.drop_append,bm,bn,List.getElem?_append]
theorem F9:(aU s)[197]? =some (Sum.inl (.int .u32 s.ns)):=by simp[aU,pT,splice,af,List.take_append,List.drop_append,bm,bn,List.getElem?_append]
theorem Ga:splice (aU s) 197 [Sum.inl (.int .u32 x)]=aU { s with ns:=x }:=by simp[aU,pT,splice,af,List.take_append,List.drop_append,bm,bn,List.getElem?_append]
theorem Gb:(aU s)[198]? =some (Sum.inl (.int .u32 s.nr)):=by simp[aU,pT,splice,af,List.take_append,List.drop_append,bm,bn,List.getElem?_append]
theorem Gc:splice (aU s) 198 [Sum.inl (.int .u32 x)]=aU { s with nr:=x }:=by simp[aU,pT,splice,af,List.take_append,List.drop_append,bm,bn,List.getElem?_append]
theorem Gd:(aU s)[199]? =some (Sum.inl (.int .u32 s.pn)):=by simp[aU,pT,splice,af,List.take_append,List.drop_append,bm,bn,List.getElem?_append]
theorem Ge:splice (aU s) 199 [Sum.inl (.int .u32 x)]=aU { s with pn:=x }:=by simp[aU,pT,splice,af,List.take_append,List.drop_append,bm,bn,List.getElem?_append]
theorem Gf:(aU s)[200]? =some (Sum.inl (.int .i64 s.skip)):=by simp[aU,pT,splice,af,List.take_append,List.drop_append,bm,bn,List.getElem?_append]
theorem Gg:splice (aU s) 200 [Sum.inl (.int .i64 x)]=aU { s with skip:=x }:=by simp[aU,pT,splice,af,List.take_append,List.drop_append,bm,bn,List.getElem?_append]
theorem Gh:(aU s)[201]? =some (Sum.inl (.int .i64 s.room)):=by simp[aU,pT,splice,af,List.take_append,List.drop_append,bm,bn,List.getElem?_append]
theorem Gi:splice (aU s) 201 [Sum.inl (.int .i64 x)]=aU { s with room:=x }:=by simp[aU,pT,splice,af,List.take_append,List.drop_append,bm,bn,List.getElem?_append]
theorem Gj:(aU s)[202]? =some s.store:=by simp[aU,pT,splice,af,List.take_append,List.drop_append,bm,bn,List.getElem?_append]
theorem Gk:splice (aU s) 202 [v]=aU { s with store:=v }:=by simp[aU,pT,splice,af,List.take_append,List.drop_append,bm,bn,List.getElem?_append]
theorem Jg:List.take 32 (List.drop 3 (aU s))=ah .u8 32 s.root:=by simp[aU,pT,splice,af,List.take_append,List.drop_append,bm,bn,List.getElem?_append]
theorem QP:splice (aU s) 3 (ah .u8 32 g)=aU { s with root:=g }:=by simp[aU,pT,splice,af,List.take_append,List.drop_append,bm,bn,List.getElem?_append]
theorem L8:List.take 32 (List.drop 35 (aU s))=ah .u8 32 s.priv:=by simp[aU,pT,splice,af,List.take_append,List.drop_append,bm,bn,List.getElem?_append]
theorem L9:splice (aU s) 35 (ah .u8 32 g)=aU { s with priv:=g }:=by simp[aU,pT,splice,af,List.take_append,List.drop_append,bm,bn,List.getElem?_append]
theorem Ma:List.take 32 (List.drop 67 (aU s))=ah .u8 32 s.aF:=by simp[aU,pT,splice,af,List.take_append,List.drop_append,bm,bn,List.getElem?_append]
theorem Mb:splice (aU s) 67 (ah .u8 32 g)=aU { s with aF:=g }:=by simp[aU,pT,splice,af,List.take_append,List.drop_append,bm,bn,List.getElem?_append]
theorem Mc:List.take 32 (List.drop 99 (aU s))=ah .u8 32 s.rq:=by simp[aU,pT,splice,af,List.take_append,List.drop_append,bm,bn,List.getElem?_append]
theorem Md:splice (aU s) 99 (ah .u8 32 g)=aU { s with rq:=g }:=by simp[aU,pT,splice,af,List.take_append,List.drop_append,bm,bn,List.getElem?_append]
theorem Gl:List.take 32 (List.drop 131 (aU s))=ah .u8 32 s.send:=by simp[aU,pT,splice,af,List.take_append,List.drop_append,bm,bn,List.getElem?_append]
theorem Gm:splice (aU s) 131 (ah .u8 32 g)=aU { s with send:=g }:=by simp[aU,pT,splice,af,List.take_append,List.drop_append,bm,bn,List.getElem?_append]
theorem Gn:List.take 32 (List.drop 163 (aU s))=ah .u8 32 s.recv:=by simp[aU,pT,splice,af,List.take_append,List.drop_append,bm,bn,List.getElem?_append]
theorem Gp:splice (aU s) 163 (ah .u8 32 g)=aU { s with recv:=g }:=by simp[aU,pT,splice,af,List.take_append,List.drop_append,bm,bn,List.getElem?_append]
theorem du {r:Nat→Nat}:(aU s).map (SV.ren r)=aU { s with store:=SV.ren r s.store }:=by
 unfold aU pT
 simp only[List.map_append,aN az,List.map_cons,List.map_nil]
 rfl
theorem dW {r:Nat→Nat}:AV.ren r (Ag (aU s))=Ag (aU { s with store:=SV.ren r s.store }):=by
 show AV.ren r (.inl (.inr _))=_
 simp only[AV.ren,CV.ren,du]
theorem CZ {x:SV} (h:x ∈ aU s):x=s.store∨SV.plain x=true:=by
 have row: ∀ f,x ∈ ah .u8 32 f→SV.plain x=true:=fun f hx=>List.all_eq_true.1 az x hx
 simp only[aU,List.mem_append]at h
 rcases h with h | h | h | h | h | h | h | h
 ·simp only[List.mem_cons,List.not_mem_nil,or_false]at h
  rcases h with rfl | rfl | rfl<;>exact .inr rfl
 ·exact .inr (row _ h)
 ·exact .inr (row _ h)
 ·exact .inr (row _ h)
 ·exact .inr (row _ h)
 ·exact .inr (row _ h)
 ·exact .inr (row _ h)
 ·simp only[pT,List.mem_cons,List.not_mem_nil,or_false]at h
  rcases h with rfl | rfl | rfl | rfl | rfl | rfl | rfl | rfl<;>first | exact .inl rfl | exact .inr rfl
theorem iL (h:SV.plain s.store=true):(aU s).all SV.plain=true:=List.all_eq_true.2 fun x hx=>by
 rcases CZ hx with rfl | h'
 ·exact h
 ·exact h'
theorem bR {M:Nat→Prop} (h:SV.ok M s.store): ∀ x ∈ aU s,SV.ok M x:=fun x hx=>by
 rcases CZ hx with rfl | h'
 ·exact h
 ·exact SV.aM h'
theorem oY (h:SV.plain s.store=true):AV.plain (Ag (aU s))=true:=by
 have:=iL h
 simpa[AV.plain,CV.plain] using this
end
theorem zSt:List.map Sum.inl (List.replicate 3 (Value.bool false)++List.replicate 192 (Value.int IntKind.u8 0)++List.replicate 5 (Value.int IntKind.u32 0)++List.replicate 2 (Value.int IntKind.i64 0)++List.replicate 1 (Value.slice none 0 0))=aU nC:=by
 have e:(List.replicate 192 (Sum.inl (Value.int IntKind.u8 0)):List SV)=ah .u8 32 (fun _=>0)++(ah .u8 32 (fun _=>0)++(ah .u8 32 (fun _=>0)++(ah .u8 32 (fun _=>0)++(ah .u8 32 (fun _=>0)++ah .u8 32 (fun _=>0))))):=by
  simp only[← aH,List.replicate_append_replicate]
 simp only[List.map_append,List.map_replicate,e,List.append_assoc]
 rfl
theorem XI:(List.replicate 3 (Sum.inl (Value.bool false))++List.replicate 192 (Sum.inl (Value.int IntKind.u8 0))++List.replicate 5 (Sum.inl (Value.int IntKind.u32 0))++List.replicate 2 (Sum.inl (Value.int IntKind.i64 0))++List.replicate 1 (Sum.inl (Value.slice none 0 0)):List SV)=aU nC:=by
 rw[← zSt];simp only[List.map_append,List.map_replicate]
theorem ak:type_of% @fT∧type_of% @CY∧type_of% @QJ∧type_of% @zSt∧type_of% @XI∧type_of% @QK∧type_of% @QM∧type_of% @Jf∧type_of% @QL∧type_of% @QN∧type_of% @QO∧type_of% @F4∧type_of% @F7∧type_of% @F9∧type_of% @Gb∧type_of% @Gd∧type_of% @Gf∧type_of% @Gh∧type_of% @F6∧type_of% @F8∧type_of% @Ga∧type_of% @Gc∧type_of% @Ge∧type_of% @Gg∧type_of% @Gi∧type_of% @Gj∧type_of% @Gk∧type_of% @Jg∧type_of% @L8∧type_of% @Ma∧type_of% @Mc∧type_of% @Gl∧type_of% @Gn∧type_of% @QP∧type_of% @L9∧type_of% @Mb∧type_of% @Md∧type_of% @Gm∧type_of% @Gp:=
 ⟨@fT, @CY, @QJ, @zSt, @XI, @QK, @QM, @Jf, @QL, @QN, @QO, @F4, @F7, @F9, @Gb, @Gd, @Gf, @Gh, @F6, @F8, @Ga, @Gc, @Ge, @Gg, @Gi, @Gj, @Gk, @Jg, @L8, @Ma, @Mc, @Gl, @Gn, @QP, @L9, @Mb, @Md, @Gm, @Gp⟩
end Go.bA
