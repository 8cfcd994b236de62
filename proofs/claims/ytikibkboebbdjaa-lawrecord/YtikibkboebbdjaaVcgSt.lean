/-
  The calculus: a state of the machine as a value: its flags, its keys, its counters, its store. Nothing here speaks of a program's code.
-/
import Derived.Test.YtikibkboebbdjaaVcgV
namespace Go.Vcg
set_option linter.unusedSectionVars false
set_option linter.unusedSimpArgs false
set_option linter.unusedVariables false
structure St where
  own : Bool
  peer : Bool
  has : Bool
  root : Nat → Int
  priv : Nat → Int
  pub : Nat → Int
  pee : Nat → Int
  send : Nat → Int
  recv : Nat → Int
  se : Int
  re : Int
  ns : Int
  nr : Int
  pn : Int
  skip : Int
  room : Int
  store : SV
def bo (b : Bool) : SV := Sum.inl (.bool b)
def stT (s : St) : List SV := [Sum.inl (.int .u32 s.se), Sum.inl (.int .u32 s.re), Sum.inl (.int .u32 s.ns), Sum.inl (.int .u32 s.nr), Sum.inl (.int .u32 s.pn), Sum.inl (.int .i64 s.skip), Sum.inl (.int .i64 s.room), s.store]
def stL (s : St) : List SV :=
  [Sum.inl (.bool s.own), Sum.inl (.bool s.peer), Sum.inl (.bool s.has)] ++ (rowI .u8 32 s.root ++ (rowI .u8 32 s.priv ++ (rowI .u8 32 s.pub ++ (rowI .u8 32 s.pee ++ (rowI .u8 32 s.send ++ (rowI .u8 32 s.recv ++ stT s))))))
def stZ : St := ⟨false, false, false, fun _ => 0, fun _ => 0, fun _ => 0, fun _ => 0, fun _ => 0, fun _ => 0, 0, 0, 0, 0, 0, 0, 0, Sum.inl (.slice none 0 0)⟩
theorem row_takeGe {k : IntKind} {n m : Nat} {f : Nat → Int} (h : n ≤ m) : List.take m (rowI k n f) = rowI k n f := List.take_of_length_le (by rw [rowI_length]; exact h)
theorem row_dropGe {k : IntKind} {n m : Nat} {f : Nat → Int} (h : n ≤ m) : List.drop m (rowI k n f) = [] := List.drop_eq_nil_of_le (by rw [rowI_length]; exact h)
theorem stL_len {s : St} : (stL s).length = 203 := by simp [stL, stT, rowI_length]
theorem stL_all {s : St} : List.take 203 (stL s) = stL s := List.take_of_length_le (by rw [stL_len]; omega)
theorem stL_w {s t : St} : splice (stL s) 0 (stL t) = stL t := by
  unfold splice
  rw [List.take_zero, List.nil_append, List.drop_eq_nil_of_le (by rw [stL_len, stL_len]; omega), List.append_nil]
theorem shows_of_take {cs : List SV} {o n : Nat} {f : Nat → Int} (h : List.take n (List.drop o cs) = rowI .u8 n f) (hl : o + n ≤ cs.length) : Shows cs o n f := fun i hi => by
  have : (List.take n (List.drop o cs))[i]? = some (Sum.inl (.int .u8 (f i))) := by rw [h, rowI_get .u8 n f i hi]
  rwa [List.getElem?_take_of_lt hi, List.getElem?_drop] at this
section
variable {s : St} {g : Nat → Int} {x : Int} {b : Bool} {v : SV}
theorem stL_g0 : (stL s)[0]? = some (Sum.inl (.bool s.own)) := rfl
theorem stL_s0 : splice (stL s) 0 [Sum.inl (.bool b)] = stL { s with own := b } := rfl
theorem stL_g1 : (stL s)[1]? = some (Sum.inl (.bool s.peer)) := rfl
theorem stL_s1 : splice (stL s) 1 [Sum.inl (.bool b)] = stL { s with peer := b } := rfl
theorem stL_g2 : (stL s)[2]? = some (Sum.inl (.bool s.has)) := rfl
theorem stL_s2 : splice (stL s) 2 [Sum.inl (.bool b)] = stL { s with has := b } := rfl
theorem stL_g195 : (stL s)[195]? = some (Sum.inl (.int .u32 s.se)) := by simp [stL, stT, splice, rowI_length, List.take_append, List.drop_append, row_takeGe, row_dropGe, List.getElem?_append]
theorem stL_s195 : splice (stL s) 195 [Sum.inl (.int .u32 x)] = stL { s with se := x } := by simp [stL, stT, splice, rowI_length, List.take_append, List.drop_append, row_takeGe, row_dropGe, List.getElem?_append]
theorem stL_g196 : (stL s)[196]? = some (Sum.inl (.int .u32 s.re)) := by simp [stL, stT, splice, rowI_length, List.take_append, List.drop_append, row_takeGe, row_dropGe, List.getElem?_append]
theorem stL_s196 : splice (stL s) 196 [Sum.inl (.int .u32 x)] = stL { s with re := x } := by simp [stL, stT, splice, rowI_length, List.take_append, List.drop_append, row_takeGe, row_dropGe, List.getElem?_append]
theorem stL_g197 : (stL s)[197]? = some (Sum.inl (.int .u32 s.ns)) := by simp [stL, stT, splice, rowI_length, List.take_append, List.drop_append, row_takeGe, row_dropGe, List.getElem?_append]
theorem stL_s197 : splice (stL s) 197 [Sum.inl (.int .u32 x)] = stL { s with ns := x } := by simp [stL, stT, splice, rowI_length, List.take_append, List.drop_append, row_takeGe, row_dropGe, List.getElem?_append]
theorem stL_g198 : (stL s)[198]? = some (Sum.inl (.int .u32 s.nr)) := by simp [stL, stT, splice, rowI_length, List.take_append, List.drop_append, row_takeGe, row_dropGe, List.getElem?_append]
theorem stL_s198 : splice (stL s) 198 [Sum.inl (.int .u32 x)] = stL { s with nr := x } := by simp [stL, stT, splice, rowI_length, List.take_append, List.drop_append, row_takeGe, row_dropGe, List.getElem?_append]
theorem stL_g199 : (stL s)[199]? = some (Sum.inl (.int .u32 s.pn)) := by simp [stL, stT, splice, rowI_length, List.take_append, List.drop_append, row_takeGe, row_dropGe, List.getElem?_append]
theorem stL_s199 : splice (stL s) 199 [Sum.inl (.int .u32 x)] = stL { s with pn := x } := by simp [stL, stT, splice, rowI_length, List.take_append, List.drop_append, row_takeGe, row_dropGe, List.getElem?_append]
theorem stL_g200 : (stL s)[200]? = some (Sum.inl (.int .i64 s.skip)) := by simp [stL, stT, splice, rowI_length, List.take_append, List.drop_append, row_takeGe, row_dropGe, List.getElem?_append]
theorem stL_s200 : splice (stL s) 200 [Sum.inl (.int .i64 x)] = stL { s with skip := x } := by simp [stL, stT, splice, rowI_length, List.take_append, List.drop_append, row_takeGe, row_dropGe, List.getElem?_append]
theorem stL_g201 : (stL s)[201]? = some (Sum.inl (.int .i64 s.room)) := by simp [stL, stT, splice, rowI_length, List.take_append, List.drop_append, row_takeGe, row_dropGe, List.getElem?_append]
theorem stL_s201 : splice (stL s) 201 [Sum.inl (.int .i64 x)] = stL { s with room := x } := by simp [stL, stT, splice, rowI_length, List.take_append, List.drop_append, row_takeGe, row_dropGe, List.getElem?_append]
theorem stL_g202 : (stL s)[202]? = some s.store := by simp [stL, stT, splice, rowI_length, List.take_append, List.drop_append, row_takeGe, row_dropGe, List.getElem?_append]
theorem stL_s202 : splice (stL s) 202 [v] = stL { s with store := v } := by simp [stL, stT, splice, rowI_length, List.take_append, List.drop_append, row_takeGe, row_dropGe, List.getElem?_append]
theorem stL_k3 : List.take 32 (List.drop 3 (stL s)) = rowI .u8 32 s.root := by simp [stL, stT, splice, rowI_length, List.take_append, List.drop_append, row_takeGe, row_dropGe, List.getElem?_append]
theorem stL_p3 : splice (stL s) 3 (rowI .u8 32 g) = stL { s with root := g } := by simp [stL, stT, splice, rowI_length, List.take_append, List.drop_append, row_takeGe, row_dropGe, List.getElem?_append]
theorem stL_h3 : Shows (stL s) 3 32 s.root := shows_of_take (stL_k3) (by rw [stL_len]; omega)
theorem stL_k35 : List.take 32 (List.drop 35 (stL s)) = rowI .u8 32 s.priv := by simp [stL, stT, splice, rowI_length, List.take_append, List.drop_append, row_takeGe, row_dropGe, List.getElem?_append]
theorem stL_p35 : splice (stL s) 35 (rowI .u8 32 g) = stL { s with priv := g } := by simp [stL, stT, splice, rowI_length, List.take_append, List.drop_append, row_takeGe, row_dropGe, List.getElem?_append]
theorem stL_h35 : Shows (stL s) 35 32 s.priv := shows_of_take (stL_k35) (by rw [stL_len]; omega)
theorem stL_k67 : List.take 32 (List.drop 67 (stL s)) = rowI .u8 32 s.pub := by simp [stL, stT, splice, rowI_length, List.take_append, List.drop_append, row_takeGe, row_dropGe, List.getElem?_append]
theorem stL_p67 : splice (stL s) 67 (rowI .u8 32 g) = stL { s with pub := g } := by simp [stL, stT, splice, rowI_length, List.take_append, List.drop_append, row_takeGe, row_dropGe, List.getElem?_append]
theorem stL_h67 : Shows (stL s) 67 32 s.pub := shows_of_take (stL_k67) (by rw [stL_len]; omega)
theorem stL_k99 : List.take 32 (List.drop 99 (stL s)) = rowI .u8 32 s.pee := by simp [stL, stT, splice, rowI_length, List.take_append, List.drop_append, row_takeGe, row_dropGe, List.getElem?_append]
theorem stL_p99 : splice (stL s) 99 (rowI .u8 32 g) = stL { s with pee := g } := by simp [stL, stT, splice, rowI_length, List.take_append, List.drop_append, row_takeGe, row_dropGe, List.getElem?_append]
theorem stL_h99 : Shows (stL s) 99 32 s.pee := shows_of_take (stL_k99) (by rw [stL_len]; omega)
theorem stL_k131 : List.take 32 (List.drop 131 (stL s)) = rowI .u8 32 s.send := by simp [stL, stT, splice, rowI_length, List.take_append, List.drop_append, row_takeGe, row_dropGe, List.getElem?_append]
theorem stL_p131 : splice (stL s) 131 (rowI .u8 32 g) = stL { s with send := g } := by simp [stL, stT, splice, rowI_length, List.take_append, List.drop_append, row_takeGe, row_dropGe, List.getElem?_append]
theorem stL_h131 : Shows (stL s) 131 32 s.send := shows_of_take (stL_k131) (by rw [stL_len]; omega)
theorem stL_k163 : List.take 32 (List.drop 163 (stL s)) = rowI .u8 32 s.recv := by simp [stL, stT, splice, rowI_length, List.take_append, List.drop_append, row_takeGe, row_dropGe, List.getElem?_append]
theorem stL_p163 : splice (stL s) 163 (rowI .u8 32 g) = stL { s with recv := g } := by simp [stL, stT, splice, rowI_length, List.take_append, List.drop_append, row_takeGe, row_dropGe, List.getElem?_append]
theorem stL_h163 : Shows (stL s) 163 32 s.recv := shows_of_take (stL_k163) (by rw [stL_len]; omega)
theorem stL_ren {r : Nat → Nat} : (stL s).map (SV.ren r) = stL { s with store := SV.ren r s.store } := by
  unfold stL stT
  simp only [List.map_append, ren_all plainI, List.map_cons, List.map_nil]
  rfl
theorem ren_st {r : Nat → Nat} : AV.ren r (Ag (stL s)) = Ag (stL { s with store := SV.ren r s.store }) := by
  show AV.ren r (.inl (.inr _)) = _
  simp only [AV.ren, CV.ren, stL_ren]
theorem stL_mem {x : SV} (h : x ∈ stL s) : x = s.store ∨ SV.plain x = true := by
  have row : ∀ f, x ∈ rowI .u8 32 f → SV.plain x = true := fun f hx => List.all_eq_true.1 plainI x hx
  simp only [stL, List.mem_append] at h
  rcases h with h | h | h | h | h | h | h | h
  · simp only [List.mem_cons, List.not_mem_nil, or_false] at h
    rcases h with rfl | rfl | rfl <;> exact .inr rfl
  · exact .inr (row _ h)
  · exact .inr (row _ h)
  · exact .inr (row _ h)
  · exact .inr (row _ h)
  · exact .inr (row _ h)
  · exact .inr (row _ h)
  · simp only [stT, List.mem_cons, List.not_mem_nil, or_false] at h
    rcases h with rfl | rfl | rfl | rfl | rfl | rfl | rfl | rfl <;> first | exact .inl rfl | exact .inr rfl
theorem stL_plain (h : SV.plain s.store = true) : (stL s).all SV.plain = true := List.all_eq_true.2 fun x hx => by
  rcases stL_mem hx with rfl | h'
  · exact h
  · exact h'
theorem stL_ok {M : Nat → Prop} (h : SV.ok M s.store) : ∀ x ∈ stL s, SV.ok M x := fun x hx => by
  rcases stL_mem hx with rfl | h'
  · exact h
  · exact SV.plain_ok h'
theorem AV_st_plain (h : SV.plain s.store = true) : AV.plain (Ag (stL s)) = true := by
  have := stL_plain h
  simpa [AV.plain, CV.plain] using this
end
theorem zSt : List.map Sum.inl (List.replicate 3 (Value.bool false) ++ List.replicate 192 (Value.int IntKind.u8 0) ++ List.replicate 5 (Value.int IntKind.u32 0) ++ List.replicate 2 (Value.int IntKind.i64 0) ++ List.replicate 1 (Value.slice none 0 0)) = stL stZ := by
  have e : (List.replicate 192 (Sum.inl (Value.int IntKind.u8 0)) : List SV) = rowI .u8 32 (fun _ => 0) ++ (rowI .u8 32 (fun _ => 0) ++ (rowI .u8 32 (fun _ => 0) ++ (rowI .u8 32 (fun _ => 0) ++ (rowI .u8 32 (fun _ => 0) ++ rowI .u8 32 (fun _ => 0))))) := by
    simp only [← row_zero2, List.replicate_append_replicate]
  simp only [List.map_append, List.map_replicate, e, List.append_assoc]
  rfl
theorem zSt2 : (List.replicate 3 (Sum.inl (Value.bool false)) ++ List.replicate 192 (Sum.inl (Value.int IntKind.u8 0)) ++ List.replicate 5 (Sum.inl (Value.int IntKind.u32 0)) ++ List.replicate 2 (Sum.inl (Value.int IntKind.i64 0)) ++ List.replicate 1 (Sum.inl (Value.slice none 0 0)) : List SV) = stL stZ := by
  rw [← zSt]; simp only [List.map_append, List.map_replicate]
set_option maxRecDepth 20000 in
theorem rulesS : type_of% @stL_len ∧ type_of% @stL_all ∧ type_of% @stL_w ∧ type_of% @zSt ∧ type_of% @zSt2 ∧ type_of% @stL_g0 ∧ type_of% @stL_g1 ∧ type_of% @stL_g2 ∧ type_of% @stL_s0 ∧ type_of% @stL_s1 ∧ type_of% @stL_s2 ∧ type_of% @stL_g195 ∧ type_of% @stL_g196 ∧ type_of% @stL_g197 ∧ type_of% @stL_g198 ∧ type_of% @stL_g199 ∧ type_of% @stL_g200 ∧ type_of% @stL_g201 ∧ type_of% @stL_s195 ∧ type_of% @stL_s196 ∧ type_of% @stL_s197 ∧ type_of% @stL_s198 ∧ type_of% @stL_s199 ∧ type_of% @stL_s200 ∧ type_of% @stL_s201 ∧ type_of% @stL_g202 ∧ type_of% @stL_s202 ∧ type_of% @stL_k3 ∧ type_of% @stL_k35 ∧ type_of% @stL_k67 ∧ type_of% @stL_k99 ∧ type_of% @stL_k131 ∧ type_of% @stL_k163 ∧ type_of% @stL_p3 ∧ type_of% @stL_p35 ∧ type_of% @stL_p67 ∧ type_of% @stL_p99 ∧ type_of% @stL_p131 ∧ type_of% @stL_p163 :=
  ⟨@stL_len, @stL_all, @stL_w, @zSt, @zSt2, @stL_g0, @stL_g1, @stL_g2, @stL_s0, @stL_s1, @stL_s2, @stL_g195, @stL_g196, @stL_g197, @stL_g198, @stL_g199, @stL_g200, @stL_g201, @stL_s195, @stL_s196, @stL_s197, @stL_s198, @stL_s199, @stL_s200, @stL_s201, @stL_g202, @stL_s202, @stL_k3, @stL_k35, @stL_k67, @stL_k99, @stL_k131, @stL_k163, @stL_p3, @stL_p35, @stL_p67, @stL_p99, @stL_p131, @stL_p163⟩
end Go.Vcg
