/-
  A frame's bytes, in the program.
-/
import Derived.Test.YtdhkpdakialkbaaVcgF1
set_option linter.unusedSimpArgs false
set_option linter.unusedVariables false
namespace Go.Proofs.Ytdhkpdakialkbaa
open Go.Vcg
/-- A number's four bytes, the greatest first. -/
def u32B (x : Int) (j : Nat) : Int := IntKind.u8.wrap (shrI .u32 x (24 - 8 * (j : Int)))
theorem u32B_byt (x : Int) : Byt (u32B x) := fun i => by simp only [u32B, wrap_u8]; omega
theorem row4 {g : Nat → Int} : rowI .u8 4 g = [Sum.inl (.int .u8 (g 0)), Sum.inl (.int .u8 (g 1)), Sum.inl (.int .u8 (g 2)), Sum.inl (.int .u8 (g 3))] := rfl
theorem spl4_0 {g : Nat → Int} {a : SV} : splice (rowI .u8 4 g) 0 [a] = [a, Sum.inl (.int .u8 (g 1)), Sum.inl (.int .u8 (g 2)), Sum.inl (.int .u8 (g 3))] := rfl
theorem spl4_1 {a x b c d : SV} : splice [a, x, c, d] 1 [b] = [a, b, c, d] := rfl
theorem spl4_2 {a b x c d : SV} : splice [a, b, x, d] 2 [c] = [a, b, c, d] := rfl
theorem spl4_3 {a b c x d : SV} : splice [a, b, c, x] 3 [d] = [a, b, c, d] := rfl
theorem shows4 {g : Nat → Int} : Shows [Sum.inl (.int .u8 (g 0)), Sum.inl (.int .u8 (g 1)), Sum.inl (.int .u8 (g 2)), Sum.inl (.int .u8 (g 3))] 0 4 g := fun i hi => by
  rw [← row4]; exact shows_row0 i hi
set_option maxHeartbeats 8000000 in
set_option maxRecDepth 20000 in
theorem appendU32_m {n o c : Nat} {f : Nat → Int} {cs : List SV} {x : Int} (hg : Grows cs o n c f) (hn : n + 4 ≤ 140737488355328) :
    MFun Try.prog 19 [Sl 0 o n c, I .u32 x] 1 (lk [(0, ⟨true, cs⟩)]) (Made 1 (n + 4) (joinB n f (u32B x))) := by
  refine mfun_of_vc Try.func19 rfl (by kernel_rfl) (by simp [Try.ntmps19]) Try.callable19 (by simp [AV.ok, CV.ok, SV.names]) all1 (inn1 hg.plain) ?_
  have e0 : IntKind.u8.wrap (shrI .u32 x 24) = u32B x 0 := rfl
  have e1 : IntKind.u8.wrap (shrI .u32 x 16) = u32B x 1 := rfl
  have e2 : IntKind.u8.wrap (shrI .u32 x 8) = u32B x 2 := rfl
  have e3 : IntKind.u8.wrap x = u32B x 3 := by unfold u32B shrI; simp
  simp only [Try.results19, e0, e1, e2, e3, spl4_0, spl4_1, spl4_2, spl4_3, sn_upto, sn_from, slN_def, run_cap, rules, rules2, loopRules, Try.facts, base0, Int.toNat_zero, Nat.reduceAdd, Nat.reduceMul, Nat.reduceSub, Nat.reduceLT, Nat.reduceLeDiff, Nat.reduceEqDiff, Int.reduceLE, Int.reduceLT, Int.reduceToNat, Int.reduceNe, Int.reduceEq, not_false_eq_true, Nat.reduceBEq, Nat.reduceDiv, Int.natCast_zero, Int.natCast_one, Int.reduceAdd, Int.reduceSub, reduceIte, ↓reduceIte, Value.oneCell', rowI_length, rowI_take, rowI_splice, rep_all, row_zero, le_nat, Int.toNat_natCast, Nat.zero_add, sok_row, reduceCtorEq]
  refine append_b (g := u32B x) Try.mkK27 Try.slK27 (by simp only [upd_apply, sn_upto, sn_from, slN_def, run_cap, rules, rules2, loopRules, Try.facts, base0, Int.toNat_zero, Nat.reduceAdd, Nat.reduceMul, Nat.reduceSub, Nat.reduceLT, Nat.reduceLeDiff, Nat.reduceEqDiff, Int.reduceLE, Int.reduceLT, Int.reduceToNat, Int.reduceNe, Int.reduceEq, not_false_eq_true, Nat.reduceBEq, Nat.reduceDiv, Int.natCast_zero, Int.natCast_one, Int.reduceAdd, Int.reduceSub, reduceIte, ↓reduceIte, Value.oneCell', rowI_length, rowI_take, rowI_splice, rep_all, row_zero, le_nat, Int.toNat_natCast, Nat.zero_add, sok_row, reduceCtorEq]) hg (.inr ⟨14, 0, 4, true, _, rfl, by simp only [upd_apply, sn_upto, sn_from, slN_def, run_cap, rules, rules2, loopRules, Try.facts, base0, Int.toNat_zero, Nat.reduceAdd, Nat.reduceMul, Nat.reduceSub, Nat.reduceLT, Nat.reduceLeDiff, Nat.reduceEqDiff, Int.reduceLE, Int.reduceLT, Int.reduceToNat, Int.reduceNe, Int.reduceEq, not_false_eq_true, Nat.reduceBEq, Nat.reduceDiv, Int.natCast_zero, Int.natCast_one, Int.reduceAdd, Int.reduceSub, reduceIte, ↓reduceIte, Value.oneCell', rowI_length, rowI_take, rowI_splice, rep_all, row_zero, le_nat, Int.toNat_natCast, Nat.zero_add, sok_row, reduceCtorEq], shows4, by decide⟩) (by omega) ?_
  intro c2 cs2 hg2
  simp only [sn_upto, sn_from, slN_def, run_cap, rules, rules2, loopRules, Try.facts, base0, Int.toNat_zero, Nat.reduceAdd, Nat.reduceMul, Nat.reduceSub, Nat.reduceLT, Nat.reduceLeDiff, Nat.reduceEqDiff, Int.reduceLE, Int.reduceLT, Int.reduceToNat, Int.reduceNe, Int.reduceEq, not_false_eq_true, Nat.reduceBEq, Nat.reduceDiv, Int.natCast_zero, Int.natCast_one, Int.reduceAdd, Int.reduceSub, reduceIte, ↓reduceIte, Value.oneCell', rowI_length, rowI_take, rowI_splice, rep_all, row_zero, le_nat, Int.toNat_natCast, Nat.zero_add, sok_row, reduceCtorEq]
  refine ret_new (k := 1) (q := 15) (cs := cs2) (by decide) ?_ hg2.plain hg2.made
  simp only [sn_upto, sn_from, slN_def, run_cap, rules, rules2, loopRules, Try.facts, base0, Int.toNat_zero, Nat.reduceAdd, Nat.reduceMul, Nat.reduceSub, Nat.reduceLT, Nat.reduceLeDiff, Nat.reduceEqDiff, Int.reduceLE, Int.reduceLT, Int.reduceToNat, Int.reduceNe, Int.reduceEq, not_false_eq_true, Nat.reduceBEq, Nat.reduceDiv, Int.natCast_zero, Int.natCast_one, Int.reduceAdd, Int.reduceSub, reduceIte, ↓reduceIte, Value.oneCell', rowI_length, rowI_take, rowI_splice, rep_all, row_zero, le_nat, Int.toNat_natCast, Nat.zero_add, sok_row, reduceCtorEq]
/-- A frame as a value: its header, its body, its tag. -/
def frL (pub : Nat → Int) (pn n : Int) (sv : SV) (tag : Nat → Int) : List SV := rowI .u8 32 pub ++ (Sum.inl (.int .u32 pn) :: Sum.inl (.int .u32 n) :: sv :: rowI .u8 32 tag)
def hdL (pub : Nat → Int) (pn n : Int) : List SV := rowI .u8 32 pub ++ [Sum.inl (.int .u32 pn), Sum.inl (.int .u32 n)]
section
variable {pub tag : Nat → Int} {pn n : Int} {sv : SV}
theorem frL_len : (frL pub pn n sv tag).length = 67 := by simp [frL, rowI_length]
theorem hdL_len : (hdL pub pn n).length = 34 := by simp [hdL, rowI_length]
theorem frL_pub : List.take 32 (frL pub pn n sv tag) = rowI .u8 32 pub := by
  unfold frL; rw [List.take_append_of_le_length (by rw [rowI_length]; omega)]; exact rowI_take _ _ _
theorem frL_head : List.take 34 (frL pub pn n sv tag) = hdL pub pn n := by
  unfold frL hdL
  rw [List.take_append, rowI_length, List.take_of_length_le (by rw [rowI_length]; omega)]; rfl
theorem frL_tag : List.take 32 (List.drop 35 (frL pub pn n sv tag)) = rowI .u8 32 tag := by
  unfold frL
  rw [List.drop_append, rowI_length, List.drop_eq_nil_of_le (by rw [rowI_length]; omega), List.nil_append]
  exact rowI_take _ _ _
theorem frL_32 : (frL pub pn n sv tag)[32]? = some (Sum.inl (.int .u32 pn)) := by
  unfold frL; rw [List.getElem?_append_right (by rw [rowI_length]; omega), rowI_length]; rfl
theorem frL_33 : (frL pub pn n sv tag)[33]? = some (Sum.inl (.int .u32 n)) := by
  unfold frL; rw [List.getElem?_append_right (by rw [rowI_length]; omega), rowI_length]; rfl
theorem frL_34 : (frL pub pn n sv tag)[34]? = some sv := by
  unfold frL; rw [List.getElem?_append_right (by rw [rowI_length]; omega), rowI_length]; rfl
theorem frL_all : List.take 67 (frL pub pn n sv tag) = frL pub pn n sv tag := List.take_of_length_le (by rw [frL_len]; omega)
theorem frL_showsPub : Shows (frL pub pn n sv tag) 0 32 pub := fun i hi => by
  rw [Nat.zero_add]; unfold frL; rw [List.getElem?_append_left (by rw [rowI_length]; exact hi), rowI_get .u8 32 pub i hi]
theorem frL_showsTag : Shows (frL pub pn n sv tag) 35 32 tag := fun i hi => by
  unfold frL; rw [List.getElem?_append_right (by rw [rowI_length]; omega), rowI_length, show 35 + i - 32 = i + 1 + 1 + 1 by omega]
  simp only [List.getElem?_cons_succ]
  exact rowI_get .u8 32 tag i hi
theorem frL_ren {r : Nat → Nat} : (frL pub pn n sv tag).map (SV.ren r) = frL pub pn n (SV.ren r sv) tag := by
  unfold frL
  rw [List.map_append, ren_all plainI, List.map_cons, List.map_cons, List.map_cons, ren_all plainI]; rfl
theorem frL_mem {x : SV} (h : x ∈ frL pub pn n sv tag) : x = sv ∨ SV.plain x = true := by
  unfold frL at h
  rcases List.mem_append.1 h with h | h
  · exact .inr (List.all_eq_true.1 plainI x h)
  · rcases List.mem_cons.1 h with rfl | h
    · exact .inr rfl
    · rcases List.mem_cons.1 h with rfl | h
      · exact .inr rfl
      · rcases List.mem_cons.1 h with rfl | h
        · exact .inl rfl
        · exact .inr (List.all_eq_true.1 plainI x h)
theorem frL_plain (h : SV.plain sv = true) : (frL pub pn n sv tag).all SV.plain = true := List.all_eq_true.2 fun x hx => by
  rcases frL_mem hx with rfl | h'
  · exact h
  · exact h'
theorem frL_ok {M : Nat → Prop} (h : SV.ok M sv) : ∀ x ∈ frL pub pn n sv tag, SV.ok M x := fun x hx => by
  rcases frL_mem hx with rfl | h'
  · exact h
  · exact SV.plain_ok h'
end
/-- The bytes of a frame. -/
def frB (pub : Nat → Int) (pn n : Int) (m : Nat) (body tag : Nat → Int) : Nat → Int :=
  joinB (45 + m) (joinB 45 (joinB 41 (joinB 37 (joinB 33 (joinB 1 (fun _ => 210) pub) (u32B pn)) (u32B n)) (u32B m)) body) tag
theorem svIs_ok {n : Nat} {sv : SV} {f : Nat → Int} {cs : List SV} {M : Nat → Prop} {t : Nat} (h : ArgIs t (.inl (.inl sv)) n f cs) (hM : M t) : SV.ok M sv := by
  rcases h with ⟨⟨a, e⟩, h0⟩ | ⟨o, c, e, hs⟩
  · cases e; exact ⟨trivial, rfl⟩
  · cases e; exact ⟨hM, rfl⟩
theorem svIs_0 {n t : Nat} {sv : SV} {f : Nat → Int} {cs : List SV} (h : ArgIs t (.inl (.inl sv)) n f cs) : ∃ sv0, ArgIs 0 (.inl (.inl sv0)) n f cs ∧ SV.ren (fun _ => t) sv0 = sv := by
  rcases h with ⟨⟨a, e⟩, h0⟩ | ⟨o, c, e, hs⟩
  · cases e; exact ⟨_, .inl ⟨⟨a, rfl⟩, h0⟩, rfl⟩
  · cases e; exact ⟨_, .inr ⟨o, c, rfl, hs⟩, rfl⟩
theorem ren_fr {r : Nat → Nat} {pub tag : Nat → Int} {pn n : Int} {sv : SV} : AV.ren r (Ag (frL pub pn n sv tag)) = Ag (frL pub pn n (SV.ren r sv) tag) := by
  show AV.ren r (.inl (.inr _)) = _
  simp only [AV.ren, CV.ren, frL_ren]
set_option maxHeartbeats 8000000 in
set_option maxRecDepth 20000 in
theorem appendFrame_m {pub tag body : Nat → Int} {pn n : Int} {m : Nat} {sv : SV} {cs : List SV} (hp : cs.all SV.plain = true) (hb : ArgIs 0 (.inl (.inl sv)) m body cs) (hm : m ≤ 65536) :
    MFun Try.prog 15 [V (.slice none 0 0), Ag (frL pub pn n sv tag)] 1 (lk [(0, ⟨false, cs⟩)]) (Made 1 (45 + m + 32) (frB pub pn n m body tag)) := by
  refine mfun_of_vc Try.func15 rfl (by kernel_rfl) (by simp [Try.ntmps15]) Try.callable15 (fun u hu => by
    simp only [List.mem_cons, List.not_mem_nil, or_false] at hu
    rcases hu with rfl | rfl
    · trivial
    · exact frL_ok (svIs_ok hb (by decide))) all1 (inn1 hp) ?_
  have lenb := fun {box : Nat → Option Box} (h : BytesAt box (.inl (.inl sv)) m body) => at_len h
  have hat : BytesAt (lk [(0, (⟨false, cs⟩ : Box))]) (.inl (.inl sv)) m body := hb.at (t := 0) rfl hp
  simp only [Try.results15, frL_len, frL_all, splice_one, sn_upto, sn_from, slN_def, run_cap, rules, rules2, loopRules, Try.facts, base0, Int.toNat_zero, Nat.reduceAdd, Nat.reduceMul, Nat.reduceSub, Nat.reduceLT, Nat.reduceLeDiff, Nat.reduceEqDiff, Int.reduceLE, Int.reduceLT, Int.reduceToNat, Int.reduceNe, Int.reduceEq, not_false_eq_true, Nat.reduceBEq, Nat.reduceDiv, Int.natCast_zero, Int.natCast_one, Int.reduceAdd, Int.reduceSub, reduceIte, ↓reduceIte, Value.oneCell', rowI_length, rowI_take, rowI_splice, rep_all, row_zero, le_nat, Int.toNat_natCast, Nat.zero_add, sok_row, reduceCtorEq]
  refine append_nb (m := 1) (g := fun _ => 210) Try.mkK27 Try.slK27 (.inr ⟨4, 0, 1, true, _, rfl, by simp only [upd_apply, sn_upto, sn_from, slN_def, run_cap, rules, rules2, loopRules, Try.facts, base0, Int.toNat_zero, Nat.reduceAdd, Nat.reduceMul, Nat.reduceSub, Nat.reduceLT, Nat.reduceLeDiff, Nat.reduceEqDiff, Int.reduceLE, Int.reduceLT, Int.reduceToNat, Int.reduceNe, Int.reduceEq, not_false_eq_true, Nat.reduceBEq, Nat.reduceDiv, Int.natCast_zero, Int.natCast_one, Int.reduceAdd, Int.reduceSub, reduceIte, ↓reduceIte, Value.oneCell', rowI_length, rowI_take, rowI_splice, rep_all, row_zero, le_nat, Int.toNat_natCast, Nat.zero_add, sok_row, reduceCtorEq], rfl, shows_one⟩) (by decide) (fun h => absurd h (by decide)) (fun _ c1 cs1 g1 => ?_)
  simp only [sn_upto, sn_from, slN_def, run_cap, rules, rules2, loopRules, Try.facts, base0, Int.toNat_zero, Nat.reduceAdd, Nat.reduceMul, Nat.reduceSub, Nat.reduceLT, Nat.reduceLeDiff, Nat.reduceEqDiff, Int.reduceLE, Int.reduceLT, Int.reduceToNat, Int.reduceNe, Int.reduceEq, not_false_eq_true, Nat.reduceBEq, Nat.reduceDiv, Int.natCast_zero, Int.natCast_one, Int.reduceAdd, Int.reduceSub, reduceIte, ↓reduceIte, Value.oneCell', rowI_length, rowI_take, rowI_splice, rep_all, row_zero, le_nat, Int.toNat_natCast, Nat.zero_add, sok_row, reduceCtorEq]
  refine append_b (m := 32) (g := pub) Try.mkK27 Try.slK27 (by simp only [upd_apply, sn_upto, sn_from, slN_def, run_cap, rules, rules2, loopRules, Try.facts, base0, Int.toNat_zero, Nat.reduceAdd, Nat.reduceMul, Nat.reduceSub, Nat.reduceLT, Nat.reduceLeDiff, Nat.reduceEqDiff, Int.reduceLE, Int.reduceLT, Int.reduceToNat, Int.reduceNe, Int.reduceEq, not_false_eq_true, Nat.reduceBEq, Nat.reduceDiv, Int.natCast_zero, Int.natCast_one, Int.reduceAdd, Int.reduceSub, reduceIte, ↓reduceIte, Value.oneCell', rowI_length, rowI_take, rowI_splice, rep_all, row_zero, le_nat, Int.toNat_natCast, Nat.zero_add, sok_row, reduceCtorEq]) g1 (.inr ⟨1, 0, 32, true, frL pub pn n sv tag, rfl, by simp only [upd_apply, sn_upto, sn_from, slN_def, run_cap, rules, rules2, loopRules, Try.facts, base0, Int.toNat_zero, Nat.reduceAdd, Nat.reduceMul, Nat.reduceSub, Nat.reduceLT, Nat.reduceLeDiff, Nat.reduceEqDiff, Int.reduceLE, Int.reduceLT, Int.reduceToNat, Int.reduceNe, Int.reduceEq, not_false_eq_true, Nat.reduceBEq, Nat.reduceDiv, Int.natCast_zero, Int.natCast_one, Int.reduceAdd, Int.reduceSub, reduceIte, ↓reduceIte, Value.oneCell', rowI_length, rowI_take, rowI_splice, rep_all, row_zero, le_nat, Int.toNat_natCast, Nat.zero_add, sok_row, reduceCtorEq], frL_showsPub, by decide⟩) (by omega) ?_
  intro c2 cs2 g2
  simp only [frL_32, sn_upto, sn_from, slN_def, run_cap, rules, rules2, loopRules, Try.facts, base0, Int.toNat_zero, Nat.reduceAdd, Nat.reduceMul, Nat.reduceSub, Nat.reduceLT, Nat.reduceLeDiff, Nat.reduceEqDiff, Int.reduceLE, Int.reduceLT, Int.reduceToNat, Int.reduceNe, Int.reduceEq, not_false_eq_true, Nat.reduceBEq, Nat.reduceDiv, Int.natCast_zero, Int.natCast_one, Int.reduceAdd, Int.reduceSub, reduceIte, ↓reduceIte, Value.oneCell', rowI_length, rowI_take, rowI_splice, rep_all, row_zero, le_nat, Int.toNat_natCast, Nat.zero_add, sok_row, reduceCtorEq]
  refine made_eat (appendU32_m g2 (by omega)) (by simp only [upd_apply, sn_upto, sn_from, slN_def, run_cap, rules, rules2, loopRules, Try.facts, base0, Int.toNat_zero, Nat.reduceAdd, Nat.reduceMul, Nat.reduceSub, Nat.reduceLT, Nat.reduceLeDiff, Nat.reduceEqDiff, Int.reduceLE, Int.reduceLT, Int.reduceToNat, Int.reduceNe, Int.reduceEq, not_false_eq_true, Nat.reduceBEq, Nat.reduceDiv, Int.natCast_zero, Int.natCast_one, Int.reduceAdd, Int.reduceSub, reduceIte, ↓reduceIte, Value.oneCell', rowI_length, rowI_take, rowI_splice, rep_all, row_zero, le_nat, Int.toNat_natCast, Nat.zero_add, sok_row, reduceCtorEq]) g2.plain rfl ?_
  intro c3 cs3 g3
  simp only [frL_33, sn_upto, sn_from, slN_def, run_cap, rules, rules2, loopRules, Try.facts, base0, Int.toNat_zero, Nat.reduceAdd, Nat.reduceMul, Nat.reduceSub, Nat.reduceLT, Nat.reduceLeDiff, Nat.reduceEqDiff, Int.reduceLE, Int.reduceLT, Int.reduceToNat, Int.reduceNe, Int.reduceEq, not_false_eq_true, Nat.reduceBEq, Nat.reduceDiv, Int.natCast_zero, Int.natCast_one, Int.reduceAdd, Int.reduceSub, reduceIte, ↓reduceIte, Value.oneCell', rowI_length, rowI_take, rowI_splice, rep_all, row_zero, le_nat, Int.toNat_natCast, Nat.zero_add, sok_row, reduceCtorEq]
  refine made_eat (appendU32_m g3 (by omega)) (by simp only [upd_apply, sn_upto, sn_from, slN_def, run_cap, rules, rules2, loopRules, Try.facts, base0, Int.toNat_zero, Nat.reduceAdd, Nat.reduceMul, Nat.reduceSub, Nat.reduceLT, Nat.reduceLeDiff, Nat.reduceEqDiff, Int.reduceLE, Int.reduceLT, Int.reduceToNat, Int.reduceNe, Int.reduceEq, not_false_eq_true, Nat.reduceBEq, Nat.reduceDiv, Int.natCast_zero, Int.natCast_one, Int.reduceAdd, Int.reduceSub, reduceIte, ↓reduceIte, Value.oneCell', rowI_length, rowI_take, rowI_splice, rep_all, row_zero, le_nat, Int.toNat_natCast, Nat.zero_add, sok_row, reduceCtorEq]) g3.plain rfl ?_
  intro c4 cs4 g4
  have hw : IntKind.u32.wrap (m : Int) = (m : Int) := wrap_u32_in _ (by omega) (by omega)
  simp only [frL_34, lenb hat, hw, sn_upto, sn_from, slN_def, run_cap, rules, rules2, loopRules, Try.facts, base0, Int.toNat_zero, Nat.reduceAdd, Nat.reduceMul, Nat.reduceSub, Nat.reduceLT, Nat.reduceLeDiff, Nat.reduceEqDiff, Int.reduceLE, Int.reduceLT, Int.reduceToNat, Int.reduceNe, Int.reduceEq, not_false_eq_true, Nat.reduceBEq, Nat.reduceDiv, Int.natCast_zero, Int.natCast_one, Int.reduceAdd, Int.reduceSub, reduceIte, ↓reduceIte, Value.oneCell', rowI_length, rowI_take, rowI_splice, rep_all, row_zero, le_nat, Int.toNat_natCast, Nat.zero_add, sok_row, reduceCtorEq]
  refine made_eat (appendU32_m g4 (by omega)) (by simp only [upd_apply, sn_upto, sn_from, slN_def, run_cap, rules, rules2, loopRules, Try.facts, base0, Int.toNat_zero, Nat.reduceAdd, Nat.reduceMul, Nat.reduceSub, Nat.reduceLT, Nat.reduceLeDiff, Nat.reduceEqDiff, Int.reduceLE, Int.reduceLT, Int.reduceToNat, Int.reduceNe, Int.reduceEq, not_false_eq_true, Nat.reduceBEq, Nat.reduceDiv, Int.natCast_zero, Int.natCast_one, Int.reduceAdd, Int.reduceSub, reduceIte, ↓reduceIte, Value.oneCell', rowI_length, rowI_take, rowI_splice, rep_all, row_zero, le_nat, Int.toNat_natCast, Nat.zero_add, sok_row, reduceCtorEq]) g4.plain rfl ?_
  intro c5 cs5 g5
  simp only [frL_34, sn_upto, sn_from, slN_def, run_cap, rules, rules2, loopRules, Try.facts, base0, Int.toNat_zero, Nat.reduceAdd, Nat.reduceMul, Nat.reduceSub, Nat.reduceLT, Nat.reduceLeDiff, Nat.reduceEqDiff, Int.reduceLE, Int.reduceLT, Int.reduceToNat, Int.reduceNe, Int.reduceEq, not_false_eq_true, Nat.reduceBEq, Nat.reduceDiv, Int.natCast_zero, Int.natCast_one, Int.reduceAdd, Int.reduceSub, reduceIte, ↓reduceIte, Value.oneCell', rowI_length, rowI_take, rowI_splice, rep_all, row_zero, le_nat, Int.toNat_natCast, Nat.zero_add, sok_row, reduceCtorEq]
  refine append_b (m := m) (g := body) Try.mkK27 Try.slK27 (by simp only [upd_apply, sn_upto, sn_from, slN_def, run_cap, rules, rules2, loopRules, Try.facts, base0, Int.toNat_zero, Nat.reduceAdd, Nat.reduceMul, Nat.reduceSub, Nat.reduceLT, Nat.reduceLeDiff, Nat.reduceEqDiff, Int.reduceLE, Int.reduceLT, Int.reduceToNat, Int.reduceNe, Int.reduceEq, not_false_eq_true, Nat.reduceBEq, Nat.reduceDiv, Int.natCast_zero, Int.natCast_one, Int.reduceAdd, Int.reduceSub, reduceIte, ↓reduceIte, Value.oneCell', rowI_length, rowI_take, rowI_splice, rep_all, row_zero, le_nat, Int.toNat_natCast, Nat.zero_add, sok_row, reduceCtorEq]) g5 (off_of_at (k := 1) hat (hb.ok (by decide)) (by decide) (fun t ht => ?_)) (by omega) ?_
  · obtain rfl : t = 0 := by omega
    simp only [upd_apply, sn_upto, sn_from, slN_def, run_cap, rules, rules2, loopRules, Try.facts, base0, Int.toNat_zero, Nat.reduceAdd, Nat.reduceMul, Nat.reduceSub, Nat.reduceLT, Nat.reduceLeDiff, Nat.reduceEqDiff, Int.reduceLE, Int.reduceLT, Int.reduceToNat, Int.reduceNe, Int.reduceEq, not_false_eq_true, Nat.reduceBEq, Nat.reduceDiv, Int.natCast_zero, Int.natCast_one, Int.reduceAdd, Int.reduceSub, reduceIte, ↓reduceIte, Value.oneCell', rowI_length, rowI_take, rowI_splice, rep_all, row_zero, le_nat, Int.toNat_natCast, Nat.zero_add, sok_row, reduceCtorEq]
  intro c6 cs6 g6
  simp only [sn_upto, sn_from, slN_def, run_cap, rules, rules2, loopRules, Try.facts, base0, Int.toNat_zero, Nat.reduceAdd, Nat.reduceMul, Nat.reduceSub, Nat.reduceLT, Nat.reduceLeDiff, Nat.reduceEqDiff, Int.reduceLE, Int.reduceLT, Int.reduceToNat, Int.reduceNe, Int.reduceEq, not_false_eq_true, Nat.reduceBEq, Nat.reduceDiv, Int.natCast_zero, Int.natCast_one, Int.reduceAdd, Int.reduceSub, reduceIte, ↓reduceIte, Value.oneCell', rowI_length, rowI_take, rowI_splice, rep_all, row_zero, le_nat, Int.toNat_natCast, Nat.zero_add, sok_row, reduceCtorEq]
  refine append_b (m := 32) (g := tag) Try.mkK27 Try.slK27 (by simp only [upd_apply, sn_upto, sn_from, slN_def, run_cap, rules, rules2, loopRules, Try.facts, base0, Int.toNat_zero, Nat.reduceAdd, Nat.reduceMul, Nat.reduceSub, Nat.reduceLT, Nat.reduceLeDiff, Nat.reduceEqDiff, Int.reduceLE, Int.reduceLT, Int.reduceToNat, Int.reduceNe, Int.reduceEq, not_false_eq_true, Nat.reduceBEq, Nat.reduceDiv, Int.natCast_zero, Int.natCast_one, Int.reduceAdd, Int.reduceSub, reduceIte, ↓reduceIte, Value.oneCell', rowI_length, rowI_take, rowI_splice, rep_all, row_zero, le_nat, Int.toNat_natCast, Nat.zero_add, sok_row, reduceCtorEq]) g6 (.inr ⟨1, 35, 32, true, frL pub pn n sv tag, rfl, by simp only [upd_apply, sn_upto, sn_from, slN_def, run_cap, rules, rules2, loopRules, Try.facts, base0, Int.toNat_zero, Nat.reduceAdd, Nat.reduceMul, Nat.reduceSub, Nat.reduceLT, Nat.reduceLeDiff, Nat.reduceEqDiff, Int.reduceLE, Int.reduceLT, Int.reduceToNat, Int.reduceNe, Int.reduceEq, not_false_eq_true, Nat.reduceBEq, Nat.reduceDiv, Int.natCast_zero, Int.natCast_one, Int.reduceAdd, Int.reduceSub, reduceIte, ↓reduceIte, Value.oneCell', rowI_length, rowI_take, rowI_splice, rep_all, row_zero, le_nat, Int.toNat_natCast, Nat.zero_add, sok_row, reduceCtorEq], frL_showsTag, by decide⟩) (by omega) ?_
  intro c7 cs7 g7
  simp only [sn_upto, sn_from, slN_def, run_cap, rules, rules2, loopRules, Try.facts, base0, Int.toNat_zero, Nat.reduceAdd, Nat.reduceMul, Nat.reduceSub, Nat.reduceLT, Nat.reduceLeDiff, Nat.reduceEqDiff, Int.reduceLE, Int.reduceLT, Int.reduceToNat, Int.reduceNe, Int.reduceEq, not_false_eq_true, Nat.reduceBEq, Nat.reduceDiv, Int.natCast_zero, Int.natCast_one, Int.reduceAdd, Int.reduceSub, reduceIte, ↓reduceIte, Value.oneCell', rowI_length, rowI_take, rowI_splice, rep_all, row_zero, le_nat, Int.toNat_natCast, Nat.zero_add, sok_row, reduceCtorEq]
  refine ret_new (k := 1) (cs := cs7) (by decide) ?_ g7.plain g7.made
  simp only [upd_apply, sn_upto, sn_from, slN_def, run_cap, rules, rules2, loopRules, Try.facts, base0, Int.toNat_zero, Nat.reduceAdd, Nat.reduceMul, Nat.reduceSub, Nat.reduceLT, Nat.reduceLeDiff, Nat.reduceEqDiff, Int.reduceLE, Int.reduceLT, Int.reduceToNat, Int.reduceNe, Int.reduceEq, not_false_eq_true, Nat.reduceBEq, Nat.reduceDiv, Int.natCast_zero, Int.natCast_one, Int.reduceAdd, Int.reduceSub, reduceIte, ↓reduceIte, Value.oneCell', rowI_length, rowI_take, rowI_splice, rep_all, row_zero, le_nat, Int.toNat_natCast, Nat.zero_add, sok_row, reduceCtorEq]
set_option maxHeartbeats 8000000 in
set_option maxRecDepth 20000 in
theorem encodeFrame_m {pub tag body : Nat → Int} {pn n : Int} {m : Nat} {sv : SV} {cs : List SV} (hp : cs.all SV.plain = true) (hb : ArgIs 0 (.inl (.inl sv)) m body cs) (hm : m ≤ 65536) :
    MFun Try.prog 5 [Ag (frL pub pn n sv tag)] 1 (lk [(0, ⟨false, cs⟩)]) (Made 1 (45 + m + 32) (frB pub pn n m body tag)) := by
  refine mfun_of_vc Try.func5 rfl (by kernel_rfl) (by simp [Try.ntmps5]) Try.callable5 (fun u hu => by
    simp only [List.mem_cons, List.not_mem_nil, or_false] at hu
    subst hu
    exact frL_ok (svIs_ok hb (by decide))) all1 (inn1 hp) ?_
  have lenb := fun {box : Nat → Option Box} (h : BytesAt box (.inl (.inl sv)) m body) => at_len h
  have hat : BytesAt (lk [(0, (⟨false, cs⟩ : Box))]) (.inl (.inl sv)) m body := hb.at (t := 0) rfl hp
  have d : decide (65536 < (m : Int)) = false := decide_eq_false (by omega)
  simp only [Try.results5, frL_len, frL_all, frL_34, lenb hat, d, sn_upto, sn_from, slN_def, run_cap, rules, rules2, loopRules, Try.facts, base0, Int.toNat_zero, Nat.reduceAdd, Nat.reduceMul, Nat.reduceSub, Nat.reduceLT, Nat.reduceLeDiff, Nat.reduceEqDiff, Int.reduceLE, Int.reduceLT, Int.reduceToNat, Int.reduceNe, Int.reduceEq, not_false_eq_true, Nat.reduceBEq, Nat.reduceDiv, Int.natCast_zero, Int.natCast_one, Int.reduceAdd, Int.reduceSub, reduceIte, ↓reduceIte, Value.oneCell', rowI_length, rowI_take, rowI_splice, rep_all, row_zero, le_nat, Int.toNat_natCast, Nat.zero_add, sok_row, reduceCtorEq]
  refine made_call (appendFrame_m (pub := pub) (tag := tag) (pn := pn) (n := n) hp hb hm) (fun _ => 0) (fits1 (t := 0) (rw := false) (by simp only [upd_apply, sn_upto, sn_from, slN_def, run_cap, rules, rules2, loopRules, Try.facts, base0, Int.toNat_zero, Nat.reduceAdd, Nat.reduceMul, Nat.reduceSub, Nat.reduceLT, Nat.reduceLeDiff, Nat.reduceEqDiff, Int.reduceLE, Int.reduceLT, Int.reduceToNat, Int.reduceNe, Int.reduceEq, not_false_eq_true, Nat.reduceBEq, Nat.reduceDiv, Int.natCast_zero, Int.natCast_one, Int.reduceAdd, Int.reduceSub, reduceIte, ↓reduceIte, Value.oneCell', rowI_length, rowI_take, rowI_splice, rep_all, row_zero, le_nat, Int.toNat_natCast, Nat.zero_add, sok_row, reduceCtorEq]) hp) ?_ ?_
  · have : SV.ren (fun _ => 0) sv = sv := by
      rcases hb with ⟨⟨a, e⟩, h0⟩ | ⟨o, c, e, hs⟩ <;> cases e <;> rfl
    simp only [List.map_cons, List.map_nil, ren_v, ren_fr, this]
  intro c tail h1 h2 h3
  simp only [sn_upto, sn_from, slN_def, run_cap, rules, rules2, loopRules, Try.facts, base0, Int.toNat_zero, Nat.reduceAdd, Nat.reduceMul, Nat.reduceSub, Nat.reduceLT, Nat.reduceLeDiff, Nat.reduceEqDiff, Int.reduceLE, Int.reduceLT, Int.reduceToNat, Int.reduceNe, Int.reduceEq, not_false_eq_true, Nat.reduceBEq, Nat.reduceDiv, Int.natCast_zero, Int.natCast_one, Int.reduceAdd, Int.reduceSub, reduceIte, ↓reduceIte, Value.oneCell', rowI_length, rowI_take, rowI_splice, rep_all, row_zero, le_nat, Int.toNat_natCast, Nat.zero_add, sok_row, reduceCtorEq]
  refine ret_grows (k := 1) (by decide) (Grows.row h1 h2 h3) ?_ rfl
  simp only [upd_apply, sn_upto, sn_from, slN_def, run_cap, rules, rules2, loopRules, Try.facts, base0, Int.toNat_zero, Nat.reduceAdd, Nat.reduceMul, Nat.reduceSub, Nat.reduceLT, Nat.reduceLeDiff, Nat.reduceEqDiff, Int.reduceLE, Int.reduceLT, Int.reduceToNat, Int.reduceNe, Int.reduceEq, not_false_eq_true, Nat.reduceBEq, Nat.reduceDiv, Int.natCast_zero, Int.natCast_one, Int.reduceAdd, Int.reduceSub, reduceIte, ↓reduceIte, Value.oneCell', rowI_length, rowI_take, rowI_splice, rep_all, row_zero, le_nat, Int.toNat_natCast, Nat.zero_add, sok_row, reduceCtorEq]
set_option maxHeartbeats 8000000 in
set_option maxRecDepth 20000 in
theorem encodeFrame_bad {pub tag body : Nat → Int} {pn n : Int} {m : Nat} {sv : SV} {cs : List SV} (hp : cs.all SV.plain = true) (hb : ArgIs 0 (.inl (.inl sv)) m body cs) (hm : 65536 < m) :
    MFun Try.prog 5 [Ag (frL pub pn n sv tag)] 1 (lk [(0, ⟨false, cs⟩)]) (fun v out => v = V (.slice none 0 0) ∧ out = fun _ => none) := by
  refine mfun_of_vc Try.func5 rfl (by kernel_rfl) (by simp [Try.ntmps5]) Try.callable5 (fun u hu => by
    simp only [List.mem_cons, List.not_mem_nil, or_false] at hu
    subst hu
    exact frL_ok (svIs_ok hb (by decide))) all1 (inn1 hp) ?_
  have lenb := fun {box : Nat → Option Box} (h : BytesAt box (.inl (.inl sv)) m body) => at_len h
  have hat : BytesAt (lk [(0, (⟨false, cs⟩ : Box))]) (.inl (.inl sv)) m body := hb.at (t := 0) rfl hp
  have d : decide (65536 < (m : Int)) = true := decide_eq_true (by omega)
  simp only [Try.results5, frL_len, frL_all, frL_34, lenb hat, d, sn_upto, sn_from, slN_def, run_cap, rules, rules2, loopRules, Try.facts, base0, Int.toNat_zero, Nat.reduceAdd, Nat.reduceMul, Nat.reduceSub, Nat.reduceLT, Nat.reduceLeDiff, Nat.reduceEqDiff, Int.reduceLE, Int.reduceLT, Int.reduceToNat, Int.reduceNe, Int.reduceEq, not_false_eq_true, Nat.reduceBEq, Nat.reduceDiv, Int.natCast_zero, Int.natCast_one, Int.reduceAdd, Int.reduceSub, reduceIte, ↓reduceIte, Value.oneCell', rowI_length, rowI_take, rowI_splice, rep_all, row_zero, le_nat, Int.toNat_natCast, Nat.zero_add, sok_row, reduceCtorEq]
  exact ret_plain rfl ⟨rfl, rfl⟩
/-- The two, as a caller meets them. -/
theorem encode_call {s : AS} {nm t m : Nat} {pub tag body : Nat → Int} {pn n : Int} {sv : SV} {cs : List SV} {rw : Bool} (hb : s.box t = some ⟨rw, cs⟩) (hp : cs.all SV.plain = true) (hv : ArgIs t (.inl (.inl sv)) m body cs) {dst : Option Nat} {K : AS → Prop}
    (hbad : 65536 < m → K (s.put dst (some (V (.slice none 0 0)))))
    (hk : m ≤ 65536 → ∀ c cs', Grows cs' 0 (45 + m + 32) c (frB pub pn n m body tag) → K ((⟨s.env, upd s.box nm (some ⟨true, cs'⟩), s.next⟩ : AS).put dst (some (Sl nm 0 (45 + m + 32) c)))) :
    vcCall Try.prog nm 5 (some [Ag (frL pub pn n sv tag)]) dst K s := by
  obtain ⟨sv0, h0, rfl⟩ := svIs_0 hv
  rcases Nat.lt_or_ge 65536 m with hm | hm
  · exact (encodeFrame_bad (pub := pub) (tag := tag) (pn := pn) (n := n) hp h0 hm).vcRead (fun _ => t) (fits1 hb hp) rfl (by simp only [List.map_cons, List.map_nil, ren_fr]) (hbad hm)
  · exact made_call (encodeFrame_m (pub := pub) (tag := tag) (pn := pn) (n := n) hp h0 hm) (fun _ => t) (fits1 hb hp) (by simp only [List.map_cons, List.map_nil, ren_fr]) (fun c tail h1 h2 h3 => hk hm c _ (Grows.row h1 h2 h3))
end Go.Proofs.Ytdhkpdakialkbaa
