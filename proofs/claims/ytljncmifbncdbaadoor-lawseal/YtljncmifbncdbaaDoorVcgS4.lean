/-
  Sealing in the document: keys, stream, tag.
-/
import Derived.Test.YtljncmifbncdbaaDoorVcgHB
import Derived.Test.YtljncmifbncdbaaDoorVcgS3
set_option linter.unusedSimpArgs false
set_option linter.unusedVariables false
namespace Go.Proofs.YtljncmifbncdbaaDoor
open Go.Vcg
set_option maxHeartbeats 8000000 in
set_option maxRecDepth 20000 in
theorem keysOf_m (mk : Nat → Int) (hb : Byt mk) : MFun Tryd.prog 18 [Ag (rowI .u8 32 mk)] 0 (fun _ => none) (Made 0 80 (okS mk)) := by
  refine mfun_of_vc Tryd.func18 rfl (by kernel_rfl) (by simp [Tryd.ntmps18]) Tryd.callable18 (fun u hu => by rw [List.mem_singleton.1 hu]; exact ok_all plainI) all0 inn0 ?_
  simp only [Tryd.results18, sn_upto, sn_from, slN_def, run_cap, rules, rules2, loopRules, Tryd.facts, base0, Int.toNat_zero, Nat.reduceAdd, Nat.reduceMul, Nat.reduceSub, Nat.reduceLT, Nat.reduceLeDiff, Nat.reduceEqDiff, Int.reduceLE, Int.reduceLT, Int.reduceToNat, Int.reduceNe, Int.reduceEq, not_false_eq_true, Nat.reduceBEq, Nat.reduceDiv, Int.natCast_zero, Int.natCast_one, Int.reduceAdd, Int.reduceSub, reduceIte, ↓reduceIte, Value.oneCell', rowI_length, rowI_take, rowI_splice, rep_all, row_zero, le_nat, Int.toNat_natCast, Nat.zero_add, sok_row, reduceCtorEq]
  refine ⟨by kernel_rfl, by decide, by decide, by decide, by decide, by decide, by decide, by decide, by decide, by decide, by decide, by decide, by decide, ?_⟩
  refine refHkdf_late (t0 := 2) (t1 := 0) (t2 := 4) (nk := 32) (m := 32) (q := 12) (N := 80) (r0 := true) (r1 := true) (r2 := true) (salt := fun _ => 0) (f := mk) (info := labelB) (cs := rowI .u8 32 (fun _ => 0)) (ds := rowI .u8 32 mk) (es := rowI .u8 12 labelB)
    (fun _ => ⟨Int.le_refl 0, by show (0 : Int) < 256; decide⟩) hb labelB_byt (by simp only [upd_apply, sn_upto, sn_from, slN_def, run_cap, rules, rules2, loopRules, Tryd.facts, base0, Int.toNat_zero, Nat.reduceAdd, Nat.reduceMul, Nat.reduceSub, Nat.reduceLT, Nat.reduceLeDiff, Nat.reduceEqDiff, Int.reduceLE, Int.reduceLT, Int.reduceToNat, Int.reduceNe, Int.reduceEq, not_false_eq_true, Nat.reduceBEq, Nat.reduceDiv, Int.natCast_zero, Int.natCast_one, Int.reduceAdd, Int.reduceSub, reduceIte, ↓reduceIte, Value.oneCell', rowI_length, rowI_take, rowI_splice, rep_all, row_zero, le_nat, Int.toNat_natCast, Nat.zero_add, sok_row, reduceCtorEq]) plainI (by simp only [upd_apply, sn_upto, sn_from, slN_def, run_cap, rules, rules2, loopRules, Tryd.facts, base0, Int.toNat_zero, Nat.reduceAdd, Nat.reduceMul, Nat.reduceSub, Nat.reduceLT, Nat.reduceLeDiff, Nat.reduceEqDiff, Int.reduceLE, Int.reduceLT, Int.reduceToNat, Int.reduceNe, Int.reduceEq, not_false_eq_true, Nat.reduceBEq, Nat.reduceDiv, Int.natCast_zero, Int.natCast_one, Int.reduceAdd, Int.reduceSub, reduceIte, ↓reduceIte, Value.oneCell', rowI_length, rowI_take, rowI_splice, rep_all, row_zero, le_nat, Int.toNat_natCast, Nat.zero_add, sok_row, reduceCtorEq]) plainI (by simp only [upd_same]; rfl) plainI
    (.inr ⟨0, 32, rfl, shows_row0⟩) (.inr ⟨0, 32, rfl, shows_row0⟩) (.inr ⟨0, 12, rfl, shows_row0⟩) (by decide) (by kernel_rfl) ?_
  intro c tail h1 h2 h3
  simp only [sn_upto, sn_from, slN_def, run_cap, rules, rules2, loopRules, Tryd.facts, base0, Int.toNat_zero, Nat.reduceAdd, Nat.reduceMul, Nat.reduceSub, Nat.reduceLT, Nat.reduceLeDiff, Nat.reduceEqDiff, Int.reduceLE, Int.reduceLT, Int.reduceToNat, Int.reduceNe, Int.reduceEq, not_false_eq_true, Nat.reduceBEq, Nat.reduceDiv, Int.natCast_zero, Int.natCast_one, Int.reduceAdd, Int.reduceSub, reduceIte, ↓reduceIte, Value.oneCell', rowI_length, rowI_take, rowI_splice, rep_all, row_zero, le_nat, Int.toNat_natCast, Nat.zero_add, sok_row, reduceCtorEq]
  exact ret_grows (f := okS mk) (by decide) (Grows.row h1 h2 h3) (by simp only [upd_same]; rfl) rfl
set_option maxHeartbeats 8000000 in
set_option maxRecDepth 20000 in
theorem long_g {x : Int} (h0 : 0 ≤ x) (h1 : x < 18446744073709551616) : MFun Tryd.prog 30 [I .u64 x] 0 (fun _ => none) (Made 0 8 (u64B x)) := by
  refine mfun_of_vc Tryd.func30 rfl (by kernel_rfl) (by simp [Tryd.ntmps30]) Tryd.callable30 (by simp [AV.ok, CV.ok, SV.names]) all0 inn0 ?_
  simp only [Tryd.results30, sn_upto, sn_from, slN_def, run_cap, rules, rules2, loopRules, Tryd.facts, base0, Int.toNat_zero, Nat.reduceAdd, Nat.reduceMul, Nat.reduceSub, Nat.reduceLT, Nat.reduceLeDiff, Nat.reduceEqDiff, Int.reduceLE, Int.reduceLT, Int.reduceToNat, Int.reduceNe, Int.reduceEq, not_false_eq_true, Nat.reduceBEq, Nat.reduceDiv, Int.natCast_zero, Int.natCast_one, Int.reduceAdd, Int.reduceSub, reduceIte, ↓reduceIte, Value.oneCell', rowI_length, rowI_take, rowI_splice, rep_all, row_zero, le_nat, Int.toNat_natCast, Nat.zero_add, sok_row, reduceCtorEq]
  refine madeX_call (short_m _) (fun n => n) fits0 rfl ?_
  simp only [sn_upto, sn_from, slN_def, run_cap, rules, rules2, loopRules, Tryd.facts, base0, Int.toNat_zero, Nat.reduceAdd, Nat.reduceMul, Nat.reduceSub, Nat.reduceLT, Nat.reduceLeDiff, Nat.reduceEqDiff, Int.reduceLE, Int.reduceLT, Int.reduceToNat, Int.reduceNe, Int.reduceEq, not_false_eq_true, Nat.reduceBEq, Nat.reduceDiv, Int.natCast_zero, Int.natCast_one, Int.reduceAdd, Int.reduceSub, reduceIte, ↓reduceIte, Value.oneCell', rowI_length, rowI_take, rowI_splice, rep_all, row_zero, le_nat, Int.toNat_natCast, Nat.zero_add, sok_row, reduceCtorEq]
  refine madeX_call (short_m _) (fun n => n) fits0 rfl ?_
  simp only [sn_upto, sn_from, slN_def, run_cap, rules, rules2, loopRules, Tryd.facts, base0, Int.toNat_zero, Nat.reduceAdd, Nat.reduceMul, Nat.reduceSub, Nat.reduceLT, Nat.reduceLeDiff, Nat.reduceEqDiff, Int.reduceLE, Int.reduceLT, Int.reduceToNat, Int.reduceNe, Int.reduceEq, not_false_eq_true, Nat.reduceBEq, Nat.reduceDiv, Int.natCast_zero, Int.natCast_one, Int.reduceAdd, Int.reduceSub, reduceIte, ↓reduceIte, Value.oneCell', rowI_length, rowI_take, rowI_splice, rep_all, row_zero, le_nat, Int.toNat_natCast, Nat.zero_add, sok_row, reduceCtorEq]
  refine append_b (g := shortB (IntKind.u32.wrap x)) Tryd.mkK24 Tryd.slK24 (f := shortB (IntKind.u32.wrap (shrI .u64 x 32))) (b := 4) (cs := rowI .u8 4 (shortB (IntKind.u32.wrap (shrI .u64 x 32)))) (by simp only [upd_apply, sn_upto, sn_from, slN_def, run_cap, rules, rules2, loopRules, Tryd.facts, base0, Int.toNat_zero, Nat.reduceAdd, Nat.reduceMul, Nat.reduceSub, Nat.reduceLT, Nat.reduceLeDiff, Nat.reduceEqDiff, Int.reduceLE, Int.reduceLT, Int.reduceToNat, Int.reduceNe, Int.reduceEq, not_false_eq_true, Nat.reduceBEq, Nat.reduceDiv, Int.natCast_zero, Int.natCast_one, Int.reduceAdd, Int.reduceSub, reduceIte, ↓reduceIte, Value.oneCell', rowI_length, rowI_take, rowI_splice, rep_all, row_zero, le_nat, Int.toNat_natCast, Nat.zero_add, sok_row, reduceCtorEq])
    ⟨by rw [rowI_length], by decide, plainI, shows_row0⟩ (.inr ⟨9, 0, 4, true, rowI .u8 4 (shortB (IntKind.u32.wrap x)), rfl, by simp only [upd_apply, sn_upto, sn_from, slN_def, run_cap, rules, rules2, loopRules, Tryd.facts, base0, Int.toNat_zero, Nat.reduceAdd, Nat.reduceMul, Nat.reduceSub, Nat.reduceLT, Nat.reduceLeDiff, Nat.reduceEqDiff, Int.reduceLE, Int.reduceLT, Int.reduceToNat, Int.reduceNe, Int.reduceEq, not_false_eq_true, Nat.reduceBEq, Nat.reduceDiv, Int.natCast_zero, Int.natCast_one, Int.reduceAdd, Int.reduceSub, reduceIte, ↓reduceIte, Value.oneCell', rowI_length, rowI_take, rowI_splice, rep_all, row_zero, le_nat, Int.toNat_natCast, Nat.zero_add, sok_row, reduceCtorEq], shows_row0, by decide⟩) (by decide) ?_
  intro c2 cs2 hg2
  simp only [sn_upto, sn_from, slN_def, run_cap, rules, rules2, loopRules, Tryd.facts, base0, Int.toNat_zero, Nat.reduceAdd, Nat.reduceMul, Nat.reduceSub, Nat.reduceLT, Nat.reduceLeDiff, Nat.reduceEqDiff, Int.reduceLE, Int.reduceLT, Int.reduceToNat, Int.reduceNe, Int.reduceEq, not_false_eq_true, Nat.reduceBEq, Nat.reduceDiv, Int.natCast_zero, Int.natCast_one, Int.reduceAdd, Int.reduceSub, reduceIte, ↓reduceIte, Value.oneCell', rowI_length, rowI_take, rowI_splice, rep_all, row_zero, le_nat, Int.toNat_natCast, Nat.zero_add, sok_row, reduceCtorEq]
  refine ret_grows (k := 0) (by decide) (hg2.congr (m := 8) rfl fun i hi => ?_) (by simp only [upd_apply, sn_upto, sn_from, slN_def, run_cap, rules, rules2, loopRules, Tryd.facts, base0, Int.toNat_zero, Nat.reduceAdd, Nat.reduceMul, Nat.reduceSub, Nat.reduceLT, Nat.reduceLeDiff, Nat.reduceEqDiff, Int.reduceLE, Int.reduceLT, Int.reduceToNat, Int.reduceNe, Int.reduceEq, not_false_eq_true, Nat.reduceBEq, Nat.reduceDiv, Int.natCast_zero, Int.natCast_one, Int.reduceAdd, Int.reduceSub, reduceIte, ↓reduceIte, Value.oneCell', rowI_length, rowI_take, rowI_splice, rep_all, row_zero, le_nat, Int.toNat_natCast, Nat.zero_add, sok_row, reduceCtorEq]) rfl
  have e4 : ∀ x : Int, IntKind.u32.wrap x = x % 4294967296 := wrap_u32
  have s32 : shrI .u64 x 32 = x / 4294967296 := shrI_eq .u64 _ 32 (by decide)
  rw [s32]
  have sz : shrI .u64 x 0 = x := by have := shrI_eq .u64 x 0 (by decide); simpa using this
  have s24 : ∀ x : Int, shrI .u32 x 24 = x / 16777216 := fun x => shrI_eq .u32 x 24 (by decide)
  have s16 : ∀ x : Int, shrI .u32 x 16 = x / 65536 := fun x => shrI_eq .u32 x 16 (by decide)
  have s8 : ∀ x : Int, shrI .u32 x 8 = x / 256 := fun x => shrI_eq .u32 x 8 (by decide)
  have b56 : shrI .u64 x 56 = x / 72057594037927936 := shrI_eq .u64 _ 56 (by decide)
  have b48 : shrI .u64 x 48 = x / 281474976710656 := shrI_eq .u64 _ 48 (by decide)
  have b40 : shrI .u64 x 40 = x / 1099511627776 := shrI_eq .u64 _ 40 (by decide)
  have b32 : shrI .u64 x 32 = x / 4294967296 := shrI_eq .u64 _ 32 (by decide)
  have b24 : shrI .u64 x 24 = x / 16777216 := shrI_eq .u64 _ 24 (by decide)
  have b16 : shrI .u64 x 16 = x / 65536 := shrI_eq .u64 _ 16 (by decide)
  have b8 : shrI .u64 x 8 = x / 256 := shrI_eq .u64 _ 8 (by decide)
  have hc : i = 0 ∨ i = 1 ∨ i = 2 ∨ i = 3 ∨ i = 4 ∨ i = 5 ∨ i = 6 ∨ i = 7 := by omega
  rcases hc with rfl | rfl | rfl | rfl | rfl | rfl | rfl | rfl
  · show shortB _ 0 = _
    simp only [shortB, u64B]
    show IntKind.u8.wrap (shrI .u32 _ 24) = IntKind.u8.wrap (shrI .u64 x 56)
    rw [s24, b56, e4, wrap_u8, wrap_u8]; omega
  · show shortB _ 1 = _
    simp only [shortB, u64B]
    show IntKind.u8.wrap (shrI .u32 _ 16) = IntKind.u8.wrap (shrI .u64 x 48)
    rw [s16, b48, e4, wrap_u8, wrap_u8]; omega
  · show shortB _ 2 = _
    simp only [shortB, u64B]
    show IntKind.u8.wrap (shrI .u32 _ 8) = IntKind.u8.wrap (shrI .u64 x 40)
    rw [s8, b40, e4, wrap_u8, wrap_u8]; omega
  · show shortB _ 3 = _
    simp only [shortB, u64B]
    show IntKind.u8.wrap (shrI .u32 _ 0) = IntKind.u8.wrap (shrI .u64 x 32)
    rw [shr0, b32, e4, wrap_u8, wrap_u8]; omega
  · show shortB _ 0 = _
    simp only [shortB, u64B]
    show IntKind.u8.wrap (shrI .u32 _ 24) = IntKind.u8.wrap (shrI .u64 x 24)
    rw [s24, b24, e4, wrap_u8, wrap_u8]; omega
  · show shortB _ 1 = _
    simp only [shortB, u64B]
    show IntKind.u8.wrap (shrI .u32 _ 16) = IntKind.u8.wrap (shrI .u64 x 16)
    rw [s16, b16, e4, wrap_u8, wrap_u8]; omega
  · show shortB _ 2 = _
    simp only [shortB, u64B]
    show IntKind.u8.wrap (shrI .u32 _ 8) = IntKind.u8.wrap (shrI .u64 x 8)
    rw [s8, b8, e4, wrap_u8, wrap_u8]; omega
  · show shortB _ 3 = _
    simp only [shortB, u64B]
    show IntKind.u8.wrap (shrI .u32 _ 0) = IntKind.u8.wrap (shrI .u64 x 0)
    rw [shr0, sz, e4, wrap_u8, wrap_u8]; omega
set_option maxHeartbeats 8000000 in
set_option maxRecDepth 20000 in
theorem tagOf_g {k co na nb : Nat} {l : List (Nat × Box)} {va vb vo : AV} {K ad body : Nat → Int} (hg : Handed k l) (hK : Byt K) (ha : Byt ad) (hb : Byt body) (ho : Arg k l vo 80 K) (hco : ∃ t o, vo = Sl t o 80 co ∧ 80 ≤ co) (hva : Arg k l va na ad) (hvb : Arg k l vb nb body) (hna : na < 40000000) (hnb : nb < 40000000) :
    MFun Tryd.prog 20 [vo, va, vb] k (lk l) (fun u out => u = Ag (rowI .u8 32 (tagA K na nb ad body)) ∧ out = fun _ => none) := by
  refine mfun_of_vc Tryd.func20 rfl (by kernel_rfl) (by simp [Tryd.ntmps20]) Tryd.callable20 (fun u hu => by
    simp only [List.mem_cons, List.not_mem_nil, or_false] at hu
    rcases hu with rfl | rfl | rfl
    · exact ho.ok
    · exact hva.ok
    · exact hvb.ok) hg.all hg.hinn ?_
  have hw : IntKind.u64.wrap (na : Int) = (na : Int) := wrap_u64_in _ (by omega) (by omega)
  have hk := hg.le
  simp only [Tryd.results20, at_len hva.at_, hw, sn_upto, sn_from, slN_def, run_cap, rules, rules2, loopRules, Tryd.facts, base0, Int.toNat_zero, Nat.reduceAdd, Nat.reduceMul, Nat.reduceSub, Nat.reduceLT, Nat.reduceLeDiff, Nat.reduceEqDiff, Int.reduceLE, Int.reduceLT, Int.reduceToNat, Int.reduceNe, Int.reduceEq, not_false_eq_true, Nat.reduceBEq, Nat.reduceDiv, Int.natCast_zero, Int.natCast_one, Int.reduceAdd, Int.reduceSub, reduceIte, ↓reduceIte, Value.oneCell', rowI_length, rowI_take, rowI_splice, rep_all, row_zero, le_nat, Int.toNat_natCast, Nat.zero_add, sok_row, reduceCtorEq]
  refine made_call (long_g (by omega) (by omega)) (fun n => n) fits0 rfl ?_
  intro c1 tail1 h1 h2 h3
  simp only [sn_upto, sn_from, slN_def, run_cap, rules, rules2, loopRules, Tryd.facts, base0, Int.toNat_zero, Nat.reduceAdd, Nat.reduceMul, Nat.reduceSub, Nat.reduceLT, Nat.reduceLeDiff, Nat.reduceEqDiff, Int.reduceLE, Int.reduceLT, Int.reduceToNat, Int.reduceNe, Int.reduceEq, not_false_eq_true, Nat.reduceBEq, Nat.reduceDiv, Int.natCast_zero, Int.natCast_one, Int.reduceAdd, Int.reduceSub, reduceIte, ↓reduceIte, Value.oneCell', rowI_length, rowI_take, rowI_splice, rep_all, row_zero, le_nat, Int.toNat_natCast, Nat.zero_add, sok_row, reduceCtorEq]
  refine append_b (g := ad) Tryd.mkK24 Tryd.slK24 (by simp only [upd_same]) (Grows.row (f := u64B (na : Int)) h1 h2 h3) (off_of_at hva.at_ hva.ok (by omega) (fun t ht => by simp only [upd]; rw [if_neg (by omega), if_neg (by omega)])) (by omega) ?_
  intro c2 cs2 hg2
  simp only [sn_upto, sn_from, slN_def, run_cap, rules, rules2, loopRules, Tryd.facts, base0, Int.toNat_zero, Nat.reduceAdd, Nat.reduceMul, Nat.reduceSub, Nat.reduceLT, Nat.reduceLeDiff, Nat.reduceEqDiff, Int.reduceLE, Int.reduceLT, Int.reduceToNat, Int.reduceNe, Int.reduceEq, not_false_eq_true, Nat.reduceBEq, Nat.reduceDiv, Int.natCast_zero, Int.natCast_one, Int.reduceAdd, Int.reduceSub, reduceIte, ↓reduceIte, Value.oneCell', rowI_length, rowI_take, rowI_splice, rep_all, row_zero, le_nat, Int.toNat_natCast, Nat.zero_add, sok_row, reduceCtorEq]
  refine append_b (g := body) Tryd.mkK24 Tryd.slK24 (by simp only [upd_same]) hg2 (off_of_at hvb.at_ hvb.ok (by omega) (fun t ht => by simp only [upd]; rw [if_neg (by omega), if_neg (by omega), if_neg (by omega), if_neg (by omega)])) (by omega) ?_
  intro c3 cs3 hg3
  obtain ⟨t, o, rfl, hc80⟩ := hco
  have ht : t < k := ho.ok
  obtain ⟨t', o', c', rw, cs, e, hbx, hp, hs⟩ := at_some ho.at_ (by decide)
  cases e
  have n1 : (co = 32) = False := eq_false (by omega)
  have l2 : (64 ≤ (co : Int)) = True := eq_true (by omega)
  simp only [n1, l2, sn_upto, sn_from, slN_def, run_cap, rules, rules2, loopRules, Tryd.facts, base0, Int.toNat_zero, Nat.reduceAdd, Nat.reduceMul, Nat.reduceSub, Nat.reduceLT, Nat.reduceLeDiff, Nat.reduceEqDiff, Int.reduceLE, Int.reduceLT, Int.reduceToNat, Int.reduceNe, Int.reduceEq, not_false_eq_true, Nat.reduceBEq, Nat.reduceDiv, Int.natCast_zero, Int.natCast_one, Int.reduceAdd, Int.reduceSub, reduceIte, ↓reduceIte, Value.oneCell', rowI_length, rowI_take, rowI_splice, rep_all, row_zero, le_nat, Int.toNat_natCast, Nat.zero_add, sok_row, reduceCtorEq]
  refine refMac_call (rwa := rw) (rwb := true) (key := fun i => K (32 + i)) (f := joinB (8 + na) (joinB 8 (u64B (na : Int)) ad) body) (cs := cs) (ds := cs3) (fun i => hK _) (joinB_byt (joinB_byt (u64B_byt _) ha) hb) (by simp only [upd]; rw [if_neg (by omega), if_neg (by omega), if_neg (by omega), if_neg (by omega), if_neg (by omega), if_neg (by omega)]; exact hbx) (shows_sub hs 32 32 (by decide)) hp (by simp only [upd_same]) hg3.shows hg3.plain (by decide) (by omega) ?_
  have q1 : (k = k + 1 + 5 + 4 + 2) = False := eq_false (by omega)
  have q2 : (k = k + 1 + 5 + 2) = False := eq_false (by omega)
  have q3 : (k = k + 1 + 3) = False := eq_false (by omega)
  simp only [q1, q2, q3, sn_upto, sn_from, slN_def, run_cap, rules, rules2, loopRules, Tryd.facts, base0, Int.toNat_zero, Nat.reduceAdd, Nat.reduceMul, Nat.reduceSub, Nat.reduceLT, Nat.reduceLeDiff, Nat.reduceEqDiff, Int.reduceLE, Int.reduceLT, Int.reduceToNat, Int.reduceNe, Int.reduceEq, not_false_eq_true, Nat.reduceBEq, Nat.reduceDiv, Int.natCast_zero, Int.natCast_one, Int.reduceAdd, Int.reduceSub, reduceIte, ↓reduceIte, Value.oneCell', rowI_length, rowI_take, rowI_splice, rep_all, row_zero, le_nat, Int.toNat_natCast, Nat.zero_add, sok_row, reduceCtorEq]
  exact ret_plain plainI ⟨rfl, rfl⟩
set_option maxHeartbeats 8000000 in
set_option maxRecDepth 20000 in
theorem stream_g {k co n : Nat} {l : List (Nat × Box)} {vd vo : AV} {K f : Nat → Int} (hg : Handed k l) (hK : Byt K) (hf : Byt f) (ho : Arg k l vo 80 K) (hco : ∃ t o, vo = Sl t o 80 co ∧ 80 ≤ co) (hvd : Arg k l vd n f) (hn : n ≤ 1048576) :
    MFun Tryd.prog 19 [vo, vd] k (lk l) (Bytes k n (ctrB K (fun i => K (64 + i)) f)) := by
  refine mfun_of_vc Tryd.func19 rfl (by kernel_rfl) (by simp [Tryd.ntmps19]) Tryd.callable19 (fun u hu => by
    simp only [List.mem_cons, List.not_mem_nil, or_false] at hu
    rcases hu with rfl | rfl
    · exact ho.ok
    · exact hvd.ok) hg.all hg.hinn ?_
  have hk := hg.le
  obtain ⟨t, o, rfl, hc80⟩ := hco
  have ht : t < k := ho.ok
  obtain ⟨t', o', c', rw, cs, e, hbx, hp, hs⟩ := at_some ho.at_ (by decide)
  cases e
  have n2 : (co = 64) = False := eq_false (by omega)
  have l1 : (32 ≤ (co : Int)) = True := eq_true (by omega)
  have l2 : (80 ≤ (co : Int)) = True := eq_true (by omega)
  simp only [Tryd.results19, n2, l1, l2, sn_upto, sn_from, slN_def, run_cap, rules, rules2, loopRules, Tryd.facts, base0, Int.toNat_zero, Nat.reduceAdd, Nat.reduceMul, Nat.reduceSub, Nat.reduceLT, Nat.reduceLeDiff, Nat.reduceEqDiff, Int.reduceLE, Int.reduceLT, Int.reduceToNat, Int.reduceNe, Int.reduceEq, not_false_eq_true, Nat.reduceBEq, Nat.reduceDiv, Int.natCast_zero, Int.natCast_one, Int.reduceAdd, Int.reduceSub, reduceIte, ↓reduceIte, Value.oneCell', rowI_length, rowI_take, rowI_splice, rep_all, row_zero, le_nat, Int.toNat_natCast, Nat.zero_add, sok_row, reduceCtorEq]
  refine ⟨by kernel_rfl, by kernel_rfl, ?_⟩
  refine vc_copy Tryd.mkK24 Tryd.slK24 (cs := rowI .u8 32 (fun _ => 0)) (bx := ⟨rw, cs⟩) (news := rowI .u8 32 K) (by simp only [upd]; rw [if_neg (by omega)]; exact if_pos trivial) (by simp only [upd]; rw [if_neg (by omega), if_neg (by omega)]; exact hbx) (by rw [rowI_length]; rfl) (shows_src (shows_mono hs (by decide))) (by rw [rowI_length]; decide) ?_
  have c1 : splice (rowI .u8 32 (fun _ => 0)) 0 (rowI .u8 32 K) = rowI .u8 32 K := rowI_splice _ _ _ _
  simp only [n2, l1, l2, c1, sn_upto, sn_from, slN_def, run_cap, rules, rules2, loopRules, Tryd.facts, base0, Int.toNat_zero, Nat.reduceAdd, Nat.reduceMul, Nat.reduceSub, Nat.reduceLT, Nat.reduceLeDiff, Nat.reduceEqDiff, Int.reduceLE, Int.reduceLT, Int.reduceToNat, Int.reduceNe, Int.reduceEq, not_false_eq_true, Nat.reduceBEq, Nat.reduceDiv, Int.natCast_zero, Int.natCast_one, Int.reduceAdd, Int.reduceSub, reduceIte, ↓reduceIte, Value.oneCell', rowI_length, rowI_take, rowI_splice, rep_all, row_zero, le_nat, Int.toNat_natCast, Nat.zero_add, sok_row, reduceCtorEq]
  refine ⟨by kernel_rfl, by kernel_rfl, ?_⟩
  refine vc_copy Tryd.mkK24 Tryd.slK24 (cs := rowI .u8 16 (fun _ => 0)) (bx := ⟨rw, cs⟩) (news := rowI .u8 16 (fun i => K (64 + i))) (by simp only [upd]; rw [if_neg (by omega)]; exact if_pos trivial) (by simp only [upd]; rw [if_neg (by omega), if_neg (by omega), if_neg (by omega)]; exact hbx) (by rw [rowI_length]; rfl) (shows_src (shows_sub hs 64 16 (by decide))) (by rw [rowI_length]; decide) ?_
  have c2 : splice (rowI .u8 16 (fun _ => 0)) 0 (rowI .u8 16 (fun i => K (64 + i))) = rowI .u8 16 (fun i => K (64 + i)) := rowI_splice _ _ _ _
  have q1 : (k + 1 = k + 2) = False := eq_false (by omega)
  simp only [n2, l1, l2, c2, q1, sn_upto, sn_from, slN_def, run_cap, rules, rules2, loopRules, Tryd.facts, base0, Int.toNat_zero, Nat.reduceAdd, Nat.reduceMul, Nat.reduceSub, Nat.reduceLT, Nat.reduceLeDiff, Nat.reduceEqDiff, Int.reduceLE, Int.reduceLT, Int.reduceToNat, Int.reduceNe, Int.reduceEq, not_false_eq_true, Nat.reduceBEq, Nat.reduceDiv, Int.natCast_zero, Int.natCast_one, Int.reduceAdd, Int.reduceSub, reduceIte, ↓reduceIte, Value.oneCell', rowI_length, rowI_take, rowI_splice, rep_all, row_zero, le_nat, Int.toNat_natCast, Nat.zero_add, sok_row, reduceCtorEq]
  have hJ : Byt (fun i => K (64 + i)) := fun i => hK _
  have eC : ∀ i, i < n → rctB K (fun i => K (64 + i)) f i = ctrB K (fun i => K (64 + i)) f i := fun i _ => (ctr_eq hK i).symm
  rcases hvd.at_ with ⟨⟨a, rfl⟩, rfl⟩ | ⟨td, od, cd, rwd, ds, rfl, hbd, hq, hsd⟩
  · refine (ref_0n hK).vcCall ?_
    simp only [sn_upto, sn_from, slN_def, run_cap, rules, rules2, loopRules, Tryd.facts, base0, Int.toNat_zero, Nat.reduceAdd, Nat.reduceMul, Nat.reduceSub, Nat.reduceLT, Nat.reduceLeDiff, Nat.reduceEqDiff, Int.reduceLE, Int.reduceLT, Int.reduceToNat, Int.reduceNe, Int.reduceEq, not_false_eq_true, Nat.reduceBEq, Nat.reduceDiv, Int.natCast_zero, Int.natCast_one, Int.reduceAdd, Int.reduceSub, reduceIte, ↓reduceIte, Value.oneCell', rowI_length, rowI_take, rowI_splice, rep_all, row_zero, le_nat, Int.toNat_natCast, Nat.zero_add, sok_row, reduceCtorEq]
    exact ret_plain (v := V (.slice none 0 0)) rfl (.inl ⟨rfl, rfl, rfl⟩)
  · have htd : td < k := hvd.ok
    by_cases h0 : n = 0
    · subst h0
      refine (ref_0s (J := fun i => K (64 + i)) (o := od) (c := cd) hK hq).vcRead (fun _ => td) (fits1 (rw := rwd) (by simp only [upd]; rw [if_neg (by omega), if_neg (by omega), if_neg (by omega), if_neg (by omega)]; exact hbd) hq) rfl (by simp only [List.map_cons, List.map_nil, ren_row, ren_s]) ?_
      simp only [sn_upto, sn_from, slN_def, run_cap, rules, rules2, loopRules, Tryd.facts, base0, Int.toNat_zero, Nat.reduceAdd, Nat.reduceMul, Nat.reduceSub, Nat.reduceLT, Nat.reduceLeDiff, Nat.reduceEqDiff, Int.reduceLE, Int.reduceLT, Int.reduceToNat, Int.reduceNe, Int.reduceEq, not_false_eq_true, Nat.reduceBEq, Nat.reduceDiv, Int.natCast_zero, Int.natCast_one, Int.reduceAdd, Int.reduceSub, reduceIte, ↓reduceIte, Value.oneCell', rowI_length, rowI_take, rowI_splice, rep_all, row_zero, le_nat, Int.toNat_natCast, Nat.zero_add, sok_row, reduceCtorEq]
      exact ret_plain (v := V (.slice none 0 0)) rfl (.inl ⟨rfl, rfl, rfl⟩)
    · refine made_call (ref_m (o := od) (c := cd) hK hJ hsd hq hn (by omega)) (fun _ => td) (fits1 (rw := rwd) (by simp only [upd]; rw [if_neg (by omega), if_neg (by omega), if_neg (by omega), if_neg (by omega)]; exact hbd) hq) (by simp only [List.map_cons, List.map_nil, ren_row, ren_s]) ?_
      intro c3 tail3 h1 h2 h3
      simp only [sn_upto, sn_from, slN_def, run_cap, rules, rules2, loopRules, Tryd.facts, base0, Int.toNat_zero, Nat.reduceAdd, Nat.reduceMul, Nat.reduceSub, Nat.reduceLT, Nat.reduceLeDiff, Nat.reduceEqDiff, Int.reduceLE, Int.reduceLT, Int.reduceToNat, Int.reduceNe, Int.reduceEq, not_false_eq_true, Nat.reduceBEq, Nat.reduceDiv, Int.natCast_zero, Int.natCast_one, Int.reduceAdd, Int.reduceSub, reduceIte, ↓reduceIte, Value.oneCell', rowI_length, rowI_take, rowI_splice, rep_all, row_zero, le_nat, Int.toNat_natCast, Nat.zero_add, sok_row, reduceCtorEq]
      have eR : rowI .u8 n (rctB K (fun i => K (64 + i)) f) = rowI .u8 n (ctrB K (fun i => K (64 + i)) f) := rowI_congr eC
      rw [eR]
      exact ret_new (k := k) (q := k + 1 + 1 + 1 + 4 + 4 + 3) (cs := rowI .u8 n (ctrB K (fun i => K (64 + i)) f) ++ tail3) (by omega) (by simp only [upd_same]) (plainT h3) (.inr ⟨c3, tail3, rfl, rfl, h1, h2, h3⟩)
end Go.Proofs.YtljncmifbncdbaaDoor
