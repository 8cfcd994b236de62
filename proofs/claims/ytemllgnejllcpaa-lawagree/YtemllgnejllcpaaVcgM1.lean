/-
  Numbers modulo p = 2^255 - 19 in five limbs: what the limb sums of a product come to. Nothing here speaks of a program.
-/
import Derived.Test.YtemllgnejllcpaaVcgU2
set_option linter.unusedVariables false
set_option linter.unusedSimpArgs false
namespace Go.Proofs.Ytemllgnejllcpaa
open Go.Vcg
def F5.v (f : F5) : Int := f.a0 + 2251799813685248 * f.a1 + 5070602400912917605986812821504 * f.a2 + 11417981541647679048466287755595961091061972992 * f.a3 + 25711008708143844408671393477458601640355247900524685364822016 * f.a4
def PP : Int := 57896044618658097711785492504343953926634992332820282019728792003956564819949
theorem carriedF_v (f : F5) : (carriedF f).v = f.v + PP * -(f.a4 / 2251799813685248) := by
  simp only [carriedF, F5.v, PP]
  omega
theorem carriedF_ok (f : F5) (h : f.U) (h0 : f.a0 < 2305843009213693952) (h1 : f.a1 < 2305843009213693952) (h2 : f.a2 < 2305843009213693952) (h3 : f.a3 < 2305843009213693952) (h4 : f.a4 < 108086391056891904) : (carriedF f).Ok := by
  obtain ⟨⟨k0, k0'⟩, ⟨k1, k1'⟩, ⟨k2, k2'⟩, ⟨k3, k3'⟩, ⟨k4, k4'⟩⟩ := h
  constructor <;> simp only [carriedF] <;> constructor <;> omega
theorem addF_ok (a b : F5) (ha : a.Ok) (hb : b.Ok) : (carriedF (addP a b)).Ok := by
  obtain ⟨⟨h0, h0'⟩, ⟨h1, h1'⟩, ⟨h2, h2'⟩, ⟨h3, h3'⟩, ⟨h4, h4'⟩⟩ := ha
  obtain ⟨⟨k0, k0'⟩, ⟨k1, k1'⟩, ⟨k2, k2'⟩, ⟨k3, k3'⟩, ⟨k4, k4'⟩⟩ := hb
  constructor <;> simp only [carriedF, addP] <;> constructor <;> omega
theorem subF_ok (a b : F5) (ha : a.Ok) (hb : b.Ok) : (carriedF (subP a b)).Ok := by
  obtain ⟨⟨h0, h0'⟩, ⟨h1, h1'⟩, ⟨h2, h2'⟩, ⟨h3, h3'⟩, ⟨h4, h4'⟩⟩ := ha
  obtain ⟨⟨k0, k0'⟩, ⟨k1, k1'⟩, ⟨k2, k2'⟩, ⟨k3, k3'⟩, ⟨k4, k4'⟩⟩ := hb
  constructor <;> simp only [carriedF, subP] <;> constructor <;> omega
theorem mulW_bd (a b : F5) (ha : a.Ok) (hb : b.Ok) : (0 ≤ (mulW a b).a0 ∧ (mulW a b).a0 ≤ 390436384870649408707232269178957) ∧ (0 ≤ (mulW a b).a1 ∧ (mulW a b).a1 ≤ 299165541654133962515931219241019) ∧
    (0 ≤ (mulW a b).a2 ∧ (mulW a b).a2 ≤ 207894698437618516324630169303081) ∧ (0 ≤ (mulW a b).a3 ∧ (mulW a b).a3 ≤ 116623855221103070133329119365143) ∧ (0 ≤ (mulW a b).a4 ∧ (mulW a b).a4 ≤ 25353012004587623942028069427205) := by
  obtain ⟨⟨h0, h0'⟩, ⟨h1, h1'⟩, ⟨h2, h2'⟩, ⟨h3, h3'⟩, ⟨h4, h4'⟩⟩ := ha
  obtain ⟨⟨k0, k0'⟩, ⟨k1, k1'⟩, ⟨k2, k2'⟩, ⟨k3, k3'⟩, ⟨k4, k4'⟩⟩ := hb
  have p00 := prod_bd h0 h0' k0 k0'
  have p14 := prod_bd19 h1 h1' k4 k4'
  have p23 := prod_bd19 h2 h2' k3 k3'
  have p32 := prod_bd19 h3 h3' k2 k2'
  have p41 := prod_bd19 h4 h4' k1 k1'
  have p01 := prod_bd h0 h0' k1 k1'
  have p10 := prod_bd h1 h1' k0 k0'
  have p24 := prod_bd19 h2 h2' k4 k4'
  have p33 := prod_bd19 h3 h3' k3 k3'
  have p42 := prod_bd19 h4 h4' k2 k2'
  have p02 := prod_bd h0 h0' k2 k2'
  have p11 := prod_bd h1 h1' k1 k1'
  have p20 := prod_bd h2 h2' k0 k0'
  have p34 := prod_bd19 h3 h3' k4 k4'
  have p43 := prod_bd19 h4 h4' k3 k3'
  have p03 := prod_bd h0 h0' k3 k3'
  have p12 := prod_bd h1 h1' k2 k2'
  have p21 := prod_bd h2 h2' k1 k1'
  have p30 := prod_bd h3 h3' k0 k0'
  have p44 := prod_bd19 h4 h4' k4 k4'
  have p04 := prod_bd h0 h0' k4 k4'
  have p13 := prod_bd h1 h1' k3 k3'
  have p22 := prod_bd h2 h2' k2 k2'
  have p31 := prod_bd h3 h3' k1 k1'
  have p40 := prod_bd h4 h4' k0 k0'
  simp only [mulW]
  refine ⟨?_, ?_, ?_, ?_, ?_⟩
  · clear p01 p10 p24 p33 p42 p02 p11 p20 p34 p43 p03 p12 p21 p30 p44 p04 p13 p22 p31 p40; omega
  · clear p00 p14 p23 p32 p41 p02 p11 p20 p34 p43 p03 p12 p21 p30 p44 p04 p13 p22 p31 p40; omega
  · clear p00 p14 p23 p32 p41 p01 p10 p24 p33 p42 p03 p12 p21 p30 p44 p04 p13 p22 p31 p40; omega
  · clear p00 p14 p23 p32 p41 p01 p10 p24 p33 p42 p02 p11 p20 p34 p43 p04 p13 p22 p31 p40; omega
  · clear p00 p14 p23 p32 p41 p01 p10 p24 p33 p42 p02 p11 p20 p34 p43 p03 p12 p21 p30 p44; omega
theorem mulF_ok (a b : F5) (ha : a.Ok) (hb : b.Ok) : (mulF a b).Ok := by
  obtain ⟨⟨h0, h0'⟩, ⟨h1, h1'⟩, ⟨h2, h2'⟩, ⟨h3, h3'⟩, ⟨h4, h4'⟩⟩ := mulW_bd a b ha hb
  simp only [mulF]
  generalize mulW a b = W at *
  refine carriedF_ok _ ⟨?_, ?_, ?_, ?_, ?_⟩ ?_ ?_ ?_ ?_ ?_ <;> simp only [] <;> omega
theorem mulW_v (a b : F5) : (mulW a b).v = a.v * b.v + PP * -(a.a1 * b.a4 + a.a2 * b.a3 + a.a3 * b.a2 + a.a4 * b.a1 + 2251799813685248 * (a.a2 * b.a4 + a.a3 * b.a3 + a.a4 * b.a2) + 5070602400912917605986812821504 * (a.a3 * b.a4 + a.a4 * b.a3) + 11417981541647679048466287755595961091061972992 * (a.a4 * b.a4)) := by
  simp only [mulW, F5.v, PP]
  grind
theorem cg {x y q : Int} (h : x = y + PP * q) : x % PP = y % PP := by rw [h, Int.add_mul_emod_self_left]
theorem mulF_v (a b : F5) : (mulF a b).v % PP = a.v * b.v % PP := by
  rw [mulF, cg (carriedF_v _)]
  refine Eq.trans ?_ (cg (mulW_v a b))
  generalize mulW a b = W at *
  refine cg (q := -(W.a4 / 2251799813685248)) ?_
  simp only [F5.v, PP]
  omega
theorem addF_v (a b : F5) : (carriedF (addP a b)).v % PP = (a.v + b.v) % PP := by
  rw [cg (carriedF_v _)]
  congr 1
  simp only [addP, F5.v]; omega
theorem subF_v (a b : F5) : (carriedF (subP a b)).v % PP = (a.v - b.v) % PP := by
  rw [cg (carriedF_v _)]
  refine cg (q := 2) ?_
  simp only [subP, F5.v, PP]; omega
end Go.Proofs.Ytemllgnejllcpaa
