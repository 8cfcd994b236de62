/-
  Numbers of the model's unsigned kinds, in plain arithmetic. Nothing here speaks of a program.
-/
import Derived.Test.YtkaamnnjeandlaaDoorVcgE
set_option linter.unusedVariables false
set_option linter.unusedSimpArgs false
namespace Go.bM

theorem wrap_u64 (x:Int):IntKind.u64.wrap x=x%18446744073709551616:=by
 simp[IntKind.wrap,IntKind.bits,IntKind.signed]
theorem wrap_u32 (x:Int):IntKind.u32.wrap x=x%4294967296:=by
 simp[IntKind.wrap,IntKind.bits,IntKind.signed]
theorem wrap_u8 (x:Int):IntKind.u8.wrap x=x%256:=by
 simp[IntKind.wrap,IntKind.bits,IntKind.signed]
theorem wrap_i64 (x:Int) (h1: -9223372036854775808≤x) (h2:x < 9223372036854775808):IntKind.i64.wrap x=x:=by
 simp only[IntKind.wrap,IntKind.bits,IntKind.signed,Bool.true_and]
 split
 ·rename_i h;simp at h;omega
 ·rename_i h;simp at h;omega
theorem cI (x:Int) (h1:0≤x) (h2:x < 18446744073709551616):IntKind.u64.wrap x=x:=by rw[wrap_u64];omega
theorem Dl (x:Int) (h1:0≤x) (h2:x < 4294967296):IntKind.u32.wrap x=x:=by rw[wrap_u32];omega
theorem OI (k:IntKind) (x:Int) (n:Nat) (h:n≤k.bits):qS k x n=x / 2^n:=by
 simp only[qS,Int.toNat_natCast,Nat.min_eq_left h]
 rw[Int.fdiv_eq_ediv_of_nonneg _ (Int.le_of_lt (Int.pow_pos (by decide)))]
theorem HN (k:IntKind) (x:Int) (n:Nat) (h:n≤k.bits):xV k x n=k.wrap (x*2^n):=by
 simp only[xV,Int.toNat_natCast,Nat.min_eq_left h]
theorem Dm (k:IntKind) (x y:Nat) (hx:x < 2^k.bits) (hy:y < 2^k.bits):
  eK .and k x y=k.wrap ((x &&& y:Nat):Int)∧eK .or k x y=k.wrap ((x ||| y:Nat):Int)∧eK .xor k x y=k.wrap ((x ^^^ y:Nat):Int):=by
 refine ⟨?_, ?_, ?_⟩<;>simp only[eK,BitVec.ofInt_natCast,BitVec.toNat_and,BitVec.toNat_or,BitVec.toNat_xor,BitVec.toNat_ofNat]<;>
  rw[Nat.mod_eq_of_lt hx,Nat.mod_eq_of_lt hy]
theorem vy (x y:Nat) (hx:x < 18446744073709551616) (hy:y < 18446744073709551616):
  eK .and .u64 x y=((x &&& y:Nat):Int)∧eK .or .u64 x y=((x ||| y:Nat):Int)∧eK .xor .u64 x y=((x ^^^ y:Nat):Int):=by
 have h1:x &&& y < 2^64:=Nat.and_lt_two_pow x hy
 have h2:x ||| y < 2^64:=Nat.or_lt_two_pow hx hy
 have h3:x ^^^ y < 2^64:=Nat.xor_lt_two_pow hx hy
 obtain ⟨e1,e2,e3⟩:=Dm .u64 x y hx hy
 refine ⟨e1.trans ?_,e2.trans ?_,e3.trans ?_⟩<;>rw[wrap_u64]<;>omega
theorem LR (x:Int) (n:Nat) (h0:0≤x) (h1:x < 18446744073709551616) (hn:n < 64):eK .and .u64 x (2^n - 1)=x%2^n:=by
 obtain ⟨m,rfl⟩:=Int.eq_ofNat_of_zero_le h0
 have hp:0 < 2^n:=Nat.two_pow_pos n
 have hlt:2^n - 1 < 18446744073709551616:=by
  have:2^n < 2^64:=Nat.pow_lt_pow_right (by decide) hn
  omega
 have e:(2:Int)^n - 1=((2^n - 1:Nat):Int):=by
  have:(2:Int)^n=((2^n:Nat):Int):=by simp
  omega
 rw[e,(vy m (2^n - 1) (by omega) hlt).1,Nat.and_two_pow_sub_one_eq_mod]
 simp
theorem Rr (x y:Int) (n:Nat) (hn:n < 64) (h0:0≤x) (h1:x*2^n < 18446744073709551616) (h2:0≤y) (h3:y < 2^n):eK .or .u64 (x*2^n) y=x*2^n+y:=by
 obtain ⟨a,rfl⟩:=Int.eq_ofNat_of_zero_le h0
 obtain ⟨b,rfl⟩:=Int.eq_ofNat_of_zero_le h2
 have e:(2:Int)^n=((2^n:Nat):Int):=by simp
 rw[e]at h1 h3 ⊢
 have hb:b < 2^n:=by omega
 have e2:((a:Int)*((2^n:Nat):Int))=((a*2^n:Nat):Int):=by simp
 rw[e2]at h1 ⊢
 have hp:2^n < 2^64:=Nat.pow_lt_pow_right (by decide) hn
 by_cases ha:a=0
 ·subst ha
  simp only[Nat.zero_mul]at h1 ⊢
  rw[(vy 0 b (by decide) (by omega)).2.1];simp
 ·have:2^n≤a*2^n:=Nat.le_mul_of_pos_left _ (Nat.pos_of_ne_zero ha)
  rw[(vy (a*2^n) b (by omega) (by omega)).2.1]
  have:a*2^n ||| b=a*2^n+b:=by
   rw[← Nat.shiftLeft_eq,Nat.shiftLeft_add_eq_or_of_lt hb]
  rw[this];simp
end Go.bM
