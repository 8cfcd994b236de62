/-
  Numbers of the model's unsigned kinds, in plain arithmetic. Nothing here speaks of a program.
-/
import Derived.Test.YtbipdofobgabhaaGreatDoorVcgE
set_option linter.unusedVariables false
set_option linter.unusedSimpArgs false
namespace Go.bA
theorem wrap_u64 (x:Int):IntKind.u64.wrap x=x%18446744073709551616:=by
 simp[IntKind.wrap,IntKind.bits,IntKind.signed]
theorem wrap_u32 (x:Int):IntKind.u32.wrap x=x%4294967296:=by
 simp[IntKind.wrap,IntKind.bits,IntKind.signed]
theorem wrap_u8 (x:Int):IntKind.u8.wrap x=x%256:=by
 simp[IntKind.wrap,IntKind.bits,IntKind.signed]
theorem wrap_i64 (x:Int) (h1: -9223372036854775808≤x) (h2:x < 9223372036854775808):IntKind.i64.wrap x=x:=by
 simp only[IntKind.wrap,IntKind.bits,IntKind.signed,Bool.true_and]
 split
 ·rename_i h;simp at h;omega
 ·rename_i h;simp at h;omega
theorem aC (x:Int) (h1:0≤x) (h2:x < 18446744073709551616):IntKind.u64.wrap x=x:=by rw[wrap_u64];omega
theorem iJ (x:Int) (h1:0≤x) (h2:x < 4294967296):IntKind.u32.wrap x=x:=by rw[wrap_u32];omega
theorem yr (x:Int) (h1:0≤x) (h2:x < 256):IntKind.u8.wrap x=x:=by rw[wrap_u8];omega
theorem tB (k:IntKind) (x:Int) (n:Nat) (h:n≤k.bits):ft k x n=x / 2^n:=by
 simp only[ft,Int.toNat_natCast,Nat.min_eq_left h]
 rw[Int.fdiv_eq_ediv_of_nonneg _ (Int.le_of_lt (Int.pow_pos (by decide)))]
theorem pO (k:IntKind) (x:Int) (n:Nat) (h:n≤k.bits):jx k x n=k.wrap (x*2^n):=by
 simp only[jx,Int.toNat_natCast,Nat.min_eq_left h]
theorem oy (x:Int):ft .u64 x 51=x / 2251799813685248:=tB .u64 x 51 (by decide)
theorem Z5 (x:Int):jx .u64 x 13=x*8192%18446744073709551616:=(pO .u64 x 13 (by decide)).trans (wrap_u64 _)
theorem FI (x:Int):ft .u64 x 32=x / 4294967296:=tB .u64 x 32 (by decide)
theorem yu (k:IntKind) (x y:Nat) (hx:x < 2^k.bits) (hy:y < 2^k.bits):
  aV .and k x y=k.wrap ((x &&& y:Nat):Int)∧aV .or k x y=k.wrap ((x ||| y:Nat):Int)∧aV .xor k x y=k.wrap ((x ^^^ y:Nat):Int):=by
 refine ⟨?_, ?_, ?_⟩<;>simp only[aV,BitVec.ofInt_natCast,BitVec.toNat_and,BitVec.toNat_or,BitVec.toNat_xor,BitVec.toNat_ofNat]<;>
  rw[Nat.mod_eq_of_lt hx,Nat.mod_eq_of_lt hy]
theorem ga (x y:Nat) (hx:x < 18446744073709551616) (hy:y < 18446744073709551616):
  aV .and .u64 x y=((x &&& y:Nat):Int)∧aV .or .u64 x y=((x ||| y:Nat):Int)∧aV .xor .u64 x y=((x ^^^ y:Nat):Int):=by
 have h1:x &&& y < 2^64:=Nat.and_lt_two_pow x hy
 have h2:x ||| y < 2^64:=Nat.or_lt_two_pow hx hy
 have h3:x ^^^ y < 2^64:=Nat.xor_lt_two_pow hx hy
 obtain ⟨e1,e2,e3⟩:=yu .u64 x y hx hy
 refine ⟨e1.trans ?_,e2.trans ?_,e3.trans ?_⟩<;>rw[wrap_u64]<;>omega
theorem Um (x y:Nat) (hx:x < 256) (hy:y < 256):
  aV .and .u8 x y=((x &&& y:Nat):Int)∧aV .or .u8 x y=((x ||| y:Nat):Int)∧aV .xor .u8 x y=((x ^^^ y:Nat):Int):=by
 have h1:x &&& y < 2^8:=Nat.and_lt_two_pow x hy
 have h2:x ||| y < 2^8:=Nat.or_lt_two_pow hx hy
 have h3:x ^^^ y < 2^8:=Nat.xor_lt_two_pow hx hy
 obtain ⟨e1,e2,e3⟩:=yu .u8 x y hx hy
 refine ⟨e1.trans ?_,e2.trans ?_,e3.trans ?_⟩<;>rw[wrap_u8]<;>omega
theorem tC (x:Int) (n:Nat) (h0:0≤x) (h1:x < 18446744073709551616) (hn:n < 64):aV .and .u64 x (2^n - 1)=x%2^n:=by
 obtain ⟨m,rfl⟩:=Int.eq_ofNat_of_zero_le h0
 have hp:0 < 2^n:=Nat.two_pow_pos n
 have hlt:2^n - 1 < 18446744073709551616:=by
  have:2^n < 2^64:=Nat.pow_lt_pow_right (by decide) hn
  omega
 have e:(2:Int)^n - 1=((2^n - 1:Nat):Int):=by
  have:(2:Int)^n=((2^n:Nat):Int):=by simp
  omega
 rw[e,(ga m (2^n - 1) (by omega) hlt).1,Nat.and_two_pow_sub_one_eq_mod]
 simp
theorem iK (x:Int) (h0:0≤x) (h1:x < 18446744073709551616):aV .and .u64 x 2251799813685247=x%2251799813685248:=
 tC x 51 h0 h1 (by decide)
theorem Qw (x:Int) (h0:0≤x) (h1:x < 18446744073709551616):aV .and .u64 x 4294967295=x%4294967296:=
 tC x 32 h0 h1 (by decide)
theorem Qx (x y:Int) (n:Nat) (hn:n < 64) (h0:0≤x) (h1:x*2^n < 18446744073709551616) (h2:0≤y) (h3:y < 2^n):aV .or .u64 (x*2^n) y=x*2^n+y:=by
 obtain ⟨a,rfl⟩:=Int.eq_ofNat_of_zero_le h0
 obtain ⟨b,rfl⟩:=Int.eq_ofNat_of_zero_le h2
 have e:(2:Int)^n=((2^n:Nat):Int):=by simp
 rw[e]at h1 h3 ⊢
 have hb:b < 2^n:=by omega
 have e2:((a:Int)*((2^n:Nat):Int))=((a*2^n:Nat):Int):=by simp
 rw[e2]at h1 ⊢
 have hp:2^n < 2^64:=Nat.pow_lt_pow_right (by decide) hn
 by_cases ha:a=0
 ·subst ha
  simp only[Nat.zero_mul]at h1 ⊢
  rw[(ga 0 b (by decide) (by omega)).2.1];simp
 ·have:2^n≤a*2^n:=Nat.le_mul_of_pos_left _ (Nat.pos_of_ne_zero ha)
  rw[(ga (a*2^n) b (by omega) (by omega)).2.1]
  have:a*2^n ||| b=a*2^n+b:=by
   rw[← Nat.shiftLeft_eq,Nat.shiftLeft_add_eq_or_of_lt hb]
  rw[this];simp
theorem qZ {a b m n:Int} (ha:0≤a) (ha':a≤m) (hb:0≤b) (hb':b≤n):0≤a*b∧a*b≤m*n:=
 ⟨Int.mul_nonneg ha hb,Int.mul_le_mul ha' hb' hb (Int.le_trans ha ha')⟩
theorem I4 (x y:Int) (hx:0≤x) (hx':x < 18446744073709551616) (hy:0≤y) (hy':y < 18446744073709551616):
  IntKind.u64.wrap (IntKind.u64.wrap (IntKind.u64.wrap (ft .u64 x 32*ft .u64 y 32)+
    ft .u64 (IntKind.u64.wrap (IntKind.u64.wrap (ft .u64 x 32*aV .and .u64 y 4294967295)+
     ft .u64 (IntKind.u64.wrap (aV .and .u64 x 4294967295*aV .and .u64 y 4294967295)) 32)) 32)+
   ft .u64 (IntKind.u64.wrap (aV .and .u64 (IntKind.u64.wrap (IntKind.u64.wrap (ft .u64 x 32*aV .and .u64 y 4294967295)+
     ft .u64 (IntKind.u64.wrap (aV .and .u64 x 4294967295*aV .and .u64 y 4294967295)) 32)) 4294967295+
    IntKind.u64.wrap (aV .and .u64 x 4294967295*ft .u64 y 32))) 32)=x*y / 18446744073709551616:=by
 rw[FI x,FI y,Qw x hx hx',Qw y hy hy']
 have ex:x=(x / 4294967296)*4294967296+x%4294967296:=by omega
 have ey:y=(y / 4294967296)*4294967296+y%4294967296:=by omega
 generalize hx1:x / 4294967296=x1 at*
 generalize hx0:x%4294967296=x0 at*
 generalize hy1:y / 4294967296=y1 at*
 generalize hy0:y%4294967296=y0 at*
 have b1:0≤x1∧x1≤4294967295:=by omega
 have b2:0≤x0∧x0≤4294967295:=by omega
 have b3:0≤y1∧y1≤4294967295:=by omega
 have b4:0≤y0∧y0≤4294967295:=by omega
 have XB:=qZ b1.1 b1.2 b3.1 b3.2
 have XC:=qZ b1.1 b1.2 b4.1 b4.2
 have XD:=qZ b2.1 b2.2 b3.1 b3.2
 have XE:=qZ b2.1 b2.2 b4.1 b4.2
 have exy:x*y=(x1*y1)*18446744073709551616+(x1*y0+x0*y1)*4294967296+x0*y0:=by
  rw[ex,ey];simp only[Int.add_mul,Int.mul_add]
  have e1:x1*4294967296*(y1*4294967296)=(x1*y1)*18446744073709551616:=by
   rw[Int.mul_assoc,Int.mul_left_comm 4294967296 y1, ← Int.mul_assoc];rfl
  have e2:x1*4294967296*y0=(x1*y0)*4294967296:=by rw[Int.mul_assoc,Int.mul_comm 4294967296 y0, ← Int.mul_assoc]
  have e3:x0*(y1*4294967296)=(x0*y1)*4294967296:=by rw[← Int.mul_assoc]
  rw[e1,e2,e3];omega
 rw[exy]
 generalize x1*y1=a at*
 generalize x1*y0=b at*
 generalize x0*y1=c at*
 generalize x0*y0=d at*
 rw[aC a (by omega) (by omega),aC b (by omega) (by omega),aC c (by omega) (by omega),aC d (by omega) (by omega),FI d]
 rw[aC (b+d / 4294967296) (by omega) (by omega),FI (b+d / 4294967296),Qw (b+d / 4294967296) (by omega) (by omega)]
 rw[aC ((b+d / 4294967296)%4294967296+c) (by omega) (by omega),FI]
 rw[aC (a+(b+d / 4294967296) / 4294967296) (by omega) (by omega)]
 rw[aC _ (by omega) (by omega)]
 omega
end Go.bA
