/-
  The hash in plain arithmetic: words of 32 bits, the schedule of a block, the rounds, whole messages. Nothing here speaks of a program.
-/
import Derived.Test.YtbipdofobgabhaaGreatDoorVcgK
namespace Go.bA
set_option linter.unusedSimpArgs false
set_option linter.unusedVariables false
theorem oV (z:Int):0≤IntKind.u32.wrap z∧IntKind.u32.wrap z < 4294967296:=by rw[wrap_u32];omega
theorem QA (k:IntKind) (x y:Int):aV .or k x y=aV .or k y x:=by simp only[aV];rw[BitVec.or_comm]
theorem yA (x y:Nat) (hx:x < 4294967296) (hy:y < 4294967296):
  aV .and .u32 x y=((x &&& y:Nat):Int)∧aV .or .u32 x y=((x ||| y:Nat):Int)∧aV .xor .u32 x y=((x ^^^ y:Nat):Int):=by
 have h1:x &&& y < 2^32:=Nat.and_lt_two_pow x hy
 have h2:x ||| y < 2^32:=Nat.or_lt_two_pow hx hy
 have h3:x ^^^ y < 2^32:=Nat.xor_lt_two_pow hx hy
 obtain ⟨e1,e2,e3⟩:=yu .u32 x y hx hy
 refine ⟨e1.trans ?_,e2.trans ?_,e3.trans ?_⟩<;>rw[wrap_u32]<;>omega
theorem QB (x y:Int) (h0:0≤x) (h1:x < 16777216) (h2:0≤y) (h3:y < 256):aV .or .u32 (jx .u32 x 8) y=x*256+y:=by
 have e:jx .u32 x 8=x*256:=by
  have:=pO .u32 x 8 (by decide)
  rw[show ((8:Nat):Int)=8 from rfl]at this
  rw[this,wrap_u32];omega
 rw[e]
 obtain ⟨a,rfl⟩:=Int.eq_ofNat_of_zero_le h0
 obtain ⟨b,rfl⟩:=Int.eq_ofNat_of_zero_le h2
 have e2:((a:Int)*256)=((a*256:Nat):Int):=by simp
 rw[e2,(yA (a*256) b (by omega) (by omega)).2.1]
 have:a*256 ||| b=a*256+b:=by
  rw[show a*256=a <<< 8 by rw[Nat.shiftLeft_eq], ← Nat.shiftLeft_add_eq_or_of_lt (by omega)]
 rw[this];simp
theorem Uq (x:Int) (h0:0≤x) (h1:x < 4294967296):aV .xor .u32 4294967295 x=4294967295 - x:=by
 obtain ⟨a,rfl⟩:=Int.eq_ofNat_of_zero_le h0
 have:=(yA 4294967295 a (by decide) (by omega)).2.2
 rw[show ((4294967295:Nat):Int)=4294967295 from rfl]at this
 rw[this]
 have e:(4294967295 ^^^ a:Nat)=4294967295 - a:=by
  have h:=BitVec.toNat_not (x:=BitVec.ofNat 32 a)
  have e2:(~~~ BitVec.ofNat 32 a)=BitVec.ofNat 32 4294967295 ^^^ BitVec.ofNat 32 a:=by
   rw[show BitVec.ofNat 32 4294967295=BitVec.allOnes 32 from rfl,BitVec.allOnes_xor]
  rw[e2,BitVec.toNat_xor,BitVec.toNat_ofNat,BitVec.toNat_ofNat,Nat.mod_eq_of_lt (a:=a) (by omega)]at h
  simpa using h
 rw[e];omega
def TT (f:Nat→Int):Prop:= ∀ i,0≤f i∧f i < 4294967296
def wO (x n:Int):Int:=aV .or .u32 (ft .u32 x n) (jx .u32 x (32 - n))
def tG (f:Nat→Int) (t:Nat):Nat→Int
 | 0=>0
 | m+1=>tG f t m*256+f (4*t+m)
def QC (f:Nat→Int) (t:Nat):Int:=tG f t 4
theorem Ur {f:Nat→Int} (hf:bg f) (t:Nat): ∀ m,m≤3→0≤tG f t m∧tG f t m < 16777216:=fun m hm=>by
 have h0:=hf (4*t)
 have h1:=hf (4*t+1)
 have h2:=hf (4*t+2)
 have:=(show m=0∨m=1∨m=2∨m=3 by omega)
 rcases this with rfl | rfl | rfl | rfl<;>simp only[tG,Nat.add_zero]<;>omega
theorem NZ {f:Nat→Int} (hf:bg f) (t m:Nat) (hm:m≤3):aV .or .u32 (jx .u32 (tG f t m) 8) (IntKind.u32.wrap (f (4*t+m)))=tG f t (m+1):=by
 have h:=Ur hf t m hm
 have h1:=hf (4*t+m)
 rw[iJ _ h1.1 (by omega),QB _ _ h.1 h.2 h1.1 h1.2];rfl
theorem Bu {f g:Nat→Int} {t:Nat}: ∀ m,(∀ j,j < m→f (4*t+j)=g (4*t+j))→tG f t m=tG g t m
 | 0,_=>rfl
 | m+1,h=>by rw[tG,tG,Bu m (fun j hj=>h j (by omega)),h m (by omega)]
def Wi (W:Nat→Int) (t:Nat):Int:=
 IntKind.u32.wrap (IntKind.u32.wrap (IntKind.u32.wrap (aV .xor .u32 (aV .xor .u32 (wO (W (t - 2)) 17) (wO (W (t - 2)) 19)) (ft .u32 (W (t - 2)) 10)+W (t - 7))+
  aV .xor .u32 (aV .xor .u32 (wO (W (t - 15)) 7) (wO (W (t - 15)) 18)) (ft .u32 (W (t - 15)) 3))+W (t - 16))
def oW (f:Nat→Int):Nat→Nat→Int
 | 0=>fun _=>0
 | k+1=>upd (oW f k) k (if k < 16 then QC f k else Wi (oW f k) k)
def N0 (f:Nat→Int) (i:Nat):Int:=oW f 64 i
theorem Bv {f g:Nat→Int} (h: ∀ i,i < 64→f i=g i): ∀ k,oW f k=oW g k
 | 0=>rfl
 | k+1=>by
  rw[oW,oW,Bv h k]
  congr 1
  by_cases hk:k < 16
  ·rw[if_pos hk,if_pos hk];exact Bu 4 fun j hj=>h _ (by omega)
  ·rw[if_neg hk,if_neg hk]
theorem N1 {f g:Nat→Int} (h: ∀ i,i < 64→f i=g i):N0 f=N0 g:=by funext i;simp only[N0,Bv h]
def t1W (r:Nat→Int) (k w:Int):Int:=
 IntKind.u32.wrap (IntKind.u32.wrap (IntKind.u32.wrap (IntKind.u32.wrap (r 7+aV .xor .u32 (aV .xor .u32 (wO (r 4) 6) (wO (r 4) 11)) (wO (r 4) 25))+
  aV .xor .u32 (aV .and .u32 (r 4) (r 5)) (aV .and .u32 (4294967295 - r 4) (r 6)))+k)+w)
def t2W (r:Nat→Int):Int:=
 IntKind.u32.wrap (aV .xor .u32 (aV .xor .u32 (wO (r 0) 2) (wO (r 0) 13)) (wO (r 0) 22)+aV .xor .u32 (aV .xor .u32 (aV .and .u32 (r 0) (r 1)) (aV .and .u32 (r 0) (r 2))) (aV .and .u32 (r 1) (r 2)))
def Us (r:Nat→Int) (k w:Int) (i:Nat):Int:=
 if i=0 then IntKind.u32.wrap (t1W r k w+t2W r) else if i=4 then IntKind.u32.wrap (r 3+t1W r k w) else r (i - 1)
theorem Ut {r:Nat→Int} (h:TT r) (k w:Int):TT (Us r k w):=fun i=>by
 simp only[Us];split
 ·exact oV _
 ·split
  ·exact oV _
  ·exact h _
def rounds (K v w:Nat→Int):Nat→Nat→Int
 | 0=>v
 | k+1=>Us (rounds K v w k) (K k) (w k)
theorem Bw {K v w:Nat→Int} (h:TT v): ∀ k,TT (rounds K v w k)
 | 0=>h
 | k+1=>Ut (Bw h k) _ _
def FU (K v f:Nat→Int) (i:Nat):Int:=IntKind.u32.wrap (v i+rounds K v (N0 f) 64 i)
theorem QD {K v f:Nat→Int}:TT (FU K v f):=fun i=>oV _
theorem yB {K v f g:Nat→Int} (h: ∀ i,i < 64→f i=g i):FU K v f=FU K v g:=by
 funext i;simp only[FU,N1 h]
def lj (K v f:Nat→Int):Nat→Nat→Int
 | 0=>v
 | k+1=>FU K (lj K v f k) (fun i=>f (64*k+i))
theorem L5 {K v f:Nat→Int} (h:TT v): ∀ k,TT (lj K v f k)
 | 0=>h
 | k+1=>QD
theorem uG {K v f g:Nat→Int}: ∀ k,(∀ i,i < 64*k→f i=g i)→lj K v f k=lj K v g k
 | 0,_=>rfl
 | k+1,h=>by
  rw[lj,lj,uG k (fun i hi=>h i (by omega))]
  exact yB fun i hi=>h _ (by omega)
theorem FV (K v f:Nat→Int) (a:Nat): ∀ b,lj K v f (a+b)=lj K (lj K v f a) (fun i=>f (64*a+i)) b
 | 0=>rfl
 | b+1=>by
  rw[← Nat.add_assoc,lj,lj,FV K v f a b]
  exact yB fun i hi=>by rw[show 64*(a+b)+i=64*a+(64*b+i) by omega]
def blocks (n:Nat):Nat:=(n+8) / 64+1
def QE (n j:Nat):Int:=((n*8 / 2^(56 - 8*j)%256:Nat):Int)
def oX (f:Nat→Int) (n i:Nat):Int:=if i < n then f i else if i=n then 128 else if i < 64*blocks n - 8 then 0 else QE n (i - (64*blocks n - 8))
theorem N2 {f g:Nat→Int} {n:Nat} (h: ∀ i,i < n→f i=g i):oX f n=oX g n:=by
 funext i;simp only[oX];split
 ·rename_i hi;exact h i hi
 ·rfl
def CS (v:Nat→Int) (i:Nat):Int:=IntKind.u8.wrap (ft .u32 (v (i / 4)) (24 - 8*((i%4:Nat):Int)))
theorem QF (v:Nat→Int):bg (CS v):=fun i=>by simp only[CS,wrap_u8];omega
def rl (K V f:Nat→Int) (n:Nat):Nat→Int:=CS (lj K V (oX f n) (blocks n))
theorem FW (K V f:Nat→Int) (n:Nat):bg (rl K V f n):=QF _
theorem Bx {K V f g:Nat→Int} {n:Nat} (h: ∀ i,i < n→f i=g i):rl K V f n=rl K V g n:=by simp only[rl,N2 h]
theorem QG {f:Nat→Int} (hf:bg f) (n:Nat):bg (oX f n):=fun i=>by
 simp only[oX];split
 ·exact hf i
 ·split
  ·omega
  ·split
   ·omega
   ·simp only[QE];omega
def gu (K V k:Nat→Int) (kn:Nat) (i:Nat):Int:=if kn > 64 then (if i < 32 then rl K V k kn i else 0) else (if i < kn then k i else 0)
def nz (K V k:Nat→Int) (kn:Nat) (x:Int) (i:Nat):Int:=aV .xor .u8 (gu K V k kn i) x
def jy (K V k:Nat→Int) (kn:Nat) (f:Nat→Int) (n:Nat):Nat→Int:=
 rl K V (bh 64 (nz K V k kn 92) (rl K V (bh 64 (nz K V k kn 54) f) (64+n))) 96
theorem il (K V k:Nat→Int) (kn:Nat) (f:Nat→Int) (n:Nat):bg (jy K V k kn f n):=FW _ _ _ _
theorem yC {n m:Nat} {f f' g g':Nat→Int} (h: ∀ i,i < n→f i=f' i) (h': ∀ i,i < m→g i=g' i): ∀ i,i < n+m→bh n f g i=bh n f' g' i:=fun i hi=>by
 simp only[bh];split
 ·exact h i ‹_›
 ·exact h' _ (by omega)
theorem uH {n:Nat} {f g:Nat→Int} (hf:bg f) (hg:bg g):bg (bh n f g):=fun i=>by
 simp only[bh];split
 ·exact hf i
 ·exact hg _
theorem N3 {K V k k':Nat→Int} {kn:Nat} (h: ∀ i,i < kn→k i=k' i):gu K V k kn=gu K V k' kn:=by
 funext i;simp only[gu,Bx h]
 split
 ·rfl
 ·split
  ·exact h i ‹_›
  ·rfl
theorem kT {K V k k' f f':Nat→Int} {kn n:Nat} (h: ∀ i,i < kn→k i=k' i) (h': ∀ i,i < n→f i=f' i):jy K V k kn f n=jy K V k' kn f' n:=by
 have e: ∀ x,nz K V k kn x=nz K V k' kn x:=fun x=>by funext i;simp only[nz,N3 h]
 simp only[jy,e]
 rw[Bx (yC (m:=n) (f:=nz K V k' kn 54) (fun _ _=>rfl) h')]
theorem FX (K V k:Nat→Int) (kn:Nat) (x:Int):bg (nz K V k kn x):=fun i=>jI _ _ _
def Jc (K V p info:Nat→Int) (m:Nat):Nat→Nat→Int
 | 0=>fun _=>0
 | c+1=>jy K V p 32 (if c=0 then bh m info (fun _=>1) else bh 32 (Jc K V p info m c) (bh m info (fun _=>IntKind.u8.wrap ((c+1:Nat):Int)))) ((if c=0 then 0 else 32)+(m+1))
theorem CT (K V p info:Nat→Int) (m:Nat): ∀ c,bg (Jc K V p info m c)
 | 0=>fun i=>⟨Int.le_refl 0,by show (0:Int) < 256;decide⟩
 | c+1=>il _ _ _ _ _ _
def rm (K V p info:Nat→Int) (m:Nat) (i:Nat):Int:=Jc K V p info m (i / 32+1) (i%32)
def kW (i:Nat):Int:=[1116352408,1899447441,3049323471,3921009573,961987163,1508970993,2453635748,2870763221,3624381080,310598401,607225278,1426881987,1925078388,2162078206,2614888103,3248222580,3835390401,4022224774,264347078,604807628,770255983,1249150122,1555081692,1996064986,2554220882,2821834349,2952996808,3210313671,3336571891,3584528711,113926993,338241895,666307205,773529912,1294757372,1396182291,1695183700,1986661051,2177026350,2456956037,2730485921,2820302411,3259730800,3345764771,3516065817,3600352804,4094571909,275423344,430227734,506948616,659060556,883997877,958139571,1322822218,1537002063,1747873779,1955562222,2024104815,2227730452,2361852424,2428436474,2756734187,3204031479,3329325298].getD i 0
def fD (i:Nat):Int:=[1779033703,3144134277,1013904242,2773480762,1359893119,2600822924,528734635,1541459225].getD i 0
theorem QH:TT fD:=fun i=>by
 rcases Nat.lt_or_ge i 8 with h | h
 ·have:((List.range 8).all fun n=>decide (0≤fD n)&&decide (fD n < 4294967296))=true:=by decide
  have:=List.all_eq_true.1 this i (List.mem_range.2 h)
  simpa using this
 ·have:fD i=0:=by simp only[fD];rw[List.getD_eq_getElem?_getD,List.getElem?_eq_none (by simpa using h)];rfl
  omega
end Go.bA
