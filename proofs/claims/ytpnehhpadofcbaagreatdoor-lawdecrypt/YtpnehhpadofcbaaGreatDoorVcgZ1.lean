/-
  The hash in plain arithmetic: words of 32 bits, the schedule of a block, the rounds, whole messages. Nothing here speaks of a program.
-/
import Derived.Test.YtpnehhpadofcbaaGreatDoorVcgK
namespace Go.bU
set_option linter.unusedSimpArgs false
set_option linter.unusedVariables false
theorem qF (z:Int):0≤IntKind.u32.wrap z∧IntKind.u32.wrap z < 4294967296:=by rw[wrap_u32];omega
theorem Te (k:IntKind) (x y:Int):aU .or k x y=aU .or k y x:=by simp only[aU];rw[BitVec.or_comm]
theorem Bj (x y:Nat) (hx:x < 4294967296) (hy:y < 4294967296):
  aU .and .u32 x y=((x &&& y:Nat):Int)∧aU .or .u32 x y=((x ||| y:Nat):Int)∧aU .xor .u32 x y=((x ^^^ y:Nat):Int):=by
 have h1:x &&& y < 2^32:=Nat.and_lt_two_pow x hy
 have h2:x ||| y < 2^32:=Nat.or_lt_two_pow hx hy
 have h3:x ^^^ y < 2^32:=Nat.xor_lt_two_pow hx hy
 obtain ⟨e1,e2,e3⟩:=vI .u32 x y hx hy
 refine ⟨e1.trans ?_,e2.trans ?_,e3.trans ?_⟩<;>rw[wrap_u32]<;>omega
theorem Tf (x y:Int) (h0:0≤x) (h1:x < 16777216) (h2:0≤y) (h3:y < 256):aU .or .u32 (gp .u32 x 8) y=x*256+y:=by
 have e:gp .u32 x 8=x*256:=by
  have:=iK .u32 x 8 (by decide)
  rw[show ((8:Nat):Int)=8 from rfl]at this
  rw[this,wrap_u32];omega
 rw[e]
 obtain ⟨a,rfl⟩:=Int.eq_ofNat_of_zero_le h0
 obtain ⟨b,rfl⟩:=Int.eq_ofNat_of_zero_le h2
 have e2:((a:Int)*256)=((a*256:Nat):Int):=by simp
 rw[e2,(Bj (a*256) b (by omega) (by omega)).2.1]
 have:a*256 ||| b=a*256+b:=by
  rw[show a*256=a <<< 8 by rw[Nat.shiftLeft_eq], ← Nat.shiftLeft_add_eq_or_of_lt (by omega)]
 rw[this];simp
theorem V3 (x:Int) (h0:0≤x) (h1:x < 4294967296):aU .xor .u32 4294967295 x=4294967295 - x:=by
 obtain ⟨a,rfl⟩:=Int.eq_ofNat_of_zero_le h0
 have:=(Bj 4294967295 a (by decide) (by omega)).2.2
 rw[show ((4294967295:Nat):Int)=4294967295 from rfl]at this
 rw[this]
 have e:(4294967295 ^^^ a:Nat)=4294967295 - a:=by
  have h:=BitVec.toNat_not (x:=BitVec.ofNat 32 a)
  have e2:(~~~ BitVec.ofNat 32 a)=BitVec.ofNat 32 4294967295 ^^^ BitVec.ofNat 32 a:=by
   rw[show BitVec.ofNat 32 4294967295=BitVec.allOnes 32 from rfl,BitVec.allOnes_xor]
  rw[e2,BitVec.toNat_xor,BitVec.toNat_ofNat,BitVec.toNat_ofNat,Nat.mod_eq_of_lt (a:=a) (by omega)]at h
  simpa using h
 rw[e];omega
def Tg (f:Nat→Int):Prop:= ∀ i,0≤f i∧f i < 4294967296
def xB (x n:Int):Int:=aU .or .u32 (cy .u32 x n) (gp .u32 x (32 - n))
def tw (f:Nat→Int) (t:Nat):Nat→Int
 | 0=>0
 | m+1=>tw f t m*256+f (4*t+m)
def Bk (f:Nat→Int) (t:Nat):Int:=tw f t 4
theorem V4 {f:Nat→Int} (hf:br f) (t:Nat): ∀ m,m≤3→0≤tw f t m∧tw f t m < 16777216:=fun m hm=>by
 have h0:=hf (4*t)
 have h1:=hf (4*t+1)
 have h2:=hf (4*t+2)
 have:=(show m=0∨m=1∨m=2∨m=3 by omega)
 rcases this with rfl | rfl | rfl | rfl<;>simp only[tw,Nat.add_zero]<;>omega
theorem QU {f:Nat→Int} (hf:br f) (t m:Nat) (hm:m≤3):aU .or .u32 (gp .u32 (tw f t m) 8) (IntKind.u32.wrap (f (4*t+m)))=tw f t (m+1):=by
 have h:=V4 hf t m hm
 have h1:=hf (4*t+m)
 rw[dt _ h1.1 (by omega),Tf _ _ h.1 h.2 h1.1 h1.2];rfl
theorem Ev {f g:Nat→Int} {t:Nat}: ∀ m,(∀ j,j < m→f (4*t+j)=g (4*t+j))→tw f t m=tw g t m
 | 0,_=>rfl
 | m+1,h=>by rw[tw,tw,Ev m (fun j hj=>h j (by omega)),h m (by omega)]
theorem QV {f:Nat→Int} (hf:br f) (t:Nat):IntKind.u32.wrap (IntKind.u32.wrap (IntKind.u32.wrap (gp .u32 (IntKind.u32.wrap (f (4*t))) 24+gp .u32 (IntKind.u32.wrap (f (4*t+1))) 16)+gp .u32 (IntKind.u32.wrap (f (4*t+2))) 8)+IntKind.u32.wrap (f (4*t+3)))=Bk f t:=by
 have h0:=hf (4*t)
 have h1:=hf (4*t+1)
 have h2:=hf (4*t+2)
 have h3:=hf (4*t+3)
 have V5: ∀ x:Int,gp .u32 x 24=IntKind.u32.wrap (x*16777216):=fun x=>iK .u32 x 24 (by decide)
 have Ti: ∀ x:Int,gp .u32 x 16=IntKind.u32.wrap (x*65536):=fun x=>iK .u32 x 16 (by decide)
 have s8: ∀ x:Int,gp .u32 x 8=IntKind.u32.wrap (x*256):=fun x=>iK .u32 x 8 (by decide)
 simp only[V5,Ti,s8,wrap_u32,Bk,tw,Nat.add_zero]
 omega
def Tj (W:Nat→Int) (t:Nat):Int:=
 IntKind.u32.wrap (IntKind.u32.wrap (IntKind.u32.wrap (aU .xor .u32 (aU .xor .u32 (xB (W (t - 2)) 17) (xB (W (t - 2)) 19)) (cy .u32 (W (t - 2)) 10)+W (t - 7))+
  aU .xor .u32 (aU .xor .u32 (xB (W (t - 15)) 7) (xB (W (t - 15)) 18)) (cy .u32 (W (t - 15)) 3))+W (t - 16))
def jC (f:Nat→Int):Nat→Nat→Int
 | 0=>fun _=>0
 | k+1=>upd (jC f k) k (if k < 16 then Bk f k else Tj (jC f k) k)
def vO (f:Nat→Int) (i:Nat):Int:=jC f 64 i
theorem Ew {f g:Nat→Int} (h: ∀ i,i < 64→f i=g i): ∀ k,jC f k=jC g k
 | 0=>rfl
 | k+1=>by
  rw[jC,jC,Ew h k]
  congr 1
  by_cases hk:k < 16
  ·rw[if_pos hk,if_pos hk];exact Ev 4 fun j hj=>h _ (by omega)
  ·rw[if_neg hk,if_neg hk]
theorem QW {f g:Nat→Int} (h: ∀ i,i < 64→f i=g i):vO f=vO g:=by funext i;simp only[vO,Ew h]
def t1W (r:Nat→Int) (k w:Int):Int:=
 IntKind.u32.wrap (IntKind.u32.wrap (IntKind.u32.wrap (IntKind.u32.wrap (r 7+aU .xor .u32 (aU .xor .u32 (xB (r 4) 6) (xB (r 4) 11)) (xB (r 4) 25))+
  aU .xor .u32 (aU .and .u32 (r 4) (r 5)) (aU .and .u32 (4294967295 - r 4) (r 6)))+k)+w)
def t2W (r:Nat→Int):Int:=
 IntKind.u32.wrap (aU .xor .u32 (aU .xor .u32 (xB (r 0) 2) (xB (r 0) 13)) (xB (r 0) 22)+aU .xor .u32 (aU .xor .u32 (aU .and .u32 (r 0) (r 1)) (aU .and .u32 (r 0) (r 2))) (aU .and .u32 (r 1) (r 2)))
def QX (r:Nat→Int) (k w:Int) (i:Nat):Int:=
 if i=0 then IntKind.u32.wrap (t1W r k w+t2W r) else if i=4 then IntKind.u32.wrap (r 3+t1W r k w) else r (i - 1)
theorem V6 {r:Nat→Int} (h:Tg r) (k w:Int):Tg (QX r k w):=fun i=>by
 simp only[QX];split
 ·exact qF _
 ·split
  ·exact qF _
  ·exact h _
def rounds (K v w:Nat→Int):Nat→Nat→Int
 | 0=>v
 | k+1=>QX (rounds K v w k) (K k) (w k)
theorem xC {K v w:Nat→Int} (h:Tg v): ∀ k,Tg (rounds K v w k)
 | 0=>h
 | k+1=>V6 (xC h k) _ _
def Bl (K v f:Nat→Int) (i:Nat):Int:=IntKind.u32.wrap (v i+rounds K v (vO f) 64 i)
theorem Tk {K v f:Nat→Int}:Tg (Bl K v f):=fun i=>qF _
theorem Bm {K v f g:Nat→Int} (h: ∀ i,i < 64→f i=g i):Bl K v f=Bl K v g:=by
 funext i;simp only[Bl,QW h]
def kd (K v f:Nat→Int):Nat→Nat→Int
 | 0=>v
 | k+1=>Bl K (kd K v f k) (fun i=>f (64*k+i))
theorem FP {K v f:Nat→Int} (h:Tg v): ∀ k,Tg (kd K v f k)
 | 0=>h
 | k+1=>Tk
theorem xD {K v f g:Nat→Int}: ∀ k,(∀ i,i < 64*k→f i=g i)→kd K v f k=kd K v g k
 | 0,_=>rfl
 | k+1,h=>by
  rw[kd,kd,xD k (fun i hi=>h i (by omega))]
  exact Bm fun i hi=>h _ (by omega)
theorem IP (K v f:Nat→Int) (a:Nat): ∀ b,kd K v f (a+b)=kd K (kd K v f a) (fun i=>f (64*a+i)) b
 | 0=>rfl
 | b+1=>by
  rw[← Nat.add_assoc,kd,kd,IP K v f a b]
  exact Bm fun i hi=>by rw[show 64*(a+b)+i=64*a+(64*b+i) by omega]
def blocks (n:Nat):Nat:=(n+8) / 64+1
def sc (n j:Nat):Int:=((n*8 / 2^(56 - 8*j)%256:Nat):Int)
def kE (f:Nat→Int) (n i:Nat):Int:=if i < n then f i else if i=n then 128 else if i < 64*blocks n - 8 then 0 else sc n (i - (64*blocks n - 8))
theorem QY {f g:Nat→Int} {n:Nat} (h: ∀ i,i < n→f i=g i):kE f n=kE g n:=by
 funext i;simp only[kE];split
 ·rename_i hi;exact h i hi
 ·rfl
def FQ (v:Nat→Int) (i:Nat):Int:=IntKind.u8.wrap (cy .u32 (v (i / 4)) (24 - 8*((i%4:Nat):Int)))
theorem Tl (v:Nat→Int):br (FQ v):=fun i=>by simp only[FQ,wrap_u8];omega
def ke (K V f:Nat→Int) (n:Nat):Nat→Int:=FQ (kd K V (kE f n) (blocks n))
theorem vT (K V f:Nat→Int) (n:Nat):br (ke K V f n):=Tl _
theorem Ex {K V f g:Nat→Int} {n:Nat} (h: ∀ i,i < n→f i=g i):ke K V f n=ke K V g n:=by simp only[ke,QY h]
theorem IQ {f:Nat→Int} (hf:br f) (n:Nat):br (kE f n):=fun i=>by
 simp only[kE];split
 ·exact hf i
 ·split
  ·omega
  ·split
   ·omega
   ·simp only[sc];omega
def iw (K V k:Nat→Int) (kn:Nat) (i:Nat):Int:=if kn > 64 then (if i < 32 then ke K V k kn i else 0) else (if i < kn then k i else 0)
def fG (K V k:Nat→Int) (kn:Nat) (x:Int) (i:Nat):Int:=aU .xor .u8 (iw K V k kn i) x
def gx (K V k:Nat→Int) (kn:Nat) (f:Nat→Int) (n:Nat):Nat→Int:=
 ke K V (aP 64 (fG K V k kn 92) (ke K V (aP 64 (fG K V k kn 54) f) (64+n))) 96
theorem jj (K V k:Nat→Int) (kn:Nat) (f:Nat→Int) (n:Nat):br (gx K V k kn f n):=vT _ _ _ _
theorem L5 {n m:Nat} {f f' g g':Nat→Int} (h: ∀ i,i < n→f i=f' i) (h': ∀ i,i < m→g i=g' i): ∀ i,i < n+m→aP n f g i=aP n f' g' i:=fun i hi=>by
 simp only[aP];split
 ·exact h i ‹_›
 ·exact h' _ (by omega)
theorem fH {n:Nat} {f g:Nat→Int} (hf:br f) (hg:br g):br (aP n f g):=fun i=>by
 simp only[aP];split
 ·exact hf i
 ·exact hg _
theorem QZ {K V k k':Nat→Int} {kn:Nat} (h: ∀ i,i < kn→k i=k' i):iw K V k kn=iw K V k' kn:=by
 funext i;simp only[iw,Ex h]
 split
 ·rfl
 ·split
  ·exact h i ‹_›
  ·rfl
theorem kM {K V k k' f f':Nat→Int} {kn n:Nat} (h: ∀ i,i < kn→k i=k' i) (h': ∀ i,i < n→f i=f' i):gx K V k kn f n=gx K V k' kn f' n:=by
 have e: ∀ x,fG K V k kn x=fG K V k' kn x:=fun x=>by funext i;simp only[fG,QZ h]
 simp only[gx,e]
 rw[Ex (L5 (m:=n) (f:=fG K V k' kn 54) (fun _ _=>rfl) h')]
theorem vU (K V k:Nat→Int) (kn:Nat) (x:Int):br (fG K V k kn x):=fun i=>iL _ _ _
def sd (K V p info:Nat→Int) (m:Nat):Nat→Nat→Int
 | 0=>fun _=>0
 | c+1=>gx K V p 32 (if c=0 then aP m info (fun _=>1) else aP 32 (sd K V p info m c) (aP m info (fun _=>IntKind.u8.wrap ((c+1:Nat):Int)))) ((if c=0 then 0 else 32)+(m+1))
theorem vV (K V p info:Nat→Int) (m:Nat): ∀ c,br (sd K V p info m c)
 | 0=>fun i=>⟨Int.le_refl 0,by show (0:Int) < 256;decide⟩
 | c+1=>jj _ _ _ _ _ _
def jk (K V p info:Nat→Int) (m:Nat) (i:Nat):Int:=sd K V p info m (i / 32+1) (i%32)
def kW (i:Nat):Int:=[1116352408,1899447441,3049323471,3921009573,961987163,1508970993,2453635748,2870763221,3624381080,310598401,607225278,1426881987,1925078388,2162078206,2614888103,3248222580,3835390401,4022224774,264347078,604807628,770255983,1249150122,1555081692,1996064986,2554220882,2821834349,2952996808,3210313671,3336571891,3584528711,113926993,338241895,666307205,773529912,1294757372,1396182291,1695183700,1986661051,2177026350,2456956037,2730485921,2820302411,3259730800,3345764771,3516065817,3600352804,4094571909,275423344,430227734,506948616,659060556,883997877,958139571,1322822218,1537002063,1747873779,1955562222,2024104815,2227730452,2361852424,2428436474,2756734187,3204031479,3329325298].getD i 0
def cj (i:Nat):Int:=[1779033703,3144134277,1013904242,2773480762,1359893119,2600822924,528734635,1541459225].getD i 0
theorem L6:Tg cj:=fun i=>by
 rcases Nat.lt_or_ge i 8 with h | h
 ·have:((List.range 8).all fun n=>decide (0≤cj n)&&decide (cj n < 4294967296))=true:=by decide
  have:=List.all_eq_true.1 this i (List.mem_range.2 h)
  simpa using this
 ·have:cj i=0:=by simp only[cj];rw[List.getD_eq_getElem?_getD,List.getElem?_eq_none (by simpa using h)];rfl
  omega
end Go.bU
