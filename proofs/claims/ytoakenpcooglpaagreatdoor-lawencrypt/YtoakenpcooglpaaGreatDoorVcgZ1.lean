/-
  The hash in plain arithmetic: words of 32 bits, the schedule of a block, the rounds, whole messages. Nothing here speaks of a program.
-/
import Derived.Test.YtoakenpcooglpaaGreatDoorVcgK
set_option linter.unusedVariables false
set_option linter.unusedSimpArgs false
namespace Go.cA
theorem nu (z:Int):0≤IntKind.u32.wrap z∧IntKind.u32.wrap z < 4294967296:=by rw[wrap_u32];omega
theorem Xr (k:IntKind) (x y:Int):aS .or k x y=aS .or k y x:=by simp only[aS];rw[BitVec.or_comm]
theorem I4 (x y:Nat) (hx:x < 4294967296) (hy:y < 4294967296):
  aS .and .u32 x y=((x &&& y:Nat):Int)∧aS .or .u32 x y=((x ||| y:Nat):Int)∧aS .xor .u32 x y=((x ^^^ y:Nat):Int):=by
 have h1:x &&& y < 2^32:=Nat.and_lt_two_pow x hy
 have h2:x ||| y < 2^32:=Nat.or_lt_two_pow hx hy
 have h3:x ^^^ y < 2^32:=Nat.xor_lt_two_pow hx hy
 obtain ⟨e1,e2,e3⟩:=rK .u32 x y hx hy
 refine ⟨e1.trans ?_,e2.trans ?_,e3.trans ?_⟩<;>rw[wrap_u32]<;>omega
theorem Xt (x y:Int) (h0:0≤x) (h1:x < 16777216) (h2:0≤y) (h3:y < 256):aS .or .u32 (gT .u32 x 8) y=x*256+y:=by
 have e:gT .u32 x 8=x*256:=by
  have:=lY .u32 x 8 (by decide)
  rw[show ((8:Nat):Int)=8 from rfl]at this
  rw[this,wrap_u32];omega
 rw[e]
 obtain ⟨a,rfl⟩:=Int.eq_ofNat_of_zero_le h0
 obtain ⟨b,rfl⟩:=Int.eq_ofNat_of_zero_le h2
 have e2:((a:Int)*256)=((a*256:Nat):Int):=by simp
 rw[e2,(I4 (a*256) b (by omega) (by omega)).2.1]
 have:a*256 ||| b=a*256+b:=by
  rw[show a*256=a <<< 8 by rw[Nat.shiftLeft_eq], ← Nat.shiftLeft_add_eq_or_of_lt (by omega)]
 rw[this];simp
theorem abv (x:Int) (h0:0≤x) (h1:x < 4294967296):aS .xor .u32 4294967295 x=4294967295 - x:=by
 obtain ⟨a,rfl⟩:=Int.eq_ofNat_of_zero_le h0
 have:=(I4 4294967295 a (by decide) (by omega)).2.2
 rw[show ((4294967295:Nat):Int)=4294967295 from rfl]at this
 rw[this]
 have e:(4294967295 ^^^ a:Nat)=4294967295 - a:=by
  have h:=BitVec.toNat_not (x:=BitVec.ofNat 32 a)
  have e2:(~~~ BitVec.ofNat 32 a)=BitVec.ofNat 32 4294967295 ^^^ BitVec.ofNat 32 a:=by
   rw[show BitVec.ofNat 32 4294967295=BitVec.allOnes 32 from rfl,BitVec.allOnes_xor]
  rw[e2,BitVec.toNat_xor,BitVec.toNat_ofNat,BitVec.toNat_ofNat,Nat.mod_eq_of_lt (a:=a) (by omega)]at h
  simpa using h
 rw[e];omega
def Xu (f:Nat→Int):Prop:= ∀ i,0≤f i∧f i < 4294967296
def sY (x n:Int):Int:=aS .or .u32 (cr .u32 x n) (gT .u32 x (32 - n))
def pQ (f:Nat→Int) (t:Nat):Nat→Int
 | 0=>0
 | m+1=>pQ f t m*256+f (4*t+m)
def yc (f:Nat→Int) (t:Nat):Int:=pQ f t 4
theorem abw {f:Nat→Int} (hf:bY f) (t:Nat): ∀ m,m≤3→0≤pQ f t m∧pQ f t m < 16777216:=fun m hm=>by
 have h0:=hf (4*t)
 have h1:=hf (4*t+1)
 have h2:=hf (4*t+2)
 have:=(show m=0∨m=1∨m=2∨m=3 by omega)
 rcases this with rfl | rfl | rfl | rfl<;>simp only[pQ,Nat.add_zero]<;>omega
theorem Vz {f:Nat→Int} (hf:bY f) (t m:Nat) (hm:m≤3):aS .or .u32 (gT .u32 (pQ f t m) 8) (IntKind.u32.wrap (f (4*t+m)))=pQ f t (m+1):=by
 have h:=abw hf t m hm
 have h1:=hf (4*t+m)
 rw[kN _ h1.1 (by omega),Xt _ _ h.1 h.2 h1.1 h1.2];rfl
theorem DQ {f g:Nat→Int} {t:Nat}: ∀ m,(∀ j,j < m→f (4*t+j)=g (4*t+j))→pQ f t m=pQ g t m
 | 0,_=>rfl
 | m+1,h=>by rw[pQ,pQ,DQ m (fun j hj=>h j (by omega)),h m (by omega)]
theorem VA {f:Nat→Int} (hf:bY f) (t:Nat):IntKind.u32.wrap (IntKind.u32.wrap (IntKind.u32.wrap (gT .u32 (IntKind.u32.wrap (f (4*t))) 24+gT .u32 (IntKind.u32.wrap (f (4*t+1))) 16)+gT .u32 (IntKind.u32.wrap (f (4*t+2))) 8)+IntKind.u32.wrap (f (4*t+3)))=yc f t:=by
 have h0:=hf (4*t)
 have h1:=hf (4*t+1)
 have h2:=hf (4*t+2)
 have h3:=hf (4*t+3)
 have s24: ∀ x:Int,gT .u32 x 24=IntKind.u32.wrap (x*16777216):=fun x=>lY .u32 x 24 (by decide)
 have s16: ∀ x:Int,gT .u32 x 16=IntKind.u32.wrap (x*65536):=fun x=>lY .u32 x 16 (by decide)
 have s8: ∀ x:Int,gT .u32 x 8=IntKind.u32.wrap (x*256):=fun x=>lY .u32 x 8 (by decide)
 simp only[s24,s16,s8,wrap_u32,yc,pQ,Nat.add_zero]
 omega
def Xv (W:Nat→Int) (t:Nat):Int:=
 IntKind.u32.wrap (IntKind.u32.wrap (IntKind.u32.wrap (aS .xor .u32 (aS .xor .u32 (sY (W (t - 2)) 17) (sY (W (t - 2)) 19)) (cr .u32 (W (t - 2)) 10)+W (t - 7))+
  aS .xor .u32 (aS .xor .u32 (sY (W (t - 15)) 7) (sY (W (t - 15)) 18)) (cr .u32 (W (t - 15)) 3))+W (t - 16))
def gW (f:Nat→Int):Nat→Nat→Int
 | 0=>fun _=>0
 | k+1=>upd (gW f k) k (if k < 16 then yc f k else Xv (gW f k) k)
def rO (f:Nat→Int) (i:Nat):Int:=gW f 64 i
theorem DR {f g:Nat→Int} (h: ∀ i,i < 64→f i=g i): ∀ k,gW f k=gW g k
 | 0=>rfl
 | k+1=>by
  rw[gW,gW,DR h k]
  congr 1
  by_cases hk:k < 16
  ·rw[if_pos hk,if_pos hk];exact DQ 4 fun j hj=>h _ (by omega)
  ·rw[if_neg hk,if_neg hk]
theorem VB {f g:Nat→Int} (h: ∀ i,i < 64→f i=g i):rO f=rO g:=by funext i;simp only[rO,DR h]
def t1W (r:Nat→Int) (k w:Int):Int:=
 IntKind.u32.wrap (IntKind.u32.wrap (IntKind.u32.wrap (IntKind.u32.wrap (r 7+aS .xor .u32 (aS .xor .u32 (sY (r 4) 6) (sY (r 4) 11)) (sY (r 4) 25))+
  aS .xor .u32 (aS .and .u32 (r 4) (r 5)) (aS .and .u32 (4294967295 - r 4) (r 6)))+k)+w)
def t2W (r:Nat→Int):Int:=
 IntKind.u32.wrap (aS .xor .u32 (aS .xor .u32 (sY (r 0) 2) (sY (r 0) 13)) (sY (r 0) 22)+aS .xor .u32 (aS .xor .u32 (aS .and .u32 (r 0) (r 1)) (aS .and .u32 (r 0) (r 2))) (aS .and .u32 (r 1) (r 2)))
def VC (r:Nat→Int) (k w:Int) (i:Nat):Int:=
 if i=0 then IntKind.u32.wrap (t1W r k w+t2W r) else if i=4 then IntKind.u32.wrap (r 3+t1W r k w) else r (i - 1)
theorem aby {r:Nat→Int} (h:Xu r) (k w:Int):Xu (VC r k w):=fun i=>by
 simp only[VC];split
 ·exact nu _
 ·split
  ·exact nu _
  ·exact h _
def rounds (K v w:Nat→Int):Nat→Nat→Int
 | 0=>v
 | k+1=>VC (rounds K v w k) (K k) (w k)
theorem sZ {K v w:Nat→Int} (h:Xu v): ∀ k,Xu (rounds K v w k)
 | 0=>h
 | k+1=>aby (sZ h k) _ _
def yd (K v f:Nat→Int) (i:Nat):Int:=IntKind.u32.wrap (v i+rounds K v (rO f) 64 i)
theorem Xw {K v f:Nat→Int}:Xu (yd K v f):=fun i=>nu _
theorem ye {K v f g:Nat→Int} (h: ∀ i,i < 64→f i=g i):yd K v f=yd K v g:=by
 funext i;simp only[yd,VB h]
def iC (K v f:Nat→Int):Nat→Nat→Int
 | 0=>v
 | k+1=>yd K (iC K v f k) (fun i=>f (64*k+i))
theorem Gu {K v f:Nat→Int} (h:Xu v): ∀ k,Xu (iC K v f k)
 | 0=>h
 | k+1=>Xw
theorem tc {K v f g:Nat→Int}: ∀ k,(∀ i,i < 64*k→f i=g i)→iC K v f k=iC K v g k
 | 0,_=>rfl
 | k+1,h=>by
  rw[iC,iC,tc k (fun i hi=>h i (by omega))]
  exact ye fun i hi=>h _ (by omega)
theorem I5 (K v f:Nat→Int) (a:Nat): ∀ b,iC K v f (a+b)=iC K (iC K v f a) (fun i=>f (64*a+i)) b
 | 0=>rfl
 | b+1=>by
  rw[← Nat.add_assoc,iC,iC,I5 K v f a b]
  exact ye fun i hi=>by rw[show 64*(a+b)+i=64*a+(64*b+i) by omega]
def blocks (n:Nat):Nat:=(n+8) / 64+1
def oP (n j:Nat):Int:=((n*8 / 2^(56 - 8*j)%256:Nat):Int)
def iS (f:Nat→Int) (n i:Nat):Int:=if i < n then f i else if i=n then 128 else if i < 64*blocks n - 8 then 0 else oP n (i - (64*blocks n - 8))
theorem VD {f g:Nat→Int} {n:Nat} (h: ∀ i,i < n→f i=g i):iS f n=iS g n:=by
 funext i;simp only[iS];split
 ·rename_i hi;exact h i hi
 ·rfl
def Gv (v:Nat→Int) (i:Nat):Int:=IntKind.u8.wrap (cr .u32 (v (i / 4)) (24 - 8*((i%4:Nat):Int)))
theorem Xx (v:Nat→Int):bY (Gv v):=fun i=>by simp only[Gv,wrap_u8];omega
def iD (K V f:Nat→Int) (n:Nat):Nat→Int:=Gv (iC K V (iS f n) (blocks n))
theorem rP (K V f:Nat→Int) (n:Nat):bY (iD K V f n):=Xx _
theorem DS {K V f g:Nat→Int} {n:Nat} (h: ∀ i,i < n→f i=g i):iD K V f n=iD K V g n:=by simp only[iD,VD h]
theorem I6 {f:Nat→Int} (hf:bY f) (n:Nat):bY (iS f n):=fun i=>by
 simp only[iS];split
 ·exact hf i
 ·split
  ·omega
  ·split
   ·omega
   ·simp only[oP];omega
def gf (K V k:Nat→Int) (kn:Nat) (i:Nat):Int:=if kn > 64 then (if i < 32 then iD K V k kn i else 0) else (if i < kn then k i else 0)
def eU (K V k:Nat→Int) (kn:Nat) (x:Int) (i:Nat):Int:=aS .xor .u8 (gf K V k kn i) x
def fA (K V k:Nat→Int) (kn:Nat) (f:Nat→Int) (n:Nat):Nat→Int:=
 iD K V (aR 64 (eU K V k kn 92) (iD K V (aR 64 (eU K V k kn 54) f) (64+n))) 96
theorem lB (K V k:Nat→Int) (kn:Nat) (f:Nat→Int) (n:Nat):bY (fA K V k kn f n):=rP _ _ _ _
theorem NS {n m:Nat} {f f' g g':Nat→Int} (h: ∀ i,i < n→f i=f' i) (h': ∀ i,i < m→g i=g' i): ∀ i,i < n+m→aR n f g i=aR n f' g' i:=fun i hi=>by
 simp only[aR];split
 ·exact h i ‹_›
 ·exact h' _ (by omega)
theorem eV {n:Nat} {f g:Nat→Int} (hf:bY f) (hg:bY g):bY (aR n f g):=fun i=>by
 simp only[aR];split
 ·exact hf i
 ·exact hg _
theorem VE {K V k k':Nat→Int} {kn:Nat} (h: ∀ i,i < kn→k i=k' i):gf K V k kn=gf K V k' kn:=by
 funext i;simp only[gf,DS h]
 split
 ·rfl
 ·split
  ·exact h i ‹_›
  ·rfl
theorem je {K V k k' f f':Nat→Int} {kn n:Nat} (h: ∀ i,i < kn→k i=k' i) (h': ∀ i,i < n→f i=f' i):fA K V k kn f n=fA K V k' kn f' n:=by
 have e: ∀ x,eU K V k kn x=eU K V k' kn x:=fun x=>by funext i;simp only[eU,VE h]
 simp only[fA,e]
 rw[DS (NS (m:=n) (f:=eU K V k' kn 54) (fun _ _=>rfl) h')]
theorem rQ (K V k:Nat→Int) (kn:Nat) (x:Int):bY (eU K V k kn x):=fun i=>gq _ _ _
def oQ (K V p info:Nat→Int) (m:Nat):Nat→Nat→Int
 | 0=>fun _=>0
 | c+1=>fA K V p 32 (if c=0 then aR m info (fun _=>1) else aR 32 (oQ K V p info m c) (aR m info (fun _=>IntKind.u8.wrap ((c+1:Nat):Int)))) ((if c=0 then 0 else 32)+(m+1))
theorem rR (K V p info:Nat→Int) (m:Nat): ∀ c,bY (oQ K V p info m c)
 | 0=>fun i=>⟨Int.le_refl 0,by show (0:Int) < 256;decide⟩
 | c+1=>lB _ _ _ _ _ _
def gK (K V p info:Nat→Int) (m:Nat) (i:Nat):Int:=oQ K V p info m (i / 32+1) (i%32)
def kW (i:Nat):Int:=[1116352408,1899447441,3049323471,3921009573,961987163,1508970993,2453635748,2870763221,3624381080,310598401,607225278,1426881987,1925078388,2162078206,2614888103,3248222580,3835390401,4022224774,264347078,604807628,770255983,1249150122,1555081692,1996064986,2554220882,2821834349,2952996808,3210313671,3336571891,3584528711,113926993,338241895,666307205,773529912,1294757372,1396182291,1695183700,1986661051,2177026350,2456956037,2730485921,2820302411,3259730800,3345764771,3516065817,3600352804,4094571909,275423344,430227734,506948616,659060556,883997877,958139571,1322822218,1537002063,1747873779,1955562222,2024104815,2227730452,2361852424,2428436474,2756734187,3204031479,3329325298].getD i 0
def b9 (i:Nat):Int:=[1779033703,3144134277,1013904242,2773480762,1359893119,2600822924,528734635,1541459225].getD i 0
theorem NT:Xu b9:=fun i=>by
 rcases Nat.lt_or_ge i 8 with h | h
 ·have:((List.range 8).all fun n=>decide (0≤b9 n)&&decide (b9 n < 4294967296))=true:=by decide
  have:=List.all_eq_true.1 this i (List.mem_range.2 h)
  simpa using this
 ·have:b9 i=0:=by simp only[b9];rw[List.getD_eq_getElem?_getD,List.getElem?_eq_none (by simpa using h)];rfl
  omega
end Go.cA
