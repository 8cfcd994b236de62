/-
  The hash in plain arithmetic: words of 32 bits, the schedule of a block, the rounds, whole messages. Nothing here speaks of a program.
-/
import Derived.Test.YtaeagfdnfjenlaaGreatDoorVcgK
import Derived.Test.YtaeagfdnfjenlaaGreatDoorVcgJ
import Derived.Test.YtaeagfdnfjenlaaGreatDoorVcgWM
set_option linter.unusedSimpArgs false
set_option linter.unusedVariables false
set_option linter.unusedSectionVars false
namespace Go.cn

theorem qu (z:Int):0≤IntKind.u32.wrap z∧IntKind.u32.wrap z < 4294967296:=by rw[wrap_u32];omega
theorem Rt (k:IntKind) (x y:Int):fu .or k x y=fu .or k y x:=by simp only[fu];rw[BitVec.or_comm]
theorem HU (x y:Nat) (hx:x < 4294967296) (hy:y < 4294967296):
  fu .and .u32 x y=((x &&& y:Nat):Int)∧fu .or .u32 x y=((x ||| y:Nat):Int)∧fu .xor .u32 x y=((x ^^^ y:Nat):Int):=by
 have h1:x &&& y < 2^32:=Nat.and_lt_two_pow x hy
 have h2:x ||| y < 2^32:=Nat.or_lt_two_pow hx hy
 have h3:x ^^^ y < 2^32:=Nat.xor_lt_two_pow hx hy
 obtain ⟨e1,e2,e3⟩:=HL .u32 x y hx hy
 refine ⟨e1.trans ?_,e2.trans ?_,e3.trans ?_⟩<;>rw[wrap_u32]<;>omega
theorem Ru (x y:Int) (h0:0≤x) (h1:x < 16777216) (h2:0≤y) (h3:y < 256):fu .or .u32 (lK .u32 x 8) y=x*256+y:=by
 have e:lK .u32 x 8=x*256:=by
  have:=lQ .u32 x 8 (by decide)
  rw[show ((8:Nat):Int)=8 from rfl]at this
  rw[this,wrap_u32];omega
 rw[e]
 obtain ⟨a,rfl⟩:=Int.eq_ofNat_of_zero_le h0
 obtain ⟨b,rfl⟩:=Int.eq_ofNat_of_zero_le h2
 have e2:((a:Int)*256)=((a*256:Nat):Int):=by simp
 rw[e2,(HU (a*256) b (by omega) (by omega)).2.1]
 have:a*256 ||| b=a*256+b:=by
  rw[show a*256=a <<< 8 by rw[Nat.shiftLeft_eq], ← Nat.shiftLeft_add_eq_or_of_lt (by omega)]
 rw[this];simp
theorem Vi (x:Int) (h0:0≤x) (h1:x < 4294967296):fu .xor .u32 4294967295 x=4294967295 - x:=by
 obtain ⟨a,rfl⟩:=Int.eq_ofNat_of_zero_le h0
 have:=(HU 4294967295 a (by decide) (by omega)).2.2
 rw[show ((4294967295:Nat):Int)=4294967295 from rfl]at this
 rw[this]
 have e:(4294967295 ^^^ a:Nat)=4294967295 - a:=by
  have h:=BitVec.toNat_not (x:=BitVec.ofNat 32 a)
  have e2:(~~~ BitVec.ofNat 32 a)=BitVec.ofNat 32 4294967295 ^^^ BitVec.ofNat 32 a:=by
   rw[show BitVec.ofNat 32 4294967295=BitVec.allOnes 32 from rfl,BitVec.allOnes_xor]
  rw[e2,BitVec.toNat_xor,BitVec.toNat_ofNat,BitVec.toNat_ofNat,Nat.mod_eq_of_lt (a:=a) (by omega)]at h
  simpa using h
 rw[e];omega
def Rv (f:Nat→Int):Prop:= ∀ i,0≤f i∧f i < 4294967296
def vH (x n:Int):Int:=fu .or .u32 (dK .u32 x n) (lK .u32 x (32 - n))
def sH (f:Nat→Int) (t:Nat):Nat→Int
 | 0=>0
 | m+1=>sH f t m*256+f (4*t+m)
def zM (f:Nat→Int) (t:Nat):Int:=sH f t 4
theorem Vj {f:Nat→Int} (hf:eJ f) (t:Nat): ∀ m,m≤3→0≤sH f t m∧sH f t m < 16777216:=fun m hm=>by
 have h0:=hf (4*t)
 have h1:=hf (4*t+1)
 have h2:=hf (4*t+2)
 have:=(show m=0∨m=1∨m=2∨m=3 by omega)
 rcases this with rfl | rfl | rfl | rfl<;>simp only[sH,Nat.add_zero]<;>omega
theorem Po {f:Nat→Int} (hf:eJ f) (t m:Nat) (hm:m≤3):fu .or .u32 (lK .u32 (sH f t m) 8) (IntKind.u32.wrap (f (4*t+m)))=sH f t (m+1):=by
 have h:=Vj hf t m hm
 have h1:=hf (4*t+m)
 rw[fR _ h1.1 (by omega),Ru _ _ h.1 h.2 h1.1 h1.2];rfl
theorem DG {f g:Nat→Int} {t:Nat}: ∀ m,(∀ j,j < m→f (4*t+j)=g (4*t+j))→sH f t m=sH g t m
 | 0,_=>rfl
 | m+1,h=>by rw[sH,sH,DG m (fun j hj=>h j (by omega)),h m (by omega)]
theorem Pp {f:Nat→Int} (hf:eJ f) (t:Nat):IntKind.u32.wrap (IntKind.u32.wrap (IntKind.u32.wrap (lK .u32 (IntKind.u32.wrap (f (4*t))) 24+lK .u32 (IntKind.u32.wrap (f (4*t+1))) 16)+lK .u32 (IntKind.u32.wrap (f (4*t+2))) 8)+IntKind.u32.wrap (f (4*t+3)))=zM f t:=by
 have h0:=hf (4*t)
 have h1:=hf (4*t+1)
 have h2:=hf (4*t+2)
 have h3:=hf (4*t+3)
 have Y': ∀ x:Int,lK .u32 x 24=IntKind.u32.wrap (x*16777216):=fun x=>lQ .u32 x 24 (by decide)
 have Za: ∀ x:Int,lK .u32 x 16=IntKind.u32.wrap (x*65536):=fun x=>lQ .u32 x 16 (by decide)
 have s8: ∀ x:Int,lK .u32 x 8=IntKind.u32.wrap (x*256):=fun x=>lQ .u32 x 8 (by decide)
 simp only[Y',Za,s8,wrap_u32,zM,sH,Nat.add_zero]
 omega
def Rw (W:Nat→Int) (t:Nat):Int:=
 IntKind.u32.wrap (IntKind.u32.wrap (IntKind.u32.wrap (fu .xor .u32 (fu .xor .u32 (vH (W (t - 2)) 17) (vH (W (t - 2)) 19)) (dK .u32 (W (t - 2)) 10)+W (t - 7))+
  fu .xor .u32 (fu .xor .u32 (vH (W (t - 15)) 7) (vH (W (t - 15)) 18)) (dK .u32 (W (t - 15)) 3))+W (t - 16))
def jD (f:Nat→Int):Nat→Nat→Int
 | 0=>fun _=>0
 | k+1=>upd (jD f k) k (if k < 16 then zM f k else Rw (jD f k) k)
def uJ (f:Nat→Int) (i:Nat):Int:=jD f 64 i
theorem DH {f g:Nat→Int} (h: ∀ i,i < 64→f i=g i): ∀ k,jD f k=jD g k
 | 0=>rfl
 | k+1=>by
  rw[jD,jD,DH h k]
  congr 1
  by_cases hk:k < 16
  ·rw[if_pos hk,if_pos hk];exact DG 4 fun j hj=>h _ (by omega)
  ·rw[if_neg hk,if_neg hk]
theorem Pq {f g:Nat→Int} (h: ∀ i,i < 64→f i=g i):uJ f=uJ g:=by funext i;simp only[uJ,DH h]
def t1W (r:Nat→Int) (k w:Int):Int:=
 IntKind.u32.wrap (IntKind.u32.wrap (IntKind.u32.wrap (IntKind.u32.wrap (r 7+fu .xor .u32 (fu .xor .u32 (vH (r 4) 6) (vH (r 4) 11)) (vH (r 4) 25))+
  fu .xor .u32 (fu .and .u32 (r 4) (r 5)) (fu .and .u32 (4294967295 - r 4) (r 6)))+k)+w)
def t2W (r:Nat→Int):Int:=
 IntKind.u32.wrap (fu .xor .u32 (fu .xor .u32 (vH (r 0) 2) (vH (r 0) 13)) (vH (r 0) 22)+fu .xor .u32 (fu .xor .u32 (fu .and .u32 (r 0) (r 1)) (fu .and .u32 (r 0) (r 2))) (fu .and .u32 (r 1) (r 2)))
def Pr (r:Nat→Int) (k w:Int) (i:Nat):Int:=
 if i=0 then IntKind.u32.wrap (t1W r k w+t2W r) else if i=4 then IntKind.u32.wrap (r 3+t1W r k w) else r (i - 1)
theorem Vk {r:Nat→Int} (h:Rv r) (k w:Int):Rv (Pr r k w):=fun i=>by
 simp only[Pr];split
 ·exact qu _
 ·split
  ·exact qu _
  ·exact h _
def rounds (K v w:Nat→Int):Nat→Nat→Int
 | 0=>v
 | k+1=>Pr (rounds K v w k) (K k) (w k)
theorem vI {K v w:Nat→Int} (h:Rv v): ∀ k,Rv (rounds K v w k)
 | 0=>h
 | k+1=>Vk (vI h k) _ _
def zN (K v f:Nat→Int) (i:Nat):Int:=IntKind.u32.wrap (v i+rounds K v (uJ f) 64 i)
theorem Rx {K v f:Nat→Int}:Rv (zN K v f):=fun i=>qu _
theorem zO {K v f g:Nat→Int} (h: ∀ i,i < 64→f i=g i):zN K v f=zN K v g:=by
 funext i;simp only[zN,Pq h]
def j1 (K v f:Nat→Int):Nat→Nat→Int
 | 0=>v
 | k+1=>zN K (j1 K v f k) (fun i=>f (64*k+i))
theorem EV {K v f:Nat→Int} (h:Rv v): ∀ k,Rv (j1 K v f k)
 | 0=>h
 | k+1=>Rx
theorem vJ {K v f g:Nat→Int}: ∀ k,(∀ i,i < 64*k→f i=g i)→j1 K v f k=j1 K v g k
 | 0,_=>rfl
 | k+1,h=>by
  rw[j1,j1,vJ k (fun i hi=>h i (by omega))]
  exact zO fun i hi=>h _ (by omega)
theorem HV (K v f:Nat→Int) (a:Nat): ∀ b,j1 K v f (a+b)=j1 K (j1 K v f a) (fun i=>f (64*a+i)) b
 | 0=>rfl
 | b+1=>by
  rw[← Nat.add_assoc,j1,j1,HV K v f a b]
  exact zO fun i hi=>by rw[show 64*(a+b)+i=64*a+(64*b+i) by omega]
def blocks (n:Nat):Nat:=(n+8) / 64+1
def rM (n j:Nat):Int:=((n*8 / 2^(56 - 8*j)%256:Nat):Int)
def lA (f:Nat→Int) (n i:Nat):Int:=if i < n then f i else if i=n then 128 else if i < 64*blocks n - 8 then 0 else rM n (i - (64*blocks n - 8))
def KE (v:Nat→Int) (i:Nat):Int:=IntKind.u8.wrap (dK .u32 (v (i / 4)) (24 - 8*((i%4:Nat):Int)))
def pZ (K V f:Nat→Int) (n:Nat):Nat→Int:=KE (j1 K V (lA f n) (blocks n))
theorem HW {f:Nat→Int} (hf:eJ f) (n:Nat):eJ (lA f n):=fun i=>by
 simp only[lA];split
 ·exact hf i
 ·split
  ·omega
  ·split
   ·omega
   ·simp only[rM];omega
theorem Ps {n:Nat} {f g:Nat→Int} (hf:eJ f) (hg:eJ g):eJ (bC n f g):=fun i=>by
 simp only[bC];split
 ·exact hf i
 ·exact hg _
def kW (i:Nat):Int:=[1116352408,1899447441,3049323471,3921009573,961987163,1508970993,2453635748,2870763221,3624381080,310598401,607225278,1426881987,1925078388,2162078206,2614888103,3248222580,3835390401,4022224774,264347078,604807628,770255983,1249150122,1555081692,1996064986,2554220882,2821834349,2952996808,3210313671,3336571891,3584528711,113926993,338241895,666307205,773529912,1294757372,1396182291,1695183700,1986661051,2177026350,2456956037,2730485921,2820302411,3259730800,3345764771,3516065817,3600352804,4094571909,275423344,430227734,506948616,659060556,883997877,958139571,1322822218,1537002063,1747873779,1955562222,2024104815,2227730452,2361852424,2428436474,2756734187,3204031479,3329325298].getD i 0
def pH (i:Nat):Int:=[1779033703,3144134277,1013904242,2773480762,1359893119,2600822924,528734635,1541459225].getD i 0
theorem KF:Rv pH:=fun i=>by
 rcases Nat.lt_or_ge i 8 with h | h
 ·have:((List.range 8).all fun n=>decide (0≤pH n)&&decide (pH n < 4294967296))=true:=by decide
  have:=List.all_eq_true.1 this i (List.mem_range.2 h)
  simpa using this
 ·have:pH i=0:=by simp only[pH];rw[List.getD_eq_getElem?_getD,List.getElem?_eq_none (by simpa using h)];rfl
  omega
section
variable {P:Program} [Tables P]
end
def slO (o m c:Nat):Nat:=if c=m then o else o+m
theorem Pt {cs:List SV} {o n c m:Nat} {f:Nat→Int} (h:aY cs o n f) (hm:m≤n) (hc:n≤c):aY cs (slO o m c) (n - m) (fun i=>f (m+i)):=fun i hi=>by
 unfold slO
 rw[if_neg (by omega),Nat.add_assoc]
 exact h (m+i) (by omega)
def Gd (f:Nat→Int) (i:Nat):Int:=f i*16777216+f (i+1)*65536+f (i+2)*256+f (i+3)
def Nf:Nat→Code→Code
 | 0,c=>c
 | n+1, .seq _ b=>Nf n b
 | _+1,c=>c
def Ry (P:Program) [Tables P] (m:Nat) (KG:AS→Prop):Nat→Code→(Exit→AS→Prop)→AS→Prop
 | 0,_,_,s=> ∃ s2,ll m s s2∧m≤s2.next∧KG s2
 | n+1, .seq a b,F,s=>q9 P a (fI (Ry P m KG n b F) F) s
 | _+1,_,_,_=>False
section
variable {P:Program} [Tables P] {W:Nat→Prop} {N:Nat} {w0:Base P} {g:Where} {s:AS} {a:Act} {w:World}
theorem HX: ∀ (n:Nat) (c:Code),codeOk N c=true→codeOk N (Nf n c)=true
 | 0,c,h=>h
 | n+1, .seq a b,h=>by
  simp only[codeOk,Bool.and_eq_true]at h
  exact HX n b h.2
 | n+1, .skip,h=>h
 | n+1, .region .., h=>h
 | n+1, .cond .., h=>h
 | n+1, .block .., h=>h
 | n+1, .loop _,h=>h
 | n+1, .exit _,h=>h
 | n+1, .ret,h=>h
 | n+1, .rangeFunc .., h=>h
 | n+1, .scope _,h=>h
 | n+1, .label _,h=>h
 | n+1, .goto _,h=>h
 | n+1, .refuse _,h=>h
def Sound (P:Program) [Tables P] (W:Nat→Prop) (N:Nat) (w0:Base P) (c:Code) (F:Exit→AS→Prop) (s:AS):Prop:=
 ∀ (g:Where) (a:Act) (w:World) (Q:Exit→Act→World→Prop),bF W N w0 (fun n=>n < s.next) g s a w→
  (∀ e g' s' a' w',bF W N w0 (fun n=>n < s'.next) g' s' a' w'→F e s'→Q e a' w')→c.wp P Q a w
end
theorem zH.ren {t n:Nat} {v:AV} {f:Nat→Int} {cs:List SV} (h:zH t v n f cs) {r:Nat→Nat} (hr:r t=t):AV.ren r v=v:=by
 rcases h with ⟨⟨a,rfl⟩,h0⟩ | ⟨o,c,rfl,hs⟩
 ·rfl
 ·rw[iZ,hr]
section
variable {P:Program} [Tables P] {s:AS} {m:Nat} {KG:AS→Prop}
theorem zP {n:Nat} {a b:Code} {F:Exit→AS→Prop}:Ry P m KG (n+1) (.seq a b) F s=q9 P a (fI (Ry P m KG n b F) F) s:=rfl
end
theorem Rz:type_of% @zP:= @zP
structure St where
 own:Bool
 peer:Bool
 has:Bool
 root:Nat→Int
 priv:Nat→Int
 RA:Nat→Int
 pee:Nat→Int
 send:Nat→Int
 recv:Nat→Int
 se:Int
 re:Int
 ns:Int
 nr:Int
 pn:Int
 skip:Int
 room:Int
 store:SV
def bo (b:Bool):SV:=Sum.inl (.bool b)
theorem zQ {k:IntKind} {n m:Nat} {f:Nat→Int} (h:n≤m):List.take m (ai k n f)=ai k n f:=List.take_of_length_le (by rw[aD];exact h)
theorem KH {k:IntKind} {n m:Nat} {f:Nat→Int} (h:n≤m):List.drop m (ai k n f)=[]:=List.drop_eq_nil_of_le (by rw[aD];exact h)
theorem sg {cs:List SV} {o n:Nat} {f:Nat→Int} (h:List.take n (List.drop o cs)=ai .u8 n f) (hl:o+n≤cs.length):aY cs o n f:=fun i hi=>by
 have:(List.take n (List.drop o cs))[i]? =some (Sum.inl (.int .u8 (f i))):=by rw[h,bN .u8 n f i hi]
 rwa [List.getElem?_take_of_lt hi,List.getElem?_drop]at this
section
variable {s:St} {g:Nat→Int} {x:Int} {b:Bool} {v:SV}
end
structure En where
 ep:Int
 n:Int
 RA:Nat→Int
 key:Nat→Int
def J2 (e:En):List SV:=Sum.inl (.int .u32 e.ep)::Sum.inl (.int .u32 e.n)::(ai .u8 32 e.RA++ai .u8 32 e.key)
theorem ra {e:En}:(J2 e).length=66:=by simp[J2,aD]
theorem Pu {e:En}:(J2 e).all SV.plain=true:=by
 simp only[J2,List.all_cons,List.all_append,az,Bool.and_true];rfl
theorem Vl {e:En}:List.take 66 (J2 e)=J2 e:=List.take_of_length_le (by rw[ra];omega)
def jE (cs:List SV) (o n:Nat) (f:Nat→En):Prop:= ∀ i,i < n→List.take 66 (List.drop (o+i*66) cs)=J2 (f i)
theorem jE.lt {cs:List SV} {o n:Nat} {f:Nat→En} (h:jE cs o n f) {i:Nat} (hi:i < n):o+i*66+66≤cs.length:=by
 have:=congrArg List.length (h i hi)
 rw[List.length_take,List.length_drop,ra]at this
 omega
def EW:Nat→(Nat→En)→List SV
 | 0,_=>[]
 | n+1,f=>EW n f++J2 (f n)
theorem zR {n:Nat} {f:Nat→En}:(EW n f).length=n*66:=by
 induction n with
 | zero=>rfl
 | succ n ih=>rw[EW,List.length_append,ih,ra];omega
theorem KI {n:Nat} {f:Nat→En}:(EW n f).all SV.plain=true:=by
 induction n with
 | zero=>rfl
 | succ n ih=>rw[EW,List.all_append,ih,Pu];rfl
theorem RB {n:Nat} {f:Nat→En} {i:Nat} {tail:List SV} (hi:i < n):List.take 66 (List.drop (i*66) (EW n f++tail))=J2 (f i):=by
 induction n generalizing tail with
 | zero=>omega
 | succ n ih=>
  rw[EW,List.append_assoc]
  by_cases h:i < n
  ·exact ih h
  ·obtain rfl:i=n:=by omega
   rw[List.drop_append_of_le_length (by rw[zR];omega),List.drop_eq_nil_of_le (by rw[zR];omega),List.nil_append,List.take_append_of_le_length (by rw[ra];omega),Vl]
theorem KJ {n:Nat} {f:Nat→En} {tail:List SV}:jE (EW n f++tail) 0 n f:=fun i hi=>by
 rw[Nat.zero_add];exact RB hi
theorem EX {cs:List SV} {o n:Nat} {f g:Nat→En} (h:jE cs o n f) (hg: ∀ i,i < n→f i=g i):jE cs o n g:=fun i hi=>by rw[h i hi,hg i hi]
def lS (t:Nat) (v:SV) (n:Nat) (f:Nat→En) (cs:List SV):Prop:=((∃ a,v= .inl (.slice a 0 0))∧n=0)∨ ∃ o c,v= .inr (.inr (t,o,n,c))∧n≤c∧jE cs o n f
theorem lS.ok {t n:Nat} {v:SV} {f:Nat→En} {cs:List SV} (h:lS t v n f cs) {M:Nat→Prop} (ht:M t):SV.ok M v:=by
 rcases h with ⟨⟨a,rfl⟩,h0⟩ | ⟨o,c,rfl,_,hs⟩
 ·exact ⟨trivial,rfl⟩
 ·exact ⟨ht,rfl⟩
theorem lS.ren {t n:Nat} {v:SV} {f:Nat→En} {cs:List SV} (h:lS t v n f cs) {r:Nat→Nat} (hr:r t=t):SV.ren r v=v:=by
 rcases h with ⟨⟨a,rfl⟩,h0⟩ | ⟨o,c,rfl,_,hs⟩
 ·rfl
 ·simp only[SV.ren,fj,hr]
theorem lS.name {n t k:Nat} {v:SV} {f:Nat→En} {cs:List SV} (h:lS t v n f cs): ∃ v0,lS k v0 n f cs∧ ∀ r:Nat→Nat,r k=t→SV.ren r v0=v:=by
 rcases h with ⟨⟨a,e⟩,h0⟩ | ⟨o,c,e,hc,hs⟩
 ·cases e;exact ⟨_, .inl ⟨⟨a,rfl⟩,h0⟩,fun r _=>rfl⟩
 ·cases e;exact ⟨_, .inr ⟨o,c,rfl,hc,hs⟩,fun r hr=>by simp only[SV.ren,fj,hr]⟩
theorem lS.len {t n:Nat} {v:SV} {f:Nat→En} {cs:List SV} (h:lS t v n f cs):eM 1 (some [.inl (.inl v)])=some (some (I .i64 n),none):=by
 rcases h with ⟨⟨a,rfl⟩,rfl⟩ | ⟨o,c,rfl,_,hs⟩<;>rfl
section
variable {e:En} {x:Int} {g:Nat→Int}
theorem Zb:List.take 32 (List.drop 2 (J2 e))=ai .u8 32 e.RA:=by simp[J2,aD,List.take_append,zQ]
theorem Vm:List.take 32 (List.drop 34 (J2 e))=ai .u8 32 e.key:=by simp[J2,aD,List.drop_append,zQ,KH]
theorem Zc:aY (J2 e) 2 32 e.RA:=sg Zb (by rw[ra];omega)
theorem Vn:aY (J2 e) 34 32 e.key:=sg Vm (by rw[ra];omega)
end
theorem uK (k:IntKind) (n:Nat) (f:Nat→Int):gC k (ai k n f)=some ((List.range n).map f):=by
 unfold ai
 induction List.range n with
 | nil=>rfl
 | cons a r ih=>simp only[List.map_cons,gC,if_true,ih]
def Zd (x:Int):Prop:=0≤x∧x < 4294967296
structure Ze (s:St):Prop where
 root:eJ s.root
 priv:eJ s.priv
 RA:eJ s.RA
 pee:eJ s.pee
 send:eJ s.send
 recv:eJ s.recv
 se:Zd s.se
 re:Zd s.re
 ns:Zd s.ns
 nr:Zd s.nr
 pn:Zd s.pn
 skip: -9223372036854775808≤s.skip∧s.skip < 9223372036854775808
 room: -9223372036854775808≤s.room∧s.room < 9223372036854775808
structure agr (e:En):Prop where
 ep:Zd e.ep
 n:Zd e.n
 RA:eJ e.RA
 key:eJ e.key
theorem Ze.ws {s:St} (h:Ze s) (v:SV):Ze { s with store:=v }:=⟨h.root,h.priv,h.RA,h.pee,h.send,h.recv,h.se,h.re,h.ns,h.nr,h.pn,h.skip,h.room⟩
def nw (s:St):Int:=(if s.own then 1 else 0)+(if s.peer then 2 else 0)+(if s.has then 4 else 0)
theorem jE.cell {cs:List SV} {o n:Nat} {f:Nat→En} (h:jE cs o n f) {i k:Nat} (hi:i < n) (hk:k < 66):cs[o+i*66+k]? =(J2 (f i))[k]? :=by
 rw[← h i hi,List.getElem?_take_of_lt hk,List.getElem?_drop]
theorem jE.ep {cs:List SV} {o n:Nat} {f:Nat→En} (h:jE cs o n f) {i:Nat} (hi:i < n):cs[o+i*66]? =some (Sum.inl (.int .u32 (f i).ep)):=h.cell (k:=0) hi (by decide)
theorem jE.RA {cs:List SV} {o n:Nat} {f:Nat→En} (h:jE cs o n f) {i:Nat} (hi:i < n):aY cs (o+i*66+2) 32 (f i).RA:=fun j hj=>by
 have:=h.cell (k:=2+j) hi (by omega)
 rw[Zc j hj]at this
 rw[← this];congr 1;omega
theorem jE.key {cs:List SV} {o n:Nat} {f:Nat→En} (h:jE cs o n f) {i:Nat} (hi:i < n):aY cs (o+i*66+34) 32 (f i).key:=fun j hj=>by
 have:=h.cell (k:=34+j) hi (by omega)
 rw[Vn j hj]at this
 rw[← this];congr 1;omega
section
variable {a b c d e f g:Nat→Int}
end
section
variable {P:Program} [Tables P] {W:Nat→Prop} {N:Nat} {w0:Base P} {g:Where} {s:AS} {a:Act} {w:World}
theorem DI {ops:Array Oper} {nm i:Nat} {K K':AS→Prop} (h: ∀ s,K s→K' s) (hv:ye P ops nm i K s):ye P ops nm i K' s:=by
 unfold ye at hv ⊢
 split at hv
 ·exact vw h hv
 ·exact hv
theorem qv {ops:Array Oper} {base:Nat} {K K':AS→Prop} (h: ∀ s,K s→K' s): ∀ (t:dc) (k:Nat) (s:AS),Ck P ops base K t k s→Ck P ops base K' t k s
 | .nil,k,s,hv=>h _ hv
 | .cons i t .nil,k,s,hv=>DI (fun s hs=>qv h t (k+1) s hs) hv
 | .cons i t (.cons j u r),k,s,hv=>⟨DI (fun s hs=>qv h t (k+1) s hs) hv.1,qv h (.cons j u r) k s hv.2⟩
theorem j2: ∀ (c:Code) (F F':Exit→AS→Prop),(∀ e s,F e s→F' e s)→ ∀ s,q9 P c F s→q9 P c F' s
 | .region id ops true,F,F',h,s,hv=>by
  simp only[q9]at hv ⊢
  rcases hv with hv | ⟨hm,t,ht,hv⟩
  ·exact .inl (gv _ _ _ h s hv)
  ·exact .inr ⟨hm,t,ht,qv (h _) t 0 s hv⟩
 | .seq x y,F,F',h,s,hv=>j2 x _ _ (fun e s hs=>by
   cases e with
   | normal=>exact j2 y _ _ h s hs
   | _=>exact h _ _ hs) s hv
 | .cond c x y,F,F',h,s,hv=>by
  simp only[q9,lM]at hv ⊢
  split at hv
  ·exact ⟨fun ht=>j2 x _ _ h s (hv.1 ht),fun hf=>j2 y _ _ h s (hv.2 hf)⟩
  ·exact hv
 | .block id c,F,F',h,s,hv=>j2 c _ _ (fun e s hs=>by
   cases e with
   | exit id'=>
    simp only[fh]at hs ⊢
    split
    ·rename_i e;rw[if_pos e]at hs;exact h _ _ hs
    ·rename_i e;rw[if_neg e]at hs;exact h _ _ hs
   | _=>exact h _ _ hs) s hv
 | .skip,F,F',h,s,hv=>gv _ _ _ h s hv
 | .region id ops false,F,F',h,s,hv=>gv _ _ _ h s hv
 | .loop c,F,F',h,s,hv=>gv (.loop c) _ _ h s hv
 | .exit id,F,F',h,s,hv=>gv (.exit id) _ _ h s hv
 | .ret,F,F',h,s,hv=>gv .ret _ _ h s hv
 | .rangeFunc .., _,_,_,_,hv=>hv.elim
 | .scope _,_,_,_,_,hv=>hv.elim
 | .label _,_,_,_,_,hv=>hv.elim
 | .goto _,_,_,_,_,hv=>hv.elim
 | .refuse _,_,_,_,_,hv=>hv.elim
theorem DJ {body:(Exit→AS→Prop)→AS→Prop} {F:Exit→AS→Prop} (hmono: ∀ (K K':AS→Prop) t,(∀ s,K s→K' s)→body (fI K F) t→body (fI K' F) t) (n:Nat) (Inv:Nat→AS→Prop) (hnext: ∀ k t,Inv k t→s.next≤t.next)
  (h0: ∃ t,Inv 0 t∧ll s.next s t) (hstep: ∀ k t,k < n→Inv k t→body (fI (fun s'=> ∃ t',Inv (k+1) t'∧ll s.next s' t') F) t) (hend: ∀ t,Inv n t→body (fI (fun _=>False) F) t):kv body F s:=by
 obtain ⟨t0,hi0,hr0⟩:=h0
 refine ⟨{ y:Nat×AS // y.1≤n∧Inv y.1 y.2 },fun y=>y.1.2,fun y=>n - y.1.1,⟨(0,t0),Nat.zero_le _,hi0⟩,hr0,fun y=>hnext _ _ y.2.2,fun y=> ?_⟩
 obtain ⟨⟨k,t⟩,h1,h2⟩:=y
 rcases Nat.lt_or_ge k n with h | h
 ·refine hmono _ _ _ (fun s' hs=> ?_) (hstep k t h h2)
  obtain ⟨t',hi,hr⟩:=hs
  exact ⟨⟨(k+1,t'),h,hi⟩,by show n - (k+1) < n - k;omega,hr⟩
 ·have e:k=n:=Nat.le_antisymm h1 h
  subst e
  exact hmono (fun _=>False) _ _ (fun s' hs=>False.elim hs) (hend t h2)
theorem RD {c:Code} {F:Exit→AS→Prop} (n:Nat) (Inv:Nat→AS→Prop) (hnext: ∀ k t,Inv k t→s.next≤t.next)
  (h0: ∃ t,Inv 0 t∧ll s.next s t) (hstep: ∀ k t,k < n→Inv k t→vc P c (fI (fun s'=> ∃ t',Inv (k+1) t'∧ll s.next s' t') F) t) (hend: ∀ t,Inv n t→vc P c (fI (fun _=>False) F) t):kv (vc P c) F s:=
 DJ (fun K K' t h hv=>gv c _ _ (fun e s hs=>by
  cases e with
  | normal=>exact h s hs
  | _=>exact hs) t hv) n Inv hnext h0 hstep hend
theorem mF {f:Nat} {fn:Func} {c:Code} (hf:P.funcs[f]? =some fn) (hb:fn.body=some c) {args:List AV} {box:Nat→Option aI} {n:Nat}
  (hlen:args.length≤fn.ntmps) (hlaid:Laid P w) (iF: ∀ b bx,Tables.row P b=some bx→ ¬ W b) (hn:Names (fun k=>k < n) (start args box n)) (hm:cY g (start args box n) w) (hown: ∀ t b,box t=some b→b.rw=true→W (g t).1)
  {Post:AV→AS→Prop} (hv: ∀ (w0:Base P),w0.pn≤n→Sound P W fn.ntmps w0 c (kA P fn.results.toList Post) (start args box n)):
  Calls P f (args.map (AV.ah g)).toArray w fun e w'=> ∃ v g' s',e= .returned (AV.ah g' v)∧Post v s'∧AV.ok (fun k=>k < s'.next) v∧(∀ k,k < n→k < s'.next∧g' k=g k)∧cY g' s' w'∧Names (fun k=>k < s'.next) s'∧
   (∀ t b,s'.box t=some b→b.rw=true→w.heap.size≤(g' t).1∨W (g' t).1)∧Frame W w w':=by
 refine calls_of_wp hf hb ?_
 refine hv ⟨w,n,g,hlaid⟩ (Nat.le_refl n) g _ w _ ⟨?_,rfl, ?_,hn,hm,fun t b hb hrw=>Or.inr (hown t b hb hrw),Frame.refl _ _,fun k hk=>⟨hk,rfl⟩,iF⟩ ?_
 ·simp;omega
 ·intro d v hd
  simp only[start]at hd
  have hlt:d < args.length:=(List.getElem?_eq_some_iff.1 hd).1
  rw[Array.getElem?_append_left (by simpa using hlt)]
  simp[hd]
 ·intro e g' s' a' w' h' hk
  have fin:qm (kr (gQ P s' fn.results.toList)) Post s'→ ∃ v,(results fn a'.tmps).run P w'= .ok (AV.ah g' v) w'∧Post v s'∧AV.ok (fun k=>k < s'.next) v:=fun hr=>by
   unfold qm at hr
   split at hr
   ·rename_i v hv
    obtain ⟨h1,h2⟩:=iT h' hv
    exact ⟨v,h1,hr,h2⟩
   ·exact hr.elim
  cases e<;>simp only[kA]at hk
  ·obtain ⟨v,h1,h2,h3⟩:=fin hk
   exact ⟨h'.defers,_,h1,v,g',s',rfl,h2,h3,h'.pin,h'.mem,h'.names,h'.own,h'.frame⟩
  ·obtain ⟨v,h1,h2,h3⟩:=fin hk
   exact ⟨h'.defers,_,h1,v,g',s',rfl,h2,h3,h'.pin,h'.mem,h'.names,h'.own,h'.frame⟩
theorem nN {f:Nat} {fn:Func} {c:Code} (hf:P.funcs[f]? =some fn) (hb:fn.body=some c) {args:List AV} {k:Nat} {ins:Nat→Option aI}
  (hlen:args.length≤fn.ntmps) (hc:ak P f=true) (hargs: ∀ v ∈ args,AV.ok (fun n=>n < k) v) (hall: ∀ n,n < k→ ∃ b,ins n=some b) (fO: ∀ n b,ins n=some b→n < k∧ ∀ x ∈ b.cells,SV.ok (fun n=>n < k) x)
  {Post:AV→(Nat→Option aI)→Prop} (hv: ∀ (W:Nat→Prop) (w0:Base P),w0.pn≤k→Sound P W fn.ntmps w0 c (kA P fn.results.toList (m8 k Post)) (start args ins k)):bd P f args k ins Post:=by
 refine ⟨hc,hall,fun n b hb=>(fO n b hb).1,fun W g w hlaid iF hm hown=> ?_⟩
 refine (mF (W:=W) (g:=g) (w:=w) hf hb hlen hlaid iF ⟨fun d v hd=> ?_,fun t b ht=>fO t b ht⟩ ⟨hm.lt,hm.cell,hm.free,hm.sep⟩ hown (hv W)).mono ?_
 ·simp only[start]at hd
  exact hargs v (List.mem_of_getElem? hd)
 ·rintro e w' ⟨v,g',s',rfl,⟨q,v0,out,hq,rfl,Kv,hout,hpost⟩,_,vz,hmem,Kw,zx,hfr⟩
  have hr: ∀ n,n < k→jY k q n=n:=fun n hn=>by unfold jY;rw[if_neg (by omega)]
  have hinj: ∀ n n',n < k+1→n' < k+1→jY k q n=jY k q n'→n=n':=fun n n' h1 h2 e=>by
   unfold jY at e
   split at e<;>split at e<;>omega
  refine ⟨v0,out,fun n=>g' (jY k q n),by rw[AV.cg],hpost,fun n hn=> ?_,Kv,fun n b hb=> ?_,⟨fun t b hb=> ?_,fun t b hb i v hv=> ?_,fun t b hb hrw i hi=> ?_,fun t t' b b' hb hrw hb' hne=> ?_⟩,fun t b hb hrw=> ?_,hfr⟩
  ·show g' (jY k q n)=_
   rw[hr n hn];exact (vz n hn).2
  ·obtain ⟨h1,h2,h3,_⟩:=hout n b hb
   exact ⟨h1,h2,h3⟩
  ·obtain ⟨h1,_,_,b',h2,_⟩:=hout t b hb
   exact hmem.lt _ b' h2
  ·obtain ⟨h1,_,_,b',h2,_,h4⟩:=hout t b hb
   have:=hmem.cell _ b' h2 i (SV.ren (jY k q) v) (by rw[h4];simp[hv])
   rw[this,SV.cg]
  ·obtain ⟨h1,_,_,b',h2,h3,h4⟩:=hout t b hb
   exact hmem.free _ b' h2 (h3 hrw) i (by rw[h4];simpa using hi)
  ·obtain ⟨h1,_,_,c1,h2,h3,_⟩:=hout t b hb
   obtain ⟨h1',_,_,c2,h2',_,_⟩:=hout t' b' hb'
   exact hmem.sep _ _ c1 c2 h2 (h3 hrw) h2' (fun e=>hne (hinj _ _ h1 h1' e))
  ·obtain ⟨h1,_,_,b',h2,h3,_⟩:=hout t b hb
   exact zx _ b' h2 (h3 hrw)
end
structure zS (cs:List SV) (o n c:Nat) (f:Nat→En):Prop where
 len:cs.length=o+c*66
 room:n≤c
 plain:cs.all SV.plain=true
 shows:jE cs o n f
theorem zS.row {n c:Nat} {f:Nat→En} {tail:List SV} (hc:n≤c) (hl:tail.length=(c - n)*66) (hp:tail.all SV.plain=true):zS (EW n f++tail) 0 n c f:=
 ⟨by rw[List.length_append,zR,hl, ← Nat.add_mul];congr 1;omega,hc,by rw[List.all_append,KI,hp];rfl,KJ⟩
section
variable {P:Program} [Tables P]
end
end Go.cn
