/-
  The hash in plain arithmetic: words of 32 bits, the schedule of a block, the rounds, whole messages. Nothing here speaks of a program.
-/
import Derived.Test.YtkaamnnjeandlaaDoorVcgK
import Derived.Test.YtkaamnnjeandlaaDoorVcgJ
import Derived.Test.YtkaamnnjeandlaaDoorVcgWM
set_option linter.unusedSimpArgs false
set_option linter.unusedVariables false
set_option linter.unusedSectionVars false
namespace Go.bM

theorem ob (z:Int):0≤IntKind.u32.wrap z∧IntKind.u32.wrap z < 4294967296:=by rw[wrap_u32];omega
theorem L5 (k:IntKind) (x y:Int):eK .or k x y=eK .or k y x:=by simp only[eK];rw[BitVec.or_comm]
theorem Dv (x y:Nat) (hx:x < 4294967296) (hy:y < 4294967296):
  eK .and .u32 x y=((x &&& y:Nat):Int)∧eK .or .u32 x y=((x ||| y:Nat):Int)∧eK .xor .u32 x y=((x ^^^ y:Nat):Int):=by
 have h1:x &&& y < 2^32:=Nat.and_lt_two_pow x hy
 have h2:x ||| y < 2^32:=Nat.or_lt_two_pow hx hy
 have h3:x ^^^ y < 2^32:=Nat.xor_lt_two_pow hx hy
 obtain ⟨e1,e2,e3⟩:=Dm .u32 x y hx hy
 refine ⟨e1.trans ?_,e2.trans ?_,e3.trans ?_⟩<;>rw[wrap_u32]<;>omega
theorem L6 (x y:Int) (h0:0≤x) (h1:x < 16777216) (h2:0≤y) (h3:y < 256):eK .or .u32 (xV .u32 x 8) y=x*256+y:=by
 have e:xV .u32 x 8=x*256:=by
  have:=HN .u32 x 8 (by decide)
  rw[show ((8:Nat):Int)=8 from rfl]at this
  rw[this,wrap_u32];omega
 rw[e]
 obtain ⟨a,rfl⟩:=Int.eq_ofNat_of_zero_le h0
 obtain ⟨b,rfl⟩:=Int.eq_ofNat_of_zero_le h2
 have e2:((a:Int)*256)=((a*256:Nat):Int):=by simp
 rw[e2,(Dv (a*256) b (by omega) (by omega)).2.1]
 have:a*256 ||| b=a*256+b:=by
  rw[show a*256=a <<< 8 by rw[Nat.shiftLeft_eq], ← Nat.shiftLeft_add_eq_or_of_lt (by omega)]
 rw[this];simp
theorem OL (x:Int) (h0:0≤x) (h1:x < 4294967296):eK .xor .u32 4294967295 x=4294967295 - x:=by
 obtain ⟨a,rfl⟩:=Int.eq_ofNat_of_zero_le h0
 have:=(Dv 4294967295 a (by decide) (by omega)).2.2
 rw[show ((4294967295:Nat):Int)=4294967295 from rfl]at this
 rw[this]
 have e:(4294967295 ^^^ a:Nat)=4294967295 - a:=by
  have h:=BitVec.toNat_not (x:=BitVec.ofNat 32 a)
  have e2:(~~~ BitVec.ofNat 32 a)=BitVec.ofNat 32 4294967295 ^^^ BitVec.ofNat 32 a:=by
   rw[show BitVec.ofNat 32 4294967295=BitVec.allOnes 32 from rfl,BitVec.allOnes_xor]
  rw[e2,BitVec.toNat_xor,BitVec.toNat_ofNat,BitVec.toNat_ofNat,Nat.mod_eq_of_lt (a:=a) (by omega)]at h
  simpa using h
 rw[e];omega
def Od (f:Nat→Int):Prop:= ∀ i,0≤f i∧f i < 4294967296
def uc (x n:Int):Int:=eK .or .u32 (qS .u32 x n) (xV .u32 x (32 - n))
def q6 (f:Nat→Int) (t:Nat):Nat→Int
 | 0=>0
 | m+1=>q6 f t m*256+f (4*t+m)
def L7 (f:Nat→Int) (t:Nat):Int:=q6 f t 4
theorem OM {f:Nat→Int} (hf:cU f) (t:Nat): ∀ m,m≤3→0≤q6 f t m∧q6 f t m < 16777216:=fun m hm=>by
 have h0:=hf (4*t)
 have h1:=hf (4*t+1)
 have h2:=hf (4*t+2)
 have:=(show m=0∨m=1∨m=2∨m=3 by omega)
 rcases this with rfl | rfl | rfl | rfl<;>simp only[q6,Nat.add_zero]<;>omega
theorem JL {f:Nat→Int} (hf:cU f) (t m:Nat) (hm:m≤3):eK .or .u32 (xV .u32 (q6 f t m) 8) (IntKind.u32.wrap (f (4*t+m)))=q6 f t (m+1):=by
 have h:=OM hf t m hm
 have h1:=hf (4*t+m)
 rw[Dl _ h1.1 (by omega),L6 _ _ h.1 h.2 h1.1 h1.2];rfl
theorem zt {f g:Nat→Int} {t:Nat}: ∀ m,(∀ j,j < m→f (4*t+j)=g (4*t+j))→q6 f t m=q6 g t m
 | 0,_=>rfl
 | m+1,h=>by rw[q6,q6,zt m (fun j hj=>h j (by omega)),h m (by omega)]
def Qp (W:Nat→Int) (t:Nat):Int:=
 IntKind.u32.wrap (IntKind.u32.wrap (IntKind.u32.wrap (eK .xor .u32 (eK .xor .u32 (uc (W (t - 2)) 17) (uc (W (t - 2)) 19)) (qS .u32 (W (t - 2)) 10)+W (t - 7))+
  eK .xor .u32 (eK .xor .u32 (uc (W (t - 15)) 7) (uc (W (t - 15)) 18)) (qS .u32 (W (t - 15)) 3))+W (t - 16))
def oc (f:Nat→Int):Nat→Nat→Int
 | 0=>fun _=>0
 | k+1=>upd (oc f k) k (if k < 16 then L7 f k else Qp (oc f k) k)
def JM (f:Nat→Int) (i:Nat):Int:=oc f 64 i
theorem zu {f g:Nat→Int} (h: ∀ i,i < 64→f i=g i): ∀ k,oc f k=oc g k
 | 0=>rfl
 | k+1=>by
  rw[oc,oc,zu h k]
  congr 1
  by_cases hk:k < 16
  ·rw[if_pos hk,if_pos hk];exact zt 4 fun j hj=>h _ (by omega)
  ·rw[if_neg hk,if_neg hk]
theorem JN {f g:Nat→Int} (h: ∀ i,i < 64→f i=g i):JM f=JM g:=by funext i;simp only[JM,zu h]
def Xk (r:Nat→Int) (k w:Int):Int:=
 IntKind.u32.wrap (IntKind.u32.wrap (IntKind.u32.wrap (IntKind.u32.wrap (r 7+eK .xor .u32 (eK .xor .u32 (uc (r 4) 6) (uc (r 4) 11)) (uc (r 4) 25))+
  eK .xor .u32 (eK .and .u32 (r 4) (r 5)) (eK .and .u32 (4294967295 - r 4) (r 6)))+k)+w)
def Yx (r:Nat→Int):Int:=
 IntKind.u32.wrap (eK .xor .u32 (eK .xor .u32 (uc (r 0) 2) (uc (r 0) 13)) (uc (r 0) 22)+eK .xor .u32 (eK .xor .u32 (eK .and .u32 (r 0) (r 1)) (eK .and .u32 (r 0) (r 2))) (eK .and .u32 (r 1) (r 2)))
def OO (r:Nat→Int) (k w:Int) (i:Nat):Int:=
 if i=0 then IntKind.u32.wrap (Xk r k w+Yx r) else if i=4 then IntKind.u32.wrap (r 3+Xk r k w) else r (i - 1)
theorem OP {r:Nat→Int} (h:Od r) (k w:Int):Od (OO r k w):=fun i=>by
 simp only[OO];split
 ·exact ob _
 ·split
  ·exact ob _
  ·exact h _
def rounds (K v w:Nat→Int):Nat→Nat→Int
 | 0=>v
 | k+1=>OO (rounds K v w k) (K k) (w k)
theorem zv {K v w:Nat→Int} (h:Od v): ∀ k,Od (rounds K v w k)
 | 0=>h
 | k+1=>OP (zv h k) _ _
def Dw (K v f:Nat→Int) (i:Nat):Int:=IntKind.u32.wrap (v i+rounds K v (JM f) 64 i)
theorem L8 {K v f:Nat→Int}:Od (Dw K v f):=fun i=>ob _
theorem vF {K v f g:Nat→Int} (h: ∀ i,i < 64→f i=g i):Dw K v f=Dw K v g:=by
 funext i;simp only[Dw,JN h]
def kH (K v f:Nat→Int):Nat→Nat→Int
 | 0=>v
 | k+1=>Dw K (kH K v f k) (fun i=>f (64*k+i))
theorem H2 {K v f:Nat→Int} (h:Od v): ∀ k,Od (kH K v f k)
 | 0=>h
 | k+1=>L8
theorem rU {K v f g:Nat→Int}: ∀ k,(∀ i,i < 64*k→f i=g i)→kH K v f k=kH K v g k
 | 0,_=>rfl
 | k+1,h=>by
  rw[kH,kH,rU k (fun i hi=>h i (by omega))]
  exact vF fun i hi=>h _ (by omega)
theorem Dx (K v f:Nat→Int) (a:Nat): ∀ b,kH K v f (a+b)=kH K (kH K v f a) (fun i=>f (64*a+i)) b
 | 0=>rfl
 | b+1=>by
  rw[← Nat.add_assoc,kH,kH,Dx K v f a b]
  exact vF fun i hi=>by rw[show 64*(a+b)+i=64*a+(64*b+i) by omega]
def blocks (n:Nat):Nat:=(n+8) / 64+1
def L9 (n j:Nat):Int:=((n*8 / 2^(56 - 8*j)%256:Nat):Int)
def od (f:Nat→Int) (n i:Nat):Int:=if i < n then f i else if i=n then 128 else if i < 64*blocks n - 8 then 0 else L9 n (i - (64*blocks n - 8))
theorem JO {f g:Nat→Int} {n:Nat} (h: ∀ i,i < n→f i=g i):od f n=od g n:=by
 funext i;simp only[od];split
 ·rename_i hi;exact h i hi
 ·rfl
def AL (v:Nat→Int) (i:Nat):Int:=IntKind.u8.wrap (qS .u32 (v (i / 4)) (24 - 8*((i%4:Nat):Int)))
theorem Ma (v:Nat→Int):cU (AL v):=fun i=>by simp only[AL,wrap_u8];omega
def Dy (K V f:Nat→Int) (n:Nat):Nat→Int:=AL (kH K V (od f n) (blocks n))
theorem Mb (K V f:Nat→Int) (n:Nat):cU (Dy K V f n):=Ma _
theorem JQ {K V f g:Nat→Int} {n:Nat} (h: ∀ i,i < n→f i=g i):Dy K V f n=Dy K V g n:=by simp only[Dy,JO h]
theorem Mc {f:Nat→Int} (hf:cU f) (n:Nat):cU (od f n):=fun i=>by
 simp only[od];split
 ·exact hf i
 ·split
  ·omega
  ·split
   ·omega
   ·simp only[L9];omega
theorem FG {n m:Nat} {f f' g g':Nat→Int} (h: ∀ i,i < n→f i=f' i) (h': ∀ i,i < m→g i=g' i): ∀ i,i < n+m→cN n f g i=cN n f' g' i:=fun i hi=>by
 simp only[cN];split
 ·exact h i ‹_›
 ·exact h' _ (by omega)
theorem JR {n:Nat} {f g:Nat→Int} (hf:cU f) (hg:cU g):cU (cN n f g):=fun i=>by
 simp only[cN];split
 ·exact hf i
 ·exact hg _
def kW (i:Nat):Int:=[1116352408,1899447441,3049323471,3921009573,961987163,1508970993,2453635748,2870763221,3624381080,310598401,607225278,1426881987,1925078388,2162078206,2614888103,3248222580,3835390401,4022224774,264347078,604807628,770255983,1249150122,1555081692,1996064986,2554220882,2821834349,2952996808,3210313671,3336571891,3584528711,113926993,338241895,666307205,773529912,1294757372,1396182291,1695183700,1986661051,2177026350,2456956037,2730485921,2820302411,3259730800,3345764771,3516065817,3600352804,4094571909,275423344,430227734,506948616,659060556,883997877,958139571,1322822218,1537002063,1747873779,1955562222,2024104815,2227730452,2361852424,2428436474,2756734187,3204031479,3329325298].getD i 0
def FH (i:Nat):Int:=[1779033703,3144134277,1013904242,2773480762,1359893119,2600822924,528734635,1541459225].getD i 0
theorem Md:Od FH:=fun i=>by
 rcases Nat.lt_or_ge i 8 with h | h
 ·have:((List.range 8).all fun n=>decide (0≤FH n)&&decide (FH n < 4294967296))=true:=by decide
  have:=List.all_eq_true.1 this i (List.mem_range.2 h)
  simpa using this
 ·have:FH i=0:=by simp only[FH];rw[List.getD_eq_getElem?_getD,List.getElem?_eq_none (by simpa using h)];rfl
  omega
section
variable {P:Program} [Tables P]
end
def Xl (o m c:Nat):Nat:=if c=m then o else o+m
theorem JT {cs:List SV} {o n c m:Nat} {f:Nat→Int} (h:bu cs o n f) (hm:m≤n) (hc:n≤c):bu cs (Xl o m c) (n - m) (fun i=>f (m+i)):=fun i hi=>by
 unfold Xl
 rw[if_neg (by omega),Nat.add_assoc]
 exact h (m+i) (by omega)
def H3:Nat→Code→Code
 | 0,c=>c
 | n+1, .seq _ b=>H3 n b
 | _+1,c=>c
def Me (P:Program) [Tables P] (m:Nat) (FI:AS→Prop):Nat→Code→(Exit→AS→Prop)→AS→Prop
 | 0,_,_,s=> ∃ s2,lh m s s2∧m≤s2.next∧FI s2
 | n+1, .seq a b,F,s=>oM P a (fa (Me P m FI n b F) F) s
 | _+1,_,_,_=>False
section
variable {P:Program} [Tables P] {W:Nat→Prop} {N:Nat} {w0:Base P} {g:Where} {s:AS} {a:Act} {w:World}
theorem Dz: ∀ (n:Nat) (c:Code),codeOk N c=true→codeOk N (H3 n c)=true
 | 0,c,h=>h
 | n+1, .seq a b,h=>by
  simp only[codeOk,Bool.and_eq_true]at h
  exact Dz n b h.2
 | n+1, .skip,h=>h
 | n+1, .region .., h=>h
 | n+1, .cond .., h=>h
 | n+1, .block .., h=>h
 | n+1, .loop _,h=>h
 | n+1, .exit _,h=>h
 | n+1, .ret,h=>h
 | n+1, .rangeFunc .., h=>h
 | n+1, .scope _,h=>h
 | n+1, .label _,h=>h
 | n+1, .goto _,h=>h
 | n+1, .refuse _,h=>h
def Sound (P:Program) [Tables P] (W:Nat→Prop) (N:Nat) (w0:Base P) (c:Code) (F:Exit→AS→Prop) (s:AS):Prop:=
 ∀ (g:Where) (a:Act) (w:World) (Q:Exit→Act→World→Prop),br W N w0 (fun n=>n < s.next) g s a w→
  (∀ e g' s' a' w',br W N w0 (fun n=>n < s'.next) g' s' a' w'→F e s'→Q e a' w')→c.wp P Q a w
end
theorem vA.ren {t n:Nat} {v:AV} {f:Nat→Int} {cs:List SV} (h:vA t v n f cs) {r:Nat→Nat} (hr:r t=t):AV.ren r v=v:=by
 rcases h with ⟨⟨a,rfl⟩,h0⟩ | ⟨o,c,rfl,hs⟩
 ·rfl
 ·rw[jQ,hr]
section
variable {P:Program} [Tables P] {s:AS} {m:Nat} {FI:AS→Prop}
theorem vG {n:Nat} {a b:Code} {F:Exit→AS→Prop}:Me P m FI (n+1) (.seq a b) F s=oM P a (fa (Me P m FI n b F) F) s:=rfl
end
theorem Mf:type_of% @vG:= @vG
structure St where
 own:Bool
 peer:Bool
 has:Bool
 root:Nat→Int
 priv:Nat→Int
 Mg:Nat→Int
 VZ:Nat→Int
 send:Nat→Int
 recv:Nat→Int
 se:Int
 re:Int
 ns:Int
 nr:Int
 pn:Int
 skip:Int
 room:Int
 store:SV
def bo (b:Bool):SV:=Sum.inl (.bool b)
def Tp (s:St):List SV:=[Sum.inl (.int .u32 s.se),Sum.inl (.int .u32 s.re),Sum.inl (.int .u32 s.ns),Sum.inl (.int .u32 s.nr),Sum.inl (.int .u32 s.pn),Sum.inl (.int .i64 s.skip),Sum.inl (.int .i64 s.room),s.store]
theorem vH {k:IntKind} {n m:Nat} {f:Nat→Int} (h:n≤m):List.take m (aA k n f)=aA k n f:=List.take_of_length_le (by rw[aH];exact h)
theorem FJ {k:IntKind} {n m:Nat} {f:Nat→Int} (h:n≤m):List.drop m (aA k n f)=[]:=List.drop_eq_nil_of_le (by rw[aH];exact h)
theorem pC {cs:List SV} {o n:Nat} {f:Nat→Int} (h:List.take n (List.drop o cs)=aA .u8 n f) (hl:o+n≤cs.length):bu cs o n f:=fun i hi=>by
 have:(List.take n (List.drop o cs))[i]? =some (Sum.inl (.int .u8 (f i))):=by rw[h,bI .u8 n f i hi]
 rwa [List.getElem?_take_of_lt hi,List.getElem?_drop]at this
section
variable {s:St} {g:Nat→Int} {x:Int} {b:Bool} {v:SV}
end
structure En where
 ep:Int
 n:Int
 Mg:Nat→Int
 key:Nat→Int
def E4 (e:En):List SV:=Sum.inl (.int .u32 e.ep)::Sum.inl (.int .u32 e.n)::(aA .u8 32 e.Mg++aA .u8 32 e.key)
theorem oN {e:En}:(E4 e).length=66:=by simp[E4,aH]
theorem JU {e:En}:(E4 e).all SV.plain=true:=by
 simp only[E4,List.all_cons,List.all_append,aD,Bool.and_true];rfl
theorem OQ {e:En}:List.take 66 (E4 e)=E4 e:=List.take_of_length_le (by rw[oN];omega)
def gZ (cs:List SV) (o n:Nat) (f:Nat→En):Prop:= ∀ i,i < n→List.take 66 (List.drop (o+i*66) cs)=E4 (f i)
theorem gZ.lt {cs:List SV} {o n:Nat} {f:Nat→En} (h:gZ cs o n f) {i:Nat} (hi:i < n):o+i*66+66≤cs.length:=by
 have:=congrArg List.length (h i hi)
 rw[List.length_take,List.length_drop,oN]at this
 omega
def AO:Nat→(Nat→En)→List SV
 | 0,_=>[]
 | n+1,f=>AO n f++E4 (f n)
theorem vI {n:Nat} {f:Nat→En}:(AO n f).length=n*66:=by
 induction n with
 | zero=>rfl
 | succ n ih=>rw[AO,List.length_append,ih,oN];omega
theorem FK {n:Nat} {f:Nat→En}:(AO n f).all SV.plain=true:=by
 induction n with
 | zero=>rfl
 | succ n ih=>rw[AO,List.all_append,ih,JU];rfl
theorem Mh {n:Nat} {f:Nat→En} {i:Nat} {tail:List SV} (hi:i < n):List.take 66 (List.drop (i*66) (AO n f++tail))=E4 (f i):=by
 induction n generalizing tail with
 | zero=>omega
 | succ n ih=>
  rw[AO,List.append_assoc]
  by_cases h:i < n
  ·exact ih h
  ·obtain rfl:i=n:=by omega
   rw[List.drop_append_of_le_length (by rw[vI];omega),List.drop_eq_nil_of_le (by rw[vI];omega),List.nil_append,List.take_append_of_le_length (by rw[oN];omega),OQ]
theorem FL {n:Nat} {f:Nat→En} {tail:List SV}:gZ (AO n f++tail) 0 n f:=fun i hi=>by
 rw[Nat.zero_add];exact Mh hi
theorem AP {cs:List SV} {o n:Nat} {f g:Nat→En} (h:gZ cs o n f) (hg: ∀ i,i < n→f i=g i):gZ cs o n g:=fun i hi=>by rw[h i hi,hg i hi]
def j6 (t:Nat) (v:SV) (n:Nat) (f:Nat→En) (cs:List SV):Prop:=((∃ a,v= .inl (.slice a 0 0))∧n=0)∨ ∃ o c,v= .inr (.inr (t,o,n,c))∧n≤c∧gZ cs o n f
theorem j6.ok {t n:Nat} {v:SV} {f:Nat→En} {cs:List SV} (h:j6 t v n f cs) {M:Nat→Prop} (ht:M t):SV.ok M v:=by
 rcases h with ⟨⟨a,rfl⟩,h0⟩ | ⟨o,c,rfl,_,hs⟩
 ·exact ⟨trivial,rfl⟩
 ·exact ⟨ht,rfl⟩
theorem j6.ren {t n:Nat} {v:SV} {f:Nat→En} {cs:List SV} (h:j6 t v n f cs) {r:Nat→Nat} (hr:r t=t):SV.ren r v=v:=by
 rcases h with ⟨⟨a,rfl⟩,h0⟩ | ⟨o,c,rfl,_,hs⟩
 ·rfl
 ·simp only[SV.ren,dT,hr]
theorem j6.name {n t k:Nat} {v:SV} {f:Nat→En} {cs:List SV} (h:j6 t v n f cs): ∃ v0,j6 k v0 n f cs∧ ∀ r:Nat→Nat,r k=t→SV.ren r v0=v:=by
 rcases h with ⟨⟨a,e⟩,h0⟩ | ⟨o,c,e,hc,hs⟩
 ·cases e;exact ⟨_, .inl ⟨⟨a,rfl⟩,h0⟩,fun r _=>rfl⟩
 ·cases e;exact ⟨_, .inr ⟨o,c,rfl,hc,hs⟩,fun r hr=>by simp only[SV.ren,dT,hr]⟩
theorem j6.len {t n:Nat} {v:SV} {f:Nat→En} {cs:List SV} (h:j6 t v n f cs):dI 1 (some [.inl (.inl v)])=some (some (I .i64 n),none):=by
 rcases h with ⟨⟨a,rfl⟩,rfl⟩ | ⟨o,c,rfl,_,hs⟩<;>rfl
section
variable {e:En} {x:Int} {g:Nat→Int}
theorem Rs:List.take 32 (List.drop 2 (E4 e))=aA .u8 32 e.Mg:=by simp[E4,aH,List.take_append,vH]
theorem OT:List.take 32 (List.drop 34 (E4 e))=aA .u8 32 e.key:=by simp[E4,aH,List.drop_append,vH,FJ]
theorem Rt:bu (E4 e) 2 32 e.Mg:=pC Rs (by rw[oN];omega)
theorem OU:bu (E4 e) 34 32 e.key:=pC OT (by rw[oN];omega)
end
theorem q7 (k:IntKind) (n:Nat) (f:Nat→Int):fy k (aA k n f)=some ((List.range n).map f):=by
 unfold aA
 induction List.range n with
 | nil=>rfl
 | cons a r ih=>simp only[List.map_cons,fy,if_true,ih]
def Ru (x:Int):Prop:=0≤x∧x < 4294967296
structure Rv (s:St):Prop where
 root:cU s.root
 priv:cU s.priv
 Mg:cU s.Mg
 VZ:cU s.VZ
 send:cU s.send
 recv:cU s.recv
 se:Ru s.se
 re:Ru s.re
 ns:Ru s.ns
 nr:Ru s.nr
 pn:Ru s.pn
 skip: -9223372036854775808≤s.skip∧s.skip < 9223372036854775808
 room: -9223372036854775808≤s.room∧s.room < 9223372036854775808
structure Yy (e:En):Prop where
 ep:Ru e.ep
 n:Ru e.n
 Mg:cU e.Mg
 key:cU e.key
theorem Rv.ws {s:St} (h:Rv s) (v:SV):Rv { s with store:=v }:=⟨h.root,h.priv,h.Mg,h.VZ,h.send,h.recv,h.se,h.re,h.ns,h.nr,h.pn,h.skip,h.room⟩
def Rw (s:St):Int:=(if s.own then 1 else 0)+(if s.peer then 2 else 0)+(if s.has then 4 else 0)
theorem gZ.cell {cs:List SV} {o n:Nat} {f:Nat→En} (h:gZ cs o n f) {i k:Nat} (hi:i < n) (hk:k < 66):cs[o+i*66+k]? =(E4 (f i))[k]? :=by
 rw[← h i hi,List.getElem?_take_of_lt hk,List.getElem?_drop]
theorem gZ.ep {cs:List SV} {o n:Nat} {f:Nat→En} (h:gZ cs o n f) {i:Nat} (hi:i < n):cs[o+i*66]? =some (Sum.inl (.int .u32 (f i).ep)):=h.cell (k:=0) hi (by decide)
theorem gZ.Mg {cs:List SV} {o n:Nat} {f:Nat→En} (h:gZ cs o n f) {i:Nat} (hi:i < n):bu cs (o+i*66+2) 32 (f i).Mg:=fun j hj=>by
 have:=h.cell (k:=2+j) hi (by omega)
 rw[Rt j hj]at this
 rw[← this];congr 1;omega
theorem gZ.key {cs:List SV} {o n:Nat} {f:Nat→En} (h:gZ cs o n f) {i:Nat} (hi:i < n):bu cs (o+i*66+34) 32 (f i).key:=fun j hj=>by
 have:=h.cell (k:=34+j) hi (by omega)
 rw[OU j hj]at this
 rw[← this];congr 1;omega
section
variable {a b c d e f g:Nat→Int}
end
section
variable {P:Program} [Tables P] {W:Nat→Prop} {N:Nat} {w0:Base P} {g:Where} {s:AS} {a:Act} {w:World}
theorem zw {ops:Array Oper} {nm i:Nat} {K K':AS→Prop} (h: ∀ s,K s→K' s) (hv:ub P ops nm i K s):ub P ops nm i K' s:=by
 unfold ub at hv ⊢
 split at hv
 ·exact rP h hv
 ·exact hv
theorem og {ops:Array Oper} {base:Nat} {K K':AS→Prop} (h: ∀ s,K s→K' s): ∀ (t:cp) (k:Nat) (s:AS),xZ P ops base K t k s→xZ P ops base K' t k s
 | .nil,k,s,hv=>h _ hv
 | .cons i t .nil,k,s,hv=>zw (fun s hs=>og h t (k+1) s hs) hv
 | .cons i t (.cons j u r),k,s,hv=>⟨zw (fun s hs=>og h t (k+1) s hs) hv.1,og h (.cons j u r) k s hv.2⟩
theorem iE: ∀ (c:Code) (F F':Exit→AS→Prop),(∀ e s,F e s→F' e s)→ ∀ s,oM P c F s→oM P c F' s
 | .region id ops true,F,F',h,s,hv=>by
  simp only[oM]at hv ⊢
  rcases hv with hv | ⟨hm,t,ht,hv⟩
  ·exact .inl (fu _ _ _ h s hv)
  ·exact .inr ⟨hm,t,ht,og (h _) t 0 s hv⟩
 | .seq x y,F,F',h,s,hv=>iE x _ _ (fun e s hs=>by
   cases e with
   | normal=>exact iE y _ _ h s hs
   | _=>exact h _ _ hs) s hv
 | .cond c x y,F,F',h,s,hv=>by
  simp only[oM,lN]at hv ⊢
  split at hv
  ·exact ⟨fun ht=>iE x _ _ h s (hv.1 ht),fun hf=>iE y _ _ h s (hv.2 hf)⟩
  ·exact hv
 | .block id c,F,F',h,s,hv=>iE c _ _ (fun e s hs=>by
   cases e with
   | exit id'=>
    simp only[eD]at hs ⊢
    split
    ·rename_i e;rw[if_pos e]at hs;exact h _ _ hs
    ·rename_i e;rw[if_neg e]at hs;exact h _ _ hs
   | _=>exact h _ _ hs) s hv
 | .skip,F,F',h,s,hv=>fu _ _ _ h s hv
 | .region id ops false,F,F',h,s,hv=>fu _ _ _ h s hv
 | .loop c,F,F',h,s,hv=>fu (.loop c) _ _ h s hv
 | .exit id,F,F',h,s,hv=>fu (.exit id) _ _ h s hv
 | .ret,F,F',h,s,hv=>fu .ret _ _ h s hv
 | .rangeFunc .., _,_,_,_,hv=>hv.elim
 | .scope _,_,_,_,_,hv=>hv.elim
 | .label _,_,_,_,_,hv=>hv.elim
 | .goto _,_,_,_,_,hv=>hv.elim
 | .refuse _,_,_,_,_,hv=>hv.elim
theorem zx {body:(Exit→AS→Prop)→AS→Prop} {F:Exit→AS→Prop} (hmono: ∀ (K K':AS→Prop) t,(∀ s,K s→K' s)→body (fa K F) t→body (fa K' F) t) (n:Nat) (Inv:Nat→AS→Prop) (hnext: ∀ k t,Inv k t→s.next≤t.next)
  (h0: ∃ t,Inv 0 t∧lh s.next s t) (hstep: ∀ k t,k < n→Inv k t→body (fa (fun s'=> ∃ t',Inv (k+1) t'∧lh s.next s' t') F) t) (hend: ∀ t,Inv n t→body (fa (fun _=>False) F) t):kC body F s:=by
 obtain ⟨t0,hi0,hr0⟩:=h0
 refine ⟨{ y:Nat×AS // y.1≤n∧Inv y.1 y.2 },fun y=>y.1.2,fun y=>n - y.1.1,⟨(0,t0),Nat.zero_le _,hi0⟩,hr0,fun y=>hnext _ _ y.2.2,fun y=> ?_⟩
 obtain ⟨⟨k,t⟩,h1,h2⟩:=y
 rcases Nat.lt_or_ge k n with h | h
 ·refine hmono _ _ _ (fun s' hs=> ?_) (hstep k t h h2)
  obtain ⟨t',hi,hr⟩:=hs
  exact ⟨⟨(k+1,t'),h,hi⟩,by show n - (k+1) < n - k;omega,hr⟩
 ·have e:k=n:=Nat.le_antisymm h1 h
  subst e
  exact hmono (fun _=>False) _ _ (fun s' hs=>False.elim hs) (hend t h2)
theorem Mi {c:Code} {F:Exit→AS→Prop} (n:Nat) (Inv:Nat→AS→Prop) (hnext: ∀ k t,Inv k t→s.next≤t.next)
  (h0: ∃ t,Inv 0 t∧lh s.next s t) (hstep: ∀ k t,k < n→Inv k t→vc P c (fa (fun s'=> ∃ t',Inv (k+1) t'∧lh s.next s' t') F) t) (hend: ∀ t,Inv n t→vc P c (fa (fun _=>False) F) t):kC (vc P c) F s:=
 zx (fun K K' t h hv=>fu c _ _ (fun e s hs=>by
  cases e with
  | normal=>exact h s hs
  | _=>exact hs) t hv) n Inv hnext h0 hstep hend
theorem oh {f:Nat} {fn:Func} {c:Code} (hf:P.funcs[f]? =some fn) (hb:fn.body=some c) {args:List AV} {box:Nat→Option aG} {n:Nat}
  (hlen:args.length≤fn.ntmps) (hlaid:Laid P w) (gR: ∀ b bx,Tables.row P b=some bx→ ¬ W b) (hn:Names (fun k=>k < n) (start args box n)) (hm:cw g (start args box n) w) (hown: ∀ t b,box t=some b→b.rw=true→W (g t).1)
  {Post:AV→AS→Prop} (hv: ∀ (w0:Base P),w0.pn≤n→Sound P W fn.ntmps w0 c (jX P fn.results.toList Post) (start args box n)):
  Calls P f (args.map (AV.ah g)).toArray w fun e w'=> ∃ v g' s',e= .returned (AV.ah g' v)∧Post v s'∧AV.ok (fun k=>k < s'.next) v∧(∀ k,k < n→k < s'.next∧g' k=g k)∧cw g' s' w'∧Names (fun k=>k < s'.next) s'∧
   (∀ t b,s'.box t=some b→b.rw=true→w.heap.size≤(g' t).1∨W (g' t).1)∧Frame W w w':=by
 refine calls_of_wp hf hb ?_
 refine hv ⟨w,n,g,hlaid⟩ (Nat.le_refl n) g _ w _ ⟨?_,rfl, ?_,hn,hm,fun t b hb hrw=>Or.inr (hown t b hb hrw),Frame.refl _ _,fun k hk=>⟨hk,rfl⟩,gR⟩ ?_
 ·simp;omega
 ·intro d v hd
  simp only[start]at hd
  have hlt:d < args.length:=(List.getElem?_eq_some_iff.1 hd).1
  rw[Array.getElem?_append_left (by simpa using hlt)]
  simp[hd]
 ·intro e g' s' a' w' h' hk
  have fin:nW (iV (fO P s' fn.results.toList)) Post s'→ ∃ v,(results fn a'.tmps).run P w'= .ok (AV.ah g' v) w'∧Post v s'∧AV.ok (fun k=>k < s'.next) v:=fun hr=>by
   unfold nW at hr
   split at hr
   ·rename_i v hv
    obtain ⟨h1,h2⟩:=gy h' hv
    exact ⟨v,h1,hr,h2⟩
   ·exact hr.elim
  cases e<;>simp only[jX]at hk
  ·obtain ⟨v,h1,h2,h3⟩:=fin hk
   exact ⟨h'.defers,_,h1,v,g',s',rfl,h2,h3,h'.pin,h'.mem,h'.names,h'.own,h'.frame⟩
  ·obtain ⟨v,h1,h2,h3⟩:=fin hk
   exact ⟨h'.defers,_,h1,v,g',s',rfl,h2,h3,h'.pin,h'.mem,h'.names,h'.own,h'.frame⟩
theorem pD {f:Nat} {fn:Func} {c:Code} (hf:P.funcs[f]? =some fn) (hb:fn.body=some c) {args:List AV} {k:Nat} {ins:Nat→Option aG}
  (hlen:args.length≤fn.ntmps) (hc:au P f=true) (hargs: ∀ v ∈ args,AV.ok (fun n=>n < k) v) (hall: ∀ n,n < k→ ∃ b,ins n=some b) (du: ∀ n b,ins n=some b→n < k∧ ∀ x ∈ b.cells,SV.ok (fun n=>n < k) x)
  {Post:AV→(Nat→Option aG)→Prop} (hv: ∀ (W:Nat→Prop) (w0:Base P),w0.pn≤k→Sound P W fn.ntmps w0 c (jX P fn.results.toList (nA k Post)) (start args ins k)):bC P f args k ins Post:=by
 refine ⟨hc,hall,fun n b hb=>(du n b hb).1,fun W g w hlaid gR hm hown=> ?_⟩
 refine (oh (W:=W) (g:=g) (w:=w) hf hb hlen hlaid gR ⟨fun d v hd=> ?_,fun t b ht=>du t b ht⟩ ⟨hm.lt,hm.cell,hm.free,hm.sep⟩ hown (hv W)).mono ?_
 ·simp only[start]at hd
  exact hargs v (List.mem_of_getElem? hd)
 ·rintro e w' ⟨v,g',s',rfl,⟨q,v0,out,hq,rfl,JC,hout,hpost⟩,_,uY,hmem,LJ,Dg,hfr⟩
  have hr: ∀ n,n < k→iT k q n=n:=fun n hn=>by unfold iT;rw[if_neg (by omega)]
  have hinj: ∀ n n',n < k+1→n' < k+1→iT k q n=iT k q n'→n=n':=fun n n' h1 h2 e=>by
   unfold iT at e
   split at e<;>split at e<;>omega
  refine ⟨v0,out,fun n=>g' (iT k q n),by rw[AV.bG],hpost,fun n hn=> ?_,JC,fun n b hb=> ?_,⟨fun t b hb=> ?_,fun t b hb i v hv=> ?_,fun t b hb hrw i hi=> ?_,fun t t' b b' hb hrw hb' hne=> ?_⟩,fun t b hb hrw=> ?_,hfr⟩
  ·show g' (iT k q n)=_
   rw[hr n hn];exact (uY n hn).2
  ·obtain ⟨h1,h2,h3,_⟩:=hout n b hb
   exact ⟨h1,h2,h3⟩
  ·obtain ⟨h1,_,_,b',h2,_⟩:=hout t b hb
   exact hmem.lt _ b' h2
  ·obtain ⟨h1,_,_,b',h2,_,h4⟩:=hout t b hb
   have:=hmem.cell _ b' h2 i (SV.ren (iT k q) v) (by rw[h4];simp[hv])
   rw[this,SV.bG]
  ·obtain ⟨h1,_,_,b',h2,h3,h4⟩:=hout t b hb
   exact hmem.free _ b' h2 (h3 hrw) i (by rw[h4];simpa using hi)
  ·obtain ⟨h1,_,_,c1,h2,h3,_⟩:=hout t b hb
   obtain ⟨h1',_,_,c2,h2',_,_⟩:=hout t' b' hb'
   exact hmem.sep _ _ c1 c2 h2 (h3 hrw) h2' (fun e=>hne (hinj _ _ h1 h1' e))
  ·obtain ⟨h1,_,_,b',h2,h3,_⟩:=hout t b hb
   exact Dg _ b' h2 (h3 hrw)
end
structure vJ (cs:List SV) (o n c:Nat) (f:Nat→En):Prop where
 len:cs.length=o+c*66
 room:n≤c
 plain:cs.all SV.plain=true
 shows:gZ cs o n f
theorem vJ.row {n c:Nat} {f:Nat→En} {tail:List SV} (hc:n≤c) (hl:tail.length=(c - n)*66) (hp:tail.all SV.plain=true):vJ (AO n f++tail) 0 n c f:=
 ⟨by rw[List.length_append,vI,hl, ← Nat.add_mul];congr 1;omega,hc,by rw[List.all_append,FK,hp];rfl,FL⟩
section
variable {P:Program} [Tables P]
end
end Go.bM
