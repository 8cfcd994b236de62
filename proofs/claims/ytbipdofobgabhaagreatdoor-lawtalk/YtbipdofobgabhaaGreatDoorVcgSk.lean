/-
  The calculus: an entry of a store as a value, rows of entries, and what a store looks like in a state. Nothing here speaks of a program's code.
-/
import Derived.Test.YtbipdofobgabhaaGreatDoorVcgSt
set_option maxRecDepth 20000
namespace Go.bA
set_option linter.unusedSectionVars false
set_option linter.unusedSimpArgs false
set_option linter.unusedVariables false
structure En where
 ep:Int
 n:Int
 aF:Nat→Int
 key:Nat→Int
def je (e:En):List SV:=Sum.inl (.int .u32 e.ep)::Sum.inl (.int .u32 e.n)::(ah .u8 32 e.aF++ah .u8 32 e.key)
def Wj:En:=⟨0,0,fun _=>0,fun _=>0⟩
theorem iz {e:En}:(je e).length=66:=by simp[je,af]
theorem jL {e:En}:(je e).all SV.plain=true:=by
 simp only[je,List.all_cons,List.all_append,az,Bool.and_true];rfl
theorem w6 {e:En}:List.take 66 (je e)=je e:=List.take_of_length_le (by rw[iz];omega)
def dQ (cs:List SV) (o n:Nat) (f:Nat→En):Prop:= ∀ i,i < n→List.take 66 (List.drop (o+i*66) cs)=je (f i)
theorem dQ.lt {cs:List SV} {o n:Nat} {f:Nat→En} (h:dQ cs o n f) {i:Nat} (hi:i < n):o+i*66+66≤cs.length:=by
 have:=congrArg List.length (h i hi)
 rw[List.length_take,List.length_drop,iz]at this
 omega
def jM:Nat→(Nat→En)→List SV
 | 0,_=>[]
 | n+1,f=>jM n f++je (f n)
theorem ll {n:Nat} {f:Nat→En}:(jM n f).length=n*66:=by
 induction n with
 | zero=>rfl
 | succ n ih=>rw[jM,List.length_append,ih,iz];omega
theorem Jh {n:Nat} {f:Nat→En}:(jM n f).all SV.plain=true:=by
 induction n with
 | zero=>rfl
 | succ n ih=>rw[jM,List.all_append,ih,jL];rfl
theorem Ji {n:Nat} {f g:Nat→En} (h: ∀ i,i < n→f i=g i):jM n f=jM n g:=by
 induction n with
 | zero=>rfl
 | succ n ih=>rw[jM,jM,ih fun i hi=>h i (by omega),h n (by omega)]
theorem QQ {n:Nat} {f:Nat→En} {i:Nat} {tail:List SV} (hi:i < n):List.take 66 (List.drop (i*66) (jM n f++tail))=je (f i):=by
 induction n generalizing tail with
 | zero=>omega
 | succ n ih=>
  rw[jM,List.append_assoc]
  by_cases h:i < n
  ·exact ih h
  ·obtain rfl:i=n:=by omega
   rw[List.drop_append_of_le_length (by rw[ll];omega),List.drop_eq_nil_of_le (by rw[ll];omega),List.nil_append,List.take_append_of_le_length (by rw[iz];omega),w6]
theorem Jj {n:Nat} {f:Nat→En} {tail:List SV}:dQ (jM n f++tail) 0 n f:=fun i hi=>by
 rw[Nat.zero_add];exact QQ hi
theorem N7 {cs:List SV} {o n m:Nat} {f:Nat→En} (h:dQ cs o n f) (hm:m≤n):dQ cs o m f:=fun i hi=>h i (by omega)
theorem C0 {cs:List SV} {o n:Nat} {f g:Nat→En} (h:dQ cs o n f) (hg: ∀ i,i < n→f i=g i):dQ cs o n g:=fun i hi=>by rw[h i hi,hg i hi]
theorem Gq {cs:List SV} {o n:Nat} {f:Nat→En} (h:dQ cs o n f):List.take (n*66) (List.drop o cs)=jM n f:=by
 induction n with
 | zero=>simp[jM]
 | succ n ih=>
  rw[jM, ← ih (N7 h (Nat.le_succ n)), ← h n (Nat.lt_succ_self n),Nat.add_mul,Nat.one_mul,List.take_add,List.drop_drop]
def aO (t:Nat) (v:SV) (n:Nat) (f:Nat→En) (cs:List SV):Prop:=((∃ a,v= .inl (.slice a 0 0))∧n=0)∨ ∃ o c,v= .inr (.inr (t,o,n,c))∧n≤c∧dQ cs o n f
theorem aO.ok {t n:Nat} {v:SV} {f:Nat→En} {cs:List SV} (h:aO t v n f cs) {M:Nat→Prop} (ht:M t):SV.ok M v:=by
 rcases h with ⟨⟨a,rfl⟩,h0⟩ | ⟨o,c,rfl,_,hs⟩
 ·exact ⟨trivial,rfl⟩
 ·exact ⟨ht,rfl⟩
theorem aO.ren {t n:Nat} {v:SV} {f:Nat→En} {cs:List SV} (h:aO t v n f cs) {r:Nat→Nat} (hr:r t=t):SV.ren r v=v:=by
 rcases h with ⟨⟨a,rfl⟩,h0⟩ | ⟨o,c,rfl,_,hs⟩
 ·rfl
 ·simp only[SV.ren,kY,hr]
theorem aO.name {n t k:Nat} {v:SV} {f:Nat→En} {cs:List SV} (h:aO t v n f cs): ∃ v0,aO k v0 n f cs∧ ∀ r:Nat→Nat,r k=t→SV.ren r v0=v:=by
 rcases h with ⟨⟨a,e⟩,h0⟩ | ⟨o,c,e,hc,hs⟩
 ·cases e;exact ⟨_, .inl ⟨⟨a,rfl⟩,h0⟩,fun r _=>rfl⟩
 ·cases e;exact ⟨_, .inr ⟨o,c,rfl,hc,hs⟩,fun r hr=>by simp only[SV.ren,kY,hr]⟩
theorem aO.len {t n:Nat} {v:SV} {f:Nat→En} {cs:List SV} (h:aO t v n f cs):eJ 1 (some [.inl (.inl v)])=some (some (I .i64 n),none):=by
 rcases h with ⟨⟨a,rfl⟩,rfl⟩ | ⟨o,c,rfl,_,hs⟩<;>rfl
section
variable {e:En} {x:Int} {g:Nat→Int}
theorem QR:(je e)[0]? =some (Sum.inl (.int .u32 e.ep)):=rfl
theorem QS:(je e)[1]? =some (Sum.inl (.int .u32 e.n)):=rfl
theorem C2:List.take 32 (List.drop 2 (je e))=ah .u8 32 e.aF:=by simp[je,af,List.take_append,bm]
theorem w9:List.take 32 (List.drop 34 (je e))=ah .u8 32 e.key:=by simp[je,af,List.drop_append,bm,bn]
theorem XJ:List.take 1 (je e)=[Sum.inl (.int .u32 e.ep)]:=rfl
theorem XK:List.take 1 (List.drop 1 (je e))=[Sum.inl (.int .u32 e.n)]:=rfl
theorem QT:splice (je e) 0 [Sum.inl (.int .u32 x)]=je { e with ep:=x }:=rfl
theorem QU:splice (je e) 1 [Sum.inl (.int .u32 x)]=je { e with n:=x }:=rfl
theorem QV:splice (je e) 2 (ah .u8 32 g)=je { e with aF:=g }:=by simp[je,splice,af,List.drop_append,bn]
theorem Me:splice (je e) 34 (ah .u8 32 g)=je { e with key:=g }:=by simp[je,splice,af,List.take_append,bm,bn]
theorem QW {e':En}:splice (je e) 0 (je e')=je e':=by
 unfold splice;rw[List.take_zero,List.nil_append,List.drop_eq_nil_of_le (by rw[iz,iz];omega),List.append_nil]
theorem XL:br (je e) 2 32 e.aF:=qF C2 (by rw[iz];omega)
theorem Uv:br (je e) 34 32 e.key:=qF w9 (by rw[iz];omega)
end
theorem Jk:(List.replicate 2 (Sum.inl (Value.int IntKind.u32 0))++List.replicate 64 (Sum.inl (Value.int IntKind.u8 0)):List SV)=je Wj:=by
 have:(List.replicate 64 (Sum.inl (Value.int IntKind.u8 0)):List SV)=ah .u8 32 (fun _=>0)++ah .u8 32 (fun _=>0):=by
  simp only[← aH,List.replicate_append_replicate]
 rw[this];rfl
theorem Ze:List.map Sum.inl (List.replicate 2 (Value.int IntKind.u32 0)++List.replicate 64 (Value.int IntKind.u8 0))=je Wj:=by
 rw[← Jk];simp only[List.map_append,List.map_replicate]
theorem gf (k:IntKind) (n:Nat) (f:Nat→Int):cj k (ah k n f)=some ((List.range n).map f):=by
 unfold ah
 induction List.range n with
 | nil=>rfl
 | cons a r ih=>simp only[List.map_cons,cj,if_true,ih]
theorem N8 (x:Nat→Int):Pr .eql 32 (cj .u8 (ah .u8 32 x)) (cj .u8 (ah .u8 32 x))=some (some (B true),none):=by
 rw[gf,CK,if_pos ⟨by simp,by simp⟩];simp
theorem yD (x:Nat→Int):Pr .neq 32 (cj .u8 (ah .u8 32 x)) (cj .u8 (ah .u8 32 x))=some (some (B false),none):=by
 rw[gf,LL,if_pos ⟨by simp,by simp⟩];simp
def tH (f:Nat→Int):Bool:=decide ((List.range 32).map f=(List.range 32).map (fun _=>(0:Int)))
theorem bE (f:Nat→Int):Pr .eql 32 (cj .u8 (ah .u8 32 f)) (cj .u8 (ah .u8 32 (fun _=>0)))=some (some (B (tH f)),none):=by
 rw[gf,gf,CK,if_pos ⟨by simp,by simp⟩];rfl
theorem bF (f:Nat→Int):Pr .neq 32 (cj .u8 (ah .u8 32 f)) (cj .u8 (ah .u8 32 (fun _=>0)))=some (some (B (!tH f)),none):=by
 rw[gf,gf,LL,if_pos ⟨by simp,by simp⟩];rfl
def iF (s:St) (n:Nat):Bool:=decide (0≤s.skip)&&decide (s.skip≤1000)&&decide (0≤s.room)&&decide (s.room≤1000)&&decide ((n:Int)≤s.room)
def fJ (s:St):Bool:=(s.own||(tH s.priv&&tH s.aF))&&(s.peer||tH s.rq)&&(s.has||tH s.send)
def im (s:St):Bool:=(!(s.re==0)||(tH s.recv&&(s.nr==0)))&&(decide (0 < s.se)||(!s.has&&(s.ns==0)&&(s.pn==0)))
def C4 (s:St):Bool:= !(decide (0 < s.se)||decide (0 < s.re))||(s.own&&s.peer)
def Py (e n:Int):Int:=e*4294967296+n
def wQ (s:St) (e:En):Bool:= !(e.ep==0)&&decide (Py e.ep e.n < Py s.re s.nr)
def Jl (s:St) (f:Nat→En) (i:Nat):Bool:=wQ s (f i)&&(decide (i=0)||decide (Py (f (i - 1)).ep (f (i - 1)).n < Py (f i).ep (f i).n))
def nD (s:St) (f:Nat→En):Nat→Bool
 | 0=>true
 | n+1=>nD s f n&&Jl s f n
def iP (s:St) (n:Nat) (f:Nat→En):Bool:=iF s n&&(s.own||s.peer)&&fJ s&&im s&&C4 s&&nD s f n
def kU (x:Int):Prop:=0≤x∧x < 4294967296
structure fy (s:St):Prop where
 root:bg s.root
 priv:bg s.priv
 aF:bg s.aF
 rq:bg s.rq
 send:bg s.send
 recv:bg s.recv
 se:kU s.se
 re:kU s.re
 ns:kU s.ns
 nr:kU s.nr
 pn:kU s.pn
 skip: -9223372036854775808≤s.skip∧s.skip < 9223372036854775808
 room: -9223372036854775808≤s.room∧s.room < 9223372036854775808
structure ku (e:En):Prop where
 ep:kU e.ep
 n:kU e.n
 aF:bg e.aF
 key:bg e.key
theorem fy.ws {s:St} (h:fy s) (v:SV):fy { s with store:=v }:=⟨h.root,h.priv,h.aF,h.rq,h.send,h.recv,h.se,h.re,h.ns,h.nr,h.pn,h.skip,h.room⟩
def iA (box:Nat→Option aI) (v:SV) (n:Nat) (f:Nat→En):Prop:= ∃ t rw cs,box t=some ⟨rw,cs⟩∧cs.all SV.plain=true∧aO t v n f cs
theorem XM (e:En):Ee 1 (cj IntKind.u32 (List.take 1 (je e))) (cj IntKind.u32 (List.take 1 (je e)))
  (Ee 1 (cj IntKind.u32 (List.take 1 (List.drop 1 (je e)))) (cj IntKind.u32 (List.take 1 (List.drop 1 (je e))))
   (Ee 32 (cj IntKind.u8 (List.take 32 (List.drop 2 (je e)))) (cj IntKind.u8 (List.take 32 (List.drop 2 (je e))))
    (Ee 32 (cj IntKind.u8 (List.take 32 (List.drop 34 (je e)))) (cj IntKind.u8 (List.take 32 (List.drop 34 (je e)))) (some true))))=some true:=by
 rw[XJ,XK,C2,w9,gf,gf]
 simp[cj,Ee]
theorem Bz:((List.replicate 2 (Value.int IntKind.u32 0)++List.replicate 64 (Value.int IntKind.u8 0)).all Value.oneCell'=true)=True:=eq_true (by decide)
theorem bY:((List.replicate 3 (Value.bool false)++List.replicate 192 (Value.int IntKind.u8 0)++List.replicate 5 (Value.int IntKind.u32 0)++List.replicate 2 (Value.int IntKind.i64 0)++List.replicate 1 (Value.slice none 0 0)).all Value.oneCell'=true)=True:=eq_true (by simp[List.all_eq_true,List.mem_replicate,Value.oneCell'])
theorem bO:type_of% @iz∧type_of% @w6∧type_of% @QR∧type_of% @QS∧type_of% @C2∧type_of% @w9∧type_of% @QT∧type_of% @QU∧type_of% @QV∧type_of% @Me∧type_of% @QW∧type_of% @Ze∧type_of% @Jk∧type_of% @Bz:=
 ⟨@iz, @w6, @QR, @QS, @C2, @w9, @QT, @QU, @QV, @Me, @QW, @Ze, @Jk, @Bz⟩
end Go.bA
