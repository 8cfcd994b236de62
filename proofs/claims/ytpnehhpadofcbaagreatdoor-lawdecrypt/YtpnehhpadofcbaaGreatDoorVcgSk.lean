/-
  The calculus: an entry of a store as a value, rows of entries, and what a store looks like in a state. Nothing here speaks of a program's code.
-/
import Derived.Test.YtpnehhpadofcbaaGreatDoorVcgSt
set_option maxRecDepth 20000
namespace Go.bU
set_option linter.unusedSectionVars false
set_option linter.unusedSimpArgs false
set_option linter.unusedVariables false
structure En where
 ep:Int
 n:Int
 aG:Nat→Int
 key:Nat→Int
def gB (e:En):List SV:=Sum.inl (.int .u32 e.ep)::Sum.inl (.int .u32 e.n)::(af .u8 32 e.aG++af .u8 32 e.key)
def sL:En:=⟨0,0,fun _=>0,fun _=>0⟩
theorem eO {e:En}:(gB e).length=66:=by simp[gB,ah]
theorem jO {e:En}:(gB e).all SV.plain=true:=by
 simp only[gB,List.all_cons,List.all_append,aw,Bool.and_true];rfl
theorem vX {e:En}:List.take 66 (gB e)=gB e:=List.take_of_length_le (by rw[eO];omega)
def cO (cs:List SV) (o n:Nat) (f:Nat→En):Prop:= ∀ i,i < n→List.take 66 (List.drop (o+i*66) cs)=gB (f i)
theorem cO.lt {cs:List SV} {o n:Nat} {f:Nat→En} (h:cO cs o n f) {i:Nat} (hi:i < n):o+i*66+66≤cs.length:=by
 have:=congrArg List.length (h i hi)
 rw[List.length_take,List.length_drop,eO]at this
 omega
def jm:Nat→(Nat→En)→List SV
 | 0,_=>[]
 | n+1,f=>jm n f++gB (f n)
theorem iy {n:Nat} {f:Nat→En}:(jm n f).length=n*66:=by
 induction n with
 | zero=>rfl
 | succ n ih=>rw[jm,List.length_append,ih,eO];omega
theorem tA {n:Nat} {f:Nat→En}:(jm n f).all SV.plain=true:=by
 induction n with
 | zero=>rfl
 | succ n ih=>rw[jm,List.all_append,ih,jO];rfl
theorem L9 {n:Nat} {f g:Nat→En} (h: ∀ i,i < n→f i=g i):jm n f=jm n g:=by
 induction n with
 | zero=>rfl
 | succ n ih=>rw[jm,jm,ih fun i hi=>h i (by omega),h n (by omega)]
theorem Ja {n:Nat} {f:Nat→En} {i:Nat} {tail:List SV} (hi:i < n):List.take 66 (List.drop (i*66) (jm n f++tail))=gB (f i):=by
 induction n generalizing tail with
 | zero=>omega
 | succ n ih=>
  rw[jm,List.append_assoc]
  by_cases h:i < n
  ·exact ih h
  ·obtain rfl:i=n:=by omega
   rw[List.drop_append_of_le_length (by rw[iy];omega),List.drop_eq_nil_of_le (by rw[iy];omega),List.nil_append,List.take_append_of_le_length (by rw[eO];omega),vX]
theorem Bs {n:Nat} {f:Nat→En} {tail:List SV}:cO (jm n f++tail) 0 n f:=fun i hi=>by
 rw[Nat.zero_add];exact Ja hi
theorem yQ {n:Nat} {f:Nat→En}:cO (jm n f) 0 n f:=by
 have:=Bs (n:=n) (f:=f) (tail:=[])
 rwa [List.append_nil]at this
theorem Q6 {cs:List SV} {o n m:Nat} {f:Nat→En} (h:cO cs o n f) (hm:m≤n):cO cs o m f:=fun i hi=>h i (by omega)
theorem FY {cs:List SV} {o n:Nat} {f g:Nat→En} (h:cO cs o n f) (hg: ∀ i,i < n→f i=g i):cO cs o n g:=fun i hi=>by rw[h i hi,hg i hi]
theorem Ma {cs:List SV} {o n:Nat} {f:Nat→En} (h:cO cs o n f) (a m:Nat) (hm:a+m≤n):cO cs (o+a*66) m (fun i=>f (a+i)):=fun i hi=>by
 have:=h (a+i) (by omega)
 rw[← this];congr 2;rw[Nat.add_mul];omega
theorem Jb {cs:List SV} {o n:Nat} {f:Nat→En} (h:cO cs o n f):List.take (n*66) (List.drop o cs)=jm n f:=by
 induction n with
 | zero=>simp[jm]
 | succ n ih=>
  rw[jm, ← ih (Q6 h (Nat.le_succ n)), ← h n (Nat.lt_succ_self n),Nat.add_mul,Nat.one_mul,List.take_add,List.drop_drop]
def aH (t:Nat) (v:SV) (n:Nat) (f:Nat→En) (cs:List SV):Prop:=((∃ a,v= .inl (.slice a 0 0))∧n=0)∨ ∃ o c,v= .inr (.inr (t,o,n,c))∧n≤c∧cO cs o n f
theorem aH.ok {t n:Nat} {v:SV} {f:Nat→En} {cs:List SV} (h:aH t v n f cs) {M:Nat→Prop} (ht:M t):SV.ok M v:=by
 rcases h with ⟨⟨a,rfl⟩,h0⟩ | ⟨o,c,rfl,_,hs⟩
 ·exact ⟨trivial,rfl⟩
 ·exact ⟨ht,rfl⟩
theorem aH.aI {t n:Nat} {v:SV} {f:Nat→En} {cs:List SV} (h:aH t v n f cs) {r:Nat→Nat} (hr:r t=t):SV.aI r v=v:=by
 rcases h with ⟨⟨a,rfl⟩,h0⟩ | ⟨o,c,rfl,_,hs⟩
 ·rfl
 ·simp only[SV.aI,jI,hr]
theorem aH.name {n t k:Nat} {v:SV} {f:Nat→En} {cs:List SV} (h:aH t v n f cs): ∃ v0,aH k v0 n f cs∧ ∀ r:Nat→Nat,r k=t→SV.aI r v0=v:=by
 rcases h with ⟨⟨a,e⟩,h0⟩ | ⟨o,c,e,hc,hs⟩
 ·cases e;exact ⟨_, .inl ⟨⟨a,rfl⟩,h0⟩,fun r _=>rfl⟩
 ·cases e;exact ⟨_, .inr ⟨o,c,rfl,hc,hs⟩,fun r hr=>by simp only[SV.aI,jI,hr]⟩
theorem aH.len {t n:Nat} {v:SV} {f:Nat→En} {cs:List SV} (h:aH t v n f cs):gR 1 (some [.inl (.inl v)])=some (some (I .i64 n),none):=by
 rcases h with ⟨⟨a,rfl⟩,rfl⟩ | ⟨o,c,rfl,_,hs⟩<;>rfl
section
variable {e:En} {x:Int} {g:Nat→Int}
theorem Mb:(gB e)[0]? =some (Sum.inl (.int .u32 e.ep)):=rfl
theorem Mc:(gB e)[1]? =some (Sum.inl (.int .u32 e.n)):=rfl
theorem FZ:List.take 32 (List.drop 2 (gB e))=af .u8 32 e.aG:=by simp[gB,ah,List.take_append,bY]
theorem zK:List.take 32 (List.drop 34 (gB e))=af .u8 32 e.key:=by simp[gB,ah,List.drop_append,bY,bZ]
theorem Zd:List.take 1 (gB e)=[Sum.inl (.int .u32 e.ep)]:=rfl
theorem Ze:List.take 1 (List.drop 1 (gB e))=[Sum.inl (.int .u32 e.n)]:=rfl
theorem Ty:splice (gB e) 0 [Sum.inl (.int .u32 x)]=gB { e with ep:=x }:=rfl
theorem Md:splice (gB e) 1 [Sum.inl (.int .u32 x)]=gB { e with n:=x }:=rfl
theorem Tz:splice (gB e) 2 (af .u8 32 g)=gB { e with aG:=g }:=by simp[gB,splice,ah,List.drop_append,bZ]
theorem Pr:splice (gB e) 34 (af .u8 32 g)=gB { e with key:=g }:=by simp[gB,splice,ah,List.take_append,bY,bZ]
theorem TA {e':En}:splice (gB e) 0 (gB e')=gB e':=by
 unfold splice;rw[List.take_zero,List.nil_append,List.drop_eq_nil_of_le (by rw[eO,eO];omega),List.append_nil]
theorem Zf:aZ (gB e) 2 32 e.aG:=sK FZ (by rw[eO];omega)
theorem V8:aZ (gB e) 34 32 e.key:=sK zK (by rw[eO];omega)
end
theorem Db:(List.replicate 2 (Sum.inl (Value.int IntKind.u32 0))++List.replicate 64 (Sum.inl (Value.int IntKind.u8 0)):List SV)=gB sL:=by
 have:(List.replicate 64 (Sum.inl (Value.int IntKind.u8 0)):List SV)=af .u8 32 (fun _=>0)++af .u8 32 (fun _=>0):=by
  simp only[← aj,List.replicate_append_replicate]
 rw[this];rfl
theorem V9:List.map Sum.inl (List.replicate 2 (Value.int IntKind.u32 0)++List.replicate 64 (Value.int IntKind.u8 0))=gB sL:=by
 rw[← Db];simp only[List.map_append,List.map_replicate]
theorem gG (k:IntKind) (n:Nat) (f:Nat→Int):cS k (af k n f)=some ((List.range n).map f):=by
 unfold af
 induction List.range n with
 | nil=>rfl
 | cons a r ih=>simp only[List.map_cons,cS,if_true,ih]
theorem Me (x:Nat→Int):R' .neq 32 (cS .u8 (af .u8 32 x)) (cS .u8 (af .u8 32 x))=some (some (B false),none):=by
 rw[gG,FI,if_pos ⟨by simp,by simp⟩];simp
def xF (f:Nat→Int):Bool:=decide ((List.range 32).map f=(List.range 32).map (fun _=>(0:Int)))
theorem aL (f:Nat→Int):R' .eql 32 (cS .u8 (af .u8 32 f)) (cS .u8 (af .u8 32 (fun _=>0)))=some (some (B (xF f)),none):=by
 rw[gG,gG,O4,if_pos ⟨by simp,by simp⟩];rfl
theorem aM (f:Nat→Int):R' .neq 32 (cS .u8 (af .u8 32 f)) (cS .u8 (af .u8 32 (fun _=>0)))=some (some (B (!xF f)),none):=by
 rw[gG,gG,FI,if_pos ⟨by simp,by simp⟩];rfl
def fx (s:St) (n:Nat):Bool:=decide (0≤s.skip)&&decide (s.skip≤1000)&&decide (0≤s.room)&&decide (s.room≤1000)&&decide ((n:Int)≤s.room)
def dp (s:St):Bool:=(s.own||(xF s.priv&&xF s.aG))&&(s.peer||xF s.zA)&&(s.has||xF s.send)
def eQ (s:St):Bool:=(!(s.re==0)||(xF s.recv&&(s.nr==0)))&&(decide (0 < s.se)||(!s.has&&(s.ns==0)&&(s.pn==0)))
def qo (s:St):Bool:= !(decide (0 < s.se)||decide (0 < s.re))||(s.own&&s.peer)
def vY (e n:Int):Int:=e*4294967296+n
def vZ (s:St) (e:En):Bool:= !(e.ep==0)&&decide (vY e.ep e.n < vY s.re s.nr)
def Bt (s:St) (f:Nat→En) (i:Nat):Bool:=vZ s (f i)&&(decide (i=0)||decide (vY (f (i - 1)).ep (f (i - 1)).n < vY (f i).ep (f i).n))
def mN (s:St) (f:Nat→En):Nat→Bool
 | 0=>true
 | n+1=>mN s f n&&Bt s f n
def jn (s:St) (n:Nat) (f:Nat→En):Bool:=fx s n&&(s.own||s.peer)&&dp s&&eQ s&&qo s&&mN s f n
def mC (x:Int):Prop:=0≤x∧x < 4294967296
structure gy (s:St):Prop where
 root:br s.root
 priv:br s.priv
 aG:br s.aG
 zA:br s.zA
 send:br s.send
 recv:br s.recv
 se:mC s.se
 re:mC s.re
 ns:mC s.ns
 nr:mC s.nr
 pn:mC s.pn
 skip: -9223372036854775808≤s.skip∧s.skip < 9223372036854775808
 room: -9223372036854775808≤s.room∧s.room < 9223372036854775808
structure nV (e:En):Prop where
 ep:mC e.ep
 n:mC e.n
 aG:br e.aG
 key:br e.key
theorem gy.ws {s:St} (h:gy s) (v:SV):gy { s with store:=v }:=⟨h.root,h.priv,h.aG,h.zA,h.send,h.recv,h.se,h.re,h.ns,h.nr,h.pn,h.skip,h.room⟩
def jv (box:Nat→Option aN) (v:SV) (n:Nat) (f:Nat→En):Prop:= ∃ t rw cs,box t=some ⟨rw,cs⟩∧cs.all SV.plain=true∧aH t v n f cs
theorem Zg (e:En):G' 1 (cS IntKind.u32 (List.take 1 (gB e))) (cS IntKind.u32 (List.take 1 (gB e)))
  (G' 1 (cS IntKind.u32 (List.take 1 (List.drop 1 (gB e)))) (cS IntKind.u32 (List.take 1 (List.drop 1 (gB e))))
   (G' 32 (cS IntKind.u8 (List.take 32 (List.drop 2 (gB e)))) (cS IntKind.u8 (List.take 32 (List.drop 2 (gB e))))
    (G' 32 (cS IntKind.u8 (List.take 32 (List.drop 34 (gB e)))) (cS IntKind.u8 (List.take 32 (List.drop 34 (gB e)))) (some true))))=some true:=by
 rw[Zd,Ze,FZ,zK,gG,gG]
 simp[cS,G']
theorem v7:((List.replicate 2 (Value.int IntKind.u32 0)++List.replicate 64 (Value.int IntKind.u8 0)).all Value.oneCell'=true)=True:=eq_true (by decide)
theorem eZ:((List.replicate 3 (Value.bool false)++List.replicate 192 (Value.int IntKind.u8 0)++List.replicate 5 (Value.int IntKind.u32 0)++List.replicate 2 (Value.int IntKind.i64 0)++List.replicate 1 (Value.slice none 0 0)).all Value.oneCell'=true)=True:=eq_true (by simp[List.all_eq_true,List.mem_replicate,Value.oneCell'])
theorem mO {P:Program} [Tables P] {s:AS} {m next:Nat} {env:List (Nat×AV)} {box:List (Nat×aN)} {sa:AS→Prop} {c:Code} {F:Exit→AS→Prop} (h:iq s env box next) (hm:m≤next) (ad':sa (oZ env box next)):l9 P m sa 0 c F s:=
 ⟨oZ env box next,⟨_,h.dq,fun _ _=>rfl⟩,hm,ad'⟩
theorem bw:type_of% @eO∧type_of% @vX∧type_of% @Mb∧type_of% @Mc∧type_of% @FZ∧type_of% @zK∧type_of% @Ty∧type_of% @Md∧type_of% @Tz∧type_of% @Pr∧type_of% @TA∧type_of% @V9∧type_of% @Db∧type_of% @v7:=
 ⟨@eO, @vX, @Mb, @Mc, @FZ, @zK, @Ty, @Md, @Tz, @Pr, @TA, @V9, @Db, @v7⟩
end Go.bU
