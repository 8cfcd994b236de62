/-
  The calculus: an entry of a store as a value, rows of entries, and what a store looks like in a state. Nothing here speaks of a program's code.
-/
import Derived.Test.YtoakenpcooglpaaGreatDoorVcgSt
set_option linter.unusedVariables false
set_option linter.unusedSimpArgs false
namespace Go.cA
set_option maxRecDepth 20000
set_option linter.unusedSectionVars false
structure En where
 ep:Int
 n:Int
 cQ:Nat→Int
 key:Nat→Int
def fQ (e:En):List SV:=Sum.inl (.int .u32 e.ep)::Sum.inl (.int .u32 e.n)::(ae .u8 32 e.cQ++ae .u8 32 e.key)
def qS:En:=⟨0,0,fun _=>0,fun _=>0⟩
theorem fu {e:En}:(fQ e).length=66:=by simp[fQ,ah]
theorem kg {e:En}:(fQ e).all SV.plain=true:=by
 simp only[fQ,List.all_cons,List.all_append,aw,Bool.and_true];rfl
theorem wK {e:En}:List.take 66 (fQ e)=fQ e:=List.take_of_length_le (by rw[fu];omega)
def dw (cs:List SV) (o n:Nat) (f:Nat→En):Prop:= ∀ i,i < n→List.take 66 (List.drop (o+i*66) cs)=fQ (f i)
theorem dw.lt {cs:List SV} {o n:Nat} {f:Nat→En} (h:dw cs o n f) {i:Nat} (hi:i < n):o+i*66+66≤cs.length:=by
 have:=congrArg List.length (h i hi)
 rw[List.length_take,List.length_drop,fu]at this
 omega
def iG:Nat→(Nat→En)→List SV
 | 0,_=>[]
 | n+1,f=>iG n f++fQ (f n)
theorem jD {n:Nat} {f:Nat→En}:(iG n f).length=n*66:=by
 induction n with
 | zero=>rfl
 | succ n ih=>rw[iG,List.length_append,ih,fu];omega
theorem qT {n:Nat} {f:Nat→En}:(iG n f).all SV.plain=true:=by
 induction n with
 | zero=>rfl
 | succ n ih=>rw[iG,List.all_append,ih,kg];rfl
theorem Oo {n:Nat} {f g:Nat→En} (h: ∀ i,i < n→f i=g i):iG n f=iG n g:=by
 induction n with
 | zero=>rfl
 | succ n ih=>rw[iG,iG,ih fun i hi=>h i (by omega),h n (by omega)]
theorem LN {n:Nat} {f:Nat→En} {i:Nat} {tail:List SV} (hi:i < n):List.take 66 (List.drop (i*66) (iG n f++tail))=fQ (f i):=by
 induction n generalizing tail with
 | zero=>omega
 | succ n ih=>
  rw[iG,List.append_assoc]
  by_cases h:i < n
  ·exact ih h
  ·obtain rfl:i=n:=by omega
   rw[List.drop_append_of_le_length (by rw[jD];omega),List.drop_eq_nil_of_le (by rw[jD];omega),List.nil_append,List.take_append_of_le_length (by rw[fu];omega),wK]
theorem Bb {n:Nat} {f:Nat→En} {tail:List SV}:dw (iG n f++tail) 0 n f:=fun i hi=>by
 rw[Nat.zero_add];exact LN hi
theorem vY {n:Nat} {f:Nat→En}:dw (iG n f) 0 n f:=by
 have:=Bb (n:=n) (f:=f) (tail:=[])
 rwa [List.append_nil]at this
theorem VF {cs:List SV} {o n m:Nat} {f:Nat→En} (h:dw cs o n f) (hm:m≤n):dw cs o m f:=fun i hi=>h i (by omega)
theorem GN {cs:List SV} {o n:Nat} {f g:Nat→En} (h:dw cs o n f) (hg: ∀ i,i < n→f i=g i):dw cs o n g:=fun i hi=>by rw[h i hi,hg i hi]
theorem LO {cs:List SV} {o n:Nat} {f:Nat→En} (h:dw cs o n f):List.take (n*66) (List.drop o cs)=iG n f:=by
 induction n with
 | zero=>simp[iG]
 | succ n ih=>
  rw[iG, ← ih (VF h (Nat.le_succ n)), ← h n (Nat.lt_succ_self n),Nat.add_mul,Nat.one_mul,List.take_add,List.drop_drop]
def aY (t:Nat) (v:SV) (n:Nat) (f:Nat→En) (cs:List SV):Prop:=((∃ a,v= .inl (.slice a 0 0))∧n=0)∨ ∃ o c,v= .inr (.inr (t,o,n,c))∧n≤c∧dw cs o n f
theorem aY.ok {t n:Nat} {v:SV} {f:Nat→En} {cs:List SV} (h:aY t v n f cs) {M:Nat→Prop} (ht:M t):SV.ok M v:=by
 rcases h with ⟨⟨a,rfl⟩,h0⟩ | ⟨o,c,rfl,_,hs⟩
 ·exact ⟨trivial,rfl⟩
 ·exact ⟨ht,rfl⟩
theorem aY.bh {t n:Nat} {v:SV} {f:Nat→En} {cs:List SV} (h:aY t v n f cs) {r:Nat→Nat} (hr:r t=t):SV.bh r v=v:=by
 rcases h with ⟨⟨a,rfl⟩,h0⟩ | ⟨o,c,rfl,_,hs⟩
 ·rfl
 ·simp only[SV.bh,hr]
theorem aY.name {n t k:Nat} {v:SV} {f:Nat→En} {cs:List SV} (h:aY t v n f cs): ∃ v0,aY k v0 n f cs∧ ∀ r:Nat→Nat,r k=t→SV.bh r v0=v:=by
 rcases h with ⟨⟨a,e⟩,h0⟩ | ⟨o,c,e,hc,hs⟩
 ·cases e;exact ⟨_, .inl ⟨⟨a,rfl⟩,h0⟩,fun r _=>rfl⟩
 ·cases e;exact ⟨_, .inr ⟨o,c,rfl,hc,hs⟩,fun r hr=>by simp only[SV.bh,hr]⟩
theorem aY.len {t n:Nat} {v:SV} {f:Nat→En} {cs:List SV} (h:aY t v n f cs):fB 1 (some [.inl (.inl v)])=some (some (I .i64 n),none):=by
 rcases h with ⟨⟨a,rfl⟩,rfl⟩ | ⟨o,c,rfl,_,hs⟩<;>rfl
section
variable {e:En} {x:Int} {g:Nat→Int}
theorem Oq:(fQ e)[0]? =some (Sum.inl (.int .u32 e.ep)):=rfl
theorem Ot:(fQ e)[1]? =some (Sum.inl (.int .u32 e.n)):=rfl
theorem GQ:List.take 32 (List.drop 2 (fQ e))=ae .u8 32 e.cQ:=by simp[fQ,ah,List.take_append,bw]
theorem wL:List.take 32 (List.drop 34 (fQ e))=ae .u8 32 e.key:=by simp[fQ,ah,List.drop_append,bw,bz]
theorem af3:List.take 1 (fQ e)=[Sum.inl (.int .u32 e.ep)]:=rfl
theorem af4:List.take 1 (List.drop 1 (fQ e))=[Sum.inl (.int .u32 e.n)]:=rfl
theorem Zs:splice (fQ e) 0 [Sum.inl (.int .u32 x)]=fQ { e with ep:=x }:=rfl
theorem Ou:splice (fQ e) 1 [Sum.inl (.int .u32 x)]=fQ { e with n:=x }:=rfl
theorem Zt:splice (fQ e) 2 (ae .u8 32 g)=fQ { e with cQ:=g }:=by simp[fQ,splice,ah,List.drop_append,bz]
theorem Uf:splice (fQ e) 34 (ae .u8 32 g)=fQ { e with key:=g }:=by simp[fQ,splice,ah,List.take_append,bw,bz]
theorem Zu {e':En}:splice (fQ e) 0 (fQ e')=fQ e':=by
 unfold splice;rw[List.take_zero,List.nil_append,List.drop_eq_nil_of_le (by rw[fu,fu];omega),List.append_nil]
theorem af5:bE (fQ e) 2 32 e.cQ:=pq GQ (by rw[fu];omega)
theorem abE:bE (fQ e) 34 32 e.key:=pq wL (by rw[fu];omega)
end
theorem Ov:(List.replicate 2 (Sum.inl (Value.int IntKind.u32 0))++List.replicate 64 (Sum.inl (Value.int IntKind.u8 0)):List SV)=fQ qS:=by
 have:(List.replicate 64 (Sum.inl (Value.int IntKind.u8 0)):List SV)=ae .u8 32 (fun _=>0)++ae .u8 32 (fun _=>0):=by
  simp only[← al,List.replicate_append_replicate]
 rw[this];rfl
theorem zEn:List.map Sum.inl (List.replicate 2 (Value.int IntKind.u32 0)++List.replicate 64 (Value.int IntKind.u8 0))=fQ qS:=by
 rw[← Ov];simp only[List.map_append,List.map_replicate]
theorem jE (k:IntKind) (n:Nat) (f:Nat→Int):cZ k (ae k n f)=some ((List.range n).map f):=by
 unfold ae
 induction List.range n with
 | nil=>rfl
 | cons a r ih=>simp only[List.map_cons,cZ,if_true,ih]
theorem Ow (x:Nat→Int):eqL .neq 32 (cZ .u8 (ae .u8 32 x)) (cZ .u8 (ae .u8 32 x))=some (some (B false),none):=by
 rw[jE,wI,if_pos ⟨by simp,by simp⟩];simp
def tv (f:Nat→Int):Bool:=decide ((List.range 32).map f=(List.range 32).map (fun _=>(0:Int)))
theorem aL (f:Nat→Int):eqL .eql 32 (cZ .u8 (ae .u8 32 f)) (cZ .u8 (ae .u8 32 (fun _=>0)))=some (some (B (tv f)),none):=by
 rw[jE,jE,Gm,if_pos ⟨by simp,by simp⟩];rfl
theorem aM (f:Nat→Int):eqL .neq 32 (cZ .u8 (ae .u8 32 f)) (cZ .u8 (ae .u8 32 (fun _=>0)))=some (some (B (!tv f)),none):=by
 rw[jE,jE,wI,if_pos ⟨by simp,by simp⟩];rfl
def gL (s:St) (n:Nat):Bool:=decide (0≤s.skip)&&decide (s.skip≤1000)&&decide (0≤s.room)&&decide (s.room≤1000)&&decide ((n:Int)≤s.room)
def cY (s:St):Bool:=(s.own||(tv s.priv&&tv s.cQ))&&(s.peer||tv s.rU)&&(s.has||tv s.send)
def dT (s:St):Bool:=(!(s.re==0)||(tv s.recv&&(s.nr==0)))&&(decide (0 < s.se)||(!s.has&&(s.ns==0)&&(s.pn==0)))
def mW (s:St):Bool:= !(decide (0 < s.se)||decide (0 < s.re))||(s.own&&s.peer)
def rV (e n:Int):Int:=e*4294967296+n
def rW (s:St) (e:En):Bool:= !(e.ep==0)&&decide (rV e.ep e.n < rV s.re s.nr)
def Bc (s:St) (f:Nat→En) (i:Nat):Bool:=rW s (f i)&&(decide (i=0)||decide (rV (f (i - 1)).ep (f (i - 1)).n < rV (f i).ep (f i).n))
def kt (s:St) (f:Nat→En):Nat→Bool
 | 0=>true
 | n+1=>kt s f n&&Bc s f n
def iq (s:St) (n:Nat) (f:Nat→En):Bool:=gL s n&&(s.own||s.peer)&&cY s&&dT s&&mW s&&kt s f n
def HD (x:Int):Prop:=0≤x∧x < 4294967296
structure iH (s:St):Prop where
 root:bY s.root
 priv:bY s.priv
 cQ:bY s.cQ
 rU:bY s.rU
 send:bY s.send
 recv:bY s.recv
 se:HD s.se
 re:HD s.re
 ns:HD s.ns
 nr:HD s.nr
 pn:HD s.pn
 skip: -9223372036854775808≤s.skip∧s.skip < 9223372036854775808
 room: -9223372036854775808≤s.room∧s.room < 9223372036854775808
structure la (e:En):Prop where
 ep:HD e.ep
 n:HD e.n
 cQ:bY e.cQ
 key:bY e.key
theorem iH.ws {s:St} (h:iH s) (v:SV):iH { s with store:=v }:=⟨h.root,h.priv,h.cQ,h.rU,h.send,h.recv,h.se,h.re,h.ns,h.nr,h.pn,h.skip,h.room⟩
def gS (box:Nat→Option aW) (v:SV) (n:Nat) (f:Nat→En):Prop:= ∃ t rw cs,box t=some ⟨rw,cs⟩∧cs.all SV.plain=true∧aY t v n f cs
theorem af6 (e:En):Gd 1 (cZ IntKind.u32 (List.take 1 (fQ e))) (cZ IntKind.u32 (List.take 1 (fQ e)))
  (Gd 1 (cZ IntKind.u32 (List.take 1 (List.drop 1 (fQ e)))) (cZ IntKind.u32 (List.take 1 (List.drop 1 (fQ e))))
   (Gd 32 (cZ IntKind.u8 (List.take 32 (List.drop 2 (fQ e)))) (cZ IntKind.u8 (List.take 32 (List.drop 2 (fQ e))))
    (Gd 32 (cZ IntKind.u8 (List.take 32 (List.drop 34 (fQ e)))) (cZ IntKind.u8 (List.take 32 (List.drop 34 (fQ e)))) (some true))))=some true:=by
 rw[af3,af4,GQ,wL,jE,jE]
 simp[cZ,Gd]
theorem Fq:((List.replicate 2 (Value.int IntKind.u32 0)++List.replicate 64 (Value.int IntKind.u8 0)).all Value.oneCell'=true)=True:=eq_true (by decide)
theorem bL:((List.replicate 3 (Value.bool false)++List.replicate 192 (Value.int IntKind.u8 0)++List.replicate 5 (Value.int IntKind.u32 0)++List.replicate 2 (Value.int IntKind.i64 0)++List.replicate 1 (Value.slice none 0 0)).all Value.oneCell'=true)=True:=eq_true (by simp[List.all_eq_true,List.mem_replicate,Value.oneCell'])
theorem ku {P:Program} [Tables P] {s:AS} {m next:Nat} {env:List (Nat×AV)} {box:List (Nat×aW)} {oO:AS→Prop} {c:Code} {F:Exit→AS→Prop} (h:ga s env box next) (hm:m≤next) (alv:oO (ou env box next)):jT P m oO 0 c F s:=
 ⟨ou env box next,⟨_,h.dv,fun _ _=>rfl⟩,hm,alv⟩
theorem fK:type_of% @fu∧type_of% @wK∧type_of% @Oq∧type_of% @Ot∧type_of% @GQ∧type_of% @wL∧type_of% @Zs∧type_of% @Ou∧type_of% @Zt∧type_of% @Uf∧type_of% @Zu∧type_of% @zEn∧type_of% @Ov∧type_of% @Fq:=
 ⟨@fu, @wK, @Oq, @Ot, @GQ, @wL, @Zs, @Ou, @Zt, @Uf, @Zu, @zEn, @Ov, @Fq⟩
end Go.cA
