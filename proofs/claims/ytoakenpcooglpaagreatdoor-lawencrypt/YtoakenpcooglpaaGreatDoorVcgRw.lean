/-
  The calculus: what a row of bytes says of a state. Nothing here speaks of a program's code.
-/
import Derived.Test.YtoakenpcooglpaaGreatDoorVcgY
set_option linter.unusedVariables false
set_option linter.unusedSimpArgs false
namespace Go.cA
set_option linter.unusedSectionVars false
def LQ (k N:Nat) (f:Nat→En) (sv:SV) (out:Nat→Option aW):Prop:=
 (N=0∧sv= .inl (.slice none 0 0)∧out=fun _=>none)∨(0 < N∧ ∃ c cs,sv= .inr (.inr (k,0,N,c))∧df cs 0 N c f∧out=lk [(k,⟨true,cs⟩)])
theorem tw {k n:Nat} {b b':aW} (h:lk [(k,b)] n=some b'):n=k∧b'=b:=by
 simp only[lk]at h
 split at h
 ·rename_i e;simp only[Option.some.injEq]at h;exact ⟨e,h.symm⟩
 ·cases h
theorem agd {s:AS} {k q o n c:Nat} {x:St} {cs:List SV} {Post:AV→(Nat→Option aW)→Prop} (hq:k≤q) (hb:s.box q=some ⟨true,cs⟩) (hp:cs.all SV.plain=true)
  (h:Post (Ag (bO { x with store:= .inr (.inr (k,o,n,c)) })) (lk [(k,⟨true,cs⟩)])):Ct k Post (Ag (bO { x with store:= .inr (.inr (q,o,n,c)) })) s:=by
 refine ⟨q,Ag (bO { x with store:= .inr (.inr (k,o,n,c)) }),lk [(k,⟨true,cs⟩)],hq, ?_,cO ⟨Nat.lt_succ_self k,rfl⟩,fun m b hm=> ?_,h⟩
 ·rw[gX];simp only[SV.bh,kM]
 ·obtain ⟨rfl,rfl⟩:=tw hm
  exact ⟨Nat.lt_succ_self _,fun _=>rfl,aJ hp,⟨true,cs⟩,by rw[kM];exact hb,fun h=>h,(bj hp _).symm⟩
theorem abH:(0 < (List.replicate 2 (Value.int IntKind.u32 0)++List.replicate 64 (Value.int IntKind.u8 0)).length)=True:=eq_true (by decide)
theorem df.congr {cs:List SV} {o n m c:Nat} {f g:Nat→En} (h:df cs o n c f) (e:n=m) (hfg: ∀ i,i < n→f i=g i):df cs o m c g:=
 ⟨h.len,e▸h.room,h.plain,e▸GN h.ez hfg⟩
abbrev zEs:List Value:=List.replicate 2 (Value.int IntKind.u32 0)++List.replicate 64 (Value.int IntKind.u8 0)
theorem zL0:iw zEs 0=[]:=rfl
theorem ZC:iw zEs 132=fQ qS++fQ qS:=by rfl
theorem LR:(fQ qS++fQ qS).length=132:=by rw[List.length_append,fu]
theorem ZD:splice (fQ qS++fQ qS) 0 (fQ qS)=fQ qS++fQ qS:=by
 unfold splice;rw[List.take_zero,List.nil_append,Nat.zero_add,List.drop_left]
theorem ZE:splice (fQ qS++fQ qS) 66 (fQ qS)=fQ qS++fQ qS:=by
 unfold splice;rw[List.take_left' fu,List.drop_eq_nil_of_le (by rw[List.length_append,fu];omega),List.append_nil]
theorem qU:dw (fQ qS++fQ qS) 0 2 (fun _=>qS):=fun i hi=>by
 have:i=0∨i=1:=by omega
 rcases this with rfl | rfl
 ·rw[Nat.zero_mul,List.drop_zero,List.take_left' fu]
 ·show List.take 66 (List.drop 66 _)=_
  rw[List.drop_left' fu,wK]
theorem Oy:(fQ qS++fQ qS).all SV.plain=true:=by rw[List.all_append,kg];rfl
def Bh (k n c:Nat):List SV:=[.inr (.inr (k,0,n+2,c)), .inl (.int .i64 n)]
abbrev shV (k n c:Nat):AV:=Ag (Bh k n c)
def mK (n:Nat) (f:Nat→En) (i:Nat):En:=if i < n then f i else qS
def ZF (k n:Nat) (f:Nat→En) (v:AV) (out:Nat→Option aW):Prop:= ∃ c cs,v=shV k n c∧df cs 0 (n+2) c (mK n f)∧out=lk [(k,⟨true,cs⟩)]
theorem Oz {P:Program} [Tables P] {s:AS} {fn t n nm:Nat} {f:Nat→En} {args l:List AV} {rw:Bool} {cs:List SV} (h:bt P fn args 1 (lk [(0,⟨false,cs⟩)]) (ZF 1 n f)) (hb:s.box t=some ⟨rw,cs⟩) (hp:cs.all SV.plain=true) (hl:l=args.map (AV.bh fun _=>t)) {dst:Option Nat} {K:AS→Prop}
  (hk: ∀ c ds,df ds 0 (n+2) c (mK n f)→K ((⟨s.env,upd s.box nm (some ⟨true,ds⟩),s.next⟩:AS).put dst (some (shV nm n c)))):aB P nm fn (some l) dst K s:=by
 refine h.aB (fun _=>t) none (dp hb hp) hl ?_
 rintro v out ⟨c,ds,rfl,hg,rfl⟩ _
 rw[gb hg.plain]
 have e:AV.bh (fb (fun _=>t) 1 nm) (shV 1 n c)=shV nm n c:=by
  show AV.bh _ (.inl (.inr _))=_
  simp only[AV.bh,CV.bh,Bh,List.map_cons,List.map_nil,SV.bh,iB]
  rfl
 rw[e]
 exact hk c ds hg
theorem Fu {s:AS} {k q n c:Nat} {f:Nat→En} {cs:List SV} (hq:k≤q) (hb:s.box q=some ⟨true,cs⟩) (hg:df cs 0 (n+2) c (mK n f)):Ct k (ZF k n f) (Ag [.inr (.inr (q,0,n+2,c)), .inl (.int .i64 n)]) s:=by
 refine ⟨q,shV k n c,lk [(k,⟨true,cs⟩)],hq, ?_,fun y hy=> ?_,fun m b hm=> ?_,c,cs,rfl,hg,rfl⟩
 ·show _=AV.bh _ (.inl (.inr _))
  simp only[AV.bh,CV.bh,Bh,List.map_cons,List.map_nil,SV.bh,kM]
 ·simp only[Bh,List.mem_cons,List.not_mem_nil,or_false]at hy
  rcases hy with rfl | rfl
  ·exact ⟨Nat.lt_succ_self k,rfl⟩
  ·exact ⟨trivial,rfl⟩
 ·obtain ⟨rfl,rfl⟩:=tw hm
  exact ⟨Nat.lt_succ_self _,fun _=>rfl,aJ hg.plain,⟨true,cs⟩,by rw[kM];exact hb,fun h=>h,(bj hg.plain _).symm⟩
theorem Fv {cs:List SV} {p q:Nat} {x:SV} (hp:p < cs.length):(splice cs p [x])[q]? =if q=p then some x else cs[q]? :=by
 unfold splice
 have l1:(cs.take p).length=p:=by rw[List.length_take];omega
 rcases Nat.lt_trichotomy q p with h | h | h
 ·rw[if_neg (by omega),List.append_assoc,List.getElem?_append_left (by omega),List.getElem?_take_of_lt h]
 ·subst h
  rw[if_pos rfl,List.append_assoc,List.getElem?_append_right (by omega),l1,Nat.sub_self];rfl
 ·rw[if_neg (by omega),List.getElem?_append_right (by rw[List.length_append,l1];simp;omega),List.length_append,l1,List.length_singleton,List.getElem?_drop]
  congr 1;omega
theorem age {cs:List SV} {n j:Nat} {g:Nat→En} {x:Int} (h:dw cs 0 n g) (hj:j < n):dw (splice cs (j*66+1) [Sum.inl (.int .u32 x)]) 0 n (upd g j { g j with n:=x }):=fun i hi=>by
 have b:=h.lt hj
 apply List.ext_getElem?
 intro q
 by_cases hq:q < 66
 ·rw[List.getElem?_take_of_lt hq,List.getElem?_drop,Fv (by omega)]
  have e:=h.cell hi hq
  by_cases e1:i=j
  ·subst e1
   rw[ax, ← Ou,Fv (by rw[fu];decide)]
   by_cases e2:q=1
   ·subst e2;rw[if_pos (by omega),if_pos rfl]
   ·rw[if_neg (by omega),if_neg e2];exact e
  ·rw[bg _ _ _ _ e1,if_neg (by omega)];exact e
 ·rw[List.getElem?_eq_none (by rw[List.length_take];omega),List.getElem?_eq_none (by rw[fu];omega)]
theorem GV {cs:List SV} {p:Nat} {l:List SV} (h:cs.all SV.plain=true) (hl:l.all SV.plain=true):(splice cs p l).all SV.plain=true:=by
 unfold splice
 rw[List.all_append,List.all_append,hl]
 have a:(cs.take p).all SV.plain=true:=List.all_eq_true.2 fun x hx=>List.all_eq_true.1 h x (List.mem_of_mem_take hx)
 have b:(cs.drop (p+l.length)).all SV.plain=true:=List.all_eq_true.2 fun x hx=>List.all_eq_true.1 h x (List.mem_of_mem_drop hx)
 rw[a,b];rfl
theorem LS {cs:List SV} {p:Nat} {x:SV} (h:p < cs.length):(splice cs p [x]).length=cs.length:=by
 unfold splice;simp;omega
theorem mk2 {nm:Nat}:ix nm (some (zEs,66,72)) (some (I .i64 2)) (some (I .i64 2))=some (some (Sl nm 0 2 2),some (.inl (fQ qS++fQ qS))):=by
 show (if (0≤(2:Int)∧(2:Int)≤2∧((72:Nat):Int)*2≤281474976710656∧(2:Int)≤9223372036854775807)∧(0 < zEs.length∧zEs.all Value.oneCell'=true) then some (some (Sl nm 0 2 2),some (Sum.inl (iw zEs 132))) else none:Option dE)=_
 rw[if_pos ⟨by decide,by decide,by decide⟩,ZC]
theorem aeJ {a b x:SV}:splice [a,b] 0 [x]=[x,b]:=rfl
theorem aeK {a b x:SV}:splice [a,b] 1 [x]=[a,x]:=rfl
theorem jU {a b x y:SV}:splice [a,b] 0 [x,y]=[x,y]:=rfl
theorem nT {n c:Nat} {f:Nat→En} {cs:List SV} (h:df cs 0 (n+2) c (mK n f)):dw cs 0 n f:=fun i hi=>by
 rw[h.ez i (by omega),mK,if_pos hi]
theorem OA {n c:Nat} {f:Nat→En} {cs:List SV} (h:df cs 0 (n+2) c (mK n f)):dw cs (n*66) 2 (fun _=>qS):=fun i hi=>by
 have:=h.ez (n+i) (by omega)
 rw[mK,if_neg (by omega)]at this
 rw[← this];congr 2;rw[Nat.add_mul];omega
end Go.cA
