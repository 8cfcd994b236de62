/-
  The calculus: what a row of bytes says of a state. Nothing here speaks of a program's code.
-/
import Derived.Test.YtpnehhpadofcbaaGreatDoorVcgY
namespace Go.bU
set_option linter.unusedSectionVars false
set_option linter.unusedSimpArgs false
set_option linter.unusedVariables false
theorem PJ {G:Nat→Int} (h:br G) (i:Nat):mC (dW G i):=by
 have h0:=h i;have h1:=h (i+1);have h2:=h (i+2);have h3:=h (i+3)
 unfold dW mC;omega
def PK (k N:Nat) (f:Nat→En) (sv:SV) (out:Nat→Option aN):Prop:=
 (N=0∧sv= .inl (.slice none 0 0)∧out=fun _=>none)∨(0 < N∧ ∃ c cs,sv= .inr (.inr (k,0,N,c))∧bz cs 0 N c f∧out=lk [(k,⟨true,cs⟩)])
theorem Gi {k n:Nat} {b b':aN} (h:lk [(k,b)] n=some b'):n=k∧b'=b:=by
 simp only[lk]at h
 split at h
 ·rename_i e;simp only[Option.some.injEq]at h;exact ⟨e,h.symm⟩
 ·cases h
theorem Zu {s:AS} {k q o n c:Nat} {x:St} {cs:List SV} {Post:AV→(Nat→Option aN)→Prop} (hq:k≤q) (hb:s.box q=some ⟨true,cs⟩) (hp:cs.all SV.plain=true)
  (h:Post (Ag (bC { x with store:= .inr (.inr (k,o,n,c)) })) (lk [(k,⟨true,cs⟩)])):qA k Post (Ag (bC { x with store:= .inr (.inr (q,o,n,c)) })) s:=by
 refine ⟨q,Ag (bC { x with store:= .inr (.inr (k,o,n,c)) }),lk [(k,⟨true,cs⟩)],hq, ?_,bF ⟨Nat.lt_succ_self k,rfl⟩,fun m b hm=> ?_,h⟩
 ·rw[eM];simp only[SV.aI,jI,iR]
 ·obtain ⟨rfl,rfl⟩:=Gi hm
  exact ⟨Nat.lt_succ_self _,fun _=>rfl,aC hp,⟨true,cs⟩,by rw[iR];exact hb,fun h=>h,(aQ hp _).symm⟩
theorem MI:(0 < (List.replicate 2 (Value.int IntKind.u32 0)++List.replicate 64 (Value.int IntKind.u8 0)).length)=True:=eq_true (by decide)
theorem bz.congr {cs:List SV} {o n m c:Nat} {f g:Nat→En} (h:bz cs o n c f) (e:n=m) (hfg: ∀ i,i < n→f i=g i):bz cs o m c g:=
 ⟨h.len,e▸h.room,h.plain,e▸FY h.shows hfg⟩
theorem JW {x:Int} (h0:0≤x) (h1:x < 4294967296):fC x 0*16777216+fC x 1*65536+fC x 2*256+fC x 3=x:=by
 have e0:fC x 0=x / 16777216%256:=by
  show IntKind.u8.wrap (x.fdiv 16777216)=_
  rw[Int.fdiv_eq_ediv_of_nonneg _ (by decide),wrap_u8]
 have e1:fC x 1=x / 65536%256:=by
  show IntKind.u8.wrap (x.fdiv 65536)=_
  rw[Int.fdiv_eq_ediv_of_nonneg _ (by decide),wrap_u8]
 have e2:fC x 2=x / 256%256:=by
  show IntKind.u8.wrap (x.fdiv 256)=_
  rw[Int.fdiv_eq_ediv_of_nonneg _ (by decide),wrap_u8]
 have e3:fC x 3=x%256:=by
  show IntKind.u8.wrap (x.fdiv 1)=_
  rw[Int.fdiv_eq_ediv_of_nonneg _ (by decide),wrap_u8,Int.ediv_one]
 rw[e0,e1,e2,e3];omega
abbrev zEs:List Value:=List.replicate 2 (Value.int IntKind.u32 0)++List.replicate 64 (Value.int IntKind.u8 0)
theorem zL0:jx zEs 0=[]:=rfl
theorem Ud:jx zEs 132=gB sL++gB sL:=by rfl
theorem JX:(gB sL++gB sL).length=132:=by rw[List.length_append,eO]
theorem Ue:splice (gB sL++gB sL) 0 (gB sL)=gB sL++gB sL:=by
 unfold splice;rw[List.take_zero,List.nil_append,Nat.zero_add,List.drop_left]
theorem Uf:splice (gB sL++gB sL) 66 (gB sL)=gB sL++gB sL:=by
 unfold splice;rw[List.take_left' eO,List.drop_eq_nil_of_le (by rw[List.length_append,eO];omega),List.append_nil]
theorem uJ:cO (gB sL++gB sL) 0 2 (fun _=>sL):=fun i hi=>by
 have:i=0∨i=1:=by omega
 rcases this with rfl | rfl
 ·rw[Nat.zero_mul,List.drop_zero,List.take_left' eO]
 ·show List.take 66 (List.drop 66 _)=_
  rw[List.drop_left' eO,vX]
theorem MJ:(gB sL++gB sL).all SV.plain=true:=by rw[List.all_append,jO];rfl
def BZ (k n c:Nat):List SV:=[.inr (.inr (k,0,n+2,c)), .inl (.int .i64 n)]
abbrev Wr (k n c:Nat):AV:=Ag (BZ k n c)
def qa (n:Nat) (f:Nat→En) (i:Nat):En:=if i < n then f i else sL
def Ug (k n:Nat) (f:Nat→En) (v:AV) (out:Nat→Option aN):Prop:= ∃ c cs,v=Wr k n c∧bz cs 0 (n+2) c (qa n f)∧out=lk [(k,⟨true,cs⟩)]
theorem MK {P:Program} [Tables P] {s:AS} {fn t n nm:Nat} {f:Nat→En} {args l:List AV} {rw:Bool} {cs:List SV} (h:bf P fn args 1 (lk [(0,⟨false,cs⟩)]) (Ug 1 n f)) (hb:s.box t=some ⟨rw,cs⟩) (hp:cs.all SV.plain=true) (hl:l=args.map (AV.aI fun _=>t)) {dst:Option Nat} {K:AS→Prop}
  (hk: ∀ c ds,bz ds 0 (n+2) c (qa n f)→K ((⟨s.env,upd s.box nm (some ⟨true,ds⟩),s.next⟩:AS).put dst (some (Wr nm n c)))):ax P nm fn (some l) dst K s:=by
 refine h.ax (fun _=>t) none (bS hb hp) hl ?_
 rintro v out ⟨c,ds,rfl,hg,rfl⟩ _
 rw[fN hg.plain]
 have e:AV.aI (dJ (fun _=>t) 1 nm) (Wr 1 n c)=Wr nm n c:=by
  show AV.aI _ (.inl (.inr _))=_
  simp only[AV.aI,CV.aI,BZ,List.map_cons,List.map_nil,SV.aI,jI,gT]
  rfl
 rw[e]
 exact hk c ds hg
theorem EZ {s:AS} {k q n c:Nat} {f:Nat→En} {cs:List SV} (hq:k≤q) (hb:s.box q=some ⟨true,cs⟩) (hg:bz cs 0 (n+2) c (qa n f)):qA k (Ug k n f) (Ag [.inr (.inr (q,0,n+2,c)), .inl (.int .i64 n)]) s:=by
 refine ⟨q,Wr k n c,lk [(k,⟨true,cs⟩)],hq, ?_,fun y hy=> ?_,fun m b hm=> ?_,c,cs,rfl,hg,rfl⟩
 ·show _=AV.aI _ (.inl (.inr _))
  simp only[AV.aI,CV.aI,BZ,List.map_cons,List.map_nil,SV.aI,jI,iR]
 ·simp only[BZ,List.mem_cons,List.not_mem_nil,or_false]at hy
  rcases hy with rfl | rfl
  ·exact ⟨Nat.lt_succ_self k,rfl⟩
  ·exact ⟨trivial,rfl⟩
 ·obtain ⟨rfl,rfl⟩:=Gi hm
  exact ⟨Nat.lt_succ_self _,fun _=>rfl,aC hg.plain,⟨true,cs⟩,by rw[iR];exact hb,fun h=>h,(aQ hg.plain _).symm⟩
theorem E2 {cs:List SV} {p q:Nat} {x:SV} (hp:p < cs.length):(splice cs p [x])[q]? =if q=p then some x else cs[q]? :=by
 unfold splice
 have l1:(cs.take p).length=p:=by rw[List.length_take];omega
 rcases Nat.lt_trichotomy q p with h | h | h
 ·rw[if_neg (by omega),List.append_assoc,List.getElem?_append_left (by omega),List.getElem?_take_of_lt h]
 ·subst h
  rw[if_pos rfl,List.append_assoc,List.getElem?_append_right (by omega),l1,Nat.sub_self];rfl
 ·rw[if_neg (by omega),List.getElem?_append_right (by rw[List.length_append,l1];simp;omega),List.length_append,l1,List.length_singleton,List.getElem?_drop]
  congr 1;omega
theorem Zv {cs:List SV} {n j:Nat} {g:Nat→En} {x:Int} (h:cO cs 0 n g) (hj:j < n):cO (splice cs (j*66+1) [Sum.inl (.int .u32 x)]) 0 n (upd g j { g j with n:=x }):=fun i hi=>by
 have b:=h.lt hj
 apply List.ext_getElem?
 intro q
 by_cases hq:q < 66
 ·rw[List.getElem?_take_of_lt hq,List.getElem?_drop,E2 (by omega)]
  have e:=h.cell hi hq
  by_cases e1:i=j
  ·subst e1
   rw[ay, ← Md,E2 (by rw[eO];decide)]
   by_cases e2:q=1
   ·subst e2;rw[if_pos (by omega),if_pos rfl]
   ·rw[if_neg (by omega),if_neg e2];exact e
  ·rw[bj _ _ _ _ e1,if_neg (by omega)];exact e
 ·rw[List.getElem?_eq_none (by rw[List.length_take];omega),List.getElem?_eq_none (by rw[eO];omega)]
theorem pG {cs:List SV} {p:Nat} {l:List SV} (h:cs.all SV.plain=true) (hl:l.all SV.plain=true):(splice cs p l).all SV.plain=true:=by
 unfold splice
 rw[List.all_append,List.all_append,hl]
 have a:(cs.take p).all SV.plain=true:=List.all_eq_true.2 fun x hx=>List.all_eq_true.1 h x (List.mem_of_mem_take hx)
 have b:(cs.drop (p+l.length)).all SV.plain=true:=List.all_eq_true.2 fun x hx=>List.all_eq_true.1 h x (List.mem_of_mem_drop hx)
 rw[a,b];rfl
theorem JY {cs:List SV} {p:Nat} {x:SV} (h:p < cs.length):(splice cs p [x]).length=cs.length:=by
 unfold splice;simp;omega
theorem mk2 {nm:Nat}:j7 nm (some (zEs,66,72)) (some (I .i64 2)) (some (I .i64 2))=some (some (Sl nm 0 2 2),some (.inl (gB sL++gB sL))):=by
 show (if (0≤(2:Int)∧(2:Int)≤2∧((72:Nat):Int)*2≤281474976710656∧(2:Int)≤9223372036854775807)∧(0 < zEs.length∧zEs.all Value.oneCell'=true) then some (some (Sl nm 0 2 2),some (Sum.inl (jx zEs 132))) else none:Option dP)=_
 rw[if_pos ⟨by decide,by decide,by decide⟩,Ud]
theorem Ye {a b x:SV}:splice [a,b] 0 [x]=[x,b]:=rfl
theorem Yf {a b x:SV}:splice [a,b] 1 [x]=[a,x]:=rfl
theorem ma {a b x y:SV}:splice [a,b] 0 [x,y]=[x,y]:=rfl
theorem zc {n c:Nat} {f:Nat→En} {cs:List SV} (h:bz cs 0 (n+2) c (qa n f)):cO cs 0 n f:=fun i hi=>by
 rw[h.shows i (by omega),qa,if_pos hi]
theorem ML {n c:Nat} {f:Nat→En} {cs:List SV} (h:bz cs 0 (n+2) c (qa n f)):cO cs (n*66) 2 (fun _=>sL):=fun i hi=>by
 have:=h.shows (n+i) (by omega)
 rw[qa,if_neg (by omega)]at this
 rw[← this];congr 2;rw[Nat.add_mul];omega
end Go.bU
