/-
  The disk of the journal, as the calculus sees it: waiting writes, what they do to the bytes. Nothing here speaks of a program.
-/
import Derived.Test.YtkaamnnjeandlaaDoorVcgRw
set_option linter.unusedSimpArgs false
set_option linter.unusedVariables false
namespace Go.bM
set_option linter.unusedSectionVars false
abbrev Pd:=Nat×(Nat→Int)
def ka (f:Nat→Int) (p:Pd) (i:Nat):Int:=if 64*p.1≤i∧i < 64*p.1+64 then p.2 (i - 64*p.1) else f i
def eh (f:Nat→Int) (L:List Pd):Nat→Int:=L.foldl ka f
def uf (p:Pd):List SV:=Sum.inl (.int .i64 p.1)::aA .u8 64 p.2
theorem gF {p:Pd}:(uf p).length=65:=by simp[uf,aH]
theorem Kg {p:Pd}:(uf p).all SV.plain=true:=by
 rw[uf,List.all_cons,aD];rfl
theorem QE {p:Pd}:(uf p)[0]? =some (Sum.inl (.int .i64 p.1)):=rfl
theorem QF {p:Pd}:List.take 64 (List.drop 1 (uf p))=aA .u8 64 p.2:=by
 show List.take 64 (aA .u8 64 p.2)=_
 exact oK _ _ _
def tK:List Pd→List SV
 | []=>[]
 | p::L=>uf p++tK L
theorem uq: ∀ {L:List Pd},(tK L).length=65*L.length
 | []=>rfl
 | p::L=>by rw[tK,List.length_append,gF,uq,List.length_cons];omega
theorem sm: ∀ {L:List Pd},(tK L).all SV.plain=true
 | []=>rfl
 | p::L=>by rw[tK,List.all_append,Kg,sm];rfl
theorem IA: ∀ {L M:List Pd},tK (L++M)=tK L++tK M
 | [],M=>rfl
 | p::L,M=>by rw[List.cons_append,tK,tK,IA,List.append_assoc]
structure ji (cs:List SV) (L:List Pd):Prop where
 at_: ∀ (j:Nat) (u:SV),(tK L)[j]? =some u→cs[j]? =some u
 plain:cs.all SV.plain=true
theorem ji.row {L:List Pd} {tail:List SV} (h:tail.all SV.plain=true):ji (tK L++tail) L:=
 ⟨fun j u hj=>by rw[List.getElem?_append_left (List.getElem?_eq_some_iff.1 hj).1];exact hj,by rw[List.all_append,sm,h];rfl⟩
theorem IB: ∀ {L:List Pd} {i:Nat} {p:Pd} (_:L[i]? =some p),List.take 65 (List.drop (i*65) (tK L))=uf p
 | [],i,p,h=>by simp at h
 | q::L,0,p,h=>by
  simp only[List.getElem?_cons_zero,Option.some.injEq]at h
  subst h
  rw[Nat.zero_mul,List.drop_zero,tK,List.take_append_of_le_length (by rw[gF];exact Nat.le_refl _),List.take_of_length_le (by rw[gF];exact Nat.le_refl _)]
 | q::L,i+1,p,h=>by
  simp only[List.getElem?_cons_succ]at h
  have e:(i+1)*65=(uf q).length+i*65:=by rw[gF];omega
  have d0:List.drop ((uf q).length+i*65) (uf q)=[]:=List.drop_eq_nil_of_le (by omega)
  rw[tK,e,List.drop_append,d0,List.nil_append,Nat.add_sub_cancel_left,IB h]
theorem ji.take {cs:List SV} {L:List Pd} (h:ji cs L) {i:Nat} {p:Pd} (hp:L[i]? =some p):List.take 65 (List.drop (i*65) cs)=uf p:=by
 have h1:=IB hp
 apply List.ext_getElem?
 intro j
 by_cases hj:j < 65
 ·obtain ⟨u,hu⟩: ∃ u,(uf p)[j]? =some u:=⟨_,List.getElem?_eq_getElem (by rw[gF];exact hj)⟩
  rw[hu,List.getElem?_take_of_lt hj,List.getElem?_drop]
  refine h.at_ _ _ ?_
  rw[← h1,List.getElem?_take_of_lt hj,List.getElem?_drop]at hu
  exact hu
 ·rw[List.getElem?_eq_none (by rw[List.length_take];omega),List.getElem?_eq_none (by rw[gF];omega)]
theorem ji.le {cs:List SV} {L:List Pd} (h:ji cs L):65*L.length≤cs.length:=by
 rcases Nat.lt_or_ge cs.length (65*L.length) with hl | hl
 ·have h1:cs.length < (tK L).length:=by rw[uq];exact hl
  have:=h.at_ cs.length _ (List.getElem?_eq_getElem h1)
  rw[List.getElem?_eq_none (Nat.le_refl _)]at this
  cases this
 ·exact hl
theorem kS {f:Nat→Int}:eh f []=f:=rfl
theorem Kh {f:Nat→Int} {L:List Pd} {p:Pd}:eh f (L++[p])=ka (eh f L) p:=by unfold eh;rw[List.foldl_append];rfl
theorem take_succ {L:List Pd} {i:Nat} {p:Pd} (h:L[i]? =some p):L.take (i+1)=L.take i++[p]:=by
 rw[List.take_add_one,h];rfl
theorem Pe {m a:Nat} {f g:Nat→Int} (h:a < m):splice (aA .u8 (64*m) f) (a*64) (aA .u8 64 g)=aA .u8 (64*m) (ka f (a,g)):=by
 rw[oa _ _ _ _ _ _ (by omega)]
 exact c7 fun i hi=>by
  unfold ka
  rw[Nat.mul_comm a 64]
def cZ (kn:Nat) (kb:Nat→Bool):Nat→List Pd→List Pd
 | _,[]=>[]
 | i,p::L=>if i < kn∧kb i=true then p::cZ kn kb (i+1) L else cZ kn kb (i+1) L
theorem wO {kn:Nat} {kb:Nat→Bool}: ∀ (i:Nat) (L:List Pd) (p:Pd),cZ kn kb i (L++[p])=cZ kn kb i L++(if i+L.length < kn∧kb (i+L.length)=true then [p] else [])
 | i,[],p=>by simp[cZ]
 | i,q::L,p=>by
  have:=wO (kn:=kn) (kb:=kb) (i+1) L p
  rw[List.cons_append]
  unfold cZ
  rw[this,List.length_cons,show i+(L.length+1)=i+1+L.length by omega]
  split<;>rfl
theorem sn {kn:Nat} {kb:Nat→Bool}: ∀ (i:Nat) (L:List Pd),(cZ kn kb i L).length≤L.length
 | i,[]=>Nat.le_refl _
 | i,p::L=>by
  have:=sn (kn:=kn) (kb:=kb) (i+1) L
  unfold cZ
  split
  ·simp;omega
  ·simp;omega
theorem sq {kn:Nat} {kb:Nat→Bool}: ∀ (i:Nat) (L:List Pd) (p:Pd),p ∈ cZ kn kb i L→p ∈ L
 | i,[],p,h=>h
 | i,q::L,p,h=>by
  unfold cZ at h
  split at h
  ·rcases List.mem_cons.1 h with rfl | h
   ·exact List.mem_cons_self ..
   ·exact List.mem_cons_of_mem _ (sq _ _ _ h)
  ·exact List.mem_cons_of_mem _ (sq _ _ _ h)
def Fit (m:Nat) (L:List Pd):Prop:= ∀ p ∈ L,p.1 < m
theorem Fit.at {m:Nat} {L:List Pd} (h:Fit m L) {i:Nat} {p:Pd} (hp:L[i]? =some p):p.1 < m:=h p (List.mem_of_getElem? hp)
theorem Fit.keep {m:Nat} {L:List Pd} (h:Fit m L) {kn:Nat} {kb:Nat→Bool} {i:Nat}:Fit m (cZ kn kb i L):=fun p hp=>h p (sq _ _ _ hp)
theorem TY:(List.replicate 1 (Value.int .i64 0)++List.replicate 64 (Value.int .u8 0)).all Value.oneCell'=true:=by rfl
theorem T0:(65≤(List.map (Sum.inl:Value→SV) (List.replicate 1 (Value.int .i64 0)++List.replicate 64 (Value.int .u8 0))).length)=True:=eq_true (by simp)
theorem T1 {p:Pd}:splice (List.map (Sum.inl:Value→SV) (List.replicate 1 (Value.int .i64 0)++List.replicate 64 (Value.int .u8 0))) 0 (uf p)=uf p:=by
 unfold splice
 rw[List.take_zero,List.nil_append,List.drop_eq_nil_of_le (by rw[gF];simp),List.append_nil]
theorem T2:(0 < (List.replicate 1 (Value.int .i64 0)++List.replicate 64 (Value.int .u8 0)).length)=True:=eq_true (by simp)
theorem T3 {p:Pd}:List.take 65 (uf p)=uf p:=List.take_of_length_le (by rw[gF];exact Nat.le_refl _)
theorem T4:(65≤(gi (List.replicate 1 (Value.int .i64 0)++List.replicate 64 (Value.int .u8 0)) 65).length)=True:=eq_true (by simp[gi])
theorem T5 {p:Pd}:splice (gi (List.replicate 1 (Value.int .i64 0)++List.replicate 64 (Value.int .u8 0)) 65) 0 (uf p)=uf p:=by
 unfold splice
 rw[List.take_zero,List.nil_append,List.drop_eq_nil_of_le (by rw[gF];simp[gi]),List.append_nil]
theorem T6:(1≤(List.replicate 1 (Sum.inl (Value.int .i64 0))++List.replicate 64 (Sum.inl (Value.int .u8 0)):List SV).length)=True:=eq_true (by simp)
theorem T7 {x:SV}:(65≤(splice (List.replicate 1 (Sum.inl (Value.int .i64 0))++List.replicate 64 (Sum.inl (Value.int .u8 0)):List SV) 0 [x]).length)=True:=eq_true (by simp[splice])
theorem T8 {a:Nat} {d:Nat→Int}:splice (splice (List.replicate 1 (Sum.inl (Value.int .i64 0))++List.replicate 64 (Sum.inl (Value.int .u8 0)):List SV) 0 [Sum.inl (Value.int .i64 a)]) 1 (aA .u8 64 d)=uf (a,d):=by
 have e:splice (List.replicate 1 (Sum.inl (Value.int .i64 0))++List.replicate 64 (Sum.inl (Value.int .u8 0)):List SV) 0 [Sum.inl (Value.int .i64 a)]=Sum.inl (Value.int .i64 a)::List.replicate 64 (Sum.inl (Value.int .u8 0)):=by
  simp[splice]
 rw[e]
 unfold splice uf
 simp[aH]
theorem cO:type_of% @T6∧type_of% @T7∧type_of% @T8∧type_of% @TY∧type_of% @T0∧type_of% @T1∧type_of% @T2∧type_of% @T3∧type_of% @T4∧type_of% @T5∧type_of% @gF∧type_of% @QE∧type_of% @QF:=
 ⟨@T6, @T7, @T8, @TY, @T0, @T1, @T2, @T3, @T4, @T5, @gF, @QE, @QF⟩
def ft (t:Nat) (sv:SV) (n:Nat) (f:Nat→Bool) (cs:List SV):Prop:=((∃ a,sv= .inl (.slice a 0 0))∧n=0)∨ ∃ o c,sv= .inr (.inr (t,o,n,c))∧ ∀ i,i < n→cs[o+i]? =some (Sum.inl (.bool (f i)))
theorem ft.len {t n:Nat} {sv:SV} {f:Nat→Bool} {cs:List SV} (h:ft t sv n f cs):dI 1 (some [Sum.inl (Sum.inl sv)])=some (some (I .i64 n),none):=by
 rcases h with ⟨⟨a,rfl⟩,rfl⟩ | ⟨o,c,rfl,hs⟩<;>rfl
theorem ft.ok {t n:Nat} {sv:SV} {f:Nat→Bool} {cs:List SV} (h:ft t sv n f cs) {M:Nat→Prop} (hM:M t):SV.ok M sv:=by
 rcases h with ⟨⟨a,rfl⟩,h0⟩ | ⟨o,c,rfl,hs⟩
 ·exact ⟨trivial,rfl⟩
 ·exact ⟨hM,rfl⟩
theorem ft.ren {t u n:Nat} {sv:SV} {f:Nat→Bool} {cs:List SV} {r:Nat→Nat} (h:ft t sv n f cs) (hr:r t=u):ft u (SV.ren r sv) n f cs:=by
 rcases h with ⟨⟨a,rfl⟩,h0⟩ | ⟨o,c,rfl,hs⟩
 ·exact .inl ⟨⟨a,rfl⟩,h0⟩
 ·exact .inr ⟨o,c,by simp only[SV.ren,hr],hs⟩
def RN (k:Nat) (L:List Pd) (v:AV) (out:Nat→Option aG):Prop:=
 (L=[]∧v=V (.slice none 0 0)∧out=fun _=>none)∨(L≠[]∧ ∃ c tail,v=Sl k 0 L.length c∧L.length≤c∧tail.length=(c - L.length)*65∧tail.all SV.plain=true∧out=lk [(k,⟨true,tK L++tail⟩)])
structure fb (cs:List SV) (L:List Pd) (c:Nat):Prop where
 ex: ∃ tail,cs=tK L++tail∧tail.length=(c - L.length)*65∧tail.all SV.plain=true
 room:L.length≤c
theorem fb.shows {cs:List SV} {L:List Pd} {c:Nat} (h:fb cs L c):ji cs L:=by
 obtain ⟨⟨tail,rfl,h1,h2⟩,h3⟩:=h
 exact ji.row h2
theorem fb.len {cs:List SV} {L:List Pd} {c:Nat} (h:fb cs L c):cs.length=c*65:=by
 obtain ⟨⟨tail,rfl,h1,h2⟩,h3⟩:=h
 rw[List.length_append,uq,h1]
 omega
section
variable {P:Program} [Tables P] {s:AS} {nm:Nat} {K:AS→Prop} {dst:Option Nat} {ty:TypeId} {ct:Array Bool}
theorem zU {t mq u:Nat} {eY:Bool} {p:Pd} (hk:qU P t=some (List.replicate 1 (Value.int .i64 0)++List.replicate 64 (Value.int .u8 0),65,mq)) (hx:sF P t=some (none,65)) (hb:s.box u=some ⟨eY,uf p⟩) (hby:mq≤140737488355328)
  (hK: ∀ c' cs',fb cs' [p] c'→K (({ s with box:=upd s.box nm (some ⟨true,cs'⟩) }:AS).put dst (some (Sl nm 0 1 c')))):
  bU P nm .append #[t,t] ty ct (some [V (.slice none 0 0),Sl u 0 1 1]) dst K s:=by
 refine (kG (news:=uf p) hk hx rfl (by decide) rfl (.inl ⟨u,0,1,_,rfl,hb,by rw[gF],fun j u h=>by simpa using h,by simp⟩) (by decide) (by omega) (fun h=>by cases h) fun _ c' tail h1 h2 h3=> ?_).plain
 exact hK c' _ ⟨⟨tail,by rw[tK,tK,List.append_nil],h2,h3⟩,h1⟩
theorem D8 {t mq b u c:Nat} {eY:Bool} {cs:List SV} {L:List Pd} {p:Pd} (hk:qU P t=some (List.replicate 1 (Value.int .i64 0)++List.replicate 64 (Value.int .u8 0),65,mq)) (hx:sF P t=some (none,65)) (hg:fb cs L c) (hb:s.box b=some ⟨true,cs⟩) (hu:s.box u=some ⟨eY,uf p⟩) (hne:b≠u)
  (hl:L.length < 1048576) (hby:mq≤1048576)
  (hK: ∀ c' cs',fb cs' (L++[p]) c'→K (({ s with box:=upd (upd s.box b none) nm (some ⟨true,cs'⟩) }:AS).put dst (some (Sl nm 0 (L.length+1) c')))):
  bU P nm .append #[t,t] ty ct (some [Sl b 0 L.length c,Sl u 0 1 1]) dst K s:=by
 refine (pS (olds:=tK L) (news:=uf p) hk hx rfl (by decide) rfl hb (by rw[hg.len,Nat.zero_add]) hg.room (by rw[uq,Nat.mul_comm]) (fun j u h=>by rw[Nat.zero_add];exact hg.shows.at_ j u h) hg.shows.plain (.inl ⟨u,0,1,_,rfl,hu,by rw[gF],fun j u h=>by simpa using h,by simpa using hne⟩) (by omega) ?_ fun c' tail h1 h2 h3=> ?_).plain
 ·have:(L.length+1)*mq≤1048576*1048576:=Nat.mul_le_mul (by omega) hby
  omega
 ·exact hK c' _ ⟨⟨tail,by rw[IA,tK,tK,List.append_nil],by rw[h2,List.length_append,List.length_singleton],h3⟩,by rw[List.length_append,List.length_singleton];exact h1⟩
end
theorem dx.nC {s:AS} {env:List (Nat×AV)} {box:List (Nat×aG)} {next m:Nat} (h:dx s env box next):lh m s (nX env box next):=⟨fun n=>n,h.eW,fun _ _=>rfl⟩
theorem Gj {kn:Nat} {kb:Nat→Bool} {L:List Pd} {k:Nat} {p:Pd} (hp:L[k]? =some p):cZ kn kb 0 (L.take (k+1))=cZ kn kb 0 (L.take k)++(if k < kn∧kb k=true then [p] else []):=by
 have hk:k < L.length:=(List.getElem?_eq_some_iff.1 hp).1
 rw[take_succ hp,wO,List.length_take,Nat.min_eq_left (by omega),Nat.zero_add]
theorem M5 {s:AS} {t u:Nat} {rw':Bool} {cs ds:List SV} (h:s.box t=some ⟨true,cs⟩) (hp:cs.all SV.plain=true) (h':s.box u=some ⟨rw',ds⟩) (hp':ds.all SV.plain=true) (hne:t≠u):Fits s (two t u) (lk [(0,⟨true,cs⟩),(1,⟨false,ds⟩)]) (some 0):=by
 refine ⟨fun n b hb=> ?_,fun n n' b b' hb hrw hb' e=> ?_,fun n b hb hrw=> ?_,fun n hn=> ?_⟩
 ·rcases Qm hb with ⟨rfl,rfl⟩ | ⟨rfl,rfl⟩
  ·exact ⟨_,h,fun h=>h,(az hp _).symm⟩
  ·exact ⟨_,h',fun h=>(by cases h),(az hp' _).symm⟩
 ·rcases Qm hb with ⟨rfl,rfl⟩ | ⟨rfl,rfl⟩
  ·rcases Qm hb' with ⟨rfl,rfl⟩ | ⟨rfl,rfl⟩
   ·rfl
   ·exact absurd e hne
  ·cases hrw
 ·rcases Qm hb with ⟨rfl,rfl⟩ | ⟨rfl,rfl⟩
  ·rfl
  ·cases hrw
 ·cases hn
  exact ⟨_,rfl,rfl⟩
theorem M6 {s:AS} {t u nm:Nat} {cs:List SV} (hp:cs.all SV.plain=true):after s (two t u) 2 nm (some 0) (lk [(0,⟨true,cs⟩)])=upd s.box t (some ⟨true,cs⟩):=by
 simp[after,lk,aG.ren,az hp,two]
theorem kd {s:AS} {r:Nat→Nat} {l:List (Nat×aG)} {ws:List Nat} (h: ∀ x ∈ l,(∃ rw',s.box (r x.1)=some ⟨rw',x.2.cells.map (SV.ren r)⟩∧(x.2.rw=true→rw'=true))∧(x.2.rw=true→x.1 ∈ ws∧ ∀ y ∈ l,r x.1=r y.1→x.1=y.1))
  (hw: ∀ n ∈ ws, ∃ b,lk l n=some b∧b.rw=true):iW s r (lk l) ws:=by
 refine ⟨fun n b hb=> ?_,fun n n' b b' hb hrw hb' e=> ?_,fun n b hb hrw=> ?_,hw⟩
 ·obtain ⟨⟨rw',h1,h2⟩,_⟩:=h _ (bg _ _ _ hb)
  exact ⟨_,h1,h2,rfl⟩
 ·exact ((h _ (bg _ _ _ hb)).2 hrw).2 _ (bg _ _ _ hb') e
 ·exact ((h _ (bg _ _ _ hb)).2 hrw).1
theorem qE {s:AS} {r:Nat→Nat} {l:List (Nat×aG)} (h: ∀ x ∈ l,x.2.rw=false∧ ∃ rw',s.box (r x.1)=some ⟨rw',x.2.cells.map (SV.ren r)⟩):Fits s r (lk l) none:=by
 refine ⟨fun n b hb=> ?_,fun n n' b b' hb hrw=> ?_,fun n b hb hrw=> ?_,fun n hn=>(by cases hn)⟩
 ·obtain ⟨_,rw',h1⟩:=h _ (bg _ _ _ hb)
  have h0:b.rw=false:=(h _ (bg _ _ _ hb)).1
  exact ⟨_,h1,fun hrw=>(by rw[h0]at hrw;cases hrw),rfl⟩
 ·have h0:b.rw=false:=(h _ (bg _ _ _ hb)).1
  rw[h0]at hrw;cases hrw
 ·have h0:b.rw=false:=(h _ (bg _ _ _ hb)).1
  rw[h0]at hrw;cases hrw
theorem kT {a b:SV}:splice [a] 0 [b]=[b]:=rfl
section
variable {P:Program} [Tables P] {s:AS} {nm:Nat} {K:AS→Prop} {dst:Option Nat} {ty:TypeId} {pos:String} {after:Array Edge} {gd:Option (Nat×Bool)}
theorem wP {xs:List Operand} {tys:Array TypeId}:bK P nm ⟨dst, .call ⟨.builtin .min,xs.toArray,tys⟩,ty,pos,after,gd⟩ K s=
  bU P nm .min tys ty (xs.toArray.map isConst) (bb s xs) dst K s:=rfl
theorem RO {tys:Array TypeId} {ct:Array Bool} {k k':IntKind} {x y:Int} (hK:K (s.put dst (some (I k (if y < x then y else x))))):bU P nm .min tys ty ct (some [I k x,I k' y]) dst K s:=by
 intro W N w0 g a w h
 refine ⟨I k (if y < x then y else x),g,s,w, ?_,trivial,h.mono (fun n hn=>by omega),hK⟩
 simp only[builtin,List.map_cons,List.map_nil,Sem.run_bind]
 show (((Builtin.min_ tys ty #[.int k x, .int k' y]).run P w).andThen fun a w'=>(pure (Next.value a):Sem Next).run P w')=_
 rw[run_min_int2]
 rfl
end
def dO (r:Int):Nat:=(max 0 (min r 64)).toNat
def fF (f:Nat→Int) (a n:Nat) (d:Nat→Int) (i:Nat):Int:=if 64*a≤i∧i < 64*a+n then d (i - 64*a) else f i
theorem Ki {s:AS} {nm:Nat} {r:Nat→Nat} {k n:Nat} {out:Nat→Option aG} (h:r n < nm):ia s r k 1 nm (some n) out=upd (upd s.box (r n) ((out n).map (aG.ren (aR r k nm)))) nm ((out k).map (aG.ren (aR r k nm))):=by
 funext t
 unfold ia upd
 by_cases h1:t=nm
 ·subst h1;simp
 ·rw[if_neg (by omega)];simp[h1]
theorem M7 {m a n:Nat} {f g:Nat→Int} (h:a*64+n≤64*m):splice (aA .u8 (64*m) f) (a*64) (aA .u8 n g)=aA .u8 (64*m) (fF f a n g):=by
 rw[oa _ _ _ _ _ _ h]
 exact c7 fun i hi=>by
  unfold fF
  rw[Nat.mul_comm a 64]
theorem Gk {s:AS} {k:Nat} {ch:List PanicEntry} {l:List (Nat×aG)} (hl: ∀ x ∈ l,x.1 < k∧(∀ y ∈ x.2.cells,SV.ok (fun n=>n < k) y)∧s.box x.1=some x.2):Bd k ch (fun out=>out=lk l) (.panic ch) s:=
 ⟨rfl,lk l,fun n b hb=>by
  obtain ⟨h1,h2,h3⟩:=hl _ (bg _ _ _ hb)
  exact ⟨h1,h2,_,h3,fun h=>h,rfl⟩,rfl⟩
theorem qF {s:AS} {r:Nat→Nat} {k nm t:Nat} {out:Nat→Option aG}: ∀ ws:List Nat,(match ot r t ws with
  | none=>s.box t
  | some n=>(out n).map (aG.ren (aR r k nm)))=(ws.foldr (fun n b=>upd b (r n) ((out n).map (aG.ren (aR r k nm)))) s.box) t
 | []=>rfl
 | n::l=>by
  have:=qF (s:=s) (r:=r) (k:=k) (nm:=nm) (t:=t) (out:=out) l
  unfold ot
  simp only[List.foldr_cons,upd]
  by_cases e:t=r n
  ·rw[if_pos e,if_pos e]
  ·rw[if_neg e,if_neg e]
   exact this
theorem fc {s:AS} {r:Nat→Nat} {k nm:Nat} {ws:List Nat} {out:Nat→Option aG}:dL s r k 1 nm ws out=upd (ws.foldr (fun n b=>upd b (r n) ((out n).map (aG.ren (aR r k nm)))) s.box) nm ((out k).map (aG.ren (aR r k nm))):=by
 funext t
 rw[show upd _ nm _ t=if t=nm then (out k).map (aG.ren (aR r k nm)) else _ from rfl, ← qF]
 unfold dL
 by_cases e:t=nm
 ·subst e;simp
 ·rw[if_neg (by omega),if_neg e]
  rfl
theorem ma {s:AS} {r:Nat→Nat} {k nm:Nat} {ws:List Nat} {out:Nat→Option aG}:dL s r k 0 nm ws out=ws.foldr (fun n b=>upd b (r n) ((out n).map (aG.ren (aR r k nm)))) s.box:=by
 funext t
 rw[← qF]
 unfold dL
 rw[if_neg (by omega)]
 rfl
theorem ur {s:AS} {m next:Nat} {env:List (Nat×AV)} {box:List (Nat×aG)} (r:Nat→Nat) (hr: ∀ n,n < m→r n=n) (he: ∀ x ∈ env,s.env x.1=some (AV.ren r x.2)∧AV.ok (fun n=>n < next) x.2)
  (hb: ∀ x ∈ box,(∃ rw',s.box (r x.1)=some ⟨rw',x.2.cells.map (SV.ren r)⟩∧(x.2.rw=true→rw'=true))∧x.1 < next∧(∀ y ∈ x.2.cells,SV.ok (fun n=>n < next) y)∧(x.2.rw=true→ ∀ y ∈ box,r x.1=r y.1→x.1=y.1)):lh m s (nX env box next):=by
 refine ⟨r,⟨fun d v hv=>(he _ (bg _ _ _ hv)).1,fun n b hn=> ?_,fun n n' b b' hn hrw hn' e=> ?_,⟨fun d v hv=>(he _ (bg _ _ _ hv)).2,fun t b ht=> ?_⟩⟩,hr⟩
 ·obtain ⟨⟨rw',h1,h2⟩,_⟩:=hb _ (bg _ _ _ hn)
  exact ⟨_,h1,h2,rfl⟩
 ·exact (hb _ (bg _ _ _ hn)).2.2.2 hrw _ (bg _ _ _ hn') e
 ·obtain ⟨_,h1,h2,_⟩:=hb _ (bg _ _ _ ht)
  exact ⟨h1,h2⟩
end Go.bM
