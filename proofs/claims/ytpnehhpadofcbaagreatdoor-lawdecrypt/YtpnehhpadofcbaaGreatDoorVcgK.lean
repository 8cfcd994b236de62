/-
  Common lemmas on rows, bytes and counted numbers; and what a list of bytes looks like in a state. Nothing here speaks of a program.
-/
import Derived.Test.YtpnehhpadofcbaaGreatDoorVcgT
import Derived.Test.YtpnehhpadofcbaaGreatDoorVcgN
namespace Go.bU
set_option linter.unusedSectionVars false
set_option linter.unusedSimpArgs false
set_option linter.unusedVariables false
def br (f:Nat→Int):Prop:= ∀ i,0≤f i∧f i < 256
theorem aw {k:IntKind} {n:Nat} {f:Nat→Int}:(af k n f).all SV.plain=true:=mJ k n f
theorem FM (n:Nat):(0≤(n:Int))=True:=by simp
theorem aW (t:Nat):(0≤(t:Int))=True:=by simp
theorem bX {n m:Nat} (h:n < m):((n:Int) < (m:Int))=True:=by simp[h]
theorem cF {a b:Nat} (h:a < b):((a:Int) < (b:Int))=True:=eq_true (by omega)
theorem QQ {a b:Nat} (h:a≤b):((a:Int)≤(b:Int))=True:=eq_true (by omega)
theorem C' (t d:Nat) (h:t < 9223372036854775808):IntKind.i64.wrap ((t:Int).tdiv (d:Int))=((t / d:Nat):Int):=by
 have:t / d≤t:=Nat.div_le_self t d
 rw[← Int.ofNat_tdiv]
 generalize t / d=q at*
 rw[wrap_i64 _ (by omega) (by omega)]
theorem Ta (t:Nat) (h:t < 9223372036854775808):IntKind.i64.wrap ((t:Int).tdiv 8)=((t / 8:Nat):Int):=C' t 8 h
theorem Iy (t:Nat):(t:Int).tmod 8=((t%8:Nat):Int):=(Int.ofNat_tmod t 8).symm
theorem LV (t d:Nat):(t:Int).tmod (d:Int)=((t%d:Nat):Int):=(Int.ofNat_tmod t d).symm
theorem O' (n:Nat) (h:n < 9223372036854775808):IntKind.i64.wrap ((n:Int))=(n:Int):=wrap_i64 _ (by omega) (by omega)
theorem bt (n:Nat) (h:n < 9223372036854775807):IntKind.i64.wrap ((n:Int)+1)=((n+1:Nat):Int):=wrap_i64 _ (by omega) (by omega)
theorem Es (n m:Nat) (h:n+m < 9223372036854775807):IntKind.i64.wrap ((n:Int)+(m:Int))=((n+m:Nat):Int):=wrap_i64 _ (by omega) (by omega)
theorem X2 (n m:Nat) (h:m≤n) (h':n < 9223372036854775807):IntKind.i64.wrap ((n:Int) - (m:Int))=((n - m:Nat):Int):=by
 rw[show (n:Int) - (m:Int)=((n - m:Nat):Int) by omega];exact O' _ (by omega)
theorem rF (n:Nat) (k:IntKind) (c:Int):(List.replicate n (Value.int k c)).all Value.oneCell'=true:=by
 rw[List.all_eq_true];intro x hx;rw[List.eq_of_mem_replicate hx];rfl
theorem aF (n:Nat) (k:IntKind) (c:Int):List.map Sum.inl (List.replicate n (Value.int k c))=af k n (fun _=>c):=by
 rw[af,List.map_replicate]
 apply List.ext_getElem?
 intro i
 simp[List.getElem?_replicate]
 split
 ·rename_i h;rw[List.getElem?_range h];rfl
 ·rename_i h;rw[List.getElem?_eq_none (by simp;omega)];rfl
theorem aj (n:Nat) (k:IntKind) (c:Int):List.replicate n (Sum.inl (Value.int k c):SV)=af k n (fun _=>c):=by
 rw[← aF];simp
theorem du (k:IntKind) (n:Nat) (f g:Nat→Int):splice (af k n f) 0 (af k n g)=af k n g:=by
 rw[splice];simp[ah]
theorem ft (k:IntKind) (n:Nat) (f:Nat→Int):List.take n (af k n f)=af k n f:=List.take_of_length_le (by rw[ah];exact Nat.le_refl n)
theorem A9 {k:IntKind} {n:Nat} {f g:Nat→Int} (h: ∀ i,i < n→f i=g i):Ag (af k n f)=Ag (af k n g):=by rw[aX h]
theorem fk {k:IntKind} {n m:Nat} {f:Nat→Int}:af k n (upd (fun i=>if i < m then f i else 0) m (f m))=af k n (fun i=>if i < m+1 then f i else 0):=by
 refine aX fun i _=> ?_
 simp only[upd]
 split
 ·rename_i e;subst e;rw[if_pos (by omega)]
 ·split
  ·rw[if_pos (by omega)]
  ·rw[if_neg (by omega)]
theorem fV {k:IntKind} {n m:Nat} {f g:Nat→Int}:af k n (upd (fun i=>if i < m then f i else g i) m (f m))=af k n (fun i=>if i < m+1 then f i else g i):=by
 refine aX fun i _=> ?_
 simp only[upd]
 split
 ·rename_i e;subst e;rw[if_pos (by omega)]
 ·split
  ·rw[if_pos (by omega)]
  ·rw[if_neg (by omega)]
theorem dL {k:IntKind} {n:Nat} {f g:Nat→Int}:af k n (fun i=>if i < n then f i else g i)=af k n f:=
 aX fun i hi=>by rw[if_pos hi]
theorem vK {k:IntKind} {n:Nat} {f g:Nat→Int}:af k n (fun i=>if i < 0 then f i else g i)=af k n g:=
 aX fun i hi=>by rw[if_neg (by omega)]
theorem iL (op:BinOp) (x y:Int):0≤aU op .u8 x y∧aU op .u8 x y < 256:=by
 have h: ∀ z:Int,0≤IntKind.u8.wrap z∧IntKind.u8.wrap z < 256:=fun z=>by rw[wrap_u8];omega
 simp only[aU]
 split<;>exact h _
theorem Tb (k:IntKind) (n:Nat) (f:Nat→Int) (v:Int):af k n f++[Sum.inl (Value.int k v)]=af k (n+1) (upd f n v):=by
 simp only[af,List.range_succ,List.map_append,List.map_cons,List.map_nil,ay]
 congr 1
 refine List.map_congr_left fun i hi=> ?_
 rw[bj _ _ _ _ (by have:=List.mem_range.1 hi;omega)]
theorem Iz (k:IntKind) (n m:Nat) (f g:Nat→Int):af k n f++af k m g=af k (n+m) (fun i=>if i < n then f i else g (i - n)):=by
 apply List.ext_getElem?
 intro i
 by_cases h:i < n
 ·rw[List.getElem?_append_left (by rw[ah];exact h),aA k n f i h,aA k (n+m) _ i (by omega),if_pos h]
 ·rw[List.getElem?_append_right (by rw[ah];omega),ah]
  by_cases h2:i - n < m
  ·rw[aA k m g _ h2,aA k (n+m) _ i (by omega),if_neg h]
  ·rw[List.getElem?_eq_none (by rw[ah];omega),List.getElem?_eq_none (by rw[ah];omega)]
def eP (m p q:Nat) (s:AS) (env:List (Nat×AV)) (box:List (Nat×aN)) (next:Nat):Prop:=
 m≤p∧(m≤q∨ ∀ x ∈ box,x.1≠q)∧(∀ x ∈ env,s.env x.1=some (AV.aI (upd (fun n=>n) p q) x.2)∧AV.ok (fun n=>n < next) x.2)∧
  (∀ x ∈ box,(x.1 < m∨x.1=p)∧s.box (upd (fun n=>n) p q x.1)=some x.2∧x.1 < next∧(x.2.cells.all SV.plain=true∨ ∀ y ∈ x.2.cells,SV.ok (fun n=>n < next∧n≠p) y))
theorem QR {p q next:Nat} {l:List SV} (h: ∀ y ∈ l,SV.ok (fun n=>n < next∧n≠p) y):l=l.map (SV.aI (upd (fun n=>n) p q)):=by
 conv=>lhs;rw[← List.map_id l]
 refine List.map_congr_left fun y hy=> ?_
 have:=h y hy
 exact (SV.SC (SV.cn (fun n hn=>bj _ _ _ _ hn.2) this.1)).symm
theorem eP.dq {s:AS} {m p q:Nat} {env:List (Nat×AV)} {box:List (Nat×aN)} {next:Nat} (h:eP m p q s env box next):oU m s (oZ env box next):=by
 obtain ⟨hp,hq,he,hb⟩:=h
 refine ⟨upd (fun n=>n) p q,⟨fun d v hv=>(he _ (bu _ _ _ hv)).1,fun n b hn=> ?_,fun n n' b b' hn _ hn' e=> ?_,fun d v hv=>(he _ (bu _ _ _ hv)).2,fun t b ht=> ?_⟩,fun n hn=>bj _ _ _ _ (by omega)⟩
 ·have:=hb _ (bu _ _ _ hn)
  refine ⟨b,this.2.1,fun h=>h, ?_⟩
  rcases this.2.2.2 with h | h
  ·exact (aQ h _).symm
  ·exact QR h
 ·have h1:=(hb _ (bu _ _ _ hn)).1
  have h2:=(hb _ (bu _ _ _ hn')).1
  have h3:m≤q∨(n≠q∧n'≠q):=by
   rcases hq with h | h
   ·exact .inl h
   ·exact .inr ⟨h _ (bu _ _ _ hn),h _ (bu _ _ _ hn')⟩
  simp only at h1 h2
  simp only[upd]at e
  split at e<;>split at e<;>omega
 ·have:=hb _ (bu _ _ _ ht)
  refine ⟨this.2.2.1, ?_⟩
  rcases this.2.2.2 with h | h
  ·exact aC h
  ·exact fun y hy=>SV.bm (fun n hn=>hn.1) (h y hy)
theorem yO {s:AS} {m p q k next:Nat} {env:List (Nat×AV)} {l:List (Nat×aN)} {cs:List SV} (hmp:m≤p) (xg:p < next) (hkm:k≤m) (hkq:k≤q) (jf: ∀ x ∈ env,s.env x.1=some (AV.aI (upd (fun n=>n) p q) x.2)∧AV.ok (fun n=>n < next) x.2)
  (hb:s.box q=some ⟨true,cs⟩) (hp:cs.all SV.plain=true) (hl: ∀ x ∈ l,x.1 < k∧lk l x.1=some x.2∧ ∀ y ∈ x.2.cells,SV.ok (fun n=>n < k) y) (hs: ∀ t,t < k→s.box t=lk l t):eP m p q s env ((p,⟨true,cs⟩)::l) next:=by
 refine ⟨hmp, ?_,jf,fun x hx=> ?_⟩
 ·rcases Nat.lt_or_ge q m with h | h
  ·refine .inr fun x hx=> ?_
   rcases List.mem_cons.1 hx with rfl | hx
   ·show p≠q;omega
   ·have:=(hl x hx).1;omega
  ·exact .inl h
 ·rcases List.mem_cons.1 hx with rfl | hx
  ·exact ⟨.inr rfl,by simpa only[ay] using hb,xg, .inl hp⟩
  ·obtain ⟨h1,h2,h3⟩:=hl x hx
   refine ⟨.inl (by omega), ?_,by omega, .inr fun y hy=>SV.bm (fun n hn=>⟨by omega,by omega⟩) (h3 y hy)⟩
   rw[bj _ _ _ _ (by omega),hs _ h1,h2]
theorem ox {P:Program} [Tables P] {s:AS} {c:Code} {F:Exit→AS→Prop} {β:Type} (n:Nat) (Inv:Nat→β→Prop) (env:Nat→β→List (Nat×AV)) (box:Nat→β→List (Nat×aN)) (next:Nat) (x0:β)
  (h0:Inv 0 x0∧ ∃ p q,eP s.next p q s (env 0 x0) (box 0 x0) next)
  (hstep: ∀ k x,k < n→Inv k x→vc P c (fL (fun s'=> ∃ y,Inv (k+1) y∧ ∃ p q,eP s.next p q s' (env (k+1) y) (box (k+1) y) next) F) (oZ (env k x) (box k x) next))
  (hend: ∀ x,Inv n x→vc P c (fL (fun _=>False) F) (oZ (env n x) (box n x) next)) (hn:s.next≤next):kH (vc P c) F s:=by
 have hmono: ∀ (K K':AS→Prop) t,(∀ s,K s→K' s)→vc P c (fL K F) t→vc P c (fL K' F) t:=fun K K' t h hv=>fe c _ _ (fun e s hs=>by
  cases e with
  | normal=>exact h s hs
  | _=>exact hs) t hv
 obtain ⟨xd,p0,q0,hb0⟩:=h0
 refine ⟨{ y:Nat×β // y.1≤n∧Inv y.1 y.2 },fun y=>oZ (env y.1.1 y.1.2) (box y.1.1 y.1.2) next,fun y=>n - y.1.1,⟨(0,x0),Nat.zero_le _,xd⟩,hb0.dq,fun _=>hn,fun y=> ?_⟩
 obtain ⟨⟨k,x⟩,h1,h2⟩:=y
 rcases Nat.lt_or_ge k n with h | h
 ·refine hmono _ _ _ (fun s' hs=> ?_) (hstep k x h h2)
  obtain ⟨z,hz,p,q,hb⟩:=hs
  exact ⟨⟨(k+1,z),h,hz⟩,by show n - (k+1) < n - k;omega,hb.dq⟩
 ·have e:k=n:=Nat.le_antisymm h1 h
  subst e
  exact hmono (fun _=>False) _ _ (fun s' hs=>False.elim hs) (hend x h2)
def rG (m:Nat) (r:Nat→Nat) (s:AS) (env:List (Nat×AV)) (box:List (Nat×aN)) (next:Nat):Prop:=
 (∀ n,n < m→r n=n)∧(∀ x ∈ env,s.env x.1=some (AV.aI r x.2)∧AV.ok (fun n=>n < next) x.2)∧
  (∀ x ∈ box,s.box (r x.1)=some x.2∧x.1 < next∧x.2.cells.all SV.plain=true)∧(∀ x ∈ box, ∀ y ∈ box,r x.1=r y.1→x.1=y.1)
theorem rG.dq {s:AS} {m:Nat} {r:Nat→Nat} {env:List (Nat×AV)} {box:List (Nat×aN)} {next:Nat} (h:rG m r s env box next):oU m s (oZ env box next):=by
 obtain ⟨hm,he,hb,hi⟩:=h
 refine ⟨r,⟨fun d v hv=>(he _ (bu _ _ _ hv)).1,fun n b hn=> ?_,fun n n' b b' hn _ hn' e=>hi _ (bu _ _ _ hn) _ (bu _ _ _ hn') e,fun d v hv=>(he _ (bu _ _ _ hv)).2,fun t b ht=> ?_⟩,hm⟩
 ·have:=hb _ (bu _ _ _ hn)
  exact ⟨b,this.1,fun h=>h,(aQ this.2.2 _).symm⟩
 ·have:=hb _ (bu _ _ _ ht)
  exact ⟨this.2.1,aC this.2.2⟩
theorem Ba {P:Program} [Tables P] {s:AS} {c:Code} {F:Exit→AS→Prop} {β:Type} (n:Nat) (Inv:Nat→β→Prop) (env:Nat→β→List (Nat×AV)) (box:Nat→β→List (Nat×aN)) (next:Nat) (x0:β)
  (h0:Inv 0 x0∧ ∃ r,rG s.next r s (env 0 x0) (box 0 x0) next)
  (hstep: ∀ k x,k < n→Inv k x→vc P c (fL (fun s'=> ∃ y,Inv (k+1) y∧ ∃ r,rG s.next r s' (env (k+1) y) (box (k+1) y) next) F) (oZ (env k x) (box k x) next))
  (hend: ∀ x,Inv n x→vc P c (fL (fun _=>False) F) (oZ (env n x) (box n x) next)) (hn:s.next≤next):kH (vc P c) F s:=by
 have hmono: ∀ (K K':AS→Prop) t,(∀ s,K s→K' s)→vc P c (fL K F) t→vc P c (fL K' F) t:=fun K K' t h hv=>fe c _ _ (fun e s hs=>by
  cases e with
  | normal=>exact h s hs
  | _=>exact hs) t hv
 obtain ⟨xd,r0,hb0⟩:=h0
 refine ⟨{ y:Nat×β // y.1≤n∧Inv y.1 y.2 },fun y=>oZ (env y.1.1 y.1.2) (box y.1.1 y.1.2) next,fun y=>n - y.1.1,⟨(0,x0),Nat.zero_le _,xd⟩,hb0.dq,fun _=>hn,fun y=> ?_⟩
 obtain ⟨⟨k,x⟩,h1,h2⟩:=y
 rcases Nat.lt_or_ge k n with h | h
 ·refine hmono _ _ _ (fun s' hs=> ?_) (hstep k x h h2)
  obtain ⟨z,hz,r,hb⟩:=hs
  exact ⟨⟨(k+1,z),h,hz⟩,by show n - (k+1) < n - k;omega,hb.dq⟩
 ·have e:k=n:=Nat.le_antisymm h1 h
  subst e
  exact hmono (fun _=>False) _ _ (fun s' hs=>False.elim hs) (hend x h2)
theorem Bb {s:AS} {m p q next:Nat} {env:List (Nat×AV)} {l:List (Nat×aN)} {cs:List SV} (hmp:m≤p) (xg:p < next) (jf: ∀ x ∈ env,s.env x.1=some (AV.aI (upd (fun n=>n) p q) x.2)∧AV.ok (fun n=>n < next) x.2)
  (hb:s.box q=some ⟨true,cs⟩) (hp:cs.all SV.plain=true) (hl: ∀ x ∈ l,x.1 < m∧x.1≠q∧s.box x.1=some x.2∧x.2.cells.all SV.plain=true):eP m p q s env ((p,⟨true,cs⟩)::l) next:=by
 refine ⟨hmp, ?_,jf,fun x hx=> ?_⟩
 ·rcases Nat.lt_or_ge q m with h | h
  ·refine .inr fun x hx=> ?_
   rcases List.mem_cons.1 hx with rfl | hx
   ·show p≠q;omega
   ·exact (hl x hx).2.1
  ·exact .inl h
 ·rcases List.mem_cons.1 hx with rfl | hx
  ·exact ⟨.inr rfl,by simpa only[ay] using hb,xg, .inl hp⟩
  ·obtain ⟨h1,h2,h3,h4⟩:=hl x hx
   exact ⟨.inl h1,by rw[bj _ _ _ _ (by omega),h3],by omega, .inl h4⟩
theorem ig {r:Nat→Nat} {k:Nat} (hr: ∀ n,n < k→r n=n) {v:AV} (h:AV.ok (fun n=>n < k) v):AV.aI r v=v:=by
 have hs: ∀ x:SV,SV.names (fun n=>n < k) x→SV.aI r x=x:=fun x hx=>by
  exact SV.SC (SV.cn hr hx)
 have hc: ∀ x:CV,CV.ok (fun n=>n < k) x→CV.aI r x=x:=fun x hx=>by
  rcases x with x | l
  ·simp only[CV.aI];rw[hs x hx]
  ·simp only[CV.aI]
   congr 1
   conv=>rhs;rw[← List.map_id l]
   exact List.map_congr_left fun y hy=>hs y (hx y hy).1
 rcases v with x | l
 ·simp only[AV.aI];rw[hc x h]
 ·simp only[AV.aI]
  congr 1
  conv=>rhs;rw[← List.map_id l]
  exact List.map_congr_left fun y hy=>hc y (h y hy)
theorem Tc {P:Program} [Tables P] {c1 c2:Code} {F:Exit→AS→Prop} {s:AS} {b:Bool} (sa:AS→Prop) (h1:b=true→vc P c1 (fL sa (fun _ _=>False)) s) (h2:b=false→vc P c2 (fL sa (fun _ _=>False)) s) (h: ∀ s',sa s'→F .normal s'):
  oo (some (B b)) (vc P c1 F) (vc P c2 F) s:=by
 have hm: ∀ e s',fL sa (fun _ _=>False) e s'→F e s':=fun e s' hs=>by
  cases e with
  | normal=>exact h s' hs
  | _=>exact False.elim hs
 exact ⟨fun hb=>fe c1 _ _ hm s (h1 hb),fun hb=>fe c2 _ _ hm s (h2 hb)⟩
theorem rH {s:AS} {m p q next:Nat} {env:List (Nat×AV)} {l:List (Nat×aN)} {cs ds:List SV} (hm:m≤60) (hn:61 < next) (hpq:p≠q)
  (jf: ∀ x ∈ env,s.env x.1=some (AV.aI (upd (upd (fun n=>n) 60 p) 61 q) x.2)∧AV.ok (fun n=>n < next) x.2)
  (hp:s.box p=some ⟨true,cs⟩) (hcs:cs.all SV.plain=true) (hq:s.box q=some ⟨true,ds⟩) (hds:ds.all SV.plain=true)
  (hl: ∀ x ∈ l,x.1 < m∧x.1≠p∧x.1≠q∧s.box x.1=some x.2∧x.2.cells.all SV.plain=true):rG m (upd (upd (fun n=>n) 60 p) 61 q) s env ((60,⟨true,cs⟩)::(61,⟨true,ds⟩)::l) next:=by
 have e60:upd (upd (fun n=>n) 60 p) 61 q 60=p:=by rw[bj _ _ _ _ (by decide),ay]
 have e61:upd (upd (fun n=>n) 60 p) 61 q 61=q:=ay _ _ _
 have el: ∀ x,x < m→upd (upd (fun n=>n) 60 p) 61 q x=x:=fun x hx=>by rw[bj _ _ _ _ (by omega),bj _ _ _ _ (by omega)]
 refine ⟨fun n hn=>el n hn,jf,fun x hx=> ?_,fun x hx y hy e=> ?_⟩
 ·rcases List.mem_cons.1 hx with rfl | hx
  ·exact ⟨by rw[e60];exact hp,by show 60 < next;omega,hcs⟩
  ·rcases List.mem_cons.1 hx with rfl | hx
   ·exact ⟨by rw[e61];exact hq,hn,hds⟩
   ·obtain ⟨h1,_,_,h4,h5⟩:=hl x hx
    exact ⟨by rw[el _ h1];exact h4,by omega,h5⟩
 ·rcases List.mem_cons.1 hx with rfl | hx<;>rcases List.mem_cons.1 hy with rfl | hy
  ·rfl
  ·rcases List.mem_cons.1 hy with rfl | hy
   ·rw[e60,e61]at e;exact absurd e hpq
   ·obtain ⟨h1,h2,_⟩:=hl y hy
    rw[e60,el _ h1]at e;exact absurd e.symm h2
  ·rcases List.mem_cons.1 hx with rfl | hx
   ·rw[e60,e61]at e;exact absurd e.symm hpq
   ·obtain ⟨h1,h2,_⟩:=hl x hx
    rw[e60,el _ h1]at e;exact absurd e h2
  ·rcases List.mem_cons.1 hx with rfl | hx<;>rcases List.mem_cons.1 hy with rfl | hy
   ·rfl
   ·obtain ⟨h1,_,h2,_⟩:=hl y hy
    rw[e61,el _ h1]at e;exact absurd e.symm h2
   ·obtain ⟨h1,_,h2,_⟩:=hl x hx
    rw[e61,el _ h1]at e;exact absurd e h2
   ·rw[el _ (hl x hx).1,el _ (hl y hy).1]at e;exact e
theorem QS {s:AS} {m next:Nat} {env:List (Nat×AV)} {l:List (Nat×aN)} (hmn:m≤next) (jf: ∀ x ∈ env,s.env x.1=some x.2∧AV.ok (fun n=>n < next) x.2)
  (hl: ∀ x ∈ l,x.1 < m∧s.box x.1=some x.2∧x.2.cells.all SV.plain=true):rG m (fun n=>n) s env l next:=by
 have hr: ∀ v:AV,AV.ok (fun n=>n < next) v→AV.aI (fun n=>n) v=v:=fun v hv=>ig (k:=next) (fun n _=>rfl) hv
 exact ⟨fun n _=>rfl,fun x hx=>⟨by rw[hr _ (jf x hx).2];exact (jf x hx).1,(jf x hx).2⟩,fun x hx=>⟨(hl x hx).2.1,by have:=(hl x hx).1;omega,(hl x hx).2.2⟩,fun x _ y _ e=>e⟩
theorem iS {r:Nat→Nat} {k:IntKind} {n:Int}:AV.aI r (I k n)=I k n:=rfl
theorem mL {r:Nat→Nat}:(∀ b,AV.aI r (V (.bool b))=V (.bool b))∧(∀ k n,AV.aI r (V (.int k n))=V (.int k n))∧(∀ s,AV.aI r (V (.string s))=V (.string s))∧(∀ a,AV.aI r (V (.pointer a))=V (.pointer a))∧(∀ a n c,AV.aI r (V (.slice a n c))=V (.slice a n c))∧(∀ t v,AV.aI r (V (.iface t v))=V (.iface t v))∧AV.aI r (V .nilIface)=V .nilIface∧AV.aI r (V .nilFunc)=V .nilFunc∧ ∀ f as,AV.aI r (V (.func f as #[]))=V (.func f as #[]):=
 ⟨fun _=>rfl,fun _ _=>rfl,fun _=>rfl,fun _=>rfl,fun _ _ _=>rfl,fun _ _=>rfl,rfl,rfl,fun _ _=>rfl⟩
theorem lE {r:Nat→Nat} {t o:Nat}:AV.aI r (Ptr t o)=Ptr (r t) o:=rfl
theorem eF {r:Nat→Nat} {t o n c:Nat}:AV.aI r (Sl t o n c)=Sl (r t) o n c:=rfl
theorem fg {r:Nat→Nat} {k:IntKind} {n:Nat} {f:Nat→Int}:AV.aI r (Ag (af k n f))=Ag (af k n f):=by
 show AV.aI r (.inl (.inr _))=_
 simp only[AV.aI,CV.aI,aQ aw]
theorem abr {M:Nat→Prop} {k:IntKind} {n:Int}:AV.ok M (I k n)=True:=rfl
theorem Y8 {M:Nat→Prop} {k:IntKind} {n:Nat} {f:Nat→Int}:AV.ok M (Ag (af k n f))=True:=eq_true (aC aw)
def aP (n:Nat) (f g:Nat→Int) (i:Nat):Int:=if i < n then f i else g (i - n)
def aZ (cs:List SV) (o n:Nat) (f:Nat→Int):Prop:= ∀ i,i < n→cs[o+i]? =some (Sum.inl (.int .u8 (f i)))
def bG (box:Nat→Option aN) (v:AV) (n:Nat) (f:Nat→Int):Prop:=
 ((∃ a,v=V (.slice a 0 0))∧n=0)∨ ∃ t o c rw cs,v=Sl t o n c∧box t=some ⟨rw,cs⟩∧cs.all SV.plain=true∧aZ cs o n f
def Made (k n:Nat) (f:Nat→Int) (v:AV) (out:Nat→Option aN):Prop:=
 ∃ c tail,v=Sl k 0 n c∧out=lk [(k,⟨true,af .u8 n f++tail⟩)]∧n≤c∧tail.length=c - n∧tail.all SV.plain=true
theorem cD {n:Nat} {f:Nat→Int} {tail:List SV} (h:tail.all SV.plain=true):(af .u8 n f++tail).all SV.plain=true:=by
 rw[List.all_append,aw,h];rfl
theorem dg {n:Nat} {f:Nat→Int} {tail:List SV}:aZ (af .u8 n f++tail) 0 n f:=fun i hi=>by
 rw[Nat.zero_add,List.getElem?_append_left (by rw[ah];exact hi),aA .u8 n f i hi]
theorem aV {n:Nat} {f:Nat→Int}:aZ (af .u8 n f) 0 n f:=fun i hi=>by rw[Nat.zero_add,aA .u8 n f i hi]
theorem fu {cs:List SV} {o n:Nat} {f:Nat→Int} (h:aZ cs o n f): ∀ j u,(af .u8 n f)[j]? =some u→cs[o+j]? =some u:=fun j u hj=>by
 by_cases hlt:j < n
 ·rw[aA .u8 n f j hlt]at hj;rw[h j hlt];exact hj
 ·rw[List.getElem?_eq_none (by rw[ah];omega)]at hj;cases hj
theorem Pa {cs:List SV} {o:Nat}: ∀ j (u:SV),([]:List SV)[j]? =some u→cs[o+j]? =some u:=fun j u h=>by simp at h
theorem jM {cs:List SV} {o n:Nat} {f:Nat→Int} (h:aZ cs o n f) (a m:Nat) (hm:a+m≤n):aZ cs (o+a) m (fun i=>f (a+i)):=fun i hi=>by
 rw[Nat.add_assoc];exact h (a+i) (by omega)
theorem mM {cs:List SV} {o n m:Nat} {f:Nat→Int} (h:aZ cs o n f) (hm:m≤n):aZ cs o m f:=fun i hi=>h i (by omega)
theorem jN {cs:List SV} {o n:Nat} {f g:Nat→Int} (h:aZ cs o n f) (e: ∀ i,i < n→f i=g i):aZ cs o n g:=fun i hi=>by rw[← e i hi];exact h i hi
theorem IA {cs:List SV} {n:Nat} {f:Nat→Int} (h:aZ cs 0 n f) (hl:n≤cs.length):cs=af .u8 n f++cs.drop n:=by
 apply List.ext_getElem?
 intro i
 by_cases hi:i < n
 ·rw[List.getElem?_append_left (by rw[ah];exact hi),aA .u8 n f i hi]
  have:=h i hi
  rwa [Nat.zero_add]at this
 ·rw[List.getElem?_append_right (by rw[ah];omega),ah,List.getElem?_drop,show n+(i - n)=i by omega]
structure bK (cs:List SV) (o n c:Nat) (f:Nat→Int):Prop where
 len:cs.length=o+c
 room:n≤c
 plain:cs.all SV.plain=true
 shows:aZ cs o n f
theorem bK.made {cs:List SV} {n c k:Nat} {f:Nat→Int} (h:bK cs 0 n c f):Made k n f (Sl k 0 n c) (lk [(k,⟨true,cs⟩)]):=by
 have hl:=h.len
 have hr:=h.room
 have e:=IA h.shows (by omega)
 refine ⟨c,cs.drop n,rfl,by rw[← e],hr,by rw[List.length_drop];omega, ?_⟩
 have:=h.plain
 rw[e,List.all_append]at this
 exact (Bool.and_eq_true _ _▸this).2
theorem bK.row {n c:Nat} {f:Nat→Int} {tail:List SV} (hc:n≤c) (hl:tail.length=c - n) (hp:tail.all SV.plain=true):bK (af .u8 n f++tail) 0 n c f:=
 ⟨by rw[List.length_append,ah];omega,hc,cD hp,dg⟩
theorem bK.snoc {n c:Nat} {f g:Nat→Int} {v:Int} {tail:List SV} (hv:g n=v) (hfg: ∀ i,i < n→f i=g i) (hc:n+1≤c) (hl:tail.length=(c - (n+1))*1) (hp:tail.all SV.plain=true):bK (af .u8 n f++[Sum.inl (.int .u8 v)]++tail) 0 (n+1) c g:=by
 rw[Tb,aX (g:=g) (fun i hi=> ?_)]
 ·exact bK.row hc (by omega) hp
 ·simp only[upd];split
  ·rename_i e;rw[e];exact hv.symm
  ·exact hfg i (by omega)
theorem bK.join {n m c:Nat} {f g h:Nat→Int} {tail:List SV} (h1: ∀ i,i < n→f i=h i) (h2: ∀ i,i < m→g i=h (n+i)) (hc:n+m≤c) (hl:tail.length=(c - (n+m))*1) (hp:tail.all SV.plain=true):bK (af .u8 n f++af .u8 m g++tail) 0 (n+m) c h:=by
 rw[Iz,aX (g:=h) (fun i hi=> ?_)]
 ·exact bK.row hc (by omega) hp
 ·split
  ·exact h1 i ‹_›
  ·rw[h2 _ (by omega),show n+(i - n)=i by omega]
theorem b9 {v:Int}:aZ [Sum.inl (.int .u8 v)] 0 1 (fun _=>v):=fun i hi=>by
 have:i=0:=by omega
 subst this;rfl
theorem bK.congr {cs:List SV} {o n m c:Nat} {f g:Nat→Int} (h:bK cs o n c f) (e:n=m) (hfg: ∀ i,i < n→f i=g i):bK cs o m c g:=
 ⟨h.len,e▸h.room,h.plain,e▸jN h.shows hfg⟩
theorem LW {n k:Nat} {f g:Nat→Int}: ∀ i,i < n+k+1→aP (n+k) (aP n f g) (fun _=>g k) i=aP n f g i:=fun i hi=>by
 by_cases h:i < n+k
 ·simp only[aP,if_pos h]
 ·have:i=n+k:=by omega
  subst this
  simp only[aP];rw[if_neg (by omega),if_neg (by omega),show n+k - n=k by omega]
theorem eG {k:IntKind} {g:Nat→Int} {x:SV}:splice (af k 1 g) 0 [x]=[x]:=rfl
theorem gT {r:Nat→Nat} {k nm:Nat}:dJ r k nm k=nm:=by unfold dJ;rw[if_pos rfl]
theorem fN {s:AS} {r:Nat→Nat} {k nm:Nat} {cs:List SV} (hp:cs.all SV.plain=true):after s r k nm none (lk [(k,⟨true,cs⟩)])=upd s.box nm (some ⟨true,cs⟩):=by
 simp[after,lk,aN.aI,aQ hp]
section
variable {P:Program} [Tables P]
theorem dS {s:AS} {fn k n nm:Nat} {f:Nat→Int} {args l:List AV} {ins:Nat→Option aN} (h:bf P fn args k ins (Made k n f)) (r:Nat→Nat) (hfit:Fits s r ins none) (hl:l=args.map (AV.aI r)) {dst:Option Nat} {K:AS→Prop}
  (hk: ∀ c tail,n≤c→tail.length=c - n→tail.all SV.plain=true→K ((⟨s.env,upd s.box nm (some ⟨true,af .u8 n f++tail⟩),s.next⟩:AS).put dst (some (Sl nm 0 n c)))):ax P nm fn (some l) dst K s:=by
 refine h.ax r none hfit hl ?_
 rintro v out ⟨c,tail,rfl,rfl,h1,h2,h3⟩ _
 rw[fN (cD h3)]
 have e:AV.aI (dJ r k nm) (Sl k 0 n c)=Sl nm 0 n c:=by show Sl (dJ r k nm k) 0 n c=_;rw[gT]
 rw[e]
 exact hk c tail h1 h2 h3
theorem rI {s:AS} {fn k n nm:Nat} {f:Nat→Int} {args l:List AV} {ins:Nat→Option aN} (h:bf P fn args k ins (Made k n f)) (r:Nat→Nat) (hfit:Fits s r ins none) (hl:l=args.map (AV.aI r))
  (hnamed: ∀ M:Nat→Prop,(∀ v ∈ l,AV.ok M v)→ ∀ n,n < k→M (r n)) {ops:Array Oper} {i:Nat} (DL:late ops i=true) {dst:Option Nat} {K:AS→Prop}
  (hk: ∀ c tail,n≤c→tail.length=c - n→tail.all SV.plain=true→K ((⟨s.env,upd s.box nm (some ⟨true,af .u8 n f++tail⟩),s.next⟩:AS).put dst (some (Sl nm 0 n c)))):ov P ops i nm fn (some l) dst K s:=by
 refine .inr (.inr (.inl ⟨DL,fun e=> ∃ c tail,e=(some (Sl nm 0 n c),some (.inl (af .u8 n f++tail)))∧n≤c∧tail.length=c - n∧tail.all SV.plain=true,h.reads r hfit hl hnamed ?_ ?_, ?_⟩))
 ·rintro v out ⟨c,tail,rfl,rfl,h1,h2,h3⟩
  refine ⟨c,tail, ?_,h1,h2,h3⟩
  have e:AV.aI (dJ r k nm) (Sl k 0 n c)=Sl nm 0 n c:=by show Sl (dJ r k nm k) 0 n c=_;rw[gT]
  simp[LQ,lk,aQ (cD h3),e]
 ·rintro e ⟨c,tail,rfl,_⟩
  exact .inr ⟨_,rfl⟩
 ·rintro e ⟨c,tail,rfl,h1,h2,h3⟩
  exact hk c tail h1 h2 h3
end
theorem cI.draw {P:Program} [bU.Tables P] {f:Nat} {l:List AV} {r:AV} (h:cI P f l r) (hc:ai P f=true) {ops:Array Oper} {i nm:Nat} {dst:Option Nat} {K:AS→Prop} {s:AS} (hk:K (s.put dst (some r))):ov P ops i nm f (some l) dst K s:=
 .inl ⟨l,r,rfl, .inl ⟨hc,h⟩,hk⟩
theorem V2 {b c d b':aN} {n:Nat} (h:lk [(0,b),(1,c),(2,d)] n=some b'):(n=0∧b'=b)∨(n=1∧b'=c)∨(n=2∧b'=d):=by
 have:=bu _ _ _ h
 simp only[List.mem_cons,List.not_mem_nil,or_false,Prod.mk.injEq]at this
 exact this
theorem ad6 {b c d:aN}: ∀ n,n < 3→ ∃ e,lk [(0,b),(1,c),(2,d)] n=some e:=fun n hn=>by
 have:n=0∨n=1∨n=2:=by omega
 rcases this with rfl | rfl | rfl<;>exact ⟨_,rfl⟩
theorem ad7 {r0 r1 r2:Bool} {cs ds es:List SV} (hp:cs.all SV.plain=true) (hq:ds.all SV.plain=true) (hr:es.all SV.plain=true): ∀ n c,lk [(0,(⟨r0,cs⟩:aN)),(1,⟨r1,ds⟩),(2,⟨r2,es⟩)] n=some c→n < 3∧ ∀ x ∈ c.cells,SV.ok (fun n=>n < 3) x:=fun n c h=>by
 rcases V2 h with ⟨rfl,rfl⟩ | ⟨rfl,rfl⟩ | ⟨rfl,rfl⟩
 ·exact ⟨by omega,aC hp⟩
 ·exact ⟨by omega,aC hq⟩
 ·exact ⟨by omega,aC hr⟩
def three (a b c:Nat):Nat→Nat:=fun n=>if n=0 then a else if n=1 then b else c
theorem Td {s:AS} {t u x:Nat} {r0 r1 r2:Bool} {cs ds es:List SV} (h:s.box t=some ⟨r0,cs⟩) (hp:cs.all SV.plain=true) (h':s.box u=some ⟨r1,ds⟩) (hp':ds.all SV.plain=true) (h2:s.box x=some ⟨r2,es⟩) (Y9:es.all SV.plain=true):
  Fits s (three t u x) (lk [(0,⟨false,cs⟩),(1,⟨false,ds⟩),(2,⟨false,es⟩)]) none:=
 ⟨fun n b hb=>by
  rcases V2 hb with ⟨rfl,rfl⟩ | ⟨rfl,rfl⟩ | ⟨rfl,rfl⟩
  ·exact ⟨_,h,fun e=>(by cases e),(aQ hp _).symm⟩
  ·exact ⟨_,h',fun e=>(by cases e),(aQ hp' _).symm⟩
  ·exact ⟨_,h2,fun e=>(by cases e),(aQ Y9 _).symm⟩,
  fun n n' b b' hb hrw=>(by rcases V2 hb with ⟨rfl,rfl⟩ | ⟨rfl,rfl⟩ | ⟨rfl,rfl⟩<;>cases hrw),fun n b hb hrw=>(by rcases V2 hb with ⟨rfl,rfl⟩ | ⟨rfl,rfl⟩ | ⟨rfl,rfl⟩<;>cases hrw),fun n hn=>(by cases hn)⟩
def oy (box:Nat→Option aN) (b:Nat) (v:AV) (n:Nat) (f:Nat→Int):Prop:=
 ((∃ a,v=V (.slice a 0 0))∧n=0)∨ ∃ t o c rw cs,v=Sl t o n c∧box t=some ⟨rw,cs⟩∧aZ cs o n f∧t≠b
theorem oz {ins box:Nat→Option aN} {b k n:Nat} {f:Nat→Int} {v:AV} (h:bG ins v n f) (hok:AV.ok (fun n=>n < k) v) (hb:k≤b) (hs: ∀ t,t < k→box t=ins t):oy box b v n f:=by
 rcases h with h | ⟨t,o,c,rw,cs,rfl,h1,h2,h3⟩
 ·exact .inl h
 ·have ht:t < k:=hok
  exact .inr ⟨t,o,c,rw,cs,rfl,by rw[hs t ht,h1],h3,by omega⟩
theorem iW {box:Nat→Option aN} {v:AV} {n:Nat} {f:Nat→Int} (h:bG box v n f):gR 1 (some [v])=some (some (I .i64 n),none):=by
 rcases h with ⟨⟨a,rfl⟩,rfl⟩ | ⟨t,o,c,rw,cs,rfl,_⟩<;>rfl
theorem mh {b1 b2:Nat→Option aN} {v:AV} {n:Nat} {f:Nat→Int} (h:bG b1 v n f) (e: ∀ t b,b1 t=some b→b2 t=some b):bG b2 v n f:=by
 rcases h with h | ⟨t,o,c,rw,cs,h0,h1,h2,h3⟩
 ·exact .inl h
 ·exact .inr ⟨t,o,c,rw,cs,h0,e _ _ h1,h2,h3⟩
theorem Y' {b1 b2:Nat→Option aN} {b:Nat} {v:AV} {n:Nat} {f:Nat→Int} (h:bG b1 v n f) (e: ∀ t x,b1 t=some x→b2 t=some x∧t≠b):oy b2 b v n f:=by
 rcases h with h | ⟨t,o,c,rw,cs,h0,h1,h2,h3⟩
 ·exact .inl h
 ·exact .inr ⟨t,o,c,rw,cs,h0,(e _ _ h1).1,h3,(e _ _ h1).2⟩
theorem rJ {box:Nat→Option aN} {v:AV} {n:Nat} {f:Nat→Int} (h:bG box v n f) (hn:0 < n): ∃ t o c rw cs,v=Sl t o n c∧box t=some ⟨rw,cs⟩∧cs.all SV.plain=true∧aZ cs o n f:=by
 rcases h with ⟨_,rfl⟩ | h
 ·omega
 ·exact h
def eH (t:Nat) (v:AV) (n:Nat) (f:Nat→Int) (cs:List SV):Prop:=((∃ a,v=V (.slice a 0 0))∧n=0)∨ ∃ o c,v=Sl t o n c∧aZ cs o n f
theorem eH.at {t n:Nat} {v:AV} {f:Nat→Int} {cs:List SV} {rw:Bool} {box:Nat→Option aN} (h:eH t v n f cs) (hb:box t=some ⟨rw,cs⟩) (hp:cs.all SV.plain=true):bG box v n f:=by
 rcases h with ⟨⟨a,rfl⟩,h0⟩ | ⟨o,c,rfl,hs⟩
 ·exact .inl ⟨⟨_,rfl⟩,h0⟩
 ·exact .inr ⟨t,o,c,rw,cs,rfl,hb,hp,hs⟩
theorem eH.ok {t n:Nat} {v:AV} {f:Nat→Int} {cs:List SV} {M:Nat→Prop} (h:eH t v n f cs) (hM:M t):AV.ok M v:=by
 rcases h with ⟨⟨a,rfl⟩,h0⟩ | ⟨o,c,rfl,hs⟩
 ·trivial
 ·exact hM
structure Handed (k:Nat) (l:List (Nat×aN)):Prop where
 qn: ∀ x ∈ l,x.1 < k∧lk l x.1=some x.2∧x.2.cells.all SV.plain=true
 ro: ∀ x ∈ l,x.2.rw=false
 all: ∀ n,n < k→ ∃ b,lk l n=some b
 le:k≤20
theorem Handed.lt {k:Nat} {l:List (Nat×aN)} (h:Handed k l): ∀ x ∈ l,x.1 < k:=fun x hx=>(h.qn x hx).1
theorem Handed.kD {k:Nat} {l:List (Nat×aN)} (h:Handed k l): ∀ n b,lk l n=some b→n < k∧ ∀ x ∈ b.cells,SV.ok (fun n=>n < k) x:=fun n b hb=>⟨(h.qn _ (bu _ _ _ hb)).1,aC (h.qn _ (bu _ _ _ hb)).2.2⟩
structure Arg (k:Nat) (l:List (Nat×aN)) (v:AV) (n:Nat) (f:Nat→Int):Prop where
 at_:bG (lk l) v n f
 ok:AV.ok (fun n=>n < k) v
structure Bc (s:AS) (k:Nat) (l:List (Nat×aN)) (r:Nat→Nat) (L:List AV):Prop where
 good:Handed k l
 fits:Fits s r (lk l) none
 named: ∀ M:Nat→Prop,(∀ v ∈ L,AV.ok M v)→ ∀ n,n < k→M (r n)
theorem rK {s:AS}:Bc s 0 [] (fun n=>n) []:=⟨⟨fun x hx=>(by cases hx),fun x hx=>(by cases hx),fun n hn=>by omega,by decide⟩,gF,fun M _ n hn=>by omega⟩
theorem rL {s:AS} {k t n:Nat} {l:List (Nat×aN)} {r:Nat→Nat} {L:List AV} {v:AV} {f:Nat→Int} {cs:List SV} {rw:Bool} (h:Bc s k l r L) (hk:k < 20) (hv:eH t v n f cs) (hb:s.box t=some ⟨rw,cs⟩) (hp:cs.all SV.plain=true):
  ∃ k' l' r' v',k'≤k+1∧Bc s k' l' r' (v::L)∧Arg k' l' v' n f∧AV.aI r' v'=v∧ ∀ u m g,Arg k l u m g→Arg k' l' u m g∧AV.aI r' u=AV.aI r u:=by
 rcases hv with ⟨⟨a,rfl⟩,h0⟩ | ⟨o,c,rfl,hs⟩
 ·exact ⟨k,l,r,V (.slice a 0 0),by omega,⟨h.good,h.fits,fun M hM=>h.named M fun u hu=>hM u (List.Mem.tail _ hu)⟩,⟨.inl ⟨⟨_,rfl⟩,h0⟩,trivial⟩,rfl,fun u m g hu=>⟨hu,rfl⟩⟩
 ·have hlk: ∀ x b,lk l x=some b→lk ((k,(⟨false,cs⟩:aN))::l) x=some b:=fun x b hx=>by
   have:=(h.good.qn _ (bu _ _ _ hx)).1
   simp only at this
   simp only[lk];rw[if_neg (by omega)];exact hx
  refine ⟨k+1,(k,⟨false,cs⟩)::l,upd r k t,Sl k o n c,Nat.le_refl _,⟨⟨fun x hx=> ?_,fun x hx=> ?_,fun x hx=> ?_,hk⟩,⟨fun x b hx=> ?_,fun x x' b b' hx hrw=> ?_,fun x b hx hrw=> ?_,fun x hx=>(by cases hx)⟩,fun M hM x hx=> ?_⟩,⟨.inr ⟨k,o,c,false,cs,rfl,by simp only[lk];exact if_pos trivial,hp,hs⟩,Nat.lt_succ_self k⟩, ?_,fun u m g hu=>⟨⟨mh hu.at_ hlk,AV.bm (fun n hn=>Nat.lt_succ_of_lt hn) hu.ok⟩, ?_⟩⟩
  ·rcases List.mem_cons.1 hx with rfl | hx
   ·exact ⟨Nat.lt_succ_self k,by simp only[lk];exact if_pos trivial,hp⟩
   ·obtain ⟨h1,h2,h3⟩:=h.good.qn x hx
    exact ⟨Nat.lt_succ_of_lt h1,hlk _ _ h2,h3⟩
  ·rcases List.mem_cons.1 hx with rfl | hx
   ·rfl
   ·exact h.good.ro x hx
  ·by_cases e:x=k
   ·exact ⟨⟨false,cs⟩,by simp only[lk];rw[if_pos e]⟩
   ·obtain ⟨b,hb⟩:=h.good.all x (by omega)
    exact ⟨b,hlk _ _ hb⟩
  ·simp only[lk]at hx
   split at hx
   ·rename_i e;subst e
    simp only[Option.some.injEq]at hx;subst hx
    exact ⟨⟨rw,cs⟩,by rw[ay];exact hb,fun e=>(by cases e),(aQ hp _).symm⟩
   ·rename_i e
    obtain ⟨b',h1,h2,h3⟩:=h.fits.box x b hx
    refine ⟨b',by rw[bj _ _ _ _ e];exact h1,h2, ?_⟩
    rw[h3,aQ (h.good.qn _ (bu _ _ _ hx)).2.2,aQ (h.good.qn _ (bu _ _ _ hx)).2.2]
  ·have hro:b.rw=false:=by
    have:=bu _ _ _ hx
    rcases List.mem_cons.1 this with e | hx
    ·cases e;rfl
    ·exact h.good.ro _ hx
   rw[hro]at hrw;cases hrw
  ·have hro:b.rw=false:=by
    have:=bu _ _ _ hx
    rcases List.mem_cons.1 this with e | hx
    ·cases e;rfl
    ·exact h.good.ro _ hx
   rw[hro]at hrw;cases hrw
  ·by_cases e:x=k
   ·subst e;rw[ay];exact hM _ (List.Mem.head _)
   ·rw[bj _ _ _ _ e];exact h.named M (fun u hu=>hM u (List.Mem.tail _ hu)) x (by omega)
  ·rw[eF,ay]
  ·have hs: ∀ x:SV,SV.names (fun n=>n < k) x→SV.aI (upd r k t) x=SV.aI r x:=fun x hx=>by
    exact SV.DE (SV.cn (fun n (h1:n < k)=>bj _ _ _ _ (by omega)) hx)
   rcases hu.at_ with ⟨⟨a,rfl⟩,_⟩ | ⟨t',o',c',rw',cs',rfl,h1,_,_⟩
   ·rfl
   ·have h1:t' < k:=hu.ok
    rw[eF,eF,bj _ _ _ _ (by omega)]
theorem QT {s:AS} {l:List (Nat×aN)} {k:Nat} (h:Handed k l) (hs: ∀ t,t < k→s.box t=lk l t):Fits s (fun n=>n) (lk l) none:=by
 refine ⟨fun n b hb=>⟨b, ?_,fun h=>h, ?_⟩,fun n n' b b' _ _ _ e=>e,fun n b hb hrw=> ?_,fun n hn=>(by cases hn)⟩
 ·rw[hs n (h.qn _ (bu _ _ _ hb)).1];exact hb
 ·exact (aQ (h.qn _ (bu _ _ _ hb)).2.2 _).symm
 ·have:=h.ro _ (bu _ _ _ hb)
  simp only at this
  rw[this]at hrw;cases hrw
theorem Arg.id {k n:Nat} {l:List (Nat×aN)} {v:AV} {f:Nat→Int} (h:Arg k l v n f):AV.aI (fun n=>n) v=v:=ig (fun n _=>rfl) h.ok
section
variable {P:Program} [Tables P]
theorem bp {t tx:Nat} (hk:qh P t=some ([Value.int .u8 0],1,1)) (hx:rZ P tx=some (none,1)) {s:AS} {nm b o n c m:Nat} {f g:Nat→Int} {cs:List SV} {x:AV} (hb:s.box b=some ⟨true,cs⟩) (hg:bK cs o n c f)
  (hsrc:oy s.box b x m g) (hby:n+m≤140737488355328) {ty:TypeId} {ct:Array Bool} {dst:Option Nat} {K:AS→Prop}
  (hK: ∀ c' cs',bK cs' 0 (n+m) c' (aP n f g)→K ((⟨s.env,upd (upd s.box b none) nm (some ⟨true,cs'⟩),s.next⟩:AS).put dst (some (Sl nm 0 (n+m) c')))):
  bQ P nm .append #[t,tx] ty ct (some [Sl b o n c,x]) dst K s:=by
 have e1: ∀ i,i < n→f i=aP n f g i:=fun i hi=>by simp only[aP,if_pos hi]
 have e2: ∀ i,i < m→g i=aP n f g (n+i):=fun i hi=>by simp only[aP];rw[if_neg (by omega),show n+i - n=i by omega]
 refine jK (olds:=af .u8 n f) (news:=af .u8 m g) hk hx rfl (by decide) rfl hb (by rw[hg.len,Nat.mul_one]) hg.room (by rw[ah,Nat.mul_one]) (fu hg.shows) hg.plain ?_ (by omega) (by omega)
  (fun c' tail h1 h2 h3=>hK c' _ (bK.join e1 e2 h1 h2 h3))
 rcases hsrc with ⟨⟨a,rfl⟩,rfl⟩ | ⟨t',o',c',rw',cs',rfl,h1,h2,h3⟩
 ·exact .inr ⟨⟨_,rfl⟩,rfl,rfl⟩
 ·exact .inl ⟨t',o',c',⟨rw',cs'⟩,rfl,h1,by rw[ah,Nat.mul_one],fu h2,fun e=>h3 (by cases e;rfl)⟩
theorem iM {t tx:Nat} (hk:qh P t=some ([Value.int .u8 0],1,1)) (hx:rZ P tx=some (none,1)) {s:AS} {nm m:Nat} {g:Nat→Int} {x:AV}
  (hsrc:bG s.box x m g) (hby:m≤140737488355328) {ty:TypeId} {ct:Array Bool} {dst:Option Nat} {K:AS→Prop}
  (h0:m=0→K (s.put dst (some (V (.slice none 0 0)))))
  (hK:0 < m→ ∀ c' cs',bK cs' 0 m c' g→K ((⟨s.env,upd s.box nm (some ⟨true,cs'⟩),s.next⟩:AS).put dst (some (Sl nm 0 m c')))):
  bQ P nm .append #[t,tx] ty ct (some [V (.slice none 0 0),x]) dst K s:=by
 refine ji (news:=af .u8 m g) hk hx rfl (by decide) rfl ?_ (by omega) (by omega) h0 (fun h c' tail h1 h2 h3=>hK h c' _ (bK.row h1 (by omega) h3))
 rcases hsrc with ⟨⟨a,rfl⟩,rfl⟩ | ⟨t',o',c',rw',cs',rfl,h1,_,h2⟩
 ·exact .inr ⟨⟨_,rfl⟩,rfl,rfl⟩
 ·exact .inl ⟨t',o',c',⟨rw',cs'⟩,rfl,h1,by rw[ah,Nat.mul_one],fu h2,fun e=>by cases e⟩
end
theorem vM {P:Program} [Tables P] {s:AS} {fn n nm t:Nat} {f:Nat→Int} {args l:List AV} {cs:List SV} (h:bf P fn args 1 (lk [(0,⟨true,cs⟩)]) (Made 1 n f)) (hb:s.box t=some ⟨true,cs⟩) (hp:cs.all SV.plain=true) (hl:l=args.map (AV.aI fun _=>t)) {dst:Option Nat} {K:AS→Prop}
  (hk: ∀ c cs',bK cs' 0 n c f→K ((⟨s.env,upd (upd s.box nm (some ⟨true,cs'⟩)) t none,s.next⟩:AS).put dst (some (Sl nm 0 n c)))):ax P nm fn (some l) dst K s:=by
 refine h.ax (fun _=>t) (some 0) (A7 hb hp) hl ?_
 rintro v out ⟨c,tail,rfl,rfl,h1,h2,h3⟩ _
 have e:AV.aI (dJ (fun _=>t) 1 nm) (Sl 1 0 n c)=Sl nm 0 n c:=by show Sl (dJ (fun _=>t) 1 nm 1) 0 n c=_;rw[gT]
 rw[e]
 have:=hk c _ (bK.row h1 h2 h3)
 have e2:after s (fun _=>t) 1 nm (some 0) (lk [(1,(⟨true,af .u8 n f++tail⟩:aN))])=upd (upd s.box nm (some ⟨true,af .u8 n f++tail⟩)) t none:=by
  simp[after,lk,aN.aI,aQ (cD h3)]
 rw[e2]
 exact this
theorem fF {s:AS} {k q n m c:Nat} {f:Nat→Int} {cs:List SV} (hq:k≤q) (h:bK cs 0 n c f) (hb:s.box q=some ⟨true,cs⟩) (e:n=m):qA k (Made k m f) (Sl q 0 n c) s:=by
 subst e
 exact dV hq hb h.plain h.made
def Bytes (k n:Nat) (f:Nat→Int) (v:AV) (out:Nat→Option aN):Prop:=(n=0∧v=V (.slice none 0 0)∧out=fun _=>none)∨Made k n f v out
theorem LX {P:Program} [Tables P] {s:AS} {fn k n nm:Nat} {f:Nat→Int} {args l:List AV} {ins:Nat→Option aN} (h:bf P fn args k ins (Bytes k n f)) (r:Nat→Nat) (hfit:Fits s r ins none) (hl:l=args.map (AV.aI r)) {dst:Option Nat} {K:AS→Prop}
  (hk: ∀ x IB,(∀ t,t≠nm→IB t=s.box t)→(∀ b,b≠nm→oy IB b x n f)→bG IB x n f→K ((⟨s.env,IB,s.next⟩:AS).put dst (some x))):ax P nm fn (some l) dst K s:=by
 refine h.ax r none hfit hl ?_
 rintro v out (⟨rfl,rfl,rfl⟩ | ⟨c,tail,rfl,rfl,h1,h2,h3⟩) _
 ·exact hk (V (.slice none 0 0)) s.box (fun _ _=>rfl) (fun _ _=> .inl ⟨⟨_,rfl⟩,rfl⟩) (.inl ⟨⟨_,rfl⟩,rfl⟩)
 ·rw[fN (cD h3)]
  have e:AV.aI (dJ r k nm) (Sl k 0 n c)=Sl nm 0 n c:=by show Sl (dJ r k nm k) 0 n c=_;rw[gT]
  rw[e]
  exact hk (Sl nm 0 n c) _ (fun t ht=>bj _ _ _ _ ht) (fun b hb=> .inr ⟨nm,0,c,true,_,rfl,ay _ _ _,dg,fun e=>hb e.symm⟩) (.inr ⟨nm,0,c,true,_,rfl,ay _ _ _,cD h3,dg⟩)
def Be (k n:Nat) (f:Nat→Int) (v:AV) (out:Nat→Option aN):Prop:=v=Sl k 0 n n∧out=lk [(k,⟨true,af .u8 n f⟩)]
theorem Be.made {k n:Nat} {f:Nat→Int} {v:AV} {out:Nat→Option aN} (h:Be k n f v out):Made k n f v out:=
 ⟨n,[],h.1,by rw[List.append_nil];exact h.2,Nat.le_refl _,by simp,rfl⟩
theorem kL {P:Program} [Tables P] {s:AS} {fn k n nm:Nat} {f:Nat→Int} {args l:List AV} {ins:Nat→Option aN} (h:bf P fn args k ins (Be k n f)) (r:Nat→Nat) (hfit:Fits s r ins none) (hl:l=args.map (AV.aI r)) {dst:Option Nat} {K:AS→Prop}
  (hk:K ((⟨s.env,upd s.box nm (some ⟨true,af .u8 n f⟩),s.next⟩:AS).put dst (some (Sl nm 0 n n)))):ax P nm fn (some l) dst K s:=by
 refine h.ax r none hfit hl ?_
 rintro v out ⟨rfl,rfl⟩ _
 rw[fN aw]
 have e:AV.aI (dJ r k nm) (Sl k 0 n n)=Sl nm 0 n n:=by show Sl (dJ r k nm k) 0 n n=_;rw[gT]
 rw[e]
 exact hk
theorem LY {P:Program} [Tables P] {s:AS} {fn k n nm:Nat} {f:Nat→Int} {args l:List AV} {ins:Nat→Option aN} (h:bf P fn args k ins (Be k n f)) (r:Nat→Nat) (hfit:Fits s r ins none) (hl:l=args.map (AV.aI r))
  (hnamed: ∀ M:Nat→Prop,(∀ v ∈ l,AV.ok M v)→ ∀ n,n < k→M (r n)) {ops:Array Oper} {i:Nat} {dst:Option Nat} {K:AS→Prop}
  (hk:K ((⟨s.env,upd s.box nm (some ⟨true,af .u8 n f⟩),s.next⟩:AS).put dst (some (Sl nm 0 n n)))):ov P ops i nm fn (some l) dst K s:=by
 refine .inr (.inl ⟨(some (Sl nm 0 n n),some (.inl (af .u8 n f))),h.reads r hfit hl hnamed ?_ ?_,hk⟩)
 ·rintro v out ⟨rfl,rfl⟩
  have e:AV.aI (dJ r k nm) (Sl k 0 n n)=Sl nm 0 n n:=by show Sl (dJ r k nm k) 0 n n=_;rw[gT]
  simp[LQ,lk,aQ aw,e]
 ·rintro e rfl
  exact .inr ⟨_,rfl⟩
theorem Bf (m:Nat):cC [Value.int .u8 0] m=af .u8 m (fun _=>0):=by
 have h:(Builtin.zeroCells [Value.int IntKind.u8 0].toArray m).toList=(List.range m).map fun _=>Value.int .u8 0:=by
  simp[Builtin.zeroCells,Nat.mod_one]
 simp only[cC,h,af,List.map_map,Function.comp_def]
section
variable {P:Program} [Tables P]
theorem Pb {n c z:Nat} {hi:Option Int}:gE (some (none,z)) (some (V (.slice none n c))) (some none) (some hi)=slN c 0 (hi.getD n):=rfl
theorem Pc {c:Nat} {l h:Int}:slN c l h=if 0≤l∧l≤h∧h≤c then some (some (V (.slice none (h.toNat - l.toNat) (c - l.toNat))),none) else none:=rfl
theorem Pd {nm:Nat} {dst:Option Nat} {K:AS→Prop} {s:AS} {ty:TypeId} {pos:String} {after:Array Edge} {xs:List Operand} {tys:Array TypeId}:cl P nm ⟨dst, .call ⟨.builtin .cap,xs.toArray,tys⟩,ty,pos,after,none⟩ K s=
  bQ P nm .cap tys ty (xs.toArray.map isConst) (bD s xs) dst K s:=rfl
theorem Bg {t sz:Nat} (hx:rZ P t=some (none,sz)) {a:Option Addr} {n c:Nat} {s:AS} {nm:Nat} {ty:TypeId} {ct:Array Bool} {dst:Option Nat} {K:AS→Prop} (hk:K (s.put dst (some (I .i64 c)))):
  bQ P nm .cap #[t] ty ct (some [V (.slice a n c)]) dst K s:=by
 intro W N w0 g a' w h
 obtain ⟨e,i,_,_,⟨_,hu⟩ | ⟨m,hm,_⟩⟩:=oh hx
 ·exact ⟨I .i64 c,g,s,w,by simp[builtin,Builtin.cap_,run_underlying hu,AV.aq,CV.aq,SV.aq,cP,goInt],trivial,h.mono (fun n hn=>by omega),hk⟩
 ·cases hm
theorem FN {t tx:Nat} {kn:IntKind} (hk:qh P t=some ([Value.int .u8 0],1,1)) (hx:kindOf P tx=some kn)
  {m:Nat} {kq:IntKind} (hm0:0 < m) (hm1:m≤140737488355328) {s:AS} {nm:Nat} {ty:TypeId} {ct:Array Bool} {dst:Option Nat} {K:AS→Prop}
  (hK: ∀ c' cs',bK cs' 0 m c' (fun _=>0)→K ((⟨s.env,upd s.box nm (some ⟨true,cs'⟩),s.next⟩:AS).put dst (some (Sl nm 0 m c')))):
  bQ P nm .append #[t,tx] ty ct (some [V (.slice none 0 0),I kq m]) dst K s:=by
 intro W N w0 g a w h
 obtain ⟨e,i,v,hu,hi,hv,S7,hsz,xy,j5⟩:=j8 hk
 have hux:P.underlying tx=some (.int kn):=by
  unfold kindOf at hx
  split at hx
  ·rename_i k hk';simp only[Option.some.injEq]at hx;rw[hk',hx]
  ·cases hx
 have DB:v.cells=[Value.int .u8 0].toArray:=by rw[← S7]
 have hr:=Lib.run_append_grow_zeros (P:=P) w t tx ty e i v kq kn hu hux hi hv none 0 0 [] (run_firstCells_none w.drew i.size 0 0 0) m hm0 (by omega) (by omega) (by omega) (by rw[xy];omega) (growslice_fits (by omega) (by rw[xy];omega))
 rw[Nat.zero_add]at hr
 have hge:=grownCap_ge w m 0 e
 generalize grownCap w m 0 e=c' at hr hge
 have hz1:([Value.int .u8 0]:List Value).all Value.oneCell'=true:=rfl
 have hp:(cC [Value.int .u8 0] m++cC [Value.int .u8 0] (c' - m)).all SV.plain=true:=by
  rw[List.all_append,dh (by decide) hz1 rfl,dh (by decide) hz1 rfl];rfl
 have hnb:=h.drew.xn (nm:=nm) (Nat.lt_irrefl nm) (aC hp) e
 refine ⟨Sl nm 0 m c',_,_,_, ?_,Nat.lt_succ_self nm,hnb.mono (fun n hn=>by rcases hn with h | h<;>omega), ?_⟩
 ·simp only[builtin,List.map_cons,List.map_nil,Sem.run_bind]
  show (((Builtin.append_ #[t,tx] ty #[.slice none 0 0, .int kq m]).run P w).andThen fun a w'=>(pure (Next.value a):Sem Next).run P w')=_
  rw[hr]
  simp only[Result.andThen_ok,Sem.run_pure,AV.aq,CV.aq,SV.aq,cP,ay,Nat.zero_add]
  congr 1
  show World.alloc _ _=World.alloc _ _
  congr 2
  apply Array.ext'
  simp[DB,iu _ (z:=[Value.int .u8 0]) (by decide) hz1 rfl]
 ·have e2:cC [Value.int .u8 0] m++cC [Value.int .u8 0] (c' - m)=af .u8 m (fun _=>0)++cC [Value.int .u8 0] (c' - m):=by rw[Bf m]
  have:=hK c' _ (bK.row (f:=fun _=>0) hge (by rw[jB];simp) (dh (z:=[Value.int .u8 0]) (n:=c' - m) (by decide) hz1 rfl))
  rw[← e2]at this
  exact this
end
end Go.bU
