/-
  Common lemmas on rows, bytes and counted numbers; and what a list of bytes looks like in a state. Nothing here speaks of a program.
-/
import Derived.Test.YtoakenpcooglpaaGreatDoorVcgT
import Derived.Test.YtoakenpcooglpaaGreatDoorVcgN
set_option linter.unusedVariables false
set_option linter.unusedSimpArgs false
namespace Go.cA
set_option linter.unusedSectionVars false
def bY (f:Nat→Int):Prop:= ∀ i,0≤f i∧f i < 256
theorem aw {k:IntKind} {n:Nat} {f:Nat→Int}:(ae k n f).all SV.plain=true:=km k n f
theorem Gs (n:Nat):(0≤(n:Int))=True:=by simp
theorem bl (t:Nat):(0≤(t:Int))=True:=by simp
theorem cf {n m:Nat} (h:n < m):((n:Int) < (m:Int))=True:=by simp[h]
theorem dO {a b:Nat} (h:a < b):((a:Int) < (b:Int))=True:=eq_true (by omega)
theorem Vv {a b:Nat} (h:a≤b):((a:Int)≤(b:Int))=True:=eq_true (by omega)
theorem Cv (t d:Nat) (h:t < 9223372036854775808):IntKind.i64.wrap ((t:Int).tdiv (d:Int))=((t / d:Nat):Int):=by
 have:t / d≤t:=Nat.div_le_self t d
 rw[← Int.ofNat_tdiv]
 generalize t / d=q at*
 rw[wrap_i64 _ (by omega) (by omega)]
theorem Xn (t:Nat) (h:t < 9223372036854775808):IntKind.i64.wrap ((t:Int).tdiv 8)=((t / 8:Nat):Int):=Cv t 8 h
theorem IZ (t:Nat):(t:Int).tmod 8=((t%8:Nat):Int):=(Int.ofNat_tmod t 8).symm
theorem NO (t d:Nat):(t:Int).tmod (d:Int)=((t%d:Nat):Int):=(Int.ofNat_tmod t d).symm
theorem Xo (n:Nat) (h:n < 9223372036854775808):IntKind.i64.wrap ((n:Int))=(n:Int):=wrap_i64 _ (by omega) (by omega)
theorem bD (n:Nat) (h:n < 9223372036854775807):IntKind.i64.wrap ((n:Int)+1)=((n+1:Nat):Int):=wrap_i64 _ (by omega) (by omega)
theorem I0 (n m:Nat) (h:n+m < 9223372036854775807):IntKind.i64.wrap ((n:Int)+(m:Int))=((n+m:Nat):Int):=wrap_i64 _ (by omega) (by omega)
theorem ac9 (n m:Nat) (h:m≤n) (h':n < 9223372036854775807):IntKind.i64.wrap ((n:Int) - (m:Int))=((n - m:Nat):Int):=by
 rw[show (n:Int) - (m:Int)=((n - m:Nat):Int) by omega];exact Xo _ (by omega)
theorem ov (n:Nat) (k:IntKind) (c:Int):(List.replicate n (Value.int k c)).all Value.oneCell'=true:=by
 rw[List.all_eq_true];intro x hx;rw[List.eq_of_mem_replicate hx];rfl
theorem aF (n:Nat) (k:IntKind) (c:Int):List.map Sum.inl (List.replicate n (Value.int k c))=ae k n (fun _=>c):=by
 rw[ae,List.map_replicate]
 apply List.ext_getElem?
 intro i
 simp[List.getElem?_replicate]
 split
 ·rename_i h;rw[List.getElem?_range h];rfl
 ·rename_i h;rw[List.getElem?_eq_none (by simp;omega)];rfl
theorem al (n:Nat) (k:IntKind) (c:Int):List.replicate n (Sum.inl (Value.int k c):SV)=ae k n (fun _=>c):=by
 rw[← aF];simp
theorem dP (k:IntKind) (n:Nat) (f g:Nat→Int):splice (ae k n f) 0 (ae k n g)=ae k n g:=by
 rw[splice];simp[ah]
theorem hY (k:IntKind) (n:Nat) (f:Nat→Int):List.take n (ae k n f)=ae k n f:=List.take_of_length_le (by rw[ah];exact Nat.le_refl n)
theorem xU {k:IntKind} {n:Nat} {f g:Nat→Int} (h: ∀ i,i < n→f i=g i):Ag (ae k n f)=Ag (ae k n g):=by rw[aV h]
theorem fc {k:IntKind} {n m:Nat} {f:Nat→Int}:ae k n (upd (fun i=>if i < m then f i else 0) m (f m))=ae k n (fun i=>if i < m+1 then f i else 0):=by
 refine aV fun i _=> ?_
 simp only[upd]
 split
 ·rename_i e;subst e;rw[if_pos (by omega)]
 ·split
  ·rw[if_pos (by omega)]
  ·rw[if_neg (by omega)]
theorem fj {k:IntKind} {n m:Nat} {f g:Nat→Int}:ae k n (upd (fun i=>if i < m then f i else g i) m (f m))=ae k n (fun i=>if i < m+1 then f i else g i):=by
 refine aV fun i _=> ?_
 simp only[upd]
 split
 ·rename_i e;subst e;rw[if_pos (by omega)]
 ·split
  ·rw[if_pos (by omega)]
  ·rw[if_neg (by omega)]
theorem dG {k:IntKind} {n:Nat} {f g:Nat→Int}:ae k n (fun i=>if i < n then f i else g i)=ae k n f:=
 aV fun i hi=>by rw[if_pos hi]
theorem rM {k:IntKind} {n:Nat} {f g:Nat→Int}:ae k n (fun i=>if i < 0 then f i else g i)=ae k n g:=
 aV fun i hi=>by rw[if_neg (by omega)]
theorem gq (op:BinOp) (x y:Int):0≤aS op .u8 x y∧aS op .u8 x y < 256:=by
 have h: ∀ z:Int,0≤IntKind.u8.wrap z∧IntKind.u8.wrap z < 256:=fun z=>by rw[wrap_u8];omega
 simp only[aS]
 split<;>exact h _
theorem Xp (k:IntKind) (n:Nat) (f:Nat→Int) (v:Int):ae k n f++[Sum.inl (Value.int k v)]=ae k (n+1) (upd f n v):=by
 simp only[ae,List.range_succ,List.map_append,List.map_cons,List.map_nil,ax]
 congr 1
 refine List.map_congr_left fun i hi=> ?_
 rw[bg _ _ _ _ (by have:=List.mem_range.1 hi;omega)]
theorem I1 (k:IntKind) (n m:Nat) (f g:Nat→Int):ae k n f++ae k m g=ae k (n+m) (fun i=>if i < n then f i else g (i - n)):=by
 apply List.ext_getElem?
 intro i
 by_cases h:i < n
 ·rw[List.getElem?_append_left (by rw[ah];exact h),ay k n f i h,ay k (n+m) _ i (by omega),if_pos h]
 ·rw[List.getElem?_append_right (by rw[ah];omega),ah]
  by_cases h2:i - n < m
  ·rw[ay k m g _ h2,ay k (n+m) _ i (by omega),if_neg h]
  ·rw[List.getElem?_eq_none (by rw[ah];omega),List.getElem?_eq_none (by rw[ah];omega)]
def eI (m p q:Nat) (s:AS) (env:List (Nat×AV)) (box:List (Nat×aW)) (next:Nat):Prop:=
 m≤p∧(m≤q∨ ∀ x ∈ box,x.1≠q)∧(∀ x ∈ env,s.env x.1=some (AV.bh (upd (fun n=>n) p q) x.2)∧AV.ok (fun n=>n < next) x.2)∧
  (∀ x ∈ box,(x.1 < m∨x.1=p)∧s.box (upd (fun n=>n) p q x.1)=some x.2∧x.1 < next∧(x.2.cells.all SV.plain=true∨ ∀ y ∈ x.2.cells,SV.ok (fun n=>n < next∧n≠p) y))
theorem Vw {p q next:Nat} {l:List SV} (h: ∀ y ∈ l,SV.ok (fun n=>n < next∧n≠p) y):l=l.map (SV.bh (upd (fun n=>n) p q)):=by
 conv=>lhs;rw[← List.map_id l]
 refine List.map_congr_left fun y hy=> ?_
 have:=h y hy
 rcases y with v | ⟨t,o⟩ | ⟨t,o,n,c⟩
 ·rfl
 ·have h1:t≠p:=this.1.2
  simp only[SV.bh,id,bg _ _ _ _ h1]
 ·have h1:t≠p:=this.1.2
  simp only[SV.bh,id,bg _ _ _ _ h1]
theorem eI.dv {s:AS} {m p q:Nat} {env:List (Nat×AV)} {box:List (Nat×aW)} {next:Nat} (h:eI m p q s env box next):wv m s (ou env box next):=by
 obtain ⟨hp,hq,he,hb⟩:=h
 refine ⟨upd (fun n=>n) p q,⟨fun d v hv=>(he _ (bq _ _ _ hv)).1,fun n b hn=> ?_,fun n n' b b' hn _ hn' e=> ?_,fun d v hv=>(he _ (bq _ _ _ hv)).2,fun t b ht=> ?_⟩,fun n hn=>bg _ _ _ _ (by omega)⟩
 ·have:=hb _ (bq _ _ _ hn)
  refine ⟨b,this.2.1,fun h=>h, ?_⟩
  rcases this.2.2.2 with h | h
  ·exact (bj h _).symm
  ·exact Vw h
 ·have h1:=(hb _ (bq _ _ _ hn)).1
  have h2:=(hb _ (bq _ _ _ hn')).1
  have h3:m≤q∨(n≠q∧n'≠q):=by
   rcases hq with h | h
   ·exact .inl h
   ·exact .inr ⟨h _ (bq _ _ _ hn),h _ (bq _ _ _ hn')⟩
  simp only at h1 h2
  simp only[upd]at e
  split at e<;>split at e<;>omega
 ·have:=hb _ (bq _ _ _ ht)
  refine ⟨this.2.2.1, ?_⟩
  rcases this.2.2.2 with h | h
  ·exact aJ h
  ·exact fun y hy=>SV.bA (fun n hn=>hn.1) (h y hy)
theorem uy {s:AS} {m p q k next:Nat} {env:List (Nat×AV)} {l:List (Nat×aW)} {cs:List SV} (hmp:m≤p) (WU:p < next) (hkm:k≤m) (hkq:k≤q) (gH: ∀ x ∈ env,s.env x.1=some (AV.bh (upd (fun n=>n) p q) x.2)∧AV.ok (fun n=>n < next) x.2)
  (hb:s.box q=some ⟨true,cs⟩) (hp:cs.all SV.plain=true) (hl: ∀ x ∈ l,x.1 < k∧lk l x.1=some x.2∧ ∀ y ∈ x.2.cells,SV.ok (fun n=>n < k) y) (hs: ∀ t,t < k→s.box t=lk l t):eI m p q s env ((p,⟨true,cs⟩)::l) next:=by
 refine ⟨hmp, ?_,gH,fun x hx=> ?_⟩
 ·rcases Nat.lt_or_ge q m with h | h
  ·refine .inr fun x hx=> ?_
   rcases List.mem_cons.1 hx with rfl | hx
   ·show p≠q;omega
   ·have:=(hl x hx).1;omega
  ·exact .inl h
 ·rcases List.mem_cons.1 hx with rfl | hx
  ·exact ⟨.inr rfl,by simpa only[ax] using hb,WU, .inl hp⟩
  ·obtain ⟨h1,h2,h3⟩:=hl x hx
   refine ⟨.inl (by omega), ?_,by omega, .inr fun y hy=>SV.bA (fun n hn=>⟨by omega,by omega⟩) (h3 y hy)⟩
   rw[bg _ _ _ _ (by omega),hs _ h1,h2]
theorem lz {P:Program} [Tables P] {s:AS} {c:Code} {F:Exit→AS→Prop} {β:Type} (n:Nat) (Inv:Nat→β→Prop) (env:Nat→β→List (Nat×AV)) (box:Nat→β→List (Nat×aW)) (next:Nat) (x0:β)
  (h0:Inv 0 x0∧ ∃ p q,eI s.next p q s (env 0 x0) (box 0 x0) next)
  (hstep: ∀ k x,k < n→Inv k x→vc P c (fi (fun s'=> ∃ y,Inv (k+1) y∧ ∃ p q,eI s.next p q s' (env (k+1) y) (box (k+1) y) next) F) (ou (env k x) (box k x) next))
  (hend: ∀ x,Inv n x→vc P c (fi (fun _=>False) F) (ou (env n x) (box n x) next)) (hn:s.next≤next):jJ (vc P c) F s:=by
 have hmono: ∀ (K K':AS→Prop) t,(∀ s,K s→K' s)→vc P c (fi K F) t→vc P c (fi K' F) t:=fun K K' t h hv=>fU c _ _ (fun e s hs=>by
  cases e with
  | normal=>exact h s hs
  | _=>exact hs) t hv
 obtain ⟨wH,p0,q0,hb0⟩:=h0
 refine ⟨{ y:Nat×β // y.1≤n∧Inv y.1 y.2 },fun y=>ou (env y.1.1 y.1.2) (box y.1.1 y.1.2) next,fun y=>n - y.1.1,⟨(0,x0),Nat.zero_le _,wH⟩,hb0.dv,fun _=>hn,fun y=> ?_⟩
 obtain ⟨⟨k,x⟩,h1,h2⟩:=y
 rcases Nat.lt_or_ge k n with h | h
 ·refine hmono _ _ _ (fun s' hs=> ?_) (hstep k x h h2)
  obtain ⟨z,hz,p,q,hb⟩:=hs
  exact ⟨⟨(k+1,z),h,hz⟩,by show n - (k+1) < n - k;omega,hb.dv⟩
 ·have e:k=n:=Nat.le_antisymm h1 h
  subst e
  exact hmono (fun _=>False) _ _ (fun s' hs=>False.elim hs) (hend x h2)
def ox (m:Nat) (r:Nat→Nat) (s:AS) (env:List (Nat×AV)) (box:List (Nat×aW)) (next:Nat):Prop:=
 (∀ n,n < m→r n=n)∧(∀ x ∈ env,s.env x.1=some (AV.bh r x.2)∧AV.ok (fun n=>n < next) x.2)∧
  (∀ x ∈ box,s.box (r x.1)=some x.2∧x.1 < next∧x.2.cells.all SV.plain=true)∧(∀ x ∈ box, ∀ y ∈ box,r x.1=r y.1→x.1=y.1)
theorem ox.dv {s:AS} {m:Nat} {r:Nat→Nat} {env:List (Nat×AV)} {box:List (Nat×aW)} {next:Nat} (h:ox m r s env box next):wv m s (ou env box next):=by
 obtain ⟨hm,he,hb,hi⟩:=h
 refine ⟨r,⟨fun d v hv=>(he _ (bq _ _ _ hv)).1,fun n b hn=> ?_,fun n n' b b' hn _ hn' e=>hi _ (bq _ _ _ hn) _ (bq _ _ _ hn') e,fun d v hv=>(he _ (bq _ _ _ hv)).2,fun t b ht=> ?_⟩,hm⟩
 ·have:=hb _ (bq _ _ _ hn)
  exact ⟨b,this.1,fun h=>h,(bj this.2.2 _).symm⟩
 ·have:=hb _ (bq _ _ _ ht)
  exact ⟨this.2.1,aJ this.2.2⟩
theorem xV {P:Program} [Tables P] {s:AS} {c:Code} {F:Exit→AS→Prop} {β:Type} (n:Nat) (Inv:Nat→β→Prop) (env:Nat→β→List (Nat×AV)) (box:Nat→β→List (Nat×aW)) (next:Nat) (x0:β)
  (h0:Inv 0 x0∧ ∃ r,ox s.next r s (env 0 x0) (box 0 x0) next)
  (hstep: ∀ k x,k < n→Inv k x→vc P c (fi (fun s'=> ∃ y,Inv (k+1) y∧ ∃ r,ox s.next r s' (env (k+1) y) (box (k+1) y) next) F) (ou (env k x) (box k x) next))
  (hend: ∀ x,Inv n x→vc P c (fi (fun _=>False) F) (ou (env n x) (box n x) next)) (hn:s.next≤next):jJ (vc P c) F s:=by
 have hmono: ∀ (K K':AS→Prop) t,(∀ s,K s→K' s)→vc P c (fi K F) t→vc P c (fi K' F) t:=fun K K' t h hv=>fU c _ _ (fun e s hs=>by
  cases e with
  | normal=>exact h s hs
  | _=>exact hs) t hv
 obtain ⟨wH,r0,hb0⟩:=h0
 refine ⟨{ y:Nat×β // y.1≤n∧Inv y.1 y.2 },fun y=>ou (env y.1.1 y.1.2) (box y.1.1 y.1.2) next,fun y=>n - y.1.1,⟨(0,x0),Nat.zero_le _,wH⟩,hb0.dv,fun _=>hn,fun y=> ?_⟩
 obtain ⟨⟨k,x⟩,h1,h2⟩:=y
 rcases Nat.lt_or_ge k n with h | h
 ·refine hmono _ _ _ (fun s' hs=> ?_) (hstep k x h h2)
  obtain ⟨z,hz,r,hb⟩:=hs
  exact ⟨⟨(k+1,z),h,hz⟩,by show n - (k+1) < n - k;omega,hb.dv⟩
 ·have e:k=n:=Nat.le_antisymm h1 h
  subst e
  exact hmono (fun _=>False) _ _ (fun s' hs=>False.elim hs) (hend x h2)
theorem xW {s:AS} {m p q next:Nat} {env:List (Nat×AV)} {l:List (Nat×aW)} {cs:List SV} (hmp:m≤p) (WU:p < next) (gH: ∀ x ∈ env,s.env x.1=some (AV.bh (upd (fun n=>n) p q) x.2)∧AV.ok (fun n=>n < next) x.2)
  (hb:s.box q=some ⟨true,cs⟩) (hp:cs.all SV.plain=true) (hl: ∀ x ∈ l,x.1 < m∧x.1≠q∧s.box x.1=some x.2∧x.2.cells.all SV.plain=true):eI m p q s env ((p,⟨true,cs⟩)::l) next:=by
 refine ⟨hmp, ?_,gH,fun x hx=> ?_⟩
 ·rcases Nat.lt_or_ge q m with h | h
  ·refine .inr fun x hx=> ?_
   rcases List.mem_cons.1 hx with rfl | hx
   ·show p≠q;omega
   ·exact (hl x hx).2.1
  ·exact .inl h
 ·rcases List.mem_cons.1 hx with rfl | hx
  ·exact ⟨.inr rfl,by simpa only[ax] using hb,WU, .inl hp⟩
  ·obtain ⟨h1,h2,h3,h4⟩:=hl x hx
   exact ⟨.inl h1,by rw[bg _ _ _ _ (by omega),h3],by omega, .inl h4⟩
theorem gu {r:Nat→Nat} {k:Nat} (hr: ∀ n,n < k→r n=n) {v:AV} (h:AV.ok (fun n=>n < k) v):AV.bh r v=v:=by
 have hs: ∀ x:SV,SV.names (fun n=>n < k) x→SV.bh r x=x:=fun x hx=>by
  rcases x with v | ⟨t,o⟩ | ⟨t,o,n,c⟩
  ·rfl
  ·simp only[SV.bh,hr t hx]
  ·simp only[SV.bh,hr t hx]
 have hc: ∀ x:CV,CV.ok (fun n=>n < k) x→CV.bh r x=x:=fun x hx=>by
  rcases x with x | l
  ·simp only[CV.bh];rw[hs x hx]
  ·simp only[CV.bh]
   congr 1
   conv=>rhs;rw[← List.map_id l]
   exact List.map_congr_left fun y hy=>hs y (hx y hy).1
 rcases v with x | l
 ·simp only[AV.bh];rw[hc x h]
 ·simp only[AV.bh]
  congr 1
  conv=>rhs;rw[← List.map_id l]
  exact List.map_congr_left fun y hy=>hc y (h y hy)
theorem Xq {P:Program} [Tables P] {c1 c2:Code} {F:Exit→AS→Prop} {s:AS} {b:Bool} (oO:AS→Prop) (h1:b=true→vc P c1 (fi oO (fun _ _=>False)) s) (h2:b=false→vc P c2 (fi oO (fun _ _=>False)) s) (h: ∀ s',oO s'→F .normal s'):
  mP (some (B b)) (vc P c1 F) (vc P c2 F) s:=by
 have hm: ∀ e s',fi oO (fun _ _=>False) e s'→F e s':=fun e s' hs=>by
  cases e with
  | normal=>exact h s' hs
  | _=>exact False.elim hs
 exact ⟨fun hb=>fU c1 _ _ hm s (h1 hb),fun hb=>fU c2 _ _ hm s (h2 hb)⟩
theorem oy {s:AS} {m p q next:Nat} {env:List (Nat×AV)} {l:List (Nat×aW)} {cs ds:List SV} (hm:m≤60) (hn:61 < next) (hpq:p≠q)
  (gH: ∀ x ∈ env,s.env x.1=some (AV.bh (upd (upd (fun n=>n) 60 p) 61 q) x.2)∧AV.ok (fun n=>n < next) x.2)
  (hp:s.box p=some ⟨true,cs⟩) (hcs:cs.all SV.plain=true) (hq:s.box q=some ⟨true,ds⟩) (hds:ds.all SV.plain=true)
  (hl: ∀ x ∈ l,x.1 < m∧x.1≠p∧x.1≠q∧s.box x.1=some x.2∧x.2.cells.all SV.plain=true):ox m (upd (upd (fun n=>n) 60 p) 61 q) s env ((60,⟨true,cs⟩)::(61,⟨true,ds⟩)::l) next:=by
 have e60:upd (upd (fun n=>n) 60 p) 61 q 60=p:=by rw[bg _ _ _ _ (by decide),ax]
 have e61:upd (upd (fun n=>n) 60 p) 61 q 61=q:=ax _ _ _
 have el: ∀ x,x < m→upd (upd (fun n=>n) 60 p) 61 q x=x:=fun x hx=>by rw[bg _ _ _ _ (by omega),bg _ _ _ _ (by omega)]
 refine ⟨fun n hn=>el n hn,gH,fun x hx=> ?_,fun x hx y hy e=> ?_⟩
 ·rcases List.mem_cons.1 hx with rfl | hx
  ·exact ⟨by rw[e60];exact hp,by show 60 < next;omega,hcs⟩
  ·rcases List.mem_cons.1 hx with rfl | hx
   ·exact ⟨by rw[e61];exact hq,hn,hds⟩
   ·obtain ⟨h1,_,_,h4,h5⟩:=hl x hx
    exact ⟨by rw[el _ h1];exact h4,by omega,h5⟩
 ·rcases List.mem_cons.1 hx with rfl | hx<;>rcases List.mem_cons.1 hy with rfl | hy
  ·rfl
  ·rcases List.mem_cons.1 hy with rfl | hy
   ·rw[e60,e61]at e;exact absurd e hpq
   ·obtain ⟨h1,h2,_⟩:=hl y hy
    rw[e60,el _ h1]at e;exact absurd e.symm h2
  ·rcases List.mem_cons.1 hx with rfl | hx
   ·rw[e60,e61]at e;exact absurd e.symm hpq
   ·obtain ⟨h1,h2,_⟩:=hl x hx
    rw[e60,el _ h1]at e;exact absurd e h2
  ·rcases List.mem_cons.1 hx with rfl | hx<;>rcases List.mem_cons.1 hy with rfl | hy
   ·rfl
   ·obtain ⟨h1,_,h2,_⟩:=hl y hy
    rw[e61,el _ h1]at e;exact absurd e.symm h2
   ·obtain ⟨h1,_,h2,_⟩:=hl x hx
    rw[e61,el _ h1]at e;exact absurd e h2
   ·rw[el _ (hl x hx).1,el _ (hl y hy).1]at e;exact e
theorem Vx {s:AS} {m next:Nat} {env:List (Nat×AV)} {l:List (Nat×aW)} (hmn:m≤next) (gH: ∀ x ∈ env,s.env x.1=some x.2∧AV.ok (fun n=>n < next) x.2)
  (hl: ∀ x ∈ l,x.1 < m∧s.box x.1=some x.2∧x.2.cells.all SV.plain=true):ox m (fun n=>n) s env l next:=by
 have hr: ∀ v:AV,AV.ok (fun n=>n < next) v→AV.bh (fun n=>n) v=v:=fun v hv=>gu (k:=next) (fun n _=>rfl) hv
 exact ⟨fun n _=>rfl,fun x hx=>⟨by rw[hr _ (gH x hx).2];exact (gH x hx).1,(gH x hx).2⟩,fun x hx=>⟨(hl x hx).2.1,by have:=(hl x hx).1;omega,(hl x hx).2.2⟩,fun x _ y _ e=>e⟩
theorem gy {r:Nat→Nat} {k:IntKind} {n:Int}:AV.bh r (I k n)=I k n:=rfl
theorem jS {r:Nat→Nat} {v:Value}:AV.bh r (V v)=V v:=rfl
theorem iT {r:Nat→Nat} {t o:Nat}:AV.bh r (Ptr t o)=Ptr (r t) o:=rfl
theorem er {r:Nat→Nat} {t o n c:Nat}:AV.bh r (Sl t o n c)=Sl (r t) o n c:=rfl
theorem fV {r:Nat→Nat} {k:IntKind} {n:Nat} {f:Nat→Int}:AV.bh r (Ag (ae k n f))=Ag (ae k n f):=by
 show AV.bh r (.inl (.inr _))=_
 simp only[AV.bh,CV.bh,bj aw]
theorem aie {M:Nat→Prop} {k:IntKind} {n:Int}:AV.ok M (I k n)=True:=rfl
def aR (n:Nat) (f g:Nat→Int) (i:Nat):Int:=if i < n then f i else g (i - n)
def bE (cs:List SV) (o n:Nat) (f:Nat→Int):Prop:= ∀ i,i < n→cs[o+i]? =some (Sum.inl (.int .u8 (f i)))
def bC (box:Nat→Option aW) (v:AV) (n:Nat) (f:Nat→Int):Prop:=
 ((∃ a,v=V (.slice a 0 0))∧n=0)∨ ∃ t o c rw cs,v=Sl t o n c∧box t=some ⟨rw,cs⟩∧cs.all SV.plain=true∧bE cs o n f
def Made (k n:Nat) (f:Nat→Int) (v:AV) (out:Nat→Option aW):Prop:=
 ∃ c tail,v=Sl k 0 n c∧out=lk [(k,⟨true,ae .u8 n f++tail⟩)]∧n≤c∧tail.length=c - n∧tail.all SV.plain=true
theorem cH {n:Nat} {f:Nat→Int} {tail:List SV} (h:tail.all SV.plain=true):(ae .u8 n f++tail).all SV.plain=true:=by
 rw[List.all_append,aw,h];rfl
theorem cV {n:Nat} {f:Nat→Int} {tail:List SV}:bE (ae .u8 n f++tail) 0 n f:=fun i hi=>by
 rw[Nat.zero_add,List.getElem?_append_left (by rw[ah];exact hi),ay .u8 n f i hi]
theorem aP {n:Nat} {f:Nat→Int}:bE (ae .u8 n f) 0 n f:=fun i hi=>by rw[Nat.zero_add,ay .u8 n f i hi]
theorem fk {cs:List SV} {o n:Nat} {f:Nat→Int} (h:bE cs o n f): ∀ j u,(ae .u8 n f)[j]? =some u→cs[o+j]? =some u:=fun j u hj=>by
 by_cases hlt:j < n
 ·rw[ay .u8 n f j hlt]at hj;rw[h j hlt];exact hj
 ·rw[List.getElem?_eq_none (by rw[ah];omega)]at hj;cases hj
theorem QA {cs:List SV} {o:Nat}: ∀ j (u:SV),([]:List SV)[j]? =some u→cs[o+j]? =some u:=fun j u h=>by simp at h
theorem jc {cs:List SV} {o n:Nat} {f:Nat→Int} (h:bE cs o n f) (a m:Nat) (hm:a+m≤n):bE cs (o+a) m (fun i=>f (a+i)):=fun i hi=>by
 rw[Nat.add_assoc];exact h (a+i) (by omega)
theorem lZ {cs:List SV} {o n m:Nat} {f:Nat→Int} (h:bE cs o n f) (hm:m≤n):bE cs o m f:=fun i hi=>h i (by omega)
theorem kO {cs:List SV} {o n:Nat} {f g:Nat→Int} (h:bE cs o n f) (e: ∀ i,i < n→f i=g i):bE cs o n g:=fun i hi=>by rw[← e i hi];exact h i hi
theorem I2 {cs:List SV} {n:Nat} {f:Nat→Int} (h:bE cs 0 n f) (hl:n≤cs.length):cs=ae .u8 n f++cs.drop n:=by
 apply List.ext_getElem?
 intro i
 by_cases hi:i < n
 ·rw[List.getElem?_append_left (by rw[ah];exact hi),ay .u8 n f i hi]
  have:=h i hi
  rwa [Nat.zero_add]at this
 ·rw[List.getElem?_append_right (by rw[ah];omega),ah,List.getElem?_drop,show n+(i - n)=i by omega]
structure bR (cs:List SV) (o n c:Nat) (f:Nat→Int):Prop where
 len:cs.length=o+c
 room:n≤c
 plain:cs.all SV.plain=true
 ez:bE cs o n f
theorem bR.made {cs:List SV} {n c k:Nat} {f:Nat→Int} (h:bR cs 0 n c f):Made k n f (Sl k 0 n c) (lk [(k,⟨true,cs⟩)]):=by
 have hl:=h.len
 have hr:=h.room
 have e:=I2 h.ez (by omega)
 refine ⟨c,cs.drop n,rfl,by rw[← e],hr,by rw[List.length_drop];omega, ?_⟩
 have:=h.plain
 rw[e,List.all_append]at this
 exact (Bool.and_eq_true _ _▸this).2
theorem bR.row {n c:Nat} {f:Nat→Int} {tail:List SV} (hc:n≤c) (hl:tail.length=c - n) (hp:tail.all SV.plain=true):bR (ae .u8 n f++tail) 0 n c f:=
 ⟨by rw[List.length_append,ah];omega,hc,cH hp,cV⟩
theorem bR.snoc {n c:Nat} {f g:Nat→Int} {v:Int} {tail:List SV} (hv:g n=v) (hfg: ∀ i,i < n→f i=g i) (hc:n+1≤c) (hl:tail.length=(c - (n+1))*1) (hp:tail.all SV.plain=true):bR (ae .u8 n f++[Sum.inl (.int .u8 v)]++tail) 0 (n+1) c g:=by
 rw[Xp,aV (g:=g) (fun i hi=> ?_)]
 ·exact bR.row hc (by omega) hp
 ·simp only[upd];split
  ·rename_i e;rw[e];exact hv.symm
  ·exact hfg i (by omega)
theorem bR.join {n m c:Nat} {f g h:Nat→Int} {tail:List SV} (h1: ∀ i,i < n→f i=h i) (h2: ∀ i,i < m→g i=h (n+i)) (hc:n+m≤c) (hl:tail.length=(c - (n+m))*1) (hp:tail.all SV.plain=true):bR (ae .u8 n f++ae .u8 m g++tail) 0 (n+m) c h:=by
 rw[I1,aV (g:=h) (fun i hi=> ?_)]
 ·exact bR.row hc (by omega) hp
 ·split
  ·exact h1 i ‹_›
  ·rw[h2 _ (by omega),show n+(i - n)=i by omega]
theorem b7 {v:Int}:bE [Sum.inl (.int .u8 v)] 0 1 (fun _=>v):=fun i hi=>by
 have:i=0:=by omega
 subst this;rfl
theorem bR.congr {cs:List SV} {o n m c:Nat} {f g:Nat→Int} (h:bR cs o n c f) (e:n=m) (hfg: ∀ i,i < n→f i=g i):bR cs o m c g:=
 ⟨h.len,e▸h.room,h.plain,e▸kO h.ez hfg⟩
theorem NP {n k:Nat} {f g:Nat→Int}: ∀ i,i < n+k+1→aR (n+k) (aR n f g) (fun _=>g k) i=aR n f g i:=fun i hi=>by
 by_cases h:i < n+k
 ·simp only[aR,if_pos h]
 ·have:i=n+k:=by omega
  subst this
  simp only[aR];rw[if_neg (by omega),if_neg (by omega),show n+k - n=k by omega]
theorem dL {k:IntKind} {g:Nat→Int} {x:SV}:splice (ae k 1 g) 0 [x]=[x]:=rfl
theorem iB {r:Nat→Nat} {k nm:Nat}:fb r k nm k=nm:=by unfold fb;rw[if_pos rfl]
theorem gb {s:AS} {r:Nat→Nat} {k nm:Nat} {cs:List SV} (hp:cs.all SV.plain=true):after s r k nm none (lk [(k,⟨true,cs⟩)])=upd s.box nm (some ⟨true,cs⟩):=by
 simp[after,lk,aW.bh,bj hp]
section
variable {P:Program} [Tables P]
theorem dW {s:AS} {fn k n nm:Nat} {f:Nat→Int} {args l:List AV} {ins:Nat→Option aW} (h:bt P fn args k ins (Made k n f)) (r:Nat→Nat) (hfit:Fits s r ins none) (hl:l=args.map (AV.bh r)) {dst:Option Nat} {K:AS→Prop}
  (hk: ∀ c tail,n≤c→tail.length=c - n→tail.all SV.plain=true→K ((⟨s.env,upd s.box nm (some ⟨true,ae .u8 n f++tail⟩),s.next⟩:AS).put dst (some (Sl nm 0 n c)))):aB P nm fn (some l) dst K s:=by
 refine h.aB r none hfit hl ?_
 rintro v out ⟨c,tail,rfl,rfl,h1,h2,h3⟩ _
 rw[gb (cH h3)]
 have e:AV.bh (fb r k nm) (Sl k 0 n c)=Sl nm 0 n c:=by show Sl (fb r k nm k) 0 n c=_;rw[iB]
 rw[e]
 exact hk c tail h1 h2 h3
theorem oz {s:AS} {fn k n nm:Nat} {f:Nat→Int} {args l:List AV} {ins:Nat→Option aW} (h:bt P fn args k ins (Made k n f)) (r:Nat→Nat) (hfit:Fits s r ins none) (hl:l=args.map (AV.bh r))
  (hnamed: ∀ M:Nat→Prop,(∀ v ∈ l,AV.ok M v)→ ∀ n,n < k→M (r n)) {ops:Array Oper} {i:Nat} (C3:late ops i=true) {dst:Option Nat} {K:AS→Prop}
  (hk: ∀ c tail,n≤c→tail.length=c - n→tail.all SV.plain=true→K ((⟨s.env,upd s.box nm (some ⟨true,ae .u8 n f++tail⟩),s.next⟩:AS).put dst (some (Sl nm 0 n c)))):mG P ops i nm fn (some l) dst K s:=by
 refine .inr (.inr (.inl ⟨C3,fun e=> ∃ c tail,e=(some (Sl nm 0 n c),some (.inl (ae .u8 n f++tail)))∧n≤c∧tail.length=c - n∧tail.all SV.plain=true,h.reads r hfit hl hnamed ?_ ?_, ?_⟩))
 ·rintro v out ⟨c,tail,rfl,rfl,h1,h2,h3⟩
  refine ⟨c,tail, ?_,h1,h2,h3⟩
  have e:AV.bh (fb r k nm) (Sl k 0 n c)=Sl nm 0 n c:=by show Sl (fb r k nm k) 0 n c=_;rw[iB]
  simp[NK,lk,bj (cH h3),e]
 ·rintro e ⟨c,tail,rfl,_⟩
  exact .inr ⟨_,rfl⟩
 ·rintro e ⟨c,tail,rfl,h1,h2,h3⟩
  exact hk c tail h1 h2 h3
end
theorem cB.draw {P:Program} [cA.Tables P] {f:Nat} {l:List AV} {r:AV} (h:cB P f l r) (hc:ai P f=true) {ops:Array Oper} {i nm:Nat} {dst:Option Nat} {K:AS→Prop} {s:AS} (hk:K (s.put dst (some r))):mG P ops i nm f (some l) dst K s:=
 .inl ⟨l,r,rfl, .inl ⟨hc,h⟩,hk⟩
theorem lk3 {b c d b':aW} {n:Nat} (h:lk [(0,b),(1,c),(2,d)] n=some b'):(n=0∧b'=b)∨(n=1∧b'=c)∨(n=2∧b'=d):=by
 have:=bq _ _ _ h
 simp only[List.mem_cons,List.not_mem_nil,or_false,Prod.mk.injEq]at this
 exact this
theorem alg {b c d:aW}: ∀ n,n < 3→ ∃ e,lk [(0,b),(1,c),(2,d)] n=some e:=fun n hn=>by
 have:n=0∨n=1∨n=2:=by omega
 rcases this with rfl | rfl | rfl<;>exact ⟨_,rfl⟩
theorem alh {r0 r1 r2:Bool} {cs ds es:List SV} (hp:cs.all SV.plain=true) (hq:ds.all SV.plain=true) (hr:es.all SV.plain=true): ∀ n c,lk [(0,(⟨r0,cs⟩:aW)),(1,⟨r1,ds⟩),(2,⟨r2,es⟩)] n=some c→n < 3∧ ∀ x ∈ c.cells,SV.ok (fun n=>n < 3) x:=fun n c h=>by
 rcases lk3 h with ⟨rfl,rfl⟩ | ⟨rfl,rfl⟩ | ⟨rfl,rfl⟩
 ·exact ⟨by omega,aJ hp⟩
 ·exact ⟨by omega,aJ hq⟩
 ·exact ⟨by omega,aJ hr⟩
def three (a b c:Nat):Nat→Nat:=fun n=>if n=0 then a else if n=1 then b else c
theorem aif {s:AS} {t u x:Nat} {r0 r1 r2:Bool} {cs ds es:List SV} (h:s.box t=some ⟨r0,cs⟩) (hp:cs.all SV.plain=true) (h':s.box u=some ⟨r1,ds⟩) (hp':ds.all SV.plain=true) (h2:s.box x=some ⟨r2,es⟩) (hp2:es.all SV.plain=true):
  Fits s (three t u x) (lk [(0,⟨false,cs⟩),(1,⟨false,ds⟩),(2,⟨false,es⟩)]) none:=
 ⟨fun n b hb=>by
  rcases lk3 hb with ⟨rfl,rfl⟩ | ⟨rfl,rfl⟩ | ⟨rfl,rfl⟩
  ·exact ⟨_,h,fun e=>(by cases e),(bj hp _).symm⟩
  ·exact ⟨_,h',fun e=>(by cases e),(bj hp' _).symm⟩
  ·exact ⟨_,h2,fun e=>(by cases e),(bj hp2 _).symm⟩,
  fun n n' b b' hb hrw=>(by rcases lk3 hb with ⟨rfl,rfl⟩ | ⟨rfl,rfl⟩ | ⟨rfl,rfl⟩<;>cases hrw),fun n b hb hrw=>(by rcases lk3 hb with ⟨rfl,rfl⟩ | ⟨rfl,rfl⟩ | ⟨rfl,rfl⟩<;>cases hrw),fun n hn=>(by cases hn)⟩
def nt (box:Nat→Option aW) (b:Nat) (v:AV) (n:Nat) (f:Nat→Int):Prop:=
 ((∃ a,v=V (.slice a 0 0))∧n=0)∨ ∃ t o c rw cs,v=Sl t o n c∧box t=some ⟨rw,cs⟩∧bE cs o n f∧t≠b
theorem lA {ins box:Nat→Option aW} {b k n:Nat} {f:Nat→Int} {v:AV} (h:bC ins v n f) (hok:AV.ok (fun n=>n < k) v) (hb:k≤b) (hs: ∀ t,t < k→box t=ins t):nt box b v n f:=by
 rcases h with h | ⟨t,o,c,rw,cs,rfl,h1,h2,h3⟩
 ·exact .inl h
 ·have ht:t < k:=hok
  exact .inr ⟨t,o,c,rw,cs,rfl,by rw[hs t ht,h1],h3,by omega⟩
theorem at_len {box:Nat→Option aW} {v:AV} {n:Nat} {f:Nat→Int} (h:bC box v n f):fB 1 (some [v])=some (some (I .i64 n),none):=by
 rcases h with ⟨⟨a,rfl⟩,rfl⟩ | ⟨t,o,c,rw,cs,rfl,_⟩<;>rfl
theorem l6 {b1 b2:Nat→Option aW} {v:AV} {n:Nat} {f:Nat→Int} (h:bC b1 v n f) (e: ∀ t b,b1 t=some b→b2 t=some b):bC b2 v n f:=by
 rcases h with h | ⟨t,o,c,rw,cs,h0,h1,h2,h3⟩
 ·exact .inl h
 ·exact .inr ⟨t,o,c,rw,cs,h0,e _ _ h1,h2,h3⟩
theorem afX {b1 b2:Nat→Option aW} {b:Nat} {v:AV} {n:Nat} {f:Nat→Int} (h:bC b1 v n f) (e: ∀ t x,b1 t=some x→b2 t=some x∧t≠b):nt b2 b v n f:=by
 rcases h with h | ⟨t,o,c,rw,cs,h0,h1,h2,h3⟩
 ·exact .inl h
 ·exact .inr ⟨t,o,c,rw,cs,h0,(e _ _ h1).1,h3,(e _ _ h1).2⟩
theorem oA {box:Nat→Option aW} {v:AV} {n:Nat} {f:Nat→Int} (h:bC box v n f) (hn:0 < n): ∃ t o c rw cs,v=Sl t o n c∧box t=some ⟨rw,cs⟩∧cs.all SV.plain=true∧bE cs o n f:=by
 rcases h with ⟨_,rfl⟩ | h
 ·omega
 ·exact h
def eD (t:Nat) (v:AV) (n:Nat) (f:Nat→Int) (cs:List SV):Prop:=((∃ a,v=V (.slice a 0 0))∧n=0)∨ ∃ o c,v=Sl t o n c∧bE cs o n f
theorem eD.at {t n:Nat} {v:AV} {f:Nat→Int} {cs:List SV} {rw:Bool} {box:Nat→Option aW} (h:eD t v n f cs) (hb:box t=some ⟨rw,cs⟩) (hp:cs.all SV.plain=true):bC box v n f:=by
 rcases h with ⟨⟨a,rfl⟩,h0⟩ | ⟨o,c,rfl,hs⟩
 ·exact .inl ⟨⟨_,rfl⟩,h0⟩
 ·exact .inr ⟨t,o,c,rw,cs,rfl,hb,hp,hs⟩
theorem eD.ok {t n:Nat} {v:AV} {f:Nat→Int} {cs:List SV} {M:Nat→Prop} (h:eD t v n f cs) (hM:M t):AV.ok M v:=by
 rcases h with ⟨⟨a,rfl⟩,h0⟩ | ⟨o,c,rfl,hs⟩
 ·trivial
 ·exact hM
structure Handed (k:Nat) (l:List (Nat×aW)):Prop where
 np: ∀ x ∈ l,x.1 < k∧lk l x.1=some x.2∧x.2.cells.all SV.plain=true
 ro: ∀ x ∈ l,x.2.rw=false
 all: ∀ n,n < k→ ∃ b,lk l n=some b
 le:k≤20
theorem Handed.lt {k:Nat} {l:List (Nat×aW)} (h:Handed k l): ∀ x ∈ l,x.1 < k:=fun x hx=>(h.np x hx).1
theorem Handed.j6 {k:Nat} {l:List (Nat×aW)} (h:Handed k l): ∀ n b,lk l n=some b→n < k∧ ∀ x ∈ b.cells,SV.ok (fun n=>n < k) x:=fun n b hb=>⟨(h.np _ (bq _ _ _ hb)).1,aJ (h.np _ (bq _ _ _ hb)).2.2⟩
structure Arg (k:Nat) (l:List (Nat×aW)) (v:AV) (n:Nat) (f:Nat→Int):Prop where
 at_:bC (lk l) v n f
 ok:AV.ok (fun n=>n < k) v
structure xX (s:AS) (k:Nat) (l:List (Nat×aW)) (r:Nat→Nat) (L:List AV):Prop where
 good:Handed k l
 fits:Fits s r (lk l) none
 named: ∀ M:Nat→Prop,(∀ v ∈ L,AV.ok M v)→ ∀ n,n < k→M (r n)
theorem oB {s:AS}:xX s 0 [] (fun n=>n) []:=⟨⟨fun x hx=>(by cases hx),fun x hx=>(by cases hx),fun n hn=>by omega,by decide⟩,gI,fun M _ n hn=>by omega⟩
theorem oC {s:AS} {k t n:Nat} {l:List (Nat×aW)} {r:Nat→Nat} {L:List AV} {v:AV} {f:Nat→Int} {cs:List SV} {rw:Bool} (h:xX s k l r L) (hk:k < 20) (hv:eD t v n f cs) (hb:s.box t=some ⟨rw,cs⟩) (hp:cs.all SV.plain=true):
  ∃ k' l' r' v',k'≤k+1∧xX s k' l' r' (v::L)∧Arg k' l' v' n f∧AV.bh r' v'=v∧ ∀ u m g,Arg k l u m g→Arg k' l' u m g∧AV.bh r' u=AV.bh r u:=by
 rcases hv with ⟨⟨a,rfl⟩,h0⟩ | ⟨o,c,rfl,hs⟩
 ·exact ⟨k,l,r,V (.slice a 0 0),by omega,⟨h.good,h.fits,fun M hM=>h.named M fun u hu=>hM u (List.Mem.tail _ hu)⟩,⟨.inl ⟨⟨_,rfl⟩,h0⟩,trivial⟩,rfl,fun u m g hu=>⟨hu,rfl⟩⟩
 ·have hlk: ∀ x b,lk l x=some b→lk ((k,(⟨false,cs⟩:aW))::l) x=some b:=fun x b hx=>by
   have:=(h.good.np _ (bq _ _ _ hx)).1
   simp only at this
   simp only[lk];rw[if_neg (by omega)];exact hx
  refine ⟨k+1,(k,⟨false,cs⟩)::l,upd r k t,Sl k o n c,Nat.le_refl _,⟨⟨fun x hx=> ?_,fun x hx=> ?_,fun x hx=> ?_,hk⟩,⟨fun x b hx=> ?_,fun x x' b b' hx hrw=> ?_,fun x b hx hrw=> ?_,fun x hx=>(by cases hx)⟩,fun M hM x hx=> ?_⟩,⟨.inr ⟨k,o,c,false,cs,rfl,by simp only[lk];exact if_pos trivial,hp,hs⟩,Nat.lt_succ_self k⟩, ?_,fun u m g hu=>⟨⟨l6 hu.at_ hlk,AV.bA (fun n hn=>Nat.lt_succ_of_lt hn) hu.ok⟩, ?_⟩⟩
  ·rcases List.mem_cons.1 hx with rfl | hx
   ·exact ⟨Nat.lt_succ_self k,by simp only[lk];exact if_pos trivial,hp⟩
   ·obtain ⟨h1,h2,h3⟩:=h.good.np x hx
    exact ⟨Nat.lt_succ_of_lt h1,hlk _ _ h2,h3⟩
  ·rcases List.mem_cons.1 hx with rfl | hx
   ·rfl
   ·exact h.good.ro x hx
  ·by_cases e:x=k
   ·exact ⟨⟨false,cs⟩,by simp only[lk];rw[if_pos e]⟩
   ·obtain ⟨b,hb⟩:=h.good.all x (by omega)
    exact ⟨b,hlk _ _ hb⟩
  ·simp only[lk]at hx
   split at hx
   ·rename_i e;subst e
    simp only[Option.some.injEq]at hx;subst hx
    exact ⟨⟨rw,cs⟩,by rw[ax];exact hb,fun e=>(by cases e),(bj hp _).symm⟩
   ·rename_i e
    obtain ⟨b',h1,h2,h3⟩:=h.fits.box x b hx
    refine ⟨b',by rw[bg _ _ _ _ e];exact h1,h2, ?_⟩
    rw[h3,bj (h.good.np _ (bq _ _ _ hx)).2.2,bj (h.good.np _ (bq _ _ _ hx)).2.2]
  ·have hro:b.rw=false:=by
    have:=bq _ _ _ hx
    rcases List.mem_cons.1 this with e | hx
    ·cases e;rfl
    ·exact h.good.ro _ hx
   rw[hro]at hrw;cases hrw
  ·have hro:b.rw=false:=by
    have:=bq _ _ _ hx
    rcases List.mem_cons.1 this with e | hx
    ·cases e;rfl
    ·exact h.good.ro _ hx
   rw[hro]at hrw;cases hrw
  ·by_cases e:x=k
   ·subst e;rw[ax];exact hM _ (List.Mem.head _)
   ·rw[bg _ _ _ _ e];exact h.named M (fun u hu=>hM u (List.Mem.tail _ hu)) x (by omega)
  ·rw[er,ax]
  ·have hs: ∀ x:SV,SV.names (fun n=>n < k) x→SV.bh (upd r k t) x=SV.bh r x:=fun x hx=>by
    rcases x with v | ⟨t',o⟩ | ⟨t',o,n,c⟩
    ·rfl
    ·have h1:t' < k:=hx
     simp only[SV.bh];rw[bg _ _ _ _ (by omega)]
    ·have h1:t' < k:=hx
     simp only[SV.bh];rw[bg _ _ _ _ (by omega)]
   rcases hu.at_ with ⟨⟨a,rfl⟩,_⟩ | ⟨t',o',c',rw',cs',rfl,h1,_,_⟩
   ·rfl
   ·have h1:t' < k:=hu.ok
    rw[er,er,bg _ _ _ _ (by omega)]
theorem Vy {s:AS} {l:List (Nat×aW)} {k:Nat} (h:Handed k l) (hs: ∀ t,t < k→s.box t=lk l t):Fits s (fun n=>n) (lk l) none:=by
 refine ⟨fun n b hb=>⟨b, ?_,fun h=>h, ?_⟩,fun n n' b b' _ _ _ e=>e,fun n b hb hrw=> ?_,fun n hn=>(by cases hn)⟩
 ·rw[hs n (h.np _ (bq _ _ _ hb)).1];exact hb
 ·exact (bj (h.np _ (bq _ _ _ hb)).2.2 _).symm
 ·have:=h.ro _ (bq _ _ _ hb)
  simp only at this
  rw[this]at hrw;cases hrw
theorem Arg.id {k n:Nat} {l:List (Nat×aW)} {v:AV} {f:Nat→Int} (h:Arg k l v n f):AV.bh (fun n=>n) v=v:=gu (fun n _=>rfl) h.ok
section
variable {P:Program} [Tables P]
theorem bn {t tx:Nat} (hk:ru P t=some ([Value.int .u8 0],1,1)) (hx:ln P tx=some (none,1)) {s:AS} {nm b o n c m:Nat} {f g:Nat→Int} {cs:List SV} {x:AV} (hb:s.box b=some ⟨true,cs⟩) (hg:bR cs o n c f)
  (hsrc:nt s.box b x m g) (hby:n+m≤140737488355328) {ty:TypeId} {ct:Array Bool} {dst:Option Nat} {K:AS→Prop}
  (hK: ∀ c' cs',bR cs' 0 (n+m) c' (aR n f g)→K ((⟨s.env,upd (upd s.box b none) nm (some ⟨true,cs'⟩),s.next⟩:AS).put dst (some (Sl nm 0 (n+m) c')))):
  cC P nm .append #[t,tx] ty ct (some [Sl b o n c,x]) dst K s:=by
 have e1: ∀ i,i < n→f i=aR n f g i:=fun i hi=>by simp only[aR,if_pos hi]
 have e2: ∀ i,i < m→g i=aR n f g (n+i):=fun i hi=>by simp only[aR];rw[if_neg (by omega),show n+i - n=i by omega]
 refine hH (olds:=ae .u8 n f) (news:=ae .u8 m g) hk hx rfl (by decide) rfl hb (by rw[hg.len,Nat.mul_one]) hg.room (by rw[ah,Nat.mul_one]) (fk hg.ez) hg.plain ?_ (by omega) (by omega)
  (fun c' tail h1 h2 h3=>hK c' _ (bR.join e1 e2 h1 h2 h3))
 rcases hsrc with ⟨⟨a,rfl⟩,rfl⟩ | ⟨t',o',c',rw',cs',rfl,h1,h2,h3⟩
 ·exact .inr ⟨⟨_,rfl⟩,rfl,rfl⟩
 ·exact .inl ⟨t',o',c',⟨rw',cs'⟩,rfl,h1,by rw[ah,Nat.mul_one],fk h2,fun e=>h3 (by cases e;rfl)⟩
theorem ia {t tx:Nat} (hk:ru P t=some ([Value.int .u8 0],1,1)) (hx:ln P tx=some (none,1)) {s:AS} {nm m:Nat} {g:Nat→Int} {x:AV}
  (hsrc:bC s.box x m g) (hby:m≤140737488355328) {ty:TypeId} {ct:Array Bool} {dst:Option Nat} {K:AS→Prop}
  (h0:m=0→K (s.put dst (some (V (.slice none 0 0)))))
  (hK:0 < m→ ∀ c' cs',bR cs' 0 m c' g→K ((⟨s.env,upd s.box nm (some ⟨true,cs'⟩),s.next⟩:AS).put dst (some (Sl nm 0 m c')))):
  cC P nm .append #[t,tx] ty ct (some [V (.slice none 0 0),x]) dst K s:=by
 refine gJ (news:=ae .u8 m g) hk hx rfl (by decide) rfl ?_ (by omega) (by omega) h0 (fun h c' tail h1 h2 h3=>hK h c' _ (bR.row h1 (by omega) h3))
 rcases hsrc with ⟨⟨a,rfl⟩,rfl⟩ | ⟨t',o',c',rw',cs',rfl,h1,_,h2⟩
 ·exact .inr ⟨⟨_,rfl⟩,rfl,rfl⟩
 ·exact .inl ⟨t',o',c',⟨rw',cs'⟩,rfl,h1,by rw[ah,Nat.mul_one],fk h2,fun e=>by cases e⟩
end
theorem rN {P:Program} [Tables P] {s:AS} {fn n nm t:Nat} {f:Nat→Int} {args l:List AV} {cs:List SV} (h:bt P fn args 1 (lk [(0,⟨true,cs⟩)]) (Made 1 n f)) (hb:s.box t=some ⟨true,cs⟩) (hp:cs.all SV.plain=true) (hl:l=args.map (AV.bh fun _=>t)) {dst:Option Nat} {K:AS→Prop}
  (hk: ∀ c cs',bR cs' 0 n c f→K ((⟨s.env,upd (upd s.box nm (some ⟨true,cs'⟩)) t none,s.next⟩:AS).put dst (some (Sl nm 0 n c)))):aB P nm fn (some l) dst K s:=by
 refine h.aB (fun _=>t) (some 0) (Gr hb hp) hl ?_
 rintro v out ⟨c,tail,rfl,rfl,h1,h2,h3⟩ _
 have e:AV.bh (fb (fun _=>t) 1 nm) (Sl 1 0 n c)=Sl nm 0 n c:=by show Sl (fb (fun _=>t) 1 nm 1) 0 n c=_;rw[iB]
 rw[e]
 have:=hk c _ (bR.row h1 h2 h3)
 have e2:after s (fun _=>t) 1 nm (some 0) (lk [(1,(⟨true,ae .u8 n f++tail⟩:aW))])=upd (upd s.box nm (some ⟨true,ae .u8 n f++tail⟩)) t none:=by
  simp[after,lk,aW.bh,bj (cH h3)]
 rw[e2]
 exact this
theorem eQ {s:AS} {k q n m c:Nat} {f:Nat→Int} {cs:List SV} (hq:k≤q) (h:bR cs 0 n c f) (hb:s.box q=some ⟨true,cs⟩) (e:n=m):Ct k (Made k m f) (Sl q 0 n c) s:=by
 subst e
 exact dS hq hb h.plain h.made
def Bytes (k n:Nat) (f:Nat→Int) (v:AV) (out:Nat→Option aW):Prop:=(n=0∧v=V (.slice none 0 0)∧out=fun _=>none)∨Made k n f v out
theorem NQ {P:Program} [Tables P] {s:AS} {fn k n nm:Nat} {f:Nat→Int} {args l:List AV} {ins:Nat→Option aW} (h:bt P fn args k ins (Bytes k n f)) (r:Nat→Nat) (hfit:Fits s r ins none) (hl:l=args.map (AV.bh r)) {dst:Option Nat} {K:AS→Prop}
  (hk: ∀ x I3,(∀ t,t≠nm→I3 t=s.box t)→(∀ b,b≠nm→nt I3 b x n f)→bC I3 x n f→K ((⟨s.env,I3,s.next⟩:AS).put dst (some x))):aB P nm fn (some l) dst K s:=by
 refine h.aB r none hfit hl ?_
 rintro v out (⟨rfl,rfl,rfl⟩ | ⟨c,tail,rfl,rfl,h1,h2,h3⟩) _
 ·exact hk (V (.slice none 0 0)) s.box (fun _ _=>rfl) (fun _ _=> .inl ⟨⟨_,rfl⟩,rfl⟩) (.inl ⟨⟨_,rfl⟩,rfl⟩)
 ·rw[gb (cH h3)]
  have e:AV.bh (fb r k nm) (Sl k 0 n c)=Sl nm 0 n c:=by show Sl (fb r k nm k) 0 n c=_;rw[iB]
  rw[e]
  exact hk (Sl nm 0 n c) _ (fun t ht=>bg _ _ _ _ ht) (fun b hb=> .inr ⟨nm,0,c,true,_,rfl,ax _ _ _,cV,fun e=>hb e.symm⟩) (.inr ⟨nm,0,c,true,_,rfl,ax _ _ _,cH h3,cV⟩)
def xY (k n:Nat) (f:Nat→Int) (v:AV) (out:Nat→Option aW):Prop:=v=Sl k 0 n n∧out=lk [(k,⟨true,ae .u8 n f⟩)]
theorem xY.made {k n:Nat} {f:Nat→Int} {v:AV} {out:Nat→Option aW} (h:xY k n f v out):Made k n f v out:=
 ⟨n,[],h.1,by rw[List.append_nil];exact h.2,Nat.le_refl _,by simp,rfl⟩
theorem jd {P:Program} [Tables P] {s:AS} {fn k n nm:Nat} {f:Nat→Int} {args l:List AV} {ins:Nat→Option aW} (h:bt P fn args k ins (xY k n f)) (r:Nat→Nat) (hfit:Fits s r ins none) (hl:l=args.map (AV.bh r)) {dst:Option Nat} {K:AS→Prop}
  (hk:K ((⟨s.env,upd s.box nm (some ⟨true,ae .u8 n f⟩),s.next⟩:AS).put dst (some (Sl nm 0 n n)))):aB P nm fn (some l) dst K s:=by
 refine h.aB r none hfit hl ?_
 rintro v out ⟨rfl,rfl⟩ _
 rw[gb aw]
 have e:AV.bh (fb r k nm) (Sl k 0 n n)=Sl nm 0 n n:=by show Sl (fb r k nm k) 0 n n=_;rw[iB]
 rw[e]
 exact hk
theorem NR {P:Program} [Tables P] {s:AS} {fn k n nm:Nat} {f:Nat→Int} {args l:List AV} {ins:Nat→Option aW} (h:bt P fn args k ins (xY k n f)) (r:Nat→Nat) (hfit:Fits s r ins none) (hl:l=args.map (AV.bh r))
  (hnamed: ∀ M:Nat→Prop,(∀ v ∈ l,AV.ok M v)→ ∀ n,n < k→M (r n)) {ops:Array Oper} {i:Nat} {dst:Option Nat} {K:AS→Prop}
  (hk:K ((⟨s.env,upd s.box nm (some ⟨true,ae .u8 n f⟩),s.next⟩:AS).put dst (some (Sl nm 0 n n)))):mG P ops i nm fn (some l) dst K s:=by
 refine .inr (.inl ⟨(some (Sl nm 0 n n),some (.inl (ae .u8 n f))),h.reads r hfit hl hnamed ?_ ?_,hk⟩)
 ·rintro v out ⟨rfl,rfl⟩
  have e:AV.bh (fb r k nm) (Sl k 0 n n)=Sl nm 0 n n:=by show Sl (fb r k nm k) 0 n n=_;rw[iB]
  simp[NK,lk,bj aw,e]
 ·rintro e rfl
  exact .inr ⟨_,rfl⟩
theorem xZ (m:Nat):cS [Value.int .u8 0] m=ae .u8 m (fun _=>0):=by
 have h:(Builtin.zeroCells [Value.int IntKind.u8 0].toArray m).toList=(List.range m).map fun _=>Value.int .u8 0:=by
  simp[Builtin.zeroCells,Nat.mod_one]
 simp only[cS,h,ae,List.map_map,Function.comp_def]
section
variable {P:Program} [Tables P]
theorem QB {n c z:Nat} {hi:Option Int}:fC (some (none,z)) (some (V (.slice none n c))) (some none) (some hi)=slN c 0 (hi.getD n):=rfl
theorem QC {n c z:Nat} {l:Int} {hi:Option Int}:fC (some (none,z)) (some (V (.slice none n c))) (some (some l)) (some hi)=slN c l (hi.getD n):=rfl
theorem QD {c:Nat} {l h:Int}:slN c l h=if 0≤l∧l≤h∧h≤c then some (some (V (.slice none (h.toNat - l.toNat) (c - l.toNat))),none) else none:=rfl
theorem QE {nm:Nat} {dst:Option Nat} {K:AS→Prop} {s:AS} {ty:TypeId} {pos:String} {after:Array Edge} {xs:List Operand} {tys:Array TypeId}:cv P nm ⟨dst, .call ⟨.builtin .cap,xs.toArray,tys⟩,ty,pos,after,none⟩ K s=
  cC P nm .cap tys ty (xs.toArray.map isConst) (bN s xs) dst K s:=rfl
theorem yb {t sz:Nat} (hx:ln P t=some (none,sz)) {a:Option Addr} {n c:Nat} {s:AS} {nm:Nat} {ty:TypeId} {ct:Array Bool} {dst:Option Nat} {K:AS→Prop} (hk:K (s.put dst (some (I .i64 c)))):
  cC P nm .cap #[t] ty ct (some [V (.slice a n c)]) dst K s:=by
 intro W N w0 g a' w h
 obtain ⟨e,i,_,_,⟨_,hu⟩ | ⟨m,hm,_⟩⟩:=nh hx
 ·exact ⟨I .i64 c,g,s,w,by simp[builtin,Builtin.cap_,run_underlying hu,AV.av,CV.av,SV.av,goInt],trivial,h.mono (fun n hn=>by omega),hk⟩
 ·cases hm
theorem Gt {t tx:Nat} {kn:IntKind} (hk:ru P t=some ([Value.int .u8 0],1,1)) (hx:kindOf P tx=some kn)
  {m:Nat} {kq:IntKind} (hm0:0 < m) (hm1:m≤140737488355328) {s:AS} {nm:Nat} {ty:TypeId} {ct:Array Bool} {dst:Option Nat} {K:AS→Prop}
  (hK: ∀ c' cs',bR cs' 0 m c' (fun _=>0)→K ((⟨s.env,upd s.box nm (some ⟨true,cs'⟩),s.next⟩:AS).put dst (some (Sl nm 0 m c')))):
  cC P nm .append #[t,tx] ty ct (some [V (.slice none 0 0),I kq m]) dst K s:=by
 intro W N w0 g a w h
 obtain ⟨e,i,v,hu,hi,hv,hvz,hsz,xP⟩:=kl hk
 have hux:P.underlying tx=some (.int kn):=by
  unfold kindOf at hx
  split at hx
  ·rename_i k hk';simp only[Option.some.injEq]at hx;rw[hk',hx]
  ·cases hx
 have HB:v.cells=[Value.int .u8 0].toArray:=by rw[← hvz]
 have hr:=Lib.run_append_grow_zeros (P:=P) w t tx ty e i v kq kn hu hux hi hv none 0 0 [] (run_firstCells_none w.drew i.size 0 0 0) m hm0 (by omega) (by omega) (by omega) (by rw[xP];omega) (growslice_fits (by omega) (by rw[xP];omega))
 rw[Nat.zero_add]at hr
 have hge:=grownCap_ge w m 0 e
 generalize grownCap w m 0 e=c' at hr hge
 have hz1:([Value.int .u8 0]:List Value).all Value.oneCell'=true:=rfl
 have hp:(cS [Value.int .u8 0] m++cS [Value.int .u8 0] (c' - m)).all SV.plain=true:=by
  rw[List.all_append,dJ (by decide) hz1,dJ (by decide) hz1];rfl
 have hnb:=h.drew.sQ (nm:=nm) (Nat.lt_irrefl nm) (aJ hp) e
 refine ⟨Sl nm 0 m c',_,_,_, ?_,Nat.lt_succ_self nm,hnb.mono (fun n hn=>by rcases hn with h | h<;>omega), ?_⟩
 ·simp only[builtin,List.map_cons,List.map_nil,Sem.run_bind]
  show (((Builtin.append_ #[t,tx] ty #[.slice none 0 0, .int kq m]).run P w).andThen fun a w'=>(pure (Next.value a):Sem Next).run P w')=_
  rw[hr]
  simp only[Result.andThen_ok,Sem.run_pure,AV.av,CV.av,SV.av,ax,Nat.zero_add]
  congr 1
  show World.alloc _ _=World.alloc _ _
  congr 2
  apply Array.ext'
  simp[HB,g9]
 ·have e2:cS [Value.int .u8 0] m++cS [Value.int .u8 0] (c' - m)=ae .u8 m (fun _=>0)++cS [Value.int .u8 0] (c' - m):=by rw[xZ m]
  have:=hK c' _ (bR.row (f:=fun _=>0) hge (by rw[kp];simp) (dJ (z:=[Value.int .u8 0]) (n:=c' - m) (by decide) hz1))
  rw[← e2]at this
  exact this
end
end Go.cA
