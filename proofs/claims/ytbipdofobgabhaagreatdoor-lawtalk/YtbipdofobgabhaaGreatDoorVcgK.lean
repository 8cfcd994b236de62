/-
  Common lemmas on rows, bytes and counted numbers; and what a list of bytes looks like in a state. Nothing here speaks of a program.
-/
import Derived.Test.YtbipdofobgabhaaGreatDoorVcgT
import Derived.Test.YtbipdofobgabhaaGreatDoorVcgN
namespace Go.bA
set_option linter.unusedSectionVars false
set_option linter.unusedSimpArgs false
set_option linter.unusedVariables false
def bg (f:Nat→Int):Prop:= ∀ i,0≤f i∧f i < 256
theorem az {k:IntKind} {n:Nat} {f:Nat→Int}:(ah k n f).all SV.plain=true:=ld k n f
theorem CO (n:Nat):(0≤(n:Int))=True:=by simp
theorem cC (t:Nat):(0≤(t:Int))=True:=by simp
theorem fw {n m:Nat} (h:n < m):((n:Int) < (m:Int))=True:=by simp[h]
theorem fH {a b:Nat} (h:a < b):((a:Int) < (b:Int))=True:=eq_true (by omega)
theorem NU {a b:Nat} (h:a≤b):((a:Int)≤(b:Int))=True:=eq_true (by omega)
theorem NV (t d:Nat) (h:t < 9223372036854775808):IntKind.i64.wrap ((t:Int).tdiv (d:Int))=((t / d:Nat):Int):=by
 have:t / d≤t:=Nat.div_le_self t d
 rw[← Int.ofNat_tdiv]
 generalize t / d=q at*
 rw[wrap_i64 _ (by omega) (by omega)]
theorem Un (t:Nat) (h:t < 9223372036854775808):IntKind.i64.wrap ((t:Int).tdiv 8)=((t / 8:Nat):Int):=NV t 8 h
theorem I5 (t:Nat):(t:Int).tmod 8=((t%8:Nat):Int):=(Int.ofNat_tmod t 8).symm
theorem Uo (t d:Nat):(t:Int).tmod (d:Int)=((t%d:Nat):Int):=(Int.ofNat_tmod t d).symm
theorem LR (n:Nat) (h:n < 9223372036854775808):IntKind.i64.wrap ((n:Int))=(n:Int):=wrap_i64 _ (by omega) (by omega)
theorem dX (n:Nat) (h:n < 9223372036854775807):IntKind.i64.wrap ((n:Int)+1)=((n+1:Nat):Int):=wrap_i64 _ (by omega) (by omega)
theorem Wh (n m:Nat) (h:n+m < 9223372036854775807):IntKind.i64.wrap ((n:Int)+(m:Int))=((n+m:Nat):Int):=wrap_i64 _ (by omega) (by omega)
theorem Z6 (n m:Nat) (h:m≤n) (h':n < 9223372036854775807):IntKind.i64.wrap ((n:Int) - (m:Int))=((n - m:Nat):Int):=by
 rw[show (n:Int) - (m:Int)=((n - m:Nat):Int) by omega];exact LR _ (by omega)
theorem pP (n:Nat) (k:IntKind) (c:Int):(List.replicate n (Value.int k c)).all Value.oneCell'=true:=by
 rw[List.all_eq_true];intro x hx;rw[List.eq_of_mem_replicate hx];rfl
theorem aR (n:Nat) (k:IntKind) (c:Int):List.map Sum.inl (List.replicate n (Value.int k c))=ah k n (fun _=>c):=by
 rw[ah,List.map_replicate]
 apply List.ext_getElem?
 intro i
 simp[List.getElem?_replicate]
 split
 ·rename_i h;rw[List.getElem?_range h];rfl
 ·rename_i h;rw[List.getElem?_eq_none (by simp;omega)];rfl
theorem aH (n:Nat) (k:IntKind) (c:Int):List.replicate n (Sum.inl (Value.int k c):SV)=ah k n (fun _=>c):=by
 rw[← aR];simp
theorem dk (k:IntKind) (n:Nat) (f g:Nat→Int):splice (ah k n f) 0 (ah k n g)=ah k n g:=by
 rw[splice];simp[af]
theorem gW (k:IntKind) (n:Nat) (f:Nat→Int):List.take n (ah k n f)=ah k n f:=List.take_of_length_le (by rw[af];exact Nat.le_refl n)
theorem yv {k:IntKind} {n:Nat} {f g:Nat→Int} (h: ∀ i,i < n→f i=g i):Ag (ah k n f)=Ag (ah k n g):=by rw[aW h]
theorem kj {k:IntKind} {n m:Nat} {f:Nat→Int}:ah k n (upd (fun i=>if i < m then f i else 0) m (f m))=ah k n (fun i=>if i < m+1 then f i else 0):=by
 refine aW fun i _=> ?_
 simp only[upd]
 split
 ·rename_i e;subst e;rw[if_pos (by omega)]
 ·split
  ·rw[if_pos (by omega)]
  ·rw[if_neg (by omega)]
theorem mO {k:IntKind} {n m:Nat} {f g:Nat→Int}:ah k n (upd (fun i=>if i < m then f i else g i) m (f m))=ah k n (fun i=>if i < m+1 then f i else g i):=by
 refine aW fun i _=> ?_
 simp only[upd]
 split
 ·rename_i e;subst e;rw[if_pos (by omega)]
 ·split
  ·rw[if_pos (by omega)]
  ·rw[if_neg (by omega)]
theorem iy {k:IntKind} {n:Nat} {f g:Nat→Int}:ah k n (fun i=>if i < n then f i else g i)=ah k n f:=
 aW fun i hi=>by rw[if_pos hi]
theorem yw {k:IntKind} {n:Nat} {f g:Nat→Int}:ah k n (fun i=>if i < 0 then f i else g i)=ah k n g:=
 aW fun i hi=>by rw[if_neg (by omega)]
theorem jI (op:BinOp) (x y:Int):0≤aV op .u8 x y∧aV op .u8 x y < 256:=by
 have h: ∀ z:Int,0≤IntKind.u8.wrap z∧IntKind.u8.wrap z < 256:=fun z=>by rw[wrap_u8];omega
 simp only[aV]
 split<;>exact h _
theorem Qy (k:IntKind) (n m:Nat) (f g:Nat→Int):ah k n f++ah k m g=ah k (n+m) (fun i=>if i < n then f i else g (i - n)):=by
 apply List.ext_getElem?
 intro i
 by_cases h:i < n
 ·rw[List.getElem?_append_left (by rw[af];exact h),aE k n f i h,aE k (n+m) _ i (by omega),if_pos h]
 ·rw[List.getElem?_append_right (by rw[af];omega),af]
  by_cases h2:i - n < m
  ·rw[aE k m g _ h2,aE k (n+m) _ i (by omega),if_neg h]
  ·rw[List.getElem?_eq_none (by rw[af];omega),List.getElem?_eq_none (by rw[af];omega)]
def gb (m p q:Nat) (s:AS) (env:List (Nat×AV)) (box:List (Nat×aI)) (next:Nat):Prop:=
 m≤p∧(m≤q∨ ∀ x ∈ box,x.1≠q)∧(∀ x ∈ env,s.env x.1=some (AV.ren (upd (fun n=>n) p q) x.2)∧AV.ok (fun n=>n < next) x.2)∧
  (∀ x ∈ box,(x.1 < m∨x.1=p)∧s.box (upd (fun n=>n) p q x.1)=some x.2∧x.1 < next∧(x.2.cells.all SV.plain=true∨ ∀ y ∈ x.2.cells,SV.ok (fun n=>n < next∧n≠p) y))
theorem NW {p q next:Nat} {l:List SV} (h: ∀ y ∈ l,SV.ok (fun n=>n < next∧n≠p) y):l=l.map (SV.ren (upd (fun n=>n) p q)):=by
 conv=>lhs;rw[← List.map_id l]
 refine List.map_congr_left fun y hy=> ?_
 have:=h y hy
 exact (SV.IP (SV.bK (fun n hn=>bI _ _ _ _ hn.2) this.1)).symm
theorem gb.eZ {s:AS} {m p q:Nat} {env:List (Nat×AV)} {box:List (Nat×aI)} {next:Nat} (h:gb m p q s env box next):mh m s (yi env box next):=by
 obtain ⟨hp,hq,he,hb⟩:=h
 refine ⟨upd (fun n=>n) p q,⟨fun d v hv=>(he _ (bC _ _ _ hv)).1,fun n b hn=> ?_,fun n n' b b' hn _ hn' e=> ?_,fun d v hv=>(he _ (bC _ _ _ hv)).2,fun t b ht=> ?_⟩,fun n hn=>bI _ _ _ _ (by omega)⟩
 ·have:=hb _ (bC _ _ _ hn)
  refine ⟨b,this.2.1,fun h=>h, ?_⟩
  rcases this.2.2.2 with h | h
  ·exact (aN h _).symm
  ·exact NW h
 ·have h1:=(hb _ (bC _ _ _ hn)).1
  have h2:=(hb _ (bC _ _ _ hn')).1
  have h3:m≤q∨(n≠q∧n'≠q):=by
   rcases hq with h | h
   ·exact .inl h
   ·exact .inr ⟨h _ (bC _ _ _ hn),h _ (bC _ _ _ hn')⟩
  simp only at h1 h2
  simp only[upd]at e
  split at e<;>split at e<;>omega
 ·have:=hb _ (bC _ _ _ ht)
  refine ⟨this.2.2.1, ?_⟩
  rcases this.2.2.2 with h | h
  ·exact aD h
  ·exact fun y hy=>SV.aY (fun n hn=>hn.1) (h y hy)
theorem v8 {s:AS} {m p q k next:Nat} {env:List (Nat×AV)} {l:List (Nat×aI)} {cs:List SV} (hmp:m≤p) (zG:p < next) (hkm:k≤m) (hkq:k≤q) (kJ: ∀ x ∈ env,s.env x.1=some (AV.ren (upd (fun n=>n) p q) x.2)∧AV.ok (fun n=>n < next) x.2)
  (hb:s.box q=some ⟨true,cs⟩) (hp:cs.all SV.plain=true) (hl: ∀ x ∈ l,x.1 < k∧lk l x.1=some x.2∧ ∀ y ∈ x.2.cells,SV.ok (fun n=>n < k) y) (hs: ∀ t,t < k→s.box t=lk l t):gb m p q s env ((p,⟨true,cs⟩)::l) next:=by
 refine ⟨hmp, ?_,kJ,fun x hx=> ?_⟩
 ·rcases Nat.lt_or_ge q m with h | h
  ·refine .inr fun x hx=> ?_
   rcases List.mem_cons.1 hx with rfl | hx
   ·show p≠q;omega
   ·have:=(hl x hx).1;omega
  ·exact .inl h
 ·rcases List.mem_cons.1 hx with rfl | hx
  ·exact ⟨.inr rfl,by simpa only[aJ] using hb,zG, .inl hp⟩
  ·obtain ⟨h1,h2,h3⟩:=hl x hx
   refine ⟨.inl (by omega), ?_,by omega, .inr fun y hy=>SV.aY (fun n hn=>⟨by omega,by omega⟩) (h3 y hy)⟩
   rw[bI _ _ _ _ (by omega),hs _ h1,h2]
theorem pQ {P:Program} [Tables P] {s:AS} {c:Code} {F:Exit→AS→Prop} {β:Type} (n:Nat) (Inv:Nat→β→Prop) (env:Nat→β→List (Nat×AV)) (box:Nat→β→List (Nat×aI)) (next:Nat) (x0:β)
  (h0:Inv 0 x0∧ ∃ p q,gb s.next p q s (env 0 x0) (box 0 x0) next)
  (hstep: ∀ k x,k < n→Inv k x→vc P c (gE (fun s'=> ∃ y,Inv (k+1) y∧ ∃ p q,gb s.next p q s' (env (k+1) y) (box (k+1) y) next) F) (yi (env k x) (box k x) next))
  (hend: ∀ x,Inv n x→vc P c (gE (fun _=>False) F) (yi (env n x) (box n x) next)) (hn:s.next≤next):kZ (vc P c) F s:=by
 have hmono: ∀ (K K':AS→Prop) t,(∀ s,K s→K' s)→vc P c (gE K F) t→vc P c (gE K' F) t:=fun K K' t h hv=>fa c _ _ (fun e s hs=>by
  cases e with
  | normal=>exact h s hs
  | _=>exact hs) t hv
 obtain ⟨hi0,p0,q0,hb0⟩:=h0
 refine ⟨{ y:Nat×β // y.1≤n∧Inv y.1 y.2 },fun y=>yi (env y.1.1 y.1.2) (box y.1.1 y.1.2) next,fun y=>n - y.1.1,⟨(0,x0),Nat.zero_le _,hi0⟩,hb0.eZ,fun _=>hn,fun y=> ?_⟩
 obtain ⟨⟨k,x⟩,h1,h2⟩:=y
 rcases Nat.lt_or_ge k n with h | h
 ·refine hmono _ _ _ (fun s' hs=> ?_) (hstep k x h h2)
  obtain ⟨z,hz,p,q,hb⟩:=hs
  exact ⟨⟨(k+1,z),h,hz⟩,by show n - (k+1) < n - k;omega,hb.eZ⟩
 ·have e:k=n:=Nat.le_antisymm h1 h
  subst e
  exact hmono (fun _=>False) _ _ (fun s' hs=>False.elim hs) (hend x h2)
def w5 (m:Nat) (r:Nat→Nat) (s:AS) (env:List (Nat×AV)) (box:List (Nat×aI)) (next:Nat):Prop:=
 (∀ n,n < m→r n=n)∧(∀ x ∈ env,s.env x.1=some (AV.ren r x.2)∧AV.ok (fun n=>n < next) x.2)∧
  (∀ x ∈ box,s.box (r x.1)=some x.2∧x.1 < next∧x.2.cells.all SV.plain=true)∧(∀ x ∈ box, ∀ y ∈ box,r x.1=r y.1→x.1=y.1)
theorem w5.eZ {s:AS} {m:Nat} {r:Nat→Nat} {env:List (Nat×AV)} {box:List (Nat×aI)} {next:Nat} (h:w5 m r s env box next):mh m s (yi env box next):=by
 obtain ⟨hm,he,hb,hi⟩:=h
 refine ⟨r,⟨fun d v hv=>(he _ (bC _ _ _ hv)).1,fun n b hn=> ?_,fun n n' b b' hn _ hn' e=>hi _ (bC _ _ _ hn) _ (bC _ _ _ hn') e,fun d v hv=>(he _ (bC _ _ _ hv)).2,fun t b ht=> ?_⟩,hm⟩
 ·have:=hb _ (bC _ _ _ hn)
  exact ⟨b,this.1,fun h=>h,(aN this.2.2 _).symm⟩
 ·have:=hb _ (bC _ _ _ ht)
  exact ⟨this.2.1,aD this.2.2⟩
theorem I6 {P:Program} [Tables P] {s:AS} {c:Code} {F:Exit→AS→Prop} {β:Type} (n:Nat) (Inv:Nat→β→Prop) (env:Nat→β→List (Nat×AV)) (box:Nat→β→List (Nat×aI)) (next:Nat) (x0:β)
  (h0:Inv 0 x0∧ ∃ r,w5 s.next r s (env 0 x0) (box 0 x0) next)
  (hstep: ∀ k x,k < n→Inv k x→vc P c (gE (fun s'=> ∃ y,Inv (k+1) y∧ ∃ r,w5 s.next r s' (env (k+1) y) (box (k+1) y) next) F) (yi (env k x) (box k x) next))
  (hend: ∀ x,Inv n x→vc P c (gE (fun _=>False) F) (yi (env n x) (box n x) next)) (hn:s.next≤next):kZ (vc P c) F s:=by
 have hmono: ∀ (K K':AS→Prop) t,(∀ s,K s→K' s)→vc P c (gE K F) t→vc P c (gE K' F) t:=fun K K' t h hv=>fa c _ _ (fun e s hs=>by
  cases e with
  | normal=>exact h s hs
  | _=>exact hs) t hv
 obtain ⟨hi0,r0,hb0⟩:=h0
 refine ⟨{ y:Nat×β // y.1≤n∧Inv y.1 y.2 },fun y=>yi (env y.1.1 y.1.2) (box y.1.1 y.1.2) next,fun y=>n - y.1.1,⟨(0,x0),Nat.zero_le _,hi0⟩,hb0.eZ,fun _=>hn,fun y=> ?_⟩
 obtain ⟨⟨k,x⟩,h1,h2⟩:=y
 rcases Nat.lt_or_ge k n with h | h
 ·refine hmono _ _ _ (fun s' hs=> ?_) (hstep k x h h2)
  obtain ⟨z,hz,r,hb⟩:=hs
  exact ⟨⟨(k+1,z),h,hz⟩,by show n - (k+1) < n - k;omega,hb.eZ⟩
 ·have e:k=n:=Nat.le_antisymm h1 h
  subst e
  exact hmono (fun _=>False) _ _ (fun s' hs=>False.elim hs) (hend x h2)
theorem lX {r:Nat→Nat} {k:Nat} (hr: ∀ n,n < k→r n=n) {v:AV} (h:AV.ok (fun n=>n < k) v):AV.ren r v=v:=by
 have hs: ∀ x:SV,SV.names (fun n=>n < k) x→SV.ren r x=x:=fun x hx=>by
  exact SV.IP (SV.bK hr hx)
 have hc: ∀ x:CV,CV.ok (fun n=>n < k) x→CV.ren r x=x:=fun x hx=>by
  rcases x with x | l
  ·simp only[CV.ren];rw[hs x hx]
  ·simp only[CV.ren]
   congr 1
   conv=>rhs;rw[← List.map_id l]
   exact List.map_congr_left fun y hy=>hs y (hx y hy).1
 rcases v with x | l
 ·simp only[AV.ren];rw[hc x h]
 ·simp only[AV.ren]
  congr 1
  conv=>rhs;rw[← List.map_id l]
  exact List.map_congr_left fun y hy=>hc y (h y hy)
theorem mP {r:Nat→Nat} {k:IntKind} {n:Int}:AV.ren r (I k n)=I k n:=rfl
theorem oz {r:Nat→Nat}:(∀ b,AV.ren r (V (.bool b))=V (.bool b))∧(∀ k n,AV.ren r (V (.int k n))=V (.int k n))∧(∀ s,AV.ren r (V (.string s))=V (.string s))∧(∀ a,AV.ren r (V (.pointer a))=V (.pointer a))∧(∀ a n c,AV.ren r (V (.slice a n c))=V (.slice a n c))∧(∀ t v,AV.ren r (V (.iface t v))=V (.iface t v))∧AV.ren r (V .nilIface)=V .nilIface∧AV.ren r (V .nilFunc)=V .nilFunc∧ ∀ f as,AV.ren r (V (.func f as #[]))=V (.func f as #[]):=
 ⟨fun _=>rfl,fun _ _=>rfl,fun _=>rfl,fun _=>rfl,fun _ _ _=>rfl,fun _ _=>rfl,rfl,rfl,fun _ _=>rfl⟩
theorem qD {r:Nat→Nat} {t o:Nat}:AV.ren r (Ptr t o)=Ptr (r t) o:=rfl
theorem fb {r:Nat→Nat} {t o n c:Nat}:AV.ren r (Sl t o n c)=Sl (r t) o n c:=rfl
theorem fc {r:Nat→Nat} {k:IntKind} {n:Nat} {f:Nat→Int}:AV.ren r (Ag (ah k n f))=Ag (ah k n f):=by
 show AV.ren r (.inl (.inr _))=_
 simp only[AV.ren,CV.ren,aN az]
theorem XF {M:Nat→Prop} {k:IntKind} {n:Nat} {f:Nat→Int}:AV.ok M (Ag (ah k n f))=True:=eq_true (aD az)
def bh (n:Nat) (f g:Nat→Int) (i:Nat):Int:=if i < n then f i else g (i - n)
def br (cs:List SV) (o n:Nat) (f:Nat→Int):Prop:= ∀ i,i < n→cs[o+i]? =some (Sum.inl (.int .u8 (f i)))
def cK (box:Nat→Option aI) (v:AV) (n:Nat) (f:Nat→Int):Prop:=
 ((∃ a,v=V (.slice a 0 0))∧n=0)∨ ∃ t o c rw cs,v=Sl t o n c∧box t=some ⟨rw,cs⟩∧cs.all SV.plain=true∧br cs o n f
def Made (k n:Nat) (f:Nat→Int) (v:AV) (out:Nat→Option aI):Prop:=
 ∃ c tail,v=Sl k 0 n c∧out=lk [(k,⟨true,ah .u8 n f++tail⟩)]∧n≤c∧tail.length=c - n∧tail.all SV.plain=true
theorem fR {n:Nat} {f:Nat→Int} {tail:List SV} (h:tail.all SV.plain=true):(ah .u8 n f++tail).all SV.plain=true:=by
 rw[List.all_append,az,h];rfl
theorem jJ {n:Nat} {f:Nat→Int} {tail:List SV}:br (ah .u8 n f++tail) 0 n f:=fun i hi=>by
 rw[Nat.zero_add,List.getElem?_append_left (by rw[af];exact hi),aE .u8 n f i hi]
theorem bN {n:Nat} {f:Nat→Int}:br (ah .u8 n f) 0 n f:=fun i hi=>by rw[Nat.zero_add,aE .u8 n f i hi]
theorem pR {cs:List SV} {o n:Nat} {f:Nat→Int} (h:br cs o n f): ∀ j u,(ah .u8 n f)[j]? =some u→cs[o+j]? =some u:=fun j u hj=>by
 by_cases hlt:j < n
 ·rw[aE .u8 n f j hlt]at hj;rw[h j hlt];exact hj
 ·rw[List.getElem?_eq_none (by rw[af];omega)]at hj;cases hj
theorem Bq {cs:List SV} {o n:Nat} {f:Nat→Int} (h:br cs o n f) (a m:Nat) (hm:a+m≤n):br cs (o+a) m (fun i=>f (a+i)):=fun i hi=>by
 rw[Nat.add_assoc];exact h (a+i) (by omega)
theorem rj {cs:List SV} {o n m:Nat} {f:Nat→Int} (h:br cs o n f) (hm:m≤n):br cs o m f:=fun i hi=>h i (by omega)
theorem kl {cs:List SV} {o n:Nat} {f g:Nat→Int} (h:br cs o n f) (e: ∀ i,i < n→f i=g i):br cs o n g:=fun i hi=>by rw[← e i hi];exact h i hi
theorem FJ {cs:List SV} {n:Nat} {f:Nat→Int} (h:br cs 0 n f) (hl:n≤cs.length):cs=ah .u8 n f++cs.drop n:=by
 apply List.ext_getElem?
 intro i
 by_cases hi:i < n
 ·rw[List.getElem?_append_left (by rw[af];exact hi),aE .u8 n f i hi]
  have:=h i hi
  rwa [Nat.zero_add]at this
 ·rw[List.getElem?_append_right (by rw[af];omega),af,List.getElem?_drop,show n+(i - n)=i by omega]
structure bV (cs:List SV) (o n c:Nat) (f:Nat→Int):Prop where
 len:cs.length=o+c
 room:n≤c
 plain:cs.all SV.plain=true
 shows:br cs o n f
theorem bV.made {cs:List SV} {n c k:Nat} {f:Nat→Int} (h:bV cs 0 n c f):Made k n f (Sl k 0 n c) (lk [(k,⟨true,cs⟩)]):=by
 have hl:=h.len
 have hr:=h.room
 have e:=FJ h.shows (by omega)
 refine ⟨c,cs.drop n,rfl,by rw[← e],hr,by rw[List.length_drop];omega, ?_⟩
 have:=h.plain
 rw[e,List.all_append]at this
 exact (Bool.and_eq_true _ _▸this).2
theorem bV.row {n c:Nat} {f:Nat→Int} {tail:List SV} (hc:n≤c) (hl:tail.length=c - n) (hp:tail.all SV.plain=true):bV (ah .u8 n f++tail) 0 n c f:=
 ⟨by rw[List.length_append,af];omega,hc,fR hp,jJ⟩
theorem bV.join {n m c:Nat} {f g h:Nat→Int} {tail:List SV} (h1: ∀ i,i < n→f i=h i) (h2: ∀ i,i < m→g i=h (n+i)) (hc:n+m≤c) (hl:tail.length=(c - (n+m))*1) (hp:tail.all SV.plain=true):bV (ah .u8 n f++ah .u8 m g++tail) 0 (n+m) c h:=by
 rw[Qy,aW (g:=h) (fun i hi=> ?_)]
 ·exact bV.row hc (by omega) hp
 ·split
  ·exact h1 i ‹_›
  ·rw[h2 _ (by omega),show n+(i - n)=i by omega]
theorem gp {v:Int}:br [Sum.inl (.int .u8 v)] 0 1 (fun _=>v):=fun i hi=>by
 have:i=0:=by omega
 subst this;rfl
theorem bV.congr {cs:List SV} {o n m c:Nat} {f g:Nat→Int} (h:bV cs o n c f) (e:n=m) (hfg: ∀ i,i < n→f i=g i):bV cs o m c g:=
 ⟨h.len,e▸h.room,h.plain,e▸kl h.shows hfg⟩
theorem I7 {n k:Nat} {f g:Nat→Int}: ∀ i,i < n+k+1→bh (n+k) (bh n f g) (fun _=>g k) i=bh n f g i:=fun i hi=>by
 by_cases h:i < n+k
 ·simp only[bh,if_pos h]
 ·have:i=n+k:=by omega
  subst this
  simp only[bh];rw[if_neg (by omega),if_neg (by omega),show n+k - n=k by omega]
theorem fS {k:IntKind} {g:Nat→Int} {x:SV}:splice (ah k 1 g) 0 [x]=[x]:=rfl
theorem kt {r:Nat→Nat} {k nm:Nat}:dy r k nm k=nm:=by unfold dy;rw[if_pos rfl]
theorem km {s:AS} {r:Nat→Nat} {k nm:Nat} {cs:List SV} (hp:cs.all SV.plain=true):after s r k nm none (lk [(k,⟨true,cs⟩)])=upd s.box nm (some ⟨true,cs⟩):=by
 simp[after,lk,aI.ren,aN hp]
section
variable {P:Program} [Tables P]
theorem pS {s:AS} {fn k n nm:Nat} {f:Nat→Int} {args l:List AV} {ins:Nat→Option aI} (h:bz P fn args k ins (Made k n f)) (r:Nat→Nat) (hfit:Fits s r ins none) (hl:l=args.map (AV.ren r)) {dst:Option Nat} {K:AS→Prop}
  (hk: ∀ c tail,n≤c→tail.length=c - n→tail.all SV.plain=true→K ((⟨s.env,upd s.box nm (some ⟨true,ah .u8 n f++tail⟩),s.next⟩:AS).put dst (some (Sl nm 0 n c)))):aB P nm fn (some l) dst K s:=by
 refine h.aB r none hfit hl ?_
 rintro v out ⟨c,tail,rfl,rfl,h1,h2,h3⟩ _
 rw[km (fR h3)]
 have e:AV.ren (dy r k nm) (Sl k 0 n c)=Sl nm 0 n c:=by show Sl (dy r k nm k) 0 n c=_;rw[kt]
 rw[e]
 exact hk c tail h1 h2 h3
theorem uF {s:AS} {fn k n nm:Nat} {f:Nat→Int} {args l:List AV} {ins:Nat→Option aI} (h:bz P fn args k ins (Made k n f)) (r:Nat→Nat) (hfit:Fits s r ins none) (hl:l=args.map (AV.ren r))
  (hnamed: ∀ M:Nat→Prop,(∀ v ∈ l,AV.ok M v)→ ∀ n,n < k→M (r n)) {ops:Array Oper} {i:Nat} (K0:late ops i=true) {dst:Option Nat} {K:AS→Prop}
  (hk: ∀ c tail,n≤c→tail.length=c - n→tail.all SV.plain=true→K ((⟨s.env,upd s.box nm (some ⟨true,ah .u8 n f++tail⟩),s.next⟩:AS).put dst (some (Sl nm 0 n c)))):qt P ops i nm fn (some l) dst K s:=by
 refine .inr (.inr (.inl ⟨K0,fun e=> ∃ c tail,e=(some (Sl nm 0 n c),some (.inl (ah .u8 n f++tail)))∧n≤c∧tail.length=c - n∧tail.all SV.plain=true,h.reads r hfit hl hnamed ?_ ?_, ?_⟩))
 ·rintro v out ⟨c,tail,rfl,rfl,h1,h2,h3⟩
  refine ⟨c,tail, ?_,h1,h2,h3⟩
  have e:AV.ren (dy r k nm) (Sl k 0 n c)=Sl nm 0 n c:=by show Sl (dy r k nm k) 0 n c=_;rw[kt]
  simp[IZ,lk,aN (fR h3),e]
 ·rintro e ⟨c,tail,rfl,_⟩
  exact .inr ⟨_,rfl⟩
 ·rintro e ⟨c,tail,rfl,h1,h2,h3⟩
  exact hk c tail h1 h2 h3
end
theorem cO.draw {P:Program} [bA.Tables P] {f:Nat} {l:List AV} {r:AV} (h:cO P f l r) (hc:au P f=true) {ops:Array Oper} {i nm:Nat} {dst:Option Nat} {K:AS→Prop} {s:AS} (hk:K (s.put dst (some r))):qt P ops i nm f (some l) dst K s:=
 .inl ⟨l,r,rfl, .inl ⟨hc,h⟩,hk⟩
theorem lk3 {b c d b':aI} {n:Nat} (h:lk [(0,b),(1,c),(2,d)] n=some b'):(n=0∧b'=b)∨(n=1∧b'=c)∨(n=2∧b'=d):=by
 have:=bC _ _ _ h
 simp only[List.mem_cons,List.not_mem_nil,or_false,Prod.mk.injEq]at this
 exact this
theorem acG {b c d:aI}: ∀ n,n < 3→ ∃ e,lk [(0,b),(1,c),(2,d)] n=some e:=fun n hn=>by
 have:n=0∨n=1∨n=2:=by omega
 rcases this with rfl | rfl | rfl<;>exact ⟨_,rfl⟩
theorem acH {r0 r1 r2:Bool} {cs ds es:List SV} (hp:cs.all SV.plain=true) (hq:ds.all SV.plain=true) (hr:es.all SV.plain=true): ∀ n c,lk [(0,(⟨r0,cs⟩:aI)),(1,⟨r1,ds⟩),(2,⟨r2,es⟩)] n=some c→n < 3∧ ∀ x ∈ c.cells,SV.ok (fun n=>n < 3) x:=fun n c h=>by
 rcases lk3 h with ⟨rfl,rfl⟩ | ⟨rfl,rfl⟩ | ⟨rfl,rfl⟩
 ·exact ⟨by omega,aD hp⟩
 ·exact ⟨by omega,aD hq⟩
 ·exact ⟨by omega,aD hr⟩
def three (a b c:Nat):Nat→Nat:=fun n=>if n=0 then a else if n=1 then b else c
theorem Z7 {s:AS} {t u x:Nat} {r0 r1 r2:Bool} {cs ds es:List SV} (h:s.box t=some ⟨r0,cs⟩) (hp:cs.all SV.plain=true) (h':s.box u=some ⟨r1,ds⟩) (hp':ds.all SV.plain=true) (h2:s.box x=some ⟨r2,es⟩) (Up:es.all SV.plain=true):
  Fits s (three t u x) (lk [(0,⟨false,cs⟩),(1,⟨false,ds⟩),(2,⟨false,es⟩)]) none:=
 ⟨fun n b hb=>by
  rcases lk3 hb with ⟨rfl,rfl⟩ | ⟨rfl,rfl⟩ | ⟨rfl,rfl⟩
  ·exact ⟨_,h,fun e=>(by cases e),(aN hp _).symm⟩
  ·exact ⟨_,h',fun e=>(by cases e),(aN hp' _).symm⟩
  ·exact ⟨_,h2,fun e=>(by cases e),(aN Up _).symm⟩,
  fun n n' b b' hb hrw=>(by rcases lk3 hb with ⟨rfl,rfl⟩ | ⟨rfl,rfl⟩ | ⟨rfl,rfl⟩<;>cases hrw),fun n b hb hrw=>(by rcases lk3 hb with ⟨rfl,rfl⟩ | ⟨rfl,rfl⟩ | ⟨rfl,rfl⟩<;>cases hrw),fun n hn=>(by cases hn)⟩
def tD (box:Nat→Option aI) (b:Nat) (v:AV) (n:Nat) (f:Nat→Int):Prop:=
 ((∃ a,v=V (.slice a 0 0))∧n=0)∨ ∃ t o c rw cs,v=Sl t o n c∧box t=some ⟨rw,cs⟩∧br cs o n f∧t≠b
theorem NY {ins box:Nat→Option aI} {b k n:Nat} {f:Nat→Int} {v:AV} (h:cK ins v n f) (hok:AV.ok (fun n=>n < k) v) (hb:k≤b) (hs: ∀ t,t < k→box t=ins t):tD box b v n f:=by
 rcases h with h | ⟨t,o,c,rw,cs,rfl,h1,h2,h3⟩
 ·exact .inl h
 ·have ht:t < k:=hok
  exact .inr ⟨t,o,c,rw,cs,rfl,by rw[hs t ht,h1],h3,by omega⟩
theorem at_len {box:Nat→Option aI} {v:AV} {n:Nat} {f:Nat→Int} (h:cK box v n f):eJ 1 (some [v])=some (some (I .i64 n),none):=by
 rcases h with ⟨⟨a,rfl⟩,rfl⟩ | ⟨t,o,c,rw,cs,rfl,_⟩<;>rfl
def fC (t:Nat) (v:AV) (n:Nat) (f:Nat→Int) (cs:List SV):Prop:=((∃ a,v=V (.slice a 0 0))∧n=0)∨ ∃ o c,v=Sl t o n c∧br cs o n f
theorem fC.at {t n:Nat} {v:AV} {f:Nat→Int} {cs:List SV} {rw:Bool} {box:Nat→Option aI} (h:fC t v n f cs) (hb:box t=some ⟨rw,cs⟩) (hp:cs.all SV.plain=true):cK box v n f:=by
 rcases h with ⟨⟨a,rfl⟩,h0⟩ | ⟨o,c,rfl,hs⟩
 ·exact .inl ⟨⟨_,rfl⟩,h0⟩
 ·exact .inr ⟨t,o,c,rw,cs,rfl,hb,hp,hs⟩
theorem fC.ok {t n:Nat} {v:AV} {f:Nat→Int} {cs:List SV} {M:Nat→Prop} (h:fC t v n f cs) (hM:M t):AV.ok M v:=by
 rcases h with ⟨⟨a,rfl⟩,h0⟩ | ⟨o,c,rfl,hs⟩
 ·trivial
 ·exact hM
structure Handed (k:Nat) (l:List (Nat×aI)):Prop where
 v7: ∀ x ∈ l,x.1 < k∧lk l x.1=some x.2∧x.2.cells.all SV.plain=true
 ro: ∀ x ∈ l,x.2.rw=false
 all: ∀ n,n < k→ ∃ b,lk l n=some b
 le:k≤20
theorem Handed.lt {k:Nat} {l:List (Nat×aI)} (h:Handed k l): ∀ x ∈ l,x.1 < k:=fun x hx=>(h.v7 x hx).1
theorem Handed.dw {k:Nat} {l:List (Nat×aI)} (h:Handed k l): ∀ n b,lk l n=some b→n < k∧ ∀ x ∈ b.cells,SV.ok (fun n=>n < k) x:=fun n b hb=>⟨(h.v7 _ (bC _ _ _ hb)).1,aD (h.v7 _ (bC _ _ _ hb)).2.2⟩
structure Arg (k:Nat) (l:List (Nat×aI)) (v:AV) (n:Nat) (f:Nat→Int):Prop where
 at_:cK (lk l) v n f
 ok:AV.ok (fun n=>n < k) v
structure Packs (s:AS) (k:Nat) (l:List (Nat×aI)) (r:Nat→Nat) (L:List AV):Prop where
 good:Handed k l
 fits:Fits s r (lk l) none
 named: ∀ M:Nat→Prop,(∀ v ∈ L,AV.ok M v)→ ∀ n,n < k→M (r n)
theorem Arg.id {k n:Nat} {l:List (Nat×aI)} {v:AV} {f:Nat→Int} (h:Arg k l v n f):AV.ren (fun n=>n) v=v:=lX (fun n _=>rfl) h.ok
section
variable {P:Program} [Tables P]
theorem fI {t tx:Nat} (hk:qQ P t=some ([Value.int .u8 0],1,1)) (hx:sZ P tx=some (none,1)) {s:AS} {nm b o n c m:Nat} {f g:Nat→Int} {cs:List SV} {x:AV} (hb:s.box b=some ⟨true,cs⟩) (hg:bV cs o n c f)
  (hsrc:tD s.box b x m g) (hby:n+m≤140737488355328) {ty:TypeId} {ct:Array Bool} {dst:Option Nat} {K:AS→Prop}
  (hK: ∀ c' cs',bV cs' 0 (n+m) c' (bh n f g)→K ((⟨s.env,upd (upd s.box b none) nm (some ⟨true,cs'⟩),s.next⟩:AS).put dst (some (Sl nm 0 (n+m) c')))):
  bS P nm .append #[t,tx] ty ct (some [Sl b o n c,x]) dst K s:=by
 have e1: ∀ i,i < n→f i=bh n f g i:=fun i hi=>by simp only[bh,if_pos hi]
 have e2: ∀ i,i < m→g i=bh n f g (n+i):=fun i hi=>by simp only[bh];rw[if_neg (by omega),show n+i - n=i by omega]
 refine NR (olds:=ah .u8 n f) (news:=ah .u8 m g) hk hx rfl (by decide) rfl hb (by rw[hg.len,Nat.mul_one]) hg.room (by rw[af,Nat.mul_one]) (pR hg.shows) hg.plain ?_ (by omega) (by omega)
  (fun c' tail h1 h2 h3=>hK c' _ (bV.join e1 e2 h1 h2 h3))
 rcases hsrc with ⟨⟨a,rfl⟩,rfl⟩ | ⟨t',o',c',rw',cs',rfl,h1,h2,h3⟩
 ·exact .inr ⟨⟨_,rfl⟩,rfl,rfl⟩
 ·exact .inl ⟨t',o',c',⟨rw',cs'⟩,rfl,h1,by rw[af,Nat.mul_one],pR h2,fun e=>h3 (by cases e;rfl)⟩
theorem mQ {t tx:Nat} (hk:qQ P t=some ([Value.int .u8 0],1,1)) (hx:sZ P tx=some (none,1)) {s:AS} {nm m:Nat} {g:Nat→Int} {x:AV}
  (hsrc:cK s.box x m g) (hby:m≤140737488355328) {ty:TypeId} {ct:Array Bool} {dst:Option Nat} {K:AS→Prop}
  (h0:m=0→K (s.put dst (some (V (.slice none 0 0)))))
  (hK:0 < m→ ∀ c' cs',bV cs' 0 m c' g→K ((⟨s.env,upd s.box nm (some ⟨true,cs'⟩),s.next⟩:AS).put dst (some (Sl nm 0 m c')))):
  bS P nm .append #[t,tx] ty ct (some [V (.slice none 0 0),x]) dst K s:=by
 refine mo (news:=ah .u8 m g) hk hx rfl (by decide) rfl ?_ (by omega) (by omega) h0 (fun h c' tail h1 h2 h3=>hK h c' _ (bV.row h1 (by omega) h3))
 rcases hsrc with ⟨⟨a,rfl⟩,rfl⟩ | ⟨t',o',c',rw',cs',rfl,h1,_,h2⟩
 ·exact .inr ⟨⟨_,rfl⟩,rfl,rfl⟩
 ·exact .inl ⟨t',o',c',⟨rw',cs'⟩,rfl,h1,by rw[af,Nat.mul_one],pR h2,fun e=>by cases e⟩
end
theorem tE {P:Program} [Tables P] {s:AS} {fn n nm t:Nat} {f:Nat→Int} {args l:List AV} {cs:List SV} (h:bz P fn args 1 (lk [(0,⟨true,cs⟩)]) (Made 1 n f)) (hb:s.box t=some ⟨true,cs⟩) (hp:cs.all SV.plain=true) (hl:l=args.map (AV.ren fun _=>t)) {dst:Option Nat} {K:AS→Prop}
  (hk: ∀ c cs',bV cs' 0 n c f→K ((⟨s.env,upd (upd s.box nm (some ⟨true,cs'⟩)) t none,s.next⟩:AS).put dst (some (Sl nm 0 n c)))):aB P nm fn (some l) dst K s:=by
 refine h.aB (fun _=>t) (some 0) (I0 hb hp) hl ?_
 rintro v out ⟨c,tail,rfl,rfl,h1,h2,h3⟩ _
 have e:AV.ren (dy (fun _=>t) 1 nm) (Sl 1 0 n c)=Sl nm 0 n c:=by show Sl (dy (fun _=>t) 1 nm 1) 0 n c=_;rw[kt]
 rw[e]
 have:=hk c _ (bV.row h1 h2 h3)
 have e2:after s (fun _=>t) 1 nm (some 0) (lk [(1,(⟨true,ah .u8 n f++tail⟩:aI))])=upd (upd s.box nm (some ⟨true,ah .u8 n f++tail⟩)) t none:=by
  simp[after,lk,aI.ren,aN (fR h3)]
 rw[e2]
 exact this
theorem Br {s:AS} {k q n m c:Nat} {f:Nat→Int} {cs:List SV} (hq:k≤q) (h:bV cs 0 n c f) (hb:s.box q=some ⟨true,cs⟩) (e:n=m):sV k (Made k m f) (Sl q 0 n c) s:=by
 subst e
 exact gV hq hb h.plain h.made
def Bytes (k n:Nat) (f:Nat→Int) (v:AV) (out:Nat→Option aI):Prop:=(n=0∧v=V (.slice none 0 0)∧out=fun _=>none)∨Made k n f v out
theorem I8 {P:Program} [Tables P] {s:AS} {fn k n nm:Nat} {f:Nat→Int} {args l:List AV} {ins:Nat→Option aI} (h:bz P fn args k ins (Bytes k n f)) (r:Nat→Nat) (hfit:Fits s r ins none) (hl:l=args.map (AV.ren r)) {dst:Option Nat} {K:AS→Prop}
  (hk: ∀ x FK,(∀ t,t≠nm→FK t=s.box t)→(∀ b,b≠nm→tD FK b x n f)→cK FK x n f→K ((⟨s.env,FK,s.next⟩:AS).put dst (some x))):aB P nm fn (some l) dst K s:=by
 refine h.aB r none hfit hl ?_
 rintro v out (⟨rfl,rfl,rfl⟩ | ⟨c,tail,rfl,rfl,h1,h2,h3⟩) _
 ·exact hk (V (.slice none 0 0)) s.box (fun _ _=>rfl) (fun _ _=> .inl ⟨⟨_,rfl⟩,rfl⟩) (.inl ⟨⟨_,rfl⟩,rfl⟩)
 ·rw[km (fR h3)]
  have e:AV.ren (dy r k nm) (Sl k 0 n c)=Sl nm 0 n c:=by show Sl (dy r k nm k) 0 n c=_;rw[kt]
  rw[e]
  exact hk (Sl nm 0 n c) _ (fun t ht=>bI _ _ _ _ ht) (fun b hb=> .inr ⟨nm,0,c,true,_,rfl,aJ _ _ _,jJ,fun e=>hb e.symm⟩) (.inr ⟨nm,0,c,true,_,rfl,aJ _ _ _,fR h3,jJ⟩)
def FL (k n:Nat) (f:Nat→Int) (v:AV) (out:Nat→Option aI):Prop:=v=Sl k 0 n n∧out=lk [(k,⟨true,ah .u8 n f⟩)]
theorem FL.made {k n:Nat} {f:Nat→Int} {v:AV} {out:Nat→Option aI} (h:FL k n f v out):Made k n f v out:=
 ⟨n,[],h.1,by rw[List.append_nil];exact h.2,Nat.le_refl _,by simp,rfl⟩
theorem I9 {P:Program} [Tables P] {s:AS} {fn k n nm:Nat} {f:Nat→Int} {args l:List AV} {ins:Nat→Option aI} (h:bz P fn args k ins (FL k n f)) (r:Nat→Nat) (hfit:Fits s r ins none) (hl:l=args.map (AV.ren r)) {dst:Option Nat} {K:AS→Prop}
  (hk:K ((⟨s.env,upd s.box nm (some ⟨true,ah .u8 n f⟩),s.next⟩:AS).put dst (some (Sl nm 0 n n)))):aB P nm fn (some l) dst K s:=by
 refine h.aB r none hfit hl ?_
 rintro v out ⟨rfl,rfl⟩ _
 rw[km az]
 have e:AV.ren (dy r k nm) (Sl k 0 n n)=Sl nm 0 n n:=by show Sl (dy r k nm k) 0 n n=_;rw[kt]
 rw[e]
 exact hk
theorem I' {P:Program} [Tables P] {s:AS} {fn k n nm:Nat} {f:Nat→Int} {args l:List AV} {ins:Nat→Option aI} (h:bz P fn args k ins (FL k n f)) (r:Nat→Nat) (hfit:Fits s r ins none) (hl:l=args.map (AV.ren r))
  (hnamed: ∀ M:Nat→Prop,(∀ v ∈ l,AV.ok M v)→ ∀ n,n < k→M (r n)) {ops:Array Oper} {i:Nat} {dst:Option Nat} {K:AS→Prop}
  (hk:K ((⟨s.env,upd s.box nm (some ⟨true,ah .u8 n f⟩),s.next⟩:AS).put dst (some (Sl nm 0 n n)))):qt P ops i nm fn (some l) dst K s:=by
 refine .inr (.inl ⟨(some (Sl nm 0 n n),some (.inl (ah .u8 n f))),h.reads r hfit hl hnamed ?_ ?_,hk⟩)
 ·rintro v out ⟨rfl,rfl⟩
  have e:AV.ren (dy r k nm) (Sl k 0 n n)=Sl nm 0 n n:=by show Sl (dy r k nm k) 0 n n=_;rw[kt]
  simp[IZ,lk,aN az,e]
 ·rintro e rfl
  exact .inr ⟨_,rfl⟩
theorem Qz (m:Nat):cZ [Value.int .u8 0] m=ah .u8 m (fun _=>0):=by
 have h:(Builtin.zeroCells [Value.int IntKind.u8 0].toArray m).toList=(List.range m).map fun _=>Value.int .u8 0:=by
  simp[Builtin.zeroCells,Nat.mod_one]
 simp only[cZ,h,ah,List.map_map,Function.comp_def]
section
variable {P:Program} [Tables P]
theorem LS {n c z:Nat} {hi:Option Int}:fG (some (none,z)) (some (V (.slice none n c))) (some none) (some hi)=Za c 0 (hi.getD n):=rfl
theorem LU {c:Nat} {l h:Int}:Za c l h=if 0≤l∧l≤h∧h≤c then some (some (V (.slice none (h.toNat - l.toNat) (c - l.toNat))),none) else none:=rfl
theorem LV {nm:Nat} {dst:Option Nat} {K:AS→Prop} {s:AS} {ty:TypeId} {pos:String} {after:Array Edge} {xs:List Operand} {tys:Array TypeId}:bM P nm ⟨dst, .call ⟨.builtin .cap,xs.toArray,tys⟩,ty,pos,after,none⟩ K s=
  bS P nm .cap tys ty (xs.toArray.map isConst) (bk s xs) dst K s:=rfl
theorem yx {t sz:Nat} (hx:sZ P t=some (none,sz)) {a:Option Addr} {n c:Nat} {s:AS} {nm:Nat} {ty:TypeId} {ct:Array Bool} {dst:Option Nat} {K:AS→Prop} (hk:K (s.put dst (some (I .i64 c)))):
  bS P nm .cap #[t] ty ct (some [V (.slice a n c)]) dst K s:=by
 intro W N w0 g a' w h
 obtain ⟨e,i,_,_,⟨_,hu⟩ | ⟨m,hm,_⟩⟩:=mI hx
 ·exact ⟨I .i64 c,g,s,w,by simp[builtin,Builtin.cap_,run_underlying hu,AV.aq,CV.aq,SV.aq,bX,goInt],trivial,h.mono (fun n hn=>by omega),hk⟩
 ·cases hm
theorem CP {t tx:Nat} {kn:IntKind} (hk:qQ P t=some ([Value.int .u8 0],1,1)) (hx:kindOf P tx=some kn)
  {m:Nat} {kq:IntKind} (hm0:0 < m) (hm1:m≤140737488355328) {s:AS} {nm:Nat} {ty:TypeId} {ct:Array Bool} {dst:Option Nat} {K:AS→Prop}
  (hK: ∀ c' cs',bV cs' 0 m c' (fun _=>0)→K ((⟨s.env,upd s.box nm (some ⟨true,cs'⟩),s.next⟩:AS).put dst (some (Sl nm 0 m c')))):
  bS P nm .append #[t,tx] ty ct (some [V (.slice none 0 0),I kq m]) dst K s:=by
 intro W N w0 g a w h
 obtain ⟨e,i,v,hu,hi,hv,Qu,hsz,yp,jD⟩:=iY hk
 have hux:P.underlying tx=some (.int kn):=by
  unfold kindOf at hx
  split at hx
  ·rename_i k hk';simp only[Option.some.injEq]at hx;rw[hk',hx]
  ·cases hx
 have Ek:v.cells=[Value.int .u8 0].toArray:=by rw[← Qu]
 have hr:=Lib.run_append_grow_zeros (P:=P) w t tx ty e i v kq kn hu hux hi hv none 0 0 [] (run_firstCells_none w.drew i.size 0 0 0) m hm0 (by omega) (by omega) (by omega) (by rw[yp];omega) (growslice_fits (by omega) (by rw[yp];omega))
 rw[Nat.zero_add]at hr
 have hge:=grownCap_ge w m 0 e
 generalize grownCap w m 0 e=c' at hr hge
 have hz1:([Value.int .u8 0]:List Value).all Value.oneCell'=true:=rfl
 have hp:(cZ [Value.int .u8 0] m++cZ [Value.int .u8 0] (c' - m)).all SV.plain=true:=by
  rw[List.all_append,cQ (by decide) hz1 rfl,cQ (by decide) hz1 rfl];rfl
 have hnb:=h.drew.ux (nm:=nm) (Nat.lt_irrefl nm) (aD hp) e
 refine ⟨Sl nm 0 m c',_,_,_, ?_,Nat.lt_succ_self nm,hnb.mono (fun n hn=>by rcases hn with h | h<;>omega), ?_⟩
 ·simp only[builtin,List.map_cons,List.map_nil,Sem.run_bind]
  show (((Builtin.append_ #[t,tx] ty #[.slice none 0 0, .int kq m]).run P w).andThen fun a w'=>(pure (Next.value a):Sem Next).run P w')=_
  rw[hr]
  simp only[Result.andThen_ok,Sem.run_pure,AV.aq,CV.aq,SV.aq,bX,aJ,Nat.zero_add]
  congr 1
  show World.alloc _ _=World.alloc _ _
  congr 2
  apply Array.ext'
  simp[Ek,ki _ (z:=[Value.int .u8 0]) (by decide) hz1 rfl]
 ·have e2:cZ [Value.int .u8 0] m++cZ [Value.int .u8 0] (c' - m)=ah .u8 m (fun _=>0)++cZ [Value.int .u8 0] (c' - m):=by rw[Qz m]
  have:=hK c' _ (bV.row (f:=fun _=>0) hge (by rw[jH];simp) (cQ (z:=[Value.int .u8 0]) (n:=c' - m) (by decide) hz1 rfl))
  rw[← e2]at this
  exact this
end
end Go.bA
