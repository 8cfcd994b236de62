/-
  Common lemmas on rows, bytes and counted numbers; and what a list of bytes looks like in a state. Nothing here speaks of a program.
-/
import Derived.Test.YtkaamnnjeandlaaDoorVcgWM
import Derived.Test.YtkaamnnjeandlaaDoorVcgT
import Derived.Test.YtkaamnnjeandlaaDoorVcgN
namespace Go.bM
set_option linter.unusedSectionVars false
set_option linter.unusedSimpArgs false
set_option linter.unusedVariables false
def cU (f:Nat→Int):Prop:= ∀ i,0≤f i∧f i < 256
theorem aD {k:IntKind} {n:Nat} {f:Nat→Int}:(aA k n f).all SV.plain=true:=uP k n f
theorem LS (n:Nat):(0≤(n:Int))=True:=by simp
theorem aE (t:Nat):(0≤(t:Int))=True:=by simp
theorem AF {n m:Nat} (h:n < m):((n:Int) < (m:Int))=True:=by simp[h]
theorem aJ {a b:Nat} (h:a < b):((a:Int) < (b:Int))=True:=eq_true (by omega)
theorem JF {a b:Nat} (h:a≤b):((a:Int)≤(b:Int))=True:=eq_true (by omega)
theorem OJ (t d:Nat) (h:t < 9223372036854775808):IntKind.i64.wrap ((t:Int).tdiv (d:Int))=((t / d:Nat):Int):=by
 have:t / d≤t:=Nat.div_le_self t d
 rw[← Int.ofNat_tdiv]
 generalize t / d=q at*
 rw[wrap_i64 _ (by omega) (by omega)]
theorem LU (t d:Nat):(t:Int).tmod (d:Int)=((t%d:Nat):Int):=(Int.ofNat_tmod t d).symm
theorem Tl (n:Nat) (h:n < 9223372036854775808):IntKind.i64.wrap ((n:Int))=(n:Int):=wrap_i64 _ (by omega) (by omega)
theorem bQ (n:Nat) (h:n < 9223372036854775807):IntKind.i64.wrap ((n:Int)+1)=((n+1:Nat):Int):=wrap_i64 _ (by omega) (by omega)
theorem Tm (n m:Nat) (h:n+m < 9223372036854775807):IntKind.i64.wrap ((n:Int)+(m:Int))=((n+m:Nat):Int):=wrap_i64 _ (by omega) (by omega)
theorem AG (n:Nat) (k:IntKind) (c:Int):(List.replicate n (Value.int k c)).all Value.oneCell'=true:=by
 rw[List.all_eq_true];intro x hx;rw[List.eq_of_mem_replicate hx];rfl
theorem vz (n:Nat) (k:IntKind) (c:Int):List.map Sum.inl (List.replicate n (Value.int k c))=aA k n (fun _=>c):=by
 rw[aA,List.map_replicate]
 apply List.ext_getElem?
 intro i
 simp[List.getElem?_replicate]
 split
 ·rename_i h;rw[List.getElem?_range h];rfl
 ·rename_i h;rw[List.getElem?_eq_none (by simp;omega)];rfl
theorem JG (n:Nat) (k:IntKind) (c:Int):List.replicate n (Sum.inl (Value.int k c):SV)=aA k n (fun _=>c):=by
 rw[← vz];simp
theorem jz (k:IntKind) (n:Nat) (f g:Nat→Int):splice (aA k n f) 0 (aA k n g)=aA k n g:=by
 rw[splice];simp[aH]
theorem oK (k:IntKind) (n:Nat) (f:Nat→Int):List.take n (aA k n f)=aA k n f:=List.take_of_length_le (by rw[aH];exact Nat.le_refl n)
theorem LV {k:IntKind} {n m:Nat} {f:Nat→Int}:aA k n (upd (fun i=>if i < m then f i else 0) m (f m))=aA k n (fun i=>if i < m+1 then f i else 0):=by
 refine c7 fun i _=> ?_
 simp only[upd]
 split
 ·rename_i e;subst e;rw[if_pos (by omega)]
 ·split
  ·rw[if_pos (by omega)]
  ·rw[if_neg (by omega)]
theorem JH {k:IntKind} {n m:Nat} {f g:Nat→Int}:aA k n (upd (fun i=>if i < m then f i else g i) m (f m))=aA k n (fun i=>if i < m+1 then f i else g i):=by
 refine c7 fun i _=> ?_
 simp only[upd]
 split
 ·rename_i e;subst e;rw[if_pos (by omega)]
 ·split
  ·rw[if_pos (by omega)]
  ·rw[if_neg (by omega)]
theorem HO {k:IntKind} {n:Nat} {f g:Nat→Int}:aA k n (fun i=>if i < n then f i else g i)=aA k n f:=
 c7 fun i hi=>by rw[if_pos hi]
theorem LW {k:IntKind} {n:Nat} {f g:Nat→Int}:aA k n (fun i=>if i < 0 then f i else g i)=aA k n g:=
 c7 fun i hi=>by rw[if_neg (by omega)]
theorem LX (k:IntKind) (n m:Nat) (f g:Nat→Int):aA k n f++aA k m g=aA k (n+m) (fun i=>if i < n then f i else g (i - n)):=by
 apply List.ext_getElem?
 intro i
 by_cases h:i < n
 ·rw[List.getElem?_append_left (by rw[aH];exact h),bI k n f i h,bI k (n+m) _ i (by omega),if_pos h]
 ·rw[List.getElem?_append_right (by rw[aH];omega),aH]
  by_cases h2:i - n < m
  ·rw[bI k m g _ h2,bI k (n+m) _ i (by omega),if_neg h]
  ·rw[List.getElem?_eq_none (by rw[aH];omega),List.getElem?_eq_none (by rw[aH];omega)]
def gk (m p q:Nat) (s:AS) (env:List (Nat×AV)) (box:List (Nat×aG)) (next:Nat):Prop:=
 m≤p∧(m≤q∨ ∀ x ∈ box,x.1≠q)∧(∀ x ∈ env,s.env x.1=some (AV.ren (upd (fun n=>n) p q) x.2)∧AV.ok (fun n=>n < next) x.2)∧
  (∀ x ∈ box,(x.1 < m∨x.1=p)∧s.box (upd (fun n=>n) p q x.1)=some x.2∧x.1 < next∧(x.2.cells.all SV.plain=true∨ ∀ y ∈ x.2.cells,SV.ok (fun n=>n < next∧n≠p) y))
theorem JI {p q next:Nat} {l:List SV} (h: ∀ y ∈ l,SV.ok (fun n=>n < next∧n≠p) y):l=l.map (SV.ren (upd (fun n=>n) p q)):=by
 conv=>lhs;rw[← List.map_id l]
 refine List.map_congr_left fun y hy=> ?_
 have:=h y hy
 exact (SV.jc (SV.aY (fun n hn=>aW _ _ _ _ hn.2) this.1)).symm
theorem gk.eW {s:AS} {m p q:Nat} {env:List (Nat×AV)} {box:List (Nat×aG)} {next:Nat} (h:gk m p q s env box next):lh m s (nX env box next):=by
 obtain ⟨hp,hq,he,hb⟩:=h
 refine ⟨upd (fun n=>n) p q,⟨fun d v hv=>(he _ (bg _ _ _ hv)).1,fun n b hn=> ?_,fun n n' b b' hn _ hn' e=> ?_,fun d v hv=>(he _ (bg _ _ _ hv)).2,fun t b ht=> ?_⟩,fun n hn=>aW _ _ _ _ (by omega)⟩
 ·have:=hb _ (bg _ _ _ hn)
  refine ⟨b,this.2.1,fun h=>h, ?_⟩
  rcases this.2.2.2 with h | h
  ·exact (az h _).symm
  ·exact JI h
 ·have h1:=(hb _ (bg _ _ _ hn)).1
  have h2:=(hb _ (bg _ _ _ hn')).1
  have h3:m≤q∨(n≠q∧n'≠q):=by
   rcases hq with h | h
   ·exact .inl h
   ·exact .inr ⟨h _ (bg _ _ _ hn),h _ (bg _ _ _ hn')⟩
  simp only at h1 h2
  simp only[upd]at e
  split at e<;>split at e<;>omega
 ·have:=hb _ (bg _ _ _ ht)
  refine ⟨this.2.2.1, ?_⟩
  rcases this.2.2.2 with h | h
  ·exact ai h
  ·exact fun y hy=>SV.aI (fun n hn=>hn.1) (h y hy)
theorem ij {s:AS} {m p q k next:Nat} {env:List (Nat×AV)} {l:List (Nat×aG)} {cs:List SV} (hmp:m≤p) (JB:p < next) (hkm:k≤m) (Z6:k≤q) (jW: ∀ x ∈ env,s.env x.1=some (AV.ren (upd (fun n=>n) p q) x.2)∧AV.ok (fun n=>n < next) x.2)
  (hb:s.box q=some ⟨true,cs⟩) (hp:cs.all SV.plain=true) (hl: ∀ x ∈ l,x.1 < k∧lk l x.1=some x.2∧ ∀ y ∈ x.2.cells,SV.ok (fun n=>n < k) y) (hs: ∀ t,t < k→s.box t=lk l t):gk m p q s env ((p,⟨true,cs⟩)::l) next:=by
 refine ⟨hmp, ?_,jW,fun x hx=> ?_⟩
 ·rcases Nat.lt_or_ge q m with h | h
  ·refine .inr fun x hx=> ?_
   rcases List.mem_cons.1 hx with rfl | hx
   ·show p≠q;omega
   ·have:=(hl x hx).1;omega
  ·exact .inl h
 ·rcases List.mem_cons.1 hx with rfl | hx
  ·exact ⟨.inr rfl,by simpa only[aT] using hb,JB, .inl hp⟩
  ·obtain ⟨h1,h2,h3⟩:=hl x hx
   refine ⟨.inl (by omega), ?_,by omega, .inr fun y hy=>SV.aI (fun n hn=>⟨by omega,by omega⟩) (h3 y hy)⟩
   rw[aW _ _ _ _ (by omega),hs _ h1,h2]
theorem oL {P:Program} [Tables P] {s:AS} {c:Code} {F:Exit→AS→Prop} {β:Type} (n:Nat) (Inv:Nat→β→Prop) (env:Nat→β→List (Nat×AV)) (box:Nat→β→List (Nat×aG)) (next:Nat) (x0:β)
  (h0:Inv 0 x0∧ ∃ p q,gk s.next p q s (env 0 x0) (box 0 x0) next)
  (hstep: ∀ k x,k < n→Inv k x→vc P c (fa (fun s'=> ∃ y,Inv (k+1) y∧ ∃ p q,gk s.next p q s' (env (k+1) y) (box (k+1) y) next) F) (nX (env k x) (box k x) next))
  (hend: ∀ x,Inv n x→vc P c (fa (fun _=>False) F) (nX (env n x) (box n x) next)) (hn:s.next≤next):kC (vc P c) F s:=by
 have hmono: ∀ (K K':AS→Prop) t,(∀ s,K s→K' s)→vc P c (fa K F) t→vc P c (fa K' F) t:=fun K K' t h hv=>fu c _ _ (fun e s hs=>by
  cases e with
  | normal=>exact h s hs
  | _=>exact hs) t hv
 obtain ⟨hi0,p0,q0,hb0⟩:=h0
 refine ⟨{ y:Nat×β // y.1≤n∧Inv y.1 y.2 },fun y=>nX (env y.1.1 y.1.2) (box y.1.1 y.1.2) next,fun y=>n - y.1.1,⟨(0,x0),Nat.zero_le _,hi0⟩,hb0.eW,fun _=>hn,fun y=> ?_⟩
 obtain ⟨⟨k,x⟩,h1,h2⟩:=y
 rcases Nat.lt_or_ge k n with h | h
 ·refine hmono _ _ _ (fun s' hs=> ?_) (hstep k x h h2)
  obtain ⟨z,hz,p,q,hb⟩:=hs
  exact ⟨⟨(k+1,z),h,hz⟩,by show n - (k+1) < n - k;omega,hb.eW⟩
 ·have e:k=n:=Nat.le_antisymm h1 h
  subst e
  exact hmono (fun _=>False) _ _ (fun s' hs=>False.elim hs) (hend x h2)
def HP (m:Nat) (r:Nat→Nat) (s:AS) (env:List (Nat×AV)) (box:List (Nat×aG)) (next:Nat):Prop:=
 (∀ n,n < m→r n=n)∧(∀ x ∈ env,s.env x.1=some (AV.ren r x.2)∧AV.ok (fun n=>n < next) x.2)∧
  (∀ x ∈ box,s.box (r x.1)=some x.2∧x.1 < next∧x.2.cells.all SV.plain=true)∧(∀ x ∈ box, ∀ y ∈ box,r x.1=r y.1→x.1=y.1)
theorem HP.eW {s:AS} {m:Nat} {r:Nat→Nat} {env:List (Nat×AV)} {box:List (Nat×aG)} {next:Nat} (h:HP m r s env box next):lh m s (nX env box next):=by
 obtain ⟨hm,he,hb,hi⟩:=h
 refine ⟨r,⟨fun d v hv=>(he _ (bg _ _ _ hv)).1,fun n b hn=> ?_,fun n n' b b' hn _ hn' e=>hi _ (bg _ _ _ hn) _ (bg _ _ _ hn') e,fun d v hv=>(he _ (bg _ _ _ hv)).2,fun t b ht=> ?_⟩,hm⟩
 ·have:=hb _ (bg _ _ _ hn)
  exact ⟨b,this.1,fun h=>h,(az this.2.2 _).symm⟩
 ·have:=hb _ (bg _ _ _ ht)
  exact ⟨this.2.1,ai this.2.2⟩
theorem HQ {r:Nat→Nat} {k:Nat} (hr: ∀ n,n < k→r n=n) {v:AV} (h:AV.ok (fun n=>n < k) v):AV.ren r v=v:=by
 have hs: ∀ x:SV,SV.names (fun n=>n < k) x→SV.ren r x=x:=fun x hx=>by
  exact SV.jc (SV.aY hr hx)
 have hc: ∀ x:CV,CV.ok (fun n=>n < k) x→CV.ren r x=x:=fun x hx=>by
  rcases x with x | l
  ·simp only[CV.ren];rw[hs x hx]
  ·simp only[CV.ren]
   congr 1
   conv=>rhs;rw[← List.map_id l]
   exact List.map_congr_left fun y hy=>hs y (hx y hy).1
 rcases v with x | l
 ·simp only[AV.ren];rw[hc x h]
 ·simp only[AV.ren]
  congr 1
  conv=>rhs;rw[← List.map_id l]
  exact List.map_congr_left fun y hy=>hc y (h y hy)
theorem jP {r:Nat→Nat} {k:IntKind} {n:Int}:AV.ren r (I k n)=I k n:=rfl
theorem pB {r:Nat→Nat}:(∀ b,AV.ren r (V (.bool b))=V (.bool b))∧(∀ k n,AV.ren r (V (.int k n))=V (.int k n))∧(∀ s,AV.ren r (V (.string s))=V (.string s))∧(∀ a,AV.ren r (V (.pointer a))=V (.pointer a))∧(∀ a n c,AV.ren r (V (.slice a n c))=V (.slice a n c))∧(∀ t v,AV.ren r (V (.iface t v))=V (.iface t v))∧AV.ren r (V .nilIface)=V .nilIface∧AV.ren r (V .nilFunc)=V .nilFunc∧ ∀ f as,AV.ren r (V (.func f as #[]))=V (.func f as #[]):=
 ⟨fun _=>rfl,fun _ _=>rfl,fun _=>rfl,fun _=>rfl,fun _ _ _=>rfl,fun _ _=>rfl,rfl,rfl,fun _ _=>rfl⟩
theorem HR {r:Nat→Nat} {t o:Nat}:AV.ren r (Ptr t o)=Ptr (r t) o:=rfl
theorem jQ {r:Nat→Nat} {t o n c:Nat}:AV.ren r (Sl t o n c)=Sl (r t) o n c:=rfl
theorem HS {r:Nat→Nat} {k:IntKind} {n:Nat} {f:Nat→Int}:AV.ren r (Ag (aA k n f))=Ag (aA k n f):=by
 show AV.ren r (.inl (.inr _))=_
 simp only[AV.ren,CV.ren,az aD]
def cN (n:Nat) (f g:Nat→Int) (i:Nat):Int:=if i < n then f i else g (i - n)
def bu (cs:List SV) (o n:Nat) (f:Nat→Int):Prop:= ∀ i,i < n→cs[o+i]? =some (Sum.inl (.int .u8 (f i)))
def iD (box:Nat→Option aG) (v:AV) (n:Nat) (f:Nat→Int):Prop:=
 ((∃ a,v=V (.slice a 0 0))∧n=0)∨ ∃ t o c rw cs,v=Sl t o n c∧box t=some ⟨rw,cs⟩∧cs.all SV.plain=true∧bu cs o n f
def Made (k n:Nat) (f:Nat→Int) (v:AV) (out:Nat→Option aG):Prop:=
 ∃ c tail,v=Sl k 0 n c∧out=lk [(k,⟨true,aA .u8 n f++tail⟩)]∧n≤c∧tail.length=c - n∧tail.all SV.plain=true
theorem dz {n:Nat} {f:Nat→Int} {tail:List SV} (h:tail.all SV.plain=true):(aA .u8 n f++tail).all SV.plain=true:=by
 rw[List.all_append,aD,h];rfl
theorem ik {n:Nat} {f:Nat→Int} {tail:List SV}:bu (aA .u8 n f++tail) 0 n f:=fun i hi=>by
 rw[Nat.zero_add,List.getElem?_append_left (by rw[aH];exact hi),bI .u8 n f i hi]
theorem mK {n:Nat} {f:Nat→Int}:bu (aA .u8 n f) 0 n f:=fun i hi=>by rw[Nat.zero_add,bI .u8 n f i hi]
theorem lZ {cs:List SV} {o n:Nat} {f:Nat→Int} (h:bu cs o n f): ∀ j u,(aA .u8 n f)[j]? =some u→cs[o+j]? =some u:=fun j u hj=>by
 by_cases hlt:j < n
 ·rw[bI .u8 n f j hlt]at hj;rw[h j hlt];exact hj
 ·rw[List.getElem?_eq_none (by rw[aH];omega)]at hj;cases hj
theorem zn {cs:List SV} {o n:Nat} {f:Nat→Int} (h:bu cs o n f) (a m:Nat) (hm:a+m≤n):bu cs (o+a) m (fun i=>f (a+i)):=fun i hi=>by
 rw[Nat.add_assoc];exact h (a+i) (by omega)
theorem mL {cs:List SV} {o n m:Nat} {f:Nat→Int} (h:bu cs o n f) (hm:m≤n):bu cs o m f:=fun i hi=>h i (by omega)
theorem tv {cs:List SV} {o n:Nat} {f g:Nat→Int} (h:bu cs o n f) (e: ∀ i,i < n→f i=g i):bu cs o n g:=fun i hi=>by rw[← e i hi];exact h i hi
theorem Dn {cs:List SV} {n:Nat} {f:Nat→Int} (h:bu cs 0 n f) (hl:n≤cs.length):cs=aA .u8 n f++cs.drop n:=by
 apply List.ext_getElem?
 intro i
 by_cases hi:i < n
 ·rw[List.getElem?_append_left (by rw[aH];exact hi),bI .u8 n f i hi]
  have:=h i hi
  rwa [Nat.zero_add]at this
 ·rw[List.getElem?_append_right (by rw[aH];omega),aH,List.getElem?_drop,show n+(i - n)=i by omega]
structure eI (cs:List SV) (o n c:Nat) (f:Nat→Int):Prop where
 len:cs.length=o+c
 room:n≤c
 plain:cs.all SV.plain=true
 shows:bu cs o n f
theorem eI.made {cs:List SV} {n c k:Nat} {f:Nat→Int} (h:eI cs 0 n c f):Made k n f (Sl k 0 n c) (lk [(k,⟨true,cs⟩)]):=by
 have hl:=h.len
 have hr:=h.room
 have e:=Dn h.shows (by omega)
 refine ⟨c,cs.drop n,rfl,by rw[← e],hr,by rw[List.length_drop];omega, ?_⟩
 have:=h.plain
 rw[e,List.all_append]at this
 exact (Bool.and_eq_true _ _▸this).2
theorem eI.row {n c:Nat} {f:Nat→Int} {tail:List SV} (hc:n≤c) (hl:tail.length=c - n) (hp:tail.all SV.plain=true):eI (aA .u8 n f++tail) 0 n c f:=
 ⟨by rw[List.length_append,aH];omega,hc,dz hp,ik⟩
theorem eI.join {n m c:Nat} {f g h:Nat→Int} {tail:List SV} (h1: ∀ i,i < n→f i=h i) (h2: ∀ i,i < m→g i=h (n+i)) (hc:n+m≤c) (hl:tail.length=(c - (n+m))*1) (hp:tail.all SV.plain=true):eI (aA .u8 n f++aA .u8 m g++tail) 0 (n+m) c h:=by
 rw[LX,c7 (g:=h) (fun i hi=> ?_)]
 ·exact eI.row hc (by omega) hp
 ·split
  ·exact h1 i ‹_›
  ·rw[h2 _ (by omega),show n+(i - n)=i by omega]
theorem rT {v:Int}:bu [Sum.inl (.int .u8 v)] 0 1 (fun _=>v):=fun i hi=>by
 have:i=0:=by omega
 subst this;rfl
theorem eI.congr {cs:List SV} {o n m c:Nat} {f g:Nat→Int} (h:eI cs o n c f) (e:n=m) (hfg: ∀ i,i < n→f i=g i):eI cs o m c g:=
 ⟨h.len,e▸h.room,h.plain,e▸tv h.shows hfg⟩
theorem FD {n k:Nat} {f g:Nat→Int}: ∀ i,i < n+k+1→cN (n+k) (cN n f g) (fun _=>g k) i=cN n f g i:=fun i hi=>by
 by_cases h:i < n+k
 ·simp only[cN,if_pos h]
 ·have:i=n+k:=by omega
  subst this
  simp only[cN];rw[if_neg (by omega),if_neg (by omega),show n+k - n=k by omega]
theorem pT {k:IntKind} {g:Nat→Int} {x:SV}:splice (aA k 1 g) 0 [x]=[x]:=rfl
theorem gl {r:Nat→Nat} {k nm:Nat}:dy r k nm k=nm:=by unfold dy;rw[if_pos rfl]
theorem dv {s:AS} {r:Nat→Nat} {k nm:Nat} {cs:List SV} (hp:cs.all SV.plain=true):after s r k nm none (lk [(k,⟨true,cs⟩)])=upd s.box nm (some ⟨true,cs⟩):=by
 simp[after,lk,aG.ren,az hp]
section
variable {P:Program} [Tables P]
theorem zo {s:AS} {fn k n nm:Nat} {f:Nat→Int} {args l:List AV} {ins:Nat→Option aG} (h:bC P fn args k ins (Made k n f)) (r:Nat→Nat) (hfit:Fits s r ins none) (hl:l=args.map (AV.ren r)) {dst:Option Nat} {K:AS→Prop}
  (hk: ∀ c tail,n≤c→tail.length=c - n→tail.all SV.plain=true→K ((⟨s.env,upd s.box nm (some ⟨true,aA .u8 n f++tail⟩),s.next⟩:AS).put dst (some (Sl nm 0 n c)))):aB P nm fn (some l) dst K s:=by
 refine h.aB r none hfit hl ?_
 rintro v out ⟨c,tail,rfl,rfl,h1,h2,h3⟩ _
 rw[dv (dz h3)]
 have e:AV.ren (dy r k nm) (Sl k 0 n c)=Sl nm 0 n c:=by show Sl (dy r k nm k) 0 n c=_;rw[gl]
 rw[e]
 exact hk c tail h1 h2 h3
theorem JJ {s:AS} {fn k n nm:Nat} {f:Nat→Int} {args l:List AV} {ins:Nat→Option aG} (h:bC P fn args k ins (Made k n f)) (r:Nat→Nat) (hfit:Fits s r ins none) (hl:l=args.map (AV.ren r))
  (hnamed: ∀ M:Nat→Prop,(∀ v ∈ l,AV.ok M v)→ ∀ n,n < k→M (r n)) {ops:Array Oper} {i:Nat} (G5:late ops i=true) {dst:Option Nat} {K:AS→Prop}
  (hk: ∀ c tail,n≤c→tail.length=c - n→tail.all SV.plain=true→K ((⟨s.env,upd s.box nm (some ⟨true,aA .u8 n f++tail⟩),s.next⟩:AS).put dst (some (Sl nm 0 n c)))):qW P ops i nm fn (some l) dst K s:=by
 refine .inr (.inr (.inl ⟨G5,fun e=> ∃ c tail,e=(some (Sl nm 0 n c),some (.inl (aA .u8 n f++tail)))∧n≤c∧tail.length=c - n∧tail.all SV.plain=true,h.reads r hfit hl hnamed ?_ ?_, ?_⟩))
 ·rintro v out ⟨c,tail,rfl,rfl,h1,h2,h3⟩
  refine ⟨c,tail, ?_,h1,h2,h3⟩
  have e:AV.ren (dy r k nm) (Sl k 0 n c)=Sl nm 0 n c:=by show Sl (dy r k nm k) 0 n c=_;rw[gl]
  simp[FA,lk,az (dz h3),e]
 ·rintro e ⟨c,tail,rfl,_⟩
  exact .inr ⟨_,rfl⟩
 ·rintro e ⟨c,tail,rfl,h1,h2,h3⟩
  exact hk c tail h1 h2 h3
end
theorem sM.draw {P:Program} [bM.Tables P] {f:Nat} {l:List AV} {r:AV} (h:sM P f l r) (hc:au P f=true) {ops:Array Oper} {i nm:Nat} {dst:Option Nat} {K:AS→Prop} {s:AS} (hk:K (s.put dst (some r))):qW P ops i nm f (some l) dst K s:=
 .inl ⟨l,r,rfl, .inl ⟨hc,h⟩,hk⟩
theorem Vd {b c d b':aG} {n:Nat} (h:lk [(0,b),(1,c),(2,d)] n=some b'):(n=0∧b'=b)∨(n=1∧b'=c)∨(n=2∧b'=d):=by
 have:=bg _ _ _ h
 simp only[cz,Prod.mk.injEq]at this
 exact this
theorem VU {b c d:aG}: ∀ n,n < 3→ ∃ e,lk [(0,b),(1,c),(2,d)] n=some e:=fun n hn=>by
 have:n=0∨n=1∨n=2:=by omega
 rcases this with rfl | rfl | rfl<;>exact ⟨_,rfl⟩
theorem VW {r0 r1 r2:Bool} {cs ds es:List SV} (hp:cs.all SV.plain=true) (hq:ds.all SV.plain=true) (hr:es.all SV.plain=true): ∀ n c,lk [(0,(⟨r0,cs⟩:aG)),(1,⟨r1,ds⟩),(2,⟨r2,es⟩)] n=some c→n < 3∧ ∀ x ∈ c.cells,SV.ok (fun n=>n < 3) x:=fun n c h=>by
 rcases Vd h with ⟨rfl,rfl⟩ | ⟨rfl,rfl⟩ | ⟨rfl,rfl⟩
 ·exact ⟨by omega,ai hp⟩
 ·exact ⟨by omega,ai hq⟩
 ·exact ⟨by omega,ai hr⟩
def three (a b c:Nat):Nat→Nat:=fun n=>if n=0 then a else if n=1 then b else c
theorem Tn {s:AS} {t u x:Nat} {r0 r1 r2:Bool} {cs ds es:List SV} (h:s.box t=some ⟨r0,cs⟩) (hp:cs.all SV.plain=true) (h':s.box u=some ⟨r1,ds⟩) (hp':ds.all SV.plain=true) (h2:s.box x=some ⟨r2,es⟩) (VX:es.all SV.plain=true):
  Fits s (three t u x) (lk [(0,⟨false,cs⟩),(1,⟨false,ds⟩),(2,⟨false,es⟩)]) none:=
 ⟨fun n b hb=>by
  rcases Vd hb with ⟨rfl,rfl⟩ | ⟨rfl,rfl⟩ | ⟨rfl,rfl⟩
  ·exact ⟨_,h,fun e=>(by cases e),(az hp _).symm⟩
  ·exact ⟨_,h',fun e=>(by cases e),(az hp' _).symm⟩
  ·exact ⟨_,h2,fun e=>(by cases e),(az VX _).symm⟩,
  fun n n' b b' hb hrw=>(by rcases Vd hb with ⟨rfl,rfl⟩ | ⟨rfl,rfl⟩ | ⟨rfl,rfl⟩<;>cases hrw),fun n b hb hrw=>(by rcases Vd hb with ⟨rfl,rfl⟩ | ⟨rfl,rfl⟩ | ⟨rfl,rfl⟩<;>cases hrw),fun n hn=>(by cases hn)⟩
def Dp (box:Nat→Option aG) (b:Nat) (v:AV) (n:Nat) (f:Nat→Int):Prop:=
 ((∃ a,v=V (.slice a 0 0))∧n=0)∨ ∃ t o c rw cs,v=Sl t o n c∧box t=some ⟨rw,cs⟩∧bu cs o n f∧t≠b
def vA (t:Nat) (v:AV) (n:Nat) (f:Nat→Int) (cs:List SV):Prop:=((∃ a,v=V (.slice a 0 0))∧n=0)∨ ∃ o c,v=Sl t o n c∧bu cs o n f
theorem vA.at {t n:Nat} {v:AV} {f:Nat→Int} {cs:List SV} {rw:Bool} {box:Nat→Option aG} (h:vA t v n f cs) (hb:box t=some ⟨rw,cs⟩) (hp:cs.all SV.plain=true):iD box v n f:=by
 rcases h with ⟨⟨a,rfl⟩,h0⟩ | ⟨o,c,rfl,hs⟩
 ·exact .inl ⟨⟨_,rfl⟩,h0⟩
 ·exact .inr ⟨t,o,c,rw,cs,rfl,hb,hp,hs⟩
theorem vA.ok {t n:Nat} {v:AV} {f:Nat→Int} {cs:List SV} {M:Nat→Prop} (h:vA t v n f cs) (hM:M t):AV.ok M v:=by
 rcases h with ⟨⟨a,rfl⟩,h0⟩ | ⟨o,c,rfl,hs⟩
 ·trivial
 ·exact hM
structure Handed (k:Nat) (l:List (Nat×aG)):Prop where
 um: ∀ x ∈ l,x.1 < k∧lk l x.1=some x.2∧x.2.cells.all SV.plain=true
 ro: ∀ x ∈ l,x.2.rw=false
 all: ∀ n,n < k→ ∃ b,lk l n=some b
 le:k≤20
theorem Handed.lt {k:Nat} {l:List (Nat×aG)} (h:Handed k l): ∀ x ∈ l,x.1 < k:=fun x hx=>(h.um x hx).1
theorem Handed.du {k:Nat} {l:List (Nat×aG)} (h:Handed k l): ∀ n b,lk l n=some b→n < k∧ ∀ x ∈ b.cells,SV.ok (fun n=>n < k) x:=fun n b hb=>⟨(h.um _ (bg _ _ _ hb)).1,ai (h.um _ (bg _ _ _ hb)).2.2⟩
structure Arg (k:Nat) (l:List (Nat×aG)) (v:AV) (n:Nat) (f:Nat→Int):Prop where
 at_:iD (lk l) v n f
 ok:AV.ok (fun n=>n < k) v
structure Packs (s:AS) (k:Nat) (l:List (Nat×aG)) (r:Nat→Nat) (L:List AV):Prop where
 good:Handed k l
 fits:Fits s r (lk l) none
 named: ∀ M:Nat→Prop,(∀ v ∈ L,AV.ok M v)→ ∀ n,n < k→M (r n)
theorem Arg.id {k n:Nat} {l:List (Nat×aG)} {v:AV} {f:Nat→Int} (h:Arg k l v n f):AV.ren (fun n=>n) v=v:=HQ (fun n _=>rfl) h.ok
section
variable {P:Program} [Tables P]
theorem l5 {t tx:Nat} (hk:qU P t=some ([Value.int .u8 0],1,1)) (hx:sF P tx=some (none,1)) {s:AS} {nm b o n c m:Nat} {f g:Nat→Int} {cs:List SV} {x:AV} (hb:s.box b=some ⟨true,cs⟩) (hg:eI cs o n c f)
  (hsrc:Dp s.box b x m g) (hby:n+m≤140737488355328) {ty:TypeId} {ct:Array Bool} {dst:Option Nat} {K:AS→Prop}
  (hK: ∀ c' cs',eI cs' 0 (n+m) c' (cN n f g)→K ((⟨s.env,upd (upd s.box b none) nm (some ⟨true,cs'⟩),s.next⟩:AS).put dst (some (Sl nm 0 (n+m) c')))):
  bU P nm .append #[t,tx] ty ct (some [Sl b o n c,x]) dst K s:=by
 have e1: ∀ i,i < n→f i=cN n f g i:=fun i hi=>by simp only[cN,if_pos hi]
 have e2: ∀ i,i < m→g i=cN n f g (n+i):=fun i hi=>by simp only[cN];rw[if_neg (by omega),show n+i - n=i by omega]
 refine JE (olds:=aA .u8 n f) (news:=aA .u8 m g) hk hx rfl (by decide) rfl hb (by rw[hg.len,Nat.mul_one]) hg.room (by rw[aH,Nat.mul_one]) (lZ hg.shows) hg.plain ?_ (by omega) (by omega)
  (fun c' tail h1 h2 h3=>hK c' _ (eI.join e1 e2 h1 h2 h3))
 rcases hsrc with ⟨⟨a,rfl⟩,rfl⟩ | ⟨t',o',c',rw',cs',rfl,h1,h2,h3⟩
 ·exact .inr ⟨⟨_,rfl⟩,rfl,rfl⟩
 ·exact .inl ⟨t',o',c',⟨rw',cs'⟩,rfl,h1,by rw[aH,Nat.mul_one],lZ h2,fun e=>h3 (by cases e;rfl)⟩
theorem JK {t tx:Nat} (hk:qU P t=some ([Value.int .u8 0],1,1)) (hx:sF P tx=some (none,1)) {s:AS} {nm m:Nat} {g:Nat→Int} {x:AV}
  (hsrc:iD s.box x m g) (hby:m≤140737488355328) {ty:TypeId} {ct:Array Bool} {dst:Option Nat} {K:AS→Prop}
  (h0:m=0→K (s.put dst (some (V (.slice none 0 0)))))
  (hK:0 < m→ ∀ c' cs',eI cs' 0 m c' g→K ((⟨s.env,upd s.box nm (some ⟨true,cs'⟩),s.next⟩:AS).put dst (some (Sl nm 0 m c')))):
  bU P nm .append #[t,tx] ty ct (some [V (.slice none 0 0),x]) dst K s:=by
 refine pA (news:=aA .u8 m g) hk hx rfl (by decide) rfl ?_ (by omega) (by omega) h0 (fun h c' tail h1 h2 h3=>hK h c' _ (eI.row h1 (by omega) h3))
 rcases hsrc with ⟨⟨a,rfl⟩,rfl⟩ | ⟨t',o',c',rw',cs',rfl,h1,_,h2⟩
 ·exact .inr ⟨⟨_,rfl⟩,rfl,rfl⟩
 ·exact .inl ⟨t',o',c',⟨rw',cs'⟩,rfl,h1,by rw[aH,Nat.mul_one],lZ h2,fun e=>by cases e⟩
end
theorem LY {P:Program} [Tables P] {s:AS} {fn n nm t:Nat} {f:Nat→Int} {args l:List AV} {cs:List SV} (h:bC P fn args 1 (lk [(0,⟨true,cs⟩)]) (Made 1 n f)) (hb:s.box t=some ⟨true,cs⟩) (hp:cs.all SV.plain=true) (hl:l=args.map (AV.ren fun _=>t)) {dst:Option Nat} {K:AS→Prop}
  (hk: ∀ c cs',eI cs' 0 n c f→K ((⟨s.env,upd (upd s.box nm (some ⟨true,cs'⟩)) t none,s.next⟩:AS).put dst (some (Sl nm 0 n c)))):aB P nm fn (some l) dst K s:=by
 refine h.aB (fun _=>t) (some 0) (LN hb hp) hl ?_
 rintro v out ⟨c,tail,rfl,rfl,h1,h2,h3⟩ _
 have e:AV.ren (dy (fun _=>t) 1 nm) (Sl 1 0 n c)=Sl nm 0 n c:=by show Sl (dy (fun _=>t) 1 nm 1) 0 n c=_;rw[gl]
 rw[e]
 have:=hk c _ (eI.row h1 h2 h3)
 have e2:after s (fun _=>t) 1 nm (some 0) (lk [(1,(⟨true,aA .u8 n f++tail⟩:aG))])=upd (upd s.box nm (some ⟨true,aA .u8 n f++tail⟩)) t none:=by
  simp[after,lk,aG.ren,az (dz h3)]
 rw[e2]
 exact this
theorem zp {s:AS} {k q n m c:Nat} {f:Nat→Int} {cs:List SV} (hq:k≤q) (h:eI cs 0 n c f) (hb:s.box q=some ⟨true,cs⟩) (e:n=m):nA k (Made k m f) (Sl q 0 n c) s:=by
 subst e
 exact gX hq hb h.plain h.made
def Bytes (k n:Nat) (f:Nat→Int) (v:AV) (out:Nat→Option aG):Prop:=(n=0∧v=V (.slice none 0 0)∧out=fun _=>none)∨Made k n f v out
def Qo (k n:Nat) (f:Nat→Int) (v:AV) (out:Nat→Option aG):Prop:=v=Sl k 0 n n∧out=lk [(k,⟨true,aA .u8 n f⟩)]
theorem Qo.made {k n:Nat} {f:Nat→Int} {v:AV} {out:Nat→Option aG} (h:Qo k n f v out):Made k n f v out:=
 ⟨n,[],h.1,by rw[List.append_nil];exact h.2,Nat.le_refl _,by simp,rfl⟩
theorem LZ (m:Nat):fU [Value.int .u8 0] m=aA .u8 m (fun _=>0):=by
 have h:(Builtin.zeroCells [Value.int IntKind.u8 0].toArray m).toList=(List.range m).map fun _=>Value.int .u8 0:=by
  simp[Builtin.zeroCells,Nat.mod_one]
 simp only[fU,h,aA,List.map_map,Function.comp_def]
section
variable {P:Program} [Tables P]
theorem HT {n c z:Nat} {hi:Option Int}:fB (some (none,z)) (some (V (.slice none n c))) (some none) (some hi)=Sx c 0 (hi.getD n):=rfl
theorem HU {c:Nat} {l h:Int}:Sx c l h=if 0≤l∧l≤h∧h≤c then some (some (V (.slice none (h.toNat - l.toNat) (c - l.toNat))),none) else none:=rfl
theorem HV {nm:Nat} {dst:Option Nat} {K:AS→Prop} {s:AS} {ty:TypeId} {pos:String} {after:Array Edge} {xs:List Operand} {tys:Array TypeId}:bK P nm ⟨dst, .call ⟨.builtin .cap,xs.toArray,tys⟩,ty,pos,after,none⟩ K s=
  bU P nm .cap tys ty (xs.toArray.map isConst) (bb s xs) dst K s:=rfl
theorem vB {t sz:Nat} (hx:sF P t=some (none,sz)) {a:Option Addr} {n c:Nat} {s:AS} {nm:Nat} {ty:TypeId} {ct:Array Bool} {dst:Option Nat} {K:AS→Prop} (hk:K (s.put dst (some (I .i64 c)))):
  bU P nm .cap #[t] ty ct (some [V (.slice a n c)]) dst K s:=by
 intro W N w0 g a' w h
 obtain ⟨e,i,_,_,⟨_,hu⟩ | ⟨m,hm,_⟩⟩:=lU hx
 ·exact ⟨I .i64 c,g,s,w,by simp[builtin,Builtin.cap_,run_underlying hu,AV.ah,CV.ah,SV.ah,cu,goInt],trivial,h.mono (fun n hn=>by omega),hk⟩
 ·cases hm
theorem AH {t tx:Nat} {kn:IntKind} (hk:qU P t=some ([Value.int .u8 0],1,1)) (hx:kindOf P tx=some kn)
  {m:Nat} {kq:IntKind} (hm0:0 < m) (hm1:m≤140737488355328) {s:AS} {nm:Nat} {ty:TypeId} {ct:Array Bool} {dst:Option Nat} {K:AS→Prop}
  (hK: ∀ c' cs',eI cs' 0 m c' (fun _=>0)→K ((⟨s.env,upd s.box nm (some ⟨true,cs'⟩),s.next⟩:AS).put dst (some (Sl nm 0 m c')))):
  bU P nm .append #[t,tx] ty ct (some [V (.slice none 0 0),I kq m]) dst K s:=by
 intro W N w0 g a w h
 obtain ⟨e,i,v,hu,hi,hv,SC,hsz,FB,ky⟩:=lV hk
 have Yw:P.underlying tx=some (.int kn):=by
  unfold kindOf at hx
  split at hx
  ·rename_i k hk';simp only[Option.some.injEq]at hx;rw[hk',hx]
  ·cases hx
 have Jv:v.cells=[Value.int .u8 0].toArray:=by rw[← SC]
 have hr:=Lib.run_append_grow_zeros (P:=P) w t tx ty e i v kq kn hu Yw hi hv none 0 0 [] (run_firstCells_none w.drew i.size 0 0 0) m hm0 (by omega) (by omega) (by omega) (by rw[FB];omega) (growslice_fits (by omega) (by rw[FB];omega))
 rw[Nat.zero_add]at hr
 have hge:=grownCap_ge w m 0 e
 generalize grownCap w m 0 e=c' at hr hge
 have hz1:([Value.int .u8 0]:List Value).all Value.oneCell'=true:=rfl
 have hp:(fU [Value.int .u8 0] m++fU [Value.int .u8 0] (c' - m)).all SV.plain=true:=by
  rw[List.all_append,fj (by decide) hz1 rfl,fj (by decide) hz1 rfl];rfl
 have hnb:=h.drew.uH (nm:=nm) (Nat.lt_irrefl nm) (ai hp) e
 refine ⟨Sl nm 0 m c',_,_,_, ?_,Nat.lt_succ_self nm,hnb.mono (fun n hn=>by rcases hn with h | h<;>omega), ?_⟩
 ·simp only[builtin,List.map_cons,List.map_nil,Sem.run_bind]
  show (((Builtin.append_ #[t,tx] ty #[.slice none 0 0, .int kq m]).run P w).andThen fun a w'=>(pure (Next.value a):Sem Next).run P w')=_
  rw[hr]
  simp only[Result.andThen_ok,Sem.run_pure,AV.ah,CV.ah,SV.ah,cu,aT,Nat.zero_add]
  congr 1
  show World.alloc _ _=World.alloc _ _
  congr 2
  apply Array.ext'
  simp[Jv,n6 _ (z:=[Value.int .u8 0]) (by decide) hz1 rfl]
 ·have e2:fU [Value.int .u8 0] m++fU [Value.int .u8 0] (c' - m)=aA .u8 m (fun _=>0)++fU [Value.int .u8 0] (c' - m):=by rw[LZ m]
  have:=hK c' _ (eI.row (f:=fun _=>0) hge (by rw[pR];simp) (fj (z:=[Value.int .u8 0]) (n:=c' - m) (by decide) hz1 rfl))
  rw[← e2]at this
  exact this
end
end Go.bM
