/-
  The document lays a write onto a disk.
-/
import Derived.Test.YtaeagfdnfjenlaaGreatDoorVcgWM
import Derived.Test.YtaeagfdnfjenlaaGreatDoorVcgL4
import Derived.Test.YtaeagfdnfjenlaaGreatDoorVcgBp
import Derived.Test.YtaeagfdnfjenlaaGreatDoorVcgWV
import Derived.Test.YtaeagfdnfjenlaaGreatDoorVcgWX
set_option maxHeartbeats 2000000
set_option maxRecDepth 20000
set_option linter.unusedSimpArgs false
set_option linter.unusedVariables false
set_option linter.unusedSectionVars false
namespace Go.Proofs.YtaeagfdnfjenlaaGreatDoor
open Go.cn
variable [aX]
theorem JC {n j:Nat} {f:Nat→Int} {tl:List SV} {x:Int} (hj:j < n):splice (ai .u8 n f++tl) j [Sum.inl (.int .u8 x)]=ai .u8 n (upd f j x)++tl:=by
 have h:=dq .u8 n f j hj x
 unfold splice at h ⊢
 rw[← h,List.take_append_of_le_length (by rw[aD];omega),List.drop_append_of_le_length (by rw[aD];simp;omega),List.append_assoc,List.append_assoc,List.append_assoc]
theorem Qf {f d:Nat→Int} {a k:Nat}:upd (fT f a k d) (64*a+k) (d k)=fT f a (k+1) d:=by
 funext i
 unfold upd fT
 by_cases h:i=64*a+k
 ·subst h
  rw[if_pos rfl,if_pos (by omega),show 64*a+k - 64*a=k by omega]
 ·rw[if_neg h]
  by_cases h2:64*a≤i∧i < 64*a+k
  ·rw[if_pos h2,if_pos (by omega)]
  ·rw[if_neg h2,if_neg (by omega)]
theorem Z7 {f d:Nat→Int} {a:Nat}:fT f a 0 d=f:=by
 funext i
 unfold fT
 rw[if_neg (by omega)]
def kY (fl:Bool) (a:Int) (dv:SV):List SV:=[Sum.inl (.bool fl),Sum.inl (.int .i64 a),dv]
section
variable {n c a od cd:Nat} {f d:Nat→Int} {tl ds:List SV} {cut:Int}
theorem Z8 (hc:n≤c) (ht:tl.all SV.plain=true) (hs:aY ds od 64 d) (hp:ds.all SV.plain=true) (ha:64*a+64≤n) (hn:n≤1048576):
  bd Tryz.prog 71 [Sl 0 0 n c,Ag (kY false a (.inr (.inr (1,od,64,cd)))),I .i64 cut] 2 (lk [(0,⟨true,ai .u8 n f++tl⟩),(1,⟨false,ds⟩)]) (fun v out=>v=Sum.inr []∧out=lk [(0,⟨true,ai .u8 n (fT f a (eE cut) d)++tl⟩)]):=by
 refine aG Tryz.func71 rfl (by kernel_rfl) (by simp[Tryz.ntmps71]) Tryz.o6 (fun v hv=>by
  simp only[bQ]at hv
  rcases hv with rfl | rfl | rfl
  ·exact (by decide:0 < 2)
  ·intro x hx
   simp only[kY,bQ]at hx
   rcases hx with rfl | rfl | rfl
   ·exact ⟨trivial,rfl⟩
   ·exact ⟨trivial,rfl⟩
   ·exact ⟨(by decide:1 < 2),rfl⟩
  ·trivial) pX (pY (bY ht) hp) ?_
 have hK:eE cut≤64:=by unfold eE;omega
 simp only[Tryz.results71,kY,vR,seval]
 refine bD (eE cut) (fun k=>[(0,Sl 0 0 n c),(2,I .i64 cut),(4,Ptr 2 0),(6,I .i64 k)])
  (fun k=>[(0,⟨true,ai .u8 n (fT f a k d)++tl⟩),(1,⟨false,ds⟩),(2,⟨true,kY false a (.inr (.inr (1,od,64,cd)))⟩)]) _ ?_ ?_ ?_
 ·simp only[kY,Z7,vR,seval]
  exact ⟨ao (bY ht),ao hp,⟨(by decide:1 < 4),rfl⟩⟩
 ·intro k hk
  have d1:decide ((k:Int) < cut)=true:=decide_eq_true (by unfold eE at hk;omega)
  have d2:decide ((k:Int) < 64)=true:=decide_eq_true (by omega)
  have w1:IntKind.i64.wrap (64*(a:Int))=((64*a:Nat):Int):=by
   rw[wrap_i64 _ (by omega) (by omega)]
   omega
  have w2:IntKind.i64.wrap (((64*a:Nat):Int)+(k:Int))=((64*a+k:Nat):Int):=by
   rw[wrap_i64 _ (by omega) (by omega)]
   omega
  have l1:((k:Int) < 64)=True:=eq_true (by omega)
  have l2:(((64*a+k:Nat):Int) < (n:Int))=True:=eq_true (by omega)
  simp only[kY,d1,d2,vR,seval]
  simp only[kY,w1,w2,l1,l2,hs k (by omega),aF,Nat.mul_one,Nat.zero_add,JC (show 64*a+k < n by omega),Qf,bU k (by omega),vR,seval]
  refine ⟨by kernel_rfl, ?_⟩
  exact ⟨by rw[List.length_append,aD];omega,ao (bY ht),ao hp,⟨(by decide:1 < 4),rfl⟩⟩
 ·have hend: ∀ {s:AS},s.box 0=some ⟨true,ai .u8 n (fT f a (eE cut) d)++tl⟩→m8 2 (fun v out=>v=Sum.inr []∧out=lk [(0,⟨true,ai .u8 n (fT f a (eE cut) d)++tl⟩)]) (Sum.inr []) s:=fun h=>by
   refine dV (q:=2) (v0:=Sum.inr []) (Nat.le_refl 2) rfl (fun x hx=>(by cases hx)) (fun x hx=> ?_) ⟨rfl,rfl⟩
   rw[List.mem_singleton]at hx
   subst hx
   exact ⟨(by decide:0 < 3),fun h=>(by cases h),ao (bY ht),by rw[au (bY ht)];exact h⟩
  by_cases d1:((eE cut:Nat):Int) < cut
  ·have d2:decide (((eE cut:Nat):Int) < 64)=false:=decide_eq_false (by unfold eE at d1 ⊢;omega)
   simp only[kY,decide_eq_true d1,d2,vR,seval]
   refine hend ?_
   simp only[vR,seval]
  ·simp only[kY,decide_eq_false d1,vR,seval]
   refine hend ?_
   simp only[vR,seval]
theorem V' (ht:tl.all SV.plain=true):
  bd Tryz.prog 71 [Sl 0 0 n c,Ag (kY true 0 (.inl (.slice none 0 0))),I .i64 cut] 1 (lk [(0,⟨false,ai .u8 n f++tl⟩)]) (fun v out=>v=Sum.inr []∧out=fun _=>none):=by
 refine aG Tryz.func71 rfl (by kernel_rfl) (by simp[Tryz.ntmps71]) Tryz.o6 (fun v hv=>by
  simp only[bQ]at hv
  rcases hv with rfl | rfl | rfl
  ·exact (by decide:0 < 1)
  ·exact ao rfl
  ·trivial) fF (fG (bY ht)) ?_
 simp only[Tryz.results71,kY,vR,seval]
 refine bD 0 (fun k=>[(0,Sl 0 0 n c),(2,I .i64 cut),(4,Ptr 1 0),(6,I .i64 k)])
  (fun k=>[(0,⟨false,ai .u8 n f++tl⟩),(1,⟨true,kY true 0 (.inl (.slice none 0 0))⟩)]) _ ?_ ?_ ?_
 ·simp only[kY,vR,seval]
  exact ⟨ao (bY ht),trivial,rfl⟩
 ·intro k hk
  omega
 ·have d2:decide ((0:Int) < 0)=false:=rfl
  by_cases d1:(0:Int) < cut
  ·simp only[kY,decide_eq_true d1,d2,decide_false,Int.natCast_zero,vR,seval]
   skip
   exact aJ rfl ⟨rfl,rfl⟩
  ·simp only[kY,decide_eq_false d1,Int.natCast_zero,vR,seval]
   exact aJ rfl ⟨rfl,rfl⟩
end
abbrev Ac:=Option Pd
def m9 (A:List Ac):List Pd:=A.filterMap id
theorem nH {A B:List Ac}:m9 (A++B)=m9 A++m9 B:=List.filterMap_append
theorem rE {α:Type} {A:List α} {j:Nat} {x:α} (h:A[j]? =some x):A.take (j+1)=A.take j++[x]:=by
 have hj:=(List.getElem?_eq_some_iff.1 h).1
 rw[List.take_add_one,h]
 rfl
theorem yJ {A:List Ac} {j:Nat} {p:Pd} (h:A[j]? =some (some p)):m9 (A.take (j+1))=m9 (A.take j)++[p]:=by
 rw[rE h,nH]
 rfl
theorem FP {A:List Ac} {j:Nat} (h:A[j]? =some none):m9 (A.take (j+1))=m9 (A.take j):=by
 rw[rE h,nH]
 exact List.append_nil _
theorem oo {f:Nat→Int} {L:List Pd} {p:Pd}:dT f (L++[p])=wv (dT f L) p:=by
 unfold dT
 rw[List.foldl_append]
 rfl
def Tg (A:List Ac) (s i:Nat):Prop:= ∀ j,s≤j→j < i→ ∃ p,A[j]? =some (some p)
theorem Ti {A:List Ac} {s:Nat}: ∀ (k:Nat),Tg A s (s+k)→(m9 ((A.take (s+k)).drop s)).length=k
 | 0,_=>by
  have:(A.take (s+0)).drop s=[]:=by
   rw[List.drop_eq_nil_iff,List.length_take]
   omega
  rw[this]
  rfl
 | k+1,h=>by
  obtain ⟨p,hp⟩:=h (s+k) (by omega) (by omega)
  have hlt:=(List.getElem?_eq_some_iff.1 hp).1
  rw[show s+(k+1)=s+k+1 by omega,rE hp,List.drop_append_of_le_length (by rw[List.length_take];omega),nH,List.length_append,Ti k (fun j h1 h2=>h j h1 (by omega))]
  rfl
def iM (kn:Nat) (kb:Nat→Bool) (f:Nat→Int) (A:List Ac) (s j:Nat):Nat→Int:=
 if j≤s then dT f (m9 (A.take j)) else dT (dT f (m9 (A.take s))) (dO kn kb 0 (m9 ((A.take j).drop s)))
section
variable {kn:Nat} {kb:Nat→Bool} {f:Nat→Int} {A:List Ac} {s j:Nat} {p:Pd}
theorem acf:iM kn kb f A s 0=f:=by
 unfold iM
 rw[if_pos (Nat.zero_le _)]
 rfl
theorem Tj (hj:j < s) (h:A[j]? =some (some p)):iM kn kb f A s (j+1)=wv (iM kn kb f A s j) p:=by
 unfold iM
 rw[if_pos (by omega),if_pos (by omega),yJ h,oo]
theorem Qg (hj:j < s) (h:A[j]? =some none):iM kn kb f A s (j+1)=iM kn kb f A s j:=by
 unfold iM
 rw[if_pos (by omega),if_pos (by omega),FP h]
theorem Tk (hj:s≤j) (hw:Tg A s j) (h:A[j]? =some (some p)):iM kn kb f A s (j+1)=if j - s < kn∧kb (j - s)=true then wv (iM kn kb f A s j) p else iM kn kb f A s j:=by
 obtain ⟨k,rfl⟩: ∃ k,j=s+k:=⟨j - s,by omega⟩
 have hlt:=(List.getElem?_eq_some_iff.1 h).1
 have hl:=Ti k hw
 have e1:iM kn kb f A s (s+k)=dT (dT f (m9 (A.take s))) (dO kn kb 0 (m9 ((A.take (s+k)).drop s))):=by
  unfold iM
  by_cases hk:k=0
  ·subst hk
   have:(A.take (s+0)).drop s=[]:=by
    rw[List.drop_eq_nil_iff,List.length_take]
    omega
   rw[if_pos (by omega),this]
   rfl
  ·rw[if_neg (by omega)]
 rw[e1]
 unfold iM
 rw[if_neg (by omega),rE h,List.drop_append_of_le_length (by rw[List.length_take];omega),nH,show m9 [some p]=[p] from rfl,ug,hl,Nat.zero_add,show s+k - s=k by omega]
 split
 ·rw[oo]
 ·rw[List.append_nil]
end
def Tl (kn:Nat) (kb:Nat→Bool) (cut:Int) (f:Nat→Int) (A:List Ac) (at_:Int) (code:Int) (g:Nat→Int):Prop:=
 (∃ (i s:Nat) (p:Pd),A[i]? =some (some p)∧((m9 (A.take i)).length:Int)+1=at_∧s≤i∧Tg A s i∧(s=0∨A[s - 1]? =some none)∧code=12∧g=fT (iM kn kb f A s i) p.1 (eE cut) p.2)∨
 (¬ (1≤at_∧at_≤(m9 A).length)∧code=0∧g=dT f (m9 A))
def dn:List (List Pd)→List Ac
 | []=>[]
 | G::Gs=>G.map some++none::dn Gs
theorem vn {G:List Pd}:m9 (G.map some)=G:=by
 unfold m9
 rw[List.filterMap_map]
 simp
theorem BK: ∀ {Gs:List (List Pd)},(m9 (dn Gs)).length=eN Gs
 | []=>rfl
 | G::Gs=>by
  have h:=BK (Gs:=Gs)
  show (m9 (G.map some++none::dn Gs)).length=_
  rw[nH,vn,List.length_append,eN, ← h]
  rfl
theorem vo {f:Nat→Int} {L M:List Pd}:dT f (L++M)=dT (dT f L) M:=List.foldl_append
theorem Tm {f:Nat→Int}: ∀ {Gs:List (List Pd)},dT f (m9 (dn Gs))=pk f Gs:=by
 intro Gs
 induction Gs generalizing f with
 | nil=>rfl
 | cons G Gs ih=>
  show dT f (m9 (G.map some++none::dn Gs))=pk (dT f G) Gs
  rw[nH,vn,vo]
  exact ih
theorem Qh {kn:Nat} {kb:Nat→Bool} {cut:Nat}: ∀ {Gs:List (List Pd)} {f:Nat→Int} {i s:Nat} {p:Pd},(dn Gs)[i]? =some (some p)→s≤i→Tg (dn Gs) s i→(s=0∨(dn Gs)[s - 1]? =some none)→
  fT (iM kn kb f (dn Gs) s i) p.1 cut p.2=lH kn kb cut f Gs (m9 ((dn Gs).take i)).length:=by
 intro Gs
 induction Gs with
 | nil=>
  intro f i s p h
  cases h
 | cons G Gs ih=>
  intro f i s p h hs hw hf
  have eA:dn (G::Gs)=G.map some++none::dn Gs:=rfl
  have hlen:(G.map some).length=G.length:=List.length_map ..
  rw[eA]at h hw hf ⊢
  by_cases hi:i < G.length
  ·have hs0:s=0:=by
    rcases hf with h0 | h0
    ·exact h0
    ·refine Classical.byContradiction fun hn=> ?_
     rw[List.getElem?_append_left (by rw[hlen];omega),List.getElem?_map]at h0
     cases hg:G[s - 1]? with
     | none=>rw[hg]at h0;cases h0
     | some x=>rw[hg]at h0;cases h0
   subst hs0
   have hp:G[i]? =some p:=by
    rw[List.getElem?_append_left (by rw[hlen];omega),List.getElem?_map]at h
    cases hg:G[i]? with
    | none=>rw[hg]at h;cases h
    | some x=>rw[hg]at h;cases h;rfl
   have ht:(G.map some++none::dn Gs).take i=(G.take i).map some:=by
    rw[List.take_append_of_le_length (by rw[hlen];omega),List.map_take]
   have hpre:iM kn kb f (G.map some++none::dn Gs) 0 i=dT f (dO kn kb 0 (G.take i)):=by
    unfold iM
    by_cases h0:i=0
    ·subst h0
     rw[if_pos (Nat.le_refl 0)]
     rfl
    ·rw[if_neg (by omega),List.drop_zero,ht,vn]
     rfl
   rw[hpre,ht,vn]
   have hl:(G.take i).length=i:=by rw[List.length_take];omega
   unfold lH
   rw[hl,if_pos hi]
   have:G.getD i (0,zF)=p:=by
    rw[List.getD_eq_getElem?_getD,hp]
    rfl
   rw[this]
  ·have hi2:G.length < i:=by
    rcases Nat.lt_or_ge G.length i with h1 | h1
    ·exact h1
    ·have:i=G.length:=by omega
     subst this
     rw[List.getElem?_append_right (by rw[hlen];omega),hlen,Nat.sub_self]at h
     cases h
   have hsG:G.length < s:=by
    refine Classical.byContradiction fun hn=> ?_
    obtain ⟨q,hq⟩:=hw G.length (by omega) hi2
    rw[List.getElem?_append_right (by rw[hlen];omega),hlen,Nat.sub_self]at hq
    cases hq
   obtain ⟨i',rfl⟩: ∃ i',i=G.length+1+i':=⟨i - (G.length+1),by omega⟩
   obtain ⟨s',rfl⟩: ∃ s',s=G.length+1+s':=⟨s - (G.length+1),by omega⟩
   have sh: ∀ j:Nat,(G.map some++none::dn Gs)[G.length+1+j]? =(dn Gs)[j]? :=fun j=>by
    rw[List.getElem?_append_right (by rw[hlen];omega),hlen,show G.length+1+j - G.length=j+1 by omega]
    rfl
   have tk: ∀ j:Nat,(G.map some++none::dn Gs).take (G.length+1+j)=G.map some++none::(dn Gs).take j:=fun j=>by
    rw[List.take_append,hlen,List.take_of_length_le (by rw[hlen];omega),show G.length+1+j - G.length=j+1 by omega]
    rfl
   have wt: ∀ j:Nat,m9 ((G.map some++none::dn Gs).take (G.length+1+j))=G++m9 ((dn Gs).take j):=fun j=>by
    rw[tk,nH,vn]
    rfl
   rw[sh]at h
   have hpre:iM kn kb f (G.map some++none::dn Gs) (G.length+1+s') (G.length+1+i')=iM kn kb (dT f G) (dn Gs) s' i':=by
    unfold iM
    by_cases h0:i'≤s'
    ·rw[if_pos (by omega),if_pos h0,wt,vo]
    ·rw[if_neg (by omega),if_neg h0,wt,vo,tk]
     congr 3
     rw[List.drop_append,hlen,List.drop_of_length_le (by rw[hlen];omega),show G.length+1+s' - G.length=s'+1 by omega]
     rfl
   rw[hpre,wt]
   have hstep:lH kn kb cut f (G::Gs) (G++m9 ((dn Gs).take i')).length=lH kn kb cut (dT f G) Gs (m9 ((dn Gs).take i')).length:=by
    rw[lH,List.length_append,if_neg (by omega),show G.length+(m9 ((dn Gs).take i')).length - G.length=(m9 ((dn Gs).take i')).length by omega]
   rw[hstep]
   refine ih h (by omega) (fun j h1 h2=> ?_) ?_
   ·have:=hw (G.length+1+j) (by omega) (by omega)
    rw[sh]at this
    exact this
   ·rcases hf with h0 | h0
    ·omega
    ·by_cases hz:s'=0
     ·exact .inl hz
     ·right
      rw[show G.length+1+s' - 1=G.length+1+(s' - 1) by omega,sh]at h0
      exact h0
def jw (cs:List SV) (L:List (List SV)) (c:Nat):Prop:= ∃ tail,cs=L.flatten++tail∧L.length≤c∧tail.length=(c - L.length)*3∧tail.all SV.plain=true∧ ∀ x ∈ L,x.length=3
theorem Xp {L:List (List SV)} (h: ∀ x ∈ L,x.length=3):L.flatten.length=L.length*3:=by
 induction L with
 | nil=>rfl
 | cons x L ih=>
  rw[List.flatten_cons,List.length_append,h x (List.mem_cons_self ..),ih fun y hy=>h y (List.mem_cons_of_mem _ hy),List.length_cons]
  omega
section
variable {s:AS} {nm u c0:Nat} {va:AV} {L:List (List SV)} {x:List SV} {eD:Bool}
def acg (s:AS) (u:Nat) (va:AV) (L:List (List SV)):Prop:=(L=[]∧va=V (.slice none 0 0))∨ ∃ b c cs,va=Sl b 0 L.length c∧s.box b=some ⟨true,cs⟩∧jw cs L c∧b≠u
theorem gX (h:acg s u va L) (hb:s.box u=some ⟨eD,x⟩) (hx:x.length=3) (hn:L.length < 1000000) {ty:TypeId} {ct:Array Bool} {dst:Option Nat} {K:AS→Prop}
  (hK: ∀ bx c' cs',jw cs' (L++[x]) c'→(∀ t,t≠nm→(∀ c,va≠Sl t 0 L.length c)→bx t=s.box t)→bx nm=some ⟨true,cs'⟩→K (({ s with box:=bx }:AS).put dst (some (Sl nm 0 (L.length+1) c')))):
  cp Tryz.prog nm .append #[71,71] ty ct (some [va,Sl u 0 1 c0]) dst K s:=by
 rcases h with ⟨rfl,rfl⟩ | ⟨b,c,cs,rfl,hbb,⟨tail,rfl,h1,h2,h3,h4⟩,hne⟩
 ·refine (j0 (m:=1) (news:=x) Tryz.Nv Tryz.WU rfl (by decide) rfl (.inl ⟨u,0,c0,⟨eD,x⟩,rfl,hb,by rw[hx],fun j v hj=>by rw[Nat.zero_add];exact hj,by simp⟩) (by decide) (by decide) (fun h=>by cases h) fun _ c' tail g1 g2 g3=> ?_).plain
  refine hK _ c' (x++tail) ⟨tail,by simp,by simpa using g1,by simpa using g2,g3,fun y hy=>by simp at hy;rw[hy,hx]⟩ (fun t ht _=>bh _ _ _ _ ht) (aQ _ _ _)
 ·have hfl:=Xp h4
  refine (mN (b:=b) (o:=0) (n:=L.length) (c:=c) (m:=1) (cs:=L.flatten++tail) (olds:=L.flatten) (news:=x) Tryz.Nv Tryz.WU rfl (by decide) rfl hbb (by rw[List.length_append,hfl,h2];omega) h1 hfl (fun j v hj=> ?_) (by
   rw[Nat.zero_add, ← hfl,List.drop_left]
   exact h3) (.inl ⟨u,0,c0,⟨eD,x⟩,rfl,hb,by rw[hx],fun j v hj=>by rw[Nat.zero_add];exact hj,by simpa using hne⟩) (by omega) (by omega) fun c' tail' g1 g2 g3=> ?_).plain
  ·have hj2:=(List.getElem?_eq_some_iff.1 hj).1
   rw[Nat.zero_add,List.getElem?_append_left hj2]
   exact hj
  ·refine hK _ c' (L.flatten++x++tail') ⟨tail',by rw[List.flatten_append];simp,by simpa using g1,by simpa using g2,g3,fun y hy=> ?_⟩ (fun t ht Kx=> ?_) (aQ _ _ _)
   ·rw[List.mem_append,List.mem_singleton]at hy
    rcases hy with hy | rfl
    ·exact h4 y hy
    ·exact hx
   ·have:t≠b:=fun e=>Kx c (by rw[e])
    rw[bh _ _ _ _ ht,bh _ _ _ _ this]
end
def lI:aI:=⟨true,ai .u8 64 zF⟩
def mb (B:List (Nat×aI)) (D:Nat) (xb:List (Nat×aI)) (n:Nat):Option aI:=if 1000≤n∧n < 1000+D then some lI else lk (B++xb) n
def r3 (D q q2 n:Nat):Nat:=if n=500 then q else if n=1000+D then q2 else n
theorem qO {D q q2 n:Nat} (h:n < 500):r3 D q q2 n=n:=by
 unfold r3
 rw[if_neg (by omega),if_neg (by omega)]
theorem Wa {D q q2 j:Nat} (h:j < D):r3 D q q2 (1000+j)=1000+j:=by
 unfold r3
 rw[if_neg (by omega),if_neg (by omega)]
theorem Wb {D q q2:Nat}:r3 D q q2 (1000+D)=q2:=by
 unfold r3
 rw[if_neg (by omega),if_pos rfl]
theorem FQ {s:AS} {M D D' q q2 nx:Nat} {E:List (Nat×AV)} {B xb:List (Nat×aI)} (hM:M≤500) (rJ:1000+D'≤nx) (hD:D'=D∨D'=D+1)
  (hE: ∀ x ∈ E,s.env x.1=some (AV.ren (r3 D q q2) x.2)∧AV.ok (fun n=>n < nx) x.2)
  (hB: ∀ x ∈ B,x.1 < 500∧s.box x.1=some x.2∧(∀ y ∈ x.2.cells,SV.ok (fun n=>n < 500) y)∧x.1≠q)
  (VQ:q≠q2) (hqF: ¬ (1000≤q∧q < 1000+D)) (hq2:1000+D≤q2)
  (hF: ∀ j,j < D→s.box (1000+j)=some lI) (hN:D'=D+1→s.box q2=some lI)
  (hX:xb=[]∨ ∃ cs,xb=[(500,⟨true,cs⟩)]∧s.box q=some ⟨true,cs.map (SV.ren (r3 D q q2))⟩∧ ∀ y ∈ cs,SV.ok (fun n=>n < nx) y):ll M s ⟨lk E,mb B D' xb,nx⟩:=by
 have key: ∀ n b,mb B D' xb n=some b→(1000≤n∧n < 1000+D'∧b=lI)∨(n,b) ∈ B∨(n,b) ∈ xb:=fun n b hb=>by
  unfold mb at hb
  split at hb
  ·rename_i h
   cases hb
   exact .inl ⟨h.1,h.2,rfl⟩
  ·have:=bt _ _ _ hb
   rw[List.mem_append]at this
   exact .inr this
 have kx: ∀ n b,(n,b) ∈ xb→n=500∧ ∃ cs,b=⟨true,cs⟩∧s.box q=some ⟨true,cs.map (SV.ren (r3 D q q2))⟩∧ ∀ y ∈ cs,SV.ok (fun n=>n < nx) y:=fun n b hb=>by
  rcases hX with rfl | ⟨cs,rfl,h1,h2⟩
  ·cases hb
  ·simp only[bQ,Prod.mk.injEq]at hb
   obtain ⟨rfl,rfl⟩:=hb
   exact ⟨rfl,cs,rfl,h1,h2⟩
 have img: ∀ n,1000≤n→n < 1000+D'→(n < 1000+D∧r3 D q q2 n=n)∨(n=1000+D∧D'=D+1∧r3 D q q2 n=q2):=fun n h1 h2=>by
  by_cases h:n < 1000+D
  ·obtain ⟨j,rfl⟩: ∃ j,n=1000+j:=⟨n - 1000,by omega⟩
   exact .inl ⟨h,Wa (by omega)⟩
  ·have:n=1000+D:=by omega
   subst this
   exact .inr ⟨rfl,by omega,Wb⟩
 have ach:r3 D q q2 500=q:=if_pos rfl
 refine ⟨r3 D q q2,⟨fun d v hv=>(hE _ (bt _ _ _ hv)).1,fun n b hn=> ?_,fun n n' b b' hn hrw hn' e=> ?_,fun d v hv=>(hE _ (bt _ _ _ hv)).2,fun n b hn=> ?_⟩,fun n hn=>qO (by omega)⟩
 ·rcases key n b hn with ⟨h1,h2,rfl⟩ | h1 | h1
  ·refine ⟨lI, ?_,fun h=>h,(au az _).symm⟩
   rcases img n h1 h2 with ⟨h3,h4⟩ | ⟨h3,h4,h5⟩
   ·rw[h4]
    obtain ⟨j,rfl⟩: ∃ j,n=1000+j:=⟨n - 1000,by omega⟩
    exact hF j (by omega)
   ·rw[h5]
    exact hN h4
  ·obtain ⟨a1,a2,a3,_⟩:=hB _ h1
   rw[qO a1]
   refine ⟨b,a2,fun h=>h, ?_⟩
   conv=>lhs;rw[← List.map_id b.cells]
   exact List.map_congr_left fun y hy=>(SV.je (SV.br (fun n hn=>qO hn) (a3 y hy).1)).symm
  ·obtain ⟨rfl,cs,rfl,a1,_⟩:=kx n b h1
   rw[ach]
   exact ⟨_,a1,fun h=>h,rfl⟩
 ·have cls: ∀ n b,mb B D' xb n=some b→(n < 500∧r3 D q q2 n=n∧n≠q)∨(n=500∧r3 D q q2 n=q)∨(1000≤n∧n < 1000+D∧r3 D q q2 n=n)∨(n=1000+D∧r3 D q q2 n=q2):=fun n b hb=>by
   rcases key n b hb with ⟨h1,h2,_⟩ | h1 | h1
   ·rcases img n h1 h2 with ⟨h3,h4⟩ | ⟨h3,h4,h5⟩
    ·exact .inr (.inr (.inl ⟨h1,h3,h4⟩))
    ·exact .inr (.inr (.inr ⟨h3,h5⟩))
   ·obtain ⟨a1,_,_,a4⟩:=hB _ h1
    exact .inl ⟨a1,qO a1,a4⟩
   ·obtain ⟨rfl,_⟩:=kx n b h1
    exact .inr (.inl ⟨rfl,ach⟩)
  have c1:=cls n b hn
  have c2:=cls n' b' hn'
  omega
 ·show n < nx∧ ∀ x ∈ b.cells,SV.ok (fun n=>n < nx) x
  rcases key n b hn with ⟨h1,h2,rfl⟩ | h1 | h1
  ·exact ⟨by omega,ao az⟩
  ·obtain ⟨a1,a2,a3,_⟩:=hB _ h1
   have a1:n < 500:=a1
   exact ⟨by omega,fun y hy=>SV.aL (fun n hn=>by omega) (a3 y hy)⟩
  ·obtain ⟨rfl,cs,rfl,a1,a2⟩:=kx n b h1
   exact ⟨by omega,a2⟩
def pS (va:AV) (xb:List (Nat×aI)) (L:List (List SV)):Prop:=(L=[]∧va=V (.slice none 0 0)∧xb=[])∨(∃ c cs,va=Sl 500 0 L.length c∧xb=[(500,⟨true,cs⟩)]∧jw cs L c)
theorem pS.Tn {va:AV} {xb:List (Nat×aI)} {L:List (List SV)} (h:pS va xb L) {nx:Nat} (hn:500 < nx):AV.ok (fun n=>n < nx) va:=by
 rcases h with ⟨_,rfl,_⟩ | ⟨c,cs,rfl,_⟩
 ·trivial
 ·exact hn
def ly (R cR a:Nat) (k:Nat):List (List SV):=(List.range k).map fun j=>kY false ((a+1+j:Nat):Int) (.inr (.inr (R,64*(j+1),64,cR - 64*(j+1))))
theorem BL {R cR a k:Nat}:ly R cR a (k+1)=ly R cR a k++[kY false ((a+1+k:Nat):Int) (.inr (.inr (R,64*(k+1),64,cR - 64*(k+1))))]:=by
 unfold ly
 rw[List.range_succ,List.map_append]
 rfl
theorem rF {R cR a k:Nat}:(ly R cR a k).length=k:=by simp[ly]
theorem JD {R cR a k:Nat} {M:Nat→Prop} (hR:M R): ∀ x ∈ ly R cR a k, ∀ y ∈ x,SV.ok M y:=fun x hx y hy=>by
 unfold ly at hx
 rw[List.mem_map]at hx
 obtain ⟨j,_,rfl⟩:=hx
 simp only[kY,bQ]at hy
 rcases hy with rfl | rfl | rfl
 ·exact ⟨trivial,rfl⟩
 ·exact ⟨trivial,rfl⟩
 ·exact ⟨hR,rfl⟩
def pC (R cR a n:Nat):List (List SV):=ly R cR a (aT n)++[kY true 0 (.inl (.slice none 0 0)),kY false (a:Int) (.inr (.inr (R,0,64,cR))),kY true 0 (.inl (.slice none 0 0))]
theorem vp {R cR a n:Nat} {M:Nat→Prop} (hR:M R): ∀ x ∈ pC R cR a n, ∀ y ∈ x,SV.ok M y:=fun x hx y hy=>by
 unfold pC at hx
 rw[List.mem_append]at hx
 rcases hx with hx | hx
 ·exact JD hR x hx y hy
 ·simp only[bQ]at hx
  rcases hx with rfl | rfl | rfl
  ·simp only[kY,bQ]at hy
   rcases hy with rfl | rfl | rfl<;>exact ⟨trivial,rfl⟩
  ·simp only[kY,bQ]at hy
   rcases hy with rfl | rfl | rfl
   ·exact ⟨trivial,rfl⟩
   ·exact ⟨trivial,rfl⟩
   ·exact ⟨hR,rfl⟩
  ·simp only[kY,bQ]at hy
   rcases hy with rfl | rfl | rfl<;>exact ⟨trivial,rfl⟩
theorem hY {cs:List SV} {L:List (List SV)} {c:Nat} {M:Nat→Prop} (h:jw cs L c) (hL: ∀ x ∈ L, ∀ y ∈ x,SV.ok M y): ∀ y ∈ cs,SV.ok M y:=fun y hy=>by
 obtain ⟨tail,rfl,_,_,h3,_⟩:=h
 rw[List.mem_append]at hy
 rcases hy with hy | hy
 ·obtain ⟨x,hx,hyx⟩:=List.mem_flatten.1 hy
  exact hL x hx y hyx
 ·exact SV.ek (List.all_eq_true.1 h3 y hy)
theorem rG {cs:List SV} {L:List (List SV)} {c:Nat} {r:Nat→Nat} (h:jw cs L c):jw (cs.map (SV.ren r)) (L.map fun x=>x.map (SV.ren r)) c:=by
 obtain ⟨tail,rfl,h1,h2,h3,h4⟩:=h
 refine ⟨tail, ?_,by rw[List.length_map];exact h1,by rw[List.length_map];exact h2,h3,fun x hx=> ?_⟩
 ·rw[List.map_append,List.map_flatten,au h3]
 ·rw[List.mem_map]at hx
  obtain ⟨y,hy,rfl⟩:=hx
  rw[List.length_map]
  exact h4 y hy
theorem Tp {cs:List SV} {M:Nat→Prop} {r:Nat→Nat} (h: ∀ y ∈ cs,SV.ok M y) (hr: ∀ n,M n→r n=n):cs.map (SV.ren r)=cs:=by
 conv=>rhs;rw[← List.map_id cs]
 exact List.map_congr_left fun y hy=>SV.je (SV.br (fun n hn=>hr n hn) (h y hy).1)
section
variable {n a:Nat} {q:Int} {sv:SV} {pf:Nat→Int} {ps:List SV}
theorem FR {x y z:SV}:splice (dS [Value.bool false,Value.int .i64 0,Value.slice none 0 0] 3) 0 [x,y,z]=[x,y,z]:=rfl
theorem BM {B xb:List (Nat×aI)}:mb B 0 xb=lk (B++xb):=funext fun n=>if_neg (by omega)
theorem pS.ne {va:AV} {xb:List (Nat×aI)} {L:List (List SV)} (h:pS va xb L) {t:Nat} (ht:t≠500) (n c:Nat):va≠Sl t 0 n c:=by
 rcases h with ⟨_,rfl,_⟩ | ⟨c',cs,rfl,_⟩
 ·intro e;cases e
 ·intro e;cases e;exact ht rfl
theorem pS.grow {L:List (List SV)} {x:List SV} {c:Nat} {cs:List SV} (h:jw cs (L++[x]) c):pS (Sl 500 0 (L.length+1) c) [(500,⟨true,cs⟩)] (L++[x]):= .inr ⟨c,cs,by rw[List.length_append];rfl,rfl,h⟩
theorem Ow {cs:List SV} {D q q2:Nat} (h: ∀ y ∈ cs,SV.ok (fun n=>n < 500) y):cs.map (SV.ren (r3 D q q2))=cs:=Tp h fun n hn=>qO hn
theorem gY {cs:List SV} {L:List (List SV)} {c:Nat} {r:Nat→Nat} (h:jw cs (L.map fun x=>x.map (SV.ren r)) c): ∃ cs0,jw cs0 L c∧cs=cs0.map (SV.ren r):=by
 obtain ⟨tail,rfl,h1,h2,h3,h4⟩:=h
 rw[List.length_map]at h1 h2
 refine ⟨L.flatten++tail,⟨tail,rfl,h1,h2,h3,fun x hx=> ?_⟩, ?_⟩
 ·have:=h4 _ (List.mem_map.2 ⟨x,hx,rfl⟩)
  rwa [List.length_map]at this
 ·rw[List.map_append,List.map_flatten,au h3]
theorem qP {R cR a n:Nat} {r:Nat→Nat}:(pC R cR a n).map (fun x=>x.map (SV.ren r))=pC (r R) cR a n:=by
 unfold pC ly
 rw[List.map_append,List.map_map]
 rfl
def Tq (a n:Nat) (q:Int) (pf:Nat→Int) (v:AV) (out:Nat→Option aI):Prop:= ∃ c cs cR tl,v=Sl 1 0 (aT n+3) c∧jw cs (pC 2 cR a n) c∧64*aO n≤cR∧tl.all SV.plain=true∧out=lk [(1,⟨true,cs⟩),(2,⟨true,ai .u8 (64*aO n) (gw q n pf)++tl⟩)]
theorem JE (hl:cS 0 sv n pf ps) (hp:ps.all SV.plain=true) (hpf:eJ pf) (hn:n < 600000) (h0:0≤q) (h1:q < 18446744073709551616) (ha:a≤8192):
  sy Tryz.prog 43 [I .i64 a,I .u64 q,Sum.inl (Sum.inl sv)] 1 2 (lk [(0,⟨false,ps⟩)]) (Tq a n q pf):=by
 refine pB Tryz.func43 rfl (by kernel_rfl) [] [] (by simp[Tryz.ntmps43]) Tryz.tt (fun v hv=> ?_) fF (fG hp) ?_
 ·simp only[bQ]at hv
  rcases hv with rfl | rfl | rfl
  ·trivial
  ·trivial
  ·exact LI (q:=0) hl (by decide) _ (by simp)
 have hNN:aO n=1+aT n:=rfl
 have hCC:aT n=(n+63) / 64:=rfl
 simp only[Tryz.results43,aM,ib,seval]
 refine ia (qN (q:=q) hl hp hpf (by omega) h0 h1) (fun n=>n) (vj (r0:=false) (by simp only[bV,seval]) hp) (fC _) fun cR tl a1 a2 a3=> ?_
 simp only[aM,ib,seval]
 have hca:(aT n:Int)=((aT n:Nat):Int):=rfl
 have CG:(ai .u8 (64*aO n) (gw q n pf)++tl).all SV.plain=true:=by rw[List.all_append,az,a3];rfl
 refine mQ (aT n) (fun k t=> ∃ va xb,pS va xb (ly 4 cR a k)∧t=⟨lk [(0,I .i64 a),(7,Sl 4 0 (64*aO n) cR),(8,va),(9,I .i64 ((k+1:Nat):Int))],mb [(4,⟨true,ai .u8 (64*aO n) (gw q n pf)++tl⟩)] 0 xb,20000⟩) ?_ ⟨_,⟨_,_, .inl ⟨rfl,rfl,rfl⟩,rfl⟩, ?_⟩ ?_ ?_
 ·rintro k t ⟨va,xb,_,rfl⟩
  show _≤20000
  simp only[AS.put]
  decide
 ·refine FQ (D:=0) (D':=0) (q:=900) (q2:=1000) (by show 8≤500;decide) (by decide) (.inl rfl) (fun x hx=> ?_) (fun x hx=> ?_) (by decide) (by decide) (by decide) (fun j hj=>by omega) (fun h=>by omega) (.inl rfl)
  ·simp only[bQ]at hx
   rcases hx with rfl | rfl | rfl | rfl
   ·exact ⟨by simp only[ae,vR,seval];rfl,trivial⟩
   ·exact ⟨by simp only[ae,vR,seval];rfl,(by decide:4 < 20000)⟩
   ·exact ⟨by simp only[ae,vR,seval];rfl,trivial⟩
   ·exact ⟨by simp only[ae,vR,seval];rfl,trivial⟩
  ·simp only[bQ]at hx
   subst hx
   exact ⟨(by decide:4 < 500),by simp only[ae,vR,seval],ao CG,(by decide:4≠900)⟩
 ·rintro k t hk ⟨va,xb,hX,rfl⟩
  have w1:IntKind.i64.wrap (64*((k+1:Nat):Int))=((64*(k+1):Nat):Int):=by rw[wrap_i64 _ (by omega) (by omega)];omega
  have w2:IntKind.i64.wrap (((64*(k+1):Nat):Int)+64)=((64*(k+1)+64:Nat):Int):=by rw[wrap_i64 _ (by omega) (by omega)];omega
  have w3:IntKind.i64.wrap ((a:Int)+((k+1:Nat):Int))=((a+1+k:Nat):Int):=by rw[wrap_i64 _ (by omega) (by omega)];omega
  have w4:IntKind.i64.wrap (((k+1:Nat):Int)+1)=((k+1+1:Nat):Int):=by rw[wrap_i64 _ (by omega) (by omega)];omega
  have d1:decide (((64*(k+1):Nat):Int) < ((64*aO n:Nat):Int))=true:=decide_eq_true (by omega)
  have nc:(cR=64*(k+1))=False:=eq_false (by omega)
  have l1:(((64*(k+1):Nat):Int)≤((64*(k+1)+64:Nat):Int))=True:=eq_true (by omega)
  have l2:(((64*(k+1)+64:Nat):Int)≤(cR:Int))=True:=eq_true (by omega)
  have e64:64*(k+1)+64 - 64*(k+1)=64:=by omega
  simp only[BM,w1,w2,w3,w4,d1,aF,aM,ib,seval]
  simp only[BM,w1,w2,w3,w4,d1,l1,l2,e64,nc,aF,FR,if_false,aM,ib,seval]
  refine ⟨by simp[dS], ?_⟩
  refine gX (L:=ly 4 cR a k) (x:=kY false ((a+1+k:Nat):Int) (.inr (.inr (4,64*(k+1),64,cR - 64*(k+1))))) ?_ (by simp only[ae,vR,seval];rfl) rfl (by rw[rF];omega) fun bx c' cs' hA iR hnm=> ?_
  ·rcases hX with ⟨h1,rfl,rfl⟩ | ⟨c,cs,rfl,rfl,h1⟩
   ·exact .inl ⟨h1,rfl⟩
   ·exact .inr ⟨500,c,cs,rfl,by simp only[ae,vR,seval],h1,by decide⟩
  ·simp only[BM,w1,w2,w3,w4,d1,aF,aM,ib,seval]
   refine ⟨_,⟨_,_,by rw[BL];exact pS.grow hA,rfl⟩, ?_⟩
   have hcells: ∀ y ∈ cs',SV.ok (fun n=>n < 500) y:=hY hA fun x hx=>by rw[← BL]at hx;exact JD (R:=4) (show 4 < 500 by decide) x hx
   have hf:mb [(4,(⟨true,ai .u8 (64*aO n) (gw q n pf)++tl⟩:aI))] 0 [(500,⟨true,cs'⟩)]=lk [(4,(⟨true,ai .u8 (64*aO n) (gw q n pf)++tl⟩:aI)),(500,⟨true,cs'⟩)]:=BM
   rw[← hf]
   refine FQ (D:=0) (D':=0) (q:=20018) (q2:=1000) (B:=[(4,_)]) (xb:=[(500,_)]) (by decide) (by decide) (.inl rfl) (fun x hx=> ?_) (fun x hx=> ?_) (by decide) (by decide) (by decide) (fun j hj=>by omega) (fun h=>by omega) (.inr ⟨_,rfl, ?_, ?_⟩)
   ·simp only[bQ]at hx
    rcases hx with rfl | rfl | rfl | rfl
    ·exact ⟨by simp only[ae,vR,seval];rfl,trivial⟩
    ·exact ⟨by simp only[ae,vR,seval];rfl,(by decide:4 < 20000)⟩
    ·exact ⟨by simp only[ae,vR,seval];rfl,(by decide:500 < 20000)⟩
    ·exact ⟨by simp only[ae,vR,seval];rfl,trivial⟩
   ·simp only[bQ]at hx
    subst hx
    exact ⟨(by decide:4 < 500),by show bx 4=_;rw[iR 4 (by decide) (fun c=>hX.ne (by decide) _ _)];simp only[ae,vR,seval],ao CG,(by decide:4≠20018)⟩
   ·show bx 20018=_
    rw[hnm,Ow hcells]
   ·exact fun y hy=>SV.aL (fun n hn=>by omega) (hcells y hy)
 ·rintro t ⟨va,xb,hX,rfl⟩
  have d1:decide (((64*(aT n+1):Nat):Int) < ((64*aO n:Nat):Int))=false:=decide_eq_false (by omega)
  have w1:IntKind.i64.wrap (64*((aT n+1:Nat):Int))=((64*(aT n+1):Nat):Int):=by rw[wrap_i64 _ (by omega) (by omega)];omega
  simp only[BM,w1,d1,aF,aM,ib,seval]
  refine ⟨by simp[dS], ?_⟩
  have hB1:=rF (R:=4) (cR:=cR) (a:=a) (k:=aT n)
  refine gX (L:=ly 4 cR a (aT n)) (x:=kY true 0 (.inl (.slice none 0 0))) ?_ (by simp only[ae,vR,seval];rfl) rfl (by omega) fun bx c1 lr SC Qi aeT=> ?_
  ·rcases hX with ⟨h1,rfl,rfl⟩ | ⟨c,cs,rfl,rfl,h1⟩
   ·exact .inl ⟨h1,rfl⟩
   ·exact .inr ⟨500,c,cs,rfl,by simp only[ae,vR,seval],h1,by decide⟩
  have e64:64 - 0=64:=rfl
  have l2:((64:Int)≤(cR:Int))=True:=eq_true (by omega)
  simp only[aF,l2,FR,aM,ib,seval]
  refine ⟨by simp[dS], ?_⟩
  refine gX (L:=ly 4 cR a (aT n)++[kY true 0 (.inl (.slice none 0 0))]) (x:=kY false (a:Int) (.inr (.inr (4,0,64,cR)))) (.inr ⟨20008,c1,lr,by rw[List.length_append];rfl,by simp only[ae,vR,seval,aeT],SC,by decide⟩) (by simp only[ae,vR,seval];rfl) rfl (by rw[List.length_append];simp only[List.length_singleton];omega) fun Qj c2 j7 Cy rQ aeU=> ?_
  simp only[aF,l2,FR,aM,ib,seval]
  refine ⟨by simp[dS], ?_⟩
  refine gX (L:=ly 4 cR a (aT n)++[kY true 0 (.inl (.slice none 0 0))]++[kY false (a:Int) (.inr (.inr (4,0,64,cR)))]) (x:=kY true 0 (.inl (.slice none 0 0))) (.inr ⟨20016,c2,j7,by rw[List.length_append,List.length_append,List.length_append];rfl,by simp only[ae,vR,seval,aeU],Cy,by decide⟩) (by simp only[ae,vR,seval];rfl) rfl (by rw[List.length_append,List.length_append];simp only[List.length_singleton];omega) fun bx3 c3 sm Tr aeW aeX=> ?_
  simp only[aF,l2,FR,aM,ib,seval]
  have hL:ly 4 cR a (aT n)++[kY true 0 (.inl (.slice none 0 0))]++[kY false (a:Int) (.inr (.inr (4,0,64,cR)))]++[kY true 0 (.inl (.slice none 0 0))]=pC 4 cR a n:=by
   unfold pC
   rw[List.append_assoc,List.append_assoc]
   rfl
  have hlen:(ly 4 cR a (aT n)++[kY true 0 (.inl (.slice none 0 0))]++[kY false (a:Int) (.inr (.inr (4,0,64,cR)))]).length+1=aT n+3:=by
   rw[List.length_append,List.length_append,hB1]
   rfl
  rw[hL]at Tr
  rw[hlen]
  obtain ⟨cs0,qd,rfl⟩:=gY (L:=pC 2 cR a n) (r:=iu 1 fun j=>if j=0 then 20021 else 4) (by rw[qP];exact Tr)
  refine ⟨fun j=>if j=0 then 20021 else 4,Sl 1 0 (aT n+3) c3,lk [(1,⟨true,cs0⟩),(2,⟨true,ai .u8 (64*aO n) (gw q n pf)++tl⟩)],fun j hj=> ?_,fun i j hi hj e=> ?_,rfl,(by decide:1 < 3),fun m b hb=> ?_,⟨c3,cs0,cR,tl,rfl,qd,a1,a3,rfl⟩⟩
  ·show 1≤if j=0 then 20021 else 4
   split<;>decide
  ·have e:(if i=0 then 20021 else 4)=(if j=0 then 20021 else 4):=e
   split at e<;>split at e<;>omega
  ·have hm:=bt _ _ _ hb
   simp only[bQ,Prod.mk.injEq]at hm
   rcases hm with ⟨rfl,rfl⟩ | ⟨rfl,rfl⟩
   ·exact ⟨by decide,fun _=>rfl,hY qd (vp (by decide)),_,aeX,fun h=>h,rfl⟩
   ·refine ⟨by decide,fun _=>rfl,ao CG,⟨true,ai .u8 (64*aO n) (gw q n pf)++tl⟩, ?_,fun h=>h,(au CG _).symm⟩
    show bx3 4=_
    rw[aeW 4 (by decide) (fun c e=>by cases e)]
    simp only[ae,vR,seval]
    rw[rQ 4 (by decide) (fun c e=>by cases e)]
    simp only[ae,vR,seval]
    rw[Qi 4 (by decide) (fun c=>hX.ne (by decide) _ _)]
    simp only[ae,vR,seval]
end
def zA (b:Nat) (L:List Nat):List (List SV):=L.mapIdx fun j (a:Nat)=>kY false ((a:Nat):Int) (.inr (.inr (b+j,0,64,64)))
theorem ki {b:Nat} {L:List Nat}:(zA b L).length=L.length:=List.length_mapIdx
theorem FT {b k:Nat} {L:List Nat}:zA b (L++[k])=zA b L++[kY false (k:Int) (.inr (.inr (b+L.length,0,64,64)))]:=by
 unfold zA
 rw[List.mapIdx_concat]
theorem FU {b b':Nat} {L:List Nat} {r:Nat→Nat} (h: ∀ j,j < L.length→r (b+j)=b'+j):(zA b L).map (fun x=>x.map (SV.ren r))=zA b' L:=by
 apply List.ext_getElem?
 intro i
 unfold zA
 rw[List.getElem?_map,List.getElem?_mapIdx,List.getElem?_mapIdx]
 rcases Nat.lt_or_ge i L.length with hi | hi
 ·rw[List.getElem?_eq_getElem hi]
  show some [_,_,_]=some [_,_,_]
  rw[show SV.ren r (Sum.inr (Sum.inr (b+i,0,64,64)))=Sum.inr (Sum.inr (b'+i,0,64,64)) by rw[← h i hi];rfl]
  rfl
 ·rw[List.getElem?_eq_none hi]
  rfl
theorem Et {b:Nat} {L:List Nat} {M:Nat→Prop} (h: ∀ j,j < L.length→M (b+j)): ∀ x ∈ zA b L, ∀ y ∈ x,SV.ok M y:=fun x hx y hy=>by
 unfold zA at hx
 rw[List.mem_mapIdx]at hx
 obtain ⟨i,hi,rfl⟩:=hx
 simp only[kY,bQ]at hy
 rcases hy with rfl | rfl | rfl
 ·exact ⟨trivial,rfl⟩
 ·exact ⟨trivial,rfl⟩
 ·exact ⟨h i hi,rfl⟩
def Wc:List SV:=kY true 0 (.inl (.slice none 0 0))
def UX (b:Nat) (L:List Nat):List (List SV):=zA b L++[Wc]
theorem FV {b b':Nat} {L:List Nat} {r:Nat→Nat} (h: ∀ j,j < L.length→r (b+j)=b'+j):(UX b L).map (fun x=>x.map (SV.ren r))=UX b' L:=by
 unfold UX
 rw[List.map_append,FU h]
 rfl
def Xq (L:List Nat) (v:AV) (out:Nat→Option aI):Prop:=(L=[]∧v=V (.slice none 0 0)∧out=fun _=>none)∨
 (L≠[]∧ ∃ c cs,v=Sl 2 0 (L.length+1) c∧jw cs (UX 3 L) c∧out=fun n=>if n=2 then some ⟨true,cs⟩ else if 3≤n∧n < 3+L.length then some lI else none)
theorem Z9 {k r lv nx:Nat} (hr:0 < r) (rJ:nx≤r):(k / r=lv∧k%r < nx)↔(lv*r≤k∧k < lv*r+nx):=by
 have h1:=Nat.div_add_mod k r
 have h2:=Nat.mod_lt k hr
 constructor
 ·rintro ⟨rfl,h⟩
  rw[Nat.mul_comm]
  omega
 ·rintro ⟨h3,h4⟩
  have:k / r=lv:=Nat.div_eq_of_lt_le (by omega) (by rw[Nat.add_mul];omega)
  refine ⟨this, ?_⟩
  rw[this,Nat.mul_comm]at h1
  omega
theorem Ts {s:AS} {M D nx:Nat} {E:List (Nat×AV)} {B xb:List (Nat×aI)} (hb:s.box=mb B D xb) (hE: ∀ x ∈ E,s.env x.1=some x.2∧AV.ok (fun n=>n < nx) x.2) (hB: ∀ x ∈ B,x.1 < 500∧ ∀ y ∈ x.2.cells,SV.ok (fun n=>n < 500) y)
  (hX:xb=[]∨ ∃ cs,xb=[(500,⟨true,cs⟩)]∧ ∀ y ∈ cs,SV.ok (fun n=>n < nx) y) (rJ:1000+D≤nx):ll M s ⟨lk E,mb B D xb,nx⟩:=by
 refine ⟨fun n=>n,⟨fun d v hv=> ?_,fun n b hn=> ?_,fun n n' b b' _ _ _ e=>e,fun d v hv=>(hE _ (bt _ _ _ hv)).2,fun n b hn=> ?_⟩,fun n _=>rfl⟩
 ·rw[AV.nL]
  exact (hE _ (bt _ _ _ hv)).1
 ·refine ⟨b,by rw[hb];exact hn,fun h=>h, ?_⟩
  conv=>lhs;rw[← List.map_id b.cells]
  exact List.map_congr_left fun y hy=>(SV.nL y).symm
 ·show n < nx∧ ∀ x ∈ b.cells,SV.ok (fun n=>n < nx) x
  have hn:mb B D xb n=some b:=hn
  unfold mb at hn
  split at hn
  ·rename_i h
   cases hn
   exact ⟨by omega,ao az⟩
  ·have hm:=bt _ _ _ hn
   rw[List.mem_append]at hm
   rcases hm with hm | hm
   ·obtain ⟨a1,a2⟩:=hB _ hm
    have a1:n < 500:=a1
    exact ⟨by omega,fun y hy=>SV.aL (fun n hn=>by omega) (a2 y hy)⟩
   ·rcases hX with rfl | ⟨cs,rfl,h1⟩
    ·cases hm
    ·simp only[bQ,Prod.mk.injEq]at hm
     obtain ⟨rfl,rfl⟩:=hm
     exact ⟨by omega,h1⟩
section
variable {n o c r:Nat} {f:Nat→Int} {cs Eu:List SV} {rp:Bool} {lv nx:Nat} {q:Int} {dv:SV}
theorem JF (h1:cs.all SV.plain=true) (h2:Eu.all SV.plain=true): ∀ n b,lk [(0,(⟨false,cs⟩:aI)),(1,⟨rp,Eu⟩)] n=some b→n < 2∧ ∀ x ∈ b.cells,SV.ok (fun n=>n < 2) x:=fun n b hb=>by
 have hm:=bt _ _ _ hb
 simp only[bQ,Prod.mk.injEq]at hm
 rcases hm with ⟨rfl,rfl⟩ | ⟨rfl,rfl⟩
 ·exact ⟨by decide,ao h1⟩
 ·exact ⟨by decide,ao h2⟩
theorem JG: ∀ n,n < 2→ ∃ b,lk [(0,(⟨false,cs⟩:aI)),(1,⟨rp,Eu⟩)] n=some b:=fun n hn=>by
 rcases n with _ | _ | n
 ·exact ⟨_,rfl⟩
 ·exact ⟨_,rfl⟩
 ·omega
theorem JH (hs:aY cs o n f) (hc:n≤c) (hp:cs.all SV.plain=true) (B6:Eu.all SV.plain=true) (hn:n=128*r) (hr:8≤r) (Vs:r≤4096) (hlv:lv≤1) (rJ:nx≤r) (hdv:SV.ok (fun n=>n < 2) dv):
  sy Tryz.prog 33 [Sl 0 o n c,bE 0 q lv nx dv] 2 ((dD f (lv*r) (lv*r+nx) (2*r)).length+1) (lk [(0,⟨false,cs⟩),(1,⟨rp,Eu⟩)]) (Xq (dD f (lv*r) (lv*r+nx) (2*r))):=by
 refine pB Tryz.func33 rfl (by kernel_rfl) [] [] (by simp[Tryz.ntmps33]) Tryz.tf (fun v hv=> ?_) JG (JF hp B6) ?_
 ·simp only[bQ]at hv
  rcases hv with rfl | rfl
  ·exact (by decide:0 < 2)
  ·intro x hx
   simp only[bE,bQ]at hx
   rcases hx with rfl | rfl | rfl | rfl | rfl
   ·exact ⟨trivial,rfl⟩
   ·exact ⟨trivial,rfl⟩
   ·exact ⟨trivial,rfl⟩
   ·exact ⟨trivial,rfl⟩
   ·exact hdv
 have Jg:nR n=r:=by
  unfold nR
  have:gJ n=true:=by unfold gJ;simp only[decide_eq_true_eq];omega
  rw[if_pos this]
  omega
 simp only[Tryz.results33,bE,aM,aR,ib,seval]
 refine (jH (o:=o) (c:=c) hp (by omega)).cG (fun _=>0) (bZ (rw:=false) (by simp only[ae,vR,seval]) hp) rfl rfl ?_
 rw[Jg]
 simp only[bE,aM,aR,ib,seval]
 obtain ⟨lc,hlc⟩: ∃ lc:List SV,lc=[Sum.inl (Value.int IntKind.i64 0),Sum.inl (Value.int IntKind.u64 q),Sum.inl (Value.int IntKind.i64 lv),Sum.inl (Value.int IntKind.i64 nx),dv]:=⟨_,rfl⟩
 obtain ⟨B,hB⟩: ∃ B:List (Nat×aI),B=[(0,⟨false,cs⟩),(2,⟨true,lc⟩)]:=⟨_,rfl⟩
 have Ox: ∀ y ∈ lc,SV.ok (fun n=>n < 500) y:=fun y hy=>by
  rw[hlc]at hy
  simp only[bQ]at hy
  rcases hy with rfl | rfl | rfl | rfl | rfl
  ·exact ⟨trivial,rfl⟩
  ·exact ⟨trivial,rfl⟩
  ·exact ⟨trivial,rfl⟩
  ·exact ⟨trivial,rfl⟩
  ·exact SV.aL (fun n hn=>by omega) hdv
 have f0: ∀ D xb,mb B D xb 0=some ⟨false,cs⟩:=fun D xb=>by rw[hB];exact if_neg (by omega)
 have f2: ∀ D xb,mb B D xb 2=some ⟨true,lc⟩:=fun D xb=>by rw[hB];exact if_neg (by omega)
 have f5: ∀ D cs,mb B D [(500,⟨true,cs⟩)] 500=some ⟨true,cs⟩:=fun D cs=>by rw[hB];exact if_neg (by omega)
 have fk: ∀ D xb j,j < D→mb B D xb (1000+j)=some lI:=fun D xb j hj=>if_pos (by omega)
 have g2:lc[2]? =some (Sum.inl (Value.int IntKind.i64 lv)):=by rw[hlc];rfl
 have g3:lc[3]? =some (Sum.inl (Value.int IntKind.i64 nx)):=by rw[hlc];rfl
 obtain ⟨S,hS⟩: ∃ S:Nat→List Nat,S=fun k=>dD f (lv*r) (lv*r+nx) k:=⟨_,rfl⟩
 have hSl: ∀ k,(S k).length≤k:=fun k=>by rw[hS];exact mV
 have hS0:S 0=[]:=by rw[hS];rfl
 have hSn:dD f (lv*r) (lv*r+nx) (2*r)=S (2*r):=by rw[hS]
 rw[hSn]
 rw[← hlc]
 have toB: ∀ {s:AS} {D D' q q2:Nat} {E:List (Nat×AV)} {xb:List (Nat×aI)},D≤8192→s.box 0=some ⟨false,cs⟩→s.box 2=some ⟨true,lc⟩→(D'=D∨D'=D+1)→(∀ x ∈ E,s.env x.1=some (AV.ren (r3 D q q2) x.2)∧AV.ok (fun n=>n < 20000) x.2)→2 < q→q≠q2→ ¬ (1000≤q∧q < 1000+D)→1000+D≤q2→(∀ j,j < D→s.box (1000+j)=some lI)→(D'=D+1→s.box q2=some lI)→
   (xb=[]∨ ∃ cs,xb=[(500,⟨true,cs⟩)]∧s.box q=some ⟨true,cs.map (SV.ren (r3 D q q2))⟩∧ ∀ y ∈ cs,SV.ok (fun n=>n < 20000) y)→ll 9 s ⟨lk E,mb B D' xb,20000⟩:=fun h1 h2 h3 h4 h5 h6 h7 h8 h9 h10 h11 h12=>
  FQ (by decide) (by omega) h4 h5 (fun x hx=>by
   rw[hB]at hx
   simp only[bQ]at hx
   rcases hx with rfl | rfl
   ·exact ⟨(by decide:0 < 500),h2,ao hp,by show 0≠_;omega⟩
   ·exact ⟨(by decide:2 < 500),h3,Ox,by show 2≠_;omega⟩) h7 h8 h9 h10 h11 h12
 refine mQ (2*r) (fun k t=> ∃ va xb,(pS va xb (zA 1000 (S k))∧(S k=[]→va=V (.slice none 0 0)))∧t=⟨lk [(0,Sl 0 o n c),(3,Ptr 2 0),(5,va),(6,I .i64 (r:Nat)),(7,I .i64 ((k:Nat):Int))],mb B (S k).length xb,20000⟩) ?_ ⟨_,⟨_,_,⟨.inl ⟨by rw[hS0];rfl,rfl,rfl⟩,fun _=>rfl⟩,rfl⟩, ?_⟩ ?_ ?_
 ·rintro k t ⟨va,xb,_,rfl⟩
  show _≤20000
  simp only[AS.put]
  decide
 ·rw[hS0]
  refine toB (D:=0) (q:=900) (q2:=1000) (by decide) (by simp only[ae,vR,seval]) (by simp only[ae,vR,seval]) (.inl rfl) (fun x hx=> ?_) (by decide) (by decide) (by decide) (by decide) (fun j hj=>by omega) (fun h=>by cases h) (.inl rfl)
  simp only[bQ]at hx
  rcases hx with rfl | rfl | rfl | rfl | rfl
  ·exact ⟨by simp only[ae,vR,seval];rfl,(by decide:0 < 20000)⟩
  ·exact ⟨by simp only[ae,vR,seval];rfl,(by decide:2 < 20000)⟩
  ·exact ⟨by simp only[ae,vR,seval];rfl,trivial⟩
  ·exact ⟨by simp only[ae,vR,seval];rfl,trivial⟩
  ·exact ⟨by simp only[ae,vR,seval];rfl,trivial⟩
 ·rintro k t hk ⟨va,xb,⟨hX,hne⟩,rfl⟩
  have w2:IntKind.i64.wrap (2*(r:Int))=((2*r:Nat):Int):=by rw[wrap_i64 _ (by omega) (by omega)];omega
  have d1:decide ((k:Int) < ((2*r:Nat):Int))=true:=decide_eq_true (by omega)
  simp only[w2,d1,aM,aR,ib,seval]
  refine .inl ?_
  have wq:IntKind.i64.wrap ((k:Int).tdiv (r:Int))=((k / r:Nat):Int):=HM (k / r) (Nat.lt_of_le_of_lt (Nat.div_le_self k r) (by omega))
  have wm:(k:Int).tmod (r:Int)=((k%r:Nat):Int):=rfl
  have uq:IntKind.i64.wrap (64*(k:Int))=((64*k:Nat):Int):=by rw[wrap_i64 _ (by omega) (by omega)];omega
  have w65:IntKind.i64.wrap (((64*k:Nat):Int)+64)=((64*k+64:Nat):Int):=by rw[wrap_i64 _ (by omega) (by omega)];omega
  have wk:IntKind.i64.wrap ((k:Int)+1)=((k+1:Nat):Int):=bU k (by omega)
  have e64:64*k+64 - 64*k=64:=by omega
  have nc:(c=64*k)=False:=eq_false (by omega)
  have l1:(((64*k:Nat):Int)≤((64*k+64:Nat):Int))=True:=eq_true (by omega)
  have l2:(((64*k+64:Nat):Int)≤(c:Int))=True:=eq_true (by omega)
  have hsk:aY cs (o+64*k) 64 (aB f k):=fun i hi=>by
   have:=hs (64*k+i) (by omega)
   rw[Nat.add_assoc,this]
   unfold aB
   rw[Nat.mul_comm]
  simp only[aM,aR,ib,seval]
  refine ⟨by kernel_rfl,by omega, ?_⟩
  have hk9:=hSl k
  have Qz:xb=[]∨ ∃ cs,xb=[(500,⟨true,cs⟩)]∧ ∀ y ∈ cs,SV.ok (fun n=>n < 20000) y:=by
   rcases hX with ⟨_,_,rfl⟩ | ⟨c,cs,_,rfl,h1⟩
   ·exact .inl rfl
   ·exact .inr ⟨cs,rfl,hY h1 (Et fun j hj=>by omega)⟩
  have hBo: ∀ x ∈ B,x.1 < 500∧ ∀ y ∈ x.2.cells,SV.ok (fun n=>n < 500) y:=fun x hx=>by
   rw[hB]at hx
   simp only[bQ]at hx
   rcases hx with rfl | rfl
   ·exact ⟨(by decide:0 < 500),ao hp⟩
   ·exact ⟨(by decide:2 < 500),Ox⟩
  have hSs:S (k+1)=S k++if dx f (lv*r) (lv*r+nx) k=true then [k] else []:=by rw[hS];exact qJ
  have hin:=Z9 (k:=k) (lv:=lv) (show 0 < r by omega) rJ
  have hr0:((r:Int)=0)=False:=eq_false (by omega)
  by_cases c1:k / r=lv
  ·have b1:(((k / r:Nat):Int)==(lv:Int))=true:=by simp[c1]
   by_cases c2:k%r < nx
   ·have b2:decide (((k%r:Nat):Int) < (nx:Int))=true:=decide_eq_true (by omega)
    simp only[wq,wm,f0,f2,g2,g3,b1,b2,wk,hr0,not_false_eq_true,true_and,Bool.not_true,Bool.not_false,aM,aR,ib,seval]
    have hsb:dx f (lv*r) (lv*r+nx) k=false:=by
     have:=hin.1 ⟨c1,c2⟩
     unfold dx
     rw[decide_eq_false (by omega),decide_eq_false (by omega)]
     rfl
    have Gg:S (k+1)=S k:=by rw[hSs,hsb];simp
    refine ⟨_,⟨_,_,by rw[Gg];exact ⟨hX,hne⟩,rfl⟩, ?_⟩
    rw[Gg]
    refine Ts rfl (fun x hx=> ?_) hBo Qz (by omega)
    simp only[bQ]at hx
    rcases hx with rfl | rfl | rfl | rfl | rfl
    ·exact ⟨by simp only[ae,vR,seval],(by decide:0 < 20000)⟩
    ·exact ⟨by simp only[ae,vR,seval],(by decide:2 < 20000)⟩
    ·exact ⟨by simp only[ae,vR,seval],hX.Tn (by decide)⟩
    ·exact ⟨by simp only[ae,vR,seval],trivial⟩
    ·exact ⟨by simp only[ae,vR,seval],trivial⟩
   ·have b2:decide (((k%r:Nat):Int) < (nx:Int))=false:=decide_eq_false (by omega)
    simp only[wq,wm,uq,w65,f0,f2,g2,g3,b1,b2,wk,hr0,not_false_eq_true,true_and,Bool.not_true,Bool.not_false,aM,aR,ib,seval]
    simp only[l1,l2,e64,nc,aF,if_false,aM,aR,ib,seval]
    refine (Oo (c:=c - 64*k) hsk hp (by omega)).cG (fun _=>0) (bZ (rw:=false) (by simp only[ae,vR,seval,f0]) hp) rfl rfl ?_
    have hout: ¬ (lv*r≤k∧k < lv*r+nx):=fun h=>by have:=hin.2 h;omega
    have hdd:(decide (k < lv*r)||decide (lv*r+nx≤k))=true:=by
     rcases Nat.lt_or_ge k (lv*r) with h | h
     ·rw[decide_eq_true h];rfl
     ·rw[decide_eq_true (show lv*r+nx≤k by omega)];simp
    cases hE:pN 64 (aB f k) zF
    ·have hsb:dx f (lv*r) (lv*r+nx) k=true:=by unfold dx;rw[hdd,hE];rfl
     simp only[wq,wm,uq,w65,f0,f2,g2,g3,wk,hr0,not_false_eq_true,true_and,Bool.not_true,Bool.not_false,aM,aR,ib,seval]
     refine ⟨by simp[dS], ?_⟩
     have Gg:S (k+1)=S k++[k]:=by rw[hSs,hsb];rfl
     refine gX (L:=zA 1000 (S k)) (x:=kY false (k:Int) (.inr (.inr (20034,0,64,64)))) ?_ (by simp only[FR,ae,vR,seval];rfl) rfl (by rw[ki];omega) fun bx c' cs' hA iR hnm=> ?_
     ·rcases hX with ⟨h1,rfl,rfl⟩ | ⟨c,cs,rfl,rfl,h1⟩
      ·exact .inl ⟨h1,rfl⟩
      ·exact .inr ⟨500,c,cs,rfl,by simp only[ae,vR,seval,f5],h1,by decide⟩
     simp only[wk,aM,aR,ib,seval]
     obtain ⟨cs0,qd,rfl⟩:=gY (L:=zA 1000 (S k++[k])) (r:=r3 (S k).length 20037 20034) (by
      rw[FT,List.map_append,FU (b':=1000) (fun j hj=>Wa hj)]
      show jw cs' (zA 1000 (S k)++[kY false (k:Int) (.inr (.inr (r3 (S k).length 20037 20034 (1000+(S k).length),0,64,64)))]) c'
      rw[Wb]
      exact hA)
     refine ⟨_,⟨Sl 500 0 ((zA 1000 (S k)).length+1) c',[(500,⟨true,cs0⟩)],⟨.inr ⟨c',cs0,by rw[Gg,ki,ki,List.length_append];rfl,rfl,by rw[Gg];exact qd⟩,fun h=>by rw[Gg]at h;simp at h⟩,rfl⟩, ?_⟩
     refine toB (D:=(S k).length) (q:=20037) (q2:=20034) (by omega) ?_ ?_ (.inr (by rw[Gg,List.length_append];rfl)) (fun x hx=> ?_) (by decide) (by decide) (by omega) (by omega) (fun j hj=> ?_) (fun _=> ?_) (.inr ⟨cs0,rfl,hnm,hY qd (Et fun j hj=>by rw[List.length_append]at hj;simp only[List.length_singleton]at hj;omega)⟩)
     ·show bx 0=_
      rw[iR 0 (by decide) (fun c=>hX.ne (by decide) _ _)]
      simp only[ae,vR,seval,f0]
     ·show bx 2=_
      rw[iR 2 (by decide) (fun c=>hX.ne (by decide) _ _)]
      simp only[ae,vR,seval,f2]
     ·simp only[bQ]at hx
      rcases hx with rfl | rfl | rfl | rfl | rfl
      ·exact ⟨by simp only[ae,vR,seval];show _=some (Sl (r3 _ _ _ 0) o n c);rw[qO (by decide)],(by decide:0 < 20000)⟩
      ·exact ⟨by simp only[ae,vR,seval];show _=some (Ptr (r3 _ _ _ 2) 0);rw[qO (by decide)],(by decide:2 < 20000)⟩
      ·exact ⟨by simp only[ae,vR,seval];rfl,(by decide:500 < 20000)⟩
      ·exact ⟨by simp only[ae,vR,seval];rfl,trivial⟩
      ·exact ⟨by simp only[ae,vR,seval];rfl,trivial⟩
     ·show bx (1000+j)=_
      rw[iR _ (by omega) (fun c=>hX.ne (by omega) _ _)]
      show upd (upd _ _ _) _ _ _=_
      rw[bh _ _ _ _ (by omega),bh _ _ _ _ (by omega)]
      exact fk _ _ j hj
     ·show bx 20034=_
      rw[iR _ (by decide) (fun c=>hX.ne (by decide) _ _)]
      simp only[ae,vR,seval]
      rfl
    ·have hsb:dx f (lv*r) (lv*r+nx) k=false:=by unfold dx;rw[hE,Bool.not_true,Bool.and_false]
     simp only[wq,wm,uq,w65,f0,f2,g2,g3,wk,hr0,not_false_eq_true,true_and,Bool.not_true,Bool.not_false,aM,aR,ib,seval]
     have Gg:S (k+1)=S k:=by rw[hSs,hsb];simp
     refine ⟨_,⟨_,_,by rw[Gg];exact ⟨hX,hne⟩,rfl⟩, ?_⟩
     rw[Gg]
     refine Ts rfl (fun x hx=> ?_) hBo Qz (by omega)
     simp only[bQ]at hx
     rcases hx with rfl | rfl | rfl | rfl | rfl
     ·exact ⟨by simp only[ae,vR,seval],(by decide:0 < 20000)⟩
     ·exact ⟨by simp only[ae,vR,seval],(by decide:2 < 20000)⟩
     ·exact ⟨by simp only[ae,vR,seval],hX.Tn (by decide)⟩
     ·exact ⟨by simp only[ae,vR,seval],trivial⟩
     ·exact ⟨by simp only[ae,vR,seval],trivial⟩
  ·have b1:(((k / r:Nat):Int)==(lv:Int))=false:=by simp;omega
   simp only[wq,wm,uq,w65,f0,f2,g2,g3,b1,wk,hr0,not_false_eq_true,true_and,Bool.not_true,Bool.not_false,aM,aR,ib,seval]
   simp only[l1,l2,e64,nc,aF,if_false,aM,aR,ib,seval]
   refine (Oo (c:=c - 64*k) hsk hp (by omega)).cG (fun _=>0) (bZ (rw:=false) (by simp only[ae,vR,seval,f0]) hp) rfl rfl ?_
   have hout: ¬ (lv*r≤k∧k < lv*r+nx):=fun h=>by have:=hin.2 h;omega
   have hdd:(decide (k < lv*r)||decide (lv*r+nx≤k))=true:=by
    rcases Nat.lt_or_ge k (lv*r) with h | h
    ·rw[decide_eq_true h];rfl
    ·rw[decide_eq_true (show lv*r+nx≤k by omega)];simp
   cases hE:pN 64 (aB f k) zF
   ·have hsb:dx f (lv*r) (lv*r+nx) k=true:=by unfold dx;rw[hdd,hE];rfl
    simp only[wq,wm,uq,w65,f0,f2,g2,g3,wk,hr0,not_false_eq_true,true_and,Bool.not_true,Bool.not_false,aM,aR,ib,seval]
    refine ⟨by simp[dS], ?_⟩
    have Gg:S (k+1)=S k++[k]:=by rw[hSs,hsb];rfl
    refine gX (L:=zA 1000 (S k)) (x:=kY false (k:Int) (.inr (.inr (20034,0,64,64)))) ?_ (by simp only[FR,ae,vR,seval];rfl) rfl (by rw[ki];omega) fun bx c' cs' hA iR hnm=> ?_
    ·rcases hX with ⟨h1,rfl,rfl⟩ | ⟨c,cs,rfl,rfl,h1⟩
     ·exact .inl ⟨h1,rfl⟩
     ·exact .inr ⟨500,c,cs,rfl,by simp only[ae,vR,seval,f5],h1,by decide⟩
    simp only[wk,aM,aR,ib,seval]
    obtain ⟨cs0,qd,rfl⟩:=gY (L:=zA 1000 (S k++[k])) (r:=r3 (S k).length 20037 20034) (by
     rw[FT,List.map_append,FU (b':=1000) (fun j hj=>Wa hj)]
     show jw cs' (zA 1000 (S k)++[kY false (k:Int) (.inr (.inr (r3 (S k).length 20037 20034 (1000+(S k).length),0,64,64)))]) c'
     rw[Wb]
     exact hA)
    refine ⟨_,⟨Sl 500 0 ((zA 1000 (S k)).length+1) c',[(500,⟨true,cs0⟩)],⟨.inr ⟨c',cs0,by rw[Gg,ki,ki,List.length_append];rfl,rfl,by rw[Gg];exact qd⟩,fun h=>by rw[Gg]at h;simp at h⟩,rfl⟩, ?_⟩
    refine toB (D:=(S k).length) (q:=20037) (q2:=20034) (by omega) ?_ ?_ (.inr (by rw[Gg,List.length_append];rfl)) (fun x hx=> ?_) (by decide) (by decide) (by omega) (by omega) (fun j hj=> ?_) (fun _=> ?_) (.inr ⟨cs0,rfl,hnm,hY qd (Et fun j hj=>by rw[List.length_append]at hj;simp only[List.length_singleton]at hj;omega)⟩)
    ·show bx 0=_
     rw[iR 0 (by decide) (fun c=>hX.ne (by decide) _ _)]
     simp only[ae,vR,seval,f0]
    ·show bx 2=_
     rw[iR 2 (by decide) (fun c=>hX.ne (by decide) _ _)]
     simp only[ae,vR,seval,f2]
    ·simp only[bQ]at hx
     rcases hx with rfl | rfl | rfl | rfl | rfl
     ·exact ⟨by simp only[ae,vR,seval];show _=some (Sl (r3 _ _ _ 0) o n c);rw[qO (by decide)],(by decide:0 < 20000)⟩
     ·exact ⟨by simp only[ae,vR,seval];show _=some (Ptr (r3 _ _ _ 2) 0);rw[qO (by decide)],(by decide:2 < 20000)⟩
     ·exact ⟨by simp only[ae,vR,seval];rfl,(by decide:500 < 20000)⟩
     ·exact ⟨by simp only[ae,vR,seval];rfl,trivial⟩
     ·exact ⟨by simp only[ae,vR,seval];rfl,trivial⟩
    ·show bx (1000+j)=_
     rw[iR _ (by omega) (fun c=>hX.ne (by omega) _ _)]
     show upd (upd _ _ _) _ _ _=_
     rw[bh _ _ _ _ (by omega),bh _ _ _ _ (by omega)]
     exact fk _ _ j hj
    ·show bx 20034=_
     rw[iR _ (by decide) (fun c=>hX.ne (by decide) _ _)]
     simp only[ae,vR,seval]
     rfl
   ·have hsb:dx f (lv*r) (lv*r+nx) k=false:=by unfold dx;rw[hE,Bool.not_true,Bool.and_false]
    simp only[wq,wm,uq,w65,f0,f2,g2,g3,wk,hr0,not_false_eq_true,true_and,Bool.not_true,Bool.not_false,aM,aR,ib,seval]
    have Gg:S (k+1)=S k:=by rw[hSs,hsb];simp
    refine ⟨_,⟨_,_,by rw[Gg];exact ⟨hX,hne⟩,rfl⟩, ?_⟩
    rw[Gg]
    refine Ts rfl (fun x hx=> ?_) hBo Qz (by omega)
    simp only[bQ]at hx
    rcases hx with rfl | rfl | rfl | rfl | rfl
    ·exact ⟨by simp only[ae,vR,seval],(by decide:0 < 20000)⟩
    ·exact ⟨by simp only[ae,vR,seval],(by decide:2 < 20000)⟩
    ·exact ⟨by simp only[ae,vR,seval],hX.Tn (by decide)⟩
    ·exact ⟨by simp only[ae,vR,seval],trivial⟩
    ·exact ⟨by simp only[ae,vR,seval],trivial⟩
 ·rintro t ⟨va,xb,⟨hX,hne⟩,rfl⟩
  have w2:IntKind.i64.wrap (2*(r:Int))=((2*r:Nat):Int):=by rw[wrap_i64 _ (by omega) (by omega)];omega
  have d1:decide (((2*r:Nat):Int) < ((2*r:Nat):Int))=false:=decide_eq_false (by omega)
  have hk9:=hSl (2*r)
  simp only[w2,d1,aM,aR,ib,seval]
  by_cases hE:S (2*r)=[]
  ·cases hne hE
   simp only[decide_false,aM,aR,ib,seval]
   rw[hE]
   exact ⟨fun j=>2+j,V (.slice none 0 0),fun _=>none,fun j hj=>Nat.le_add_right 2 j,fun i j hi hj e=>by have e:2+i=2+j:=e;omega,rfl,trivial,fun n b hb=>(by cases hb), .inl ⟨rfl,rfl,rfl⟩⟩
  ·rcases hX with ⟨h1,rfl,rfl⟩ | ⟨c1,lr,rfl,rfl,h1⟩
   ·have:=congrArg List.length h1
    rw[ki]at this
    exact absurd (List.length_eq_zero_iff.1 this) hE
   ·have hpos:0 < (S (2*r)).length:=List.length_pos_iff.2 hE
    have d2:decide ((0:Int) < ((S (2*r)).length:Int))=true:=decide_eq_true (by omega)
    simp only[ki,d2,aM,aR,ib,seval]
    refine ⟨by simp[dS], ?_⟩
    refine gX (L:=zA 1000 (S (2*r))) (x:=Wc) (.inr ⟨500,c1,lr,by rw[ki],by simp only[ae,vR,seval,f5],h1,by decide⟩) (by simp only[FR,ae,vR,seval];rfl) rfl (by rw[ki];omega) fun bx c2 j7 hA iR hnm=> ?_
    simp only[ki,aM,aR,ib,seval]
    obtain ⟨cs0,qd,rfl⟩:=gY (L:=UX 3 (S (2*r))) (r:=iu 2 fun j=>if j=0 then 20010 else 999+j) (by
     rw[FV (b':=1000)]
     ·exact hA
     ·intro j hj
      unfold iu
      rw[if_neg (by omega)]
      show (if 3+j - 2=0 then 20010 else 999+(3+j - 2))=1000+j
      rw[if_neg (by omega)]
      omega)
    refine ⟨fun j=>if j=0 then 20010 else 999+j,Sl 2 0 ((S (2*r)).length+1) c2,fun n=>if n=2 then some ⟨true,cs0⟩ else if 3≤n∧n < 3+(S (2*r)).length then some lI else none,fun j hj=> ?_,fun i j hi hj e=> ?_,rfl,(by show 2 < 2+(_+1);omega),fun m b hb=> ?_, .inr ⟨hE,c2,cs0,rfl,qd,rfl⟩⟩
    ·show 2≤if j=0 then 20010 else 999+j
     split<;>omega
    ·have e:(if i=0 then 20010 else 999+i)=(if j=0 then 20010 else 999+j):=e
     split at e<;>split at e<;>omega
    ·have hb:(if m=2 then some ⟨true,cs0⟩ else if 3≤m∧m < 3+(S (2*r)).length then some lI else none)=some b:=hb
     split at hb
     ·rename_i hm
      cases hb
      subst hm
      refine ⟨by omega,fun _=>rfl,hY qd fun x hx=> ?_,_,hnm,fun h=>h,rfl⟩
      rw[UX,List.mem_append]at hx
      rcases hx with hx | hx
      ·exact Et (fun j hj=>by omega) x hx
      ·rw[List.mem_singleton]at hx
       subst hx
       intro y hy
       simp only[Wc,kY,bQ]at hy
       rcases hy with rfl | rfl | rfl<;>exact ⟨trivial,rfl⟩
     ·split at hb
      ·rename_i hm1 hm
       cases hb
       refine ⟨by omega,fun _=>rfl,ao az,lI, ?_,fun h=>h,(au az _).symm⟩
       show bx (iu 2 _ m)=_
       have:iu 2 (fun j=>if j=0 then 20010 else 999+j) m=1000+(m - 3):=by
        unfold iu
        rw[if_neg (by omega)]
        show (if m - 2=0 then 20010 else 999+(m - 2))=_
        rw[if_neg (by omega)]
        omega
       rw[this,iR _ (by omega) (fun c=>(show pS (Sl 500 0 (S (2*r)).length c1) [(500,⟨true,lr⟩)] (zA 1000 (S (2*r))) from .inr ⟨c1,lr,by rw[ki],rfl,h1⟩).ne (by omega) _ _)]
       show upd _ _ _ _=_
       rw[bh _ _ _ _ (by omega)]
       exact fk _ _ _ (by omega)
      ·cases hb
end
section
variable {n o c r:Nat} {f:Nat→Int} {cs Eu:List SV} {rp:Bool} {lv nx:Nat} {q:Int} {dv:SV}
theorem LP (hs:aY cs o n f) (hc:n≤c) (hp:cs.all SV.plain=true) (B6:Eu.all SV.plain=true) (hn:n=128*r) (hr:8≤r) (Vs:r≤4096) (hlv:lv≤1) (rJ:nx≤r) (hdv:SV.ok (fun n=>n < 2) dv):
  bd Tryz.prog 33 [Sl 0 o n c,bE 0 q lv nx dv] 2 (lk [(0,⟨false,cs⟩),(1,⟨rp,Eu⟩)]) (fun v out=>(∃ V9,Xq (dD f (lv*r) (lv*r+nx) (2*r)) v V9)∧out=fun _=>none):=by
 refine (JH hs hc hp B6 hn hr Vs hlv rJ hdv).forget (by omega) fun v out h=> ?_
 rcases h with ⟨_,rfl,_⟩ | ⟨_,c,cs,rfl,_⟩
 ·trivial
 ·exact (by decide:2 < 3)
theorem FW {f:Nat→Int} {r st:Nat} (h:dh f r=some st):(st=0∨st=r)∧st≤aE f (aC f (st+r) st)∧aE f (aC f (st+r) st)≤st+r:=by
 obtain ⟨h1,h2⟩:=vg h
 obtain ⟨h3,h4⟩:=rB (st+r - st) st h1
 refine ⟨h2, ?_, ?_⟩
 ·have:=hU (f:=f) (p:=aC f (st+r) st)
  have h4:st≤aC f (st+r) st:=h4
  omega
 ·have h3:okB f (aC f (st+r) st) (st+r)=true:=h3
  unfold okB jd at h3
  simp only[Bool.and_eq_true,decide_eq_true_eq]at h3
  have h4:=h3.1.2
  unfold aE
  have:1≤aO (aN (aB f (aC f (st+r) st))):=by unfold aO;omega
  omega
theorem pD {st:Nat} (hr:0 < r) (h:dh f r=some st):dD f (st / r*r) (st / r*r+(aE f (aC f (st+r) st) - st)) (2*r)=cM f (2*r) st∧st / r≤1∧aE f (aC f (st+r) st) - st≤r:=by
 obtain ⟨h1,h2,h3⟩:=FW h
 have e:st / r*r=st:=by
  rcases h1 with rfl | rfl
  ·rw[Nat.zero_div,Nat.zero_mul]
  ·rw[Nat.div_self hr,Nat.one_mul]
 have e1:st / r≤1:=by
  rcases h1 with rfl | rfl
  ·rw[Nat.zero_div];omega
  ·rw[Nat.div_self hr];omega
 refine ⟨?_,e1,by omega⟩
 rw[e,show st+(aE f (aC f (st+r) st) - st)=aE f (aC f (st+r) st) by omega]
 unfold cM
 rw[show 2*r / 2=r by omega]
theorem uu (hs:aY cs o n f) (hc:n≤c) (hp:cs.all SV.plain=true) (hn:n≤1048576) (hf:eJ f):
  bd Tryz.prog 9 [Sl 0 o n c] 1 (lk [(0,⟨false,cs⟩)]) (jz 1 n f):=by
 refine aG Tryz.func9 rfl (by kernel_rfl) (by simp[Tryz.ntmps9]) Tryz.rj (by simp[AV.ok,CV.ok,SV.names]) fF (fG hp) ?_
 simp only[Tryz.results9,gV,aM,aR,ib,seval]
 refine (Tc hs hc hp hn hf).av (fun _=>0) none (bZ (rw:=false) (by simp only[ae,vR,seval]) hp) rfl ?_
 rintro v out (⟨hb,rfl,rfl⟩ | ⟨hb,st,c1,lr,hlv,hsh,oF,gx,rfl,rfl⟩) _
 ·rw[show ∀ q,AV.ren q (bE 1 0 0 0 (.inl (.slice none 0 0)))=bE 1 0 0 0 (.inl (.slice none 0 0)) from fun q=>rfl,dW]
  simp only[bE,gV,aM,aR,ib,seval]
  exact aJ rfl (show jz 1 n f _ _ from .inl ⟨hb,rfl,rfl⟩)
 ·have Ge:128*(n / 64 / 2)=n∧8≤n / 64 / 2∧n / 64 / 2≤4096:=by
   have:=hb
   unfold gJ at this
   simp only[decide_eq_true_eq]at this
   omega
  obtain ⟨r,rO⟩: ∃ r,r=n / 64 / 2:=⟨_,rfl⟩
  have hn2:n / 64=2*r:=by omega
  obtain ⟨hL,PE,J4⟩:=pD (f:=f) (r:=r) (st:=st) (by omega) (by rw[rO];exact hlv)
  rw[← rO]at Ge hlv hsh oF
  have e2: ∀ (N:Nat) (a b d e:Int) (l c:Nat),AV.ren (df (fun _=>0) 1 N) (bE a b d e (.inr (.inr (1,0,l,c))))=bE a b d e (.inr (.inr (N,0,l,c))):=fun N a b d e l c=>rfl
  rw[e2,bX gx, ← rO]
  simp only[bE,gV,aM,aR,ib,seval]
  have hst:=LP (f:=f) (r:=r) (lv:=st / r) (nx:=aE f (aC f (st+r) st) - st) (q:=bB (aB f (aC f (st+r) st))) (dv:= .inr (.inr (1,0,aN (aB f (aC f (st+r) st)),c1))) (rp:=false) hs hc hp gx (by omega) (by omega) (by omega) PE J4 ⟨(by decide:1 < 2),rfl⟩
  rw[hL]at hst
  refine hst.av (two 0 3) none (jq (rw:=false) (rw':=true) (by simp only[ae,vR,seval]) hp (by simp only[ae,vR,seval]) gx) rfl ?_
  rintro v out ⟨⟨V9,hv⟩,rfl⟩ _
  rw[dW]
  rcases hv with ⟨Xr,rfl,_⟩ | ⟨Xr,c2,j7,rfl,_⟩
  ·have e3: ∀ q,AV.ren q (V (.slice none 0 0))=V (.slice none 0 0):=fun q=>rfl
   rw[e3]
   simp only[decide_false,gV,aM,aR,ib,seval]
   refine ig (Post:=jz 1 n f) (q:=3) (by decide) (by simp only[ae,vR,seval]) gx (.inr (.inr ⟨hb,st,c1,lr, ?_⟩))
   rw[← rO,hn2]
   exact ⟨hlv,Xr,hsh,oF,gx,rfl,rfl⟩
  ·have hpos:0 < (cM f (2*r) st).length:=List.length_pos_iff.2 Xr
   have e3: ∀ N,AV.ren (df (two 0 3) 2 N) (Sl 2 0 ((cM f (2*r) st).length+1) c2)=Sl N 0 ((cM f (2*r) st).length+1) c2:=fun N=>rfl
   have d2:(((0:Int) < (((cM f (2*r) st).length+1:Nat):Int)))=True:=eq_true (by omega)
   rw[e3]
   simp only[d2,decide_true,gV,aM,aR,ib,seval]
   exact aJ rfl (show jz 1 n f _ _ from .inr (.inl ⟨hb,⟨st,by rw[← rO];exact hlv,by rw[hn2];exact Xr⟩,rfl,rfl⟩))
end
theorem H9 {s:AS} {r:Nat→Nat} {nm:Nat} {b0 b1:aI}:gH s r 1 2 nm none (lk [(1,b0),(2,b1)])=upd (upd s.box nm (some (aI.ren (aV r 1 nm) b0))) (nm+1) (some (aI.ren (aV r 1 nm) b1)):=by
 funext t
 unfold gH
 by_cases h:nm≤t∧t < nm+2
 ·rw[if_pos h]
  rcases (show t=nm∨t=nm+1 by omega) with rfl | rfl
  ·simp[lk,upd]
  ·simp[lk,upd,show 1+(nm+1 - nm)=2 by omega]
 ·rw[if_neg h]
  have h0:t≠nm:=by omega
  have h1:t≠nm+1:=by omega
  simp[upd,h0,h1]
def JI (st k:Nat):List Nat:=(List.range k).map fun i=>st+i
theorem ox {st k:Nat}:(JI st k).length=k:=by simp[JI]
theorem Qk {st k:Nat}:JI st (k+1)=JI st k++[st+k]:=by
 unfold JI
 rw[List.range_succ,List.map_append]
 rfl
def nS (R cR a n b st nx:Nat):List (List SV):=pC R cR a n++zA b (JI st nx)
def qQ (R cR a n b st nx:Nat):List (List SV):=nS R cR a n b st nx++[Wc]
theorem JJ {R cR a n:Nat}:(pC R cR a n).length=aT n+3:=by
 unfold pC
 rw[List.length_append,rF]
 rfl
theorem jx {R cR a n b st nx:Nat}:(nS R cR a n b st nx).length=aT n+3+nx:=by
 unfold nS
 rw[List.length_append,JJ,ki,ox]
theorem Ql {R cR a n b st k:Nat}:nS R cR a n b st (k+1)=nS R cR a n b st k++[kY false ((st+k:Nat):Int) (.inr (.inr (b+k,0,64,64)))]:=by
 unfold nS
 rw[Qk,FT,ox,List.append_assoc]
theorem BN {R R' cR a n b b' st k:Nat} {r:Nat→Nat} (hR:r R=R') (h: ∀ j,j < k→r (b+j)=b'+j):(nS R cR a n b st k).map (fun x=>x.map (SV.ren r))=nS R' cR a n b' st k:=by
 unfold nS
 rw[List.map_append,qP,FU (b':=b') (by rw[ox];exact h),hR]
theorem yK {R cR a n b st k:Nat} {M:Nat→Prop} (hR:M R) (h: ∀ j,j < k→M (b+j)): ∀ x ∈ nS R cR a n b st k, ∀ y ∈ x,SV.ok M y:=fun x hx=>by
 unfold nS at hx
 rw[List.mem_append]at hx
 rcases hx with hx | hx
 ·exact vp hR x hx
 ·exact Et (by rw[ox];exact h) x hx
theorem FX {M:Nat→Prop}: ∀ y ∈ Wc,SV.ok M y:=fun y hy=>by
 simp only[Wc,kY,bQ]at hy
 rcases hy with rfl | rfl | rfl<;>exact ⟨trivial,rfl⟩
theorem aad {R cR a n b st:Nat}:nS R cR a n b st 0=pC R cR a n:=by
 unfold nS
 exact List.append_nil _
def Xs (a n st nx:Nat) (q:Int) (pf:Nat→Int) (v:AV) (out:Nat→Option aI):Prop:=
 ∃ c cs cR tl,v=Sl 2 0 (aT n+3+nx+1) c∧jw cs (qQ 3 cR a n 4 st nx) c∧64*aO n≤cR∧tl.all SV.plain=true∧
  out=fun t=>if t=2 then some ⟨true,cs⟩ else if t=3 then some ⟨true,ai .u8 (64*aO n) (gw q n pf)++tl⟩ else if 4≤t∧t < 4+nx then some lI else none
section
variable {n r:Nat} {pf:Nat→Int} {ps Eu:List SV} {rp:Bool} {lv nx:Nat} {q:Int} {sv dv:SV}
theorem Oy (hl:cS 0 sv n pf ps) (hp:ps.all SV.plain=true) (B6:Eu.all SV.plain=true) (hpf:eJ pf) (hn:n < 600000) (h0:0≤q) (h1:q < 18446744073709551615) (Vs:r≤4096) (hlv:lv≤1) (rJ:nx≤r) (hdv:SV.ok (fun n=>n < 2) dv):
  sy Tryz.prog 44 [I .i64 (r:Nat),bE 0 q lv nx dv,Sum.inl (Sum.inl sv)] 2 (2+nx) (lk [(0,⟨false,ps⟩),(1,⟨rp,Eu⟩)]) (Xs ((1 - lv)*r) n (lv*r) nx (q+1) pf):=by
 refine pB Tryz.func44 rfl (by kernel_rfl) [1] [] (by simp[Tryz.ntmps44]) Tryz.tu (fun v hv=> ?_) JG (JF hp B6) ?_
 ·simp only[bQ]at hv
  rcases hv with rfl | rfl | rfl
  ·exact trivial
  ·intro x hx
   simp only[bE,bQ]at hx
   rcases hx with rfl | rfl | rfl | rfl | rfl
   ·exact ⟨trivial,rfl⟩
   ·exact ⟨trivial,rfl⟩
   ·exact ⟨trivial,rfl⟩
   ·exact ⟨trivial,rfl⟩
   ·exact hdv
  ·exact (hl.ok (show 0 < 2 by decide)).1
 have hst:lv*r≤r∧(1 - lv)*r≤r:=by
  rcases (show lv=0∨lv=1 by omega) with rfl | rfl<;>simp
 have w1:IntKind.i64.wrap (1 - (lv:Int))=((1 - lv:Nat):Int):=by rw[wrap_i64 _ (by omega) (by omega)];omega
 have w2:IntKind.i64.wrap (((1 - lv:Nat):Int)*(r:Int))=(((1 - lv)*r:Nat):Int):=by
  rw[show ((1 - lv:Nat):Int)*(r:Int)=(((1 - lv)*r:Nat):Int) from (Int.natCast_mul _ _).symm]
  exact HM _ (by omega)
 have w3:IntKind.u64.wrap (q+1)=q+1:=by rw[wrap_u64];omega
 simp only[Tryz.results44,bE,di,seval]
 refine ⟨by kernel_rfl, ?_⟩
 show da Tryz.prog _ _ _ [0,1,2,3,4,5,6,7,8,9,10] 0 _
 simp only[w1,w2,w3,di,seval]
 have hput:=JE (q:=q+1) (a:=(1 - lv)*r) hl hp hpf hn (by omega) (by omega) (by omega)
 refine (⟨hput.body,by decide,hput.all,hput.qY,hput.call⟩:ln Tryz.prog 43 [I .i64 (((1 - lv)*r:Nat):Int),I .u64 (q+1),Sum.inl (Sum.inl sv)] 1 2 (lk [(0,⟨false,ps⟩)]) (Tq ((1 - lv)*r) n (q+1) pf)).av (fun n=>n) none (vj (r0:=false) (by simp only[bV,seval]) hp) (fC _) ?_
 rintro v out ⟨c1,lr,cR,tl,rfl,SC,hcR,rH,rfl⟩
 obtain ⟨a,ha⟩: ∃ a,a=(1 - lv)*r:=⟨_,rfl⟩
 obtain ⟨st,acn⟩: ∃ st,st=lv*r:=⟨_,rfl⟩
 rw[← ha]at SC ⊢
 have w1:IntKind.i64.wrap ((lv:Int)*(r:Int))=((st:Nat):Int):=by
  rw[show (lv:Int)*(r:Int)=((lv*r:Nat):Int) from (Int.natCast_mul _ _).symm, ← acn]
  exact HM _ (by omega)
 rw[← acn]at hst ⊢
 have hNN:aO n=1+aT n:=rfl
 have hCC:aT n=(n+63) / 64:=rfl
 have Cy:jw (lr.map (SV.ren (aV (fun n=>n) 1 44))) (pC 45 cR a n) c1:=by
  have:=rG (r:=aV (fun n=>n) 1 44) SC
  rw[qP]at this
  exact this
 have CG:(ai .u8 (64*aO n) (gw (q+1) n pf)++tl).all SV.plain=true:=by rw[List.all_append,az,rH];rfl
 rw[H9,show AV.ren (aV (fun n=>n) 1 44) (Sl 1 0 (aT n+3) c1)=Sl 44 0 (aT n+3) c1 from rfl,
  show aI.ren (aV (fun n=>n) 1 44) ⟨true,lr⟩=⟨true,lr.map (SV.ren (aV (fun n=>n) 1 44))⟩ from rfl,
  show aI.ren (aV (fun n=>n) 1 44) ⟨true,ai .u8 (64*aO n) (gw (q+1) n pf)++tl⟩=⟨true,(ai .u8 (64*aO n) (gw (q+1) n pf)++tl).map (SV.ren (aV (fun n=>n) 1 44))⟩ from rfl,au CG]
 obtain ⟨j7,ae0⟩: ∃ j7,j7=lr.map (SV.ren (aV (fun n=>n) 1 44)):=⟨_,rfl⟩
 rw[← ae0]at Cy ⊢
 obtain ⟨lc,hlc⟩: ∃ lc:List SV,lc=[Sum.inl (Value.int IntKind.i64 0),Sum.inl (Value.int IntKind.u64 q),Sum.inl (Value.int IntKind.i64 lv),Sum.inl (Value.int IntKind.i64 nx),dv]:=⟨_,rfl⟩
 obtain ⟨rc,hrc⟩: ∃ rc:List SV,rc=ai .u8 (64*aO n) (gw (q+1) n pf)++tl:=⟨_,rfl⟩
 rw[← hrc]at CG ⊢
 simp only[Nat.reduceAdd,di,seval]
 rw[← hlc]
 obtain ⟨B,hB⟩: ∃ B:List (Nat×aI),B=[(2,⟨true,lc⟩),(45,⟨true,rc⟩)]:=⟨_,rfl⟩
 have Ox: ∀ y ∈ lc,SV.ok (fun n=>n < 500) y:=fun y hy=>by
  rw[hlc]at hy
  simp only[bQ]at hy
  rcases hy with rfl | rfl | rfl | rfl | rfl
  ·exact ⟨trivial,rfl⟩
  ·exact ⟨trivial,rfl⟩
  ·exact ⟨trivial,rfl⟩
  ·exact ⟨trivial,rfl⟩
  ·exact SV.aL (fun n hn=>by omega) hdv
 have f2: ∀ D xb,mb B D xb 2=some ⟨true,lc⟩:=fun D xb=>by rw[hB];exact if_neg (by omega)
 have f45: ∀ D xb,mb B D xb 45=some ⟨true,rc⟩:=fun D xb=>by rw[hB];exact if_neg (by omega)
 have f5: ∀ D cs,mb B D [(500,⟨true,cs⟩)] 500=some ⟨true,cs⟩:=fun D cs=>by rw[hB];exact if_neg (by omega)
 have fk: ∀ D xb j,j < D→mb B D xb (1000+j)=some lI:=fun D xb j hj=>if_pos (by omega)
 have g2:lc[2]? =some (Sum.inl (Value.int IntKind.i64 lv)):=by rw[hlc];rfl
 have g3:lc[3]? =some (Sum.inl (Value.int IntKind.i64 nx)):=by rw[hlc];rfl
 have toB: ∀ {s:AS} {M D D' q q2:Nat} {E:List (Nat×AV)} {xb:List (Nat×aI)},M≤500→D≤8192→s.box 2=some ⟨true,lc⟩→s.box 45=some ⟨true,rc⟩→(D'=D∨D'=D+1)→(∀ x ∈ E,s.env x.1=some (AV.ren (r3 D q q2) x.2)∧AV.ok (fun n=>n < 20000) x.2)→q≠2→q≠45→q≠q2→ ¬ (1000≤q∧q < 1000+D)→1000+D≤q2→(∀ j,j < D→s.box (1000+j)=some lI)→(D'=D+1→s.box q2=some lI)→
   (xb=[]∨ ∃ cs,xb=[(500,⟨true,cs⟩)]∧s.box q=some ⟨true,cs.map (SV.ren (r3 D q q2))⟩∧ ∀ y ∈ cs,SV.ok (fun n=>n < 20000) y)→ll M s ⟨lk E,mb B D' xb,20000⟩:=fun hM h1 h2 h3 h4 h5 h6 h6' h7 h8 h9 h10 h11 h12=>
  FQ hM (by omega) h4 h5 (fun x hx=>by
   rw[hB]at hx
   simp only[bQ]at hx
   rcases hx with rfl | rfl
   ·exact ⟨(by decide:2 < 500),h2,Ox,by show 2≠_;omega⟩
   ·exact ⟨(by decide:45 < 500),h3,ao CG,by show 45≠_;omega⟩) h7 h8 h9 h10 h11 h12
 refine mQ nx (fun k t=> ∃ c cs,jw cs (nS 45 cR a n 1000 st k) c∧t=⟨lk [(0,I .i64 (r:Nat)),(4,Ptr 2 0),(7,Sl 500 0 (aT n+3+k) c),(8,I .i64 ((k:Nat):Int))],mb B k [(500,⟨true,cs⟩)],20000⟩) ?_ ⟨_,⟨c1,j7,by rw[aad];exact Cy,rfl⟩, ?_⟩ ?_ ?_
 ·rintro k t ⟨c,cs,_,rfl⟩
  show _≤20000
  simp only[AS.put]
  decide
 ·refine toB (D:=0) (q:=44) (q2:=1000) (by show _≤500;simp only[AS.put];decide) (by decide) (by simp only[ae,vR,seval]) (by simp only[ae,vR,seval]) (.inl rfl) (fun x hx=> ?_) (by decide) (by decide) (by decide) (by decide) (by decide) (fun j hj=>by omega) (fun h=>by cases h) (.inr ⟨j7,rfl, ?_,hY Cy (vp (by decide))⟩)
  ·simp only[bQ]at hx
   rcases hx with rfl | rfl | rfl | rfl
   ·exact ⟨by simp only[ae,vR,seval];rfl,trivial⟩
   ·exact ⟨by simp only[ae,vR,seval];rfl,(by decide:2 < 20000)⟩
   ·exact ⟨by simp only[ae,vR,seval];rfl,(by decide:500 < 20000)⟩
   ·exact ⟨by simp only[ae,vR,seval];rfl,trivial⟩
  ·rw[Ow (hY Cy (vp (by decide)))]
   simp only[ae,vR,seval]
 ·rintro k t hk ⟨c,cs,hX,rfl⟩
  have d1:decide ((k:Int) < (nx:Int))=true:=decide_eq_true (by omega)
  have wk:IntKind.i64.wrap ((k:Int)+1)=((k+1:Nat):Int):=bU k (by omega)
  have w2:IntKind.i64.wrap ((st:Int)+(k:Int))=((st+k:Nat):Int):=Rq _ _ (by omega)
  simp only[f2,g3,d1,di,seval]
  refine .inl ?_
  simp only[f2,g2,g3,w1,w2,wk,d1,di,seval]
  refine ⟨by kernel_rfl,by simp[dS],by kernel_rfl, ?_⟩
  have hXX:pS (Sl 500 0 (aT n+3+k) c) [(500,⟨true,cs⟩)] (nS 45 cR a n 1000 st k):= .inr ⟨c,cs,by rw[jx],rfl,hX⟩
  refine gX (L:=nS 45 cR a n 1000 st k) (x:=kY false ((st+k:Nat):Int) (.inr (.inr (20011,0,64,64)))) (.inr ⟨500,c,cs,by rw[jx],by simp only[ae,vR,seval,f5],hX,by decide⟩) (by simp only[FR,ae,vR,seval];rfl) rfl (by rw[jx];omega) fun bx c' cs' hA iR hnm=> ?_
  simp only[jx,wk,di,seval]
  obtain ⟨cs0,qd,rfl⟩:=gY (L:=nS 45 cR a n 1000 st (k+1)) (r:=r3 k 20014 20011) (by
   rw[Ql,List.map_append,BN (R':=45) (b':=1000) (qO (by decide)) (fun j hj=>Wa hj)]
   show jw cs' (nS 45 cR a n 1000 st k++[kY false ((st+k:Nat):Int) (.inr (.inr (r3 k 20014 20011 (1000+k),0,64,64)))]) c'
   rw[Wb]
   exact hA)
  refine ⟨_,⟨c',cs0,qd,rfl⟩, ?_⟩
  refine toB (D:=k) (q:=20014) (q2:=20011) (by decide) (by omega) ?_ ?_ (.inr rfl) (fun x hx=> ?_) (by decide) (by decide) (by decide) (by omega) (by omega) (fun j hj=> ?_) (fun _=> ?_) (.inr ⟨cs0,rfl,hnm,hY qd (yK (by decide) fun j hj=>by omega)⟩)
  ·show bx 2=_
   rw[iR 2 (by decide) (fun c=>hXX.ne (by decide) _ _)]
   simp only[ae,vR,seval,f2]
  ·show bx 45=_
   rw[iR 45 (by decide) (fun c=>hXX.ne (by decide) _ _)]
   simp only[ae,vR,seval,f45]
  ·simp only[bQ]at hx
   rcases hx with rfl | rfl | rfl | rfl
   ·exact ⟨by simp only[ae,vR,seval];rfl,trivial⟩
   ·exact ⟨by simp only[ae,vR,seval];show _=some (Ptr (r3 _ _ _ 2) 0);rw[qO (by decide)],(by decide:2 < 20000)⟩
   ·exact ⟨by simp only[ae,vR,seval];rfl,(by decide:500 < 20000)⟩
   ·exact ⟨by simp only[ae,vR,seval];rfl,trivial⟩
  ·show bx (1000+j)=_
   rw[iR _ (by omega) (fun c=>hXX.ne (by omega) _ _)]
   show upd (upd _ _ _) _ _ _=_
   rw[bh _ _ _ _ (by omega),bh _ _ _ _ (by omega)]
   exact fk _ _ j hj
  ·show bx 20011=_
   rw[iR _ (by decide) (fun c=>hXX.ne (by decide) _ _)]
   simp only[ae,vR,seval]
   rfl
 ·rintro t ⟨c,cs,hX,rfl⟩
  have d1:decide ((nx:Int) < (nx:Int))=false:=decide_eq_false (by omega)
  simp only[f2,g3,d1,di,seval]
  refine ⟨by simp[dS], ?_⟩
  refine gX (L:=nS 45 cR a n 1000 st nx) (x:=Wc) (.inr ⟨500,c,cs,by rw[jx],by simp only[ae,vR,seval,f5],hX,by decide⟩) (by simp only[FR,ae,vR,seval];rfl) rfl (by rw[jx];omega) fun bx c2 sm hA iR hnm=> ?_
  simp only[jx,di,seval]
  obtain ⟨qq,VQ⟩: ∃ qq:Nat→Nat,qq=fun j=>if j=0 then 20007 else if j=1 then 45 else 998+j:=⟨_,rfl⟩
  have q0:qq 0=20007:=by rw[VQ];rfl
  have q1:qq 1=45:=by rw[VQ];rfl
  have q2: ∀ j,qq (j+2)=1000+j:=fun j=>by
   rw[VQ]
   show (if j+2=0 then 20007 else if j+2=1 then 45 else 998+(j+2))=_
   rw[if_neg (by omega),if_neg (by omega)]
   omega
  have rr3:iu 2 qq 3=45:=q1
  have rr4: ∀ j,iu 2 qq (4+j)=1000+j:=fun j=>by
   unfold iu
   rw[if_neg (by omega),show 4+j - 2=j+2 by omega,q2]
  obtain ⟨cs0,qd,rfl⟩:=gY (L:=qQ 3 cR a n 4 st nx) (r:=iu 2 qq) (by
   unfold qQ
   rw[List.map_append,BN rr3 (b':=1000) (fun j hj=>rr4 j)]
   exact hA)
  refine ⟨qq,Sl 2 0 (aT n+3+nx+1) c2,fun t=>if t=2 then some ⟨true,cs0⟩ else if t=3 then some ⟨true,rc⟩ else if 4≤t∧t < 4+nx then some lI else none,fun j hj=> ?_,fun i j hi hj e=> ?_, ?_,(by show 2 < 2+(2+nx);omega),fun m b hb=> ?_,⟨c2,cs0,cR,tl,rfl,qd,hcR,rH,by rw[hrc]⟩⟩
  ·rcases j with _ | _ | j
   ·rw[q0];omega
   ·rw[q1];omega
   ·rw[q2];omega
  ·rcases i with _ | _ | i<;>rcases j with _ | _ | j<;>simp only[q0,q1,q2,Nat.zero_add]at e<;>omega
  ·show _=Sl (qq 0) 0 _ _
   rw[q0]
  ·have hb:(if m=2 then some ⟨true,cs0⟩ else if m=3 then some ⟨true,rc⟩ else if 4≤m∧m < 4+nx then some lI else none)=some b:=hb
   have bb: ∀ t,t≠20007→t≠500→bx t=upd (mb B nx [(500,⟨true,cs⟩)]) 20006 (some ⟨true,splice (dS [Value.bool false,Value.int IntKind.i64 0,Value.slice none 0 0] 3) 0 [Sum.inl (Value.bool true),Sum.inl (Value.int IntKind.i64 0),Sum.inl (Value.slice none 0 0)]⟩) t:=fun t h1 h2=>iR t h1 (fun c'=>(show pS (Sl 500 0 (aT n+3+nx) c) [(500,⟨true,cs⟩)] (nS 45 cR a n 1000 st nx) from .inr ⟨c,cs,by rw[jx],rfl,hX⟩).ne h2 _ c')
   split at hb
   ·rename_i hm
    cases hb
    subst hm
    refine ⟨by omega,fun _=>rfl,hY qd fun x hx=> ?_,⟨true,cs0.map (SV.ren (iu 2 qq))⟩, ?_,fun h=>h,rfl⟩
    ·unfold qQ at hx
     rw[List.mem_append]at hx
     rcases hx with hx | hx
     ·exact yK (by omega) (fun j hj=>by omega) x hx
     ·rw[List.mem_singleton]at hx
      subst hx
      exact FX
    ·show bx (qq 0)=_
     rw[q0]
     exact hnm
   ·split at hb
    ·rename_i _ hm
     cases hb
     subst hm
     refine ⟨by omega,fun _=>rfl,ao CG,⟨true,rc⟩, ?_,fun h=>h,(au CG _).symm⟩
     show bx (iu 2 qq 3)=_
     rw[rr3,bb _ (by decide) (by decide)]
     simp only[ae,vR,seval,f45]
    ·split at hb
     ·rename_i _ _ hm
      cases hb
      refine ⟨by omega,fun _=>rfl,ao az,lI, ?_,fun h=>h,(au az _).symm⟩
      show bx (iu 2 qq m)=_
      rw[show m=4+(m - 4) by omega,rr4,bb _ (by omega) (by omega),bh _ _ _ _ (by omega)]
      exact fk _ _ _ (by omega)
     ·cases hb
end
def Oz (ins:Nat→Option aI) (cells:List SV) (i:Nat) (x:Ac):Prop:=match x with
 | none=>(cells.drop (i*3)).take 3=kY true 0 (.inl (.slice none 0 0))
 | some p=> ∃ t o c r ds,(cells.drop (i*3)).take 3=kY false p.1 (.inr (.inr (t,o,64,c)))∧t < 20000∧ins t=some ⟨r,ds⟩∧aY ds o 64 p.2∧ds.all SV.plain=true
structure Qm (ins:Nat→Option aI) (n o c:Nat) (f:Nat→Int) (cs:List SV) (A:List Ac) (m:Nat) (cells:List SV) (kn:Nat) (kb:Nat→Bool) (ks:SV) (kc:List SV):Prop where
 b0: ∃ r,ins 0=some ⟨r,cs⟩
 p0:cs.all SV.plain=true
 s0:aY cs o n f
 b1:0 < A.length→ ∃ r,ins 1=some ⟨r,cells⟩
 a1: ∀ i x,A[i]? =some x→Oz ins cells i x
 l1:0 < A.length→3*A.length≤cells.length
 fit: ∀ (p:Pd),some p ∈ A→p.1 < m
 b2: ∃ r,ins 2=some ⟨r,kc⟩
 p2:kc.all SV.plain=true
 k:dE 2 ks kn kb kc
 all: ∀ i,i < 20000→ ∃ b,ins i=some b
 qY: ∀ i b,ins i=some b→i < 20000∧ ∀ x ∈ b.cells,SV.ok (fun n=>n < 20000) x
 ro: ∀ i b,ins i=some b→b.rw=false
def Tt (L:Nat) (v:AV):Prop:=(L=0∧v=V (.slice none 0 0))∨(∃ c,v=Sl 1 0 L c∧L≤c)
def uv (ins:Nat→Option aI) (fx:List (Nat×aI)) (n:Nat):Option aI:=if n < 20000 then ins n else lk fx n
section
variable {ins:Nat→Option aI} {n o c m kn cA:Nat} {f:Nat→Int} {cs cells kc:List SV} {A:List Ac} {kb:Nat→Bool} {ks:SV} {at_ cut:Int} {va:AV}
theorem JK (h:Qm ins n o c f cs A m cells kn kb ks kc) (hv:Tt A.length va): ∀ v ∈ [Sl 0 o n c,va,Ag (cI at_ cut ks)],AV.ok (fun n=>n < 20000) v:=fun v JZ=>by
 simp only[bQ]at JZ
 rcases JZ with rfl | rfl | rfl
 ·exact (by decide:0 < 20000)
 ·rcases hv with ⟨_,rfl⟩ | ⟨c,rfl,_⟩
  ·trivial
  ·exact (by decide:1 < 20000)
 ·exact ow h.k (by decide)
def QC (at_ cut:Int) (ks:SV) (n:Nat) (g:Nat→Int) (tl:List SV):List (Nat×aI):=[(20000,⟨true,cI at_ cut ks⟩),(20001,⟨true,[Sum.inl (.int .i64 0),Sum.inl (.slice none 0 0)]⟩),(20050,⟨true,ai .u8 n g++tl⟩)]
def UY (ins:Nat→Option aI) (at_ cut:Int) (ks:SV) (n:Nat) (g:Nat→Int) (tl:List SV) (E:List (Nat×AV)) (nx:Nat):AS:=⟨lk E,uv ins (QC at_ cut ks n g tl),nx⟩
def E1 (va:AV) (n c2 k w s:Nat):List (Nat×AV):=[(1,va),(5,Ptr 20000 0),(6,Ptr 20001 0),(7,Sl 20050 0 n c2),(8,I .i64 w),(9,I .i64 s),(10,I .i64 k)]
theorem nT {s:AS} {q M nx:Nat} {g:Nat→Int} {tl:List SV} {E:List (Nat×AV)} (h:Qm ins n o c f cs A m cells kn kb ks kc) (ht:tl.all SV.plain=true) (hq:20001 < q) (hM:M≤20050∨q=20050) (hx:20051≤nx)
  (hE: ∀ x ∈ E,s.env x.1=some (AV.ren (upd (fun n=>n) 20050 q) x.2)∧AV.ok (fun n=>n < nx) x.2) (hb: ∀ i,i < 20000→s.box i=ins i) (h0:s.box 20000=some ⟨true,cI at_ cut ks⟩) (h1:s.box 20001=some ⟨true,[Sum.inl (.int .i64 0),Sum.inl (.slice none 0 0)]⟩) (h2:s.box q=some ⟨true,ai .u8 n g++tl⟩):
  ll M s (UY ins at_ cut ks n g tl E nx):=by
 have lo: ∀ i,i < 20000→upd (fun n=>n) 20050 q i=i:=fun i hi=>bh _ _ _ _ (by omega)
 have key: ∀ i b,uv ins (QC at_ cut ks n g tl) i=some b→i < 20000∧ins i=some b∨20000≤i∧(i,b) ∈ QC at_ cut ks n g tl:=fun i b hb=>by
  unfold uv at hb
  split at hb
  ·rename_i hi;exact .inl ⟨hi,hb⟩
  ·rename_i hi;exact .inr ⟨by omega,bt _ _ _ hb⟩
 have hks:SV.ren (upd (fun n=>n) 20050 q) ks=ks:=SV.je (SV.br (fun n hn=>by subst hn;rfl) (h.k.ok (M:=fun n=>n=2) rfl).1)
 refine ⟨upd (fun n=>n) 20050 q,⟨fun d v hv=>(hE _ (bt _ _ _ hv)).1,fun i b UR=> ?_,fun i i' b b' UR hrw ae1 e=> ?_,fun d v hv=>(hE _ (bt _ _ _ hv)).2,fun i b UR=> ?_⟩,fun n hn=>by
  by_cases e:n=20050
  ·rcases hM with h1 | h1
   ·omega
   ·rw[e,aQ,h1]
  ·exact bh _ _ _ _ e⟩
 ·rcases key i b UR with ⟨hi,hb1⟩ | ⟨hi,hb1⟩
  ·rw[lo i hi,hb i hi]
   refine ⟨b,hb1,fun h=>h, ?_⟩
   conv=>lhs;rw[← List.map_id b.cells]
   exact List.map_congr_left fun x hx=>(SV.je (SV.br (fun n hn=>lo n hn) ((h.qY i b hb1).2 x hx).1)).symm
  ·simp only[QC,bQ,Prod.mk.injEq]at hb1
   rcases hb1 with ⟨rfl,rfl⟩ | ⟨rfl,rfl⟩ | ⟨rfl,rfl⟩
   ·refine ⟨_,h0,fun h=>h, ?_⟩
    show [_,ks,_]=[_,SV.ren (upd (fun n=>n) 20050 q) ks,_]
    rw[hks]
    rfl
   ·exact ⟨_,h1,fun h=>h,rfl⟩
   ·refine ⟨_,by rw[aQ];exact h2,fun h=>h,by rw[au (bY ht)]⟩
 ·have big: ∀ i,20000≤i→20000≤upd (fun n=>n) 20050 q i:=fun i hi=>by
   unfold upd
   split<;>omega
  rcases key i b UR with ⟨hi,hb1⟩ | ⟨hi,hb1⟩
  ·rw[h.ro i b hb1]at hrw;cases hrw
  rcases key i' b' ae1 with ⟨hi',hb2⟩ | ⟨hi',hb2⟩
  ·have:=big i hi
   rw[lo i' hi']at e
   omega
  ·simp only[QC,bQ,Prod.mk.injEq]at hb1 hb2
   have a1:upd (fun n=>n) 20050 q 20000=20000:=rfl
   have a2:upd (fun n=>n) 20050 q 20001=20001:=rfl
   have a3:upd (fun n=>n) 20050 q 20050=q:=aQ _ _ _
   rcases hb1 with ⟨rfl,_⟩ | ⟨rfl,_⟩ | ⟨rfl,_⟩<;>rcases hb2 with ⟨rfl,_⟩ | ⟨rfl,_⟩ | ⟨rfl,_⟩<;>first | rfl | (rw[a1,a2]at e;omega) | (rw[a2,a1]at e;omega) | (rw[a1,a3]at e;omega) | (rw[a3,a1]at e;omega) | (rw[a2,a3]at e;omega) | (rw[a3,a2]at e;omega)
 ·show i < nx∧ ∀ x ∈ b.cells,SV.ok (fun n=>n < nx) x
  rcases key i b UR with ⟨hi,hb1⟩ | ⟨hi,hb1⟩
  ·exact ⟨by omega,fun x hx=>SV.aL (fun n hn=>by omega) ((h.qY i b hb1).2 x hx)⟩
  ·simp only[QC,bQ,Prod.mk.injEq]at hb1
   rcases hb1 with ⟨rfl,rfl⟩ | ⟨rfl,rfl⟩ | ⟨rfl,rfl⟩
   ·exact ⟨by omega,ow h.k (by omega)⟩
   ·exact ⟨by omega,ao rfl⟩
   ·exact ⟨by omega,ao (bY ht)⟩
def Qn (g:Nat→Int) (x:Ac) (cut:Int):Nat→Int:=match x with
 | none=>g
 | some p=>fT g p.1 (eE cut) p.2
theorem Wd {box:Nat→Option aI} {t:Nat} {b:aI} (h:box t=some b):upd box t (some b)=box:=by
 funext i
 unfold upd
 split
 ·rename_i e;rw[e,h]
 ·rfl
theorem Qo {s:AS} {nm n c2 a t0 od cd:Nat} {rr:Bool} {g d:Nat→Int} {tl ds:List SV} {cut:Int} (hb:s.box 20050=some ⟨true,ai .u8 n g++tl⟩) (hc:n≤c2) (ht:tl.all SV.plain=true) (h0:s.box t0=some ⟨rr,ds⟩) (hne:t0 < 20000) (hs:aY ds od 64 d) (hp:ds.all SV.plain=true) (ha:64*a+64≤n) (hn:n≤1048576) {dst:Option Nat} {K:AS→Prop}
  (hK:K (({ s with box:=upd s.box 20050 (some ⟨true,ai .u8 n (fT g a (eE cut) d)++tl⟩) }:AS).put dst (some (Sum.inr [])))):av Tryz.prog nm 71 (some [Sl 20050 0 n c2,Ag (kY false a (.inr (.inr (t0,od,64,cd)))),I .i64 cut]) dst K s:=by
 refine (Z8 (f:=g) (cd:=cd) (cut:=cut) hc ht hs hp ha hn).av (two 20050 t0) (some 0) (Lg hb (bY ht) h0 hp (by omega)) rfl ?_
 rintro v out ⟨rfl,rfl⟩ _
 rw[IG (bY ht)]
 exact hK
theorem yL {l:List SV} {i:Nat} {a b c:SV} (h:(l.drop i).take 3=[a,b,c]):l[i]? =some a∧l[i+1]? =some b∧l[i+2]? =some c∧i+3≤l.length:=by
 have g: ∀ j,j < 3→l[i+j]? =([a,b,c]:List SV)[j]? :=fun j hj=>by
  rw[← h,List.getElem?_take_of_lt hj,List.getElem?_drop]
 have g2:=g 2 (by decide)
 have hl:i+2 < l.length:=by
  refine Classical.byContradiction fun hn=> ?_
  rw[List.getElem?_eq_none (by omega)]at g2
  cases g2
 exact ⟨g 0 (by decide),g 1 (by decide),g2,by omega⟩
theorem vq {s:AS} {nm c2 j:Nat} {g:Nat→Int} {tl:List SV} {x:Ac} {Wf:Int} (h:Qm ins n o c f cs A m cells kn kb ks kc) (hn:n=64*m) (hm:m≤8192) (hx:A[j]? =some x) (hb:s.box 20050=some ⟨true,ai .u8 n g++tl⟩) (hc:n≤c2) (ht:tl.all SV.plain=true) (hlo: ∀ i,i < 20000→s.box i=ins i) {dst:Option Nat} {K:AS→Prop}
  (hK:K (({ s with box:=upd s.box 20050 (some ⟨true,ai .u8 n (Qn g x Wf)++tl⟩) }:AS).put dst (some (Sum.inr [])))):av Tryz.prog nm 71 (some [Sl 20050 0 n c2,Ag ((cells.drop (j*3)).take 3),I .i64 Wf]) dst K s:=by
 have hact:=h.a1 j x hx
 rcases x with _ | p
 ·rw[show (cells.drop (j*3)).take 3=kY true 0 (.inl (.slice none 0 0)) from hact]
  have hK:K (({ s with box:=upd s.box 20050 (some ⟨true,ai .u8 n g++tl⟩) }:AS).put dst (some (Sum.inr []))):=hK
  rw[Wd hb]at hK
  exact (V' (n:=n) (c:=c2) (f:=g) (cut:=Wf) ht).cG (fun _=>20050) (bZ hb (bY ht)) rfl rfl hK
 ·obtain ⟨t0,o0,c0,rr,ds,hc3,ht0,hi0,hsd,hpd⟩:=hact
  rw[hc3]
  have hfit:=h.fit p (List.mem_of_getElem? hx)
  exact Qo hb hc ht (by rw[hlo t0 ht0];exact hi0) ht0 hsd hpd (by omega) (by omega) hK
theorem yM {j:Nat} {x:Ac} (h:Qm ins n o c f cs A m cells kn kb ks kc) (hx:A[j]? =some x):j*3+3≤cells.length:=by
 have hact:=h.a1 j x hx
 rcases x with _ | p
 ·exact (yL (show (cells.drop (j*3)).take 3=[_,_,_] from hact)).2.2.2
 ·obtain ⟨t0,o0,c0,rr,ds,hc3,_⟩:=hact
  exact (yL hc3).2.2.2
def E3 (va:AV) (n c2 j:Nat):List (Nat×AV):=[(1,va),(6,Ptr 20001 0),(7,Sl 20050 0 n c2),(12,I .i64 j)]
theorem FY {s:AS} {k:Nat} {v:AV} {Q Q':AV→(Nat→Option aI)→Prop} (hi: ∀ v out,Q v out→Q' v out) (h:m8 k Q v s):m8 k Q' v s:=by
 obtain ⟨q,v0,out,a,b,c,d,e⟩:=h
 exact ⟨q,v0,out,a,b,c,d,hi _ _ e⟩
def E2 (va:AV) (n c2 i s j:Nat):List (Nat×AV):=[(1,va),(5,Ptr 20000 0),(6,Ptr 20001 0),(7,Sl 20050 0 n c2),(9,I .i64 s),(10,I .i64 i),(11,I .i64 j)]
theorem Tv (h:Qm ins n o c f cs A m cells kn kb ks kc) (hv:Tt A.length va) (hn:n=64*m) (hm:m≤8192) (hA:A.length≤1000000):
  bd Tryz.prog 42 [Sl 0 o n c,va,Ag (cI at_ cut ks)] 20000 ins (fun v out=> ∃ code g,Tl kn kb cut f A at_ code g∧cX 20000 code n g v out):=by
 refine cy Tryz.func42 rfl (by kernel_rfl) [] [] (by simp[Tryz.ntmps42]) Tryz.tq (JK h hv) h.all h.qY ?_
 have hz:zeroOf Tryz.prog 40=some [.int .i64 0, .slice none 0 0]:=by kernel_rfl
 obtain ⟨r0,hb0⟩:=h.b0
 simp only[Tryz.results42,hz,cN,cO,cQ,aM,ib,seval]
 refine dC (g:=f) Tryz.eK Tryz.fc (f:=fun _=>0) (cs:=ai .u8 0 fun _=>0) (n:=0) (by simp only[ae,vR,seval]) ⟨rfl,by decide,rfl,fun i hi=>by omega⟩ (.inr ⟨0,_,_,r0,cs,rfl,by simp only[ae,vR,seval];exact hb0,h.s0,by decide⟩) (by omega) fun c2 j7 fS=> ?_
 simp only[FL,Nat.zero_add]at fS
 simp only[hz,Nat.zero_add,cN,cO,cQ,aM,ib,seval]
 obtain ⟨tl,rH,rfl⟩: ∃ tl:List SV,tl.all SV.plain=true∧j7=ai .u8 n f++tl:=⟨j7.drop n,by
  have:=fS.plain
  rw[List.all_eq_true]at this ⊢
  exact fun x hx=>this x (List.mem_of_mem_drop hx),by
  have:=qt fS.shows (by have:=fS.len;have:=fS.room;omega)
  simpa using this⟩
 have hroom:=fS.room
 have hva:AV.ren (upd (fun n=>n) 20050 20004) va=va∧AV.ok (fun n=>n < 20100) va:=by
  rcases hv with ⟨_,rfl⟩ | ⟨c,rfl,_⟩
  ·exact ⟨rfl,trivial⟩
  ·exact ⟨rfl,(by decide:1 < 20100)⟩
 refine mQ A.length (fun k t=> ∃ w s,t=UY ins at_ cut ks n f tl (E1 va n c2 k w s) 20100∧s≤k∧Tg A s k∧(s=0∨A[s - 1]? =some none)∧w=(m9 (A.take k)).length∧ ¬ (1≤at_∧at_≤w)) ?_ ⟨_,⟨0,0,rfl,Nat.le_refl 0,fun j h1 h2=>by omega, .inl rfl,rfl,by omega⟩, ?_⟩ ?_ ?_
 ·rintro k t ⟨w,s,rfl,_⟩
  show 20009≤20100
  decide
 ·refine nT h rH (q:=20004) (by decide) (.inl (by show 20009≤20050;decide)) (by decide) (fun x hx=> ?_) (fun i hi=> ?_) ?_ ?_ ?_
  ·simp only[E1,bQ]at hx
   rcases hx with rfl | rfl | rfl | rfl | rfl | rfl | rfl
   ·exact ⟨by rw[hva.1];simp only[ae,vR,seval],hva.2⟩
   ·exact ⟨by simp only[ae,vR,seval];rfl,(by decide:20000 < 20100)⟩
   ·exact ⟨by simp only[ae,vR,seval];rfl,(by decide:20001 < 20100)⟩
   ·exact ⟨by simp only[ae,vR,seval];rfl,(by decide:20050 < 20100)⟩
   ·exact ⟨by simp only[ae,vR,seval];rfl,trivial⟩
   ·exact ⟨by simp only[ae,vR,seval];rfl,trivial⟩
   ·exact ⟨by simp only[ae,vR,seval];rfl,trivial⟩
  ·simp only[upd]
   (repeat rw[if_neg (by omega)])
  ·simp only[ae,vR,seval]
  ·simp only[ae,vR,seval]
  ·simp only[ae,vR,seval]
 ·rintro k t hk ⟨w,s,rfl,hsk,hw,hf0,US,qc⟩
  obtain ⟨r1,hb1⟩:=h.b1 (by omega)
  obtain ⟨cA,rfl,hcA⟩: ∃ cA,va=Sl 1 0 A.length cA∧A.length≤cA:=by
   rcases hv with ⟨h0,_⟩ | ⟨c,h1,h2⟩
   ·omega
   ·exact ⟨c,h1,h2⟩
  have d1:decide ((k:Int) < (A.length:Int))=true:=decide_eq_true (by omega)
  have l1:((k:Int) < (A.length:Int))=True:=eq_true (by omega)
  have jj: ∀ fx,uv ins fx 1=some ⟨r1,cells⟩:=fun fx=>by
   unfold uv
   rw[if_pos (by decide)]
   exact hb1
  obtain ⟨x,hx⟩: ∃ x,A[k]? =some x:=⟨_,List.getElem?_eq_getElem hk⟩
  have hact:=h.a1 k x hx
  simp only[UY,E1,d1,aM,ib,seval]
  simp only[l1,jj,aF,aM,ib,seval]
  rcases x with _ | p
  ·obtain ⟨g1,g2,g3,g4⟩:=yL (show (cells.drop (k*3)).take 3=[_,_,_] from hact)
   have wk:IntKind.i64.wrap ((k:Int)+1)=((k+1:Nat):Int):=bU k (by omega)
   simp only[g1,wk,aM,ib,seval]
   refine ⟨_,⟨w,k+1,rfl,Nat.le_refl _,fun j h1 h2=>by omega, .inr hx,by rw[FP hx];exact US,qc⟩,nT h rH (q:=20050) (by decide) (.inl (by show 20009≤20050;decide)) (by decide) (fun x hx=> ?_) (fun i hi=>if_pos hi) rfl rfl rfl⟩
   simp only[bQ]at hx
   rcases hx with rfl | rfl | rfl | rfl | rfl | rfl | rfl
   ·exact ⟨by simp only[ae,vR,seval];rfl,(by decide:1 < 20100)⟩
   ·exact ⟨by simp only[ae,vR,seval];rfl,(by decide:20000 < 20100)⟩
   ·exact ⟨by simp only[ae,vR,seval];rfl,(by decide:20001 < 20100)⟩
   ·exact ⟨by simp only[ae,vR,seval];rfl,(by decide:20050 < 20100)⟩
   ·exact ⟨by simp only[ae,vR,seval];rfl,trivial⟩
   ·exact ⟨by simp only[ae,vR,seval];rfl,trivial⟩
   ·exact ⟨by simp only[ae,vR,seval];rfl,trivial⟩
  ·obtain ⟨t0,o0,c0,rr,ds,hc3,ht0,hi0,hsd,hpd⟩:=hact
   obtain ⟨g1,g2,g3,g4⟩:=yL hc3
   have wk:IntKind.i64.wrap ((k:Int)+1)=((k+1:Nat):Int):=bU k (by omega)
   have hwb:w≤1000000:=by
    have:=List.length_filterMap_le id (A.take k)
    rw[List.length_take]at this
    have e:(m9 (A.take k)).length=(List.filterMap id (A.take k)).length:=rfl
    omega
   have ww:IntKind.i64.wrap ((w:Int)+1)=((w+1:Nat):Int):=bU w (by omega)
   have ae2:(cI at_ cut ks)[0]? =some (.inl (.int .i64 at_)):=rfl
   simp only[Option.isNone_some,g1,wk,ww,uv,QC,ae2,aM,ib,seval]
   by_cases pG:((w+1:Nat):Int)=at_
   case neg=>
    have d2:(((w+1:Nat):Int)==at_)=false:=by simp;omega
    simp only[d2,wk,ww,aM,ib,seval]
    refine ⟨_,⟨w+1,s,rfl,by omega,fun j h1 h2=>by
          rcases Nat.lt_or_ge j k with h3 | h3
          ·exact hw j h1 h3
          ·rw[show j=k by omega];exact ⟨p,hx⟩,hf0,by rw[yJ hx,List.length_append,US];rfl,by omega⟩,nT h rH (q:=20050) (by decide) (.inl (by show 20009≤20050;decide)) (by decide) (fun x hx=> ?_) (fun i hi=>if_pos hi) rfl rfl rfl⟩
    simp only[bQ]at hx
    rcases hx with rfl | rfl | rfl | rfl | rfl | rfl | rfl
    ·exact ⟨by simp only[ae,vR,seval];rfl,(by decide:1 < 20100)⟩
    ·exact ⟨by simp only[ae,vR,seval];rfl,(by decide:20000 < 20100)⟩
    ·exact ⟨by simp only[ae,vR,seval];rfl,(by decide:20001 < 20100)⟩
    ·exact ⟨by simp only[ae,vR,seval];rfl,(by decide:20050 < 20100)⟩
    ·exact ⟨by simp only[ae,vR,seval];rfl,trivial⟩
    ·exact ⟨by simp only[ae,vR,seval];rfl,trivial⟩
    ·exact ⟨by simp only[ae,vR,seval];rfl,trivial⟩
   have d2:(((w+1:Nat):Int)==at_)=true:=by simp;omega
   simp only[d2,wk,ww,aM,ib,seval]
   refine mQ k (fun j t=>t=UY ins at_ cut ks n (iM kn kb f A s j) tl (E2 (Sl 1 0 A.length cA) n c2 k s j) 20200) ?_ ⟨_,rfl, ?_⟩ ?_ ?_
   ·rintro j t rfl
    show _≤20200
    simp only[AS.put]
    decide
   ·rw[acf]
    refine nT h rH (q:=20050) (by decide) (.inr rfl) (by decide) (fun x hx=> ?_) (fun i hi=>if_pos hi) rfl rfl rfl
    simp only[E2,bQ]at hx
    rcases hx with rfl | rfl | rfl | rfl | rfl | rfl | rfl
    ·exact ⟨by simp only[ae,vR,seval];rfl,(by decide:1 < 20200)⟩
    ·exact ⟨by simp only[ae,vR,seval];rfl,(by decide:20000 < 20200)⟩
    ·exact ⟨by simp only[ae,vR,seval];rfl,(by decide:20001 < 20200)⟩
    ·exact ⟨by simp only[ae,vR,seval];rfl,(by decide:20050 < 20200)⟩
    ·exact ⟨by simp only[ae,vR,seval];rfl,trivial⟩
    ·exact ⟨by simp only[ae,vR,seval];rfl,trivial⟩
    ·exact ⟨by simp only[ae,vR,seval];rfl,trivial⟩
   ·rintro j t hj rfl
    have hj1:decide ((j:Int) < (k:Int))=true:=decide_eq_true (by omega)
    simp only[UY,E2,hj1,aM,ib,seval]
    have lj:((j:Int) < (A.length:Int))=True:=eq_true (by omega)
    have wj:IntKind.i64.wrap ((j:Int)+1)=((j+1:Nat):Int):=bU j (by omega)
    obtain ⟨xj,yh⟩: ∃ x,A[j]? =some x:=⟨_,List.getElem?_eq_getElem (by omega)⟩
    by_cases hjs:j < s
    ·have d3:decide ((j:Int) < (s:Int))=true:=decide_eq_true (by omega)
     have hpre:Qn (iM kn kb f A s j) xj 64=iM kn kb f A s (j+1):=by
      rcases xj with _ | pj
      ·exact (Qg hjs yh).symm
      ·exact (Tj hjs yh).symm
     simp only[d3,lj,jj,aF,aM,ib,seval]
     refine ⟨yM h yh, ?_⟩
     refine vq h hn hm yh (g:=iM kn kb f A s j) rfl hroom rH (fun i hi=>if_pos hi) ?_
     simp only[wj,aM,ib,seval]
     refine ⟨_,rfl, ?_⟩
     rw[← hpre]
     refine nT h rH (q:=20050) (by decide) (.inr rfl) (by decide) (fun x hx=> ?_) (fun i hi=> ?_) ?_ ?_ ?_
     rotate_left
     ·show upd _ 20050 _ i=_
      rw[bh _ _ _ _ (by omega)]
      exact if_pos hi
     ·rfl
     ·rfl
     ·simp only[ae,vR,seval]
     simp only[E2,bQ]at hx
     rcases hx with rfl | rfl | rfl | rfl | rfl | rfl | rfl
     ·exact ⟨by simp only[ae,vR,seval];rfl,(by decide:1 < 20200)⟩
     ·exact ⟨by simp only[ae,vR,seval];rfl,(by decide:20000 < 20200)⟩
     ·exact ⟨by simp only[ae,vR,seval];rfl,(by decide:20001 < 20200)⟩
     ·exact ⟨by simp only[ae,vR,seval];rfl,(by decide:20050 < 20200)⟩
     ·exact ⟨by simp only[ae,vR,seval];rfl,trivial⟩
     ·exact ⟨by simp only[ae,vR,seval];rfl,trivial⟩
     ·exact ⟨by simp only[ae,vR,seval];rfl,trivial⟩
    have d3:decide ((j:Int) < (s:Int))=false:=decide_eq_false (by omega)
    obtain ⟨pj,hpj⟩:=hw j (by omega) hj
    have hxe:xj=some pj:=by rw[yh]at hpj;exact Option.some.inj hpj
    subst hxe
    have aae:IntKind.i64.wrap ((j:Int) - (s:Int))=((j - s:Nat):Int):=by
     rw[wrap_i64 _ (by omega) (by omega)]
     omega
    have hpw:=Tk (kn:=kn) (kb:=kb) (f:=f) (show s≤j by omega) (fun i h1 h2=>hw i h1 (by omega)) yh
    have Tw:=h.k.len
    have aaf:(cI at_ cut ks)[1]? =some ks:=rfl
    by_cases hkn:j - s < kn
    case neg=>
     have d4:decide (((j - s:Nat):Int) < (kn:Int))=false:=decide_eq_false (by omega)
     have hpre:iM kn kb f A s (j+1)=iM kn kb f A s j:=by
      rw[hpw,if_neg (fun h=>hkn h.1)]
     simp only[d3,uv,QC,aaf,Tw,aae,d4,wj,aM,ib,seval]
     refine ⟨_,rfl, ?_⟩
     rw[hpre]
     refine nT h rH (q:=20050) (by decide) (.inr rfl) (by decide) (fun x hx=> ?_) (fun i hi=>if_pos hi) rfl rfl rfl
     simp only[E2,bQ]at hx
     rcases hx with rfl | rfl | rfl | rfl | rfl | rfl | rfl
     ·exact ⟨by simp only[ae,vR,seval];rfl,(by decide:1 < 20200)⟩
     ·exact ⟨by simp only[ae,vR,seval];rfl,(by decide:20000 < 20200)⟩
     ·exact ⟨by simp only[ae,vR,seval];rfl,(by decide:20001 < 20200)⟩
     ·exact ⟨by simp only[ae,vR,seval];rfl,(by decide:20050 < 20200)⟩
     ·exact ⟨by simp only[ae,vR,seval];rfl,trivial⟩
     ·exact ⟨by simp only[ae,vR,seval];rfl,trivial⟩
     ·exact ⟨by simp only[ae,vR,seval];rfl,trivial⟩
    have d4:decide (((j - s:Nat):Int) < (kn:Int))=true:=decide_eq_true (by omega)
    have l4:(((j - s:Nat):Int) < (kn:Int))=True:=eq_true (by omega)
    obtain ⟨ok,ck,rfl,hkb⟩: ∃ ok ck,ks= .inr (.inr (2,ok,kn,ck))∧ ∀ i,i < kn→kc[ok+i]? =some (Sum.inl (.bool (kb i))):=by
     rcases h.k with ⟨_,h0⟩ | h1
     ·omega
     ·exact h1
    obtain ⟨r2,hb2⟩:=h.b2
    have hf2: ∀ fx,uv ins fx 2=some ⟨r2,kc⟩:=fun fx=>by
     unfold uv
     rw[if_pos (by decide)]
     exact hb2
    have hkj:=hkb (j - s) hkn
    have hfc: ∀ ks g,uv ins (QC at_ cut ks n g tl) 20000=some ⟨true,cI at_ cut ks⟩:=fun ks g=>rfl
    simp only[d3,hfc,aaf,Tw,aae,d4,wj,aM,ib,seval]
    simp only[hfc,hf2,l4,hkj,aF,Nat.mul_one,aaf,Tw,aae,wj,aM,ib,seval]
    by_cases hkk:kb (j - s)=true
    ·have hpre:Qn (iM kn kb f A s j) (some pj) 64=iM kn kb f A s (j+1):=by
      rw[hpw,if_pos ⟨hkn,hkk⟩]
      rfl
     refine cz hkk ?_
     simp only[lj,jj,aF,aM,ib,seval]
     refine ⟨yM h yh, ?_⟩
     refine vq h hn hm yh (g:=iM kn kb f A s j) rfl hroom rH (fun i hi=>if_pos hi) ?_
     simp only[wj,aM,ib,seval]
     refine ⟨_,rfl, ?_⟩
     rw[← hpre]
     refine nT h rH (q:=20050) (by decide) (.inr rfl) (by decide) (fun x hx=> ?_) (fun i hi=> ?_) ?_ ?_ ?_
     rotate_left
     ·show upd _ 20050 _ i=_
      rw[bh _ _ _ _ (by omega)]
      exact if_pos hi
     ·rfl
     ·rfl
     ·simp only[ae,vR,seval]
     simp only[E2,bQ]at hx
     rcases hx with rfl | rfl | rfl | rfl | rfl | rfl | rfl
     ·exact ⟨by simp only[ae,vR,seval];rfl,(by decide:1 < 20200)⟩
     ·exact ⟨by simp only[ae,vR,seval];rfl,(by decide:20000 < 20200)⟩
     ·exact ⟨by simp only[ae,vR,seval];rfl,(by decide:20001 < 20200)⟩
     ·exact ⟨by simp only[ae,vR,seval];rfl,(by decide:20050 < 20200)⟩
     ·exact ⟨by simp only[ae,vR,seval];rfl,trivial⟩
     ·exact ⟨by simp only[ae,vR,seval];rfl,trivial⟩
     ·exact ⟨by simp only[ae,vR,seval];rfl,trivial⟩
    ·have hpre:iM kn kb f A s (j+1)=iM kn kb f A s j:=by
      rw[hpw,if_neg (fun h=>hkk h.2)]
     refine bR (by simpa using hkk) ?_
     simp only[wj,aM,ib,seval]
     refine ⟨_,rfl, ?_⟩
     rw[hpre]
     refine nT h rH (q:=20050) (by decide) (.inr rfl) (by decide) (fun x hx=> ?_) (fun i hi=>if_pos hi) rfl rfl rfl
     simp only[E2,bQ]at hx
     rcases hx with rfl | rfl | rfl | rfl | rfl | rfl | rfl
     ·exact ⟨by simp only[ae,vR,seval];rfl,(by decide:1 < 20200)⟩
     ·exact ⟨by simp only[ae,vR,seval];rfl,(by decide:20000 < 20200)⟩
     ·exact ⟨by simp only[ae,vR,seval];rfl,(by decide:20001 < 20200)⟩
     ·exact ⟨by simp only[ae,vR,seval];rfl,(by decide:20050 < 20200)⟩
     ·exact ⟨by simp only[ae,vR,seval];rfl,trivial⟩
     ·exact ⟨by simp only[ae,vR,seval];rfl,trivial⟩
     ·exact ⟨by simp only[ae,vR,seval];rfl,trivial⟩
   ·rintro t rfl
    have hj1:decide ((k:Int) < (k:Int))=false:=decide_eq_false (by omega)
    simp only[UY,E2,hj1,aM,ib,seval]
    refine .inl ?_
    have hfc: ∀ ks g,uv ins (QC at_ cut ks n g tl) 20000=some ⟨true,cI at_ cut ks⟩:=fun ks g=>rfl
    have ae4:(cI at_ cut ks)[2]? =some (.inl (.int .i64 cut)):=rfl
    have J0:((k:Int) < (A.length:Int))=True:=eq_true (by omega)
    simp only[hfc,jj,ae4,J0,aF,aM,ib,seval]
    refine ⟨by kernel_rfl,yM h hx, .inr (.inr (.inr ⟨by kernel_rfl, ?_⟩))⟩
    simp only[aM,ib,seval]
    refine vq h hn hm hx (g:=iM kn kb f A s k) (Wf:=cut) rfl hroom rH (fun i hi=>if_pos hi) ?_
    have hz1: ∀ ks g,uv ins (QC at_ cut ks n g tl) 20001=some ⟨true,[Sum.inl (.int .i64 0),Sum.inl (.slice none 0 0)]⟩:=fun ks g=>rfl
    simp only[hz,hz1,cN,cO,cQ,aM,ib,seval]
    refine FY ?_ (bM (q:=20050) (k:=20000) (code:=12) (g:=Qn (iM kn kb f A s k) (some p) cut) (cs:=ai .u8 n (Qn (iM kn kb f A s k) (some p) cut)++tl) (by decide) (by simp only[ae,vR,seval]) dy (bY rH) hroom)
    exact fun v out ho=>⟨12,_,Or.inl ⟨k,s,p,hx,by rw[← US];omega,hsk,hw,hf0,rfl,rfl⟩,ho⟩
 ·rintro t ⟨w,s,rfl,hsk,hw,hf0,US,qc⟩
  have hlv:eM 1 (some [va])=some (some (I .i64 A.length),none):=by
   rcases hv with ⟨h0,rfl⟩ | ⟨cA,rfl,hcA⟩
   ·rw[h0];rfl
   ·rfl
  have d1:decide ((A.length:Int) < (A.length:Int))=false:=decide_eq_false (by omega)
  simp only[UY,E1,hlv,d1,aM,ib,seval]
  have hvr:AV.ren (upd (fun n=>n) 20050 20050) va=va∧AV.ok (fun n=>n < 20200) va:=by
   rcases hv with ⟨_,rfl⟩ | ⟨c,rfl,_⟩
   ·exact ⟨rfl,trivial⟩
   ·exact ⟨rfl,(by decide:1 < 20200)⟩
  have hz1: ∀ ks g,uv ins (QC at_ cut ks n g tl) 20001=some ⟨true,[Sum.inl (.int .i64 0),Sum.inl (.slice none 0 0)]⟩:=fun ks g=>rfl
  refine mQ A.length (fun j t=>t=UY ins at_ cut ks n (dT f (m9 (A.take j))) tl (E3 va n c2 j) 20200) ?_ ⟨_,rfl, ?_⟩ ?_ ?_
  ·rintro j t rfl
   show _≤20200
   simp only[AS.put]
   decide
  ·refine nT h rH (q:=20050) (by decide) (.inr rfl) (by decide) (fun x hx=> ?_) (fun i hi=>if_pos hi) rfl rfl rfl
   simp only[E3,bQ]at hx
   rcases hx with rfl | rfl | rfl | rfl
   ·exact ⟨by rw[hvr.1];simp only[ae,vR,seval],hvr.2⟩
   ·exact ⟨by simp only[ae,vR,seval];rfl,(by decide:20001 < 20200)⟩
   ·exact ⟨by simp only[ae,vR,seval];rfl,(by decide:20050 < 20200)⟩
   ·exact ⟨by simp only[ae,vR,seval];rfl,trivial⟩
  ·rintro j t hj rfl
   obtain ⟨r1,hb1⟩:=h.b1 (by omega)
   obtain ⟨cA,rfl,hcA⟩: ∃ cA,va=Sl 1 0 A.length cA∧A.length≤cA:=by
    rcases hv with ⟨h0,_⟩ | ⟨c,h1,h2⟩
    ·omega
    ·exact ⟨c,h1,h2⟩
   have hj1:decide ((j:Int) < (A.length:Int))=true:=decide_eq_true (by omega)
   have lj:((j:Int) < (A.length:Int))=True:=eq_true (by omega)
   have wj:IntKind.i64.wrap ((j:Int)+1)=((j+1:Nat):Int):=bU j (by omega)
   have jj: ∀ fx,uv ins fx 1=some ⟨r1,cells⟩:=fun fx=>by
    unfold uv
    rw[if_pos (by decide)]
    exact hb1
   obtain ⟨xj,yh⟩: ∃ x,A[j]? =some x:=⟨_,List.getElem?_eq_getElem hj⟩
   have hpre:Qn (dT f (m9 (A.take j))) xj 64=dT f (m9 (A.take (j+1))):=by
    rcases xj with _ | pj
    ·rw[FP yh]
     rfl
    ·rw[yJ yh,oo]
     rfl
   simp only[UY,E3,hj1,aM,ib,seval]
   simp only[lj,jj,aF,aM,ib,seval]
   refine ⟨yM h yh, ?_⟩
   refine vq h hn hm yh (g:=dT f (m9 (A.take j))) rfl hroom rH (fun i hi=>if_pos hi) ?_
   simp only[wj,aM,ib,seval]
   refine ⟨_,rfl, ?_⟩
   rw[← hpre]
   refine nT h rH (q:=20050) (by decide) (.inr rfl) (by decide) (fun x hx=> ?_) (fun i hi=> ?_) ?_ ?_ ?_
   rotate_left
   ·show upd _ 20050 _ i=_
    rw[bh _ _ _ _ (by omega)]
    exact if_pos hi
   ·rfl
   ·rfl
   ·simp only[ae,vR,seval]
   simp only[E3,bQ]at hx
   rcases hx with rfl | rfl | rfl | rfl
   ·exact ⟨by simp only[ae,vR,seval];rfl,(by decide:1 < 20200)⟩
   ·exact ⟨by simp only[ae,vR,seval];rfl,(by decide:20001 < 20200)⟩
   ·exact ⟨by simp only[ae,vR,seval];rfl,(by decide:20050 < 20200)⟩
   ·exact ⟨by simp only[ae,vR,seval];rfl,trivial⟩
  ·rintro t rfl
   simp only[UY,E3,hlv,d1,aM,ib,seval]
   simp only[hz,hz1,cN,cO,cQ,aM,ib,seval]
   rw[List.take_length]at US
   rw[List.take_length]
   refine FY ?_ (bM (q:=20050) (k:=20000) (code:=0) (g:=dT f (m9 A)) (cs:=ai .u8 n (dT f (m9 A))++tl) (by decide) ?_ dy (bY rH) hroom)
   ·exact fun v out ho=>⟨0,_,Or.inr ⟨by rw[← US];exact qc,rfl,rfl⟩,ho⟩
   ·simp only[ae,vR,seval]
    rfl
end
def aag (ins:Nat→Option aI) (l:List SV) (x:Ac):Prop:=match x with
 | none=>l=Wc
 | some p=> ∃ t o c r ds,l=kY false p.1 (.inr (.inr (t,o,64,c)))∧t < 20000∧ins t=some ⟨r,ds⟩∧aY ds o 64 p.2∧ds.all SV.plain=true
def gK (ins:Nat→Option aI) (L:List (List SV)) (A:List Ac):Prop:=L.length=A.length∧ ∀ (i:Nat) (l:List SV) (x:Ac),L[i]? =some l→A[i]? =some x→aag ins l x
theorem gK.append {ins:Nat→Option aI} {L L':List (List SV)} {A A':List Ac} (h:gK ins L A) (h':gK ins L' A'):gK ins (L++L') (A++A'):=by
 refine ⟨by rw[List.length_append,List.length_append,h.1,h'.1],fun i l x hl hx=> ?_⟩
 rcases Nat.lt_or_ge i L.length with hi | hi
 ·rw[List.getElem?_append_left hi]at hl
  rw[List.getElem?_append_left (by rw[← h.1];exact hi)]at hx
  exact h.2 i l x hl hx
 ·rw[List.getElem?_append_right hi]at hl
  rw[List.getElem?_append_right (by rw[← h.1];exact hi), ← h.1]at hx
  exact h'.2 _ l x hl hx
theorem gK.one {ins:Nat→Option aI} {l:List SV} {x:Ac} (h:aag ins l x):gK ins [l] [x]:=⟨rfl,fun i l' x' hl hx=>by
 rcases i with _ | i
 ·cases hl;cases hx;exact h
 ·cases hl⟩
theorem gK.fl {ins:Nat→Option aI}:gK ins [Wc] [none]:=gK.one rfl
theorem JL {tail:List SV}: ∀ {L:List (List SV)} {i:Nat} {l:List SV},(∀ x ∈ L,x.length=3)→L[i]? =some l→((L.flatten++tail).drop (i*3)).take 3=l
 | [],i,l,_,h=>by cases h
 | x::L,0,l,hx,h=>by
  cases h
  have:=hx x (List.mem_cons_self ..)
  rw[List.flatten_cons,List.append_assoc,Nat.zero_mul,List.drop_zero, ← this,List.take_left]
 | x::L,i+1,l,hx,h=>by
  have h3:=hx x (List.mem_cons_self ..)
  rw[List.flatten_cons,List.append_assoc,show (i+1)*3=x.length+i*3 by omega, ← List.drop_drop,List.drop_left]
  exact JL (fun y hy=>hx y (List.mem_cons_of_mem _ hy)) h
theorem OA {ins:Nat→Option aI} {cells:List SV} {L:List (List SV)} {A:List Ac} {c:Nat} (hB:jw cells L c) (hI:gK ins L A):(∀ (i:Nat) (x:Ac),A[i]? =some x→Oz ins cells i x)∧3*A.length≤cells.length∧A.length≤c:=by
 obtain ⟨tail,rfl,h1,h2,h3,h4⟩:=hB
 refine ⟨fun i x hx=> ?_, ?_,by rw[← hI.1];exact h1⟩
 ·have hi:=(List.getElem?_eq_some_iff.1 hx).1
  obtain ⟨l,hl⟩: ∃ l,L[i]? =some l:=⟨_,List.getElem?_eq_getElem (by rw[hI.1];exact hi)⟩
  have hg:=JL (tail:=tail) h4 hl
  have ho:=hI.2 i l x hl hx
  unfold Oz
  unfold aag at ho
  rcases x with _ | p
  ·rw[hg];exact ho
  ·obtain ⟨t,o,c,r,ds,rfl,k⟩:=ho
   exact ⟨t,o,c,r,ds,hg,k⟩
 ·rw[List.length_append,Xp h4, ← hI.1]
  omega
theorem OB {ins:Nat→Option aI} {b:Nat} {L:List Nat} (hb:b+L.length≤20000) (h: ∀ j,j < L.length→ ∃ r,ins (b+j)=some ⟨r,ai .u8 64 zF⟩):gK ins (zA b L) ((zL L).map some):=by
 refine ⟨by rw[ki,List.length_map,zL,List.length_map],fun i l x hl hx=> ?_⟩
 unfold zA at hl
 unfold zL at hx
 rw[List.getElem?_mapIdx]at hl
 rw[List.getElem?_map,List.getElem?_map]at hx
 rcases hi:L[i]? with _ | a
 ·rw[hi]at hl;cases hl
 ·rw[hi]at hl hx
  cases hl
  cases hx
  have hlt:=(List.getElem?_eq_some_iff.1 hi).1
  obtain ⟨r,hr⟩:=h i hlt
  exact ⟨b+i,0,64,r,_,rfl,by omega,hr,dL,az⟩
theorem Ev {ins:Nat→Option aI} {R cR a n:Nat} {q:Int} {pf:Nat→Int} {tl:List SV} {r:Bool} (hR:R < 20000) (hi:ins R=some ⟨r,ai .u8 (64*aO n) (gw q n pf)++tl⟩) (ht:tl.all SV.plain=true):gK ins (pC R cR a n) (dn (nP a n q pf)):=by
 have gx:(ai .u8 (64*aO n) (gw q n pf)++tl).all SV.plain=true:=by rw[List.all_append,az,ht];rfl
 have hsh:aY (ai .u8 (64*aO n) (gw q n pf)++tl) 0 (64*aO n) (gw q n pf):=fun i hi=>by
  rw[List.getElem?_append_left (by rw[aD];omega)]
  exact dL i hi
 have hNN:aO n=1+aT n:=rfl
 have hG:dn (nP a n q pf)=(fU a n pf).map some++[none,some (a,lC q n pf),none]:=rfl
 rw[hG]
 unfold pC
 refine gK.append ⟨by rw[rF,List.length_map,fU,List.length_map,List.length_range],fun i l x hl hx=> ?_⟩ (gK.append (L:=[_]) (A:=[_]) gK.fl (gK.append (L:=[_]) (A:=[_]) (gK.one ⟨R,0,cR,r,_,rfl,hR,hi,fun i h=> ?_,gx⟩) gK.fl))
 ·unfold ly at hl
  unfold fU at hx
  rw[List.getElem?_map]at hl hx
  rw[List.getElem?_map]at hx
  rcases hi2:(List.range (aT n))[i]? with _ | j
  ·rw[hi2]at hl;cases hl
  ·rw[hi2]at hl hx
   cases hl
   cases hx
   have hj:j < aT n:=List.mem_range.1 (List.mem_of_getElem? hi2)
   refine ⟨R,64*(j+1),cR - 64*(j+1),r,_,rfl,hR,hi,fun i hi=> ?_,gx⟩
   have:=hsh (64*(j+1)+i) (by omega)
   rw[Nat.zero_add]at this
   rw[this]
   unfold gw bC
   rw[if_neg (by omega),show 64*(j+1)+i - 64=j*64+i by omega]
 ·have:=hsh i (by omega)
  rw[this]
  unfold gw bC
  rw[if_pos h]
theorem Qp {Gs Hs:List (List Pd)}:dn (Gs++Hs)=dn Gs++dn Hs:=by
 induction Gs with
 | nil=>rfl
 | cons G Gs ih=>
  show G.map some++none::dn (Gs++Hs)=(G.map some++none::dn Gs)++dn Hs
  rw[ih,List.append_assoc]
  rfl
theorem Wg {st k:Nat}:JI st k=List.range' st k:=by
 unfold JI
 rw[List.range'_eq_map_range]
theorem Ew {ins:Nat→Option aI} {R cR a n b st nx:Nat} {q:Int} {pf:Nat→Int} {tl:List SV} {r:Bool} (hR:R < 20000) (hi:ins R=some ⟨r,ai .u8 (64*aO n) (gw q n pf)++tl⟩) (ht:tl.all SV.plain=true)
  (hb:b+nx≤20000) (h: ∀ j,j < nx→ ∃ r,ins (b+j)=some ⟨r,ai .u8 64 zF⟩):gK ins (qQ R cR a n b st nx) (dn (wF a n q pf st nx)):=by
 unfold wF qQ nS
 rw[Qp,List.append_assoc]
 refine gK.append (Ev hR hi ht) ?_
 show gK ins _ ((zL (List.range' st nx)).map some++[none])
 rw[← Wg]
 exact gK.append (OB (by rw[ox];exact hb) (by rw[ox];exact h)) gK.fl
theorem Tx {ins:Nat→Option aI} {b:Nat} {L:List Nat} (hb:b+L.length≤20000) (h: ∀ j,j < L.length→ ∃ r,ins (b+j)=some ⟨r,ai .u8 64 zF⟩):gK ins (UX b L) (dn [zL L]):=gK.append (OB hb h) gK.fl
end Go.Proofs.YtaeagfdnfjenlaaGreatDoor
