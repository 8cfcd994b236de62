/-
  A call of played, its boxes anywhere.
-/
import Derived.Test.YtaeagfdnfjenlaaGreatDoorVcgL8
import Derived.Test.YtaeagfdnfjenlaaGreatDoorVcgWV
import Derived.Test.YtaeagfdnfjenlaaGreatDoorVcgL4
import Derived.Test.YtaeagfdnfjenlaaGreatDoorVcgK4
import Derived.Test.YtaeagfdnfjenlaaGreatDoorVcgWM
set_option linter.unusedSimpArgs false
set_option linter.unusedVariables false
set_option linter.unusedSectionVars false
set_option maxHeartbeats 8000000
set_option maxRecDepth 20000
namespace Go.Proofs.YtaeagfdnfjenlaaGreatDoor
open Go.cn
variable [aX]
def Qq (cs cells kc rc:List SV) (Z t:Nat):Option aI:=if 20000≤t then none else some ⟨false,if t=0 then cs else if t=1 then cells else if t=3 then rc else if 4≤t∧t < 4+Z then ai .u8 64 zF else kc⟩
def rP (im li ke re z0 Z t:Nat):Nat:=if t=0 then im else if t=1 then li else if t=3 then re else if 4≤t∧t < 4+Z then z0+(t - 4) else ke
section
variable {cs cells kc rc:List SV} {Z im li ke re z0:Nat}
theorem acq:Qq cs cells kc rc Z 0=some ⟨false,cs⟩:=rfl
theorem acr:Qq cs cells kc rc Z 1=some ⟨false,cells⟩:=rfl
theorem acs:Qq cs cells kc rc Z 2=some ⟨false,kc⟩:=by
 unfold Qq
 rw[if_neg (by omega),if_neg (by omega),if_neg (by omega),if_neg (by omega),if_neg (by omega)]
theorem Tz:Qq cs cells kc rc Z 3=some ⟨false,rc⟩:=rfl
theorem TA {j:Nat} (h:j < Z) (hZ:4+Z≤20000):Qq cs cells kc rc Z (4+j)=some ⟨false,ai .u8 64 zF⟩:=by
 unfold Qq
 rw[if_neg (by omega),if_neg (by omega),if_neg (by omega),if_neg (by omega),if_pos (by omega)]
theorem oy {t:Nat} {b:aI} (h:Qq cs cells kc rc Z t=some b):t < 20000∧b.rw=false∧((t=0∧b.cells=cs)∨(t=1∧b.cells=cells)∨(t=3∧b.cells=rc)∨(4≤t∧t < 4+Z∧b.cells=ai .u8 64 zF)∨(t≠0∧t≠1∧t≠3∧ ¬ (4≤t∧t < 4+Z)∧b.cells=kc)):=by
 unfold Qq at h
 split at h
 ·cases h
 ·rename_i hlt
  cases h
  refine ⟨by omega,rfl, ?_⟩
  by_cases h0:t=0
  ·exact .inl ⟨h0,if_pos h0⟩
  by_cases h1:t=1
  ·subst h1;exact .inr (.inl ⟨rfl,rfl⟩)
  by_cases h3:t=3
  ·subst h3;exact .inr (.inr (.inl ⟨rfl,rfl⟩))
  by_cases h4:4≤t∧t < 4+Z
  ·exact .inr (.inr (.inr (.inl ⟨h4.1,h4.2,by show (if t=0 then _ else _)=_;rw[if_neg h0,if_neg h1,if_neg h3,if_pos h4]⟩)))
  ·exact .inr (.inr (.inr (.inr ⟨h0,h1,h3,h4,by show (if t=0 then _ else _)=_;rw[if_neg h0,if_neg h1,if_neg h3,if_neg h4]⟩)))
theorem TB:rP im li ke re z0 Z 2=ke:=by
 unfold rP
 rw[if_neg (by omega),if_neg (by omega),if_neg (by omega),if_neg (by omega)]
theorem ae5:rP im li ke re z0 Z 3=re:=rfl
theorem aah {j:Nat} (h:j < Z):rP im li ke re z0 Z (4+j)=z0+j:=by
 unfold rP
 rw[if_neg (by omega),if_neg (by omega),if_neg (by omega),if_pos (by omega)]
 omega
theorem qR {s:AS} {nm q n o c m:Nat} {at_ cut:Int} {f:Nat→Int} {A:List Ac} {kn:Nat} {kb:Nat→Bool} {ks:SV} {va:AV} {l:List AV} {r0 r1 r2 r3:Bool}
  (h0:s.box im=some ⟨r0,cs⟩) (h1:s.box li=some ⟨r1,cells.map (SV.ren (rP im li ke re z0 Z))⟩) (h2:s.box ke=some ⟨r2,kc⟩) (h3:s.box re=some ⟨r3,rc⟩) (h4: ∀ j,j < Z→ ∃ r,s.box (z0+j)=some ⟨r,ai .u8 64 zF⟩)
  (p0:cs.all SV.plain=true) (p2:kc.all SV.plain=true) (p3:rc.all SV.plain=true) (p1: ∀ y ∈ cells,SV.ok (fun n=>n < 20000) y) (hs:aY cs o n f)
  (ha: ∀ (i:Nat) (x:Ac),A[i]? =some x→Oz (Qq cs cells kc rc Z) cells i x) (PE:0 < A.length→3*A.length≤cells.length) (hfit: ∀ (p:Pd),some p ∈ A→p.1 < m) (hk:dE 2 ks kn kb kc) (hv:Tt A.length va) (hn:n=64*m) (hm:m≤8192) (hA:A.length≤1000000)
  (hl:l=[Sl im o n c,AV.ren (rP im li ke re z0 Z) va,AV.ren (rP im li ke re z0 Z) (Ag (cI at_ cut ks))]) {dst:Option Nat} {K:AS→Prop}
  (hK: ∀ code g v out,Tl kn kb cut f A at_ code g→cX 20000 code n g v out→K (({ s with box:=cL s (rP im li ke re z0 Z) 20000 1 nm [] out }:AS).put dst (some (AV.ren (aV (rP im li ke re z0 Z) 20000 nm) v)))):
  gW Tryz.prog q nm 42 (some l) dst K s:=by
 have hP:Qm (Qq cs cells kc rc Z) n o c f cs A m cells kn kb ks kc:=⟨⟨_,acq⟩,p0,hs,fun _=>⟨_,acr⟩,ha,PE,hfit,⟨_,acs⟩,p2,hk,fun i hi=>⟨_,if_neg (by omega)⟩,fun i b hb=>by
  obtain ⟨a1,_,a3⟩:=oy hb
  refine ⟨a1, ?_⟩
  rcases a3 with ⟨_,e⟩ | ⟨_,e⟩ | ⟨_,e⟩ | ⟨_,_,e⟩ | ⟨_,_,_,_,e⟩<;>rw[e]
  ·exact ao p0
  ·exact p1
  ·exact ao p3
  ·exact ao az
  ·exact ao p2
  ,fun i b hb=>(oy hb).2.1⟩
 refine (Tv (at_:=at_) (cut:=cut) hP hv hn hm hA).wide.big.gW (by omega) (rP im li ke re z0 Z) [] ⟨fun t b hb=> ?_,fun t t' b b' hb hrw=>(by rw[(oy hb).2.1]at hrw;cases hrw),fun t b hb hrw=>(by rw[(oy hb).2.1]at hrw;cases hrw),fun t ht=>(by cases ht)⟩ hl (fun v out h=> ?_)
 ·obtain ⟨_,a2,a3⟩:=oy hb
  have hrw:b.rw=true→ ∀ x:Bool,x=true:=fun h=>by rw[a2]at h;cases h
  rcases a3 with ⟨rfl,e⟩ | ⟨rfl,e⟩ | ⟨rfl,e⟩ | ⟨k1,k2,e⟩ | ⟨k1,k2,k3,k4,e⟩<;>rw[e]
  ·exact ⟨_,h0,fun h=>hrw h _,(au p0 _).symm⟩
  ·exact ⟨_,h1,fun h=>hrw h _,rfl⟩
  ·exact ⟨_,h3,fun h=>hrw h _,(au p3 _).symm⟩
  ·obtain ⟨j,rfl⟩: ∃ j,t=4+j:=⟨t - 4,by omega⟩
   obtain ⟨r,hr⟩:=h4 j (by omega)
   exact ⟨_,by rw[aah (by omega)];exact hr,fun h=>hrw h _,(au az _).symm⟩
  ·refine ⟨⟨r2,kc⟩, ?_,fun h=>hrw h _,(au p2 _).symm⟩
   ·unfold rP
    rw[if_neg k1,if_neg k2,if_neg k3,if_neg k4]
    exact h2
 ·obtain ⟨code,g,k1,k2⟩:=h
  exact hK code g v out k1 k2
theorem BO {s:AS} {r:Nat→Nat} {k nm:Nat} {b:aI}:cL s r k 1 nm [] (lk [(k,b)])=upd s.box nm (some (aI.ren (aV r k nm) b)):=by
 funext t
 unfold cL
 by_cases h:t=nm
 ·subst h
  rw[if_pos (by omega),Nat.sub_self,Nat.add_zero,aQ]
  simp[lk,upd]
 ·rw[if_neg (by omega),bh _ _ _ _ h]
  rfl
end
theorem acu {A:List Ac} {i:Nat}:(m9 (A.take i)).length≤(m9 A).length:=by
 have e:m9 A=m9 (A.take i)++m9 (A.drop i):=by rw[← nH,List.take_append_drop]
 rw[e,List.length_append]
 omega
theorem acv {A:List Ac} {i:Nat} {p:Pd} (h:A[i]? =some (some p)):(m9 (A.take i)).length < (m9 A).length:=by
 have:=acu (A:=A) (i:=i+1)
 rw[yJ h,List.length_append]at this
 simp only[List.length_singleton]at this
 omega
theorem BP {kn:Nat} {kb:Nat→Bool} {cut at_ code:Int} {f g:Nat→Int} {Gs:List (List Pd)} (h:Tl kn kb cut f (dn Gs) at_ code g):code=fL (pq at_ (none,Gs))∧g=ni kn kb cut f at_ (none,Gs):=by
 rcases h with ⟨i,s,p,h1,h2,h3,h4,h5,rfl,rfl⟩ | ⟨h1,rfl,rfl⟩
 ·have hlt:=acv h1
  rw[BK]at hlt
  have hs:bG at_ 0 (eN Gs)=true:=by
   unfold bG
   rw[decide_eq_true_eq]
   omega
  refine ⟨?_, ?_⟩
  ·unfold pq
   rw[if_pos hs]
   rfl
  ·unfold ni
   rw[if_pos hs,show (at_ - 0 - 1).toNat=(m9 ((dn Gs).take i)).length by omega]
   exact Qh h1 h3 h4 h5
 ·rw[BK]at h1
  have hs:bG at_ 0 (eN Gs)=false:=by
   unfold bG
   rw[decide_eq_false_iff_not]
   omega
  refine ⟨?_, ?_⟩
  ·unfold pq
   rw[if_neg (by rw[hs];decide)]
   rfl
  ·unfold ni
   rw[if_neg (by rw[hs];decide)]
   exact Tm
theorem yN {kn:Nat} {kb:Nat→Bool} {cut at_:Int} {f:Nat→Int} {e:Option Nat}:pq at_ (e,[])=e∧ni kn kb cut f at_ (e,[])=f:=by
 have h1:bG at_ 0 (eN (e,([]:List (List Pd))).2)=false:=by
  unfold bG
  rw[decide_eq_false_iff_not]
  show ¬ (0 < at_∧at_≤0+0)
  omega
 unfold pq ni
 rw[if_neg (by rw[h1];decide),if_neg (by rw[h1];decide)]
 exact ⟨rfl,rfl⟩
theorem BQ {kn n:Nat} {kb:Nat→Bool} {cut at_:Int} {f:Nat→Int} {r:pR} (h:gJ n=false∨gJ n=true∧r=(some 1,[])):xX n at_ r=1∧Bx kn kb cut f n at_ r=f:=by
 unfold xX Bx
 rcases h with h | ⟨h,rfl⟩
 ·rw[if_neg (by rw[h];decide),if_neg (by rw[h];decide)]
  exact ⟨rfl,rfl⟩
 ·rw[if_pos h,if_pos h,(yN (kn:=kn) (kb:=kb) (cut:=cut) (f:=f)).1,yN.2]
  exact ⟨rfl,rfl⟩
theorem mZ {kn n:Nat} {kb:Nat→Bool} {cut at_:Int} {f:Nat→Int} {r:pR} (h:gJ n=true):xX n at_ r=fL (pq at_ r)∧Bx kn kb cut f n at_ r=ni kn kb cut f at_ r:=by
 unfold xX Bx
 rw[if_pos h,if_pos h]
 exact ⟨rfl,rfl⟩
def qS (L:List Nat):List (List Pd):=if L=[] then [] else [zL L]
theorem vr {kn:Nat} {kb:Nat→Bool} {cut at_:Int} {f:Nat→Int} {L:List Nat}:pq at_ (none,qS L)=pq at_ (none,[zL L])∧ni kn kb cut f at_ (none,qS L)=ni kn kb cut f at_ (none,[zL L]):=by
 unfold qS
 split
 ·rename_i h
  subst h
  refine ⟨rfl, ?_⟩
  unfold ni
  have h1:bG at_ 0 (eN (none (α:=Nat),([]:List (List Pd))).2)=false:=by
   unfold bG
   rw[decide_eq_false_iff_not]
   show ¬ (0 < at_∧at_≤0+0)
   omega
  have h2:bG at_ 0 (eN (none (α:=Nat),[zL []]).2)=false:=h1
  rw[if_neg (by rw[h1];decide),if_neg (by rw[h2];decide)]
  rfl
 ·exact ⟨rfl,rfl⟩
section
variable {P:Program} [cn.Tables P] {s:AS} {q nm:Nat} {dst:Option Nat} {ty:TypeId} {pos:String} {after:Array Edge} {K:AS→Prop}
theorem xZ {xs:Array Operand} {tys:Array TypeId}:LO P q nm (some ⟨dst, .call ⟨.builtin .append,xs,tys⟩,ty,pos,after,none⟩) K s=jF P nm .append tys ty (xs.map isConst) (bq s xs.toList) dst K s:=rfl
theorem x8 {t n:Nat} {l:List (Nat×Operand)}:LO P q nm (some ⟨dst, .buildSlice t n l.toArray,ty,pos,after,none⟩) K s=bL (eZ nm (pT P t) n s l) nm dst K s:=rfl
theorem BR {t:TypeId} {ps:Array (Nat×Operand)}:LO P q nm (some ⟨dst, .build t ps,ty,pos,after,none⟩) K s=cw P nm ⟨dst, .build t ps,ty,pos,after,none⟩ K s:=rfl
theorem aK:type_of% @xZ∧type_of% @x8∧type_of% @BR:=
 ⟨@xZ, @x8, @BR⟩
end
theorem gL {P:Program} [cn.Tables P] {K:AS→Prop} {s:AS} {ops:Array Oper} (q:Nat) (A R F dm D:List Nat) (h1:iH ops A R [] F=true) (h2:R.all (iq P ops)=true) (hD:Go.cn.dstsOf ops (A++R++[]++F)=D)
  (hv:ij P ops s.next (fun sr=>ji P q ops s.next K (R++[]++F) 0 ⟨sr.env,nO dm s.box,s.next⟩) A ⟨uL D s.env,fun t=>DL (nO dm s.box t),s.next⟩):
  ∃ (q:Nat) (A R F dm:List Nat),iH ops A R [] F=true∧R.all (iq P ops)=true∧yI P q ops A R [] F dm K s:=
 ⟨q,A,R,F,dm,h1,h2,by subst hD;exact hv⟩
theorem nI {s:AS} {nm b t0 o n c:Nat} {eD:Bool} {cs:List SV} {f z:Nat→Int} (hb:s.box b=some ⟨true,ai .u8 0 z⟩) (ht:s.box t0=some ⟨eD,cs⟩) (hne:b≠t0) (hs:aY cs o n f) (hn:n≤1048576) {ty:TypeId} {ct:Array Bool} {dst:Option Nat} {K:AS→Prop}
  (hK: ∀ c' cs',n≤c'→aY cs' 0 n f→cs'.all SV.plain=true→K (({ s with box:=upd (upd s.box b none) nm (some ⟨true,cs'⟩) }:AS).put dst (some (Sl nm 0 n c')))):
  fY Tryz.prog nm .append #[22,22] ty ct [Sl b 0 0 0,Sl t0 o n c] dst K s:=by
 refine mN (b:=b) (o:=0) (n:=0) (c:=0) (m:=n) (cs:=ai .u8 0 z) (olds:=[]) (news:=ai .u8 n f) Tryz.eK Tryz.fc rfl (by decide) rfl hb rfl (Nat.le_refl 0) rfl (fun j u h=>by simp at h) rfl (.inl ⟨t0,o,c,⟨eD,cs⟩,rfl,ht,by rw[aD,Nat.mul_one],iU hs,by simpa using hne⟩) (by omega) (by omega) fun c' tail h1 h2 h3=> ?_
 rw[Nat.zero_add]at h1 ⊢
 refine hK c' _ h1 (fun i hi=> ?_) (by rw[List.nil_append,List.all_append,az,h3];rfl)
 rw[List.nil_append,List.getElem?_append_left (by rw[aD];omega)]
 exact dL i hi
theorem LQ {s:AS} {x y:Nat} {cs Eu:List SV} {r0 r1:Bool} (h0:s.box x=some ⟨r0,cs⟩) (h1:s.box y=some ⟨r1,Eu⟩) (p0:cs.all SV.plain=true) (p1:Eu.all SV.plain=true):jr s (two x y) (lk [(0,⟨false,cs⟩),(1,⟨false,Eu⟩)]) []:=by
 have key: ∀ n b,lk [(0,(⟨false,cs⟩:aI)),(1,⟨false,Eu⟩)] n=some b→(n=0∧b=⟨false,cs⟩)∨(n=1∧b=⟨false,Eu⟩):=fun n b hb=>by
  have hm:=bt _ _ _ hb
  simpa using hm
 have ro: ∀ n b,lk [(0,(⟨false,cs⟩:aI)),(1,⟨false,Eu⟩)] n=some b→b.rw=true→False:=fun n b hb hrw=>by
  rcases key n b hb with ⟨_,rfl⟩ | ⟨_,rfl⟩<;>cases hrw
 refine ⟨fun n b hb=> ?_,fun n n' b b' hb hrw=>(ro n b hb hrw).elim,fun n b hb hrw=>(ro n b hb hrw).elim,fun n hn=>(by cases hn)⟩
 rcases key n b hb with ⟨rfl,rfl⟩ | ⟨rfl,rfl⟩
 ·exact ⟨_,h0,fun h=>(by cases h),(au p0 _).symm⟩
 ·exact ⟨_,h1,fun h=>(by cases h),(au p1 _).symm⟩
theorem qT {r:Nat→Nat} {b:Bool} {cs:List SV} (h:cs.all SV.plain=true):aI.ren r ⟨b,cs⟩=⟨b,cs⟩:=by
 show (⟨b,cs.map (SV.ren r)⟩:aI)=_
 rw[au h]
theorem dI {s:AS} {r:Nat→Nat} {k m nm t:Nat} {out:Nat→Option aI} (h:t < nm):cL s r k m nm [] out t=s.box t:=by
 unfold cL
 rw[if_neg (by omega)]
 rfl
theorem kO {s:AS} {r:Nat→Nat} {k m nm j:Nat} {out:Nat→Option aI} (h:j < m):cL s r k m nm [] out (nm+j)=(out (k+j)).map (aI.ren (aV r k nm)):=by
 unfold cL
 rw[if_pos (by omega),Nat.add_sub_cancel_left]
theorem aai {b:Nat} {L:List Nat} {M:Nat→Prop} (h: ∀ j,j < L.length→M (b+j)): ∀ x ∈ UX b L, ∀ y ∈ x,SV.ok M y:=fun x hx=>by
 unfold UX at hx
 rw[List.mem_append]at hx
 rcases hx with hx | hx
 ·exact Et h x hx
 ·rw[List.mem_singleton]at hx
  subst hx
  exact FX
section
variable {n o c kn:Nat} {f:Nat→Int} {cs kc:List SV} {kb:Nat→Bool} {ks:SV} {at_ cut:Int}
theorem FZ (hs:aY cs o n f) (hc:n≤c) (hp:cs.all SV.plain=true) (hn:n≤1048576) (hf:eJ f) (hk:dE 1 ks kn kb kc) (hq:kc.all SV.plain=true):
  bd Tryz.prog 18 [Sl 0 o n c,Ag (cI at_ cut ks)] 2 (lk [(0,⟨false,cs⟩),(1,⟨false,kc⟩)]) (cX 2 (xX n at_ (eG f (n / 64))) n (Bx kn kb cut f n at_ (eG f (n / 64)))):=by
 refine ft Tryz.func18 rfl (by kernel_rfl) [] [3,4] (by simp[Tryz.ntmps18]) Tryz.sT (rC hk) pX (pY hp hq) ?_
 have hz:zeroOf Tryz.prog 40=some [.int .i64 0, .slice none 0 0]:=by kernel_rfl
 simp only[Tryz.results18,hz,slot,aK,aU,di,seval]
 refine (Tc hs hc hp hn hf).av (fun _=>0) none (bZ (rw:=false) (by simp only[ae,vR,seval]) hp) rfl ?_
 rintro v out (⟨hb,rfl,rfl⟩ | ⟨hb,st,c1,lr,hlv,hsh,oF,gx,rfl,rfl⟩) _
 ·rw[show ∀ q,AV.ren q (bE 1 0 0 0 (.inl (.slice none 0 0)))=bE 1 0 0 0 (.inl (.slice none 0 0)) from fun q=>rfl,dW]
  simp only[bE,slot,aK,aU,di,seval]
  refine gL 0 [0,1,3] [2,4,5] [6] [6] [11,12,14,13,15,16] (by kernel_rfl) (by kernel_rfl) (by kernel_rfl) ?_
  simp only[cN,cO,cQ,bE,slot,aK,aU,di,seval]
  refine nI (f:=f) (z:=fun _=>0) (by simp only[bV,seval]) (by simp only[bV,seval];rfl) (by decide) hs hn fun c2 j7 g1 g2 g3=> ?_
  simp only[hz,cN,cO,cQ,slot,aK,aU,di,seval]
  have hw:=BQ (kn:=kn) (kb:=kb) (cut:=cut) (at_:=at_) (f:=f) (r:=eG f (n / 64)) (hb.imp id fun h=>⟨h.1,by unfold eG;rw[h.2]⟩)
  rw[hw.1,hw.2]
  exact bM (q:=19) (by decide) (by simp only[bV,seval]) g2 g3 g1
 ·have Ge:128*(n / 64 / 2)=n∧8≤n / 64 / 2∧n / 64 / 2≤4096:=by
   have:=hb
   unfold gJ at this
   simp only[decide_eq_true_eq]at this
   omega
  obtain ⟨r,rO⟩: ∃ r,r=n / 64 / 2:=⟨_,rfl⟩
  have hn2:n / 64=2*r:=by omega
  obtain ⟨hL,PE,J4⟩:=pD (f:=f) (r:=r) (st:=st) (by omega) (by rw[rO];exact hlv)
  rw[← rO]at Ge hlv hsh oF
  have e2: ∀ (N:Nat) (a b d e:Int) (l c:Nat),AV.ren (df (fun _=>0) 1 N) (bE a b d e (.inr (.inr (1,0,l,c))))=bE a b d e (.inr (.inr (N,0,l,c))):=fun N a b d e l c=>rfl
  rw[e2,bX gx, ← rO]
  simp only[bE,slot,aK,aU,di,seval]
  refine gL 20000 [0,1,2,4] [3,5] [6] [2,6] [17,18,19,21,20,22] (by kernel_rfl) (by kernel_rfl) (by kernel_rfl) ?_
  simp only[bE,slot,aK,aU,di,seval]
  refine ⟨Nat.le_refl 3, ?_⟩
  obtain ⟨ks',hk',Eo⟩:=dE.iW hk 2
  have jT:eG f (n / 64)=(none,[zL (cM f (2*r) st)]):=by
   unfold eG
   rw[← rO,hlv,hn2]
  have hst:=JH (f:=f) (r:=r) (lv:=st / r) (nx:=aE f (aC f (st+r) st) - st) (q:=bB (aB f (aC f (st+r) st))) (dv:= .inr (.inr (1,0,aN (aB f (aC f (st+r) st)),c1))) (rp:=false) hs hc hp gx (by omega) (by omega) (by omega) PE J4 ⟨(by decide:1 < 2),rfl⟩
  rw[hL]at hst
  have hLn:(cM f (2*r) st).length≤8192:=by
   have:(cM f (2*r) st).length≤2*r:=mV
   omega
  refine hst.gW (by omega) (two 0 5) [] (LQ (by simp only[bV,seval];rfl) (by simp only[bV,seval];rfl) hp gx) rfl ?_
  rintro v out hv
  rcases hv with ⟨Xr,rfl,rfl⟩ | ⟨Xr,c2,j7,rfl,Cy,rfl⟩
  ·have e3: ∀ q,AV.ren q (V (.slice none 0 0))=V (.slice none 0 0):=fun q=>rfl
   rw[e3]
   simp only[slot,aK,aU,di,seval]
   generalize iR:cL _ (two 0 5) 2 _ 20015 [] _=bx
   have b0:bx 0=some ⟨false,cs⟩:=by rw[← iR,dI (by decide)];simp only[bV,seval]
   have b1:bx 1=some ⟨false,kc⟩:=by rw[← iR,dI (by decide)];simp only[bV,seval]
   have b3:bx 3=some ⟨true,[Sum.inl (.int .i64 0),Sum.inl (.slice none 0 0)]⟩:=by rw[← iR,dI (by decide)];simp only[bV,seval]
   have hwp:dn (qS (cM f (2*r) st))=[]:=by rw[Xr];rfl
   refine qR (im:=0) (li:=1) (ke:=1) (re:=1) (z0:=20016) (Z:=0) (cells:=kc) (kc:=kc) (rc:=kc) (f:=f) (A:=dn (qS (cM f (2*r) st))) (m:=n / 64) (kn:=kn) (kb:=kb) (ks:=ks') (va:=V (.slice none 0 0)) (c:=c) (o:=o) (n:=n) (at_:=at_) (cut:=cut) b0 (by rw[au hq];exact b1) b1 b1 (fun j hj=>by omega) hp hq hq (ao hq) hs (fun i x hx=>by rw[hwp]at hx;cases hx) (fun h=>by rw[hwp]at h;cases h) (fun p hp=>by rw[hwp]at hp;cases hp) hk' (.inl ⟨by rw[hwp];rfl,rfl⟩) (by omega) (by omega) (by rw[hwp];exact Nat.zero_le _) ?_ fun code g v out hP hW=> ?_
   ·rw[show ∀ q,AV.ren q (Ag (cI at_ cut ks'))=Ag (cI at_ cut (SV.ren q ks')) from fun q=>rfl,Eo _ TB]
    rfl
   obtain ⟨BS,hg⟩:=BP hP
   rw[(vr (kn:=kn) (kb:=kb) (cut:=cut) (f:=f)).1]at BS
   rw[vr.2]at hg
   rcases hW with ⟨hn0,_,_⟩ | ⟨c3,sm,k1,k2,k3,rfl,rfl⟩
   ·omega
   rw[show ∀ q,AV.ren (aV q 20000 40019) (Ag [Sum.inl (.int .i64 code), .inr (.inr (20000,0,n,c3))])=Ag [Sum.inl (.int .i64 code), .inr (.inr (40019,0,n,c3))] from fun q=>rfl,BO,qT k3]
   simp only[b3,cN,cO,cQ,slot,aK,aU,di,seval]
   rw[(mZ (kn:=kn) (kb:=kb) (cut:=cut) (f:=f) hb).1,(mZ hb).2,jT, ← BS, ← hg]
   exact bM (q:=40019) (by decide) (by simp only[bV,seval]) k2 k3 k1
  ·have e3: ∀ N,AV.ren (aV (two 0 5) 2 N) (Sl 2 0 ((cM f (2*r) st).length+1) c2)=Sl N 0 ((cM f (2*r) st).length+1) c2:=fun N=>rfl
   rw[e3]
   simp only[slot,aK,aU,di,seval]
   generalize iR:cL _ (two 0 5) 2 _ 20015 [] _=bx
   have b0:bx 0=some ⟨false,cs⟩:=by rw[← iR,dI (by decide)];simp only[bV,seval]
   have b1:bx 1=some ⟨false,kc⟩:=by rw[← iR,dI (by decide)];simp only[bV,seval]
   have b3:bx 3=some ⟨true,[Sum.inl (.int .i64 0),Sum.inl (.slice none 0 0)]⟩:=by rw[← iR,dI (by decide)];simp only[bV,seval]
   have Tr:=rG (r:=aV (two 0 5) 2 20015) Cy
   rw[FV (b':=20016) (fun j hj=>by
    unfold aV
    rw[if_neg (by omega)]
    omega)]at Tr
   obtain ⟨gM,qd,hce⟩:=gY (L:=UX 4 (cM f (2*r) st)) (r:=rP 0 20015 1 1 20016 (cM f (2*r) st).length) (by rw[FV (b':=20016) (fun j hj=>aah hj)];exact Tr)
   have b15:bx 20015=some ⟨true,gM.map (SV.ren (rP 0 20015 1 1 20016 (cM f (2*r) st).length))⟩:=by
    rw[← iR,show (20015:Nat)=20015+0 from rfl,kO (j:=0) (by omega), ← hce]
    rfl
   have bz: ∀ j,j < (cM f (2*r) st).length→ ∃ eD,bx (20016+j)=some ⟨eD,ai .u8 64 zF⟩:=fun j hj=>by
    refine ⟨true, ?_⟩
    rw[← iR,show 20016+j=20015+(1+j) by omega,kO (by omega)]
    show Option.map _ (if 2+(1+j)=2 then _ else _)=_
    rw[if_neg (by omega),if_pos (by omega)]
    show some (aI.ren _ lI)=_
    rw[lI,qT az]
   have hwp:dn (qS (cM f (2*r) st))=dn [zL (cM f (2*r) st)]:=by unfold qS;rw[if_neg Xr]
   have hlen:(dn (qS (cM f (2*r) st))).length=(cM f (2*r) st).length+1:=by
    rw[hwp]
    show ((zL (cM f (2*r) st)).map some++[none]).length=_
    rw[List.length_append,List.length_map,zL,List.length_map]
    rfl
   have hai:=OA (ins:=Qq cs gM kc kc (cM f (2*r) st).length) (A:=dn (qS (cM f (2*r) st))) qd (by
    rw[hwp]
    exact Tx (by omega) fun j hj=>⟨_,TA hj (by omega)⟩)
   have hfit: ∀ (p:Pd),some p ∈ dn (qS (cM f (2*r) st))→p.1 < n / 64:=fun p hp=>by
    rw[hwp]at hp
    have hp:some p ∈ (zL (cM f (2*r) st)).map some++[none]:=hp
    rw[List.mem_append,List.mem_map]at hp
    rcases hp with ⟨x,hx,e⟩ | hp
    ·cases e
     rw[zL,List.mem_map]at hx
     obtain ⟨y,hy,rfl⟩:=hx
     have:=wG y hy
     show y < n / 64
     omega
    ·simp at hp
   refine qR (im:=0) (li:=20015) (ke:=1) (re:=1) (z0:=20016) (Z:=(cM f (2*r) st).length) (cells:=gM) (kc:=kc) (rc:=kc) (f:=f) (A:=dn (qS (cM f (2*r) st))) (m:=n / 64) (kn:=kn) (kb:=kb) (ks:=ks') (va:=Sl 1 0 ((cM f (2*r) st).length+1) c2) (c:=c) (o:=o) (n:=n) (at_:=at_) (cut:=cut) b0 b15 b1 b1 bz hp hq hq (hY qd (aai fun j hj=>by omega)) hs hai.1 (fun _=>hai.2.1) hfit hk' (.inr ⟨c2,by rw[hlen],hai.2.2⟩) (by omega) (by omega) (by rw[hlen];omega) ?_ fun code g v out hP hW=> ?_
   ·rw[show ∀ q,AV.ren q (Ag (cI at_ cut ks'))=Ag (cI at_ cut (SV.ren q ks')) from fun q=>rfl,Eo _ TB]
    rfl
   obtain ⟨BS,hg⟩:=BP hP
   rw[(vr (kn:=kn) (kb:=kb) (cut:=cut) (f:=f)).1]at BS
   rw[vr.2]at hg
   rcases hW with ⟨hn0,_,_⟩ | ⟨c3,sm,k1,k2,k3,rfl,rfl⟩
   ·omega
   rw[show ∀ q,AV.ren (aV q 20000 40019) (Ag [Sum.inl (.int .i64 code), .inr (.inr (20000,0,n,c3))])=Ag [Sum.inl (.int .i64 code), .inr (.inr (40019,0,n,c3))] from fun q=>rfl,BO,qT k3]
   simp only[b3,cN,cO,cQ,slot,aK,aU,di,seval]
   rw[(mZ (kn:=kn) (kb:=kb) (cut:=cut) (f:=f) hb).1,(mZ hb).2,jT, ← BS, ← hg]
   exact bM (q:=40019) (by decide) (by simp only[bV,seval]) k2 k3 k1
end
theorem TD {s:AS} {x:Nat} {cs:List SV} {r0:Bool} (h0:s.box x=some ⟨r0,cs⟩) (p0:cs.all SV.plain=true):jr s (fun _=>x) (lk [(0,⟨false,cs⟩)]) []:=by
 have key: ∀ n b,lk [(0,(⟨false,cs⟩:aI))] n=some b→(n=0∧b=⟨false,cs⟩):=fun n b hb=>by
  have hm:=bt _ _ _ hb
  simpa using hm
 have ro: ∀ n b,lk [(0,(⟨false,cs⟩:aI))] n=some b→b.rw=true→False:=fun n b hb hrw=>by
  obtain ⟨_,rfl⟩:=key n b hb
  cases hrw
 refine ⟨fun n b hb=> ?_,fun n n' b b' hb hrw=>(ro n b hb hrw).elim,fun n b hb hrw=>(ro n b hb hrw).elim,fun n hn=>(by cases hn)⟩
 obtain ⟨rfl,rfl⟩:=key n b hb
 exact ⟨_,h0,fun h=>(by cases h),(au p0 _).symm⟩
theorem BT {kn n e:Nat} {kb:Nat→Bool} {cut at_:Int} {f:Nat→Int} {r:pR} (h:gJ n=true) (hr:r=(some e,[])):xX n at_ r=fL (some e)∧Bx kn kb cut f n at_ r=f:=by
 obtain ⟨h1,h2⟩:=mZ (kn:=kn) (kb:=kb) (cut:=cut) (at_:=at_) (f:=f) (r:=r) h
 rw[h1,h2,hr,(yN (kn:=kn) (kb:=kb) (cut:=cut) (f:=f)).1,yN.2]
 exact ⟨rfl,rfl⟩
theorem BU {s:AS} {nm q n o c m Z im li ke re z0 N cc kn:Nat} {at_ cut:Int} {f:Nat→Int} {cs gM kc rc:List SV} {L:List (List SV)} {Gs:List (List Pd)} {kb:Nat→Bool} {ks:SV} {l:List AV} {r0 r1 r2 r3:Bool}
  (h0:s.box im=some ⟨r0,cs⟩) (h1:s.box li=some ⟨r1,gM.map (SV.ren (rP im li ke re z0 Z))⟩) (h2:s.box ke=some ⟨r2,kc⟩) (h3:s.box re=some ⟨r3,rc⟩) (h4: ∀ j,j < Z→ ∃ r,s.box (z0+j)=some ⟨r,ai .u8 64 zF⟩)
  (p0:cs.all SV.plain=true) (p2:kc.all SV.plain=true) (p3:rc.all SV.plain=true) (hs:aY cs o n f)
  (qd:jw gM L cc) (hI:gK (Qq cs gM kc rc Z) L (dn Gs)) (ae6: ∀ x ∈ L, ∀ y ∈ x,SV.ok (fun n=>n < 20000) y) (hN:L.length=N) (hfit: ∀ G ∈ Gs, ∀ p ∈ G,p.1 < m) (hk: ∃ ks',dE 2 ks' kn kb kc∧SV.ren (rP im li ke re z0 Z) ks'=ks)
  (hn:n=64*m) (hm:m≤8192) (hn0:0 < n) (hA:N≤1000000)
  (hl:l=[Sl im o n c,Sl li 0 N cc,Ag (cI at_ cut ks)]) {dst:Option Nat} {K:AS→Prop}
  (hK: ∀ c3 sm,n≤c3→aY sm 0 n (ni kn kb cut f at_ (none,Gs))→sm.all SV.plain=true→K (({ s with box:=upd s.box nm (some ⟨true,sm⟩) }:AS).put dst (some (Ag [Sum.inl (.int .i64 (fL (pq at_ (none,Gs)))), .inr (.inr (nm,0,n,c3))])))):
  gW Tryz.prog q nm 42 (some l) dst K s:=by
 obtain ⟨ks',hk',Eo⟩:=hk
 have hai:=OA qd hI
 have hlA:(dn Gs).length=N:=by rw[← hI.1,hN]
 refine qR (cut:=cut) (at_:=at_) (c:=c) (va:=Sl 1 0 N cc) (m:=m) h0 h1 h2 h3 h4 p0 p2 p3 (hY qd ae6) hs hai.1 (fun _=>hai.2.1) (fun p hp=> ?_) hk' (.inr ⟨cc,by rw[hlA],hai.2.2⟩) hn hm (by omega) ?_ fun code g v out hP hW=> ?_
 ·have: ∀ Hs:List (List Pd),some p ∈ dn Hs→ ∃ G ∈ Hs,p ∈ G:=fun Hs=>by
   induction Hs with
   | nil=>intro h;cases h
   | cons G Hs ih=>
    intro h
    have h:some p ∈ G.map some++none::dn Hs:=h
    rw[List.mem_append,List.mem_cons,List.mem_map]at h
    rcases h with ⟨x,hx,e⟩ | h | h
    ·cases e;exact ⟨G,List.mem_cons_self .., hx⟩
    ·cases h
    ·obtain ⟨G',h1,h2⟩:=ih h
     exact ⟨G',List.mem_cons_of_mem _ h1,h2⟩
  obtain ⟨G,hG,hpG⟩:=this Gs hp
  exact hfit G hG p hpG
 ·rw[hl, ← Eo]
  rfl
 ·obtain ⟨BS,hg⟩:=BP hP
  rcases hW with ⟨hz,_,_⟩ | ⟨c3,sm,k1,k2,k3,rfl,rfl⟩
  ·omega
  ·rw[show ∀ q,AV.ren (aV q 20000 nm) (Ag [Sum.inl (.int .i64 code), .inr (.inr (20000,0,n,c3))])=Ag [Sum.inl (.int .i64 code), .inr (.inr (nm,0,n,c3))] from fun q=>rfl,BO,qT k3,BS]
   exact hK c3 sm k1 (by rw[← hg];exact k2) k3
theorem x9 {Xt:Nat→Option aI} {s:AS} {r:Nat→Nat} {nm a n st nx im ke:Nat} {q:Int} {pf:Nat→Int} {v:AV} {out:Nat→Option aI} (h:Xs a n st nx q pf v out) (iR:cL s r 2 (2+nx) nm [] out=Xt):
  ∃ c gM cR tl,AV.ren (aV r 2 nm) v=Sl nm 0 (aT n+3+nx+1) c∧jw gM (qQ 3 cR a n 4 st nx) c∧tl.all SV.plain=true∧Xt nm=some ⟨true,gM.map (SV.ren (rP im nm ke (nm+1) (nm+2) nx))⟩∧
   Xt (nm+1)=some ⟨true,ai .u8 (64*aO n) (gw q n pf)++tl⟩∧ ∀ j,j < nx→Xt (nm+2+j)=some lI:=by
 subst iR
 obtain ⟨c,cs,cR,tl,rfl,hA,hcR,rH,rfl⟩:=h
 have gx:(ai .u8 (64*aO n) (gw q n pf)++tl).all SV.plain=true:=by rw[List.all_append,az,rH];rfl
 have rw3:aV r 2 nm 3=nm+1:=rfl
 have rw4: ∀ j,aV r 2 nm (4+j)=nm+2+j:=fun j=>by
  unfold aV
  rw[if_neg (by omega)]
  omega
 have JM: ∀ {R R' b b':Nat} {g:Nat→Nat},g R=R'→(∀ j,j < nx→g (b+j)=b'+j)→(qQ R cR a n b st nx).map (fun x=>x.map (SV.ren g))=qQ R' cR a n b' st nx:=fun h1 h2=>by
  unfold qQ
  rw[List.map_append,BN h1 h2]
  rfl
 have Tr:=rG (r:=aV r 2 nm) hA
 rw[JM rw3 (b':=nm+2) (fun j _=>rw4 j)]at Tr
 obtain ⟨gM,qd,hce⟩:=gY (L:=qQ 3 cR a n 4 st nx) (r:=rP im nm ke (nm+1) (nm+2) nx) (by rw[JM ae5 (b':=nm+2) (fun j hj=>aah hj)];exact Tr)
 refine ⟨c,gM,cR,tl,rfl,qd,rH, ?_, ?_,fun j hj=> ?_⟩
 ·have:=kO (s:=s) (r:=r) (k:=2) (m:=2+nx) (nm:=nm) (j:=0) (out:=fun t=>if t=2 then some ⟨true,cs⟩ else if t=3 then some ⟨true,ai .u8 (64*aO n) (gw q n pf)++tl⟩ else if 4≤t∧t < 4+nx then some lI else none) (by omega)
  rw[Nat.add_zero]at this
  rw[this, ← hce]
  rfl
 ·rw[kO (by omega)]
  show some (aI.ren _ ⟨true,_⟩)=_
  rw[qT gx]
 ·rw[Nat.add_assoc,kO (by omega)]
  show Option.map _ (if 2+(2+j)=2 then _ else if 2+(2+j)=3 then _ else _)=_
  rw[if_neg (by omega),if_neg (by omega),if_pos (by omega)]
  show some (aI.ren _ lI)=_
  rw[lI,qT az]
theorem F0 {a n st nx m:Nat} {q:Int} {pf:Nat→Int} (h1:a+aO n≤m) (h2:st+nx≤m): ∀ G ∈ wF a n q pf st nx, ∀ p ∈ G,p.1 < m:=fun G hG p hp=>by
 have hNN:aO n=1+aT n:=rfl
 unfold wF nP at hG
 simp only[List.cons_append,List.nil_append,bQ]at hG
 rcases hG with rfl | rfl | rfl
 ·unfold fU at hp
  rw[List.mem_map]at hp
  obtain ⟨i,hi,rfl⟩:=hp
  have:=List.mem_range.1 hi
  show a+1+i < m
  omega
 ·rw[List.mem_singleton]at hp
  subst hp
  show a < m
  omega
 ·rw[zL,List.mem_map]at hp
  obtain ⟨i,hi,rfl⟩:=hp
  rw[List.mem_range'_1]at hi
  show i < m
  omega
theorem OC {f:Nat→Int} {r st:Nat} (h:dh f r=some st):st≤aC f (st+r) st:=(rB (st+r - st) st (vg h).1).2
section
variable {n o c kn:Nat} {f:Nat→Int} {cs kc:List SV} {kb:Nat→Bool} {ks:SV} {at_ cut:Int}
theorem F1 (hs:aY cs o n f) (hc:n≤c) (hp:cs.all SV.plain=true) (hn:n≤1048576) (hf:eJ f) (hk:dE 1 ks kn kb kc) (hq:kc.all SV.plain=true):
  bd Tryz.prog 17 [Sl 0 o n c,Ag (cI at_ cut ks)] 2 (lk [(0,⟨false,cs⟩),(1,⟨false,kc⟩)]) (cX 2 (xX n at_ (cU f (n / 64))) n (Bx kn kb cut f n at_ (cU f (n / 64)))):=by
 refine ft Tryz.func17 rfl (by kernel_rfl) [] [5,6] (by simp[Tryz.ntmps17]) Tryz.sS (rC hk) pX (pY hp hq) ?_
 have hz:zeroOf Tryz.prog 40=some [.int .i64 0, .slice none 0 0]:=by kernel_rfl
 simp only[Tryz.results17,hz,slot,aK,aU,di,seval]
 refine (uu hs hc hp hn hf).av (fun _=>0) none (bZ (rw:=false) (by simp only[ae,vR,seval]) hp) rfl ?_
 rintro v out (⟨hb,rfl,rfl⟩ | ⟨hb,⟨st,hlv,hlf⟩,rfl,rfl⟩ | ⟨hb,st,c1,lr,hlv,hlf,hsh,oF,gx,rfl,rfl⟩) _
 ·rw[show ∀ q,AV.ren q (bE 1 0 0 0 (.inl (.slice none 0 0)))=bE 1 0 0 0 (.inl (.slice none 0 0)) from fun q=>rfl,dW]
  simp only[bE,slot,aK,aU,di,seval]
  refine gL 0 [0,1,3] [2,4,5] [6] [6] [20,21,23,22,24,25] (by kernel_rfl) (by kernel_rfl) (by kernel_rfl) ?_
  simp only[cN,cO,cQ,bE,slot,aK,aU,di,seval]
  refine nI (f:=f) (z:=fun _=>0) (by simp only[bV,seval]) (by simp only[bV,seval];rfl) (by decide) hs hn fun c2 j7 g1 g2 g3=> ?_
  simp only[hz,cN,cO,cQ,slot,aK,aU,di,seval]
  have hw:=BQ (kn:=kn) (kb:=kb) (cut:=cut) (at_:=at_) (f:=f) (r:=cU f (n / 64)) (hb.imp id fun h=>⟨h.1,by unfold cU;rw[h.2]⟩)
  rw[hw.1,hw.2]
  exact bM (q:=27) (by decide) (by simp only[bV,seval]) g2 g3 g1
 ·rw[show ∀ q,AV.ren q (bE 11 0 0 0 (.inl (.slice none 0 0)))=bE 11 0 0 0 (.inl (.slice none 0 0)) from fun q=>rfl,dW]
  simp only[bE,slot,aK,aU,di,seval]
  refine gL 0 [0,1,3] [2,4,5] [6] [6] [20,21,23,22,24,25] (by kernel_rfl) (by kernel_rfl) (by kernel_rfl) ?_
  simp only[cN,cO,cQ,bE,slot,aK,aU,di,seval]
  refine nI (f:=f) (z:=fun _=>0) (by simp only[bV,seval]) (by simp only[bV,seval];rfl) (by decide) hs hn fun c2 j7 g1 g2 g3=> ?_
  simp only[hz,cN,cO,cQ,slot,aK,aU,di,seval]
  have hw:=BT (kn:=kn) (kb:=kb) (cut:=cut) (at_:=at_) (f:=f) (e:=2) (r:=cU f (n / 64)) hb (by unfold cU;rw[hlv];show (if _ then _ else _)=_;rw[if_pos hlf])
  rw[hw.1,hw.2]
  exact bM (q:=27) (by decide) (by simp only[bV,seval]) g2 g3 g1
 ·have Ge:128*(n / 64 / 2)=n∧8≤n / 64 / 2∧n / 64 / 2≤4096:=by
   have:=hb
   unfold gJ at this
   simp only[decide_eq_true_eq]at this
   omega
  obtain ⟨r,rO⟩: ∃ r,r=n / 64 / 2:=⟨_,rfl⟩
  have hn2:n / 64=2*r:=by omega
  obtain ⟨_,PE,J4⟩:=pD (f:=f) (r:=r) (st:=st) (by omega) (by rw[rO];exact hlv)
  rw[← rO]at Ge hlv hsh oF
  have e2: ∀ (N:Nat) (a b d e:Int) (l c:Nat),AV.ren (df (fun _=>0) 1 N) (bE a b d e (.inr (.inr (1,0,l,c))))=bE a b d e (.inr (.inr (N,0,l,c))):=fun N a b d e l c=>rfl
  rw[e2,bX gx, ← rO]
  obtain ⟨p,B6⟩: ∃ p,p=aC f (st+r) st:=⟨_,rfl⟩
  rw[← B6]at hsh oF J4 ⊢
  have hsb:=yE hf (p:=p)
  by_cases TE:bB (aB f p)=18446744073709551615
  ·have b1:(bB (aB f p)==18446744073709551615)=true:=by simp[TE]
   simp only[b1,bE,slot,aK,aU,di,seval]
   refine gL 0 [0,1,3] [2,4,5] [6] [6] [20,21,23,22,24,25] (by kernel_rfl) (by kernel_rfl) (by kernel_rfl) ?_
   simp only[cN,cO,cQ,bE,slot,aK,aU,di,seval]
   refine nI (f:=f) (z:=fun _=>0) (by simp only[bV,seval]) (by simp only[bV,seval];rfl) (by decide) hs hn fun c2 j7 g1 g2 g3=> ?_
   simp only[hz,cN,cO,cQ,slot,aK,aU,di,seval]
   have hw:=BT (kn:=kn) (kb:=kb) (cut:=cut) (at_:=at_) (f:=f) (e:=3) (r:=cU f (n / 64)) hb (by
    unfold cU
    rw[← rO,hlv]
    show (if _ then _ else if _ then _ else _)=_
    rw[if_neg (fun h=>h hlf), ← B6,if_pos TE])
   rw[hw.1,hw.2]
   exact bM (q:=29) (by decide) (by simp only[bV,seval]) g2 g3 g1
  ·have b1:(bB (aB f p)==18446744073709551615)=false:=by simp[TE]
   simp only[b1,bE,slot,aK,aU,di,seval]
   refine gL 20000 [0,1,3,4,5,7] [2,6,8] [9] [2,6] [26,27,29,30,31,33,28,32,34] (by kernel_rfl) (by kernel_rfl) (by kernel_rfl) ?_
   simp only[bE,slot,aK,aU,di,seval]
   refine ⟨Nat.le_refl 3, ?_⟩
   refine (jH (o:=o) (c:=c) hp (by omega)).wide.big.gW (by omega) (fun _=>0) [] (TD (by simp only[bV,seval];rfl) hp) rfl ?_
   rintro v out ⟨rfl,rfl⟩
   have Jg:nR n=r:=by
    unfold nR
    rw[if_pos hb]
    omega
   rw[show ∀ q,AV.ren q (I .i64 (nR n))=I .i64 (nR n) from fun q=>rfl,Jg]
   simp only[slot,aK,aU,di,seval]
   generalize Qi:cL _ (fun _=>0) 1 1 20023 [] _=LR
   have b0:LR 0=some ⟨false,cs⟩:=by rw[← Qi,dI (by decide)];simp only[bV,seval]
   have b1:LR 1=some ⟨false,kc⟩:=by rw[← Qi,dI (by decide)];simp only[bV,seval]
   have b3:LR 3=some ⟨true,[Sum.inl (.int .i64 0),Sum.inl (.slice none 0 0)]⟩:=by rw[← Qi,dI (by decide)];simp only[bV,seval]
   have b5:LR 5=some ⟨true,lr⟩:=by rw[← Qi,dI (by decide)];simp only[bV,seval]
   obtain ⟨h01,hn1,Vp⟩:=FW hlv
   have hge:=OC hlv
   rw[← B6]at hn1 Vp hge
   have Nz:aO (aN (aB f p))≤r:=by
    unfold aE at Vp
    omega
   have hll:aN (aB f p) < 600000:=by
    unfold aO at Nz
    omega
   have hlr:st / r*r=st∧(1 - st / r)*r=r - st:=by
    rcases h01 with rfl | rfl
    ·rw[Nat.zero_div];omega
    ·rw[Nat.div_self (by omega)];omega
   have J1:=Oy (sv:= .inr (.inr (0,0,aN (aB f p),c1))) (n:=aN (aB f p)) (pf:=dP f p) (r:=r) (lv:=st / r) (nx:=aE f p - st) (q:=bB (aB f p)) (dv:= .inr (.inr (1,0,aN (aB f p),c1))) (rp:=false) (Eu:=lr) (ps:=lr) (.inr ⟨0,c1,rfl,oF,hsh⟩) gx gx (FE hf) hll (by omega) (by omega) (by omega) PE J4 ⟨(by decide:1 < 2),rfl⟩
   rw[hlr.1,hlr.2]at J1
   refine J1.gW (by omega) (two 5 5) [] (LQ b5 b5 gx gx) rfl ?_
   rintro v out hv
   generalize rQ:cL _ (two 5 5) 2 _ 40027 [] _=Qj
   obtain ⟨cc,gM,cR,tl,hvv,qd,rH,m1,m2,m3⟩:=x9 (im:=0) (ke:=1) hv rQ
   rw[hvv]
   simp only[slot,aK,aU,di,seval]
   have d0:Qj 0=some ⟨false,cs⟩:=by rw[← rQ,dI (by decide)];exact b0
   have d1:Qj 1=some ⟨false,kc⟩:=by rw[← rQ,dI (by decide)];exact b1
   have d3:Qj 3=some ⟨true,[Sum.inl (.int .i64 0),Sum.inl (.slice none 0 0)]⟩:=by rw[← rQ,dI (by decide)];exact b3
   have hrp:(ai .u8 (64*aO (aN (aB f p))) (gw (bB (aB f p)+1) (aN (aB f p)) (dP f p))++tl).all SV.plain=true:=by rw[List.all_append,az,rH];rfl
   have jT:cU f (n / 64)=(none,wF (r - st) (aN (aB f p)) (bB (aB f p)+1) (dP f p) st (aE f p - st)):=by
    unfold cU
    rw[← rO,hlv]
    show (if _ then _ else if _ then _ else _)=_
    rw[if_neg (fun h=>h hlf), ← B6,if_neg TE]
   obtain ⟨ks',hk',Eo⟩:=dE.iW hk 2
   refine BU (im:=0) (li:=40027) (ke:=1) (re:=40028) (z0:=40029) (Z:=aE f p - st) (m:=n / 64) (kn:=kn) (kb:=kb) (ks:=ks) (L:=qQ 3 cR (r - st) (aN (aB f p)) 4 st (aE f p - st)) (Gs:=wF (r - st) (aN (aB f p)) (bB (aB f p)+1) (dP f p) st (aE f p - st)) (o:=o) (c:=c) (n:=n) (at_:=at_) (cut:=cut) (f:=f)
    d0 m1 d1 m2 (fun j hj=>⟨true,m3 j hj⟩) hp hq hrp hs qd (Ew (by decide) Tz rH (by omega) fun j hj=>⟨_,TA hj (by omega)⟩) (fun x hx=> ?_) (N:=aT (aN (aB f p))+3+(aE f p - st)+1) (by unfold qQ;rw[List.length_append,jx];rfl) (F0 (by omega) (by omega)) ⟨ks',hk',Eo _ TB⟩ (by omega) (by omega) (by omega) (by unfold aT;omega) rfl fun c3 sm k1 k2 k3=> ?_
   ·unfold qQ at hx
    rw[List.mem_append]at hx
    rcases hx with hx | hx
    ·exact yK (by decide) (fun j hj=>by omega) x hx
    ·rw[List.mem_singleton]at hx
     subst hx
     exact FX
   simp only[d3,cN,cO,cQ,slot,aK,aU,di,seval]
   rw[(mZ (kn:=kn) (kb:=kb) (cut:=cut) (f:=f) hb).1,(mZ hb).2,jT]
   exact bM (q:=60031) (by decide) (by simp only[bV,seval]) k2 k3 k1
end
theorem Qr {Xt:Nat→Option aI} {s:AS} {r:Nat→Nat} {nm a n im ke z0:Nat} {q:Int} {pf:Nat→Int} {v:AV} {out:Nat→Option aI} (h:Tq a n q pf v out) (iR:cL s r 1 2 nm [] out=Xt):
  ∃ c gM cR tl,AV.ren (aV r 1 nm) v=Sl nm 0 (aT n+3) c∧jw gM (pC 3 cR a n) c∧tl.all SV.plain=true∧Xt nm=some ⟨true,gM.map (SV.ren (rP im nm ke (nm+1) z0 0))⟩∧
   Xt (nm+1)=some ⟨true,ai .u8 (64*aO n) (gw q n pf)++tl⟩:=by
 subst iR
 obtain ⟨c,cs,cR,tl,rfl,hA,hcR,rH,rfl⟩:=h
 have gx:(ai .u8 (64*aO n) (gw q n pf)++tl).all SV.plain=true:=by rw[List.all_append,az,rH];rfl
 have Tr:=rG (r:=aV r 1 nm) hA
 rw[qP]at Tr
 obtain ⟨gM,qd,hce⟩:=gY (L:=pC 3 cR a n) (r:=rP im nm ke (nm+1) z0 0) (by rw[qP];exact Tr)
 refine ⟨c,gM,cR,tl,rfl,qd,rH, ?_, ?_⟩
 ·have:=kO (s:=s) (r:=r) (k:=1) (m:=2) (nm:=nm) (j:=0) (out:=lk [(1,⟨true,cs⟩),(2,⟨true,ai .u8 (64*aO n) (gw q n pf)++tl⟩)]) (by omega)
  rw[Nat.add_zero]at this
  rw[this, ← hce]
  rfl
 ·rw[kO (by omega)]
  show some (aI.ren _ ⟨true,_⟩)=_
  rw[qT gx]
theorem TF {a n m:Nat} {q:Int} {pf:Nat→Int} (h1:a+aO n≤m): ∀ G ∈ nP a n q pf, ∀ p ∈ G,p.1 < m:=fun G hG p hp=>
 F0 (a:=a) (n:=n) (st:=0) (nx:=0) (q:=q) (pf:=pf) h1 (by omega) G (by unfold wF;exact List.mem_append_left _ hG) p hp
section
variable {n o c kn np:Nat} {f pf:Nat→Int} {cs kc ps:List SV} {kb:Nat→Bool} {ks sv:SV} {at_ cut:Int}
theorem JN (hs:aY cs o n f) (hc:n≤c) (hp:cs.all SV.plain=true) (hn:n≤1048576) (hf:eJ f) (hk:dE 2 ks kn kb kc) (hq:kc.all SV.plain=true) (hl:cS 1 sv np pf ps) (hps:ps.all SV.plain=true) (hpf:eJ pf) (hnp:np < 4611686018427387904):
  bd Tryz.prog 16 [Sl 0 o n c,Sum.inl (Sum.inl sv),Ag (cI at_ cut ks)] 3 (lk [(0,⟨false,cs⟩),(1,⟨false,ps⟩),(2,⟨false,kc⟩)]) (cX 3 (xX n at_ (aW f (n / 64) np pf)) n (Bx kn kb cut f n at_ (aW f (n / 64) np pf))):=by
 refine ft Tryz.func16 rfl (by kernel_rfl) [] [9,11,12] (by simp[Tryz.ntmps16]) Tryz.mJ (fun v hv=> ?_) Y8 (Y9 hp hps hq) ?_
 ·simp only[bQ]at hv
  rcases hv with rfl | rfl | rfl
  ·exact (by decide:0 < 3)
  ·exact (hl.ok (show 1 < 3 by decide)).1
  ·exact ow hk (by decide)
 have hz:zeroOf Tryz.prog 40=some [.int .i64 0, .slice none 0 0]:=by kernel_rfl
 have hlen:eM 1 (some [Sum.inl (Sum.inl sv)])=some (some (I .i64 np),none):=by
  rcases hl with ⟨⟨a,rfl⟩,rfl⟩ | ⟨o,c,rfl,_⟩<;>rfl
 simp only[Tryz.results16,hz,slot,aK,aU,di,seval]
 refine (uu hs hc hp hn hf).av (fun _=>0) none (bZ (rw:=false) (by simp only[ae,vR,seval]) hp) rfl ?_
 rintro v out (⟨hb,rfl,rfl⟩ | ⟨hb,⟨st,hlv,hlf⟩,rfl,rfl⟩ | ⟨hb,st,c1,lr,hlv,hlf,hsh,oF,gx,rfl,rfl⟩) _
 ·rw[show ∀ q,AV.ren q (bE 1 0 0 0 (.inl (.slice none 0 0)))=bE 1 0 0 0 (.inl (.slice none 0 0)) from fun q=>rfl,dW]
  simp only[bE,slot,aK,aU,di,seval]
  refine (jH (o:=o) (c:=c) hp (by omega)).cG (fun _=>0) (bZ (rw:=false) (by simp only[bV,seval]) hp) rfl rfl ?_
  simp only[hlen,bE,slot,aK,aU,di,seval]
  refine (dX (by omega)).av ?_
  simp only[bE,slot,aK,aU,di,seval]
  refine gL 0 [0,1,3] [2,4,5] [6] [7] [38,39,41,40,42,43] (by kernel_rfl) (by kernel_rfl) (by kernel_rfl) ?_
  simp only[cN,cO,cQ,bE,slot,aK,aU,di,seval]
  refine nI (f:=f) (z:=fun _=>0) (by simp only[bV,seval]) (by simp only[bV,seval];rfl) (by decide) hs hn fun c2 j7 g1 g2 g3=> ?_
  simp only[hz,cN,cO,cQ,slot,aK,aU,di,seval]
  have hw:=BQ (kn:=kn) (kb:=kb) (cut:=cut) (at_:=at_) (f:=f) (r:=aW f (n / 64) np pf) (hb.imp id fun h=>⟨h.1,by unfold aW;rw[h.2]⟩)
  rw[hw.1,hw.2]
  exact bM (q:=43) (by decide) (by simp only[bV,seval]) g2 g3 g1
 ·rw[show ∀ q,AV.ren q (bE 11 0 0 0 (.inl (.slice none 0 0)))=bE 11 0 0 0 (.inl (.slice none 0 0)) from fun q=>rfl,dW]
  simp only[bE,slot,aK,aU,di,seval]
  refine (jH (o:=o) (c:=c) hp (by omega)).cG (fun _=>0) (bZ (rw:=false) (by simp only[bV,seval]) hp) rfl rfl ?_
  simp only[hlen,bE,slot,aK,aU,di,seval]
  refine (dX (by omega)).av ?_
  simp only[bE,slot,aK,aU,di,seval]
  refine gL 0 [0,1,3] [2,4,5] [6] [7] [38,39,41,40,42,43] (by kernel_rfl) (by kernel_rfl) (by kernel_rfl) ?_
  simp only[cN,cO,cQ,bE,slot,aK,aU,di,seval]
  refine nI (f:=f) (z:=fun _=>0) (by simp only[bV,seval]) (by simp only[bV,seval];rfl) (by decide) hs hn fun c2 j7 g1 g2 g3=> ?_
  simp only[hz,cN,cO,cQ,slot,aK,aU,di,seval]
  have hw:=BT (kn:=kn) (kb:=kb) (cut:=cut) (at_:=at_) (f:=f) (e:=2) (r:=aW f (n / 64) np pf) hb (by unfold aW;rw[hlv];show (if _ then _ else _)=_;rw[if_pos hlf])
  rw[hw.1,hw.2]
  exact bM (q:=43) (by decide) (by simp only[bV,seval]) g2 g3 g1
 ·have Ge:128*(n / 64 / 2)=n∧8≤n / 64 / 2∧n / 64 / 2≤4096:=by
   have:=hb
   unfold gJ at this
   simp only[decide_eq_true_eq]at this
   omega
  obtain ⟨r,rO⟩: ∃ r,r=n / 64 / 2:=⟨_,rfl⟩
  have hn2:n / 64=2*r:=by omega
  obtain ⟨_,PE,J4⟩:=pD (f:=f) (r:=r) (st:=st) (by omega) (by rw[rO];exact hlv)
  rw[← rO]at Ge hlv hsh oF
  have e2: ∀ (N:Nat) (a b d e:Int) (l c:Nat),AV.ren (df (fun _=>0) 1 N) (bE a b d e (.inr (.inr (1,0,l,c))))=bE a b d e (.inr (.inr (N,0,l,c))):=fun N a b d e l c=>rfl
  rw[e2,bX gx, ← rO]
  obtain ⟨p,B6⟩: ∃ p,p=aC f (st+r) st:=⟨_,rfl⟩
  rw[← B6]at hsh oF J4 ⊢
  have hsb:=yE hf (p:=p)
  obtain ⟨h01,hn1,Vp⟩:=FW hlv
  have hge:=OC hlv
  rw[← B6]at hn1 Vp hge
  have Jg:nR n=r:=by
   unfold nR
   rw[if_pos hb]
   omega
  by_cases TE:bB (aB f p)=18446744073709551615
  ·have b1:(bB (aB f p)==18446744073709551615)=true:=by simp[TE]
   simp only[bE,slot,aK,aU,di,seval]
   refine (jH (o:=o) (c:=c) hp (by omega)).cG (fun _=>0) (bZ (rw:=false) (by simp only[bV,seval]) hp) rfl rfl ?_
   simp only[hlen,bE,slot,aK,aU,di,seval]
   refine (dX (by omega)).av ?_
   simp only[b1,Jg,bE,slot,aK,aU,di,seval]
   refine gL 0 [0,1,3] [2,4,5] [6] [7] [38,39,41,40,42,43] (by kernel_rfl) (by kernel_rfl) (by kernel_rfl) ?_
   simp only[cN,cO,cQ,bE,slot,aK,aU,di,seval]
   refine nI (f:=f) (z:=fun _=>0) (by simp only[bV,seval]) (by simp only[bV,seval];rfl) (by decide) hs hn fun c2 j7 g1 g2 g3=> ?_
   simp only[hz,cN,cO,cQ,slot,aK,aU,di,seval]
   have hw:=BT (kn:=kn) (kb:=kb) (cut:=cut) (at_:=at_) (f:=f) (e:=3) (r:=aW f (n / 64) np pf) hb (by
    unfold aW
    rw[← rO,hlv]
    show (if _ then _ else if _ then _ else _)=_
    rw[if_neg (fun h=>h hlf), ← B6,if_pos TE])
   rw[hw.1,hw.2]
   exact bM (q:=37) (by decide) (by simp only[bV,seval]) g2 g3 g1
  ·have b1:(bB (aB f p)==18446744073709551615)=false:=by simp[TE]
   simp only[bE,slot,aK,aU,di,seval]
   refine (jH (o:=o) (c:=c) hp (by omega)).cG (fun _=>0) (bZ (rw:=false) (by simp only[bV,seval]) hp) rfl rfl ?_
   simp only[hlen,bE,slot,aK,aU,di,seval]
   refine (dX (by omega)).av ?_
   simp only[b1,Jg,bE,slot,aK,aU,di,seval]
   by_cases TG:r < aO np
   ·have b2:decide ((r:Int) < ((aO np:Nat):Int))=true:=decide_eq_true (by omega)
    have l2:((r:Int) < ((aO np:Nat):Int))=True:=eq_true (by omega)
    simp only[b2,l2,decide_true,bE,slot,aK,aU,di,seval]
    refine gL 0 [0,1,3] [2,4,5] [6] [7] [38,39,41,40,42,43] (by kernel_rfl) (by kernel_rfl) (by kernel_rfl) ?_
    simp only[cN,cO,cQ,bE,slot,aK,aU,di,seval]
    refine nI (f:=f) (z:=fun _=>0) (by simp only[bV,seval]) (by simp only[bV,seval];rfl) (by decide) hs hn fun c2 j7 g1 g2 g3=> ?_
    simp only[hz,cN,cO,cQ,slot,aK,aU,di,seval]
    have hw:=BT (kn:=kn) (kb:=kb) (cut:=cut) (at_:=at_) (f:=f) (e:=4) (r:=aW f (n / 64) np pf) hb (by
     unfold aW
     rw[← rO,hlv]
     show (if _ then _ else if _ then _ else if _ then _ else _)=_
     rw[if_neg (fun h=>h hlf), ← B6,if_neg TE,if_pos TG])
    rw[hw.1,hw.2]
    exact bM (q:=45) (by decide) (by simp only[bV,seval]) g2 g3 g1
   ·have b2:decide ((r:Int) < ((aO np:Nat):Int))=false:=decide_eq_false (by omega)
    have l2:((r:Int) < ((aO np:Nat):Int))=False:=eq_false (by omega)
    have w1:IntKind.i64.wrap (((aE f p - st:Nat):Int)+((aO np:Nat):Int))=((aE f p - st+aO np:Nat):Int):=Rq _ _ (by omega)
    simp only[b2,l2,decide_false,w1,bE,slot,aK,aU,di,seval]
    by_cases hfit:aE f p - st+aO np≤r
    ·have b3:decide (((aE f p - st+aO np:Nat):Int)≤(r:Int))=true:=decide_eq_true (by omega)
     simp only[b3,bE,slot,aK,aU,di,seval]
     have hlr:st / r*r=st:=by
      rcases h01 with rfl | rfl
      ·rw[Nat.zero_div];omega
      ·rw[Nat.div_self (by omega)];omega
     have w2:IntKind.i64.wrap (((st / r:Nat):Int)*(r:Int))=((st:Nat):Int):=by
      rw[show ((st / r:Nat):Int)*(r:Int)=((st / r*r:Nat):Int) from (Int.natCast_mul _ _).symm,hlr]
      exact HM _ (by omega)
     have w3:IntKind.i64.wrap ((st:Int)+((aE f p - st:Nat):Int))=((aE f p:Nat):Int):=by
      rw[wrap_i64 _ (by omega) (by omega)]
      omega
     have w4:IntKind.u64.wrap (bB (aB f p)+1)=bB (aB f p)+1:=by rw[wrap_u64];omega
     refine gL 20000 [0,1,2,3,4,5,6,7,8,9,10,11,13] [12,14] [15] [3,7] [50,51,52,53,54,55,56,57,58,59,60,61,63,62,64] (by kernel_rfl) (by kernel_rfl) (by kernel_rfl) ?_
     simp only[w2,w3,w4,bE,slot,aK,aU,di,seval]
     refine ⟨Nat.le_refl 3, ?_⟩
     have aak:np < 600000:=by
      unfold aO at TG
      omega
     obtain ⟨sw,rN,qZ⟩:=hl.iW 0
     refine (JE (q:=bB (aB f p)+1) (a:=aE f p) rN hps hpf aak (by omega) (by omega) (by omega)).gW (by omega) (fun _=>1) [] (TD (by simp only[bV,seval];rfl) hps) (by rw[← qZ (fun _=>1) rfl];rfl) ?_
     rintro v out hv
     generalize rQ:cL _ (fun _=>1) 1 2 20045 [] _=Qj
     obtain ⟨cc,gM,cR,tl,hvv,qd,rH,m1,m2⟩:=Qr (z0:=0) (im:=0) (ke:=2) hv rQ
     rw[hvv]
     simp only[slot,aK,aU,di,seval]
     have d0:Qj 0=some ⟨false,cs⟩:=by rw[← rQ,dI (by decide)];simp only[bV,seval]
     have d2:Qj 2=some ⟨false,kc⟩:=by rw[← rQ,dI (by decide)];simp only[bV,seval]
     have d4:Qj 4=some ⟨true,[Sum.inl (.int .i64 0),Sum.inl (.slice none 0 0)]⟩:=by rw[← rQ,dI (by decide)];simp only[bV,seval]
     have hrp:(ai .u8 (64*aO np) (gw (bB (aB f p)+1) np pf)++tl).all SV.plain=true:=by rw[List.all_append,az,rH];rfl
     obtain ⟨ks',hk',Eo⟩:=dE.iW hk 2
     have jT:aW f (n / 64) np pf=(none,nP (aE f p) np (bB (aB f p)+1) pf):=by
      unfold aW
      rw[← rO,hlv]
      show (if _ then _ else if _ then _ else if _ then _ else if _ then _ else _)=_
      rw[if_neg (fun h=>h hlf), ← B6,if_neg TE,if_neg TG,if_neg (by omega)]
     refine BU (im:=0) (li:=20045) (ke:=2) (re:=20046) (z0:=0) (Z:=0) (m:=n / 64) (kn:=kn) (kb:=kb) (ks:=ks) (L:=pC 3 cR (aE f p) np) (Gs:=nP (aE f p) np (bB (aB f p)+1) pf) (o:=o) (c:=c) (n:=n) (at_:=at_) (cut:=cut) (f:=f)
      d0 m1 d2 m2 (fun j hj=>by omega) hp hq hrp hs qd (Ev (by decide) Tz rH) (vp (by decide)) (N:=aT np+3) JJ (TF (by omega)) ⟨ks',hk',Eo _ TB⟩ (by omega) (by omega) (by omega) (by unfold aT;omega) rfl fun c3 sm k1 k2 k3=> ?_
     simp only[d4,cN,cO,cQ,slot,aK,aU,di,seval]
     rw[(mZ (kn:=kn) (kb:=kb) (cut:=cut) (f:=f) hb).1,(mZ hb).2,jT]
     exact bM (q:=40049) (by decide) (by simp only[bV,seval]) k2 k3 k1
    ·have b3:decide (((aE f p - st+aO np:Nat):Int)≤(r:Int))=false:=decide_eq_false (by omega)
     simp only[b3,bE,slot,aK,aU,di,seval]
     have hlr:st / r*r=st∧(1 - st / r)*r=r - st:=by
      rcases h01 with rfl | rfl
      ·rw[Nat.zero_div];omega
      ·rw[Nat.div_self (by omega)];omega
     refine gL 20000 [0,1,2,3,5] [4,6] [7] [3,7] [65,66,67,68,70,69,71] (by kernel_rfl) (by kernel_rfl) (by kernel_rfl) ?_
     simp only[bE,slot,aK,aU,di,seval]
     refine ⟨Nat.le_refl 3, ?_⟩
     have aak:np < 600000:=by
      unfold aO at TG
      omega
     obtain ⟨sw,rN,qZ⟩:=hl.iW 0
     have J1:=Oy (pf:=pf) (r:=r) (lv:=st / r) (nx:=aE f p - st) (q:=bB (aB f p)) (dv:= .inr (.inr (1,0,aN (aB f p),c1))) (rp:=false) (Eu:=lr) rN hps gx hpf aak (by omega) (by omega) (by omega) PE J4 ⟨(by decide:1 < 2),rfl⟩
     rw[hlr.1,hlr.2]at J1
     refine J1.gW (by omega) (two 1 6) [] (LQ (by simp only[bV,seval];rfl) (by simp only[bV,seval];rfl) hps gx) (by rw[← qZ (two 1 6) rfl];rfl) ?_
     rintro v out hv
     generalize rQ:cL _ (two 1 6) 2 _ 20045 [] _=Qj
     obtain ⟨cc,gM,cR,tl,hvv,qd,rH,m1,m2,m3⟩:=x9 (im:=0) (ke:=2) hv rQ
     rw[hvv]
     simp only[slot,aK,aU,di,seval]
     have d0:Qj 0=some ⟨false,cs⟩:=by rw[← rQ,dI (by decide)];simp only[bV,seval]
     have d2:Qj 2=some ⟨false,kc⟩:=by rw[← rQ,dI (by decide)];simp only[bV,seval]
     have d4:Qj 4=some ⟨true,[Sum.inl (.int .i64 0),Sum.inl (.slice none 0 0)]⟩:=by rw[← rQ,dI (by decide)];simp only[bV,seval]
     have hrp:(ai .u8 (64*aO np) (gw (bB (aB f p)+1) np pf)++tl).all SV.plain=true:=by rw[List.all_append,az,rH];rfl
     obtain ⟨ks',hk',Eo⟩:=dE.iW hk 2
     have jT:aW f (n / 64) np pf=(none,wF (r - st) np (bB (aB f p)+1) pf st (aE f p - st)):=by
      unfold aW
      rw[← rO,hlv]
      show (if _ then _ else if _ then _ else if _ then _ else if _ then _ else _)=_
      rw[if_neg (fun h=>h hlf), ← B6,if_neg TE,if_neg TG,if_pos (by omega)]
     refine BU (im:=0) (li:=20045) (ke:=2) (re:=20046) (z0:=20047) (Z:=aE f p - st) (m:=n / 64) (kn:=kn) (kb:=kb) (ks:=ks) (L:=qQ 3 cR (r - st) np 4 st (aE f p - st)) (Gs:=wF (r - st) np (bB (aB f p)+1) pf st (aE f p - st)) (o:=o) (c:=c) (n:=n) (at_:=at_) (cut:=cut) (f:=f)
      d0 m1 d2 m2 (fun j hj=>⟨true,m3 j hj⟩) hp hq hrp hs qd (Ew (by decide) Tz rH (by omega) fun j hj=>⟨_,TA hj (by omega)⟩) (fun x hx=> ?_) (N:=aT np+3+(aE f p - st)+1) (by unfold qQ;rw[List.length_append,jx];rfl) (F0 (by omega) (by omega)) ⟨ks',hk',Eo _ TB⟩ (by omega) (by omega) (by omega) (by unfold aT;omega) rfl fun c3 sm k1 k2 k3=> ?_
     ·unfold qQ at hx
      rw[List.mem_append]at hx
      rcases hx with hx | hx
      ·exact yK (by decide) (fun j hj=>by omega) x hx
      ·rw[List.mem_singleton]at hx
       subst hx
       exact FX
     simp only[d4,cN,cO,cQ,slot,aK,aU,di,seval]
     rw[(mZ (kn:=kn) (kb:=kb) (cut:=cut) (f:=f) hb).1,(mZ hb).2,jT]
     exact bM (q:=40049) (by decide) (by simp only[bV,seval]) k2 k3 k1
end
theorem OD {n:Nat} {f:Nat→Int} {o o' c c':Nat} {cs ds:List SV} (hc:aY cs o n f) (hd:aY ds o' n f) (hp:cs.all SV.plain=true) (hq:ds.all SV.plain=true) (hn:n < 4611686018427387904):
  bd Tryz.prog 10 [Sl 0 o n c,Sl 1 o' n c'] 2 (lk [(0,⟨false,cs⟩),(1,⟨false,ds⟩)]) (fun v out=>v=B true∧out=fun _=>none):=by
 refine aG Tryz.func10 rfl (by kernel_rfl) (by simp[Tryz.ntmps10]) Tryz.kH (by simp[AV.ok,CV.ok,SV.names]) pX (pY hp hq) ?_
 have nC: ∀ {M:Nat→Prop},(∀ x ∈ cs,SV.ok M x)=True:=eq_true (ao hp)
 have IK: ∀ {M:Nat→Prop},(∀ x ∈ ds,SV.ok M x)=True:=eq_true (ao hq)
 simp only[Tryz.results10,bne_self_eq_false,vR,seval]
 refine bD n (fun k=>[(0,Sl 0 o n c),(1,Sl 1 o' n c'),(12,I .i64 n),(13,I .i64 k)])
  (fun k=>[(0,⟨false,cs⟩),(1,⟨false,ds⟩)]) _ ?_ ?_ ?_
 ·simp only[nC,IK,vR,seval]
 ·intro j hj
  simp only[vR,seval]
  refine cz (by simp;omega) ?_
  simp only[aF,aP hj,hc j hj,hd j hj,bne_self_eq_false,bU j (by omega),vR,seval]
  exact ⟨by kernel_rfl,ao hp,ao hq⟩
 ·simp only[vR,seval]
  refine bR (by simp) ?_
  simp only[vR,seval]
  exact aJ rfl ⟨rfl,rfl⟩
theorem OE {a:Option Addr} {o c:Nat} {cs:List SV} (hp:cs.all SV.plain=true):
  bd Tryz.prog 10 [V (.slice a 0 0),Sl 0 o 0 c] 1 (lk [(0,⟨false,cs⟩)]) (fun v out=>v=B true∧out=fun _=>none):=by
 refine aG Tryz.func10 rfl (by kernel_rfl) (by simp[Tryz.ntmps10]) Tryz.kH (by simp[AV.ok,CV.ok,SV.names]) fF (fG hp) ?_
 simp only[Tryz.results10,bne_self_eq_false,vR,seval]
 refine bD 0 (fun k=>[(12,I .i64 0),(13,I .i64 k)]) (fun k=>[]) _ ?_ ?_ ?_
 ·simp only[vR,seval]
 ·intro j hj;omega
 ·simp only[vR,seval]
  refine bR (by simp) ?_
  simp only[vR,seval]
  exact aJ rfl ⟨rfl,rfl⟩
theorem OG {a:Option Addr} {o c:Nat} {cs:List SV} (hp:cs.all SV.plain=true):
  bd Tryz.prog 10 [Sl 0 o 0 c,V (.slice a 0 0)] 1 (lk [(0,⟨false,cs⟩)]) (fun v out=>v=B true∧out=fun _=>none):=by
 refine aG Tryz.func10 rfl (by kernel_rfl) (by simp[Tryz.ntmps10]) Tryz.kH (by simp[AV.ok,CV.ok,SV.names]) fF (fG hp) ?_
 simp only[Tryz.results10,bne_self_eq_false,vR,seval]
 refine bD 0 (fun k=>[(12,I .i64 0),(13,I .i64 k)]) (fun k=>[]) _ ?_ ?_ ?_
 ·simp only[vR,seval]
 ·intro j hj;omega
 ·simp only[vR,seval]
  refine bR (by simp) ?_
  simp only[vR,seval]
  exact aJ rfl ⟨rfl,rfl⟩
theorem OH {a a':Option Addr}:bd Tryz.prog 10 [V (.slice a 0 0),V (.slice a' 0 0)] 0 (fun _=>none) (fun v out=>v=B true∧out=fun _=>none):=by
 refine aG Tryz.func10 rfl (by kernel_rfl) (by simp[Tryz.ntmps10]) Tryz.kH (by simp[AV.ok,CV.ok,SV.names]) rK rL ?_
 simp only[Tryz.results10,bne_self_eq_false,vR,seval]
 refine bD 0 (fun k=>[(12,I .i64 0),(13,I .i64 k)]) (fun k=>[]) _ ?_ ?_ ?_
 ·simp only[vR,seval]
 ·intro j hj;omega
 ·simp only[vR,seval]
  refine bR (by simp) ?_
  simp only[vR,seval]
  exact aJ rfl ⟨rfl,rfl⟩
theorem oz {s:AS} {nm:Nat} {v u:AV} {n:Nat} {f:Nat→Int} (hn:n < 4611686018427387904) (h1:fA s.box v n f) (h2:fA s.box u n f) {dst:Option Nat} {K:AS→Prop} (hk:K (s.put dst (some (B true)))):
  av Tryz.prog nm 10 (some [v,u]) dst K s:=by
 rcases h1 with ⟨⟨a,rfl⟩,rfl⟩ | ⟨t,o,c,UW,cs,rfl,hb,hp,hc⟩<;>rcases h2 with ⟨⟨a',rfl⟩,h0⟩ | ⟨t',o',c',rw2,ds,rfl,hb',hq,hd⟩
 ·exact OH.cG (fun n=>n) fQ rfl rfl hk
 ·exact (OE hq).cG (fun _=>t') (bZ hb' hq) rfl rfl hk
 ·subst h0
  exact (OG hp).cG (fun _=>t) (bZ hb hp) rfl rfl hk
 ·exact (OD hc hd hp hq hn).cG (two t t') (jq hb hp hb' hq) rfl rfl hk
theorem oA {s:AS} {nm:Nat} {v u:AV} {n:Nat} {f:Nat→Int} (hn:n < 4611686018427387904) (h1:fA s.box v n f) (h2:fA s.box u n f) {ops:Array Oper} {i:Nat} {dst:Option Nat} {K:AS→Prop} (hk:K (s.put dst (some (B true)))):
  km Tryz.prog ops i nm 10 (some [v,u]) dst K s:=by
 rcases h1 with ⟨⟨a,rfl⟩,rfl⟩ | ⟨t,o,c,UW,cs,rfl,hb,hp,hc⟩<;>rcases h2 with ⟨⟨a',rfl⟩,h0⟩ | ⟨t',o',c',rw2,ds,rfl,hb',hq,hd⟩
 ·exact OH.eV (fun n=>n) fQ rfl rfl (fun M h n hn=>by omega) hk
 ·exact (OE hq).eV (fun _=>t') (bZ hb' hq) rfl rfl (fun M h n _=>h (Sl t' o' 0 c') (List.Mem.tail _ (List.Mem.head _))) hk
 ·subst h0
  exact (OG hp).eV (fun _=>t) (bZ hb hp) rfl rfl (fun M h n _=>h (Sl t o 0 c) (List.Mem.head _)) hk
 ·exact (OD hc hd hp hq hn).eV (two t t') (jq hb hp hb' hq) rfl rfl (fun M h n' hn'=>by
   rcases Nat.lt_or_ge n' 1 with h0 | h0
   ·rw[show n'=0 by omega];exact h (Sl t o n c) (List.Mem.head _)
   ·rw[show n'=1 by omega];exact h (Sl t' o' n c') (List.Mem.tail _ (List.Mem.head _))) hk
theorem TH {n:Nat} {f:Nat→Int} {o c:Nat} {cs:List SV} (hc:aY cs o n f) (hp:cs.all SV.plain=true) (hn:n≤140737488355328):
  bd Tryz.prog 22 [Sl 0 o n c] 1 (lk [(0,⟨false,cs⟩)]) (Made 1 n f):=by
 refine aG Tryz.func22 rfl (by kernel_rfl) (by simp[Tryz.ntmps22]) Tryz.oP (by simp[AV.ok,CV.ok,SV.names]) fF (fG hp) ?_
 simp only[Tryz.results22,vR,seval]
 refine vD (b:=2) (olds:=[]) (news:=ai .u8 n f) (m:=n) Tryz.eK Tryz.fc rfl (by decide) rfl rfl rfl (Nat.le_refl _) rfl M4 az
  (.inl ⟨0,o,c,⟨false,cs⟩,rfl,rfl,by rw[aD,Nat.mul_one],iU hc,by decide⟩) (by omega) (by omega) ?_
 intro c' tail h1 h2 h3
 simp only[vR,seval]
 refine gR (k:=1) (q:=4) (cs:=ai .u8 n f++tail) (by decide) ?_ (bY h3) ⟨c',tail,rfl,rfl,by omega,by omega,h3⟩
 simp only[vR,seval]
theorem TI {a:Option Addr} {f:Nat→Int}:bd Tryz.prog 22 [V (.slice a 0 0)] 0 (fun _=>none) (Made 0 0 f):=by
 refine aG Tryz.func22 rfl (by kernel_rfl) (by simp[Tryz.ntmps22]) Tryz.oP (by simp[AV.ok,CV.ok,SV.names]) rK rL ?_
 simp only[Tryz.results22,vR,seval]
 refine vD (b:=1) (olds:=[]) (news:=[]) (m:=0) Tryz.eK Tryz.fc rfl (by decide) rfl rfl rfl (Nat.le_refl _) rfl M4 az
  (.inr ⟨⟨_,rfl⟩,rfl,rfl⟩) (by omega) (by omega) ?_
 intro c' tail h1 h2 h3
 simp only[vR,seval]
 refine gR (k:=0) (q:=3) (cs:=ai .u8 0 f++tail) (by decide) ?_ (bY h3) ⟨c',tail,rfl,rfl,by omega,by omega,h3⟩
 simp only[vR,seval]
 rfl
def iN (k n c:Nat):AV:=Ag [Sum.inr (Sum.inr (k,0,n+64,c)),Sum.inl (.int .i64 n)]
def Wh (k n:Nat) (f:Nat→Int) (v:AV) (out:Nat→Option aI):Prop:=
 ∃ c tail,v=iN k n c∧out=lk [(k,⟨true,ai .u8 n f++(ai .u8 64 (fun _=>0)++tail)⟩)]∧n+64≤c∧tail.length=c - (n+64)∧tail.all SV.plain=true
theorem kP {n:Nat} {f:Nat→Int} {tail:List SV} (h:tail.all SV.plain=true):(ai .u8 n f++(ai .u8 64 (fun _=>0)++tail)).all SV.plain=true:=by
 rw[List.all_append,az,bY h];rfl
theorem F2 {M:Nat→Prop} {k n c:Nat} (h:M k):AV.ok M (iN k n c):=by
 intro x hx
 simp only[bQ]at hx
 rcases hx with rfl | rfl
 ·exact ⟨h,rfl⟩
 ·exact ⟨trivial,rfl⟩
theorem JO {s:AS} {k q n c:Nat} {f:Nat→Int} {tail:List SV} (hq:k≤q) (hb:s.box q=some ⟨true,ai .u8 n f++(ai .u8 64 (fun _=>0)++tail)⟩) (h1:n+64≤c) (h2:tail.length=c - (n+64)) (h3:tail.all SV.plain=true):
  m8 k (Wh k n f) (iN q n c) s:=by
 refine ⟨q,iN k n c,lk [(k,⟨true,ai .u8 n f++(ai .u8 64 (fun _=>0)++tail)⟩)],hq, ?_, ?_,fun m b hm=> ?_,c,tail,rfl,rfl,h1,h2,h3⟩
 ·show iN q n c=iN (jY k q k) n c
  rw[kt]
 ·intro x hx
  simp only[bQ]at hx
  rcases hx with rfl | rfl
  ·exact ⟨Nat.lt_succ_self k,rfl⟩
  ·exact ⟨trivial,rfl⟩
 ·simp only[lk]at hm
  split at hm
  ·rename_i e
   simp only[Option.some.injEq]at hm;subst e hm
   exact ⟨Nat.lt_succ_self m,fun _=>rfl,ao (kP h3),_,by rw[kt];exact hb,fun _=>rfl,(au (kP h3) _).symm⟩
  ·cases hm
theorem aal {n:Nat} {f:Nat→Int} {o c:Nat} {cs:List SV} (hc:aY cs o n f) (hp:cs.all SV.plain=true) (hn:n+64≤140737488355328):
  bd Tryz.prog 4 [Sl 0 o n c] 1 (lk [(0,⟨false,cs⟩)]) (Wh 1 n f):=by
 refine aG Tryz.func4 rfl (by kernel_rfl) (by simp[Tryz.ntmps4]) Tryz.ri (by simp[AV.ok,CV.ok,SV.names]) fF (fG hp) ?_
 simp only[Tryz.results4,vR,seval]
 refine ia (TH hc hp (by omega)) (fun _=>0) (bZ (rw:=false) (by simp only[ae,vR,seval]) hp) rfl ?_
 intro c1 mM h1 h2 h3
 simp only[vR,seval]
 refine lz (b:=3) (o:=0) (n:=n) (c:=c1) (m:=64) (cs:=ai .u8 n f++mM) (olds:=ai .u8 n f) Tryz.eK Tryz.D1 rfl (by decide) rfl (by simp only[ae,vR,seval]) (by rw[List.length_append,aD];omega)
  (by rw[aD,Nat.mul_one]) (iU dy) (bY h3) (by decide) (by decide) (by decide) (by omega) (by omega) ?_
 intro c' tail h1' h2' h3'
 simp only[uI,List.append_assoc,vS,seval]
 refine JO (k:=1) (q:=4) (by decide) ?_ h1' (by omega) h3'
 simp only[vR,seval]
theorem aam {a:Option Addr} {f:Nat→Int}:bd Tryz.prog 4 [V (.slice a 0 0)] 0 (fun _=>none) (Wh 0 0 f):=by
 refine aG Tryz.func4 rfl (by kernel_rfl) (by simp[Tryz.ntmps4]) Tryz.ri (by simp[AV.ok,CV.ok,SV.names]) rK rL ?_
 simp only[Tryz.results4,vR,seval]
 refine ia (f:=f) TI (fun n=>n) fQ rfl ?_
 intro c1 mM h1 h2 h3
 simp only[vR,seval]
 refine lz (b:=2) (o:=0) (n:=0) (c:=c1) (m:=64) (cs:=ai .u8 0 f++mM) (olds:=ai .u8 0 f) Tryz.eK Tryz.D1 rfl (by decide) rfl (by simp only[ae,vR,seval]) (by rw[List.length_append,aD];omega)
  (by rw[aD,Nat.mul_one]) (iU dy) (bY h3) (by decide) (by decide) (by decide) (by omega) (by omega) ?_
 intro c' tail h1' h2' h3'
 simp only[uI,List.append_assoc,vS,seval]
 refine JO (k:=0) (q:=3) (by decide) ?_ h1' (by omega) h3'
 simp only[vR,seval]
theorem TJ {n c:Nat} {cs:List SV} (hn:n+64≤c) (hp:cs.all SV.plain=true):bd Tryz.prog 7 [iN 0 n c] 1 (lk [(0,⟨false,cs⟩)]) (fun v out=>v=Sl 0 0 n c∧out=fun _=>none):=by
 refine aG Tryz.func7 rfl (by kernel_rfl) (by simp[Tryz.ntmps7]) Tryz.vW (fun v hv=>by rw[List.mem_singleton.1 hv];exact F2 (by decide)) fF (fG hp) ?_
 have h1:((n:Int)≤(c:Int))=True:=eq_true (by omega)
 simp only[Tryz.results7,iN,aF,h1,vR,seval]
 exact Y6 (by decide) ⟨rfl,rfl⟩
theorem LS {n o c:Nat} {f:Nat→Int} {tail:List SV} (hp:tail.all SV.plain=true) (hn:n < 4611686018427387904) (ho:o=0):
  bd Tryz.prog 19 [Sl 0 o n c] 1 (lk [(0,⟨true,ai .u8 n f++tail⟩)]) (fun v out=>v= .inr []∧out=lk [(0,⟨true,ai .u8 n (fun i=>fu .xor .u8 (f i) 165)++tail⟩)]):=by
 subst ho
 refine aG Tryz.func19 rfl (by kernel_rfl) (by simp[Tryz.ntmps19]) Tryz.sU (by simp[AV.ok,CV.ok,SV.names]) fF (fG (bY hp)) ?_
 simp only[Tryz.results19,vR,seval]
 refine bD n (fun k=>[(0,Sl 0 0 n c),(4,I .i64 n),(5,I .i64 k)])
  (fun k=>[(0,⟨true,ai .u8 n (fun i=>if i < k then fu .xor .u8 (f i) 165 else f i)++tail⟩)]) _ ?_ ?_ ?_
 ·simp only[Nat.not_lt_zero,if_false,vR,seval]
  exact ao (bY hp)
 ·intro j hj
  have hg: ∀ g:Nat→Int,(ai .u8 n g++tail)[j]? =some (Sum.inl (.int .u8 (g j))):=fun g=>by
   have:=dy (n:=n) (f:=g) (tail:=tail) j hj
   rwa [Nat.zero_add]at this
  have hs: ∀ (g:Nat→Int) (v:Int),splice (ai .u8 n g++tail) j [Sum.inl (Value.int .u8 v)]=ai .u8 n (upd g j v)++tail:=fun g v=>by
   rw[← dq .u8 n g j hj]
   simp only[splice,List.length_singleton]
   rw[List.take_append_of_le_length (by rw[aD];omega),List.drop_append_of_le_length (by rw[aD];omega)]
   simp only[List.append_assoc]
  simp only[vR,seval]
  refine cz (by simp;omega) ?_
  simp only[aF,aP hj,hg,hs,Nat.lt_irrefl,if_false,bU j (by omega),vR,seval]
  refine ⟨by rw[List.length_append,aD];omega, ?_⟩
  exact ⟨congrArg (fun c=>some (aI.mk true (c++tail))) (vF (f:=fun i=>fu .xor .u8 (f i) 165) (g:=f)),ao (bY hp)⟩
 ·simp only[vR,seval]
  refine bR (by simp) ?_
  simp only[yl,vR,seval]
  exact Go.cn.bM (cs:=ai .u8 n (fun i=>fu .xor .u8 (f i) 165)++tail) (by decide) rfl (by simp only[vR,seval]) (bY hp) ⟨rfl,rfl⟩
theorem LU:pU Tryz.prog 19 [V (.slice none 0 0)] (.inr []):=by
 refine fV Tryz.func19 rfl (by kernel_rfl) (by simp[Tryz.ntmps19]) rfl rfl ?_
 simp only[Tryz.results19,vR,seval]
 refine bD 0 (fun k=>[(4,I .i64 0),(5,I .i64 k)]) (fun k=>[]) _ ?_ ?_ ?_
 ·simp only[vR,seval]
 ·intro j hj;omega
 ·simp only[vR,seval]
  refine bR (by simp) ?_
  simp only[vR,seval]
theorem aan {n o c c':Nat} {f:Nat→Int} {tail cs:List SV} (hc:n+64≤c) (hn:n < 4611686018427387904) (hp:tail.all SV.plain=true) (hs:aY cs o n f) (hq:cs.all SV.plain=true):
  bd Tryz.prog 20 [iN 0 n c,Sl 1 o n c'] 2 (lk [(0,⟨false,ai .u8 n f++(ai .u8 64 (fun _=>0)++tail)⟩),(1,⟨false,cs⟩)]) (fun v out=>v=B true∧out=fun _=>none):=by
 have hsh:aY (ai .u8 n f++(ai .u8 64 (fun _=>0)++tail)) n 64 (fun _=>0):=fun i hi=>by
  rw[List.getElem?_append_right (by rw[aD];omega),aD,show n+i - n=i by omega,List.getElem?_append_left (by rw[aD];exact hi),bN .u8 64 _ i hi]
 refine aG Tryz.func20 rfl (by kernel_rfl) (by simp[Tryz.ntmps20]) Tryz.oO (fun v hv=>by
  simp only[bQ]at hv
  rcases hv with rfl | rfl
  ·exact F2 (by decide)
  ·exact (by decide:1 < 2)) pX (pY (kP hp) hq) ?_
 have h1:((n:Int)≤(c:Int))=True:=eq_true (by omega)
 have h2:((n:Int)≤((n+64:Nat):Int))=True:=eq_true (by omega)
 have h3:(((n+64:Nat):Int)≤(c:Int))=True:=eq_true (by omega)
 have h4:(if c=n then 0 else n)=n:=if_neg (by omega)
 have h5:n+64 - n=64:=by omega
 simp only[Tryz.results20,iN,aF,h1,h2,h3,vR,seval]
 refine ⟨by kernel_rfl, ?_⟩
 refine oA hn (.inr ⟨0,0,c,false,_,rfl,by simp only[ae,vR,seval],kP hp,dy⟩) (.inr ⟨1,o,c',false,cs,rfl,by simp only[ae,vR,seval],hq,hs⟩) ?_
 simp only[aF,h1,h2,h3,h4,h5,vR,seval]
 refine oA (by decide) (.inr ⟨0,n,c - n,false,_,rfl,by simp only[ae,vR,seval],kP hp,hsh⟩) (.inr ⟨17,0,64,true,ai .u8 64 (fun _=>0),rfl,by simp only[ae,vR,seval],az,dL⟩) ?_
 simp only[vR,seval]
 exact aJ rfl ⟨rfl,rfl⟩
theorem aao {a:Option Addr} {c:Nat} {f:Nat→Int} {tail:List SV} (hc:0+64≤c) (hp:tail.all SV.plain=true):
  bd Tryz.prog 20 [iN 0 0 c,V (.slice a 0 0)] 1 (lk [(0,⟨false,ai .u8 0 f++(ai .u8 64 (fun _=>0)++tail)⟩)]) (fun v out=>v=B true∧out=fun _=>none):=by
 have hsh:aY (ai .u8 0 f++(ai .u8 64 (fun _=>0)++tail)) 0 64 (fun _=>0):=fun i hi=>by
  rw[List.getElem?_append_right (by rw[aD];omega),aD,show 0+i - 0=i by omega,List.getElem?_append_left (by rw[aD];exact hi),bN .u8 64 _ i hi]
 refine aG Tryz.func20 rfl (by kernel_rfl) (by simp[Tryz.ntmps20]) Tryz.oO (fun v hv=>by
  simp only[bQ]at hv
  rcases hv with rfl | rfl
  ·exact F2 (by decide)
  ·trivial) fF (fG (kP hp)) ?_
 have h0:(0≤(c:Int))=True:=eq_true (by omega)
 have h3:(64≤(c:Int))=True:=eq_true (by omega)
 have h4:(if c=0 then 0 else 0)=0:=by split<;>rfl
 simp only[Tryz.results20,iN,aF,h0,h3,vR,seval]
 refine ⟨by kernel_rfl, ?_⟩
 refine oA (n:=0) (f:=f) (by decide) (.inr ⟨0,0,c,false,_,rfl,by simp only[ae,vR,seval],kP hp,dy⟩) (.inl ⟨⟨_,rfl⟩,rfl⟩) ?_
 simp only[aF,h0,h3,h4,vR,seval]
 refine oA (by decide) (.inr ⟨0,0,c - 0,false,_,rfl,by simp only[ae,vR,seval],kP hp,hsh⟩) (.inr ⟨16,0,64,true,ai .u8 64 (fun _=>0),rfl,by simp only[ae,vR,seval],az,dL⟩) ?_
 simp only[vR,seval]
 exact aJ rfl ⟨rfl,rfl⟩
theorem Ex {s:AS} {fn k n nm:Nat} {f:Nat→Int} {args l:List AV} {ins:Nat→Option aI} (h:bd Tryz.prog fn args k ins (Wh k n f)) (r:Nat→Nat) (hfit:Fits s r ins none) (hl:l=args.map (AV.ren r)) {dst:Option Nat} {K:AS→Prop}
  (hk: ∀ c tail,n+64≤c→tail.length=c - (n+64)→tail.all SV.plain=true→K ((⟨s.env,upd s.box nm (some ⟨true,ai .u8 n f++(ai .u8 64 (fun _=>0)++tail)⟩),s.next⟩:AS).put dst (some (iN nm n c)))):av Tryz.prog nm fn (some l) dst K s:=by
 refine h.av r none hfit hl ?_
 rintro v out ⟨c,tail,rfl,rfl,h1,h2,h3⟩ _
 rw[bX (kP h3)]
 have e:AV.ren (df r k nm) (iN k n c)=iN nm n c:=by show iN (df r k nm k) n c=_;rw[gF]
 rw[e]
 exact hk c tail h1 h2 h3
def fmF (n:Nat) (pf:Nat→Int) (i:Nat):Int:=if i < 64*aO n then gw 1 n pf i else 0
theorem TK {n:Nat} {pf:Nat→Int}: ∀ k,dT (fun _=>0) ((List.range k).map fun i=>((0+1+i,fun j=>iL n pf (i*64+j)):Pd))=fun i=>if 64≤i∧i < 64+64*k then iL n pf (i - 64) else 0:=fun k=>by
 induction k with
 | zero=>
  funext i
  rw[if_neg (by omega)]
  rfl
 | succ k ih=>
  rw[List.range_succ,List.map_append,vo,ih]
  funext i
  show wv (fun i=>if 64≤i∧i < 64+64*k then iL n pf (i - 64) else 0) (0+1+k,fun j=>iL n pf (k*64+j)) i=_
  unfold wv
  show (if 64*(0+1+k)≤i∧i < 64*(0+1+k)+64 then iL n pf (k*64+(i - 64*(0+1+k))) else if 64≤i∧i < 64+64*k then iL n pf (i - 64) else 0)=_
  by_cases h1:64*(0+1+k)≤i∧i < 64*(0+1+k)+64
  ·rw[if_pos h1,if_pos (by omega),show k*64+(i - 64*(0+1+k))=i - 64 by omega]
  ·rw[if_neg h1]
   by_cases h2:64≤i∧i < 64+64*k
   ·rw[if_pos h2,if_pos (by omega)]
   ·rw[if_neg h2,if_neg (by omega)]
theorem acA {n:Nat} {pf:Nat→Int}:pk (fun _=>0) (nP 0 n 1 pf)=fmF n pf:=by
 have h:pk (fun _=>0) (nP 0 n 1 pf)=wv (dT (fun _=>0) (fU 0 n pf)) (0,lC 1 n pf):=rfl
 rw[h]
 unfold fU
 rw[TK]
 funext i
 unfold wv fmF gw bC aO aT
 show (if 64*0≤i∧i < 64*0+64 then lC 1 n pf (i - 64*0) else if 64≤i∧i < 64+64*((n+63) / 64) then iL n pf (i - 64) else 0)=_
 by_cases h1:i < 64
 ·rw[if_pos (by omega),if_pos (by omega),if_pos h1]
  rfl
 ·rw[if_neg (by omega)]
  by_cases h2:i < 64+64*((n+63) / 64)
  ·rw[if_pos (by omega),if_pos (by omega),if_neg h1]
  ·rw[if_neg (by omega),if_neg (by omega)]
section
variable {n:Nat} {r:Int} {sv:SV} {pf:Nat→Int} {ps:List SV}
theorem JQ (hl:cS 0 sv n pf ps) (hp:ps.all SV.plain=true) (hpf:eJ pf) (hn:n < 9223372036854775000):
  bd Tryz.prog 11 [I .i64 r,Sum.inl (Sum.inl sv)] 1 (lk [(0,⟨false,ps⟩)]) (nQ 1 n r pf):=by
 have hlen:eM 1 (some [Sum.inl (Sum.inl sv)])=some (some (I .i64 n),none):=by
  rcases hl with ⟨⟨a,rfl⟩,rfl⟩ | ⟨o,c,rfl,_⟩<;>rfl
 refine aG Tryz.func11 rfl (by kernel_rfl) (by simp[Tryz.ntmps11]) Tryz.sN (fun v hv=>by
  simp only[bQ]at hv
  rcases hv with rfl | rfl
  ·trivial
  ·exact (hl.ok (show 0 < 1 by decide)).1) fF (fG hp) ?_
 by_cases g1:r < 8
 ·have b1:decide (r < 8)=true:=decide_eq_true g1
  simp only[Tryz.results11,b1,vR,seval]
  exact aJ rfl (show nQ 1 n r pf _ _ from Or.inl ⟨decide_eq_false fun h=>by have:=h.1;omega,rfl,rfl⟩)
 have b1:decide (r < 8)=false:=decide_eq_false g1
 by_cases g2:4096 < r
 ·have b2:decide (4096 < r)=true:=decide_eq_true g2
  simp only[Tryz.results11,b1,b2,vR,seval]
  exact aJ rfl (show nQ 1 n r pf _ _ from Or.inl ⟨decide_eq_false fun h=>by have:=h.1;omega,rfl,rfl⟩)
 have b2:decide (4096 < r)=false:=decide_eq_false g2
 simp only[Tryz.results11,b1,b2,hlen,vR,seval]
 refine (dX hn).av ?_
 by_cases g3:r < (aO n:Int)
 ·have b3:decide (r < ((aO n:Nat):Int))=true:=decide_eq_true g3
  simp only[b1,b2,b3,hlen,vR,seval]
  exact aJ rfl (show nQ 1 n r pf _ _ from Or.inl ⟨decide_eq_false fun h=>by have:=h.2;omega,rfl,rfl⟩)
 have b3:decide (r < ((aO n:Nat):Int))=false:=decide_eq_false g3
 simp only[b1,b2,b3,hlen,vR,seval]
 obtain ⟨R,rfl⟩:=Int.eq_ofNat_of_zero_le (show 0≤r by omega)
 have hNN:aO n=1+aT n:=rfl
 have hCC:aT n=(n+63) / 64:=rfl
 refine ia (qN (q:=1) hl hp hpf (by omega) (by decide) (by decide)) (fun n=>n) (vj (r0:=false) (by simp only[ae,vR,seval]) hp) (fC _) fun c1 mM a1 a2 a3=> ?_
 simp only[vR,seval]
 have w1:IntKind.i64.wrap (128*(R:Int))=((128*R:Nat):Int):=by rw[wrap_i64 _ (by omega) (by omega)];omega
 refine kE (β:=Nat×List SV) (128*R - 64*aO n) (fun k y=>dQ y.2 0 (64*aO n+k) y.1 (fmF n pf))
  (fun k y=>[(0,I .i64 (R:Nat)),(5,Sl 60 0 (64*aO n+k) y.1)]) (fun k y=>[(60,⟨true,y.2⟩)]) 61 (c1,ai .u8 (64*aO n) (gw 1 n pf)++mM) ?_ ?_ ?_ (by show 18≤61;decide)
 ·refine ⟨(dQ.row a1 a2 a3).congr rfl fun i hi=> ?_,60,16, ?_⟩
  ·unfold fmF
   rw[if_pos (by omega)]
  ·simp only[fJ,jM,iZ,sf,nu,bY a3,true_or,vR,seval]
   simp
 ·rintro k ⟨c',cs'⟩ hk h1
  simp only at h1
  have d1:decide (((64*aO n+k:Nat):Int) < ((128*R:Nat):Int))=true:=decide_eq_true (by omega)
  simp only[w1,d1,vR,seval]
  refine dC (g:=fun _=>0) Tryz.eK Tryz.fc (by simp only[ae,vR,seval]) h1 (.inr ⟨_,_,_,true,[Sum.inl (.int .u8 0)],rfl,by simp only[ae,mD,vR,seval],jN,by decide⟩) (by omega) ?_
  intro c3 sm Cn
  simp only[vR,seval]
  refine ⟨(c3,sm),Cn.congr (by omega) fun i hi=> ?_,60,68, ?_⟩
  ·unfold fmF bC
   by_cases h:i < 64*aO n+k
   ·rw[if_pos h]
   ·rw[if_neg h,if_neg (by omega)]
  ·simp only[fJ,jM,iZ,sf,nu,Cn.plain,true_or,vR,seval]
   simp[Nat.add_assoc]
 ·rintro ⟨c',cs'⟩ h1
  simp only at h1
  have e0:64*aO n+(128*R - 64*aO n)=128*R:=by omega
  have d1:decide (((64*aO n+(128*R - 64*aO n):Nat):Int) < ((128*R:Nat):Int))=false:=decide_eq_false (by omega)
  simp only[w1,d1,vR,seval]
  rw[e0]at h1
  obtain ⟨cc,hcc⟩: ∃ x,x=64*aO n+(128*R - 64*aO n):=⟨_,rfl⟩
  rw[e0]
  refine FY (fun v out h=> ?_) (kF (k:=1) (q:=60) (m:=128*R) (by decide) h1 (by simp only[ae,vR,seval]) rfl)
  refine Or.inr ⟨decide_eq_true ⟨by omega,by omega⟩, ?_⟩
  rw[acA]
  exact h
end
def nw (n:Nat) (f:Nat→Bool):List SV:=(List.range n).map fun i=>Sum.inl (.bool (f i))
theorem jB {n:Nat} {f:Nat→Bool}:(nw n f).length=n:=by simp[nw]
theorem gp {n:Nat} {f:Nat→Bool}:(nw n f).all SV.plain=true:=by
 unfold nw
 rw[List.all_map,List.all_eq_true]
 intro x _
 rfl
theorem nJ {n:Nat} {f:Nat→Bool} {i:Nat} (h:i < n):(nw n f)[i]? =some (Sum.inl (.bool (f i))):=by simp[nw,h]
def BV (cs:List SV) (o n:Nat) (f:Nat→Bool):Prop:= ∀ i,i < n→cs[o+i]? =some (Sum.inl (.bool (f i)))
theorem Qs {cs:List SV} {o n:Nat} {f:Nat→Bool} (h:BV cs o n f): ∀ j u,(nw n f)[j]? =some u→cs[o+j]? =some u:=fun j u hj=>by
 have hlt:=(List.getElem?_eq_some_iff.1 hj).1
 rw[jB]at hlt
 rw[nJ hlt]at hj
 rw[h j hlt,hj]
def vt (k:Nat) (at_ cut:Int) (n c:Nat):AV:=Ag [Sum.inl (.int .i64 at_), .inr (.inr (k,0,n,c)),Sum.inl (.int .i64 cut), .inr (.inr (k,0,n+2,c))]
def aap (k n:Nat) (f:Nat→Bool) (at_ cut:Int) (v:AV) (out:Nat→Option aI):Prop:=
 ∃ c tail,v=vt k at_ cut n c∧n+2≤c∧tail.all SV.plain=true∧out=lk [(k,⟨true,nw n f++(nw 2 (fun _=>false)++tail)⟩)]
theorem ae7 {a b c d x y z:SV}:splice [a,b,c,d] 0 [x,y,z]=[x,y,z,d]:=rfl
theorem ae8 {a b c d x:SV}:splice [a,b,c,d] 3 [x]=[a,b,c,x]:=rfl
theorem acB {a b c d w x y z:SV}:splice [a,b,c,d] 0 [w,x,y,z]=[w,x,y,z]:=rfl
section
variable {kn:Nat} {kb:Nat→Bool} {ks:SV} {kc:List SV} {at_ cut:Int}
theorem LV (hk:dE 0 ks kn kb kc) (hq:kc.all SV.plain=true) (hn:kn≤1048576):
  bd Tryz.prog 5 [Ag (cI at_ cut ks)] 1 (lk [(0,⟨false,kc⟩)]) (aap 1 kn kb at_ cut):=by
 have hlen:eM 1 (some [Sum.inl (Sum.inl ks)])=some (some (I .i64 kn),none):=hk.len
 refine aG Tryz.func5 rfl (by kernel_rfl) (by simp[Tryz.ntmps5]) Tryz.vU (fun v hv=>by
  simp only[bQ]at hv
  rcases hv with rfl
  exact ow hk (by decide)) fF (fG hq) ?_
 have hz:zeroOf Tryz.prog 30=some [.int .i64 0, .slice none 0 0, .int .i64 0, .slice none 0 0]:=by kernel_rfl
 simp only[Tryz.results5,hz,cI,di,seval]
 have hsrc: ∀ {s:AS},s.box 0=some ⟨false,kc⟩→HI s 1 (Sum.inl (Sum.inl ks)) kn (nw kn kb) (some 3):=fun {s} hb=>by
  rcases hk with ⟨⟨a,rfl⟩,rfl⟩ | ⟨o,c,rfl,hs⟩
  ·exact .inr ⟨⟨_,rfl⟩,rfl,rfl⟩
  ·exact .inl ⟨0,o,c,⟨false,kc⟩,rfl,hb,by rw[jB,Nat.mul_one],Qs hs,by simp⟩
 refine fY.plain ?_
 refine mN (b:=3) (o:=0) (n:=0) (c:=0) (m:=kn) (cs:=dS [Value.bool false] 0) (olds:=[]) (news:=nw kn kb) Tryz.Nu Tryz.Nt rfl (by decide) rfl (by simp only[ae,vR,seval]) rfl (Nat.le_refl 0) rfl (fun j u h=>by simp at h) rfl (hsrc (by simp only[ae,vR,seval])) (by omega) (by omega) fun c1 mM h1 h2 h3=> ?_
 simp only[Nat.zero_add,List.nil_append,di,seval]
 refine ⟨by simp[dS],by simp[dS,splice], ?_⟩
 refine fY.plain ?_
 refine mN (b:=6) (o:=0) (n:=kn) (c:=c1) (m:=2) (cs:=nw kn kb++mM) (olds:=nw kn kb) (news:=nw 2 fun _=>false) Tryz.Nu Tryz.Nt rfl (by decide) rfl (by simp only[ae,vR,seval]) (by rw[List.length_append,jB,h2];omega) (by omega) (by rw[jB,Nat.mul_one]) (fun j u h=>by
  rw[Nat.zero_add,List.getElem?_append_left (List.getElem?_eq_some_iff.1 h).1]
  exact h) (by
  rw[Nat.zero_add,Nat.mul_one]
  have:(nw kn kb++mM).drop kn=mM:=by
   have:=List.drop_left (l₁:=nw kn kb) (l₂:=mM)
   rwa [jB]at this
  rw[this]
  exact h3) (.inl ⟨7,0,2,⟨true,[Sum.inl (.bool false),Sum.inl (.bool false)]⟩,rfl,by simp only[ae,vR,seval];rfl,rfl,fun j u h=>by rw[Nat.zero_add];exact h,by simp⟩) (by omega) (by omega) fun c2 TL k1 k2 k3=> ?_
 have hn2:(((kn:Nat):Int)≤(c2:Int))=True:=eq_true (by omega)
 simp only[hlen,hn2,aF,LL,ae7,ae8,acB,di,seval]
 have gx:(nw kn kb++(nw 2 (fun _=>false)++TL)).all SV.plain=true:=by rw[List.all_append,List.all_append,gp,gp,k3];rfl
 refine dV (q:=8) (v0:=vt 1 at_ cut kn c2) (l:=[(1,⟨true,nw kn kb++(nw 2 (fun _=>false)++TL)⟩)]) (by decide) rfl (fun x hx=> ?_) (fun x hx=> ?_) ⟨c2,TL,rfl,k1,k3,rfl⟩
 ·simp only[bQ]at hx
  rcases hx with rfl | rfl | rfl | rfl
  ·exact ⟨trivial,rfl⟩
  ·exact ⟨(by decide:1 < 2),rfl⟩
  ·exact ⟨trivial,rfl⟩
  ·exact ⟨(by decide:1 < 2),rfl⟩
 ·rw[List.mem_singleton]at hx
  subst hx
  refine ⟨(by decide:1 < 2),fun _=>rfl,ao gx, ?_⟩
  show _=some (⟨true,_⟩:aI)
  rw[au gx, ← List.append_assoc]
  show AS.box _ 8=_
  simp only[ae,vR,seval]
theorem Wi {n o o' c c':Nat} {f:Nat→Bool} {cs ds:List SV} (hc:BV cs o n f) (hd:BV ds o' n f) (hp:cs.all SV.plain=true) (hq:ds.all SV.plain=true) (hn:n < 4611686018427387904):
  bd Tryz.prog 45 [Sl 0 o n c,Sl 1 o' n c'] 2 (lk [(0,⟨false,cs⟩),(1,⟨false,ds⟩)]) (fun v out=>v=B true∧out=fun _=>none):=by
 refine aG Tryz.func45 rfl (by kernel_rfl) (by simp[Tryz.ntmps45]) Tryz.Ax (by simp[AV.ok,CV.ok,SV.names]) pX (pY hp hq) ?_
 have nC: ∀ {M:Nat→Prop},(∀ x ∈ cs,SV.ok M x)=True:=eq_true (ao hp)
 have IK: ∀ {M:Nat→Prop},(∀ x ∈ ds,SV.ok M x)=True:=eq_true (ao hq)
 simp only[Tryz.results45,bne_self_eq_false,vR,seval]
 refine bD n (fun k=>[(0,Sl 0 o n c),(1,Sl 1 o' n c'),(12,I .i64 n),(13,I .i64 k)])
  (fun k=>[(0,⟨false,cs⟩),(1,⟨false,ds⟩)]) _ ?_ ?_ ?_
 ·simp only[nC,IK,vR,seval]
 ·intro j hj
  simp only[vR,seval]
  refine cz (by simp;omega) ?_
  simp only[aF,aP hj,hc j hj,hd j hj,bne_self_eq_false,beq_self_eq_true,Bool.not_true,Bool.not_eq_true,Bool.not_beq_self,Bool.false_eq_true,false_implies,true_implies,true_and,bU j (by omega),vR,seval]
  exact ⟨by kernel_rfl,ao hp,ao hq⟩
 ·simp only[vR,seval]
  refine bR (by simp) ?_
  simp only[vR,seval]
  exact aJ rfl ⟨rfl,rfl⟩
theorem TM {a:Option Addr} {o c:Nat} {cs:List SV} (hp:cs.all SV.plain=true):
  bd Tryz.prog 45 [Sl 0 o 0 c,V (.slice a 0 0)] 1 (lk [(0,⟨false,cs⟩)]) (fun v out=>v=B true∧out=fun _=>none):=by
 refine aG Tryz.func45 rfl (by kernel_rfl) (by simp[Tryz.ntmps45]) Tryz.Ax (by simp[AV.ok,CV.ok,SV.names]) fF (fG hp) ?_
 simp only[Tryz.results45,bne_self_eq_false,vR,seval]
 refine bD 0 (fun k=>[(12,I .i64 0),(13,I .i64 k)]) (fun k=>[]) _ ?_ ?_ ?_
 ·simp only[vR,seval]
 ·intro j hj;omega
 ·simp only[vR,seval]
  refine bR (by simp) ?_
  simp only[vR,seval]
  exact aJ rfl ⟨rfl,rfl⟩
theorem BW {s:AS} {nm t o c n:Nat} {u:AV} {f:Nat→Bool} {UW rw2:Bool} {t':Nat} {cs ds:List SV} (hn:n < 4611686018427387904) (hb:s.box t=some ⟨UW,cs⟩) (hp:cs.all SV.plain=true) (hc:BV cs o n f)
  (h2:(∃ a,u=V (.slice a 0 0)∧n=0)∨ ∃ o' c',u=Sl t' o' n c'∧s.box t'=some ⟨rw2,ds⟩∧ds.all SV.plain=true∧BV ds o' n f) {ops:Array Oper} {i:Nat} {dst:Option Nat} {K:AS→Prop} (hk:K (s.put dst (some (B true)))):
  km Tryz.prog ops i nm 45 (some [Sl t o n c,u]) dst K s:=by
 rcases h2 with ⟨a,rfl,rfl⟩ | ⟨o',c',rfl,hb',hq,hd⟩
 ·exact (TM hp).eV (fun _=>t) (bZ hb hp) rfl rfl (fun M h n _=>h (Sl t o 0 c) (List.Mem.head _)) hk
 ·exact (Wi hc hd hp hq hn).eV (two t t') (jq hb hp hb' hq) rfl rfl (fun M h n' hn'=>by
   rcases Nat.lt_or_ge n' 1 with h0 | h0
   ·rw[show n'=0 by omega];exact h (Sl t o n c) (List.Mem.head _)
   ·rw[show n'=1 by omega];exact h (Sl t' o' n c') (List.Mem.tail _ (List.Mem.head _))) hk
theorem LW {c:Nat} {tail:List SV} (hk:dE 1 ks kn kb kc) (hq:kc.all SV.plain=true) (hn:kn≤1048576) (hc:kn+2≤c) (ht:tail.all SV.plain=true):
  bd Tryz.prog 21 [vt 0 at_ cut kn c,Ag (cI at_ cut ks)] 2 (lk [(0,⟨false,nw kn kb++(nw 2 (fun _=>false)++tail)⟩),(1,⟨false,kc⟩)]) (fun v out=>v=B true∧out=fun _=>none):=by
 have hlen:eM 1 (some [Sum.inl (Sum.inl ks)])=some (some (I .i64 kn),none):=hk.len
 have gx:(nw kn kb++(nw 2 (fun _=>false)++tail)).all SV.plain=true:=by rw[List.all_append,List.all_append,gp,gp,ht];rfl
 have YS:BV (nw kn kb++(nw 2 (fun _=>false)++tail)) 0 kn kb:=fun i hi=>by
  rw[Nat.zero_add,List.getElem?_append_left (by rw[jB];exact hi),nJ hi]
 have QI:BV (nw kn kb++(nw 2 (fun _=>false)++tail)) kn 2 (fun _=>false):=fun i hi=>by
  rw[List.getElem?_append_right (by rw[jB];omega),jB,show kn+i - kn=i by omega,List.getElem?_append_left (by rw[jB];exact hi),nJ hi]
 refine aG Tryz.func21 rfl (by kernel_rfl) (by simp[Tryz.ntmps21]) Tryz.sV (fun v hv=>by
  simp only[bQ]at hv
  rcases hv with rfl | rfl
  ·intro x hx
   simp only[bQ]at hx
   rcases hx with rfl | rfl | rfl | rfl
   ·exact ⟨trivial,rfl⟩
   ·exact ⟨(by decide:0 < 2),rfl⟩
   ·exact ⟨trivial,rfl⟩
   ·exact ⟨(by decide:0 < 2),rfl⟩
  ·exact ow hk (by decide)) pX (pY gx hq) ?_
 have h1:((kn:Int)≤((kn+2:Nat):Int))=True:=eq_true (by omega)
 have h3:(((kn+2:Nat):Int)≤(c:Int))=True:=eq_true (by omega)
 have h4:(if c=kn then 0 else kn)=kn:=if_neg (by omega)
 have h5:kn+2 - kn=2:=by omega
 simp only[Tryz.results21,vt,cI,hlen,aF,h1,h3,di,seval]
 refine ⟨by kernel_rfl, ?_⟩
 refine BW (t':=1) (n:=kn) (f:=kb) (UW:=false) (rw2:=false) (ds:=kc) (by omega) (by simp only[bV,seval]) gx YS (by
  rcases hk with ⟨⟨a,rfl⟩,rfl⟩ | ⟨o,c',rfl,hs⟩
  ·exact .inl ⟨_,rfl,rfl⟩
  ·exact .inr ⟨_,_,rfl,by simp only[bV,seval],hq,hs⟩) ?_
 simp only[vt,cI,hlen,aF,h1,h3,h4,h5,di,seval]
 have he: ∀ nm,iQ nm (some ([Value.bool false],1,1)) (some (I .i64 2)) (some (I .i64 2))=some (some (Sl nm 0 2 2),some (.inl (nw 2 fun _=>false))):=fun nm=>rfl
 simp only[he,di,seval]
 refine BW (t':=20) (n:=2) (f:=fun _=>false) (UW:=false) (rw2:=true) (ds:=nw 2 fun _=>false) (by decide) (by simp only[bV,seval]) gx QI (.inr ⟨_,_,rfl,by simp only[bV,seval],gp,fun i hi=>by rw[Nat.zero_add];exact nJ hi⟩) ?_
 simp only[di,seval]
 exact aJ rfl ⟨rfl,rfl⟩
end
section
variable {kn np:Nat} {pf:Nat→Int} {kc ps:List SV} {kb:Nat→Bool} {ks sv:SV} {at_ cut:Int} {a:Option Addr}
theorem m7:bd Tryz.prog 41 [V (.slice a 0 0)] 0 (fun _=>none) (fun v out=>v=I .i64 0∧out=fun _=>none):=by
 refine aG Tryz.func41 rfl (by kernel_rfl) (by simp[Tryz.ntmps41]) Tryz.oV (by simp[AV.ok,CV.ok,SV.names]) rK rL ?_
 have w0:IntKind.i64.wrap 0=0:=rfl
 have d1:decide ((0:Int) < 8)=true:=rfl
 simp only[Tryz.results41,w0,d1,decide_true,vR,seval]
 exact aJ rfl ⟨rfl,rfl⟩
theorem LX:bd Tryz.prog 32 [V (.slice a 0 0)] 0 (fun _=>none) (fun v out=>v=bE 1 0 0 0 (.inl (.slice none 0 0))∧out=fun _=>none):=by
 refine aG Tryz.func32 rfl (by kernel_rfl) (by simp[Tryz.ntmps32]) Tryz.oR (by simp[AV.ok,CV.ok,SV.names]) rK rL ?_
 simp only[Tryz.results32,gV,vR,seval]
 refine m7.cG (fun n=>n) fQ rfl rfl ?_
 simp only[gV,aR,vR,seval]
 exact aJ rfl ⟨rfl,rfl⟩
theorem jI:bd Tryz.prog 9 [V (.slice a 0 0)] 0 (fun _=>none) (fun v out=>v=bE 1 0 0 0 (.inl (.slice none 0 0))∧out=fun _=>none):=by
 refine aG Tryz.func9 rfl (by kernel_rfl) (by simp[Tryz.ntmps9]) Tryz.rj (by simp[AV.ok,CV.ok,SV.names]) rK rL ?_
 simp only[Tryz.results9,slot,aK,aU,di,seval]
 refine LX.cG (fun n=>n) fQ rfl rfl ?_
 simp only[bE,slot,aK,aU,di,seval]
 exact aJ rfl ⟨rfl,rfl⟩
theorem nK {s:AS} {nm b:Nat} {z:Nat→Int} (hb:s.box b=some ⟨true,ai .u8 0 z⟩) {ty:TypeId} {ct:Array Bool} {dst:Option Nat} {K:AS→Prop}
  (hK: ∀ c' cs',cs'.all SV.plain=true→K (({ s with box:=upd (upd s.box b none) nm (some ⟨true,cs'⟩) }:AS).put dst (some (Sl nm 0 0 c')))):
  fY Tryz.prog nm .append #[22,22] ty ct [Sl b 0 0 0,V (.slice a 0 0)] dst K s:=by
 refine mN (b:=b) (o:=0) (n:=0) (c:=0) (m:=0) (cs:=ai .u8 0 z) (olds:=[]) (news:=[]) Tryz.eK Tryz.fc rfl (by decide) rfl hb rfl (Nat.le_refl 0) rfl (fun j u h=>by simp at h) rfl (.inr ⟨⟨_,rfl⟩,rfl,rfl⟩) (by omega) (by omega) fun c' tail h1 h2 h3=> ?_
 exact hK c' _ (by rw[List.nil_append,List.nil_append];exact h3)
theorem F3 (hk:dE 0 ks kn kb kc) (hq:kc.all SV.plain=true):
  bd Tryz.prog 18 [V (.slice a 0 0),Ag (cI at_ cut ks)] 1 (lk [(0,⟨false,kc⟩)]) (cX 1 1 0 (fun _=>0)):=by
 refine ft Tryz.func18 rfl (by kernel_rfl) [] [3,4] (by simp[Tryz.ntmps18]) Tryz.sT (fun v hv=> ?_) fF (fG hq) ?_
 ·simp only[bQ]at hv
  rcases hv with rfl | rfl
  ·trivial
  ·exact ow hk (by decide)
 have hz:zeroOf Tryz.prog 40=some [.int .i64 0, .slice none 0 0]:=by kernel_rfl
 simp only[Tryz.results18,hz,slot,aK,aU,di,seval]
 refine LX.cG (fun n=>n) fQ rfl rfl ?_
 simp only[bE,slot,aK,aU,di,seval]
 refine gL 0 [0,1,3] [2,4,5] [6] [5] [11,12,14,13,15,16] (by kernel_rfl) (by kernel_rfl) (by kernel_rfl) ?_
 simp only[cN,cO,cQ,bE,slot,aK,aU,di,seval]
 refine nK (z:=fun _=>0) (by simp only[bV,seval]) fun c2 j7 g3=> ?_
 simp only[hz,cN,cO,cQ,slot,aK,aU,di,seval]
 exact bM (q:=18) (by decide) (by simp only[bV,seval]) (fun i hi=>by omega) g3 (Nat.zero_le _)
theorem F4 (hk:dE 0 ks kn kb kc) (hq:kc.all SV.plain=true):
  bd Tryz.prog 17 [V (.slice a 0 0),Ag (cI at_ cut ks)] 1 (lk [(0,⟨false,kc⟩)]) (cX 1 1 0 (fun _=>0)):=by
 refine ft Tryz.func17 rfl (by kernel_rfl) [] [5,6] (by simp[Tryz.ntmps17]) Tryz.sS (fun v hv=> ?_) fF (fG hq) ?_
 ·simp only[bQ]at hv
  rcases hv with rfl | rfl
  ·trivial
  ·exact ow hk (by decide)
 have hz:zeroOf Tryz.prog 40=some [.int .i64 0, .slice none 0 0]:=by kernel_rfl
 simp only[Tryz.results17,hz,slot,aK,aU,di,seval]
 refine jI.cG (fun n=>n) fQ rfl rfl ?_
 simp only[bE,slot,aK,aU,di,seval]
 refine gL 0 [0,1,3] [2,4,5] [6] [5] [20,21,23,22,24,25] (by kernel_rfl) (by kernel_rfl) (by kernel_rfl) ?_
 simp only[cN,cO,cQ,bE,slot,aK,aU,di,seval]
 refine nK (z:=fun _=>0) (by simp only[bV,seval]) fun c2 j7 g3=> ?_
 simp only[hz,cN,cO,cQ,slot,aK,aU,di,seval]
 exact bM (q:=26) (by decide) (by simp only[bV,seval]) (fun i hi=>by omega) g3 (Nat.zero_le _)
theorem JR (hk:dE 1 ks kn kb kc) (hq:kc.all SV.plain=true) (hl:cS 0 sv np pf ps) (hps:ps.all SV.plain=true) (hnp:np < 4611686018427387904):
  bd Tryz.prog 16 [V (.slice a 0 0),Sum.inl (Sum.inl sv),Ag (cI at_ cut ks)] 2 (lk [(0,⟨false,ps⟩),(1,⟨false,kc⟩)]) (cX 2 1 0 (fun _=>0)):=by
 have hlen:eM 1 (some [Sum.inl (Sum.inl sv)])=some (some (I .i64 np),none):=by
  rcases hl with ⟨⟨a,rfl⟩,rfl⟩ | ⟨o,c,rfl,_⟩<;>rfl
 refine ft Tryz.func16 rfl (by kernel_rfl) [] [9,11,12] (by simp[Tryz.ntmps16]) Tryz.mJ (fun v hv=> ?_) pX (pY hps hq) ?_
 ·simp only[bQ]at hv
  rcases hv with rfl | rfl | rfl
  ·trivial
  ·exact (hl.ok (show 0 < 2 by decide)).1
  ·exact ow hk (by decide)
 have hz:zeroOf Tryz.prog 40=some [.int .i64 0, .slice none 0 0]:=by kernel_rfl
 simp only[Tryz.results16,hz,slot,aK,aU,di,seval]
 refine jI.cG (fun n=>n) fQ rfl rfl ?_
 simp only[bE,slot,aK,aU,di,seval]
 refine m7.cG (fun n=>n) fQ rfl rfl ?_
 simp only[hlen,bE,slot,aK,aU,di,seval]
 refine (dX (by omega)).av ?_
 simp only[bE,slot,aK,aU,di,seval]
 refine gL 0 [0,1,3] [2,4,5] [6] [6] [38,39,41,40,42,43] (by kernel_rfl) (by kernel_rfl) (by kernel_rfl) ?_
 simp only[cN,cO,cQ,bE,slot,aK,aU,di,seval]
 refine nK (z:=fun _=>0) (by simp only[bV,seval]) fun c2 j7 g3=> ?_
 simp only[hz,cN,cO,cQ,slot,aK,aU,di,seval]
 exact bM (q:=42) (by decide) (by simp only[bV,seval]) (fun i hi=>by omega) g3 (Nat.zero_le _)
end
def kj (bx:Nat→Option aI) (nm n:Nat) (g:Nat→Int) (v:SV):Prop:=(v= .inl (.slice none 0 0)∧n=0)∨ ∃ c cs,v= .inr (.inr (nm,0,n,c))∧n≤c∧bx nm=some ⟨true,cs⟩∧cs.all SV.plain=true∧aY cs 0 n g
theorem kj.bytes {bx:Nat→Option aI} {nm n:Nat} {g:Nat→Int} {v:SV} (h:kj bx nm n g v):fA bx (Sum.inl (Sum.inl v)) n g:=by
 rcases h with ⟨rfl,h0⟩ | ⟨c,cs,rfl,_,h1,h2,h3⟩
 ·exact .inl ⟨⟨none,rfl⟩,h0⟩
 ·exact .inr ⟨nm,0,c,true,cs,rfl,h1,h2,h3⟩
theorem kj.move {bx oB:Nat→Option aI} {nm n:Nat} {g:Nat→Int} {v:SV} (h:kj bx nm n g v) (e:oB nm=bx nm):kj oB nm n g v:=by
 rcases h with ⟨rfl,h0⟩ | ⟨c,cs,rfl,h4,h1,h2,h3⟩
 ·exact .inl ⟨rfl,h0⟩
 ·exact .inr ⟨c,cs,rfl,h4,e.trans h1,h2,h3⟩
def Told (k n:Nat) (g:Nat→Int) (pv:SV) (out:Nat→Option aI):Prop:=(pv= .inl (.slice none 0 0)∧n=0∧out=fun _=>none)∨ ∃ c cs,pv= .inr (.inr (k,0,n,c))∧n≤c∧aY cs 0 n g∧cs.all SV.plain=true∧out=lk [(k,⟨true,cs⟩)]
theorem BX {s:AS} {k n nm:Nat} {g:Nat→Int} {pv:SV} {out:Nat→Option aI} {r:Nat→Nat} (h:Told k n g pv out):
  kj (after s r k nm none out) nm n g (SV.ren (df r k nm) pv)∧ ∀ t,t≠nm→after s r k nm none out t=s.box t:=by
 rcases h with ⟨rfl,h0,rfl⟩ | ⟨c,cs,rfl,h4,h1,h2,rfl⟩
 ·exact ⟨.inl ⟨rfl,h0⟩,fun t _=>rfl⟩
 ·rw[bX h2]
  refine ⟨.inr ⟨c,cs, ?_,h4,aQ _ _ _,h2,h1⟩,fun t ht=>bh _ _ _ _ ht⟩
  show Sum.inr (Sum.inr (df r k nm k,0,n,c))=_
  rw[gF]
def Xu (r:Int) (n:Nat):Nat:=if V5 r n=true then 128*r.toNat else 0
theorem form_told {k n:Nat} {r:Int} {pf:Nat→Int} {v:AV} {out:Nat→Option aI} (h:nQ k n r pf v out): ∃ pv,v=Sum.inl (Sum.inl pv)∧Told k (Xu r n) (pk (fun _=>0) (nP 0 n 1 pf)) pv out:=by
 rcases h with ⟨h1,rfl,rfl⟩ | ⟨h1,c,tail,rfl,rfl,h2,h3,h4⟩
 ·exact ⟨_,rfl, .inl ⟨rfl,by unfold Xu;rw[if_neg (by rw[h1];decide)],rfl⟩⟩
 ·have e:Xu r n=128*r.toNat:=if_pos h1
  rw[← e]at h2 ⊢
  exact ⟨_,rfl, .inr ⟨c,_,rfl,h2,dy,bY h4,rfl⟩⟩
def rI (f:Nat→Int) (n:Nat):Int×Int×Int×Int×Nat×(Nat→Int):=
 if gJ n=true then match dh f (n / 64 / 2) with
  | none=>(1,0,0,0,0,fun _=>0)
  | some st=>if cM f (n / 64) st=[] then (0,bB (aB f (aC f (st+n / 64 / 2) st)),((st / (n / 64 / 2):Nat):Int),((aE f (aC f (st+n / 64 / 2) st) - st:Nat):Int),aN (aB f (aC f (st+n / 64 / 2) st)),dP f (aC f (st+n / 64 / 2) st)) else (11,0,0,0,0,fun _=>0)
 else (1,0,0,0,0,fun _=>0)
def mtA (m:Int×Int×Int×Int×Nat×(Nat→Int)) (pv:SV):AV:=bE m.1 m.2.1 m.2.2.1 m.2.2.2.1 pv
theorem LY {k n:Nat} {f:Nat→Int} {v:AV} {out:Nat→Option aI} (h:jz k n f v out): ∃ pv,v=mtA (rI f n) pv∧Told k (rI f n).2.2.2.2.1 (rI f n).2.2.2.2.2 pv out:=by
 rcases h with ⟨h1,rfl,rfl⟩ | ⟨h1,⟨st,h2,h3⟩,rfl,rfl⟩ | ⟨h1,st,c,cs,h2,h3,h4,h5,h6,rfl,rfl⟩
 ·have e:rI f n=(1,0,0,0,0,fun _=>0):=by
   unfold rI
   rcases h1 with h1 | ⟨h1,h2⟩
   ·rw[if_neg (by rw[h1];decide)]
   ·rw[if_pos h1,h2]
  rw[e]
  exact ⟨_,rfl, .inl ⟨rfl,rfl,rfl⟩⟩
 ·have e:rI f n=(11,0,0,0,0,fun _=>0):=by
   unfold rI
   rw[if_pos h1,h2]
   exact if_neg h3
  rw[e]
  exact ⟨_,rfl, .inl ⟨rfl,rfl,rfl⟩⟩
 ·have e:rI f n=(0,bB (aB f (aC f (st+n / 64 / 2) st)),((st / (n / 64 / 2):Nat):Int),((aE f (aC f (st+n / 64 / 2) st) - st:Nat):Int),aN (aB f (aC f (st+n / 64 / 2) st)),dP f (aC f (st+n / 64 / 2) st)):=by
   unfold rI
   rw[if_pos h1,h2]
   exact if_pos h3
  rw[e]
  exact ⟨_,rfl, .inr ⟨c,cs,rfl,h5,h4,h6,rfl⟩⟩
theorem BZ {k n:Nat} {code:Int} {g:Nat→Int} {v:AV} {out:Nat→Option aI} (h:cX k code n g v out): ∃ pv,v=Ag [Sum.inl (.int .i64 code),pv]∧Told k n g pv out:=by
 rcases h with ⟨h1,rfl,rfl⟩ | ⟨c,cs,h1,h2,h3,rfl,rfl⟩
 ·exact ⟨_,rfl, .inl ⟨rfl,h1,rfl⟩⟩
 ·exact ⟨_,rfl, .inr ⟨c,cs,rfl,h1,h2,h3,rfl⟩⟩
section
variable {s:AS} {nm F k:Nat} {args l:List AV} {ins:Nat→Option aI} {dst:Option Nat} {K:AS→Prop} {r:Nat→Nat}
theorem Ey {n:Nat} {rg:Int} {pf:Nat→Int} (h:bd Tryz.prog F args k ins (nQ k n rg pf)) (hfit:Fits s r ins none) (hl:l=args.map (AV.ren r))
  (hK: ∀ pv bx,kj bx nm (Xu rg n) (pk (fun _=>0) (nP 0 n 1 pf)) pv→(∀ t,t≠nm→bx t=s.box t)→K (({ s with box:=bx }:AS).put dst (some (Sum.inl (Sum.inl pv))))):av Tryz.prog nm F (some l) dst K s:=by
 refine h.av r none hfit hl ?_
 rintro v out hv _
 obtain ⟨pv,rfl,ht⟩:=form_told hv
 obtain ⟨h1,h2⟩:=BX (s:=s) (nm:=nm) (r:=r) ht
 exact hK _ _ h1 h2
theorem uw {n:Nat} {f:Nat→Int} (h:bd Tryz.prog F args k ins (jz k n f)) (hfit:Fits s r ins none) (hl:l=args.map (AV.ren r))
  (hK: ∀ pv bx,kj bx nm (rI f n).2.2.2.2.1 (rI f n).2.2.2.2.2 pv→(∀ t,t≠nm→bx t=s.box t)→K (({ s with box:=bx }:AS).put dst (some (mtA (rI f n) pv)))):av Tryz.prog nm F (some l) dst K s:=by
 refine h.av r none hfit hl ?_
 rintro v out hv _
 obtain ⟨pv,rfl,ht⟩:=LY hv
 obtain ⟨h1,h2⟩:=BX (s:=s) (nm:=nm) (r:=r) ht
 exact hK _ _ h1 h2
theorem Ez {v:AV} {n:Nat} {f:Nat→Int} (h:fA s.box v n f) (hn:n+64≤1000000000)
  (hk: ∀ c tail,n+64≤c→tail.all SV.plain=true→K ((⟨s.env,upd s.box nm (some ⟨true,ai .u8 n f++(ai .u8 64 (fun _=>0)++tail)⟩),s.next⟩:AS).put dst (some (iN nm n c)))):av Tryz.prog nm 4 (some [v]) dst K s:=by
 rcases h with ⟨⟨a,rfl⟩,rfl⟩ | ⟨t,o,c,UW,cs,rfl,hb,hp,hc⟩
 ·exact Ex (aam (f:=f)) (fun n=>n) fQ rfl fun c tail h1 h2 h3=>hk c tail h1 h3
 ·exact Ex (aal hc hp (by omega)) (fun _=>t) (bZ hb hp) rfl fun c tail h1 h2 h3=>hk c tail h1 h3
theorem Qt {u kn:Nat} {kb:Nat→Bool} {ks:SV} {kc:List SV} {eD:Bool} {at_ cut:Int} (hk:dE u ks kn kb kc) (hq:kc.all SV.plain=true) (hb:s.box u=some ⟨eD,kc⟩) (hn:kn≤1048576)
  (hK: ∀ c tail,kn+2≤c→tail.all SV.plain=true→K ((⟨s.env,upd s.box nm (some ⟨true,nw kn kb++(nw 2 (fun _=>false)++tail)⟩),s.next⟩:AS).put dst (some (vt nm at_ cut kn c)))):av Tryz.prog nm 5 (some [Ag (cI at_ cut ks)]) dst K s:=by
 obtain ⟨ks',hk',Eo⟩:=dE.iW hk 0
 refine (LV (at_:=at_) (cut:=cut) hk' hq hn).av (fun _=>u) none (bZ hb hq) ?_ ?_
 ·show _=[Ag (cI at_ cut (SV.ren _ ks'))]
  rw[Eo _ rfl]
 ·rintro v out ⟨c,tail,rfl,h1,h2,rfl⟩ _
  have gx:(nw kn kb++(nw 2 (fun _=>false)++tail)).all SV.plain=true:=by rw[List.all_append,List.all_append,gp,gp,h2];rfl
  rw[bX gx]
  exact hK c tail h1 h2
theorem EA {t n c:Nat} {eD:Bool} {cs:List SV} (hn:n+64≤c) (hb:s.box t=some ⟨eD,cs⟩) (hp:cs.all SV.plain=true) (hk:K (s.put dst (some (Sl t 0 n c)))):
  av Tryz.prog nm 7 (some [iN t n c]) dst K s:=by
 refine (TJ hn hp).av (fun _=>t) none (bZ hb hp) rfl ?_
 rintro v out ⟨rfl,rfl⟩ _
 rw[dW]
 exact hk
end
theorem JT {s:AS} {k n nm:Nat} {g:Nat→Int} {pv:SV} {out:Nat→Option aI} {r:Nat→Nat} (h:Told k n g pv out):
  kj (gH s r k 1 nm none out) nm n g (SV.ren (aV r k nm) pv)∧ ∀ t,t≠nm→gH s r k 1 nm none out t=s.box t:=by
 refine ⟨?_,fun t ht=>by unfold gH;rw[if_neg (by omega)]⟩
 rcases h with ⟨rfl,h0,rfl⟩ | ⟨c,cs,rfl,h4,h1,h2,rfl⟩
 ·exact .inl ⟨rfl,h0⟩
 ·refine .inr ⟨c,cs, ?_,h4, ?_,h2,h1⟩
  ·show Sum.inr (Sum.inr (aV r k nm k,0,n,c))=_
   unfold aV
   rw[if_neg (by omega),Nat.sub_self]
   rfl
  ·unfold gH
   rw[if_pos (by omega),Nat.sub_self,Nat.add_zero]
   simp only[lk,if_true]
   show some (aI.ren _ ⟨true,cs⟩)=_
   rw[qT h2]
section
variable {s:AS} {nm F k:Nat} {args l:List AV} {ins:Nat→Option aI} {dst:Option Nat} {K:AS→Prop} {r:Nat→Nat}
theorem qU {n:Nat} {code:Int} {g:Nat→Int} (h:bd Tryz.prog F args k ins (cX k code n g)) (hfit:Fits s r ins none) (hl:l=args.map (AV.ren r))
  (hK: ∀ pv bx,kj bx nm n g pv→(∀ t,t≠nm→bx t=s.box t)→K (({ s with box:=bx }:AS).put dst (some (Ag [Sum.inl (.int .i64 code),pv])))):cq Tryz.prog nm F (some l) dst K s:=by
 refine h.wide.av r none hfit hl ?_
 rintro v out hv
 obtain ⟨pv,rfl,ht⟩:=BZ hv
 obtain ⟨h1,h2⟩:=JT (s:=s) (nm:=nm) (r:=r) ht
 exact hK _ _ h1 h2
theorem pE {t n c:Nat} {eD:Bool} {cs:List SV} (hn:n+64≤c) (hb:s.box t=some ⟨eD,cs⟩) (hp:cs.all SV.plain=true) (hk: ∀ bx,(∀ t,t≠nm→bx t=s.box t)→K (({ s with box:=bx }:AS).put dst (some (Sl t 0 n c)))):
  cq Tryz.prog nm 7 (some [iN t n c]) dst K s:=by
 refine (TJ hn hp).wide.av (fun _=>t) none (bZ hb hp) rfl ?_
 rintro v out ⟨rfl,rfl⟩
 exact hk _ fun t ht=>by unfold gH;rw[if_neg (by omega)]
end
section
variable {n:Nat} {g:Nat→Int} {code:Int} {s1 s2:SV} {cs ds:List SV}
theorem JU (h1:cS 0 s1 n g cs) (h2:cS 1 s2 n g ds) (hp:cs.all SV.plain=true) (hq:ds.all SV.plain=true) (hn:n < 4611686018427387904):
  bd Tryz.prog 15 [Ag [Sum.inl (.int .i64 code),s1],Ag [Sum.inl (.int .i64 code),s2]] 2 (lk [(0,⟨false,cs⟩),(1,⟨false,ds⟩)]) (fun v out=>v=B true∧out=fun _=>none):=by
 refine aG Tryz.func15 rfl (by kernel_rfl) (by simp[Tryz.ntmps15]) Tryz.oN (fun v hv=>by
  simp only[bQ]at hv
  rcases hv with rfl | rfl
  ·intro x hx
   simp only[bQ]at hx
   rcases hx with rfl | rfl
   ·exact ⟨trivial,rfl⟩
   ·exact h1.ok (by decide)
  ·intro x hx
   simp only[bQ]at hx
   rcases hx with rfl | rfl
   ·exact ⟨trivial,rfl⟩
   ·exact h2.ok (by decide)) pX (pY hp hq) ?_
 simp only[Tryz.results15,beq_self_eq_true,vR,seval]
 have b1: ∀ {bx:Nat→Option aI},bx 0=some ⟨false,cs⟩→fA bx (Sum.inl (Sum.inl s1)) n g:=fun {bx} hb=>by
  rcases h1 with ⟨⟨a,rfl⟩,h0⟩ | ⟨o,c,rfl,_,hs⟩
  ·exact .inl ⟨⟨a,rfl⟩,h0⟩
  ·exact .inr ⟨0,o,c,false,cs,rfl,hb,hp,hs⟩
 have b2: ∀ {bx:Nat→Option aI},bx 1=some ⟨false,ds⟩→fA bx (Sum.inl (Sum.inl s2)) n g:=fun {bx} hb=>by
  rcases h2 with ⟨⟨a,rfl⟩,h0⟩ | ⟨o,c,rfl,_,hs⟩
  ·exact .inl ⟨⟨a,rfl⟩,h0⟩
  ·exact .inr ⟨1,o,c,false,ds,rfl,hb,hq,hs⟩
 refine oz hn (b1 (by simp only[ae,vR,seval])) (b2 (by simp only[ae,vR,seval])) ?_
 simp only[vR,seval]
 exact aJ rfl ⟨rfl,rfl⟩
end
theorem iO {s:AS} {nm F k:Nat} {args l:List AV} {ins:Nat→Option aI} {dst:Option Nat} {K:AS→Prop} {r:Nat→Nat} {n:Nat} {code:Int} {g:Nat→Int} {ops:Array Oper} {i:Nat}
  (h:bd Tryz.prog F args k ins (cX k code n g)) (hfit:Fits s r ins none) (hl:l=args.map (AV.ren r)) (hnamed: ∀ M:Nat→Prop,(∀ v ∈ l,AV.ok M v)→ ∀ n,n < k→M (r n)) (iw:late ops i=true)
  (hK: ∀ pv bx,kj bx nm n g pv→(∀ t,t≠nm→bx t=s.box t)→K (({ s with box:=bx }:AS).put dst (some (Ag [Sum.inl (.int .i64 code),pv])))):km Tryz.prog ops i nm F (some l) dst K s:=by
 refine .inr (.inr (.inl ⟨iw,fun e=> ∃ pv,e.1=some (Ag [Sum.inl (.int .i64 code),pv])∧((pv= .inl (.slice none 0 0)∧n=0∧e.2=none)∨ ∃ c cs,pv= .inr (.inr (nm,0,n,c))∧n≤c∧aY cs 0 n g∧cs.all SV.plain=true∧e.2=some (.inl cs)),h.reads r hfit hl hnamed (fun v out hv=> ?_) (fun e he=> ?_),fun e he=> ?_⟩))
 ·obtain ⟨pv,rfl,ht⟩:=BZ hv
  rcases ht with ⟨rfl,h0,rfl⟩ | ⟨c,cs,rfl,h4,h1,h2,rfl⟩
  ·exact ⟨_,rfl, .inl ⟨rfl,h0,rfl⟩⟩
  ·refine ⟨.inr (.inr (nm,0,n,c)), ?_, .inr ⟨c,cs,rfl,h4,h1,h2, ?_⟩⟩
   ·show some (AV.ren (df r k nm) _)=_
    show some (Ag [Sum.inl (.int .i64 code), .inr (.inr (df r k nm k,0,n,c))])=_
    rw[gF]
   ·have e:lk [(k,(⟨true,cs⟩:aI))] k=some ⟨true,cs⟩:=by simp[lk]
    show (match lk [(k,(⟨true,cs⟩:aI))] k with
     | none=>none
     | some b=>some (.inl (b.cells.map (SV.ren (df r k nm)))):Mem)=_
    rw[e]
    show some (Sum.inl (cs.map _))=_
    rw[au h2]
 ·obtain ⟨pv,_,ht⟩:=he
  rcases ht with ⟨_,_,h1⟩ | ⟨c,cs,_,_,_,_,h1⟩
  ·exact .inl h1
  ·exact .inr ⟨_,h1⟩
 ·obtain ⟨e1,e2⟩:=e
  obtain ⟨pv,rfl,ht⟩:=he
  rcases ht with ⟨rfl,h0,rfl⟩ | ⟨c,cs,rfl,h4,h1,h2,rfl⟩
  ·exact hK _ s.box (.inl ⟨rfl,h0⟩) (fun t _=>rfl)
  ·exact hK _ (upd s.box nm (some ⟨true,cs⟩)) (.inr ⟨c,cs,rfl,h4,aQ _ _ _,h2,h1⟩) (fun t ht=>bh _ _ _ _ ht)
theorem Wj {sv:SV} {np:Nat} {pf:Nat→Int} {ps cs:List SV} (hl:cS 1 sv np pf ps) (hps:ps.all SV.plain=true) (hp:cs.all SV.plain=true):
  ∃ t ps1 sv1,((t=1∧ps1=ps)∨(t=0∧ps1=cs))∧ps1.all SV.plain=true∧cS 1 sv1 np pf ps1∧(∀ r:Nat→Nat,r 1=t→SV.ren r sv1=sv)∧ ∀ M:Nat→Prop,AV.ok M (Sum.inl (Sum.inl sv))→M 0→M t:=by
 rcases hl with ⟨⟨a,rfl⟩,rfl⟩ | ⟨o,c,rfl,h1,h2⟩
 ·exact ⟨0,cs,_, .inr ⟨rfl,rfl⟩,hp, .inl ⟨⟨a,rfl⟩,rfl⟩,fun r _=>rfl,fun M _ h=>h⟩
 ·exact ⟨1,ps,_, .inl ⟨rfl,rfl⟩,hps, .inr ⟨o,c,rfl,h1,h2⟩,fun r h=>by show Sum.inr (Sum.inr (r 1,o,np,c))=_;rw[h],fun M h _=>h⟩
theorem OI {ks:SV} {kn t2:Nat} {kb:Nat→Bool} {kc cs:List SV} {at_ cut:Int} (u:Nat) (hk:dE t2 ks kn kb kc) (hq:kc.all SV.plain=true) (hp:cs.all SV.plain=true):
  ∃ t Xv ks1,((t=t2∧Xv=kc)∨(t=0∧Xv=cs))∧Xv.all SV.plain=true∧dE u ks1 kn kb Xv∧(∀ r:Nat→Nat,r u=t→SV.ren r ks1=ks)∧ ∀ M:Nat→Prop,AV.ok M (Ag (cI at_ cut ks))→M 0→M t:=by
 rcases hk with ⟨⟨a,rfl⟩,h0⟩ | ⟨o,c,rfl,h2⟩
 ·exact ⟨0,cs,_, .inr ⟨rfl,rfl⟩,hp, .inl ⟨⟨a,rfl⟩,h0⟩,fun r _=>rfl,fun M _ h=>h⟩
 ·refine ⟨t2,kc,_, .inl ⟨rfl,rfl⟩,hq, .inr ⟨o,c,rfl,h2⟩,fun r h=>by show Sum.inr (Sum.inr (r u,o,kn,c))=_;rw[h],fun M h _=> ?_⟩
  exact ((h: ∀ x ∈ cI at_ cut (.inr (.inr (t2,o,kn,c))),SV.ok M x) _ (List.mem_cons_of_mem _ (List.mem_cons_self ..))).1
section
variable {n o c kn np nm i:Nat} {f pf:Nat→Int} {cs kc ps:List SV} {kb:Nat→Bool} {ks sv:SV} {at_ cut:Int} {s:AS} {ops:Array Oper} {dst:Option Nat} {K:AS→Prop} {r0 r1 r2:Bool}
theorem B0 (hs:aY cs o n f) (hc:n≤c) (hp:cs.all SV.plain=true) (hn:n≤1048576) (hf:eJ f) (hk:dE 2 ks kn kb kc) (hq:kc.all SV.plain=true) (hl:cS 1 sv np pf ps) (hps:ps.all SV.plain=true) (hpf:eJ pf) (hnp:np≤1048576)
  (b0:s.box 0=some ⟨r0,cs⟩) (b1:s.box 1=some ⟨r1,ps⟩) (b2:s.box 2=some ⟨r2,kc⟩) (iw:late ops i=true)
  (hK: ∀ pv bx,kj bx nm n (Bx kn kb cut f n at_ (aW f (n / 64) np pf)) pv→(∀ t,t≠nm→bx t=s.box t)→K (({ s with box:=bx }:AS).put dst (some (Ag [Sum.inl (.int .i64 (xX n at_ (aW f (n / 64) np pf))),pv])))):
  km Tryz.prog ops i nm 16 (some [Sl 0 o n c,Sum.inl (Sum.inl sv),Ag (cI at_ cut ks)]) dst K s:=by
 obtain ⟨t1,ps1,sv1,ht1,q1,l1,l2,l3⟩:=Wj hl hps hp
 obtain ⟨t2,Xv,ks1,ht2,q2,k1,k2,k3⟩:=OI (at_:=at_) (cut:=cut) 2 hk hq hp
 have c1: ∃ x,s.box t1=some ⟨x,ps1⟩:=by
  rcases ht1 with ⟨rfl,rfl⟩ | ⟨rfl,rfl⟩
  ·exact ⟨_,b1⟩
  ·exact ⟨_,b0⟩
 have c2: ∃ x,s.box t2=some ⟨x,Xv⟩:=by
  rcases ht2 with ⟨rfl,rfl⟩ | ⟨rfl,rfl⟩
  ·exact ⟨_,b2⟩
  ·exact ⟨_,b0⟩
 obtain ⟨x1,c1⟩:=c1
 obtain ⟨x2,c2⟩:=c2
 refine iO (JN (at_:=at_) (cut:=cut) hs hc hp hn hf k1 q2 l1 q1 hpf (by omega)) (r:=three 0 t1 t2) (WO b0 hp c1 q1 c2 q2) ?_ (fun M h m hm=> ?_) iw hK
 ·show _=[Sl 0 o n c,Sum.inl (Sum.inl (SV.ren _ sv1)),Ag (cI at_ cut (SV.ren _ ks1))]
  rw[l2 _ rfl,k2 _ rfl]
 ·have m0:M 0:=h (Sl 0 o n c) (List.mem_cons_self ..)
  have m1:=l3 M (h _ (List.mem_cons_of_mem _ (List.mem_cons_self ..))) m0
  have m2:=k3 M (h _ (List.mem_cons_of_mem _ (List.mem_cons_of_mem _ (List.mem_cons_self ..)))) m0
  rcases m with _ | _ | _ | m
  ·exact m0
  ·exact m1
  ·exact m2
  ·omega
theorem JV {F:Nat} {rr:pR} (h: ∀ {QD:SV} {kc0:List SV},dE 1 QD kn kb kc0→kc0.all SV.plain=true→bd Tryz.prog F [Sl 0 o n c,Ag (cI at_ cut QD)] 2 (lk [(0,⟨false,cs⟩),(1,⟨false,kc0⟩)]) (cX 2 (xX n at_ rr) n (Bx kn kb cut f n at_ rr)))
  (hp:cs.all SV.plain=true) (hk:dE 2 ks kn kb kc) (hq:kc.all SV.plain=true) (b0:s.box 0=some ⟨r0,cs⟩) (b2:s.box 2=some ⟨r2,kc⟩) (iw:late ops i=true)
  (hK: ∀ pv bx,kj bx nm n (Bx kn kb cut f n at_ rr) pv→(∀ t,t≠nm→bx t=s.box t)→K (({ s with box:=bx }:AS).put dst (some (Ag [Sum.inl (.int .i64 (xX n at_ rr)),pv])))):
  km Tryz.prog ops i nm F (some [Sl 0 o n c,Ag (cI at_ cut ks)]) dst K s:=by
 obtain ⟨t2,Xv,ks1,ht2,q2,k1,k2,k3⟩:=OI (at_:=at_) (cut:=cut) 1 hk hq hp
 have c2: ∃ x,s.box t2=some ⟨x,Xv⟩:=by
  rcases ht2 with ⟨rfl,rfl⟩ | ⟨rfl,rfl⟩
  ·exact ⟨_,b2⟩
  ·exact ⟨_,b0⟩
 obtain ⟨x2,c2⟩:=c2
 refine iO (h k1 q2) (r:=two 0 t2) (jq b0 hp c2 q2) ?_ (fun M h m hm=> ?_) iw hK
 ·show _=[Sl 0 o n c,Ag (cI at_ cut (SV.ren _ ks1))]
  rw[k2 _ rfl]
 ·have m0:M 0:=h (Sl 0 o n c) (List.mem_cons_self ..)
  have m2:=k3 M (h _ (List.mem_cons_of_mem _ (List.mem_cons_self ..))) m0
  rcases m with _ | _ | m
  ·exact m0
  ·exact m2
  ·omega
end
theorem F5 {g:Nat→Int} {code:Int}  :
  bd Tryz.prog 15 [Ag [Sum.inl (.int .i64 code), .inl (.slice none 0 0)],Ag [Sum.inl (.int .i64 code), .inl (.slice none 0 0)]] 0 (fun _=>none) (fun v out=>v=B true∧out=fun _=>none):=by
 refine aG Tryz.func15 rfl (by kernel_rfl) (by simp[Tryz.ntmps15]) Tryz.oN (fun v hv=>by
  simp only[bQ]at hv
  rcases hv with rfl | rfl
  ·intro x hx
   simp only[bQ]at hx
   rcases hx with rfl | rfl
   ·exact ⟨trivial,rfl⟩
   ·first | exact ⟨trivial,rfl⟩ | exact ⟨(by decide:0 < 1),rfl⟩
  ·intro x hx
   simp only[bQ]at hx
   rcases hx with rfl | rfl
   ·exact ⟨trivial,rfl⟩
   ·first | exact ⟨trivial,rfl⟩ | exact ⟨(by decide:0 < 1),rfl⟩) rK rL ?_
 simp only[Tryz.results15,beq_self_eq_true,vR,seval]
 refine oz (n:=0) (f:=g) (by decide) (.inl ⟨⟨none,rfl⟩,rfl⟩) (.inl ⟨⟨none,rfl⟩,rfl⟩) ?_
 simp only[vR,seval]
 exact aJ rfl ⟨rfl,rfl⟩
theorem F6 {g:Nat→Int} {code:Int} {c:Nat} {cs:List SV} (hp:cs.all SV.plain=true):
  bd Tryz.prog 15 [Ag [Sum.inl (.int .i64 code), .inr (.inr (0,0,0,c))],Ag [Sum.inl (.int .i64 code), .inl (.slice none 0 0)]] 1 (lk [(0,⟨false,cs⟩)]) (fun v out=>v=B true∧out=fun _=>none):=by
 refine aG Tryz.func15 rfl (by kernel_rfl) (by simp[Tryz.ntmps15]) Tryz.oN (fun v hv=>by
  simp only[bQ]at hv
  rcases hv with rfl | rfl
  ·intro x hx
   simp only[bQ]at hx
   rcases hx with rfl | rfl
   ·exact ⟨trivial,rfl⟩
   ·first | exact ⟨trivial,rfl⟩ | exact ⟨(by decide:0 < 1),rfl⟩
  ·intro x hx
   simp only[bQ]at hx
   rcases hx with rfl | rfl
   ·exact ⟨trivial,rfl⟩
   ·first | exact ⟨trivial,rfl⟩ | exact ⟨(by decide:0 < 1),rfl⟩) fF (fG hp) ?_
 simp only[Tryz.results15,beq_self_eq_true,vR,seval]
 refine oz (n:=0) (f:=g) (by decide) (.inr ⟨0,0,c,false,cs,rfl,by simp only[ae,vR,seval],hp,fun i hi=>by omega⟩) (.inl ⟨⟨none,rfl⟩,rfl⟩) ?_
 simp only[vR,seval]
 exact aJ rfl ⟨rfl,rfl⟩
theorem F7 {g:Nat→Int} {code:Int} {c:Nat} {cs:List SV} (hp:cs.all SV.plain=true):
  bd Tryz.prog 15 [Ag [Sum.inl (.int .i64 code), .inl (.slice none 0 0)],Ag [Sum.inl (.int .i64 code), .inr (.inr (0,0,0,c))]] 1 (lk [(0,⟨false,cs⟩)]) (fun v out=>v=B true∧out=fun _=>none):=by
 refine aG Tryz.func15 rfl (by kernel_rfl) (by simp[Tryz.ntmps15]) Tryz.oN (fun v hv=>by
  simp only[bQ]at hv
  rcases hv with rfl | rfl
  ·intro x hx
   simp only[bQ]at hx
   rcases hx with rfl | rfl
   ·exact ⟨trivial,rfl⟩
   ·first | exact ⟨trivial,rfl⟩ | exact ⟨(by decide:0 < 1),rfl⟩
  ·intro x hx
   simp only[bQ]at hx
   rcases hx with rfl | rfl
   ·exact ⟨trivial,rfl⟩
   ·first | exact ⟨trivial,rfl⟩ | exact ⟨(by decide:0 < 1),rfl⟩) fF (fG hp) ?_
 simp only[Tryz.results15,beq_self_eq_true,vR,seval]
 refine oz (n:=0) (f:=g) (by decide) (.inl ⟨⟨none,rfl⟩,rfl⟩) (.inr ⟨0,0,c,false,cs,rfl,by simp only[ae,vR,seval],hp,fun i hi=>by omega⟩) ?_
 simp only[vR,seval]
 exact aJ rfl ⟨rfl,rfl⟩
theorem ux {s:AS} {nm i n t u:Nat} {g:Nat→Int} {code:Int} {s1 s2:SV} {ops:Array Oper} {dst:Option Nat} {K:AS→Prop} (h1:kj s.box t n g s1) (h2:kj s.box u n g s2) (hn:n < 4611686018427387904) (hk:K (s.put dst (some (B true)))):
  km Tryz.prog ops i nm 15 (some [Ag [Sum.inl (.int .i64 code),s1],Ag [Sum.inl (.int .i64 code),s2]]) dst K s:=by
 rcases h1 with ⟨rfl,h0⟩ | ⟨c1,lr,rfl,a4,a1,a2,a3⟩
 ·rcases h2 with ⟨rfl,_⟩ | ⟨c2,j7,rfl,e4,e1,e2,e3⟩
  ·exact (F5 (g:=g)).eV (fun n=>n) fQ rfl rfl (fun M h n hn=>by omega) hk
  ·subst h0
   refine (F7 (g:=g) e2).eV (fun _=>u) (bZ e1 e2) rfl rfl (fun M h m hm=> ?_) hk
   exact ((h (Ag [Sum.inl (.int .i64 code), .inr (.inr (u,0,0,c2))]) (List.mem_cons_of_mem _ (List.mem_cons_self ..)): ∀ x ∈ _,SV.ok M x) (.inr (.inr (u,0,0,c2))) (List.mem_cons_of_mem _ (List.mem_cons_self ..))).1
 ·rcases h2 with ⟨rfl,h0⟩ | ⟨c2,j7,rfl,e4,e1,e2,e3⟩
  ·subst h0
   refine (F6 (g:=g) a2).eV (fun _=>t) (bZ a1 a2) rfl rfl (fun M h m hm=> ?_) hk
   exact ((h (Ag [Sum.inl (.int .i64 code), .inr (.inr (t,0,0,c1))]) (List.mem_cons_self ..): ∀ x ∈ _,SV.ok M x) (.inr (.inr (t,0,0,c1))) (List.mem_cons_of_mem _ (List.mem_cons_self ..))).1
  ·refine (JU (code:=code) (s1:= .inr (.inr (0,0,n,c1))) (s2:= .inr (.inr (1,0,n,c2))) (.inr ⟨0,c1,rfl,a4,a3⟩) (.inr ⟨0,c2,rfl,e4,e3⟩) a2 e2 hn).eV (two t u) (jq a1 a2 e1 e2) rfl rfl (fun M h m hm=> ?_) hk
   have m0:=((h (Ag [Sum.inl (.int .i64 code), .inr (.inr (t,0,n,c1))]) (List.mem_cons_self ..): ∀ x ∈ _,SV.ok M x) (.inr (.inr (t,0,n,c1))) (List.mem_cons_of_mem _ (List.mem_cons_self ..))).1
   have m1:=((h (Ag [Sum.inl (.int .i64 code), .inr (.inr (u,0,n,c2))]) (List.mem_cons_of_mem _ (List.mem_cons_self ..)): ∀ x ∈ _,SV.ok M x) (.inr (.inr (u,0,n,c2))) (List.mem_cons_of_mem _ (List.mem_cons_self ..))).1
   rcases m with _ | _ | m
   ·exact m0
   ·exact m1
   ·omega
section
variable {s:AS} {nm:Nat} {dst:Option Nat} {K:AS→Prop}
theorem jy {t n:Nat} {g:Nat→Int} {v:SV} (h:kj s.box t n g v) (hn:n < 4611686018427387904) (hK: ∀ bx,(∀ u,u≠t→bx u=s.box u)→K (({ s with box:=bx }:AS).put dst (some (Sum.inr [])))):
  av Tryz.prog nm 19 (some [Sum.inl (Sum.inl v)]) dst K s:=by
 rcases h with ⟨rfl,h0⟩ | ⟨c,cs,rfl,h4,h1,h2,h3⟩
 ·exact LU.av (hK s.box fun u _=>rfl)
 ·obtain ⟨tail,ht,rfl⟩: ∃ tail:List SV,tail.all SV.plain=true∧cs=ai .u8 n g++tail:=by
   have hlen:n≤cs.length:=by
    rcases Nat.eq_zero_or_pos n with h0 | h0
    ·omega
    ·have:=(List.getElem?_eq_some_iff.1 (h3 (n - 1) (by omega))).1
     omega
   refine ⟨cs.drop n, ?_,by have:=qt h3 (by omega);simpa using this⟩
   rw[List.all_eq_true]at h2 ⊢
   exact fun x hx=>h2 x (List.mem_of_mem_drop hx)
  refine (LS (o:=0) (c:=c) (f:=g) ht hn rfl).av (fun _=>t) (some 0) (Kz h1 (bY ht)) rfl ?_
  rintro v out ⟨rfl,rfl⟩ _
  exact hK _ fun u hu=>by
   unfold after
   exact bh s.box _ _ _ hu
theorem EB {t u n o c c':Nat} {f:Nat→Int} {tail cs:List SV} {sv:SV} {r0 r1:Bool} (hb:s.box t=some ⟨r0,ai .u8 n f++(ai .u8 64 (fun _=>0)++tail)⟩) (hc:n+64≤c) (hn:n < 4611686018427387904) (ht:tail.all SV.plain=true) (hu:s.box u=some ⟨r1,cs⟩) (hl:cS u sv n f cs) (hq:cs.all SV.plain=true) (hK:K (s.put dst (some (B true)))):
  av Tryz.prog nm 20 (some [iN t n c,Sum.inl (Sum.inl sv)]) dst K s:=by
 rcases hl with ⟨⟨a,rfl⟩,rfl⟩ | ⟨o,c',rfl,h1,h2⟩
 ·exact (aao hc ht).cG (fun _=>t) (bZ hb (kP ht)) rfl rfl hK
 ·exact (aan (c':=c') hc hn ht h2 hq).cG (two t u) (jq hb (kP ht) hu hq) rfl rfl hK
theorem CH {t u kn c:Nat} {kb:Nat→Bool} {ks:SV} {kc tail:List SV} {at_ cut:Int} {r0 r1:Bool} (hb:s.box t=some ⟨r0,nw kn kb++(nw 2 (fun _=>false)++tail)⟩) (hk:dE u ks kn kb kc) (hq:kc.all SV.plain=true) (hu:s.box u=some ⟨r1,kc⟩) (hn:kn≤1048576) (hc:kn+2≤c) (ht:tail.all SV.plain=true) (hK:K (s.put dst (some (B true)))):
  av Tryz.prog nm 21 (some [vt t at_ cut kn c,Ag (cI at_ cut ks)]) dst K s:=by
 obtain ⟨ks',hk',Eo⟩:=dE.iW hk 1
 have gx:(nw kn kb++(nw 2 (fun _=>false)++tail)).all SV.plain=true:=by rw[List.all_append,List.all_append,gp,gp,ht];rfl
 refine (LW (at_:=at_) (cut:=cut) hk' hq hn hc ht).cG (two t u) (jq hb gx hu hq) rfl ?_ hK
 show _=[vt t at_ cut kn c,Ag (cI at_ cut (SV.ren _ ks'))]
 rw[Eo _ rfl]
end
end Go.Proofs.YtaeagfdnfjenlaaGreatDoor
