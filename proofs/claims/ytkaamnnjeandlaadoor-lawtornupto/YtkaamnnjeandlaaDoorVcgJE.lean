/-
  Waiting writes settled, and those that are kept.
-/
import Derived.Test.YtkaamnnjeandlaaDoorVcgWM
import Derived.Test.YtkaamnnjeandlaaDoorVcgJC
import Derived.Test.YtkaamnnjeandlaaDoorVcgDk
set_option maxHeartbeats 8000000
set_option maxRecDepth 20000
set_option linter.unusedSimpArgs false
set_option linter.unusedVariables false
set_option linter.unusedSectionVars false
namespace Go.Proofs.YtkaamnnjeandlaaDoor
open Go.bM
variable [aV]
theorem Wc {m:Nat} {f:Nat→Int} {cs:List SV} (hp:cs.all SV.plain=true) {eY Vh:Bool}: ∀ n c,lk [(0,(⟨eY,aA .u8 (64*m) f⟩:aG)),(1,⟨Vh,cs⟩)] n=some c→n < 2∧ ∀ x ∈ c.cells,SV.ok (fun n=>n < 2) x:=xY aD hp
theorem D9 {m c c':Nat} {f:Nat→Int} {L:List Pd} {cs:List SV} (hs:ji cs L) (hL:Fit m L) (hm:m≤1048576) (hl:L.length < 1048576):
  bC Tryd.prog 29 [Sl 0 0 m c,Sl 1 0 L.length c'] 2 (lk [(0,⟨true,aA .u8 (64*m) f⟩),(1,⟨false,cs⟩)]) (fun v out=>v=Sum.inr []∧out=lk [(0,⟨true,aA .u8 (64*m) (eh f L)⟩)]):=by
 refine aU Tryd.func29 rfl (by kernel_rfl) (by simp[Tryd.ntmps29]) Tryd.mT (by simp[AV.ok,CV.ok,SV.names]) xX (Wc hs.plain) ?_
 have nJ: ∀ {M:Nat→Prop},(∀ x ∈ cs,SV.ok M x)=True:=eq_true (ai hs.plain)
 simp only[Tryd.results29,vR,seval, -List.reduceReplicate]
 refine bY L.length (fun k=>[(0,Sl 0 0 m c),(6,Sl 1 0 L.length c'),(7,I .i64 L.length),(8,I .i64 k)]) (fun k=>[(0,⟨true,aA .u8 (64*m) (eh f (L.take k))⟩),(1,⟨false,cs⟩)]) _ ?_ ?_ ?_
 ·simp only[List.take_zero,kS,nJ,vR,seval, -List.reduceReplicate]
 ·intro j hj
  obtain ⟨p,hp⟩: ∃ p,L[j]? =some p:=⟨_,List.getElem?_eq_getElem hj⟩
  have h1:=hs.take hp
  have h2:(j*65+65≤cs.length)=True:=eq_true (by have:=hs.le;omega)
  have JZ:=hL.at hp
  have h3:(((p.1:Nat):Int) < (m:Int))=True:=eq_true (by omega)
  simp only[aE,aJ hj,decide_true,h1,h2,h3,cO,bQ j (by omega),nJ,vR,seval, -List.reduceReplicate]
  refine ⟨by omega, ?_⟩
  rw[Pe JZ,take_succ hp,Kh]
 ·simp only[vR,seval, -List.reduceReplicate]
  refine cy (by simp) ?_
  simp only[vR,seval, -List.reduceReplicate]
  refine ig (by decide) rfl rfl aD ⟨rfl, ?_⟩
  rw[List.take_length]
theorem Ea {m c:Nat} {f:Nat→Int}:bC Tryd.prog 29 [Sl 0 0 m c,V (.slice none 0 0)] 1 (lk [(0,⟨false,aA .u8 (64*m) f⟩)]) (fun v out=>v=Sum.inr []∧out=fun _=>none):=by
 refine aU Tryd.func29 rfl (by kernel_rfl) (by simp[Tryd.ntmps29]) Tryd.mT (by simp[AV.ok,CV.ok,SV.names]) j0 (j5 aD) ?_
 simp only[Tryd.results29,vR,seval, -List.reduceReplicate]
 refine bY 0 (fun k=>[(7,I .i64 0),(8,I .i64 k)]) (fun k=>[]) _ ?_ ?_ ?_
 ·simp only[vR,seval, -List.reduceReplicate]
 ·intro j hj;omega
 ·simp only[vR,seval, -List.reduceReplicate]
  refine cy (by simp) ?_
  simp only[vR,seval, -List.reduceReplicate]
  exact aL rfl ⟨rfl,rfl⟩
theorem RP {c' ko kn kc:Nat} {kb:Nat→Bool} {ks:SV} {L:List Pd} {cs ds:List SV} (hs:ji cs L) (hl:L.length < 1048576) (hk:ft 1 ks kn kb ds) (hq:ds.all SV.plain=true):
  bC Tryd.prog 30 [Sl 0 0 L.length c',Sum.inl (Sum.inl ks)] 2 (lk [(0,⟨false,cs⟩),(1,⟨false,ds⟩)]) (RN 2 (cZ kn kb 0 L)):=by
 refine aU Tryd.func30 rfl (by kernel_rfl) (by simp[Tryd.ntmps30]) Tryd.mU (by simp[AV.ok,CV.ok,SV.names];exact (hk.ok (by decide)).1) xX (xY hs.plain hq) ?_
 have nJ: ∀ {M:Nat→Prop},(∀ x ∈ cs,SV.ok M x)=True:=eq_true (ai hs.plain)
 have Kj: ∀ {M:Nat→Prop},(∀ x ∈ ds,SV.ok M x)=True:=eq_true (ai hq)
 have hlen:=hk.len
 have T9: ∀ x ∈ [(0,(⟨false,cs⟩:aG)),(1,⟨false,ds⟩)],x.1 < 2∧lk [(0,(⟨false,cs⟩:aG)),(1,⟨false,ds⟩)] x.1=some x.2∧ ∀ y ∈ x.2.cells,SV.ok (fun n=>n < 2) y:=fun x hx=>by
  simp only[cz]at hx
  rcases hx with rfl | rfl
  ·exact ⟨Nat.zero_lt_succ _,rfl,ai hs.plain⟩
  ·exact ⟨Nat.lt_succ_self 1,rfl,ai hq⟩
 simp only[Tryd.results30,vR,seval, -List.reduceReplicate]
 refine Mi L.length (fun k t=>(cZ kn kb 0 (L.take k)=[]∧t=nX [(1,Sum.inl (Sum.inl ks)),(5,V (.slice none 0 0)),(8,Sl 0 0 L.length c'),(9,I .i64 L.length),(10,I .i64 k)] [(0,⟨false,cs⟩),(1,⟨false,ds⟩)] 61)∨
  (cZ kn kb 0 (L.take k)≠[]∧ ∃ c2 es,fb es (cZ kn kb 0 (L.take k)) c2∧t=nX [(5,Sl 60 0 (cZ kn kb 0 (L.take k)).length c2),(1,Sum.inl (Sum.inl ks)),(8,Sl 0 0 L.length c'),(9,I .i64 L.length),(10,I .i64 k)] [(60,⟨true,es⟩),(0,⟨false,cs⟩),(1,⟨false,ds⟩)] 61)) ?_ ?_ ?_ ?_
 ·rintro k t (⟨_,rfl⟩ | ⟨_,_,_,_,rfl⟩)<;>(show (7:Nat)≤61;decide)
 ·refine ⟨_, .inl ⟨by simp[cZ],rfl⟩,dx.nC ?_⟩
  simp only[nJ,Kj,vR,seval, -List.reduceReplicate]
  exact ⟨(hk.ok (M:=fun n=>n < 61) (by decide)).1,trivial⟩
 ·rintro k t hk2 hI
  obtain ⟨p,hp⟩: ∃ p,L[k]? =some p:=⟨_,List.getElem?_eq_getElem hk2⟩
  have h1:=hs.take hp
  have h2:(k*65+65≤cs.length)=True:=eq_true (by have:=hs.le;omega)
  have hks: ∀ {M:Nat→Prop},M 1→AV.ok M (Sum.inl (Sum.inl ks)):=fun h=>(hk.ok h).1
  have e2:=Gj (kn:=kn) (kb:=kb) hp
  have Y4:(cZ kn kb 0 (L.take k)).length < 1048576:=by
   have h1:=sn (kn:=kn) (kb:=kb) 0 (L.take k)
   rw[List.length_take]at h1
   omega
  by_cases hkk:k < kn∧kb k=true
  ·rw[if_pos hkk]at e2
   have g1:((k:Int) < (kn:Int))=True:=eq_true (by omega)
   have g2:=hkk.2
   obtain ⟨o,c,rfl,hd⟩: ∃ o c,ks= .inr (.inr (1,o,kn,c))∧ ∀ i,i < kn→ds[o+i]? =some (Sum.inl (.bool (kb i))):=by
    rcases hk with ⟨_,h0⟩ | h
    ·omega
    ·exact h
   have g3:=hd k hkk.1
   rw[g2]at g3
   rcases hI with ⟨h0,rfl⟩ | ⟨h0,c2,es,hg,rfl⟩
   ·rw[h0,List.nil_append]at e2
    simp only[aE,aJ hk2,decide_true,h1,h2,cO,g1,g3,hlen,nJ,Kj,vR,seval, -List.reduceReplicate]
    refine zU (eY:=true) (p:=p) Tryd.zO Tryd.Ig (by simp only[cO,ae,vR,seval, -List.reduceReplicate]) (by decide) fun c3 Eb gu=> ?_
    simp only[bQ k (by omega),vR,seval, -List.reduceReplicate]
    refine ⟨_, .inr ⟨by rw[e2];simp,c3,Eb,by rw[e2];exact gu,rfl⟩,gk.eW (p:=60) (q:=81) (ij (k:=2) (by decide) (by decide) (by decide) (by decide) ?_ (by simp only[aT]) gu.shows.plain ?_ (fun t ht=> ?_))⟩
    ·simp only[e2,jP,jQ,pB,vR,seval, -List.reduceReplicate]
    ·exact T9
    ·rcases (show t=0∨t=1 by omega) with rfl | rfl<;>simp only[ae,vR,seval, -List.reduceReplicate]
   ·simp only[aE,aJ hk2,decide_true,h1,h2,cO,g1,g3,hlen,nJ,Kj,vR,seval, -List.reduceReplicate]
    refine D8 (eY:=true) (p:=p) Tryd.zO Tryd.Ig hg (by simp only[ae,vR,seval, -List.reduceReplicate]) (by simp only[cO,ae,vR,seval, -List.reduceReplicate]) (by decide) Y4 (by decide) fun c3 Eb gu=> ?_
    rw[← e2]at gu
    have e3:(cZ kn kb 0 (L.take (k+1))).length=(cZ kn kb 0 (L.take k)).length+1:=by rw[e2,List.length_append,List.length_singleton]
    simp only[bQ k (by omega),vR,seval, -List.reduceReplicate]
    refine ⟨_, .inr ⟨by rw[e2];simp,c3,Eb,gu,rfl⟩,gk.eW (p:=60) (q:=81) (ij (k:=2) (by decide) (by decide) (by decide) (by decide) ?_ (by simp only[aT]) gu.shows.plain ?_ (fun t ht=> ?_))⟩
    ·simp only[e3,jP,jQ,pB,vR,seval, -List.reduceReplicate]
    ·exact T9
    ·rcases (show t=0∨t=1 by omega) with rfl | rfl<;>simp only[ae,vR,seval, -List.reduceReplicate]
  ·rw[if_neg hkk,List.append_nil]at e2
   rw[e2]
   by_cases g0:k < kn
   ·have g1:((k:Int) < (kn:Int))=True:=eq_true (by omega)
    have g2:kb k=false:=by
     cases h:kb k with
     | false=>rfl
     | true=>exact absurd ⟨g0,h⟩ hkk
    obtain ⟨o,c,rfl,hd⟩: ∃ o c,ks= .inr (.inr (1,o,kn,c))∧ ∀ i,i < kn→ds[o+i]? =some (Sum.inl (.bool (kb i))):=by
     rcases hk with ⟨_,h0⟩ | h
     ·omega
     ·exact h
    have g3:=hd k g0
    rw[g2]at g3
    rcases hI with ⟨h0,rfl⟩ | ⟨h0,c2,es,hg,rfl⟩
    ·simp only[aE,aJ hk2,decide_true,h1,h2,cO,g1,g3,hlen,bQ k (by omega),nJ,Kj,vR,seval, -List.reduceReplicate]
     refine ⟨_, .inl ⟨h0,rfl⟩,dx.nC ?_⟩
     simp only[nJ,Kj,vR,seval, -List.reduceReplicate]
     exact trivial
    ·simp only[aE,aJ hk2,decide_true,h1,h2,cO,g1,g3,hlen,bQ k (by omega),nJ,Kj,vR,seval, -List.reduceReplicate]
     refine ⟨_, .inr ⟨h0,c2,es,hg,rfl⟩,dx.nC ?_⟩
     simp only[nJ,Kj,vR,seval, -List.reduceReplicate]
     exact ai hg.shows.plain
   ·have g1:((k:Int) < (kn:Int))=False:=eq_false (by omega)
    rcases hI with ⟨h0,rfl⟩ | ⟨h0,c2,es,hg,rfl⟩
    ·simp only[aE,aJ hk2,decide_true,decide_false,h1,h2,cO,g1,hlen,bQ k (by omega),nJ,Kj,vR,seval, -List.reduceReplicate]
     refine ⟨_, .inl ⟨h0,rfl⟩,dx.nC ?_⟩
     simp only[hks,nJ,Kj,vR,seval, -List.reduceReplicate]
     exact trivial
    ·simp only[aE,aJ hk2,decide_true,decide_false,h1,h2,cO,g1,hlen,bQ k (by omega),nJ,Kj,vR,seval, -List.reduceReplicate]
     refine ⟨_, .inr ⟨h0,c2,es,hg,rfl⟩,dx.nC ?_⟩
     simp only[hks,nJ,Kj,vR,seval, -List.reduceReplicate]
     exact ai hg.shows.plain
 ·rintro t hI
  rw[List.take_length]at hI
  rcases hI with ⟨h0,rfl⟩ | ⟨h0,c2,es,hg,rfl⟩
  ·simp only[vR,seval, -List.reduceReplicate]
   refine cy (by simp) ?_
   simp only[vR,seval, -List.reduceReplicate]
   exact ⟨2,V (.slice none 0 0),fun _=>none,Nat.le_refl _,rfl,trivial,fun n b hb=>(by cases hb), .inl ⟨h0,rfl,rfl⟩⟩
  ·simp only[vR,seval, -List.reduceReplicate]
   refine cy (by simp) ?_
   simp only[vR,seval, -List.reduceReplicate]
   refine gX (k:=2) (q:=60) (by decide) rfl hg.shows.plain (.inr ⟨h0,c2, ?_⟩)
   obtain ⟨⟨tail,rfl,h1,h2⟩,h3⟩:=hg
   exact ⟨tail,rfl,h3,h1,h2,rfl⟩
theorem RQ {kn:Nat} {kb:Nat→Bool} {ks:SV} {ds:List SV} (hk:ft 0 ks kn kb ds) (hq:ds.all SV.plain=true):
  bC Tryd.prog 30 [V (.slice none 0 0),Sum.inl (Sum.inl ks)] 1 (lk [(0,⟨false,ds⟩)]) (fun v out=>v=V (.slice none 0 0)∧out=fun _=>none):=by
 refine aU Tryd.func30 rfl (by kernel_rfl) (by simp[Tryd.ntmps30]) Tryd.mU (by simp[AV.ok,CV.ok,SV.names];exact (hk.ok (by decide)).1) j0 (j5 hq) ?_
 simp only[Tryd.results30,vR,seval, -List.reduceReplicate]
 refine bY 0 (fun k=>[(5,V (.slice none 0 0)),(9,I .i64 0),(10,I .i64 k)]) (fun k=>[]) _ ?_ ?_ ?_
 ·simp only[vR,seval, -List.reduceReplicate];exact trivial
 ·intro j hj;omega
 ·simp only[vR,seval, -List.reduceReplicate]
  refine cy (by simp) ?_
  simp only[vR,seval, -List.reduceReplicate]
  exact aL rfl ⟨rfl,rfl⟩
end Go.Proofs.YtkaamnnjeandlaaDoor
