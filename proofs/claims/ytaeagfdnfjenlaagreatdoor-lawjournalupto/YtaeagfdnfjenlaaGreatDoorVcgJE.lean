/-
  Waiting writes settled, and those that are kept.
-/
import Derived.Test.YtaeagfdnfjenlaaGreatDoorVcgWM
import Derived.Test.YtaeagfdnfjenlaaGreatDoorVcgJC
import Derived.Test.YtaeagfdnfjenlaaGreatDoorVcgDk
set_option maxHeartbeats 8000000
set_option maxRecDepth 20000
set_option linter.unusedSimpArgs false
set_option linter.unusedVariables false
set_option linter.unusedSectionVars false
namespace Go.Proofs.YtaeagfdnfjenlaaGreatDoor
open Go.cn
variable [aX]
theorem aex {m:Nat} {f:Nat→Int} {cs:List SV} (hp:cs.all SV.plain=true) {eD UW:Bool}: ∀ n c,lk [(0,(⟨eD,ai .u8 (64*m) f⟩:aI)),(1,⟨UW,cs⟩)] n=some c→n < 2∧ ∀ x ∈ c.cells,SV.ok (fun n=>n < 2) x:=pY az hp
theorem II {m c c':Nat} {f:Nat→Int} {L:List Pd} {cs:List SV} (hs:kI cs L) (hL:Fit m L) (hm:m≤1048576) (hl:L.length < 1048576):
  bd Tryz.prog 48 [Sl 0 0 m c,Sl 1 0 L.length c'] 2 (lk [(0,⟨true,ai .u8 (64*m) f⟩),(1,⟨false,cs⟩)]) (fun v out=>v=Sum.inr []∧out=lk [(0,⟨true,ai .u8 (64*m) (dT f L)⟩)]):=by
 refine aG Tryz.func48 rfl (by kernel_rfl) (by simp[Tryz.ntmps48]) Tryz.oX (by simp[AV.ok,CV.ok,SV.names]) pX (aex hs.plain) ?_
 have nC: ∀ {M:Nat→Prop},(∀ x ∈ cs,SV.ok M x)=True:=eq_true (ao hs.plain)
 simp only[Tryz.results48,vR,seval, -List.reduceReplicate]
 refine bD L.length (fun k=>[(0,Sl 0 0 m c),(6,Sl 1 0 L.length c'),(7,I .i64 L.length),(8,I .i64 k)]) (fun k=>[(0,⟨true,ai .u8 (64*m) (dT f (L.take k))⟩),(1,⟨false,cs⟩)]) _ ?_ ?_ ?_
 ·simp only[List.take_zero,mS,nC,vR,seval, -List.reduceReplicate]
 ·intro j hj
  obtain ⟨p,hp⟩: ∃ p,L[j]? =some p:=⟨_,List.getElem?_eq_getElem hj⟩
  have h1:=hs.take hp
  have h2:(j*65+65≤cs.length)=True:=eq_true (by have:=hs.le;omega)
  have KO:=hL.at hp
  have h3:(((p.1:Nat):Int) < (m:Int))=True:=eq_true (by omega)
  simp only[aF,aP hj,decide_true,h1,h2,h3,dz,bU j (by omega),nC,vR,seval, -List.reduceReplicate]
  refine ⟨by omega, ?_⟩
  rw[VK KO,take_succ hp,oo]
 ·simp only[vR,seval, -List.reduceReplicate]
  refine bR (by simp) ?_
  simp only[vR,seval, -List.reduceReplicate]
  refine bM (by decide) rfl rfl az ⟨rfl, ?_⟩
  rw[List.take_length]
theorem IJ {m c:Nat} {f:Nat→Int}:bd Tryz.prog 48 [Sl 0 0 m c,V (.slice none 0 0)] 1 (lk [(0,⟨false,ai .u8 (64*m) f⟩)]) (fun v out=>v=Sum.inr []∧out=fun _=>none):=by
 refine aG Tryz.func48 rfl (by kernel_rfl) (by simp[Tryz.ntmps48]) Tryz.oX (by simp[AV.ok,CV.ok,SV.names]) fF (fG az) ?_
 simp only[Tryz.results48,vR,seval, -List.reduceReplicate]
 refine bD 0 (fun k=>[(7,I .i64 0),(8,I .i64 k)]) (fun k=>[]) _ ?_ ?_ ?_
 ·simp only[vR,seval, -List.reduceReplicate]
 ·intro j hj;omega
 ·simp only[vR,seval, -List.reduceReplicate]
  refine bR (by simp) ?_
  simp only[vR,seval, -List.reduceReplicate]
  exact aJ rfl ⟨rfl,rfl⟩
theorem Zw {c' ko kn kc:Nat} {kb:Nat→Bool} {ks:SV} {L:List Pd} {cs ds:List SV} (hs:kI cs L) (hl:L.length < 1048576) (hk:dE 1 ks kn kb ds) (hq:ds.all SV.plain=true):
  bd Tryz.prog 49 [Sl 0 0 L.length c',Sum.inl (Sum.inl ks)] 2 (lk [(0,⟨false,cs⟩),(1,⟨false,ds⟩)]) (Zu 2 (dO kn kb 0 L)):=by
 refine aG Tryz.func49 rfl (by kernel_rfl) (by simp[Tryz.ntmps49]) Tryz.oY (by simp[AV.ok,CV.ok,SV.names];exact (hk.ok (by decide)).1) pX (pY hs.plain hq) ?_
 have nC: ∀ {M:Nat→Prop},(∀ x ∈ cs,SV.ok M x)=True:=eq_true (ao hs.plain)
 have IK: ∀ {M:Nat→Prop},(∀ x ∈ ds,SV.ok M x)=True:=eq_true (ao hq)
 have hlen:=hk.len
 have abL: ∀ x ∈ [(0,(⟨false,cs⟩:aI)),(1,⟨false,ds⟩)],x.1 < 2∧lk [(0,(⟨false,cs⟩:aI)),(1,⟨false,ds⟩)] x.1=some x.2∧ ∀ y ∈ x.2.cells,SV.ok (fun n=>n < 2) y:=fun x hx=>by
  simp only[bQ]at hx
  rcases hx with rfl | rfl
  ·exact ⟨Nat.zero_lt_succ _,rfl,ao hs.plain⟩
  ·exact ⟨Nat.lt_succ_self 1,rfl,ao hq⟩
 simp only[Tryz.results49,vR,seval, -List.reduceReplicate]
 refine RD L.length (fun k t=>(dO kn kb 0 (L.take k)=[]∧t=pF [(1,Sum.inl (Sum.inl ks)),(5,V (.slice none 0 0)),(8,Sl 0 0 L.length c'),(9,I .i64 L.length),(10,I .i64 k)] [(0,⟨false,cs⟩),(1,⟨false,ds⟩)] 61)∨
  (dO kn kb 0 (L.take k)≠[]∧ ∃ c2 es,gj es (dO kn kb 0 (L.take k)) c2∧t=pF [(5,Sl 60 0 (dO kn kb 0 (L.take k)).length c2),(1,Sum.inl (Sum.inl ks)),(8,Sl 0 0 L.length c'),(9,I .i64 L.length),(10,I .i64 k)] [(60,⟨true,es⟩),(0,⟨false,cs⟩),(1,⟨false,ds⟩)] 61)) ?_ ?_ ?_ ?_
 ·rintro k t (⟨_,rfl⟩ | ⟨_,_,_,_,rfl⟩)<;>(show (7:Nat)≤61;decide)
 ·refine ⟨_, .inl ⟨by simp[dO],rfl⟩,ev.qa ?_⟩
  simp only[nC,IK,vR,seval, -List.reduceReplicate]
  exact ⟨(hk.ok (M:=fun n=>n < 61) (by decide)).1,trivial⟩
 ·rintro k t hk2 hI
  obtain ⟨p,hp⟩: ∃ p,L[k]? =some p:=⟨_,List.getElem?_eq_getElem hk2⟩
  have h1:=hs.take hp
  have h2:(k*65+65≤cs.length)=True:=eq_true (by have:=hs.le;omega)
  have hks: ∀ {M:Nat→Prop},M 1→AV.ok M (Sum.inl (Sum.inl ks)):=fun h=>(hk.ok h).1
  have e2:=Lf (kn:=kn) (kb:=kb) hp
  have hkl:(dO kn kb 0 (L.take k)).length < 1048576:=by
   have h1:=wz (kn:=kn) (kb:=kb) 0 (L.take k)
   rw[List.length_take]at h1
   omega
  by_cases hkk:k < kn∧kb k=true
  ·rw[if_pos hkk]at e2
   have g1:((k:Int) < (kn:Int))=True:=eq_true (by omega)
   have g2:=hkk.2
   obtain ⟨o,c,rfl,hd⟩: ∃ o c,ks= .inr (.inr (1,o,kn,c))∧ ∀ i,i < kn→ds[o+i]? =some (Sum.inl (.bool (kb i))):=by
    rcases hk with ⟨_,h0⟩ | h
    ·omega
    ·exact h
   have g3:=hd k hkk.1
   rw[g2]at g3
   rcases hI with ⟨h0,rfl⟩ | ⟨h0,c2,es,hg,rfl⟩
   ·rw[h0,List.nil_append]at e2
    simp only[aF,aP hk2,decide_true,h1,h2,dz,g1,g3,hlen,nC,IK,vR,seval, -List.reduceReplicate]
    refine D8 (eD:=true) (p:=p) Tryz.D2 Tryz.Nw (by simp only[dz,ae,vR,seval, -List.reduceReplicate]) (by decide) fun c3 IL fS=> ?_
    simp only[bU k (by omega),vR,seval, -List.reduceReplicate]
    refine ⟨_, .inr ⟨by rw[e2];simp,c3,IL,by rw[e2];exact fS,rfl⟩,fJ.eR (p:=60) (q:=81) (jL (k:=2) (by decide) (by decide) (by decide) (by decide) ?_ (by simp only[aQ]) fS.shows.plain ?_ (fun t ht=> ?_))⟩
    ·simp only[e2,jM,iZ,nu,vR,seval, -List.reduceReplicate]
    ·exact abL
    ·rcases (show t=0∨t=1 by omega) with rfl | rfl<;>simp only[ae,vR,seval, -List.reduceReplicate]
   ·simp only[aF,aP hk2,decide_true,h1,h2,dz,g1,g3,hlen,nC,IK,vR,seval, -List.reduceReplicate]
    refine IE (eD:=true) (p:=p) Tryz.D2 Tryz.Nw hg (by simp only[ae,vR,seval, -List.reduceReplicate]) (by simp only[dz,ae,vR,seval, -List.reduceReplicate]) (by decide) hkl (by decide) fun c3 IL fS=> ?_
    rw[← e2]at fS
    have e3:(dO kn kb 0 (L.take (k+1))).length=(dO kn kb 0 (L.take k)).length+1:=by rw[e2,List.length_append,List.length_singleton]
    simp only[bU k (by omega),vR,seval, -List.reduceReplicate]
    refine ⟨_, .inr ⟨by rw[e2];simp,c3,IL,fS,rfl⟩,fJ.eR (p:=60) (q:=81) (jL (k:=2) (by decide) (by decide) (by decide) (by decide) ?_ (by simp only[aQ]) fS.shows.plain ?_ (fun t ht=> ?_))⟩
    ·simp only[e3,jM,iZ,nu,vR,seval, -List.reduceReplicate]
    ·exact abL
    ·rcases (show t=0∨t=1 by omega) with rfl | rfl<;>simp only[ae,vR,seval, -List.reduceReplicate]
  ·rw[if_neg hkk,List.append_nil]at e2
   rw[e2]
   by_cases g0:k < kn
   ·have g1:((k:Int) < (kn:Int))=True:=eq_true (by omega)
    have g2:kb k=false:=by
     cases h:kb k with
     | false=>rfl
     | true=>exact absurd ⟨g0,h⟩ hkk
    obtain ⟨o,c,rfl,hd⟩: ∃ o c,ks= .inr (.inr (1,o,kn,c))∧ ∀ i,i < kn→ds[o+i]? =some (Sum.inl (.bool (kb i))):=by
     rcases hk with ⟨_,h0⟩ | h
     ·omega
     ·exact h
    have g3:=hd k g0
    rw[g2]at g3
    rcases hI with ⟨h0,rfl⟩ | ⟨h0,c2,es,hg,rfl⟩
    ·simp only[aF,aP hk2,decide_true,h1,h2,dz,g1,g3,hlen,bU k (by omega),nC,IK,vR,seval, -List.reduceReplicate]
     refine ⟨_, .inl ⟨h0,rfl⟩,ev.qa ?_⟩
     simp only[nC,IK,vR,seval, -List.reduceReplicate]
     exact trivial
    ·simp only[aF,aP hk2,decide_true,h1,h2,dz,g1,g3,hlen,bU k (by omega),nC,IK,vR,seval, -List.reduceReplicate]
     refine ⟨_, .inr ⟨h0,c2,es,hg,rfl⟩,ev.qa ?_⟩
     simp only[nC,IK,vR,seval, -List.reduceReplicate]
     exact ao hg.shows.plain
   ·have g1:((k:Int) < (kn:Int))=False:=eq_false (by omega)
    rcases hI with ⟨h0,rfl⟩ | ⟨h0,c2,es,hg,rfl⟩
    ·simp only[aF,aP hk2,decide_true,decide_false,h1,h2,dz,g1,hlen,bU k (by omega),nC,IK,vR,seval, -List.reduceReplicate]
     refine ⟨_, .inl ⟨h0,rfl⟩,ev.qa ?_⟩
     simp only[hks,nC,IK,vR,seval, -List.reduceReplicate]
     exact trivial
    ·simp only[aF,aP hk2,decide_true,decide_false,h1,h2,dz,g1,hlen,bU k (by omega),nC,IK,vR,seval, -List.reduceReplicate]
     refine ⟨_, .inr ⟨h0,c2,es,hg,rfl⟩,ev.qa ?_⟩
     simp only[hks,nC,IK,vR,seval, -List.reduceReplicate]
     exact ao hg.shows.plain
 ·rintro t hI
  rw[List.take_length]at hI
  rcases hI with ⟨h0,rfl⟩ | ⟨h0,c2,es,hg,rfl⟩
  ·simp only[vR,seval, -List.reduceReplicate]
   refine bR (by simp) ?_
   simp only[vR,seval, -List.reduceReplicate]
   exact ⟨2,V (.slice none 0 0),fun _=>none,Nat.le_refl _,rfl,trivial,fun n b hb=>(by cases hb), .inl ⟨h0,rfl,rfl⟩⟩
  ·simp only[vR,seval, -List.reduceReplicate]
   refine bR (by simp) ?_
   simp only[vR,seval, -List.reduceReplicate]
   refine gR (k:=2) (q:=60) (by decide) rfl hg.shows.plain (.inr ⟨h0,c2, ?_⟩)
   obtain ⟨⟨tail,rfl,h1,h2⟩,h3⟩:=hg
   exact ⟨tail,rfl,h3,h1,h2,rfl⟩
theorem Zx {kn:Nat} {kb:Nat→Bool} {ks:SV} {ds:List SV} (hk:dE 0 ks kn kb ds) (hq:ds.all SV.plain=true):
  bd Tryz.prog 49 [V (.slice none 0 0),Sum.inl (Sum.inl ks)] 1 (lk [(0,⟨false,ds⟩)]) (fun v out=>v=V (.slice none 0 0)∧out=fun _=>none):=by
 refine aG Tryz.func49 rfl (by kernel_rfl) (by simp[Tryz.ntmps49]) Tryz.oY (by simp[AV.ok,CV.ok,SV.names];exact (hk.ok (by decide)).1) fF (fG hq) ?_
 simp only[Tryz.results49,vR,seval, -List.reduceReplicate]
 refine bD 0 (fun k=>[(5,V (.slice none 0 0)),(9,I .i64 0),(10,I .i64 k)]) (fun k=>[]) _ ?_ ?_ ?_
 ·simp only[vR,seval, -List.reduceReplicate];exact trivial
 ·intro j hj;omega
 ·simp only[vR,seval, -List.reduceReplicate]
  refine bR (by simp) ?_
  simp only[vR,seval, -List.reduceReplicate]
  exact aJ rfl ⟨rfl,rfl⟩
end Go.Proofs.YtaeagfdnfjenlaaGreatDoor
