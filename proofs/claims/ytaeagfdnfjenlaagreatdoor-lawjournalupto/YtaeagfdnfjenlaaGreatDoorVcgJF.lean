/-
  The disk's own functions: its size, what it reads, a flush.
-/
import Derived.Test.YtaeagfdnfjenlaaGreatDoorVcgWM
import Derived.Test.YtaeagfdnfjenlaaGreatDoorVcgJE
import Derived.Test.YtaeagfdnfjenlaaGreatDoorVcgRf
import Derived.Test.YtaeagfdnfjenlaaGreatDoorVcgWV
import Derived.Test.YtaeagfdnfjenlaaGreatDoorVcgWX
import Derived.Test.YtaeagfdnfjenlaaGreatDoorVcgDk
import Derived.Test.YtaeagfdnfjenlaaGreatDoorVcgPz
import Derived.Test.YtaeagfdnfjenlaaGreatDoorVcgWj
import Derived.Test.YtaeagfdnfjenlaaGreatDoorVcgFv
import Derived.Test.YtaeagfdnfjenlaaGreatDoorVcgWi
import Derived.Test.YtaeagfdnfjenlaaGreatDoorVcgJ
import Derived.Test.YtaeagfdnfjenlaaGreatDoorVcgFacts
import Derived.Test.YtaeagfdnfjenlaaGreatDoorVcgH1
set_option maxHeartbeats 8000000
set_option maxRecDepth 20000
set_option linter.unusedSimpArgs false
set_option linter.unusedVariables false
set_option linter.unusedSectionVars false
namespace Go.Proofs.YtaeagfdnfjenlaaGreatDoor
open Go.cn
variable [aX]
def pt (n:Nat):Value:= .pointer (some ⟨n,0,none⟩)
def fP (bs bp bw bn:Nat):List SV:=[Sum.inl (.func (.func 47) #[] #[pt bn,pt bp,pt bs,pt bw]),Sum.inl (.func (.func 51) #[] #[pt bs,pt bw]),Sum.inl (.func (.func 52) #[] #[pt bw,pt bs]),Sum.inl (.func (.func 54) #[] #[pt bs])]
def kU (m:Nat) (f:Nat→Int) (pc nc kc:List SV):List (Nat×aI):=[(0,⟨false,[Sum.inr (.inr (4,0,m,m))]⟩),(1,⟨false,pc⟩),(2,⟨false,[Sum.inl (.slice none 0 0)]⟩),(3,⟨false,nc⟩),(4,⟨false,ai .u8 (64*m) f⟩),(5,⟨false,kc⟩)]
structure iy (pc nc kc:List SV):Prop where
 p: ∀ x ∈ pc,SV.ok (fun n=>n=5) x
 n:nc.all SV.plain=true
 k:kc.all SV.plain=true
theorem lZ {m:Nat} {f:Nat→Int} {pc nc kc:List SV}: ∀ n,n < 6→ ∃ c,lk (kU m f pc nc kc) n=some c:=fun n hn=>by
 rcases (show n=0∨n=1∨n=2∨n=3∨n=4∨n=5 by omega) with rfl | rfl | rfl | rfl | rfl | rfl<;>exact ⟨_,rfl⟩
theorem l5 {m:Nat} {f:Nat→Int} {pc nc kc:List SV} (h:iy pc nc kc): ∀ n c,lk (kU m f pc nc kc) n=some c→n < 6∧ ∀ x ∈ c.cells,SV.ok (fun n=>n < 6) x:=fun n c hn=>by
 have h1:=bt _ _ _ hn
 simp only[kU,bQ,Prod.mk.injEq]at h1
 rcases h1 with ⟨rfl,rfl⟩ | ⟨rfl,rfl⟩ | ⟨rfl,rfl⟩ | ⟨rfl,rfl⟩ | ⟨rfl,rfl⟩ | ⟨rfl,rfl⟩
 ·exact ⟨by decide,fun x hx=>by rw[List.mem_singleton]at hx;subst hx;exact ⟨(by decide:4 < 6),rfl⟩⟩
 ·exact ⟨by decide,fun x hx=>SV.aL (fun n hn=>by subst hn;decide) (h.p x hx)⟩
 ·exact ⟨by decide,fun x hx=>by rw[List.mem_singleton]at hx;subst hx;exact ⟨trivial,rfl⟩⟩
 ·exact ⟨by decide,ao h.n⟩
 ·exact ⟨by decide,ao az⟩
 ·exact ⟨by decide,ao h.k⟩
theorem Sm {m:Nat} {f:Nat→Int} {pc nc kc:List SV} (h:iy pc nc kc):
  bd Tryz.prog 54 [Ptr 0 0] 6 (lk (kU m f pc nc kc)) (fun v out=>v=I .i64 m∧out=fun _=>none):=by
 refine aG Tryz.func54 rfl (by kernel_rfl) (by simp[Tryz.ntmps54]) Tryz.tB (by simp[AV.ok,CV.ok,SV.names]) lZ (l5 h) ?_
 simp only[Tryz.results54,kU,vR,seval, -List.reduceReplicate]
 exact aJ rfl ⟨rfl,rfl⟩
theorem Sn {lp:Nat}:bd Tryz.prog 88 [V (.func (.yield lp) #[] #[]),Ptr 0 0] 1 (lk [(0,⟨false,[Sum.inl (.slice none 0 0)]⟩)]) (fun v out=>v=Sum.inr []∧out=fun _=>none):=by
 refine aG Tryz.func88 rfl (by kernel_rfl) (by simp[Tryz.ntmps88]) Tryz.K0 (by simp[AV.ok,CV.ok,SV.names];exact fH rfl) fF (fG rfl) ?_
 have w1:IntKind.i64.wrap (-1)= -1:=by decide
 simp only[Tryz.results88,vR,seval, -List.reduceReplicate]
 refine bD 0 (fun k=>[(3,I .i64 (-1))]) (fun k=>[]) _ ?_ ?_ ?_
 ·simp only[w1,vR,seval, -List.reduceReplicate]
 ·intro j hj;omega
 ·simp only[vR,seval, -List.reduceReplicate]
  refine bR (by decide) ?_
  simp only[vR,seval, -List.reduceReplicate]
  exact aJ rfl ⟨rfl,rfl⟩
theorem Li:bd Tryz.prog 73 [V (.slice none 0 0)] 0 (fun _=>none) (fun v out=>v=V (.func (.func 88) #[] #[pt 0])∧out=lk [(0,⟨true,[Sum.inl (.slice none 0 0)]⟩)]):=by
 refine aG Tryz.func73 rfl (by kernel_rfl) (by simp[Tryz.ntmps73]) Tryz.tQ (by simp[AV.ok,CV.ok,SV.names]) rK rL ?_
 simp only[Tryz.results73,Ar,bI,vR,seval, -List.reduceReplicate]
 refine ⟨0,V (.func (.func 88) #[] #[pt 0]),lk [(0,⟨true,[Sum.inl (.slice none 0 0)]⟩)],Nat.le_refl _,rfl, ?_,fun n b hb=> ?_,rfl,rfl⟩
 ·intro c hc
  have:c=pt 0:=by simpa using hc
  subst this
  exact (by decide:0 < 0+1)
 ·obtain ⟨rfl,rfl⟩:=J0 hb
  exact ⟨by decide,fun _=>rfl,ao rfl,_,rfl,fun _=>rfl,rfl⟩
theorem Sp {a:Int} {d:Nat→Int}:bd Tryz.prog 53 [V (.slice none 0 0),I .i64 a,Ag (ai .u8 64 d)] 0 (fun _=>none) (fun v out=>v=Ag (ai .u8 64 d)∧out=fun _=>none):=by
 refine AU Tryz.func53 rfl (by kernel_rfl) (by kernel_rfl) [] (by simp[Tryz.ntmps53]) Tryz.KY (by simp[AV.ok,CV.ok,SV.names];exact ao az) rK rL ?_
 simp only[Tryz.results53,bI,bK,bm,vR,seval, -List.reduceReplicate]
 refine Li.av (fun n=>n) none fQ rfl ?_
 rintro v out ⟨rfl,rfl⟩ _
 rw[bX rfl]
 have e1:AV.ren (df (fun n=>n) 0 4) (V (.func (.func 88) #[] #[pt 0]))=V (.func (.func 88) #[] #[pt 4]):=rfl
 rw[e1]
 simp only[bI,bK,bm,vR,seval, -List.reduceReplicate]
 refine ⟨VM (eD:=true) (cs:=[Sum.inl (.slice none 0 0)]) (fun lp=>Sn) (by simp only[ae,vR,seval, -List.reduceReplicate]) rfl, ?_⟩
 exact aJ az ⟨rfl,rfl⟩
theorem Zy {m a:Nat} {f:Nat→Int} {pc nc kc:List SV} (h:iy pc nc kc) (ha:a < m) (hm:m≤1048576):
  bd Tryz.prog 52 [I .i64 a,Ptr 2 0,Ptr 0 0] 6 (lk (kU m f pc nc kc)) (fun v out=>v=Ag (ai .u8 64 (fun i=>f (a*64+i)))∧out=fun _=>none):=by
 refine aG Tryz.func52 rfl (by kernel_rfl) (by simp[Tryz.ntmps52]) Tryz.tA (by simp[AV.ok,CV.ok,SV.names]) lZ (l5 h) ?_
 have e1:List.take 64 (List.drop (a*64) (ai .u8 (64*m) f))=ai .u8 64 (fun i=>f (a*64+i)):=mC _ _ _ _ _ (by omega)
 have e2:(a*64+64≤64*m)=True:=eq_true (by omega)
 simp only[Tryz.results52,kU,aF,aP ha,e1,e2,vR,seval, -List.reduceReplicate]
 refine ⟨by kernel_rfl,(Sp (a:=a) (d:=fun i=>f (a*64+i))).eV (fun n=>n) fQ az (by simp only[List.map_cons,List.map_nil,M3,jM,nu]) (fun M h m hm=>absurd hm (by omega)) ?_⟩
 simp only[vR,seval, -List.reduceReplicate]
 exact aJ az ⟨rfl,rfl⟩
def AW (L:List Pd) (ws:SV) (wB:Bool) (wc:List SV):Prop:=
 (L=[]∧ws= .inl (.slice none 0 0)∧wB=false∧ ∀ x ∈ wc,SV.ok (fun n=>n=5) x)∨(L≠[]∧wB=true∧ ∃ c,ws= .inr (.inr (6,0,L.length,c))∧gj wc L c)
theorem AW.ok {L:List Pd} {ws:SV} {wB:Bool} {wc:List SV} (h:AW L ws wB wc) {M:Nat→Prop} (hM:M 6):SV.ok M ws:=by
 rcases h with ⟨_,rfl,_,_⟩ | ⟨_,_,c,rfl,_⟩
 ·exact ⟨trivial,rfl⟩
 ·exact ⟨hM,rfl⟩
theorem AW.okc {L:List Pd} {ws:SV} {wB:Bool} {wc:List SV} (h:AW L ws wB wc) {M:Nat→Prop} (hM:M 5): ∀ x ∈ wc,SV.ok M x:=by
 rcases h with ⟨_,_,_,h⟩ | ⟨_,_,c,_,h⟩
 ·exact fun x hx=>SV.aL (fun n hn=>by subst hn;exact hM) (h x hx)
 ·exact ao h.shows.plain
def Fj (m:Nat) (f:Nat→Int) (pc kc:List SV) (cnt:Int) (ws:SV) (wB:Bool) (wc:List SV):List (Nat×aI):=
 [(0,⟨false,[Sum.inr (.inr (4,0,m,m))]⟩),(1,⟨false,pc⟩),(2,⟨true,[ws]⟩),(3,⟨true,[Sum.inl (.int .i64 cnt)]⟩),(4,⟨true,ai .u8 (64*m) f⟩),(5,⟨false,kc⟩),(6,⟨wB,wc⟩)]
structure Lj (pc kc:List SV) (L:List Pd) (ws:SV) (wB:Bool) (wc:List SV):Prop where
 p: ∀ x ∈ pc,SV.ok (fun n=>n=5) x
 k:kc.all SV.plain=true
 w:AW L ws wB wc
theorem Fk {m:Nat} {f:Nat→Int} {pc kc:List SV} {cnt:Int} {ws:SV} {wB:Bool} {wc:List SV}: ∀ n,n < 7→ ∃ c,lk (Fj m f pc kc cnt ws wB wc) n=some c:=fun n hn=>by
 rcases (show n=0∨n=1∨n=2∨n=3∨n=4∨n=5∨n=6 by omega) with rfl | rfl | rfl | rfl | rfl | rfl | rfl<;>exact ⟨_,rfl⟩
theorem Zz {m:Nat} {f:Nat→Int} {pc kc:List SV} {cnt:Int} {L:List Pd} {ws:SV} {wB:Bool} {wc:List SV} (h:Lj pc kc L ws wB wc) {k:Nat} (hk:7≤k): ∀ x ∈ Fj m f pc kc cnt ws wB wc,x.1 < 7∧ ∀ y ∈ x.2.cells,SV.ok (fun n=>n < k) y:=fun x hx=>by
 simp only[Fj,bQ]at hx
 rcases hx with rfl | rfl | rfl | rfl | rfl | rfl | rfl
 ·exact ⟨(by decide:0 < 7),fun x hx=>by rw[List.mem_singleton]at hx;subst hx;exact ⟨(by omega:4 < k),rfl⟩⟩
 ·exact ⟨(by decide:1 < 7),fun x hx=>SV.aL (fun n hn=>by subst hn;omega) (h.p x hx)⟩
 ·exact ⟨(by decide:2 < 7),fun x hx=>by rw[List.mem_singleton]at hx;subst hx;exact h.w.ok (by omega:6 < k)⟩
 ·exact ⟨(by decide:3 < 7),ao rfl⟩
 ·exact ⟨(by decide:4 < 7),ao az⟩
 ·exact ⟨(by decide:5 < 7),ao h.k⟩
 ·exact ⟨(by decide:6 < 7),h.w.okc (by omega:5 < k)⟩
theorem Fl {m:Nat} {f:Nat→Int} {pc kc:List SV} {cnt:Int} {L:List Pd} {ws:SV} {wB:Bool} {wc:List SV} (h:Lj pc kc L ws wB wc): ∀ n c,lk (Fj m f pc kc cnt ws wB wc) n=some c→n < 7∧ ∀ x ∈ c.cells,SV.ok (fun n=>n < 7) x:=fun n c hn=>Zz h (Nat.le_refl 7) _ (bt _ _ _ hn)
theorem dV {s:AS} {k q:Nat} {v0 v:AV} {l:List (Nat×aI)} {Post:AV→(Nat→Option aI)→Prop} (hq:k≤q) (hv:v=AV.ren (jY k q) v0) (hok:AV.ok (fun n=>n < k+1) v0)
  (hl: ∀ x ∈ l,x.1 < k+1∧(x.1=k→x.2.rw=true)∧(∀ y ∈ x.2.cells,SV.ok (fun n=>n < k+1) y)∧s.box (jY k q x.1)=some ⟨x.2.rw,x.2.cells.map (SV.ren (jY k q))⟩) (h:Post v0 (lk l)):m8 k Post v s:=
 ⟨q,v0,lk l,hq,hv,hok,fun n b hb=>by
  obtain ⟨h1,h2,h3,h4⟩:=hl _ (bt _ _ _ hb)
  exact ⟨h1,h2,h3,_,h4,fun h=>h,rfl⟩,h⟩
theorem IP {s:AS} {nm t u m c c':Nat} {rw':Bool} {f:Nat→Int} {L:List Pd} {cs:List SV} (hb:s.box t=some ⟨true,ai .u8 (64*m) f⟩) (hb':s.box u=some ⟨rw',cs⟩) (hne:t≠u) (hs:kI cs L) (hL:Fit m L) (hm:m≤1048576) (hl:L.length < 1048576) {dst:Option Nat} {K:AS→Prop}
  (hk:K (({ s with box:=upd s.box t (some ⟨true,ai .u8 (64*m) (dT f L)⟩) }:AS).put dst (some (Sum.inr [])))):av Tryz.prog nm 48 (some [Sl t 0 m c,Sl u 0 L.length c']) dst K s:=by
 refine (II (c:=c) (c':=c') hs hL hm hl).av (two t u) (some 0) (Lg hb az hb' hs.plain hne) rfl ?_
 rintro v out ⟨rfl,rfl⟩ _
 rw[IG az]
 exact hk
theorem Fm {s:AS} {nm t m c:Nat} {rw':Bool} {f:Nat→Int} (hb:s.box t=some ⟨rw',ai .u8 (64*m) f⟩) {dst:Option Nat} {K:AS→Prop}
  (hk:K (s.put dst (some (Sum.inr [])))):av Tryz.prog nm 48 (some [Sl t 0 m c,V (.slice none 0 0)]) dst K s:=
 (IJ (m:=m) (c:=c) (f:=f)).cG (fun _=>t) (bZ hb az) rfl rfl hk
theorem NU {m:Nat} {f:Nat→Int} {pc kc:List SV} {cnt:Int} {L:List Pd} {ws:SV} {wB:Bool} {wc:List SV} (h:Lj pc kc L ws wB wc) (hL:Fit m L) (hm:m≤1048576) (hl:L.length < 1048576):
  bd Tryz.prog 51 [Ptr 0 0,Ptr 2 0] 7 (lk (Fj m f pc kc cnt ws wB wc)) (fun v out=>v=Sum.inr []∧out=lk [(2,⟨true,[Sum.inl (.slice none 0 0)]⟩),(3,⟨true,[Sum.inl (.int .i64 cnt)]⟩),(4,⟨true,ai .u8 (64*m) (dT f L)⟩)]):=by
 refine aG Tryz.func51 rfl (by kernel_rfl) (by simp[Tryz.ntmps51]) Tryz.tw (by simp[AV.ok,CV.ok,SV.names]) Fk (Fl h) ?_
 have hone:=(h.w.ok (M:=fun n=>n < 7) (by decide)).2
 have fin: ∀ {s:AS},s.box 2=some ⟨true,[Sum.inl (.slice none 0 0)]⟩→s.box 3=some ⟨true,[Sum.inl (.int .i64 cnt)]⟩→s.box 4=some ⟨true,ai .u8 (64*m) (dT f L)⟩→
   m8 7 (fun v out=>v=Sum.inr []∧out=lk [(2,⟨true,[Sum.inl (.slice none 0 0)]⟩),(3,⟨true,[Sum.inl (.int .i64 cnt)]⟩),(4,⟨true,ai .u8 (64*m) (dT f L)⟩)]) (Sum.inr []) s:=fun h2 h3 h4=>by
  refine dV (q:=7) (v0:=Sum.inr []) (Nat.le_refl _) rfl (fun x hx=>(by cases hx)) (fun x hx=> ?_) ⟨rfl,rfl⟩
  simp only[bQ]at hx
  rcases hx with rfl | rfl | rfl
  ·exact ⟨(by decide:2 < 8),fun _=>rfl,ao rfl,h2⟩
  ·exact ⟨(by decide:3 < 8),fun _=>rfl,ao rfl,h3⟩
  ·exact ⟨(by decide:4 < 8),fun _=>rfl,ao az,by rw[au az];exact h4⟩
 simp only[Tryz.results51,Fj,vR,seval]
 rcases h.w with ⟨rfl,rfl,rfl,hw⟩ | ⟨hne,rfl,c,rfl,hg⟩
 ·refine Fm (f:=f) (rw':=true) (by simp only[vR,seval]) ?_
  simp only[vR,seval]
  exact fin (by simp only[ae,mT,vR,seval]) (by simp only[ae,vR,seval]) (by simp only[ae,mS,vR,seval])
 ·refine IP (f:=f) (rw':=true) (by simp only[vR,seval]) (by simp only[vR,seval]) (by decide) hg.shows hL hm hl ?_
  simp only[vR,seval]
  exact fin (by simp only[ae,mT,vR,seval]) (by simp only[ae,vR,seval]) (by simp only[ae,vR,seval])
theorem Fo {s:AS} {nm t u m c c':Nat} {rw':Bool} {f:Nat→Int} {L:List Pd} {cs:List SV} (hb:s.box t=some ⟨true,ai .u8 (64*m) f⟩) (hb':s.box u=some ⟨rw',cs⟩) (hne:t≠u) (ht:t < nm) (hs:kI cs L) (hL:Fit m L) (hm:m≤1048576) (hl:L.length < 1048576) {dst:Option Nat} {K:AS→Prop}
  (hk:K (({ s with box:=upd (upd s.box t (some ⟨true,ai .u8 (64*m) (dT f L)⟩)) nm none }:AS).put dst (some (Sum.inr [])))):cq Tryz.prog nm 48 (some [Sl t 0 m c,Sl u 0 L.length c']) dst K s:=by
 refine (II (c:=c) (c':=c') hs hL hm hl).wide.av (two t u) (some 0) (Lg hb az hb' hs.plain hne) rfl ?_
 rintro v out ⟨rfl,rfl⟩
 rw[PL (show two t u 0 < nm from ht)]
 have e1:(lk [(0,(⟨true,ai .u8 (64*m) (dT f L)⟩:aI))] 0).map (aI.ren (aV (two t u) 2 nm))=some ⟨true,ai .u8 (64*m) (dT f L)⟩:=by
  simp[lk,aI.ren,au az]
 have e2:(lk [(0,(⟨true,ai .u8 (64*m) (dT f L)⟩:aI))] 2).map (aI.ren (aV (two t u) 2 nm))=none:=rfl
 rw[e1,e2]
 exact hk
theorem sq {s:AS} {nm t m c:Nat} {rw':Bool} {f:Nat→Int} (hb:s.box t=some ⟨rw',ai .u8 (64*m) f⟩) {dst:Option Nat} {K:AS→Prop}
  (hk:K (({ s with box:=upd s.box nm none }:AS).put dst (some (Sum.inr [])))):cq Tryz.prog nm 48 (some [Sl t 0 m c,V (.slice none 0 0)]) dst K s:=by
 refine (IJ (m:=m) (c:=c) (f:=f)).wide.av (fun _=>t) none (bZ hb az) rfl ?_
 rintro v out ⟨rfl,rfl⟩
 rw[fq]
 exact hk
theorem Lk {s:AS} {nm t u kn c':Nat} {kb:Nat→Bool} {ks:SV} {rw' eD:Bool} {L:List Pd} {cs ds:List SV} (hb:s.box t=some ⟨eD,cs⟩) (hb':s.box u=some ⟨rw',ds⟩) (hs:kI cs L) (hl:L.length < 1048576) (hk:dE u ks kn kb ds) (hq:ds.all SV.plain=true) {dst:Option Nat} {K:AS→Prop}
  (h0:dO kn kb 0 L=[]→K (({ s with box:=upd s.box nm none }:AS).put dst (some (V (.slice none 0 0)))))
  (h1: ∀ c es,gj es (dO kn kb 0 L) c→K (({ s with box:=upd s.box nm (some ⟨true,es⟩) }:AS).put dst (some (Sl nm 0 (dO kn kb 0 L).length c)))):cq Tryz.prog nm 49 (some [Sl t 0 L.length c',Sum.inl (Sum.inl ks)]) dst K s:=by
 obtain ⟨k0,ui,hr⟩: ∃ k0,dE 1 k0 kn kb ds∧SV.ren (two t u) k0=ks:=by
  rcases hk with ⟨⟨a,rfl⟩,h0⟩ | ⟨o,c,rfl,hs⟩
  ·exact ⟨_, .inl ⟨⟨a,rfl⟩,h0⟩,rfl⟩
  ·exact ⟨.inr (.inr (1,o,kn,c)), .inr ⟨o,c,rfl,hs⟩,rfl⟩
 refine (Zw (c':=c') (ko:=0) (kc:=0) hs hl ui hq).wide.av (two t u) none (jq hb hs.plain hb' hq) ?_ ?_
 ·show [Sl t 0 L.length c',Sum.inl (Sum.inl ks)]=[Sl t 0 L.length c',Sum.inl (Sum.inl (SV.ren (two t u) k0))]
  rw[hr]
 ·rintro v out (⟨he,rfl,rfl⟩ | ⟨he,c,tail,rfl,g1,g2,g3,rfl⟩)
  ·rw[fq]
   exact h0 he
  ·rw[fq]
   have e1:(lk [(2,(⟨true,xM (dO kn kb 0 L)++tail⟩:aI))] 2).map (aI.ren (aV (two t u) 2 nm))=some ⟨true,xM (dO kn kb 0 L)++tail⟩:=by
    simp[lk,aI.ren,au (show (xM (dO kn kb 0 L)++tail).all SV.plain=true by rw[List.all_append,wy,g3];rfl)]
   rw[e1]
   exact h1 c _ ⟨⟨tail,rfl,g2,g3⟩,g1⟩
theorem IQ {s:AS} {nm u kn:Nat} {kb:Nat→Bool} {ks:SV} {rw':Bool} {ds:List SV} (hb':s.box u=some ⟨rw',ds⟩) (hk:dE u ks kn kb ds) (hq:ds.all SV.plain=true) {dst:Option Nat} {K:AS→Prop}
  (h0:K (({ s with box:=upd s.box nm none }:AS).put dst (some (V (.slice none 0 0))))):cq Tryz.prog nm 49 (some [V (.slice none 0 0),Sum.inl (Sum.inl ks)]) dst K s:=by
 obtain ⟨k0,ui,hr⟩: ∃ k0,dE 0 k0 kn kb ds∧SV.ren (fun _=>u) k0=ks:=by
  rcases hk with ⟨⟨a,rfl⟩,h0⟩ | ⟨o,c,rfl,hs⟩
  ·exact ⟨_, .inl ⟨⟨a,rfl⟩,h0⟩,rfl⟩
  ·exact ⟨.inr (.inr (0,o,kn,c)), .inr ⟨o,c,rfl,hs⟩,rfl⟩
 refine (Zx ui hq).wide.av (fun _=>u) none (bZ hb' hq) ?_ ?_
 ·show [V (.slice none 0 0),Sum.inl (Sum.inl ks)]=[V (.slice none 0 0),Sum.inl (Sum.inl (SV.ren (fun _=>u) k0))]
  rw[hr]
 ·rintro v out ⟨rfl,rfl⟩
  rw[fq]
  exact h0
def cI (at_ cut:Int) (ks:SV):List SV:=[Sum.inl (.int .i64 at_),ks,Sum.inl (.int .i64 cut)]
structure gU (ks:SV) (kn:Nat) (kb:Nat→Bool) (kc:List SV):Prop where
 k:dE 5 ks kn kb kc
 c:kc.all SV.plain=true
theorem Fp {m a kn:Nat} {kb:Nat→Bool} {f d:Nat→Int} {ks:SV} {kc:List SV} {at_ cut cnt:Int} {L:List Pd} {ws:SV} {wB:Bool} {wc:List SV} (h:Lj (cI at_ cut ks) kc L ws wB wc) (hl:L.length < 1000000) (h0:0≤cnt) (h1:cnt < 1000000) (hne:cnt+1≠at_):
  bd Tryz.prog 47 [I .i64 a,Ag (ai .u8 64 d),Ptr 3 0,Ptr 1 0,Ptr 0 0,Ptr 2 0] 7 (lk (Fj m f (cI at_ cut ks) kc cnt ws wB wc))
   (fun v out=>v=Sum.inr []∧ ∃ c cs,gj cs (L++[(a,d)]) c∧out=lk [(2,⟨true,[Sum.inr (.inr (7,0,L.length+1,c))]⟩),(3,⟨true,[Sum.inl (.int .i64 (cnt+1))]⟩),(4,⟨true,ai .u8 (64*m) f⟩),(7,⟨true,cs⟩)]):=by
 refine aG Tryz.func47 rfl (by kernel_rfl) (by simp[Tryz.ntmps47]) Tryz.oW (by simp[AV.ok,CV.ok,SV.names];exact ao az) Fk (Fl h) ?_
 have hone:=(h.w.ok (M:=fun n=>n < 7) (by decide)).2
 have e1:IntKind.i64.wrap (cnt+1)=cnt+1:=by rw[wrap_i64 _ (by omega) (by omega)]
 have e2:(cnt+1==at_)=false:=by simpa using hne
 simp only[Tryz.results47,Fj,cI,e1,e2,mT,dz,vR,seval, -List.reduceReplicate]
 have fin: ∀ {s:AS} {c q:Nat} {cs:List SV},7≤q→gj cs (L++[(a,d)]) c→s.box 2=some ⟨true,[Sum.inr (.inr (q,0,L.length+1,c))]⟩→s.box 3=some ⟨true,[Sum.inl (.int .i64 (cnt+1))]⟩→s.box 4=some ⟨true,ai .u8 (64*m) f⟩→s.box q=some ⟨true,cs⟩→
   m8 7 (fun v out=>v=Sum.inr []∧ ∃ c cs,gj cs (L++[(a,d)]) c∧out=lk [(2,⟨true,[Sum.inr (.inr (7,0,L.length+1,c))]⟩),(3,⟨true,[Sum.inl (.int .i64 (cnt+1))]⟩),(4,⟨true,ai .u8 (64*m) f⟩),(7,⟨true,cs⟩)]) (Sum.inr []) s:=fun {s c q cs} hq hg h2 h3 h4 h7=>by
  refine dV (q:=q) (v0:=Sum.inr []) hq rfl (fun x hx=>(by cases hx)) (fun x hx=> ?_) ⟨rfl,c,cs,hg,rfl⟩
  simp only[bQ]at hx
  rcases hx with rfl | rfl | rfl | rfl
  ·exact ⟨(by decide:2 < 8),fun _=>rfl,fun y hy=>by rw[List.mem_singleton]at hy;subst hy;exact ⟨(by decide:7 < 8),rfl⟩,h2⟩
  ·exact ⟨(by decide:3 < 8),fun _=>rfl,ao rfl,h3⟩
  ·exact ⟨(by decide:4 < 8),fun _=>rfl,ao az,by rw[au az];exact h4⟩
  ·exact ⟨(by decide:7 < 8),fun _=>rfl,ao hg.shows.plain,by rw[au hg.shows.plain];exact h7⟩
 rcases h.w with ⟨rfl,rfl,rfl,hw⟩ | ⟨hn,rfl,c,rfl,hg⟩
 ·refine D8 (eD:=true) (p:=(a,d)) Tryz.D2 Tryz.Nw (by simp only[ae,dz,vR,seval, -List.reduceReplicate]) (by decide) fun c3 IL fS=> ?_
  simp only[mT,vR,seval, -List.reduceReplicate]
  exact fin (q:=20) (by decide) fS (by simp only[ae,vR,seval, -List.reduceReplicate]) (by simp only[ae,vR,seval, -List.reduceReplicate]) (by simp only[ae,vR,seval, -List.reduceReplicate]) (by simp only[ae,vR,seval, -List.reduceReplicate])
 ·refine IE (eD:=true) (p:=(a,d)) Tryz.D2 Tryz.Nw hg (by simp only[ae,vR,seval, -List.reduceReplicate]) (by simp only[ae,dz,vR,seval, -List.reduceReplicate]) (by decide) (by omega) (by decide) fun c3 IL fS=> ?_
  simp only[mT,vR,seval, -List.reduceReplicate]
  exact fin (q:=20) (by decide) fS (by simp only[ae,vR,seval, -List.reduceReplicate]) (by simp only[ae,vR,seval, -List.reduceReplicate]) (by simp only[ae,vR,seval, -List.reduceReplicate]) (by simp only[ae,vR,seval, -List.reduceReplicate])
theorem Cr {r:Int}:pU Tryz.prog 50 [I .i64 r] (I .i64 (eE r)):=by
 refine fV Tryz.func50 rfl (by kernel_rfl) (by simp[Tryz.ntmps50]) rfl rfl ?_
 simp only[Tryz.results50,AQ,Aq,vS,seval, -List.reduceReplicate]
 refine Zv ?_
 simp only[AQ,Aq,vS,seval, -List.reduceReplicate]
 refine Zk ?_
 simp only[AQ,Aq,vS,seval, -List.reduceReplicate]
 refine congrArg (fun z=>(Sum.inl (Sum.inl (Sum.inl (Value.int .i64 z))):AV)) ?_
 unfold eE
 (repeat' split)<;>omega
def ga:List PanicEntry:=[{ v:=cH 0,recovered:=false }]
theorem Tryz.bO:eY Tryz.prog 62=some (false,1):=by kernel_rfl
theorem NV {m a kn:Nat} {kb:Nat→Bool} {f d:Nat→Int} {ks:SV} {kc:List SV} {at_ cut cnt:Int} {L:List Pd} {ws:SV} {wB:Bool} {wc:List SV} (h:Lj (cI at_ cut ks) kc L ws wB wc) (hk:gU ks kn kb kc) (hl:L.length < 1000000) (hL:Fit m L) (hm:m≤1048576) (ha:a < m) (h0:0≤cnt) (h1:cnt < 1000000) (hne:cnt+1=at_):
  yi Tryz.prog 47 [I .i64 a,Ag (ai .u8 64 d),Ptr 3 0,Ptr 1 0,Ptr 0 0,Ptr 2 0] 7 (lk (Fj m f (cI at_ cut ks) kc cnt ws wB wc)) ga
   (fun out=>out=lk [(2,⟨true,[Sum.inl (.slice none 0 0)]⟩),(3,⟨true,[Sum.inl (.int .i64 (cnt+1))]⟩),(4,⟨true,ai .u8 (64*m) (fT (dT f (dO kn kb 0 L)) a (eE cut) d)⟩)]):=by
 refine xL Tryz.func47 rfl (by kernel_rfl) [3] [6] (by simp[Tryz.ntmps47]) Tryz.oW (by simp[AV.ok,CV.ok,SV.names];exact ao az) Fk (Fl h) ?_
 have hone:=(h.w.ok (M:=fun n=>n < 7) (by decide)).2
 have hko:=(hk.k.ok (M:=fun n=>n < 7) (by decide)).2
 have e1:IntKind.i64.wrap (cnt+1)=cnt+1:=by rw[wrap_i64 _ (by omega) (by omega)]
 have e2:(cnt+1==at_)=true:=by simpa using hne
 have hc:eE cut≤64:=by unfold eE;omega
 have abN:Nat.min 64 (eE cut)=eE cut:=Nat.min_eq_right hc
 have c1:(((eE cut:Nat):Int)≤64)=True:=eq_true (by omega)
 have c2:(a*64+64≤64*m)=True:=eq_true (by omega)
 have fin: ∀ {s:AS},s.box 2=some ⟨true,[Sum.inl (.slice none 0 0)]⟩→s.box 3=some ⟨true,[Sum.inl (.int .i64 (cnt+1))]⟩→s.box 4=some ⟨true,ai .u8 (64*m) (fT (dT f (dO kn kb 0 L)) a (eE cut) d)⟩→
   Fh 7 ga (fun out=>out=lk [(2,⟨true,[Sum.inl (.slice none 0 0)]⟩),(3,⟨true,[Sum.inl (.int .i64 (cnt+1))]⟩),(4,⟨true,ai .u8 (64*m) (fT (dT f (dO kn kb 0 L)) a (eE cut) d)⟩)]) (.panic ga) s:=fun h2 h3 h4=>by
  refine Lh fun x hx=> ?_
  simp only[bQ]at hx
  rcases hx with rfl | rfl | rfl
  ·exact ⟨(by decide:2 < 7),ao rfl,h2⟩
  ·exact ⟨(by decide:3 < 7),ao rfl,h3⟩
  ·exact ⟨(by decide:4 < 7),ao az,h4⟩
 simp only[Fj,cI,e1,e2,mT,dz,bI,bK,bm,vR,seval, -List.reduceReplicate]
 refine H' (by kernel_rfl) [0,1,2,3] [4,5] [] [] [2] [2] [14,15,16,17,18,19] (by kernel_rfl) (by kernel_rfl) (by kernel_rfl) (fun t ht=>by
  rw[List.mem_singleton]at ht
  subst ht
  exact ⟨rfl,_,by simp only[ae,vR,seval, -List.reduceReplicate];rfl⟩) ?_
 simp only[ib,seval, -List.reduceReplicate]
 rcases h.w with ⟨rfl,rfl,rfl,hw⟩ | ⟨hn,rfl,c,rfl,hg⟩
 case' inl=>
  refine IQ (rw':=false) (by simp only[bV,seval, -List.reduceReplicate]) hk.k hk.c ?_
  simp only[ib,seval, -List.reduceReplicate]
  refine sq (f:=f) (rw':=true) (by simp only[bV,seval, -List.reduceReplicate]) ?_
 case' inr=>
  refine Lk (rw':=false) (eD:=true) (by simp only[bV,seval, -List.reduceReplicate]) (by simp only[bV,seval, -List.reduceReplicate]) hg.shows (by omega) hk.k hk.c (fun hz=> ?a) fun c3 es Cn=> ?b
  case' a=>
   simp only[ib,seval, -List.reduceReplicate]
   refine sq (f:=f) (rw':=true) (by simp only[bV,seval, -List.reduceReplicate]) ?_
  case' b=>
   simp only[ib,seval, -List.reduceReplicate]
   refine Fo (f:=f) (rw':=true) (by simp only[bV,seval, -List.reduceReplicate]) (by simp only[bV,seval, -List.reduceReplicate]) (by decide) (by decide) Cn.shows hL.keep hm (by have:=wz (kn:=kn) (kb:=kb) 0 L;omega) ?_
 all_goals
  simp only[ib,seval, -List.reduceReplicate]
  refine .inl ?_
  simp only[aF,aP ha,c1,c2,dz,bI,aq,ay,bK,vR,seval, -List.reduceReplicate]
  refine ⟨by kernel_rfl, ?_⟩
  refine Cr.draw Tryz.KX ?_
  simp only[aF,c1,c2,dz,bI,aq,ay,bK,vR,seval, -List.reduceReplicate]
  refine ⟨by kernel_rfl,EP Tryz.eK Tryz.fc (bx:=⟨true,ai .u8 64 d⟩) (news:=ai .u8 (Nat.min 64 (eE cut)) d) (by simp only[aq,ay,ae,vR,seval, -List.reduceReplicate];rfl) (by simp only[aq,ay,ae,vR,seval, -List.reduceReplicate]) (by rw[aD]) (iU (oM dL (Nat.min_le_left _ _))) (by rw[aD,abN];omega) ?_⟩
  rw[abN,Sj (by omega)]
  simp only[dz,bI,aq,ay,bK,vR,seval, -List.reduceReplicate]
  refine .inr ⟨by kernel_rfl, ?_⟩
  simp only[Tryz.bO,dz,bI,aq,ay,bK,vR,seval, -List.reduceReplicate]
  refine fin ?_ ?_ ?_
  ·simp only[aq,ay,ae,mT,vR,seval, -List.reduceReplicate]
  ·simp only[aq,ay,ae,mT,vR,seval, -List.reduceReplicate]
  ·simp only[aq,ay,ae,mT,vR,seval, -List.reduceReplicate]<;>first | rfl | (rw[hz];rfl)
def pb (s:AS) (l:List (Nat×aI)):Prop:= ∀ x ∈ l, ∃ rw',s.box x.1=some ⟨rw',x.2.cells⟩
theorem l6 (l:List SV):l.map (SV.ren fun n=>n)=l:=by
 conv=>rhs;rw[← List.map_id l]
 exact List.map_congr_left fun x _=>SV.nL x
theorem fC (l:List AV):l=l.map (AV.ren fun n=>n):=by
 conv=>lhs;rw[← List.map_id l]
 exact List.map_congr_left fun x _=>(AV.nL x).symm
theorem pb.fits {s:AS} {l:List (Nat×aI)} (h:pb s l) (hl: ∀ x ∈ l,x.2.rw=false):Fits s (fun n=>n) (lk l) none:=
 qE fun x hx=>⟨hl x hx,by
  obtain ⟨rw',e⟩:=h x hx
  exact ⟨rw',by rw[l6];exact e⟩⟩
theorem kJ {m:Nat} {f:Nat→Int} {pc nc kc:List SV}: ∀ x ∈ kU m f pc nc kc,x.2.rw=false:=fun x hx=>by
 simp only[kU,bQ]at hx
 rcases hx with rfl | rfl | rfl | rfl | rfl | rfl<;>rfl
theorem j9 {s:AS} {m:Nat} {f:Nat→Int} {pc nc kc:List SV} {r0 r1 r2 r3 r4 r5:Bool} (h0:s.box 0=some ⟨r0,[Sum.inr (.inr (4,0,m,m))]⟩) (h1:s.box 1=some ⟨r1,pc⟩) (h2:s.box 2=some ⟨r2,[Sum.inl (.slice none 0 0)]⟩) (h3:s.box 3=some ⟨r3,nc⟩) (h4:s.box 4=some ⟨r4,ai .u8 (64*m) f⟩) (h5:s.box 5=some ⟨r5,kc⟩):pb s (kU m f pc nc kc):=fun x hx=>by
 simp only[kU,bQ]at hx
 rcases hx with rfl | rfl | rfl | rfl | rfl | rfl
 ·exact ⟨_,h0⟩
 ·exact ⟨_,h1⟩
 ·exact ⟨_,h2⟩
 ·exact ⟨_,h3⟩
 ·exact ⟨_,h4⟩
 ·exact ⟨_,h5⟩
theorem fb {s:AS} (m:Nat) (f:Nat→Int) {pc nc kc:List SV} (h0:s.box 0=some ⟨false,[Sum.inr (.inr (4,0,m,m))]⟩) (h1:s.box 1=some ⟨false,pc⟩) (h2:s.box 2=some ⟨false,[Sum.inl (.slice none 0 0)]⟩) (h3:s.box 3=some ⟨false,nc⟩) (h4:s.box 4=some ⟨false,ai .u8 (64*m) f⟩) (h5:s.box 5=some ⟨false,kc⟩):pb s (kU m f pc nc kc):=j9 h0 h1 h2 h3 h4 h5
theorem D9 {s:AS} {nm m:Nat} {f:Nat→Int} {pc nc kc:List SV} (hd:pb s (kU m f pc nc kc)) (h:iy pc nc kc) {dst:Option Nat} {K:AS→Prop} (hk:K (s.put dst (some (I .i64 m)))):av Tryz.prog nm 54 (some [Ptr 0 0]) dst K s:=
 (Sm (f:=f) h).cG (fun n=>n) (hd.fits kJ) rfl (fC _) hk
theorem mg {s:AS} {nm m a:Nat} {f:Nat→Int} {pc nc kc:List SV} (hd:pb s (kU m f pc nc kc)) (h:iy pc nc kc) (ha:a < m) (hm:m≤1048576) {dst:Option Nat} {K:AS→Prop} (hk:K (s.put dst (some (Ag (ai .u8 64 (fun i=>f (a*64+i))))))):av Tryz.prog nm 52 (some [I .i64 a,Ptr 2 0,Ptr 0 0]) dst K s:=
 (Zy h ha hm).cG (fun n=>n) (hd.fits kJ) az (fC _) hk
theorem dY {M:Nat→Prop} (h: ∀ n,n < 4→M n): ∀ x ∈ fP 0 1 2 3,SV.ok M x:=fun x hx=>by
 simp only[fP,bQ]at hx
 rcases hx with rfl | rfl | rfl | rfl
 ·refine ⟨fun c hc=> ?_,rfl⟩
  simp only[bQ]at hc
  rcases hc with rfl | rfl | rfl | rfl
  ·exact h 3 (by decide)
  ·exact h 1 (by decide)
  ·exact h 0 (by decide)
  ·exact h 2 (by decide)
 ·refine ⟨fun c hc=> ?_,rfl⟩
  simp only[bQ]at hc
  rcases hc with rfl | rfl
  ·exact h 0 (by decide)
  ·exact h 2 (by decide)
 ·refine ⟨fun c hc=> ?_,rfl⟩
  simp only[bQ]at hc
  rcases hc with rfl | rfl
  ·exact h 2 (by decide)
  ·exact h 0 (by decide)
 ·refine ⟨fun c hc=> ?_,rfl⟩
  simp only[bQ]at hc
  subst hc
  exact h 0 (by decide)
theorem Tryz.abO:eY Tryz.prog 53=some (false,1):=by kernel_rfl
theorem Tryz.abP:eY Tryz.prog 1=some (false,1):=by kernel_rfl
theorem Tryz.abQ:eY Tryz.prog 54=some (false,1):=by kernel_rfl
theorem Tryz.abR:eY Tryz.prog 52=some (false,1):=by kernel_rfl
section
variable {a b c d:Nat}
theorem yw:(fP a b c d).length=4:=rfl
theorem W5:List.take 4 (fP a b c d)=fP a b c d:=rfl
theorem W6:(fP a b c d)[0]? =some (Sum.inl (.func (.func 47) #[] ⟨[.pointer (some ⟨d,0,none⟩), .pointer (some ⟨b,0,none⟩), .pointer (some ⟨a,0,none⟩), .pointer (some ⟨c,0,none⟩)]⟩)):=rfl
theorem W7:(fP a b c d)[1]? =some (Sum.inl (.func (.func 51) #[] ⟨[.pointer (some ⟨a,0,none⟩), .pointer (some ⟨c,0,none⟩)]⟩)):=rfl
theorem W8:(fP a b c d)[2]? =some (Sum.inl (.func (.func 52) #[] ⟨[.pointer (some ⟨c,0,none⟩), .pointer (some ⟨a,0,none⟩)]⟩)):=rfl
theorem W9:(fP a b c d)[3]? =some (Sum.inl (.func (.func 54) #[] ⟨[.pointer (some ⟨a,0,none⟩)]⟩)):=rfl
end
theorem bj:type_of% @Tryz.abO∧type_of% @Tryz.abP∧type_of% @Tryz.abQ∧type_of% @Tryz.abR∧type_of% @yw∧type_of% @W5∧type_of% @W6∧type_of% @W7∧type_of% @W8∧type_of% @W9∧type_of% @Ar:=
 ⟨@Tryz.abO, @Tryz.abP, @Tryz.abQ, @Tryz.abR, @yw, @W5, @W6, @W7, @W8, @W9, @Ar⟩
theorem pd {m:Nat} {f:Nat→Int} {pc nc kc:List SV} (h:iy pc nc kc) (hm:m≤1048576):
  bd Tryz.prog 31 [Ag (fP 0 1 2 3)] 6 (lk (kU m f pc nc kc)) (fun v out=>v=I .i64 (m / 2:Nat)∧out=fun _=>none):=by
 refine aG Tryz.func31 rfl (by kernel_rfl) (by simp[Tryz.ntmps31]) Tryz.td (fun v hv=>by rw[List.mem_singleton]at hv;subst hv;exact dY fun n hn=>by omega) lZ (l5 h) ?_
 have q:IntKind.i64.wrap ((m:Int).tdiv 2)=((m / 2:Nat):Int):=KB m 2 (by omega)
 simp only[Tryz.results31,kU,bj,vR,seval, -List.reduceReplicate]
 refine D9 (fb m f (by simp only[ae,vR,seval, -List.reduceReplicate]) (by simp only[ae,vR,seval, -List.reduceReplicate]) (by simp only[ae,vR,seval, -List.reduceReplicate]) (by simp only[ae,vR,seval, -List.reduceReplicate]) (by simp only[ae,vR,seval, -List.reduceReplicate]) (by simp only[ae,vR,seval, -List.reduceReplicate])) h ?_
 simp only[bj,q,vR,seval, -List.reduceReplicate]
 exact aJ rfl ⟨rfl,rfl⟩
theorem su {m lo n:Nat} {f:Nat→Int} {pc nc kc:List SV} (h:iy pc nc kc) (hm:m≤1048576) (hn:lo+n≤m):
  bd Tryz.prog 58 [Ag (fP 0 1 2 3),I .i64 lo,I .i64 (lo+n:Nat)] 6 (lk (kU m f pc nc kc)) (fun v out=>v=Sl 6 0 n n∧out=lk [(6,⟨true,ai .u8 (64*n) (fun i=>f (lo*64+i))⟩)]):=by
 refine aG Tryz.func58 rfl (by kernel_rfl) (by simp[Tryz.ntmps58]) Tryz.oZ (fun v hv=>by
  simp only[bQ]at hv
  rcases hv with rfl | rfl | rfl
  ·exact dY fun n hn=>by omega
  ·trivial
  ·trivial) lZ (l5 h) ?_
 have w1:IntKind.i64.wrap (((lo+n:Nat):Int) - (lo:Int))=(n:Int):=by rw[wrap_i64 _ (by omega) (by omega)];omega
 have okp: ∀ {M:Nat→Prop},M 5→ ∀ x ∈ pc,SV.ok M x:=fun h5 x hx=>SV.aL (fun n hn=>by subst hn;exact h5) (h.p x hx)
 simp only[Tryz.results58,kU,bj,w1,AP (show n≤1048576 by omega),vR,seval, -List.reduceReplicate]
 refine bD n (fun k=>[(3,Ptr 6 0),(7,Sl 11 0 n n),(1,I .i64 lo),(14,I .i64 n),(15,I .i64 k)])
  (fun k=>(6,⟨true,fP 0 1 2 3⟩)::(11,⟨true,ai .u8 (64*n) (fun i=>if i < 64*k then f (lo*64+i) else 0)⟩)::kU m f pc nc kc) _ ?_ ?_ ?_
 ·simp only[Nat.mul_zero,Nat.not_lt_zero,if_false,kU,bj,vR,seval, -List.reduceReplicate]
  exact ⟨dY fun n hn=>by omega,⟨(by decide:4 < 16),rfl⟩,okp (by decide),⟨trivial,rfl⟩,ao h.n,ao h.k⟩
 ·intro j hj
  have a3:IntKind.i64.wrap ((lo:Int)+(j:Int))=((lo+j:Nat):Int):=by rw[wrap_i64 _ (by omega) (by omega)];omega
  have a4:(j*64+64≤64*n)=True:=eq_true (by omega)
  simp only[aF,aP hj,decide_true,a3,kU,bj,vR,seval, -List.reduceReplicate]
  refine mg (fb m f (by simp only[ae,vR,seval, -List.reduceReplicate]) (by simp only[ae,vR,seval, -List.reduceReplicate]) (by simp only[ae,vR,seval, -List.reduceReplicate]) (by simp only[ae,vR,seval, -List.reduceReplicate]) (by simp only[ae,vR,seval, -List.reduceReplicate]) (by simp only[ae,vR,seval, -List.reduceReplicate])) h (by omega) hm ?_
  simp only[aF,aP hj,a4,bU j (by omega),kU,bj,vR,seval, -List.reduceReplicate]
  refine ⟨dY fun n hn=>by omega, ?_,⟨(by decide:4 < 16),rfl⟩,okp (by decide),⟨trivial,rfl⟩,ao h.n,ao h.k⟩
  rw[qo _ _ _ _ _ _ (by omega)]
  refine congrArg (fun c=>some (aI.mk true c)) (dB fun i hi=> ?_)
  (repeat' split)<;>first | rfl | (exfalso;omega) | (congr 1;omega)
 ·simp only[kU,bj,vR,seval, -List.reduceReplicate]
  refine bR (by simp) ?_
  simp only[kU,bj,vR,seval, -List.reduceReplicate]
  refine gR (k:=6) (q:=11) (cs:=ai .u8 (64*n) (fun i=>if i < 64*n then f (lo*64+i) else 0)) (by decide) rfl az ⟨rfl, ?_⟩
  rw[dB fun i hi=>if_pos hi]
theorem Ll {s:AS} {nm m:Nat} {f:Nat→Int} {pc nc kc:List SV} (hd:pb s (kU m f pc nc kc)) (h:iy pc nc kc) {dst:Option Nat} {K:AS→Prop} (hk:K (({ s with box:=upd s.box nm none }:AS).put dst (some (I .i64 m)))):cq Tryz.prog nm 54 (some [Ptr 0 0]) dst K s:=by
 refine (Sm (f:=f) h).wide.av (fun n=>n) none (hd.fits kJ) (fC _) ?_
 rintro v out ⟨rfl,rfl⟩
 rw[fq]
 exact hk
theorem uW {s:AS} {nm m lo n:Nat} {f:Nat→Int} {pc nc kc:List SV} (hd:pb s (kU m f pc nc kc)) (h:iy pc nc kc) (hm:m≤1048576) (hn:lo+n≤m) {x:Int} (hx:x=((lo+n:Nat):Int)) {dst:Option Nat} {K:AS→Prop}
  (hk:K (({ s with box:=upd s.box nm (some ⟨true,ai .u8 (64*n) (fun i=>f (lo*64+i))⟩) }:AS).put dst (some (Sl nm 0 n n)))):cq Tryz.prog nm 58 (some [Ag (fP 0 1 2 3),I .i64 lo,I .i64 x]) dst K s:=by
 subst hx
 refine (su (n:=n) h hm hn).wide.av (fun n=>n) none (hd.fits kJ) (fC _) ?_
 rintro v out ⟨rfl,rfl⟩
 rw[fq]
 have e1:(lk [(6,(⟨true,ai .u8 (64*n) (fun i=>f (lo*64+i))⟩:aI))] 6).map (aI.ren (aV (fun n=>n) 6 nm))=some ⟨true,ai .u8 (64*n) (fun i=>f (lo*64+i))⟩:=by
  simp[lk,aI.ren,au az]
 rw[e1]
 have e2:AV.ren (aV (fun n=>n) 6 nm) (Sl 6 0 n n)=Sl nm 0 n n:=by
  show Sl (aV (fun n=>n) 6 nm 6) 0 n n=_
  rw[nz]
 rw[e2]
 exact hk
theorem Fq {s:AS} {nm t m c:Nat} {eD:Bool} {f:Nat→Int} (hb:s.box t=some ⟨eD,ai .u8 (64*m) f⟩) (hm:m≤1048576) {dst:Option Nat} {K:AS→Prop}
  (hk: ∀ c' cs',dQ cs' 0 (64*m) c' f→K (({ s with box:=upd s.box nm (some ⟨true,cs'⟩) }:AS).put dst (some (Sl nm 0 (64*m) c')))):cq Tryz.prog nm 57 (some [Sl t 0 m c]) dst K s:=by
 refine (IC (eD:=false) (c:=c) hm).wide.av (fun _=>t) none (bZ hb az) rfl ?_
 rintro v out ⟨c',tail,rfl,rfl,h1,h2,h3⟩
 rw[fq]
 have e1:(lk [(1,(⟨true,ai .u8 (64*m) f++tail⟩:aI))] 1).map (aI.ren (aV (fun _=>t) 1 nm))=some ⟨true,ai .u8 (64*m) f++tail⟩:=by
  simp[lk,aI.ren,au (bY h3)]
 have e2:AV.ren (aV (fun _=>t) 1 nm) (Sl 1 0 (64*m) c')=Sl nm 0 (64*m) c':=by
  show Sl (aV (fun _=>t) 1 nm 1) 0 _ _=_
  rw[nz]
 rw[e1,e2]
 refine hk c' _ ⟨by rw[List.length_append,aD,h2];omega,h1,bY h3,dy⟩
theorem uj {m:Nat} {f:Nat→Int} {pc nc kc:List SV} (h:iy pc nc kc) (hm:m≤1048576):
  bd Tryz.prog 27 [Ag (fP 0 1 2 3)] 6 (lk (kU m f pc nc kc)) (Made 6 (64*m) f):=by
 refine uO Tryz.func27 rfl (by kernel_rfl) [1] [] (by simp[Tryz.ntmps27]) Tryz.sY (fun v hv=>by rw[List.mem_singleton]at hv;subst hv;exact dY fun n hn=>by omega) lZ (l5 h) ?_
 simp only[Tryz.results27,kU,bj,NT,seval, -List.reduceReplicate]
 refine eW (by kernel_rfl) [0,1,2] [3,4,5] [] [6] [6] [3,4,5,6,7,8,2] (by kernel_rfl) (by kernel_rfl) (by kernel_rfl) ?_
 simp only[kU,bj,NT,seval, -List.reduceReplicate]
 refine Ll (fb m f (by simp only[bV,seval, -List.reduceReplicate]) (by simp only[bV,seval, -List.reduceReplicate]) (by simp only[bV,seval, -List.reduceReplicate]) (by simp only[bV,seval, -List.reduceReplicate]) (by simp only[bV,seval, -List.reduceReplicate]) (by simp only[bV,seval, -List.reduceReplicate])) h ?_
 simp only[kU,bj,NT,seval, -List.reduceReplicate]
 refine uW (n:=m) (lo:=0) (fb m f (by simp only[bV,seval, -List.reduceReplicate]) (by simp only[bV,seval, -List.reduceReplicate]) (by simp only[bV,seval, -List.reduceReplicate]) (by simp only[bV,seval, -List.reduceReplicate]) (by simp only[bV,seval, -List.reduceReplicate]) (by simp only[bV,seval, -List.reduceReplicate])) h hm (by omega) (by omega) ?_
 simp only[kU,bj,NT,seval, -List.reduceReplicate]
 refine Fq (eD:=true) (f:=f) (by simp only[aq,ae,Nat.zero_mul,vR,seval, -List.reduceReplicate]) hm fun c' cs' hg=> ?_
 simp only[kU,bj,NT,seval, -List.reduceReplicate]
 exact kF (by decide) hg (by simp only[bV,seval, -List.reduceReplicate]) rfl
theorem bH:type_of% @bj∧type_of% @dz∧type_of% @bI∧type_of% @aq∧type_of% @ay∧type_of% @bK∧type_of% @bm∧type_of% @vR:=⟨@bj, @dz, @bI, @aq, @ay, @bK, @bm, @vR⟩
theorem J5:type_of% @bj∧type_of% @bI∧type_of% @aq∧type_of% @ay∧type_of% @bK∧type_of% @bm∧type_of% @vR:=⟨@bj, @bI, @aq, @ay, @bK, @bm, @vR⟩
def Ct (n:Nat) (f:Nat→Int):Nat→Int:=if 1048576 < n then fun _=>0 else pZ kW pH f n
theorem abS {n o c:Nat} {f:Nat→Int} {cs:List SV} (hf:eJ f) (hc:aY cs o n f) (hp:cs.all SV.plain=true) (hcap:n≤c):
  bd Tryz.prog 75 [Sl 0 o n c] 1 (lk [(0,⟨false,cs⟩)]) (fun u out=>u=Ag (ai .u8 32 (Ct n f))∧out=fun _=>none):=by
 refine aG Tryz.func75 rfl (by kernel_rfl) (by simp[Tryz.ntmps75]) Tryz.tR (by simp[AV.ok,CV.ok,SV.names]) fF (fG hp) ?_
 simp only[Tryz.results75,vR,seval, -List.reduceReplicate]
 refine Ff (rw:=false) (by simp only[ae,vR,seval, -List.reduceReplicate]) hp ?_
 simp only[vR,seval, -List.reduceReplicate]
 by_cases h:1048576 < n
 ·have eA:Ct n f=fun _=>0:=if_pos h
  refine cz (by simp;omega) ?_
  simp only[eA,Pj,vR,seval, -List.reduceReplicate]
  exact aJ (v:=Ag (ai .u8 32 (fun _=>0))) az ⟨rfl,rfl⟩
 ·have eA:Ct n f=pZ kW pH f n:=if_neg h
  refine bR (by simp;omega) ?_
  simp only[vR,seval, -List.reduceReplicate]
  refine Im (rw:=false) hf (by simp only[ae,vR,seval, -List.reduceReplicate]) hc hp (by omega) hcap ?_
  simp only[vR,seval, -List.reduceReplicate]
  rw[eA]
  exact aJ az ⟨rfl,rfl⟩
theorem Sq {cs:List SV} {f:Nat→Int} {q:Int} {sv:SV} {n:Nat} (hl:cS 0 sv n f cs) (hp:cs.all SV.plain=true) (hn:n < 16777216):
  bd Tryz.prog 55 [Ag (bJ q sv)] 1 (lk [(0,⟨false,cs⟩)]) (fun u out=>u=Sl 1 0 (aT n) (aT n)∧out=lk [(1,⟨true,ai .u8 (64*aT n) (iL n f)⟩)]):=by
 have hok: ∀ {M:Nat→Prop},M 0→SV.ok M sv:=fun h=>hl.ok h
 have hone:=(hl.ok (M:=fun n=>n < 1) (by decide)).2
 refine aG Tryz.func55 rfl (by kernel_rfl) (by simp[Tryz.ntmps55]) Tryz.tC (Fi (hok (by decide))) fF (fG hp) ?_
 simp only[Tryz.results55,bJ,vR,seval, -List.reduceReplicate]
 refine (NQ hl hp hn).av (fun n=>n) none (qE fun x hx=> ?_) (fC _) ?_
 ·rw[List.mem_singleton]at hx
  subst hx
  exact ⟨rfl,false,by rw[l6];simp only[ae,vR,seval, -List.reduceReplicate]⟩
 ·rintro v out ⟨rfl,rfl⟩ _
  rw[bX az]
  simp only[iZ,gF,vR,seval, -List.reduceReplicate]
  exact gR (k:=1) (q:=5) (by decide) (by simp only[ae,vR,seval, -List.reduceReplicate]) az ⟨rfl,rfl⟩
def thr (t u w:Nat) (n:Nat):Nat:=if n=0 then t else if n=1 then u else w
theorem Cu {s:AS} {nm t u w n c0 c1:Nat} {r0 r1 r2:Bool} {g f:Nat→Int} {sv:SV} {cs ds:List SV} (h0:s.box t=some ⟨r0,[Sum.inr (.inr (u,0,13,c1)),sv]⟩) (h1:s.box u=some ⟨r1,ds⟩) (hd:ds.all SV.plain=true) (hs:aY ds 0 13 g) (h2:s.box w=some ⟨r2,cs⟩) (hp:cs.all SV.plain=true) (hl:cS w sv n f cs) (hn:n < 16777216) {dst:Option Nat} {K:AS→Prop}
  (hk: ∀ c cs',dQ cs' 0 (13+n) c (bC 13 g f)→K (({ s with box:=upd s.box nm (some ⟨true,cs'⟩) }:AS).put dst (some (Sl nm 0 (13+n) c)))):cq Tryz.prog nm 76 (some [Sl t 0 2 c0]) dst K s:=by
 obtain ⟨s0,rN,hr⟩:=hl.iW 2
 let nn:Nat→Nat:=fun j=>if j=0 then 13 else n
 let ff:Nat→Nat→Int:=fun j=>if j=0 then g else f
 let l:List (Nat×aI):=[(0,⟨false,[Sum.inr (.inr (1,0,13,c1)),s0]⟩),(1,⟨false,ds⟩),(2,⟨false,cs⟩)]
 have hP:WW l [Sum.inr (.inr (1,0,13,c1)),s0] 3 0 2 nn ff:=by
  refine ⟨fun x hx=> ?_,fun i hi=> ?_,fun x hx=> ?_,rfl,fun j hj=> ?_⟩
  ·simp only[l,bQ]at hx
   rcases hx with rfl | rfl | rfl<;>rfl
  ·rcases (show i=0∨i=1∨i=2 by omega) with rfl | rfl | rfl<;>exact ⟨_,rfl⟩
  ·simp only[l,bQ]at hx
   rcases hx with rfl | rfl | rfl
   ·refine ⟨show (0:Nat) < 3 by decide,rfl,fun y hy=> ?_⟩
    simp only[bQ]at hy
    rcases hy with rfl | rfl
    ·exact ⟨(by decide:1 < 3),rfl⟩
    ·exact rN.ok (by decide)
   ·exact ⟨show (1:Nat) < 3 by decide,rfl,ao hd⟩
   ·exact ⟨show (2:Nat) < 3 by decide,rfl,ao hp⟩
  ·rcases (show j=0∨j=1 by omega) with rfl | rfl
   ·exact ⟨_,rfl, .inr ⟨1,0,c1,false,ds,rfl,rfl,hd,hs⟩⟩
   ·exact ⟨_,rfl,rN.arg.at (rw:=false) rfl hp⟩
 have htot:kl nn 2=13+n:=by simp[kl,nn]
 have aeB: ∀ i,i < 13+n→Fe nn ff 2 i=bC 13 g f i:=fun i hi=>by
  simp only[Fe,kl,nn,ff,bC]
  (repeat' split)<;>first | rfl | (exfalso;omega) | (congr 1;omega) | simp_all
 have hc:=R7 (c:=c0) hP (by decide) (by decide) (by decide) (by rw[htot];omega)
 refine hc.wide.av (thr t u w) none (qE fun x hx=> ?_) rfl ?_
 ·simp only[l,bQ]at hx
  rcases hx with rfl | rfl | rfl
  ·refine ⟨rfl,r0, ?_⟩
   simp only[List.map_cons,List.map_nil,hr (thr t u w) rfl]
   exact h0
  ·exact ⟨rfl,r1,by rw[au hd];exact h1⟩
  ·exact ⟨rfl,r2,by rw[au hp];exact h2⟩
 ·rintro v out (⟨h,_,_⟩ | ⟨c',tail,rfl,rfl,e1,e2,e3⟩)
  ·rw[htot]at h;omega
  ·rw[fq]
   have k1:(lk [(3,(⟨true,ai .u8 (kl nn 2) (Fe nn ff 2)++tail⟩:aI))] 3).map (aI.ren (aV (thr t u w) 3 nm))=some ⟨true,ai .u8 (kl nn 2) (Fe nn ff 2)++tail⟩:=by
    simp[lk,aI.ren,au (bY e3)]
   have k2:AV.ren (aV (thr t u w) 3 nm) (Sl 3 0 (kl nn 2) c')=Sl nm 0 (kl nn 2) c':=by
    show Sl (aV (thr t u w) 3 nm 3) 0 _ _=_
    rw[nz]
   rw[k1,k2]
   have hg:dQ (ai .u8 (kl nn 2) (Fe nn ff 2)++tail) 0 (kl nn 2) c' (Fe nn ff 2):=⟨by rw[List.length_append,aD,e2];omega,e1,bY e3,dy⟩
   have:=hk c' _ (hg.congr htot (fun i hi=>aeB i (by omega)))
   rw[htot]at this ⊢
   exact this
theorem PN {s:AS} {nm t o n c:Nat} {r0:Bool} {f:Nat→Int} {cs:List SV} (hf:eJ f) (hb:s.box t=some ⟨r0,cs⟩) (hc:aY cs o n f) (hp:cs.all SV.plain=true) (hcap:n≤c) {dst:Option Nat} {K:AS→Prop}
  (hk:K (({ s with box:=upd s.box nm none }:AS).put dst (some (Ag (ai .u8 32 (Ct n f)))))):cq Tryz.prog nm 75 (some [Sl t o n c]) dst K s:=by
 refine (abS hf hc hp hcap).wide.av (fun _=>t) none (bZ hb hp) rfl ?_
 rintro v out ⟨rfl,rfl⟩
 rw[fq,AV.dG (show AV.plain (Ag (ai .u8 32 (Ct n f)))=true from az)]
 exact hk
theorem qF {s:AS} {nm t o n c N:Nat} {x:Int} {f:Nat→Int} (hb:s.box t=some ⟨true,ai .u8 N f⟩) (hon:o+n≤N) (hN:N≤64) (hn:n≤8) {dst:Option Nat} {K:AS→Prop}
  (hk:K (({ s with box:=upd s.box t (some ⟨true,ai .u8 N (Co o n x f)⟩) }:AS).put dst (some (Sum.inr [])))):av Tryz.prog nm 74 (some [Sl t o n c,I .u64 x]) dst K s:=
 (Iz (c:=c) (x:=x) hon hN hn).Vg hb az az rfl rfl hk
def mU (q:Int) (n:Nat):Nat→Int:=Co 9 4 (n:Int) (Co 1 8 q (upd (fun _=>0) 0 74))
def lC (q:Int) (n:Nat) (f:Nat→Int):Nat→Int:=upd (fun i=>if 13≤i∧i < 45 then Ct (13+n) (bC 13 (mU q n) f) (i - 13) else mU q n i) 63 199
theorem Sr {q:Int} {n:Nat}:eJ (mU q n):=fun i=>by
 have h1:=Iy (n:Int) 4 (i - 9)
 have h2:=Iy q 8 (i - 1)
 unfold mU Co upd
 (repeat' split)<;>first | assumption | omega | simp
theorem zS2:dS [Value.slice none 0 0] 2=[Sum.inl (.slice none 0 0),Sum.inl (.slice none 0 0)]:=rfl
theorem AX {sv:SV} (h:SV.one sv=true):cellsOf (some (Sum.inl (Sum.inl sv)))=some [sv]:=if_pos h
theorem IU {cs:List SV} {f:Nat→Int} {q:Int} {sv:SV} {n:Nat} (hl:cS 0 sv n f cs) (hp:cs.all SV.plain=true) (hf:eJ f) (hn:n < 16777216):
  bd Tryz.prog 56 [Ag (bJ q sv)] 1 (lk [(0,⟨false,cs⟩)]) (fun u out=>u=Ag (ai .u8 64 (lC q n f))∧out=fun _=>none):=by
 have hok: ∀ {M:Nat→Prop},M 0→SV.ok M sv:=fun h=>hl.ok h
 have hone:=(hl.ok (M:=fun n=>n < 1) (by decide)).2
 have hw:IntKind.u64.wrap (n:Int)=(n:Int):=bT _ (by omega) (by omega)
 have hlen:=hl.len
 refine uO Tryz.func56 rfl (by kernel_rfl) [5] [] (by simp[Tryz.ntmps56]) Tryz.tE (Fi (hok (by decide))) fF (fG hp) ?_
 simp only[Tryz.results56,bJ,NT,seval, -List.reduceReplicate]
 refine .inl ?_
 simp only[vR,seval, -List.reduceReplicate]
 refine ⟨by kernel_rfl, .inr (.inr (.inr ⟨by kernel_rfl, ?_⟩))⟩
 refine qF (N:=64) (f:=upd (fun _=>0) 0 74) (by simp only[bV,seval, -List.reduceReplicate];exact congrArg (fun c=>some (aI.mk true c)) (dq _ _ _ _ (by decide) _)) (by decide) (by decide) (by decide) ?_
 simp only[NT,seval, -List.reduceReplicate]
 refine .inl ?_
 simp only[hlen,hw,vR,seval, -List.reduceReplicate]
 refine ⟨by kernel_rfl, .inr (.inr (.inr ⟨by kernel_rfl, ?_⟩))⟩
 simp only[if_pos (show ak Tryz.prog 74=true from Tryz.Ay)]
 refine qF (N:=64) (f:=Co 1 8 q (upd (fun _=>0) 0 74)) (by simp only[bV,seval, -List.reduceReplicate]) (by decide) (by decide) (by decide) ?_
 simp only[NT,seval, -List.reduceReplicate]
 refine eW (by kernel_rfl) [0,1,2] [3,4,5] [6] [7] [1] [16,17,18,19,20,21,4] (by kernel_rfl) (by kernel_rfl) (by kernel_rfl) ?_
 simp only[zS2,AX hone,IA,IB,NT,seval, -List.reduceReplicate]
 have eC:mU q n=Co 9 4 (n:Int) (Co 1 8 q (upd (fun _=>0) 0 74)):=rfl
 rw[← eC]
 have hJ:eJ (bC 13 (mU q n) f):=Ps Sr hf
 refine Cu (u:=3) (w:=0) (c1:=64) (n:=n) (r0:=true) (r1:=true) (r2:=false) (g:=mU q n) (f:=f) (ds:=ai .u8 64 (mU q n)) (by simp only[bV,seval, -List.reduceReplicate]) (by simp only[bV,seval, -List.reduceReplicate]) az (oM dL (by decide)) (by simp only[bV,seval, -List.reduceReplicate]) hp hl hn fun c' cs' hg=> ?_
 simp only[NT,seval, -List.reduceReplicate]
 refine PN (r0:=true) hJ (by simp only[bV,seval, -List.reduceReplicate]) hg.shows hg.plain hg.room ?_
 simp only[NT,seval, -List.reduceReplicate]
 refine .inl ?_
 simp only[NT,seval, -List.reduceReplicate]
 refine ⟨by kernel_rfl,by kernel_rfl,EP Tryz.eK Tryz.fc (cs:=ai .u8 64 (mU q n)) (bx:=⟨true,ai .u8 32 (Ct (13+n) (bC 13 (mU q n) f))⟩) (news:=ai .u8 32 (Ct (13+n) (bC 13 (mU q n) f))) (by simp only[bV,seval, -List.reduceReplicate]) (by simp only[bV,seval, -List.reduceReplicate]) (by rw[aD];rfl) (fun j u h=>by simpa using h) (by rw[aD];decide) ?_⟩
 rw[qo _ _ _ _ _ _ (by decide)]
 simp only[NT,seval, -List.reduceReplicate]
 rw[dq _ _ _ _ (by decide)]
 have eF:upd (fun i=>if 13≤i∧i < 45 then Ct (13+n) (bC 13 (mU q n) f) (i - 13) else mU q n i) 63 199=lC q n f:=rfl
 simp only[eF,aD,q8,gO,NT,seval, -List.reduceReplicate]
 exact aJ az ⟨rfl,rfl⟩
structure AY (s:AS) (m:Nat) (f:Nat→Int) (pc kc:List SV) (cnt:Int) (ws:SV):Prop where
 b0:s.box 0=some ⟨false,[Sum.inr (.inr (4,0,m,m))]⟩
 b1:s.box 1=some ⟨false,pc⟩
 b2:s.box 2=some ⟨true,[ws]⟩
 b3:s.box 3=some ⟨true,[Sum.inl (.int .i64 cnt)]⟩
 b4:s.box 4=some ⟨true,ai .u8 (64*m) f⟩
 b5:s.box 5=some ⟨false,kc⟩
def six (w n:Nat):Nat:=if n=6 then w else n
theorem AZ {w:Nat} {l:List SV} (h: ∀ x ∈ l,SV.ok (fun n=>n=5) x):l.map (SV.ren (six w))=l:=by
 conv=>rhs;rw[← List.map_id l]
 exact List.map_congr_left fun x hx=>SV.je (SV.br (fun n hn=>by subst hn;rfl) (h x hx).1)
theorem yx {s:AS} {m:Nat} {f:Nat→Int} {pc kc:List SV} {cnt:Int} (hd:AY s m f pc kc cnt (Sum.inl (.slice none 0 0))) (hp: ∀ x ∈ pc,SV.ok (fun n=>n=5) x) (hk:kc.all SV.plain=true):jr s (six 1) (lk (Fj m f pc kc cnt (Sum.inl (.slice none 0 0)) false pc)) [2,3,4]:=by
 refine lY (fun x hx=> ?_) fun n hn=> ?_
 ·have hin: ∀ y ∈ Fj m f pc kc cnt (Sum.inl (.slice none 0 0)) false pc,y.1 < 7:=fun y hy=>by
   simp only[Fj,bQ]at hy
   rcases hy with rfl | rfl | rfl | rfl | rfl | rfl | rfl<;>(simp only;omega)
  have inj: ∀ a,a=2∨a=3∨a=4→ ∀ y ∈ Fj m f pc kc cnt (Sum.inl (.slice none 0 0)) false pc,six 1 a=six 1 y.1→a=y.1:=fun a ha y hy e=>by
   have:=hin y hy
   unfold six at e
   split at e<;>split at e<;>omega
  simp only[Fj,bQ]at hx
  rcases hx with rfl | rfl | rfl | rfl | rfl | rfl | rfl
  ·exact ⟨⟨_,hd.b0,fun h=>h⟩,fun h=>(by cases h)⟩
  ·exact ⟨⟨_,by rw[AZ hp];exact hd.b1,fun h=>h⟩,fun h=>(by cases h)⟩
  ·exact ⟨⟨_,hd.b2,fun h=>rfl⟩,fun h=>⟨(by decide:(2:Nat) ∈ [2,3,4]),inj 2 (by decide)⟩⟩
  ·exact ⟨⟨_,hd.b3,fun h=>rfl⟩,fun h=>⟨(by decide:(3:Nat) ∈ [2,3,4]),inj 3 (by decide)⟩⟩
  ·exact ⟨⟨_,by rw[au az];exact hd.b4,fun h=>rfl⟩,fun h=>⟨(by decide:(4:Nat) ∈ [2,3,4]),inj 4 (by decide)⟩⟩
  ·exact ⟨⟨_,by rw[au hk];exact hd.b5,fun h=>h⟩,fun h=>(by cases h)⟩
  ·exact ⟨⟨_,by rw[AZ hp];exact hd.b1,fun h=>h⟩,fun h=>(by cases h)⟩
 ·simp only[bQ]at hn
  rcases hn with rfl | rfl | rfl<;>exact ⟨_,rfl,rfl⟩
theorem Ft {s:AS} {m w n c:Nat} {f:Nat→Int} {pc kc wc:List SV} {cnt:Int} (hd:AY s m f pc kc cnt (Sum.inr (.inr (w,0,n,c)))) (hw:s.box w=some ⟨true,wc⟩) (hw6:6≤w) (hwc:wc.all SV.plain=true) (hp: ∀ x ∈ pc,SV.ok (fun n=>n=5) x) (hk:kc.all SV.plain=true):jr s (six w) (lk (Fj m f pc kc cnt (Sum.inr (.inr (6,0,n,c))) true wc)) [2,3,4,6]:=by
 refine lY (fun x hx=> ?_) fun n hn=> ?_
 ·have inj: ∀ a,a < 7→ ∀ y ∈ Fj m f pc kc cnt (Sum.inr (.inr (6,0,n,c))) true wc,six w a=six w y.1→a=y.1:=fun a ha y hy e=>by
   have:y.1 < 7:=by
    simp only[Fj,bQ]at hy
    rcases hy with rfl | rfl | rfl | rfl | rfl | rfl | rfl<;>(simp only;omega)
   unfold six at e
   split at e<;>split at e<;>omega
  simp only[Fj,bQ]at hx
  rcases hx with rfl | rfl | rfl | rfl | rfl | rfl | rfl
  ·exact ⟨⟨_,hd.b0,fun h=>h⟩,fun h=>(by cases h)⟩
  ·exact ⟨⟨_,by rw[AZ hp];exact hd.b1,fun h=>h⟩,fun h=>(by cases h)⟩
  ·exact ⟨⟨_,hd.b2,fun h=>rfl⟩,fun h=>⟨(by decide:(2:Nat) ∈ [2,3,4,6]),inj 2 (by decide)⟩⟩
  ·exact ⟨⟨_,hd.b3,fun h=>rfl⟩,fun h=>⟨(by decide:(3:Nat) ∈ [2,3,4,6]),inj 3 (by decide)⟩⟩
  ·exact ⟨⟨_,by rw[au az];exact hd.b4,fun h=>rfl⟩,fun h=>⟨(by decide:(4:Nat) ∈ [2,3,4,6]),inj 4 (by decide)⟩⟩
  ·exact ⟨⟨_,by rw[au hk];exact hd.b5,fun h=>h⟩,fun h=>(by cases h)⟩
  ·exact ⟨⟨_,by rw[au hwc];exact hw,fun h=>rfl⟩,fun h=>⟨(by decide:(6:Nat) ∈ [2,3,4,6]),inj 6 (by decide)⟩⟩
 ·simp only[bQ]at hn
  rcases hn with rfl | rfl | rfl | rfl<;>exact ⟨_,rfl,rfl⟩
section
variable {s:AS} {nm m a kn:Nat} {kb:Nat→Bool} {f d:Nat→Int} {ks:SV} {kc:List SV} {at_ cut cnt:Int} {dst:Option Nat} {K:AS→Prop}
theorem fD (hk:gU ks kn kb kc): ∀ x ∈ cI at_ cut ks,SV.ok (fun n=>n=5) x:=fun x hx=>by
 simp only[cI,bQ]at hx
 rcases hx with rfl | rfl | rfl
 ·exact ⟨trivial,rfl⟩
 ·exact hk.k.ok rfl
 ·exact ⟨trivial,rfl⟩
theorem dw0 (hk:gU ks kn kb kc):Lj (cI at_ cut ks) kc [] (Sum.inl (.slice none 0 0)) false (cI at_ cut ks):=⟨fD hk,hk.c, .inl ⟨rfl,rfl,rfl,fD hk⟩⟩
theorem dw1 {L:List Pd} {wc:List SV} {c:Nat} (hk:gU ks kn kb kc) (hn:L≠[]) (hg:gj wc L c):Lj (cI at_ cut ks) kc L (Sum.inr (.inr (6,0,L.length,c))) true wc:=⟨fD hk,hk.c, .inr ⟨hn,rfl,c,rfl,hg⟩⟩
theorem qG {w:Nat}:([I .i64 a,Ag (ai .u8 64 d),Ptr 3 0,Ptr 1 0,Ptr 0 0,Ptr 2 0]:List AV)=[I .i64 a,Ag (ai .u8 64 d),Ptr 3 0,Ptr 1 0,Ptr 0 0,Ptr 2 0].map (AV.ren (six w)):=by
 simp only[List.map_cons,List.map_nil,M3,jM]
 rfl
theorem xO (hd:AY s m f (cI at_ cut ks) kc cnt (Sum.inl (.slice none 0 0))) (hk:gU ks kn kb kc) (h0:0≤cnt) (h1:cnt < 1000000) (hne:cnt+1≠at_)
  (hK: ∀ c es,gj es [(a,d)] c→K (({ s with box:=upd (upd (upd (upd s.box 4 (some ⟨true,ai .u8 (64*m) f⟩)) 3 (some ⟨true,[Sum.inl (.int .i64 (cnt+1))]⟩)) 2 (some ⟨true,[Sum.inr (.inr (nm,0,1,c))]⟩)) nm (some ⟨true,es⟩) }:AS).put dst (some (Sum.inr [])))):
  av Tryz.prog nm 47 (some [I .i64 a,Ag (ai .u8 64 d),Ptr 3 0,Ptr 1 0,Ptr 0 0,Ptr 2 0]) dst K s:=by
 refine (Fp (a:=a) (d:=d) (f:=f) (m:=m) (kn:=kn) (kb:=kb) (dw0 hk) (by decide) h0 h1 hne).wide.nA (Nat.le_refl 1) (six 1) [2,3,4] (yx hd (fD hk) hk.c) qG ?_
 rintro v out ⟨rfl,c,es,hg,rfl⟩
 rw[gl]
 have e7:aV (six 1) 7 nm 7=nm:=nz
 have:=hK c es hg
 simp only[List.foldr_cons,List.foldr_nil,lk,Option.map_some,aI.ren,List.map_cons,List.map_nil,SV.ren,fj,e7,au az,au hg.shows.plain,List.length_nil,Nat.zero_add,Nat.reduceEqDiff,reduceIte,show six 1 2=2 from rfl,show six 1 3=3 from rfl,show six 1 4=4 from rfl]
 exact this
theorem uX (hd:AY s m f (cI at_ cut ks) kc cnt (Sum.inl (.slice none 0 0))) (hk:gU ks kn kb kc) (h0:0≤cnt) (h1:cnt < 1000000) (hne:cnt+1≠at_)
  (hK: ∀ c es,gj es [(a,d)] c→K (({ s with box:=upd (upd (upd (upd s.box 4 (some ⟨true,ai .u8 (64*m) f⟩)) 3 (some ⟨true,[Sum.inl (.int .i64 (cnt+1))]⟩)) 2 (some ⟨true,[Sum.inr (.inr (nm,0,1,c))]⟩)) nm (some ⟨true,es⟩) }:AS).put dst (some (Sum.inr [])))):
  cq Tryz.prog nm 47 (some [I .i64 a,Ag (ai .u8 64 d),Ptr 3 0,Ptr 1 0,Ptr 0 0,Ptr 2 0]) dst K s:=by
 refine (Fp (a:=a) (d:=d) (f:=f) (m:=m) (kn:=kn) (kb:=kb) (dw0 hk) (by decide) h0 h1 hne).wide.uP (six 1) [2,3,4] (yx hd (fD hk) hk.c) qG ?_
 rintro v out ⟨rfl,c,es,hg,rfl⟩
 rw[gl]
 have e7:aV (six 1) 7 nm 7=nm:=nz
 have:=hK c es hg
 simp only[List.foldr_cons,List.foldr_nil,lk,Option.map_some,aI.ren,List.map_cons,List.map_nil,SV.ren,fj,e7,au az,au hg.shows.plain,List.length_nil,Nat.zero_add,Nat.reduceEqDiff,reduceIte,show six 1 2=2 from rfl,show six 1 3=3 from rfl,show six 1 4=4 from rfl]
 exact this
theorem xQ {L:List Pd} {w c0:Nat} {wc:List SV} (hd:AY s m f (cI at_ cut ks) kc cnt (Sum.inr (.inr (w,0,L.length,c0)))) (hw:s.box w=some ⟨true,wc⟩) (hw6:6≤w) (hg:gj wc L c0) (hn:L≠[]) (hl:L.length < 1000000) (hk:gU ks kn kb kc) (h0:0≤cnt) (h1:cnt < 1000000) (hne:cnt+1≠at_)
  (hK: ∀ c es,gj es (L++[(a,d)]) c→K (({ s with box:=upd (upd (upd (upd (upd s.box w none) 4 (some ⟨true,ai .u8 (64*m) f⟩)) 3 (some ⟨true,[Sum.inl (.int .i64 (cnt+1))]⟩)) 2 (some ⟨true,[Sum.inr (.inr (nm,0,L.length+1,c))]⟩)) nm (some ⟨true,es⟩) }:AS).put dst (some (Sum.inr [])))):
  av Tryz.prog nm 47 (some [I .i64 a,Ag (ai .u8 64 d),Ptr 3 0,Ptr 1 0,Ptr 0 0,Ptr 2 0]) dst K s:=by
 refine (Fp (a:=a) (d:=d) (f:=f) (m:=m) (kn:=kn) (kb:=kb) (dw1 hk hn hg) hl h0 h1 hne).wide.nA (Nat.le_refl 1) (six w) [2,3,4,6] (Ft hd hw hw6 hg.shows.plain (fD hk) hk.c) qG ?_
 rintro v out ⟨rfl,c,es,hg,rfl⟩
 rw[gl]
 have e7:aV (six w) 7 nm 7=nm:=nz
 have e6:six w 6=w:=rfl
 have:=hK c es hg
 simp only[List.foldr_cons,List.foldr_nil,lk,Option.map_some,Option.map_none,aI.ren,List.map_cons,List.map_nil,SV.ren,fj,e7,e6,au az,au hg.shows.plain,Nat.reduceEqDiff,reduceIte,show six w 2=2 from rfl,show six w 3=3 from rfl,show six w 4=4 from rfl]
 exact this
theorem IV (hd:AY s m f (cI at_ cut ks) kc cnt (Sum.inl (.slice none 0 0))) (hk:gU ks kn kb kc) (hm:m≤1048576)
  (hK:K (({ s with box:=upd (upd (upd (upd s.box 4 (some ⟨true,ai .u8 (64*m) f⟩)) 3 (some ⟨true,[Sum.inl (.int .i64 cnt)]⟩)) 2 (some ⟨true,[Sum.inl (.slice none 0 0)]⟩)) nm none }:AS).put dst (some (Sum.inr [])))):
  av Tryz.prog nm 51 (some [Ptr 0 0,Ptr 2 0]) dst K s:=by
 refine (NU (f:=f) (m:=m) (cnt:=cnt) (dw0 (at_:=at_) (cut:=cut) hk) (fun p hp=>(by cases hp)) hm (by decide)).wide.nA (Nat.le_refl 1) (six 1) [2,3,4] (yx hd (fD hk) hk.c) rfl ?_
 rintro v out ⟨rfl,rfl⟩
 rw[gl]
 have:=hK
 simp only[List.foldr_cons,List.foldr_nil,lk,Option.map_some,Option.map_none,aI.ren,List.map_cons,List.map_nil,SV.ren,fj,au az,mS,Nat.reduceEqDiff,reduceIte,show six 1 2=2 from rfl,show six 1 3=3 from rfl,show six 1 4=4 from rfl]
 exact this
theorem nD {L:List Pd} {w c0:Nat} {wc:List SV} (hd:AY s m f (cI at_ cut ks) kc cnt (Sum.inr (.inr (w,0,L.length,c0)))) (hw:s.box w=some ⟨true,wc⟩) (hw6:6≤w) (hg:gj wc L c0) (hn:L≠[]) (hl:L.length < 1000000) (hL:Fit m L) (hk:gU ks kn kb kc) (hm:m≤1048576)
  (hK:K (({ s with box:=upd (upd (upd (upd (upd s.box w none) 4 (some ⟨true,ai .u8 (64*m) (dT f L)⟩)) 3 (some ⟨true,[Sum.inl (.int .i64 cnt)]⟩)) 2 (some ⟨true,[Sum.inl (.slice none 0 0)]⟩)) nm none }:AS).put dst (some (Sum.inr [])))):
  av Tryz.prog nm 51 (some [Ptr 0 0,Ptr 2 0]) dst K s:=by
 refine (NU (f:=f) (m:=m) (cnt:=cnt) (dw1 (at_:=at_) (cut:=cut) hk hn hg) hL hm (by omega)).wide.nA (Nat.le_refl 1) (six w) [2,3,4,6] (Ft hd hw hw6 hg.shows.plain (fD hk) hk.c) rfl ?_
 rintro v out ⟨rfl,rfl⟩
 rw[gl]
 have e6:six w 6=w:=rfl
 have:=hK
 simp only[List.foldr_cons,List.foldr_nil,lk,Option.map_some,Option.map_none,aI.ren,List.map_cons,List.map_nil,SV.ren,fj,e6,au az,Nat.reduceEqDiff,reduceIte,show six w 2=2 from rfl,show six w 3=3 from rfl,show six w 4=4 from rfl]
 exact this
variable {F:Exit→AS→Prop}
theorem ph (hd:AY s m f (cI at_ cut ks) kc cnt (Sum.inl (.slice none 0 0))) (hk:gU ks kn kb kc) (h0:0≤cnt) (h1:cnt < 1000000) (hm:m≤1048576) (ha:a < m) (hne:cnt+1=at_)
  (hK:F (.panic ga) { s with box:=upd (upd (upd s.box 4 (some ⟨true,ai .u8 (64*m) (fT f a (eE cut) d)⟩)) 3 (some ⟨true,[Sum.inl (.int .i64 (cnt+1))]⟩)) 2 (some ⟨true,[Sum.inl (.slice none 0 0)]⟩) }):
  fB Tryz.prog 47 (some [I .i64 a,Ag (ai .u8 64 d),Ptr 3 0,Ptr 1 0,Ptr 0 0,Ptr 2 0]) F s:=by
 refine (NV (a:=a) (d:=d) (f:=f) (m:=m) (dw0 hk) hk (by decide) (fun p hp=>(by cases hp)) hm ha h0 h1 hne).rq (six 1) [2,3,4] (yx hd (fD hk) hk.c) qG ?_
 rintro out rfl
 rw[oq]
 have:=hK
 simp only[List.foldr_cons,List.foldr_nil,lk,Option.map_some,Option.map_none,aI.ren,List.map_cons,List.map_nil,SV.ren,fj,au az,Nat.reduceEqDiff,reduceIte,show six 1 2=2 from rfl,show six 1 3=3 from rfl,show six 1 4=4 from rfl]
 exact this
theorem A8 {L:List Pd} {w c0:Nat} {wc:List SV} (hd:AY s m f (cI at_ cut ks) kc cnt (Sum.inr (.inr (w,0,L.length,c0)))) (hw:s.box w=some ⟨true,wc⟩) (hw6:6≤w) (hg:gj wc L c0) (hn:L≠[]) (hl:L.length < 1000000) (hL:Fit m L) (hk:gU ks kn kb kc) (h0:0≤cnt) (h1:cnt < 1000000) (hm:m≤1048576) (ha:a < m) (hne:cnt+1=at_)
  (hK:F (.panic ga) { s with box:=upd (upd (upd (upd s.box w none) 4 (some ⟨true,ai .u8 (64*m) (fT (dT f (dO kn kb 0 L)) a (eE cut) d)⟩)) 3 (some ⟨true,[Sum.inl (.int .i64 (cnt+1))]⟩)) 2 (some ⟨true,[Sum.inl (.slice none 0 0)]⟩) }):
  fB Tryz.prog 47 (some [I .i64 a,Ag (ai .u8 64 d),Ptr 3 0,Ptr 1 0,Ptr 0 0,Ptr 2 0]) F s:=by
 refine (NV (a:=a) (d:=d) (f:=f) (m:=m) (dw1 hk hn hg) hk hl hL hm ha h0 h1 hne).rq (six w) [2,3,4,6] (Ft hd hw hw6 hg.shows.plain (fD hk) hk.c) qG ?_
 rintro out rfl
 rw[oq]
 have e6:six w 6=w:=rfl
 have:=hK
 simp only[List.foldr_cons,List.foldr_nil,lk,Option.map_some,Option.map_none,aI.ren,List.map_cons,List.map_nil,SV.ren,fj,e6,au az,Nat.reduceEqDiff,reduceIte,show six w 2=2 from rfl,show six w 3=3 from rfl,show six w 4=4 from rfl]
 exact this
end
def fU (a n:Nat) (pf:Nat→Int):List Pd:=(List.range (aT n)).map fun i=>(a+1+i,fun j=>iL n pf (i*64+j))
theorem mh {a n:Nat} {pf:Nat→Int}:(fU a n pf).length=aT n:=by simp[fU]
theorem IW {a n j:Nat} {pf:Nat→Int} (h:j < aT n):(fU a n pf)[j]? =some (a+1+j,fun i=>iL n pf (j*64+i)):=by simp[fU,h]
theorem Ea {a n m:Nat} {pf:Nat→Int} (h:a+aT n < m):Fit m (fU a n pf):=fun p hp=>by
 simp only[fU,List.mem_map,List.mem_range]at hp
 obtain ⟨i,hi,rfl⟩:=hp
 simp only
 omega
theorem IX {m k:Nat} {L:List Pd} (h:Fit m L):Fit m (L.take k):=fun p hp=>h p (List.mem_of_mem_take hp)
def nF (f:Nat→Int) (a n:Nat) (q:Int) (pf:Nat→Int):Nat→Int:=wv (dT f (fU a n pf)) (a,lC q n pf)
def lE (f:Nat→Int) (a n:Nat) (q:Int) (pf:Nat→Int) (kn:Nat) (kb:Nat→Bool) (cut:Nat) (T:Nat):Nat→Int:=
 if T < aT n then fT (dT f (dO kn kb 0 ((fU a n pf).take T))) (a+1+T) cut (fun i=>iL n pf (T*64+i)) else fT (dT f (fU a n pf)) a cut (lC q n pf)
def Ca (m:Nat) (f:Nat→Int) (pc kc:List SV) (cnt:Int) (ps:List SV):List (Nat×aI):=
 [(0,⟨false,[Sum.inr (.inr (4,0,m,m))]⟩),(1,⟨false,pc⟩),(2,⟨true,[Sum.inl (.slice none 0 0)]⟩),(3,⟨true,[Sum.inl (.int .i64 cnt)]⟩),(4,⟨true,ai .u8 (64*m) f⟩),(5,⟨false,kc⟩),(6,⟨false,ps⟩)]
theorem ru {m:Nat} {f:Nat→Int} {pc kc ps:List SV} {cnt:Int}: ∀ n,n < 7→ ∃ c,lk (Ca m f pc kc cnt ps) n=some c:=fun n hn=>by
 rcases (show n=0∨n=1∨n=2∨n=3∨n=4∨n=5∨n=6 by omega) with rfl | rfl | rfl | rfl | rfl | rfl | rfl<;>exact ⟨_,rfl⟩
theorem rv {m:Nat} {f:Nat→Int} {pc kc ps:List SV} {cnt:Int} (hp: ∀ x ∈ pc,SV.ok (fun n=>n=5) x) (hk:kc.all SV.plain=true) (hs:ps.all SV.plain=true): ∀ n c,lk (Ca m f pc kc cnt ps) n=some c→n < 7∧ ∀ x ∈ c.cells,SV.ok (fun n=>n < 7) x:=fun n c hn=>by
 have h1:=bt _ _ _ hn
 simp only[Ca,bQ,Prod.mk.injEq]at h1
 rcases h1 with ⟨rfl,rfl⟩ | ⟨rfl,rfl⟩ | ⟨rfl,rfl⟩ | ⟨rfl,rfl⟩ | ⟨rfl,rfl⟩ | ⟨rfl,rfl⟩ | ⟨rfl,rfl⟩
 ·exact ⟨by decide,fun x hx=>by rw[List.mem_singleton]at hx;subst hx;exact ⟨(by decide:4 < 7),rfl⟩⟩
 ·exact ⟨by decide,fun x hx=>SV.aL (fun n hn=>by subst hn;decide) (hp x hx)⟩
 ·exact ⟨by decide,ao rfl⟩
 ·exact ⟨by decide,ao rfl⟩
 ·exact ⟨by decide,ao az⟩
 ·exact ⟨by decide,ao hk⟩
 ·exact ⟨by decide,ao hs⟩
def dg (m:Nat) (f:Nat→Int) (cnt:Int):List (Nat×aI):=[(2,⟨true,[Sum.inl (.slice none 0 0)]⟩),(3,⟨true,[Sum.inl (.int .i64 cnt)]⟩),(4,⟨true,ai .u8 (64*m) f⟩)]
theorem yy {s:AS} {k m:Nat} {f:Nat→Int} {cnt:Int} (hk:7≤k) (h2:s.box 2=some ⟨true,[Sum.inl (.slice none 0 0)]⟩) (h3:s.box 3=some ⟨true,[Sum.inl (.int .i64 cnt)]⟩) (h4:s.box 4=some ⟨true,ai .u8 (64*m) f⟩):Fh k ga (fun out=>out=lk (dg m f cnt)) (.panic ga) s:=by
 refine Lh fun x hx=> ?_
 simp only[dg,bQ]at hx
 rcases hx with rfl | rfl | rfl
 ·exact ⟨(by omega:2 < k),ao rfl,h2⟩
 ·exact ⟨(by omega:3 < k),ao rfl,h3⟩
 ·exact ⟨(by omega:4 < k),ao az,h4⟩
theorem Fu {s:AS} {k m:Nat} {f:Nat→Int} {cnt:Int} {v:AV} (hv:AV.plain v=true) (hk:7≤k) (h2:s.box 2=some ⟨true,[Sum.inl (.slice none 0 0)]⟩) (h3:s.box 3=some ⟨true,[Sum.inl (.int .i64 cnt)]⟩) (h4:s.box 4=some ⟨true,ai .u8 (64*m) f⟩):m8 k (fun u out=>u=v∧out=lk (dg m f cnt)) v s:=by
 have hr: ∀ n,n < k→jY k k n=n:=fun n hn=>by unfold jY;rw[if_neg (by omega)]
 refine dV (q:=k) (v0:=v) (Nat.le_refl _) (AV.dG hv _).symm (AV.ek hv) (fun x hx=> ?_) ⟨rfl,rfl⟩
 simp only[dg,bQ]at hx
 rcases hx with rfl | rfl | rfl
 ·exact ⟨(by omega:2 < k+1),fun _=>rfl,ao rfl,by rw[hr _ (by simp only;omega)];exact h2⟩
 ·exact ⟨(by omega:3 < k+1),fun _=>rfl,ao rfl,by rw[hr _ (by simp only;omega)];exact h3⟩
 ·exact ⟨(by omega:4 < k+1),fun _=>rfl,ao az,by rw[hr _ (by simp only;omega),au az];exact h4⟩
theorem IY {f:Nat→Int} {p:Pd}:dT f [p]=wv f p:=rfl
theorem PO {s:AS} {nm t n:Nat} {r0:Bool} {cs:List SV} {f:Nat→Int} {q:Int} {sv:SV} (hb:s.box t=some ⟨r0,cs⟩) (hl:cS t sv n f cs) (hp:cs.all SV.plain=true) (hn:n < 16777216) {dst:Option Nat} {K:AS→Prop}
  (hk:K (({ s with box:=upd s.box nm (some ⟨true,ai .u8 (64*aT n) (iL n f)⟩) }:AS).put dst (some (Sl nm 0 (aT n) (aT n))))):av Tryz.prog nm 55 (some [Ag (bJ q sv)]) dst K s:=by
 obtain ⟨s0,h0,h1⟩:=hl.iW 0
 refine (Sq (q:=q) h0 hp hn).av (fun _=>t) none (bZ hb hp) ?_ ?_
 ·simp only[List.map_cons,List.map_nil,j8,h1 (fun _=>t) rfl]
 ·rintro v out ⟨rfl,rfl⟩ _
  rw[bX az]
  simp only[iZ,gF]
  exact hk
theorem l8 {s:AS} {nm t n:Nat} {r0:Bool} {cs:List SV} {f:Nat→Int} {q:Int} {sv:SV} (hb:s.box t=some ⟨r0,cs⟩) (hl:cS t sv n f cs) (hp:cs.all SV.plain=true) (hf:eJ f) (hn:n < 16777216) {dst:Option Nat} {K:AS→Prop}
  (hk:K (({ s with box:=upd s.box nm none }:AS).put dst (some (Ag (ai .u8 64 (lC q n f)))))):cq Tryz.prog nm 56 (some [Ag (bJ q sv)]) dst K s:=by
 obtain ⟨s0,h0,h1⟩:=hl.iW 0
 refine (IU (q:=q) h0 hp hf hn).wide.av (fun _=>t) none (bZ hb hp) ?_ ?_
 ·simp only[List.map_cons,List.map_nil,j8,h1 (fun _=>t) rfl]
 ·rintro v out ⟨rfl,rfl⟩
  rw[fq,AV.dG (show AV.plain (Ag (ai .u8 64 (lC q n f)))=true from az)]
  exact hk
def bG (at_ cnt:Int) (n:Nat):Bool:=decide (cnt < at_∧at_≤cnt+n)
def ry (a N k:Nat):List (Nat×AV):=[(3,Ptr 7 0),(5,Ptr 8 0),(1,I .i64 a),(9,Sl 10 0 N N),(10,I .i64 N),(11,I .i64 k)]
def pJ (m:Nat) (f:Nat→Int) (pc kc ps:List SV) (cnt:Int) (ws:SV) (rl:List SV) (N:Nat) (g:Nat→Int):List (Nat×aI):=
 [(0,⟨false,[Sum.inr (.inr (4,0,m,m))]⟩),(1,⟨false,pc⟩),(2,⟨true,[ws]⟩),(3,⟨true,[Sum.inl (.int .i64 cnt)]⟩),(4,⟨true,ai .u8 (64*m) f⟩),(5,⟨false,kc⟩),(6,⟨false,ps⟩),(7,⟨true,fP 0 1 2 3⟩),(8,⟨true,rl⟩),(10,⟨true,ai .u8 (64*N) g⟩)]
theorem Fv {q k':Nat} {l:List SV} (h: ∀ x ∈ l,SV.ok (fun n=>n < 60) x):l.map (SV.ren (upd (fun n=>n) 60 q))=l:=by
 conv=>rhs;rw[← List.map_id l]
 exact List.map_congr_left fun x hx=>SV.je (SV.br (fun n hn=>bh _ _ _ _ (by omega)) (h x hx).1)
theorem NW {s:AS} {m' a N k m c q:Nat} {f g:Nat→Int} {pc kc ps rl es:List SV} {cnt:Int} (hm':m'≤60) (hq:61≤q) (he: ∀ x ∈ ry a N k,s.env x.1=some x.2) (hp: ∀ x ∈ pc,SV.ok (fun n=>n < 60) x) (hk:kc.all SV.plain=true) (hps:ps.all SV.plain=true) (hr: ∀ x ∈ rl,SV.ok (fun n=>n < 60) x) (PQ:es.all SV.plain=true)
  (h2:s.box 2=some ⟨true,[Sum.inr (.inr (q,0,k,c))]⟩) (Lm:s.box q=some ⟨true,es⟩) (hb: ∀ x ∈ pJ m f pc kc ps cnt (Sum.inr (.inr (q,0,k,c))) rl N g,s.box x.1=some x.2):
  ll m' s (pF (ry a N k) ((60,⟨true,es⟩)::pJ m f pc kc ps cnt (Sum.inr (.inr (60,0,k,c))) rl N g) 61):=by
 have hlt: ∀ y ∈ pJ m f pc kc ps cnt (Sum.inr (.inr (60,0,k,c))) rl N g,y.1 < 11:=fun y hy=>by
  simp only[pJ,bQ]at hy
  rcases hy with rfl | rfl | rfl | rfl | rfl | rfl | rfl | rfl | rfl | rfl<;>(simp only;omega)
 have hinj: ∀ n,(n < 11∨n=60)→ ∀ y ∈ (60,(⟨true,es⟩:aI))::pJ m f pc kc ps cnt (Sum.inr (.inr (60,0,k,c))) rl N g,upd (fun n=>n) 60 q n=upd (fun n=>n) 60 q y.1→n=y.1:=fun n hn y hy e=>by
  have hy':y.1 < 11∨y.1=60:=by
   rcases List.mem_cons.1 hy with rfl | hy
   ·exact .inr rfl
   ·exact .inl (hlt y hy)
  simp only[upd]at e
  split at e<;>split at e<;>omega
 have big: ∀ {l:List SV},(∀ x ∈ l,SV.ok (fun n=>n < 60) x)→ ∀ x ∈ l,SV.ok (fun n=>n < 61) x:=fun h x hx=>SV.aL (fun n hn=>by omega) (h x hx)
 have hB:=fun x hx=>hb x hx
 refine yv (upd (fun n=>n) 60 q) (fun n hn=>bh _ _ _ _ (by omega)) (fun x hx=> ?_) fun x hx=> ?_
 ·have h1:=he x hx
  simp only[ry,bQ]at hx
  rcases hx with rfl | rfl | rfl | rfl | rfl | rfl
  ·exact ⟨h1,(by decide:7 < 61)⟩
  ·exact ⟨h1,(by decide:8 < 61)⟩
  ·exact ⟨h1,trivial⟩
  ·exact ⟨h1,(by decide:10 < 61)⟩
  ·exact ⟨h1,trivial⟩
  ·exact ⟨h1,trivial⟩
 ·rcases List.mem_cons.1 hx with rfl | hx
  ·exact ⟨⟨true,by rw[au PQ];simpa[upd] using Lm,fun h=>h⟩,(by decide:60 < 61),ao PQ,fun _=>hinj 60 (.inr rfl)⟩
  ·simp only[pJ,bQ]at hx
   simp only[pJ,bQ,forall_eq_or_imp,forall_eq]at hB
   obtain ⟨g0,g1,g2,g3,g4,g5,g6,g7,g8,g10⟩:=hB
   have d7: ∀ x ∈ fP 0 1 2 3,SV.ok (fun n=>n < 60) x:=dY fun n hn=>by omega
   rcases hx with rfl | rfl | rfl | rfl | rfl | rfl | rfl | rfl | rfl | rfl
   ·exact ⟨⟨false,g0,fun h=>h⟩,(by decide:0 < 61),fun y hy=>by rw[List.mem_singleton]at hy;subst hy;exact ⟨(by decide:4 < 61),rfl⟩,fun h=>(by cases h)⟩
   ·exact ⟨⟨false,by rw[Fv (k':=0) hp];exact g1,fun h=>h⟩,(by decide:1 < 61),big hp,fun h=>(by cases h)⟩
   ·exact ⟨⟨true,h2,fun h=>h⟩,(by decide:2 < 61),fun y hy=>by rw[List.mem_singleton]at hy;subst hy;exact ⟨(by decide:60 < 61),rfl⟩,fun _=>hinj 2 (.inl (by decide))⟩
   ·exact ⟨⟨true,g3,fun h=>h⟩,(by decide:3 < 61),ao rfl,fun _=>hinj 3 (.inl (by decide))⟩
   ·exact ⟨⟨true,by rw[au az];exact g4,fun h=>h⟩,(by decide:4 < 61),ao az,fun _=>hinj 4 (.inl (by decide))⟩
   ·exact ⟨⟨false,by rw[au hk];exact g5,fun h=>h⟩,(by decide:5 < 61),ao hk,fun h=>(by cases h)⟩
   ·exact ⟨⟨false,by rw[au hps];exact g6,fun h=>h⟩,(by decide:6 < 61),ao hps,fun h=>(by cases h)⟩
   ·exact ⟨⟨true,by rw[Fv (k':=0) d7];exact g7,fun h=>h⟩,(by decide:7 < 61),big d7,fun _=>hinj 7 (.inl (by decide))⟩
   ·exact ⟨⟨true,by rw[Fv (k':=0) hr];exact g8,fun h=>h⟩,(by decide:8 < 61),big hr,fun _=>hinj 8 (.inl (by decide))⟩
   ·exact ⟨⟨true,by rw[au az];exact g10,fun h=>h⟩,(by decide:10 < 61),ao az,fun _=>hinj 10 (.inl (by decide))⟩
theorem Xa {m a n kn:Nat} {kb:Nat→Bool} {f pf:Nat→Int} {ks:SV} {kc ps:List SV} {at_ cut cnt q:Int} {sv:SV} (hk:gU ks kn kb kc) (hl:cS 6 sv n pf ps) (hp:ps.all SV.plain=true) (hpf:eJ pf) (hm:m≤8192) (ha:a+aT n < m) (hn:n < 600000) (h0:0≤cnt) (h1:cnt < 900000):
  ∀ c,Tryz.f26.body=some c→kT Tryz.prog [7] [4,7] c (eX Tryz.prog [] 7 (bG at_ cnt (aT n+1)) ga (fun v out=>v=Sum.inr []∧out=lk (dg m (nF f a n q pf) (cnt+(aT n:Nat)+1)))
   (fun out=>out=lk (dg m (lE f a n q pf kn kb (eE cut) (at_ - cnt - 1).toNat) at_))) (cn.start [Ag (fP 0 1 2 3),I .i64 a,Ag (bJ q sv)] (lk (Ca m f (cI at_ cut ks) kc cnt ps)) 7):=by
 intro c hc
 cases hc
 have hok: ∀ {M:Nat→Prop},M 6→SV.ok M sv:=fun h=>hl.ok h
 have hone:=(hl.ok (M:=fun n=>n < 7) (by decide)).2
 have fw: ∀ {M:Nat→Prop},(∀ x ∈ ps,SV.ok M x)=True:=eq_true (ao hp)
 have ZA: ∀ {M:Nat→Prop},M 5→ ∀ x ∈ cI at_ cut ks,SV.ok M x:=fun h5 x hx=>SV.aL (fun n hn=>by subst hn;exact h5) (fD hk x hx)
 have jT:List.take 2 (bJ q sv)=bJ q sv:=rfl
 simp only[Ca,jT,fZ,J5,seval, -List.reduceReplicate]
 refine PO (n:=n) (r0:=false) (by simp only[ae,vR,seval, -List.reduceReplicate]) hl hp (by omega) ?_
 simp only[Ca,jT,fZ,J5,seval, -List.reduceReplicate]
 have Zt:aT n≤9376:=by unfold aT;omega
 have hW: ∀ k:Nat,k≤aT n→cnt+(k:Int)+1=at_→bG at_ cnt (aT n+1)=true:=fun k hk h=>decide_eq_true (by omega)
 have ZB: ∀ {s:AS} {G:Nat→Int},bG at_ cnt (aT n+1)=true→s.box 2=some ⟨true,[Sum.inl (.slice none 0 0)]⟩→s.box 3=some ⟨true,[Sum.inl (.int .i64 at_)]⟩→s.box 4=some ⟨true,ai .u8 (64*m) G⟩→G=lE f a n q pf kn kb (eE cut) (at_ - cnt - 1).toNat→
   eX Tryz.prog [] 7 (bG at_ cnt (aT n+1)) ga (fun v out=>v=Sum.inr []∧out=lk (dg m (nF f a n q pf) (cnt+(aT n:Nat)+1))) (fun out=>out=lk (dg m (lE f a n q pf kn kb (eE cut) (at_ - cnt - 1).toNat) at_)) (.panic ga) s:=fun {s G} hf h2 h3 h4 e=>by
  subst e
  unfold eX
  rw[if_pos hf]
  exact yy (by decide) h2 h3 h4
 refine mQ (aT n) (fun k t=> ¬ (cnt < at_∧at_≤cnt+k)∧((k=0∧t=pF (ry a (aT n) k) (pJ m f (cI at_ cut ks) kc ps (cnt+k) (Sum.inl (.slice none 0 0)) (bJ q sv) (aT n) (iL n pf)) 61)∨
  (0 < k∧ ∃ c es,gj es ((fU a n pf).take k) c∧t=pF (ry a (aT n) k) ((60,⟨true,es⟩)::pJ m f (cI at_ cut ks) kc ps (cnt+k) (Sum.inr (.inr (60,0,k,c))) (bJ q sv) (aT n) (iL n pf)) 61))) ?_ ?_ ?_ ?_
 ·rintro k t ⟨_,⟨_,rfl⟩ | ⟨_,_,_,_,rfl⟩⟩<;>(show (13:Nat)≤61;decide)
 ·refine ⟨_,⟨by omega, .inl ⟨rfl,rfl⟩⟩,ev.qa ?_⟩
  simp only[ry,pJ,Int.add_zero,bj,fw,vR,seval, -List.reduceReplicate]
  exact ⟨⟨(by decide:4 < 61),rfl⟩,ZA (by decide),⟨trivial,rfl⟩,ao hk.c,dY fun n hn=>by omega,lW (hok (by decide))⟩
 ·rintro k t hk2 ⟨hs,hI⟩
  have hbk:=IW (a:=a) (pf:=pf) hk2
  have xR:((fU a n pf).take k).length=k:=by rw[List.length_take,mh];omega
  have e1:List.take 64 (List.drop (k*64) (ai .u8 (64*aT n) (iL n pf)))=ai .u8 64 (fun i=>iL n pf (k*64+i)):=mC _ _ _ _ _ (by omega)
  have e2:(k*64+64≤64*aT n)=True:=eq_true (by omega)
  have a3:IntKind.i64.wrap ((a:Int)+1)=((a+1:Nat):Int):=by rw[wrap_i64 _ (by omega) (by omega)];omega
  have a4:IntKind.i64.wrap (((a+1:Nat):Int)+(k:Int))=((a+1+k:Nat):Int):=by rw[wrap_i64 _ (by omega) (by omega)];omega
  have e5:bG at_ cnt (aT n+1)=true→(at_ - cnt - 1).toNat=k→fT (dT f (dO kn kb 0 ((fU a n pf).take k))) (a+1+k) (eE cut) (fun i=>iL n pf (k*64+i))=lE f a n q pf kn kb (eE cut) (at_ - cnt - 1).toNat:=fun _ e=>by
   unfold lE
   rw[e,if_pos hk2]
  have qc: ∀ k:Nat, ¬ (cnt < at_∧at_≤cnt+k)→cnt+k+1≠at_→ ¬ (cnt < at_∧at_≤cnt+(k+1:Nat)):=fun k h h2=>by omega
  have c1:cnt+(k:Int)+1=cnt+((k+1:Nat):Int):=by omega
  rcases hI with ⟨ui,rfl⟩ | ⟨ui,c,es,hg,rfl⟩
  ·by_cases pG:cnt+k+1=at_
   ·simp only[ry,pJ,aF,aP hk2,decide_true,e1,e2,a3,a4,bU k (by omega),bj,bI,aq,ay,bK,bm,fw,vR,seval, -List.reduceReplicate]
    refine .inr ⟨by kernel_rfl, ?_⟩
    simp only[ry,pJ,aF,aP hk2,decide_true,e1,e2,a3,a4,bU k (by omega),bj,bI,aq,ay,bK,bm,fw,vR,seval, -List.reduceReplicate]
    refine ph (m:=m) (f:=f) (kc:=kc) (cut:=cut) (at_:=at_) (cnt:=cnt+k) ⟨?_, ?_, ?_, ?_, ?_, ?_⟩ hk (by omega) (by omega) (by omega) (by omega) pG ?_<;>try (simp only[aq,ay,vR,seval, -List.reduceReplicate];done)
    simp only[fh,fI]
    refine ZB (G:=fT f (a+1+k) (eE cut) fun i=>iL n pf (k*64+i)) (hW k (by omega) pG) ?_ ?_ ?_ ?_
    ·simp only[ae,vR,seval, -List.reduceReplicate]
    ·simp only[pG,ae,vR,seval, -List.reduceReplicate]
    ·simp only[ae,vR,seval, -List.reduceReplicate]
    ·rw[← e5 (hW k (by omega) pG) (by omega)]
     subst ui
     rfl
   ·simp only[ry,pJ,aF,aP hk2,decide_true,e1,e2,a3,a4,bU k (by omega),bj,bI,aq,ay,bK,bm,fw,vR,seval, -List.reduceReplicate]
    refine .inl ?_
    refine xO (m:=m) (f:=f) (kc:=kc) (cut:=cut) (at_:=at_) (cnt:=cnt+k) ⟨?_, ?_, ?_, ?_, ?_, ?_⟩ hk (by omega) (by omega) pG fun c es hg=> ?_
    all_goals try (simp only[aq,ay,vR,seval, -List.reduceReplicate];done)
    simp only[ry,pJ,aF,aP hk2,decide_true,e1,e2,a3,a4,bU k (by omega),bj,bI,aq,ay,bK,bm,fw,vR,seval, -List.reduceReplicate]
    refine ⟨_,⟨qc k hs pG, .inr ⟨by omega,c,es, ?_,rfl⟩⟩, ?_⟩
    ·rw[take_succ hbk,ui]
     subst ui
     exact hg
    ·refine NW (m':=13) (a:=a) (N:=aT n) (k:=k+1) (m:=m) (c:=c) (q:=75) (f:=f) (g:=iL n pf) (pc:=cI at_ cut ks) (kc:=kc) (ps:=ps) (rl:=bJ q sv) (es:=es) (cnt:=cnt+((k+1:Nat):Int)) (by decide) (by decide) (?_) (ZA (by decide)) hk.c hp (lW (hok (by decide))) hg.shows.plain (?_) (?_) (?_)
     ·simp only[ry,J5,seval, -List.reduceReplicate]
     ·subst ui
      simp only[J5,seval, -List.reduceReplicate]
     ·simp only[J5,seval, -List.reduceReplicate]
     ·subst ui
      simp only[pJ,xR,c1,J5,seval, -List.reduceReplicate]
      simp[Int.add_zero]
  ·by_cases pG:cnt+k+1=at_
   ·simp only[ry,pJ,aF,aP hk2,decide_true,e1,e2,a3,a4,bU k (by omega),bj,bI,aq,ay,bK,bm,fw,vR,seval, -List.reduceReplicate]
    refine .inr ⟨by kernel_rfl, ?_⟩
    simp only[ry,pJ,aF,aP hk2,decide_true,e1,e2,a3,a4,bU k (by omega),bj,bI,aq,ay,bK,bm,fw,vR,seval, -List.reduceReplicate]
    refine A8 (m:=m) (f:=f) (kc:=kc) (cut:=cut) (at_:=at_) (cnt:=cnt+k) (L:=(fU a n pf).take k) (w:=60) (c0:=c) (wc:=es) ⟨?_, ?_, ?_, ?_, ?_, ?_⟩ ?_ (by decide) hg (fun h=>by rw[h]at xR;simp at xR;omega) (by rw[xR];omega) (IX (Ea ha)) hk (by omega) (by omega) (by omega) (by omega) pG ?_<;>try (simp only[xR,aq,ay,vR,seval, -List.reduceReplicate];done)
    simp only[fh,fI]
    refine ZB (G:=fT (dT f (dO kn kb 0 ((fU a n pf).take k))) (a+1+k) (eE cut) fun i=>iL n pf (k*64+i)) (hW k (by omega) pG) ?_ ?_ ?_ ?_
    ·simp only[ae,vR,seval, -List.reduceReplicate]
    ·simp only[pG,ae,vR,seval, -List.reduceReplicate]
    ·simp only[ae,vR,seval, -List.reduceReplicate]
    ·exact e5 (hW k (by omega) pG) (by omega)
   ·simp only[ry,pJ,aF,aP hk2,decide_true,e1,e2,a3,a4,bU k (by omega),bj,bI,aq,ay,bK,bm,fw,vR,seval, -List.reduceReplicate]
    refine .inl ?_
    refine xQ (m:=m) (f:=f) (kc:=kc) (cut:=cut) (at_:=at_) (cnt:=cnt+k) (L:=(fU a n pf).take k) (w:=60) (c0:=c) (wc:=es) ⟨?_, ?_, ?_, ?_, ?_, ?_⟩ ?_ (by decide) hg (fun h=>by rw[h]at xR;simp at xR;omega) (by rw[xR];omega) hk (by omega) (by omega) pG fun c' es' hg'=> ?_
    all_goals try (simp only[xR,aq,ay,vR,seval, -List.reduceReplicate];done)
    simp only[ry,pJ,aF,aP hk2,decide_true,e1,e2,a3,a4,bU k (by omega),bj,bI,aq,ay,bK,bm,fw,vR,seval, -List.reduceReplicate]
    refine ⟨_,⟨qc k hs pG, .inr ⟨by omega,c',es', ?_,rfl⟩⟩, ?_⟩
    ·rw[take_succ hbk]
     exact hg'
    ·refine NW (m':=13) (a:=a) (N:=aT n) (k:=k+1) (m:=m) (c:=c') (q:=75) (f:=f) (g:=iL n pf) (pc:=cI at_ cut ks) (kc:=kc) (ps:=ps) (rl:=bJ q sv) (es:=es') (cnt:=cnt+((k+1:Nat):Int)) (by decide) (by decide) (?_) (ZA (by decide)) hk.c hp (lW (hok (by decide))) hg'.shows.plain (?_) (?_) (?_)
     ·simp only[ry,J5,seval, -List.reduceReplicate]
     ·simp only[xR,J5,seval, -List.reduceReplicate]
     ·simp only[J5,seval, -List.reduceReplicate]
     ·simp only[pJ,xR,c1,J5,seval, -List.reduceReplicate]
 ·rintro t ⟨hs,hI⟩
  have xR:(fU a n pf).take (aT n)=fU a n pf:=List.take_of_length_le (by rw[mh];exact Nat.le_refl _)
  rcases hI with ⟨ui,rfl⟩ | ⟨ui,c,es,hg,rfl⟩
  ·simp only[ry,pJ,aF,Int.lt_irrefl,decide_false,bj,bI,aq,ay,bK,bm,fw,vR,seval, -List.reduceReplicate]
   refine IV (m:=m) (f:=f) (kc:=kc) (cut:=cut) (at_:=at_) (cnt:=cnt+aT n) ⟨?_, ?_, ?_, ?_, ?_, ?_⟩ hk (by omega) ?_<;>try (simp only[aq,ay,vR,seval, -List.reduceReplicate];done)
   have hb0:fU a n pf=[]:=List.length_eq_zero_iff.1 (by rw[mh];exact ui)
   simp only[ry,pJ,aF,bj,bI,aq,ay,bK,bm,fw,vR,seval, -List.reduceReplicate]
   by_cases pG:cnt+aT n+1=at_
   ·refine .inr ⟨by kernel_rfl, ?_⟩
    simp only[ry,pJ,aF,bj,bI,aq,ay,bK,bm,fw,vR,seval, -List.reduceReplicate]
    refine eW (by kernel_rfl) [0,1,2,3] [4] [] [] [7,8] [28,29,30,31,32] (by kernel_rfl) (by kernel_rfl) (by kernel_rfl) ?_
    simp only[ry,pJ,aF,bj,bI,aq,ay,bK,bm,fw,vR,seval, -List.reduceReplicate]
    refine ⟨Nat.le_of_eq fZ.symm, ?_⟩
    rw[jT]
    refine l8 (n:=n) (r0:=false) (by simp only[aq,ay,ae,vR,seval, -List.reduceReplicate]) hl hp hpf (by omega) ?_
    simp only[ry,pJ,aF,bj,bI,aq,ay,bK,bm,fw,vR,seval, -List.reduceReplicate]
    refine ph (m:=m) (f:=f) (kc:=kc) (cut:=cut) (at_:=at_) (cnt:=cnt+aT n) ⟨?_, ?_, ?_, ?_, ?_, ?_⟩ hk (by omega) (by omega) (by omega) (by omega) pG ?_<;>try (simp only[aq,ay,ae,vR,seval, -List.reduceReplicate];done)
    simp only[fI]
    refine ZB (G:=fT (f) a (eE cut) (lC q n pf)) (hW (aT n) (by omega) pG) ?_ ?_ ?_ ?_
    ·simp only[ae,vR,seval, -List.reduceReplicate]
    ·simp only[pG,ae,vR,seval, -List.reduceReplicate]
    ·simp only[ae,vR,seval, -List.reduceReplicate]
    ·unfold lE
     rw[if_neg (by omega),hb0,mS]
   ·refine .inl ?_
    refine eW (by kernel_rfl) [0,1,2,3] [4,5] [] [] [7,8] [28,29,30,31,32,33] (by kernel_rfl) (by kernel_rfl) (by kernel_rfl) ?_
    simp only[ry,pJ,aF,bj,bI,aq,ay,bK,bm,fw,vR,seval, -List.reduceReplicate]
    refine ⟨Nat.le_of_eq fZ.symm, ?_⟩
    rw[jT]
    refine l8 (n:=n) (r0:=false) (by simp only[aq,ay,ae,vR,seval, -List.reduceReplicate]) hl hp hpf (by omega) ?_
    simp only[ry,pJ,aF,bj,bI,aq,ay,bK,bm,fw,vR,seval, -List.reduceReplicate]
    refine uX (m:=m) (f:=f) (kc:=kc) (cut:=cut) (at_:=at_) (cnt:=cnt+aT n) ⟨?_, ?_, ?_, ?_, ?_, ?_⟩ hk (by omega) (by omega) pG fun c es fS=> ?_
    all_goals try (simp only[aq,ay,ae,vR,seval, -List.reduceReplicate];done)
    simp only[ry,pJ,aF,bj,bI,aq,ay,bK,bm,fw,vR,seval, -List.reduceReplicate]
    refine nD (m:=m) (f:=f) (kc:=kc) (cut:=cut) (at_:=at_) (cnt:=cnt+aT n+1) (L:=[(a,lC q n pf)]) (w:=73) (c0:=c) (wc:=es) ⟨?_, ?_, ?_, ?_, ?_, ?_⟩ ?_ (by decide) fS (by simp) (by simp) (fun p hp=>by rw[List.mem_singleton]at hp;subst hp;simp only;omega) hk (by omega) ?_<;>try (simp only[List.length_singleton,aq,ay,ae,vR,seval, -List.reduceReplicate];done)
    simp only[ry,pJ,aF,bj,bI,aq,ay,bK,bm,fw,vR,seval, -List.reduceReplicate]
    unfold eX
    rw[if_neg (fun h=>by have h9:=of_decide_eq_true h;omega)]
    refine Fu (by rfl) (by decide) ?_ ?_ ?_<;>try (simp only[ae,vR,seval, -List.reduceReplicate];done)
    simp only[ae,vR,seval, -List.reduceReplicate]
    unfold nF
    rw[IY,hb0,mS]
  ·simp only[ry,pJ,aF,Int.lt_irrefl,decide_false,bj,bI,aq,ay,bK,bm,fw,vR,seval, -List.reduceReplicate]
   have VN:(fU a n pf).length=aT n:=mh
   rw[xR]at hg
   refine nD (m:=m) (f:=f) (kc:=kc) (cut:=cut) (at_:=at_) (cnt:=cnt+aT n) (L:=fU a n pf) (w:=60) (c0:=c) (wc:=es) ⟨?_, ?_, ?_, ?_, ?_, ?_⟩ ?_ (by decide) hg (fun h=>by rw[h]at VN;simp at VN;omega) (by rw[VN];omega) (Ea ha) hk (by omega) ?_<;>try (simp only[VN,aq,ay,vR,seval, -List.reduceReplicate];done)
   simp only[ry,pJ,aF,bj,bI,aq,ay,bK,bm,fw,vR,seval, -List.reduceReplicate]
   by_cases pG:cnt+aT n+1=at_
   ·refine .inr ⟨by kernel_rfl, ?_⟩
    simp only[ry,pJ,aF,bj,bI,aq,ay,bK,bm,fw,vR,seval, -List.reduceReplicate]
    refine eW (by kernel_rfl) [0,1,2,3] [4] [] [] [7,8] [28,29,30,31,32] (by kernel_rfl) (by kernel_rfl) (by kernel_rfl) ?_
    simp only[ry,pJ,aF,bj,bI,aq,ay,bK,bm,fw,vR,seval, -List.reduceReplicate]
    refine ⟨Nat.le_of_eq fZ.symm, ?_⟩
    rw[jT]
    refine l8 (n:=n) (r0:=false) (by simp only[aq,ay,ae,vR,seval, -List.reduceReplicate]) hl hp hpf (by omega) ?_
    simp only[ry,pJ,aF,bj,bI,aq,ay,bK,bm,fw,vR,seval, -List.reduceReplicate]
    refine ph (m:=m) (f:=dT f (fU a n pf)) (kc:=kc) (cut:=cut) (at_:=at_) (cnt:=cnt+aT n) ⟨?_, ?_, ?_, ?_, ?_, ?_⟩ hk (by omega) (by omega) (by omega) (by omega) pG ?_<;>try (simp only[aq,ay,ae,vR,seval, -List.reduceReplicate];done)
    simp only[fI]
    refine ZB (G:=fT (dT f (fU a n pf)) a (eE cut) (lC q n pf)) (hW (aT n) (by omega) pG) ?_ ?_ ?_ ?_
    ·simp only[ae,vR,seval, -List.reduceReplicate]
    ·simp only[pG,ae,vR,seval, -List.reduceReplicate]
    ·simp only[ae,vR,seval, -List.reduceReplicate]
    ·unfold lE
     rw[if_neg (by omega)]
   ·refine .inl ?_
    refine eW (by kernel_rfl) [0,1,2,3] [4,5] [] [] [7,8] [28,29,30,31,32,33] (by kernel_rfl) (by kernel_rfl) (by kernel_rfl) ?_
    simp only[ry,pJ,aF,bj,bI,aq,ay,bK,bm,fw,vR,seval, -List.reduceReplicate]
    refine ⟨Nat.le_of_eq fZ.symm, ?_⟩
    rw[jT]
    refine l8 (n:=n) (r0:=false) (by simp only[aq,ay,ae,vR,seval, -List.reduceReplicate]) hl hp hpf (by omega) ?_
    simp only[ry,pJ,aF,bj,bI,aq,ay,bK,bm,fw,vR,seval, -List.reduceReplicate]
    refine uX (m:=m) (f:=dT f (fU a n pf)) (kc:=kc) (cut:=cut) (at_:=at_) (cnt:=cnt+aT n) ⟨?_, ?_, ?_, ?_, ?_, ?_⟩ hk (by omega) (by omega) pG fun c es fS=> ?_
    all_goals try (simp only[aq,ay,ae,vR,seval, -List.reduceReplicate];done)
    simp only[ry,pJ,aF,bj,bI,aq,ay,bK,bm,fw,vR,seval, -List.reduceReplicate]
    refine nD (m:=m) (f:=dT f (fU a n pf)) (kc:=kc) (cut:=cut) (at_:=at_) (cnt:=cnt+aT n+1) (L:=[(a,lC q n pf)]) (w:=73) (c0:=c) (wc:=es) ⟨?_, ?_, ?_, ?_, ?_, ?_⟩ ?_ (by decide) fS (by simp) (by simp) (fun p hp=>by rw[List.mem_singleton]at hp;subst hp;simp only;omega) hk (by omega) ?_<;>try (simp only[List.length_singleton,aq,ay,ae,vR,seval, -List.reduceReplicate];done)
    simp only[ry,pJ,aF,bj,bI,aq,ay,bK,bm,fw,vR,seval, -List.reduceReplicate]
    unfold eX
    rw[if_neg (fun h=>by have h9:=of_decide_eq_true h;omega)]
    refine Fu (by rfl) (by decide) ?_ ?_ ?_<;>try (simp only[ae,vR,seval, -List.reduceReplicate];done)
    simp only[ae,vR,seval, -List.reduceReplicate]
    unfold nF
    rw[IY]
end Go.Proofs.YtaeagfdnfjenlaaGreatDoor
