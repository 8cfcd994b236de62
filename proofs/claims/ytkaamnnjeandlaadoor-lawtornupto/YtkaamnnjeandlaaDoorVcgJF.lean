/-
  The disk's own functions: its size, what it reads, a flush.
-/
import Derived.Test.YtkaamnnjeandlaaDoorVcgWM
import Derived.Test.YtkaamnnjeandlaaDoorVcgJE
import Derived.Test.YtkaamnnjeandlaaDoorVcgRf
import Derived.Test.YtkaamnnjeandlaaDoorVcgWV
import Derived.Test.YtkaamnnjeandlaaDoorVcgWX
import Derived.Test.YtkaamnnjeandlaaDoorVcgDk
import Derived.Test.YtkaamnnjeandlaaDoorVcgPz
import Derived.Test.YtkaamnnjeandlaaDoorVcgWj
import Derived.Test.YtkaamnnjeandlaaDoorVcgFv
import Derived.Test.YtkaamnnjeandlaaDoorVcgWi
import Derived.Test.YtkaamnnjeandlaaDoorVcgJ
import Derived.Test.YtkaamnnjeandlaaDoorVcgFacts
import Derived.Test.YtkaamnnjeandlaaDoorVcgH1
set_option maxHeartbeats 8000000
set_option maxRecDepth 20000
set_option linter.unusedSimpArgs false
set_option linter.unusedVariables false
set_option linter.unusedSectionVars false
namespace Go.Proofs.YtkaamnnjeandlaaDoor
open Go.bM
variable [aV]
def pt (n:Nat):Value:= .pointer (some ⟨n,0,none⟩)
def eE (bs bp bw bn:Nat):List SV:=[Sum.inl (.func (.func 28) #[] #[pt bn,pt bp,pt bs,pt bw]),Sum.inl (.func (.func 32) #[] #[pt bs,pt bw]),Sum.inl (.func (.func 33) #[] #[pt bw,pt bs]),Sum.inl (.func (.func 35) #[] #[pt bs])]
def ju (m:Nat) (f:Nat→Int) (pc nc kc:List SV):List (Nat×aG):=[(0,⟨false,[Sum.inr (.inr (4,0,m,m))]⟩),(1,⟨false,pc⟩),(2,⟨false,[Sum.inl (.slice none 0 0)]⟩),(3,⟨false,nc⟩),(4,⟨false,aA .u8 (64*m) f⟩),(5,⟨false,kc⟩)]
structure fY (pc nc kc:List SV):Prop where
 p: ∀ x ∈ pc,SV.ok (fun n=>n=5) x
 n:nc.all SV.plain=true
 k:kc.all SV.plain=true
theorem ke {m:Nat} {f:Nat→Int} {pc nc kc:List SV}: ∀ n,n < 6→ ∃ c,lk (ju m f pc nc kc) n=some c:=fun n hn=>by
 rcases (show n=0∨n=1∨n=2∨n=3∨n=4∨n=5 by omega) with rfl | rfl | rfl | rfl | rfl | rfl<;>exact ⟨_,rfl⟩
theorem kg {m:Nat} {f:Nat→Int} {pc nc kc:List SV} (h:fY pc nc kc): ∀ n c,lk (ju m f pc nc kc) n=some c→n < 6∧ ∀ x ∈ c.cells,SV.ok (fun n=>n < 6) x:=fun n c hn=>by
 have h1:=bg _ _ _ hn
 simp only[ju,cz,Prod.mk.injEq]at h1
 rcases h1 with ⟨rfl,rfl⟩ | ⟨rfl,rfl⟩ | ⟨rfl,rfl⟩ | ⟨rfl,rfl⟩ | ⟨rfl,rfl⟩ | ⟨rfl,rfl⟩
 ·exact ⟨by decide,fun x hx=>by rw[List.mem_singleton]at hx;subst hx;exact ⟨(by decide:4 < 6),rfl⟩⟩
 ·exact ⟨by decide,fun x hx=>SV.aI (fun n hn=>by subst hn;decide) (h.p x hx)⟩
 ·exact ⟨by decide,fun x hx=>by rw[List.mem_singleton]at hx;subst hx;exact ⟨trivial,rfl⟩⟩
 ·exact ⟨by decide,ai h.n⟩
 ·exact ⟨by decide,ai aD⟩
 ·exact ⟨by decide,ai h.k⟩
theorem M9 {m:Nat} {f:Nat→Int} {pc nc kc:List SV} (h:fY pc nc kc):
  bC Tryd.prog 35 [Ptr 0 0] 6 (lk (ju m f pc nc kc)) (fun v out=>v=I .i64 m∧out=fun _=>none):=by
 refine aU Tryd.func35 rfl (by kernel_rfl) (by simp[Tryd.ntmps35]) Tryd.qh (by simp[AV.ok,CV.ok,SV.names]) ke (kg h) ?_
 simp only[Tryd.results35,ju,vR,seval, -List.reduceReplicate]
 exact aL rfl ⟨rfl,rfl⟩
theorem Na {lp:Nat}:bC Tryd.prog 60 [V (.func (.yield lp) #[] #[]),Ptr 0 0] 1 (lk [(0,⟨false,[Sum.inl (.slice none 0 0)]⟩)]) (fun v out=>v=Sum.inr []∧out=fun _=>none):=by
 refine aU Tryd.func60 rfl (by kernel_rfl) (by simp[Tryd.ntmps60]) Tryd.F7 (by simp[AV.ok,CV.ok,SV.names];exact dY rfl) j0 (j5 rfl) ?_
 have w1:IntKind.i64.wrap (-1)= -1:=by decide
 simp only[Tryd.results60,vR,seval, -List.reduceReplicate]
 refine bY 0 (fun k=>[(3,I .i64 (-1))]) (fun k=>[]) _ ?_ ?_ ?_
 ·simp only[w1,vR,seval, -List.reduceReplicate]
 ·intro j hj;omega
 ·simp only[vR,seval, -List.reduceReplicate]
  refine cy (by decide) ?_
  simp only[vR,seval, -List.reduceReplicate]
  exact aL rfl ⟨rfl,rfl⟩
theorem Gm:bC Tryd.prog 49 [V (.slice none 0 0)] 0 (fun _=>none) (fun v out=>v=V (.func (.func 60) #[] #[pt 0])∧out=lk [(0,⟨true,[Sum.inl (.slice none 0 0)]⟩)]):=by
 refine aU Tryd.func49 rfl (by kernel_rfl) (by simp[Tryd.ntmps49]) Tryd.qq (by simp[AV.ok,CV.ok,SV.names]) OE OG ?_
 simp only[Tryd.results49,wu,bm,vR,seval, -List.reduceReplicate]
 refine ⟨0,V (.func (.func 60) #[] #[pt 0]),lk [(0,⟨true,[Sum.inl (.slice none 0 0)]⟩)],Nat.le_refl _,rfl, ?_,fun n b hb=> ?_,rfl,rfl⟩
 ·intro c hc
  have:c=pt 0:=by simpa using hc
  subst this
  exact (by decide:0 < 0+1)
 ·obtain ⟨rfl,rfl⟩:=HM hb
  exact ⟨by decide,fun _=>rfl,ai rfl,_,rfl,fun _=>rfl,rfl⟩
theorem Nb {a:Int} {d:Nat→Int}:bC Tryd.prog 34 [V (.slice none 0 0),I .i64 a,Ag (aA .u8 64 d)] 0 (fun _=>none) (fun v out=>v=Ag (aA .u8 64 d)∧out=fun _=>none):=by
 refine wQ Tryd.func34 rfl (by kernel_rfl) (by kernel_rfl) [] (by simp[Tryd.ntmps34]) Tryd.F4 (by simp[AV.ok,CV.ok,SV.names];exact ai aD) OE OG ?_
 simp only[Tryd.results34,bm,bq,aS,vR,seval, -List.reduceReplicate]
 refine Gm.aB (fun n=>n) none Dj rfl ?_
 rintro v out ⟨rfl,rfl⟩ _
 rw[dv rfl]
 have e1:AV.ren (dy (fun n=>n) 0 4) (V (.func (.func 60) #[] #[pt 0]))=V (.func (.func 60) #[] #[pt 4]):=rfl
 rw[e1]
 simp only[bm,bq,aS,vR,seval, -List.reduceReplicate]
 refine ⟨Pg (eY:=true) (cs:=[Sum.inl (.slice none 0 0)]) (fun lp=>Na) (by simp only[ae,vR,seval, -List.reduceReplicate]) rfl, ?_⟩
 exact aL aD ⟨rfl,rfl⟩
theorem RR {m a:Nat} {f:Nat→Int} {pc nc kc:List SV} (h:fY pc nc kc) (ha:a < m) (hm:m≤1048576):
  bC Tryd.prog 33 [I .i64 a,Ptr 2 0,Ptr 0 0] 6 (lk (ju m f pc nc kc)) (fun v out=>v=Ag (aA .u8 64 (fun i=>f (a*64+i)))∧out=fun _=>none):=by
 refine aU Tryd.func33 rfl (by kernel_rfl) (by simp[Tryd.ntmps33]) Tryd.qg (by simp[AV.ok,CV.ok,SV.names]) ke (kg h) ?_
 have e1:List.take 64 (List.drop (a*64) (aA .u8 (64*m) f))=aA .u8 64 (fun i=>f (a*64+i)):=kE _ _ _ _ _ (by omega)
 have e2:(a*64+64≤64*m)=True:=eq_true (by omega)
 simp only[Tryd.results33,ju,aE,aJ ha,e1,e2,vR,seval, -List.reduceReplicate]
 refine ⟨by kernel_rfl,(Nb (a:=a) (d:=fun i=>f (a*64+i))).iC (fun n=>n) Dj aD (by simp only[List.map_cons,List.map_nil,HS,jP,pB]) (fun M h m hm=>absurd hm (by omega)) ?_⟩
 simp only[vR,seval, -List.reduceReplicate]
 exact aL aD ⟨rfl,rfl⟩
def wR (L:List Pd) (ws:SV) (su:Bool) (wc:List SV):Prop:=
 (L=[]∧ws= .inl (.slice none 0 0)∧su=false∧ ∀ x ∈ wc,SV.ok (fun n=>n=5) x)∨(L≠[]∧su=true∧ ∃ c,ws= .inr (.inr (6,0,L.length,c))∧fb wc L c)
theorem wR.ok {L:List Pd} {ws:SV} {su:Bool} {wc:List SV} (h:wR L ws su wc) {M:Nat→Prop} (hM:M 6):SV.ok M ws:=by
 rcases h with ⟨_,rfl,_,_⟩ | ⟨_,_,c,rfl,_⟩
 ·exact ⟨trivial,rfl⟩
 ·exact ⟨hM,rfl⟩
theorem wR.Y7 {L:List Pd} {ws:SV} {su:Bool} {wc:List SV} (h:wR L ws su wc) {M:Nat→Prop} (hM:M 5): ∀ x ∈ wc,SV.ok M x:=by
 rcases h with ⟨_,_,_,h⟩ | ⟨_,_,c,_,h⟩
 ·exact fun x hx=>SV.aI (fun n hn=>by subst hn;exact hM) (h x hx)
 ·exact ai h.shows.plain
def Bg (m:Nat) (f:Nat→Int) (pc kc:List SV) (cnt:Int) (ws:SV) (su:Bool) (wc:List SV):List (Nat×aG):=
 [(0,⟨false,[Sum.inr (.inr (4,0,m,m))]⟩),(1,⟨false,pc⟩),(2,⟨true,[ws]⟩),(3,⟨true,[Sum.inl (.int .i64 cnt)]⟩),(4,⟨true,aA .u8 (64*m) f⟩),(5,⟨false,kc⟩),(6,⟨su,wc⟩)]
structure Gn (pc kc:List SV) (L:List Pd) (ws:SV) (su:Bool) (wc:List SV):Prop where
 p: ∀ x ∈ pc,SV.ok (fun n=>n=5) x
 k:kc.all SV.plain=true
 w:wR L ws su wc
theorem Bh {m:Nat} {f:Nat→Int} {pc kc:List SV} {cnt:Int} {ws:SV} {su:Bool} {wc:List SV}: ∀ n,n < 7→ ∃ c,lk (Bg m f pc kc cnt ws su wc) n=some c:=fun n hn=>by
 rcases (show n=0∨n=1∨n=2∨n=3∨n=4∨n=5∨n=6 by omega) with rfl | rfl | rfl | rfl | rfl | rfl | rfl<;>exact ⟨_,rfl⟩
theorem RS {m:Nat} {f:Nat→Int} {pc kc:List SV} {cnt:Int} {L:List Pd} {ws:SV} {su:Bool} {wc:List SV} (h:Gn pc kc L ws su wc) {k:Nat} (hk:7≤k): ∀ x ∈ Bg m f pc kc cnt ws su wc,x.1 < 7∧ ∀ y ∈ x.2.cells,SV.ok (fun n=>n < k) y:=fun x hx=>by
 simp only[Bg,cz]at hx
 rcases hx with rfl | rfl | rfl | rfl | rfl | rfl | rfl
 ·exact ⟨(by decide:0 < 7),fun x hx=>by rw[List.mem_singleton]at hx;subst hx;exact ⟨(by omega:4 < k),rfl⟩⟩
 ·exact ⟨(by decide:1 < 7),fun x hx=>SV.aI (fun n hn=>by subst hn;omega) (h.p x hx)⟩
 ·exact ⟨(by decide:2 < 7),fun x hx=>by rw[List.mem_singleton]at hx;subst hx;exact h.w.ok (by omega:6 < k)⟩
 ·exact ⟨(by decide:3 < 7),ai rfl⟩
 ·exact ⟨(by decide:4 < 7),ai aD⟩
 ·exact ⟨(by decide:5 < 7),ai h.k⟩
 ·exact ⟨(by decide:6 < 7),h.w.Y7 (by omega:5 < k)⟩
theorem Bi {m:Nat} {f:Nat→Int} {pc kc:List SV} {cnt:Int} {L:List Pd} {ws:SV} {su:Bool} {wc:List SV} (h:Gn pc kc L ws su wc): ∀ n c,lk (Bg m f pc kc cnt ws su wc) n=some c→n < 7∧ ∀ x ∈ c.cells,SV.ok (fun n=>n < 7) x:=fun n c hn=>RS h (Nat.le_refl 7) _ (bg _ _ _ hn)
theorem dD {s:AS} {k q:Nat} {v0 v:AV} {l:List (Nat×aG)} {Post:AV→(Nat→Option aG)→Prop} (hq:k≤q) (hv:v=AV.ren (iT k q) v0) (hok:AV.ok (fun n=>n < k+1) v0)
  (hl: ∀ x ∈ l,x.1 < k+1∧(x.1=k→x.2.rw=true)∧(∀ y ∈ x.2.cells,SV.ok (fun n=>n < k+1) y)∧s.box (iT k q x.1)=some ⟨x.2.rw,x.2.cells.map (SV.ren (iT k q))⟩) (h:Post v0 (lk l)):nA k Post v s:=
 ⟨q,v0,lk l,hq,hv,hok,fun n b hb=>by
  obtain ⟨h1,h2,h3,h4⟩:=hl _ (bg _ _ _ hb)
  exact ⟨h1,h2,h3,_,h4,fun h=>h,rfl⟩,h⟩
theorem Ec {s:AS} {nm t u m c c':Nat} {rw':Bool} {f:Nat→Int} {L:List Pd} {cs:List SV} (hb:s.box t=some ⟨true,aA .u8 (64*m) f⟩) (hb':s.box u=some ⟨rw',cs⟩) (hne:t≠u) (hs:ji cs L) (hL:Fit m L) (hm:m≤1048576) (hl:L.length < 1048576) {dst:Option Nat} {K:AS→Prop}
  (hk:K (({ s with box:=upd s.box t (some ⟨true,aA .u8 (64*m) (eh f L)⟩) }:AS).put dst (some (Sum.inr [])))):aB Tryd.prog nm 29 (some [Sl t 0 m c,Sl u 0 L.length c']) dst K s:=by
 refine (D9 (c:=c) (c':=c') hs hL hm hl).aB (two t u) (some 0) (M5 hb aD hb' hs.plain hne) rfl ?_
 rintro v out ⟨rfl,rfl⟩ _
 rw[M6 aD]
 exact hk
theorem Bj {s:AS} {nm t m c:Nat} {rw':Bool} {f:Nat→Int} (hb:s.box t=some ⟨rw',aA .u8 (64*m) f⟩) {dst:Option Nat} {K:AS→Prop}
  (hk:K (s.put dst (some (Sum.inr [])))):aB Tryd.prog nm 29 (some [Sl t 0 m c,V (.slice none 0 0)]) dst K s:=
 (Ea (m:=m) (c:=c) (f:=f)).iB (fun _=>t) (dU hb aD) rfl rfl hk
theorem IE {m:Nat} {f:Nat→Int} {pc kc:List SV} {cnt:Int} {L:List Pd} {ws:SV} {su:Bool} {wc:List SV} (h:Gn pc kc L ws su wc) (hL:Fit m L) (hm:m≤1048576) (hl:L.length < 1048576):
  bC Tryd.prog 32 [Ptr 0 0,Ptr 2 0] 7 (lk (Bg m f pc kc cnt ws su wc)) (fun v out=>v=Sum.inr []∧out=lk [(2,⟨true,[Sum.inl (.slice none 0 0)]⟩),(3,⟨true,[Sum.inl (.int .i64 cnt)]⟩),(4,⟨true,aA .u8 (64*m) (eh f L)⟩)]):=by
 refine aU Tryd.func32 rfl (by kernel_rfl) (by simp[Tryd.ntmps32]) Tryd.qf (by simp[AV.ok,CV.ok,SV.names]) Bh (Bi h) ?_
 have hone:=(h.w.ok (M:=fun n=>n < 7) (by decide)).2
 have fin: ∀ {s:AS},s.box 2=some ⟨true,[Sum.inl (.slice none 0 0)]⟩→s.box 3=some ⟨true,[Sum.inl (.int .i64 cnt)]⟩→s.box 4=some ⟨true,aA .u8 (64*m) (eh f L)⟩→
   nA 7 (fun v out=>v=Sum.inr []∧out=lk [(2,⟨true,[Sum.inl (.slice none 0 0)]⟩),(3,⟨true,[Sum.inl (.int .i64 cnt)]⟩),(4,⟨true,aA .u8 (64*m) (eh f L)⟩)]) (Sum.inr []) s:=fun h2 h3 h4=>by
  refine dD (q:=7) (v0:=Sum.inr []) (Nat.le_refl _) rfl (fun x hx=>(by cases hx)) (fun x hx=> ?_) ⟨rfl,rfl⟩
  simp only[cz]at hx
  rcases hx with rfl | rfl | rfl
  ·exact ⟨(by decide:2 < 8),fun _=>rfl,ai rfl,h2⟩
  ·exact ⟨(by decide:3 < 8),fun _=>rfl,ai rfl,h3⟩
  ·exact ⟨(by decide:4 < 8),fun _=>rfl,ai aD,by rw[az aD];exact h4⟩
 simp only[Tryd.results32,Bg,vR,seval]
 rcases h.w with ⟨rfl,rfl,rfl,hw⟩ | ⟨hne,rfl,c,rfl,hg⟩
 ·refine Bj (f:=f) (rw':=true) (by simp only[vR,seval]) ?_
  simp only[vR,seval]
  exact fin (by simp only[ae,kT,vR,seval]) (by simp only[ae,vR,seval]) (by simp only[ae,kS,vR,seval])
 ·refine Ec (f:=f) (rw':=true) (by simp only[vR,seval]) (by simp only[vR,seval]) (by decide) hg.shows hL hm hl ?_
  simp only[vR,seval]
  exact fin (by simp only[ae,kT,vR,seval]) (by simp only[ae,vR,seval]) (by simp only[ae,vR,seval])
theorem Bk {s:AS} {nm t u m c c':Nat} {rw':Bool} {f:Nat→Int} {L:List Pd} {cs:List SV} (hb:s.box t=some ⟨true,aA .u8 (64*m) f⟩) (hb':s.box u=some ⟨rw',cs⟩) (hne:t≠u) (ht:t < nm) (hs:ji cs L) (hL:Fit m L) (hm:m≤1048576) (hl:L.length < 1048576) {dst:Option Nat} {K:AS→Prop}
  (hk:K (({ s with box:=upd (upd s.box t (some ⟨true,aA .u8 (64*m) (eh f L)⟩)) nm none }:AS).put dst (some (Sum.inr [])))):bD Tryd.prog nm 29 (some [Sl t 0 m c,Sl u 0 L.length c']) dst K s:=by
 refine (D9 (c:=c) (c':=c') hs hL hm hl).wide.aB (two t u) (some 0) (M5 hb aD hb' hs.plain hne) rfl ?_
 rintro v out ⟨rfl,rfl⟩
 rw[Ki (show two t u 0 < nm from ht)]
 have e1:(lk [(0,(⟨true,aA .u8 (64*m) (eh f L)⟩:aG))] 0).map (aG.ren (aR (two t u) 2 nm))=some ⟨true,aA .u8 (64*m) (eh f L)⟩:=by
  simp[lk,aG.ren,az aD]
 have e2:(lk [(0,(⟨true,aA .u8 (64*m) (eh f L)⟩:aG))] 2).map (aG.ren (aR (two t u) 2 nm))=none:=rfl
 rw[e1,e2]
 exact hk
theorem pG {s:AS} {nm t m c:Nat} {rw':Bool} {f:Nat→Int} (hb:s.box t=some ⟨rw',aA .u8 (64*m) f⟩) {dst:Option Nat} {K:AS→Prop}
  (hk:K (({ s with box:=upd s.box nm none }:AS).put dst (some (Sum.inr [])))):bD Tryd.prog nm 29 (some [Sl t 0 m c,V (.slice none 0 0)]) dst K s:=by
 refine (Ea (m:=m) (c:=c) (f:=f)).wide.aB (fun _=>t) none (dU hb aD) rfl ?_
 rintro v out ⟨rfl,rfl⟩
 rw[dJ]
 exact hk
theorem Gp {s:AS} {nm t u kn c':Nat} {kb:Nat→Bool} {ks:SV} {rw' eY:Bool} {L:List Pd} {cs ds:List SV} (hb:s.box t=some ⟨eY,cs⟩) (hb':s.box u=some ⟨rw',ds⟩) (hs:ji cs L) (hl:L.length < 1048576) (hk:ft u ks kn kb ds) (hq:ds.all SV.plain=true) {dst:Option Nat} {K:AS→Prop}
  (h0:cZ kn kb 0 L=[]→K (({ s with box:=upd s.box nm none }:AS).put dst (some (V (.slice none 0 0)))))
  (h1: ∀ c es,fb es (cZ kn kb 0 L) c→K (({ s with box:=upd s.box nm (some ⟨true,es⟩) }:AS).put dst (some (Sl nm 0 (cZ kn kb 0 L).length c)))):bD Tryd.prog nm 30 (some [Sl t 0 L.length c',Sum.inl (Sum.inl ks)]) dst K s:=by
 obtain ⟨k0,qG,hr⟩: ∃ k0,ft 1 k0 kn kb ds∧SV.ren (two t u) k0=ks:=by
  rcases hk with ⟨⟨a,rfl⟩,h0⟩ | ⟨o,c,rfl,hs⟩
  ·exact ⟨_, .inl ⟨⟨a,rfl⟩,h0⟩,rfl⟩
  ·exact ⟨.inr (.inr (1,o,kn,c)), .inr ⟨o,c,rfl,hs⟩,rfl⟩
 refine (RP (c':=c') (ko:=0) (kc:=0) hs hl qG hq).wide.aB (two t u) none (lY hb hs.plain hb' hq) ?_ ?_
 ·show [Sl t 0 L.length c',Sum.inl (Sum.inl ks)]=[Sl t 0 L.length c',Sum.inl (Sum.inl (SV.ren (two t u) k0))]
  rw[hr]
 ·rintro v out (⟨he,rfl,rfl⟩ | ⟨he,c,tail,rfl,g1,g2,g3,rfl⟩)
  ·rw[dJ]
   exact h0 he
  ·rw[dJ]
   have e1:(lk [(2,(⟨true,tK (cZ kn kb 0 L)++tail⟩:aG))] 2).map (aG.ren (aR (two t u) 2 nm))=some ⟨true,tK (cZ kn kb 0 L)++tail⟩:=by
    simp[lk,aG.ren,az (show (tK (cZ kn kb 0 L)++tail).all SV.plain=true by rw[List.all_append,sm,g3];rfl)]
   rw[e1]
   exact h1 c _ ⟨⟨tail,rfl,g2,g3⟩,g1⟩
theorem Ed {s:AS} {nm u kn:Nat} {kb:Nat→Bool} {ks:SV} {rw':Bool} {ds:List SV} (hb':s.box u=some ⟨rw',ds⟩) (hk:ft u ks kn kb ds) (hq:ds.all SV.plain=true) {dst:Option Nat} {K:AS→Prop}
  (h0:K (({ s with box:=upd s.box nm none }:AS).put dst (some (V (.slice none 0 0))))):bD Tryd.prog nm 30 (some [V (.slice none 0 0),Sum.inl (Sum.inl ks)]) dst K s:=by
 obtain ⟨k0,qG,hr⟩: ∃ k0,ft 0 k0 kn kb ds∧SV.ren (fun _=>u) k0=ks:=by
  rcases hk with ⟨⟨a,rfl⟩,h0⟩ | ⟨o,c,rfl,hs⟩
  ·exact ⟨_, .inl ⟨⟨a,rfl⟩,h0⟩,rfl⟩
  ·exact ⟨.inr (.inr (0,o,kn,c)), .inr ⟨o,c,rfl,hs⟩,rfl⟩
 refine (RQ qG hq).wide.aB (fun _=>u) none (dU hb' hq) ?_ ?_
 ·show [V (.slice none 0 0),Sum.inl (Sum.inl ks)]=[V (.slice none 0 0),Sum.inl (Sum.inl (SV.ren (fun _=>u) k0))]
  rw[hr]
 ·rintro v out ⟨rfl,rfl⟩
  rw[dJ]
  exact h0
def cL (at_ cut:Int) (ks:SV):List SV:=[Sum.inl (.int .i64 at_),ks,Sum.inl (.int .i64 cut)]
structure fR (ks:SV) (kn:Nat) (kb:Nat→Bool) (kc:List SV):Prop where
 k:ft 5 ks kn kb kc
 c:kc.all SV.plain=true
theorem Bl {m a kn:Nat} {kb:Nat→Bool} {f d:Nat→Int} {ks:SV} {kc:List SV} {at_ cut cnt:Int} {L:List Pd} {ws:SV} {su:Bool} {wc:List SV} (h:Gn (cL at_ cut ks) kc L ws su wc) (hl:L.length < 1000000) (h0:0≤cnt) (h1:cnt < 1000000) (hne:cnt+1≠at_):
  bC Tryd.prog 28 [I .i64 a,Ag (aA .u8 64 d),Ptr 3 0,Ptr 1 0,Ptr 0 0,Ptr 2 0] 7 (lk (Bg m f (cL at_ cut ks) kc cnt ws su wc))
   (fun v out=>v=Sum.inr []∧ ∃ c cs,fb cs (L++[(a,d)]) c∧out=lk [(2,⟨true,[Sum.inr (.inr (7,0,L.length+1,c))]⟩),(3,⟨true,[Sum.inl (.int .i64 (cnt+1))]⟩),(4,⟨true,aA .u8 (64*m) f⟩),(7,⟨true,cs⟩)]):=by
 refine aU Tryd.func28 rfl (by kernel_rfl) (by simp[Tryd.ntmps28]) Tryd.mS (by simp[AV.ok,CV.ok,SV.names];exact ai aD) Bh (Bi h) ?_
 have hone:=(h.w.ok (M:=fun n=>n < 7) (by decide)).2
 have e1:IntKind.i64.wrap (cnt+1)=cnt+1:=by rw[wrap_i64 _ (by omega) (by omega)]
 have e2:(cnt+1==at_)=false:=by simpa using hne
 simp only[Tryd.results28,Bg,cL,e1,e2,kT,cO,vR,seval, -List.reduceReplicate]
 have fin: ∀ {s:AS} {c q:Nat} {cs:List SV},7≤q→fb cs (L++[(a,d)]) c→s.box 2=some ⟨true,[Sum.inr (.inr (q,0,L.length+1,c))]⟩→s.box 3=some ⟨true,[Sum.inl (.int .i64 (cnt+1))]⟩→s.box 4=some ⟨true,aA .u8 (64*m) f⟩→s.box q=some ⟨true,cs⟩→
   nA 7 (fun v out=>v=Sum.inr []∧ ∃ c cs,fb cs (L++[(a,d)]) c∧out=lk [(2,⟨true,[Sum.inr (.inr (7,0,L.length+1,c))]⟩),(3,⟨true,[Sum.inl (.int .i64 (cnt+1))]⟩),(4,⟨true,aA .u8 (64*m) f⟩),(7,⟨true,cs⟩)]) (Sum.inr []) s:=fun {s c q cs} hq hg h2 h3 h4 h7=>by
  refine dD (q:=q) (v0:=Sum.inr []) hq rfl (fun x hx=>(by cases hx)) (fun x hx=> ?_) ⟨rfl,c,cs,hg,rfl⟩
  simp only[cz]at hx
  rcases hx with rfl | rfl | rfl | rfl
  ·exact ⟨(by decide:2 < 8),fun _=>rfl,fun y hy=>by rw[List.mem_singleton]at hy;subst hy;exact ⟨(by decide:7 < 8),rfl⟩,h2⟩
  ·exact ⟨(by decide:3 < 8),fun _=>rfl,ai rfl,h3⟩
  ·exact ⟨(by decide:4 < 8),fun _=>rfl,ai aD,by rw[az aD];exact h4⟩
  ·exact ⟨(by decide:7 < 8),fun _=>rfl,ai hg.shows.plain,by rw[az hg.shows.plain];exact h7⟩
 rcases h.w with ⟨rfl,rfl,rfl,hw⟩ | ⟨hn,rfl,c,rfl,hg⟩
 ·refine zU (eY:=true) (p:=(a,d)) Tryd.zO Tryd.Ig (by simp only[ae,cO,vR,seval, -List.reduceReplicate]) (by decide) fun c3 Eb gu=> ?_
  simp only[kT,vR,seval, -List.reduceReplicate]
  exact fin (q:=20) (by decide) gu (by simp only[ae,vR,seval, -List.reduceReplicate]) (by simp only[ae,vR,seval, -List.reduceReplicate]) (by simp only[ae,vR,seval, -List.reduceReplicate]) (by simp only[ae,vR,seval, -List.reduceReplicate])
 ·refine D8 (eY:=true) (p:=(a,d)) Tryd.zO Tryd.Ig hg (by simp only[ae,vR,seval, -List.reduceReplicate]) (by simp only[ae,cO,vR,seval, -List.reduceReplicate]) (by decide) (by omega) (by decide) fun c3 Eb gu=> ?_
  simp only[kT,vR,seval, -List.reduceReplicate]
  exact fin (q:=20) (by decide) gu (by simp only[ae,vR,seval, -List.reduceReplicate]) (by simp only[ae,vR,seval, -List.reduceReplicate]) (by simp only[ae,vR,seval, -List.reduceReplicate]) (by simp only[ae,vR,seval, -List.reduceReplicate])
theorem x9 {r:Int}:sM Tryd.prog 31 [I .i64 r] (I .i64 (dO r)):=by
 refine fE Tryd.func31 rfl (by kernel_rfl) (by simp[Tryd.ntmps31]) rfl rfl ?_
 simp only[Tryd.results31,wP,wo,vS,seval, -List.reduceReplicate]
 refine RO ?_
 simp only[wP,wo,vS,seval, -List.reduceReplicate]
 refine RF ?_
 simp only[wP,wo,vS,seval, -List.reduceReplicate]
 refine congrArg (fun z=>(Sum.inl (Sum.inl (Sum.inl (Value.int .i64 z))):AV)) ?_
 unfold dO
 (repeat' split)<;>omega
def eR:List PanicEntry:=[{ v:=bR 0,recovered:=false }]
theorem Tryd.bt:dX Tryd.prog 57=some (false,1):=by kernel_rfl
theorem IG {m a kn:Nat} {kb:Nat→Bool} {f d:Nat→Int} {ks:SV} {kc:List SV} {at_ cut cnt:Int} {L:List Pd} {ws:SV} {su:Bool} {wc:List SV} (h:Gn (cL at_ cut ks) kc L ws su wc) (hk:fR ks kn kb kc) (hl:L.length < 1000000) (hL:Fit m L) (hm:m≤1048576) (ha:a < m) (h0:0≤cnt) (h1:cnt < 1000000) (hne:cnt+1=at_):
  ud Tryd.prog 28 [I .i64 a,Ag (aA .u8 64 d),Ptr 3 0,Ptr 1 0,Ptr 0 0,Ptr 2 0] 7 (lk (Bg m f (cL at_ cut ks) kc cnt ws su wc)) eR
   (fun out=>out=lk [(2,⟨true,[Sum.inl (.slice none 0 0)]⟩),(3,⟨true,[Sum.inl (.int .i64 (cnt+1))]⟩),(4,⟨true,aA .u8 (64*m) (fF (eh f (cZ kn kb 0 L)) a (dO cut) d)⟩)]):=by
 refine tJ Tryd.func28 rfl (by kernel_rfl) [3] [6] (by simp[Tryd.ntmps28]) Tryd.mS (by simp[AV.ok,CV.ok,SV.names];exact ai aD) Bh (Bi h) ?_
 have hone:=(h.w.ok (M:=fun n=>n < 7) (by decide)).2
 have Wg:=(hk.k.ok (M:=fun n=>n < 7) (by decide)).2
 have e1:IntKind.i64.wrap (cnt+1)=cnt+1:=by rw[wrap_i64 _ (by omega) (by omega)]
 have e2:(cnt+1==at_)=true:=by simpa using hne
 have hc:dO cut≤64:=by unfold dO;omega
 have Ub:Nat.min 64 (dO cut)=dO cut:=Nat.min_eq_right hc
 have c1:(((dO cut:Nat):Int)≤64)=True:=eq_true (by omega)
 have c2:(a*64+64≤64*m)=True:=eq_true (by omega)
 have fin: ∀ {s:AS},s.box 2=some ⟨true,[Sum.inl (.slice none 0 0)]⟩→s.box 3=some ⟨true,[Sum.inl (.int .i64 (cnt+1))]⟩→s.box 4=some ⟨true,aA .u8 (64*m) (fF (eh f (cZ kn kb 0 L)) a (dO cut) d)⟩→
   Bd 7 eR (fun out=>out=lk [(2,⟨true,[Sum.inl (.slice none 0 0)]⟩),(3,⟨true,[Sum.inl (.int .i64 (cnt+1))]⟩),(4,⟨true,aA .u8 (64*m) (fF (eh f (cZ kn kb 0 L)) a (dO cut) d)⟩)]) (.panic eR) s:=fun h2 h3 h4=>by
  refine Gk fun x hx=> ?_
  simp only[cz]at hx
  rcases hx with rfl | rfl | rfl
  ·exact ⟨(by decide:2 < 7),ai rfl,h2⟩
  ·exact ⟨(by decide:3 < 7),ai rfl,h3⟩
  ·exact ⟨(by decide:4 < 7),ai aD,h4⟩
 simp only[Bg,cL,e1,e2,kT,cO,bm,bq,aS,vR,seval, -List.reduceReplicate]
 refine DI (by kernel_rfl) [0,1,2,3] [4,5] [] [] [2] [2] [14,15,16,17,18,19] (by kernel_rfl) (by kernel_rfl) (by kernel_rfl) (fun t ht=>by
  rw[List.mem_singleton]at ht
  subst ht
  exact ⟨rfl,_,by simp only[ae,vR,seval, -List.reduceReplicate];rfl⟩) ?_
 simp only[E7,seval, -List.reduceReplicate]
 rcases h.w with ⟨rfl,rfl,rfl,hw⟩ | ⟨hn,rfl,c,rfl,hg⟩
 case' inl=>
  refine Ed (rw':=false) (by simp only[eJ,seval, -List.reduceReplicate]) hk.k hk.c ?_
  simp only[E7,seval, -List.reduceReplicate]
  refine pG (f:=f) (rw':=true) (by simp only[eJ,seval, -List.reduceReplicate]) ?_
 case' inr=>
  refine Gp (rw':=false) (eY:=true) (by simp only[eJ,seval, -List.reduceReplicate]) (by simp only[eJ,seval, -List.reduceReplicate]) hg.shows (by omega) hk.k hk.c (fun hz=> ?a) fun c3 es Pc=> ?b
  case' a=>
   simp only[E7,seval, -List.reduceReplicate]
   refine pG (f:=f) (rw':=true) (by simp only[eJ,seval, -List.reduceReplicate]) ?_
  case' b=>
   simp only[E7,seval, -List.reduceReplicate]
   refine Bk (f:=f) (rw':=true) (by simp only[eJ,seval, -List.reduceReplicate]) (by simp only[eJ,seval, -List.reduceReplicate]) (by decide) (by decide) Pc.shows hL.keep hm (by have:=sn (kn:=kn) (kb:=kb) 0 L;omega) ?_
 all_goals
  simp only[E7,seval, -List.reduceReplicate]
  refine .inl ?_
  simp only[aE,aJ ha,c1,c2,cO,bm,ao,aq,bq,vR,seval, -List.reduceReplicate]
  refine ⟨by kernel_rfl, ?_⟩
  refine x9.draw Tryd.F3 ?_
  simp only[aE,c1,c2,cO,bm,ao,aq,bq,vR,seval, -List.reduceReplicate]
  refine ⟨by kernel_rfl,AE Tryd.lH Tryd.kP (bx:=⟨true,aA .u8 64 d⟩) (news:=aA .u8 (Nat.min 64 (dO cut)) d) (by simp only[ao,aq,ae,vR,seval, -List.reduceReplicate];rfl) (by simp only[ao,aq,ae,vR,seval, -List.reduceReplicate]) (by rw[aH]) (lZ (mL mK (Nat.min_le_left _ _))) (by rw[aH,Ub];omega) ?_⟩
  rw[Ub,M7 (by omega)]
  simp only[cO,bm,ao,aq,bq,vR,seval, -List.reduceReplicate]
  refine .inr ⟨by kernel_rfl, ?_⟩
  simp only[Tryd.bt,cO,bm,ao,aq,bq,vR,seval, -List.reduceReplicate]
  refine fin ?_ ?_ ?_
  ·simp only[ao,aq,ae,kT,vR,seval, -List.reduceReplicate]
  ·simp only[ao,aq,ae,kT,vR,seval, -List.reduceReplicate]
  ·simp only[ao,aq,ae,kT,vR,seval, -List.reduceReplicate]<;>first | rfl | (rw[hz];rfl)
def m5 (s:AS) (l:List (Nat×aG)):Prop:= ∀ x ∈ l, ∃ rw',s.box x.1=some ⟨rw',x.2.cells⟩
theorem kh (l:List SV):l.map (SV.ren fun n=>n)=l:=by
 conv=>rhs;rw[← List.map_id l]
 exact List.map_congr_left fun x _=>SV.pO x
theorem fw (l:List AV):l=l.map (AV.ren fun n=>n):=by
 conv=>lhs;rw[← List.map_id l]
 exact List.map_congr_left fun x _=>(AV.pO x).symm
theorem m5.fits {s:AS} {l:List (Nat×aG)} (h:m5 s l) (hl: ∀ x ∈ l,x.2.rw=false):Fits s (fun n=>n) (lk l) none:=
 qE fun x hx=>⟨hl x hx,by
  obtain ⟨rw',e⟩:=h x hx
  exact ⟨rw',by rw[kh];exact e⟩⟩
theorem jj {m:Nat} {f:Nat→Int} {pc nc kc:List SV}: ∀ x ∈ ju m f pc nc kc,x.2.rw=false:=fun x hx=>by
 simp only[ju,cz]at hx
 rcases hx with rfl | rfl | rfl | rfl | rfl | rfl<;>rfl
theorem iK {s:AS} {m:Nat} {f:Nat→Int} {pc nc kc:List SV} {r0 r1 r2 r3 r4 r5:Bool} (h0:s.box 0=some ⟨r0,[Sum.inr (.inr (4,0,m,m))]⟩) (h1:s.box 1=some ⟨r1,pc⟩) (h2:s.box 2=some ⟨r2,[Sum.inl (.slice none 0 0)]⟩) (h3:s.box 3=some ⟨r3,nc⟩) (h4:s.box 4=some ⟨r4,aA .u8 (64*m) f⟩) (h5:s.box 5=some ⟨r5,kc⟩):m5 s (ju m f pc nc kc):=fun x hx=>by
 simp only[ju,cz]at hx
 rcases hx with rfl | rfl | rfl | rfl | rfl | rfl
 ·exact ⟨_,h0⟩
 ·exact ⟨_,h1⟩
 ·exact ⟨_,h2⟩
 ·exact ⟨_,h3⟩
 ·exact ⟨_,h4⟩
 ·exact ⟨_,h5⟩
theorem dE {s:AS} (m:Nat) (f:Nat→Int) {pc nc kc:List SV} (h0:s.box 0=some ⟨false,[Sum.inr (.inr (4,0,m,m))]⟩) (h1:s.box 1=some ⟨false,pc⟩) (h2:s.box 2=some ⟨false,[Sum.inl (.slice none 0 0)]⟩) (h3:s.box 3=some ⟨false,nc⟩) (h4:s.box 4=some ⟨false,aA .u8 (64*m) f⟩) (h5:s.box 5=some ⟨false,kc⟩):m5 s (ju m f pc nc kc):=iK h0 h1 h2 h3 h4 h5
theorem zV {s:AS} {nm m:Nat} {f:Nat→Int} {pc nc kc:List SV} (hd:m5 s (ju m f pc nc kc)) (h:fY pc nc kc) {dst:Option Nat} {K:AS→Prop} (hk:K (s.put dst (some (I .i64 m)))):aB Tryd.prog nm 35 (some [Ptr 0 0]) dst K s:=
 (M9 (f:=f) h).iB (fun n=>n) (hd.fits jj) rfl (fw _) hk
theorem kv {s:AS} {nm m a:Nat} {f:Nat→Int} {pc nc kc:List SV} (hd:m5 s (ju m f pc nc kc)) (h:fY pc nc kc) (ha:a < m) (hm:m≤1048576) {dst:Option Nat} {K:AS→Prop} (hk:K (s.put dst (some (Ag (aA .u8 64 (fun i=>f (a*64+i))))))):aB Tryd.prog nm 33 (some [I .i64 a,Ptr 2 0,Ptr 0 0]) dst K s:=
 (RR h ha hm).iB (fun n=>n) (hd.fits jj) aD (fw _) hk
theorem dg {M:Nat→Prop} (h: ∀ n,n < 4→M n): ∀ x ∈ eE 0 1 2 3,SV.ok M x:=fun x hx=>by
 simp only[eE,cz]at hx
 rcases hx with rfl | rfl | rfl | rfl
 ·refine ⟨fun c hc=> ?_,rfl⟩
  simp only[cz]at hc
  rcases hc with rfl | rfl | rfl | rfl
  ·exact h 3 (by decide)
  ·exact h 1 (by decide)
  ·exact h 0 (by decide)
  ·exact h 2 (by decide)
 ·refine ⟨fun c hc=> ?_,rfl⟩
  simp only[cz]at hc
  rcases hc with rfl | rfl
  ·exact h 0 (by decide)
  ·exact h 2 (by decide)
 ·refine ⟨fun c hc=> ?_,rfl⟩
  simp only[cz]at hc
  rcases hc with rfl | rfl
  ·exact h 2 (by decide)
  ·exact h 0 (by decide)
 ·refine ⟨fun c hc=> ?_,rfl⟩
  simp only[cz]at hc
  subst hc
  exact h 0 (by decide)
theorem Tryd.Uc:dX Tryd.prog 47=some (false,1):=by kernel_rfl
theorem Tryd.Ud:dX Tryd.prog 1=some (false,1):=by kernel_rfl
theorem Tryd.Ue:dX Tryd.prog 48=some (false,1):=by kernel_rfl
theorem Tryd.Uf:dX Tryd.prog 46=some (false,1):=by kernel_rfl
section
variable {a b c d:Nat}
theorem uu:(eE a b c d).length=4:=rfl
theorem QG:List.take 4 (eE a b c d)=eE a b c d:=rfl
theorem QH:(eE a b c d)[0]? =some (Sum.inl (.func (.func 28) #[] ⟨[.pointer (some ⟨d,0,none⟩), .pointer (some ⟨b,0,none⟩), .pointer (some ⟨a,0,none⟩), .pointer (some ⟨c,0,none⟩)]⟩)):=rfl
theorem QI:(eE a b c d)[1]? =some (Sum.inl (.func (.func 32) #[] ⟨[.pointer (some ⟨a,0,none⟩), .pointer (some ⟨c,0,none⟩)]⟩)):=rfl
theorem QJ:(eE a b c d)[2]? =some (Sum.inl (.func (.func 33) #[] ⟨[.pointer (some ⟨c,0,none⟩), .pointer (some ⟨a,0,none⟩)]⟩)):=rfl
theorem QK:(eE a b c d)[3]? =some (Sum.inl (.func (.func 35) #[] ⟨[.pointer (some ⟨a,0,none⟩)]⟩)):=rfl
end
theorem aQ:type_of% @Tryd.Uc∧type_of% @Tryd.Ud∧type_of% @Tryd.Ue∧type_of% @Tryd.Uf∧type_of% @uu∧type_of% @QG∧type_of% @QH∧type_of% @QI∧type_of% @QJ∧type_of% @QK∧type_of% @wu:=
 ⟨@Tryd.Uc, @Tryd.Ud, @Tryd.Ue, @Tryd.Uf, @uu, @QG, @QH, @QI, @QJ, @QK, @wu⟩
theorem m6 {m:Nat} {f:Nat→Int} {pc nc kc:List SV} (h:fY pc nc kc) (hm:m≤1048576):
  bC Tryd.prog 26 [Ag (eE 0 1 2 3)] 6 (lk (ju m f pc nc kc)) (fun v out=>v=I .i64 (m / 2:Nat)∧out=fun _=>none):=by
 refine aU Tryd.func26 rfl (by kernel_rfl) (by simp[Tryd.ntmps26]) Tryd.qd (fun v hv=>by rw[List.mem_singleton]at hv;subst hv;exact dg fun n hn=>by omega) ke (kg h) ?_
 have q:IntKind.i64.wrap ((m:Int).tdiv 2)=((m / 2:Nat):Int):=OJ m 2 (by omega)
 simp only[Tryd.results26,ju,aQ,vR,seval, -List.reduceReplicate]
 refine zV (dE m f (by simp only[ae,vR,seval, -List.reduceReplicate]) (by simp only[ae,vR,seval, -List.reduceReplicate]) (by simp only[ae,vR,seval, -List.reduceReplicate]) (by simp only[ae,vR,seval, -List.reduceReplicate]) (by simp only[ae,vR,seval, -List.reduceReplicate]) (by simp only[ae,vR,seval, -List.reduceReplicate])) h ?_
 simp only[aQ,q,vR,seval, -List.reduceReplicate]
 exact aL rfl ⟨rfl,rfl⟩
theorem pH {m lo n:Nat} {f:Nat→Int} {pc nc kc:List SV} (h:fY pc nc kc) (hm:m≤1048576) (hn:lo+n≤m):
  bC Tryd.prog 39 [Ag (eE 0 1 2 3),I .i64 lo,I .i64 (lo+n:Nat)] 6 (lk (ju m f pc nc kc)) (fun v out=>v=Sl 6 0 n n∧out=lk [(6,⟨true,aA .u8 (64*n) (fun i=>f (lo*64+i))⟩)]):=by
 refine aU Tryd.func39 rfl (by kernel_rfl) (by simp[Tryd.ntmps39]) Tryd.mV (fun v hv=>by
  simp only[cz]at hv
  rcases hv with rfl | rfl | rfl
  ·exact dg fun n hn=>by omega
  ·trivial
  ·trivial) ke (kg h) ?_
 have w1:IntKind.i64.wrap (((lo+n:Nat):Int) - (lo:Int))=(n:Int):=by rw[wrap_i64 _ (by omega) (by omega)];omega
 have Vi: ∀ {M:Nat→Prop},M 5→ ∀ x ∈ pc,SV.ok M x:=fun h5 x hx=>SV.aI (fun n hn=>by subst hn;exact h5) (h.p x hx)
 simp only[Tryd.results39,ju,aQ,w1,wN (show n≤1048576 by omega),vR,seval, -List.reduceReplicate]
 refine bY n (fun k=>[(3,Ptr 6 0),(7,Sl 11 0 n n),(1,I .i64 lo),(14,I .i64 n),(15,I .i64 k)])
  (fun k=>(6,⟨true,eE 0 1 2 3⟩)::(11,⟨true,aA .u8 (64*n) (fun i=>if i < 64*k then f (lo*64+i) else 0)⟩)::ju m f pc nc kc) _ ?_ ?_ ?_
 ·simp only[Nat.mul_zero,Nat.not_lt_zero,if_false,ju,aQ,vR,seval, -List.reduceReplicate]
  exact ⟨dg fun n hn=>by omega,⟨(by decide:4 < 16),rfl⟩,Vi (by decide),⟨trivial,rfl⟩,ai h.n,ai h.k⟩
 ·intro j hj
  have a3:IntKind.i64.wrap ((lo:Int)+(j:Int))=((lo+j:Nat):Int):=by rw[wrap_i64 _ (by omega) (by omega)];omega
  have a4:(j*64+64≤64*n)=True:=eq_true (by omega)
  simp only[aE,aJ hj,decide_true,a3,ju,aQ,vR,seval, -List.reduceReplicate]
  refine kv (dE m f (by simp only[ae,vR,seval, -List.reduceReplicate]) (by simp only[ae,vR,seval, -List.reduceReplicate]) (by simp only[ae,vR,seval, -List.reduceReplicate]) (by simp only[ae,vR,seval, -List.reduceReplicate]) (by simp only[ae,vR,seval, -List.reduceReplicate]) (by simp only[ae,vR,seval, -List.reduceReplicate])) h (by omega) hm ?_
  simp only[aE,aJ hj,a4,bQ j (by omega),ju,aQ,vR,seval, -List.reduceReplicate]
  refine ⟨dg fun n hn=>by omega, ?_,⟨(by decide:4 < 16),rfl⟩,Vi (by decide),⟨trivial,rfl⟩,ai h.n,ai h.k⟩
  rw[oa _ _ _ _ _ _ (by omega)]
  refine congrArg (fun c=>some (aG.mk true c)) (c7 fun i hi=> ?_)
  (repeat' split)<;>first | rfl | (exfalso;omega) | (congr 1;omega)
 ·simp only[ju,aQ,vR,seval, -List.reduceReplicate]
  refine cy (by simp) ?_
  simp only[ju,aQ,vR,seval, -List.reduceReplicate]
  refine gX (k:=6) (q:=11) (cs:=aA .u8 (64*n) (fun i=>if i < 64*n then f (lo*64+i) else 0)) (by decide) rfl aD ⟨rfl, ?_⟩
  rw[c7 fun i hi=>if_pos hi]
theorem Gq {s:AS} {nm m:Nat} {f:Nat→Int} {pc nc kc:List SV} (hd:m5 s (ju m f pc nc kc)) (h:fY pc nc kc) {dst:Option Nat} {K:AS→Prop} (hk:K (({ s with box:=upd s.box nm none }:AS).put dst (some (I .i64 m)))):bD Tryd.prog nm 35 (some [Ptr 0 0]) dst K s:=by
 refine (M9 (f:=f) h).wide.aB (fun n=>n) none (hd.fits jj) (fw _) ?_
 rintro v out ⟨rfl,rfl⟩
 rw[dJ]
 exact hk
theorem ru {s:AS} {nm m lo n:Nat} {f:Nat→Int} {pc nc kc:List SV} (hd:m5 s (ju m f pc nc kc)) (h:fY pc nc kc) (hm:m≤1048576) (hn:lo+n≤m) {x:Int} (hx:x=((lo+n:Nat):Int)) {dst:Option Nat} {K:AS→Prop}
  (hk:K (({ s with box:=upd s.box nm (some ⟨true,aA .u8 (64*n) (fun i=>f (lo*64+i))⟩) }:AS).put dst (some (Sl nm 0 n n)))):bD Tryd.prog nm 39 (some [Ag (eE 0 1 2 3),I .i64 lo,I .i64 x]) dst K s:=by
 subst hx
 refine (pH (n:=n) h hm hn).wide.aB (fun n=>n) none (hd.fits jj) (fw _) ?_
 rintro v out ⟨rfl,rfl⟩
 rw[dJ]
 have e1:(lk [(6,(⟨true,aA .u8 (64*n) (fun i=>f (lo*64+i))⟩:aG))] 6).map (aG.ren (aR (fun n=>n) 6 nm))=some ⟨true,aA .u8 (64*n) (fun i=>f (lo*64+i))⟩:=by
  simp[lk,aG.ren,az aD]
 rw[e1]
 have e2:AV.ren (aR (fun n=>n) 6 nm) (Sl 6 0 n n)=Sl nm 0 n n:=by
  show Sl (aR (fun n=>n) 6 nm 6) 0 n n=_
  rw[lC]
 rw[e2]
 exact hk
theorem Bm {s:AS} {nm t m c:Nat} {eY:Bool} {f:Nat→Int} (hb:s.box t=some ⟨eY,aA .u8 (64*m) f⟩) (hm:m≤1048576) {dst:Option Nat} {K:AS→Prop}
  (hk: ∀ c' cs',eI cs' 0 (64*m) c' f→K (({ s with box:=upd s.box nm (some ⟨true,cs'⟩) }:AS).put dst (some (Sl nm 0 (64*m) c')))):bD Tryd.prog nm 38 (some [Sl t 0 m c]) dst K s:=by
 refine (D7 (eY:=false) (c:=c) hm).wide.aB (fun _=>t) none (dU hb aD) rfl ?_
 rintro v out ⟨c',tail,rfl,rfl,h1,h2,h3⟩
 rw[dJ]
 have e1:(lk [(1,(⟨true,aA .u8 (64*m) f++tail⟩:aG))] 1).map (aG.ren (aR (fun _=>t) 1 nm))=some ⟨true,aA .u8 (64*m) f++tail⟩:=by
  simp[lk,aG.ren,az (dz h3)]
 have e2:AV.ren (aR (fun _=>t) 1 nm) (Sl 1 0 (64*m) c')=Sl nm 0 (64*m) c':=by
  show Sl (aR (fun _=>t) 1 nm 1) 0 _ _=_
  rw[lC]
 rw[e1,e2]
 refine hk c' _ ⟨by rw[List.length_append,aH,h2];omega,h1,dz h3,ik⟩
theorem qH {m:Nat} {f:Nat→Int} {pc nc kc:List SV} (h:fY pc nc kc) (hm:m≤1048576):
  bC Tryd.prog 17 [Ag (eE 0 1 2 3)] 6 (lk (ju m f pc nc kc)) (Made 6 (64*m) f):=by
 refine rh Tryd.func17 rfl (by kernel_rfl) [1] [] (by simp[Tryd.ntmps17]) Tryd.p8 (fun v hv=>by rw[List.mem_singleton]at hv;subst hv;exact dg fun n hn=>by omega) ke (kg h) ?_
 simp only[Tryd.results17,ju,aQ,IC,seval, -List.reduceReplicate]
 refine dK (by kernel_rfl) [0,1,2] [3,4,5] [] [6] [6] [3,4,5,6,7,8,2] (by kernel_rfl) (by kernel_rfl) (by kernel_rfl) ?_
 simp only[ju,aQ,IC,seval, -List.reduceReplicate]
 refine Gq (dE m f (by simp only[eJ,seval, -List.reduceReplicate]) (by simp only[eJ,seval, -List.reduceReplicate]) (by simp only[eJ,seval, -List.reduceReplicate]) (by simp only[eJ,seval, -List.reduceReplicate]) (by simp only[eJ,seval, -List.reduceReplicate]) (by simp only[eJ,seval, -List.reduceReplicate])) h ?_
 simp only[ju,aQ,IC,seval, -List.reduceReplicate]
 refine ru (n:=m) (lo:=0) (dE m f (by simp only[eJ,seval, -List.reduceReplicate]) (by simp only[eJ,seval, -List.reduceReplicate]) (by simp only[eJ,seval, -List.reduceReplicate]) (by simp only[eJ,seval, -List.reduceReplicate]) (by simp only[eJ,seval, -List.reduceReplicate]) (by simp only[eJ,seval, -List.reduceReplicate])) h hm (by omega) (by omega) ?_
 simp only[ju,aQ,IC,seval, -List.reduceReplicate]
 refine Bm (eY:=true) (f:=f) (by simp only[ao,ae,Nat.zero_mul,vR,seval, -List.reduceReplicate]) hm fun c' cs' hg=> ?_
 simp only[ju,aQ,IC,seval, -List.reduceReplicate]
 exact zp (by decide) hg (by simp only[eJ,seval, -List.reduceReplicate]) rfl
theorem da:type_of% @aQ∧type_of% @cO∧type_of% @bm∧type_of% @ao∧type_of% @aq∧type_of% @bq∧type_of% @aS∧type_of% @vR:=⟨@aQ, @cO, @bm, @ao, @aq, @bq, @aS, @vR⟩
theorem E8:type_of% @aQ∧type_of% @bm∧type_of% @ao∧type_of% @aq∧type_of% @bq∧type_of% @aS∧type_of% @vR:=⟨@aQ, @bm, @ao, @aq, @bq, @aS, @vR⟩
def sw (n:Nat) (f:Nat→Int):Nat→Int:=if 1048576 < n then fun _=>0 else Dy kW FH f n
theorem Ug {n o c:Nat} {f:Nat→Int} {cs:List SV} (hf:cU f) (hc:bu cs o n f) (hp:cs.all SV.plain=true) (hcap:n≤c):
  bC Tryd.prog 51 [Sl 0 o n c] 1 (lk [(0,⟨false,cs⟩)]) (fun u out=>u=Ag (aA .u8 32 (sw n f))∧out=fun _=>none):=by
 refine aU Tryd.func51 rfl (by kernel_rfl) (by simp[Tryd.ntmps51]) Tryd.qt (by simp[AV.ok,CV.ok,SV.names]) j0 (j5 hp) ?_
 simp only[Tryd.results51,vR,seval, -List.reduceReplicate]
 refine Bb (rw:=false) (by simp only[ae,vR,seval, -List.reduceReplicate]) hp ?_
 simp only[vR,seval, -List.reduceReplicate]
 by_cases h:1048576 < n
 ·have eA:sw n f=fun _=>0:=if_pos h
  refine fh (by simp;omega) ?_
  simp only[eA,JG,vR,seval, -List.reduceReplicate]
  exact aL (v:=Ag (aA .u8 32 (fun _=>0))) aD ⟨rfl,rfl⟩
 ·have eA:sw n f=Dy kW FH f n:=if_neg h
  refine cy (by simp;omega) ?_
  simp only[vR,seval, -List.reduceReplicate]
  refine DU (rw:=false) hf (by simp only[ae,vR,seval, -List.reduceReplicate]) hc hp (by omega) hcap ?_
  simp only[vR,seval, -List.reduceReplicate]
  rw[eA]
  exact aL aD ⟨rfl,rfl⟩
theorem Nc {cs:List SV} {f:Nat→Int} {q:Int} {sv:SV} {n:Nat} (hl:cY 0 sv n f cs) (hp:cs.all SV.plain=true) (hn:n < 16777216):
  bC Tryd.prog 36 [Ag (bj q sv)] 1 (lk [(0,⟨false,cs⟩)]) (fun u out=>u=Sl 1 0 (aO n) (aO n)∧out=lk [(1,⟨true,aA .u8 (64*aO n) (fX n f)⟩)]):=by
 have hok: ∀ {M:Nat→Prop},M 0→SV.ok M sv:=fun h=>hl.ok h
 have hone:=(hl.ok (M:=fun n=>n < 1) (by decide)).2
 refine aU Tryd.func36 rfl (by kernel_rfl) (by simp[Tryd.ntmps36]) Tryd.qi (Bf (hok (by decide))) j0 (j5 hp) ?_
 simp only[Tryd.results36,bj,vR,seval, -List.reduceReplicate]
 refine (Iz hl hp hn).aB (fun n=>n) none (qE fun x hx=> ?_) (fw _) ?_
 ·rw[List.mem_singleton]at hx
  subst hx
  exact ⟨rfl,false,by rw[kh];simp only[ae,vR,seval, -List.reduceReplicate]⟩
 ·rintro v out ⟨rfl,rfl⟩ _
  rw[dv aD]
  simp only[jQ,gl,vR,seval, -List.reduceReplicate]
  exact gX (k:=1) (q:=5) (by decide) (by simp only[ae,vR,seval, -List.reduceReplicate]) aD ⟨rfl,rfl⟩
def Uh (t u w:Nat) (n:Nat):Nat:=if n=0 then t else if n=1 then u else w
theorem yb {s:AS} {nm t u w n c0 c1:Nat} {r0 r1 r2:Bool} {g f:Nat→Int} {sv:SV} {cs ds:List SV} (h0:s.box t=some ⟨r0,[Sum.inr (.inr (u,0,13,c1)),sv]⟩) (h1:s.box u=some ⟨r1,ds⟩) (hd:ds.all SV.plain=true) (hs:bu ds 0 13 g) (h2:s.box w=some ⟨r2,cs⟩) (hp:cs.all SV.plain=true) (hl:cY w sv n f cs) (hn:n < 16777216) {dst:Option Nat} {K:AS→Prop}
  (hk: ∀ c cs',eI cs' 0 (13+n) c (cN 13 g f)→K (({ s with box:=upd s.box nm (some ⟨true,cs'⟩) }:AS).put dst (some (Sl nm 0 (13+n) c)))):bD Tryd.prog nm 52 (some [Sl t 0 2 c0]) dst K s:=by
 obtain ⟨s0,lI,hr⟩:=hl.jJ 2
 let nn:Nat→Nat:=fun j=>if j=0 then 13 else n
 let ff:Nat→Nat→Int:=fun j=>if j=0 then g else f
 let l:List (Nat×aG):=[(0,⟨false,[Sum.inr (.inr (1,0,13,c1)),s0]⟩),(1,⟨false,ds⟩),(2,⟨false,cs⟩)]
 have hP:Qy l [Sum.inr (.inr (1,0,13,c1)),s0] 3 0 2 nn ff:=by
  refine ⟨fun x hx=> ?_,fun i hi=> ?_,fun x hx=> ?_,rfl,fun j hj=> ?_⟩
  ·simp only[l,cz]at hx
   rcases hx with rfl | rfl | rfl<;>rfl
  ·rcases (show i=0∨i=1∨i=2 by omega) with rfl | rfl | rfl<;>exact ⟨_,rfl⟩
  ·simp only[l,cz]at hx
   rcases hx with rfl | rfl | rfl
   ·refine ⟨show (0:Nat) < 3 by decide,rfl,fun y hy=> ?_⟩
    simp only[cz]at hy
    rcases hy with rfl | rfl
    ·exact ⟨(by decide:1 < 3),rfl⟩
    ·exact lI.ok (by decide)
   ·exact ⟨show (1:Nat) < 3 by decide,rfl,ai hd⟩
   ·exact ⟨show (2:Nat) < 3 by decide,rfl,ai hp⟩
  ·rcases (show j=0∨j=1 by omega) with rfl | rfl
   ·exact ⟨_,rfl, .inr ⟨1,0,c1,false,ds,rfl,rfl,hd,hs⟩⟩
   ·exact ⟨_,rfl,lI.arg.at (rw:=false) rfl hp⟩
 have htot:iU nn 2=13+n:=by simp[iU,nn]
 have Wh: ∀ i,i < 13+n→Ba nn ff 2 i=cN 13 g f i:=fun i hi=>by
  simp only[Ba,iU,nn,ff,cN]
  (repeat' split)<;>first | rfl | (exfalso;omega) | (congr 1;omega) | simp_all
 have hc:=MQ (c:=c0) hP (by decide) (by decide) (by decide) (by rw[htot];omega)
 refine hc.wide.aB (Uh t u w) none (qE fun x hx=> ?_) rfl ?_
 ·simp only[l,cz]at hx
  rcases hx with rfl | rfl | rfl
  ·refine ⟨rfl,r0, ?_⟩
   simp only[List.map_cons,List.map_nil,hr (Uh t u w) rfl]
   exact h0
  ·exact ⟨rfl,r1,by rw[az hd];exact h1⟩
  ·exact ⟨rfl,r2,by rw[az hp];exact h2⟩
 ·rintro v out (⟨h,_,_⟩ | ⟨c',tail,rfl,rfl,e1,e2,e3⟩)
  ·rw[htot]at h;omega
  ·rw[dJ]
   have k1:(lk [(3,(⟨true,aA .u8 (iU nn 2) (Ba nn ff 2)++tail⟩:aG))] 3).map (aG.ren (aR (Uh t u w) 3 nm))=some ⟨true,aA .u8 (iU nn 2) (Ba nn ff 2)++tail⟩:=by
    simp[lk,aG.ren,az (dz e3)]
   have k2:AV.ren (aR (Uh t u w) 3 nm) (Sl 3 0 (iU nn 2) c')=Sl nm 0 (iU nn 2) c':=by
    show Sl (aR (Uh t u w) 3 nm 3) 0 _ _=_
    rw[lC]
   rw[k1,k2]
   have hg:eI (aA .u8 (iU nn 2) (Ba nn ff 2)++tail) 0 (iU nn 2) c' (Ba nn ff 2):=⟨by rw[List.length_append,aH,e2];omega,e1,dz e3,ik⟩
   have:=hk c' _ (hg.congr htot (fun i hi=>Wh i (by omega)))
   rw[htot]at this ⊢
   exact this
theorem Kk {s:AS} {nm t o n c:Nat} {r0:Bool} {f:Nat→Int} {cs:List SV} (hf:cU f) (hb:s.box t=some ⟨r0,cs⟩) (hc:bu cs o n f) (hp:cs.all SV.plain=true) (hcap:n≤c) {dst:Option Nat} {K:AS→Prop}
  (hk:K (({ s with box:=upd s.box nm none }:AS).put dst (some (Ag (aA .u8 32 (sw n f)))))):bD Tryd.prog nm 51 (some [Sl t o n c]) dst K s:=by
 refine (Ug hf hc hp hcap).wide.aB (fun _=>t) none (dU hb hp) rfl ?_
 rintro v out ⟨rfl,rfl⟩
 rw[dJ,AV.cJ (show AV.plain (Ag (aA .u8 32 (sw n f)))=true from aD)]
 exact hk
theorem oz {s:AS} {nm t o n c N:Nat} {x:Int} {f:Nat→Int} (hb:s.box t=some ⟨true,aA .u8 N f⟩) (XG:o+n≤N) (hN:N≤64) (hn:n≤8) {dst:Option Nat} {K:AS→Prop}
  (hk:K (({ s with box:=upd s.box t (some ⟨true,aA .u8 N (x7 o n x f)⟩) }:AS).put dst (some (Sum.inr [])))):aB Tryd.prog nm 50 (some [Sl t o n c,I .u64 x]) dst K s:=
 (D4 (c:=c) (x:=x) XG hN hn).OH hb aD aD rfl rfl hk
def oA (q:Int) (n:Nat):Nat→Int:=x7 9 4 (n:Int) (x7 1 8 q (upd (fun _=>0) 0 74))
def gM (q:Int) (n:Nat) (f:Nat→Int):Nat→Int:=upd (fun i=>if 13≤i∧i < 45 then sw (13+n) (cN 13 (oA q n) f) (i - 13) else oA q n i) 63 199
theorem Ee {q:Int} {n:Nat}:cU (oA q n):=fun i=>by
 have h1:=D3 (n:Int) 4 (i - 9)
 have h2:=D3 q 8 (i - 1)
 unfold oA x7 upd
 (repeat' split)<;>first | assumption | omega | simp
theorem Y8:gi [Value.slice none 0 0] 2=[Sum.inl (.slice none 0 0),Sum.inl (.slice none 0 0)]:=rfl
theorem wT {sv:SV} (h:SV.one sv=true):cellsOf (some (Sum.inl (Sum.inl sv)))=some [sv]:=if_pos h
theorem Ef {cs:List SV} {f:Nat→Int} {q:Int} {sv:SV} {n:Nat} (hl:cY 0 sv n f cs) (hp:cs.all SV.plain=true) (hf:cU f) (hn:n < 16777216):
  bC Tryd.prog 37 [Ag (bj q sv)] 1 (lk [(0,⟨false,cs⟩)]) (fun u out=>u=Ag (aA .u8 64 (gM q n f))∧out=fun _=>none):=by
 have hok: ∀ {M:Nat→Prop},M 0→SV.ok M sv:=fun h=>hl.ok h
 have hone:=(hl.ok (M:=fun n=>n < 1) (by decide)).2
 have hw:IntKind.u64.wrap (n:Int)=(n:Int):=cI _ (by omega) (by omega)
 have hlen:=hl.len
 refine rh Tryd.func37 rfl (by kernel_rfl) [5] [] (by simp[Tryd.ntmps37]) Tryd.qj (Bf (hok (by decide))) j0 (j5 hp) ?_
 simp only[Tryd.results37,bj,IC,seval, -List.reduceReplicate]
 refine .inl ?_
 simp only[vR,seval, -List.reduceReplicate]
 refine ⟨by kernel_rfl, .inr (.inr (.inr ⟨by kernel_rfl, ?_⟩))⟩
 refine oz (N:=64) (f:=upd (fun _=>0) 0 74) (by simp only[eJ,seval, -List.reduceReplicate];exact congrArg (fun c=>some (aG.mk true c)) (fM _ _ _ _ (by decide) _)) (by decide) (by decide) (by decide) ?_
 simp only[IC,seval, -List.reduceReplicate]
 refine .inl ?_
 simp only[hlen,hw,vR,seval, -List.reduceReplicate]
 refine ⟨by kernel_rfl, .inr (.inr (.inr ⟨by kernel_rfl, ?_⟩))⟩
 simp only[if_pos (show au Tryd.prog 50=true from Tryd.wA)]
 refine oz (N:=64) (f:=x7 1 8 q (upd (fun _=>0) 0 74)) (by simp only[eJ,seval, -List.reduceReplicate]) (by decide) (by decide) (by decide) ?_
 simp only[IC,seval, -List.reduceReplicate]
 refine dK (by kernel_rfl) [0,1,2] [3,4,5] [6] [7] [1] [16,17,18,19,20,21,4] (by kernel_rfl) (by kernel_rfl) (by kernel_rfl) ?_
 simp only[Y8,wT hone,D5,D6,IC,seval, -List.reduceReplicate]
 have eC:oA q n=x7 9 4 (n:Int) (x7 1 8 q (upd (fun _=>0) 0 74)):=rfl
 rw[← eC]
 have hJ:cU (cN 13 (oA q n) f):=JR Ee hf
 refine yb (u:=3) (w:=0) (c1:=64) (n:=n) (r0:=true) (r1:=true) (r2:=false) (g:=oA q n) (f:=f) (ds:=aA .u8 64 (oA q n)) (by simp only[eJ,seval, -List.reduceReplicate]) (by simp only[eJ,seval, -List.reduceReplicate]) aD (mL mK (by decide)) (by simp only[eJ,seval, -List.reduceReplicate]) hp hl hn fun c' cs' hg=> ?_
 simp only[IC,seval, -List.reduceReplicate]
 refine Kk (r0:=true) hJ (by simp only[eJ,seval, -List.reduceReplicate]) hg.shows hg.plain hg.room ?_
 simp only[IC,seval, -List.reduceReplicate]
 refine .inl ?_
 simp only[IC,seval, -List.reduceReplicate]
 refine ⟨by kernel_rfl,by kernel_rfl,AE Tryd.lH Tryd.kP (cs:=aA .u8 64 (oA q n)) (bx:=⟨true,aA .u8 32 (sw (13+n) (cN 13 (oA q n) f))⟩) (news:=aA .u8 32 (sw (13+n) (cN 13 (oA q n) f))) (by simp only[eJ,seval, -List.reduceReplicate]) (by simp only[eJ,seval, -List.reduceReplicate]) (by rw[aH];rfl) (fun j u h=>by simpa using h) (by rw[aH];decide) ?_⟩
 rw[oa _ _ _ _ _ _ (by decide)]
 simp only[IC,seval, -List.reduceReplicate]
 rw[fM _ _ _ _ (by decide)]
 have eF:upd (fun i=>if 13≤i∧i < 45 then sw (13+n) (cN 13 (oA q n) f) (i - 13) else oA q n i) 63 199=gM q n f:=rfl
 simp only[eF,aH,oK,jz,IC,seval, -List.reduceReplicate]
 exact aL aD ⟨rfl,rfl⟩
structure wU (s:AS) (m:Nat) (f:Nat→Int) (pc kc:List SV) (cnt:Int) (ws:SV):Prop where
 b0:s.box 0=some ⟨false,[Sum.inr (.inr (4,0,m,m))]⟩
 b1:s.box 1=some ⟨false,pc⟩
 b2:s.box 2=some ⟨true,[ws]⟩
 b3:s.box 3=some ⟨true,[Sum.inl (.int .i64 cnt)]⟩
 b4:s.box 4=some ⟨true,aA .u8 (64*m) f⟩
 b5:s.box 5=some ⟨false,kc⟩
def six (w n:Nat):Nat:=if n=6 then w else n
theorem wV {w:Nat} {l:List SV} (h: ∀ x ∈ l,SV.ok (fun n=>n=5) x):l.map (SV.ren (six w))=l:=by
 conv=>rhs;rw[← List.map_id l]
 exact List.map_congr_left fun x hx=>SV.jc (SV.aY (fun n hn=>by subst hn;rfl) (h x hx).1)
theorem uv {s:AS} {m:Nat} {f:Nat→Int} {pc kc:List SV} {cnt:Int} (hd:wU s m f pc kc cnt (Sum.inl (.slice none 0 0))) (hp: ∀ x ∈ pc,SV.ok (fun n=>n=5) x) (hk:kc.all SV.plain=true):iW s (six 1) (lk (Bg m f pc kc cnt (Sum.inl (.slice none 0 0)) false pc)) [2,3,4]:=by
 refine kd (fun x hx=> ?_) fun n hn=> ?_
 ·have hin: ∀ y ∈ Bg m f pc kc cnt (Sum.inl (.slice none 0 0)) false pc,y.1 < 7:=fun y hy=>by
   simp only[Bg,cz]at hy
   rcases hy with rfl | rfl | rfl | rfl | rfl | rfl | rfl<;>(simp only;omega)
  have inj: ∀ a,a=2∨a=3∨a=4→ ∀ y ∈ Bg m f pc kc cnt (Sum.inl (.slice none 0 0)) false pc,six 1 a=six 1 y.1→a=y.1:=fun a ha y hy e=>by
   have:=hin y hy
   unfold six at e
   split at e<;>split at e<;>omega
  simp only[Bg,cz]at hx
  rcases hx with rfl | rfl | rfl | rfl | rfl | rfl | rfl
  ·exact ⟨⟨_,hd.b0,fun h=>h⟩,fun h=>(by cases h)⟩
  ·exact ⟨⟨_,by rw[wV hp];exact hd.b1,fun h=>h⟩,fun h=>(by cases h)⟩
  ·exact ⟨⟨_,hd.b2,fun h=>rfl⟩,fun h=>⟨(by decide:(2:Nat) ∈ [2,3,4]),inj 2 (by decide)⟩⟩
  ·exact ⟨⟨_,hd.b3,fun h=>rfl⟩,fun h=>⟨(by decide:(3:Nat) ∈ [2,3,4]),inj 3 (by decide)⟩⟩
  ·exact ⟨⟨_,by rw[az aD];exact hd.b4,fun h=>rfl⟩,fun h=>⟨(by decide:(4:Nat) ∈ [2,3,4]),inj 4 (by decide)⟩⟩
  ·exact ⟨⟨_,by rw[az hk];exact hd.b5,fun h=>h⟩,fun h=>(by cases h)⟩
  ·exact ⟨⟨_,by rw[wV hp];exact hd.b1,fun h=>h⟩,fun h=>(by cases h)⟩
 ·simp only[cz]at hn
  rcases hn with rfl | rfl | rfl<;>exact ⟨_,rfl,rfl⟩
theorem Bn {s:AS} {m w n c:Nat} {f:Nat→Int} {pc kc wc:List SV} {cnt:Int} (hd:wU s m f pc kc cnt (Sum.inr (.inr (w,0,n,c)))) (hw:s.box w=some ⟨true,wc⟩) (SF:6≤w) (Y9:wc.all SV.plain=true) (hp: ∀ x ∈ pc,SV.ok (fun n=>n=5) x) (hk:kc.all SV.plain=true):iW s (six w) (lk (Bg m f pc kc cnt (Sum.inr (.inr (6,0,n,c))) true wc)) [2,3,4,6]:=by
 refine kd (fun x hx=> ?_) fun n hn=> ?_
 ·have inj: ∀ a,a < 7→ ∀ y ∈ Bg m f pc kc cnt (Sum.inr (.inr (6,0,n,c))) true wc,six w a=six w y.1→a=y.1:=fun a ha y hy e=>by
   have:y.1 < 7:=by
    simp only[Bg,cz]at hy
    rcases hy with rfl | rfl | rfl | rfl | rfl | rfl | rfl<;>(simp only;omega)
   unfold six at e
   split at e<;>split at e<;>omega
  simp only[Bg,cz]at hx
  rcases hx with rfl | rfl | rfl | rfl | rfl | rfl | rfl
  ·exact ⟨⟨_,hd.b0,fun h=>h⟩,fun h=>(by cases h)⟩
  ·exact ⟨⟨_,by rw[wV hp];exact hd.b1,fun h=>h⟩,fun h=>(by cases h)⟩
  ·exact ⟨⟨_,hd.b2,fun h=>rfl⟩,fun h=>⟨(by decide:(2:Nat) ∈ [2,3,4,6]),inj 2 (by decide)⟩⟩
  ·exact ⟨⟨_,hd.b3,fun h=>rfl⟩,fun h=>⟨(by decide:(3:Nat) ∈ [2,3,4,6]),inj 3 (by decide)⟩⟩
  ·exact ⟨⟨_,by rw[az aD];exact hd.b4,fun h=>rfl⟩,fun h=>⟨(by decide:(4:Nat) ∈ [2,3,4,6]),inj 4 (by decide)⟩⟩
  ·exact ⟨⟨_,by rw[az hk];exact hd.b5,fun h=>h⟩,fun h=>(by cases h)⟩
  ·exact ⟨⟨_,by rw[az Y9];exact hw,fun h=>rfl⟩,fun h=>⟨(by decide:(6:Nat) ∈ [2,3,4,6]),inj 6 (by decide)⟩⟩
 ·simp only[cz]at hn
  rcases hn with rfl | rfl | rfl | rfl<;>exact ⟨_,rfl,rfl⟩
section
variable {s:AS} {nm m a kn:Nat} {kb:Nat→Bool} {f d:Nat→Int} {ks:SV} {kc:List SV} {at_ cut cnt:Int} {dst:Option Nat} {K:AS→Prop}
theorem dW (hk:fR ks kn kb kc): ∀ x ∈ cL at_ cut ks,SV.ok (fun n=>n=5) x:=fun x hx=>by
 simp only[cL,cz]at hx
 rcases hx with rfl | rfl | rfl
 ·exact ⟨trivial,rfl⟩
 ·exact hk.k.ok rfl
 ·exact ⟨trivial,rfl⟩
theorem Vj (hk:fR ks kn kb kc):Gn (cL at_ cut ks) kc [] (Sum.inl (.slice none 0 0)) false (cL at_ cut ks):=⟨dW hk,hk.c, .inl ⟨rfl,rfl,rfl,dW hk⟩⟩
theorem Wi {L:List Pd} {wc:List SV} {c:Nat} (hk:fR ks kn kb kc) (hn:L≠[]) (hg:fb wc L c):Gn (cL at_ cut ks) kc L (Sum.inr (.inr (6,0,L.length,c))) true wc:=⟨dW hk,hk.c, .inr ⟨hn,rfl,c,rfl,hg⟩⟩
theorem oB {w:Nat}:([I .i64 a,Ag (aA .u8 64 d),Ptr 3 0,Ptr 1 0,Ptr 0 0,Ptr 2 0]:List AV)=[I .i64 a,Ag (aA .u8 64 d),Ptr 3 0,Ptr 1 0,Ptr 0 0,Ptr 2 0].map (AV.ren (six w)):=by
 simp only[List.map_cons,List.map_nil,HS,jP]
 rfl
theorem tL (hd:wU s m f (cL at_ cut ks) kc cnt (Sum.inl (.slice none 0 0))) (hk:fR ks kn kb kc) (h0:0≤cnt) (h1:cnt < 1000000) (hne:cnt+1≠at_)
  (hK: ∀ c es,fb es [(a,d)] c→K (({ s with box:=upd (upd (upd (upd s.box 4 (some ⟨true,aA .u8 (64*m) f⟩)) 3 (some ⟨true,[Sum.inl (.int .i64 (cnt+1))]⟩)) 2 (some ⟨true,[Sum.inr (.inr (nm,0,1,c))]⟩)) nm (some ⟨true,es⟩) }:AS).put dst (some (Sum.inr [])))):
  aB Tryd.prog nm 28 (some [I .i64 a,Ag (aA .u8 64 d),Ptr 3 0,Ptr 1 0,Ptr 0 0,Ptr 2 0]) dst K s:=by
 refine (Bl (a:=a) (d:=d) (f:=f) (m:=m) (kn:=kn) (kb:=kb) (Vj hk) (by decide) h0 h1 hne).wide.lE (Nat.le_refl 1) (six 1) [2,3,4] (uv hd (dW hk) hk.c) oB ?_
 rintro v out ⟨rfl,c,es,hg,rfl⟩
 rw[fc]
 have e7:aR (six 1) 7 nm 7=nm:=lC
 have:=hK c es hg
 simp only[List.foldr_cons,List.foldr_nil,lk,Option.map_some,aG.ren,List.map_cons,List.map_nil,SV.ren,dT,e7,az aD,az hg.shows.plain,List.length_nil,Nat.zero_add,Nat.reduceEqDiff,reduceIte,show six 1 2=2 from rfl,show six 1 3=3 from rfl,show six 1 4=4 from rfl]
 exact this
theorem rv (hd:wU s m f (cL at_ cut ks) kc cnt (Sum.inl (.slice none 0 0))) (hk:fR ks kn kb kc) (h0:0≤cnt) (h1:cnt < 1000000) (hne:cnt+1≠at_)
  (hK: ∀ c es,fb es [(a,d)] c→K (({ s with box:=upd (upd (upd (upd s.box 4 (some ⟨true,aA .u8 (64*m) f⟩)) 3 (some ⟨true,[Sum.inl (.int .i64 (cnt+1))]⟩)) 2 (some ⟨true,[Sum.inr (.inr (nm,0,1,c))]⟩)) nm (some ⟨true,es⟩) }:AS).put dst (some (Sum.inr [])))):
  bD Tryd.prog nm 28 (some [I .i64 a,Ag (aA .u8 64 d),Ptr 3 0,Ptr 1 0,Ptr 0 0,Ptr 2 0]) dst K s:=by
 refine (Bl (a:=a) (d:=d) (f:=f) (m:=m) (kn:=kn) (kb:=kb) (Vj hk) (by decide) h0 h1 hne).wide.rj (six 1) [2,3,4] (uv hd (dW hk) hk.c) oB ?_
 rintro v out ⟨rfl,c,es,hg,rfl⟩
 rw[fc]
 have e7:aR (six 1) 7 nm 7=nm:=lC
 have:=hK c es hg
 simp only[List.foldr_cons,List.foldr_nil,lk,Option.map_some,aG.ren,List.map_cons,List.map_nil,SV.ren,dT,e7,az aD,az hg.shows.plain,List.length_nil,Nat.zero_add,Nat.reduceEqDiff,reduceIte,show six 1 2=2 from rfl,show six 1 3=3 from rfl,show six 1 4=4 from rfl]
 exact this
theorem tM {L:List Pd} {w c0:Nat} {wc:List SV} (hd:wU s m f (cL at_ cut ks) kc cnt (Sum.inr (.inr (w,0,L.length,c0)))) (hw:s.box w=some ⟨true,wc⟩) (SF:6≤w) (hg:fb wc L c0) (hn:L≠[]) (hl:L.length < 1000000) (hk:fR ks kn kb kc) (h0:0≤cnt) (h1:cnt < 1000000) (hne:cnt+1≠at_)
  (hK: ∀ c es,fb es (L++[(a,d)]) c→K (({ s with box:=upd (upd (upd (upd (upd s.box w none) 4 (some ⟨true,aA .u8 (64*m) f⟩)) 3 (some ⟨true,[Sum.inl (.int .i64 (cnt+1))]⟩)) 2 (some ⟨true,[Sum.inr (.inr (nm,0,L.length+1,c))]⟩)) nm (some ⟨true,es⟩) }:AS).put dst (some (Sum.inr [])))):
  aB Tryd.prog nm 28 (some [I .i64 a,Ag (aA .u8 64 d),Ptr 3 0,Ptr 1 0,Ptr 0 0,Ptr 2 0]) dst K s:=by
 refine (Bl (a:=a) (d:=d) (f:=f) (m:=m) (kn:=kn) (kb:=kb) (Wi hk hn hg) hl h0 h1 hne).wide.lE (Nat.le_refl 1) (six w) [2,3,4,6] (Bn hd hw SF hg.shows.plain (dW hk) hk.c) oB ?_
 rintro v out ⟨rfl,c,es,hg,rfl⟩
 rw[fc]
 have e7:aR (six w) 7 nm 7=nm:=lC
 have e6:six w 6=w:=rfl
 have:=hK c es hg
 simp only[List.foldr_cons,List.foldr_nil,lk,Option.map_some,Option.map_none,aG.ren,List.map_cons,List.map_nil,SV.ren,dT,e7,e6,az aD,az hg.shows.plain,Nat.reduceEqDiff,reduceIte,show six w 2=2 from rfl,show six w 3=3 from rfl,show six w 4=4 from rfl]
 exact this
theorem Eg (hd:wU s m f (cL at_ cut ks) kc cnt (Sum.inl (.slice none 0 0))) (hk:fR ks kn kb kc) (hm:m≤1048576)
  (hK:K (({ s with box:=upd (upd (upd (upd s.box 4 (some ⟨true,aA .u8 (64*m) f⟩)) 3 (some ⟨true,[Sum.inl (.int .i64 cnt)]⟩)) 2 (some ⟨true,[Sum.inl (.slice none 0 0)]⟩)) nm none }:AS).put dst (some (Sum.inr [])))):
  aB Tryd.prog nm 32 (some [Ptr 0 0,Ptr 2 0]) dst K s:=by
 refine (IE (f:=f) (m:=m) (cnt:=cnt) (Vj (at_:=at_) (cut:=cut) hk) (fun p hp=>(by cases hp)) hm (by decide)).wide.lE (Nat.le_refl 1) (six 1) [2,3,4] (uv hd (dW hk) hk.c) rfl ?_
 rintro v out ⟨rfl,rfl⟩
 rw[fc]
 have:=hK
 simp only[List.foldr_cons,List.foldr_nil,lk,Option.map_some,Option.map_none,aG.ren,List.map_cons,List.map_nil,SV.ren,dT,az aD,kS,Nat.reduceEqDiff,reduceIte,show six 1 2=2 from rfl,show six 1 3=3 from rfl,show six 1 4=4 from rfl]
 exact this
theorem lJ {L:List Pd} {w c0:Nat} {wc:List SV} (hd:wU s m f (cL at_ cut ks) kc cnt (Sum.inr (.inr (w,0,L.length,c0)))) (hw:s.box w=some ⟨true,wc⟩) (SF:6≤w) (hg:fb wc L c0) (hn:L≠[]) (hl:L.length < 1000000) (hL:Fit m L) (hk:fR ks kn kb kc) (hm:m≤1048576)
  (hK:K (({ s with box:=upd (upd (upd (upd (upd s.box w none) 4 (some ⟨true,aA .u8 (64*m) (eh f L)⟩)) 3 (some ⟨true,[Sum.inl (.int .i64 cnt)]⟩)) 2 (some ⟨true,[Sum.inl (.slice none 0 0)]⟩)) nm none }:AS).put dst (some (Sum.inr [])))):
  aB Tryd.prog nm 32 (some [Ptr 0 0,Ptr 2 0]) dst K s:=by
 refine (IE (f:=f) (m:=m) (cnt:=cnt) (Wi (at_:=at_) (cut:=cut) hk hn hg) hL hm (by omega)).wide.lE (Nat.le_refl 1) (six w) [2,3,4,6] (Bn hd hw SF hg.shows.plain (dW hk) hk.c) rfl ?_
 rintro v out ⟨rfl,rfl⟩
 rw[fc]
 have e6:six w 6=w:=rfl
 have:=hK
 simp only[List.foldr_cons,List.foldr_nil,lk,Option.map_some,Option.map_none,aG.ren,List.map_cons,List.map_nil,SV.ren,dT,e6,az aD,Nat.reduceEqDiff,reduceIte,show six w 2=2 from rfl,show six w 3=3 from rfl,show six w 4=4 from rfl]
 exact this
variable {F:Exit→AS→Prop}
theorem m7 (hd:wU s m f (cL at_ cut ks) kc cnt (Sum.inl (.slice none 0 0))) (hk:fR ks kn kb kc) (h0:0≤cnt) (h1:cnt < 1000000) (hm:m≤1048576) (ha:a < m) (hne:cnt+1=at_)
  (hK:F (.panic eR) { s with box:=upd (upd (upd s.box 4 (some ⟨true,aA .u8 (64*m) (fF f a (dO cut) d)⟩)) 3 (some ⟨true,[Sum.inl (.int .i64 (cnt+1))]⟩)) 2 (some ⟨true,[Sum.inl (.slice none 0 0)]⟩) }):
  dV Tryd.prog 28 (some [I .i64 a,Ag (aA .u8 64 d),Ptr 3 0,Ptr 1 0,Ptr 0 0,Ptr 2 0]) F s:=by
 refine (IG (a:=a) (d:=d) (f:=f) (m:=m) (Vj hk) hk (by decide) (fun p hp=>(by cases hp)) hm ha h0 h1 hne).oT (six 1) [2,3,4] (uv hd (dW hk) hk.c) oB ?_
 rintro out rfl
 rw[ma]
 have:=hK
 simp only[List.foldr_cons,List.foldr_nil,lk,Option.map_some,Option.map_none,aG.ren,List.map_cons,List.map_nil,SV.ren,dT,az aD,Nat.reduceEqDiff,reduceIte,show six 1 2=2 from rfl,show six 1 3=3 from rfl,show six 1 4=4 from rfl]
 exact this
theorem wW {L:List Pd} {w c0:Nat} {wc:List SV} (hd:wU s m f (cL at_ cut ks) kc cnt (Sum.inr (.inr (w,0,L.length,c0)))) (hw:s.box w=some ⟨true,wc⟩) (SF:6≤w) (hg:fb wc L c0) (hn:L≠[]) (hl:L.length < 1000000) (hL:Fit m L) (hk:fR ks kn kb kc) (h0:0≤cnt) (h1:cnt < 1000000) (hm:m≤1048576) (ha:a < m) (hne:cnt+1=at_)
  (hK:F (.panic eR) { s with box:=upd (upd (upd (upd s.box w none) 4 (some ⟨true,aA .u8 (64*m) (fF (eh f (cZ kn kb 0 L)) a (dO cut) d)⟩)) 3 (some ⟨true,[Sum.inl (.int .i64 (cnt+1))]⟩)) 2 (some ⟨true,[Sum.inl (.slice none 0 0)]⟩) }):
  dV Tryd.prog 28 (some [I .i64 a,Ag (aA .u8 64 d),Ptr 3 0,Ptr 1 0,Ptr 0 0,Ptr 2 0]) F s:=by
 refine (IG (a:=a) (d:=d) (f:=f) (m:=m) (Wi hk hn hg) hk hl hL hm ha h0 h1 hne).oT (six w) [2,3,4,6] (Bn hd hw SF hg.shows.plain (dW hk) hk.c) oB ?_
 rintro out rfl
 rw[ma]
 have e6:six w 6=w:=rfl
 have:=hK
 simp only[List.foldr_cons,List.foldr_nil,lk,Option.map_some,Option.map_none,aG.ren,List.map_cons,List.map_nil,SV.ren,dT,e6,az aD,Nat.reduceEqDiff,reduceIte,show six w 2=2 from rfl,show six w 3=3 from rfl,show six w 4=4 from rfl]
 exact this
end
def dM (a n:Nat) (pf:Nat→Int):List Pd:=(List.range (aO n)).map fun i=>(a+1+i,fun j=>fX n pf (i*64+j))
theorem gG {a n:Nat} {pf:Nat→Int}:(dM a n pf).length=aO n:=by simp[dM]
theorem wX {a n j:Nat} {pf:Nat→Int} (h:j < aO n):(dM a n pf)[j]? =some (a+1+j,fun i=>fX n pf (j*64+i)):=by simp[dM,h]
theorem zW {a n m:Nat} {pf:Nat→Int} (h:a+aO n < m):Fit m (dM a n pf):=fun p hp=>by
 simp only[dM,List.mem_map,List.mem_range]at hp
 obtain ⟨i,hi,rfl⟩:=hp
 simp only
 omega
theorem Eh {m k:Nat} {L:List Pd} (h:Fit m L):Fit m (L.take k):=fun p hp=>h p (List.mem_of_mem_take hp)
def lK (f:Nat→Int) (a n:Nat) (q:Int) (pf:Nat→Int):Nat→Int:=ka (eh f (dM a n pf)) (a,gM q n pf)
def jK (f:Nat→Int) (a n:Nat) (q:Int) (pf:Nat→Int) (kn:Nat) (kb:Nat→Bool) (cut:Nat) (T:Nat):Nat→Int:=
 if T < aO n then fF (eh f (cZ kn kb 0 ((dM a n pf).take T))) (a+1+T) cut (fun i=>fX n pf (T*64+i)) else fF (eh f (dM a n pf)) a cut (gM q n pf)
def xP (m:Nat) (f:Nat→Int) (pc kc:List SV) (cnt:Int) (ps:List SV):List (Nat×aG):=
 [(0,⟨false,[Sum.inr (.inr (4,0,m,m))]⟩),(1,⟨false,pc⟩),(2,⟨true,[Sum.inl (.slice none 0 0)]⟩),(3,⟨true,[Sum.inl (.int .i64 cnt)]⟩),(4,⟨true,aA .u8 (64*m) f⟩),(5,⟨false,kc⟩),(6,⟨false,ps⟩)]
theorem oU {m:Nat} {f:Nat→Int} {pc kc ps:List SV} {cnt:Int}: ∀ n,n < 7→ ∃ c,lk (xP m f pc kc cnt ps) n=some c:=fun n hn=>by
 rcases (show n=0∨n=1∨n=2∨n=3∨n=4∨n=5∨n=6 by omega) with rfl | rfl | rfl | rfl | rfl | rfl | rfl<;>exact ⟨_,rfl⟩
theorem oV {m:Nat} {f:Nat→Int} {pc kc ps:List SV} {cnt:Int} (hp: ∀ x ∈ pc,SV.ok (fun n=>n=5) x) (hk:kc.all SV.plain=true) (hs:ps.all SV.plain=true): ∀ n c,lk (xP m f pc kc cnt ps) n=some c→n < 7∧ ∀ x ∈ c.cells,SV.ok (fun n=>n < 7) x:=fun n c hn=>by
 have h1:=bg _ _ _ hn
 simp only[xP,cz,Prod.mk.injEq]at h1
 rcases h1 with ⟨rfl,rfl⟩ | ⟨rfl,rfl⟩ | ⟨rfl,rfl⟩ | ⟨rfl,rfl⟩ | ⟨rfl,rfl⟩ | ⟨rfl,rfl⟩ | ⟨rfl,rfl⟩
 ·exact ⟨by decide,fun x hx=>by rw[List.mem_singleton]at hx;subst hx;exact ⟨(by decide:4 < 7),rfl⟩⟩
 ·exact ⟨by decide,fun x hx=>SV.aI (fun n hn=>by subst hn;decide) (hp x hx)⟩
 ·exact ⟨by decide,ai rfl⟩
 ·exact ⟨by decide,ai rfl⟩
 ·exact ⟨by decide,ai aD⟩
 ·exact ⟨by decide,ai hk⟩
 ·exact ⟨by decide,ai hs⟩
def cr (m:Nat) (f:Nat→Int) (cnt:Int):List (Nat×aG):=[(2,⟨true,[Sum.inl (.slice none 0 0)]⟩),(3,⟨true,[Sum.inl (.int .i64 cnt)]⟩),(4,⟨true,aA .u8 (64*m) f⟩)]
theorem uw {s:AS} {k m:Nat} {f:Nat→Int} {cnt:Int} (hk:7≤k) (h2:s.box 2=some ⟨true,[Sum.inl (.slice none 0 0)]⟩) (h3:s.box 3=some ⟨true,[Sum.inl (.int .i64 cnt)]⟩) (h4:s.box 4=some ⟨true,aA .u8 (64*m) f⟩):Bd k eR (fun out=>out=lk (cr m f cnt)) (.panic eR) s:=by
 refine Gk fun x hx=> ?_
 simp only[cr,cz]at hx
 rcases hx with rfl | rfl | rfl
 ·exact ⟨(by omega:2 < k),ai rfl,h2⟩
 ·exact ⟨(by omega:3 < k),ai rfl,h3⟩
 ·exact ⟨(by omega:4 < k),ai aD,h4⟩
theorem Bo {s:AS} {k m:Nat} {f:Nat→Int} {cnt:Int} {v:AV} (hv:AV.plain v=true) (hk:7≤k) (h2:s.box 2=some ⟨true,[Sum.inl (.slice none 0 0)]⟩) (h3:s.box 3=some ⟨true,[Sum.inl (.int .i64 cnt)]⟩) (h4:s.box 4=some ⟨true,aA .u8 (64*m) f⟩):nA k (fun u out=>u=v∧out=lk (cr m f cnt)) v s:=by
 have hr: ∀ n,n < k→iT k k n=n:=fun n hn=>by unfold iT;rw[if_neg (by omega)]
 refine dD (q:=k) (v0:=v) (Nat.le_refl _) (AV.cJ hv _).symm (AV.dq hv) (fun x hx=> ?_) ⟨rfl,rfl⟩
 simp only[cr,cz]at hx
 rcases hx with rfl | rfl | rfl
 ·exact ⟨(by omega:2 < k+1),fun _=>rfl,ai rfl,by rw[hr _ (by simp only;omega)];exact h2⟩
 ·exact ⟨(by omega:3 < k+1),fun _=>rfl,ai rfl,by rw[hr _ (by simp only;omega)];exact h3⟩
 ·exact ⟨(by omega:4 < k+1),fun _=>rfl,ai aD,by rw[hr _ (by simp only;omega),az aD];exact h4⟩
theorem Ei {f:Nat→Int} {p:Pd}:eh f [p]=ka f p:=rfl
theorem Kl {s:AS} {nm t n:Nat} {r0:Bool} {cs:List SV} {f:Nat→Int} {q:Int} {sv:SV} (hb:s.box t=some ⟨r0,cs⟩) (hl:cY t sv n f cs) (hp:cs.all SV.plain=true) (hn:n < 16777216) {dst:Option Nat} {K:AS→Prop}
  (hk:K (({ s with box:=upd s.box nm (some ⟨true,aA .u8 (64*aO n) (fX n f)⟩) }:AS).put dst (some (Sl nm 0 (aO n) (aO n))))):aB Tryd.prog nm 36 (some [Ag (bj q sv)]) dst K s:=by
 obtain ⟨s0,h0,h1⟩:=hl.jJ 0
 refine (Nc (q:=q) h0 hp hn).aB (fun _=>t) none (dU hb hp) ?_ ?_
 ·simp only[List.map_cons,List.map_nil,iJ,h1 (fun _=>t) rfl]
 ·rintro v out ⟨rfl,rfl⟩ _
  rw[dv aD]
  simp only[jQ,gl]
  exact hk
theorem ki {s:AS} {nm t n:Nat} {r0:Bool} {cs:List SV} {f:Nat→Int} {q:Int} {sv:SV} (hb:s.box t=some ⟨r0,cs⟩) (hl:cY t sv n f cs) (hp:cs.all SV.plain=true) (hf:cU f) (hn:n < 16777216) {dst:Option Nat} {K:AS→Prop}
  (hk:K (({ s with box:=upd s.box nm none }:AS).put dst (some (Ag (aA .u8 64 (gM q n f)))))):bD Tryd.prog nm 37 (some [Ag (bj q sv)]) dst K s:=by
 obtain ⟨s0,h0,h1⟩:=hl.jJ 0
 refine (Ef (q:=q) h0 hp hf hn).wide.aB (fun _=>t) none (dU hb hp) ?_ ?_
 ·simp only[List.map_cons,List.map_nil,iJ,h1 (fun _=>t) rfl]
 ·rintro v out ⟨rfl,rfl⟩
  rw[dJ,AV.cJ (show AV.plain (Ag (aA .u8 64 (gM q n f)))=true from aD)]
  exact hk
def bk (at_ cnt:Int) (n:Nat):Bool:=decide (cnt < at_∧at_≤cnt+n)
def oW (a N k:Nat):List (Nat×AV):=[(3,Ptr 7 0),(5,Ptr 8 0),(1,I .i64 a),(9,Sl 10 0 N N),(10,I .i64 N),(11,I .i64 k)]
def nk (m:Nat) (f:Nat→Int) (pc kc ps:List SV) (cnt:Int) (ws:SV) (rl:List SV) (N:Nat) (g:Nat→Int):List (Nat×aG):=
 [(0,⟨false,[Sum.inr (.inr (4,0,m,m))]⟩),(1,⟨false,pc⟩),(2,⟨true,[ws]⟩),(3,⟨true,[Sum.inl (.int .i64 cnt)]⟩),(4,⟨true,aA .u8 (64*m) f⟩),(5,⟨false,kc⟩),(6,⟨false,ps⟩),(7,⟨true,eE 0 1 2 3⟩),(8,⟨true,rl⟩),(10,⟨true,aA .u8 (64*N) g⟩)]
theorem Bp {q k':Nat} {l:List SV} (h: ∀ x ∈ l,SV.ok (fun n=>n < 60) x):l.map (SV.ren (upd (fun n=>n) 60 q))=l:=by
 conv=>rhs;rw[← List.map_id l]
 exact List.map_congr_left fun x hx=>SV.jc (SV.aY (fun n hn=>aW _ _ _ _ (by omega)) (h x hx).1)
theorem II {s:AS} {m' a N k m c q:Nat} {f g:Nat→Int} {pc kc ps rl es:List SV} {cnt:Int} (hm':m'≤60) (hq:61≤q) (he: ∀ x ∈ oW a N k,s.env x.1=some x.2) (hp: ∀ x ∈ pc,SV.ok (fun n=>n < 60) x) (hk:kc.all SV.plain=true) (hps:ps.all SV.plain=true) (hr: ∀ x ∈ rl,SV.ok (fun n=>n < 60) x) (Km:es.all SV.plain=true)
  (h2:s.box 2=some ⟨true,[Sum.inr (.inr (q,0,k,c))]⟩) (Gr:s.box q=some ⟨true,es⟩) (hb: ∀ x ∈ nk m f pc kc ps cnt (Sum.inr (.inr (q,0,k,c))) rl N g,s.box x.1=some x.2):
  lh m' s (nX (oW a N k) ((60,⟨true,es⟩)::nk m f pc kc ps cnt (Sum.inr (.inr (60,0,k,c))) rl N g) 61):=by
 have hlt: ∀ y ∈ nk m f pc kc ps cnt (Sum.inr (.inr (60,0,k,c))) rl N g,y.1 < 11:=fun y hy=>by
  simp only[nk,cz]at hy
  rcases hy with rfl | rfl | rfl | rfl | rfl | rfl | rfl | rfl | rfl | rfl<;>(simp only;omega)
 have hinj: ∀ n,(n < 11∨n=60)→ ∀ y ∈ (60,(⟨true,es⟩:aG))::nk m f pc kc ps cnt (Sum.inr (.inr (60,0,k,c))) rl N g,upd (fun n=>n) 60 q n=upd (fun n=>n) 60 q y.1→n=y.1:=fun n hn y hy e=>by
  have hy':y.1 < 11∨y.1=60:=by
   rcases List.mem_cons.1 hy with rfl | hy
   ·exact .inr rfl
   ·exact .inl (hlt y hy)
  simp only[upd]at e
  split at e<;>split at e<;>omega
 have big: ∀ {l:List SV},(∀ x ∈ l,SV.ok (fun n=>n < 60) x)→ ∀ x ∈ l,SV.ok (fun n=>n < 61) x:=fun h x hx=>SV.aI (fun n hn=>by omega) (h x hx)
 have hB:=fun x hx=>hb x hx
 refine ur (upd (fun n=>n) 60 q) (fun n hn=>aW _ _ _ _ (by omega)) (fun x hx=> ?_) fun x hx=> ?_
 ·have h1:=he x hx
  simp only[oW,cz]at hx
  rcases hx with rfl | rfl | rfl | rfl | rfl | rfl
  ·exact ⟨h1,(by decide:7 < 61)⟩
  ·exact ⟨h1,(by decide:8 < 61)⟩
  ·exact ⟨h1,trivial⟩
  ·exact ⟨h1,(by decide:10 < 61)⟩
  ·exact ⟨h1,trivial⟩
  ·exact ⟨h1,trivial⟩
 ·rcases List.mem_cons.1 hx with rfl | hx
  ·exact ⟨⟨true,by rw[az Km];simpa[upd] using Gr,fun h=>h⟩,(by decide:60 < 61),ai Km,fun _=>hinj 60 (.inr rfl)⟩
  ·simp only[nk,cz]at hx
   simp only[nk,cz,forall_eq_or_imp,forall_eq]at hB
   obtain ⟨g0,g1,g2,g3,g4,g5,g6,g7,g8,Y'⟩:=hB
   have d7: ∀ x ∈ eE 0 1 2 3,SV.ok (fun n=>n < 60) x:=dg fun n hn=>by omega
   rcases hx with rfl | rfl | rfl | rfl | rfl | rfl | rfl | rfl | rfl | rfl
   ·exact ⟨⟨false,g0,fun h=>h⟩,(by decide:0 < 61),fun y hy=>by rw[List.mem_singleton]at hy;subst hy;exact ⟨(by decide:4 < 61),rfl⟩,fun h=>(by cases h)⟩
   ·exact ⟨⟨false,by rw[Bp (k':=0) hp];exact g1,fun h=>h⟩,(by decide:1 < 61),big hp,fun h=>(by cases h)⟩
   ·exact ⟨⟨true,h2,fun h=>h⟩,(by decide:2 < 61),fun y hy=>by rw[List.mem_singleton]at hy;subst hy;exact ⟨(by decide:60 < 61),rfl⟩,fun _=>hinj 2 (.inl (by decide))⟩
   ·exact ⟨⟨true,g3,fun h=>h⟩,(by decide:3 < 61),ai rfl,fun _=>hinj 3 (.inl (by decide))⟩
   ·exact ⟨⟨true,by rw[az aD];exact g4,fun h=>h⟩,(by decide:4 < 61),ai aD,fun _=>hinj 4 (.inl (by decide))⟩
   ·exact ⟨⟨false,by rw[az hk];exact g5,fun h=>h⟩,(by decide:5 < 61),ai hk,fun h=>(by cases h)⟩
   ·exact ⟨⟨false,by rw[az hps];exact g6,fun h=>h⟩,(by decide:6 < 61),ai hps,fun h=>(by cases h)⟩
   ·exact ⟨⟨true,by rw[Bp (k':=0) d7];exact g7,fun h=>h⟩,(by decide:7 < 61),big d7,fun _=>hinj 7 (.inl (by decide))⟩
   ·exact ⟨⟨true,by rw[Bp (k':=0) hr];exact g8,fun h=>h⟩,(by decide:8 < 61),big hr,fun _=>hinj 8 (.inl (by decide))⟩
   ·exact ⟨⟨true,by rw[az aD];exact Y',fun h=>h⟩,(by decide:10 < 61),ai aD,fun _=>hinj 10 (.inl (by decide))⟩
theorem QL {m a n kn:Nat} {kb:Nat→Bool} {f pf:Nat→Int} {ks:SV} {kc ps:List SV} {at_ cut cnt q:Int} {sv:SV} (hk:fR ks kn kb kc) (hl:cY 6 sv n pf ps) (hp:ps.all SV.plain=true) (hpf:cU pf) (hm:m≤8192) (ha:a+aO n < m) (hn:n < 600000) (h0:0≤cnt) (h1:cnt < 900000):
  ∀ c,Tryd.f16.body=some c→iX Tryd.prog [7] [4,7] c (dw Tryd.prog [] 7 (bk at_ cnt (aO n+1)) eR (fun v out=>v=Sum.inr []∧out=lk (cr m (lK f a n q pf) (cnt+(aO n:Nat)+1)))
   (fun out=>out=lk (cr m (jK f a n q pf kn kb (dO cut) (at_ - cnt - 1).toNat) at_))) (bM.start [Ag (eE 0 1 2 3),I .i64 a,Ag (bj q sv)] (lk (xP m f (cL at_ cut ks) kc cnt ps)) 7):=by
 intro c hc
 cases hc
 have hok: ∀ {M:Nat→Prop},M 6→SV.ok M sv:=fun h=>hl.ok h
 have hone:=(hl.ok (M:=fun n=>n < 7) (by decide)).2
 have dP: ∀ {M:Nat→Prop},(∀ x ∈ ps,SV.ok M x)=True:=eq_true (ai hp)
 have RT: ∀ {M:Nat→Prop},M 5→ ∀ x ∈ cL at_ cut ks,SV.ok M x:=fun h5 x hx=>SV.aI (fun n hn=>by subst hn;exact h5) (dW hk x hx)
 have jk:List.take 2 (bj q sv)=bj q sv:=rfl
 simp only[xP,jk,eN,E8,seval, -List.reduceReplicate]
 refine Kl (n:=n) (r0:=false) (by simp only[ae,vR,seval, -List.reduceReplicate]) hl hp (by omega) ?_
 simp only[xP,jk,eN,E8,seval, -List.reduceReplicate]
 have RM:aO n≤9376:=by unfold aO;omega
 have hW: ∀ k:Nat,k≤aO n→cnt+(k:Int)+1=at_→bk at_ cnt (aO n+1)=true:=fun k hk h=>decide_eq_true (by omega)
 have RU: ∀ {s:AS} {G:Nat→Int},bk at_ cnt (aO n+1)=true→s.box 2=some ⟨true,[Sum.inl (.slice none 0 0)]⟩→s.box 3=some ⟨true,[Sum.inl (.int .i64 at_)]⟩→s.box 4=some ⟨true,aA .u8 (64*m) G⟩→G=jK f a n q pf kn kb (dO cut) (at_ - cnt - 1).toNat→
   dw Tryd.prog [] 7 (bk at_ cnt (aO n+1)) eR (fun v out=>v=Sum.inr []∧out=lk (cr m (lK f a n q pf) (cnt+(aO n:Nat)+1))) (fun out=>out=lk (cr m (jK f a n q pf kn kb (dO cut) (at_ - cnt - 1).toNat) at_)) (.panic eR) s:=fun {s G} hf h2 h3 h4 e=>by
  subst e
  unfold dw
  rw[if_pos hf]
  exact uw (by decide) h2 h3 h4
 refine sj (aO n) (fun k t=> ¬ (cnt < at_∧at_≤cnt+k)∧((k=0∧t=nX (oW a (aO n) k) (nk m f (cL at_ cut ks) kc ps (cnt+k) (Sum.inl (.slice none 0 0)) (bj q sv) (aO n) (fX n pf)) 61)∨
  (0 < k∧ ∃ c es,fb es ((dM a n pf).take k) c∧t=nX (oW a (aO n) k) ((60,⟨true,es⟩)::nk m f (cL at_ cut ks) kc ps (cnt+k) (Sum.inr (.inr (60,0,k,c))) (bj q sv) (aO n) (fX n pf)) 61))) ?_ ?_ ?_ ?_
 ·rintro k t ⟨_,⟨_,rfl⟩ | ⟨_,_,_,_,rfl⟩⟩<;>(show (13:Nat)≤61;decide)
 ·refine ⟨_,⟨by omega, .inl ⟨rfl,rfl⟩⟩,dx.nC ?_⟩
  simp only[oW,nk,Int.add_zero,aQ,dP,vR,seval, -List.reduceReplicate]
  exact ⟨⟨(by decide:4 < 61),rfl⟩,RT (by decide),⟨trivial,rfl⟩,ai hk.c,dg fun n hn=>by omega,j8 (hok (by decide))⟩
 ·rintro k t hk2 ⟨hs,hI⟩
  have Ui:=wX (a:=a) (pf:=pf) hk2
  have tN:((dM a n pf).take k).length=k:=by rw[List.length_take,gG];omega
  have e1:List.take 64 (List.drop (k*64) (aA .u8 (64*aO n) (fX n pf)))=aA .u8 64 (fun i=>fX n pf (k*64+i)):=kE _ _ _ _ _ (by omega)
  have e2:(k*64+64≤64*aO n)=True:=eq_true (by omega)
  have a3:IntKind.i64.wrap ((a:Int)+1)=((a+1:Nat):Int):=by rw[wrap_i64 _ (by omega) (by omega)];omega
  have a4:IntKind.i64.wrap (((a+1:Nat):Int)+(k:Int))=((a+1+k:Nat):Int):=by rw[wrap_i64 _ (by omega) (by omega)];omega
  have e5:bk at_ cnt (aO n+1)=true→(at_ - cnt - 1).toNat=k→fF (eh f (cZ kn kb 0 ((dM a n pf).take k))) (a+1+k) (dO cut) (fun i=>fX n pf (k*64+i))=jK f a n q pf kn kb (dO cut) (at_ - cnt - 1).toNat:=fun _ e=>by
   unfold jK
   rw[e,if_pos hk2]
  have qP: ∀ k:Nat, ¬ (cnt < at_∧at_≤cnt+k)→cnt+k+1≠at_→ ¬ (cnt < at_∧at_≤cnt+(k+1:Nat)):=fun k h h2=>by omega
  have c1:cnt+(k:Int)+1=cnt+((k+1:Nat):Int):=by omega
  rcases hI with ⟨qG,rfl⟩ | ⟨qG,c,es,hg,rfl⟩
  ·by_cases lj:cnt+k+1=at_
   ·simp only[oW,nk,aE,aJ hk2,decide_true,e1,e2,a3,a4,bQ k (by omega),aQ,bm,ao,aq,bq,aS,dP,vR,seval, -List.reduceReplicate]
    refine .inr ⟨by kernel_rfl, ?_⟩
    simp only[oW,nk,aE,aJ hk2,decide_true,e1,e2,a3,a4,bQ k (by omega),aQ,bm,ao,aq,bq,aS,dP,vR,seval, -List.reduceReplicate]
    refine m7 (m:=m) (f:=f) (kc:=kc) (cut:=cut) (at_:=at_) (cnt:=cnt+k) ⟨?_, ?_, ?_, ?_, ?_, ?_⟩ hk (by omega) (by omega) (by omega) (by omega) lj ?_<;>try (simp only[ao,aq,vR,seval, -List.reduceReplicate];done)
    simp only[eD,fa]
    refine RU (G:=fF f (a+1+k) (dO cut) fun i=>fX n pf (k*64+i)) (hW k (by omega) lj) ?_ ?_ ?_ ?_
    ·simp only[ae,vR,seval, -List.reduceReplicate]
    ·simp only[lj,ae,vR,seval, -List.reduceReplicate]
    ·simp only[ae,vR,seval, -List.reduceReplicate]
    ·rw[← e5 (hW k (by omega) lj) (by omega)]
     subst qG
     rfl
   ·simp only[oW,nk,aE,aJ hk2,decide_true,e1,e2,a3,a4,bQ k (by omega),aQ,bm,ao,aq,bq,aS,dP,vR,seval, -List.reduceReplicate]
    refine .inl ?_
    refine tL (m:=m) (f:=f) (kc:=kc) (cut:=cut) (at_:=at_) (cnt:=cnt+k) ⟨?_, ?_, ?_, ?_, ?_, ?_⟩ hk (by omega) (by omega) lj fun c es hg=> ?_
    all_goals try (simp only[ao,aq,vR,seval, -List.reduceReplicate];done)
    simp only[oW,nk,aE,aJ hk2,decide_true,e1,e2,a3,a4,bQ k (by omega),aQ,bm,ao,aq,bq,aS,dP,vR,seval, -List.reduceReplicate]
    refine ⟨_,⟨qP k hs lj, .inr ⟨by omega,c,es, ?_,rfl⟩⟩, ?_⟩
    ·rw[take_succ Ui,qG]
     subst qG
     exact hg
    ·refine II (m':=13) (a:=a) (N:=aO n) (k:=k+1) (m:=m) (c:=c) (q:=75) (f:=f) (g:=fX n pf) (pc:=cL at_ cut ks) (kc:=kc) (ps:=ps) (rl:=bj q sv) (es:=es) (cnt:=cnt+((k+1:Nat):Int)) (by decide) (by decide) (?_) (RT (by decide)) hk.c hp (j8 (hok (by decide))) hg.shows.plain (?_) (?_) (?_)
     ·simp only[oW,E8,seval, -List.reduceReplicate]
     ·subst qG
      simp only[E8,seval, -List.reduceReplicate]
     ·simp only[E8,seval, -List.reduceReplicate]
     ·subst qG
      simp only[nk,tN,c1,E8,seval, -List.reduceReplicate]
      simp[Int.add_zero]
  ·by_cases lj:cnt+k+1=at_
   ·simp only[oW,nk,aE,aJ hk2,decide_true,e1,e2,a3,a4,bQ k (by omega),aQ,bm,ao,aq,bq,aS,dP,vR,seval, -List.reduceReplicate]
    refine .inr ⟨by kernel_rfl, ?_⟩
    simp only[oW,nk,aE,aJ hk2,decide_true,e1,e2,a3,a4,bQ k (by omega),aQ,bm,ao,aq,bq,aS,dP,vR,seval, -List.reduceReplicate]
    refine wW (m:=m) (f:=f) (kc:=kc) (cut:=cut) (at_:=at_) (cnt:=cnt+k) (L:=(dM a n pf).take k) (w:=60) (c0:=c) (wc:=es) ⟨?_, ?_, ?_, ?_, ?_, ?_⟩ ?_ (by decide) hg (fun h=>by rw[h]at tN;simp at tN;omega) (by rw[tN];omega) (Eh (zW ha)) hk (by omega) (by omega) (by omega) (by omega) lj ?_<;>try (simp only[tN,ao,aq,vR,seval, -List.reduceReplicate];done)
    simp only[eD,fa]
    refine RU (G:=fF (eh f (cZ kn kb 0 ((dM a n pf).take k))) (a+1+k) (dO cut) fun i=>fX n pf (k*64+i)) (hW k (by omega) lj) ?_ ?_ ?_ ?_
    ·simp only[ae,vR,seval, -List.reduceReplicate]
    ·simp only[lj,ae,vR,seval, -List.reduceReplicate]
    ·simp only[ae,vR,seval, -List.reduceReplicate]
    ·exact e5 (hW k (by omega) lj) (by omega)
   ·simp only[oW,nk,aE,aJ hk2,decide_true,e1,e2,a3,a4,bQ k (by omega),aQ,bm,ao,aq,bq,aS,dP,vR,seval, -List.reduceReplicate]
    refine .inl ?_
    refine tM (m:=m) (f:=f) (kc:=kc) (cut:=cut) (at_:=at_) (cnt:=cnt+k) (L:=(dM a n pf).take k) (w:=60) (c0:=c) (wc:=es) ⟨?_, ?_, ?_, ?_, ?_, ?_⟩ ?_ (by decide) hg (fun h=>by rw[h]at tN;simp at tN;omega) (by rw[tN];omega) hk (by omega) (by omega) lj fun c' es' hg'=> ?_
    all_goals try (simp only[tN,ao,aq,vR,seval, -List.reduceReplicate];done)
    simp only[oW,nk,aE,aJ hk2,decide_true,e1,e2,a3,a4,bQ k (by omega),aQ,bm,ao,aq,bq,aS,dP,vR,seval, -List.reduceReplicate]
    refine ⟨_,⟨qP k hs lj, .inr ⟨by omega,c',es', ?_,rfl⟩⟩, ?_⟩
    ·rw[take_succ Ui]
     exact hg'
    ·refine II (m':=13) (a:=a) (N:=aO n) (k:=k+1) (m:=m) (c:=c') (q:=75) (f:=f) (g:=fX n pf) (pc:=cL at_ cut ks) (kc:=kc) (ps:=ps) (rl:=bj q sv) (es:=es') (cnt:=cnt+((k+1:Nat):Int)) (by decide) (by decide) (?_) (RT (by decide)) hk.c hp (j8 (hok (by decide))) hg'.shows.plain (?_) (?_) (?_)
     ·simp only[oW,E8,seval, -List.reduceReplicate]
     ·simp only[tN,E8,seval, -List.reduceReplicate]
     ·simp only[E8,seval, -List.reduceReplicate]
     ·simp only[nk,tN,c1,E8,seval, -List.reduceReplicate]
 ·rintro t ⟨hs,hI⟩
  have tN:(dM a n pf).take (aO n)=dM a n pf:=List.take_of_length_le (by rw[gG];exact Nat.le_refl _)
  rcases hI with ⟨qG,rfl⟩ | ⟨qG,c,es,hg,rfl⟩
  ·simp only[oW,nk,aE,Int.lt_irrefl,decide_false,aQ,bm,ao,aq,bq,aS,dP,vR,seval, -List.reduceReplicate]
   refine Eg (m:=m) (f:=f) (kc:=kc) (cut:=cut) (at_:=at_) (cnt:=cnt+aO n) ⟨?_, ?_, ?_, ?_, ?_, ?_⟩ hk (by omega) ?_<;>try (simp only[ao,aq,vR,seval, -List.reduceReplicate];done)
   have hb0:dM a n pf=[]:=List.length_eq_zero_iff.1 (by rw[gG];exact qG)
   simp only[oW,nk,aE,aQ,bm,ao,aq,bq,aS,dP,vR,seval, -List.reduceReplicate]
   by_cases lj:cnt+aO n+1=at_
   ·refine .inr ⟨by kernel_rfl, ?_⟩
    simp only[oW,nk,aE,aQ,bm,ao,aq,bq,aS,dP,vR,seval, -List.reduceReplicate]
    refine dK (by kernel_rfl) [0,1,2,3] [4] [] [] [7,8] [28,29,30,31,32] (by kernel_rfl) (by kernel_rfl) (by kernel_rfl) ?_
    simp only[oW,nk,aE,aQ,bm,ao,aq,bq,aS,dP,vR,seval, -List.reduceReplicate]
    refine ⟨Nat.le_of_eq eN.symm, ?_⟩
    rw[jk]
    refine ki (n:=n) (r0:=false) (by simp only[ao,aq,ae,vR,seval, -List.reduceReplicate]) hl hp hpf (by omega) ?_
    simp only[oW,nk,aE,aQ,bm,ao,aq,bq,aS,dP,vR,seval, -List.reduceReplicate]
    refine m7 (m:=m) (f:=f) (kc:=kc) (cut:=cut) (at_:=at_) (cnt:=cnt+aO n) ⟨?_, ?_, ?_, ?_, ?_, ?_⟩ hk (by omega) (by omega) (by omega) (by omega) lj ?_<;>try (simp only[ao,aq,ae,vR,seval, -List.reduceReplicate];done)
    simp only[fa]
    refine RU (G:=fF (f) a (dO cut) (gM q n pf)) (hW (aO n) (by omega) lj) ?_ ?_ ?_ ?_
    ·simp only[ae,vR,seval, -List.reduceReplicate]
    ·simp only[lj,ae,vR,seval, -List.reduceReplicate]
    ·simp only[ae,vR,seval, -List.reduceReplicate]
    ·unfold jK
     rw[if_neg (by omega),hb0,kS]
   ·refine .inl ?_
    refine dK (by kernel_rfl) [0,1,2,3] [4,5] [] [] [7,8] [28,29,30,31,32,33] (by kernel_rfl) (by kernel_rfl) (by kernel_rfl) ?_
    simp only[oW,nk,aE,aQ,bm,ao,aq,bq,aS,dP,vR,seval, -List.reduceReplicate]
    refine ⟨Nat.le_of_eq eN.symm, ?_⟩
    rw[jk]
    refine ki (n:=n) (r0:=false) (by simp only[ao,aq,ae,vR,seval, -List.reduceReplicate]) hl hp hpf (by omega) ?_
    simp only[oW,nk,aE,aQ,bm,ao,aq,bq,aS,dP,vR,seval, -List.reduceReplicate]
    refine rv (m:=m) (f:=f) (kc:=kc) (cut:=cut) (at_:=at_) (cnt:=cnt+aO n) ⟨?_, ?_, ?_, ?_, ?_, ?_⟩ hk (by omega) (by omega) lj fun c es gu=> ?_
    all_goals try (simp only[ao,aq,ae,vR,seval, -List.reduceReplicate];done)
    simp only[oW,nk,aE,aQ,bm,ao,aq,bq,aS,dP,vR,seval, -List.reduceReplicate]
    refine lJ (m:=m) (f:=f) (kc:=kc) (cut:=cut) (at_:=at_) (cnt:=cnt+aO n+1) (L:=[(a,gM q n pf)]) (w:=73) (c0:=c) (wc:=es) ⟨?_, ?_, ?_, ?_, ?_, ?_⟩ ?_ (by decide) gu (by simp) (by simp) (fun p hp=>by rw[List.mem_singleton]at hp;subst hp;simp only;omega) hk (by omega) ?_<;>try (simp only[List.length_singleton,ao,aq,ae,vR,seval, -List.reduceReplicate];done)
    simp only[oW,nk,aE,aQ,bm,ao,aq,bq,aS,dP,vR,seval, -List.reduceReplicate]
    unfold dw
    rw[if_neg (fun h=>by have h9:=of_decide_eq_true h;omega)]
    refine Bo (by rfl) (by decide) ?_ ?_ ?_<;>try (simp only[ae,vR,seval, -List.reduceReplicate];done)
    simp only[ae,vR,seval, -List.reduceReplicate]
    unfold lK
    rw[Ei,hb0,kS]
  ·simp only[oW,nk,aE,Int.lt_irrefl,decide_false,aQ,bm,ao,aq,bq,aS,dP,vR,seval, -List.reduceReplicate]
   have Ph:(dM a n pf).length=aO n:=gG
   rw[tN]at hg
   refine lJ (m:=m) (f:=f) (kc:=kc) (cut:=cut) (at_:=at_) (cnt:=cnt+aO n) (L:=dM a n pf) (w:=60) (c0:=c) (wc:=es) ⟨?_, ?_, ?_, ?_, ?_, ?_⟩ ?_ (by decide) hg (fun h=>by rw[h]at Ph;simp at Ph;omega) (by rw[Ph];omega) (zW ha) hk (by omega) ?_<;>try (simp only[Ph,ao,aq,vR,seval, -List.reduceReplicate];done)
   simp only[oW,nk,aE,aQ,bm,ao,aq,bq,aS,dP,vR,seval, -List.reduceReplicate]
   by_cases lj:cnt+aO n+1=at_
   ·refine .inr ⟨by kernel_rfl, ?_⟩
    simp only[oW,nk,aE,aQ,bm,ao,aq,bq,aS,dP,vR,seval, -List.reduceReplicate]
    refine dK (by kernel_rfl) [0,1,2,3] [4] [] [] [7,8] [28,29,30,31,32] (by kernel_rfl) (by kernel_rfl) (by kernel_rfl) ?_
    simp only[oW,nk,aE,aQ,bm,ao,aq,bq,aS,dP,vR,seval, -List.reduceReplicate]
    refine ⟨Nat.le_of_eq eN.symm, ?_⟩
    rw[jk]
    refine ki (n:=n) (r0:=false) (by simp only[ao,aq,ae,vR,seval, -List.reduceReplicate]) hl hp hpf (by omega) ?_
    simp only[oW,nk,aE,aQ,bm,ao,aq,bq,aS,dP,vR,seval, -List.reduceReplicate]
    refine m7 (m:=m) (f:=eh f (dM a n pf)) (kc:=kc) (cut:=cut) (at_:=at_) (cnt:=cnt+aO n) ⟨?_, ?_, ?_, ?_, ?_, ?_⟩ hk (by omega) (by omega) (by omega) (by omega) lj ?_<;>try (simp only[ao,aq,ae,vR,seval, -List.reduceReplicate];done)
    simp only[fa]
    refine RU (G:=fF (eh f (dM a n pf)) a (dO cut) (gM q n pf)) (hW (aO n) (by omega) lj) ?_ ?_ ?_ ?_
    ·simp only[ae,vR,seval, -List.reduceReplicate]
    ·simp only[lj,ae,vR,seval, -List.reduceReplicate]
    ·simp only[ae,vR,seval, -List.reduceReplicate]
    ·unfold jK
     rw[if_neg (by omega)]
   ·refine .inl ?_
    refine dK (by kernel_rfl) [0,1,2,3] [4,5] [] [] [7,8] [28,29,30,31,32,33] (by kernel_rfl) (by kernel_rfl) (by kernel_rfl) ?_
    simp only[oW,nk,aE,aQ,bm,ao,aq,bq,aS,dP,vR,seval, -List.reduceReplicate]
    refine ⟨Nat.le_of_eq eN.symm, ?_⟩
    rw[jk]
    refine ki (n:=n) (r0:=false) (by simp only[ao,aq,ae,vR,seval, -List.reduceReplicate]) hl hp hpf (by omega) ?_
    simp only[oW,nk,aE,aQ,bm,ao,aq,bq,aS,dP,vR,seval, -List.reduceReplicate]
    refine rv (m:=m) (f:=eh f (dM a n pf)) (kc:=kc) (cut:=cut) (at_:=at_) (cnt:=cnt+aO n) ⟨?_, ?_, ?_, ?_, ?_, ?_⟩ hk (by omega) (by omega) lj fun c es gu=> ?_
    all_goals try (simp only[ao,aq,ae,vR,seval, -List.reduceReplicate];done)
    simp only[oW,nk,aE,aQ,bm,ao,aq,bq,aS,dP,vR,seval, -List.reduceReplicate]
    refine lJ (m:=m) (f:=eh f (dM a n pf)) (kc:=kc) (cut:=cut) (at_:=at_) (cnt:=cnt+aO n+1) (L:=[(a,gM q n pf)]) (w:=73) (c0:=c) (wc:=es) ⟨?_, ?_, ?_, ?_, ?_, ?_⟩ ?_ (by decide) gu (by simp) (by simp) (fun p hp=>by rw[List.mem_singleton]at hp;subst hp;simp only;omega) hk (by omega) ?_<;>try (simp only[List.length_singleton,ao,aq,ae,vR,seval, -List.reduceReplicate];done)
    simp only[oW,nk,aE,aQ,bm,ao,aq,bq,aS,dP,vR,seval, -List.reduceReplicate]
    unfold dw
    rw[if_neg (fun h=>by have h9:=of_decide_eq_true h;omega)]
    refine Bo (by rfl) (by decide) ?_ ?_ ?_<;>try (simp only[ae,vR,seval, -List.reduceReplicate];done)
    simp only[ae,vR,seval, -List.reduceReplicate]
    unfold lK
    rw[Ei]
end Go.Proofs.YtkaamnnjeandlaaDoor
