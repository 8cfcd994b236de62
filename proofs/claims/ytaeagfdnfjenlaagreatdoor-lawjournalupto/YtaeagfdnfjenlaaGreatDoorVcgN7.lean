/-
  The document at no image, its other lists nil too.
-/
import Derived.Test.YtaeagfdnfjenlaaGreatDoorVcgWV
import Derived.Test.YtaeagfdnfjenlaaGreatDoorVcgL4
import Derived.Test.YtaeagfdnfjenlaaGreatDoorVcgWM
import Derived.Test.YtaeagfdnfjenlaaGreatDoorVcgM9
set_option maxHeartbeats 4000000
set_option maxRecDepth 20000
set_option linter.unusedSimpArgs false
set_option linter.unusedVariables false
set_option linter.unusedSectionVars false
namespace Go.Proofs.YtaeagfdnfjenlaaGreatDoor
open Go.cn
variable [aX]
section
variable {kn np:Nat} {pf:Nat→Int} {kc ps:List SV} {kb:Nat→Bool} {ks sv:SV} {at_ cut:Int} {a a' a2:Option Addr}
theorem F8 {M:Nat→Prop}:AV.ok M (Ag (cI at_ cut (.inl (.slice a' 0 0)))):=fun x hx=>by
 simp only[cI,bQ]at hx
 rcases hx with rfl | rfl | rfl<;>exact ⟨trivial,rfl⟩
theorem CJ:bd Tryz.prog 18 [V (.slice a 0 0),Ag (cI at_ cut (.inl (.slice a' 0 0)))] 0 (fun _=>none) (cX 0 1 0 (fun _=>0)):=by
 refine ft Tryz.func18 rfl (by kernel_rfl) [] [3,4] (by simp[Tryz.ntmps18]) Tryz.sT (fun v hv=> ?_) rK rL ?_
 ·simp only[bQ]at hv
  rcases hv with rfl | rfl
  ·trivial
  ·exact F8
 have hz:zeroOf Tryz.prog 40=some [.int .i64 0, .slice none 0 0]:=by kernel_rfl
 simp only[Tryz.results18,hz,slot,aK,aU,di,seval]
 refine LX.cG (fun n=>n) fQ rfl rfl ?_
 simp only[bE,slot,aK,aU,di,seval]
 refine gL 0 [0,1,3] [2,4,5] [6] [4] [11,12,14,13,15,16] (by kernel_rfl) (by kernel_rfl) (by kernel_rfl) ?_
 simp only[cN,cO,cQ,bE,slot,aK,aU,di,seval]
 refine nK (z:=fun _=>0) (by simp only[bV,seval]) fun c2 j7 g3=> ?_
 simp only[hz,cN,cO,cQ,slot,aK,aU,di,seval]
 exact bM (q:=17) (by decide) (by simp only[bV,seval]) (fun i hi=>by omega) g3 (Nat.zero_le _)
theorem CK:bd Tryz.prog 17 [V (.slice a 0 0),Ag (cI at_ cut (.inl (.slice a' 0 0)))] 0 (fun _=>none) (cX 0 1 0 (fun _=>0)):=by
 refine ft Tryz.func17 rfl (by kernel_rfl) [] [5,6] (by simp[Tryz.ntmps17]) Tryz.sS (fun v hv=> ?_) rK rL ?_
 ·simp only[bQ]at hv
  rcases hv with rfl | rfl
  ·trivial
  ·exact F8
 have hz:zeroOf Tryz.prog 40=some [.int .i64 0, .slice none 0 0]:=by kernel_rfl
 simp only[Tryz.results17,hz,slot,aK,aU,di,seval]
 refine jI.cG (fun n=>n) fQ rfl rfl ?_
 simp only[bE,slot,aK,aU,di,seval]
 refine gL 0 [0,1,3] [2,4,5] [6] [4] [20,21,23,22,24,25] (by kernel_rfl) (by kernel_rfl) (by kernel_rfl) ?_
 simp only[cN,cO,cQ,bE,slot,aK,aU,di,seval]
 refine nK (z:=fun _=>0) (by simp only[bV,seval]) fun c2 j7 g3=> ?_
 simp only[hz,cN,cO,cQ,slot,aK,aU,di,seval]
 exact bM (q:=25) (by decide) (by simp only[bV,seval]) (fun i hi=>by omega) g3 (Nat.zero_le _)
theorem F9 (hl:cS 0 sv np pf ps) (hps:ps.all SV.plain=true) (hnp:np < 4611686018427387904):bd Tryz.prog 16 [V (.slice a 0 0),Sum.inl (Sum.inl sv),Ag (cI at_ cut (.inl (.slice a' 0 0)))] 1 (lk [(0,⟨false,ps⟩)]) (cX 1 1 0 (fun _=>0)):=by
 have hlen:eM 1 (some [Sum.inl (Sum.inl sv)])=some (some (I .i64 (np:Nat)),none):=by
  rcases hl with ⟨⟨a,rfl⟩,rfl⟩ | ⟨o,c,rfl,_⟩<;>rfl
 refine ft Tryz.func16 rfl (by kernel_rfl) [] [9,11,12] (by simp[Tryz.ntmps16]) Tryz.mJ (fun v hv=> ?_) fF (fG hps) ?_
 ·simp only[bQ]at hv
  rcases hv with rfl | rfl | rfl
  ·trivial
  ·exact (hl.ok (show 0 < 1 by decide)).1
  ·exact F8
 have hz:zeroOf Tryz.prog 40=some [.int .i64 0, .slice none 0 0]:=by kernel_rfl
 simp only[Tryz.results16,hz,slot,aK,aU,di,seval]
 refine jI.cG (fun n=>n) fQ rfl rfl ?_
 simp only[bE,slot,aK,aU,di,seval]
 refine m7.cG (fun n=>n) fQ rfl rfl ?_
 simp only[hlen,bE,slot,aK,aU,di,seval]
 refine (dX (n:=np) (by omega)).av ?_
 simp only[bE,slot,aK,aU,di,seval]
 refine gL 0 [0,1,3] [2,4,5] [6] [5] [38,39,41,40,42,43] (by kernel_rfl) (by kernel_rfl) (by kernel_rfl) ?_
 simp only[cN,cO,cQ,bE,slot,aK,aU,di,seval]
 refine nK (z:=fun _=>0) (by simp only[bV,seval]) fun c2 j7 g3=> ?_
 simp only[hz,cN,cO,cQ,slot,aK,aU,di,seval]
 exact bM (q:=41) (by decide) (by simp only[bV,seval]) (fun i hi=>by omega) g3 (Nat.zero_le _)
theorem Ga (hk:dE 0 ks kn kb kc) (hq:kc.all SV.plain=true):bd Tryz.prog 16 [V (.slice a 0 0),V (.slice a2 0 0),Ag (cI at_ cut ks)] 1 (lk [(0,⟨false,kc⟩)]) (cX 1 1 0 (fun _=>0)):=by
 have hlen:eM 1 (some [V (.slice a2 0 0)])=some (some (I .i64 (0:Nat)),none):=by
  rfl
 refine ft Tryz.func16 rfl (by kernel_rfl) [] [9,11,12] (by simp[Tryz.ntmps16]) Tryz.mJ (fun v hv=> ?_) fF (fG hq) ?_
 ·simp only[bQ]at hv
  rcases hv with rfl | rfl | rfl
  ·trivial
  ·trivial
  ·exact ow hk (by decide)
 have hz:zeroOf Tryz.prog 40=some [.int .i64 0, .slice none 0 0]:=by kernel_rfl
 simp only[Tryz.results16,hz,slot,aK,aU,di,seval]
 refine jI.cG (fun n=>n) fQ rfl rfl ?_
 simp only[bE,slot,aK,aU,di,seval]
 refine m7.cG (fun n=>n) fQ rfl rfl ?_
 simp only[hlen,bE,slot,aK,aU,di,seval]
 refine (dX (n:=0) (by omega)).av ?_
 simp only[bE,slot,aK,aU,di,seval]
 refine gL 0 [0,1,3] [2,4,5] [6] [5] [38,39,41,40,42,43] (by kernel_rfl) (by kernel_rfl) (by kernel_rfl) ?_
 simp only[cN,cO,cQ,bE,slot,aK,aU,di,seval]
 refine nK (z:=fun _=>0) (by simp only[bV,seval]) fun c2 j7 g3=> ?_
 simp only[hz,cN,cO,cQ,slot,aK,aU,di,seval]
 exact bM (q:=41) (by decide) (by simp only[bV,seval]) (fun i hi=>by omega) g3 (Nat.zero_le _)
theorem Gb  :bd Tryz.prog 16 [V (.slice a 0 0),V (.slice a2 0 0),Ag (cI at_ cut (.inl (.slice a' 0 0)))] 0 (fun _=>none) (cX 0 1 0 (fun _=>0)):=by
 have hlen:eM 1 (some [V (.slice a2 0 0)])=some (some (I .i64 (0:Nat)),none):=by
  rfl
 refine ft Tryz.func16 rfl (by kernel_rfl) [] [9,11,12] (by simp[Tryz.ntmps16]) Tryz.mJ (fun v hv=> ?_) rK rL ?_
 ·simp only[bQ]at hv
  rcases hv with rfl | rfl | rfl
  ·trivial
  ·trivial
  ·exact F8
 have hz:zeroOf Tryz.prog 40=some [.int .i64 0, .slice none 0 0]:=by kernel_rfl
 simp only[Tryz.results16,hz,slot,aK,aU,di,seval]
 refine jI.cG (fun n=>n) fQ rfl rfl ?_
 simp only[bE,slot,aK,aU,di,seval]
 refine m7.cG (fun n=>n) fQ rfl rfl ?_
 simp only[hlen,bE,slot,aK,aU,di,seval]
 refine (dX (n:=0) (by omega)).av ?_
 simp only[bE,slot,aK,aU,di,seval]
 refine gL 0 [0,1,3] [2,4,5] [6] [4] [38,39,41,40,42,43] (by kernel_rfl) (by kernel_rfl) (by kernel_rfl) ?_
 simp only[cN,cO,cQ,bE,slot,aK,aU,di,seval]
 refine nK (z:=fun _=>0) (by simp only[bV,seval]) fun c2 j7 g3=> ?_
 simp only[hz,cN,cO,cQ,slot,aK,aU,di,seval]
 exact bM (q:=40) (by decide) (by simp only[bV,seval]) (fun i hi=>by omega) g3 (Nat.zero_le _)
end
theorem TN {F k:Nat} {args:List AV} {ins:Nat→Option aI} {Post Post':AV→(Nat→Option aI)→Prop} (h:bd Tryz.prog F args k ins Post) (hi: ∀ v out,Post v out→Post' v out):bd Tryz.prog F args k ins Post':=
 ⟨h.body,h.all,h.qY,fun W g w h1 h2 h3 h4=>(h.call W g w h1 h2 h3 h4).mono (by
  rintro e w' ⟨v,out,g',k1,k2,k3⟩
  exact ⟨v,out,g',k1,hi v out k2,k3⟩)⟩
section
variable {kn np nm i:Nat} {f pf:Nat→Int} {cs kc ps:List SV} {kb:Nat→Bool} {ks sv:SV} {at_ cut:Int} {a:Option Addr} {s:AS} {ops:Array Oper} {dst:Option Nat} {K:AS→Prop} {r1 r2:Bool}
theorem JW:bd Tryz.prog 9 [V (.slice a 0 0)] 0 (fun _=>none) (jz 0 0 f):=
 TN jI fun v out h=> .inl ⟨.inl rfl,h.1,h.2⟩
theorem wJ (hk:dE 2 ks kn kb kc) (hq:kc.all SV.plain=true) (hl:cS 1 sv np pf ps) (hps:ps.all SV.plain=true) (hnp:np≤1048576)
  (b1:s.box 1=some ⟨r1,ps⟩) (b2:s.box 2=some ⟨r2,kc⟩) (iw:late ops i=true)
  (hK: ∀ pv bx,kj bx nm 0 (fun _=>0) pv→(∀ t,t≠nm→bx t=s.box t)→K (({ s with box:=bx }:AS).put dst (some (Ag [Sum.inl (.int .i64 1),pv])))):
  km Tryz.prog ops i nm 16 (some [V (.slice a 0 0),Sum.inl (Sum.inl sv),Ag (cI at_ cut ks)]) dst K s:=by
 rcases hl with ⟨⟨a1,rfl⟩,rfl⟩ | ⟨o1,c1,rfl,l1,l2⟩<;>rcases hk with ⟨⟨a2,rfl⟩,rfl⟩ | ⟨o2,c2,rfl,k2⟩
 ·exact iO Gb (r:=fun n=>n) fQ rfl (fun M h m hm=>by omega) iw hK
 ·refine iO (Ga (ks:= .inr (.inr (0,o2,kn,c2))) (.inr ⟨o2,c2,rfl,k2⟩) hq) (r:=fun _=>2) (bZ b2 hq) rfl (fun M h m hm=> ?_) iw hK
  exact ((h (Ag (cI at_ cut (.inr (.inr (2,o2,kn,c2))))) (List.mem_cons_of_mem _ (List.mem_cons_of_mem _ (List.mem_cons_self ..))): ∀ x ∈ cI at_ cut (.inr (.inr (2,o2,kn,c2))),SV.ok M x) _ (List.mem_cons_of_mem _ (List.mem_cons_self ..))).1
 ·refine iO (F9 (sv:= .inr (.inr (0,o1,np,c1))) (.inr ⟨o1,c1,rfl,l1,l2⟩) hps (by omega)) (r:=fun _=>1) (bZ b1 hps) rfl (fun M h m hm=> ?_) iw hK
  exact h (Sl 1 o1 np c1) (List.mem_cons_of_mem _ (List.mem_cons_self ..))
 ·refine iO (JR (sv:= .inr (.inr (0,o1,np,c1))) (ks:= .inr (.inr (1,o2,kn,c2))) (.inr ⟨o2,c2,rfl,k2⟩) hq (.inr ⟨o1,c1,rfl,l1,l2⟩) hps (by omega)) (r:=two 1 2) (jq b1 hps b2 hq) rfl (fun M h m hm=> ?_) iw hK
  have m1:M 1:=h (Sl 1 o1 np c1) (List.mem_cons_of_mem _ (List.mem_cons_self ..))
  have m2:M 2:=((h (Ag (cI at_ cut (.inr (.inr (2,o2,kn,c2))))) (List.mem_cons_of_mem _ (List.mem_cons_of_mem _ (List.mem_cons_self ..))): ∀ x ∈ cI at_ cut (.inr (.inr (2,o2,kn,c2))),SV.ok M x) _ (List.mem_cons_of_mem _ (List.mem_cons_self ..))).1
  rcases m with _ | _ | m
  ·exact m1
  ·exact m2
  ·omega
theorem CL {F:Nat} (Nz: ∀ {a':Option Addr},bd Tryz.prog F [V (.slice a 0 0),Ag (cI at_ cut (.inl (.slice a' 0 0)))] 0 (fun _=>none) (cX 0 1 0 (fun _=>0)))
  (h: ∀ {QD:SV},dE 0 QD kn kb kc→bd Tryz.prog F [V (.slice a 0 0),Ag (cI at_ cut QD)] 1 (lk [(0,⟨false,kc⟩)]) (cX 1 1 0 (fun _=>0)))
  (hk:dE 2 ks kn kb kc) (hq:kc.all SV.plain=true) (b2:s.box 2=some ⟨r2,kc⟩) (iw:late ops i=true)
  (hK: ∀ pv bx,kj bx nm 0 (fun _=>0) pv→(∀ t,t≠nm→bx t=s.box t)→K (({ s with box:=bx }:AS).put dst (some (Ag [Sum.inl (.int .i64 1),pv])))):
  km Tryz.prog ops i nm F (some [V (.slice a 0 0),Ag (cI at_ cut ks)]) dst K s:=by
 rcases hk with ⟨⟨a2,rfl⟩,rfl⟩ | ⟨o2,c2,rfl,k2⟩
 ·exact iO Nz (r:=fun n=>n) fQ rfl (fun M h m hm=>by omega) iw hK
 ·refine iO (h (QD:= .inr (.inr (0,o2,kn,c2))) (.inr ⟨o2,c2,rfl,k2⟩)) (r:=fun _=>2) (bZ b2 hq) rfl (fun M h m hm=> ?_) iw hK
  exact ((h (Ag (cI at_ cut (.inr (.inr (2,o2,kn,c2))))) (List.mem_cons_of_mem _ (List.mem_cons_self ..)): ∀ x ∈ cI at_ cut (.inr (.inr (2,o2,kn,c2))),SV.ok M x) _ (List.mem_cons_of_mem _ (List.mem_cons_self ..))).1
end
theorem TP {bx:Nat→Option aI} {nm:Nat} {g g':Nat→Int} {v:SV} (h:kj bx nm 0 g v):kj bx nm 0 g' v:=by
 rcases h with ⟨rfl,h0⟩ | ⟨c,cs,rfl,h4,h1,h2,h3⟩
 ·exact .inl ⟨rfl,h0⟩
 ·exact .inr ⟨c,cs,rfl,h4,h1,h2,fun i hi=>absurd hi (Nat.not_lt_zero i)⟩
section
variable {n kn np nm i:Nat} {f pf:Nat→Int} {cs kc ps:List SV} {kb:Nat→Bool} {ks sv si:SV} {at_ cut:Int} {s:AS} {ops:Array Oper} {dst:Option Nat} {K:AS→Prop} {r0 r1 r2:Bool}
theorem LZ (hi:cS 0 si n f cs) (hp:cs.all SV.plain=true) (hn:n≤1048576) (hf:eJ f) (b0:s.box 0=some ⟨r0,cs⟩)
  (hK: ∀ pv bx,kj bx nm (rI f n).2.2.2.2.1 (rI f n).2.2.2.2.2 pv→(∀ t,t≠nm→bx t=s.box t)→K (({ s with box:=bx }:AS).put dst (some (mtA (rI f n) pv)))):av Tryz.prog nm 9 (some [Sum.inl (Sum.inl si)]) dst K s:=by
 rcases hi with ⟨⟨a,rfl⟩,rfl⟩ | ⟨o,c,rfl,hc,hs⟩
 ·exact uw (n:=0) (f:=f) JW (r:=fun n=>n) fQ rfl hK
 ·exact uw (uu hs hc hp hn hf) (r:=fun _=>0) (bZ b0 hp) rfl hK
theorem JX (hi:cS 0 si n f cs) (hp:cs.all SV.plain=true) (hn:n≤1048576) (hf:eJ f) (hk:dE 2 ks kn kb kc) (hq:kc.all SV.plain=true) (hl:cS 1 sv np pf ps) (hps:ps.all SV.plain=true) (hpf:eJ pf) (hnp:np≤1048576)
  (b0:s.box 0=some ⟨r0,cs⟩) (b1:s.box 1=some ⟨r1,ps⟩) (b2:s.box 2=some ⟨r2,kc⟩) (iw:late ops i=true)
  (hK: ∀ pv bx,kj bx nm n (Bx kn kb cut f n at_ (aW f (n / 64) np pf)) pv→(∀ t,t≠nm→bx t=s.box t)→K (({ s with box:=bx }:AS).put dst (some (Ag [Sum.inl (.int .i64 (xX n at_ (aW f (n / 64) np pf))),pv])))):
  km Tryz.prog ops i nm 16 (some [Sum.inl (Sum.inl si),Sum.inl (Sum.inl sv),Ag (cI at_ cut ks)]) dst K s:=by
 rcases hi with ⟨⟨a,rfl⟩,rfl⟩ | ⟨o,c,rfl,hc,hs⟩
 ·refine wJ (r1:=r1) (r2:=r2) hk hq hl hps hnp b1 b2 iw fun pv bx h e=> ?_
  have h2:=hK pv bx (TP h) e
  rwa [(BQ (kn:=kn) (kb:=kb) (cut:=cut) (f:=f) (.inl rfl)).1]at h2
 ·exact B0 (r0:=r0) (r1:=r1) (r2:=r2) hs hc hp hn hf hk hq hl hps hpf hnp b0 b1 b2 iw hK
theorem JY {F:Nat} {rr:pR} (h: ∀ {o c:Nat} {QD:SV} {kc0:List SV},aY cs o n f→n≤c→dE 1 QD kn kb kc0→kc0.all SV.plain=true→bd Tryz.prog F [Sl 0 o n c,Ag (cI at_ cut QD)] 2 (lk [(0,⟨false,cs⟩),(1,⟨false,kc0⟩)]) (cX 2 (xX n at_ rr) n (Bx kn kb cut f n at_ rr)))
  (Nz: ∀ {a a':Option Addr},bd Tryz.prog F [V (.slice a 0 0),Ag (cI at_ cut (.inl (.slice a' 0 0)))] 0 (fun _=>none) (cX 0 1 0 (fun _=>0)))
  (h1: ∀ {a:Option Addr} {QD:SV},dE 0 QD kn kb kc→bd Tryz.prog F [V (.slice a 0 0),Ag (cI at_ cut QD)] 1 (lk [(0,⟨false,kc⟩)]) (cX 1 1 0 (fun _=>0)))
  (hi:cS 0 si n f cs) (hp:cs.all SV.plain=true) (hk:dE 2 ks kn kb kc) (hq:kc.all SV.plain=true) (b0:s.box 0=some ⟨r0,cs⟩) (b2:s.box 2=some ⟨r2,kc⟩) (iw:late ops i=true)
  (hK: ∀ pv bx,kj bx nm n (Bx kn kb cut f n at_ rr) pv→(∀ t,t≠nm→bx t=s.box t)→K (({ s with box:=bx }:AS).put dst (some (Ag [Sum.inl (.int .i64 (xX n at_ rr)),pv])))):
  km Tryz.prog ops i nm F (some [Sum.inl (Sum.inl si),Ag (cI at_ cut ks)]) dst K s:=by
 rcases hi with ⟨⟨a,rfl⟩,rfl⟩ | ⟨o,c,rfl,hc,hs⟩
 ·refine CL (r2:=r2) Nz h1 hk hq b2 iw fun pv bx h e=> ?_
  have h2:=hK pv bx (TP h) e
  rwa [(BQ (kn:=kn) (kb:=kb) (cut:=cut) (f:=f) (.inl rfl)).1]at h2
 ·exact JV (r0:=r0) (r2:=r2) (fun k1 k2=>h hs hc k1 k2) hp hk hq b0 b2 iw hK
end
theorem Wk {f:Nat→Int} {n:Nat} (hf:eJ f):(rI f n).2.2.2.2.1 < 4611686018427387904:=by
 unfold rI
 split
 ·split
  ·exact (by decide:0 < 4611686018427387904)
  ·split
   ·exact Nat.lt_trans (yF fun i=>hf _) (by decide)
   ·exact (by decide:0 < 4611686018427387904)
 ·exact (by decide:0 < 4611686018427387904)
section
variable {n kn np:Nat} {f pf:Nat→Int} {cs kc ps:List SV} {kb:Nat→Bool} {ks sv si:SV} {at_ cut rg:Int}
theorem acD (hi:cS 0 si n f cs) (hp:cs.all SV.plain=true) (hn:n≤1048576) (hf:eJ f) (hk:dE 2 ks kn kb kc) (hq:kc.all SV.plain=true) (hkn:kn≤1048576) (hl:cS 1 sv np pf ps) (hps:ps.all SV.plain=true) (hpf:eJ pf) (hnp:np≤1048576):
  bd Tryz.prog 3 [I .i64 rg,Sum.inl (Sum.inl si),Sum.inl (Sum.inl sv),Ag (cI at_ cut ks)] 3 (lk [(0,⟨false,cs⟩),(1,⟨false,ps⟩),(2,⟨false,kc⟩)]) (fun v out=>v=B true∧out=fun _=>none):=by
 refine cy Tryz.func3 rfl (by kernel_rfl) [9,10,11] [] (by simp[Tryz.ntmps3]) Tryz.Pz (fun v hv=> ?_) Y8 (Y9 hp hps hq) ?_
 ·simp only[bQ]at hv
  rcases hv with rfl | rfl | rfl | rfl
  ·trivial
  ·exact (hi.ok (show 0 < 3 by decide)).1
  ·exact (hl.ok (show 1 < 3 by decide)).1
  ·exact ow hk (by decide)
 have Wm:zeroOf Tryz.prog 27=some [.slice none 0 0, .int .i64 0]:=by kernel_rfl
 have Wn:zeroOf Tryz.prog 30=some [.int .i64 0, .slice none 0 0, .int .i64 0, .slice none 0 0]:=by kernel_rfl
 have L0:zeroOf Tryz.prog 40=some [.int .i64 0, .slice none 0 0]:=by kernel_rfl
 have hb0: ∀ {bx:Nat→Option aI},bx 0=some ⟨false,cs⟩→fA bx (Sum.inl (Sum.inl si)) n f:=fun {bx} hb=>by
  rcases hi with ⟨⟨a,rfl⟩,h0⟩ | ⟨o,c,rfl,_,h3⟩
  ·exact .inl ⟨⟨a,rfl⟩,h0⟩
  ·exact .inr ⟨0,o,c,false,cs,rfl,hb,hp,h3⟩
 have hb1: ∀ {bx:Nat→Option aI},bx 1=some ⟨false,ps⟩→fA bx (Sum.inl (Sum.inl sv)) np pf:=fun {bx} hb=>by
  rcases hl with ⟨⟨a,rfl⟩,h0⟩ | ⟨o,c,rfl,_,h3⟩
  ·exact .inl ⟨⟨a,rfl⟩,h0⟩
  ·exact .inr ⟨1,o,c,false,ps,rfl,hb,hps,h3⟩
 simp only[Tryz.results3,Wm,Wn,L0,di,seval]
 refine Ez (hb0 (by simp only[ae,vR,seval])) (by omega) fun cD tD d1 d2=> ?_
 simp only[iN,Wm,Wn,L0,cN,cO,cQ,di,seval]
 refine Ez (hb1 (by simp only[ae,vR,seval])) (by omega) fun cP tP p1 p2=> ?_
 simp only[iN,Wm,Wn,L0,cN,cO,cQ,di,seval]
 refine ⟨Nat.le_refl 3, ?_⟩
 refine Qt (eD:=false) hk hq (by simp only[ae,vR,seval]) hkn fun cK tK k1 k2=> ?_
 simp only[vt,iN,Wm,Wn,L0,cN,cO,cQ,acB,di,seval]
 have wK:(ai .u8 n f++(ai .u8 64 (fun _=>0)++tD)).all SV.plain=true:=kP d2
 have L5:(ai .u8 np pf++(ai .u8 64 (fun _=>0)++tP)).all SV.plain=true:=kP p2
 have L6:(nw kn kb++(nw 2 (fun _=>false)++tK)).all SV.plain=true:=by rw[List.all_append,List.all_append,gp,gp,k2];rfl
 obtain ⟨xD,hxD⟩: ∃ x,x=ai .u8 n f++(ai .u8 64 (fun _=>0)++tD):=⟨_,rfl⟩
 obtain ⟨xP,hxP⟩: ∃ x,x=ai .u8 np pf++(ai .u8 64 (fun _=>0)++tP):=⟨_,rfl⟩
 obtain ⟨xK,hxK⟩: ∃ x,x=nw kn kb++(nw 2 (fun _=>false)++tK):=⟨_,rfl⟩
 have sD:aY xD 0 n f:=by rw[hxD];exact dy
 have sP:aY xP 0 np pf:=by rw[hxP];exact dy
 rw[← hxD]at wK ⊢
 rw[← hxP]at L5 ⊢
 rw[← hxK]at L6 ⊢
 refine EA (eD:=true) (cs:=xP) p1 (by simp only[ae,vR,seval]) L5 ?_
 simp only[di,seval]
 refine Ey (S0 (r:=rg) (sv:= .inr (.inr (0,0,np,cP))) (.inr ⟨0,cP,rfl,by omega,sP⟩) L5 hpf (by omega)) (r:=fun _=>10) (bZ (rw:=true) (by simp only[ae,vR,seval]) L5) rfl fun v1 LR n1 e1=> ?_
 simp only[di,seval]
 have acE:LR 0=some ⟨false,cs⟩:=by rw[e1 0 (by decide)];simp only[ae,vR,seval]
 have acF:LR 1=some ⟨false,ps⟩:=by rw[e1 1 (by decide)];simp only[ae,vR,seval]
 have acG:LR 2=some ⟨false,kc⟩:=by rw[e1 2 (by decide)];simp only[ae,vR,seval]
 have acH:LR 3=some ⟨true,cI at_ cut ks⟩:=by rw[e1 3 (by decide)];simp only[ae,vR,seval]
 have acI:LR 6=some ⟨true,xD⟩:=by rw[e1 6 (by decide)];simp only[ae,vR,seval]
 have acJ:LR 7=some ⟨true,[Sum.inr (Sum.inr (6,0,n+64,cD)),Sum.inl (Value.int IntKind.i64 n)]⟩:=by rw[e1 7 (by decide)];simp only[ae,vR,seval]
 have Xw:LR 10=some ⟨true,xP⟩:=by rw[e1 10 (by decide)];simp only[ae,vR,seval]
 have Xx:LR 11=some ⟨true,[Sum.inr (Sum.inr (10,0,np+64,cP)),Sum.inl (Value.int IntKind.i64 np)]⟩:=by rw[e1 11 (by decide)];simp only[ae,vR,seval]
 have Xy:LR 14=some ⟨true,xK⟩:=by rw[e1 14 (by decide)];simp only[ae,vR,seval]
 have Xz:LR 15=some ⟨true,[Sum.inl (Value.int IntKind.i64 at_),Sum.inr (Sum.inr (14,0,kn,cK)),Sum.inl (Value.int IntKind.i64 cut),Sum.inr (Sum.inr (14,0,kn+2,cK))]⟩:=by rw[e1 15 (by decide)];simp only[ae,vR,seval]
 have B1:=And.intro acE (And.intro acF (And.intro acG (And.intro acH (And.intro acI (And.intro acJ (And.intro Xw (And.intro Xx (And.intro Xy Xz))))))))
 simp only[B1,di,seval]
 refine EA (eD:=true) (cs:=xD) d1 (by simp only[B1,ae,vR,seval]) wK ?_
 simp only[B1,di,seval]
 refine uw (V4 sD (by omega) wK hn hf) (r:=fun _=>6) (bZ (rw:=true) (by simp only[B1,ae,vR,seval]) wK) rfl fun v2 Qj n2 e2=> ?_
 simp only[mtA,bE,aR,di,seval]
 have acK:=(e2 0 (by decide)).trans acE
 have acM:=(e2 1 (by decide)).trans acF
 have acN:=(e2 2 (by decide)).trans acG
 have acO:=(e2 3 (by decide)).trans acH
 have acP:=(e2 6 (by decide)).trans acI
 have acQ:=(e2 7 (by decide)).trans acJ
 have XA:=(e2 10 (by decide)).trans Xw
 have XB:=(e2 11 (by decide)).trans Xx
 have XC:=(e2 14 (by decide)).trans Xy
 have XD:=(e2 15 (by decide)).trans Xz
 have B2:=And.intro acK (And.intro acM (And.intro acN (And.intro acO (And.intro acP (And.intro acQ (And.intro XA (And.intro XB (And.intro XC XD))))))))
 refine LZ (r0:=false) hi hp hn hf (by simp only[B2,ae,vR,seval]) fun v3 bx3 n3 e3=> ?_
 simp only[mtA,bE,aR,di,seval]
 have acR:=(e3 0 (by decide)).trans acK
 have acS:=(e3 1 (by decide)).trans acM
 have acT:=(e3 2 (by decide)).trans acN
 have acU:=(e3 3 (by decide)).trans acO
 have acV:=(e3 6 (by decide)).trans acP
 have acW:=(e3 7 (by decide)).trans acQ
 have XE:=(e3 10 (by decide)).trans XA
 have XF:=(e3 11 (by decide)).trans XB
 have XG:=(e3 14 (by decide)).trans XC
 have XH:=(e3 15 (by decide)).trans XD
 have XI:bx3 25=some ⟨true,[Sum.inl (Value.int IntKind.i64 (rI f n).1),Sum.inl (Value.int IntKind.u64 (rI f n).2.1),Sum.inl (Value.int IntKind.i64 (rI f n).2.2.1),Sum.inl (Value.int IntKind.i64 (rI f n).2.2.2.1),v2]⟩:=by rw[e3 25 (by decide)];simp only[B2,ae,vR,seval]
 have B3:=And.intro acR (And.intro acS (And.intro acT (And.intro acU (And.intro acV (And.intro acW (And.intro XE (And.intro XF (And.intro XG (And.intro XH XI)))))))))
 obtain ⟨sw,rN,qZ⟩:=hl.iW 0
 refine Ey (JQ (r:=rg) rN hps hpf (by omega)) (r:=fun _=>1) (bZ (rw:=false) (by simp only[B3,ae,vR,seval]) hps) (by rw[← qZ (fun _=>1) rfl];rfl) fun v4 bx4 n4 e4=> ?_
 simp only[di,seval]
 have acX:=(e4 0 (by decide)).trans acR
 have acY:=(e4 1 (by decide)).trans acS
 have acZ:=(e4 2 (by decide)).trans acT
 have ac0:=(e4 3 (by decide)).trans acU
 have ac1:=(e4 6 (by decide)).trans acV
 have afb:=(e4 7 (by decide)).trans acW
 have XJ:=(e4 10 (by decide)).trans XE
 have ac2:=(e4 11 (by decide)).trans XF
 have XK:=(e4 14 (by decide)).trans XG
 have ac3:=(e4 15 (by decide)).trans XH
 have XL:=(e4 25 (by decide)).trans XI
 have XM:bx4 29=some ⟨true,[Sum.inl (Value.int IntKind.i64 (rI f n).1),Sum.inl (Value.int IntKind.u64 (rI f n).2.1),Sum.inl (Value.int IntKind.i64 (rI f n).2.2.1),Sum.inl (Value.int IntKind.i64 (rI f n).2.2.2.1),v3]⟩:=by rw[e4 29 (by decide)];simp only[B3,ae,vR,seval]
 have B4:=And.intro acX (And.intro acY (And.intro acZ (And.intro ac0 (And.intro ac1 (And.intro afb (And.intro XJ (And.intro ac2 (And.intro XK (And.intro ac3 (And.intro XL XM))))))))))
 have m1:kj bx4 20 (Xu rg np) (pk (fun _=>0) (nP 0 np 1 pf)) v1:=n1.move (by rw[e4 20 (by decide)];simp only[ae,vR,seval];rw[e3 20 (by decide)];simp only[ae,vR,seval];rw[e2 20 (by decide)])
 have m2:kj bx4 24 (rI f n).2.2.2.2.1 (rI f n).2.2.2.2.2 v2:=n2.move (by rw[e4 24 (by decide)];simp only[ae,vR,seval];rw[e3 24 (by decide)];simp only[ae,vR,seval])
 have m3:kj bx4 28 (rI f n).2.2.2.2.1 (rI f n).2.2.2.2.2 v3:=n3.move (by rw[e4 28 (by decide)];simp only[ae,vR,seval])
 have QA:Xu rg np < 4611686018427387904:=by
  unfold Xu V5
  split
  ·rename_i h
   simp only[decide_eq_true_eq]at h
   omega
  ·omega
 refine oz QA m1.bytes n4.bytes ?_
 simp only[B4,bne_self_eq_false,Bool.not_true,di,seval]
 refine eW (by kernel_rfl) [0,2,4,5] [1,3,6] [7] [8] [7,11,15] [67,69,71,72,68,70,73,15] (by kernel_rfl) (by kernel_rfl) (by kernel_rfl) ?_
 simp only[B4,di,seval]
 have kK:dE 2 (.inr (.inr (2,0,kn,cK))) kn kb xK:= .inr ⟨0,cK,rfl,fun i hi=>by
  rw[hxK,Nat.zero_add,List.getElem?_append_left (by rw[jB];exact hi)]
  exact nJ hi⟩
 refine pE (eD:=true) (cs:=xD) d1 (by simp only[B4,bV,seval]) wK fun bx5 e5=> ?_
 simp only[di,seval]
 refine pE (eD:=true) (cs:=xP) p1 ((e5 10 (by decide)).trans (by simp only[B4,bV,seval])) L5 fun bx6 e6=> ?_
 simp only[di,seval]
 have c6:bx6 6=some ⟨true,xD⟩:=(e6 6 (by decide)).trans ((e5 6 (by decide)).trans (by simp only[B4,bV,seval]))
 have c10:bx6 10=some ⟨true,xP⟩:=(e6 10 (by decide)).trans ((e5 10 (by decide)).trans (by simp only[B4,bV,seval]))
 have c14:bx6 14=some ⟨true,xK⟩:=(e6 14 (by decide)).trans ((e5 14 (by decide)).trans (by simp only[B4,bV,seval]))
 refine qU (P7 (at_:=at_) (cut:=cut) (ks:= .inr (.inr (2,0,kn,cK))) (sv:= .inr (.inr (1,0,np,cP))) sD (by omega) wK hn hf kK L6 (.inr ⟨0,cP,rfl,by omega,sP⟩) L5 hpf (by omega)) (r:=three 6 10 14) (WO c6 wK c10 L5 c14 L6) rfl fun v7 bx7 n7 e7=> ?_
 simp only[L0,cN,cO,cQ,di,seval]
 have ac5:=((e7 0 (by decide)).trans ((e6 0 (by decide)).trans ((e5 0 (by decide)).trans acX)))
 have ac6:=((e7 1 (by decide)).trans ((e6 1 (by decide)).trans ((e5 1 (by decide)).trans acY)))
 have ac7:=((e7 2 (by decide)).trans ((e6 2 (by decide)).trans ((e5 2 (by decide)).trans acZ)))
 have ac8:=((e7 3 (by decide)).trans ((e6 3 (by decide)).trans ((e5 3 (by decide)).trans ac0)))
 have ac9:=((e7 6 (by decide)).trans ((e6 6 (by decide)).trans ((e5 6 (by decide)).trans ac1)))
 have ac':bx7 7=some ⟨false,[Sum.inr (Sum.inr (6,0,n+64,cD)),Sum.inl (Value.int IntKind.i64 n)]⟩:=((e7 7 (by decide)).trans ((e6 7 (by decide)).trans ((e5 7 (by decide)).trans (by simp only[B4,bV,seval]))))
 have XO:=((e7 10 (by decide)).trans ((e6 10 (by decide)).trans ((e5 10 (by decide)).trans XJ)))
 have XP:bx7 11=some ⟨false,[Sum.inr (Sum.inr (10,0,np+64,cP)),Sum.inl (Value.int IntKind.i64 np)]⟩:=((e7 11 (by decide)).trans ((e6 11 (by decide)).trans ((e5 11 (by decide)).trans (by simp only[B4,bV,seval]))))
 have XQ:=((e7 14 (by decide)).trans ((e6 14 (by decide)).trans ((e5 14 (by decide)).trans XK)))
 have XR:bx7 15=some ⟨false,[Sum.inl (Value.int IntKind.i64 at_),Sum.inr (Sum.inr (14,0,kn,cK)),Sum.inl (Value.int IntKind.i64 cut),Sum.inr (Sum.inr (14,0,kn+2,cK))]⟩:=((e7 15 (by decide)).trans ((e6 15 (by decide)).trans ((e5 15 (by decide)).trans (by simp only[B4,bV,seval]))))
 have XS:=((e7 25 (by decide)).trans ((e6 25 (by decide)).trans ((e5 25 (by decide)).trans XL)))
 have XT:=((e7 29 (by decide)).trans ((e6 29 (by decide)).trans ((e5 29 (by decide)).trans XM)))
 have B7:=And.intro ac5 (And.intro ac6 (And.intro ac7 (And.intro ac8 (And.intro ac9 (And.intro ac' (And.intro XO (And.intro XP (And.intro XQ (And.intro XR (And.intro XS XT))))))))))
 have q1:kj bx7 20 (Xu rg np) (pk (fun _=>0) (nP 0 np 1 pf)) v1:=m1.move ((e7 20 (by decide)).trans ((e6 20 (by decide)).trans ((e5 20 (by decide)).trans (by simp only[bV,seval]))))
 have q2:kj bx7 24 (rI f n).2.2.2.2.1 (rI f n).2.2.2.2.2 v2:=m2.move ((e7 24 (by decide)).trans ((e6 24 (by decide)).trans ((e5 24 (by decide)).trans (by simp only[bV,seval]))))
 have q3:kj bx7 28 (rI f n).2.2.2.2.1 (rI f n).2.2.2.2.2 v3:=m3.move ((e7 28 (by decide)).trans ((e6 28 (by decide)).trans ((e5 28 (by decide)).trans (by simp only[bV,seval]))))
 have kK1:dE 1 (.inr (.inr (1,0,kn,cK))) kn kb xK:= .inr ⟨0,cK,rfl,fun i hi=>by
  rw[hxK,Nat.zero_add,List.getElem?_append_left (by rw[jB];exact hi)]
  exact nJ hi⟩
 refine eW (by kernel_rfl) [0,2,3] [1,4] [5] [6] [] [74,76,77,75,78,16] (by kernel_rfl) (by kernel_rfl) (by kernel_rfl) ?_
 simp only[B7,di,seval]
 refine pE (eD:=true) (cs:=xD) d1 (by simp only[B7,bV,seval]) wK fun bx8 e8=> ?_
 simp only[di,seval]
 have c6:bx8 6=some ⟨true,xD⟩:=(e8 6 (by decide)).trans (by simp only[B7,bV,seval])
 have c14:bx8 14=some ⟨true,xK⟩:=(e8 14 (by decide)).trans (by simp only[B7,bV,seval])
 refine qU (LD (at_:=at_) (cut:=cut) (ks:= .inr (.inr (1,0,kn,cK))) sD (by omega) wK hn hf kK1 L6) (r:=two 6 14) (jq c6 wK c14 L6) rfl fun v9 bx9 n9 e9=> ?_
 simp only[L0,cN,cO,cQ,di,seval]
 have adb:=((e9 0 (by decide)).trans ((e8 0 (by decide)).trans ac5))
 have ade:=((e9 1 (by decide)).trans ((e8 1 (by decide)).trans ac6))
 have adg:=((e9 2 (by decide)).trans ((e8 2 (by decide)).trans ac7))
 have adh:=((e9 3 (by decide)).trans ((e8 3 (by decide)).trans ac8))
 have adi:=((e9 6 (by decide)).trans ((e8 6 (by decide)).trans ac9))
 have adj:=((e9 7 (by decide)).trans ((e8 7 (by decide)).trans ac'))
 have XU:=((e9 10 (by decide)).trans ((e8 10 (by decide)).trans XO))
 have XV:=((e9 11 (by decide)).trans ((e8 11 (by decide)).trans XP))
 have XW:=((e9 14 (by decide)).trans ((e8 14 (by decide)).trans XQ))
 have XX:=((e9 15 (by decide)).trans ((e8 15 (by decide)).trans XR))
 have XY:=((e9 25 (by decide)).trans ((e8 25 (by decide)).trans XS))
 have XZ:=((e9 29 (by decide)).trans ((e8 29 (by decide)).trans XT))
 have X0:bx9 81=some ⟨true,[Sum.inl (Value.int IntKind.i64 (xX n at_ (aW f (n / 64) np pf))),v7]⟩:=((e9 81 (by decide)).trans ((e8 81 (by decide)).trans (by simp only[B7,bV,seval])))
 have B9:=And.intro adb (And.intro ade (And.intro adg (And.intro adh (And.intro adi (And.intro adj (And.intro XU (And.intro XV (And.intro XW (And.intro XX (And.intro XY (And.intro XZ X0)))))))))))
 have q1b:=q1.move (oB:=bx9) ((e9 20 (by decide)).trans ((e8 20 (by decide)).trans (by simp only[bV,seval])))
 have q2b:=q2.move (oB:=bx9) ((e9 24 (by decide)).trans ((e8 24 (by decide)).trans (by simp only[bV,seval])))
 have q3b:=q3.move (oB:=bx9) ((e9 28 (by decide)).trans ((e8 28 (by decide)).trans (by simp only[bV,seval])))
 have q7b:=n7.move (oB:=bx9) ((e9 77 (by decide)).trans ((e8 77 (by decide)).trans (by simp only[bV,seval])))
 refine eW (by kernel_rfl) [0,2,3] [1,4] [5] [6] [] [79,81,82,80,83,17] (by kernel_rfl) (by kernel_rfl) (by kernel_rfl) ?_
 simp only[B9,di,seval]
 refine pE (eD:=true) (cs:=xD) d1 (by simp only[B9,bV,seval]) wK fun adk yB=> ?_
 simp only[di,seval]
 have c6:adk 6=some ⟨true,xD⟩:=(yB 6 (by decide)).trans (by simp only[B9,bV,seval])
 have c14:adk 14=some ⟨true,xK⟩:=(yB 14 (by decide)).trans (by simp only[B9,bV,seval])
 refine qU (LC (at_:=at_) (cut:=cut) (ks:= .inr (.inr (1,0,kn,cK))) sD (by omega) wK hn hf kK1 L6) (r:=two 6 14) (jq c6 wK c14 L6) rfl fun v11 Qu n11 Cb=> ?_
 simp only[L0,cN,cO,cQ,di,seval]
 have X1:=((Cb 0 (by decide)).trans ((yB 0 (by decide)).trans adb))
 have X2:=((Cb 1 (by decide)).trans ((yB 1 (by decide)).trans ade))
 have X3:=((Cb 2 (by decide)).trans ((yB 2 (by decide)).trans adg))
 have X4:=((Cb 3 (by decide)).trans ((yB 3 (by decide)).trans adh))
 have X5:=((Cb 6 (by decide)).trans ((yB 6 (by decide)).trans adi))
 have X6:=((Cb 7 (by decide)).trans ((yB 7 (by decide)).trans adj))
 have TQ:=((Cb 10 (by decide)).trans ((yB 10 (by decide)).trans XU))
 have TR:=((Cb 11 (by decide)).trans ((yB 11 (by decide)).trans XV))
 have TS:=((Cb 14 (by decide)).trans ((yB 14 (by decide)).trans XW))
 have TT:=((Cb 15 (by decide)).trans ((yB 15 (by decide)).trans XX))
 have TU:=((Cb 25 (by decide)).trans ((yB 25 (by decide)).trans XY))
 have TV:=((Cb 29 (by decide)).trans ((yB 29 (by decide)).trans XZ))
 have TW:=((Cb 81 (by decide)).trans ((yB 81 (by decide)).trans X0))
 have OJ:Qu 101=some ⟨true,[Sum.inl (Value.int IntKind.i64 (xX n at_ (cU f (n / 64)))),v9]⟩:=((Cb 101 (by decide)).trans ((yB 101 (by decide)).trans (by simp only[B9,bV,seval])))
 have B11:=And.intro X1 (And.intro X2 (And.intro X3 (And.intro X4 (And.intro X5 (And.intro X6 (And.intro TQ (And.intro TR (And.intro TS (And.intro TT (And.intro TU (And.intro TV (And.intro TW OJ))))))))))))
 have q1c:=q1b.move (oB:=Qu) ((Cb 20 (by decide)).trans ((yB 20 (by decide)).trans (by simp only[bV,seval])))
 have q2c:=q2b.move (oB:=Qu) ((Cb 24 (by decide)).trans ((yB 24 (by decide)).trans (by simp only[bV,seval])))
 have q3c:=q3b.move (oB:=Qu) ((Cb 28 (by decide)).trans ((yB 28 (by decide)).trans (by simp only[bV,seval])))
 have q7c:=q7b.move (oB:=Qu) ((Cb 77 (by decide)).trans ((yB 77 (by decide)).trans (by simp only[bV,seval])))
 have q9c:=n9.move (oB:=Qu) ((Cb 97 (by decide)).trans ((yB 97 (by decide)).trans (by simp only[bV,seval])))
 refine .inl ?_
 have hmP:(rI f n).2.2.2.2.1 < 4611686018427387904:=Wk hf
 simp only[B11,di,seval]
 refine ⟨by kernel_rfl, ?_⟩
 refine oA hmP (q2c.move (oB:=_) (by simp only[bV,seval])).bytes (q3c.move (oB:=_) (by simp only[bV,seval])).bytes ?_
 simp only[B11,Bool.not_true,di,seval]
 refine ⟨Nat.le_refl 3, ?_⟩
 refine JX (r0:=false) (r1:=false) (r2:=false) hi hp hn hf hk hq hl hps hpf hnp (by simp only[B11,bV,seval]) (by simp only[B11,bV,seval]) (by simp only[B11,bV,seval]) (by kernel_rfl) fun v12 Qv n12 Cc=> ?_
 have X7:=((Cc 0 (by decide)).trans X1)
 have X8:=((Cc 1 (by decide)).trans X2)
 have X9:=((Cc 2 (by decide)).trans X3)
 have Ya:=((Cc 3 (by decide)).trans X4)
 have Yb:=((Cc 6 (by decide)).trans X5)
 have Yc:=((Cc 7 (by decide)).trans X6)
 have TX:=((Cc 10 (by decide)).trans TQ)
 have TY:=((Cc 11 (by decide)).trans TR)
 have T0:=((Cc 14 (by decide)).trans TS)
 have T1:=((Cc 15 (by decide)).trans TT)
 have T2:=((Cc 25 (by decide)).trans TU)
 have T3:=((Cc 29 (by decide)).trans TV)
 have T4:=((Cc 81 (by decide)).trans TW)
 have OL:=((Cc 101 (by decide)).trans OJ)
 have OM:Qv 121=some ⟨true,[Sum.inl (Value.int IntKind.i64 (xX n at_ (eG f (n / 64)))),v11]⟩:=((Cc 121 (by decide)).trans (by simp only[B11,bV,seval]))
 have B12:=And.intro X7 (And.intro X8 (And.intro X9 (And.intro Ya (And.intro Yb (And.intro Yc (And.intro TX (And.intro TY (And.intro T0 (And.intro T1 (And.intro T2 (And.intro T3 (And.intro T4 (And.intro OL OM)))))))))))))
 have q1d:=q1c.move (oB:=Qv) ((Cc 20 (by decide)).trans (by simp only[bV,seval]))
 have q2d:=q2c.move (oB:=Qv) ((Cc 24 (by decide)).trans (by simp only[bV,seval]))
 have q7d:=q7c.move (oB:=Qv) ((Cc 77 (by decide)).trans (by simp only[bV,seval]))
 have q9d:=q9c.move (oB:=Qv) ((Cc 97 (by decide)).trans (by simp only[bV,seval]))
 have afd:=n11.move (oB:=Qv) ((Cc 117 (by decide)).trans (by simp only[bV,seval]))
 simp only[B12,di,seval]
 refine ux q7d n12 (by omega) ?_
 simp only[B12,Bool.not_true,di,seval]
 refine .inl ?_
 simp only[B12,di,seval]
 refine ⟨by kernel_rfl,Nat.le_refl 3, ?_⟩
 refine JY (r0:=false) (r2:=false) (fun hs hc k1 k2=>F1 (at_:=at_) (cut:=cut) hs hc hp hn hf k1 k2) CK (fun k1=>F4 k1 hq) hi hp hk hq (by simp only[B12,bV,seval]) (by simp only[B12,bV,seval]) (by kernel_rfl) fun v14 T5 n14 Bc=> ?_
 have Yd:=((Bc 0 (by decide)).trans X7)
 have Ye:=((Bc 1 (by decide)).trans X8)
 have Yf:=((Bc 2 (by decide)).trans X9)
 have Yg:=((Bc 3 (by decide)).trans Ya)
 have Yh:=((Bc 6 (by decide)).trans Yb)
 have Yi:=((Bc 7 (by decide)).trans Yc)
 have T6:=((Bc 10 (by decide)).trans TX)
 have T7:=((Bc 11 (by decide)).trans TY)
 have T8:=((Bc 14 (by decide)).trans T0)
 have T9:=((Bc 15 (by decide)).trans T1)
 have Ua:=((Bc 25 (by decide)).trans T2)
 have Ub:=((Bc 29 (by decide)).trans T3)
 have Uc:=((Bc 81 (by decide)).trans T4)
 have OO:=((Bc 101 (by decide)).trans OL)
 have OP:=((Bc 121 (by decide)).trans OM)
 have B14:=And.intro Yd (And.intro Ye (And.intro Yf (And.intro Yg (And.intro Yh (And.intro Yi (And.intro T6 (And.intro T7 (And.intro T8 (And.intro T9 (And.intro Ua (And.intro Ub (And.intro Uc (And.intro OO OP)))))))))))))
 have q1e:=q1d.move (oB:=T5) ((Bc 20 (by decide)).trans (by simp only[bV,seval]))
 have q2e:=q2d.move (oB:=T5) ((Bc 24 (by decide)).trans (by simp only[bV,seval]))
 have q7e:=q7d.move (oB:=T5) ((Bc 77 (by decide)).trans (by simp only[bV,seval]))
 have q9e:=q9d.move (oB:=T5) ((Bc 97 (by decide)).trans (by simp only[bV,seval]))
 have afe:=afd.move (oB:=T5) ((Bc 117 (by decide)).trans (by simp only[bV,seval]))
 simp only[B14,di,seval]
 refine ux q9e n14 (by omega) ?_
 simp only[B14,Bool.not_true,di,seval]
 refine ⟨Nat.le_refl 3, ?_⟩
 refine JY (r0:=false) (r2:=false) (fun hs hc k1 k2=>FZ (at_:=at_) (cut:=cut) hs hc hp hn hf k1 k2) CJ (fun k1=>F3 k1 hq) hi hp hk hq (by simp only[B14,bV,seval]) (by simp only[B14,bV,seval]) (by kernel_rfl) fun v15 Ud n15 yC=> ?_
 have Yj:=((yC 0 (by decide)).trans Yd)
 have Yk:=((yC 1 (by decide)).trans Ye)
 have Yl:=((yC 2 (by decide)).trans Yf)
 have Ym:=((yC 3 (by decide)).trans Yg)
 have Yn:=((yC 6 (by decide)).trans Yh)
 have Yo:=((yC 7 (by decide)).trans Yi)
 have Ue:=((yC 10 (by decide)).trans T6)
 have Uf:=((yC 11 (by decide)).trans T7)
 have Ug:=((yC 14 (by decide)).trans T8)
 have Uh:=((yC 15 (by decide)).trans T9)
 have Ui:=((yC 25 (by decide)).trans Ua)
 have Uj:=((yC 29 (by decide)).trans Ub)
 have Uk:=((yC 81 (by decide)).trans Uc)
 have OQ:=((yC 101 (by decide)).trans OO)
 have OT:=((yC 121 (by decide)).trans OP)
 have B15:=And.intro Yj (And.intro Yk (And.intro Yl (And.intro Ym (And.intro Yn (And.intro Yo (And.intro Ue (And.intro Uf (And.intro Ug (And.intro Uh (And.intro Ui (And.intro Uj (And.intro Uk (And.intro OQ OT)))))))))))))
 have q1f:=q1e.move (oB:=Ud) ((yC 20 (by decide)).trans (by simp only[bV,seval]))
 have q2f:=q2e.move (oB:=Ud) ((yC 24 (by decide)).trans (by simp only[bV,seval]))
 have q7f:=q7e.move (oB:=Ud) ((yC 77 (by decide)).trans (by simp only[bV,seval]))
 have q9f:=q9e.move (oB:=Ud) ((yC 97 (by decide)).trans (by simp only[bV,seval]))
 have adn:=afe.move (oB:=Ud) ((yC 117 (by decide)).trans (by simp only[bV,seval]))
 simp only[B15,di,seval]
 refine ux adn n15 (by omega) ?_
 simp only[B15,Bool.not_true,di,seval]
 refine jy q1f QA fun Wo Cd=> ?_
 have Yp:=((Cd 0 (by decide)).trans Yj)
 have Yq:=((Cd 1 (by decide)).trans Yk)
 have Yr:=((Cd 2 (by decide)).trans Yl)
 have Ys:=((Cd 3 (by decide)).trans Ym)
 have Yt:=((Cd 6 (by decide)).trans Yn)
 have Yu:=((Cd 7 (by decide)).trans Yo)
 have Ul:=((Cd 10 (by decide)).trans Ue)
 have Um:=((Cd 11 (by decide)).trans Uf)
 have Un:=((Cd 14 (by decide)).trans Ug)
 have Uo:=((Cd 15 (by decide)).trans Uh)
 have Up:=((Cd 25 (by decide)).trans Ui)
 have Uq:=((Cd 29 (by decide)).trans Uj)
 have Ur:=((Cd 81 (by decide)).trans Uk)
 have OU:=((Cd 101 (by decide)).trans OQ)
 have OV:=((Cd 121 (by decide)).trans OT)
 have B16:=And.intro Yp (And.intro Yq (And.intro Yr (And.intro Ys (And.intro Yt (And.intro Yu (And.intro Ul (And.intro Um (And.intro Un (And.intro Uo (And.intro Up (And.intro Uq (And.intro Ur (And.intro OU OV)))))))))))))
 have q2g:=q2f.move (oB:=Wo) ((Cd 24 (by decide)).trans (by simp only[bV,seval]))
 have q7g:=q7f.move (oB:=Wo) ((Cd 77 (by decide)).trans (by simp only[bV,seval]))
 have q9g:=q9f.move (oB:=Wo) ((Cd 97 (by decide)).trans (by simp only[bV,seval]))
 have aff:=adn.move (oB:=Wo) ((Cd 117 (by decide)).trans (by simp only[bV,seval]))
 simp only[B16,di,seval]
 refine jy q2g hmP fun aar Cx=> ?_
 have Yv:=((Cx 0 (by decide)).trans Yp)
 have Yw:=((Cx 1 (by decide)).trans Yq)
 have Yx:=((Cx 2 (by decide)).trans Yr)
 have Yy:=((Cx 3 (by decide)).trans Ys)
 have Yz:=((Cx 6 (by decide)).trans Yt)
 have YA:=((Cx 7 (by decide)).trans Yu)
 have Us:=((Cx 10 (by decide)).trans Ul)
 have Ut:=((Cx 11 (by decide)).trans Um)
 have Uu:=((Cx 14 (by decide)).trans Un)
 have Uv:=((Cx 15 (by decide)).trans Uo)
 have Uw:=((Cx 25 (by decide)).trans Up)
 have Ux:=((Cx 29 (by decide)).trans Uq)
 have Uy:=((Cx 81 (by decide)).trans Ur)
 have OW:=((Cx 101 (by decide)).trans OU)
 have OX:=((Cx 121 (by decide)).trans OV)
 have B17:=And.intro Yv (And.intro Yw (And.intro Yx (And.intro Yy (And.intro Yz (And.intro YA (And.intro Us (And.intro Ut (And.intro Uu (And.intro Uv (And.intro Uw (And.intro Ux (And.intro Uy (And.intro OW OX)))))))))))))
 have q7h:=q7g.move (oB:=aar) ((Cx 77 (by decide)).trans (by simp only[bV,seval]))
 have q9h:=q9g.move (oB:=aar) ((Cx 97 (by decide)).trans (by simp only[bV,seval]))
 have afg:=aff.move (oB:=aar) ((Cx 117 (by decide)).trans (by simp only[bV,seval]))
 simp only[B17,di,seval]
 refine jy q7h (by omega) fun ado Fz=> ?_
 have YB:=((Fz 0 (by decide)).trans Yv)
 have YC:=((Fz 1 (by decide)).trans Yw)
 have YD:=((Fz 2 (by decide)).trans Yx)
 have YE:=((Fz 3 (by decide)).trans Yy)
 have YF:=((Fz 6 (by decide)).trans Yz)
 have YG:=((Fz 7 (by decide)).trans YA)
 have Uz:=((Fz 10 (by decide)).trans Us)
 have UA:=((Fz 11 (by decide)).trans Ut)
 have UB:=((Fz 14 (by decide)).trans Uu)
 have UC:=((Fz 15 (by decide)).trans Uv)
 have UD:=((Fz 25 (by decide)).trans Uw)
 have UE:=((Fz 29 (by decide)).trans Ux)
 have UF:=((Fz 81 (by decide)).trans Uy)
 have OY:=((Fz 101 (by decide)).trans OW)
 have OZ:=((Fz 121 (by decide)).trans OX)
 have B18:=And.intro YB (And.intro YC (And.intro YD (And.intro YE (And.intro YF (And.intro YG (And.intro Uz (And.intro UA (And.intro UB (And.intro UC (And.intro UD (And.intro UE (And.intro UF (And.intro OY OZ)))))))))))))
 have q9i:=q9h.move (oB:=ado) ((Fz 97 (by decide)).trans (by simp only[bV,seval]))
 have afh:=afg.move (oB:=ado) ((Fz 117 (by decide)).trans (by simp only[bV,seval]))
 simp only[B18,di,seval]
 refine jy q9i (by omega) fun afi FA=> ?_
 have YH:=((FA 0 (by decide)).trans YB)
 have YI:=((FA 1 (by decide)).trans YC)
 have YJ:=((FA 2 (by decide)).trans YD)
 have YK:=((FA 3 (by decide)).trans YE)
 have YL:=((FA 6 (by decide)).trans YF)
 have YM:=((FA 7 (by decide)).trans YG)
 have UG:=((FA 10 (by decide)).trans Uz)
 have UH:=((FA 11 (by decide)).trans UA)
 have UI:=((FA 14 (by decide)).trans UB)
 have UJ:=((FA 15 (by decide)).trans UC)
 have UK:=((FA 25 (by decide)).trans UD)
 have UL:=((FA 29 (by decide)).trans UE)
 have UM:=((FA 81 (by decide)).trans UF)
 have O1:=((FA 101 (by decide)).trans OY)
 have O2:=((FA 121 (by decide)).trans OZ)
 have B19:=And.intro YH (And.intro YI (And.intro YJ (And.intro YK (And.intro YL (And.intro YM (And.intro UG (And.intro UH (And.intro UI (And.intro UJ (And.intro UK (And.intro UL (And.intro UM (And.intro O1 O2)))))))))))))
 have afj:=afh.move (oB:=afi) ((FA 117 (by decide)).trans (by simp only[bV,seval]))
 simp only[B19,di,seval]
 refine jy afj (by omega) fun ain I3=> ?_
 have adp:=((I3 0 (by decide)).trans YH)
 have adq:=((I3 1 (by decide)).trans YI)
 have adr:=((I3 2 (by decide)).trans YJ)
 have ads:=((I3 3 (by decide)).trans YK)
 have adt:=((I3 6 (by decide)).trans YL)
 have adu:=((I3 7 (by decide)).trans YM)
 have aas:=((I3 10 (by decide)).trans UG)
 have aat:=((I3 11 (by decide)).trans UH)
 have aau:=((I3 14 (by decide)).trans UI)
 have aav:=((I3 15 (by decide)).trans UJ)
 have aaw:=((I3 25 (by decide)).trans UK)
 have aax:=((I3 29 (by decide)).trans UL)
 have aay:=((I3 81 (by decide)).trans UM)
 have Wp:=((I3 101 (by decide)).trans O1)
 have Wq:=((I3 121 (by decide)).trans O2)
 have UZ:=And.intro adp (And.intro adq (And.intro adr (And.intro ads (And.intro adt (And.intro adu (And.intro aas (And.intro aat (And.intro aau (And.intro aav (And.intro aaw (And.intro aax (And.intro aay (And.intro Wp Wq)))))))))))))
 simp only[UZ,di,seval]
 refine EB (o:=0) (c':=0) (t:=6) (u:=0) (c:=cD) (sv:=si) (tail:=tD) (r0:=true) (r1:=false) (f:=f) (cs:=cs) (by rw[← hxD];simp only[UZ,ae,vR,seval]) d1 (by omega) d2 (by simp only[UZ,ae,vR,seval]) hi hp ?_
 simp only[UZ,di,seval]
 refine EB (o:=0) (c':=0) (t:=10) (u:=1) (c:=cP) (tail:=tP) (r0:=true) (r1:=false) (f:=pf) (cs:=ps) (by rw[← hxP];simp only[UZ,ae,vR,seval]) p1 (by omega) p2 (by simp only[UZ,ae,vR,seval]) hl hps ?_
 simp only[UZ,di,seval]
 try refine ⟨Nat.le_refl 3, ?_⟩
 refine CH (t:=14) (u:=2) (tail:=tK) (r0:=true) (r1:=false) (kc:=kc) (by rw[← hxK];simp only[UZ,ae,vR,seval]) hk hq (by simp only[UZ,ae,vR,seval]) hkn k1 k2 ?_
 simp only[UZ,di,seval]
 exact aJ rfl ⟨rfl,rfl⟩
end
end Go.Proofs.YtaeagfdnfjenlaaGreatDoor
