/-
  A message that is received by a new chain, in the program.
-/
import Derived.Test.YtpnehhpadofcbaaGreatDoorVcgWZ
import Derived.Test.YtpnehhpadofcbaaGreatDoorVcgDN
import Derived.Test.YtpnehhpadofcbaaGreatDoorVcgE1
set_option maxHeartbeats 8000000
set_option maxRecDepth 20000
set_option linter.unusedSimpArgs false
set_option linter.unusedVariables false
set_option linter.unusedSectionVars false
namespace Go.Proofs.YtpnehhpadofcbaaGreatDoor
open Go.bU
variable [aO]
theorem GV {s:AS} {nm t p z n:Nat} {x:St} {pk:Nat→Int} {f:Nat→En} {bx:Option aN} {rw:Bool} {cs:List SV} (hs:gy x) (hb:br pk) (h:s.box t=some ⟨true,bC x⟩) (hK:iT p n f x.store bx) (l6:s.box p=bx) (hf:s.box z=some ⟨rw,cs⟩) (hp:cs.all SV.plain=true) (h1:t≠p) (h2:t≠z) {dst:Option Nat} {K:AS→Prop}
  (hk:K ((⟨s.env,upd s.box t (some ⟨true,bC (gJ x pk)⟩),s.next⟩:AS).put dst (some (.inr [])))):ax Tryz.prog nm 61 (some [Ptr t 0,Ag (af .u8 32 pk)]) dst K s:=by
 obtain ⟨u,rw',ds,hu,hb',hq,hi⟩:=CA hK l6 hf hp
 exact KT hs hb h hb' hq (by rcases hu with rfl | rfl<;>assumption) hi hk
theorem Xi {s:St} {n:Nat} {pn x:Int} (hl:fx s n=true) (hst:lN s n false pn x=none):n+(fq s pn - s.nr)+x≤1000:=by
 simp only[fx,Bool.and_eq_true,decide_eq_true_eq]at hl
 obtain ⟨⟨⟨⟨l1,l2⟩,l3⟩,l4⟩,l5⟩:=hl
 unfold lN at hst
 rw[if_neg (by decide)]at hst
 by_cases a0:s.own=false
 ·rw[if_pos a0]at hst;cases hst
 rw[if_neg a0]at hst
 by_cases a1:s.re=4294967295
 ·rw[if_pos a1]at hst;cases hst
 rw[if_neg a1]at hst
 unfold ni at hst
 by_cases a2:s.skip < (if x > fq s pn - s.nr then x else fq s pn - s.nr)
 ·rw[if_pos a2]at hst;cases hst
 rw[if_neg a2]at hst
 by_cases a3:s.room < n+(fq s pn - s.nr)+x
 ·rw[if_pos a3]at hst;cases hst
 omega
theorem Nz {s:St} {n m:Nat} {f:Nat→En} {aG g tag:Nat→Int} {pn x:Int} {sv:SV} {cs ds:List SV} (h0:aH 0 s.store n f cs) (hp:cs.all SV.plain=true) (hs:gy s) (hl:fx s n=true) (hn:n*72≤140737488355328) (ic:br aG) (hf:br g) (ht:br tag) (hv:kZ 1 m g sv ds) (hq:ds.all SV.plain=true) (hm:m≤65536) (hx:mC x) (xg:mC pn) (nj:preB s aG=false):
  gL Tryz.prog 31 [Ag (bC s),Ag (fT aG pn x sv tag)] 2 2 (lk [(0,⟨false,cs⟩),(1,⟨false,ds⟩)]) (GU 2 n m s f aG g tag pn x):=by
 have N8: ∀ {M:Nat→Prop},M 1→SV.ok M sv:=fun h=>by
  rcases hv with ⟨_,rfl⟩ | ⟨o,c,rfl,_⟩
  ·trivial
  ·exact ⟨h,rfl⟩
 refine dF Tryz.func31 rfl (by kernel_rfl) [5,10] [] (by simp[Tryz.ntmps31]) Tryz.pb (by decide) (fun y hy=>by
  simp only[List.mem_cons,List.not_mem_nil,or_false]at hy
  rcases hy with rfl | rfl
  ·exact bF (h0.ok (by decide))
  ·exact jF (N8 (by decide))) lC (nU hp hq) ?_
 have hcs:(decide (s.re > 0)=true∧yb aG s.zA=false)∨decide (s.re > 0)=false:=by
  rcases Bool.eq_false_or_eq_true (decide (s.re > 0)) with h | h
  ·refine .inl ⟨h, ?_⟩
   have:=nj
   unfold preB at this
   rw[show decide (0 < s.re)=true from h,Bool.true_and]at this
   exact this
  ·exact .inr h
 rcases hcs with ⟨Zo,hr2⟩ | Zo
 all_goals
  first
   | simp only[Tryz.results31,Zo,hr2,kv,Bool.not_true,iZ,vL,seval, -List.reduceReplicate]
   | simp only[Tryz.results31,Zo,Bool.not_true,iZ,vL,seval, -List.reduceReplicate]
  refine (qf (aG:=aG) (pr:=false) h0 hp hl hs hx xg).cW (fun _=>0) (bS (rw:=false) (by simp only[vP,seval, -List.reduceReplicate]) hp) (iD _) (by
   have e:=h0.aI (r:=fun _=>0) rfl
   simp only[List.map_cons,List.map_nil,eM,e,AV.bB dU];rfl) ?_
  cases hst:lN s n false pn x with
  | some i=>
   have hni:lZ BinOp.neq true (some (oC (some i)))=some (some (B true),none):=rfl
   simp only[hni,Bool.not_true,iZ,vL,seval, -List.reduceReplicate]
   exact eY (q:=0) (v:= .inr [.inr (eV 0 rM (.inl (.slice none 0 0)) 0 0), .inl (.inl (gH i))]) (by rfl) (.inl ⟨i,by rw[nj];exact hst,rfl,rfl⟩)
  | none=>
   have hni:lZ BinOp.neq true (some (oC none))=some (some (B false),none):=rfl
   have hb:n+(fq s pn - s.nr)+x≤1000:=Xi hl hst
   have Fm:=hs.nr
   simp only[mC]at hx xg Fm
   have he:s.nr≤fq s pn∧fq s pn < 4294967296:=by unfold fq;split<;>(try split)<;>omega
   simp only[hni,Bool.not_true,iZ,vL,seval, -List.reduceReplicate]
   refine ⟨by decide, ?_⟩
   simp only[Bool.not_true,iZ,vL,seval, -List.reduceReplicate]
   refine sQ (t:=0) (rw:=false) (by simp only[vP,seval, -List.reduceReplicate]) hp h0 hn ?_
   intro U9 Xf hK
   simp only[Bool.not_false,Bool.not_true,iZ,vL,seval, -List.reduceReplicate]
   refine (KR (aG:=aG) (pn:=pn) (x:=x) h0 hp).cW (fun _=>0) (bS (rw:=false) (by simp only[vP,seval, -List.reduceReplicate]) hp) rfl (by
    have e:=h0.aI (r:=fun _=>0) rfl
    simp only[List.map_cons,List.map_nil,eM,e,AV.bB dU]) ?_
   simp only[Bool.not_true,iZ,vL,seval, -List.reduceReplicate]
   refine rB (t:=34) (p:=35) (x:=s) (sv:=U9) (m:=(fq s pn - s.nr).toNat) hs.recv (by omega) Fm.1 (by omega) (by omega) (by simp only[vP,seval, -List.reduceReplicate]) hK (by simp only[vP,seval, -List.reduceReplicate]) (by decide) (by decide) (by decide) ?_
   intro Yz p2 bx2 Y9 hK2
   have hn0: ¬ preB s aG=true:=by rw[nj];decide
   have ed:G7 s aG pn=(gJ (fJ s (fq s pn - s.nr).toNat) aG):=if_neg hn0
   have en:Ny s n aG pn=n+(fq s pn - s.nr).toNat:=if_neg hn0
   have ef:VG s n f aG pn=gA n f s:=if_neg hn0
   have ej:(x - (gJ (fJ s (fq s pn - s.nr).toNat) aG).nr).toNat=x.toNat:=by show (x - 0).toNat=_;rw[Int.sub_zero]
   have eb:gJ { fJ s (fq s pn - s.nr).toNat with store:=Yz } aG={ gJ (fJ s (fq s pn - s.nr).toNat) aG with store:=Yz }:=rfl
   rcases Y9 with rfl | rfl
   all_goals
    simp only[Bool.not_true,iZ,vL,seval, -List.reduceReplicate]
    refine GV (t:=34) (p:=_) (z:=0) (x:={ fJ s (fq s pn - s.nr).toNat with store:=Yz }) (rw:=false) (cs:=cs) ((GR hs _).ws Yz) ic (by simp only[vP,seval, -List.reduceReplicate]) hK2 (by simp only[vP,seval, -List.reduceReplicate]) (by simp only[vP,seval, -List.reduceReplicate]) hp (by decide) (by decide) ?_
    simp only[eb,Bool.not_true,iZ,vL,seval, -List.reduceReplicate]
    refine rB (t:=34) (p:=_) (x:=gJ (fJ s (fq s pn - s.nr).toNat) aG) (sv:=Yz) (m:=x.toNat) (GS (GR hs _) ic).recv (by show x=0+_;omega) (show (0:Int)≤0 by decide) (by omega) (by omega) (by simp only[vP,seval, -List.reduceReplicate]) hK2 (by simp only[vP,seval, -List.reduceReplicate]) (by decide) (by decide) (by decide) ?_
    intro sv3 p3 bx3 hp3 hK3
    obtain ⟨sk,k0,r0,o0,b0⟩:=uS (p:=2) hK3
    have er:(fJ (gJ (fJ s (fq s pn - s.nr).toNat) aG) x.toNat).re=(gJ (fJ s (fq s pn - s.nr).toNat) aG).re:=(uZ _).1
    rcases hp3 with rfl | rfl
    all_goals
     simp only[Bool.not_true,iZ,vL,seval, -List.reduceReplicate]
     refine oA (by kernel_rfl) [0,2] [1,3] [] [4,5,6,7,8] [3] [] [52,54,53,55,51,56,57,9,10] pU (by kernel_rfl) (by kernel_rfl) (by kernel_rfl) (by kernel_rfl) (fun t h=>nomatch h) ?_
     simp only[Bool.not_true,iZ,vL,seval, -List.reduceReplicate]
     refine rC (t:=34) (p:=_) (z:=0) (x:={ fJ (gJ (fJ s (fq s pn - s.nr).toNat) aG) x.toNat with store:=sv3 }) (rw:=false) (cs:=cs) (pT (GS (GR hs _) ic).recv _) (by simp only[vP,seval, -List.reduceReplicate]) hK3 (by simp only[vP,seval, -List.reduceReplicate]) (by simp only[vP,seval, -List.reduceReplicate]) hp (by decide) (by decide) (by decide) ?_
     simp only[Bool.not_true,iZ,vL,seval, -List.reduceReplicate]
     refine my (td:=1) (rd:=false) (ds:=ds) (f:=g) (pQ _ _) ic hf ht (by simp only[vP,seval, -List.reduceReplicate]) hv hq hm ?_ ?_
     ·intro ho
      simp only[wU,pU,cp,dv,Bool.not_true,iZ,vL,seval, -List.reduceReplicate]
      refine ⟨⟨?_, ?_⟩, ?_⟩
      all_goals
       refine .inl ?_
       simp only[cp,dv,Bool.not_true,iZ,vL,seval, -List.reduceReplicate]
       refine ⟨by kernel_rfl, ?_⟩
       exact zX (st:=la (fJ (gJ (fJ s (fq s pn - s.nr).toNat) aG) x.toNat)) (q:=_) (p:=_) (sk:=sk) (bx:=bx3) (ds:=af .u8 m (gu (qk (fJ (gJ (fJ s (fq s pn - s.nr).toNat) aG) x.toNat).recv 1) g)) (by decide) (by decide) (by decide) (by simp only[cp,vP,seval, -List.reduceReplicate]) aw (by simp only[cp,vP,seval, -List.reduceReplicate]) r0 o0 b0
        (.inr ⟨by rw[nj];exact hst, .inr ⟨by rw[ed,ej];exact ho,sk,bx3,by rw[ed,en,ef,ej];exact k0,by rw[ed,ej, ← er];rfl,by rw[ed,ej]⟩⟩)
     ·intro ho
      have Vg:lZ BinOp.neq true (some (Sum.inl (Sum.inl (Sum.inl (gH 5)))))=some (some (B true),none):=rfl
      simp only[pR,Vg,pU,cp,dv,Bool.not_true,iZ,vL,seval, -List.reduceReplicate]
      refine ⟨⟨?_, ?_⟩, ?_⟩
      all_goals
       exact eY (q:=0) (v:= .inr [.inr (eV 0 rM (.inl (.slice none 0 0)) 0 0), .inl (.inl (gH 5))]) (by rfl) (.inr ⟨by rw[nj];exact hst, .inl ⟨by rw[ed,ej];exact ho,rfl,rfl⟩⟩)
theorem RV {s:St} {n m:Nat} {f:Nat→En} {aG g tag:Nat→Int} {pn x:Int} {sv:SV} {cs ds:List SV} (h0:aH 0 s.store n f cs) (hp:cs.all SV.plain=true) (hs:gy s) (hl:fx s n=true) (hn:n*72≤140737488355328) (ic:br aG) (hf:br g) (ht:br tag) (hv:kZ 1 m g sv ds) (hq:ds.all SV.plain=true) (hm:m≤65536) (hx:mC x) (xg:mC pn):
  gL Tryz.prog 31 [Ag (bC s),Ag (fT aG pn x sv tag)] 2 2 (lk [(0,⟨false,cs⟩),(1,⟨false,ds⟩)]) (GU 2 n m s f aG g tag pn x):=by
 rcases Bool.eq_false_or_eq_true (preB s aG) with h | h
 ·exact KU h0 hp hs hl hn ic hf ht hv hq hm hx xg h
 ·exact Nz h0 hp hs hl hn ic hf ht hv hq hm hx xg h
def ae3 (k n:Nat) (s:St) (f:Nat→En) (x:Int) (v:AV) (out:Nat→Option aN):Prop:=
 (x=1∧v=Ag (eV 1 rM (.inl (.slice none 0 0)) 0 0)∧out=fun _=>none)∨
  (x≠1∧ ∃ c cs,v=Ag (eV x { s with store:= .inr (.inr (k,0,n,c)) } (.inl (.slice none 0 0)) 0 0)∧bz cs 0 n c f∧out=lk [(k,⟨true,cs⟩)])
theorem KV {s:AS} {k q n c:Nat} {x:Int} {y:St} {cs:List SV} {Post:AV→(Nat→Option aN)→Prop} (hq:k≤q) (hb:s.box q=some ⟨true,cs⟩) (hp:cs.all SV.plain=true)
  (h:Post (Ag (eV x { y with store:= .inr (.inr (k,0,n,c)) } (.inl (.slice none 0 0)) 0 0)) (lk [(k,⟨true,cs⟩)])):qA k Post (Ag (eV x { y with store:= .inr (.inr (q,0,n,c)) } (.inl (.slice none 0 0)) 0 0)) s:=by
 refine ⟨q,Ag (eV x { y with store:= .inr (.inr (k,0,n,c)) } (.inl (.slice none 0 0)) 0 0),lk [(k,⟨true,cs⟩)],hq, ?_,wv ⟨Nat.lt_succ_self k,rfl⟩ (SV.bk rfl),fun m b hm=> ?_,h⟩
 ·rw[uK];simp only[SV.aI,jI,iR]
 ·obtain ⟨rfl,rfl⟩:=Gi hm
  exact ⟨Nat.lt_succ_self _,fun _=>rfl,aC hp,⟨true,cs⟩,by rw[iR];exact hb,fun h=>h,(aQ hp _).symm⟩
theorem GW {s:St} {n:Nat} {x:Int} {f:Nat→En} {cs:List SV} (h0:aH 0 s.store n f cs) (hp:cs.all SV.plain=true) (hn:x≠1→n*72≤140737488355328):
  bf Tryz.prog 21 [I .i64 x,Ag (bC s)] 1 (lk [(0,⟨false,cs⟩)]) (ae3 1 n s f x):=by
 refine av Tryz.func21 rfl (by kernel_rfl) (by simp[Tryz.ntmps21]) Tryz.tO (fun y hy=>by
  simp only[List.mem_cons,List.not_mem_nil,or_false]at hy
  rcases hy with rfl | rfl
  ·trivial
  ·exact bF (h0.ok (by decide))) dG (dH hp) ?_
 simp only[Tryz.results21,eZ,gk,wu,jY,ao,bN,vR,seval, -List.reduceReplicate]
 refine dI (fun h=> ?_) (fun h=> ?_)
 ·obtain rfl:x=1:=by simpa using h
  simp only[eZ,gk,wu,jY,ao,bN,vR,seval, -List.reduceReplicate]
  exact ak (jV rfl rfl) (.inl ⟨rfl,rfl,rfl⟩)
 have hx:x≠1:=by simpa using h
 have hn':=hn hx
 simp only[qt,bw,ao,bN,vR,seval, -List.reduceReplicate]
 have g0:bz [] 0 0 0 f:=⟨rfl,by decide,rfl,fun i hi=>by omega⟩
 rcases h0 with ⟨⟨a,e0⟩,rfl⟩ | ⟨o,c,e0,hc,hs⟩
 ·rw[e0]
  refine xH (by':=72) Tryz.jQ Tryz.ki (by simp only[ae,vR,seval, -List.reduceReplicate]) g0 (by decide) (by decide) ?_
  intro c1 kk g1
  simp only[eZ,gk,wu,jY,ao,bN,vR,seval, -List.reduceReplicate]
  exact KV (q:=8) (by decide) (by simp only[ae,vR,seval, -List.reduceReplicate]) g1.plain (.inr ⟨hx,c1,kk,rfl,g1,rfl⟩)
 ·rw[e0]
  refine lG (by':=72) (rw:=false) Tryz.jQ Tryz.ki (by simp only[ae,vR,seval, -List.reduceReplicate]) g0 (by simp only[ae,vR,seval, -List.reduceReplicate]) (by decide) hs (by omega) (by omega) ?_
  intro c1 kk g1
  replace g1:bz kk 0 n c1 f:=g1.congr (Nat.zero_add n) (fun i hi=>by rw[if_neg (by omega)];rfl)
  simp only[eZ,gk,wu,jY,ao,bN,vR,seval, -List.reduceReplicate]
  exact KV (q:=8) (by decide) (by simp only[ae,vR,seval, -List.reduceReplicate]) g1.plain (.inr ⟨hx,c1,kk,rfl,g1,rfl⟩)
theorem Vh (x:Int):bf Tryz.prog 65 [I .u32 x] 0 (fun _=>none) (Be 0 4 (fC x)):=by
 refine av Tryz.func65 rfl (by kernel_rfl) (by simp[Tryz.ntmps65]) Tryz.pz (by simp[AV.ok,CV.ok,SV.names]) tq tu ?_
 simp only[Tryz.results65,vS,seval, -List.reduceReplicate]
 have e3:IntKind.u8.wrap x=fC x 3:=by simp[fC,Rk]
 refine ⟨by decide,by decide,by decide,by decide, ?_⟩
 refine dV (k:=0) (q:=12) (cs:=af .u8 4 (fC x)) (by decide) ?_ aw ⟨rfl,rfl⟩
 rw[e3]
 simp only[ay]
 rfl
theorem vf {s:AS} {nm:Nat} {x:Int} {dst:Option Nat} {K:AS→Prop} (hk:K ((⟨s.env,upd s.box nm (some ⟨true,af .u8 4 (fC x)⟩),s.next⟩:AS).put dst (some (Sl nm 0 4 4)))):ax Tryz.prog nm 65 (some [I .u32 x]) dst K s:=
 kL (Vh x) (fun n=>n) gF rfl hk
theorem Vi {aG:Nat→Int} {pn n:Int} {i:Nat} (h:i < 41):aP 37 (aP 33 (aP 1 (fun _=>210) aG) (fC pn)) (fC n) i=KO aG pn n i:=by
 have e:KO aG pn n i=aP 41 (aP 37 (aP 33 (aP 1 (fun _=>210) aG) (fC pn)) (fC n)) (fC ((0:Nat):Int)) i:=by
  unfold KO xW
  rw[aP,if_pos (by omega),aP,if_pos (by omega)]
 rw[e]
 conv=>rhs;rw[aP,if_pos h]
theorem Fp {aG:Nat→Int} {pn n:Int}:bf Tryz.prog 41 [Ag (lQ aG pn n)] 0 (fun _=>none) (Made 0 41 (KO aG pn n)):=by
 refine av Tryz.func41 rfl (by kernel_rfl) (by simp[Tryz.ntmps41]) Tryz.ub (fun y hy=>by
  obtain rfl:=List.mem_singleton.1 hy
  exact AV.bk dU) (fun n hn=>by omega) (fun n b hb=>by cases hb) ?_
 simp only[Tryz.results41,bV,eG,vR,seval, -List.reduceReplicate]
 have g1:bK [Sum.inl (.int .u8 210)] 0 1 1 (fun _=>210):=⟨rfl,by decide,rfl,b9⟩
 refine bp (m:=32) (g:=aG) Tryz.bP Tryz.bR (by simp only[ae,vR,seval, -List.reduceReplicate]) g1 (.inr ⟨0,0,32,true,lQ aG pn n,rfl,by simp only[ae,vR,seval, -List.reduceReplicate],RC,by decide⟩) (by omega) ?_
 intro c2 mD g2
 simp only[bV,vR,seval, -List.reduceReplicate]
 refine vf ?_
 simp only[vR,seval, -List.reduceReplicate]
 refine bp (m:=4) (g:=fC pn) Tryz.bP Tryz.bR (by simp only[ae,vR,seval, -List.reduceReplicate]) g2 (.inr ⟨12,0,4,true,_,rfl,by simp only[ae,vR,seval, -List.reduceReplicate],aV,by decide⟩) (by omega) ?_
 intro c3 xP g3
 simp only[bV,vR,seval, -List.reduceReplicate]
 refine vf ?_
 simp only[vR,seval, -List.reduceReplicate]
 refine bp (m:=4) (g:=fC n) Tryz.bP Tryz.bR (by simp only[ae,vR,seval, -List.reduceReplicate]) g3 (.inr ⟨_,0,4,true,_,rfl,by simp only[ae,vR,seval, -List.reduceReplicate],aV,by decide⟩) (by omega) ?_
 intro c4 C0 g4
 simp only[vR,seval, -List.reduceReplicate]
 have g5:bK C0 0 41 c4 (KO aG pn n):=g4.congr rfl (fun i hi=>Vi hi)
 refine dV (k:=0) (cs:=C0) (by decide) ?_ g5.plain g5.made
 simp only[ae,vR,seval, -List.reduceReplicate]
theorem sT {s:AS} {nm:Nat} {aG:Nat→Int} {pn n:Int} {dst:Option Nat} {K:AS→Prop}
  (hk: ∀ c cs,bK cs 0 41 c (KO aG pn n)→K ((⟨s.env,upd s.box nm (some ⟨true,cs⟩),s.next⟩:AS).put dst (some (Sl nm 0 41 c)))):bA Tryz.prog nm 41 (some [Ag (lQ aG pn n)]) dst K s:=by
 refine (Fp (aG:=aG) (pn:=pn) (n:=n)).bA (fun n=>n) gF ?_ ?_
 ·simp only[List.map_cons,List.map_nil,AV.bB dU]
 ·rintro v out ⟨c,tail,rfl,rfl,h1,h2,h3⟩
  have l0:lk [(0,(⟨true,af .u8 41 (KO aG pn n)++tail⟩:aN))] 0=some ⟨true,af .u8 41 (KO aG pn n)++tail⟩:=rfl
  have e:AV.aI (bI (fun n=>n) 0 nm) (Sl 0 0 41 c)=Sl nm 0 41 c:=by show Sl (bI _ 0 nm 0) 0 41 c=_;rw[iN]
  rw[l0,fh (cD h3),e]
  exact hk c _ (bK.row h1 h2 h3)
theorem GX {s:AS} {nm:Nat} {aG:Nat→Int} {pn n:Int} {dst:Option Nat} {K:AS→Prop}
  (hk: ∀ c cs,bK cs 0 41 c (KO aG pn n)→K ((⟨s.env,upd s.box nm (some ⟨true,cs⟩),s.next⟩:AS).put dst (some (Sl nm 0 41 c)))):ax Tryz.prog nm 41 (some [Ag (lQ aG pn n)]) dst K s:=
 dS (Fp (aG:=aG) (pn:=pn) (n:=n)) (fun n=>n) gF (by simp only[List.map_cons,List.map_nil,AV.bB dU]) (fun c tail h1 h2 h3=>hk c _ (bK.row h1 h2 h3))
theorem NA {aG tag body:Nat→Int} {pn n:Int} {m:Nat} {sv:SV} {cs:List SV} (hp:cs.all SV.plain=true) (hb:eH 0 (.inl (.inl sv)) m body cs) (hm:m≤65536):
  bf Tryz.prog 39 [Ag (fT aG pn n sv tag)] 1 (lk [(0,⟨false,cs⟩)]) (Made 1 (45+m+32) (xW aG pn n m body tag)):=by
 refine av Tryz.func39 rfl (by kernel_rfl) (by simp[Tryz.ntmps39]) Tryz.ua (fun u hu=>by
  obtain rfl:=List.mem_singleton.1 hu
  exact jF (mq hb (by decide))) dG (dH hp) ?_
 have Kz:=fun {box:Nat→Option aN} (h:bG box (.inl (.inl sv)) m body)=>iW h
 have CY:bG (lk [(0,(⟨false,cs⟩:aN))]) (.inl (.inl sv)) m body:=hb.at (t:=0) rfl hp
 have l1:decide ((m:Int) > 65536)=false:=decide_eq_false (by omega)
 have l2:decide ((65536:Int) < (m:Int))=false:=decide_eq_false (by omega)
 have hw:IntKind.u32.wrap (m:Int)=(m:Int):=dt _ (by omega) (by omega)
 simp only[Tryz.results39,bV,Kz CY,l1,l2,eG,vR,seval, -List.reduceReplicate]
 refine GX ?_
 intro c1 kk g1
 simp only[bV,Kz CY,hw,vR,seval, -List.reduceReplicate]
 refine vf ?_
 simp only[vR,seval, -List.reduceReplicate]
 refine bp (m:=4) (g:=fC m) Tryz.bP Tryz.bR (by simp only[ae,vR,seval, -List.reduceReplicate]) g1 (.inr ⟨_,0,4,true,_,rfl,by simp only[ae,vR,seval, -List.reduceReplicate],aV,by decide⟩) (by omega) ?_
 intro c2 mD g2
 simp only[bV,vR,seval, -List.reduceReplicate]
 refine bp (m:=m) (g:=body) Tryz.bP Tryz.bR (by simp only[ae,vR,seval, -List.reduceReplicate]) g2 (oz (k:=1) CY (hb.ok (by decide)) (by decide) (fun t ht=> ?_)) (by omega) ?_
 ·obtain rfl:t=0:=by omega
  simp only[ae,vR,seval, -List.reduceReplicate]
 intro c3 xP g3
 simp only[bV,vR,seval, -List.reduceReplicate]
 refine bp (m:=32) (g:=tag) Tryz.bP Tryz.bR (by simp only[ae,vR,seval, -List.reduceReplicate]) g3 (.inr ⟨1,35,32,true,fT aG pn n sv tag,rfl,by simp only[ae,vR,seval, -List.reduceReplicate],wH,by decide⟩) (by omega) ?_
 intro c4 C0 g4
 simp only[vR,seval, -List.reduceReplicate]
 have e:aP 41 (KO aG pn n) (fC m)=aP 41 (aP 37 (aP 33 (aP 1 (fun _=>210) aG) (fC pn)) (fC n)) (fC m):=funext fun i=>by
  rcases Nat.lt_or_ge i 41 with h | h
  ·conv=>lhs;rw[aP,if_pos h, ← Vi h]
   conv=>rhs;rw[aP,if_pos h]
  ·conv=>lhs;rw[aP,if_neg (by omega)]
   conv=>rhs;rw[aP,if_neg (by omega)]
 rw[e]at g4
 refine dV (k:=1) (cs:=C0) (by decide) ?_ g4.plain g4.made
 simp only[ae,vR,seval, -List.reduceReplicate]
theorem sU {s:AS} {nm t m:Nat} {aG tag body:Nat→Int} {pn n:Int} {sv:SV} {cs:List SV} {rw:Bool} (hb:s.box t=some ⟨rw,cs⟩) (hp:cs.all SV.plain=true) (hv:eH t (.inl (.inl sv)) m body cs) (hm:m≤65536) {dst:Option Nat} {K:AS→Prop}
  (hk: ∀ c cs',bK cs' 0 (45+m+32) c (xW aG pn n m body tag)→K ((⟨s.env,upd s.box nm (some ⟨true,cs'⟩),s.next⟩:AS).put dst (some (Sl nm 0 (45+m+32) c)))):
  ax Tryz.prog nm 39 (some [Ag (fT aG pn n sv tag)]) dst K s:=by
 obtain ⟨sk,h0,rfl⟩:=UM hv
 exact dS (NA (aG:=aG) (tag:=tag) (pn:=pn) (n:=n) hp h0 hm) (fun _=>t) (bS hb hp) (by simp only[List.map_cons,List.map_nil,lX]) (fun c tail h1 h2 h3=>hk c _ (bK.row h1 h2 h3))
end Go.Proofs.YtpnehhpadofcbaaGreatDoor
