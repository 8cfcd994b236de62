/-
  What is answered where something stands against a message.
-/
import Derived.Test.YtpnehhpadofcbaaGreatDoorVcgJ1
import Derived.Test.YtpnehhpadofcbaaGreatDoorVcgWj
import Derived.Test.YtpnehhpadofcbaaGreatDoorVcgTu
import Derived.Test.YtpnehhpadofcbaaGreatDoorVcgFacts
import Derived.Test.YtpnehhpadofcbaaGreatDoorVcgZ1
set_option maxHeartbeats 8000000
set_option maxRecDepth 20000
set_option linter.unusedSimpArgs false
set_option linter.unusedVariables false
set_option linter.unusedSectionVars false
namespace Go.Proofs.YtpnehhpadofcbaaGreatDoor
open Go.bU
variable [aO]
theorem Tryz.di:dX Tryz.prog 50=some (false,1):=by kernel_rfl
def aew (k n:Nat) (s:St) (f:Nat→En) (i:Nat) (v:AV) (out:Nat→Option aN):Prop:=
 (i=0∧v=Ag (eV 1 rM (.inl (.slice none 0 0)) 0 0)∧out=fun _=>none)∨(i≠0∧ ∃ sv,v=Ag (eV (rj i) { s with store:=sv } (.inl (.slice none 0 0)) 0 0)∧PK k n f sv out)
def iT (nm n:Nat) (f:Nat→En) (sv:SV) (bx:Option aN):Prop:=
 (n=0∧sv= .inl (.slice none 0 0)∧bx=none)∨(0 < n∧ ∃ c cs,sv= .inr (.inr (nm,0,n,c))∧bz cs 0 n c f∧bx=some ⟨true,cs⟩)
theorem PV {k n nm:Nat} {f:Nat→En} {sv:SV} {out:Nat→Option aN} {r:Nat→Nat} (h:PK k n f sv out) (hr:r k=nm):iT nm n f (SV.aI r sv) ((out k).map (aN.aI r)):=by
 rcases h with ⟨h0,rfl,rfl⟩ | ⟨h0,c,cs,rfl,hg,rfl⟩
 ·exact .inl ⟨h0,rfl,rfl⟩
 ·refine .inr ⟨h0,c,cs,by simp only[SV.aI,jI,hr],hg, ?_⟩
  have e:lk [(k,(⟨true,cs⟩:aN))] k=some ⟨true,cs⟩:=by simp[lk]
  rw[e];exact fh hg.plain
theorem iT.is {nm n:Nat} {f:Nat→En} {sv:SV} {bx:Option aN} (h:iT nm n f sv bx) {cs:List SV} {rw:Bool} (hb:bx=some ⟨rw,cs⟩):aH nm sv n f cs:=by
 rcases h with ⟨h0,rfl,h1⟩ | ⟨h0,c,ds,rfl,hg,h1⟩
 ·rw[h1]at hb;cases hb
 ·rw[h1]at hb;cases hb
  exact .inr ⟨0,c,rfl,hg.room,hg.shows⟩
theorem Ul {s:AS} {k q n:Nat} {f:Nat→En} {sv:SV} {bx:Option aN} {Post:AV→(Nat→Option aN)→Prop} (mk:SV→AV) (Wt: ∀ r v,AV.aI r (mk v)=mk (SV.aI r v)) (hok: ∀ (M:Nat→Prop) v,SV.ok M v→AV.ok M (mk v))
  (hq:k≤q) (hb:s.box q=bx) (hK:iT q n f sv bx) (h: ∀ xj out,PK k n f xj out→Post (mk xj) out):qA k Post (mk sv) s:=by
 rcases hK with ⟨h0,rfl,rfl⟩ | ⟨h0,c,cs,rfl,hg,rfl⟩
 ·refine ⟨q,mk (.inl (.slice none 0 0)),fun _=>none,hq,by rw[Wt];rfl,hok _ _ (SV.bk rfl),fun m b hm=>(by simp at hm),h _ _ (.inl ⟨h0,rfl,rfl⟩)⟩
 ·refine ⟨q,mk (.inr (.inr (k,0,n,c))),lk [(k,⟨true,cs⟩)],hq, ?_,hok _ _ ⟨Nat.lt_succ_self k,rfl⟩,fun m b hm=> ?_,h _ _ (.inr ⟨h0,c,cs,rfl,hg,rfl⟩)⟩
  ·rw[Wt];simp only[SV.aI,jI,iR]
  ·obtain ⟨rfl,rfl⟩:=Gi hm
   exact ⟨Nat.lt_succ_self _,fun _=>rfl,aC hg.plain,⟨true,cs⟩,by rw[iR];exact hb,fun h=>h,(aQ hg.plain _).symm⟩
theorem pH {s:AS} {nm t n:Nat} {x:St} {f:Nat→En} {rw:Bool} {cs:List SV} (hb:s.box t=some ⟨rw,cs⟩) (hp:cs.all SV.plain=true) (hi:aH t x.store n f cs) (hn:n*72≤140737488355328) {dst:Option Nat} {K:AS→Prop}
  (hk: ∀ sv bx,iT nm n f sv bx→K ((⟨s.env,upd s.box nm bx,s.next⟩:AS).put dst (some (Ag (bC { x with store:=sv }))))):bA Tryz.prog nm 34 (some [Ag (bC x)]) dst K s:=by
 obtain ⟨v0,g0,e0⟩:=hi.name (k:=0)
 refine (Uh (s:={ x with store:=v0 }) g0 hp hn).bA (fun _=>t) (bS hb hp) ?_ ?_
 ·simp only[List.map_cons,List.map_nil,eM,e0 (fun _=>t) rfl]
 ·rintro v out ⟨sv,rfl,hK⟩
  rw[eM]
  exact hk _ _ (PV hK iN)
theorem Rh {s:St} {n i:Nat} {f:Nat→En} {cs:List SV} (h0:aH 0 s.store n f cs) (hp:cs.all SV.plain=true) (hi:i < 9) (hn:i≠0→n*72≤140737488355328):
  bf Tryz.prog 17 [Ag (bC s),V (gH i)] 1 (lk [(0,⟨false,cs⟩)]) (aew 1 n s f i):=by
 refine gX Tryz.func17 rfl (by kernel_rfl) [3] [] (by simp[Tryz.ntmps17]) Tryz.tL (fun y hy=>by
  simp only[Tryz.di,List.mem_cons,List.not_mem_nil,or_false]at hy
  rcases hy with rfl | rfl
  ·exact bF (h0.ok (by decide))
  ·trivial) dG (dH hp) ?_
 simp only[Tryz.di,Tryz.results17,eZ,gk,wu,jY,ao,bN,aK,aR,vR,seval, -List.reduceReplicate]
 refine (pF (j:=0) hi (by decide)).ax ?_
 simp only[Tryz.di,aK,aR,vR,seval, -List.reduceReplicate]
 refine dI (fun h=> ?_) (fun h=> ?_)
 ·obtain rfl:i=0:=by simpa using h
  simp only[Tryz.di,eZ,gk,wu,jY,ao,bN,aK,aR,vR,seval, -List.reduceReplicate]
  exact ak (jV rfl rfl) (.inl ⟨rfl,rfl,rfl⟩)
 have xd:i≠0:=by simpa using h
 simp only[Tryz.di,aK,aR,vR,seval, -List.reduceReplicate]
 refine wk (by kernel_rfl) [0,2] [1,3] [] [4,5] [1] [9,11,10,12,13] (by kernel_rfl) (by kernel_rfl) (by kernel_rfl) ?_
 simp only[Tryz.di,eZ,gk,wu,jY,ao,bN,aK,aR,vR,seval, -List.reduceReplicate]
 refine (MN hi).bA ?_
 simp only[Tryz.di,eZ,gk,wu,jY,ao,bN,aK,aR,vR,seval, -List.reduceReplicate]
 refine pH (t:=0) (rw:=false) (by simp only[Tryz.di,aK,vR,seval, -List.reduceReplicate]) hp h0 (hn xd) ?_
 intro sv bx hK
 simp only[Tryz.di,eZ,gk,wu,jY,ao,bN,aK,aR,vR,seval, -List.reduceReplicate]
 exact Ul (fun v=>Ag (eV (rj i) { s with store:=v } (.inl (.slice none 0 0)) 0 0)) (fun r v=>uK) (fun M v hv=>wv hv (SV.bk rfl)) (q:=14) (by decide) (by simp only[Tryz.di,aK,vR,seval, -List.reduceReplicate]) hK fun xj out h=> .inr ⟨xd,xj,rfl,h⟩
theorem jo (x n:Int) (h0:0≤n) (h1:n≤32):cI Tryz.prog 147 [I .u32 x,I .u64 n] (I .u32 (xB x n)):=by
 have w:IntKind.u64.wrap (32 - n)=32 - n:=au _ (by omega) (by omega)
 have c1:(0≤32 - n)=True:=eq_true (by omega)
 have c0:(0≤n)=True:=eq_true h0
 refine aJ Tryz.func147 rfl (by kernel_rfl) (by simp[Tryz.ntmps147]) rfl rfl ?_
 simp only[Tryz.results147,vS,seval, -List.reduceReplicate]
 simp only[w,c0,c1,vS,seval, -List.reduceReplicate]
 exact rfl
theorem Um (x:Int) (n:Int) (h0:1≤n) (h1:n≤31):cI Tryz.prog 161 [I .u32 x,I .i64 (-n)] (I .u32 (xB x n)):=by
 have e:aU .and .u64 (IntKind.u64.wrap (-n)) 31=32 - n:=by
  rw[wrap_u64,show (31:Int)=2^5 - 1 from rfl,vJ _ 5 (by omega) (by omega) (by decide)];omega
 have w:IntKind.u64.wrap (32 - (32 - n))=n:=by rw[wrap_u64];omega
 have c1:(0≤32 - n)=True:=eq_true (by omega)
 have c0:(0≤n)=True:=eq_true (by omega)
 refine aJ Tryz.func161 rfl (by kernel_rfl) (by simp[Tryz.ntmps161]) rfl rfl ?_
 simp only[Tryz.results161,vS,seval, -List.reduceReplicate]
 simp only[e,w,c0,c1,vS,seval, -List.reduceReplicate]
 exact congrArg (I .u32) (Te _ _ _)
theorem jq (x n:Int) (h0:1≤n) (h1:n≤31):cI Tryz.prog 160 [I .u32 x,I .i64 n] (I .u32 (xB x n)):=by
 have w:IntKind.i64.wrap (0 - n)= -n:=by rw[wrap_i64 _ (by omega) (by omega)];omega
 refine aJ Tryz.func160 rfl (by kernel_rfl) (by simp[Tryz.ntmps160]) rfl rfl ?_
 simp only[Tryz.results160,vS,seval, -List.reduceReplicate]
 simp only[w,vS,seval, -List.reduceReplicate]
 refine (Um x n h0 h1).ax ?_
 simp only[vS,seval, -List.reduceReplicate]
theorem Gj (v:Nat→Int):cI Tryz.prog 150 [Ag (af .u32 8 v)] (Ag (af .u8 32 (FQ v))):=by
 refine aJ Tryz.func150 rfl (by kernel_rfl) (by simp[Tryz.ntmps150]) rfl rfl ?_
 simp only[Tryz.results150,vR,seval, -List.reduceReplicate]
 refine aE 32 (fun k=>[(2,Ptr 1 0),(1,Ptr 0 0),(3,Ptr 2 0),(5,I .i64 k)])
  (fun k=>[(0,⟨true,af .u32 8 v⟩),(1,⟨true,af .u8 32 (fun _=>0)⟩),(2,⟨true,af .u8 32 (fun i=>if i < k then FQ v i else 0)⟩)]) _ ?_ ?_ ?_
 ·simp only[Nat.not_lt_zero,if_false,vR,seval, -List.reduceReplicate]
 ·intro j hj
  have a1:(((j / 4:Nat):Int) < 8)=True:=by simp;omega
  have a3:((j:Int) < 32)=True:=bX (m:=32) hj
  have q:=C' j 4 (by omega)
  have r:=LV j 4
  rw[show ((4:Nat):Int)=4 from rfl]at q r
  have w1:IntKind.i64.wrap (((j%4:Nat):Int)*8)=8*((j%4:Nat):Int):=by rw[wrap_i64 _ (by omega) (by omega)];omega
  have w2:IntKind.i64.wrap (24 - 8*((j%4:Nat):Int))=24 - 8*((j%4:Nat):Int):=wrap_i64 _ (by omega) (by omega)
  have a2:(0≤24 - 8*((j%4:Nat):Int))=True:=eq_true (by omega)
  have fin:af .u8 32 (upd (fun i=>if i < j then FQ v i else 0) j (FQ v j))=af .u8 32 (fun i=>if i < j+1 then FQ v i else 0):=fk
  have eo:IntKind.u8.wrap (cy .u32 (v (j / 4)) (24 - 8*((j%4:Nat):Int)))=FQ v j:=rfl
  simp only[vR,seval, -List.reduceReplicate]
  refine az (by simp;omega) ?_
  simp only[q,r,w1,w2,a1,a2,a3,aW,aA .u32 8 v (j / 4) (by omega),Nat.mul_one,eo,aB .u8 32 _ j hj,fin,bt j (by omega),vR,seval, -List.reduceReplicate]
  omega
 ·simp only[vR,seval, -List.reduceReplicate]
  refine aD (by simp) ?_
  simp only[dL,vR,seval, -List.reduceReplicate]
theorem Zw {n:Nat} {f:Nat→Int} {o c:Nat} {cs:List SV} (hf:br f) (hc:aZ cs o n f) (hp:cs.all SV.plain=true) (t:Nat) (ht:4*t+4≤n) (ht':t < 16):
  bf Tryz.prog 37 [Sl 0 o n c,I .i64 ((4*t:Nat):Int)] 1 (lk [(0,⟨false,cs⟩)]) (fun v out=>v=I .u32 (Bk f t)∧out=fun _=>none):=by
 refine av Tryz.func37 rfl (by kernel_rfl) (by simp[Tryz.ntmps37]) Tryz.po (by simp[AV.ok,CV.ok,SV.names]) dG (dH hp) ?_
 have a0:=hc (4*t) (by omega)
 have a1:=hc (4*t+1) (by omega)
 have a2:=hc (4*t+2) (by omega)
 have a3:=hc (4*t+3) (by omega)
 have w1:IntKind.i64.wrap (((4*t:Nat):Int)+1)=((4*t+1:Nat):Int):=wrap_i64 _ (by omega) (by omega)
 have w2:IntKind.i64.wrap (((4*t:Nat):Int)+2)=((4*t+2:Nat):Int):=wrap_i64 _ (by omega) (by omega)
 have w3:IntKind.i64.wrap (((4*t:Nat):Int)+3)=((4*t+3:Nat):Int):=wrap_i64 _ (by omega) (by omega)
 have w4:IntKind.i64.wrap (((4*t:Nat):Int)+4)=((4*t+4:Nat):Int):=wrap_i64 _ (by omega) (by omega)
 have d1:decide (((4*t:Nat):Int) < 0)=false:=decide_eq_false (by omega)
 have d2:decide ((n:Int) < ((4*t+4:Nat):Int))=false:=decide_eq_false (by omega)
 have l0:(((4*t:Nat):Int) < (n:Int))=True:=eq_true (by omega)
 have l1:(((4*t+1:Nat):Int) < (n:Int))=True:=eq_true (by omega)
 have l2:(((4*t+2:Nat):Int) < (n:Int))=True:=eq_true (by omega)
 have l3:(((4*t+3:Nat):Int) < (n:Int))=True:=eq_true (by omega)
 simp only[Tryz.results37,w1,w2,w3,w4,d1,d2,l0,l1,l2,l3,aW,a0,a1,a2,a3,Nat.mul_one,vR,seval, -List.reduceReplicate]
 have e:=QV hf t
 simp only[e,vR,seval, -List.reduceReplicate]
 exact ⟨by kernel_rfl,ak rfl ⟨rfl,rfl⟩⟩
def Un (f:Nat→Int) (i t:Nat):Int:=if 4*t+4≤i then Bk f t else if 4*t≤i then tw f t (i - 4*t) else 0
theorem Uo (f:Nat→Int): ∀ t,Un f 0 t=0:=fun t=>by
 simp only[Un];rw[if_neg (by omega)]
 split
 ·rw[show 0 - 4*t=0 by omega];rfl
 ·rfl
theorem Zx (f:Nat→Int) (i:Nat):Un f i (i / 4)=tw f (i / 4) (i%4):=by
 simp only[Un];rw[if_neg (by omega),if_pos (by omega),show i - 4*(i / 4)=i%4 by omega]
theorem Up (f:Nat→Int) (i:Nat):upd (Un f i) (i / 4) (tw f (i / 4) (i%4+1))=Un f (i+1):=by
 funext t
 simp only[upd]
 split
 ·rename_i e;subst e
  simp only[Un]
  by_cases h:4*(i / 4)+4≤i+1
  ·rw[if_pos h,show i%4+1=4 by omega];rfl
  ·rw[if_neg h,if_pos (by omega),show i+1 - 4*(i / 4)=i%4+1 by omega]
 ·rename_i e
  simp only[Un]
  by_cases h:4*t+4≤i
  ·rw[if_pos h,if_pos (by omega)]
  ·rw[if_neg h,if_neg (show ¬ 4*t≤i by omega),if_neg (show ¬ 4*t+4≤i+1 by omega)]
   by_cases h3:4*t≤i+1
   ·rw[if_pos h3,show i+1 - 4*t=0 by omega];rfl
   ·rw[if_neg h3]
theorem Wu (f:Nat→Int):af .u32 64 (Un f 64)=af .u32 64 (jC f 16):=aX fun t ht=>by
 have: ∀ k,k≤16→jC f k t=if t < k then Bk f t else 0:=fun k=>by
  induction k with
  | zero=>intro _;rfl
  | succ k ih=>
   intro hk
   simp only[jC,upd]
   split
   ·rename_i e;subst e;rw[if_pos (by omega),if_pos (by omega)]
   ·rw[ih (by omega)]
    by_cases h:t < k
    ·rw[if_pos h,if_pos (by omega)]
    ·rw[if_neg h,if_neg (by omega)]
 rw[this 16 (Nat.le_refl _)]
 simp only[Un]
 by_cases h:t < 16
 ·rw[if_pos (by omega),if_pos h]
 ·rw[if_neg (by omega),if_neg h]
  split
  ·rw[show 64 - 4*t=0 by omega];rfl
  ·rfl
theorem MQ {f:Nat→Int} {o c:Nat} {cs:List SV} (hf:br f) (hc:aZ cs o 64 f) (hp:cs.all SV.plain=true):
  bf Tryz.prog 158 [Sl 0 o 64 c] 1 (lk [(0,⟨false,cs⟩)]) (fun v out=>v=Ag (af .u32 64 (vO f))∧out=fun _=>none):=by
 refine av Tryz.func158 rfl (by kernel_rfl) (by simp[Tryz.ntmps158]) Tryz.JR (by simp[AV.ok,CV.ok,SV.names]) dG (dH hp) ?_
 have fO: ∀ {M:Nat→Prop},(∀ x ∈ cs,SV.ok M x)=True:=eq_true (aC hp)
 simp only[Tryz.results158,vR,seval, -List.reduceReplicate]
 refine aE 64 (fun k=>[(2,Ptr 1 0),(3,Ptr 2 0),(9,Sl 0 o 64 c),(10,I .i64 64),(11,I .i64 k)])
  (fun k=>[(0,⟨false,cs⟩),(1,⟨true,af .u32 64 (fun _=>0)⟩),(2,⟨true,af .u32 64 (Un f k)⟩)]) _ ?_ ?_ ?_
 ·simp only[fO,vR,seval, -List.reduceReplicate]
  exact congrArg (fun c=>some (aN.mk true c)) (aX fun i _=>(Uo f i).symm)
 ·intro j hj
  have a1:(((j / 4:Nat):Int) < 64)=True:=by simp;omega
  have a3:((j:Int) < 64)=True:=bX (m:=64) hj
  have q:=C' j 4 (by omega)
  rw[show ((4:Nat):Int)=4 from rfl]at q
  have st:=QU hf (j / 4) (j%4) (by omega)
  rw[show 4*(j / 4)+j%4=j by omega]at st
  simp only[vR,seval, -List.reduceReplicate]
  refine az (by simp;omega) ?_
  simp only[q,a1,a3,aW,hc j hj,aA .u32 64 _ (j / 4) (show j / 4 < 64 by omega),Zx,st,Nat.mul_one,aB .u32 64 _ (j / 4) (show j / 4 < 64 by omega),Up,bt j (by omega),vR,seval, -List.reduceReplicate]
  exact ⟨by omega,aC hp⟩
 ·simp only[vR,seval, -List.reduceReplicate]
  refine aD (by simp) ?_
  simp only[Wu,vR,seval, -List.reduceReplicate]
  refine aE 48 (fun k=>[(2,Ptr 1 0),(3,Ptr 2 0),(6,I .i64 ((16+k:Nat):Int))])
   (fun k=>[(1,⟨true,af .u32 64 (fun _=>0)⟩),(2,⟨true,af .u32 64 (jC f (16+k))⟩)]) _ ?_ ?_ ?_
  ·simp only[vR,seval, -List.reduceReplicate]
  ·intro k hk
   have Wv:IntKind.i64.wrap (((16+k:Nat):Int) - 15)=((16+k - 15:Nat):Int):=by rw[wrap_i64 _ (by omega) (by omega)];omega
   have w2:IntKind.i64.wrap (((16+k:Nat):Int) - 2)=((16+k - 2:Nat):Int):=by rw[wrap_i64 _ (by omega) (by omega)];omega
   have w7:IntKind.i64.wrap (((16+k:Nat):Int) - 7)=((16+k - 7:Nat):Int):=by rw[wrap_i64 _ (by omega) (by omega)];omega
   have Sh:IntKind.i64.wrap (((16+k:Nat):Int) - 16)=((16+k - 16:Nat):Int):=by rw[wrap_i64 _ (by omega) (by omega)];omega
   have Ww:(((16+k - 15:Nat):Int) < 64)=True:=eq_true (by omega)
   have l2:(((16+k - 2:Nat):Int) < 64)=True:=eq_true (by omega)
   have l7:(((16+k - 7:Nat):Int) < 64)=True:=eq_true (by omega)
   have Li:(((16+k - 16:Nat):Int) < 64)=True:=eq_true (by omega)
   have l0:(((16+k:Nat):Int) < 64)=True:=eq_true (by omega)
   have g: ∀ i,i < 64→(af .u32 64 (jC f (16+k)))[i]? =some (Sum.inl (.int .u32 (jC f (16+k) i))):=fun i hi=>aA .u32 64 _ i hi
   simp only[vR,seval, -List.reduceReplicate]
   refine az (by simp;omega) ?_
   simp only[Wv,w2,w7,Sh,Ww,l2,l7,Li,l0,aW,g _ (show 16+k - 15 < 64 by omega),g _ (show 16+k - 2 < 64 by omega),g _ (show 16+k - 7 < 64 by omega),g _ (show 16+k - 16 < 64 by omega),Nat.mul_one,vR,seval, -List.reduceReplicate]
   refine ⟨by kernel_rfl,cI.draw (jq _ 7 (by decide) (by decide)) Tryz.jT ?_⟩
   simp only[Wv,w2,w7,Sh,Ww,l2,l7,Li,l0,aW,g _ (show 16+k - 15 < 64 by omega),g _ (show 16+k - 2 < 64 by omega),g _ (show 16+k - 7 < 64 by omega),g _ (show 16+k - 16 < 64 by omega),Nat.mul_one,vR,seval, -List.reduceReplicate]
   refine cI.draw (jq _ 18 (by decide) (by decide)) Tryz.jT ?_
   simp only[Wv,w2,w7,Sh,Ww,l2,l7,Li,l0,aW,g _ (show 16+k - 15 < 64 by omega),g _ (show 16+k - 2 < 64 by omega),g _ (show 16+k - 7 < 64 by omega),g _ (show 16+k - 16 < 64 by omega),Nat.mul_one,vR,seval, -List.reduceReplicate]
   refine ⟨by kernel_rfl,cI.draw (jq _ 17 (by decide) (by decide)) Tryz.jT ?_⟩
   simp only[Wv,w2,w7,Sh,Ww,l2,l7,Li,l0,aW,g _ (show 16+k - 15 < 64 by omega),g _ (show 16+k - 2 < 64 by omega),g _ (show 16+k - 7 < 64 by omega),g _ (show 16+k - 16 < 64 by omega),Nat.mul_one,vR,seval, -List.reduceReplicate]
   refine cI.draw (jq _ 19 (by decide) (by decide)) Tryz.jT ?_
   simp only[Wv,w2,w7,Sh,Ww,l2,l7,Li,l0,aW,g _ (show 16+k - 15 < 64 by omega),g _ (show 16+k - 2 < 64 by omega),g _ (show 16+k - 7 < 64 by omega),g _ (show 16+k - 16 < 64 by omega),Nat.mul_one,vR,seval, -List.reduceReplicate]
   refine ⟨by kernel_rfl,by omega,congrArg (fun z=>some (I .i64 z)) (bt (16+k) (by omega)), ?_⟩
   have e:jC f (16+(k+1))=upd (jC f (16+k)) (16+k) (Tj (jC f (16+k)) (16+k)):=by
    show upd (jC f (16+k)) (16+k) (if 16+k < 16 then _ else _)=_
    rw[if_neg (by omega)];rfl
   rw[e, ← aB .u32 64 _ _ (by omega)]
   rfl
  ·simp only[vR,seval, -List.reduceReplicate]
   refine aD (by simp) ?_
   simp only[vR,seval, -List.reduceReplicate]
   exact ak aw ⟨rfl,rfl⟩
theorem PW:[Sum.inl (Value.int IntKind.u32 0),Sum.inl (Value.int IntKind.u32 0),Sum.inl (Value.int IntKind.u32 0),Sum.inl (Value.int IntKind.u32 0),Sum.inl (Value.int IntKind.u32 0),Sum.inl (Value.int IntKind.u32 0),Sum.inl (Value.int IntKind.u32 0),Sum.inl (Value.int IntKind.u32 0)]=af .u32 8 (fun _=>0):=rfl
theorem B5 (v w:Nat→Int) (hv:Tg v):cI Tryz.prog 157 [Ag (af .u32 8 v),Ag (af .u32 64 w)] (Ag (af .u32 8 (fun i=>IntKind.u32.wrap (v i+rounds kW v w 64 i)))):=by
 refine aJ Tryz.func157 rfl (by kernel_rfl) (by simp[Tryz.ntmps157]) rfl rfl ?_
 have g: ∀ i,i < 8→(af .u32 8 v)[i]? =some (Sum.inl (.int .u32 (v i))):=fun i hi=>aA .u32 8 _ i hi
 simp only[Tryz.results157,g 0 (by decide),g 1 (by decide),g 2 (by decide),g 3 (by decide),g 4 (by decide),g 5 (by decide),g 6 (by decide),g 7 (by decide),vR,seval, -List.reduceReplicate]
 refine ⟨by kernel_rfl,by kernel_rfl, ?_⟩
 refine aE 64 (fun k=>[(2,Ptr 0 0),(3,Ptr 1 0),(4,Ptr 2 0),(5,I .u32 (rounds kW v w k 0)),(6,I .u32 (rounds kW v w k 1)),(7,I .u32 (rounds kW v w k 2)),(8,I .u32 (rounds kW v w k 3)),(9,I .u32 (rounds kW v w k 4)),(10,I .u32 (rounds kW v w k 5)),(11,I .u32 (rounds kW v w k 6)),(12,I .u32 (rounds kW v w k 7)),(36,I .i64 k)])
  (fun k=>[(0,⟨true,af .u32 8 v⟩),(1,⟨true,af .u32 64 w⟩),(2,⟨true,af .u32 8 (fun _=>0)⟩)]) _ ?_ ?_ ?_
 ·simp only[rounds,PW,vR,seval, -List.reduceReplicate]
 ·intro k hk
  have hr:=xC (K:=kW) (w:=w) hv k
  have a3:((k:Int) < 64)=True:=bX (m:=64) hk
  have e: ∀ i,rounds kW v w (k+1) i=QX (rounds kW v w k) (kW k) (w k) i:=fun i=>rfl
  have n4:=V3 _ (hr 4).1 (hr 4).2
  generalize rounds kW v w k=r at*
  simp only[vR,seval, -List.reduceReplicate]
  refine az (by simp;omega) ?_
  simp only[a3,aW,aA .u32 64 w k hk,Nat.mul_one,vR,seval, -List.reduceReplicate]
  refine (jq _ 6 (by decide) (by decide)).ax ?_
  simp only[vR,seval, -List.reduceReplicate]
  refine (jq _ 11 (by decide) (by decide)).ax ?_
  simp only[vR,seval, -List.reduceReplicate]
  refine (jq _ 25 (by decide) (by decide)).ax ?_
  simp only[a3,aW,aA .u32 64 w k hk,aA .u32 64 kW k hk,Nat.mul_one,vR,seval, -List.reduceReplicate]
  refine ⟨by kernel_rfl, ?_⟩
  refine (jq _ 2 (by decide) (by decide)).ax ?_
  simp only[vR,seval, -List.reduceReplicate]
  refine (jq _ 13 (by decide) (by decide)).ax ?_
  simp only[vR,seval, -List.reduceReplicate]
  refine (jq _ 22 (by decide) (by decide)).ax ?_
  simp only[vR,seval, -List.reduceReplicate]
  have aex:(if IntKind.u32.signed=true then -1 else IntKind.u32.max)=4294967295:=rfl
  simp only[e,bt k (by omega),aex,n4,and_true]
  exact ⟨rfl,rfl,rfl,rfl,rfl,rfl,rfl,rfl⟩
 ·simp only[vR,seval, -List.reduceReplicate]
  refine aD (by simp) ?_
  simp only[vS,seval, -List.reduceReplicate]
  generalize rounds kW v w 64=r at*
  refine aE 8 (fun k=>[(2,Ptr 0 0),(4,Ptr 2 0),(109,Ag (af .u32 8 r)),(110,I .i64 k)])
   (fun k=>[(0,⟨true,af .u32 8 (fun i=>if i < k then IntKind.u32.wrap (v i+r i) else v i)⟩),(2,⟨true,af .u32 8 (fun _=>0)⟩)]) _ ?_ ?_ ?_
  ·simp only[vK,vR,seval, -List.reduceReplicate]
   rfl
  ·intro k hk
   have a3:((k:Int) < 8)=True:=bX (m:=8) hk
   have hf:(if k < k then IntKind.u32.wrap (v k+r k) else v k)=v k:=if_neg (Nat.lt_irrefl k)
   have fin:af .u32 8 (upd (fun i=>if i < k then IntKind.u32.wrap (v i+r i) else v i) k (IntKind.u32.wrap (v k+r k)))=af .u32 8 (fun i=>if i < k+1 then IntKind.u32.wrap (v i+r i) else v i):=fV (f:=fun i=>IntKind.u32.wrap (v i+r i))
   simp only[vR,seval, -List.reduceReplicate]
   refine az (by simp;omega) ?_
   simp only[a3,aW,aA .u32 8 _ k hk,hf,Nat.mul_one,aB .u32 8 _ k hk,fin,bt k (by omega),vR,seval, -List.reduceReplicate]
   omega
  ·simp only[vR,seval, -List.reduceReplicate]
   refine aD (by simp) ?_
   simp only[dL,vR,seval, -List.reduceReplicate]
theorem MR {f v:Nat→Int} {o c:Nat} {cs:List SV} (hv:Tg v) (hf:br f) (hc:aZ cs o 64 f) (hp:cs.all SV.plain=true):
  bf Tryz.prog 130 [Ag (af .u32 8 v),Sl 0 o 64 c] 1 (lk [(0,⟨false,cs⟩)]) (fun u out=>u=Ag (af .u32 8 (Bl kW v f))∧out=fun _=>none):=by
 refine av Tryz.func130 rfl (by kernel_rfl) (by simp[Tryz.ntmps130]) Tryz.JK (fun u hu=>by
  simp only[List.mem_cons,List.not_mem_nil,or_false]at hu
  rcases hu with rfl | rfl
  ·exact aC aw
  ·exact (by decide:0 < 1)) dG (dH hp) ?_
 have fO: ∀ {M:Nat→Prop},(∀ x ∈ cs,SV.ok M x)=True:=eq_true (aC hp)
 simp only[Tryz.results130,vR,seval, -List.reduceReplicate]
 refine aE 64 (fun k=>[(1,Sl 0 o 64 c),(2,Ptr 1 0),(4,Ptr 2 0),(5,Ptr 3 0),(6,I .i64 k)])
  (fun k=>[(0,⟨false,cs⟩),(1,⟨true,af .u32 8 v⟩),(2,⟨true,af .u32 8 (fun _=>0)⟩),(3,⟨true,af .u32 64 (jC f k)⟩)]) _ ?_ ?_ ?_
 ·simp only[fO,PW,jC,vR,seval, -List.reduceReplicate]
 ·intro k hk
  have l0:((k:Int) < 64)=True:=bX (m:=64) hk
  have ws:=bt k (by omega)
  simp only[vR,seval, -List.reduceReplicate]
  refine az (by simp;omega) ?_
  by_cases EG:k < 16
  ·have e:jC f (k+1)=upd (jC f k) k (Bk f k):=by
    show upd (jC f k) k (if k < 16 then _ else _)=_
    rw[if_pos EG]
   have w4:IntKind.i64.wrap (4*(k:Int))=((4*k:Nat):Int):=by rw[wrap_i64 _ (by omega) (by omega)];omega
   simp only[vR,seval, -List.reduceReplicate]
   refine az (by simp;omega) ?_
   simp only[w4,vR,seval, -List.reduceReplicate]
   refine (Zw hf hc hp k (by omega) EG).cW (fun _=>0) (bS (rw:=false) (by simp only[ae,vR,seval, -List.reduceReplicate]) hp) rfl rfl ?_
   simp only[fO,l0,aW,Nat.mul_one,ws,e,aB .u32 64 _ k hk,vR,seval, -List.reduceReplicate]
   omega
  ·have Wv:IntKind.i64.wrap ((k:Int) - 15)=((k - 15:Nat):Int):=by rw[wrap_i64 _ (by omega) (by omega)];omega
   have w2:IntKind.i64.wrap ((k:Int) - 2)=((k - 2:Nat):Int):=by rw[wrap_i64 _ (by omega) (by omega)];omega
   have w7:IntKind.i64.wrap ((k:Int) - 7)=((k - 7:Nat):Int):=by rw[wrap_i64 _ (by omega) (by omega)];omega
   have Sh:IntKind.i64.wrap ((k:Int) - 16)=((k - 16:Nat):Int):=by rw[wrap_i64 _ (by omega) (by omega)];omega
   have Ww:(((k - 15:Nat):Int) < 64)=True:=eq_true (by omega)
   have l2:(((k - 2:Nat):Int) < 64)=True:=eq_true (by omega)
   have l7:(((k - 7:Nat):Int) < 64)=True:=eq_true (by omega)
   have Li:(((k - 16:Nat):Int) < 64)=True:=eq_true (by omega)
   have g: ∀ i,i < 64→(af .u32 64 (jC f k))[i]? =some (Sum.inl (.int .u32 (jC f k i))):=fun i hi=>aA .u32 64 _ i hi
   have e:jC f (k+1)=upd (jC f k) k (Tj (jC f k) k):=by
    show upd (jC f k) k (if k < 16 then _ else _)=_
    rw[if_neg EG]
   simp only[vR,seval, -List.reduceReplicate]
   refine aD (by simp;omega) ?_
   simp only[Wv,w2,w7,Sh,Ww,l2,l7,Li,l0,aW,g _ (show k - 15 < 64 by omega),g _ (show k - 2 < 64 by omega),g _ (show k - 7 < 64 by omega),g _ (show k - 16 < 64 by omega),Nat.mul_one,vR,seval, -List.reduceReplicate]
   refine ⟨by kernel_rfl,cI.draw (jo _ 17 (by decide) (by decide)) Tryz.gj ?_⟩
   simp only[vR,seval, -List.reduceReplicate]
   refine cI.draw (jo _ 19 (by decide) (by decide)) Tryz.gj ?_
   simp only[Wv,w2,w7,Sh,Ww,l2,l7,Li,l0,aW,g _ (show k - 15 < 64 by omega),g _ (show k - 2 < 64 by omega),g _ (show k - 7 < 64 by omega),g _ (show k - 16 < 64 by omega),Nat.mul_one,vR,seval, -List.reduceReplicate]
   refine cI.draw (jo _ 7 (by decide) (by decide)) Tryz.gj ?_
   simp only[vR,seval, -List.reduceReplicate]
   refine cI.draw (jo _ 18 (by decide) (by decide)) Tryz.gj ?_
   simp only[Wv,w2,w7,Sh,Ww,l2,l7,Li,l0,aW,g _ (show k - 15 < 64 by omega),g _ (show k - 2 < 64 by omega),g _ (show k - 7 < 64 by omega),g _ (show k - 16 < 64 by omega),Nat.mul_one,vR,seval, -List.reduceReplicate]
   simp only[fO,e,ws,true_and,and_true]
   refine ⟨by omega, ?_⟩
   rw[← aB .u32 64 _ k hk]
   rfl
 ·simp only[vR,seval, -List.reduceReplicate]
  refine aD (by simp) ?_
  simp only[aB .u32 8 _ _ (show 0 < 8 by decide),vR,seval, -List.reduceReplicate]
  have z8: ∀ r:Nat→Int,splice (af .u32 8 (fun _=>0)) 0 (af .u32 8 r)=af .u32 8 r:=fun r=>du .u32 8 _ _
  simp only[PW,z8,vR,seval, -List.reduceReplicate]
  refine aE 64 (fun k=>[(2,Ptr 1 0),(4,Ptr 2 0),(5,Ptr 3 0),(9,Ptr 8 0),(10,I .i64 k)])
   (fun k=>[(1,⟨true,af .u32 8 v⟩),(2,⟨true,af .u32 8 (fun _=>0)⟩),(3,⟨true,af .u32 64 (jC f 64)⟩),(8,⟨true,af .u32 8 (rounds kW v (vO f) k)⟩)]) _ ?_ ?_ ?_
  ·simp only[rounds,vR,seval, -List.reduceReplicate]
  ·intro k hk
   have hr:=xC (K:=kW) (w:=vO f) hv k
   have l0:((k:Int) < 64)=True:=bX (m:=64) hk
   have ws:=bt k (by omega)
   have e: ∀ i,rounds kW v (vO f) (k+1) i=QX (rounds kW v (vO f) k) (kW k) (jC f 64 k) i:=fun i=>rfl
   have ee:af .u32 8 (rounds kW v (vO f) (k+1))=af .u32 8 (QX (rounds kW v (vO f) k) (kW k) (jC f 64 k)):=rfl
   have wx: ∀ r4:Int,0≤r4∧r4 < 4294967296→IntKind.u32.wrap (4294967295 - r4)=4294967295 - r4:=fun r4 h=>dt _ (by omega) (by omega)
   have w4:=wx _ (hr 4)
   rw[ee]
   generalize rounds kW v (vO f) k=r at*
   have g: ∀ i,i < 8→(af .u32 8 r)[i]? =some (Sum.inl (.int .u32 (r i))):=fun i hi=>aA .u32 8 _ i hi
   simp only[vR,seval, -List.reduceReplicate]
   refine az (by simp;omega) ?_
   simp only[g 0 (by decide),g 1 (by decide),g 2 (by decide),g 3 (by decide),g 4 (by decide),g 5 (by decide),g 6 (by decide),g 7 (by decide),w4,vR,seval, -List.reduceReplicate]
   refine ⟨by kernel_rfl,cI.draw (jo _ 6 (by decide) (by decide)) Tryz.gj ?_⟩
   simp only[vR,seval, -List.reduceReplicate]
   refine cI.draw (jo _ 11 (by decide) (by decide)) Tryz.gj ?_
   simp only[vR,seval, -List.reduceReplicate]
   refine cI.draw (jo _ 25 (by decide) (by decide)) Tryz.gj ?_
   simp only[g 0 (by decide),g 1 (by decide),g 2 (by decide),g 3 (by decide),g 4 (by decide),g 5 (by decide),g 6 (by decide),g 7 (by decide),l0,aW,aA .u32 64 _ k hk,Nat.mul_one,w4,vR,seval, -List.reduceReplicate]
   refine (jo _ 2 (by decide) (by decide)).ax ?_
   simp only[vR,seval, -List.reduceReplicate]
   refine (jo _ 13 (by decide) (by decide)).ax ?_
   simp only[vR,seval, -List.reduceReplicate]
   refine (jo _ 22 (by decide) (by decide)).ax ?_
   simp only[g 0 (by decide),g 1 (by decide),g 2 (by decide),g 3 (by decide),g 4 (by decide),g 5 (by decide),g 6 (by decide),g 7 (by decide),w4,vS,seval, -List.reduceReplicate]
   refine ⟨by rw[ah];decide,congrArg (fun z=>some (I .i64 z)) ws, ?_⟩
   rw[List.drop_of_length_le (by rw[ah];decide)]
   rfl
  ·simp only[vR,seval, -List.reduceReplicate]
   refine aD (by simp) ?_
   simp only[vR,seval, -List.reduceReplicate]
   generalize hR:rounds kW v (vO f) 64=r at*
   refine aE 8 (fun k=>[(2,Ptr 1 0),(4,Ptr 2 0),(9,Ptr 8 0),(17,I .i64 k)])
    (fun k=>[(1,⟨true,af .u32 8 v⟩),(2,⟨true,af .u32 8 (fun _=>0)⟩),(8,⟨true,af .u32 8 (fun i=>if i < k then IntKind.u32.wrap (v i+r i) else r i)⟩)]) _ ?_ ?_ ?_
   ·simp only[vK,vR,seval, -List.reduceReplicate]
   ·intro k hk
    have a3:((k:Int) < 8)=True:=bX (m:=8) hk
    have hf:(if k < k then IntKind.u32.wrap (v k+r k) else r k)=r k:=if_neg (Nat.lt_irrefl k)
    have fin:af .u32 8 (upd (fun i=>if i < k then IntKind.u32.wrap (v i+r i) else r i) k (IntKind.u32.wrap (r k+v k)))=af .u32 8 (fun i=>if i < k+1 then IntKind.u32.wrap (v i+r i) else r i):=by
     rw[Int.add_comm (r k)];exact fV (f:=fun i=>IntKind.u32.wrap (v i+r i))
    simp only[vR,seval, -List.reduceReplicate]
    refine az (by simp;omega) ?_
    simp only[a3,aW,aA .u32 8 _ k hk,hf,Nat.mul_one,aB .u32 8 _ k hk,fin,bt k (by omega),vR,seval, -List.reduceReplicate]
    exact ⟨by kernel_rfl,by omega⟩
   ·simp only[vR,seval, -List.reduceReplicate]
    refine aD (by simp) ?_
    simp only[dL,vR,seval, -List.reduceReplicate]
    refine ak aw ⟨?_,rfl⟩
    refine congrArg Ag (aX fun i _=> ?_)
    simp only[Bl,hR]
def iO (x:Int) (j:Nat):Int:=IntKind.u8.wrap (cy .u64 x (56 - 8*(j:Int)))
theorem J0 {n o c:Nat} {f:Nat→Int} {cs:List SV} {x:Int} (hg:bK cs o n c f) (hn:n+8≤140737488355328):
  bf Tryz.prog 120 [Sl 0 o n c,I .u64 x] 1 (lk [(0,⟨true,cs⟩)]) (Made 1 (n+8) (aP n f (iO x))):=by
 refine av Tryz.func120 rfl (by kernel_rfl) (by simp[Tryz.ntmps120]) Tryz.nJ (by simp[AV.ok,CV.ok,SV.names]) dG (dH hg.plain) ?_
 simp only[Tryz.results120,vR,seval, -List.reduceReplicate]
 refine ox (β:=Nat×Nat×List SV) 8 (fun k y=>bK y.2.2 y.1 (n+k) y.2.1 (aP n f (iO x))∧(k=0∨y.1=0))
  (fun k y=>[(0,Sl 30 y.1 (n+k) y.2.1),(1,I .u64 x),(5,I .i64 (56 - 8*(k:Int)))]) (fun k y=>[(30,⟨true,y.2.2⟩)]) 31 (o,c,cs) ?_ ?_ ?_ (by show 3≤31;decide)
 ·refine ⟨⟨⟨hg.len,hg.room,hg.plain,jN hg.shows fun i hi=> ?_⟩, .inl rfl⟩,30,0, ?_⟩
  ·simp only[aP,if_pos (show i < n from hi)]
  ·simp only[eP,iS,eF,lE,mL,hg.plain,true_or,vR,seval, -List.reduceReplicate]
   simp
 ·rintro k ⟨o',c',cs'⟩ hk ⟨h1,h2⟩
  simp only at h1 h2
  have a2:(0≤56 - 8*(k:Int))=True:=eq_true (by omega)
  have ws:IntKind.i64.wrap (56 - 8*(k:Int) - 8)=56 - 8*((k+1:Nat):Int):=by rw[wrap_i64 _ (by omega) (by omega)];omega
  have eb:IntKind.u8.wrap (cy .u64 x (56 - 8*(k:Int)))=iO x k:=rfl
  simp only[vR,seval, -List.reduceReplicate]
  refine az (by simp;omega) ?_
  simp only[a2,eb,vR,seval, -List.reduceReplicate]
  refine bp (g:=fun _=>iO x k) Tryz.bP Tryz.bR (by simp only[ae,vR,seval, -List.reduceReplicate]) h1 (.inr ⟨38,0,1,true,[Sum.inl (.int .u8 (iO x k))],rfl,by simp only[ae,eG,vR,seval, -List.reduceReplicate],b9,by decide⟩) (by omega) ?_
  intro c2 mD gI
  simp only[ws,vR,seval, -List.reduceReplicate]
  refine ⟨(0,c2,mD),⟨gI.congr (by omega) fun i hi=>LW i (by omega), .inr rfl⟩,30,39, ?_⟩
  simp only[eP,iS,eF,lE,mL,gI.plain,true_or,vR,seval, -List.reduceReplicate]
  simp[Nat.add_assoc]
 ·rintro ⟨o',c',cs'⟩ ⟨h1,h2⟩
  simp only at h1 h2
  have:o'=0:=by omega
  subst this
  simp only[vR,seval, -List.reduceReplicate]
  refine aD (by decide) ?_
  simp only[vR,seval, -List.reduceReplicate]
  refine dV (k:=1) (q:=30) (cs:=cs') (by decide) ?_ h1.plain h1.made
  simp only[vR,seval, -List.reduceReplicate]
theorem B6 {f v:Nat→Int} {o c m:Nat} {cs:List SV} (hv:Tg v) (hf:br f) (hc:aZ cs o (64*m) f) (hcap:64*m≤c) (hm:64*m < 4611686018427387904) (hp:cs.all SV.plain=true):
  bf Tryz.prog 148 [Ag (af .u32 8 v),Sl 0 o (64*m) c] 1 (lk [(0,⟨false,cs⟩)]) (fun u out=>u=Ag (af .u32 8 (kd kW v f m))∧out=fun _=>none):=by
 refine av Tryz.func148 rfl (by kernel_rfl) (by simp[Tryz.ntmps148]) Tryz.JN (fun u hu=>by
  simp only[List.mem_cons,List.not_mem_nil,or_false]at hu
  rcases hu with rfl | rfl
  ·exact aC aw
  ·exact (by decide:0 < 1)) dG (dH hp) ?_
 have fO: ∀ {M:Nat→Prop},(∀ x ∈ cs,SV.ok M x)=True:=eq_true (aC hp)
 simp only[Tryz.results148,vR,seval, -List.reduceReplicate]
 refine aE m (fun k=>[(1,Sl 0 o (64*m) c),(2,Ptr 1 0),(4,Ptr 2 0),(5,I .i64 ((64*k:Nat):Int))])
  (fun k=>[(0,⟨false,cs⟩),(1,⟨true,af .u32 8 (kd kW v f k)⟩),(2,⟨true,af .u32 8 (fun _=>0)⟩)]) _ ?_ ?_ ?_
 ·simp only[fO,PW,kd,Nat.mul_zero,vR,seval, -List.reduceReplicate]
 ·intro k hk
  have l1:(((64*k:Nat):Int)≤((64*k+64:Nat):Int))=True:=eq_true (by omega)
  have l2:(((64*k+64:Nat):Int)≤(c:Int))=True:=eq_true (by omega)
  have w1:IntKind.i64.wrap (((64*k:Nat):Int)+64)=((64*k+64:Nat):Int):=by rw[wrap_i64 _ (by omega) (by omega)];omega
  have h4:(if c=64*k then o else o+64*k)=o+64*k:=if_neg (by omega)
  have h5:64*k+64 - 64*k=64:=by omega
  have z8: ∀ r r':Nat→Int,splice (af .u32 8 r') 0 (af .u32 8 r)=af .u32 8 r:=fun r r'=>du .u32 8 _ _
  have ee:(fun i=>IntKind.u32.wrap (kd kW v f k i+rounds kW (kd kW v f k) (vO (fun i=>f (64*k+i))) 64 i))=kd kW v f (k+1):=rfl
  simp only[vR,seval, -List.reduceReplicate]
  refine az (by simp;omega) ?_
  simp only[w1,l1,l2,h4,h5,aW,Nat.mul_one,vR,seval, -List.reduceReplicate]
  refine ⟨by kernel_rfl, ?_⟩
  refine (MQ (f:=fun i=>f (64*k+i)) (fun i=>hf _) (jM hc (64*k) 64 (by omega)) hp).cQ (fun _=>0) (bS (rw:=false) (by simp only[ae,vR,seval, -List.reduceReplicate]) hp) aw (by rfl) (fun M h n _=>h (Sl 0 (o+64*k) 64 (c - 64*k)) (List.Mem.head _)) ?_
  simp only[vR,seval, -List.reduceReplicate]
  refine cI.draw (B5 _ _ (FP hv k)) Tryz.JQ ?_
  rw[ee]
  simp only[z8,w1,fO,vR,seval, -List.reduceReplicate]
  exact congrArg (fun z:Nat=>some (I .i64 (z:Int))) (by omega)
 ·simp only[vR,seval, -List.reduceReplicate]
  refine aD (by simp) ?_
  simp only[vR,seval, -List.reduceReplicate]
  exact ak aw ⟨rfl,rfl⟩
theorem Uq {l j:Nat} (hl:l < 140737488355328) (hj:j < 8):iO (IntKind.u64.wrap (IntKind.u64.wrap (l:Int)*8)) j=sc l j:=by
 rw[au (l:Int) (by omega) (by omega),au _ (by omega) (by omega)]
 have e:(56 - 8*(j:Int))=((56 - 8*j:Nat):Int):=by omega
 simp only[iO,sc]
 rw[e,ez .u64 _ _ (show 56 - 8*j≤IntKind.u64.bits by simp only[IntKind.bits];omega),wrap_u8]
 simp
theorem Ur {n o c l:Nat} {f:Nat→Int} {cs:List SV} (hc:aZ cs o n f) (hp:cs.all SV.plain=true) (hn:n < 64) (hl:l < 140737488355328) (Yl:l%64=n):
  bf Tryz.prog 149 [Sl 0 o n c,I .i64 l] 1 (lk [(0,⟨false,cs⟩)]) (Made 1 (64*(blocks l - l / 64)) (fun i=>kE (fun j=>f (j - l / 64*64)) l (l / 64*64+i))):=by
 refine av Tryz.func149 rfl (by kernel_rfl) (by simp[Tryz.ntmps149]) Tryz.JO (by simp[AV.ok,CV.ok,SV.names]) dG (dH hp) ?_
 have fO: ∀ {M:Nat→Prop},(∀ x ∈ cs,SV.ok M x)=True:=eq_true (aC hp)
 simp only[Tryz.results149,vR,seval, -List.reduceReplicate]
 try refine ⟨by decide, ?_⟩
 have hz:bK (af .u8 128 (fun _=>0)) 0 0 128 (fun _=>0):=⟨by rw[ah],by decide,aw,fun i hi=>by omega⟩
 refine bp (f:=fun _=>0) (g:=f) Tryz.bP Tryz.bR (by simp only[ae,vR,seval, -List.reduceReplicate]) hz (.inr ⟨0,o,c,false,cs,rfl,by simp only[ae,vR,seval, -List.reduceReplicate],hc,by decide⟩) (by omega) ?_
 intro c1 kk fM
 simp only[Nat.zero_add,vR,seval, -List.reduceReplicate]
 refine bp (g:=fun _=>128) Tryz.bP Tryz.bR (by simp only[ae,Nat.zero_add,vR,seval, -List.reduceReplicate]) (fM.congr (m:=n) (g:=f) (by omega) (fun i hi=>by simp only[aP];rw[if_neg (by omega),Nat.sub_zero])) (.inr ⟨9,0,1,true,[Sum.inl (.int .u8 128)],rfl,by simp only[ae,eG,vR,seval, -List.reduceReplicate],b9,by decide⟩) (by omega) ?_
 intro c2 mD gI
 simp only[vR,seval, -List.reduceReplicate]
 have hE:64*(blocks l - l / 64)=if n < 56 then 64 else 128:=by
  simp only[blocks];split<;>omega
 generalize 64*(blocks l - l / 64)=E at*
 have hE1:n+9≤E∧E≤128:=by split at hE<;>omega
 have hF: ∀ i,i < E→kE (fun j=>f (j - l / 64*64)) l (l / 64*64+i)=aP (E - 8) (aP n f (aP 1 (fun _=>128) (fun _=>0))) (fun j=>sc l j) i:=fun i hi=>by
  have hb:64*blocks l - 8=l / 64*64+(E - 8):=by simp only[blocks];split at hE<;>omega
  simp only[kE,aP,hb]
  by_cases h1:i < n
  ·rw[if_pos (by omega),if_pos (by omega),if_pos h1,show l / 64*64+i - l / 64*64=i by omega]
  ·rw[if_neg (by omega)]
   by_cases h2:i=n
   ·rw[if_pos (by omega),if_pos (by omega),if_neg h1,if_pos (by omega)]
   ·rw[if_neg (by omega)]
    by_cases h3:i < E - 8
    ·rw[if_pos (by omega),if_pos h3,if_neg h1,if_neg (by omega)]
    ·rw[if_neg (by omega),if_neg h3,show l / 64*64+i - (l / 64*64+(E - 8))=i - (E - 8) by omega]
 refine ox (β:=Nat×List SV) (E - 8 - (n+1)) (fun k y=>bK y.2 0 (n+1+k) y.1 (aP n f (aP 1 (fun _=>128) (fun _=>0))))
  (fun k y=>[(1,I .i64 l),(5,Sl 30 0 (n+1+k) y.1)]) (fun k y=>[(30,⟨true,y.2⟩)]) 31 (c2,mD) ?_ ?_ ?_ (by show 12≤31;decide)
 ·refine ⟨gI.congr rfl fun i hi=> ?_,30,10, ?_⟩
  ·simp only[aP];split
   ·rfl
   ·rw[if_pos (by omega)]
  ·simp only[eP,iS,eF,lE,mL,gI.plain,true_or,vR,seval, -List.reduceReplicate]
   simp
 ·rintro k ⟨c',cs'⟩ hk h1
  simp only at h1
  have hr:=LV (n+1+k) 64
  rw[show ((64:Nat):Int)=64 from rfl]at hr
  have hne:(n+1+k)%64≠56:=by split at hE<;>omega
  simp only[hr,vR,seval, -List.reduceReplicate]
  refine az (by simp;omega) ?_
  simp only[vR,seval, -List.reduceReplicate]
  refine bp (g:=fun _=>0) Tryz.bP Tryz.bR (by simp only[ae,vR,seval, -List.reduceReplicate]) h1 (.inr ⟨_,_,_,true,[Sum.inl (.int .u8 0)],rfl,by simp only[ae,eG,vR,seval, -List.reduceReplicate],b9,by decide⟩) (by omega) ?_
  intro c3 xP nu
  simp only[vR,seval, -List.reduceReplicate]
  refine ⟨(c3,xP),nu.congr (by omega) fun i hi=> ?_,30,37, ?_⟩
  ·by_cases h:i < n+1+k
   ·simp only[aP,if_pos h]
   ·simp only[aP];rw[if_neg h,if_neg (by omega),if_neg (by omega)]
  ·simp only[eP,iS,eF,lE,mL,nu.plain,true_or,vR,seval, -List.reduceReplicate]
   simp[Nat.add_assoc]
 ·rintro ⟨c',cs'⟩ h1
  simp only at h1
  have hr:=LV (n+1+(E - 8 - (n+1))) 64
  rw[show ((64:Nat):Int)=64 from rfl]at hr
  have hne:(n+1+(E - 8 - (n+1)))%64=56:=by split at hE<;>omega
  simp only[hr,vR,seval, -List.reduceReplicate]
  refine aD (by rw[hne];rfl) ?_
  simp only[vR,seval, -List.reduceReplicate]
  refine vM (J0 h1 (by omega)) (t:=30) (by simp only[ae,vR,seval, -List.reduceReplicate]) h1.plain rfl ?_
  intro c3 xP nu
  simp only[vR,seval, -List.reduceReplicate]
  have aey: ∀ i,i < E→aP (n+1+(E - 8 - (n+1))) (aP n f (aP 1 (fun _=>128) (fun _=>0))) (iO (IntKind.u64.wrap (IntKind.u64.wrap (l:Int)*8))) i=kE (fun j=>f (j - l / 64*64)) l (l / 64*64+i):=fun i hi=>by
   rw[hF i hi]
   simp only[aP]
   by_cases h:i < E - 8
   ·rw[if_pos (by omega),if_pos h]
   ·rw[if_neg (by omega),if_neg h,show n+1+(E - 8 - (n+1))=E - 8 by omega,Uq hl (by omega)]
  exact fF (k:=1) (by decide) (nu.congr rfl fun i hi=>aey i (by omega)) (by simp only[ae,vR,seval, -List.reduceReplicate]) (by omega)
theorem J1 {n o c:Nat} {f:Nat→Int} {cs:List SV} (hf:br f) (hc:aZ cs o n f) (hp:cs.all SV.plain=true) (hn:n < 140737488355328) (hcap:n≤c):
  bf Tryz.prog 132 [Sl 0 o n c] 1 (lk [(0,⟨false,cs⟩)]) (fun u out=>u=Ag (af .u8 32 (ke kW cj f n))∧out=fun _=>none):=by
 refine av Tryz.func132 rfl (by kernel_rfl) (by simp[Tryz.ntmps132]) Tryz.qS (by simp[AV.ok,CV.ok,SV.names]) dG (dH hp) ?_
 have fO: ∀ {M:Nat→Prop},(∀ x ∈ cs,SV.ok M x)=True:=eq_true (aC hp)
 have hr:=LV n 64
 rw[show ((64:Nat):Int)=64 from rfl]at hr
 have w1:IntKind.i64.wrap ((n:Int) - ((n%64:Nat):Int))=((64*(n / 64):Nat):Int):=by rw[wrap_i64 _ (by omega) (by omega)];omega
 have l1:(((64*(n / 64):Nat):Int)≤(c:Int))=True:=eq_true (by omega)
 have l2:(((64*(n / 64):Nat):Int)≤(n:Int))=True:=eq_true (by omega)
 have l3:((n:Int)≤(c:Int))=True:=eq_true (by omega)
 simp only[Tryz.results132,hr,w1,l1,l2,l3,aW,vS,seval, -List.reduceReplicate]
 have ivE:[Sum.inl (Value.int IntKind.u32 1779033703),Sum.inl (Value.int IntKind.u32 3144134277),Sum.inl (Value.int IntKind.u32 1013904242),Sum.inl (Value.int IntKind.u32 2773480762),Sum.inl (Value.int IntKind.u32 1359893119),Sum.inl (Value.int IntKind.u32 2600822924),Sum.inl (Value.int IntKind.u32 528734635),Sum.inl (Value.int IntKind.u32 1541459225)]=af .u32 8 cj:=rfl
 have z8: ∀ r r':Nat→Int,splice (af .u32 8 r') 0 (af .u32 8 r)=af .u32 8 r:=fun r r'=>du .u32 8 _ _
 refine ⟨rF _ _ _,by kernel_rfl, ?_⟩
 simp only[ivE,Int.toNat_natCast]
 refine (B6 (c:=c) (m:=n / 64) L6 hf (mM hc (by omega)) (by omega) (by omega) hp).cQ (fun _=>0) (bS (rw:=false) (by simp only[ae,vR,seval, -List.reduceReplicate]) hp) aw (by rfl) (fun M h _ _=>h (Sl 0 o (64*(n / 64)) c) (List.Mem.tail _ (List.Mem.head _))) ?_
 have hsh: ∀ o',(o'=o+64*(n / 64)∨c=64*(n / 64))→aZ cs o' (n - 64*(n / 64)) (fun i=>f (64*(n / 64)+i)):=fun o' h=>by
  rcases h with rfl | h
  ·exact jM hc _ _ (by omega)
  ·intro i hi;omega
 have ho:(if c=64*(n / 64) then o else o+64*(n / 64))=o+64*(n / 64)∨c=64*(n / 64):=by
  split
  ·exact .inr ‹_›
  ·exact .inl rfl
 have hs:=hsh _ ho
 simp only[z8,l1,l2,l3,aW,Nat.mul_one,vR,seval, -List.reduceReplicate]
 generalize (if c=64*(n / 64) then o else o+64*(n / 64))=o' at hs ⊢
 have w2:IntKind.i64.wrap ((n:Nat):Int)=(n:Int):=O' n (by omega)
 refine ⟨by kernel_rfl, ?_⟩
 refine rI (Ur (c:=c - 64*(n / 64)) (l:=n) hs hp (by omega) (by omega) (by omega)) (fun _=>0) (bS (rw:=false) (by simp only[ae,vR,seval, -List.reduceReplicate]) hp) rfl (fun M h _ _=>h (Sl 0 o' _ _) (List.Mem.head _)) (by kernel_rfl) ?_
 intro c1 eU h1 h2 h3
 simp only[vR,seval, -List.reduceReplicate]
 have hB:blocks n - n / 64+n / 64=blocks n:=by simp only[blocks];omega
 have nT:64*(blocks n - n / 64)≤128:=by simp only[blocks];omega
 have wg:br (fun i=>kE (fun j=>f (64*(n / 64)+(j - n / 64*64))) n (n / 64*64+i)):=fun i=>IQ (fun j=>hf _) n _
 refine (B6 (o:=0) (c:=c1) (m:=blocks n - n / 64) (FP L6 _) wg dg h1 (by omega) (cD h3)).cQ (fun _=>24) (bS (rw:=true) (by simp only[ae,vR,seval, -List.reduceReplicate]) (cD h3)) aw (by rfl) (fun M h _ _=>h (Sl 24 0 (64*(blocks n - n / 64)) c1) (List.Mem.tail _ (List.Mem.head _))) ?_
 have eA:kd kW (kd kW cj f (n / 64)) (fun i=>kE (fun j=>f (64*(n / 64)+(j - n / 64*64))) n (n / 64*64+i)) (blocks n - n / 64)=kd kW cj (kE f n) (blocks n):=by
  have h1:kd kW cj f (n / 64)=kd kW cj (kE f n) (n / 64):=xD _ fun i hi=>by simp only[kE];rw[if_pos (by omega)]
  have h2:=IP kW cj (kE f n) (n / 64) (blocks n - n / 64)
  rw[show n / 64+(blocks n - n / 64)=blocks n by omega]at h2
  rw[h2,h1]
  refine xD _ fun i hi=> ?_
  simp only[kE]
  rw[show n / 64*64+i=64*(n / 64)+i by omega,show 64*(n / 64)+(64*(n / 64)+i - n / 64*64)=64*(n / 64)+i by omega]
 rw[eA]
 simp only[z8,vR,seval, -List.reduceReplicate]
 refine (Gj _).ax ?_
 simp only[vR,seval, -List.reduceReplicate]
 exact ak aw ⟨rfl,rfl⟩
theorem zd {s:AS} {nm t o n c:Nat} {rw:Bool} {f:Nat→Int} {cs:List SV} (hf:br f) (hb:s.box t=some ⟨rw,cs⟩) (hc:aZ cs o n f) (hp:cs.all SV.plain=true) (hn:n < 140737488355328) (hcap:n≤c) {dst:Option Nat} {K:AS→Prop}
  (hk:K (s.put dst (some (Ag (af .u8 32 (ke kW cj f n)))))):ax Tryz.prog nm 132 (some [Sl t o n c]) dst K s:=
 (J1 hf hc hp hn hcap).cW (fun _=>t) (bS hb hp) aw rfl hk
theorem J2 {s:AS} {nm t o n c:Nat} {rw:Bool} {f:Nat→Int} {cs:List SV} (hf:br f) (hb:s.box t=some ⟨rw,cs⟩) (hc:aZ cs o n f) (hp:cs.all SV.plain=true) (hn:n < 140737488355328) (hcap:n≤c) {ops:Array Oper} {i:Nat} {dst:Option Nat} {K:AS→Prop}
  (hk:K (s.put dst (some (Ag (af .u8 32 (ke kW cj f n)))))):ov Tryz.prog ops i nm 132 (some [Sl t o n c]) dst K s:=
 (J1 hf hc hp hn hcap).cQ (fun _=>t) (bS hb hp) aw rfl (fun M h _ _=>h (Sl t o n c) (List.Mem.head _)) hk
def Roomy (n:Nat) (v:AV) (out:Nat→Option aN):Prop:=(n=0∧v=V (.slice none 0 0)∧out=fun _=>none)∨(0 < n∧ ∃ c cs,v=Sl 0 0 0 c∧out=lk [(0,⟨true,cs⟩)]∧bK cs 0 0 c (fun _=>0))
theorem Zy {n:Nat} (hn:n≤140737488355328):bf Tryz.prog 151 [V (.slice none 0 0),I .i64 n] 0 (fun _=>none) (Roomy n):=by
 refine av Tryz.func151 rfl (by kernel_rfl) (by simp[Tryz.ntmps151]) Tryz.qZ (by simp[AV.ok,CV.ok,SV.names]) tq tu ?_
 have w0:IntKind.i64.wrap 0=0:=rfl
 have w1:IntKind.i64.wrap ((n:Int) - 0)=(n:Int):=by rw[wrap_i64 _ (by omega) (by omega)];omega
 simp only[Tryz.results151,vR,seval]
 refine aD (by simp) ?_
 simp only[vR,seval]
 refine Bg Tryz.bR ?_
 simp only[w0,w1,Int.sub_self,vR,seval]
 rcases Nat.eq_zero_or_pos n with rfl | hpos
 ·refine aD (by simp) ?_
  simp only[vR,seval]
  exact ⟨0,V (.slice none 0 0),fun _=>none,Nat.le_refl _,rfl,trivial,fun n b hb=>(by cases hb), .inl ⟨rfl,rfl,rfl⟩⟩
 ·refine az (by simp;omega) ?_
  simp only[vR,seval]
  refine Bg Tryz.bR ?_
  simp only[Int.toNat_zero,Nat.sub_self,vR,seval]
  refine FN (kn:= .i64) Tryz.bP Tryz.Jw hpos hn ?_
  intro c cs hg
  simp only[aW,QQ hg.room,vR,seval]
  refine dV (k:=0) (q:=18) (cs:=cs) (by decide) (by simp only[ae,vR,seval]) hg.plain (.inr ⟨hpos,c,cs,rfl,rfl, ?_⟩)
  exact ⟨hg.len,Nat.zero_le _,hg.plain,fun i hi=>by omega⟩
def kl (n:Nat→Nat):Nat→Nat
 | 0=>0
 | j+1=>kl n j+n j
def Ca (n:Nat→Nat) (f:Nat→Nat→Int):Nat→Nat→Int
 | 0=>fun _=>0
 | j+1=>aP (kl n j) (Ca n f j) (f j)
theorem xQ (n:Nat→Nat) {j m:Nat} (h:j≤m):kl n j≤kl n m:=by
 induction m with
 | zero=>rw[show j=0 by omega];exact Nat.le_refl _
 | succ m ih=>
  by_cases e:j=m+1
  ·rw[e];exact Nat.le_refl _
  ·have:=ih (by omega);simp only[kl];omega
structure J3 (l:List (Nat×aN)) (cs0:List SV) (k o m:Nat) (n:Nat→Nat) (f:Nat→Nat→Int):Prop where
 ro: ∀ x ∈ l,x.2.rw=false
 all: ∀ i,i < k→ ∃ b,lk l i=some b
 qn: ∀ x ∈ l,x.1 < k∧lk l x.1=some x.2∧ ∀ y ∈ x.2.cells,SV.ok (fun n=>n < k) y
 zero:lk l 0=some ⟨false,cs0⟩
 part: ∀ j,j < m→ ∃ sv,cs0[o+j]? =some sv∧bG (lk l) (.inl (.inl sv)) (n j) (f j)
theorem Ri {box:Nat→Option aN} {v:AV} {n:Nat} {f:Nat→Int} (h:bG box v n f):gR 1 (some [v])=some (some (I .i64 n),none):=by
 rcases h with ⟨⟨a,rfl⟩,rfl⟩ | ⟨t,o,c,rw,cs,rfl,_⟩<;>rfl
theorem Us {l:List (Nat×aN)} {cs0:List SV} {k o m c:Nat} {n:Nat→Nat} {f:Nat→Nat→Int} (hl:J3 l cs0 k o m n f) (hk:0 < k) (hk2:k≤20) (hm:m < 4611686018427387904) (hN:kl n m≤140737488355328):
  bf Tryz.prog 134 [Sl 0 o m c] k (lk l) (Bytes k (kl n m) (Ca n f m)):=by
 refine av Tryz.func134 rfl (by kernel_rfl) (by simp[Tryz.ntmps134]) Tryz.qU (by simp[AV.ok,CV.ok,SV.names];exact hk) hl.all (fun i b hb=>⟨(hl.qn _ (bu _ _ _ hb)).1,(hl.qn _ (bu _ _ _ hb)).2.2⟩) ?_
 have hz:=hl.zero
 have hin: ∀ (next:Nat),k≤next→ ∀ p ∈ l,lk l p.1=some p.2∧p.1 < next∧ ∀ x ∈ p.2.cells,SV.ok (fun n=>n < next) x:=fun next hn p hp=>⟨(hl.qn p hp).2.1,by have:=(hl.qn p hp).1;omega,fun y hy=>SV.bm (fun n h=>by omega) ((hl.qn p hp).2.2 y hy)⟩
 simp only[Tryz.results134,vR,seval]
 refine aE m (fun j=>[(0,Sl 0 o m c),(3,I .i64 (kl n j)),(9,Sl 0 o m c),(10,I .i64 m),(11,I .i64 j)]) (fun j=>l) _ ?_ ?_ ?_
 ·simp only[kl,vR,seval]
  exact ⟨by omega,hin _ (by omega)⟩
 ·intro j hj
  obtain ⟨sv,h1,h2⟩:=hl.part j hj
  have hlen:=Ri h2
  have hmono:=xQ n (show j+1≤m by omega)
  simp only[kl]at hmono
  have wa:=Es (kl n j) (n j) (by omega)
  simp only[vR,seval]
  refine az (by simp;omega) ?_
  simp only[aW,cF hj,hz,Nat.mul_one,h1,hlen,wa,bt j (by omega),vR,seval]
  refine aD (by simp;omega) ?_
  simp only[kl,bt j (by omega),vR,seval]
  exact ⟨by omega,hin _ (by omega)⟩
 ·simp only[vR,seval]
  refine aD (by simp) ?_
  simp only[vR,seval]
  refine (Zy hN).ax (fun n=>n) none gF rfl ?_
  rintro v out (⟨h0,rfl,rfl⟩ | ⟨hpos,c0,kk,rfl,rfl,hg⟩) _
  ·have hn0: ∀ j,j < m→n j=0:=fun j hj=>by
    have:=xQ n (show j+1≤m by omega);simp only[kl]at this;omega
   simp only[after,mL,vR,seval]
   refine aE m (fun j=>[(6,V (.slice none 0 0)),(25,Sl 0 o m c),(26,I .i64 m),(27,I .i64 j)]) (fun j=>l) _ ?_ ?_ ?_
   ·simp only[vR,seval]
    exact ⟨⟨trivial,by omega⟩,hin _ (by omega)⟩
   ·intro j hj
    obtain ⟨sv,h1,h2⟩:=hl.part j hj
    simp only[vR,seval]
    refine az (by simp;omega) ?_
    simp only[aW,cF hj,hz,Nat.mul_one,h1,bt j (by omega),vR,seval]
    refine iM (m:=n j) (g:=f j) Tryz.bP Tryz.bR h2 (by rw[hn0 j hj];decide) (fun _=> ?_) (fun h=>by rw[hn0 j hj]at h;exact absurd h (by decide))
    simp only[bt j (by omega),vR,seval]
    exact ⟨⟨trivial,by omega⟩,hin _ (by omega)⟩
   ·simp only[vR,seval]
    refine aD (by simp) ?_
    simp only[vR,seval]
    exact ⟨k,V (.slice none 0 0),fun _=>none,Nat.le_refl _,rfl,trivial,fun n b hb=>(by cases hb), .inl ⟨h0,rfl,rfl⟩⟩
  ·rw[fN hg.plain]
   simp only[eF,gT,vR,seval]
   refine ox (β:=Nat×List SV) m (fun j y=>bK y.2 0 (kl n j) y.1 (Ca n f j))
    (fun j y=>[(6,Sl 60 0 (kl n j) y.1),(25,Sl 0 o m c),(26,I .i64 m),(27,I .i64 j)]) (fun j y=>(60,⟨true,y.2⟩)::l) 61 (c0,kk) ?_ ?_ ?_ ?_
   ·refine ⟨hg,60,k+1+1+3+1+1,yO (k:=k) (by show _≤60;simp only;omega) (by decide) (by simp only;omega) (by omega) ?_ ?_ hg.plain hl.qn (fun t ht=> ?_)⟩
    ·simp only[iS,eF,kl,vR,seval]
    ·simp only[ay]
    ·exact bj _ _ _ _ (by omega)
   ·rintro j ⟨c',cs'⟩ hj h1'
    obtain ⟨sv,h1,h2⟩:=hl.part j hj
    have hmono:=xQ n (show j+1≤m by omega)
    simp only[kl]at hmono
    have hoff:oy (oZ [(6,Sl 60 0 (kl n j) c'),(25,Sl 0 o m c),(26,I .i64 m),(27,I .i64 j)] ((60,⟨true,cs'⟩)::l) 61).box 60 (.inl (.inl sv)) (n j) (f j):=by
     rcases h2 with h | ⟨t,o1,c1,rw1,ds,e1,e2,_,e4⟩
     ·exact .inl h
     ·have ht:t < k:=(hl.qn _ (bu _ _ _ e2)).1
      refine .inr ⟨t,o1,c1,rw1,ds,e1, ?_,e4,by omega⟩
      show (if t=60 then _ else lk l t)=_
      rw[if_neg (by omega)];exact e2
    simp only at h1'
    simp only[vR,seval]
    refine az (by simp;omega) ?_
    simp only[aW,cF hj,hz,Nat.mul_one,h1,bt j (by omega),vR,seval]
    refine bp (b:=60) (g:=f j) Tryz.bP Tryz.bR (by simp only[ae,vR,seval]) h1' (by exact hoff) (by omega) ?_
    intro c2 mD gI
    simp only[bt j (by omega),vR,seval]
    refine ⟨(c2,mD),gI,60,67,yO (k:=k) (by omega) (by decide) (by omega) (by omega) ?_ ?_ gI.plain hl.qn (fun t ht=> ?_)⟩
    ·simp only[iS,eF,kl,vR,seval]
    ·simp only[ay]
    ·simp only[upd,vR,seval]
     rw[if_neg (by omega),if_neg (by omega),if_neg (by omega)]
   ·rintro ⟨c',cs'⟩ h1'
    simp only at h1'
    simp only[vR,seval]
    refine aD (by simp) ?_
    simp only[vR,seval]
    refine dV (k:=k) (q:=60) (by omega) (by simp only[vR,seval]) h1'.plain (.inr h1'.made)
   ·simp only;omega
theorem J4 {n o c:Nat} {f:Nat→Int} {cs:List SV} {x:Int} (hf:br f) (hc:aZ cs o n f) (hp:cs.all SV.plain=true) (hn:n < 140737488355328) (hcap:n≤c):
    bf Tryz.prog 133 [Sl 0 o n c,I .u8 x] 1 (lk [(0,⟨false,cs⟩)]) (Be 1 64 (fG kW cj f n x)):=by
  refine av Tryz.func133 rfl (by kernel_rfl) (by simp[Tryz.ntmps133]) Tryz.qT (by simp[AV.ok,CV.ok,SV.names]) dG (dH hp) ?_
  have fO: ∀ {M:Nat→Prop},(∀ x ∈ cs,SV.ok M x)=True:=eq_true (aC hp)
  simp only[Tryz.results133,vR,Value.oneCell',Nat.reduceAdd,Nat.reduceMul,Nat.reduceSub,Nat.reduceLT,Nat.reduceLeDiff,Nat.reduceEqDiff,Int.reduceLE,Int.reduceLT,Int.reduceToNat,Int.reduceNe,Int.reduceEq,Nat.reduceBEq,Nat.reduceDiv,Int.reduceAdd,Int.reduceSub,reduceIte,↓reduceIte,reduceCtorEq]
  refine ⟨by decide, ?_⟩
  by_cases h:64 < n
  have hk: ∀ i,iw kW cj f n i=if i < 32 then ke kW cj f n i else 0:=fun i=>by simp only[iw,gt_iff_lt,if_pos h]
  refine az (by simp;omega) ?_
  simp only[vR,Value.oneCell',Nat.reduceAdd,Nat.reduceMul,Nat.reduceSub,Nat.reduceLT,Nat.reduceLeDiff,Nat.reduceEqDiff,Int.reduceLE,Int.reduceLT,Int.reduceToNat,Int.reduceNe,Int.reduceEq,Nat.reduceBEq,Nat.reduceDiv,Int.reduceAdd,Int.reduceSub,reduceIte,↓reduceIte,reduceCtorEq]
  refine zd (rw:=false) hf (by simp only[ae,vR,Value.oneCell',Nat.reduceAdd,Nat.reduceMul,Nat.reduceSub,Nat.reduceLT,Nat.reduceLeDiff,Nat.reduceEqDiff,Int.reduceLE,Int.reduceLT,Int.reduceToNat,Int.reduceNe,Int.reduceEq,Nat.reduceBEq,Nat.reduceDiv,Int.reduceAdd,Int.reduceSub,reduceIte,↓reduceIte,reduceCtorEq]) hc hp hn hcap ?_
  simp only[vR,Value.oneCell',Nat.reduceAdd,Nat.reduceMul,Nat.reduceSub,Nat.reduceLT,Nat.reduceLeDiff,Nat.reduceEqDiff,Int.reduceLE,Int.reduceLT,Int.reduceToNat,Int.reduceNe,Int.reduceEq,Nat.reduceBEq,Nat.reduceDiv,Int.reduceAdd,Int.reduceSub,reduceIte,↓reduceIte,reduceCtorEq]
  refine vG Tryz.bP Tryz.bR (cs:=af .u8 64 (fun _=>0)) (bx:=⟨true,af .u8 32 (ke kW cj f n)⟩) (news:=af .u8 32 (ke kW cj f n)) (by simp only[ae,vR,Value.oneCell',Nat.reduceAdd,Nat.reduceMul,Nat.reduceSub,Nat.reduceLT,Nat.reduceLeDiff,Nat.reduceEqDiff,Int.reduceLE,Int.reduceLT,Int.reduceToNat,Int.reduceNe,Int.reduceEq,Nat.reduceBEq,Nat.reduceDiv,Int.reduceAdd,Int.reduceSub,reduceIte,↓reduceIte,reduceCtorEq]) (by simp only[ae,vR,Value.oneCell',Nat.reduceAdd,Nat.reduceMul,Nat.reduceSub,Nat.reduceLT,Nat.reduceLeDiff,Nat.reduceEqDiff,Int.reduceLE,Int.reduceLT,Int.reduceToNat,Int.reduceNe,Int.reduceEq,Nat.reduceBEq,Nat.reduceDiv,Int.reduceAdd,Int.reduceSub,reduceIte,↓reduceIte,reduceCtorEq]) (by rw[ah];rfl) (fun j u h=>by simpa using h) (by rw[ah];decide) ?_
  rw[mK .u8 64 32 0 _ _ (by decide)]
  simp only[vR,Value.oneCell',Nat.reduceAdd,Nat.reduceMul,Nat.reduceSub,Nat.reduceLT,Nat.reduceLeDiff,Nat.reduceEqDiff,Int.reduceLE,Int.reduceLT,Int.reduceToNat,Int.reduceNe,Int.reduceEq,Nat.reduceBEq,Nat.reduceDiv,Int.reduceAdd,Int.reduceSub,reduceIte,↓reduceIte,reduceCtorEq]
  rotate_left 1
  have hk: ∀ i,i < 64→iw kW cj f n i=if i < n then f i else 0:=fun i hi=>by simp only[iw,gt_iff_lt,if_neg h]
  have ab2:Nat.min n 64=n:=Nat.min_eq_left (by omega)
  refine aD (by simp;omega) ?_
  simp only[vR,Value.oneCell',Nat.reduceAdd,Nat.reduceMul,Nat.reduceSub,Nat.reduceLT,Nat.reduceLeDiff,Nat.reduceEqDiff,Int.reduceLE,Int.reduceLT,Int.reduceToNat,Int.reduceNe,Int.reduceEq,Nat.reduceBEq,Nat.reduceDiv,Int.reduceAdd,Int.reduceSub,reduceIte,↓reduceIte,reduceCtorEq]
  refine vG Tryz.bP Tryz.bR (cs:=af .u8 64 (fun _=>0)) (bx:=⟨false,cs⟩) (news:=af .u8 n f) (by simp only[ae,vR,Value.oneCell',Nat.reduceAdd,Nat.reduceMul,Nat.reduceSub,Nat.reduceLT,Nat.reduceLeDiff,Nat.reduceEqDiff,Int.reduceLE,Int.reduceLT,Int.reduceToNat,Int.reduceNe,Int.reduceEq,Nat.reduceBEq,Nat.reduceDiv,Int.reduceAdd,Int.reduceSub,reduceIte,↓reduceIte,reduceCtorEq]) (by simp only[ae,vR,Value.oneCell',Nat.reduceAdd,Nat.reduceMul,Nat.reduceSub,Nat.reduceLT,Nat.reduceLeDiff,Nat.reduceEqDiff,Int.reduceLE,Int.reduceLT,Int.reduceToNat,Int.reduceNe,Int.reduceEq,Nat.reduceBEq,Nat.reduceDiv,Int.reduceAdd,Int.reduceSub,reduceIte,↓reduceIte,reduceCtorEq]) (by rw[ah];exact ab2.symm) (fu hc) (by rw[ab2,ah];omega) ?_
  rw[mK .u8 64 n 0 _ _ (by omega)]
  simp only[vR,Value.oneCell',Nat.reduceAdd,Nat.reduceMul,Nat.reduceSub,Nat.reduceLT,Nat.reduceLeDiff,Nat.reduceEqDiff,Int.reduceLE,Int.reduceLT,Int.reduceToNat,Int.reduceNe,Int.reduceEq,Nat.reduceBEq,Nat.reduceDiv,Int.reduceAdd,Int.reduceSub,reduceIte,↓reduceIte,reduceCtorEq]
  all_goals
    refine aE 64 (fun k=>[(1,I .u8 x),(5,Sl 2 0 64 64),(21,I .i64 64),(22,I .i64 k)])
      (fun k=>[(2,⟨true,af .u8 64 (fun i=>if i < k then fG kW cj f n x i else iw kW cj f n i)⟩)]) _ ?_ ?_ ?_
  all_goals first
    | (simp only[vK,vR,Value.oneCell',Nat.reduceAdd,Nat.reduceMul,Nat.reduceSub,Nat.reduceLT,Nat.reduceLeDiff,Nat.reduceEqDiff,Int.reduceLE,Int.reduceLT,Int.reduceToNat,Int.reduceNe,Int.reduceEq,Nat.reduceBEq,Nat.reduceDiv,Int.reduceAdd,Int.reduceSub,reduceIte,↓reduceIte,reduceCtorEq]
       refine congrArg (fun c=>some (aN.mk true c)) (aX fun i hi=> ?_)
       rw[hk i hi]
       simp)
    | (simp only[vK,vR,Value.oneCell',Nat.reduceAdd,Nat.reduceMul,Nat.reduceSub,Nat.reduceLT,Nat.reduceLeDiff,Nat.reduceEqDiff,Int.reduceLE,Int.reduceLT,Int.reduceToNat,Int.reduceNe,Int.reduceEq,Nat.reduceBEq,Nat.reduceDiv,Int.reduceAdd,Int.reduceSub,reduceIte,↓reduceIte,reduceCtorEq]
       refine congrArg (fun c=>some (aN.mk true c)) (aX fun i hi=> ?_)
       rw[hk i]
       simp)
    | (intro k hk'
       have a3:((k:Int) < 64)=True:=bX (m:=64) hk'
       have hfk:(if k < k then fG kW cj f n x k else iw kW cj f n k)=iw kW cj f n k:=if_neg (Nat.lt_irrefl k)
       have hpk:aU .xor .u8 (iw kW cj f n k) x=fG kW cj f n x k:=rfl
       simp only[vR,Value.oneCell',Nat.reduceAdd,Nat.reduceMul,Nat.reduceSub,Nat.reduceLT,Nat.reduceLeDiff,Nat.reduceEqDiff,Int.reduceLE,Int.reduceLT,Int.reduceToNat,Int.reduceNe,Int.reduceEq,Nat.reduceBEq,Nat.reduceDiv,Int.reduceAdd,Int.reduceSub,reduceIte,↓reduceIte,reduceCtorEq]
       refine az (by simp;omega) ?_
       simp only[a3,aW,aA .u8 64 _ k hk',hfk,hpk,Nat.mul_one,aB .u8 64 _ k hk',fV,bt k (by omega),vR,Value.oneCell',Nat.reduceAdd,Nat.reduceMul,Nat.reduceSub,Nat.reduceLT,Nat.reduceLeDiff,Nat.reduceEqDiff,Int.reduceLE,Int.reduceLT,Int.reduceToNat,Int.reduceNe,Int.reduceEq,Nat.reduceBEq,Nat.reduceDiv,Int.reduceAdd,Int.reduceSub,reduceIte,↓reduceIte,reduceCtorEq]
       omega)
    | (simp only[vR,Value.oneCell',Nat.reduceAdd,Nat.reduceMul,Nat.reduceSub,Nat.reduceLT,Nat.reduceLeDiff,Nat.reduceEqDiff,Int.reduceLE,Int.reduceLT,Int.reduceToNat,Int.reduceNe,Int.reduceEq,Nat.reduceBEq,Nat.reduceDiv,Int.reduceAdd,Int.reduceSub,reduceIte,↓reduceIte,reduceCtorEq]
       refine aD (by simp) ?_
       simp only[dL,vR,Value.oneCell',Nat.reduceAdd,Nat.reduceMul,Nat.reduceSub,Nat.reduceLT,Nat.reduceLeDiff,Nat.reduceEqDiff,Int.reduceLE,Int.reduceLT,Int.reduceToNat,Int.reduceNe,Int.reduceEq,Nat.reduceBEq,Nat.reduceDiv,Int.reduceAdd,Int.reduceSub,reduceIte,↓reduceIte,reduceCtorEq]
       exact dV (k:=1) (cs:=af .u8 64 (fG kW cj f n x)) (by decide) (by simp only[ae,dL,vR,Value.oneCell',Nat.reduceAdd,Nat.reduceMul,Nat.reduceSub,Nat.reduceLT,Nat.reduceLeDiff,Nat.reduceEqDiff,Int.reduceLE,Int.reduceLT,Int.reduceToNat,Int.reduceNe,Int.reduceEq,Nat.reduceBEq,Nat.reduceDiv,Int.reduceAdd,Int.reduceSub,reduceIte,↓reduceIte,reduceCtorEq]) aw ⟨rfl,rfl⟩)
theorem Ut (x:SV):SV.aI (fun n=>n) x=x:=SV.xp x
theorem Wx {s:AS} {l:List (Nat×aN)} {k:Nat} (hro: ∀ x ∈ l,x.2.rw=false) (hin: ∀ x ∈ l,x.1 < k) (hs: ∀ t,t < k→s.box t=lk l t):Fits s (fun n=>n) (lk l) none:=by
  refine ⟨fun n b hb=>⟨b, ?_,fun h=>h, ?_⟩,fun n n' b b' _ _ _ e=>e,fun n b hb hrw=> ?_,fun n hn=>(by cases hn)⟩
  · rw[hs n (hin _ (bu _ _ _ hb))];exact hb
  · have h1:(fun x:SV=>SV.aI (fun n=>n) x)=id:=funext Ut
    show b.cells=b.cells.map (fun x:SV=>SV.aI (fun n=>n) x)
    rw[h1,List.map_id]
  · have:=hro _ (bu _ _ _ hb)
    simp only at this
    rw[this]at hrw;cases hrw
theorem J5 {n:Nat→Nat} {f:Nat→Nat→Int} {m:Nat} (h: ∀ j,j < m→br (f j)): ∀ j,j≤m→br (Ca n f j)
  | 0,_=>fun i=>⟨Int.le_refl 0,by show (0:Int) < 256;decide⟩
  | j+1,hj=>fH (J5 h j (by omega)) (h j (by omega))
theorem Uu {l:List (Nat×aN)} {cs0 ze:List SV} {k o m c tk ok nk ck:Nat} {n:Nat→Nat} {f:Nat→Nat→Int} {key:Nat→Int} (hl:J3 l cs0 k o m n f) (hk:0 < k) (hk2:k≤20) (hm:m < 4611686018427387904) (hN:kl n m < 100000000)
    (hf: ∀ j,j < m→br (f j)) (htk:lk l tk=some ⟨false,ze⟩) (hp:ze.all SV.plain=true) (hkey:aZ ze ok nk key) (Lj:br key) (hnk:nk < 100000000) (Si:nk≤ck):
    bf Tryz.prog 119 [Sl tk ok nk ck,Sl 0 o m c] k (lk l) (fun v out=>v=Ag (af .u8 32 (gx kW cj key nk (Ca n f m) (kl n m)))∧out=fun _=>none):=by
  have ab3:tk < k:=(hl.qn _ (bu _ _ _ htk)).1
  refine av Tryz.func119 rfl (by kernel_rfl) (by simp[Tryz.ntmps119]) Tryz.qP (fun u hu=>by
    simp only[List.mem_cons,List.not_mem_nil,or_false]at hu
    rcases hu with rfl | rfl
    · exact ab3
    · exact hk) hl.all (fun i b hb=>⟨(hl.qn _ (bu _ _ _ hb)).1,(hl.qn _ (bu _ _ _ hb)).2.2⟩) ?_
  have hin: ∀ x ∈ l,x.1 < k:=fun x hx=>(hl.qn x hx).1
  simp only[Tryz.results119,vR,Value.oneCell',Nat.reduceAdd,Nat.reduceMul,Nat.reduceSub,Nat.reduceLT,Nat.reduceLeDiff,Nat.reduceEqDiff,Int.reduceLE,Int.reduceLT,Int.reduceToNat,Int.reduceNe,Int.reduceEq,Nat.reduceBEq,Nat.reduceDiv,Int.reduceAdd,Int.reduceSub,reduceIte,↓reduceIte,reduceCtorEq]
  refine kL (J4 (x:=54) Lj hkey hp (by omega) Si) (fun _=>tk) (bS (rw:=false) (by simp only[upd];rw[if_neg (by omega)];exact htk) hp) rfl ?_
  simp only[vR,Value.oneCell',Nat.reduceAdd,Nat.reduceMul,Nat.reduceSub,Nat.reduceLT,Nat.reduceLeDiff,Nat.reduceEqDiff,Int.reduceLE,Int.reduceLT,Int.reduceToNat,Int.reduceNe,Int.reduceEq,Nat.reduceBEq,Nat.reduceDiv,Int.reduceAdd,Int.reduceSub,reduceIte,↓reduceIte,reduceCtorEq]
  have hG1:bK (af .u8 64 (fG kW cj key nk 54)) 0 64 64 (fG kW cj key nk 54):=⟨by rw[ah],by decide,aw,aV⟩
  refine LX (Us hl hk hk2 hm (by omega)) (fun n=>n) (Wx hl.ro hin (fun t ht=>by simp only[upd];rw[if_neg (by omega),if_neg (by omega)])) rfl ?_
  intro x IB hx hoff _
  have qC:IB (k+1+1)=some ⟨true,af .u8 64 (fG kW cj key nk 54)⟩:=by rw[hx _ (by omega)];simp only[ay]
  have hbt: ∀ t,t < k→IB t=lk l t:=fun t ht=>by
    rw[hx _ (by omega)];simp only[upd];rw[if_neg (by omega),if_neg (by omega)]
  simp only[vR,Value.oneCell',Nat.reduceAdd,Nat.reduceMul,Nat.reduceSub,Nat.reduceLT,Nat.reduceLeDiff,Nat.reduceEqDiff,Int.reduceLE,Int.reduceLT,Int.reduceToNat,Int.reduceNe,Int.reduceEq,Nat.reduceBEq,Nat.reduceDiv,Int.reduceAdd,Int.reduceSub,reduceIte,↓reduceIte,reduceCtorEq]
  refine bp (g:=Ca n f m) Tryz.bP Tryz.bR qC hG1 (hoff _ (by omega)) (by omega) ?_
  intro c2 mD gI
  simp only[vR,Value.oneCell',Nat.reduceAdd,Nat.reduceMul,Nat.reduceSub,Nat.reduceLT,Nat.reduceLeDiff,Nat.reduceEqDiff,Int.reduceLE,Int.reduceLT,Int.reduceToNat,Int.reduceNe,Int.reduceEq,Nat.reduceBEq,Nat.reduceDiv,Int.reduceAdd,Int.reduceSub,reduceIte,↓reduceIte,reduceCtorEq]
  refine zd (rw:=true) (fH (vU _ _ _ _ _) (J5 hf m (Nat.le_refl _))) (by simp only[ay]) gI.shows gI.plain (by omega) gI.room ?_
  simp only[vR,Value.oneCell',Nat.reduceAdd,Nat.reduceMul,Nat.reduceSub,Nat.reduceLT,Nat.reduceLeDiff,Nat.reduceEqDiff,Int.reduceLE,Int.reduceLT,Int.reduceToNat,Int.reduceNe,Int.reduceEq,Nat.reduceBEq,Nat.reduceDiv,Int.reduceAdd,Int.reduceSub,reduceIte,↓reduceIte,reduceCtorEq]
  refine ⟨by kernel_rfl, ?_⟩
  refine LY (J4 (x:=92) Lj hkey hp (by omega) Si) (fun _=>tk) (bS (rw:=false) (by simp only[upd];rw[if_neg (by omega),if_neg (by omega),if_neg (by omega),if_neg (by omega),hbt tk ab3];exact htk) hp) rfl (fun M h _ _=>h (Sl tk ok nk ck) (List.Mem.head _)) ?_
  have hG3:bK (af .u8 64 (fG kW cj key nk 92)) 0 64 64 (fG kW cj key nk 92):=⟨by rw[ah],by decide,aw,aV⟩
  simp only[vR,Value.oneCell',Nat.reduceAdd,Nat.reduceMul,Nat.reduceSub,Nat.reduceLT,Nat.reduceLeDiff,Nat.reduceEqDiff,Int.reduceLE,Int.reduceLT,Int.reduceToNat,Int.reduceNe,Int.reduceEq,Nat.reduceBEq,Nat.reduceDiv,Int.reduceAdd,Int.reduceSub,reduceIte,↓reduceIte,reduceCtorEq]
  refine ⟨by kernel_rfl, ?_⟩
  refine bp (g:=ke kW cj (aP 64 (fG kW cj key nk 54) (Ca n f m)) (64+kl n m)) Tryz.bP Tryz.bR (by simp only[ay]) hG3
    (.inr ⟨_,_,_,true,af .u8 32 (ke kW cj (aP 64 (fG kW cj key nk 54) (Ca n f m)) (64+kl n m)),rfl,(by simp only[upd];rw[if_neg (by omega)];exact if_pos trivial),aV,by omega⟩) (by decide) ?_
  intro c4 C0 rR
  simp only[vR,Value.oneCell',Nat.reduceAdd,Nat.reduceMul,Nat.reduceSub,Nat.reduceLT,Nat.reduceLeDiff,Nat.reduceEqDiff,Int.reduceLE,Int.reduceLT,Int.reduceToNat,Int.reduceNe,Int.reduceEq,Nat.reduceBEq,Nat.reduceDiv,Int.reduceAdd,Int.reduceSub,reduceIte,↓reduceIte,reduceCtorEq]
  refine J2 (rw:=true) (fH (vU _ _ _ _ _) (vT _ _ _ _)) (by simp only[ay]) rR.shows rR.plain (by decide) rR.room ?_
  simp only[vR,Value.oneCell',Nat.reduceAdd,Nat.reduceMul,Nat.reduceSub,Nat.reduceLT,Nat.reduceLeDiff,Nat.reduceEqDiff,Int.reduceLE,Int.reduceLT,Int.reduceToNat,Int.reduceNe,Int.reduceEq,Nat.reduceBEq,Nat.reduceDiv,Int.reduceAdd,Int.reduceSub,reduceIte,↓reduceIte,reduceCtorEq]
  have hbk:IB k=some ⟨true,af .u8 32 (fun _=>0)⟩:=by rw[hx _ (by omega)];simp only[upd];rw[if_neg (by omega)];exact if_pos trivial
  rw[if_neg (by omega),if_neg (by omega),if_neg (by omega),if_neg (by omega),if_neg (by omega),if_neg (by omega),if_neg (by omega),hbk]
  simp only[vR,Value.oneCell',Nat.reduceAdd,Nat.reduceMul,Nat.reduceSub,Nat.reduceLT,Nat.reduceLeDiff,Nat.reduceEqDiff,Int.reduceLE,Int.reduceLT,Int.reduceToNat,Int.reduceNe,Int.reduceEq,Nat.reduceBEq,Nat.reduceDiv,Int.reduceAdd,Int.reduceSub,reduceIte,↓reduceIte,reduceCtorEq]
  exact ak aw ⟨rfl,rfl⟩
theorem rk {box:Nat→Option aN} {sv:SV} {n tk:Nat} {f:Nat→Int} {MS:Bool} {ze:List SV} (h:bG box (.inl (.inl sv)) n f) (hk:box tk=some ⟨MS,ze⟩) (hkp:ze.all SV.plain=true):
  ∃ (t:Nat) (rw:Bool) (cs:List SV) (w:Nat→SV),box t=some ⟨rw,cs⟩∧cs.all SV.plain=true∧(∀ (r:Nat→Nat) j,r j=t→SV.aI r (w j)=sv)∧
   (∀ (bx:Nat→Option aN) j,bx j=some ⟨false,cs⟩→bG bx (.inl (.inl (w j))) n f)∧(∀ (M:Nat→Prop) j,M j→SV.ok M (w j))∧(∀ M:Nat→Prop,AV.ok M (.inl (.inl sv))→(t=tk∨M t)):=by
 rcases h with ⟨⟨a,e⟩,rfl⟩ | ⟨t,o,c,rw,cs,e,hb,hp,hs⟩
 ·cases e
  exact ⟨tk,MS,ze,fun _=> .inl (.slice a 0 0),hk,hkp,fun _ _ _=>rfl,fun _ _ _=> .inl ⟨⟨a,rfl⟩,rfl⟩,fun _ _ _=>⟨trivial,rfl⟩,fun _ _=> .inl rfl⟩
 ·cases e
  refine ⟨t,rw,cs,fun j=> .inr (.inr (j,o,n,c)),hb,hp,fun r j e=> ?_,fun bx j e=> .inr ⟨j,o,c,false,cs,rfl,e,hp,hs⟩,fun M j h=>⟨h,rfl⟩,fun M h=> .inr h⟩
  show SV.aI r (Sum.inr (Sum.inr (j,o,n,c)))=_
  simp only[SV.aI,jI,e]
def five (a b c d e:Nat):Nat→Nat
 | 0=>a
 | 1=>b
 | 2=>c
 | 3=>d
 | _=>e
theorem rS {s:AS} {nm t0 tk ok nk ck o c:Nat} {Sj MS:Bool} {a0 a1 a2:SV} {ze:List SV} {n0 n1 n2:Nat} {f0 f1 f2 key:Nat→Int} (h0:s.box t0=some ⟨Sj,[a0,a1,a2]⟩) (ho:o=0)
  (p0:bG s.box (.inl (.inl a0)) n0 f0) (p1:bG s.box (.inl (.inl a1)) n1 f1) (p2:bG s.box (.inl (.inl a2)) n2 f2) (b0:br f0) (b1:br f1) (b2:br f2)
  (hk:s.box tk=some ⟨MS,ze⟩) (hkp:ze.all SV.plain=true) (hkey:aZ ze ok nk key) (Lj:br key) (hnk:nk < 100000000) (Si:nk≤ck) (hN:n0+n1+n2 < 100000000) {dst:Option Nat} {K:AS→Prop}
  (hK:K (s.put dst (some (Ag (af .u8 32 (gx kW cj key nk (aP (n0+n1) (aP n0 f0 f1) f2) (n0+n1+n2))))))):ax Tryz.prog nm 119 (some [Sl tk ok nk ck,Sl t0 o 3 c]) dst K s:=by
 subst ho
 obtain ⟨u0,r0,c0,w0,e0,q0,g0,i0,k0,_⟩:=rk p0 hk hkp
 obtain ⟨u1,r1,c1,w1,e1,q1,g1,i1,k1,_⟩:=rk p1 hk hkp
 obtain ⟨u2,r2,c2,w2,e2,q2,g2,i2,k2,_⟩:=rk p2 hk hkp
 let l:List (Nat×aN):=[(0,⟨false,[w0 2,w1 3,w2 4]⟩),(1,⟨false,ze⟩),(2,⟨false,c0⟩),(3,⟨false,c1⟩),(4,⟨false,c2⟩)]
 let nn:Nat→Nat:=fun j=>if j=0 then n0 else if j=1 then n1 else n2
 let ff:Nat→Nat→Int:=fun j=>if j=0 then f0 else if j=1 then f1 else f2
 have hl:J3 l [w0 2,w1 3,w2 4] 5 0 3 nn ff:=by
  refine ⟨fun x hx=> ?_,fun i hi=> ?_,fun x hx=> ?_,rfl,fun j hj=> ?_⟩
  ·simp only[l,List.mem_cons,List.not_mem_nil,or_false]at hx
   rcases hx with rfl | rfl | rfl | rfl | rfl<;>rfl
  ·have:i=0∨i=1∨i=2∨i=3∨i=4:=by omega
   rcases this with rfl | rfl | rfl | rfl | rfl<;>exact ⟨_,rfl⟩
  ·simp only[l,List.mem_cons,List.not_mem_nil,or_false]at hx
   rcases hx with rfl | rfl | rfl | rfl | rfl
   ·refine ⟨show (0:Nat) < 5 by decide,rfl,fun y hy=> ?_⟩
    simp only[List.mem_cons,List.not_mem_nil,or_false]at hy
    rcases hy with rfl | rfl | rfl
    ·exact k0 _ _ (by decide)
    ·exact k1 _ _ (by decide)
    ·exact k2 _ _ (by decide)
   ·exact ⟨show (1:Nat) < 5 by decide,rfl,aC hkp⟩
   ·exact ⟨show (2:Nat) < 5 by decide,rfl,aC q0⟩
   ·exact ⟨show (3:Nat) < 5 by decide,rfl,aC q1⟩
   ·exact ⟨show (4:Nat) < 5 by decide,rfl,aC q2⟩
  ·have:j=0∨j=1∨j=2:=by omega
   rcases this with rfl | rfl | rfl
   ·exact ⟨_,rfl,i0 _ 2 rfl⟩
   ·exact ⟨_,rfl,i1 _ 3 rfl⟩
   ·exact ⟨_,rfl,i2 _ 4 rfl⟩
 have hfit:Fits s (five t0 tk u0 u1 u2) (lk l) none:=by
  refine ⟨fun n b hb=> ?_,fun n n' b b' hb hrw=> ?_,fun n b hb hrw=> ?_,fun n hn=>(by cases hn)⟩
  ·have:=bu _ _ _ hb
   simp only[l,List.mem_cons,List.not_mem_nil,or_false,Prod.mk.injEq]at this
   rcases this with ⟨rfl,rfl⟩ | ⟨rfl,rfl⟩ | ⟨rfl,rfl⟩ | ⟨rfl,rfl⟩ | ⟨rfl,rfl⟩
   ·refine ⟨_,h0,fun e=>(by cases e), ?_⟩
    simp only[List.map_cons,List.map_nil]
    rw[g0 _ 2 rfl,g1 _ 3 rfl,g2 _ 4 rfl]
   ·exact ⟨_,hk,fun e=>(by cases e),(aQ hkp _).symm⟩
   ·exact ⟨_,e0,fun e=>(by cases e),(aQ q0 _).symm⟩
   ·exact ⟨_,e1,fun e=>(by cases e),(aQ q1 _).symm⟩
   ·exact ⟨_,e2,fun e=>(by cases e),(aQ q2 _).symm⟩
  all_goals
   have:=hl.ro _ (bu _ _ _ hb)
   simp only at this
   rw[this]at hrw;cases hrw
 have hb: ∀ j,j < 3→br (ff j):=fun j hj=>by
  have:j=0∨j=1∨j=2:=by omega
  rcases this with rfl | rfl | rfl
  ·exact b0
  ·exact b1
  ·exact b2
 have J6:=Uu (c:=c) (tk:=1) (ok:=ok) (nk:=nk) (ck:=ck) (key:=key) hl (by decide) (by decide) (by decide) (by show 0+n0+n1+n2 < _;omega) hb rfl hkp hkey Lj hnk Si
 have Uv:gx kW cj key nk (Ca nn ff 3) (kl nn 3)=gx kW cj key nk (aP (n0+n1) (aP n0 f0 f1) f2) (n0+n1+n2):=by
  have e1:kl nn 3=n0+n1+n2:=by show 0+n0+n1+n2=_;omega
  rw[e1]
  refine kM (fun _ _=>rfl) fun i hi=> ?_
  show aP (0+n0+n1) (aP (0+n0) (aP 0 (fun _=>0) f0) f1) f2 i=_
  rw[Nat.zero_add]
  simp only[aP]
  split
  ·split
   ·rw[if_neg (by omega),Nat.sub_zero]
   ·rfl
  ·rfl
 rw[Uv]at J6
 exact J6.cW (five t0 tk u0 u1 u2) hfit aw rfl hK
theorem E3 (x:Int):0≤IntKind.u8.wrap x∧IntKind.u8.wrap x < 256:=by rw[wrap_u8];omega
theorem Ym (x:Int):IntKind.u8.wrap (IntKind.u8.wrap x+1)=IntKind.u8.wrap (x+1):=by simp only[wrap_u8];omega
theorem Gk {v:Value} {a b c:SV}:splice (splice (splice (jx [v] 3) 0 [a]) 1 [b]) 2 [c]=[a,b,c]:=rfl
theorem rl {K V p info:Nat→Int} {m k i:Nat} (h:i < 32):jk K V p info m (32*k+i)=sd K V p info m (k+1) i:=by
 simp only[jk];rw[show (32*k+i) / 32=k by omega,show (32*k+i)%32=i by omega]
def Rj (k c:Nat):AV:=if k=0 then V (.slice none 0 0) else Sl 30 0 (32*k) c
def E5 (k:Nat):AV:=if k=0 then V (.slice none 0 0) else Sl 31 0 32 32
def uL (k:Nat) (cs:List SV) (T:Nat→Int):List (Nat×aN):=if k=0 then [] else [(30,⟨true,cs⟩),(31,⟨true,af .u8 32 T⟩)]
theorem J7 {o m c n:Nat} {p info:Nat→Int} {cs:List SV} (wg:br p) (CU:br info) (hc:aZ cs o m info) (hp:cs.all SV.plain=true) (hm:m < 10000000) (hn:n≤8160):
  bf Tryz.prog 118 [Ag (af .u8 32 p),Sl 0 o m c,I .i64 n] 1 (lk [(0,⟨false,cs⟩)]) (Bytes 1 n (jk kW cj p info m)):=by
 refine av Tryz.func118 rfl (by kernel_rfl) (by simp[Tryz.ntmps118]) Tryz.qO (fun u hu=>by
  simp only[List.mem_cons,List.not_mem_nil,or_false]at hu
  rcases hu with rfl | rfl | rfl
  ·exact aC aw
  ·exact (by decide:0 < 1)
  ·trivial) dG (dH hp) ?_
 have fO: ∀ {M:Nat→Prop},(∀ x ∈ cs,SV.ok M x)=True:=eq_true (aC hp)
 simp only[Tryz.results118,vR,seval, -List.reduceReplicate]
 refine Ba (β:=Nat×List SV) ((n+31) / 32) (fun k y=>k=0∨bK y.2 0 (32*k) y.1 (jk kW cj p info m))
  (fun k y=>[(1,Sl 0 o m c),(2,I .i64 n),(3,Ptr 1 0),(7,Rj k y.1),(8,E5 k),(9,I .u8 (IntKind.u8.wrap ((k+1:Nat):Int)))])
  (fun k y=>[(0,⟨false,cs⟩),(1,⟨true,af .u8 32 p⟩)]++uL k y.2 (sd kW cj p info m k)) 32 (0,[]) ?_ ?_ ?_ ?_
 ·refine ⟨.inl rfl,fun n=>n,fun _ _=>rfl, ?_, ?_, ?_⟩
  ·simp only[Rj,E5,if_true,eF,iS,lE,mL,vR,seval, -List.reduceReplicate]
   simp
   exact ⟨trivial,rfl⟩
  ·simp only[uL,if_true,List.append_nil,mJ,hp,vR,seval, -List.reduceReplicate]
  ·simp only[uL,if_true,List.append_nil,vR,seval, -List.reduceReplicate]
   simp
 ·rintro k ⟨c',cs'⟩ hk hinv
  simp only at hinv
  by_cases vj:k=0
  ·subst vj
   have hn0:0 < n:=by omega
   simp only[Rj,E5,uL,if_true,List.append_nil,vR,seval, -List.reduceReplicate]
   refine az (by simp;omega) ?_
   simp only[vR,seval, -List.reduceReplicate]
   refine ⟨show 1≤3 by decide,show 2≤3 by decide,show 3≤3 by decide, ?_⟩
   refine rS (t0:=41) (tk:=1) (Sj:=true) (MS:=true) (ze:=af .u8 32 p) (key:=p) (n0:=0) (n1:=m) (n2:=1) (f0:=fun _=>0) (f1:=info) (f2:=fun _=>IntKind.u8.wrap ((0+1:Nat):Int)) (by simp only[ae,Gk,vR,seval, -List.reduceReplicate];rfl) rfl
    (.inl ⟨⟨_,rfl⟩,rfl⟩) (.inr ⟨0,o,c,false,cs,rfl,by simp only[ae,vR,seval, -List.reduceReplicate],hp,hc⟩) (.inr ⟨40,0,1,true,[Sum.inl (.int .u8 (IntKind.u8.wrap ((0+1:Nat):Int)))],rfl,by simp only[ae,eG,vR,seval, -List.reduceReplicate],rfl,b9⟩)
    (fun _=>⟨Int.le_refl 0,by show (0:Int) < 256;decide⟩) CU (fun _=>E3 _) (by simp only[ae,vR,seval, -List.reduceReplicate]) aw aV wg (by decide) (by decide) (by omega) ?_
   have hT:gx kW cj p 32 (aP (0+m) (aP 0 (fun _=>0) info) (fun _=>IntKind.u8.wrap ((0+1:Nat):Int))) (0+m+1)=sd kW cj p info m 1:=by
    show _=gx kW cj p 32 (aP m info (fun _=>1)) (0+(m+1))
    rw[show 0+(m+1)=0+m+1 by omega]
    refine kM (fun _ _=>rfl) fun i hi=> ?_
    simp only[aP,Nat.zero_add,Nat.not_lt_zero,if_false,Nat.sub_zero]
    rfl
   rw[hT]
   have hTb:=vV kW cj p info m 1
   generalize Sk:sd kW cj p info m 1=T at*
   simp only[vR,seval, -List.reduceReplicate]
   refine iM (m:=32) (g:=T) Tryz.bP Tryz.bR (.inr ⟨43,0,32,true,af .u8 32 T,rfl,by simp only[ae,vR,seval, -List.reduceReplicate],aw,aV⟩) (by decide) (fun h=>absurd h (by decide)) ?_
   intro _ c2 mD gI
   simp only[vR,seval, -List.reduceReplicate]
   refine ⟨(c2,mD), .inr (gI.congr (by omega) fun i hi=> ?_),fun x=>if x=30 then 49 else if x=31 then 43 else x,fun x hx=> ?_, ?_, ?_, ?_⟩
   ·have h:=rl (K:=kW) (V:=cj) (p:=p) (info:=info) (m:=m) (k:=0) hi
    rw[show 32*0+i=i by omega]at h
    rw[h];exact congrFun Sk.symm i
   ·simp only;rw[if_neg (by omega),if_neg (by omega)]
   ·simp only[eF,iS,lE,mL,Ym,vR,seval, -List.reduceReplicate]
   ·simp only[gI.plain,mJ,hp,vR,seval, -List.reduceReplicate]
   ·simp only[vR,seval, -List.reduceReplicate]
    simp
  ·simp only[Rj,E5,uL,if_neg vj,if_neg (Nat.succ_ne_zero k),List.cons_append,List.nil_append,vR,seval, -List.reduceReplicate]
   refine az (by simp;omega) ?_
   simp only[vR,seval, -List.reduceReplicate]
   refine ⟨show 1≤3 by decide,show 2≤3 by decide,show 3≤3 by decide, ?_⟩
   refine rS (t0:=41) (tk:=1) (Sj:=true) (MS:=true) (ze:=af .u8 32 p) (key:=p) (n0:=32) (n1:=m) (n2:=1) (f0:=sd kW cj p info m k) (f1:=info) (f2:=fun _=>IntKind.u8.wrap ((k+1:Nat):Int)) (by simp only[ae,Gk,vR,seval, -List.reduceReplicate]) rfl
    (.inr ⟨31,0,32,true,af .u8 32 (sd kW cj p info m k),rfl,by simp only[ae,vR,seval, -List.reduceReplicate],aw,aV⟩) (.inr ⟨0,o,c,false,cs,rfl,by simp only[ae,vR,seval, -List.reduceReplicate],hp,hc⟩) (.inr ⟨40,0,1,true,[Sum.inl (.int .u8 (IntKind.u8.wrap ((k+1:Nat):Int)))],rfl,by simp only[ae,eG,vR,seval, -List.reduceReplicate],rfl,b9⟩)
    (vV _ _ _ _ _ _) CU (fun _=>E3 _) (by simp only[ae,vR,seval, -List.reduceReplicate]) aw aV wg (by decide) (by decide) (by omega) ?_
   have hT:gx kW cj p 32 (aP (32+m) (aP 32 (sd kW cj p info m k) info) (fun _=>IntKind.u8.wrap ((k+1:Nat):Int))) (32+m+1)=sd kW cj p info m (k+1):=by
    show _=gx kW cj p 32 (if k=0 then _ else aP 32 (sd kW cj p info m k) (aP m info (fun _=>IntKind.u8.wrap ((k+1:Nat):Int)))) ((if k=0 then 0 else 32)+(m+1))
    rw[if_neg vj,if_neg vj,show 32+(m+1)=32+m+1 by omega]
    refine kM (fun _ _=>rfl) fun i hi=> ?_
    simp only[aP]
    by_cases h1:i < 32
    ·rw[if_pos (by omega),if_pos h1,if_pos h1]
    ·rw[if_neg h1,if_neg h1]
     by_cases h2:i < 32+m
     ·rw[if_pos h2,if_pos (by omega)]
     ·rw[if_neg h2,if_neg (by omega)]
   rw[hT]
   have hg:=hinv.resolve_left vj
   obtain ⟨T,Sk⟩: ∃ T,sd kW cj p info m (k+1)=T:=⟨_,rfl⟩
   rw[Sk]
   simp only[vR,seval, -List.reduceReplicate]
   refine bp (b:=30) (g:=T) Tryz.bP Tryz.bR (by simp only[ae,vR,seval, -List.reduceReplicate]) hg (.inr ⟨43,0,32,true,af .u8 32 T,rfl,by simp only[ae,vR,seval, -List.reduceReplicate],aV,by decide⟩) (by omega) ?_
   intro c2 mD gI
   simp only[vR,seval, -List.reduceReplicate]
   refine ⟨(c2,mD), .inr (gI.congr (by omega) fun i hi=> ?_),fun x=>if x=30 then 49 else if x=31 then 43 else x,fun x hx=> ?_, ?_, ?_, ?_⟩
   ·simp only[aP]
    split
    ·rfl
    ·have h:=rl (K:=kW) (V:=cj) (p:=p) (info:=info) (m:=m) (k:=k) (i:=i - 32*k) (by omega)
     rw[show 32*k+(i - 32*k)=i by omega]at h
     rw[h,Sk]
   ·simp only;rw[if_neg (by omega),if_neg (by omega)]
   ·simp only[eF,iS,lE,mL,Ym,vR,seval, -List.reduceReplicate]
    exact ⟨congrArg (fun z=>some (Sl 49 0 z c2)) (by omega),congrArg (fun z=>some (I .u8 (IntKind.u8.wrap z))) (by omega)⟩
   ·simp only[gI.plain,mJ,hp,vR,seval, -List.reduceReplicate]
   ·simp only[vR,seval, -List.reduceReplicate]
    simp
 ·rintro ⟨c',cs'⟩ hinv
  simp only at hinv
  by_cases vj:(n+31) / 32=0
  ·have hn0:n=0:=by omega
   subst hn0
   simp only[Rj,E5,uL,if_true,vj,List.append_nil,vR,seval, -List.reduceReplicate]
   refine aD (by simp) ?_
   simp only[vR,seval, -List.reduceReplicate]
   exact ⟨1,V (.slice none 0 0),fun _=>none,Nat.le_refl _,rfl,trivial,fun n b hb=>(by cases hb), .inl ⟨rfl,rfl,rfl⟩⟩
  ·have hg:=hinv.resolve_left vj
   have hr:=hg.room
   have l1:((n:Int)≤(c':Int))=True:=eq_true (by omega)
   simp only[Rj,E5,uL,if_neg vj,List.cons_append,List.nil_append,vR,seval, -List.reduceReplicate]
   refine aD (by simp;omega) ?_
   simp only[aW,l1,vR,seval, -List.reduceReplicate]
   exact dV (k:=1) (q:=30) (by decide) (by simp only[ae,vR,seval, -List.reduceReplicate]) hg.plain (.inr (bK.made ⟨hg.len,by omega,hg.plain,mM hg.shows (by omega)⟩))
 ·show 6≤32
  decide
def cH (x:Int) (j:Nat):Int:=IntKind.u8.wrap (cy .u32 x (24 - 8*(j:Int)))
theorem Rk (x:Int):cy .u32 x 0=x:=by
 have:=ez .u32 x 0 (by decide)
 simpa using this
theorem zO (x:Int):bf Tryz.prog 65 [I .u32 x] 0 (fun _=>none) (Be 0 4 (cH x)):=by
 refine av Tryz.func65 rfl (by kernel_rfl) (by simp[Tryz.ntmps65]) Tryz.pz (by simp[AV.ok,CV.ok,SV.names]) tq tu ?_
 simp only[Tryz.results65,vS,seval]
 have e3:IntKind.u8.wrap x=cH x 3:=by simp[cH,Rk]
 refine ⟨by decide,by decide,by decide,by decide, ?_⟩
 refine dV (k:=0) (q:=12) (cs:=af .u8 4 (cH x)) (by decide) ?_ aw ⟨rfl,rfl⟩
 rw[e3]
 simp only[ay]
 rfl
theorem Zz {l:Nat} (hl:l < 140737488355328):bf Tryz.prog 87 [I .u64 (IntKind.u64.wrap (IntKind.u64.wrap (l:Int)*8))] 0 (fun _=>none) (Made 0 8 (sc l)):=by
 refine av Tryz.func87 rfl (by kernel_rfl) (by simp[Tryz.ntmps87]) Tryz.pB (by simp[AV.ok,CV.ok,SV.names]) tq tu ?_
 simp only[Tryz.results87,vR,seval]
 have e4: ∀ x:Int,IntKind.u32.wrap x=x%4294967296:=wrap_u32
 refine kL (zO _) (fun n=>n) gF rfl ?_
 simp only[vR,seval]
 refine kL (zO _) (fun n=>n) gF rfl ?_
 simp only[vR,seval]
 refine bp (g:=cH (IntKind.u32.wrap (IntKind.u64.wrap (IntKind.u64.wrap (l:Int)*8)))) Tryz.bP Tryz.bR (f:=cH (IntKind.u32.wrap (cy .u64 (IntKind.u64.wrap (IntKind.u64.wrap (l:Int)*8)) 32))) (b:=4) (cs:=af .u8 4 (cH (IntKind.u32.wrap (cy .u64 (IntKind.u64.wrap (IntKind.u64.wrap (l:Int)*8)) 32)))) (by simp only[ae,vR,seval])
  ⟨by rw[ah],by decide,aw,aV⟩ (.inr ⟨9,0,4,true,af .u8 4 (cH (IntKind.u32.wrap (IntKind.u64.wrap (IntKind.u64.wrap (l:Int)*8)))),rfl,by simp only[ae,vR,seval],aV,by decide⟩) (by decide) ?_
 intro c2 mD gI
 simp only[vR,seval]
 refine fF (k:=0) (by decide) (gI.congr (m:=8) rfl fun i hi=> ?_) (by simp only[ae,vR,seval]) rfl
 have w1:IntKind.u64.wrap (IntKind.u64.wrap (l:Int)*8)=(l:Int)*8:=by rw[au (l:Int) (by omega) (by omega),au _ (by omega) (by omega)]
 have s32:cy .u64 ((l:Int)*8) 32=(l:Int)*8 / 4294967296:=ez .u64 _ 32 (by decide)
 rw[w1,s32]
 have V5: ∀ x:Int,cy .u32 x 24=x / 16777216:=fun x=>ez .u32 x 24 (by decide)
 have Ti: ∀ x:Int,cy .u32 x 16=x / 65536:=fun x=>ez .u32 x 16 (by decide)
 have s8: ∀ x:Int,cy .u32 x 8=x / 256:=fun x=>ez .u32 x 8 (by decide)
 have hc:i=0∨i=1∨i=2∨i=3∨i=4∨i=5∨i=6∨i=7:=by omega
 rcases hc with rfl | rfl | rfl | rfl | rfl | rfl | rfl | rfl
 ·show cH _ 0=_
  simp only[cH,sc]
  show IntKind.u8.wrap (cy .u32 _ 24)=((l*8 / 72057594037927936%256:Nat):Int)
  rw[V5,e4,wrap_u8];omega
 ·show cH _ 1=_
  simp only[cH,sc]
  show IntKind.u8.wrap (cy .u32 _ 16)=((l*8 / 281474976710656%256:Nat):Int)
  rw[Ti,e4,wrap_u8];omega
 ·show cH _ 2=_
  simp only[cH,sc]
  show IntKind.u8.wrap (cy .u32 _ 8)=((l*8 / 1099511627776%256:Nat):Int)
  rw[s8,e4,wrap_u8];omega
 ·show cH _ 3=_
  simp only[cH,sc]
  show IntKind.u8.wrap (cy .u32 _ 0)=((l*8 / 4294967296%256:Nat):Int)
  rw[Rk,e4,wrap_u8];omega
 ·show cH _ 0=_
  simp only[cH,sc]
  show IntKind.u8.wrap (cy .u32 _ 24)=((l*8 / 16777216%256:Nat):Int)
  rw[V5,e4,wrap_u8];omega
 ·show cH _ 1=_
  simp only[cH,sc]
  show IntKind.u8.wrap (cy .u32 _ 16)=((l*8 / 65536%256:Nat):Int)
  rw[Ti,e4,wrap_u8];omega
 ·show cH _ 2=_
  simp only[cH,sc]
  show IntKind.u8.wrap (cy .u32 _ 8)=((l*8 / 256%256:Nat):Int)
  rw[s8,e4,wrap_u8];omega
 ·show cH _ 3=_
  simp only[cH,sc]
  show IntKind.u8.wrap (cy .u32 _ 0)=((l*8 / 1%256:Nat):Int)
  rw[Rk,e4,wrap_u8];omega
end Go.Proofs.YtpnehhpadofcbaaGreatDoor
