/-
  Words of the hash in the program: turning, the schedule of a block.
-/
import Derived.Test.YtkaamnnjeandlaaDoorVcgFacts
import Derived.Test.YtkaamnnjeandlaaDoorVcgZ1
import Derived.Test.YtkaamnnjeandlaaDoorVcgWM
set_option maxHeartbeats 8000000
set_option maxRecDepth 20000
set_option linter.unusedSimpArgs false
set_option linter.unusedVariables false
set_option linter.unusedSectionVars false
namespace Go.Proofs.YtkaamnnjeandlaaDoor
open Go.bM
variable [aV]
theorem MH (x:Int) (n:Int) (h0:1≤n) (h1:n≤31):sM Tryd.prog 73 [I .u32 x,I .i64 (-n)] (I .u32 (uc x n)):=by
 have e:eK .and .u64 (IntKind.u64.wrap (-n)) 31=32 - n:=by
  rw[wrap_u64,show (31:Int)=2^5 - 1 from rfl,LR _ 5 (by omega) (by omega) (by decide)];omega
 have w:IntKind.u64.wrap (32 - (32 - n))=n:=by rw[wrap_u64];omega
 have c1:(0≤32 - n)=True:=eq_true (by omega)
 have c0:(0≤n)=True:=eq_true (by omega)
 refine fE Tryd.func73 rfl (by kernel_rfl) (by simp[Tryd.ntmps73]) rfl rfl ?_
 simp only[Tryd.results73,vS,seval, -List.reduceReplicate]
 simp only[e,w,c0,c1,vS,seval, -List.reduceReplicate]
 exact congrArg (I .u32) (L5 _ _ _)
theorem gT (x n:Int) (h0:1≤n) (h1:n≤31):sM Tryd.prog 72 [I .u32 x,I .i64 n] (I .u32 (uc x n)):=by
 have w:IntKind.i64.wrap (0 - n)= -n:=by rw[wrap_i64 _ (by omega) (by omega)];omega
 refine fE Tryd.func72 rfl (by kernel_rfl) (by simp[Tryd.ntmps72]) rfl rfl ?_
 simp only[Tryd.results72,vS,seval, -List.reduceReplicate]
 simp only[w,vS,seval, -List.reduceReplicate]
 refine (MH x n h0 h1).aB ?_
 simp only[vS,seval, -List.reduceReplicate]
theorem A9 (v:Nat→Int):sM Tryd.prog 68 [Ag (aA .u32 8 v)] (Ag (aA .u8 32 (AL v))):=by
 refine fE Tryd.func68 rfl (by kernel_rfl) (by simp[Tryd.ntmps68]) rfl rfl ?_
 simp only[Tryd.results68,vR,seval, -List.reduceReplicate]
 refine bY 32 (fun k=>[(2,Ptr 1 0),(1,Ptr 0 0),(3,Ptr 2 0),(5,I .i64 k)])
  (fun k=>[(0,⟨true,aA .u32 8 v⟩),(1,⟨true,aA .u8 32 (fun _=>0)⟩),(2,⟨true,aA .u8 32 (fun i=>if i < k then AL v i else 0)⟩)]) _ ?_ ?_ ?_
 ·simp only[Nat.not_lt_zero,if_false,vR,seval, -List.reduceReplicate]
 ·intro j hj
  have a1:(((j / 4:Nat):Int) < 8)=True:=by simp;omega
  have a3:((j:Int) < 32)=True:=AF (m:=32) hj
  have q:=OJ j 4 (by omega)
  have r:=LU j 4
  rw[show ((4:Nat):Int)=4 from rfl]at q r
  have w1:IntKind.i64.wrap (((j%4:Nat):Int)*8)=8*((j%4:Nat):Int):=by rw[wrap_i64 _ (by omega) (by omega)];omega
  have w2:IntKind.i64.wrap (24 - 8*((j%4:Nat):Int))=24 - 8*((j%4:Nat):Int):=wrap_i64 _ (by omega) (by omega)
  have a2:(0≤24 - 8*((j%4:Nat):Int))=True:=eq_true (by omega)
  have fin:aA .u8 32 (upd (fun i=>if i < j then AL v i else 0) j (AL v j))=aA .u8 32 (fun i=>if i < j+1 then AL v i else 0):=LV
  have eo:IntKind.u8.wrap (qS .u32 (v (j / 4)) (24 - 8*((j%4:Nat):Int)))=AL v j:=rfl
  simp only[vR,seval, -List.reduceReplicate]
  refine fh (by simp;omega) ?_
  simp only[q,r,w1,w2,a1,a2,a3,aE,bI .u32 8 v (j / 4) (by omega),Nat.mul_one,eo,fM .u8 32 _ j hj,fin,bQ j (by omega),vR,seval, -List.reduceReplicate]
  omega
 ·simp only[vR,seval, -List.reduceReplicate]
  refine cy (by simp) ?_
  simp only[HO,vR,seval, -List.reduceReplicate]
def MI (f:Nat→Int) (i t:Nat):Int:=if 4*t+4≤i then L7 f t else if 4*t≤i then q6 f t (i - 4*t) else 0
theorem MJ (f:Nat→Int): ∀ t,MI f 0 t=0:=fun t=>by
 simp only[MI];rw[if_neg (by omega)]
 split
 ·rw[show 0 - 4*t=0 by omega];rfl
 ·rfl
theorem RJ (f:Nat→Int) (i:Nat):MI f i (i / 4)=q6 f (i / 4) (i%4):=by
 simp only[MI];rw[if_neg (by omega),if_pos (by omega),show i - 4*(i / 4)=i%4 by omega]
theorem MK (f:Nat→Int) (i:Nat):upd (MI f i) (i / 4) (q6 f (i / 4) (i%4+1))=MI f (i+1):=by
 funext t
 simp only[upd]
 split
 ·rename_i e;subst e
  simp only[MI]
  by_cases h:4*(i / 4)+4≤i+1
  ·rw[if_pos h,show i%4+1=4 by omega];rfl
  ·rw[if_neg h,if_pos (by omega),show i+1 - 4*(i / 4)=i%4+1 by omega]
 ·rename_i e
  simp only[MI]
  by_cases h:4*t+4≤i
  ·rw[if_pos h,if_pos (by omega)]
  ·rw[if_neg h,if_neg (show ¬ 4*t≤i by omega),if_neg (show ¬ 4*t+4≤i+1 by omega)]
   by_cases h3:4*t≤i+1
   ·rw[if_pos h3,show i+1 - 4*t=0 by omega];rfl
   ·rw[if_neg h3]
theorem Pb (f:Nat→Int):aA .u32 64 (MI f 64)=aA .u32 64 (oc f 16):=c7 fun t ht=>by
 have: ∀ k,k≤16→oc f k t=if t < k then L7 f t else 0:=fun k=>by
  induction k with
  | zero=>intro _;rfl
  | succ k ih=>
   intro hk
   simp only[oc,upd]
   split
   ·rename_i e;subst e;rw[if_pos (by omega),if_pos (by omega)]
   ·rw[ih (by omega)]
    by_cases h:t < k
    ·rw[if_pos h,if_pos (by omega)]
    ·rw[if_neg h,if_neg (by omega)]
 rw[this 16 (Nat.le_refl _)]
 simp only[MI]
 by_cases h:t < 16
 ·rw[if_pos (by omega),if_pos h]
 ·rw[if_neg (by omega),if_neg h]
  split
  ·rw[show 64 - 4*t=0 by omega];rfl
  ·rfl
theorem Gf {f:Nat→Int} {o c:Nat} {cs:List SV} (hf:cU f) (hc:bu cs o 64 f) (hp:cs.all SV.plain=true):
  bC Tryd.prog 70 [Sl 0 o 64 c] 1 (lk [(0,⟨false,cs⟩)]) (fun v out=>v=Ag (aA .u32 64 (JM f))∧out=fun _=>none):=by
 refine aU Tryd.func70 rfl (by kernel_rfl) (by simp[Tryd.ntmps70]) Tryd.Gc (by simp[AV.ok,CV.ok,SV.names]) j0 (j5 hp) ?_
 have nJ: ∀ {M:Nat→Prop},(∀ x ∈ cs,SV.ok M x)=True:=eq_true (ai hp)
 simp only[Tryd.results70,vR,seval, -List.reduceReplicate]
 refine bY 64 (fun k=>[(2,Ptr 1 0),(3,Ptr 2 0),(9,Sl 0 o 64 c),(10,I .i64 64),(11,I .i64 k)])
  (fun k=>[(0,⟨false,cs⟩),(1,⟨true,aA .u32 64 (fun _=>0)⟩),(2,⟨true,aA .u32 64 (MI f k)⟩)]) _ ?_ ?_ ?_
 ·simp only[nJ,vR,seval, -List.reduceReplicate]
  exact congrArg (fun c=>some (aG.mk true c)) (c7 fun i _=>(MJ f i).symm)
 ·intro j hj
  have a1:(((j / 4:Nat):Int) < 64)=True:=by simp;omega
  have a3:((j:Int) < 64)=True:=AF (m:=64) hj
  have q:=OJ j 4 (by omega)
  rw[show ((4:Nat):Int)=4 from rfl]at q
  have st:=JL hf (j / 4) (j%4) (by omega)
  rw[show 4*(j / 4)+j%4=j by omega]at st
  simp only[vR,seval, -List.reduceReplicate]
  refine fh (by simp;omega) ?_
  simp only[q,a1,a3,aE,hc j hj,bI .u32 64 _ (j / 4) (show j / 4 < 64 by omega),RJ,st,Nat.mul_one,fM .u32 64 _ (j / 4) (show j / 4 < 64 by omega),MK,bQ j (by omega),vR,seval, -List.reduceReplicate]
  exact ⟨by omega,ai hp⟩
 ·simp only[vR,seval, -List.reduceReplicate]
  refine cy (by simp) ?_
  simp only[Pb,vR,seval, -List.reduceReplicate]
  refine bY 48 (fun k=>[(2,Ptr 1 0),(3,Ptr 2 0),(6,I .i64 ((16+k:Nat):Int))])
   (fun k=>[(1,⟨true,aA .u32 64 (fun _=>0)⟩),(2,⟨true,aA .u32 64 (oc f (16+k))⟩)]) _ ?_ ?_ ?_
  ·simp only[vR,seval, -List.reduceReplicate]
  ·intro k hk
   have TS:IntKind.i64.wrap (((16+k:Nat):Int) - 15)=((16+k - 15:Nat):Int):=by rw[wrap_i64 _ (by omega) (by omega)];omega
   have w2:IntKind.i64.wrap (((16+k:Nat):Int) - 2)=((16+k - 2:Nat):Int):=by rw[wrap_i64 _ (by omega) (by omega)];omega
   have w7:IntKind.i64.wrap (((16+k:Nat):Int) - 7)=((16+k - 7:Nat):Int):=by rw[wrap_i64 _ (by omega) (by omega)];omega
   have TT:IntKind.i64.wrap (((16+k:Nat):Int) - 16)=((16+k - 16:Nat):Int):=by rw[wrap_i64 _ (by omega) (by omega)];omega
   have TU:(((16+k - 15:Nat):Int) < 64)=True:=eq_true (by omega)
   have l2:(((16+k - 2:Nat):Int) < 64)=True:=eq_true (by omega)
   have l7:(((16+k - 7:Nat):Int) < 64)=True:=eq_true (by omega)
   have TV:(((16+k - 16:Nat):Int) < 64)=True:=eq_true (by omega)
   have l0:(((16+k:Nat):Int) < 64)=True:=eq_true (by omega)
   have g: ∀ i,i < 64→(aA .u32 64 (oc f (16+k)))[i]? =some (Sum.inl (.int .u32 (oc f (16+k) i))):=fun i hi=>bI .u32 64 _ i hi
   simp only[vR,seval, -List.reduceReplicate]
   refine fh (by simp;omega) ?_
   simp only[TS,w2,w7,TT,TU,l2,l7,TV,l0,aE,g _ (show 16+k - 15 < 64 by omega),g _ (show 16+k - 2 < 64 by omega),g _ (show 16+k - 7 < 64 by omega),g _ (show 16+k - 16 < 64 by omega),Nat.mul_one,vR,seval, -List.reduceReplicate]
   refine ⟨by kernel_rfl,sM.draw (gT _ 7 (by decide) (by decide)) Tryd.jg ?_⟩
   simp only[TS,w2,w7,TT,TU,l2,l7,TV,l0,aE,g _ (show 16+k - 15 < 64 by omega),g _ (show 16+k - 2 < 64 by omega),g _ (show 16+k - 7 < 64 by omega),g _ (show 16+k - 16 < 64 by omega),Nat.mul_one,vR,seval, -List.reduceReplicate]
   refine sM.draw (gT _ 18 (by decide) (by decide)) Tryd.jg ?_
   simp only[TS,w2,w7,TT,TU,l2,l7,TV,l0,aE,g _ (show 16+k - 15 < 64 by omega),g _ (show 16+k - 2 < 64 by omega),g _ (show 16+k - 7 < 64 by omega),g _ (show 16+k - 16 < 64 by omega),Nat.mul_one,vR,seval, -List.reduceReplicate]
   refine ⟨by kernel_rfl,sM.draw (gT _ 17 (by decide) (by decide)) Tryd.jg ?_⟩
   simp only[TS,w2,w7,TT,TU,l2,l7,TV,l0,aE,g _ (show 16+k - 15 < 64 by omega),g _ (show 16+k - 2 < 64 by omega),g _ (show 16+k - 7 < 64 by omega),g _ (show 16+k - 16 < 64 by omega),Nat.mul_one,vR,seval, -List.reduceReplicate]
   refine sM.draw (gT _ 19 (by decide) (by decide)) Tryd.jg ?_
   simp only[TS,w2,w7,TT,TU,l2,l7,TV,l0,aE,g _ (show 16+k - 15 < 64 by omega),g _ (show 16+k - 2 < 64 by omega),g _ (show 16+k - 7 < 64 by omega),g _ (show 16+k - 16 < 64 by omega),Nat.mul_one,vR,seval, -List.reduceReplicate]
   refine ⟨by kernel_rfl,by omega,congrArg (fun z=>some (I .i64 z)) (bQ (16+k) (by omega)), ?_⟩
   have e:oc f (16+(k+1))=upd (oc f (16+k)) (16+k) (Qp (oc f (16+k)) (16+k)):=by
    show upd (oc f (16+k)) (16+k) (if 16+k < 16 then _ else _)=_
    rw[if_neg (by omega)];rfl
   rw[e, ← fM .u32 64 _ _ (by omega)]
   rfl
  ·simp only[vR,seval, -List.reduceReplicate]
   refine cy (by simp) ?_
   simp only[vR,seval, -List.reduceReplicate]
   exact aL aD ⟨rfl,rfl⟩
theorem Qx:[Sum.inl (Value.int IntKind.u32 0),Sum.inl (Value.int IntKind.u32 0),Sum.inl (Value.int IntKind.u32 0),Sum.inl (Value.int IntKind.u32 0),Sum.inl (Value.int IntKind.u32 0),Sum.inl (Value.int IntKind.u32 0),Sum.inl (Value.int IntKind.u32 0),Sum.inl (Value.int IntKind.u32 0)]=aA .u32 8 (fun _=>0):=rfl
theorem wE (v w:Nat→Int) (hv:Od v):sM Tryd.prog 69 [Ag (aA .u32 8 v),Ag (aA .u32 64 w)] (Ag (aA .u32 8 (fun i=>IntKind.u32.wrap (v i+rounds kW v w 64 i)))):=by
 refine fE Tryd.func69 rfl (by kernel_rfl) (by simp[Tryd.ntmps69]) rfl rfl ?_
 have g: ∀ i,i < 8→(aA .u32 8 v)[i]? =some (Sum.inl (.int .u32 (v i))):=fun i hi=>bI .u32 8 _ i hi
 simp only[Tryd.results69,g 0 (by decide),g 1 (by decide),g 2 (by decide),g 3 (by decide),g 4 (by decide),g 5 (by decide),g 6 (by decide),g 7 (by decide),vR,seval, -List.reduceReplicate]
 refine ⟨by kernel_rfl,by kernel_rfl, ?_⟩
 refine bY 64 (fun k=>[(2,Ptr 0 0),(3,Ptr 1 0),(4,Ptr 2 0),(5,I .u32 (rounds kW v w k 0)),(6,I .u32 (rounds kW v w k 1)),(7,I .u32 (rounds kW v w k 2)),(8,I .u32 (rounds kW v w k 3)),(9,I .u32 (rounds kW v w k 4)),(10,I .u32 (rounds kW v w k 5)),(11,I .u32 (rounds kW v w k 6)),(12,I .u32 (rounds kW v w k 7)),(36,I .i64 k)])
  (fun k=>[(0,⟨true,aA .u32 8 v⟩),(1,⟨true,aA .u32 64 w⟩),(2,⟨true,aA .u32 8 (fun _=>0)⟩)]) _ ?_ ?_ ?_
 ·simp only[rounds,Qx,vR,seval, -List.reduceReplicate]
 ·intro k hk
  have hr:=zv (K:=kW) (w:=w) hv k
  have a3:((k:Int) < 64)=True:=AF (m:=64) hk
  have e: ∀ i,rounds kW v w (k+1) i=OO (rounds kW v w k) (kW k) (w k) i:=fun i=>rfl
  have n4:=OL _ (hr 4).1 (hr 4).2
  generalize rounds kW v w k=r at*
  simp only[vR,seval, -List.reduceReplicate]
  refine fh (by simp;omega) ?_
  simp only[a3,aE,bI .u32 64 w k hk,Nat.mul_one,vR,seval, -List.reduceReplicate]
  refine (gT _ 6 (by decide) (by decide)).aB ?_
  simp only[vR,seval, -List.reduceReplicate]
  refine (gT _ 11 (by decide) (by decide)).aB ?_
  simp only[vR,seval, -List.reduceReplicate]
  refine (gT _ 25 (by decide) (by decide)).aB ?_
  simp only[a3,aE,bI .u32 64 w k hk,bI .u32 64 kW k hk,Nat.mul_one,vR,seval, -List.reduceReplicate]
  refine ⟨by kernel_rfl, ?_⟩
  refine (gT _ 2 (by decide) (by decide)).aB ?_
  simp only[vR,seval, -List.reduceReplicate]
  refine (gT _ 13 (by decide) (by decide)).aB ?_
  simp only[vR,seval, -List.reduceReplicate]
  refine (gT _ 22 (by decide) (by decide)).aB ?_
  simp only[vR,seval, -List.reduceReplicate]
  have Wa:(if IntKind.u32.signed=true then -1 else IntKind.u32.max)=4294967295:=rfl
  simp only[e,bQ k (by omega),Wa,n4,and_true]
  exact ⟨rfl,rfl,rfl,rfl,rfl,rfl,rfl,rfl⟩
 ·simp only[vR,seval, -List.reduceReplicate]
  refine cy (by simp) ?_
  simp only[vS,seval, -List.reduceReplicate]
  generalize rounds kW v w 64=r at*
  refine bY 8 (fun k=>[(2,Ptr 0 0),(4,Ptr 2 0),(109,Ag (aA .u32 8 r)),(110,I .i64 k)])
   (fun k=>[(0,⟨true,aA .u32 8 (fun i=>if i < k then IntKind.u32.wrap (v i+r i) else v i)⟩),(2,⟨true,aA .u32 8 (fun _=>0)⟩)]) _ ?_ ?_ ?_
  ·simp only[LW,vR,seval, -List.reduceReplicate]
   rfl
  ·intro k hk
   have a3:((k:Int) < 8)=True:=AF (m:=8) hk
   have hf:(if k < k then IntKind.u32.wrap (v k+r k) else v k)=v k:=if_neg (Nat.lt_irrefl k)
   have fin:aA .u32 8 (upd (fun i=>if i < k then IntKind.u32.wrap (v i+r i) else v i) k (IntKind.u32.wrap (v k+r k)))=aA .u32 8 (fun i=>if i < k+1 then IntKind.u32.wrap (v i+r i) else v i):=JH (f:=fun i=>IntKind.u32.wrap (v i+r i))
   simp only[vR,seval, -List.reduceReplicate]
   refine fh (by simp;omega) ?_
   simp only[a3,aE,bI .u32 8 _ k hk,hf,Nat.mul_one,fM .u32 8 _ k hk,fin,bQ k (by omega),vR,seval, -List.reduceReplicate]
   omega
  ·simp only[vR,seval, -List.reduceReplicate]
   refine cy (by simp) ?_
   simp only[HO,vR,seval, -List.reduceReplicate]
def DS (x:Int) (j:Nat):Int:=IntKind.u8.wrap (qS .u64 x (56 - 8*(j:Int)))
theorem DT {n o c:Nat} {f:Nat→Int} {cs:List SV} {x:Int} (hg:eI cs o n c f) (hn:n+8≤140737488355328):
  bC Tryd.prog 71 [Sl 0 o n c,I .u64 x] 1 (lk [(0,⟨true,cs⟩)]) (Made 1 (n+8) (cN n f (DS x))):=by
 refine aU Tryd.func71 rfl (by kernel_rfl) (by simp[Tryd.ntmps71]) Tryd.qC (by simp[AV.ok,CV.ok,SV.names]) j0 (j5 hg.plain) ?_
 simp only[Tryd.results71,vR,seval]
 refine oL (β:=Nat×Nat×List SV) 8 (fun k y=>eI y.2.2 y.1 (n+k) y.2.1 (cN n f (DS x))∧(k=0∨y.1=0))
  (fun k y=>[(0,Sl 30 y.1 (n+k) y.2.1),(1,I .u64 x),(5,I .i64 (56 - 8*(k:Int)))]) (fun k y=>[(30,⟨true,y.2.2⟩)]) 31 (o,c,cs) ?_ ?_ ?_ (by show 3≤31;decide)
 ·refine ⟨⟨⟨hg.len,hg.room,hg.plain,tv hg.shows fun i hi=> ?_⟩, .inl rfl⟩,30,0, ?_⟩
  ·simp only[cN,if_pos (show i < n from hi)]
  ·simp only[gk,jP,jQ,HR,pB,hg.plain,true_or,vR,seval]
   simp
 ·rintro k ⟨o',c',cs'⟩ hk ⟨h1,h2⟩
  simp only at h1 h2
  have a2:(0≤56 - 8*(k:Int))=True:=eq_true (by omega)
  have ws:IntKind.i64.wrap (56 - 8*(k:Int) - 8)=56 - 8*((k+1:Nat):Int):=by rw[wrap_i64 _ (by omega) (by omega)];omega
  have eb:IntKind.u8.wrap (qS .u64 x (56 - 8*(k:Int)))=DS x k:=rfl
  simp only[vR,seval]
  refine fh (by simp;omega) ?_
  simp only[a2,eb,vR,seval]
  refine l5 (g:=fun _=>DS x k) Tryd.lH Tryd.kP (by simp only[ae,vR,seval]) h1 (.inr ⟨38,0,1,true,[Sum.inl (.int .u8 (DS x k))],rfl,by simp only[ae,pT,vR,seval],rT,by decide⟩) (by omega) ?_
  intro c2 J6 gu
  simp only[ws,vR,seval]
  refine ⟨(0,c2,J6),⟨gu.congr (by omega) fun i hi=>FD i (by omega), .inr rfl⟩,30,39, ?_⟩
  simp only[gk,jP,jQ,HR,pB,gu.plain,true_or,vR,seval]
  simp[Nat.add_assoc]
 ·rintro ⟨o',c',cs'⟩ ⟨h1,h2⟩
  simp only at h1 h2
  have:o'=0:=by omega
  subst this
  simp only[vR,seval]
  refine cy (by decide) ?_
  simp only[vR,seval]
  refine gX (k:=1) (q:=30) (cs:=cs') (by decide) ?_ h1.plain h1.made
  simp only[vR,seval]
theorem wF {f v:Nat→Int} {o c m:Nat} {cs:List SV} (hv:Od v) (hf:cU f) (hc:bu cs o (64*m) f) (hcap:64*m≤c) (hm:64*m < 4611686018427387904) (hp:cs.all SV.plain=true):
  bC Tryd.prog 66 [Ag (aA .u32 8 v),Sl 0 o (64*m) c] 1 (lk [(0,⟨false,cs⟩)]) (fun u out=>u=Ag (aA .u32 8 (kH kW v f m))∧out=fun _=>none):=by
 refine aU Tryd.func66 rfl (by kernel_rfl) (by simp[Tryd.ntmps66]) Tryd.F9 (fun u hu=>by
  simp only[cz]at hu
  rcases hu with rfl | rfl
  ·exact ai aD
  ·exact (by decide:0 < 1)) j0 (j5 hp) ?_
 have nJ: ∀ {M:Nat→Prop},(∀ x ∈ cs,SV.ok M x)=True:=eq_true (ai hp)
 simp only[Tryd.results66,vR,seval]
 refine bY m (fun k=>[(1,Sl 0 o (64*m) c),(2,Ptr 1 0),(4,Ptr 2 0),(5,I .i64 ((64*k:Nat):Int))])
  (fun k=>[(0,⟨false,cs⟩),(1,⟨true,aA .u32 8 (kH kW v f k)⟩),(2,⟨true,aA .u32 8 (fun _=>0)⟩)]) _ ?_ ?_ ?_
 ·simp only[nJ,Qx,kH,Nat.mul_zero,vR,seval]
 ·intro k hk
  have l1:(((64*k:Nat):Int)≤((64*k+64:Nat):Int))=True:=eq_true (by omega)
  have l2:(((64*k+64:Nat):Int)≤(c:Int))=True:=eq_true (by omega)
  have w1:IntKind.i64.wrap (((64*k:Nat):Int)+64)=((64*k+64:Nat):Int):=by rw[wrap_i64 _ (by omega) (by omega)];omega
  have h4:(if c=64*k then o else o+64*k)=o+64*k:=if_neg (by omega)
  have h5:64*k+64 - 64*k=64:=by omega
  have z8: ∀ r r':Nat→Int,splice (aA .u32 8 r') 0 (aA .u32 8 r)=aA .u32 8 r:=fun r r'=>jz .u32 8 _ _
  have ee:(fun i=>IntKind.u32.wrap (kH kW v f k i+rounds kW (kH kW v f k) (JM (fun i=>f (64*k+i))) 64 i))=kH kW v f (k+1):=rfl
  simp only[vR,seval]
  refine fh (by simp;omega) ?_
  simp only[w1,l1,l2,h4,h5,aE,Nat.mul_one,vR,seval]
  refine ⟨by kernel_rfl, ?_⟩
  refine (Gf (f:=fun i=>f (64*k+i)) (fun i=>hf _) (zn hc (64*k) 64 (by omega)) hp).iC (fun _=>0) (dU (rw:=false) (by simp only[ae,vR,seval]) hp) aD (by rfl) (fun M h n _=>h (Sl 0 (o+64*k) 64 (c - 64*k)) (List.Mem.head _)) ?_
  simp only[vR,seval]
  refine sM.draw (wE _ _ (H2 hv k)) Tryd.Gb ?_
  rw[ee]
  simp only[z8,w1,nJ,vR,seval]
  exact congrArg (fun z:Nat=>some (I .i64 (z:Int))) (by omega)
 ·simp only[vR,seval]
  refine cy (by simp) ?_
  simp only[vR,seval]
  exact aL aD ⟨rfl,rfl⟩
theorem ML {l j:Nat} (hl:l < 140737488355328) (hj:j < 8):DS (IntKind.u64.wrap (IntKind.u64.wrap (l:Int)*8)) j=L9 l j:=by
 rw[cI (l:Int) (by omega) (by omega),cI _ (by omega) (by omega)]
 have e:(56 - 8*(j:Int))=((56 - 8*j:Nat):Int):=by omega
 simp only[DS,L9]
 rw[e,OI .u64 _ _ (show 56 - 8*j≤IntKind.u64.bits by simp only[IntKind.bits];omega),wrap_u8]
 simp
theorem MN {n o c l:Nat} {f:Nat→Int} {cs:List SV} (hc:bu cs o n f) (hp:cs.all SV.plain=true) (hn:n < 64) (hl:l < 140737488355328) (hln:l%64=n):
  bC Tryd.prog 67 [Sl 0 o n c,I .i64 l] 1 (lk [(0,⟨false,cs⟩)]) (Made 1 (64*(blocks l - l / 64)) (fun i=>od (fun j=>f (j - l / 64*64)) l (l / 64*64+i))):=by
 refine aU Tryd.func67 rfl (by kernel_rfl) (by simp[Tryd.ntmps67]) Tryd.Ga (by simp[AV.ok,CV.ok,SV.names]) j0 (j5 hp) ?_
 have nJ: ∀ {M:Nat→Prop},(∀ x ∈ cs,SV.ok M x)=True:=eq_true (ai hp)
 simp only[Tryd.results67,vR,seval]
 try refine ⟨by decide, ?_⟩
 have hz:eI (aA .u8 128 (fun _=>0)) 0 0 128 (fun _=>0):=⟨by rw[aH],by decide,aD,fun i hi=>by omega⟩
 refine l5 (f:=fun _=>0) (g:=f) Tryd.lH Tryd.kP (by simp only[ae,vR,seval]) hz (.inr ⟨0,o,c,false,cs,rfl,by simp only[ae,vR,seval],hc,by decide⟩) (by omega) ?_
 intro c1 wB fP
 simp only[Nat.zero_add,vR,seval]
 refine l5 (g:=fun _=>128) Tryd.lH Tryd.kP (by simp only[ae,Nat.zero_add,vR,seval]) (fP.congr (m:=n) (g:=f) (by omega) (fun i hi=>by simp only[cN];rw[if_neg (by omega),Nat.sub_zero])) (.inr ⟨9,0,1,true,[Sum.inl (.int .u8 128)],rfl,by simp only[ae,pT,vR,seval],rT,by decide⟩) (by omega) ?_
 intro c2 J6 gu
 simp only[vR,seval]
 have hE:64*(blocks l - l / 64)=if n < 56 then 64 else 128:=by
  simp only[blocks];split<;>omega
 generalize 64*(blocks l - l / 64)=E at*
 have TW:n+9≤E∧E≤128:=by split at hE<;>omega
 have hF: ∀ i,i < E→od (fun j=>f (j - l / 64*64)) l (l / 64*64+i)=cN (E - 8) (cN n f (cN 1 (fun _=>128) (fun _=>0))) (fun j=>L9 l j) i:=fun i hi=>by
  have hb:64*blocks l - 8=l / 64*64+(E - 8):=by simp only[blocks];split at hE<;>omega
  simp only[od,cN,hb]
  by_cases h1:i < n
  ·rw[if_pos (by omega),if_pos (by omega),if_pos h1,show l / 64*64+i - l / 64*64=i by omega]
  ·rw[if_neg (by omega)]
   by_cases h2:i=n
   ·rw[if_pos (by omega),if_pos (by omega),if_neg h1,if_pos (by omega)]
   ·rw[if_neg (by omega)]
    by_cases h3:i < E - 8
    ·rw[if_pos (by omega),if_pos h3,if_neg h1,if_neg (by omega)]
    ·rw[if_neg (by omega),if_neg h3,show l / 64*64+i - (l / 64*64+(E - 8))=i - (E - 8) by omega]
 refine oL (β:=Nat×List SV) (E - 8 - (n+1)) (fun k y=>eI y.2 0 (n+1+k) y.1 (cN n f (cN 1 (fun _=>128) (fun _=>0))))
  (fun k y=>[(1,I .i64 l),(5,Sl 30 0 (n+1+k) y.1)]) (fun k y=>[(30,⟨true,y.2⟩)]) 31 (c2,J6) ?_ ?_ ?_ (by show 12≤31;decide)
 ·refine ⟨gu.congr rfl fun i hi=> ?_,30,10, ?_⟩
  ·simp only[cN];split
   ·rfl
   ·rw[if_pos (by omega)]
  ·simp only[gk,jP,jQ,HR,pB,gu.plain,true_or,vR,seval]
   simp
 ·rintro k ⟨c',cs'⟩ hk h1
  simp only at h1
  have hr:=LU (n+1+k) 64
  rw[show ((64:Nat):Int)=64 from rfl]at hr
  have hne:(n+1+k)%64≠56:=by split at hE<;>omega
  simp only[hr,vR,seval]
  refine fh (by simp;omega) ?_
  simp only[vR,seval]
  refine l5 (g:=fun _=>0) Tryd.lH Tryd.kP (by simp only[ae,vR,seval]) h1 (.inr ⟨_,_,_,true,[Sum.inl (.int .u8 0)],rfl,by simp only[ae,pT,vR,seval],rT,by decide⟩) (by omega) ?_
  intro c3 V' Pc
  simp only[vR,seval]
  refine ⟨(c3,V'),Pc.congr (by omega) fun i hi=> ?_,30,37, ?_⟩
  ·by_cases h:i < n+1+k
   ·simp only[cN,if_pos h]
   ·simp only[cN];rw[if_neg h,if_neg (by omega),if_neg (by omega)]
  ·simp only[gk,jP,jQ,HR,pB,Pc.plain,true_or,vR,seval]
   simp[Nat.add_assoc]
 ·rintro ⟨c',cs'⟩ h1
  simp only at h1
  have hr:=LU (n+1+(E - 8 - (n+1))) 64
  rw[show ((64:Nat):Int)=64 from rfl]at hr
  have hne:(n+1+(E - 8 - (n+1)))%64=56:=by split at hE<;>omega
  simp only[hr,vR,seval]
  refine cy (by rw[hne];rfl) ?_
  simp only[vR,seval]
  refine LY (DT h1 (by omega)) (t:=30) (by simp only[ae,vR,seval]) h1.plain rfl ?_
  intro c3 V' Pc
  simp only[vR,seval]
  have MO: ∀ i,i < E→cN (n+1+(E - 8 - (n+1))) (cN n f (cN 1 (fun _=>128) (fun _=>0))) (DS (IntKind.u64.wrap (IntKind.u64.wrap (l:Int)*8))) i=od (fun j=>f (j - l / 64*64)) l (l / 64*64+i):=fun i hi=>by
   rw[hF i hi]
   simp only[cN]
   by_cases h:i < E - 8
   ·rw[if_pos (by omega),if_pos h]
   ·rw[if_neg (by omega),if_neg h,show n+1+(E - 8 - (n+1))=E - 8 by omega,ML hl (by omega)]
  exact zp (k:=1) (by decide) (Pc.congr rfl fun i hi=>MO i (by omega)) (by simp only[ae,vR,seval]) (by omega)
theorem MP {n o c:Nat} {f:Nat→Int} {cs:List SV} (hf:cU f) (hc:bu cs o n f) (hp:cs.all SV.plain=true) (hn:n < 140737488355328) (hcap:n≤c):
  bC Tryd.prog 62 [Sl 0 o n c] 1 (lk [(0,⟨false,cs⟩)]) (fun u out=>u=Ag (aA .u8 32 (Dy kW FH f n))∧out=fun _=>none):=by
 refine aU Tryd.func62 rfl (by kernel_rfl) (by simp[Tryd.ntmps62]) Tryd.qz (by simp[AV.ok,CV.ok,SV.names]) j0 (j5 hp) ?_
 have nJ: ∀ {M:Nat→Prop},(∀ x ∈ cs,SV.ok M x)=True:=eq_true (ai hp)
 have hr:=LU n 64
 rw[show ((64:Nat):Int)=64 from rfl]at hr
 have w1:IntKind.i64.wrap ((n:Int) - ((n%64:Nat):Int))=((64*(n / 64):Nat):Int):=by rw[wrap_i64 _ (by omega) (by omega)];omega
 have l1:(((64*(n / 64):Nat):Int)≤(c:Int))=True:=eq_true (by omega)
 have l2:(((64*(n / 64):Nat):Int)≤(n:Int))=True:=eq_true (by omega)
 have l3:((n:Int)≤(c:Int))=True:=eq_true (by omega)
 simp only[Tryd.results62,hr,w1,l1,l2,l3,aE,vS,seval, -List.reduceReplicate]
 have YW:[Sum.inl (Value.int IntKind.u32 1779033703),Sum.inl (Value.int IntKind.u32 3144134277),Sum.inl (Value.int IntKind.u32 1013904242),Sum.inl (Value.int IntKind.u32 2773480762),Sum.inl (Value.int IntKind.u32 1359893119),Sum.inl (Value.int IntKind.u32 2600822924),Sum.inl (Value.int IntKind.u32 528734635),Sum.inl (Value.int IntKind.u32 1541459225)]=aA .u32 8 FH:=rfl
 have z8: ∀ r r':Nat→Int,splice (aA .u32 8 r') 0 (aA .u32 8 r)=aA .u32 8 r:=fun r r'=>jz .u32 8 _ _
 refine ⟨AG _ _ _,by kernel_rfl, ?_⟩
 simp only[YW,Int.toNat_natCast]
 refine (wF (c:=c) (m:=n / 64) Md hf (mL hc (by omega)) (by omega) (by omega) hp).iC (fun _=>0) (dU (rw:=false) (by simp only[ae,vR,seval, -List.reduceReplicate]) hp) aD (by rfl) (fun M h _ _=>h (Sl 0 o (64*(n / 64)) c) (List.Mem.tail _ (List.Mem.head _))) ?_
 have hsh: ∀ o',(o'=o+64*(n / 64)∨c=64*(n / 64))→bu cs o' (n - 64*(n / 64)) (fun i=>f (64*(n / 64)+i)):=fun o' h=>by
  rcases h with rfl | h
  ·exact zn hc _ _ (by omega)
  ·intro i hi;omega
 have ho:(if c=64*(n / 64) then o else o+64*(n / 64))=o+64*(n / 64)∨c=64*(n / 64):=by
  split
  ·exact .inr ‹_›
  ·exact .inl rfl
 have hs:=hsh _ ho
 simp only[z8,l1,l2,l3,aE,Nat.mul_one,vR,seval, -List.reduceReplicate]
 generalize (if c=64*(n / 64) then o else o+64*(n / 64))=o' at hs ⊢
 have w2:IntKind.i64.wrap ((n:Nat):Int)=(n:Int):=Tl n (by omega)
 refine ⟨by kernel_rfl, ?_⟩
 refine JJ (MN (c:=c - 64*(n / 64)) (l:=n) hs hp (by omega) (by omega) (by omega)) (fun _=>0) (dU (rw:=false) (by simp only[ae,vR,seval, -List.reduceReplicate]) hp) rfl (fun M h _ _=>h (Sl 0 o' _ _) (List.Mem.head _)) (by kernel_rfl) ?_
 intro c1 XE h1 h2 h3
 simp only[vR,seval, -List.reduceReplicate]
 have hB:blocks n - n / 64+n / 64=blocks n:=by simp only[blocks];omega
 have hb2:64*(blocks n - n / 64)≤128:=by simp only[blocks];omega
 have J0:cU (fun i=>od (fun j=>f (64*(n / 64)+(j - n / 64*64))) n (n / 64*64+i)):=fun i=>Mc (fun j=>hf _) n _
 refine (wF (o:=0) (c:=c1) (m:=blocks n - n / 64) (H2 Md _) J0 ik h1 (by omega) (dz h3)).iC (fun _=>24) (dU (rw:=true) (by simp only[ae,vR,seval, -List.reduceReplicate]) (dz h3)) aD (by rfl) (fun M h _ _=>h (Sl 24 0 (64*(blocks n - n / 64)) c1) (List.Mem.tail _ (List.Mem.head _))) ?_
 have eA:kH kW (kH kW FH f (n / 64)) (fun i=>od (fun j=>f (64*(n / 64)+(j - n / 64*64))) n (n / 64*64+i)) (blocks n - n / 64)=kH kW FH (od f n) (blocks n):=by
  have h1:kH kW FH f (n / 64)=kH kW FH (od f n) (n / 64):=rU _ fun i hi=>by simp only[od];rw[if_pos (by omega)]
  have h2:=Dx kW FH (od f n) (n / 64) (blocks n - n / 64)
  rw[show n / 64+(blocks n - n / 64)=blocks n by omega]at h2
  rw[h2,h1]
  refine rU _ fun i hi=> ?_
  simp only[od]
  rw[show n / 64*64+i=64*(n / 64)+i by omega,show 64*(n / 64)+(64*(n / 64)+i - n / 64*64)=64*(n / 64)+i by omega]
 rw[eA]
 simp only[z8,vR,seval, -List.reduceReplicate]
 refine (A9 _).aB ?_
 simp only[vR,seval, -List.reduceReplicate]
 exact aL aD ⟨rfl,rfl⟩
theorem DU {s:AS} {nm t o n c:Nat} {rw:Bool} {f:Nat→Int} {cs:List SV} (hf:cU f) (hb:s.box t=some ⟨rw,cs⟩) (hc:bu cs o n f) (hp:cs.all SV.plain=true) (hn:n < 140737488355328) (hcap:n≤c) {dst:Option Nat} {K:AS→Prop}
  (hk:K (s.put dst (some (Ag (aA .u8 32 (Dy kW FH f n)))))):aB Tryd.prog nm 62 (some [Sl t o n c]) dst K s:=
 (MP hf hc hp hn hcap).iB (fun _=>t) (dU hb hp) aD rfl hk
def Roomy (n:Nat) (v:AV) (out:Nat→Option aG):Prop:=(n=0∧v=V (.slice none 0 0)∧out=fun _=>none)∨(0 < n∧ ∃ c cs,v=Sl 0 0 0 c∧out=lk [(0,⟨true,cs⟩)]∧eI cs 0 0 c (fun _=>0))
theorem RK {n:Nat} (hn:n≤140737488355328):bC Tryd.prog 63 [V (.slice none 0 0),I .i64 n] 0 (fun _=>none) (Roomy n):=by
 refine aU Tryd.func63 rfl (by kernel_rfl) (by simp[Tryd.ntmps63]) Tryd.qA (by simp[AV.ok,CV.ok,SV.names]) OE OG ?_
 have w0:IntKind.i64.wrap 0=0:=rfl
 have w1:IntKind.i64.wrap ((n:Int) - 0)=(n:Int):=by rw[wrap_i64 _ (by omega) (by omega)];omega
 simp only[Tryd.results63,vR,seval]
 refine cy (by simp) ?_
 simp only[vR,seval]
 refine vB Tryd.kP ?_
 simp only[w0,w1,Int.sub_self,vR,seval]
 rcases Nat.eq_zero_or_pos n with rfl | hpos
 ·refine cy (by simp) ?_
  simp only[vR,seval]
  exact ⟨0,V (.slice none 0 0),fun _=>none,Nat.le_refl _,rfl,trivial,fun n b hb=>(by cases hb), .inl ⟨rfl,rfl,rfl⟩⟩
 ·refine fh (by simp;omega) ?_
  simp only[vR,seval]
  refine vB Tryd.kP ?_
  simp only[Int.toNat_zero,Nat.sub_self,vR,seval]
  refine AH (kn:= .i64) Tryd.lH Tryd.MB hpos hn ?_
  intro c cs hg
  simp only[aE,JF hg.room,vR,seval]
  refine gX (k:=0) (q:=18) (cs:=cs) (by decide) (by simp only[ae,vR,seval]) hg.plain (.inr ⟨hpos,c,cs,rfl,rfl, ?_⟩)
  exact ⟨hg.len,Nat.zero_le _,hg.plain,fun i hi=>by omega⟩
def iU (n:Nat→Nat):Nat→Nat
 | 0=>0
 | j+1=>iU n j+n j
def Ba (n:Nat→Nat) (f:Nat→Nat→Int):Nat→Nat→Int
 | 0=>fun _=>0
 | j+1=>cN (iU n j) (Ba n f j) (f j)
theorem sb (n:Nat→Nat) {j m:Nat} (h:j≤m):iU n j≤iU n m:=by
 induction m with
 | zero=>rw[show j=0 by omega];exact Nat.le_refl _
 | succ m ih=>
  by_cases e:j=m+1
  ·rw[e];exact Nat.le_refl _
  ·have:=ih (by omega);simp only[iU];omega
structure Qy (l:List (Nat×aG)) (cs0:List SV) (k o m:Nat) (n:Nat→Nat) (f:Nat→Nat→Int):Prop where
 ro: ∀ x ∈ l,x.2.rw=false
 all: ∀ i,i < k→ ∃ b,lk l i=some b
 um: ∀ x ∈ l,x.1 < k∧lk l x.1=some x.2∧ ∀ y ∈ x.2.cells,SV.ok (fun n=>n < k) y
 zero:lk l 0=some ⟨false,cs0⟩
 part: ∀ j,j < m→ ∃ sv,cs0[o+j]? =some sv∧iD (lk l) (.inl (.inl sv)) (n j) (f j)
theorem J' {box:Nat→Option aG} {v:AV} {n:Nat} {f:Nat→Int} (h:iD box v n f):dI 1 (some [v])=some (some (I .i64 n),none):=by
 rcases h with ⟨⟨a,rfl⟩,rfl⟩ | ⟨t,o,c,rw,cs,rfl,_⟩<;>rfl
theorem MQ {l:List (Nat×aG)} {cs0:List SV} {k o m c:Nat} {n:Nat→Nat} {f:Nat→Nat→Int} (hl:Qy l cs0 k o m n f) (hk:0 < k) (hk2:k≤20) (hm:m < 4611686018427387904) (hN:iU n m≤140737488355328):
  bC Tryd.prog 52 [Sl 0 o m c] k (lk l) (Bytes k (iU n m) (Ba n f m)):=by
 refine aU Tryd.func52 rfl (by kernel_rfl) (by simp[Tryd.ntmps52]) Tryd.qu (by simp[AV.ok,CV.ok,SV.names];exact hk) hl.all (fun i b hb=>⟨(hl.um _ (bg _ _ _ hb)).1,(hl.um _ (bg _ _ _ hb)).2.2⟩) ?_
 have hz:=hl.zero
 have hin: ∀ (next:Nat),k≤next→ ∀ p ∈ l,lk l p.1=some p.2∧p.1 < next∧ ∀ x ∈ p.2.cells,SV.ok (fun n=>n < next) x:=fun next hn p hp=>⟨(hl.um p hp).2.1,by have:=(hl.um p hp).1;omega,fun y hy=>SV.aI (fun n h=>by omega) ((hl.um p hp).2.2 y hy)⟩
 simp only[Tryd.results52,vR,seval]
 refine bY m (fun j=>[(0,Sl 0 o m c),(3,I .i64 (iU n j)),(9,Sl 0 o m c),(10,I .i64 m),(11,I .i64 j)]) (fun j=>l) _ ?_ ?_ ?_
 ·simp only[iU,vR,seval]
  exact ⟨by omega,hin _ (by omega)⟩
 ·intro j hj
  obtain ⟨sv,h1,h2⟩:=hl.part j hj
  have hlen:=J' h2
  have hmono:=sb n (show j+1≤m by omega)
  simp only[iU]at hmono
  have wa:=Tm (iU n j) (n j) (by omega)
  simp only[vR,seval]
  refine fh (by simp;omega) ?_
  simp only[aE,aJ hj,hz,Nat.mul_one,h1,hlen,wa,bQ j (by omega),vR,seval]
  refine cy (by simp;omega) ?_
  simp only[iU,bQ j (by omega),vR,seval]
  exact ⟨by omega,hin _ (by omega)⟩
 ·simp only[vR,seval]
  refine cy (by simp) ?_
  simp only[vR,seval]
  refine (RK hN).aB (fun n=>n) none Dj rfl ?_
  rintro v out (⟨h0,rfl,rfl⟩ | ⟨hpos,c0,wB,rfl,rfl,hg⟩) _
  ·have hn0: ∀ j,j < m→n j=0:=fun j hj=>by
    have:=sb n (show j+1≤m by omega);simp only[iU]at this;omega
   simp only[after,pB,vR,seval]
   refine bY m (fun j=>[(6,V (.slice none 0 0)),(25,Sl 0 o m c),(26,I .i64 m),(27,I .i64 j)]) (fun j=>l) _ ?_ ?_ ?_
   ·simp only[vR,seval]
    exact ⟨⟨trivial,by omega⟩,hin _ (by omega)⟩
   ·intro j hj
    obtain ⟨sv,h1,h2⟩:=hl.part j hj
    simp only[vR,seval]
    refine fh (by simp;omega) ?_
    simp only[aE,aJ hj,hz,Nat.mul_one,h1,bQ j (by omega),vR,seval]
    refine JK (m:=n j) (g:=f j) Tryd.lH Tryd.kP h2 (by rw[hn0 j hj];decide) (fun _=> ?_) (fun h=>by rw[hn0 j hj]at h;exact absurd h (by decide))
    simp only[bQ j (by omega),vR,seval]
    exact ⟨⟨trivial,by omega⟩,hin _ (by omega)⟩
   ·simp only[vR,seval]
    refine cy (by simp) ?_
    simp only[vR,seval]
    exact ⟨k,V (.slice none 0 0),fun _=>none,Nat.le_refl _,rfl,trivial,fun n b hb=>(by cases hb), .inl ⟨h0,rfl,rfl⟩⟩
  ·rw[dv hg.plain]
   simp only[jQ,gl,vR,seval]
   refine oL (β:=Nat×List SV) m (fun j y=>eI y.2 0 (iU n j) y.1 (Ba n f j))
    (fun j y=>[(6,Sl 60 0 (iU n j) y.1),(25,Sl 0 o m c),(26,I .i64 m),(27,I .i64 j)]) (fun j y=>(60,⟨true,y.2⟩)::l) 61 (c0,wB) ?_ ?_ ?_ ?_
   ·refine ⟨hg,60,k+1+1+3+1+1,ij (k:=k) (by show _≤60;simp only;omega) (by decide) (by simp only;omega) (by omega) ?_ ?_ hg.plain hl.um (fun t ht=> ?_)⟩
    ·simp only[jP,jQ,iU,vR,seval]
    ·simp only[aT]
    ·exact aW _ _ _ _ (by omega)
   ·rintro j ⟨c',cs'⟩ hj h1'
    obtain ⟨sv,h1,h2⟩:=hl.part j hj
    have hmono:=sb n (show j+1≤m by omega)
    simp only[iU]at hmono
    have hoff:Dp (nX [(6,Sl 60 0 (iU n j) c'),(25,Sl 0 o m c),(26,I .i64 m),(27,I .i64 j)] ((60,⟨true,cs'⟩)::l) 61).box 60 (.inl (.inl sv)) (n j) (f j):=by
     rcases h2 with h | ⟨t,o1,c1,Vh,ds,e1,e2,_,e4⟩
     ·exact .inl h
     ·have ht:t < k:=(hl.um _ (bg _ _ _ e2)).1
      refine .inr ⟨t,o1,c1,Vh,ds,e1, ?_,e4,by omega⟩
      show (if t=60 then _ else lk l t)=_
      rw[if_neg (by omega)];exact e2
    simp only at h1'
    simp only[vR,seval]
    refine fh (by simp;omega) ?_
    simp only[aE,aJ hj,hz,Nat.mul_one,h1,bQ j (by omega),vR,seval]
    refine l5 (b:=60) (g:=f j) Tryd.lH Tryd.kP (by simp only[ae,vR,seval]) h1' (by exact hoff) (by omega) ?_
    intro c2 J6 gu
    simp only[bQ j (by omega),vR,seval]
    refine ⟨(c2,J6),gu,60,67,ij (k:=k) (by omega) (by decide) (by omega) (by omega) ?_ ?_ gu.plain hl.um (fun t ht=> ?_)⟩
    ·simp only[jP,jQ,iU,vR,seval]
    ·simp only[aT]
    ·simp only[upd,vR,seval]
     rw[if_neg (by omega),if_neg (by omega),if_neg (by omega)]
   ·rintro ⟨c',cs'⟩ h1'
    simp only at h1'
    simp only[vR,seval]
    refine cy (by simp) ?_
    simp only[vR,seval]
    refine gX (k:=k) (q:=60) (by omega) (by simp only[vR,seval]) h1'.plain (.inr h1'.made)
   ·simp only;omega




structure XF (k:Nat) (l:List (Nat×aG)) (vm:AV) (m:Nat) (kf f:Nat→Int) (s:AS) (L:List (Nat×aG)) (v:AV) (n:Nat) (g:Nat→Int):Prop where
 e0:s.env 0=some v
 e1:s.env 1=some vm
 e4:s.env 4=some (Ptr k 0)
 next:s.next≤50
 um: ∀ x ∈ L,x.1 < s.next∧lk L x.1=some x.2∧s.box x.1=some x.2∧x.2.cells.all SV.plain=true
 cell:lk L k=some ⟨true,aA .u8 32 (fun _=>0)⟩
 hv:iD (lk L) v n g
 hvm:iD (lk L) vm m f
 hok:AV.ok (fun n=>n < s.next) v
 YX:AV.ok (fun n=>n < s.next) vm
 hn:n≤64
 hg:cU g
 heq: ∀ i,kf i=if i < n then g i else 0

def Qz (n:Int) (a b c:Nat):Prop:=n < 0∨8160 < n∨1048576 < a∨1048576 < b∨1048576 < c
instance (n:Int) (a b c:Nat):Decidable (Qz n a b c):=by unfold Qz;infer_instance
theorem Kd {n o c:Nat} {cs:List SV} (hp:cs.all SV.plain=true):bC Tryd.prog 61 [Sl 0 o n c] 1 (lk [(0,⟨false,cs⟩)]) (fun v out=>v=B (decide (1048576 < (n:Int)))∧out=fun _=>none):=by
 refine aU Tryd.func61 rfl (by kernel_rfl) (by simp[Tryd.ntmps61]) Tryd.qy (by simp[AV.ok,CV.ok,SV.names]) j0 (j5 hp) ?_
 simp only[Tryd.results61,vS,seval]
 exact aL rfl ⟨rfl,rfl⟩
theorem Bb {s:AS} {nm t o n c:Nat} {rw:Bool} {cs:List SV} (hb:s.box t=some ⟨rw,cs⟩) (hp:cs.all SV.plain=true) {dst:Option Nat} {K:AS→Prop} (hk:K (s.put dst (some (B (decide (1048576 < (n:Int))))))):aB Tryd.prog nm 61 (some [Sl t o n c]) dst K s:=
 (Kd hp).iB (fun _=>t) (dU hb hp) rfl rfl hk
end Go.Proofs.YtkaamnnjeandlaaDoor
