/-
  Functions of the program and of the document.
-/
import Derived.Test.YtpnehhpadofcbaaGreatDoorVcgFacts
import Derived.Test.YtpnehhpadofcbaaGreatDoorVcgK
import Derived.Test.YtpnehhpadofcbaaGreatDoorVcgT
set_option linter.unusedVariables false
set_option maxHeartbeats 16000000
set_option maxRecDepth 100000
set_option linter.unusedSimpArgs false
set_option linter.unusedSectionVars false
namespace Go.Proofs.YtpnehhpadofcbaaGreatDoor
open Go.bU
variable [aO]
theorem Nf (x:Int):cI Tryz.prog 152 [I .u8 x] (I .u8 (aU .xor .u8 (gp .u8 x 1) (IntKind.u8.wrap (cy .u8 x 7*27)))):=by
 refine aJ Tryz.func152 rfl (by kernel_rfl) (by simp[Tryz.ntmps152]) rfl rfl ?_
 simp only[Tryz.results152,vS,seval, -List.reduceReplicate]
theorem rU (x n:Int) (h0:0≤n) (h1:n≤8):cI Tryz.prog 159 [I .u8 x,I .i64 n] (I .u8 (aU .or .u8 (gp .u8 x n) (cy .u8 x (8 - n)))):=by
 have hw:IntKind.i64.wrap (8 - n)=8 - n:=wrap_i64 _ (by omega) (by omega)
 have h2:(0≤8 - n)=True:=by simp;omega
 have h3:(0≤n)=True:=by simp;omega
 refine aJ Tryz.func159 rfl (by kernel_rfl) (by simp[Tryz.ntmps159]) rfl rfl ?_
 simp only[Tryz.results159,hw,h2,h3,vS,seval, -List.reduceReplicate]
 kernel_rfl
def WU (x n:Int):Int:=aU .or .u8 (gp .u8 x n) (cy .u8 x (8 - n))
def ZL (x:Int):Int:=aU .xor .u8 (aU .xor .u8 (aU .xor .u8 (aU .xor .u8 (aU .xor .u8 x (WU x 1)) (WU x 2)) (WU x 3)) (WU x 4)) 99
theorem Cn (x:Int):cI Tryz.prog 153 [I .u8 x] (I .u8 (ZL x)):=by
 refine aJ Tryz.func153 rfl (by kernel_rfl) (by simp[Tryz.ntmps153]) rfl rfl ?_
 simp only[Tryz.results153,vS,seval, -List.reduceReplicate]
 refine (rU x 1 (by decide) (by decide)).ax ?_
 simp only[vS,seval, -List.reduceReplicate]
 refine (rU x 2 (by decide) (by decide)).ax ?_
 simp only[vS,seval, -List.reduceReplicate]
 refine (rU x 3 (by decide) (by decide)).ax ?_
 simp only[vS,seval, -List.reduceReplicate]
 refine (rU x 4 (by decide) (by decide)).ax ?_
 simp only[vS,seval, -List.reduceReplicate]
 rfl
def ru (a b:Nat→Int) (i:Nat):Int:=aU .xor .u8 (a i) (b i)
theorem uU (a b:Nat→Int):cI Tryz.prog 137 [Ag (af .u8 16 a),Ag (af .u8 16 b)] (Ag (af .u8 16 (ru a b))):=by
 refine aJ Tryz.func137 rfl (by kernel_rfl) (by simp[Tryz.ntmps137]) rfl rfl ?_
 simp only[Tryz.results137,vR,seval, -List.reduceReplicate]
 refine aE 16 (fun k=>[(2,Ptr 0 0),(3,Ptr 1 0),(4,Ptr 2 0),(6,I .i64 k)])
  (fun k=>[(0,⟨true,af .u8 16 (fun i=>if i < k then ru a b i else a i)⟩),(1,⟨true,af .u8 16 b⟩),(2,⟨true,af .u8 16 (fun _=>0)⟩)]) _ ?_ ?_ ?_
 ·simp only[bW,Nat.not_lt_zero,vR,seval, -List.reduceReplicate]
 ·intro j hj
  have nY:((j:Int) < 16)=True:=bX (m:=16) hj
  simp only[vR,seval, -List.reduceReplicate]
  refine az (by simp;omega) ?_
  simp only[nY,aA .u8 16 _ j hj,aB .u8 16 _ j hj,Nat.lt_irrefl,bt j (by omega),vR,seval, -List.reduceReplicate]
  exact ⟨by kernel_rfl,by omega,congrArg (fun c=>some (aN.mk true c)) (fV (f:=ru a b) (g:=a))⟩
 ·simp only[vR,seval, -List.reduceReplicate]
  refine aD (by decide) ?_
  simp only[dL,vR,seval, -List.reduceReplicate]
def wJ (a:Int):Int:=if 255 < a*2 then aU .xor .i64 (a*2) 283 else a*2
def fP (a b:Int):Nat→Int×Int×Int
 | 0=>(a,b,0)
 | k+1=>(wJ (fP a b k).1,(fP a b k).2.1 / 2,if (fP a b k).2.1%2=1 then aU .xor .i64 (fP a b k).2.2 (fP a b k).1 else (fP a b k).2.2)
theorem WV:((List.range 256).all fun n=>decide (0≤wJ n)&&decide (wJ n < 256))=true:=by kernel_rfl
theorem WW {a:Int} (h:0≤a∧a < 256):0≤wJ a∧wJ a < 256:=by
 obtain ⟨n,rfl⟩:=Int.eq_ofNat_of_zero_le h.1
 have:=List.all_eq_true.mp WV n (List.mem_range.mpr (by omega))
 simpa using this
theorem Co {a b:Int} (ha:0≤a∧a < 256) (hb:0≤b∧b < 256): ∀ k,(0≤(fP a b k).1∧(fP a b k).1 < 256)∧(0≤(fP a b k).2.1∧(fP a b k).2.1 < 256)
 | 0=>⟨ha,hb⟩
 | k+1=>by
  obtain ⟨h1,h2⟩:=Co ha hb k
  exact ⟨WW h1,by simp only[fP];omega⟩
theorem lL (a b:Int) (ha:0≤a∧a < 256) (hb:0≤b∧b < 256):cI Tryz.prog 131 [I .i64 a,I .i64 b] (I .i64 (fP a b 8).2.2):=by
 refine aJ Tryz.func131 rfl (by kernel_rfl) (by simp[Tryz.ntmps131]) rfl rfl ?_
 simp only[Tryz.results131,vS,seval, -List.reduceReplicate]
 refine aE 8 (fun k=>[(0,I .i64 (fP a b k).1),(1,I .i64 (fP a b k).2.1),(5,I .i64 (fP a b k).2.2),(6,I .i64 k)]) (fun _=>[]) _ ?_ ?_ ?_
 ·simp only[fP,vS,seval, -List.reduceReplicate]
 ·intro k hk
  obtain ⟨h1,h2⟩:=Co ha hb k
  have e:fP a b (k+1)=(wJ (fP a b k).1,(fP a b k).2.1 / 2,if (fP a b k).2.1%2=1 then aU .xor .i64 (fP a b k).2.2 (fP a b k).1 else (fP a b k).2.2):=rfl
  rw[e]
  generalize fP a b k=p at*
  obtain ⟨x,y,s⟩:=p
  simp only[]at h1 h2 ⊢
  have hm:y.tmod 2=y%2:=Int.tmod_eq_emod_of_nonneg h2.1
  have hd:IntKind.i64.wrap (y.tdiv 2)=y / 2:=by rw[Int.tdiv_eq_ediv_of_nonneg h2.1,wrap_i64 _ (by omega) (by omega)]
  have hw:IntKind.i64.wrap (x*2)=x*2:=wrap_i64 _ (by omega) (by omega)
  simp only[vS,seval, -List.reduceReplicate]
  refine az (by simp;omega) ?_
  by_cases hy:y%2=1
  ·have c:(y%2==1)=true:=by simp[hy]
   by_cases hx:255 < x*2
   ·have e2:wJ x=aU .xor .i64 (x*2) 283:=by rw[wJ,if_pos hx]
    simp only[hm,c,hd,hw,bt k (by omega),if_pos hy,e2,vS,seval, -List.reduceReplicate]
    refine az (decide_eq_true hx) ?_
    simp only[hw,bt k (by omega),vS,seval, -List.reduceReplicate]
   ·have e2:wJ x=x*2:=by rw[wJ,if_neg hx]
    simp only[hm,c,hd,hw,bt k (by omega),if_pos hy,e2,vS,seval, -List.reduceReplicate]
    refine aD (decide_eq_false hx) ?_
    simp only[hw,bt k (by omega),vS,seval, -List.reduceReplicate]
  ·have c:(y%2==1)=false:=by simp;omega
   by_cases hx:255 < x*2
   ·have e2:wJ x=aU .xor .i64 (x*2) 283:=by rw[wJ,if_pos hx]
    simp only[hm,c,hd,hw,bt k (by omega),if_neg hy,e2,vS,seval, -List.reduceReplicate]
    refine az (decide_eq_true hx) ?_
    simp only[hw,bt k (by omega),vS,seval, -List.reduceReplicate]
   ·have e2:wJ x=x*2:=by rw[wJ,if_neg hx]
    simp only[hm,c,hd,hw,bt k (by omega),if_neg hy,e2,vS,seval, -List.reduceReplicate]
    refine aD (decide_eq_false hx) ?_
    simp only[hw,bt k (by omega),vS,seval, -List.reduceReplicate]
 ·simp only[vS,seval, -List.reduceReplicate]
  refine aD (by decide) ?_
  simp only[vS,seval, -List.reduceReplicate]
def n5 (a b:Int):Int:=(fP a b 8).2.2
theorem ZM {x y:Int} (hx:0≤x∧x < 256) (hy:0≤y∧y < 256):0≤aU .xor .i64 x y∧aU .xor .i64 x y < 256:=by
 obtain ⟨a,rfl⟩:=Int.eq_ofNat_of_zero_le hx.1
 obtain ⟨b,rfl⟩:=Int.eq_ofNat_of_zero_le hy.1
 have h3:a ^^^ b < 2^8:=Nat.xor_lt_two_pow (by omega) (by omega)
 rw[(vI .i64 a b (by simp[IntKind.bits];omega) (by simp[IntKind.bits];omega)).2.2,wrap_i64 _ (by omega) (by omega)]
 omega
theorem zk {a b:Int} (ha:0≤a∧a < 256) (hb:0≤b∧b < 256): ∀ k,0≤(fP a b k).2.2∧(fP a b k).2.2 < 256
 | 0=>by simp[fP]
 | k+1=>by
  have ih:=zk ha hb k
  have hb:=(Co ha hb k).1
  simp only[fP]
  split
  ·exact ZM ih hb
  ·exact ih
theorem wK {a b:Int} (ha:0≤a∧a < 256) (hb:0≤b∧b < 256):0≤n5 a b∧n5 a b < 256:=zk ha hb 8
def ql (x:Int):Nat→Int
 | 0=>1
 | k+1=>if k < 7 then n5 (n5 (ql x k) (ql x k)) x else n5 (ql x k) (ql x k)
theorem Ql {x:Int} (hx:0≤x∧x < 256): ∀ k,0≤ql x k∧ql x k < 256
 | 0=>by simp[ql]
 | k+1=>by
  have ih:=Ql hx k
  rw[ql];split
  ·exact wK (wK ih ih) hx
  ·exact wK ih ih
def WX (y:Int):Nat→Int
 | 0=>99
 | k+1=>aU .xor .i64 (WX y k) ((aU .or .i64 (gp .i64 y k) (cy .i64 y (8 - k))).tmod 256)
def dM (x:Nat):Int:=IntKind.u8.wrap (WX (ql x 8) 5)
theorem GD:cI Tryz.prog 111 [] (Ag (af .u8 256 dM)):=by
 refine aJ Tryz.func111 rfl (by kernel_rfl) (by simp[Tryz.ntmps111]) rfl rfl ?_
 simp only[Tryz.results111,vR,seval, -List.reduceReplicate]
 refine aE 256 (fun k=>[(0,Ptr 0 0),(1,Ptr 1 0),(2,I .i64 k)])
  (fun k=>[(0,⟨true,af .u8 256 (fun _=>0)⟩),(1,⟨true,af .u8 256 (fun i=>if i < k then dM i else 0)⟩)]) _ ?_ ?_ ?_
 ·simp only[bW,Nat.not_lt_zero,if_false,vR,seval, -List.reduceReplicate]
 ·intro k hk
  have hx:0≤(k:Int)∧(k:Int) < 256:=by omega
  have hl:((k:Int) < 256)=True:=bX (m:=256) hk
  have fin:af .u8 256 (upd (fun i=>if i < k then dM i else 0) k (dM k))=af .u8 256 (fun i=>if i < k+1 then dM i else 0):=fk
  simp only[vR,seval, -List.reduceReplicate]
  refine az (by simp;omega) ?_
  simp only[vR,seval, -List.reduceReplicate]
  refine aE 8 (fun j=>[(0,Ptr 0 0),(1,Ptr 1 0),(2,I .i64 k),(3,I .i64 (ql k j)),(4,I .i64 (7 - j))])
   (fun _=>[(0,⟨true,af .u8 256 (fun _=>0)⟩),(1,⟨true,af .u8 256 (fun i=>if i < k then dM i else 0)⟩)]) _ ?_ ?_ ?_
  ·simp only[bW,ql,vR,seval, -List.reduceReplicate]
  ·intro j hj
   have hp:=Ql hx j
   have hpp:=wK hp hp
   have hw:IntKind.i64.wrap ((7:Int) - j - 1)=7 - ((j+1:Nat):Int):=by rw[wrap_i64 _ (by omega) (by omega)];omega
   have es:ql k (j+1)=if j < 7 then n5 (n5 (ql k j) (ql k j)) k else n5 (ql k j) (ql k j):=rfl
   simp only[vR,seval, -List.reduceReplicate]
   refine az (by simp;omega) ?_
   simp only[vR,seval, -List.reduceReplicate]
   refine (lL _ _ hp hp).ax ?_
   by_cases h7:j < 7
   ·simp only[vR,seval, -List.reduceReplicate]
    refine az (by simp;omega) ?_
    simp only[vR,seval, -List.reduceReplicate]
    refine (lL _ _ hpp hx).ax ?_
    simp only[hw,es,if_pos h7,vR,seval, -List.reduceReplicate]
    rfl
   ·simp only[vR,seval, -List.reduceReplicate]
    refine aD (by simp;omega) ?_
    simp only[hw,es,if_neg h7,vR,seval, -List.reduceReplicate]
    rfl
  ·simp only[vR,seval, -List.reduceReplicate]
   refine aD (by decide) ?_
   simp only[vR,seval, -List.reduceReplicate]
   refine aE 5 (fun j=>[(0,Ptr 0 0),(1,Ptr 1 0),(2,I .i64 k),(3,I .i64 (ql k 8)),(5,I .i64 (WX (ql k 8) j)),(6,I .i64 j)])
    (fun _=>[(0,⟨true,af .u8 256 (fun _=>0)⟩),(1,⟨true,af .u8 256 (fun i=>if i < k then dM i else 0)⟩)]) _ ?_ ?_ ?_
   ·simp only[bW,WX,vR,seval, -List.reduceReplicate]
   ·intro j hj
    have h1:IntKind.u64.wrap (j:Int)=(j:Int):=au _ (by omega) (by omega)
    have h2:IntKind.i64.wrap (8 - (j:Int))=8 - (j:Int):=wrap_i64 _ (by omega) (by omega)
    have h3:IntKind.u64.wrap (8 - (j:Int))=8 - (j:Int):=au _ (by omega) (by omega)
    have h4:(0≤8 - (j:Int))=True:=by simp;omega
    simp only[vR,seval, -List.reduceReplicate]
    refine az (by simp;omega) ?_
    simp only[h1,h2,h3,h4,bt j (by omega),vR,seval, -List.reduceReplicate]
    rfl
   ·simp only[vR,seval, -List.reduceReplicate]
    refine aD (by decide) ?_
    simp only[hl,aB .u8 256 _ k hk,bt k (by omega),vR,seval, -List.reduceReplicate]
    exact ⟨by omega,congrArg (fun c=>some (aN.mk true c)) fin⟩
 ·simp only[vR,seval, -List.reduceReplicate]
  refine aD (by decide) ?_
  simp only[dL,vR,seval, -List.reduceReplicate]
def pN (C S:Nat→Int) (i:Nat):Int:=C (S ((i+i%4*4)%16)).toNat
def KB (C S:Nat→Int) (i:Nat):Int:=C (S i).toNat
theorem Fg (C S:Nat→Int) (hS:br S):bf Tryz.prog 139 [Ptr 0 0,Ag (af .u8 16 S)] 1 (lk [(0,⟨false,af .u8 496 C⟩)])
  (fun v out=>v=Ag (af .u8 16 (pN C S))∧out=fun _=>none):=by
 refine av Tryz.func139 rfl (by kernel_rfl) (by simp[Tryz.ntmps139]) Tryz.JM (by simp[AV.ok,CV.ok,SV.names];exact aC aw) dG (dH aw) ?_
 simp only[Tryz.results139,vR,seval, -List.reduceReplicate]
 refine aE 16 (fun k=>[(0,Ptr 0 0),(3,Ptr 1 0),(4,Ptr 2 0),(5,Ptr 3 0),(7,I .i64 k)])
  (fun k=>[(0,⟨false,af .u8 496 C⟩),(1,⟨true,af .u8 16 S⟩),(2,⟨true,af .u8 16 (fun _=>0)⟩),(3,⟨true,af .u8 16 (fun i=>if i < k then pN C S i else 0)⟩)]) _ ?_ ?_ ?_
 ·simp only[bW,Nat.not_lt_zero,vR,seval, -List.reduceReplicate]
 ·intro j hj
  have e:(IntKind.i64.wrap ((j:Int)+IntKind.i64.wrap (((j:Int).tmod 4)*4))).tmod 16=(((j+j%4*4)%16:Nat):Int):=by
   have h1:((j:Int).tmod 4)=((j%4:Nat):Int):=by rw[Int.tmod_eq_emod_of_nonneg (by omega)];omega
   rw[h1,wrap_i64 (((j%4:Nat):Int)*4) (by omega) (by omega),wrap_i64 _ (by omega) (by omega),Int.tmod_eq_emod_of_nonneg (by omega)]
   omega
  have hm:(j+j%4*4)%16 < 16:=Nat.mod_lt _ (by decide)
  have hb:=hS ((j+j%4*4)%16)
  have hl:=bX (m:=16) hm
  have hj':=bX (m:=16) hj
  have h1:(0≤S ((j+j%4*4)%16))=True:=by simp;exact hb.1
  have h2:(S ((j+j%4*4)%16) < 256)=True:=by simp;exact hb.2
  have h3:(S ((j+j%4*4)%16)).toNat < 496:=by omega
  have fin:af .u8 16 (upd (fun i=>if i < j then pN C S i else 0) j (pN C S j))=af .u8 16 (fun i=>if i < j+1 then pN C S i else 0):=fk
  simp only[vR,seval, -List.reduceReplicate]
  refine az (by simp;omega) ?_
  simp only[e,hl,hj',h1,h2,bt j (by omega),aA .u8 16 _ _ hm,aA .u8 496 _ _ h3,aB .u8 16 _ j hj,vR,seval, -List.reduceReplicate]
  exact ⟨by kernel_rfl,by omega,by omega,by omega,congrArg (fun c=>some (aN.mk true c)) fin⟩
 ·simp only[vR,seval, -List.reduceReplicate]
  refine aD (by decide) ?_
  simp only[dL,vR,seval, -List.reduceReplicate]
  exact ak aw ⟨rfl,rfl⟩
theorem sR (C S:Nat→Int) (hS:br S):bf Tryz.prog 154 [Ptr 0 0,Ag (af .u8 4 S)] 1 (lk [(0,⟨false,af .u8 496 C⟩)])
  (fun v out=>v=Ag (af .u8 4 (KB C S))∧out=fun _=>none):=by
 refine av Tryz.func154 rfl (by kernel_rfl) (by simp[Tryz.ntmps154]) Tryz.rf (by simp[AV.ok,CV.ok,SV.names];exact aC aw) dG (dH aw) ?_
 simp only[Tryz.results154,vR,seval, -List.reduceReplicate]
 refine aE 4 (fun k=>[(0,Ptr 0 0),(3,Ptr 1 0),(4,Ptr 2 0),(7,Ag (af .u8 4 S)),(8,I .i64 k)])
  (fun k=>[(0,⟨false,af .u8 496 C⟩),(1,⟨true,af .u8 4 (fun i=>if i < k then KB C S i else S i)⟩),(2,⟨true,af .u8 4 (fun _=>0)⟩)]) _ ?_ ?_ ?_
 ·simp only[bW,Nat.not_lt_zero,if_false,vR,seval, -List.reduceReplicate]
  rfl
 ·intro j hj
  have hb:=hS j
  have hj':=bX (m:=4) hj
  have h1:(0≤S j)=True:=by simp;exact hb.1
  have h2:(S j < 256)=True:=by simp;exact hb.2
  have h3:(S j).toNat < 496:=by omega
  simp only[vR,seval, -List.reduceReplicate]
  refine az (by simp;omega) ?_
  simp only[hj',h1,h2,bt j (by omega),aA .u8 4 _ _ hj,aA .u8 496 _ _ h3,aB .u8 4 _ j hj,vR,seval, -List.reduceReplicate]
  exact ⟨by omega,by omega,by omega,congrArg (fun c=>some (aN.mk true c)) (fV (f:=KB C S) (g:=S))⟩
 ·simp only[vR,seval, -List.reduceReplicate]
  refine aD (by decide) ?_
  simp only[dL,vR,seval, -List.reduceReplicate]
  exact ak aw ⟨rfl,rfl⟩
def xX (x:Int):Int:=aU .xor .u8 (gp .u8 x 1) (IntKind.u8.wrap (cy .u8 x 7*27))
theorem kX (x:Int):cI Tryz.prog 152 [I .u8 x] (I .u8 (xX x)):=Nf x
def powC:Nat→Int
 | 0=>1
 | k+1=>aU .xor .u8 (powC k) (xX (powC k))
def ZN:Nat→Nat→Int
 | 0=>upd (fun _=>0) 0 (ZL 0)
 | k+1=>upd (ZN k) (powC k).toNat (ZL (powC ((255 - k)%255)))
def KC (i:Nat):Int:=ZN 255 i
theorem Ng (x:Int):0≤IntKind.u8.wrap x∧IntKind.u8.wrap x < 256:=by rw[wrap_u8];omega
theorem WY: ∀ k,0≤powC k∧powC k < 256
 | 0=>by simp[powC]
 | k+1=>iL _ _ _
theorem GF:cI Tryz.prog 135 [] (Ag (af .u8 256 KC)):=by
 refine aJ Tryz.func135 rfl (by kernel_rfl) (by simp[Tryz.ntmps135]) rfl rfl ?_
 simp only[Tryz.results135,vR,seval, -List.reduceReplicate]
 refine aE 255 (fun k=>[(0,Ptr 0 0),(1,Ptr 1 0),(2,I .u8 (powC k)),(7,I .i64 k)])
  (fun k=>[(0,⟨true,af .u8 256 (fun _=>0)⟩),(1,⟨true,af .u8 255 (fun i=>if i < k then powC i else 0)⟩)]) _ ?_ ?_ ?_
 ·simp only[bW,powC,Nat.not_lt_zero,if_false,vR,seval, -List.reduceReplicate]
 ·intro j hj
  have hj':((j:Int) < 255)=True:=bX (m:=255) hj
  have fin:af .u8 255 (upd (fun i=>if i < j then powC i else 0) j (powC j))=af .u8 255 (fun i=>if i < j+1 then powC i else 0):=fk
  simp only[vR,seval, -List.reduceReplicate]
  refine az (by simp;omega) ?_
  simp only[hj',aB .u8 255 _ j hj,vR,seval, -List.reduceReplicate]
  refine ⟨by omega, ?_⟩
  refine (kX (powC j)).ax ?_
  simp only[bt j (by omega),vR,seval, -List.reduceReplicate]
  exact ⟨rfl,congrArg (fun c=>some (aN.mk true c)) fin⟩
 ·simp only[vR,seval, -List.reduceReplicate]
  refine aD (by decide) ?_
  simp only[dL,vR,seval, -List.reduceReplicate]
  refine (Cn 0).ax ?_
  simp only[aB .u8 256 _ 0 (by decide),vR,seval, -List.reduceReplicate]
  refine aE 255 (fun k=>[(0,Ptr 0 0),(1,Ptr 1 0),(4,Ptr 5 0),(20,Ag (af .u8 255 powC)),(21,I .i64 k)])
   (fun k=>[(0,⟨true,af .u8 256 (fun _=>0)⟩),(1,⟨true,af .u8 255 powC⟩),(5,⟨true,af .u8 256 (ZN k)⟩)]) _ ?_ ?_ ?_
  ·simp only[bW,ZN,vR,seval, -List.reduceReplicate]
  ·intro j hj
   have hj':((j:Int) < 255)=True:=bX (m:=255) hj
   have hb:=WY j
   have h1:(0≤powC j)=True:=by simp;exact hb.1
   have h2:(powC j < 256)=True:=by simp;exact hb.2
   have h3:(powC j).toNat < 256:=by omega
   have hq:(255 - j)%255 < 255:=Nat.mod_lt _ (by decide)
   have e:(IntKind.i64.wrap ((255:Int) - j)).tmod 255=(((255 - j)%255:Nat):Int):=by
    rw[wrap_i64 _ (by omega) (by omega),Int.tmod_eq_emod_of_nonneg (by omega)];omega
   simp only[vR,seval, -List.reduceReplicate]
   refine az (by simp;omega) ?_
   simp only[hj',e,aA .u8 255 _ j hj,aA .u8 255 _ _ hq,vR,seval, -List.reduceReplicate]
   refine ⟨by omega, ?_⟩
   refine (Cn (powC ((255 - j)%255))).ax ?_
   simp only[h1,h2,bt j (by omega),aB .u8 256 _ _ h3,vR,seval, -List.reduceReplicate]
   exact ⟨by omega,rfl⟩
  ·simp only[vR,seval, -List.reduceReplicate]
   refine aD (by decide) ?_
   simp only[vR,seval, -List.reduceReplicate]
   rfl
def n6 (S:Nat→Int) (i:Nat):Int:=
 let q:=i - i%4
 aU .xor .u8 (aU .xor .u8 (S i) (xX (aU .xor .u8 (S i) (S (q+(i+1)%4))))) (aU .xor .u8 (aU .xor .u8 (aU .xor .u8 (S q) (S (q+1))) (S (q+2))) (S (q+3)))
theorem RD (S:Nat→Int):cI Tryz.prog 138 [Ag (af .u8 16 S)] (Ag (af .u8 16 (n6 S))):=by
 refine aJ Tryz.func138 rfl (by kernel_rfl) (by simp[Tryz.ntmps138]) rfl rfl ?_
 simp only[Tryz.results138,vR,seval, -List.reduceReplicate]
 refine aE 4 (fun k=>[(1,Ptr 0 0),(2,Ptr 1 0),(3,Ptr 2 0),(4,I .i64 ((4*k:Nat):Int))])
  (fun k=>[(0,⟨true,af .u8 16 S⟩),(1,⟨true,af .u8 16 (fun _=>0)⟩),(2,⟨true,af .u8 16 (fun i=>if i < 4*k then n6 S i else 0)⟩)]) _ ?_ ?_ ?_
 ·simp only[bW,Nat.not_lt_zero,Nat.mul_zero,if_false,vR,seval, -List.reduceReplicate]
 ·intro j hj
  have l0:4*j < 16:=by omega
  have l1:4*j+1 < 16:=by omega
  have l2:4*j+2 < 16:=by omega
  have l3:4*j+3 < 16:=by omega
  have g0:(((4*j:Nat):Int) < 16)=True:=by simp;omega
  have g1:(((4*j+1:Nat):Int) < 16)=True:=by simp;omega
  have g2:(((4*j+2:Nat):Int) < 16)=True:=by simp;omega
  have g3:(((4*j+3:Nat):Int) < 16)=True:=by simp;omega
  have w1:IntKind.i64.wrap (((4*j:Nat):Int)+1)=((4*j+1:Nat):Int):=by rw[wrap_i64 _ (by omega) (by omega)];omega
  have w2:IntKind.i64.wrap (((4*j:Nat):Int)+2)=((4*j+2:Nat):Int):=by rw[wrap_i64 _ (by omega) (by omega)];omega
  have w3:IntKind.i64.wrap (((4*j:Nat):Int)+3)=((4*j+3:Nat):Int):=by rw[wrap_i64 _ (by omega) (by omega)];omega
  have w4:IntKind.i64.wrap (((4*j:Nat):Int)+4)=((4*(j+1):Nat):Int):=by rw[wrap_i64 _ (by omega) (by omega)];omega
  simp only[vR,seval, -List.reduceReplicate]
  refine az (by simp;omega) ?_
  simp only[g0,g1,g2,g3,w1,w2,w3,aA .u8 16 _ _ l0,aA .u8 16 _ _ l1,aA .u8 16 _ _ l2,aA .u8 16 _ _ l3,vR,seval, -List.reduceReplicate]
  have gg:af .u8 16 (upd (upd (upd (upd (fun i=>if i < 4*j then n6 S i else 0) (4*j) (n6 S (4*j))) (4*j+1) (n6 S (4*j+1))) (4*j+2) (n6 S (4*j+2))) (4*j+3) (n6 S (4*j+3)))=
    af .u8 16 (fun i=>if i < 4*(j+1) then n6 S i else 0):=aX fun i hi=>by
   simp only[upd]
   repeat' split
   all_goals first
    | rfl
    | (subst_vars;rfl)
    | omega
  have m0:n6 S (4*j)=aU .xor .u8 (aU .xor .u8 (S (4*j)) (xX (aU .xor .u8 (S (4*j)) (S (4*j+1))))) (aU .xor .u8 (aU .xor .u8 (aU .xor .u8 (S (4*j)) (S (4*j+1))) (S (4*j+2))) (S (4*j+3))):=by
   simp only[n6,show 4*j - 4*j%4=4*j by omega,show (4*j+1)%4=1 by omega]
  have m1:n6 S (4*j+1)=aU .xor .u8 (aU .xor .u8 (S (4*j+1)) (xX (aU .xor .u8 (S (4*j+1)) (S (4*j+2))))) (aU .xor .u8 (aU .xor .u8 (aU .xor .u8 (S (4*j)) (S (4*j+1))) (S (4*j+2))) (S (4*j+3))):=by
   simp only[n6,show 4*j+1 - (4*j+1)%4=4*j by omega,show (4*j+1+1)%4=2 by omega]
  have m2:n6 S (4*j+2)=aU .xor .u8 (aU .xor .u8 (S (4*j+2)) (xX (aU .xor .u8 (S (4*j+2)) (S (4*j+3))))) (aU .xor .u8 (aU .xor .u8 (aU .xor .u8 (S (4*j)) (S (4*j+1))) (S (4*j+2))) (S (4*j+3))):=by
   simp only[n6,show 4*j+2 - (4*j+2)%4=4*j by omega,show (4*j+2+1)%4=3 by omega]
  have m3:n6 S (4*j+3)=aU .xor .u8 (aU .xor .u8 (S (4*j+3)) (xX (aU .xor .u8 (S (4*j+3)) (S (4*j))))) (aU .xor .u8 (aU .xor .u8 (aU .xor .u8 (S (4*j)) (S (4*j+1))) (S (4*j+2))) (S (4*j+3))):=by
   simp only[n6,show 4*j+3 - (4*j+3)%4=4*j by omega,show (4*j+3+1)%4=0 by omega,Nat.add_zero]
  refine ⟨by kernel_rfl, ?_⟩
  refine (kX _).ax ?_
  simp only[g0, ← m0,aB .u8 16 _ _ l0,vR,seval, -List.reduceReplicate]
  refine ⟨by omega, ?_⟩
  refine (kX _).ax ?_
  simp only[g1,w1, ← m1,aB .u8 16 _ _ l1,vR,seval, -List.reduceReplicate]
  refine ⟨by omega, ?_⟩
  refine (kX _).ax ?_
  simp only[g2,w2, ← m2,aB .u8 16 _ _ l2,vR,seval, -List.reduceReplicate]
  refine ⟨by omega, ?_⟩
  refine (kX _).ax ?_
  simp only[g3,w3,w4, ← m3,aB .u8 16 _ _ l3,vR,seval, -List.reduceReplicate]
  exact ⟨by omega,congrArg (fun c=>some (aN.mk true c)) gg⟩
 ·simp only[vR,seval, -List.reduceReplicate]
  refine aD (by decide) ?_
  simp only[dL,vR,seval, -List.reduceReplicate]
def g8 (S:Nat→Int) (n:Int):Nat→Int
 | 0=>n
 | k+1=>(g8 S n k+S (15 - k)) / 256
def ja (S:Nat→Int) (n:Int) (i:Nat):Int:=(g8 S n (15 - i)+S i)%256
theorem UT (S:Nat→Int) (n:Int):br (ja S n):=fun i=>by simp only[ja];omega
theorem Qm (S:Nat→Int) (n:Int): ∀ k,k≤15→g8 S n k+g8 (ja S n) 1 k=g8 S (n+1) k
 | 0,_=>rfl
 | k+1,h=>by
  have ih:=Qm S n k (by omega)
  simp only[g8, ← ih,ja,show 15 - (15 - k)=k by omega]
  omega
theorem RE (S:Nat→Int) (n:Int) (i:Nat) (h:i < 16):ja (ja S n) 1 i=ja S (n+1) i:=by
 have:=Qm S n (15 - i) (by omega)
 have e:ja S (n+1) i=(g8 S (n+1) (15 - i)+S i)%256:=rfl
 rw[e, ← this]
 simp only[ja]
 omega
theorem RF (S:Nat→Int) (h:br S) (i:Nat):ja S 0 i=S i:=by
 have: ∀ k,g8 S 0 k=0:=fun k=>by
  induction k with
  | zero=>rfl
  | succ k ih=>simp only[g8,ih];have:=h (15 - k);omega
 simp only[ja,this];have:=h i;omega
theorem zU (S:Nat→Int): ∀ k,(∀ j,j < k→S (15 - j)=255)→g8 S 1 k=1
 | 0,_=>rfl
 | k+1,h=>by
  simp only[g8,zU S k (fun j hj=>h j (by omega)),h k (by omega)];rfl
theorem WZ (S:Nat→Int) (hS:br S) (k:Nat) (h:g8 S 1 k=0): ∀ m,k≤m→g8 S 1 m=0:=fun m hm=>by
 induction m with
 | zero=>rw[show k=0 by omega]at h;exact h
 | succ m ih=>
  by_cases e:k=m+1
  ·rw[← e];exact h
  ·simp only[g8,ih (by omega)];have:=hS (15 - m);omega
theorem Dl (S:Nat→Int) (hS:br S):cI Tryz.prog 123 [Ag (af .u8 16 S)] (Ag (af .u8 16 (ja S 1))):=by
 refine aJ Tryz.func123 rfl (by kernel_rfl) (by simp[Tryz.ntmps123]) rfl rfl ?_
 simp only[Tryz.results123,vR,Value.oneCell',Nat.reduceAdd,Nat.reduceMul,Nat.reduceSub,Nat.reduceLT,Nat.reduceLeDiff,Nat.reduceEqDiff,Int.reduceLE,Int.reduceLT,Int.reduceToNat,Int.reduceNe,Int.reduceEq,Nat.reduceBEq,Nat.reduceDiv,Int.reduceAdd,Int.reduceSub,reduceIte,↓reduceIte,reduceCtorEq]
 refine qE 16 (fun k=> ∀ j,j < k→S (15 - j)=255) (fun k=>[(1,Ptr 0 0),(2,Ptr 1 0),(3,I .i64 (15 - (k:Int)))])
  (fun k=>[(0,⟨true,af .u8 16 (fun i=>if 16≤i+k then 0 else S i)⟩),(1,⟨true,af .u8 16 (fun _=>0)⟩)]) _ ?_ ?_ ?_
 ·refine ⟨fun j hj=>absurd hj (Nat.not_lt_zero j), ?_⟩
  simp only[bW,vR,Value.oneCell',Nat.reduceAdd,Nat.reduceMul,Nat.reduceSub,Nat.reduceLT,Nat.reduceLeDiff,Nat.reduceEqDiff,Int.reduceLE,Int.reduceLT,Int.reduceToNat,Int.reduceNe,Int.reduceEq,Nat.reduceBEq,Nat.reduceDiv,Int.reduceAdd,Int.reduceSub,reduceIte,↓reduceIte,reduceCtorEq]
  exact congrArg (fun c=>some (aN.mk true c)) (aX fun i hi=>by rw[if_neg (by omega)])
 ·intro k hk hinv
  have p:((15:Int) - (k:Int)).toNat=15 - k:=by omega
  have hl:15 - k < 16:=by omega
  have Ys:(0≤(15:Int) - (k:Int))=True:=by simp;omega
  have hc2:((15:Int) - (k:Int) < 16)=True:=by simp;omega
  have hb:=hS (15 - k)
  have hf:(if 16≤15 - k+k then 0 else S (15 - k))=S (15 - k):=if_neg (by omega)
  have hw:IntKind.i64.wrap ((15:Int) - (k:Int) - 1)=15 - ((k+1:Nat):Int):=by rw[wrap_i64 _ (by omega) (by omega)];omega
  have c1:=zU S k hinv
  simp only[vR,Value.oneCell',Nat.reduceAdd,Nat.reduceMul,Nat.reduceSub,Nat.reduceLT,Nat.reduceLeDiff,Nat.reduceEqDiff,Int.reduceLE,Int.reduceLT,Int.reduceToNat,Int.reduceNe,Int.reduceEq,Nat.reduceBEq,Nat.reduceDiv,Int.reduceAdd,Int.reduceSub,reduceIte,↓reduceIte,reduceCtorEq]
  refine az (by simp;omega) ?_
  simp only[p,Ys,hc2,aA .u8 16 _ _ hl,hf,aB .u8 16 _ _ hl,ay,vR,Value.oneCell',Nat.reduceAdd,Nat.reduceMul,Nat.reduceSub,Nat.reduceLT,Nat.reduceLeDiff,Nat.reduceEqDiff,Int.reduceLE,Int.reduceLT,Int.reduceToNat,Int.reduceNe,Int.reduceEq,Nat.reduceBEq,Nat.reduceDiv,Int.reduceAdd,Int.reduceSub,reduceIte,↓reduceIte,reduceCtorEq]
  refine ⟨by omega, ?_⟩
  by_cases acx:S (15 - k)=255
  ·have hz:IntKind.u8.wrap (S (15 - k)+1)=0:=by rw[acx];rfl
   simp only[hz,vR,Value.oneCell',Nat.reduceAdd,Nat.reduceMul,Nat.reduceSub,Nat.reduceLT,Nat.reduceLeDiff,Nat.reduceEqDiff,Int.reduceLE,Int.reduceLT,Int.reduceToNat,Int.reduceNe,Int.reduceEq,Nat.reduceBEq,Nat.reduceDiv,Int.reduceAdd,Int.reduceSub,reduceIte,↓reduceIte,reduceCtorEq]
   refine aD (by decide) ?_
   simp only[hw,vR,Value.oneCell',Nat.reduceAdd,Nat.reduceMul,Nat.reduceSub,Nat.reduceLT,Nat.reduceLeDiff,Nat.reduceEqDiff,Int.reduceLE,Int.reduceLT,Int.reduceToNat,Int.reduceNe,Int.reduceEq,Nat.reduceBEq,Nat.reduceDiv,Int.reduceAdd,Int.reduceSub,reduceIte,↓reduceIte,reduceCtorEq]
   refine ⟨fun j hj=> ?_,congrArg (fun c=>some (aN.mk true c)) (aX fun i hi=> ?_)⟩
   ·rcases Nat.lt_or_ge j k with h | h
    ·exact hinv j h
    ·rw[show j=k by omega];exact acx
   ·simp only[upd]
    split
    ·rw[if_pos (by omega)]
    ·split
     ·rw[if_pos (by omega)]
     ·rw[if_neg (by omega)]
  ·have hz:IntKind.u8.wrap (S (15 - k)+1)=S (15 - k)+1:=kK _ (by omega) (by omega)
   have c2:g8 S 1 (k+1)=0:=by simp only[g8,c1];omega
   simp only[hz,vR,Value.oneCell',Nat.reduceAdd,Nat.reduceMul,Nat.reduceSub,Nat.reduceLT,Nat.reduceLeDiff,Nat.reduceEqDiff,Int.reduceLE,Int.reduceLT,Int.reduceToNat,Int.reduceNe,Int.reduceEq,Nat.reduceBEq,Nat.reduceDiv,Int.reduceAdd,Int.reduceSub,reduceIte,↓reduceIte,reduceCtorEq]
   refine az (by simp;omega) ?_
   simp only[vR,Value.oneCell',Nat.reduceAdd,Nat.reduceMul,Nat.reduceSub,Nat.reduceLT,Nat.reduceLeDiff,Nat.reduceEqDiff,Int.reduceLE,Int.reduceLT,Int.reduceToNat,Int.reduceNe,Int.reduceEq,Nat.reduceBEq,Nat.reduceDiv,Int.reduceAdd,Int.reduceSub,reduceIte,↓reduceIte,reduceCtorEq]
   refine congrArg Ag (aX fun i hi=> ?_)
   simp only[upd,ja]
   split
   ·rename_i e
    rw[e,show 15 - (15 - k)=k by omega,c1];omega
   ·split
    ·have e:=hinv (15 - i) (by omega)
     rw[show 15 - (15 - i)=i by omega]at e
     rw[zU S (15 - i) (fun j hj=>hinv j (by omega)),e];rfl
    ·rw[WZ S hS (k+1) c2 (15 - i) (by omega)]
     have:=hS i;omega
 ·intro hinv
  simp only[vR,Value.oneCell',Nat.reduceAdd,Nat.reduceMul,Nat.reduceSub,Nat.reduceLT,Nat.reduceLeDiff,Nat.reduceEqDiff,Int.reduceLE,Int.reduceLT,Int.reduceToNat,Int.reduceNe,Int.reduceEq,Nat.reduceBEq,Nat.reduceDiv,Int.reduceAdd,Int.reduceSub,reduceIte,↓reduceIte,reduceCtorEq]
  refine aD (by decide) ?_
  simp only[vR,Value.oneCell',Nat.reduceAdd,Nat.reduceMul,Nat.reduceSub,Nat.reduceLT,Nat.reduceLeDiff,Nat.reduceEqDiff,Int.reduceLE,Int.reduceLT,Int.reduceToNat,Int.reduceNe,Int.reduceEq,Nat.reduceBEq,Nat.reduceDiv,Int.reduceAdd,Int.reduceSub,reduceIte,↓reduceIte,reduceCtorEq]
  refine congrArg Ag (aX fun i hi=> ?_)
  have e:=hinv (15 - i) (by omega)
  rw[show 15 - (15 - i)=i by omega]at e
  simp only[ja]
  rw[zU S (15 - i) (fun j hj=>hinv j (by omega)),e];rfl
theorem Fh (S:Nat→Int) (hS:br S) (n:Int) (h0:0≤n) (h1:n < 18446744073709551616):cI Tryz.prog 114 [Ag (af .u8 16 S),I .u64 n] (Ag (af .u8 16 (ja S n))):=by
 have hcb: ∀ k,0≤g8 S n k∧g8 S n k < 18446744073709551616:=fun k=>by
  induction k with
  | zero=>exact ⟨h0,h1⟩
  | succ k ih=>have:=hS (15 - k);simp only[g8];omega
 refine aJ Tryz.func114 rfl (by kernel_rfl) (by simp[Tryz.ntmps114]) rfl rfl ?_
 simp only[Tryz.results114,vR,Value.oneCell',Nat.reduceAdd,Nat.reduceMul,Nat.reduceSub,Nat.reduceLT,Nat.reduceLeDiff,Nat.reduceEqDiff,Int.reduceLE,Int.reduceLT,Int.reduceToNat,Int.reduceNe,Int.reduceEq,Nat.reduceBEq,Nat.reduceDiv,Int.reduceAdd,Int.reduceSub,reduceIte,↓reduceIte,reduceCtorEq]
 refine aE 16 (fun k=>[(2,Ptr 0 0),(4,Ptr 1 0),(5,I .u64 (g8 S n k)),(6,I .i64 (15 - (k:Int)))])
  (fun k=>[(0,⟨true,af .u8 16 (fun i=>if 16≤i+k then ja S n i else S i)⟩),(1,⟨true,af .u8 16 (fun _=>0)⟩)]) _ ?_ ?_ ?_
 ·simp only[bW,g8,vR,Value.oneCell',Nat.reduceAdd,Nat.reduceMul,Nat.reduceSub,Nat.reduceLT,Nat.reduceLeDiff,Nat.reduceEqDiff,Int.reduceLE,Int.reduceLT,Int.reduceToNat,Int.reduceNe,Int.reduceEq,Nat.reduceBEq,Nat.reduceDiv,Int.reduceAdd,Int.reduceSub,reduceIte,↓reduceIte,reduceCtorEq]
  exact congrArg (fun c=>some (aN.mk true c)) (aX fun i hi=>by rw[if_neg (by omega)])
 ·intro k hk
  have p:((15:Int) - (k:Int)).toNat=15 - k:=by omega
  have hl:15 - k < 16:=by omega
  have Ys:(0≤(15:Int) - (k:Int))=True:=by simp;omega
  have hc2:((15:Int) - (k:Int) < 16)=True:=by simp;omega
  have hb:=hS (15 - k)
  have acy:=hcb k
  have hf:(if 16≤15 - k+k then ja S n (15 - k) else S (15 - k))=S (15 - k):=if_neg (by omega)
  have hw:IntKind.i64.wrap ((15:Int) - (k:Int) - 1)=15 - ((k+1:Nat):Int):=by rw[wrap_i64 _ (by omega) (by omega)];omega
  have r1:(g8 S n k).tmod 256=g8 S n k%256:=Int.tmod_eq_emod_of_nonneg acy.1
  have r2:(g8 S n k).tdiv 256=g8 S n k / 256:=Int.tdiv_eq_ediv_of_nonneg acy.1
  have w0:IntKind.u64.wrap (S (15 - k))=S (15 - k):=au _ (by omega) (by omega)
  have w1:IntKind.u64.wrap (g8 S n k%256+S (15 - k))=g8 S n k%256+S (15 - k):=au _ (by omega) (by omega)
  have w2:IntKind.u8.wrap (g8 S n k%256+S (15 - k))=ja S n (15 - k):=by rw[wrap_u8,ja,show 15 - (15 - k)=k by omega];omega
  have r3:(g8 S n k%256+S (15 - k)).tdiv 256=(g8 S n k%256+S (15 - k)) / 256:=Int.tdiv_eq_ediv_of_nonneg (by omega)
  have w3:IntKind.u64.wrap (g8 S n k / 256)=g8 S n k / 256:=au _ (by omega) (by omega)
  have w4:IntKind.u64.wrap ((g8 S n k%256+S (15 - k)) / 256)=(g8 S n k%256+S (15 - k)) / 256:=au _ (by omega) (by omega)
  have w5:IntKind.u64.wrap (g8 S n k / 256+(g8 S n k%256+S (15 - k)) / 256)=g8 S n (k+1):=by rw[au _ (by omega) (by omega),g8];omega
  simp only[vR,Value.oneCell',Nat.reduceAdd,Nat.reduceMul,Nat.reduceSub,Nat.reduceLT,Nat.reduceLeDiff,Nat.reduceEqDiff,Int.reduceLE,Int.reduceLT,Int.reduceToNat,Int.reduceNe,Int.reduceEq,Nat.reduceBEq,Nat.reduceDiv,Int.reduceAdd,Int.reduceSub,reduceIte,↓reduceIte,reduceCtorEq]
  refine az (by simp;omega) ?_
  simp only[p,Ys,hc2,aA .u8 16 _ _ hl,hf,r1,r2,r3,w0,w1,w2,w3,w4,w5,hw,aB .u8 16 _ _ hl,vR,Value.oneCell',Nat.reduceAdd,Nat.reduceMul,Nat.reduceSub,Nat.reduceLT,Nat.reduceLeDiff,Nat.reduceEqDiff,Int.reduceLE,Int.reduceLT,Int.reduceToNat,Int.reduceNe,Int.reduceEq,Nat.reduceBEq,Nat.reduceDiv,Int.reduceAdd,Int.reduceSub,reduceIte,↓reduceIte,reduceCtorEq]
  refine ⟨by omega,congrArg (fun c=>some (aN.mk true c)) (aX fun i hi=> ?_)⟩
  simp only[upd]
  split
  ·rename_i e;subst e;rw[if_pos (by omega)]
  ·split
   ·rw[if_pos (by omega)]
   ·rw[if_neg (by omega)]
 ·simp only[vR,Value.oneCell',Nat.reduceAdd,Nat.reduceMul,Nat.reduceSub,Nat.reduceLT,Nat.reduceLeDiff,Nat.reduceEqDiff,Int.reduceLE,Int.reduceLT,Int.reduceToNat,Int.reduceNe,Int.reduceEq,Nat.reduceBEq,Nat.reduceDiv,Int.reduceAdd,Int.reduceSub,reduceIte,↓reduceIte,reduceCtorEq]
  refine aD (by decide) ?_
  simp only[vR,Value.oneCell',Nat.reduceAdd,Nat.reduceMul,Nat.reduceSub,Nat.reduceLT,Nat.reduceLeDiff,Nat.reduceEqDiff,Int.reduceLE,Int.reduceLT,Int.reduceToNat,Int.reduceNe,Int.reduceEq,Nat.reduceBEq,Nat.reduceDiv,Int.reduceAdd,Int.reduceSub,reduceIte,↓reduceIte,reduceCtorEq]
theorem Cp (t:Nat):(t:Int).tmod 4=((t%4:Nat):Int):=(Int.ofNat_tmod t 4).symm
theorem acz (t:Nat) (h:t < 9223372036854775808):IntKind.i64.wrap ((t:Int).tdiv 4)=((t / 4:Nat):Int):=C' t 4 h
theorem KD (f:Nat→Int):splice [Sum.inl (Value.int IntKind.u8 0),Sum.inl (Value.int IntKind.u8 0),Sum.inl (Value.int IntKind.u8 0),Sum.inl (Value.int IntKind.u8 0)] 0 (af .u8 4 f)=af .u8 4 f:=rfl
theorem ZO (f:Nat→Int):splice (splice (splice (splice [Sum.inl (Value.int IntKind.u8 0),Sum.inl (Value.int IntKind.u8 0),Sum.inl (Value.int IntKind.u8 0),Sum.inl (Value.int IntKind.u8 0)] 0 [Sum.inl (Value.int .u8 (f 0))])
    1 [Sum.inl (Value.int .u8 (f 1))]) 2 [Sum.inl (Value.int .u8 (f 2))]) 3 [Sum.inl (Value.int .u8 (f 3))]=af .u8 4 f:=rfl
def Nh (C:Nat→Int) (x:Int):Int:=C x.toNat
def wL (C W:Nat→Int) (p:Int) (i j:Nat):Int:=
  if i%8=0 then (if j=0 then aU .xor .u8 (Nh C (W (4*(i - 1)+1))) p else Nh C (W (4*(i - 1)+(j+1)%4)))
  else if i%8=4 then Nh C (W (4*(i - 1)+j)) else W (4*(i - 1)+j)
def xl:Nat→Int
  | 0=>1
  | k+1=>if (8+k)%8=0 then xX (xl k) else xl k
def fQ (C K:Nat→Int):Nat→Nat→Int
  | 0=>fun i=>if i < 32 then K i else 0
  | k+1=>fun i=>if 4*(8+k)≤i∧i < 4*(8+k)+4 then aU .xor .u8 (fQ C K k (i - 32)) (wL C (fQ C K k) (xl k) (8+k) (i - 4*(8+k))) else fQ C K k i
theorem KE {C K:Nat→Int} (hK:br K): ∀ k,br (fQ C K k)
  | 0=>fun i=>by
    simp only[fQ];split
    · exact hK i
    · omega
  | k+1=>fun i=>by
    simp only[fQ];split
    · exact iL _ _ _
    · exact KE hK k i
def xY (C W:Nat→Int) (m:Nat):Int:=if 256≤m then W (m - 256) else C m
theorem Ni (C K:Nat→Int) (hC:br C) (hK:br K):bf Tryz.prog 136 [Ptr 0 0,Ag (af .u8 32 K)] 1 (lk [(0,⟨true,af .u8 496 C⟩)])
    (fun v out=>v= .inr []∧out=lk [(0,⟨true,af .u8 496 (xY C (fQ C K 52))⟩)]):=by
  refine av Tryz.func136 rfl (by kernel_rfl) (by simp[Tryz.ntmps136]) Tryz.qV (by simp[AV.ok,CV.ok,SV.names];exact aC aw) dG (dH aw) ?_
  simp only[Tryz.results136,vR,seval, -List.reduceReplicate]
  refine aE 32 (fun k=>[(0,Ptr 0 0),(3,Ptr 1 0),(4,Ptr 2 0),(13,Ag (af .u8 32 K)),(14,I .i64 k)])
    (fun k=>[(0,⟨true,af .u8 496 C⟩),(1,⟨true,af .u8 32 K⟩),(2,⟨true,af .u8 240 (fun i=>if i < k then K i else 0)⟩)]) _ ?_ ?_ ?_
  · simp only[bW,Nat.not_lt_zero,if_false,vR,seval, -List.reduceReplicate]
  · intro j hj
    have hj':((j:Int) < 32)=True:=bX (m:=32) hj
    have q1:(((j / 4:Nat):Int) < 60)=True:=by simp;omega
    have q2:(((j%4:Nat):Int) < 4)=True:=by simp;omega
    have hl:j / 4*4+j%4 < 240:=by omega
    simp only[vR,seval, -List.reduceReplicate]
    refine az (by simp;omega) ?_
    have q0:j / 4*4+j%4=j:=by omega
    have fin:af .u8 240 (upd (fun i=>if i < j then K i else 0) j (K j))=af .u8 240 (fun i=>if i < j+1 then K i else 0):=fk
    simp only[hj',acz j (by omega),Cp,q0,q1,q2,aW,aA .u8 32 _ j hj,aB .u8 240 _ j (by omega),bt j (by omega),fin,vR,seval, -List.reduceReplicate]
    omega
  · simp only[vR,seval, -List.reduceReplicate]
    refine aD (by decide) ?_
    simp only[vR,seval, -List.reduceReplicate]
    refine aE 52 (fun k=>[(0,Ptr 0 0),(3,Ptr 1 0),(4,Ptr 2 0),(7,I .u8 (xl k)),(8,I .i64 ((8+k:Nat):Int))])
      (fun k=>[(0,⟨true,af .u8 496 C⟩),(1,⟨true,af .u8 32 K⟩),(2,⟨true,af .u8 240 (fQ C K k)⟩)]) _ ?_ ?_ ?_
    · simp only[bW,xl,fQ,vR,seval, -List.reduceReplicate]
    · intro k hk
      have w1:IntKind.i64.wrap (((8+k:Nat):Int) - 1)=((7+k:Nat):Int):=by rw[wrap_i64 _ (by omega) (by omega)];omega
      have q1:(((7+k:Nat):Int) < 60)=True:=by simp;omega
      have sl:=tf .u8 240 (fQ C K k) ((7+k)*4) 4 (by omega)
      have hW:=KE (C:=C) hK k
      simp only[vR,seval, -List.reduceReplicate]
      refine az (by simp;omega) ?_
      simp only[w1,q1,aW,sl,ah,vR,seval, -List.reduceReplicate]
      refine ⟨by omega, ?_⟩
      by_cases h0:(8+k)%8=0
      have c0:((((8+k)%8:Nat):Int)==0)=true:=by rw[h0];rfl
      simp only[Iy,c0,KD,aA .u8 4 _ 0 (by decide),aA .u8 4 _ 1 (by decide),aA .u8 4 _ 2 (by decide),aA .u8 4 _ 3 (by decide),vR,seval, -List.reduceReplicate]
      refine ⟨by simp[splice],by simp[splice],by simp[splice], ?_⟩
      have hb:=ZO (fun i=>fQ C K k ((7+k)*4+(i+1)%4))
      simp only[show (0+1)%4=1 from rfl,show (1+1)%4=2 from rfl,show (2+1)%4=3 from rfl,show (3+1)%4=0 from rfl,Nat.add_zero]at hb
      rw[hb]
      have et:af .u8 4 (upd (KB C (fun i=>fQ C K k ((7+k)*4+(i+1)%4))) 0 (aU .xor .u8 (KB C (fun i=>fQ C K k ((7+k)*4+(i+1)%4)) 0) (xl k)))=af .u8 4 (wL C (fQ C K k) (xl k) (8+k)):=aX fun i hi=>by
        have e:4*(8+k - 1)=(7+k)*4:=by omega
        simp only[upd,wL,if_pos h0,KB,Nh,e,show (0+1)%4=1 from rfl]
      have ep:xl (k+1)=xX (xl k):=by simp only[xl,if_pos h0]
      refine (sR C (fun i=>fQ C K k ((7+k)*4+(i+1)%4)) (fun i=>hW _)).cW (fun _=>0) (bS (rw:=true) (by simp only[ae,vR,seval, -List.reduceReplicate]) aw) aw (by rfl) ?_
      simp only[KD,aA .u8 4 _ 0 (by decide),aB .u8 4 _ 0 (by decide),vR,seval, -List.reduceReplicate]
      refine (kX (xl k)).ax ?_
      simp only[et, ← ep,vR,seval, -List.reduceReplicate]
      rotate_left 1
      have c0:((((8+k)%8:Nat):Int)==0)=false:=by simp;omega
      by_cases h4:(8+k)%8=4
      have c4:((((8+k)%8:Nat):Int)==4)=true:=by rw[h4];rfl
      have et:af .u8 4 (KB C (fun i=>fQ C K k ((7+k)*4+i)))=af .u8 4 (wL C (fQ C K k) (xl k) (8+k)):=aX fun i hi=>by
        have e:4*(8+k - 1)=(7+k)*4:=by omega
        simp only[wL,if_neg h0,if_pos h4,KB,Nh,e]
      have ep:xl (k+1)=xl k:=by simp only[xl,if_neg h0]
      simp only[Iy,c0,c4,KD,vR,seval, -List.reduceReplicate]
      refine (sR C (fun i=>fQ C K k ((7+k)*4+i)) (fun i=>hW _)).cW (fun _=>0) (bS (rw:=true) (by simp only[ae,vR,seval, -List.reduceReplicate]) aw) aw (by rfl) ?_
      simp only[et,vR,seval, -List.reduceReplicate]
      rotate_left 1
      have c4:((((8+k)%8:Nat):Int)==4)=false:=by simp;omega
      have et:af .u8 4 (fun i=>fQ C K k ((7+k)*4+i))=af .u8 4 (wL C (fQ C K k) (xl k) (8+k)):=aX fun i hi=>by
        have e:4*(8+k - 1)=(7+k)*4:=by omega
        simp only[wL,if_neg h0,if_neg h4,e]
      have ep:xl (k+1)=xl k:=by simp only[xl,if_neg h0]
      simp only[Iy,c0,c4,KD,vR,seval, -List.reduceReplicate]
      all_goals
        refine aE 4 (fun j=>[(0,Ptr 0 0),(3,Ptr 1 0),(4,Ptr 2 0),(7,I .u8 (xl (k+1))),(8,I .i64 ((8+k:Nat):Int)),(9,Ptr 14 0),(61,I .i64 j)])
          (fun j=>[(0,⟨true,af .u8 496 C⟩),(1,⟨true,af .u8 32 K⟩),(2,⟨true,af .u8 240 (fun m=>if 4*(8+k)≤m∧m < 4*(8+k)+j then fQ C K (k+1) m else fQ C K k m)⟩),
            (14,⟨true,af .u8 4 (wL C (fQ C K k) (xl k) (8+k))⟩)]) _ ?_ ?_ ?_
      all_goals first
        | (simp only[bW,et,ep,vR,seval, -List.reduceReplicate]
           exact congrArg (fun c=>some (aN.mk true c)) (aX fun i hi=>(if_neg (by omega)).symm))
        | (intro j hj
           have w8:IntKind.i64.wrap (((8+k:Nat):Int) - 8)=(k:Int):=by rw[wrap_i64 _ (by omega) (by omega)];omega
           have a1:((k:Int) < 60)=True:=by simp;omega
           have a2:(((8+k:Nat):Int) < 60)=True:=by simp;omega
           have a3:((j:Int) < 4)=True:=bX (m:=4) hj
           have l1:k*4+j < 240:=by omega
           have l2:(8+k)*4+j < 240:=by omega
           have f1:(if 4*(8+k)≤k*4+j∧k*4+j < 4*(8+k)+j then fQ C K (k+1) (k*4+j) else fQ C K k (k*4+j))=fQ C K k (k*4+j):=if_neg (by omega)
           have f2:aU .xor .u8 (fQ C K k (k*4+j)) (wL C (fQ C K k) (xl k) (8+k) j)=fQ C K (k+1) ((8+k)*4+j):=by
             show _=(if 4*(8+k)≤(8+k)*4+j∧(8+k)*4+j < 4*(8+k)+4 then aU .xor .u8 (fQ C K k ((8+k)*4+j - 32)) (wL C (fQ C K k) (xl k) (8+k) ((8+k)*4+j - 4*(8+k))) else fQ C K k ((8+k)*4+j))
             rw[if_pos (by omega),show (8+k)*4+j - 32=k*4+j by omega,show (8+k)*4+j - 4*(8+k)=j by omega]
           simp only[vR,seval, -List.reduceReplicate]
           refine az (by simp;omega) ?_
           simp only[w8,a1,a2,a3,aW,aA .u8 240 _ _ l1,f1,aA .u8 4 _ j hj,f2,aB .u8 240 _ _ l2,bt j (by omega),vR,seval, -List.reduceReplicate]
           refine ⟨by kernel_rfl,by omega,congrArg (fun c=>some (aN.mk true c)) (aX fun i hi=> ?_)⟩
           simp only[upd]
           split
           · rename_i e;subst e;rw[if_pos (by omega)]
           · split
             · rw[if_pos (by omega)]
             · rw[if_neg (by omega)])
        | (simp only[vR,seval, -List.reduceReplicate]
           refine aD (by decide) ?_
           simp only[vR,seval, -List.reduceReplicate]
           refine ⟨by rw[wrap_i64 _ (by omega) (by omega)];exact congrArg (fun x=>some (I .i64 x)) (by omega),congrArg (fun c=>some (aN.mk true c)) (aX fun i hi=> ?_)⟩
           show _=(if 4*(8+k)≤i∧i < 4*(8+k)+4 then aU .xor .u8 (fQ C K k (i - 32)) (wL C (fQ C K k) (xl k) (8+k) (i - 4*(8+k))) else fQ C K k i)
           by_cases hc:4*(8+k)≤i∧i < 4*(8+k)+4
           · rw[if_pos hc,if_pos hc];exact if_pos hc
           · rw[if_neg hc,if_neg hc])
    · simp only[vR,seval, -List.reduceReplicate]
      refine aD (by decide) ?_
      simp only[vR,seval, -List.reduceReplicate]
      generalize fQ C K 52=W
      refine aE 60 (fun k=>[(0,Ptr 0 0),(79,Ag (af .u8 240 W)),(80,I .i64 k)])
        (fun k=>[(0,⟨true,af .u8 496 (fun m=>if 256≤m∧m < 256+4*k then W (m - 256) else C m)⟩)]) _ ?_ ?_ ?_
      · simp only[bW,vR,seval, -List.reduceReplicate]
        exact congrArg (fun c=>some (aN.mk true c)) (aX fun i hi=>(if_neg (by omega)).symm)
      · intro k hk
        have sl:=tf .u8 240 W (k*4) 4 (by omega)
        have a1:((k:Int) < 60)=True:=bX (m:=60) hk
        have a2:(((k / 4:Nat):Int) < 15)=True:=by simp;omega
        have w2:IntKind.i64.wrap (((k%4:Nat):Int)*4)=((k%4*4:Nat):Int):=by rw[wrap_i64 _ (by omega) (by omega)];omega
        have a3:(((k%4*4:Nat):Int)≤16)=True:=by simp;omega
        simp only[vR,seval, -List.reduceReplicate]
        refine az (by simp;omega) ?_
        have hif:(if 16=k%4*4 then 256+k / 4*16 else 256+k / 4*16+k%4*4)=256+4*k:=by rw[if_neg (by omega)];omega
        have hmin:Nat.min 4 (16 - k%4*4)=4:=Nat.min_eq_left (by omega)
        simp only[a1,aW,sl,ah,Cp,acz k (by omega),a2,w2,a3,KD,hif,vR,seval, -List.reduceReplicate]
        refine ⟨by kernel_rfl,by kernel_rfl, ?_⟩
        refine vG Tryz.bP Tryz.bR (cs:=af .u8 496 (fun m=>if 256≤m∧m < 256+4*k then W (m - 256) else C m)) (bx:=⟨true,af .u8 4 (fun i=>W (k*4+i))⟩) (news:=af .u8 4 (fun i=>W (k*4+i)))
          (by simp only[ae,vR,seval, -List.reduceReplicate]) (by simp only[ae,vR,seval, -List.reduceReplicate]) (by rw[ah,hmin]) (fun j u h=>by simpa using h) (by rw[ah,hmin];omega) ?_
        rw[mK .u8 496 4 (256+4*k) _ _ (by omega)]
        simp only[bt k (by omega),vR,seval, -List.reduceReplicate]
        refine congrArg (fun c=>some (aN.mk true c)) (aX fun i hi=> ?_)
        by_cases h1:256+4*k≤i∧i < 256+4*k+4
        · rw[if_pos h1,if_pos (by omega),show k*4+(i - (256+4*k))=i - 256 by omega]
        · rw[if_neg h1]
          by_cases h2:256≤i∧i < 256+4*k
          · rw[if_pos h2,if_pos (by omega)]
          · rw[if_neg h2,if_neg (by omega)]
      · simp only[vR,seval, -List.reduceReplicate]
        refine aD (by decide) ?_
        simp only[vR,seval, -List.reduceReplicate]
        refine xA (cs:=af .u8 496 (xY C W)) (by decide) rfl ?_ aw ⟨rfl,rfl⟩
        simp only[vR,seval, -List.reduceReplicate]
        refine congrArg (fun c=>some (aN.mk true c)) (aX fun i hi=> ?_)
        simp only[xY]
        by_cases h:256≤i
        · rw[if_pos h,if_pos (by omega)]
        · rw[if_neg h,if_neg (by omega)]
def zG (C:Nat→Int) (r i:Nat):Int:=C (256+r*16+i)
def uV (C S:Nat→Int):Nat→Nat→Int
 | 0=>ru S (zG C 0)
 | k+1=>ru (n6 (pN C (uV C S k))) (zG C (k+1))
def UU (C S:Nat→Int):Nat→Int:=ru (pN C (uV C S 13)) (zG C 14)
theorem Cq (a b:Nat→Int):br (ru a b):=fun i=>iL .xor (a i) (b i)
theorem KF (C S:Nat→Int): ∀ k,br (uV C S k)
 | 0=>Cq _ _
 | _+1=>Cq _ _
theorem RG (C S:Nat→Int):bf Tryz.prog 122 [Ptr 0 0,Ag (af .u8 16 S)] 1 (lk [(0,⟨false,af .u8 496 C⟩)])
  (fun v out=>v=Ag (af .u8 16 (UU C S))∧out=fun _=>none):=by
 have ks: ∀ r,r < 15→((af .u8 496 C).drop (256+r*16)).take 16=af .u8 16 (zG C r):=fun r hr=>tf .u8 496 C (256+r*16) 16 (by omega)
 have k0:=ks 0 (by decide)
 have k14:=ks 14 (by decide)
 simp only[Nat.zero_mul,Nat.add_zero,Nat.reduceMul,Nat.reduceAdd]at k0 k14
 refine av Tryz.func122 rfl (by kernel_rfl) (by simp[Tryz.ntmps122]) Tryz.qQ (by simp[AV.ok,CV.ok,SV.names];exact aC aw) dG (dH aw) ?_
 simp only[Tryz.results122,k0,vR,seval, -List.reduceReplicate]
 refine ⟨by kernel_rfl, ?_⟩
 refine cI.draw (uU S (zG C 0)) Tryz.qW ?_
 simp only[vR,seval, -List.reduceReplicate]
 refine aE 13 (fun k=>[(0,Ptr 0 0),(4,Ptr 2 0),(5,Ptr 10 0),(6,I .i64 ((1+k:Nat):Int))])
  (fun k=>[(0,⟨false,af .u8 496 C⟩),(2,⟨true,af .u8 16 (fun _=>0)⟩),(10,⟨true,af .u8 16 (uV C S k)⟩)]) _ ?_ ?_ ?_
 ·simp only[bW,uV,vR,seval, -List.reduceReplicate]
 ·intro k hk
  have a1:(((1+k:Nat):Int) < 15)=True:=by simp;omega
  simp only[vR,seval, -List.reduceReplicate]
  refine az (by simp;omega) ?_
  simp only[ks (1+k) (by omega),a1,aW,vR,seval, -List.reduceReplicate]
  refine ⟨by kernel_rfl, ?_⟩
  refine (Fg C (uV C S k) (KF C S k)).cQ (fun _=>0) (bS (rw:=false) (by simp only[ae,vR,seval, -List.reduceReplicate]) aw) aw (by rfl) (fun M h n _=>h (Ptr 0 0) (by simp)) ?_
  simp only[vR,seval, -List.reduceReplicate]
  refine cI.draw (RD (pN C (uV C S k))) Tryz.JL ?_
  simp only[ks (1+k) (by omega),a1,aW,vR,seval, -List.reduceReplicate]
  refine ⟨by omega, ?_⟩
  refine cI.draw (uU (n6 (pN C (uV C S k))) (zG C (1+k))) Tryz.qW ?_
  have w1:IntKind.i64.wrap (((1+k:Nat):Int)+1)=((1+(k+1):Nat):Int):=by rw[wrap_i64 _ (by omega) (by omega)];omega
  simp only[w1,vR,seval, -List.reduceReplicate]
  rw[Nat.add_comm 1 k]
  rfl
 ·simp only[vR,seval, -List.reduceReplicate]
  refine aD (by decide) ?_
  simp only[k14,vR,seval, -List.reduceReplicate]
  refine ⟨by kernel_rfl, ?_⟩
  refine (Fg C (uV C S 13) (KF C S 13)).cQ (fun _=>0) (bS (rw:=false) (by simp only[ae,vR,seval, -List.reduceReplicate]) aw) aw (by rfl) (fun M h n _=>h (Ptr 0 0) (by simp)) ?_
  simp only[k14,vR,seval, -List.reduceReplicate]
  refine cI.draw (uU (pN C (uV C S 13)) (zG C 14)) Tryz.qW ?_
  simp only[vR,seval, -List.reduceReplicate]
  exact ak aw ⟨rfl,rfl⟩
def n7 (i:Nat):Int:=if 0≤i∧i < 0+256 then KC (i - 0) else 0
def mr (K:Nat→Int):Nat→Int:=xY n7 (fQ n7 K 52)
theorem Qn: ∀ k,br (ZN k)
 | 0=>fun i=>by
  simp only[ZN,upd];split
  ·exact iL _ _ _
  ·omega
 | k+1=>fun i=>by
  simp only[ZN,upd];split
  ·exact iL _ _ _
  ·exact Qn k i
theorem UW:br n7:=fun i=>by
 simp only[n7];split
 ·exact Qn 255 _
 ·omega
theorem W5 (k:IntKind) (n:Nat):List.replicate n (Sum.inl (Value.int k 0):SV)=af k n (fun _=>0):=by
 apply List.ext_getElem?
 intro i
 by_cases h:i < n
 ·rw[aA k n _ i h];simp[h]
 ·rw[List.getElem?_eq_none (by simp;omega),List.getElem?_eq_none (by rw[ah];omega)]
theorem UX:splice (af .u8 496 (fun _=>0)) 0 (af .u8 256 KC)=af .u8 496 n7:=mK .u8 496 256 0 _ _ (by decide)
theorem wN (K:Nat→Int) (hK:br K):cI Tryz.prog 121 [Ag (af .u8 32 K)] (Ag (af .u8 496 (mr K))):=by
 refine aJ Tryz.func121 rfl (by kernel_rfl) (by simp[Tryz.ntmps121]) rfl rfl ?_
 simp only[Tryz.results121,vR,seval, -List.reduceReplicate]
 refine GF.ax ?_
 simp only[W5,UX,vR,seval, -List.reduceReplicate]
 refine (Ni n7 K UW hK).V0 (t:=4) (by simp only[ae,vR,seval, -List.reduceReplicate]) aw aw rfl (by rfl) ?_
 simp only[vR,seval, -List.reduceReplicate]
 rfl
theorem Cr (t:Nat):(t:Int).tmod 32=((t%32:Nat):Int):=(Int.ofNat_tmod t 32).symm
def sm (n:Nat):Nat:=if n%32 < 4 then (if n%4=3 then n - 7 else n - 3) else n - 4
def rv:Nat→Int
 | 0=>1
 | n+1=>if 32≤n∧n%32=0 then n5 (rv n) 2 else rv n
def VF (S W:Nat→Int) (p:Int) (n:Nat):Int:=
 let b:=W (sm n)
 let c:=if n%32 < 4∨16≤n%32∧n%32 < 20 then S b.toNat else b
 aU .xor .u8 (W (n - 32)) (if n%32=0 then aU .xor .u8 c (IntKind.u8.wrap p) else c)
def cM (S K:Nat→Int):Nat→Nat→Int
 | 0=>fun _=>0
 | n+1=>upd (cM S K n) n (if n < 32 then K n else VF S (cM S K n) (rv n) n)
theorem xZ: ∀ n,0≤rv n∧rv n < 256
 | 0=>by simp[rv]
 | n+1=>by
  simp only[rv];split
  ·exact wK (xZ n) (by decide)
  ·exact xZ n
theorem Ct {S K:Nat→Int} (hK:br K): ∀ n,br (cM S K n)
 | 0=>fun _=>by simp[cM]
 | n+1=>fun i=>by
  simp only[cM,upd];split
  ·split
   ·exact hK n
   ·simp only[VF];exact iL .xor (cM S K n (n - 32)) _
  ·exact Ct hK n i
theorem lY (K S:Nat→Int) (hK:br K):cI Tryz.prog 112 [Ag (af .u8 32 K),Ag (af .u8 256 S)] (Ag (af .u8 240 (cM S K 240))):=by
 refine aJ Tryz.func112 rfl (by kernel_rfl) (by simp[Tryz.ntmps112]) rfl rfl ?_
 simp only[Tryz.results112,vR,seval, -List.reduceReplicate]
 refine aE 240 (fun k=>[(2,Ptr 0 0),(3,Ptr 1 0),(4,Ptr 2 0),(5,Ptr 3 0),(6,I .i64 (rv k)),(7,I .i64 k)])
  (fun k=>[(0,⟨true,af .u8 32 K⟩),(1,⟨true,af .u8 256 S⟩),(2,⟨true,af .u8 240 (fun _=>0)⟩),(3,⟨true,af .u8 240 (cM S K k)⟩)]) _ ?_ ?_ ?_
 ·simp only[bW,rv,cM,vR,seval, -List.reduceReplicate]
 ·intro n hn
  have hW:=Ct (S:=S) hK n
  have hp:=xZ n
  have l1:((n:Int) < 240)=True:=bX (m:=240) hn
  have ew: ∀ v,cM S K (n+1)=upd (cM S K n) n v→af .u8 240 (upd (cM S K n) n v)=af .u8 240 (cM S K (n+1)):=fun v h=>by rw[h]
  simp only[vR,seval, -List.reduceReplicate]
  refine az (by simp;omega) ?_
  by_cases Nj:n < 32
  ·have l2:((n:Int) < 32)=True:=bX (m:=32) Nj
   have d1:rv (n+1)=rv n:=by simp only[rv];rw[if_neg (by omega)]
   have d2:cM S K (n+1)=upd (cM S K n) n (K n):=by simp only[cM,if_pos Nj]
   simp only[vR,seval, -List.reduceReplicate]
   refine az (by simp;omega) ?_
   simp only[l1,l2,aW,aA .u8 32 _ n Nj,aB .u8 240 _ n hn,bt n (by omega),d1,d2,vR,seval, -List.reduceReplicate]
   omega
  ·have w4:IntKind.i64.wrap ((n:Int) - 4)=((n - 4:Nat):Int):=by rw[wrap_i64 _ (by omega) (by omega)];omega
   have w3:IntKind.i64.wrap (((n - 4:Nat):Int)+1)=((n - 3:Nat):Int):=by rw[wrap_i64 _ (by omega) (by omega)];omega
   have w7:IntKind.i64.wrap ((n:Int) - 7)=((n - 7:Nat):Int):=by rw[wrap_i64 _ (by omega) (by omega)];omega
   have Nk:IntKind.i64.wrap ((n:Int) - 32)=((n - 32:Nat):Int):=by rw[wrap_i64 _ (by omega) (by omega)];omega
   have l3:(((n - 3:Nat):Int) < 240)=True:=by simp;omega
   have l4:(((n - 4:Nat):Int) < 240)=True:=by simp;omega
   have l7:(((n - 7:Nat):Int) < 240)=True:=by simp;omega
   have ZP:(((n - 32:Nat):Int) < 240)=True:=by simp;omega
   have g3:=aA .u8 240 (cM S K n) (n - 3) (by omega)
   have g4:=aA .u8 240 (cM S K n) (n - 4) (by omega)
   have g7:=aA .u8 240 (cM S K n) (n - 7) (by omega)
   have ZQ:=aA .u8 240 (cM S K n) (n - 32) (by omega)
   simp only[vR,seval, -List.reduceReplicate]
   refine aD (by simp;omega) ?_
   simp only[vR,seval, -List.reduceReplicate]
   have hb: ∀ m,(0≤cM S K n m)=True∧(cM S K n m < 256)=True∧(af .u8 256 S)[(cM S K n m).toNat]? =some (Sum.inl (Value.int .u8 (S (cM S K n m).toNat))):=fun m=>by
    have:=hW m
    exact ⟨by simp;exact this.1,by simp;exact this.2,aA .u8 256 S _ (by omega)⟩
   obtain ⟨x1,x2,x3⟩:=hb (n - 3)
   obtain ⟨y1,y2,y3⟩:=hb (n - 4)
   obtain ⟨z1,z2,z3⟩:=hb (n - 7)
   by_cases c4:n%32 < 4
   ·have e4:decide (((n%32:Nat):Int) < 4)=true:=by simp;omega
    by_cases c3:n%4=3
    ·have e3:((((n%4:Nat):Int))==3)=true:=by rw[c3];rfl
     have e0:((((n%32:Nat):Int))==0)=false:=by simp;omega
     have d1:rv (n+1)=rv n:=by simp only[rv];rw[if_neg (by omega)]
     have d2:cM S K (n+1)=upd (cM S K n) n (aU .xor .u8 (cM S K n (n - 32)) (S (cM S K n (n - 7)).toNat)):=by
      simp only[cM,if_neg Nj,VF,sm,if_pos c4,if_pos c3,if_pos (Or.inl c4:n%32 < 4∨16≤n%32∧n%32 < 20),if_neg (show ¬ n%32=0 by omega)]
     simp only[Cr,Cp,w4,w3,w7,Nk,e4,e3,e0,l1,l3,l4,l7,ZP,aW,g3,g4,g7,ZQ,z1,z2,z3,bt n (by omega),aB .u8 240 _ n hn,d1,d2,vR,seval, -List.reduceReplicate]
     omega
    ·have e3:((((n%4:Nat):Int))==3)=false:=by simp;omega
     by_cases c0:n%32=0
     ·have e0:((((n%32:Nat):Int))==0)=true:=by rw[c0];rfl
      have d1:rv (n+1)=n5 (rv n) 2:=by simp only[rv];rw[if_pos (by omega)]
      have d2:cM S K (n+1)=upd (cM S K n) n (aU .xor .u8 (cM S K n (n - 32)) (aU .xor .u8 (S (cM S K n (n - 3)).toNat) (IntKind.u8.wrap (rv n)))):=by
       simp only[cM,if_neg Nj,VF,sm,if_pos c4,if_neg c3,if_pos (Or.inl c4:n%32 < 4∨16≤n%32∧n%32 < 20),if_pos c0]
      simp only[Cr,Cp,w4,w3,w7,Nk,e4,e3,e0,l1,l3,l4,l7,ZP,aW,g3,g4,g7,ZQ,x1,x2,x3,bt n (by omega),aB .u8 240 _ n hn,d1,d2,vR,seval, -List.reduceReplicate]
      refine (lL (rv n) 2 hp (by decide)).ax ?_
      simp only[Cr,Cp,w4,w3,w7,Nk,e4,e3,e0,l1,l3,l4,l7,ZP,aW,g3,g4,g7,ZQ,x1,x2,x3,bt n (by omega),aB .u8 240 _ n hn,d1,d2,vR,seval, -List.reduceReplicate]
      exact ⟨by omega,rfl⟩
     ·have e0:((((n%32:Nat):Int))==0)=false:=by simp;omega
      have d1:rv (n+1)=rv n:=by simp only[rv];rw[if_neg (by omega)]
      have d2:cM S K (n+1)=upd (cM S K n) n (aU .xor .u8 (cM S K n (n - 32)) (S (cM S K n (n - 3)).toNat)):=by
       simp only[cM,if_neg Nj,VF,sm,if_pos c4,if_neg c3,if_pos (Or.inl c4:n%32 < 4∨16≤n%32∧n%32 < 20),if_neg c0]
      simp only[Cr,Cp,w4,w3,w7,Nk,e4,e3,e0,l1,l3,l4,l7,ZP,aW,g3,g4,g7,ZQ,x1,x2,x3,bt n (by omega),aB .u8 240 _ n hn,d1,d2,vR,seval, -List.reduceReplicate]
      omega
   ·have e4:decide (((n%32:Nat):Int) < 4)=false:=by simp;omega
    have e0:((((n%32:Nat):Int))==0)=false:=by simp;omega
    have d1:rv (n+1)=rv n:=by simp only[rv];rw[if_neg (by omega)]
    by_cases c16:16≤n%32
    ·have VE:decide (16≤((n%32:Nat):Int))=true:=by simp;omega
     by_cases c20:n%32 < 20
     ·have Yp:decide (((n%32:Nat):Int) < 20)=true:=by simp;omega
      have d2:cM S K (n+1)=upd (cM S K n) n (aU .xor .u8 (cM S K n (n - 32)) (S (cM S K n (n - 4)).toNat)):=by
       simp only[cM,if_neg Nj,VF,sm,if_neg c4,if_pos (Or.inr ⟨c16,c20⟩:n%32 < 4∨16≤n%32∧n%32 < 20),if_neg (show ¬ n%32=0 by omega)]
      simp only[Cr,Cp,w4,w3,w7,Nk,e4,VE,Yp,e0,l1,l3,l4,l7,ZP,aW,g3,g4,g7,ZQ,y1,y2,y3,bt n (by omega),aB .u8 240 _ n hn,d1,d2,vR,seval, -List.reduceReplicate]
      omega
     ·have Yp:decide (((n%32:Nat):Int) < 20)=false:=by simp;omega
      have d2:cM S K (n+1)=upd (cM S K n) n (aU .xor .u8 (cM S K n (n - 32)) (cM S K n (n - 4))):=by
       simp only[cM,if_neg Nj,VF,sm,if_neg c4,if_neg (show ¬ (n%32 < 4∨16≤n%32∧n%32 < 20) by omega),if_neg (show ¬ n%32=0 by omega)]
      simp only[Cr,Cp,w4,w3,w7,Nk,e4,VE,Yp,e0,l1,l3,l4,l7,ZP,aW,g3,g4,g7,ZQ,y1,y2,y3,bt n (by omega),aB .u8 240 _ n hn,d1,d2,vR,seval, -List.reduceReplicate]
      omega
    ·have VE:decide (16≤((n%32:Nat):Int))=false:=by simp;omega
     have d2:cM S K (n+1)=upd (cM S K n) n (aU .xor .u8 (cM S K n (n - 32)) (cM S K n (n - 4))):=by
      simp only[cM,if_neg Nj,VF,sm,if_neg c4,if_neg (show ¬ (n%32 < 4∨16≤n%32∧n%32 < 20) by omega),if_neg (show ¬ n%32=0 by omega)]
     simp only[Cr,Cp,w4,w3,w7,Nk,e4,VE,e0,l1,l3,l4,l7,ZP,aW,g3,g4,g7,ZQ,y1,y2,y3,bt n (by omega),aB .u8 240 _ n hn,d1,d2,vR,seval, -List.reduceReplicate]
     omega
 ·simp only[vR,seval, -List.reduceReplicate]
  refine aD (by decide) ?_
  simp only[vR,seval, -List.reduceReplicate]
def uW (S O:Nat→Int) (i:Nat):Int:=S (O ((i+4*(i%4))%16)).toNat
def RH (M:Nat→Int) (i:Nat):Int:=
 aU .xor .u8 (aU .xor .u8 (IntKind.u8.wrap (n5 (M i) 2)) (IntKind.u8.wrap (n5 (M (i - i%4+(i+1)%4)) 3))) (aU .xor .u8 (M (i - i%4+(i+2)%4)) (M (i - i%4+(i+3)%4)))
def kY (B W S:Nat→Int):Nat→Nat→Int
 | 0=>ru B W
 | r+1=>fun i=>aU .xor .u8 (if r+1=14 then uW S (kY B W S r) i else RH (uW S (kY B W S r)) i) (W (16*(r+1)+i))
theorem Cu (B W S:Nat→Int): ∀ r,br (kY B W S r)
 | 0=>Cq _ _
 | r+1=>fun i=>by simp only[kY];exact iL .xor _ (W (16*(r+1)+i))
theorem uX (B W S:Nat→Int) (hS:br S): ∀ r:Nat,r≤14→cI Tryz.prog 113 [Ag (af .u8 16 B),Ag (af .u8 240 W),Ag (af .u8 256 S),I .i64 r] (Ag (af .u8 16 (kY B W S r)))
 | 0,_=>by
  refine aJ Tryz.func113 rfl (by kernel_rfl) (by simp[Tryz.ntmps113]) rfl rfl ?_
  simp only[Tryz.results113,vR,seval, -List.reduceReplicate]
  refine az (by simp) ?_
  simp only[vR,seval, -List.reduceReplicate]
  refine aE 16 (fun k=>[(4,Ptr 0 0),(5,Ptr 1 0),(8,Ptr 3 0),(9,I .i64 k)])
   (fun k=>[(0,⟨true,af .u8 16 (fun i=>if i < k then ru B W i else B i)⟩),(1,⟨true,af .u8 240 W⟩),(3,⟨true,af .u8 16 (fun _=>0)⟩)]) _ ?_ ?_ ?_
  ·simp only[bW,Nat.not_lt_zero,if_false,vR,seval, -List.reduceReplicate]
  ·intro k hk
   have l1:((k:Int) < 16)=True:=bX (m:=16) hk
   have l2:((k:Int) < 240)=True:=eq_true (by omega)
   simp only[vR,seval, -List.reduceReplicate]
   refine az (by simp;omega) ?_
   simp only[l1,l2,aW,aA .u8 16 _ k hk,aA .u8 240 _ k (by omega),Nat.lt_irrefl,if_false,aB .u8 16 _ k hk,bt k (by omega),vR,seval, -List.reduceReplicate]
   exact ⟨by kernel_rfl,by omega,congrArg (fun c=>some (aN.mk true c)) (fV (f:=ru B W) (g:=B))⟩
  ·simp only[vR,seval, -List.reduceReplicate]
   refine aD (by decide) ?_
   simp only[dL,vR,seval, -List.reduceReplicate]
   rfl
 | r+1,hr=>by
  have ih:=uX B W S hS r (by omega)
  have hO:=Cu B W S r
  have wr:IntKind.i64.wrap (((r+1:Nat):Int) - 1)=(r:Int):=by rw[wrap_i64 _ (by omega) (by omega)];omega
  refine aJ Tryz.func113 rfl (by kernel_rfl) (by simp[Tryz.ntmps113]) rfl rfl ?_
  simp only[Tryz.results113,vR,seval, -List.reduceReplicate]
  refine aD (by simp) ?_
  simp only[wr,vR,seval, -List.reduceReplicate]
  refine ih.ax ?_
  generalize hOe:kY B W S r=O at*
  simp only[vR,seval, -List.reduceReplicate]
  refine aE 16 (fun k=>[(3,I .i64 ((r+1:Nat):Int)),(5,Ptr 1 0),(6,Ptr 2 0),(8,Ptr 3 0),(10,Ptr 12 0),(11,Ptr 14 0),(12,Ptr 15 0),(13,I .i64 k)])
   (fun k=>[(1,⟨true,af .u8 240 W⟩),(2,⟨true,af .u8 256 S⟩),(3,⟨true,af .u8 16 (fun _=>0)⟩),(12,⟨true,af .u8 16 O⟩),(14,⟨true,af .u8 16 (fun i=>if i < k then uW S O i else 0)⟩),(15,⟨true,af .u8 16 (fun _=>0)⟩)]) _ ?_ ?_ ?_
  ·simp only[bW,Nat.not_lt_zero,if_false,vR,seval, -List.reduceReplicate]
  ·intro k hk
   have e:(IntKind.i64.wrap ((k:Int)+IntKind.i64.wrap (4*((k:Int).tmod 4)))).tmod 16=(((k+4*(k%4))%16:Nat):Int):=by
    have h1:((k:Int).tmod 4)=((k%4:Nat):Int):=Cp k
    rw[h1,wrap_i64 (4*((k%4:Nat):Int)) (by omega) (by omega),wrap_i64 _ (by omega) (by omega),Int.tmod_eq_emod_of_nonneg (by omega)]
    omega
   have hm:(k+4*(k%4))%16 < 16:=Nat.mod_lt _ (by decide)
   have lm:((((k+4*(k%4))%16:Nat):Int) < 16)=True:=by simp;omega
   have l1:((k:Int) < 16)=True:=bX (m:=16) hk
   have hb:=hO ((k+4*(k%4))%16)
   have h1:(0≤O ((k+4*(k%4))%16))=True:=by simp;exact hb.1
   have h2:(O ((k+4*(k%4))%16) < 256)=True:=by simp;exact hb.2
   have h3:(O ((k+4*(k%4))%16)).toNat < 256:=by omega
   have fin:af .u8 16 (upd (fun i=>if i < k then uW S O i else 0) k (uW S O k))=af .u8 16 (fun i=>if i < k+1 then uW S O i else 0):=fk
   simp only[vR,seval, -List.reduceReplicate]
   refine az (by simp;omega) ?_
   simp only[e,l1,lm,h1,h2,aW,aA .u8 16 _ _ hm,aA .u8 256 _ _ h3,aB .u8 16 _ k hk,bt k (by omega),vR,seval, -List.reduceReplicate]
   exact ⟨by omega,congrArg (fun c=>some (aN.mk true c)) fin⟩
  ·simp only[vR,seval, -List.reduceReplicate]
   refine aD (by decide) ?_
   simp only[dL,vR,seval, -List.reduceReplicate]
   have hM:br (uW S O):=fun i=>hS _
   generalize hMe:uW S O=M at*
   refine aE 16 (fun k=>[(3,I .i64 ((r+1:Nat):Int)),(5,Ptr 1 0),(8,Ptr 3 0),(11,Ptr 14 0),(12,Ptr 15 0),(14,I .i64 k)])
    (fun k=>[(1,⟨true,af .u8 240 W⟩),(3,⟨true,af .u8 16 (fun _=>0)⟩),(14,⟨true,af .u8 16 M⟩),(15,⟨true,af .u8 16 (fun i=>if i < k then kY B W S (r+1) i else 0)⟩)]) _ ?_ ?_ ?_
   ·simp only[bW,Nat.not_lt_zero,if_false,vR,seval, -List.reduceReplicate]
   ·intro k hk
    have l1:((k:Int) < 16)=True:=bX (m:=16) hk
    have wc:IntKind.i64.wrap ((k:Int) - ((k%4:Nat):Int))=((k - k%4:Nat):Int):=by rw[wrap_i64 _ (by omega) (by omega)];omega
    have p1:IntKind.i64.wrap ((k:Int)+1)=((k+1:Nat):Int):=bt k (by omega)
    have p2:IntKind.i64.wrap ((k:Int)+2)=((k+2:Nat):Int):=by rw[wrap_i64 _ (by omega) (by omega)];omega
    have p3:IntKind.i64.wrap ((k:Int)+3)=((k+3:Nat):Int):=by rw[wrap_i64 _ (by omega) (by omega)];omega
    have pd: ∀ d,IntKind.i64.wrap (((k - k%4:Nat):Int)+(((k+d)%4:Nat):Int))=((k - k%4+(k+d)%4:Nat):Int):=fun d=>by rw[wrap_i64 _ (by omega) (by omega)];omega
    have ld: ∀ d,(((k - k%4+(k+d)%4:Nat):Int) < 16)=True:=fun d=>eq_true (by omega)
    have gd: ∀ d,(af .u8 16 M)[k - k%4+(k+d)%4]? =some (Sum.inl (Value.int .u8 (M (k - k%4+(k+d)%4)))):=fun d=>aA .u8 16 M _ (by omega)
    have wM: ∀ m,IntKind.i64.wrap (M m)=M m:=fun m=>by have:=hM m;rw[wrap_i64 _ (by omega) (by omega)]
    have Sh:IntKind.i64.wrap (16*((r+1:Nat):Int))=((16*(r+1):Nat):Int):=by rw[wrap_i64 _ (by omega) (by omega)];omega
    have wrk:IntKind.i64.wrap (((16*(r+1):Nat):Int)+(k:Int))=((16*(r+1)+k:Nat):Int):=by rw[wrap_i64 _ (by omega) (by omega)];omega
    have lrk:(((16*(r+1)+k:Nat):Int) < 240)=True:=eq_true (by omega)
    have grk:(af .u8 240 W)[16*(r+1)+k]? =some (Sum.inl (Value.int .u8 (W (16*(r+1)+k)))):=aA .u8 240 W _ (by omega)
    have em:aU .xor .u8 (aU .xor .u8 (IntKind.u8.wrap (fP (M k) 2 8).2.2) (IntKind.u8.wrap (fP (M (k - k%4+(k+1)%4)) 3 8).2.2)) (aU .xor .u8 (M (k - k%4+(k+2)%4)) (M (k - k%4+(k+3)%4)))=RH M k:=rfl
    have uu: ∀ (f:Nat→Int) (x y:Int),upd (upd f k x) k y=upd f k y:=fun f x y=>by funext m;simp only[upd];split<;>rfl
    simp only[vR,seval, -List.reduceReplicate]
    refine az (by simp;omega) ?_
    simp only[Cp,l1,aW,aA .u8 16 _ k hk,wc,p1,p2,p3,pd,ld,gd,wM,vR,seval, -List.reduceReplicate]
    refine ⟨by kernel_rfl, ?_⟩
    refine (lL (M k) 2 (hM k) (by decide)).ax ?_
    simp only[wM,vR,seval, -List.reduceReplicate]
    refine (lL (M (k - k%4+(k+1)%4)) 3 (hM _) (by decide)).ax ?_
    simp only[em,l1,aW,aB .u8 16 _ k hk,vR,seval, -List.reduceReplicate]
    refine ⟨by omega, ?_⟩
    by_cases X8:r+1=14
    ·have WB:(((r+1:Nat):Int)==14)=true:=by rw[X8];rfl
     have ev:kY B W S (r+1) k=aU .xor .u8 (M k) (W (16*(r+1)+k)):=by simp only[kY,if_pos X8,hOe,hMe]
     have fin:af .u8 16 (upd (fun i=>if i < k then kY B W S (r+1) i else 0) k (kY B W S (r+1) k))=af .u8 16 (fun i=>if i < k+1 then kY B W S (r+1) i else 0):=fk
     rw[ev]at fin
     simp only[WB,l1,aW,aA .u8 16 _ k hk,aB .u8 16 _ k hk,ay,uu,Sh,wrk,lrk,grk,p1,fin,vR,seval, -List.reduceReplicate]
     exact ⟨by omega,by kernel_rfl,by omega⟩
    ·have WB:(((r+1:Nat):Int)==14)=false:=by simp;omega
     have ev:kY B W S (r+1) k=aU .xor .u8 (RH M k) (W (16*(r+1)+k)):=by simp only[kY,if_neg X8,hOe,hMe]
     have fin:af .u8 16 (upd (fun i=>if i < k then kY B W S (r+1) i else 0) k (kY B W S (r+1) k))=af .u8 16 (fun i=>if i < k+1 then kY B W S (r+1) i else 0):=fk
     rw[ev]at fin
     simp only[WB,l1,aW,aA .u8 16 _ k hk,aB .u8 16 _ k hk,ay,uu,Sh,wrk,lrk,grk,p1,fin,vR,seval, -List.reduceReplicate]
     exact ⟨by kernel_rfl,by omega⟩
   ·simp only[vR,seval, -List.reduceReplicate]
    refine aD (by decide) ?_
    simp only[dL,vR,seval, -List.reduceReplicate]
def acA:List Int:=[99,124,119,123,242,107,111,197,48,1,103,43,254,215,171,118,202,130,201,125,250,89,71,240,173,212,162,175,156,164,114,192,183,253,147,38,54,63,247,204,52,165,229,241,113,216,49,21,4,199,35,195,24,150,5,154,7,18,128,226,235,39,178,117,9,131,44,26,27,110,90,160,82,59,214,179,41,227,47,132,83,209,0,237,32,252,177,91,106,203,190,57,74,76,88,207,208,239,170,251,67,77,51,133,69,249,2,127,80,60,159,168,81,163,64,143,146,157,56,245,188,182,218,33,16,255,243,210,205,12,19,236,95,151,68,23,196,167,126,61,100,93,25,115,96,129,79,220,34,42,144,136,70,238,184,20,222,94,11,219,224,50,58,10,73,6,36,92,194,211,172,98,145,149,228,121,231,200,55,109,141,213,78,169,108,86,244,234,101,122,174,8,186,120,37,46,28,166,180,198,232,221,116,31,75,189,139,138,112,62,181,102,72,3,246,14,97,53,87,185,134,193,29,158,225,248,152,17,105,217,142,148,155,30,135,233,206,85,40,223,140,161,137,13,191,230,66,104,65,153,45,15,176,84,187,22]
theorem W6:((List.range 256).all fun i=>decide (dM i=acA.getD i 0))=true:=by kernel_rfl
theorem W7:((List.range 256).all fun i=>decide (KC i=acA.getD i 0))=true:=by kernel_rfl
theorem ZR {i:Nat} (h:i < 256):KC i=dM i:=by
 have h1:=of_decide_eq_true (List.all_eq_true.1 W6 i (List.mem_range.2 h))
 have h2:=of_decide_eq_true (List.all_eq_true.1 W7 i (List.mem_range.2 h))
 rw[h1,h2]
theorem Cv:br dM:=fun i=>by simp only[dM];exact Ng _
theorem GG {x:Int} (h:0≤x∧x < 256):Nh n7 x=dM x.toNat:=by
 simp only[Nh,n7]
 rw[if_pos (by omega),Nat.sub_zero,ZR (by omega)]
def wO (x:Nat):Nat:=(x <<< 1)%256 ^^^ (if x.testBit 7 then 27 else 0)
theorem Qo:((List.range 256).all fun x=>decide (xX (x:Int)=((wO x:Nat):Int))&&(decide (n5 (x:Int) 2=((wO x:Nat):Int))&&decide (n5 (x:Int) 3=((wO x ^^^ x:Nat):Int))))=true:=by kernel_rfl
theorem zV (x:Nat):wO x < 256:=by
 unfold wO
 exact Nat.xor_lt_two_pow (n:=8) (by omega) (by split<;>decide)
theorem UY (x y:Nat):wO (x ^^^ y)=wO x ^^^ wO y:=by
 have h1:((x ^^^ y) <<< 1)%256=(x <<< 1)%256 ^^^ (y <<< 1)%256:=by
  rw[Nat.shiftLeft_xor_distrib]
  exact Nat.xor_mod_two_pow (n:=8)
 unfold wO
 rw[h1,Nat.testBit_xor]
 apply Nat.eq_of_testBit_eq
 intro j
 cases x.testBit 7<;>cases y.testBit 7<;>simp only[Nat.testBit_xor,Bool.xor_false,Bool.false_xor,Bool.xor_true,Bool.not_true,Bool.not_false,if_true,if_false,Nat.zero_testBit,Bool.false_eq_true]<;>
  cases (x <<< 1%256).testBit j<;>cases (y <<< 1%256).testBit j<;>cases (27:Nat).testBit j<;>rfl
theorem GH {x:Int} (h:0≤x∧x < 256): ∃ n:Nat,x=(n:Int)∧n < 256:=⟨x.toNat,by omega,by omega⟩
theorem Dm (x y:Nat) (hx:x < 256) (hy:y < 256):aU .xor .u8 (x:Int) (y:Int)=((x ^^^ y:Nat):Int):=(V1 x y hx hy).2.2
theorem xlt {x y:Nat} (hx:x < 256) (hy:y < 256):x ^^^ y < 256:=Nat.xor_lt_two_pow (n:=8) hx hy
theorem wP (a b c d:Nat) (ha:a < 256) (hb:b < 256) (hc:c < 256) (hd:d < 256) (all:Nat) (hall:all=a ^^^ b ^^^ c ^^^ d):
  aU .xor .u8 (aU .xor .u8 (a:Int) (xX (aU .xor .u8 (a:Int) (b:Int)))) (all:Int)=
   aU .xor .u8 (aU .xor .u8 (IntKind.u8.wrap (n5 (a:Int) 2)) (IntKind.u8.wrap (n5 (b:Int) 3))) (aU .xor .u8 (c:Int) (d:Int)):=by
 have t:=fun (x:Nat) (hx:x < 256)=>List.all_eq_true.1 Qo x (List.mem_range.2 hx)
 have t1: ∀ x:Nat,x < 256→xX (x:Int)=((wO x:Nat):Int):=fun x hx=>by have:=t x hx;simp only[Bool.and_eq_true,decide_eq_true_eq]at this;exact this.1
 have t2: ∀ x:Nat,x < 256→n5 (x:Int) 2=((wO x:Nat):Int):=fun x hx=>by have:=t x hx;simp only[Bool.and_eq_true,decide_eq_true_eq]at this;exact this.2.1
 have t3: ∀ x:Nat,x < 256→n5 (x:Int) 3=((wO x ^^^ x:Nat):Int):=fun x hx=>by have:=t x hx;simp only[Bool.and_eq_true,decide_eq_true_eq]at this;exact this.2.2
 have hal:all < 256:=by rw[hall];exact xlt (xlt (xlt ha hb) hc) hd
 have l1:=zV a
 have l3:=xlt (zV b) hb
 rw[Dm a b ha hb,t1 _ (xlt ha hb),Dm _ _ ha (zV _),Dm _ _ (xlt ha (zV _)) hal,t2 a ha,t3 b hb,kK _ (by omega) (by omega),kK _ (by omega) (by omega),
  Dm _ _ l1 l3,Dm c d hc hd,Dm _ _ (xlt l1 l3) (xlt hc hd),UY,hall]
 congr 1
 apply Nat.eq_of_testBit_eq
 intro j
 simp only[Nat.testBit_xor]
 cases a.testBit j<;>cases b.testBit j<;>cases c.testBit j<;>cases d.testBit j<;>cases (wO a).testBit j<;>cases (wO b).testBit j<;>rfl
theorem ZS (M:Nat→Int) (hM:br M) (i:Nat):n6 M i=RH M i:=by
 have q:=fun m=>GH (hM m)
 simp only[n6,RH]
 have hi:i=i - i%4+i%4:=by omega
 generalize i - i%4=c at*
 obtain ⟨x0,e0,h0⟩:=q c
 obtain ⟨x1,e1,h1⟩:=q (c+1)
 obtain ⟨x2,e2,h2⟩:=q (c+2)
 obtain ⟨x3,e3,h3⟩:=q (c+3)
 have cs:i%4=0∨i%4=1∨i%4=2∨i%4=3:=by omega
 have e4:aU .xor .u8 (aU .xor .u8 (aU .xor .u8 (M c) (M (c+1))) (M (c+2))) (M (c+3))=((x0 ^^^ x1 ^^^ x2 ^^^ x3:Nat):Int):=by
  rw[e0,e1,e2,e3,Dm _ _ h0 h1,Dm _ _ (xlt h0 h1) h2,Dm _ _ (xlt (xlt h0 h1) h2) h3]
 rw[e4]
 have ac: ∀ a b c d:Nat,a ^^^ b ^^^ c ^^^ d=b ^^^ c ^^^ d ^^^ a:=fun a b c d=>by
  apply Nat.eq_of_testBit_eq
  intro j
  simp only[Nat.testBit_xor]
  cases a.testBit j<;>cases b.testBit j<;>cases c.testBit j<;>cases d.testBit j<;>rfl
 rcases cs with r | r | r | r
 ·rw[show (i+1)%4=1 by omega,show (i+2)%4=2 by omega,show (i+3)%4=3 by omega,show M i=M c by rw[hi,r];rfl]
  simp only[e0,e1,e2,e3]
  exact wP x0 x1 x2 x3 h0 h1 h2 h3 _ rfl
 ·rw[show (i+1)%4=2 by omega,show (i+2)%4=3 by omega,show (i+3)%4=0 by omega,show M i=M (c+1) by rw[hi,r]]
  simp only[Nat.add_zero,e0,e1,e2,e3]
  exact wP x1 x2 x3 x0 h1 h2 h3 h0 _ (ac _ _ _ _)
 ·rw[show (i+1)%4=3 by omega,show (i+2)%4=0 by omega,show (i+3)%4=1 by omega,show M i=M (c+2) by rw[hi,r]]
  simp only[Nat.add_zero,e0,e1,e2,e3]
  exact wP x2 x3 x0 x1 h2 h3 h0 h1 _ ((ac _ _ _ _).trans (ac _ _ _ _))
 ·rw[show (i+1)%4=0 by omega,show (i+2)%4=1 by omega,show (i+3)%4=2 by omega,show M i=M (c+3) by rw[hi,r]]
  simp only[Nat.add_zero,e0,e1,e2,e3]
  exact wP x3 x0 x1 x2 h3 h0 h1 h2 _ (((ac _ _ _ _).trans (ac _ _ _ _)).trans (ac _ _ _ _))
theorem zW (C K:Nat→Int) (k m:Nat) (h:m < 4*(8+k)): ∀ d,fQ C K (k+d) m=fQ C K k m
 | 0=>rfl
 | d+1=>by
  have ih:=zW C K k m h d
  show (if 4*(8+(k+d))≤m∧m < 4*(8+(k+d))+4 then _ else fQ C K (k+d) m)=_
  rw[if_neg (by omega),ih]
theorem GI (S K:Nat→Int) (n m:Nat) (h:m < n): ∀ d,cM S K (n+d) m=cM S K n m
 | 0=>rfl
 | d+1=>by
  have ih:=GI S K n m h d
  show upd (cM S K (n+d)) (n+d) _ m=_
  rw[bj _ _ _ _ (by omega),ih]
theorem W8 {x:Int} (h:0≤x∧x < 256):xX x=n5 x 2:=by
 obtain ⟨n,rfl,hn⟩:=GH h
 have:=List.all_eq_true.1 Qo n (List.mem_range.2 hn)
 simp only[Bool.and_eq_true,decide_eq_true_eq]at this
 rw[this.1,this.2.1]
theorem Yt: ∀ k,xl k=rv (4*(8+k))
 | 0=>by kernel_rfl
 | k+1=>by
  have ih:=Yt k
  have e:rv (4*(8+(k+1)))=if (4*(8+k))%32=0 then n5 (rv (4*(8+k))) 2 else rv (4*(8+k)):=by
   rw[show 4*(8+(k+1))=4*(8+k)+1+1+1+1 by omega]
   generalize hq:4*(8+k)=q
   have h4:q%4=0:=by omega
   have Nj:32≤q:=by omega
   show (if 32≤q+1+1+1∧(q+1+1+1)%32=0 then _ else (if 32≤q+1+1∧(q+1+1)%32=0 then _ else (if 32≤q+1∧(q+1)%32=0 then _ else (if 32≤q∧q%32=0 then n5 (rv q) 2 else rv q))))=_
   rw[if_neg (by omega),if_neg (by omega),if_neg (by omega)]
   by_cases hz:q%32=0
   ·rw[if_pos ⟨Nj,hz⟩,if_pos hz]
   ·rw[if_neg (by omega),if_neg hz]
  have hb:=xZ (4*(8+k))
  rw[e, ← ih]
  rw[← ih]at hb
  simp only[xl]
  by_cases h:(8+k)%8=0
  ·rw[if_pos h,if_pos (by omega),W8 hb]
  ·rw[if_neg h,if_neg (by omega)]
theorem ZT (K:Nat→Int) (hK:br K): ∀ m,m < 240→fQ n7 K 52 m=cM dM K 240 m:=fun m=>by
 induction m using Nat.strongRecOn with
 | _ m ih=>
  intro hm
  have hF:cM dM K 240 m=if m < 32 then K m else VF dM (cM dM K m) (rv m) m:=by
   have:=GI dM K (m+1) m (by omega) (239 - m)
   rw[show m+1+(239 - m)=240 by omega]at this
   rw[this];exact ay _ _ _
  have hFs: ∀ j,j < m→cM dM K m j=cM dM K 240 j:=fun j hj=>by
   have:=GI dM K m j hj (240 - m)
   rw[show m+(240 - m)=240 by omega]at this
   exact this.symm
  have hb:=Ct (S:=dM) hK 240
  by_cases Nj:m < 32
  ·rw[hF,if_pos Nj]
   have:=zW n7 K 0 m (by omega) 52
   rw[Nat.zero_add]at this
   rw[this];exact if_pos Nj
  ·obtain ⟨k,j,hk,hj⟩: ∃ k j,m=4*(8+k)+j∧j < 4:=⟨m / 4 - 8,m%4,by omega,by omega⟩
   have ais:k < 52:=by omega
   have hGs: ∀ q,q < 4*(8+k)→fQ n7 K k q=cM dM K 240 q:=fun q hq=>by
    have:=zW n7 K k q hq (52 - k)
    rw[show k+(52 - k)=52 by omega]at this
    rw[← this];exact ih q (by omega) (by omega)
   have hG:fQ n7 K 52 m=aU .xor .u8 (fQ n7 K k (m - 32)) (wL n7 (fQ n7 K k) (xl k) (8+k) j):=by
    have:=zW n7 K (k+1) m (by omega) (51 - k)
    rw[show k+1+(51 - k)=52 by omega]at this
    rw[this]
    show (if 4*(8+k)≤m∧m < 4*(8+k)+4 then aU .xor .u8 (fQ n7 K k (m - 32)) (wL n7 (fQ n7 K k) (xl k) (8+k) (m - 4*(8+k))) else _)=_
    rw[if_pos (by omega),show m - 4*(8+k)=j by omega]
   have hfr:sm m < m:=by unfold sm;split<;>(try split)<;>omega
   rw[hG,hF,if_neg Nj,hGs _ (by omega)]
   simp only[VF]
   rw[hFs (m - 32) (by omega),hFs (sm m) hfr]
   congr 1
   have hp:IntKind.u8.wrap (rv m)=rv m:=kK _ (xZ m).1 (xZ m).2
   have hidx:4*(8+k - 1)=4*(8+k) - 4:=by omega
   simp only[wL]
   by_cases h0:(8+k)%8=0
   ·rw[if_pos h0,if_pos (Or.inl (by omega):m%32 < 4∨16≤m%32∧m%32 < 20)]
    by_cases hj0:j=0
    ·rw[if_pos hj0,if_pos (show m%32=0 by omega),hGs _ (by omega),GG (hb _),hp,Yt]
     have e1:sm m=4*(8+k - 1)+1:=by unfold sm;rw[if_pos (by omega),if_neg (by omega)];omega
     rw[e1,show 4*(8+k)=m by omega]
    ·rw[if_neg hj0,if_neg (show ¬ m%32=0 by omega),hGs _ (by omega),GG (hb _)]
     have e1:sm m=4*(8+k - 1)+(j+1)%4:=by
      unfold sm;rw[if_pos (by omega)]
      by_cases h3:m%4=3
      ·rw[if_pos h3];omega
      ·rw[if_neg h3];omega
     rw[e1]
   ·rw[if_neg h0]
    have e1:sm m=4*(8+k - 1)+j:=by unfold sm;rw[if_neg (by omega)];omega
    rw[if_neg (show ¬ m%32=0 by omega)]
    by_cases h4:(8+k)%8=4
    ·rw[if_pos h4,if_pos (Or.inr (by omega):m%32 < 4∨16≤m%32∧m%32 < 20),hGs _ (by omega),GG (hb _),e1]
    ·rw[if_neg h4,if_neg (show ¬ (m%32 < 4∨16≤m%32∧m%32 < 20) by omega),hGs _ (by omega),e1]
theorem key_eq (K:Nat→Int) (hK:br K) (r i:Nat) (hr:r < 15) (hi:i < 16):zG (mr K) r i=cM dM K 240 (16*r+i):=by
 simp only[zG,mr,xY]
 rw[if_pos (by omega),ZT K hK _ (by omega),show 256+r*16+i - 256=16*r+i by omega]
theorem UZ (K S:Nat→Int) (hS:br S) (i:Nat):pN (mr K) S i=uW dM S i:=by
 simp only[pN,uW]
 rw[show i%4*4=4*(i%4) by omega]
 have:=hS ((i+4*(i%4))%16)
 generalize S ((i+4*(i%4))%16)=x at*
 have e:mr K x.toNat=n7 x.toNat:=by simp only[mr,xY];rw[if_neg (by omega)]
 rw[e];exact GG this
theorem Nl {a b c d:Nat→Int} {i:Nat} (h1:a i=c i) (h2:b i=d i):ru a b i=ru c d i:=by simp only[ru,h1,h2]
theorem Fi {C S T:Nat→Int} (h: ∀ i,i < 16→S i=T i) (i:Nat):pN C S i=pN C T i:=by
 simp only[pN,h _ (Nat.mod_lt _ (by decide))]
theorem U0 (K B:Nat→Int) (hK:br K): ∀ k,k < 14→ ∀ i,i < 16→uV (mr K) B k i=kY B (cM dM K 240) dM k i
 | 0,_,i,hi=>by
  show ru B (zG (mr K) 0) i=ru B (cM dM K 240) i
  exact Nl rfl (by rw[key_eq K hK 0 i (by decide) hi,Nat.mul_zero,Nat.zero_add])
 | k+1,hk,i,hi=>by
  have ih:=U0 K B hK k (by omega)
  have hb:=Cu B (cM dM K 240) dM k
  have hM:br (uW dM (kY B (cM dM K 240) dM k)):=fun i=>Cv _
  have e1:pN (mr K) (uV (mr K) B k)=uW dM (kY B (cM dM K 240) dM k):=funext fun j=>by
   rw[Fi ih j,UZ K _ hb j]
  show ru (n6 (pN (mr K) (uV (mr K) B k))) (zG (mr K) (k+1)) i=aU .xor .u8 (if k+1=14 then _ else RH (uW dM (kY B (cM dM K 240) dM k)) i) (cM dM K 240 (16*(k+1)+i))
  rw[e1,if_neg (by omega), ← ZS _ hM i, ← key_eq K hK (k+1) i (by omega) hi]
  rfl
theorem block_eq (K B:Nat→Int) (hK:br K) (i:Nat) (hi:i < 16):UU (mr K) B i=kY B (cM dM K 240) dM 14 i:=by
 have hb:=Cu B (cM dM K 240) dM 13
 have ih:=U0 K B hK 13 (by decide)
 have e1:pN (mr K) (uV (mr K) B 13)=uW dM (kY B (cM dM K 240) dM 13):=funext fun j=>by
  rw[Fi ih j,UZ K _ hb j]
 show ru (pN (mr K) (uV (mr K) B 13)) (zG (mr K) 14) i=aU .xor .u8 (if 13+1=14 then uW dM (kY B (cM dM K 240) dM 13) i else _) (cM dM K 240 (16*(13+1)+i))
 rw[e1,if_pos rfl, ← key_eq K hK 14 i (by decide) hi]
 rfl
end Go.Proofs.YtpnehhpadofcbaaGreatDoor
