/-
  What the statement lends, and how it holds lists against each other.
-/
import Derived.Test.YtbipdofobgabhaaGreatDoorVcgFacts
import Derived.Test.YtbipdofobgabhaaGreatDoorVcgK
import Derived.Test.YtbipdofobgabhaaGreatDoorVcgT
import Derived.Test.YtbipdofobgabhaaGreatDoorVcgJ3
import Derived.Test.YtbipdofobgabhaaGreatDoorVcgU5
import Derived.Test.YtbipdofobgabhaaGreatDoorVcgI1
import Derived.Test.YtbipdofobgabhaaGreatDoorVcgWZ
set_option linter.unusedVariables false
set_option maxHeartbeats 8000000
set_option maxRecDepth 20000
set_option linter.unusedSimpArgs false
set_option linter.unusedSectionVars false
namespace Go.Proofs.YtbipdofobgabhaaGreatDoor
open Go.bA
variable [aG]
theorem Kj (x:Int):cO Tryz.prog 105 [I .u8 x] (I .u8 (aV .xor .u8 (jx .u8 x 1) (IntKind.u8.wrap (ft .u8 x 7*27)))):=by
 refine bf Tryz.func105 rfl (by kernel_rfl) (by simp[Tryz.ntmps105]) rfl rfl ?_
 simp only[Tryz.results105,vS,seval, -List.reduceReplicate]
theorem qd (x n:Int) (h0:0≤n) (h1:n≤8):cO Tryz.prog 110 [I .u8 x,I .i64 n] (I .u8 (aV .or .u8 (jx .u8 x n) (ft .u8 x (8 - n)))):=by
 have hw:IntKind.i64.wrap (8 - n)=8 - n:=wrap_i64 _ (by omega) (by omega)
 have h2:(0≤8 - n)=True:=by simp;omega
 have h3:(0≤n)=True:=by simp;omega
 refine bf Tryz.func110 rfl (by kernel_rfl) (by simp[Tryz.ntmps110]) rfl rfl ?_
 simp only[Tryz.results110,hw,h2,h3,vS,seval, -List.reduceReplicate]
 kernel_rfl
def U6 (x n:Int):Int:=aV .or .u8 (jx .u8 x n) (ft .u8 x (8 - n))
def Yo (x:Int):Int:=aV .xor .u8 (aV .xor .u8 (aV .xor .u8 (aV .xor .u8 (aV .xor .u8 x (U6 x 1)) (U6 x 2)) (U6 x 3)) (U6 x 4)) 99
theorem zn (x:Int):cO Tryz.prog 106 [I .u8 x] (I .u8 (Yo x)):=by
 refine bf Tryz.func106 rfl (by kernel_rfl) (by simp[Tryz.ntmps106]) rfl rfl ?_
 simp only[Tryz.results106,vS,seval, -List.reduceReplicate]
 refine (qd x 1 (by decide) (by decide)).aB ?_
 simp only[vS,seval, -List.reduceReplicate]
 refine (qd x 2 (by decide) (by decide)).aB ?_
 simp only[vS,seval, -List.reduceReplicate]
 refine (qd x 3 (by decide) (by decide)).aB ?_
 simp only[vS,seval, -List.reduceReplicate]
 refine (qd x 4 (by decide) (by decide)).aB ?_
 simp only[vS,seval, -List.reduceReplicate]
 rfl
def Kk (a b:Nat→Int) (i:Nat):Int:=aV .xor .u8 (a i) (b i)
theorem sN (a b:Nat→Int):cO Tryz.prog 95 [Ag (ah .u8 16 a),Ag (ah .u8 16 b)] (Ag (ah .u8 16 (Kk a b))):=by
 refine bf Tryz.func95 rfl (by kernel_rfl) (by simp[Tryz.ntmps95]) rfl rfl ?_
 simp only[Tryz.results95,vR,seval, -List.reduceReplicate]
 refine aQ 16 (fun k=>[(2,Ptr 0 0),(3,Ptr 1 0),(4,Ptr 2 0),(6,I .i64 k)])
  (fun k=>[(0,⟨true,ah .u8 16 (fun i=>if i < k then Kk a b i else a i)⟩),(1,⟨true,ah .u8 16 b⟩),(2,⟨true,ah .u8 16 (fun _=>0)⟩)]) _ ?_ ?_ ?_
 ·simp only[eG,Nat.not_lt_zero,vR,seval, -List.reduceReplicate]
 ·intro j hj
  have adl:((j:Int) < 16)=True:=fw (m:=16) hj
  simp only[vR,seval, -List.reduceReplicate]
  refine aK (by simp;omega) ?_
  simp only[adl,aE .u8 16 _ j hj,bb .u8 16 _ j hj,Nat.lt_irrefl,dX j (by omega),vR,seval, -List.reduceReplicate]
  exact ⟨by kernel_rfl,by omega,congrArg (fun c=>some (aI.mk true c)) (mO (f:=Kk a b) (g:=a))⟩
 ·simp only[vR,seval, -List.reduceReplicate]
  refine aZ (by decide) ?_
  simp only[iy,vR,seval, -List.reduceReplicate]

def zX (C S:Nat→Int) (i:Nat):Int:=C (S ((i+i%4*4)%16)).toNat
def HJ (C S:Nat→Int) (i:Nat):Int:=C (S i).toNat
theorem Cd (C S:Nat→Int) (hS:bg S):bz Tryz.prog 97 [Ptr 0 0,Ag (ah .u8 16 S)] 1 (lk [(0,⟨false,ah .u8 496 C⟩)])
  (fun v out=>v=Ag (ah .u8 16 (zX C S))∧out=fun _=>none):=by
 refine aA Tryz.func97 rfl (by kernel_rfl) (by simp[Tryz.ntmps97]) Tryz.JQ (by simp[AV.ok,CV.ok,SV.names];exact aD az) eH (eL az) ?_
 simp only[Tryz.results97,vR,seval, -List.reduceReplicate]
 refine aQ 16 (fun k=>[(0,Ptr 0 0),(3,Ptr 1 0),(4,Ptr 2 0),(5,Ptr 3 0),(7,I .i64 k)])
  (fun k=>[(0,⟨false,ah .u8 496 C⟩),(1,⟨true,ah .u8 16 S⟩),(2,⟨true,ah .u8 16 (fun _=>0)⟩),(3,⟨true,ah .u8 16 (fun i=>if i < k then zX C S i else 0)⟩)]) _ ?_ ?_ ?_
 ·simp only[eG,Nat.not_lt_zero,vR,seval, -List.reduceReplicate]
 ·intro j hj
  have e:(IntKind.i64.wrap ((j:Int)+IntKind.i64.wrap (((j:Int).tmod 4)*4))).tmod 16=(((j+j%4*4)%16:Nat):Int):=by
   have h1:((j:Int).tmod 4)=((j%4:Nat):Int):=by rw[Int.tmod_eq_emod_of_nonneg (by omega)];omega
   rw[h1,wrap_i64 (((j%4:Nat):Int)*4) (by omega) (by omega),wrap_i64 _ (by omega) (by omega),Int.tmod_eq_emod_of_nonneg (by omega)]
   omega
  have hm:(j+j%4*4)%16 < 16:=Nat.mod_lt _ (by decide)
  have hb:=hS ((j+j%4*4)%16)
  have hl:=fw (m:=16) hm
  have hj':=fw (m:=16) hj
  have h1:(0≤S ((j+j%4*4)%16))=True:=by simp;exact hb.1
  have h2:(S ((j+j%4*4)%16) < 256)=True:=by simp;exact hb.2
  have h3:(S ((j+j%4*4)%16)).toNat < 496:=by omega
  have fin:ah .u8 16 (upd (fun i=>if i < j then zX C S i else 0) j (zX C S j))=ah .u8 16 (fun i=>if i < j+1 then zX C S i else 0):=kj
  simp only[vR,seval, -List.reduceReplicate]
  refine aK (by simp;omega) ?_
  simp only[e,hl,hj',h1,h2,dX j (by omega),aE .u8 16 _ _ hm,aE .u8 496 _ _ h3,bb .u8 16 _ j hj,vR,seval, -List.reduceReplicate]
  exact ⟨by kernel_rfl,by omega,by omega,by omega,congrArg (fun c=>some (aI.mk true c)) fin⟩
 ·simp only[vR,seval, -List.reduceReplicate]
  refine aZ (by decide) ?_
  simp only[iy,vR,seval, -List.reduceReplicate]
  exact ao az ⟨rfl,rfl⟩
theorem qK (C S:Nat→Int) (hS:bg S):bz Tryz.prog 107 [Ptr 0 0,Ag (ah .u8 4 S)] 1 (lk [(0,⟨false,ah .u8 496 C⟩)])
  (fun v out=>v=Ag (ah .u8 4 (HJ C S))∧out=fun _=>none):=by
 refine aA Tryz.func107 rfl (by kernel_rfl) (by simp[Tryz.ntmps107]) Tryz.pj (by simp[AV.ok,CV.ok,SV.names];exact aD az) eH (eL az) ?_
 simp only[Tryz.results107,vR,seval, -List.reduceReplicate]
 refine aQ 4 (fun k=>[(0,Ptr 0 0),(3,Ptr 1 0),(4,Ptr 2 0),(7,Ag (ah .u8 4 S)),(8,I .i64 k)])
  (fun k=>[(0,⟨false,ah .u8 496 C⟩),(1,⟨true,ah .u8 4 (fun i=>if i < k then HJ C S i else S i)⟩),(2,⟨true,ah .u8 4 (fun _=>0)⟩)]) _ ?_ ?_ ?_
 ·simp only[eG,Nat.not_lt_zero,if_false,vR,seval, -List.reduceReplicate]
  rfl
 ·intro j hj
  have hb:=hS j
  have hj':=fw (m:=4) hj
  have h1:(0≤S j)=True:=by simp;exact hb.1
  have h2:(S j < 256)=True:=by simp;exact hb.2
  have h3:(S j).toNat < 496:=by omega
  simp only[vR,seval, -List.reduceReplicate]
  refine aK (by simp;omega) ?_
  simp only[hj',h1,h2,dX j (by omega),aE .u8 4 _ _ hj,aE .u8 496 _ _ h3,bb .u8 4 _ j hj,vR,seval, -List.reduceReplicate]
  exact ⟨by omega,by omega,by omega,congrArg (fun c=>some (aI.mk true c)) (mO (f:=HJ C S) (g:=S))⟩
 ·simp only[vR,seval, -List.reduceReplicate]
  refine aZ (by decide) ?_
  simp only[iy,vR,seval, -List.reduceReplicate]
  exact ao az ⟨rfl,rfl⟩
def DE (x:Int):Int:=aV .xor .u8 (jx .u8 x 1) (IntKind.u8.wrap (ft .u8 x 7*27))
theorem jU (x:Int):cO Tryz.prog 105 [I .u8 x] (I .u8 (DE x)):=Kj x
def powC:Nat→Int
 | 0=>1
 | k+1=>aV .xor .u8 (powC k) (DE (powC k))
def Yp:Nat→Nat→Int
 | 0=>upd (fun _=>0) 0 (Yo 0)
 | k+1=>upd (Yp k) (powC k).toNat (Yo (powC ((255 - k)%255)))
def Sp (i:Nat):Int:=Yp 255 i
theorem U7: ∀ k,0≤powC k∧powC k < 256
 | 0=>by simp[powC]
 | k+1=>jI _ _ _
theorem DF:cO Tryz.prog 93 [] (Ag (ah .u8 256 Sp)):=by
 refine bf Tryz.func93 rfl (by kernel_rfl) (by simp[Tryz.ntmps93]) rfl rfl ?_
 simp only[Tryz.results93,vR,seval, -List.reduceReplicate]
 refine aQ 255 (fun k=>[(0,Ptr 0 0),(1,Ptr 1 0),(2,I .u8 (powC k)),(7,I .i64 k)])
  (fun k=>[(0,⟨true,ah .u8 256 (fun _=>0)⟩),(1,⟨true,ah .u8 255 (fun i=>if i < k then powC i else 0)⟩)]) _ ?_ ?_ ?_
 ·simp only[eG,powC,Nat.not_lt_zero,if_false,vR,seval, -List.reduceReplicate]
 ·intro j hj
  have hj':((j:Int) < 255)=True:=fw (m:=255) hj
  have fin:ah .u8 255 (upd (fun i=>if i < j then powC i else 0) j (powC j))=ah .u8 255 (fun i=>if i < j+1 then powC i else 0):=kj
  simp only[vR,seval, -List.reduceReplicate]
  refine aK (by simp;omega) ?_
  simp only[hj',bb .u8 255 _ j hj,vR,seval, -List.reduceReplicate]
  refine ⟨by omega, ?_⟩
  refine (jU (powC j)).aB ?_
  simp only[dX j (by omega),vR,seval, -List.reduceReplicate]
  exact ⟨rfl,congrArg (fun c=>some (aI.mk true c)) fin⟩
 ·simp only[vR,seval, -List.reduceReplicate]
  refine aZ (by decide) ?_
  simp only[iy,vR,seval, -List.reduceReplicate]
  refine (zn 0).aB ?_
  simp only[bb .u8 256 _ 0 (by decide),vR,seval, -List.reduceReplicate]
  refine aQ 255 (fun k=>[(0,Ptr 0 0),(1,Ptr 1 0),(4,Ptr 5 0),(20,Ag (ah .u8 255 powC)),(21,I .i64 k)])
   (fun k=>[(0,⟨true,ah .u8 256 (fun _=>0)⟩),(1,⟨true,ah .u8 255 powC⟩),(5,⟨true,ah .u8 256 (Yp k)⟩)]) _ ?_ ?_ ?_
  ·simp only[eG,Yp,vR,seval, -List.reduceReplicate]
  ·intro j hj
   have hj':((j:Int) < 255)=True:=fw (m:=255) hj
   have hb:=U7 j
   have h1:(0≤powC j)=True:=by simp;exact hb.1
   have h2:(powC j < 256)=True:=by simp;exact hb.2
   have h3:(powC j).toNat < 256:=by omega
   have hq:(255 - j)%255 < 255:=Nat.mod_lt _ (by decide)
   have e:(IntKind.i64.wrap ((255:Int) - j)).tmod 255=(((255 - j)%255:Nat):Int):=by
    rw[wrap_i64 _ (by omega) (by omega),Int.tmod_eq_emod_of_nonneg (by omega)];omega
   simp only[vR,seval, -List.reduceReplicate]
   refine aK (by simp;omega) ?_
   simp only[hj',e,aE .u8 255 _ j hj,aE .u8 255 _ _ hq,vR,seval, -List.reduceReplicate]
   refine ⟨by omega, ?_⟩
   refine (zn (powC ((255 - j)%255))).aB ?_
   simp only[h1,h2,dX j (by omega),bb .u8 256 _ _ h3,vR,seval, -List.reduceReplicate]
   exact ⟨by omega,rfl⟩
  ·simp only[vR,seval, -List.reduceReplicate]
   refine aZ (by decide) ?_
   simp only[vR,seval, -List.reduceReplicate]
   rfl
def oJ (S:Nat→Int) (i:Nat):Int:=
 let q:=i - i%4
 aV .xor .u8 (aV .xor .u8 (S i) (DE (aV .xor .u8 (S i) (S (q+(i+1)%4))))) (aV .xor .u8 (aV .xor .u8 (aV .xor .u8 (S q) (S (q+1))) (S (q+2))) (S (q+3)))
theorem OQ (S:Nat→Int):cO Tryz.prog 96 [Ag (ah .u8 16 S)] (Ag (ah .u8 16 (oJ S))):=by
 refine bf Tryz.func96 rfl (by kernel_rfl) (by simp[Tryz.ntmps96]) rfl rfl ?_
 simp only[Tryz.results96,vR,seval, -List.reduceReplicate]
 refine aQ 4 (fun k=>[(1,Ptr 0 0),(2,Ptr 1 0),(3,Ptr 2 0),(4,I .i64 ((4*k:Nat):Int))])
  (fun k=>[(0,⟨true,ah .u8 16 S⟩),(1,⟨true,ah .u8 16 (fun _=>0)⟩),(2,⟨true,ah .u8 16 (fun i=>if i < 4*k then oJ S i else 0)⟩)]) _ ?_ ?_ ?_
 ·simp only[eG,Nat.not_lt_zero,Nat.mul_zero,if_false,vR,seval, -List.reduceReplicate]
 ·intro j hj
  have l0:4*j < 16:=by omega
  have l1:4*j+1 < 16:=by omega
  have l2:4*j+2 < 16:=by omega
  have l3:4*j+3 < 16:=by omega
  have g0:(((4*j:Nat):Int) < 16)=True:=by simp;omega
  have g1:(((4*j+1:Nat):Int) < 16)=True:=by simp;omega
  have g2:(((4*j+2:Nat):Int) < 16)=True:=by simp;omega
  have g3:(((4*j+3:Nat):Int) < 16)=True:=by simp;omega
  have w1:IntKind.i64.wrap (((4*j:Nat):Int)+1)=((4*j+1:Nat):Int):=by rw[wrap_i64 _ (by omega) (by omega)];omega
  have w2:IntKind.i64.wrap (((4*j:Nat):Int)+2)=((4*j+2:Nat):Int):=by rw[wrap_i64 _ (by omega) (by omega)];omega
  have w3:IntKind.i64.wrap (((4*j:Nat):Int)+3)=((4*j+3:Nat):Int):=by rw[wrap_i64 _ (by omega) (by omega)];omega
  have w4:IntKind.i64.wrap (((4*j:Nat):Int)+4)=((4*(j+1):Nat):Int):=by rw[wrap_i64 _ (by omega) (by omega)];omega
  simp only[vR,seval, -List.reduceReplicate]
  refine aK (by simp;omega) ?_
  simp only[g0,g1,g2,g3,w1,w2,w3,aE .u8 16 _ _ l0,aE .u8 16 _ _ l1,aE .u8 16 _ _ l2,aE .u8 16 _ _ l3,vR,seval, -List.reduceReplicate]
  have gg:ah .u8 16 (upd (upd (upd (upd (fun i=>if i < 4*j then oJ S i else 0) (4*j) (oJ S (4*j))) (4*j+1) (oJ S (4*j+1))) (4*j+2) (oJ S (4*j+2))) (4*j+3) (oJ S (4*j+3)))=
    ah .u8 16 (fun i=>if i < 4*(j+1) then oJ S i else 0):=aW fun i hi=>by
   simp only[upd]
   repeat' split
   all_goals first
    | rfl
    | (subst_vars;rfl)
    | omega
  have m0:oJ S (4*j)=aV .xor .u8 (aV .xor .u8 (S (4*j)) (DE (aV .xor .u8 (S (4*j)) (S (4*j+1))))) (aV .xor .u8 (aV .xor .u8 (aV .xor .u8 (S (4*j)) (S (4*j+1))) (S (4*j+2))) (S (4*j+3))):=by
   simp only[oJ,show 4*j - 4*j%4=4*j by omega,show (4*j+1)%4=1 by omega]
  have m1:oJ S (4*j+1)=aV .xor .u8 (aV .xor .u8 (S (4*j+1)) (DE (aV .xor .u8 (S (4*j+1)) (S (4*j+2))))) (aV .xor .u8 (aV .xor .u8 (aV .xor .u8 (S (4*j)) (S (4*j+1))) (S (4*j+2))) (S (4*j+3))):=by
   simp only[oJ,show 4*j+1 - (4*j+1)%4=4*j by omega,show (4*j+1+1)%4=2 by omega]
  have m2:oJ S (4*j+2)=aV .xor .u8 (aV .xor .u8 (S (4*j+2)) (DE (aV .xor .u8 (S (4*j+2)) (S (4*j+3))))) (aV .xor .u8 (aV .xor .u8 (aV .xor .u8 (S (4*j)) (S (4*j+1))) (S (4*j+2))) (S (4*j+3))):=by
   simp only[oJ,show 4*j+2 - (4*j+2)%4=4*j by omega,show (4*j+2+1)%4=3 by omega]
  have m3:oJ S (4*j+3)=aV .xor .u8 (aV .xor .u8 (S (4*j+3)) (DE (aV .xor .u8 (S (4*j+3)) (S (4*j))))) (aV .xor .u8 (aV .xor .u8 (aV .xor .u8 (S (4*j)) (S (4*j+1))) (S (4*j+2))) (S (4*j+3))):=by
   simp only[oJ,show 4*j+3 - (4*j+3)%4=4*j by omega,show (4*j+3+1)%4=0 by omega,Nat.add_zero]
  refine ⟨by kernel_rfl, ?_⟩
  refine (jU _).aB ?_
  simp only[g0, ← m0,bb .u8 16 _ _ l0,vR,seval, -List.reduceReplicate]
  refine ⟨by omega, ?_⟩
  refine (jU _).aB ?_
  simp only[g1,w1, ← m1,bb .u8 16 _ _ l1,vR,seval, -List.reduceReplicate]
  refine ⟨by omega, ?_⟩
  refine (jU _).aB ?_
  simp only[g2,w2, ← m2,bb .u8 16 _ _ l2,vR,seval, -List.reduceReplicate]
  refine ⟨by omega, ?_⟩
  refine (jU _).aB ?_
  simp only[g3,w3,w4, ← m3,bb .u8 16 _ _ l3,vR,seval, -List.reduceReplicate]
  exact ⟨by omega,congrArg (fun c=>some (aI.mk true c)) gg⟩
 ·simp only[vR,seval, -List.reduceReplicate]
  refine aZ (by decide) ?_
  simp only[iy,vR,seval, -List.reduceReplicate]
def ql (S:Nat→Int) (n:Int):Nat→Int
 | 0=>n
 | k+1=>(ql S n k+S (15 - k)) / 256
def lI (S:Nat→Int) (n:Int) (i:Nat):Int:=(ql S n (15 - i)+S i)%256
theorem Sq (S:Nat→Int) (n:Int):bg (lI S n):=fun i=>by simp only[lI];omega
theorem M5 (S:Nat→Int) (n:Int): ∀ k,k≤15→ql S n k+ql (lI S n) 1 k=ql S (n+1) k
 | 0,_=>rfl
 | k+1,h=>by
  have ih:=M5 S n k (by omega)
  simp only[ql, ← ih,lI,show 15 - (15 - k)=k by omega]
  omega
theorem OT (S:Nat→Int) (n:Int) (i:Nat) (h:i < 16):lI (lI S n) 1 i=lI S (n+1) i:=by
 have:=M5 S n (15 - i) (by omega)
 have e:lI S (n+1) i=(ql S (n+1) (15 - i)+S i)%256:=rfl
 rw[e, ← this]
 simp only[lI]
 omega
theorem OU (S:Nat→Int) (h:bg S) (i:Nat):lI S 0 i=S i:=by
 have: ∀ k,ql S 0 k=0:=fun k=>by
  induction k with
  | zero=>rfl
  | succ k ih=>simp only[ql,ih];have:=h (15 - k);omega
 simp only[lI,this];have:=h i;omega
theorem xj (S:Nat→Int): ∀ k,(∀ j,j < k→S (15 - j)=255)→ql S 1 k=1
 | 0,_=>rfl
 | k+1,h=>by
  simp only[ql,xj S k (fun j hj=>h j (by omega)),h k (by omega)];rfl
theorem U8 (S:Nat→Int) (hS:bg S) (k:Nat) (h:ql S 1 k=0): ∀ m,k≤m→ql S 1 m=0:=fun m hm=>by
 induction m with
 | zero=>rw[show k=0 by omega]at h;exact h
 | succ m ih=>
  by_cases e:k=m+1
  ·rw[← e];exact h
  ·simp only[ql,ih (by omega)];have:=hS (15 - m);omega
theorem zY (S:Nat→Int) (hS:bg S):cO Tryz.prog 79 [Ag (ah .u8 16 S)] (Ag (ah .u8 16 (lI S 1))):=by
 refine bf Tryz.func79 rfl (by kernel_rfl) (by simp[Tryz.ntmps79]) rfl rfl ?_
 simp only[Tryz.results79,vR,Value.oneCell',Nat.reduceAdd,Nat.reduceMul,Nat.reduceSub,Nat.reduceLT,Nat.reduceLeDiff,Nat.reduceEqDiff,Int.reduceLE,Int.reduceLT,Int.reduceToNat,Int.reduceNe,Int.reduceEq,Nat.reduceBEq,Nat.reduceDiv,Int.reduceAdd,Int.reduceSub,reduceIte,↓reduceIte,reduceCtorEq]
 refine yq 16 (fun k=> ∀ j,j < k→S (15 - j)=255) (fun k=>[(1,Ptr 0 0),(2,Ptr 1 0),(3,I .i64 (15 - (k:Int)))])
  (fun k=>[(0,⟨true,ah .u8 16 (fun i=>if 16≤i+k then 0 else S i)⟩),(1,⟨true,ah .u8 16 (fun _=>0)⟩)]) _ ?_ ?_ ?_
 ·refine ⟨fun j hj=>absurd hj (Nat.not_lt_zero j), ?_⟩
  simp only[eG,vR,Value.oneCell',Nat.reduceAdd,Nat.reduceMul,Nat.reduceSub,Nat.reduceLT,Nat.reduceLeDiff,Nat.reduceEqDiff,Int.reduceLE,Int.reduceLT,Int.reduceToNat,Int.reduceNe,Int.reduceEq,Nat.reduceBEq,Nat.reduceDiv,Int.reduceAdd,Int.reduceSub,reduceIte,↓reduceIte,reduceCtorEq]
  exact congrArg (fun c=>some (aI.mk true c)) (aW fun i hi=>by rw[if_neg (by omega)])
 ·intro k hk hinv
  have p:((15:Int) - (k:Int)).toNat=15 - k:=by omega
  have hl:15 - k < 16:=by omega
  have WO:(0≤(15:Int) - (k:Int))=True:=by simp;omega
  have hc2:((15:Int) - (k:Int) < 16)=True:=by simp;omega
  have hb:=hS (15 - k)
  have hf:(if 16≤15 - k+k then 0 else S (15 - k))=S (15 - k):=if_neg (by omega)
  have hw:IntKind.i64.wrap ((15:Int) - (k:Int) - 1)=15 - ((k+1:Nat):Int):=by rw[wrap_i64 _ (by omega) (by omega)];omega
  have c1:=xj S k hinv
  simp only[vR,Value.oneCell',Nat.reduceAdd,Nat.reduceMul,Nat.reduceSub,Nat.reduceLT,Nat.reduceLeDiff,Nat.reduceEqDiff,Int.reduceLE,Int.reduceLT,Int.reduceToNat,Int.reduceNe,Int.reduceEq,Nat.reduceBEq,Nat.reduceDiv,Int.reduceAdd,Int.reduceSub,reduceIte,↓reduceIte,reduceCtorEq]
  refine aK (by simp;omega) ?_
  simp only[p,WO,hc2,aE .u8 16 _ _ hl,hf,bb .u8 16 _ _ hl,aJ,vR,Value.oneCell',Nat.reduceAdd,Nat.reduceMul,Nat.reduceSub,Nat.reduceLT,Nat.reduceLeDiff,Nat.reduceEqDiff,Int.reduceLE,Int.reduceLT,Int.reduceToNat,Int.reduceNe,Int.reduceEq,Nat.reduceBEq,Nat.reduceDiv,Int.reduceAdd,Int.reduceSub,reduceIte,↓reduceIte,reduceCtorEq]
  refine ⟨by omega, ?_⟩
  by_cases aa3:S (15 - k)=255
  ·have hz:IntKind.u8.wrap (S (15 - k)+1)=0:=by rw[aa3];rfl
   simp only[hz,vR,Value.oneCell',Nat.reduceAdd,Nat.reduceMul,Nat.reduceSub,Nat.reduceLT,Nat.reduceLeDiff,Nat.reduceEqDiff,Int.reduceLE,Int.reduceLT,Int.reduceToNat,Int.reduceNe,Int.reduceEq,Nat.reduceBEq,Nat.reduceDiv,Int.reduceAdd,Int.reduceSub,reduceIte,↓reduceIte,reduceCtorEq]
   refine aZ (by decide) ?_
   simp only[hw,vR,Value.oneCell',Nat.reduceAdd,Nat.reduceMul,Nat.reduceSub,Nat.reduceLT,Nat.reduceLeDiff,Nat.reduceEqDiff,Int.reduceLE,Int.reduceLT,Int.reduceToNat,Int.reduceNe,Int.reduceEq,Nat.reduceBEq,Nat.reduceDiv,Int.reduceAdd,Int.reduceSub,reduceIte,↓reduceIte,reduceCtorEq]
   refine ⟨fun j hj=> ?_,congrArg (fun c=>some (aI.mk true c)) (aW fun i hi=> ?_)⟩
   ·rcases Nat.lt_or_ge j k with h | h
    ·exact hinv j h
    ·rw[show j=k by omega];exact aa3
   ·simp only[upd]
    split
    ·rw[if_pos (by omega)]
    ·split
     ·rw[if_pos (by omega)]
     ·rw[if_neg (by omega)]
  ·have hz:IntKind.u8.wrap (S (15 - k)+1)=S (15 - k)+1:=yr _ (by omega) (by omega)
   have c2:ql S 1 (k+1)=0:=by simp only[ql,c1];omega
   simp only[hz,vR,Value.oneCell',Nat.reduceAdd,Nat.reduceMul,Nat.reduceSub,Nat.reduceLT,Nat.reduceLeDiff,Nat.reduceEqDiff,Int.reduceLE,Int.reduceLT,Int.reduceToNat,Int.reduceNe,Int.reduceEq,Nat.reduceBEq,Nat.reduceDiv,Int.reduceAdd,Int.reduceSub,reduceIte,↓reduceIte,reduceCtorEq]
   refine aK (by simp;omega) ?_
   simp only[vR,Value.oneCell',Nat.reduceAdd,Nat.reduceMul,Nat.reduceSub,Nat.reduceLT,Nat.reduceLeDiff,Nat.reduceEqDiff,Int.reduceLE,Int.reduceLT,Int.reduceToNat,Int.reduceNe,Int.reduceEq,Nat.reduceBEq,Nat.reduceDiv,Int.reduceAdd,Int.reduceSub,reduceIte,↓reduceIte,reduceCtorEq]
   refine congrArg Ag (aW fun i hi=> ?_)
   simp only[upd,lI]
   split
   ·rename_i e
    rw[e,show 15 - (15 - k)=k by omega,c1];omega
   ·split
    ·have e:=hinv (15 - i) (by omega)
     rw[show 15 - (15 - i)=i by omega]at e
     rw[xj S (15 - i) (fun j hj=>hinv j (by omega)),e];rfl
    ·rw[U8 S hS (k+1) c2 (15 - i) (by omega)]
     have:=hS i;omega
 ·intro hinv
  simp only[vR,Value.oneCell',Nat.reduceAdd,Nat.reduceMul,Nat.reduceSub,Nat.reduceLT,Nat.reduceLeDiff,Nat.reduceEqDiff,Int.reduceLE,Int.reduceLT,Int.reduceToNat,Int.reduceNe,Int.reduceEq,Nat.reduceBEq,Nat.reduceDiv,Int.reduceAdd,Int.reduceSub,reduceIte,↓reduceIte,reduceCtorEq]
  refine aZ (by decide) ?_
  simp only[vR,Value.oneCell',Nat.reduceAdd,Nat.reduceMul,Nat.reduceSub,Nat.reduceLT,Nat.reduceLeDiff,Nat.reduceEqDiff,Int.reduceLE,Int.reduceLT,Int.reduceToNat,Int.reduceNe,Int.reduceEq,Nat.reduceBEq,Nat.reduceDiv,Int.reduceAdd,Int.reduceSub,reduceIte,↓reduceIte,reduceCtorEq]
  refine congrArg Ag (aW fun i hi=> ?_)
  have e:=hinv (15 - i) (by omega)
  rw[show 15 - (15 - i)=i by omega]at e
  simp only[lI]
  rw[xj S (15 - i) (fun j hj=>hinv j (by omega)),e];rfl
theorem aa4 (t:Nat):(t:Int).tmod 4=((t%4:Nat):Int):=(Int.ofNat_tmod t 4).symm
theorem aa5 (t:Nat) (h:t < 9223372036854775808):IntKind.i64.wrap ((t:Int).tdiv 4)=((t / 4:Nat):Int):=NV t 4 h
theorem HK (f:Nat→Int):splice [Sum.inl (Value.int IntKind.u8 0),Sum.inl (Value.int IntKind.u8 0),Sum.inl (Value.int IntKind.u8 0),Sum.inl (Value.int IntKind.u8 0)] 0 (ah .u8 4 f)=ah .u8 4 f:=rfl
theorem Yq (f:Nat→Int):splice (splice (splice (splice [Sum.inl (Value.int IntKind.u8 0),Sum.inl (Value.int IntKind.u8 0),Sum.inl (Value.int IntKind.u8 0),Sum.inl (Value.int IntKind.u8 0)] 0 [Sum.inl (Value.int .u8 (f 0))])
    1 [Sum.inl (Value.int .u8 (f 1))]) 2 [Sum.inl (Value.int .u8 (f 2))]) 3 [Sum.inl (Value.int .u8 (f 3))]=ah .u8 4 f:=rfl
def Sr (C:Nat→Int) (x:Int):Int:=C x.toNat
def zo (C W:Nat→Int) (p:Int) (i j:Nat):Int:=
  if i%8=0 then (if j=0 then aV .xor .u8 (Sr C (W (4*(i - 1)+1))) p else Sr C (W (4*(i - 1)+(j+1)%4)))
  else if i%8=4 then Sr C (W (4*(i - 1)+j)) else W (4*(i - 1)+j)
def xk:Nat→Int
  | 0=>1
  | k+1=>if (8+k)%8=0 then DE (xk k) else xk k
def gx (C K:Nat→Int):Nat→Nat→Int
  | 0=>fun i=>if i < 32 then K i else 0
  | k+1=>fun i=>if 4*(8+k)≤i∧i < 4*(8+k)+4 then aV .xor .u8 (gx C K k (i - 32)) (zo C (gx C K k) (xk k) (8+k) (i - 4*(8+k))) else gx C K k i
theorem HL {C K:Nat→Int} (hK:bg K): ∀ k,bg (gx C K k)
  | 0=>fun i=>by
    simp only[gx];split
    · exact hK i
    · omega
  | k+1=>fun i=>by
    simp only[gx];split
    · exact jI _ _ _
    · exact HL hK k i
def DG (C W:Nat→Int) (m:Nat):Int:=if 256≤m then W (m - 256) else C m
theorem Kl (C K:Nat→Int) (hC:bg C) (hK:bg K):bz Tryz.prog 94 [Ptr 0 0,Ag (ah .u8 32 K)] 1 (lk [(0,⟨true,ah .u8 496 C⟩)])
    (fun v out=>v= .inr []∧out=lk [(0,⟨true,ah .u8 496 (DG C (gx C K 52))⟩)]):=by
  refine aA Tryz.func94 rfl (by kernel_rfl) (by simp[Tryz.ntmps94]) Tryz.sF (by simp[AV.ok,CV.ok,SV.names];exact aD az) eH (eL az) ?_
  simp only[Tryz.results94,vR,seval, -List.reduceReplicate]
  refine aQ 32 (fun k=>[(0,Ptr 0 0),(3,Ptr 1 0),(4,Ptr 2 0),(13,Ag (ah .u8 32 K)),(14,I .i64 k)])
    (fun k=>[(0,⟨true,ah .u8 496 C⟩),(1,⟨true,ah .u8 32 K⟩),(2,⟨true,ah .u8 240 (fun i=>if i < k then K i else 0)⟩)]) _ ?_ ?_ ?_
  · simp only[eG,Nat.not_lt_zero,if_false,vR,seval, -List.reduceReplicate]
  · intro j hj
    have hj':((j:Int) < 32)=True:=fw (m:=32) hj
    have q1:(((j / 4:Nat):Int) < 60)=True:=by simp;omega
    have q2:(((j%4:Nat):Int) < 4)=True:=by simp;omega
    have hl:j / 4*4+j%4 < 240:=by omega
    simp only[vR,seval, -List.reduceReplicate]
    refine aK (by simp;omega) ?_
    have q0:j / 4*4+j%4=j:=by omega
    have fin:ah .u8 240 (upd (fun i=>if i < j then K i else 0) j (K j))=ah .u8 240 (fun i=>if i < j+1 then K i else 0):=kj
    simp only[hj',aa5 j (by omega),aa4,q0,q1,q2,cC,aE .u8 32 _ j hj,bb .u8 240 _ j (by omega),dX j (by omega),fin,vR,seval, -List.reduceReplicate]
    omega
  · simp only[vR,seval, -List.reduceReplicate]
    refine aZ (by decide) ?_
    simp only[vR,seval, -List.reduceReplicate]
    refine aQ 52 (fun k=>[(0,Ptr 0 0),(3,Ptr 1 0),(4,Ptr 2 0),(7,I .u8 (xk k)),(8,I .i64 ((8+k:Nat):Int))])
      (fun k=>[(0,⟨true,ah .u8 496 C⟩),(1,⟨true,ah .u8 32 K⟩),(2,⟨true,ah .u8 240 (gx C K k)⟩)]) _ ?_ ?_ ?_
    · simp only[eG,xk,gx,vR,seval, -List.reduceReplicate]
    · intro k hk
      have w1:IntKind.i64.wrap (((8+k:Nat):Int) - 1)=((7+k:Nat):Int):=by rw[wrap_i64 _ (by omega) (by omega)];omega
      have q1:(((7+k:Nat):Int) < 60)=True:=by simp;omega
      have sl:=qV .u8 240 (gx C K k) ((7+k)*4) 4 (by omega)
      have hW:=HL (C:=C) hK k
      simp only[vR,seval, -List.reduceReplicate]
      refine aK (by simp;omega) ?_
      simp only[w1,q1,cC,sl,af,vR,seval, -List.reduceReplicate]
      refine ⟨by omega, ?_⟩
      by_cases h0:(8+k)%8=0
      have c0:((((8+k)%8:Nat):Int)==0)=true:=by rw[h0];rfl
      simp only[I5,c0,HK,aE .u8 4 _ 0 (by decide),aE .u8 4 _ 1 (by decide),aE .u8 4 _ 2 (by decide),aE .u8 4 _ 3 (by decide),vR,seval, -List.reduceReplicate]
      refine ⟨by simp[splice],by simp[splice],by simp[splice], ?_⟩
      have hb:=Yq (fun i=>gx C K k ((7+k)*4+(i+1)%4))
      simp only[show (0+1)%4=1 from rfl,show (1+1)%4=2 from rfl,show (2+1)%4=3 from rfl,show (3+1)%4=0 from rfl,Nat.add_zero]at hb
      rw[hb]
      have et:ah .u8 4 (upd (HJ C (fun i=>gx C K k ((7+k)*4+(i+1)%4))) 0 (aV .xor .u8 (HJ C (fun i=>gx C K k ((7+k)*4+(i+1)%4)) 0) (xk k)))=ah .u8 4 (zo C (gx C K k) (xk k) (8+k)):=aW fun i hi=>by
        have e:4*(8+k - 1)=(7+k)*4:=by omega
        simp only[upd,zo,if_pos h0,HJ,Sr,e,show (0+1)%4=1 from rfl]
      have ep:xk (k+1)=DE (xk k):=by simp only[xk,if_pos h0]
      refine (qK C (fun i=>gx C K k ((7+k)*4+(i+1)%4)) (fun i=>hW _)).dP (fun _=>0) (cy (rw:=true) (by simp only[ae,vR,seval, -List.reduceReplicate]) az) az (by rfl) ?_
      simp only[HK,aE .u8 4 _ 0 (by decide),bb .u8 4 _ 0 (by decide),vR,seval, -List.reduceReplicate]
      refine (jU (xk k)).aB ?_
      simp only[et, ← ep,vR,seval, -List.reduceReplicate]
      rotate_left 1
      have c0:((((8+k)%8:Nat):Int)==0)=false:=by simp;omega
      by_cases h4:(8+k)%8=4
      have c4:((((8+k)%8:Nat):Int)==4)=true:=by rw[h4];rfl
      have et:ah .u8 4 (HJ C (fun i=>gx C K k ((7+k)*4+i)))=ah .u8 4 (zo C (gx C K k) (xk k) (8+k)):=aW fun i hi=>by
        have e:4*(8+k - 1)=(7+k)*4:=by omega
        simp only[zo,if_neg h0,if_pos h4,HJ,Sr,e]
      have ep:xk (k+1)=xk k:=by simp only[xk,if_neg h0]
      simp only[I5,c0,c4,HK,vR,seval, -List.reduceReplicate]
      refine (qK C (fun i=>gx C K k ((7+k)*4+i)) (fun i=>hW _)).dP (fun _=>0) (cy (rw:=true) (by simp only[ae,vR,seval, -List.reduceReplicate]) az) az (by rfl) ?_
      simp only[et,vR,seval, -List.reduceReplicate]
      rotate_left 1
      have c4:((((8+k)%8:Nat):Int)==4)=false:=by simp;omega
      have et:ah .u8 4 (fun i=>gx C K k ((7+k)*4+i))=ah .u8 4 (zo C (gx C K k) (xk k) (8+k)):=aW fun i hi=>by
        have e:4*(8+k - 1)=(7+k)*4:=by omega
        simp only[zo,if_neg h0,if_neg h4,e]
      have ep:xk (k+1)=xk k:=by simp only[xk,if_neg h0]
      simp only[I5,c0,c4,HK,vR,seval, -List.reduceReplicate]
      all_goals
        refine aQ 4 (fun j=>[(0,Ptr 0 0),(3,Ptr 1 0),(4,Ptr 2 0),(7,I .u8 (xk (k+1))),(8,I .i64 ((8+k:Nat):Int)),(9,Ptr 14 0),(61,I .i64 j)])
          (fun j=>[(0,⟨true,ah .u8 496 C⟩),(1,⟨true,ah .u8 32 K⟩),(2,⟨true,ah .u8 240 (fun m=>if 4*(8+k)≤m∧m < 4*(8+k)+j then gx C K (k+1) m else gx C K k m)⟩),
            (14,⟨true,ah .u8 4 (zo C (gx C K k) (xk k) (8+k))⟩)]) _ ?_ ?_ ?_
      all_goals first
        | (simp only[eG,et,ep,vR,seval, -List.reduceReplicate]
           exact congrArg (fun c=>some (aI.mk true c)) (aW fun i hi=>(if_neg (by omega)).symm))
        | (intro j hj
           have w8:IntKind.i64.wrap (((8+k:Nat):Int) - 8)=(k:Int):=by rw[wrap_i64 _ (by omega) (by omega)];omega
           have a1:((k:Int) < 60)=True:=by simp;omega
           have a2:(((8+k:Nat):Int) < 60)=True:=by simp;omega
           have a3:((j:Int) < 4)=True:=fw (m:=4) hj
           have l1:k*4+j < 240:=by omega
           have l2:(8+k)*4+j < 240:=by omega
           have f1:(if 4*(8+k)≤k*4+j∧k*4+j < 4*(8+k)+j then gx C K (k+1) (k*4+j) else gx C K k (k*4+j))=gx C K k (k*4+j):=if_neg (by omega)
           have f2:aV .xor .u8 (gx C K k (k*4+j)) (zo C (gx C K k) (xk k) (8+k) j)=gx C K (k+1) ((8+k)*4+j):=by
             show _=(if 4*(8+k)≤(8+k)*4+j∧(8+k)*4+j < 4*(8+k)+4 then aV .xor .u8 (gx C K k ((8+k)*4+j - 32)) (zo C (gx C K k) (xk k) (8+k) ((8+k)*4+j - 4*(8+k))) else gx C K k ((8+k)*4+j))
             rw[if_pos (by omega),show (8+k)*4+j - 32=k*4+j by omega,show (8+k)*4+j - 4*(8+k)=j by omega]
           simp only[vR,seval, -List.reduceReplicate]
           refine aK (by simp;omega) ?_
           simp only[w8,a1,a2,a3,cC,aE .u8 240 _ _ l1,f1,aE .u8 4 _ j hj,f2,bb .u8 240 _ _ l2,dX j (by omega),vR,seval, -List.reduceReplicate]
           refine ⟨by kernel_rfl,by omega,congrArg (fun c=>some (aI.mk true c)) (aW fun i hi=> ?_)⟩
           simp only[upd]
           split
           · rename_i e;subst e;rw[if_pos (by omega)]
           · split
             · rw[if_pos (by omega)]
             · rw[if_neg (by omega)])
        | (simp only[vR,seval, -List.reduceReplicate]
           refine aZ (by decide) ?_
           simp only[vR,seval, -List.reduceReplicate]
           refine ⟨by rw[wrap_i64 _ (by omega) (by omega)];exact congrArg (fun x=>some (I .i64 x)) (by omega),congrArg (fun c=>some (aI.mk true c)) (aW fun i hi=> ?_)⟩
           show _=(if 4*(8+k)≤i∧i < 4*(8+k)+4 then aV .xor .u8 (gx C K k (i - 32)) (zo C (gx C K k) (xk k) (8+k) (i - 4*(8+k))) else gx C K k i)
           by_cases hc:4*(8+k)≤i∧i < 4*(8+k)+4
           · rw[if_pos hc,if_pos hc];exact if_pos hc
           · rw[if_neg hc,if_neg hc])
    · simp only[vR,seval, -List.reduceReplicate]
      refine aZ (by decide) ?_
      simp only[vR,seval, -List.reduceReplicate]
      generalize gx C K 52=W
      refine aQ 60 (fun k=>[(0,Ptr 0 0),(79,Ag (ah .u8 240 W)),(80,I .i64 k)])
        (fun k=>[(0,⟨true,ah .u8 496 (fun m=>if 256≤m∧m < 256+4*k then W (m - 256) else C m)⟩)]) _ ?_ ?_ ?_
      · simp only[eG,vR,seval, -List.reduceReplicate]
        exact congrArg (fun c=>some (aI.mk true c)) (aW fun i hi=>(if_neg (by omega)).symm)
      · intro k hk
        have sl:=qV .u8 240 W (k*4) 4 (by omega)
        have a1:((k:Int) < 60)=True:=fw (m:=60) hk
        have a2:(((k / 4:Nat):Int) < 15)=True:=by simp;omega
        have w2:IntKind.i64.wrap (((k%4:Nat):Int)*4)=((k%4*4:Nat):Int):=by rw[wrap_i64 _ (by omega) (by omega)];omega
        have a3:(((k%4*4:Nat):Int)≤16)=True:=by simp;omega
        simp only[vR,seval, -List.reduceReplicate]
        refine aK (by simp;omega) ?_
        have hif:(if 16=k%4*4 then 256+k / 4*16 else 256+k / 4*16+k%4*4)=256+4*k:=by rw[if_neg (by omega)];omega
        have hmin:Nat.min 4 (16 - k%4*4)=4:=Nat.min_eq_left (by omega)
        simp only[a1,cC,sl,af,aa4,aa5 k (by omega),a2,w2,a3,HK,hif,vR,seval, -List.reduceReplicate]
        refine ⟨by kernel_rfl,by kernel_rfl, ?_⟩
        refine CM Tryz.gA Tryz.gi (cs:=ah .u8 496 (fun m=>if 256≤m∧m < 256+4*k then W (m - 256) else C m)) (bx:=⟨true,ah .u8 4 (fun i=>W (k*4+i))⟩) (news:=ah .u8 4 (fun i=>W (k*4+i)))
          (by simp only[ae,vR,seval, -List.reduceReplicate]) (by simp only[ae,vR,seval, -List.reduceReplicate]) (by rw[af,hmin]) (fun j u h=>by simpa using h) (by rw[af,hmin];omega) ?_
        rw[lh .u8 496 4 (256+4*k) _ _ (by omega)]
        simp only[dX k (by omega),vR,seval, -List.reduceReplicate]
        refine congrArg (fun c=>some (aI.mk true c)) (aW fun i hi=> ?_)
        by_cases h1:256+4*k≤i∧i < 256+4*k+4
        · rw[if_pos h1,if_pos (by omega),show k*4+(i - (256+4*k))=i - 256 by omega]
        · rw[if_neg h1]
          by_cases h2:256≤i∧i < 256+4*k
          · rw[if_pos h2,if_pos (by omega)]
          · rw[if_neg h2,if_neg (by omega)]
      · simp only[vR,seval, -List.reduceReplicate]
        refine aZ (by decide) ?_
        simp only[vR,seval, -List.reduceReplicate]
        refine NS (cs:=ah .u8 496 (DG C W)) (by decide) rfl ?_ az ⟨rfl,rfl⟩
        simp only[vR,seval, -List.reduceReplicate]
        refine congrArg (fun c=>some (aI.mk true c)) (aW fun i hi=> ?_)
        simp only[DG]
        by_cases h:256≤i
        · rw[if_pos h,if_pos (by omega)]
        · rw[if_neg h,if_neg (by omega)]
def Km (C:Nat→Int) (r i:Nat):Int:=C (256+r*16+i)
def zZ (C S:Nat→Int):Nat→Nat→Int
 | 0=>Kk S (Km C 0)
 | k+1=>Kk (oJ (zX C (zZ C S k))) (Km C (k+1))
def U9 (C S:Nat→Int):Nat→Int:=Kk (zX C (zZ C S 13)) (Km C 14)
theorem HM (a b:Nat→Int):bg (Kk a b):=fun i=>jI .xor (a i) (b i)
theorem HN (C S:Nat→Int): ∀ k,bg (zZ C S k)
 | 0=>HM _ _
 | _+1=>HM _ _
theorem OV (C S:Nat→Int):bz Tryz.prog 78 [Ptr 0 0,Ag (ah .u8 16 S)] 1 (lk [(0,⟨false,ah .u8 496 C⟩)])
  (fun v out=>v=Ag (ah .u8 16 (U9 C S))∧out=fun _=>none):=by
 have ks: ∀ r,r < 15→((ah .u8 496 C).drop (256+r*16)).take 16=ah .u8 16 (Km C r):=fun r hr=>qV .u8 496 C (256+r*16) 16 (by omega)
 have k0:=ks 0 (by decide)
 have k14:=ks 14 (by decide)
 simp only[Nat.zero_mul,Nat.add_zero,Nat.reduceMul,Nat.reduceAdd]at k0 k14
 refine aA Tryz.func78 rfl (by kernel_rfl) (by simp[Tryz.ntmps78]) Tryz.sm (by simp[AV.ok,CV.ok,SV.names];exact aD az) eH (eL az) ?_
 simp only[Tryz.results78,k0,vR,seval, -List.reduceReplicate]
 refine ⟨by kernel_rfl, ?_⟩
 refine cO.draw (sN S (Km C 0)) Tryz.sG ?_
 simp only[vR,seval, -List.reduceReplicate]
 refine aQ 13 (fun k=>[(0,Ptr 0 0),(4,Ptr 2 0),(5,Ptr 10 0),(6,I .i64 ((1+k:Nat):Int))])
  (fun k=>[(0,⟨false,ah .u8 496 C⟩),(2,⟨true,ah .u8 16 (fun _=>0)⟩),(10,⟨true,ah .u8 16 (zZ C S k)⟩)]) _ ?_ ?_ ?_
 ·simp only[eG,zZ,vR,seval, -List.reduceReplicate]
 ·intro k hk
  have a1:(((1+k:Nat):Int) < 15)=True:=by simp;omega
  simp only[vR,seval, -List.reduceReplicate]
  refine aK (by simp;omega) ?_
  simp only[ks (1+k) (by omega),a1,cC,vR,seval, -List.reduceReplicate]
  refine ⟨by kernel_rfl, ?_⟩
  refine (Cd C (zZ C S k) (HN C S k)).cI (fun _=>0) (cy (rw:=false) (by simp only[ae,vR,seval, -List.reduceReplicate]) az) az (by rfl) (fun M h n _=>h (Ptr 0 0) (by simp)) ?_
  simp only[vR,seval, -List.reduceReplicate]
  refine cO.draw (OQ (zX C (zZ C S k))) Tryz.JO ?_
  simp only[ks (1+k) (by omega),a1,cC,vR,seval, -List.reduceReplicate]
  refine ⟨by omega, ?_⟩
  refine cO.draw (sN (oJ (zX C (zZ C S k))) (Km C (1+k))) Tryz.sG ?_
  have w1:IntKind.i64.wrap (((1+k:Nat):Int)+1)=((1+(k+1):Nat):Int):=by rw[wrap_i64 _ (by omega) (by omega)];omega
  simp only[w1,vR,seval, -List.reduceReplicate]
  rw[Nat.add_comm 1 k]
  rfl
 ·simp only[vR,seval, -List.reduceReplicate]
  refine aZ (by decide) ?_
  simp only[k14,vR,seval, -List.reduceReplicate]
  refine ⟨by kernel_rfl, ?_⟩
  refine (Cd C (zZ C S 13) (HN C S 13)).cI (fun _=>0) (cy (rw:=false) (by simp only[ae,vR,seval, -List.reduceReplicate]) az) az (by rfl) (fun M h n _=>h (Ptr 0 0) (by simp)) ?_
  simp only[k14,vR,seval, -List.reduceReplicate]
  refine cO.draw (sN (zX C (zZ C S 13)) (Km C 14)) Tryz.sG ?_
  simp only[vR,seval, -List.reduceReplicate]
  exact ao az ⟨rfl,rfl⟩
def OW (i:Nat):Int:=if 0≤i∧i < 0+256 then Sp (i - 0) else 0
def OX (K:Nat→Int):Nat→Int:=DG OW (gx OW K 52)
theorem M6: ∀ k,bg (Yp k)
 | 0=>fun i=>by
  simp only[Yp,upd];split
  ·exact jI _ _ _
  ·omega
 | k+1=>fun i=>by
  simp only[Yp,upd];split
  ·exact jI _ _ _
  ·exact M6 k i
theorem Ss:bg OW:=fun i=>by
 simp only[OW];split
 ·exact M6 255 _
 ·omega
theorem Va (k:IntKind) (n:Nat):List.replicate n (Sum.inl (Value.int k 0):SV)=ah k n (fun _=>0):=by
 apply List.ext_getElem?
 intro i
 by_cases h:i < n
 ·rw[aE k n _ i h];simp[h]
 ·rw[List.getElem?_eq_none (by simp;omega),List.getElem?_eq_none (by rw[af];omega)]
theorem Sv:splice (ah .u8 496 (fun _=>0)) 0 (ah .u8 256 Sp)=ah .u8 496 OW:=lh .u8 496 256 0 _ _ (by decide)
theorem uc (K:Nat→Int) (hK:bg K):cO Tryz.prog 77 [Ag (ah .u8 32 K)] (Ag (ah .u8 496 (OX K))):=by
 refine bf Tryz.func77 rfl (by kernel_rfl) (by simp[Tryz.ntmps77]) rfl rfl ?_
 simp only[Tryz.results77,vR,seval, -List.reduceReplicate]
 refine DF.aB ?_
 simp only[Va,Sv,vR,seval, -List.reduceReplicate]
 refine (Kl OW K Ss hK).Ul (t:=4) (by simp only[ae,vR,seval, -List.reduceReplicate]) az az rfl (by rfl) ?_
 simp only[vR,seval, -List.reduceReplicate]
 rfl



theorem Sw {x:Int} (h:0≤x∧x < 256): ∃ n:Nat,x=(n:Int)∧n < 256:=⟨x.toNat,by omega,by omega⟩
theorem adp (x y:Nat) (hx:x < 256) (hy:y < 256):aV .xor .u8 (x:Int) (y:Int)=((x ^^^ y:Nat):Int):=(Um x y hx hy).2.2
theorem Vb {n:Nat} {f:Nat→Int} {o o' c c':Nat} {cs ds:List SV} (hc:br cs o n f) (hd:br ds o' n f) (hp:cs.all SV.plain=true) (hq:ds.all SV.plain=true) (hn:n < 4611686018427387904):
  bz Tryz.prog 9 [Sl 0 o n c,Sl 1 o' n c'] 2 (lk [(0,⟨false,cs⟩),(1,⟨false,ds⟩)]) (fun v out=>v=B true∧out=fun _=>none):=by
 refine aA Tryz.func9 rfl (by kernel_rfl) (by simp[Tryz.ntmps9]) Tryz.pX (by simp[AV.ok,CV.ok,SV.names]) lg (oU hp hq) ?_
 have zV: ∀ {M:Nat→Prop},(∀ x ∈ cs,SV.ok M x)=True:=eq_true (aD hp)
 have Zh: ∀ {M:Nat→Prop},(∀ x ∈ ds,SV.ok M x)=True:=eq_true (aD hq)
 simp only[Tryz.results9,bne_self_eq_false,vR,seval, -List.reduceReplicate]
 refine aQ n (fun k=>[(0,Sl 0 o n c),(1,Sl 1 o' n c'),(12,I .i64 n),(13,I .i64 k)])
  (fun k=>[(0,⟨false,cs⟩),(1,⟨false,ds⟩)]) _ ?_ ?_ ?_
 ·simp only[zV,Zh,vR,seval, -List.reduceReplicate]
 ·intro j hj
  simp only[vR,seval, -List.reduceReplicate]
  refine aK (by simp;omega) ?_
  simp only[cC,fH hj,hc j hj,hd j hj,bne_self_eq_false,dX j (by omega),vR,seval, -List.reduceReplicate]
  exact ⟨by kernel_rfl,aD hp,aD hq⟩
 ·simp only[vR,seval, -List.reduceReplicate]
  refine aZ (by simp) ?_
  simp only[vR,seval, -List.reduceReplicate]
  exact ao rfl ⟨rfl,rfl⟩
theorem Vc {a:Option Addr} {o c:Nat} {cs:List SV} (hp:cs.all SV.plain=true):
  bz Tryz.prog 9 [V (.slice a 0 0),Sl 0 o 0 c] 1 (lk [(0,⟨false,cs⟩)]) (fun v out=>v=B true∧out=fun _=>none):=by
 refine aA Tryz.func9 rfl (by kernel_rfl) (by simp[Tryz.ntmps9]) Tryz.pX (by simp[AV.ok,CV.ok,SV.names]) eH (eL hp) ?_
 simp only[Tryz.results9,bne_self_eq_false,vR,seval, -List.reduceReplicate]
 refine aQ 0 (fun k=>[(12,I .i64 0),(13,I .i64 k)]) (fun k=>[]) _ ?_ ?_ ?_
 ·simp only[vR,seval, -List.reduceReplicate]
 ·intro j hj;omega
 ·simp only[vR,seval, -List.reduceReplicate]
  refine aZ (by simp) ?_
  simp only[vR,seval, -List.reduceReplicate]
  exact ao rfl ⟨rfl,rfl⟩
theorem Vd {a:Option Addr} {o c:Nat} {cs:List SV} (hp:cs.all SV.plain=true):
  bz Tryz.prog 9 [Sl 0 o 0 c,V (.slice a 0 0)] 1 (lk [(0,⟨false,cs⟩)]) (fun v out=>v=B true∧out=fun _=>none):=by
 refine aA Tryz.func9 rfl (by kernel_rfl) (by simp[Tryz.ntmps9]) Tryz.pX (by simp[AV.ok,CV.ok,SV.names]) eH (eL hp) ?_
 simp only[Tryz.results9,bne_self_eq_false,vR,seval, -List.reduceReplicate]
 refine aQ 0 (fun k=>[(12,I .i64 0),(13,I .i64 k)]) (fun k=>[]) _ ?_ ?_ ?_
 ·simp only[vR,seval, -List.reduceReplicate]
 ·intro j hj;omega
 ·simp only[vR,seval, -List.reduceReplicate]
  refine aZ (by simp) ?_
  simp only[vR,seval, -List.reduceReplicate]
  exact ao rfl ⟨rfl,rfl⟩
theorem Ve {a a':Option Addr}:bz Tryz.prog 9 [V (.slice a 0 0),V (.slice a' 0 0)] 0 (fun _=>none) (fun v out=>v=B true∧out=fun _=>none):=by
 refine aA Tryz.func9 rfl (by kernel_rfl) (by simp[Tryz.ntmps9]) Tryz.pX (by simp[AV.ok,CV.ok,SV.names]) I2 I3 ?_
 simp only[Tryz.results9,bne_self_eq_false,vR,seval, -List.reduceReplicate]
 refine aQ 0 (fun k=>[(12,I .i64 0),(13,I .i64 k)]) (fun k=>[]) _ ?_ ?_ ?_
 ·simp only[vR,seval, -List.reduceReplicate]
 ·intro j hj;omega
 ·simp only[vR,seval, -List.reduceReplicate]
  refine aZ (by simp) ?_
  simp only[vR,seval, -List.reduceReplicate]
  exact ao rfl ⟨rfl,rfl⟩
theorem Ce {s:AS} {nm:Nat} {v u:AV} {n:Nat} {f:Nat→Int} (hn:n < 4611686018427387904) (h1:cK s.box v n f) (h2:cK s.box u n f) {ops:Array Oper} {i:Nat} {dst:Option Nat} {K:AS→Prop} (hk:K (s.put dst (some (B true)))):
  qt Tryz.prog ops i nm 9 (some [v,u]) dst K s:=by
 rcases h1 with ⟨⟨a,rfl⟩,rfl⟩ | ⟨t,o,c,rw1,cs,rfl,hb,hp,hc⟩<;>rcases h2 with ⟨⟨a',rfl⟩,h0⟩ | ⟨t',o',c',rw2,ds,rfl,hb',hq,hd⟩
 ·exact Ve.cI (fun n=>n) qC rfl rfl (fun M h n hn=>by omega) hk
 ·exact (Vc hq).cI (fun _=>t') (cy hb' hq) rfl rfl (fun M h n _=>h (Sl t' o' 0 c') (List.Mem.tail _ (List.Mem.head _))) hk
 ·subst h0
  exact (Vd hp).cI (fun _=>t) (cy hb hp) rfl rfl (fun M h n _=>h (Sl t o 0 c) (List.Mem.head _)) hk
 ·exact (Vb hc hd hp hq hn).cI (two t t') (ik hb hp hb' hq) rfl rfl (fun M h n' hn'=>by
   rcases Nat.lt_or_ge n' 1 with h0 | h0
   ·rw[show n'=0 by omega];exact h (Sl t o n c) (List.Mem.head _)
   ·rw[show n'=1 by omega];exact h (Sl t' o' n c') (List.Mem.tail _ (List.Mem.head _))) hk
theorem Sx (t:Nat):(t:Int).tmod 16=((t%16:Nat):Int):=(Int.ofNat_tmod t 16).symm
def adq (K J:Nat→Int) (i:Nat):Int:=U9 (OX K) (lI J ((i / 16:Nat):Int)) (i%16)
def ud (K J f:Nat→Int) (i:Nat):Int:=aV .xor .u8 (f i) (adq K J i)
def DH (k:Nat):Nat:=(k+15) / 16
def HO (K J:Nat→Int) (k:Nat):Nat→Int:=if k=0 then fun _=>0 else U9 (OX K) (lI J (((k - 1) / 16:Nat):Int))
theorem WQ {n o c:Nat} {K J f:Nat→Int} {cs:List SV} (hK:bg K) (hJ:bg J) (hs:br cs o n f) (hp:cs.all SV.plain=true) (hn:n≤140737488355328):
  bz Tryz.prog 55 [Ag (ah .u8 32 K),Ag (ah .u8 16 J),Sl 0 o n c] 1 (lk [(0,⟨false,cs⟩)]) (fun v out=>v=Sl 1 0 n n∧out=lk [(1,⟨true,ah .u8 n (ud K J f)⟩)]):=by
 refine aA Tryz.func55 rfl (by kernel_rfl) (by simp[Tryz.ntmps55]) Tryz.nN (by simp[AV.ok,CV.ok,SV.names];exact ⟨aD az,aD az⟩) eH (eL hp) ?_
 have zV: ∀ {M:Nat→Prop},(∀ x ∈ cs,SV.ok M x)=True:=eq_true (aD hp)
 simp only[Tryz.results55,vR,seval, -List.reduceReplicate]
 refine (uc K hK).aB ?_
 have hby:(1*(n:Int)≤281474976710656)=True:=eq_true (by omega)
 have h63:((n:Int)≤9223372036854775807)=True:=eq_true (by omega)
 have hnn:((n:Int)≤(n:Int))=True:=eq_true (by omega)
 simp only[cC,hby,h63,hnn,vR,seval, -List.reduceReplicate]
 refine aQ n (fun k=>[(2,Sl 0 o n c),(4,Ptr 2 0),(7,Ptr 6 0),(8,Sl 10 0 n n),(9,Ptr 12 0),(17,I .i64 n),(18,I .i64 k)])
  (fun k=>[(0,⟨false,cs⟩),(2,⟨true,ah .u8 16 (lI J (DH k:Nat))⟩),(6,⟨true,ah .u8 496 (OX K)⟩),(10,⟨true,ah .u8 n (fun i=>if i < k then ud K J f i else 0)⟩),(12,⟨true,ah .u8 16 (HO K J k)⟩)]) _ ?_ ?_ ?_
 ·simp only[eG,zV,Nat.not_lt_zero,if_false,HO,vR,seval, -List.reduceReplicate]
  exact congrArg (fun c=>some (aI.mk true c)) (aW fun i hi=>(OU J hJ i).symm)
 ·intro k hk
  have aa6:k%16 < 16:=Nat.mod_lt _ (by decide)
  have WD:(((k%16:Nat):Int) < 16)=True:=eq_true (by omega)
  have eb:HO K J (k+1)=U9 (OX K) (lI J ((k / 16:Nat):Int)):=by simp only[HO];rw[if_neg (by omega),show k+1 - 1=k by omega]
  have ec:aV .xor .u8 (f k) (HO K J (k+1) (k%16))=ud K J f k:=by rw[eb];rfl
  have fin:ah .u8 n (upd (fun i=>if i < k then ud K J f i else 0) k (ud K J f k))=ah .u8 n (fun i=>if i < k+1 then ud K J f i else 0):=kj
  simp only[vR,seval, -List.reduceReplicate]
  refine aK (by simp;omega) ?_
  by_cases h0:k%16=0
  ·have e0:((((k%16:Nat):Int))==0)=true:=by rw[h0];rfl
   have ecn:DH k=k / 16:=by simp only[DH];omega
   have Yr:DH (k+1)=k / 16+1:=by simp only[DH];omega
   have ej:ah .u8 16 (lI (lI J ((k / 16:Nat):Int)) 1)=ah .u8 16 (lI J ((k / 16+1:Nat):Int)):=aW fun i hi=>OT J _ i hi
   simp only[Sx,e0,vR,seval, -List.reduceReplicate]
   refine (OV (OX K) (lI J (DH k:Nat))).dP (fun _=>6) (cy (rw:=true) (by simp only[ae,vR,seval, -List.reduceReplicate]) az) az (by rfl) ?_
   simp only[ecn, ← eb,vR,seval, -List.reduceReplicate]
   refine (zY (lI J ((k / 16:Nat):Int)) (Sq _ _)).aB ?_
   simp only[Sx,ej,cC,WD,fH hk,hs k hk,aE .u8 16 _ _ aa6,ec,bb .u8 n _ k hk,dX k (by omega),Yr,fin,vR,seval, -List.reduceReplicate]
   exact ⟨by kernel_rfl,by omega,aD hp⟩
  ·have e0:((((k%16:Nat):Int))==0)=false:=by simp;omega
   have Yr:DH (k+1)=DH k:=by simp only[DH];omega
   have ebk:HO K J (k+1)=HO K J k:=by
    rw[eb];simp only[HO];rw[if_neg (by omega),show (k - 1) / 16=k / 16 by omega]
   rw[ebk]at ec
   simp only[Sx,e0,cC,WD,fH hk,hs k hk,aE .u8 16 _ _ aa6,ec,bb .u8 n _ k hk,dX k (by omega),Yr,ebk,fin,vR,seval, -List.reduceReplicate]
   exact ⟨by kernel_rfl,by omega,aD hp⟩
 ·simp only[vR,seval, -List.reduceReplicate]
  refine aZ (by simp) ?_
  simp only[iy,vR,seval, -List.reduceReplicate]
  refine gV (k:=1) (q:=10) (cs:=ah .u8 n (ud K J f)) (by decide) ?_ az ⟨rfl,rfl⟩
  simp only[vR,seval, -List.reduceReplicate]
theorem uf {s:AS} {fn k n nm:Nat} {cs:List SV} {args l:List AV} {ins:Nat→Option aI} (h:bz Tryz.prog fn args k ins (fun v out=>v=Sl k 0 n n∧out=lk [(k,⟨true,cs⟩)])) (hp:cs.all SV.plain=true) (r:Nat→Nat) (hfit:Fits s r ins none) (hl:l=args.map (AV.ren r)) {dst:Option Nat} {K:AS→Prop}
  (hk:K ((⟨s.env,upd s.box nm (some ⟨true,cs⟩),s.next⟩:AS).put dst (some (Sl nm 0 n n)))):aB Tryz.prog nm fn (some l) dst K s:=by
 refine h.aB r none hfit hl ?_
 rintro v out ⟨rfl,rfl⟩ _
 rw[km hp]
 have e:AV.ren (dy r k nm) (Sl k 0 n n)=Sl nm 0 n n:=by show Sl (dy r k nm k) 0 n n=_;rw[kt]
 rw[e]
 exact hk

theorem OY {f g:Nat→Int}:splice (splice (splice (ah .u8 80 g) 0 (ah .u8 32 f)) 32 (ah .u8 32 (fun i=>f (32+i)))) 64 (ah .u8 16 (fun i=>f (64+i)))=ah .u8 80 f:=by
 rw[lh .u8 80 32 0 _ _ (by decide),lh .u8 80 32 32 _ _ (by decide),lh .u8 80 16 64 _ _ (by decide)]
 refine aW fun i hi=> ?_
 by_cases h1:64≤i
 ·rw[if_pos (by omega),show 64+(i - 64)=i by omega]
 ·rw[if_neg (by omega)]
  by_cases h2:32≤i
  ·rw[if_pos (by omega),show 32+(i - 32)=i by omega]
  ·rw[if_neg (by omega),if_pos (by omega),Nat.sub_zero]
def jV (i:Nat):Int:=[114,97,116,99,104,101,116,32,115,101,97,108].getD i 0
theorem Kn:bg jV:=fun i=>by
 by_cases h:i < 12
 ·have: ∀ j,j < 12→0≤jV j∧jV j < 256:=by decide
  exact this i h
 ·have:jV i=0:=by
   simp only[jV,List.getD_eq_getElem?_getD]
   rw[List.getElem?_eq_none (by simp;omega)];rfl
  rw[this];decide
def sO (mk:Nat→Int):Nat→Int:=rm kW fD (jy kW fD (fun _=>0) 32 mk 32) jV 12
theorem aa7 (p info:Nat→Int) (m c:Nat):bg (Jc kW fD p info m c):=CT _ _ _ _ _ _
theorem gC (mk:Nat→Int):bg (sO mk):=fun i=>aa7 _ _ _ _ _
theorem gq (mk:Nat→Int) (hb:bg mk):cO Tryz.prog 54 [Ag (ah .u8 32 mk)] (Ag (ah .u8 80 (sO mk))):=by
 refine bf Tryz.func54 rfl (by kernel_rfl) (by simp[Tryz.ntmps54]) rfl rfl ?_
 have tH: ∀ r:Nat→Int,splice (ah .u8 32 (fun _=>0)) 0 (ah .u8 32 r)=ah .u8 32 r:=fun r=>dk .u8 32 _ _
 simp only[Tryz.results54,aH,tH,vR,seval, -List.reduceReplicate]
 refine ⟨by kernel_rfl,show 1≤1 by decide, ?_⟩
 refine Oz (PH:=true) (J2:=true) (key:=fun _=>0) (f0:=mk) (n0:=32) (by simp only[aJ];rfl) rfl (.inr ⟨0,0,32,true,ah .u8 32 mk,rfl,by simp only[ae,vR,seval, -List.reduceReplicate],az,bN⟩) hb (by simp only[ae,vR,seval, -List.reduceReplicate]) az bN (fun _=>⟨Int.le_refl 0,by show (0:Int) < 256;decide⟩) (by decide) (by decide) (by decide) ?_
 obtain ⟨p,Zi⟩: ∃ p,jy kW fD (fun _=>0) 32 mk 32=p:=⟨_,rfl⟩
 have Eb:bg p:=by rw[← Zi];exact il _ _ _ _ _ _
 have eS:sO mk=rm kW fD p jV 12:=by rw[sO,Zi]
 rw[Zi]
 simp only[vR,seval, -List.reduceReplicate]
 refine ⟨by decide,by decide,by decide,by decide,by decide,by decide,by decide,by decide,by decide,by decide,by decide, ?_⟩
 refine uF (uS (Post':=Made 1 80 (rm kW fD p jV 12)) (Hg (o:=0) (m:=12) (c:=12) (n:=80) (cs:=ah .u8 12 jV) Eb Kn bN az (by decide) (by decide)) (fun v out h=>h.resolve_left (fun e=>by cases e.1))) (fun _=>9) (cy (rw:=true) (by simp only[aJ];rfl) az)
  (by simp only[List.map_cons,List.map_nil,fc,fb];rfl) (fun M h n _=>h (Sl 9 0 12 12) (List.Mem.tail _ (List.Mem.head _))) (by kernel_rfl) ?_
 intro c1 mU h1 h2 h3
 have n1:(c1=32)=False:=eq_false (by omega)
 have n2:(c1=64)=False:=eq_false (by omega)
 have l1:(32≤(c1:Int))=True:=eq_true (by omega)
 have l2:(64≤(c1:Int))=True:=eq_true (by omega)
 have l3:(80≤(c1:Int))=True:=eq_true (by omega)
 have len: ∀ m,m≤80→(m≤(ah .u8 80 (rm kW fD p jV 12)++mU).length)=True:=fun m hm=>eq_true (by rw[List.length_append,af];omega)
 have p0:=gX (n:=80) (m:=32) (f:=rm kW fD p jV 12) (tail:=mU) (by decide)
 have p1:=gj (n:=80) (a:=32) (m:=32) (f:=rm kW fD p jV 12) (tail:=mU) (by decide)
 have p2:=gj (n:=80) (a:=64) (m:=16) (f:=rm kW fD p jV 12) (tail:=mU) (by decide)
 simp only[n1,n2,l1,l2,l3,len 32 (by decide),len 64 (by decide),len 80 (by decide),p0,p1,p2,aH,OY,vR,seval, -List.reduceReplicate]
 have ls: ∀ (l:List SV) (o:Nat) (m:List SV),o+m.length≤l.length→(splice l o m).length=l.length:=fun l o m h=>gl l o m h
 refine ⟨by kernel_rfl, ?_, ?_,by rw[eS]⟩
 ·rw[ls _ _ _ (by rw[af,af];decide),af];decide
 ·rw[ls _ _ _ (by rw[ls _ _ _ (by rw[af,af];decide),af,af];decide),ls _ _ _ (by rw[af,af];decide),af];decide
theorem wD {x:Int}:bz Tryz.prog 80 [V (.slice none 0 0),I .u64 x] 0 (fun _=>none) (Made 0 8 (lA x)):=by
 refine aA Tryz.func80 rfl (by kernel_rfl) (by simp[Tryz.ntmps80]) Tryz.nR (by simp[AV.ok,CV.ok,SV.names]) I2 I3 ?_
 simp only[Tryz.results80,vR,seval, -List.reduceReplicate]
 refine pQ (β:=Nat×List SV) 8 (fun k y=>k=0∨bV y.2 0 k y.1 (lA x))
  (fun k y=>[(0,if k=0 then V (.slice none 0 0) else Sl 30 0 k y.1),(1,I .u64 x),(5,I .i64 (56 - 8*(k:Int)))]) (fun k y=>if k=0 then [] else [(30,⟨true,y.2⟩)]) 31 (0,[]) ?_ ?_ ?_ (by show _≤31;simp only[AS.put];omega)
 ·refine ⟨.inl rfl,30,0, ?_⟩
  simp only[gb,if_true,mP,fb,qD,oz,vR,seval, -List.reduceReplicate]
  simp
  trivial
 ·rintro k ⟨c',cs'⟩ hk h1
  simp only at h1
  have eb:IntKind.u8.wrap (ft .u64 x (56 - 8*(k:Int)))=lA x k:=rfl
  have ws:IntKind.i64.wrap (56 - 8*(k:Int) - 8)=56 - 8*((k+1:Nat):Int):=by rw[wrap_i64 _ (by omega) (by omega)];omega
  rcases k with _ | k
  ·have eb:IntKind.u8.wrap (ft .u64 x 56)=lA x 0:=rfl
   have a0:(56 - 8*(0:Int))=56:=rfl
   have ws:IntKind.i64.wrap 48=56 - 8*1:=by decide
   simp only[a0,vR,seval, -List.reduceReplicate]
   refine aK (by decide) ?_
   simp only[eb,vR,seval, -List.reduceReplicate]
   refine mQ (g:=fun _=>lA x 0) Tryz.gA Tryz.gi (.inr ⟨_,_,_,true,[Sum.inl (.int .u8 (lA x 0))],rfl,by simp only[aJ];rfl,rfl,gp⟩) (by decide) (fun h=>by cases h) ?_
   intro _ c2 qH j6
   simp only[ws,vR,seval, -List.reduceReplicate]
   refine ⟨(c2,qH), .inr (j6.congr rfl fun i hi=>by rw[show i=0 by omega]),30,39, ?_⟩
   simp only[gb,mP,fb,qD,oz,j6.plain,true_or,vR,seval, -List.reduceReplicate]
   simp
  ·have hg:=h1.resolve_left (by omega)
   have a2:(0≤56 - 8*((k+1:Nat):Int))=True:=eq_true (by omega)
   simp only[Nat.add_one_ne_zero,if_false,vR,seval, -List.reduceReplicate]
   refine aK (by simp;omega) ?_
   simp only[a2,eb,vR,seval, -List.reduceReplicate]
   refine fI (g:=fun _=>lA x (k+1)) Tryz.gA Tryz.gi (by simp only[ae,vR,seval, -List.reduceReplicate]) hg (.inr ⟨_,0,1,true,[Sum.inl (.int .u8 (lA x (k+1)))],rfl,by simp only[aJ];rfl,gp,by decide⟩) (by omega) ?_
   intro c2 qH j6
   simp only[ws,vR,seval, -List.reduceReplicate]
   refine ⟨(c2,qH), .inr (j6.congr rfl fun i hi=> ?_),30,39, ?_⟩
   ·simp only[bh];split
    ·rfl
    ·rw[show i=k+1 by omega]
   simp only[gb,mP,fb,qD,oz,j6.plain,true_or,vR,seval, -List.reduceReplicate]
   simp
 ·rintro ⟨c',cs'⟩ h1
  have h1:=h1.resolve_left (by decide)
  simp only at h1
  simp only[vR,seval, -List.reduceReplicate]
  refine aZ (by decide) ?_
  simp only[vR,seval, -List.reduceReplicate]
  refine gV (k:=0) (q:=30) (cs:=cs') (by decide) ?_ h1.plain h1.made
  simp only[vR,seval, -List.reduceReplicate]
theorem HP (x:Int):bg (lA x):=fun i=>by simp only[lA,wrap_u8];omega
def adr (na nb:Nat) (ad body:Nat→Int):Nat→Int:=bh (8+na) (bh 8 (lA (na:Int)) ad) body
def wU (K:Nat→Int) (na nb:Nat) (ad body:Nat→Int):Nat→Int:=jy kW fD (fun i=>K (32+i)) 32 (adr na nb ad body) (8+na+nb)
theorem M7 {oa na ca ob nb cb:Nat} {K ad body:Nat→Int} {cs ds:List SV} (hK:bg K) (ha:bg ad) (hb:bg body) (hs:br cs oa na ad) (hp:cs.all SV.plain=true) (hs':br ds ob nb body) (hq:ds.all SV.plain=true) (hna:na < 40000000) (hnb:nb < 40000000):
  bz Tryz.prog 56 [Ag (ah .u8 80 K),Sl 0 oa na ca,Sl 1 ob nb cb] 2 (lk [(0,⟨false,cs⟩),(1,⟨false,ds⟩)]) (fun u out=>u=Ag (ah .u8 32 (wU K na nb ad body))∧out=fun _=>none):=by
 refine aA Tryz.func56 rfl (by kernel_rfl) (by simp[Tryz.ntmps56]) Tryz.nO (fun u hu=>by
  simp only[List.mem_cons,List.not_mem_nil,or_false]at hu
  rcases hu with rfl | rfl | rfl
  ·exact aD az
  ·exact (by decide:0 < 2)
  ·exact (by decide:1 < 2)) lg (oU hp hq) ?_
 have hw:IntKind.u64.wrap (na:Int)=(na:Int):=aC _ (by omega) (by omega)
 simp only[Tryz.results56,hw,vR,seval, -List.reduceReplicate]
 refine pS wD (fun n=>n) qC rfl ?_
 intro c1 mU h1 h2 h3
 simp only[vR,seval, -List.reduceReplicate]
 refine ⟨show 1≤3 by decide,show 2≤3 by decide,show 3≤3 by decide, ?_⟩
 have hk:br (ah .u8 80 K) 32 32 (fun i=>K (32+i)):=fun i hi=>aE .u8 80 K (32+i) (by omega)
 refine pY (PH:=true) (J2:=true) (wy:=ah .u8 80 K) (key:=fun i=>K (32+i)) (n0:=8) (n1:=na) (n2:=nb) (f0:=lA (na:Int)) (f1:=ad) (f2:=body) (by simp only[aJ,Dn]) rfl
  (.inr ⟨7,0,c1,true,ah .u8 8 (lA (na:Int))++mU,rfl,by simp only[ae,vR,seval, -List.reduceReplicate],fR h3,jJ⟩) (.inr ⟨0,oa,ca,false,cs,rfl,by simp only[ae,vR,seval, -List.reduceReplicate],hp,hs⟩) (.inr ⟨1,ob,cb,false,ds,rfl,by simp only[ae,vR,seval, -List.reduceReplicate],hq,hs'⟩)
  (HP _) ha hb (by simp only[ae,vR,seval, -List.reduceReplicate]) az hk (fun i=>hK _) (by decide) (by decide) (by omega) ?_
 simp only[vR,seval, -List.reduceReplicate]
 exact ao az ⟨rfl,rfl⟩
theorem gf (k:IntKind) (n:Nat) (f:Nat→Int):cj k (ah k n f)=some ((List.range n).map f):=by
 rw[ah]
 generalize List.range n=l
 induction l with
 | nil=>rfl
 | cons a l ih=>simp only[List.map_cons,cj,ih,if_true]
theorem xor_zero {a b:Int} (ha:0≤a∧a < 256) (hb:0≤b∧b < 256):aV .xor .u8 a b=0↔a=b:=by
 obtain ⟨n,rfl,hn⟩:=Sw ha
 obtain ⟨m,rfl,hm⟩:=Sw hb
 rw[adp n m hn hm]
 constructor
 ·intro h
  have h2:n ^^^ m=0:=by omega
  have:n=m:=by
   apply Nat.eq_of_testBit_eq
   intro i
   have:=congrArg (fun z=>z.testBit i) h2
   simp only[Nat.testBit_xor,Nat.zero_testBit]at this
   revert this
   cases n.testBit i<;>cases m.testBit i<;>simp
  rw[this]
 ·intro h
  have:n=m:=by omega
  rw[this,Nat.xor_self];rfl
def lJ (x y:Nat→Int):Bool:=decide ((List.range 32).map x=(List.range 32).map y)
theorem l9 (x y:Nat→Int) (hx:bg x) (hy:bg y):cO Tryz.prog 99 [Ag (ah .u8 32 x),Ag (ah .u8 32 y)] (B (lJ x y)):=by
 refine bf Tryz.func99 rfl (by kernel_rfl) (by simp[Tryz.ntmps99]) rfl rfl ?_
 simp only[Tryz.results99,vR,seval, -List.reduceReplicate]
 refine aQ 32 (fun k=>[(2,Ptr 0 0),(3,Ptr 1 0),(5,Ptr 3 0),(7,I .i64 k)]) (fun k=>[(0,⟨true,ah .u8 32 x⟩),(1,⟨true,ah .u8 32 y⟩),(3,⟨true,ah .u8 32 (fun i=>if i < k then aV .xor .u8 (x i) (y i) else 0)⟩)]) _ ?_ ?_ ?_
 ·simp only[Nat.not_lt_zero,if_false,vR,seval, -List.reduceReplicate]
 ·intro k hk
  have a1:((k:Int) < 32)=True:=fw (m:=32) hk
  have fin:ah .u8 32 (upd (fun i=>if i < k then aV .xor .u8 (x i) (y i) else 0) k (aV .xor .u8 (x k) (y k)))=ah .u8 32 (fun i=>if i < k+1 then aV .xor .u8 (x i) (y i) else 0):=kj
  simp only[vR,seval, -List.reduceReplicate]
  refine aK (by simp;omega) ?_
  simp only[a1,cC,Nat.mul_one,aE .u8 32 _ k hk,bb .u8 32 _ k hk,fin,dX k (by omega),vR,seval, -List.reduceReplicate]
  exact ⟨by kernel_rfl,by omega⟩
 ·simp only[vR,seval, -List.reduceReplicate]
  refine aZ (by simp) ?_
  simp only[iy,aH,gf,CK,vR,seval, -List.reduceReplicate]
  refine ⟨⟨by simp,by simp⟩, ?_⟩
  have:(List.map (fun i=>aV BinOp.xor IntKind.u8 (x i) (y i)) (List.range 32)=List.map (fun _=>0) (List.range 32))=(List.map x (List.range 32)=List.map y (List.range 32)):=by
   rw[eq_iff_iff,List.map_inj_left,List.map_inj_left]
   exact ⟨fun h i hi=>(xor_zero (hx i) (hy i)).1 (h i hi),fun h i hi=>(xor_zero (hx i) (hy i)).2 (h i hi)⟩
  show B (decide _)=B (decide _)
  simp only[this]
def cx (mk f:Nat→Int):Nat→Int:=ud (sO mk) (fun i=>sO mk (64+i)) f
def jB (mk:Nat→Int) (na n:Nat) (ad body:Nat→Int):Nat→Int:=wU (sO mk) na n ad body
def jo (k n c:Nat) (tag:Nat→Int):AV:=Ag (Sum.inr (Sum.inr (k,0,n,c))::ah .u8 32 tag)
theorem zp (K J f:Nat→Int):bg (ud K J f):=fun i=>jI _ _ _
theorem cL:List.map Sum.inl (List.replicate 1 (Value.slice none 0 0)++List.replicate 32 (Value.int IntKind.u8 0))=(Sum.inl (Value.slice none 0 0)::ah .u8 32 (fun _=>0):List SV):=rfl
theorem bZ:(List.replicate 1 (Sum.inl (Value.slice none 0 0))++List.replicate 32 (Sum.inl (Value.int IntKind.u8 0)):List SV)=Sum.inl (Value.slice none 0 0)::ah .u8 32 (fun _=>0):=rfl
theorem Sy {a0 a:SV} {g:Nat→Int}:splice (a0::ah .u8 32 g) 0 [a]=a::ah .u8 32 g:=rfl
theorem Sz {a:SV} {g r:Nat→Int}:splice (a::ah .u8 32 g) 1 (ah .u8 32 r)=a::ah .u8 32 r:=by simp[splice,af]
theorem SA {a0 a:SV} {g r:Nat→Int}:splice (a0::ah .u8 32 g) 0 (a::ah .u8 32 r)=a::ah .u8 32 r:=by simp[splice,af]
theorem pF {a:SV} {g:Nat→Int}:(a::ah .u8 32 g).length=33:=by simp[af]
theorem SB {a:SV} {g:Nat→Int}:List.take 33 (a::ah .u8 32 g)=a::ah .u8 32 g:=List.take_of_length_le (by rw[pF];exact Nat.le_refl _)
theorem sP {r:Nat→Nat} {k n c:Nat} {tag:Nat→Int}:AV.ren r (jo k n c tag)=jo (r k) n c tag:=by
 show AV.ren r (.inl (.inr _))=_
 simp only[AV.ren,CV.ren,List.map_cons,aN az]
 rfl
theorem zq {s:AS} {k q n c:Nat} {tag:Nat→Int} {cs:List SV} (hq:k≤q) (hb:s.box q=some ⟨true,cs⟩) (hp:cs.all SV.plain=true):sV k (fun v out=>v=jo k n c tag∧out=lk [(k,⟨true,cs⟩)]) (jo q n c tag) s:=by
 refine ⟨q,jo k n c tag,lk [(k,⟨true,cs⟩)],hq, ?_, ?_,fun m b hm=> ?_,rfl,rfl⟩
 ·rw[sP,kD]
 ·intro x hx
  rcases List.mem_cons.1 hx with rfl | hx
  ·exact ⟨Nat.lt_succ_self k,rfl⟩
  ·exact SV.aM (List.all_eq_true.1 az x hx)
 ·simp only[lk]at hm
  split at hm
  ·rename_i e
   simp only[Option.some.injEq]at hm;subst e hm
   exact ⟨Nat.lt_succ_self m,fun _=>rfl,aD hp,_,by rw[kD];exact hb,fun _=>rfl,(aN hp _).symm⟩
  ·cases hm
theorem zr {a b:Nat} (h: ¬ (1048576 < a∨1048576 < b)):decide (1048576 < (a:Int))=false∧decide (1048576 < (b:Int))=false:=⟨decide_eq_false (by omega),decide_eq_false (by omega)⟩
theorem Ys {oa na ca od n cd:Nat} {mk ad f:Nat→Int} {cs ds:List SV} (hmk:bg mk) (ha:bg ad) (hf:bg f) (hs:br cs oa na ad) (hp:cs.all SV.plain=true) (hs':br ds od n f) (hq:ds.all SV.plain=true) (hg: ¬ (1048576 < na∨1048576 < n)):
  bz Tryz.prog 31 [Ag (ah .u8 32 mk),Sl 0 oa na ca,Sl 1 od n cd] 2 (lk [(0,⟨false,cs⟩),(1,⟨false,ds⟩)]) (fun v out=>v=jo 2 n n (jB mk na n ad (cx mk f))∧out=lk [(2,⟨true,ah .u8 n (cx mk f)⟩)]):=by
 refine aA Tryz.func31 rfl (by kernel_rfl) (by simp[Tryz.ntmps31]) Tryz.nH (fun u hu=>by
  simp only[List.mem_cons,List.not_mem_nil,or_false]at hu
  rcases hu with rfl | rfl | rfl
  ·exact aD az
  ·exact (by decide:0 < 2)
  ·exact (by decide:1 < 2)) lg (oU hp hq) ?_
 obtain ⟨d1,d2⟩:=zr hg
 simp only[Tryz.results31,cL,vR,seval, -List.reduceReplicate]
 refine ⟨by decide, ?_⟩
 refine cB (rw:=false) (by simp only[ae,vR,seval, -List.reduceReplicate]) hp ?_
 simp only[d1,vR,seval, -List.reduceReplicate]
 refine cB (rw:=false) (by simp only[ae,vR,seval, -List.reduceReplicate]) hq ?_
 simp only[d2,vR,seval, -List.reduceReplicate]
 refine (gq mk hmk).aB ?_
 have t0:=gX (n:=80) (m:=32) (f:=sO mk) (tail:=[]) (by decide)
 have t2:=gj (n:=80) (a:=64) (m:=16) (f:=sO mk) (tail:=[]) (by decide)
 rw[List.append_nil]at t0 t2
 simp only[aH,dk,t0,t2,vR,seval, -List.reduceReplicate]
 refine uf (WQ (c:=cd) (gC mk) (fun i=>gC mk (64+i)) hs' hq (by omega)) az (fun _=>1) (cy (rw:=false) (by simp only[ae,vR,seval, -List.reduceReplicate]) hq) (by simp only[List.map_cons,List.map_nil,fc,fb]) ?_
 obtain ⟨bd,hbd⟩: ∃ bd,ud (sO mk) (fun i=>sO mk (64+i)) f=bd:=⟨_,rfl⟩
 have hbb:bg bd:=by rw[← hbd];exact zp _ _ _
 have eb:cx mk f=bd:=hbd
 rw[eb,hbd]
 simp only[vR,seval, -List.reduceReplicate]
 refine (M7 (ca:=ca) (cb:=n) (gC mk) ha hbb hs hp (bN (n:=n) (f:=bd)) az (by omega) (by omega)).dP (two 0 19) (ik (rw:=false) (rw':=true) (by simp only[ae,vR,seval, -List.reduceReplicate]) hp (by simp only[ae,vR,seval, -List.reduceReplicate]) az) az (by simp only[List.map_cons,List.map_nil,fc,fb];rfl) ?_
 simp only[bZ,Sy,Sz,SA,pF,SB,vR,seval, -List.reduceReplicate]
 exact zq (by decide) (by simp only[ae,vR,seval, -List.reduceReplicate]) az
def fX (k n:Nat):AV:= .inr [.inl (.inr (.inr (k,0,n,n))), .inl (.inl (.bool true))]
def qe:AV:= .inr [.inl (.inl (.slice none 0 0)), .inl (.inl (.bool false))]
theorem zt {s:AS} {k q n:Nat} {cs:List SV} (hq:k≤q) (hb:s.box q=some ⟨true,cs⟩) (hp:cs.all SV.plain=true):sV k (fun v out=>v=fX k n∧out=lk [(k,⟨true,cs⟩)]) (fX q n) s:=by
 refine ⟨q,fX k n,lk [(k,⟨true,cs⟩)],hq, ?_, ?_,fun m b hm=> ?_,rfl,rfl⟩
 ·show fX q n=fX (lM k q k) n
  rw[kD]
 ·intro x hx
  simp only[List.mem_cons,List.not_mem_nil,or_false]at hx
  rcases hx with rfl | rfl
  ·exact Nat.lt_succ_self k
  ·trivial
 ·simp only[lk]at hm
  split at hm
  ·rename_i e
   simp only[Option.some.injEq]at hm;subst e hm
   exact ⟨Nat.lt_succ_self m,fun _=>rfl,aD hp,_,by rw[kD];exact hb,fun _=>rfl,(aN hp _).symm⟩
  ·cases hm
theorem Yt {oa na ca ob n cb:Nat} {mk ad f tag:Nat→Int} {cs ds:List SV} (hmk:bg mk) (ha:bg ad) (hf:bg f) (ht:bg tag) (hs:br cs oa na ad) (hp:cs.all SV.plain=true) (hs':br ds ob n f) (hq:ds.all SV.plain=true) (hg: ¬ (1048576 < na∨1048576 < n)) (hsame:lJ tag (jB mk na n ad f)=true):
  bz Tryz.prog 86 [Ag (ah .u8 32 mk),Sl 0 oa na ca,Ag (Sum.inr (Sum.inr (1,ob,n,cb))::ah .u8 32 tag)] 2 (lk [(0,⟨false,cs⟩),(1,⟨false,ds⟩)]) (fun v out=>v=fX 2 n∧out=lk [(2,⟨true,ah .u8 n (cx mk f)⟩)]):=by
 refine aA Tryz.func86 rfl (by kernel_rfl) (by simp[Tryz.ntmps86]) Tryz.jP (fun u hu=>by
  simp only[List.mem_cons,List.not_mem_nil,or_false]at hu
  rcases hu with rfl | rfl | rfl
  ·exact aD az
  ·exact (by decide:0 < 2)
  ·intro x hx
   rcases List.mem_cons.1 hx with rfl | hx
   ·exact ⟨(by decide:1 < 2),rfl⟩
   ·exact SV.aM (List.all_eq_true.1 az x hx)) lg (oU hp hq) ?_
 obtain ⟨d1,d2⟩:=zr hg
 simp only[Tryz.results86,vR,seval, -List.reduceReplicate]
 refine cB (rw:=false) (by simp only[ae,vR,seval, -List.reduceReplicate]) hp ?_
 simp only[d1,pF,vR,seval, -List.reduceReplicate]
 refine cB (rw:=false) (by simp only[ae,vR,seval, -List.reduceReplicate]) hq ?_
 simp only[d2,vR,seval, -List.reduceReplicate]
 refine (gq mk hmk).aB ?_
 have t0:=gX (n:=80) (m:=32) (f:=sO mk) (tail:=[]) (by decide)
 have t2:=gj (n:=80) (a:=64) (m:=16) (f:=sO mk) (tail:=[]) (by decide)
 rw[List.append_nil]at t0 t2
 have tt:List.take 32 (ah .u8 32 tag)=ah .u8 32 tag:=gW _ _ _
 simp only[aH,dk,t0,t2,tt,pF,vR,seval, -List.reduceReplicate]
 refine ⟨by kernel_rfl, ?_⟩
 refine (M7 (ca:=ca) (cb:=cb) (gC mk) ha hf hs hp hs' hq (by omega) (by omega)).cI (two 0 1) (ik (rw:=false) (rw':=false) (by simp only[ae,vR,seval, -List.reduceReplicate]) hp (by simp only[ae,vR,seval, -List.reduceReplicate]) hq) az (by simp only[List.map_cons,List.map_nil,fc,fb];rfl) (fun M h m hm=> ?_) ?_
 ·have a:=h (Sl 0 oa na ca) (List.Mem.tail _ (List.Mem.head _))
  have b:=h (Sl 1 ob n cb) (List.Mem.tail _ (List.Mem.tail _ (List.Mem.head _)))
  simp only[two];split
  ·exact a
  ·exact b
 simp only[vR,seval, -List.reduceReplicate]
 refine cO.draw (l9 tag (wU (sO mk) na n ad f) ht (il _ _ _ _ _ _)) Tryz.nT ?_
 have sQ:lJ tag (wU (sO mk) na n ad f)=true:=hsame
 simp only[sQ,t0,t2,Bool.not_true,vR,seval, -List.reduceReplicate]
 refine uf (WQ (c:=cb) (gC mk) (fun i=>gC mk (64+i)) hs' hq (by omega)) az (fun _=>1) (cy (rw:=false) (by simp only[ae,vR,seval, -List.reduceReplicate]) hq) (by simp only[List.map_cons,List.map_nil,fc,fb]) ?_
 simp only[vR,seval, -List.reduceReplicate]
 exact zt (by decide) (by simp only[ae,vR,seval, -List.reduceReplicate];rfl) az
theorem OZ {oa na ca ob n cb:Nat} {mk ad f tag:Nat→Int} {cs ds:List SV} (hmk:bg mk) (ha:bg ad) (hf:bg f) (ht:bg tag) (hs:br cs oa na ad) (hp:cs.all SV.plain=true) (hs':br ds ob n f) (hq:ds.all SV.plain=true) (hg: ¬ (1048576 < na∨1048576 < n)) (hsame:lJ tag (jB mk na n ad f)=false):
  bz Tryz.prog 86 [Ag (ah .u8 32 mk),Sl 0 oa na ca,Ag (Sum.inr (Sum.inr (1,ob,n,cb))::ah .u8 32 tag)] 2 (lk [(0,⟨false,cs⟩),(1,⟨false,ds⟩)]) (fun v out=>v=qe∧out=fun _=>none):=by
 refine aA Tryz.func86 rfl (by kernel_rfl) (by simp[Tryz.ntmps86]) Tryz.jP (fun u hu=>by
  simp only[List.mem_cons,List.not_mem_nil,or_false]at hu
  rcases hu with rfl | rfl | rfl
  ·exact aD az
  ·exact (by decide:0 < 2)
  ·intro x hx
   rcases List.mem_cons.1 hx with rfl | hx
   ·exact ⟨(by decide:1 < 2),rfl⟩
   ·exact SV.aM (List.all_eq_true.1 az x hx)) lg (oU hp hq) ?_
 obtain ⟨d1,d2⟩:=zr hg
 simp only[Tryz.results86,vR,seval, -List.reduceReplicate]
 refine cB (rw:=false) (by simp only[ae,vR,seval, -List.reduceReplicate]) hp ?_
 simp only[d1,pF,vR,seval, -List.reduceReplicate]
 refine cB (rw:=false) (by simp only[ae,vR,seval, -List.reduceReplicate]) hq ?_
 simp only[d2,vR,seval, -List.reduceReplicate]
 refine (gq mk hmk).aB ?_
 have t0:=gX (n:=80) (m:=32) (f:=sO mk) (tail:=[]) (by decide)
 have t2:=gj (n:=80) (a:=64) (m:=16) (f:=sO mk) (tail:=[]) (by decide)
 rw[List.append_nil]at t0 t2
 have tt:List.take 32 (ah .u8 32 tag)=ah .u8 32 tag:=gW _ _ _
 simp only[aH,dk,t0,t2,tt,pF,vR,seval, -List.reduceReplicate]
 refine ⟨by kernel_rfl, ?_⟩
 refine (M7 (ca:=ca) (cb:=cb) (gC mk) ha hf hs hp hs' hq (by omega) (by omega)).cI (two 0 1) (ik (rw:=false) (rw':=false) (by simp only[ae,vR,seval, -List.reduceReplicate]) hp (by simp only[ae,vR,seval, -List.reduceReplicate]) hq) az (by simp only[List.map_cons,List.map_nil,fc,fb];rfl) (fun M h m hm=> ?_) ?_
 ·have a:=h (Sl 0 oa na ca) (List.Mem.tail _ (List.Mem.head _))
  have b:=h (Sl 1 ob n cb) (List.Mem.tail _ (List.Mem.tail _ (List.Mem.head _)))
  simp only[two];split
  ·exact a
  ·exact b
 simp only[vR,seval, -List.reduceReplicate]
 refine cO.draw (l9 tag (wU (sO mk) na n ad f) ht (il _ _ _ _ _ _)) Tryz.nT ?_
 have sQ:lJ tag (wU (sO mk) na n ad f)=false:=hsame
 simp only[sQ,Bool.not_false,vR,seval, -List.reduceReplicate]
 exact ao (v:=qe) rfl ⟨rfl,rfl⟩

theorem uI {s:AS} {k:Nat} {P Q:AV→(Nat→Option aI)→Prop} {v:AV} (h:sV k P v s) (hi: ∀ v out,P v out→Q v out):sV k Q v s:=by
 obtain ⟨q,v0,out,h1,h2,h3,h4,h5⟩:=h
 exact ⟨q,v0,out,h1,h2,h3,h4,hi _ _ h5⟩


def Vf (aF:Nat→Int) (pn n:Int):Nat→Int:=ua aF pn n 0 (fun _=>0) (fun _=>0)
def aa8 (k:Nat) (aF:Nat→Int) (pn n:Int) (v:AV) (out:Nat→Option aI):Prop:= ∃ c cs,v=Sl k 0 41 c∧41≤c∧br cs 0 41 (Vf aF pn n)∧cs.all SV.plain=true∧out=lk [(k,⟨true,cs⟩)]
theorem Aa {aF:Nat→Int} {pn n:Int}:bz Tryz.prog 33 [Ag (lO aF pn n)] 0 (fun _=>none) (aa8 0 aF pn n):=by
 refine aA Tryz.func33 rfl (by kernel_rfl) (by simp[Tryz.ntmps33]) Tryz.rN (fun y hy=>by
  obtain rfl:=List.mem_singleton.1 hy
  exact AV.aM dY) (fun n hn=>by omega) (fun n b hb=>by cases hb) ?_
 simp only[Tryz.results33,bJ,dC,cH,vR,seval, -List.reduceReplicate]
 refine HI (t:=0) (rw:=true) (cs:=lO aF pn n) (m:=0) (body:=fun _=>0) (by simp only[ae,vR,seval, -List.reduceReplicate]) jT (.inl ⟨⟨none,rfl⟩,rfl⟩) (fun h=>absurd h (by decide)) (fun _ c cs hg=> ?_)
 have hr:=hg.room
 have l1:((41:Int)≤(c:Int))=True:=eq_true (by omega)
 simp only[l1,vR,seval, -List.reduceReplicate]
 exact gV (k:=0) (q:=4) (by decide) (by simp only[ae,vR,seval, -List.reduceReplicate]) hg.plain ⟨c,cs,rfl,by omega,fun i hi=>hg.shows i (by omega),hg.plain,rfl⟩
theorem jq {s:AS} {nm:Nat} {aF:Nat→Int} {pn n:Int} {dst:Option Nat} {K:AS→Prop}
  (hk: ∀ c cs,41≤c→br cs 0 41 (Vf aF pn n)→cs.all SV.plain=true→K ((⟨s.env,upd s.box nm (some ⟨true,cs⟩),s.next⟩:AS).put dst (some (Sl nm 0 41 c)))):bw Tryz.prog nm 33 (some [Ag (lO aF pn n)]) dst K s:=by
 refine (Aa (aF:=aF) (pn:=pn) (n:=n)).bw (fun n=>n) qC ?_ ?_
 ·simp only[List.map_cons,List.map_nil,AV.bj dY]
 ·rintro v out ⟨c,cs,rfl,hc,hs,hp,rfl⟩
  have l0:lk [(0,(⟨true,cs⟩:aI))] 0=some ⟨true,cs⟩:=rfl
  have e:AV.ren (bt (fun n=>n) 0 nm) (Sl 0 0 41 c)=Sl nm 0 41 c:=by show Sl (bt _ 0 nm 0) 0 41 c=_;rw[fU]
  rw[l0,cG hp,e]
  exact hk c cs hc hs hp
theorem Ko {s:AS} {nm ta oa na ca td od n cd:Nat} {mk ad f:Nat→Int} {cs ds:List SV} {ra rd:Bool} (hmk:bg mk) (ha:bg ad) (hf:bg f) (hb:s.box ta=some ⟨ra,cs⟩) (hs:br cs oa na ad) (hp:cs.all SV.plain=true) (hb':s.box td=some ⟨rd,ds⟩) (hs':br ds od n f) (hq:ds.all SV.plain=true) (hg: ¬ (1048576 < na∨1048576 < n)) {dst:Option Nat} {K:AS→Prop}
  (hk:K ((⟨s.env,upd s.box nm (some ⟨true,ah .u8 n (cx mk f)⟩),s.next⟩:AS).put dst (some (jo nm n n (jB mk na n ad (cx mk f)))))):
  bw Tryz.prog nm 31 (some [Ag (ah .u8 32 mk),Sl ta oa na ca,Sl td od n cd]) dst K s:=by
 refine (Ys (ca:=ca) (cd:=cd) hmk ha hf hs hp hs' hq hg).bw (two ta td) (ik hb hp hb' hq) (by simp only[List.map_cons,List.map_nil,fc,fb];rfl) ?_
 rintro v out ⟨rfl,rfl⟩
 have l0:lk [(2,(⟨true,ah .u8 n (cx mk f)⟩:aI))] 2=some ⟨true,ah .u8 n (cx mk f)⟩:=rfl
 rw[l0,cG az,sP,fU]
 exact hk
theorem ug {s:AS} {nm t m:Nat} {aF tag body:Nat→Int} {pn n:Int} {sv:SV} {cs:List SV} {rw:Bool} (hb:s.box t=some ⟨rw,cs⟩) (hp:cs.all SV.plain=true) (hv:fC t (.inl (.inl sv)) m body cs) (hm:m≤65536) {dst:Option Nat} {K:AS→Prop}
  (hk: ∀ c cs',bV cs' 0 (45+m+32) c (ua aF pn n m body tag)→K ((⟨s.env,upd s.box nm (some ⟨true,cs'⟩),s.next⟩:AS).put dst (some (Sl nm 0 (45+m+32) c)))):
  bw Tryz.prog nm 34 (some [Ag (gk aF pn n sv tag)]) dst K s:=by
 obtain ⟨qc,h0,rfl⟩:=Sh hv
 refine (qJ (aF:=aF) (tag:=tag) (pn:=pn) (n:=n) hp h0 hm).bw (fun _=>t) (cy hb hp) (by simp only[List.map_cons,List.map_nil,og]) ?_
 rintro v out ⟨c,tail,rfl,rfl,h1,h2,h3⟩
 have Up:=fR (n:=45+m+32) (f:=ua aF pn n m body tag) h3
 have l0:lk [(1,(⟨true,ah .u8 (45+m+32) (ua aF pn n m body tag)++tail⟩:aI))] 1=some ⟨true,ah .u8 (45+m+32) (ua aF pn n m body tag)++tail⟩:=rfl
 have e:AV.ren (bt (fun _=>t) 1 nm) (Sl 1 0 (45+m+32) c)=Sl nm 0 (45+m+32) c:=by show Sl (bt _ 1 nm 1) 0 _ c=_;rw[fU]
 rw[l0,cG Up,e]
 exact hk c _ (bV.row h1 h2 h3)
theorem kM (k:Nat→Int) (x:Int):bg (lN k x):=il _ _ _ _ _ _
theorem SC:bg (fun _=>0):=fun i=>by show (0:Int)≤0∧(0:Int) < 256;decide
theorem M8 {aF tag body:Nat→Int} {pn n:Int} {m:Nat} (lP:bg aF) (adt:bg tag) (hbody:bg body):bg (ua aF pn n m body tag):=by
 have adu:bg (fun _=>(210:Int)):=fun i=>by show (0:Int)≤210∧(210:Int) < 256;decide
 have jb: ∀ {k:Nat} {f g:Nat→Int},bg f→bg g→bg (bh k f g):=fun hf hg i=>by
  simp only[bh];split
  ·exact hf i
  ·exact hg _
 exact jb (jb (jb (jb (jb (jb adu lP) (yE _)) (yE _)) (yE _)) hbody) adt
theorem DI {aF:Nat→Int} {pn n:Int} (h:bg aF):bg (Vf aF pn n):=M8 h SC SC
theorem WR {a b:SV} {f h:Nat→Int}:splice (a::ah .u8 32 f) 0 (b::ah .u8 32 h)=b::ah .u8 32 h:=by
 unfold splice
 rw[List.take_zero,List.nil_append,List.drop_eq_nil_of_le (by simp[af]),List.append_nil]
theorem oh {s:AS} {p z n:Nat} {f:Nat→En} {sv:SV} {bx:Option aI} {rw:Bool} {cs:List SV} (hK:fK p n f sv bx) (hb:s.box p=bx) (hf:s.box z=some ⟨rw,cs⟩) (hp:cs.all SV.plain=true):
  ∃ u rw' ds,(u=p∨u=z)∧s.box u=some ⟨rw',ds⟩∧ds.all SV.plain=true∧aO u sv n f ds:=by
 rcases hK with ⟨h0,rfl,rfl⟩ | ⟨h0,c,ds,rfl,hg,rfl⟩
 ·exact ⟨z,rw,cs, .inr rfl,hf,hp, .inl ⟨⟨none,rfl⟩,h0⟩⟩
 ·exact ⟨p,true,ds, .inl rfl,hb,hg.plain, .inr ⟨0,c,rfl,hg.room,hg.shows⟩⟩
theorem qf (r x:Nat→Int):bg (MJ r x):=fun i=>by
 unfold MJ rm
 rw[Jc]
 exact il _ _ _ _ _ _ _
theorem O1 {a:Option Addr}:bz Tryz.prog 53 [V (.slice a 0 0)] 0 (fun _=>none) (fun v out=>v=B false∧out=fun _=>none):=by
 refine aA Tryz.func53 rfl (by kernel_rfl) (by simp[Tryz.ntmps53]) Tryz.nM (by simp[AV.ok,CV.ok,SV.names]) I2 I3 ?_
 simp only[Tryz.results53,vR,seval, -List.reduceReplicate]
 exact ao rfl ⟨rfl,rfl⟩
theorem mA {s:AS} {nm:Nat} {a:Option Addr} {dst:Option Nat} {K:AS→Prop} (hk:K (s.put dst (some (B false)))):aB Tryz.prog nm 53 (some [V (.slice a 0 0)]) dst K s:=
 O1.dP (fun n=>n) qC rfl rfl hk
theorem WS {oa na ca:Nat} {a:Option Addr} {K ad body:Nat→Int} {cs:List SV} (hK:bg K) (ha:bg ad) (hb:bg body) (hs:br cs oa na ad) (hp:cs.all SV.plain=true) (hna:na < 40000000):
  bz Tryz.prog 56 [Ag (ah .u8 80 K),Sl 0 oa na ca,V (.slice a 0 0)] 1 (lk [(0,⟨false,cs⟩)]) (fun u out=>u=Ag (ah .u8 32 (wU K na 0 ad body))∧out=fun _=>none):=by
 refine aA Tryz.func56 rfl (by kernel_rfl) (by simp[Tryz.ntmps56]) Tryz.nO (fun u hu=>by
  simp only[List.mem_cons,List.not_mem_nil,or_false]at hu
  rcases hu with rfl | rfl | rfl
  ·exact aD az
  ·exact (by decide:0 < 1)
  ·trivial) eH (eL hp) ?_
 have hw:IntKind.u64.wrap (na:Int)=(na:Int):=aC _ (by omega) (by omega)
 simp only[Tryz.results56,hw,vR,seval, -List.reduceReplicate]
 refine pS wD (fun n=>n) qC rfl ?_
 intro c1 mU h1 h2 h3
 simp only[vR,seval, -List.reduceReplicate]
 have hk:br (ah .u8 80 K) 32 32 (fun i=>K (32+i)):=fun i hi=>aE .u8 80 K (32+i) (by omega)
 refine ⟨show 1≤3 by decide,show 2≤3 by decide,show 3≤3 by decide, ?_⟩
 refine pY (PH:=true) (J2:=true) (wy:=ah .u8 80 K) (key:=fun i=>K (32+i)) (n0:=8) (n1:=na) (n2:=0) (f0:=lA (na:Int)) (f1:=ad) (f2:=body) (by simp only[aJ,Dn]) rfl
  (.inr ⟨6,0,c1,true,ah .u8 8 (lA (na:Int))++mU,rfl,by simp only[ae,vR,seval, -List.reduceReplicate],fR h3,jJ⟩) (.inr ⟨0,oa,ca,false,cs,rfl,by simp only[ae,vR,seval, -List.reduceReplicate],hp,hs⟩) (.inl ⟨⟨a,rfl⟩,rfl⟩)
  (HP _) ha hb (by simp only[ae,vR,seval, -List.reduceReplicate]) az hk (fun i=>hK _) (by decide) (by decide) (by omega) ?_
 simp only[vR,seval, -List.reduceReplicate]
 exact ao az ⟨rfl,rfl⟩
theorem WT {a:Option Addr} {K J f:Nat→Int} (hK:bg K) (hJ:bg J):
  bz Tryz.prog 55 [Ag (ah .u8 32 K),Ag (ah .u8 16 J),V (.slice a 0 0)] 0 (fun _=>none) (fun v out=>v=Sl 0 0 0 0∧out=lk [(0,⟨true,ah .u8 0 (ud K J f)⟩)]):=by
 refine aA Tryz.func55 rfl (by kernel_rfl) (by simp[Tryz.ntmps55]) Tryz.nN (by simp[AV.ok,CV.ok,SV.names];exact ⟨aD az,aD az⟩) I2 I3 ?_
 simp only[Tryz.results55,vR,seval, -List.reduceReplicate]
 refine (uc K hK).aB ?_
 simp only[vR,seval, -List.reduceReplicate]
 refine aQ 0 (fun k=>[(8,Sl 9 0 0 0),(17,I .i64 0),(18,I .i64 k)]) (fun k=>[(9,⟨true,ah .u8 0 (ud K J f)⟩)]) _ ?_ ?_ ?_
 ·simp only[vR,seval, -List.reduceReplicate];exact congrArg (fun c=>some (aI.mk true c)) (aW fun i hi=>absurd hi (by omega))
 ·intro k hk;omega
 ·simp only[vR,seval, -List.reduceReplicate]
  refine aZ (by simp) ?_
  simp only[vR,seval, -List.reduceReplicate]
  refine gV (k:=0) (q:=9) (cs:=ah .u8 0 (ud K J f)) (by decide) ?_ az ⟨rfl,rfl⟩
  simp only[vR,seval, -List.reduceReplicate]
theorem Yu {oa na ca:Nat} {a:Option Addr} {mk ad f tag:Nat→Int} {cs:List SV} (hmk:bg mk) (ha:bg ad) (hf:bg f) (ht:bg tag) (hs:br cs oa na ad) (hp:cs.all SV.plain=true) (hg: ¬ 1048576 < na) (hsame:lJ tag (jB mk na 0 ad f)=true):
  bz Tryz.prog 86 [Ag (ah .u8 32 mk),Sl 0 oa na ca,Ag (Sum.inl (.slice a 0 0)::ah .u8 32 tag)] 1 (lk [(0,⟨false,cs⟩)]) (fun v out=>v=fX 1 0∧out=lk [(1,⟨true,ah .u8 0 (cx mk f)⟩)]):=by
 refine aA Tryz.func86 rfl (by kernel_rfl) (by simp[Tryz.ntmps86]) Tryz.jP (fun u hu=>by
  simp only[List.mem_cons,List.not_mem_nil,or_false]at hu
  rcases hu with rfl | rfl | rfl
  ·exact aD az
  ·exact (by decide:0 < 1)
  ·intro x hx
   rcases List.mem_cons.1 hx with rfl | hx
   ·trivial
   ·exact SV.aM (List.all_eq_true.1 az x hx)) eH (eL hp) ?_
 have d1:decide (1048576 < (na:Int))=false:=decide_eq_false (by omega)
 simp only[Tryz.results86,vR,seval, -List.reduceReplicate]
 refine cB (rw:=false) (by simp only[ae,vR,seval, -List.reduceReplicate]) hp ?_
 simp only[d1,pF,vR,seval, -List.reduceReplicate]
 refine mA ?_
 simp only[vR,seval, -List.reduceReplicate]
 refine (gq mk hmk).aB ?_
 have t0:=gX (n:=80) (m:=32) (f:=sO mk) (tail:=[]) (by decide)
 have t2:=gj (n:=80) (a:=64) (m:=16) (f:=sO mk) (tail:=[]) (by decide)
 rw[List.append_nil]at t0 t2
 have tt:List.take 32 (ah .u8 32 tag)=ah .u8 32 tag:=gW _ _ _
 simp only[aH,dk,t0,t2,tt,pF,vR,seval, -List.reduceReplicate]
 refine ⟨by kernel_rfl, ?_⟩
 refine (WS (ca:=ca) (a:=a) (gC mk) ha hf hs hp (by omega)).cI (fun _=>0) (cy (rw:=false) (by simp only[ae,vR,seval, -List.reduceReplicate]) hp) az (by simp only[List.map_cons,List.map_nil,fc,fb];rfl) (fun M h m hm=> ?_) ?_
 ·exact h (Sl 0 oa na ca) (List.Mem.tail _ (List.Mem.head _))
 simp only[vR,seval, -List.reduceReplicate]
 refine cO.draw (l9 tag (wU (sO mk) na 0 ad f) ht (il _ _ _ _ _ _)) Tryz.nT ?_
 have sQ:lJ tag (wU (sO mk) na 0 ad f)=true:=hsame
 simp only[sQ,t0,t2,Bool.not_true,vR,seval, -List.reduceReplicate]
 refine uf (WT (a:=a) (f:=f) (gC mk) (fun i=>gC mk (64+i))) az (fun n=>n) qC (by simp only[List.map_cons,List.map_nil,fc];rfl) ?_
 simp only[vR,seval, -List.reduceReplicate]
 exact zt (by decide) (by simp only[ae,vR,seval, -List.reduceReplicate];rfl) az
theorem Kp {oa na ca:Nat} {a:Option Addr} {mk ad f tag:Nat→Int} {cs:List SV} (hmk:bg mk) (ha:bg ad) (hf:bg f) (ht:bg tag) (hs:br cs oa na ad) (hp:cs.all SV.plain=true) (hg: ¬ 1048576 < na) (hsame:lJ tag (jB mk na 0 ad f)=false):
  bz Tryz.prog 86 [Ag (ah .u8 32 mk),Sl 0 oa na ca,Ag (Sum.inl (.slice a 0 0)::ah .u8 32 tag)] 1 (lk [(0,⟨false,cs⟩)]) (fun v out=>v=qe∧out=fun _=>none):=by
 refine aA Tryz.func86 rfl (by kernel_rfl) (by simp[Tryz.ntmps86]) Tryz.jP (fun u hu=>by
  simp only[List.mem_cons,List.not_mem_nil,or_false]at hu
  rcases hu with rfl | rfl | rfl
  ·exact aD az
  ·exact (by decide:0 < 1)
  ·intro x hx
   rcases List.mem_cons.1 hx with rfl | hx
   ·trivial
   ·exact SV.aM (List.all_eq_true.1 az x hx)) eH (eL hp) ?_
 have d1:decide (1048576 < (na:Int))=false:=decide_eq_false (by omega)
 simp only[Tryz.results86,vR,seval, -List.reduceReplicate]
 refine cB (rw:=false) (by simp only[ae,vR,seval, -List.reduceReplicate]) hp ?_
 simp only[d1,pF,vR,seval, -List.reduceReplicate]
 refine mA ?_
 simp only[vR,seval, -List.reduceReplicate]
 refine (gq mk hmk).aB ?_
 have t0:=gX (n:=80) (m:=32) (f:=sO mk) (tail:=[]) (by decide)
 have t2:=gj (n:=80) (a:=64) (m:=16) (f:=sO mk) (tail:=[]) (by decide)
 rw[List.append_nil]at t0 t2
 have tt:List.take 32 (ah .u8 32 tag)=ah .u8 32 tag:=gW _ _ _
 simp only[aH,dk,t0,t2,tt,pF,vR,seval, -List.reduceReplicate]
 refine ⟨by kernel_rfl, ?_⟩
 refine (WS (ca:=ca) (a:=a) (gC mk) ha hf hs hp (by omega)).cI (fun _=>0) (cy (rw:=false) (by simp only[ae,vR,seval, -List.reduceReplicate]) hp) az (by simp only[List.map_cons,List.map_nil,fc,fb];rfl) (fun M h m hm=> ?_) ?_
 ·exact h (Sl 0 oa na ca) (List.Mem.tail _ (List.Mem.head _))
 simp only[vR,seval, -List.reduceReplicate]
 refine cO.draw (l9 tag (wU (sO mk) na 0 ad f) ht (il _ _ _ _ _ _)) Tryz.nT ?_
 have sQ:lJ tag (wU (sO mk) na 0 ad f)=false:=hsame
 simp only[sQ,Bool.not_false,vR,seval, -List.reduceReplicate]
 exact ao (v:=qe) rfl ⟨rfl,rfl⟩
theorem sS {u m:Nat} {vp:AV} {g:Nat→Int} {ds:List SV} (h:fC u vp m g ds) (k:Nat): ∃ v0,fC k v0 m g ds∧ ∀ r:Nat→Nat,r k=u→AV.ren r v0=vp:=by
 rcases h with ⟨⟨a,rfl⟩,h⟩ | ⟨o,c,rfl,hs⟩
 ·exact ⟨V (.slice a 0 0), .inl ⟨⟨a,rfl⟩,h⟩,fun _ _=>rfl⟩
 ·exact ⟨Sl k o m c, .inr ⟨o,c,rfl,hs⟩,fun r hr=>by show Sl (r k) o m c=_;rw[hr]⟩
theorem Yv {oa na ca:Nat} {a:Option Addr} {mk ad f:Nat→Int} {cs:List SV} (hmk:bg mk) (ha:bg ad) (hf:bg f) (hs:br cs oa na ad) (hp:cs.all SV.plain=true) (hg: ¬ 1048576 < na):
  bz Tryz.prog 31 [Ag (ah .u8 32 mk),Sl 0 oa na ca,V (.slice a 0 0)] 1 (lk [(0,⟨false,cs⟩)]) (fun v out=>v=jo 1 0 0 (jB mk na 0 ad (cx mk f))∧out=lk [(1,⟨true,ah .u8 0 (cx mk f)⟩)]):=by
 refine aA Tryz.func31 rfl (by kernel_rfl) (by simp[Tryz.ntmps31]) Tryz.nH (fun u hu=>by
  simp only[List.mem_cons,List.not_mem_nil,or_false]at hu
  rcases hu with rfl | rfl | rfl
  ·exact aD az
  ·exact (by decide:0 < 1)
  ·trivial) eH (eL hp) ?_
 have d1:decide (1048576 < (na:Int))=false:=decide_eq_false (by omega)
 simp only[Tryz.results31,cL,vR,seval, -List.reduceReplicate]
 refine ⟨by decide, ?_⟩
 refine cB (rw:=false) (by simp only[ae,vR,seval, -List.reduceReplicate]) hp ?_
 simp only[d1,vR,seval, -List.reduceReplicate]
 refine mA ?_
 simp only[vR,seval, -List.reduceReplicate]
 refine (gq mk hmk).aB ?_
 have t0:=gX (n:=80) (m:=32) (f:=sO mk) (tail:=[]) (by decide)
 have t2:=gj (n:=80) (a:=64) (m:=16) (f:=sO mk) (tail:=[]) (by decide)
 rw[List.append_nil]at t0 t2
 simp only[aH,dk,t0,t2,vR,seval, -List.reduceReplicate]
 refine uf (WT (a:=a) (f:=f) (gC mk) (fun i=>gC mk (64+i))) az (fun n=>n) qC (by simp only[List.map_cons,List.map_nil,fc];rfl) ?_
 obtain ⟨bd,hbd⟩: ∃ bd,ud (sO mk) (fun i=>sO mk (64+i)) f=bd:=⟨_,rfl⟩
 have hbb:bg bd:=by rw[← hbd];exact zp _ _ _
 have eb:cx mk f=bd:=hbd
 rw[eb,hbd]
 simp only[vR,seval, -List.reduceReplicate]
 refine (M7 (ca:=ca) (cb:=0) (gC mk) ha hbb hs hp (bN (n:=0) (f:=bd)) az (by omega) (by omega)).dP (two 0 18) (ik (rw:=false) (rw':=true) (by simp only[ae,vR,seval, -List.reduceReplicate]) hp (by simp only[ae,vR,seval, -List.reduceReplicate]) az) az (by simp only[List.map_cons,List.map_nil,fc,fb];rfl) ?_
 simp only[bZ,Sy,Sz,SA,pF,SB,vR,seval, -List.reduceReplicate]
 exact zq (by decide) (by simp only[ae,vR,seval, -List.reduceReplicate]) az
theorem zu {s:AS} {nm ta oa na ca td n:Nat} {mk ad f:Nat→Int} {vp:AV} {cs ds:List SV} {ra rd:Bool} (hmk:bg mk) (ha:bg ad) (hf:bg f) (hb:s.box ta=some ⟨ra,cs⟩) (hs:br cs oa na ad) (hp:cs.all SV.plain=true) (hb':s.box td=some ⟨rd,ds⟩) (hv:fC td vp n f ds) (hq:ds.all SV.plain=true) (hg: ¬ (1048576 < na∨1048576 < n)) {dst:Option Nat} {K:AS→Prop}
  (hk:K ((⟨s.env,upd s.box nm (some ⟨true,ah .u8 n (cx mk f)⟩),s.next⟩:AS).put dst (some (jo nm n n (jB mk na n ad (cx mk f)))))):
  bw Tryz.prog nm 31 (some [Ag (ah .u8 32 mk),Sl ta oa na ca,vp]) dst K s:=by
 rcases hv with ⟨⟨a,rfl⟩,rfl⟩ | ⟨o,c,rfl,hs'⟩
 ·refine (Yv (ca:=ca) (a:=a) (f:=f) hmk ha hf hs hp (by omega)).bw (fun _=>ta) (cy hb hp) (by simp only[List.map_cons,List.map_nil,fc,fb];rfl) ?_
  rintro v out ⟨rfl,rfl⟩
  have l0:lk [(1,(⟨true,ah .u8 0 (cx mk f)⟩:aI))] 1=some ⟨true,ah .u8 0 (cx mk f)⟩:=rfl
  rw[l0,cG az,sP,fU]
  exact hk
 ·exact Ko hmk ha hf hb hs hp hb' hs' hq hg hk
theorem HQ {s:AS} {nm t p z n:Nat} {x:St} {seed:Nat→Int} {f:Nat→En} {bx:Option aI} {rw:Bool} {cs:List SV} (hs:fy x) (hb:bg seed) (h:s.box t=some ⟨true,aU x⟩) (hK:fK p n f x.store bx) (ke:s.box p=bx) (hf:s.box z=some ⟨rw,cs⟩) (hp:cs.all SV.plain=true) (h1:t≠p) (h2:t≠z) {dst:Option Nat} {K:AS→Prop}
  (hk:K ((⟨s.env,upd s.box t (some ⟨true,aU (pC x seed)⟩),s.next⟩:AS).put dst (some (.inr [])))):aB Tryz.prog nm 30 (some [Ptr t 0,Ag (ah .u8 32 seed)]) dst K s:=by
 obtain ⟨u,rw',ds,hu,hb',hq,hi⟩:=oh hK ke hf hp
 exact Kf hs hb h hb' hq (by rcases hu with rfl | rfl<;>assumption) hi hk
theorem zv {s:AS} {nm t p z n:Nat} {x:St} {f:Nat→En} {bx:Option aI} {rw:Bool} {cs:List SV} (hs:bg x.send) (h:s.box t=some ⟨true,aU x⟩) (hK:fK p n f x.store bx) (ke:s.box p=bx) (hf:s.box z=some ⟨rw,cs⟩) (hp:cs.all SV.plain=true) (h1:t≠p) (h2:t≠z) (hnm:t≠nm) {dst:Option Nat} {K:AS→Prop}
  (hk:K ((⟨s.env,upd (upd s.box t (some ⟨true,aU (jS x)⟩)) nm none,s.next⟩:AS).put dst (some (Ag (ah .u8 32 (lN x.send 1)))))):bw Tryz.prog nm 32 (some [Ptr t 0]) dst K s:=by
 obtain ⟨u,rw',ds,hu,hb',hq,hi⟩:=oh hK ke hf hp
 exact Kg hs h hb' hq (by rcases hu with rfl | rfl<;>assumption) hi hnm hk
def adv (s:St) (m:Nat) (g:Nat→Int):Nat→Int:=jB (lN s.send 1) 41 m (Vf s.aF s.pn s.ns) (cx (lN s.send 1) g)
def O2 (s:St) (m:Nat) (g:Nat→Int):Nat→Int:=ua s.aF s.pn s.ns m (cx (lN s.send 1) g) (adv s m g)
def dM (s:St) (seed:Nat→Int):St:=if s.has=true then s else pC s seed
def SD (k n:Nat) (x:St) (f:Nat→En) (m:Nat) (g:Nat→Int) (v:AV) (out:Nat→Option aI):Prop:=
 ∃ sv bx c cs,v=Ag (dO 0 { jS x with store:=sv } (.inr (.inr (k+1,0,45+m+32,c))) x.se x.ns)∧fK k n f sv bx∧bV cs 0 (45+m+32) c (O2 x m g)∧out=fun j=>if j=k then bx else if j=k+1 then some ⟨true,cs⟩ else none
theorem HR {s:AS} {nm t p z n:Nat} {x:St} {sv:SV} {seed:Nat→Int} {f:Nat→En} {bx:Option aI} {rw:Bool} {cs:List SV} (hs:fy x) (hb:bg seed) (h:s.box t=some ⟨true,aU { x with store:=sv }⟩) (hK:fK p n f sv bx) (ke:s.box p=bx) (hf:s.box z=some ⟨rw,cs⟩) (hp:cs.all SV.plain=true) (h1:t≠p) (h2:t≠z) {dst:Option Nat} {K:AS→Prop}
  (hk:K ((⟨s.env,upd s.box t (some ⟨true,aU { pC x seed with store:=sv }⟩),s.next⟩:AS).put dst (some (.inr [])))):aB Tryz.prog nm 30 (some [Ptr t 0,Ag (ah .u8 32 seed)]) dst K s:=
 HQ (x:={ x with store:=sv }) (hs.ws sv) hb h hK ke hf hp h1 h2 hk
theorem Vg {s:St} {seed:Nat→Int} (h:fy s) (hb:bg seed):fy (pC s seed):=
 ⟨qf _ _,hb,fun i=>eB seed wC i,h.rq,fun i=>qf _ _ _,h.recv,by show kU (IntKind.u32.wrap (s.se+1));rw[wrap_u32];unfold kU;omega,h.re,by show kU 0;unfold kU;omega,h.nr,h.ns,h.skip,h.room⟩
theorem uZ {s:AS} {k q p n m c:Nat} {x:St} {f:Nat→En} {g:Nat→Int} {sv:SV} {bx:Option aI} {cs:List SV} (hq:k≤q) (hp:k≤p) (hne:p≠q) (hb:s.box q=some ⟨true,cs⟩) (hb':s.box p=bx) (hK:fK p n f sv bx) (hg:bV cs 0 (45+m+32) c (O2 x m g)):
  tK k 2 (SD k n x f m g) (Ag (dO 0 { jS x with store:=sv } (.inr (.inr (q,0,45+m+32,c))) x.se x.ns)) s:=by
 obtain ⟨qc,hK0,hr0,Sf,ke⟩:=n9 (p:=k) hK
 have r0:eM k (fun j=>if j=0 then p else q) k=p:=by unfold eM;rw[if_neg (by omega)];exact if_pos (by omega)
 have r1:eM k (fun j=>if j=0 then p else q) (k+1)=q:=by unfold eM;rw[if_neg (by omega)];exact if_neg (by omega)
 refine ⟨fun j=>if j=0 then p else q,Ag (dO 0 { jS x with store:=qc } (.inr (.inr (k+1,0,45+m+32,c))) x.se x.ns),fun j=>if j=k then bx else if j=k+1 then some ⟨true,cs⟩ else none,fun j hj=>by (dsimp only;split)<;>assumption,fun i j hi hj e=> ?_, ?_,B1 (Sf _ (by omega)) ⟨(show k+1 < k+2 by omega),rfl⟩,fun m b hm=> ?_,qc,bx,c,cs,rfl,hK0,hg,rfl⟩
 ·dsimp only at e
  split at e<;>split at e
  ·omega
  ·exact absurd e hne
  ·exact absurd e.symm hne
  ·omega
 ·have e2:SV.ren (eM k (fun j=>if j=0 then p else q)) (.inr (.inr (k+1,0,45+m+32,c)))= .inr (.inr (q,0,45+m+32,c)):=by simp only[SV.ren,r1]
  rw[nW,e2]
  show _=Ag (dO 0 { jS x with store:=SV.ren (eM k (fun j=>if j=0 then p else q)) qc } _ _ _)
  rw[hr0 _ r0]
 ·dsimp only at hm
  split at hm
  ·rename_i e;subst e
   obtain ⟨h1,h2⟩:=ke b hm
   exact ⟨by omega,fun _=>h1,aD h2,b,by rw[r0,hb',hm],fun h=>h,(aN h2 _).symm⟩
  ·split at hm
   ·rename_i _ e;subst e;cases hm
    exact ⟨by omega,fun _=>rfl,aD hg.plain,⟨true,cs⟩,by rw[r1];exact hb,fun h=>h,(aN hg.plain _).symm⟩
   ·cases hm
theorem Yw {s:St} {n m:Nat} {vp:AV} {f:Nat→En} {g seed:Nat→Int} {cs ds:List SV} (h0:aO 0 s.store n f cs) (hp:cs.all SV.plain=true) (hs:fy s) (hn:n*72≤140737488355328) (hv:fC 1 vp m g ds) (hq:ds.all SV.plain=true) (hm:m≤65536) (hg:bg g) (TY:bg seed):
  gy Tryz.prog 17 [Ag (aU s),vp,Ag (ah .u8 32 seed)] 2 2 (lk [(0,⟨false,cs⟩),(1,⟨false,ds⟩)]) (SD 2 n (dM s seed) f m g):=by
 refine cW Tryz.func17 rfl (by kernel_rfl) [1,5,7] [] (by simp[Tryz.ntmps17]) Tryz.rF (by decide) (fun y hy=>by
  simp only[List.mem_cons,List.not_mem_nil,or_false]at hy
  rcases hy with rfl | rfl | rfl
  ·exact bR (h0.ok (by decide))
  ·exact hv.ok (by decide)
  ·exact AV.aM (by simpa[AV.plain,CV.plain] using az)) lg (oU hp hq) ?_
 simp only[Tryz.results17,bY,dg,nV,fE,bJ,dC,cH,ak,aS,av,ay,vL,seval, -List.reduceReplicate]
 refine ⟨by decide, ?_⟩
 simp only[ak,aS,av,ay,vL,seval, -List.reduceReplicate]
 refine mr (t:=0) (rw:=false) (by simp only[vP,seval, -List.reduceReplicate]) hp h0 hn ?_
 intro sv bx hK
 simp only[ak,aS,av,ay,vL,seval, -List.reduceReplicate]
 rcases Bool.eq_false_or_eq_true s.has with hh | hh
 ·have e:(!s.has)=false:=by rw[hh];rfl
  have es:dM s seed=s:=if_pos hh
  rw[es]
  simp only[e,ak,aS,bJ,dC,cH,gQ,eQ,cL,bZ,av,ay,vL,seval, -List.reduceReplicate]
  refine .inl ?_
  simp only[ak,aS,bJ,dC,cH,gQ,eQ,cL,bZ,av,ay,vL,seval, -List.reduceReplicate]
  refine ⟨by kernel_rfl, ?_⟩
  refine ⟨by decide, ?_⟩
  refine mT (by kernel_rfl) [0,2,4] [1,3,5] [6] [7] [43] [38,40,42,39,41,43,9] (by kernel_rfl) (by kernel_rfl) (by kernel_rfl) ?_
  simp only[ak,aS,bJ,dC,cH,gQ,eQ,cL,bZ,av,ay,vL,seval, -List.reduceReplicate]
  refine zv (t:=13) (p:=14) (z:=0) (x:={ s with store:=sv }) (rw:=false) (cs:=cs) hs.send (by simp only[vP,seval, -List.reduceReplicate]) hK (by simp only[vP,seval, -List.reduceReplicate]) (by simp only[vP,seval, -List.reduceReplicate]) hp (by decide) (by decide) (by decide) ?_
  simp only[ak,aS,bJ,dC,cH,gQ,eQ,cL,bZ,av,ay,vL,seval, -List.reduceReplicate]
  refine jq ?_
  intro c1 G0 WO TM Zf
  simp only[ak,aS,bJ,dC,cH,gQ,eQ,cL,bZ,av,ay,vL,seval, -List.reduceReplicate]
  refine zu (ta:=53) (td:=1) (ra:=true) (rd:=false) (cs:=G0) (ds:=ds) (kM _ _) (DI hs.aF) hg (by simp only[vP,seval, -List.reduceReplicate]) TM Zf (by simp only[vP,seval, -List.reduceReplicate]) hv hq (by omega) ?_
  simp only[ak,aS,bJ,dC,cH,gQ,eQ,cL,bZ,av,ay,vL,seval, -List.reduceReplicate]
  refine ⟨by decide, ?_⟩
  simp only[jo,WR,ak,aS,bJ,dC,cH,gQ,eQ,cL,bZ,av,ay,vL,seval, -List.reduceReplicate]
  refine ⟨by decide, ?_⟩
  refine mT (by kernel_rfl) [0,1,2,3,4,6,7,8,9,10,11,12] [5] [] [13,14] [13,75] [50,51,52,53,54,56,57,58,59,60,61,62,55,63] (by kernel_rfl) (by kernel_rfl) (by kernel_rfl) ?_
  simp only[ak,aS,bJ,dC,cH,gQ,eQ,cL,bZ,av,ay,vL,seval, -List.reduceReplicate]
  refine ug (t:=57) (rw:=true) (cs:=ah .u8 m (cx (lN s.send 1) g)) (m:=m) (body:=cx (lN s.send 1) g) (by simp only[vP,seval, -List.reduceReplicate]) az (.inr ⟨0,m,rfl,bN⟩) hm ?_
  intro c2 qH g2
  simp only[ak,aS,bJ,dC,cH,gQ,eQ,cL,bZ,av,ay,vL,seval, -List.reduceReplicate]
  exact uZ (x:=s) (q:=81) (p:=14) (by decide) (by decide) (by decide) (by simp only[vP,seval, -List.reduceReplicate]) (by simp only[vP,seval, -List.reduceReplicate]) hK g2
 ·have e:(!s.has)=true:=by rw[hh];rfl
  have es:dM s seed=pC s seed:=if_neg (by rw[hh];decide)
  have hB:=Vg hs TY
  rw[es]
  simp only[e,ak,aS,bJ,dC,cH,gQ,eQ,cL,bZ,av,ay,vL,seval, -List.reduceReplicate]
  refine HR (t:=13) (p:=14) (z:=0) (x:=s) (sv:=sv) (rw:=false) (cs:=cs) hs TY (by simp only[vP,seval, -List.reduceReplicate]) hK (by simp only[vP,seval, -List.reduceReplicate]) (by simp only[vP,seval, -List.reduceReplicate]) hp (by decide) (by decide) ?_
  simp only[ak,aS,bJ,dC,cH,gQ,eQ,cL,bZ,av,ay,vL,seval, -List.reduceReplicate]
  refine .inl ?_
  simp only[ak,aS,bJ,dC,cH,gQ,eQ,cL,bZ,av,ay,vL,seval, -List.reduceReplicate]
  refine ⟨by kernel_rfl, ?_⟩
  refine ⟨by decide, ?_⟩
  refine mT (by kernel_rfl) [0,2,4] [1,3,5] [6] [7] [46] [38,40,42,39,41,43,9] (by kernel_rfl) (by kernel_rfl) (by kernel_rfl) ?_
  simp only[ak,aS,bJ,dC,cH,gQ,eQ,cL,bZ,av,ay,vL,seval, -List.reduceReplicate]
  refine zv (t:=13) (p:=14) (z:=0) (x:={ (pC s seed) with store:=sv }) (rw:=false) (cs:=cs) hB.send (by simp only[vP,seval, -List.reduceReplicate]) hK (by simp only[vP,seval, -List.reduceReplicate]) (by simp only[vP,seval, -List.reduceReplicate]) hp (by decide) (by decide) (by decide) ?_
  simp only[ak,aS,bJ,dC,cH,gQ,eQ,cL,bZ,av,ay,vL,seval, -List.reduceReplicate]
  refine jq ?_
  intro c1 G0 WO TM Zf
  simp only[ak,aS,bJ,dC,cH,gQ,eQ,cL,bZ,av,ay,vL,seval, -List.reduceReplicate]
  refine zu (ta:=56) (td:=1) (ra:=true) (rd:=false) (cs:=G0) (ds:=ds) (kM _ _) (DI hB.aF) hg (by simp only[vP,seval, -List.reduceReplicate]) TM Zf (by simp only[vP,seval, -List.reduceReplicate]) hv hq (by omega) ?_
  simp only[ak,aS,bJ,dC,cH,gQ,eQ,cL,bZ,av,ay,vL,seval, -List.reduceReplicate]
  refine ⟨by decide, ?_⟩
  simp only[jo,WR,ak,aS,bJ,dC,cH,gQ,eQ,cL,bZ,av,ay,vL,seval, -List.reduceReplicate]
  refine ⟨by decide, ?_⟩
  refine mT (by kernel_rfl) [0,1,2,3,4,6,7,8,9,10,11,12] [5] [] [13,14] [13,78] [50,51,52,53,54,56,57,58,59,60,61,62,55,63] (by kernel_rfl) (by kernel_rfl) (by kernel_rfl) ?_
  simp only[ak,aS,bJ,dC,cH,gQ,eQ,cL,bZ,av,ay,vL,seval, -List.reduceReplicate]
  refine ug (t:=60) (rw:=true) (cs:=ah .u8 m (cx (lN (pC s seed).send 1) g)) (m:=m) (body:=cx (lN (pC s seed).send 1) g) (by simp only[vP,seval, -List.reduceReplicate]) az (.inr ⟨0,m,rfl,bN⟩) hm ?_
  intro c2 qH g2
  simp only[ak,aS,bJ,dC,cH,gQ,eQ,cL,bZ,av,ay,vL,seval, -List.reduceReplicate]
  exact uZ (x:=(pC s seed)) (q:=84) (p:=14) (by decide) (by decide) (by decide) (by simp only[vP,seval, -List.reduceReplicate]) (by simp only[vP,seval, -List.reduceReplicate]) hK g2
def DJ (f g:Nat→Int):Bool:=decide ((List.range 32).map f=(List.range 32).map g)
theorem uh (f g:Nat→Int):Pr .eql 32 (cj .u8 (ah .u8 32 f)) (cj .u8 (ah .u8 32 g))=some (some (B (DJ f g)),none):=by
 rw[gf,gf];simp[Pr,DJ]
def DK (e:En) (aF:Nat→Int) (n:Int):Bool:=DJ e.aF aF&&(e.n==n)
theorem Kq {e:En} {aF:Nat→Int} {pn n:Int}:
  bz Tryz.prog 62 [Ag (je e),Ptr 0 0] 1 (lk [(0,⟨false,lO aF pn n⟩)]) (fun v out=>v=B (DK e aF n)∧out=fun _=>none):=by
 refine aA Tryz.func62 rfl (by kernel_rfl) (by simp[Tryz.ntmps62]) Tryz.sb (fun y hy=>by
  simp only[List.mem_cons,List.not_mem_nil,or_false]at hy
  rcases hy with rfl | rfl
  ·exact Wu
  ·exact (show 0 < 1 by decide)) eH (eL jT) ?_
 rcases Bool.eq_false_or_eq_true (DJ e.aF aF) with h | h
 ·simp only[Tryz.results62,h,uh,bJ,bO,vR,seval, -List.reduceReplicate]
  exact ao rfl ⟨by simp[DK,h],rfl⟩
 ·simp only[Tryz.results62,h,uh,bJ,bO,vR,seval, -List.reduceReplicate]
  exact ao rfl ⟨by simp[DK,h],rfl⟩
def ky (f:Nat→En) (aF:Nat→Int) (x:Int):Nat→Option Nat
 | 0=>none
 | n+1=>match ky f aF x n with
  | some i=>some i
  | none=>if DK (f n) aF x=true then some n else none
def O4 (o:Option Nat):Int:=match o with
 | some i=>i
 | none=> -1
theorem va {f:Nat→En} {aF:Nat→Int} {x:Int} {i j:Nat} (h:ky f aF x j=some i): ∀ n,j≤n→ky f aF x n=some i
 | 0,hn=>by
  obtain rfl:j=0:=by omega
  exact h
 | n+1,hn=>by
  by_cases e:j=n+1
  ·subst e;exact h
  ·rw[ky,va h n (by omega)]
abbrev kfV (t:Nat):AV:=V (.func (.func 62) #[] ⟨[.pointer (some ⟨t,0,none⟩)]⟩)
theorem HS {sv:SV} {n:Nat} {f:Nat→En} {cs:List SV} {aF:Nat→Int} {pn x:Int} (h0:aO 0 sv n f cs) (hp:cs.all SV.plain=true) (hn:n < 4611686018427387904):
  bz Tryz.prog 61 [.inl (.inl sv),kfV 1] 2 (lk [(0,⟨false,cs⟩),(1,⟨false,lO aF pn x⟩)]) (fun v out=>v=I .i64 (O4 (ky f aF x n))∧out=fun _=>none):=by
 refine aA Tryz.func61 rfl (by kernel_rfl) (by simp[Tryz.ntmps61]) Tryz.rZ (fun y hy=>by
  simp only[List.mem_cons,List.not_mem_nil,or_false]at hy
  rcases hy with rfl | rfl
  ·exact (h0.ok (M:=fun n=>n < 2) (by decide)).1
  ·simp only[kfV,rB];decide) lg (oU hp jT) ?_
 have zV: ∀ {M:Nat→Prop},(∀ x ∈ cs,SV.ok M x)=True:=eq_true (aD hp)
 have Zh: ∀ {M:Nat→Prop},(∀ y ∈ lO aF pn x,SV.ok M y)=True:=eq_true (aD jT)
 have hl:=h0.len
 simp only[Tryz.results61,hl,vR,seval, -List.reduceReplicate]
 refine yq n (fun k=>ky f aF x k=none) (fun k=>[(0, .inl (.inl sv)),(1,kfV 1),(4,I .i64 0),(7,I .i64 n),(8,I .i64 k)]) (fun k=>[(0,⟨false,cs⟩),(1,⟨false,lO aF pn x⟩)]) _ ?_ ?_ ?_
 ·refine ⟨rfl, ?_⟩
  simp only[zV,Zh,kfV,vR,seval, -List.reduceReplicate]
  exact (h0.ok (M:=fun n=>n < 6) (by decide)).1
 ·intro j hj hinv
  have h1:=h0
  rcases h0 with ⟨_,rfl⟩ | ⟨o,c,rfl,hc,hsh⟩
  ·omega
  have b1:=hsh.lt hj
  simp only[vR,seval, -List.reduceReplicate]
  refine aK (by simp;omega) ?_
  simp only[kfV,cC,fH hj,hsh j hj,b1,bO,vR,seval, -List.reduceReplicate]
  refine (Kq (e:=f j) (aF:=aF) (pn:=pn) (n:=x)).dP (fun _=>1) (cy (rw:=false) (by simp only[ae,vR,seval, -List.reduceReplicate]) jT) rfl ?_ ?_
  ·have h2:AV.ren (fun _=>1) (Ag (je (f j)))=Ag (je (f j)):=AV.bj (show AV.plain (Ag (je (f j)))=true from jL (e:=f j)) _
   simp only[List.map_cons,List.map_nil,h2];rfl
  rcases Bool.eq_false_or_eq_true (DK (f j) aF x) with g | g
  ·have e:ky f aF x n=some j:=va (j:=j+1) (by rw[ky,hinv];simp only[g,if_true]) n (by omega)
   simp only[g,e,O4,vR,seval, -List.reduceReplicate]
   exact ao rfl ⟨rfl,rfl⟩
  ·have e:ky f aF x (j+1)=none:=by rw[ky,hinv];simp[g]
   simp only[g,e,zV,Zh,dX j (by omega),vR,seval, -List.reduceReplicate]
 ·intro hinv
  simp only[vR,seval, -List.reduceReplicate]
  refine aZ (by simp) ?_
  simp only[hinv,O4,vR,seval, -List.reduceReplicate]
  exact ao rfl ⟨rfl,rfl⟩
theorem O5 {sv:SV} {n:Nat} {f:Nat→En} {cs:List SV} {aF:Nat→Int} {pn x:Int} (h0:aO 0 sv n f cs) (hp:cs.all SV.plain=true) (hn:n < 4611686018427387904):
  bz Tryz.prog 36 [.inl (.inl sv),Ag (lO aF pn x)] 1 (lk [(0,⟨false,cs⟩)]) (fun v out=>v=I .i64 (O4 (ky f aF x n))∧out=fun _=>none):=by
 refine aA Tryz.func36 rfl (by kernel_rfl) (by simp[Tryz.ntmps36]) Tryz.rO (fun y hy=>by
  simp only[List.mem_cons,List.not_mem_nil,or_false]at hy
  rcases hy with rfl | rfl
  ·exact (h0.ok (M:=fun n=>n < 1) (by decide)).1
  ·exact AV.aM dY) eH (eL hp) ?_
 simp only[Tryz.results36,bJ,vR,seval, -List.reduceReplicate]
 refine (HS (aF:=aF) (pn:=pn) (x:=x) h0 hp hn).dP (two 0 1) (ik (rw:=false) (rw':=true) (by simp only[ae,vR,seval, -List.reduceReplicate]) hp (by simp only[ae,vR,seval, -List.reduceReplicate]) jT) rfl ?_ ?_
 ·have e2:AV.ren (two 0 1) (.inl (.inl sv))= .inl (.inl sv):=congrArg (fun z=>Sum.inl (Sum.inl z)) (h0.ren rfl)
  simp only[List.map_cons,List.map_nil,e2];rfl
 simp only[vR,seval, -List.reduceReplicate]
 exact ao rfl ⟨rfl,rfl⟩
def jW (t m:Nat) (f:Nat→Int) (sv:SV) (cs:List SV):Prop:=(m=0∧sv=Sum.inl (.slice none 0 0))∨ ∃ o c,sv=Sum.inr (.inr (t,o,m,c))∧br cs o m f
theorem Kr {s:AS} {nm ta oa na ca td n:Nat} {mk ad f tag:Nat→Int} {sv:SV} {cs ds:List SV} {ra rd:Bool} (hmk:bg mk) (ha:bg ad) (hf:bg f) (ht:bg tag) (hb:s.box ta=some ⟨ra,cs⟩) (hs:br cs oa na ad) (hp:cs.all SV.plain=true) (hb':s.box td=some ⟨rd,ds⟩) (hv:jW td n f sv ds) (hq:ds.all SV.plain=true) (hg: ¬ (1048576 < na∨1048576 < n)) {dst:Option Nat} {K:AS→Prop}
  (h1:lJ tag (jB mk na n ad f)=true→K ((⟨s.env,upd s.box nm (some ⟨true,ah .u8 n (cx mk f)⟩),s.next⟩:AS).put dst (some (fX nm n))))
  (h0:lJ tag (jB mk na n ad f)=false→K ((⟨s.env,upd s.box nm none,s.next⟩:AS).put dst (some qe))):
  bw Tryz.prog nm 86 (some [Ag (ah .u8 32 mk),Sl ta oa na ca,Ag (sv::ah .u8 32 tag)]) dst K s:=by
 rcases hv with ⟨rfl,rfl⟩ | ⟨o,c,rfl,hs'⟩
 ·have el:[Ag (ah .u8 32 mk),Sl ta oa na ca,Ag (Sum.inl (.slice none 0 0)::ah .u8 32 tag)]=[Ag (ah .u8 32 mk),Sl 0 oa na ca,Ag (Sum.inl (.slice none 0 0)::ah .u8 32 tag)].map (AV.ren fun _=>ta):=by
   have e3:AV.ren (fun _=>ta) (Ag (Sum.inl (.slice none 0 0)::ah .u8 32 tag))=Ag (Sum.inl (.slice none 0 0)::ah .u8 32 tag):=by
    show AV.ren _ (.inl (.inr _))=_
    simp only[AV.ren,CV.ren,List.map_cons,aN az];rfl
   simp only[List.map_cons,List.map_nil,fc,fb,e3]
  cases hsame:lJ tag (jB mk na 0 ad f) with
  | true=>
   refine (Yu (ca:=ca) (a:=none) hmk ha hf ht hs hp (by omega) hsame).bw (fun _=>ta) (cy hb hp) el ?_
   rintro v out ⟨rfl,rfl⟩
   have l0:lk [(1,(⟨true,ah .u8 0 (cx mk f)⟩:aI))] 1=some ⟨true,ah .u8 0 (cx mk f)⟩:=rfl
   have e:AV.ren (bt (fun _=>ta) 1 nm) (fX 1 0)=fX nm 0:=by show fX (bt _ 1 nm 1) 0=_;rw[fU]
   rw[l0,cG az,e]
   exact h1 hsame
  | false=>
   refine (Kp (ca:=ca) (a:=none) hmk ha hf ht hs hp (by omega) hsame).bw (fun _=>ta) (cy hb hp) el ?_
   rintro v out ⟨rfl,rfl⟩
   exact h0 hsame
 ·have el:[Ag (ah .u8 32 mk),Sl ta oa na ca,Ag (Sum.inr (Sum.inr (td,o,n,c))::ah .u8 32 tag)]=[Ag (ah .u8 32 mk),Sl 0 oa na ca,Ag (Sum.inr (Sum.inr (1,o,n,c))::ah .u8 32 tag)].map (AV.ren (two ta td)):=by
   have e3:AV.ren (two ta td) (Ag (Sum.inr (Sum.inr (1,o,n,c))::ah .u8 32 tag))=Ag (Sum.inr (Sum.inr (td,o,n,c))::ah .u8 32 tag):=by
    show AV.ren _ (.inl (.inr _))=_
    simp only[AV.ren,CV.ren,List.map_cons,aN az];rfl
   simp only[List.map_cons,List.map_nil,fc,fb,e3]
   rfl
  cases hsame:lJ tag (jB mk na n ad f) with
  | true=>
   refine (Yt (ca:=ca) (cb:=c) hmk ha hf ht hs hp hs' hq hg hsame).bw (two ta td) (ik hb hp hb' hq) el ?_
   rintro v out ⟨rfl,rfl⟩
   have l0:lk [(2,(⟨true,ah .u8 n (cx mk f)⟩:aI))] 2=some ⟨true,ah .u8 n (cx mk f)⟩:=rfl
   have e:AV.ren (bt (two ta td) 2 nm) (fX 2 n)=fX nm n:=by show fX (bt _ 2 nm 2) n=_;rw[fU]
   rw[l0,cG az,e]
   exact h1 hsame
  | false=>
   refine (OZ (ca:=ca) (cb:=c) hmk ha hf ht hs hp hs' hq hg hsame).bw (two ta td) (ik hb hp hb' hq) el ?_
   rintro v out ⟨rfl,rfl⟩
   exact h0 hsame
def ui (k m:Nat):AV:= .inr [.inl (.inr (.inr (k,0,m,m))), .inl (.inl .nilIface)]
def vb (mk aF:Nat→Int) (pn x:Int) (m:Nat) (f tag:Nat→Int):Bool:=lJ tag (jB mk 41 m (Vf aF pn x) f)
def ot [aG]:AV:= .inr [.inl (.inl (.slice none 0 0)), .inl (.inl (fA 5))]
def adw [aG] (k:Nat) (mk aF:Nat→Int) (pn x:Int) (m:Nat) (f tag:Nat→Int) (v:AV) (out:Nat→Option aI):Prop:=
 (vb mk aF pn x m f tag=true∧v=ui k m∧out=lk [(k,⟨true,ah .u8 m (cx mk f)⟩)])∨(vb mk aF pn x m f tag=false∧v=ot∧out=fun _=>none)
theorem Vh {s:AS} {k q n:Nat} {cs:List SV} (hq:k≤q) (hb:s.box q=some ⟨true,cs⟩) (hp:cs.all SV.plain=true):sV k (fun v out=>v=ui k n∧out=lk [(k,⟨true,cs⟩)]) (ui q n) s:=by
 refine ⟨q,ui k n,lk [(k,⟨true,cs⟩)],hq, ?_, ?_,fun m b hm=> ?_,rfl,rfl⟩
 ·show ui q n=ui (lM k q k) n
  rw[kD]
 ·intro x hx
  simp only[List.mem_cons,List.not_mem_nil,or_false]at hx
  rcases hx with rfl | rfl
  ·exact Nat.lt_succ_self k
  ·trivial
 ·simp only[lk]at hm
  split at hm
  ·rename_i e
   simp only[Option.some.injEq]at hm;subst e hm
   exact ⟨Nat.lt_succ_self m,fun _=>rfl,aD hp,_,by rw[kD];exact hb,fun _=>rfl,(aN hp _).symm⟩
  ·cases hm
def SE:aT:=
 let e0:aT:=(.cons 14 .nil .nil)
 let e1:aT:=(.cons 13 e0 .nil)
 let e2:aT:=(.cons 12 e0 .nil)
 let e3:aT:=(.cons 12 e1 (.cons 13 e2 .nil))
 let e4:aT:=(.cons 11 e1 .nil)
 (.cons 10 (.cons 11 e3 (.cons 12 e4 .nil)) .nil)
theorem SF {mk aF f tag:Nat→Int} {pn x:Int} {m:Nat} {sv:SV} {ds:List SV} (hmk:bg mk) (lP:bg aF) (hf:bg f) (ht:bg tag) (hv:jW 0 m f sv ds) (hq:ds.all SV.plain=true) (hm:m≤65536):
  bz Tryz.prog 63 [Ag (ah .u8 32 mk),Ag (gk aF pn x sv tag)] 1 (lk [(0,⟨false,ds⟩)]) (adw 1 mk aF pn x m f tag):=by
 have Pu: ∀ {M:Nat→Prop},M 0→SV.ok M sv:=fun h=>by
  rcases hv with ⟨_,rfl⟩ | ⟨o,c,rfl,_⟩
  ·trivial
  ·exact ⟨h,rfl⟩
 have hone:SV.one sv=true:=by rcases hv with ⟨_,rfl⟩ | ⟨o,c,rfl,_⟩<;>rfl
 have hc:cellsOf (some (Sum.inl (Sum.inl sv)))=some [sv]:=if_pos hone
 refine fh Tryz.func63 rfl (by kernel_rfl) [1] [] (by simp[Tryz.ntmps63]) Tryz.sd (fun y hy=>by
  simp only[List.mem_cons,List.not_mem_nil,or_false]at hy
  rcases hy with rfl | rfl
  ·exact AV.aM (by simpa[AV.plain,CV.plain] using az)
  ·exact oc (Pu (by decide))) eH (eL hq) ?_
 simp only[Tryz.results63,cL,bZ,bJ,av,ay,vL,seval, -List.reduceReplicate]
 refine tM (by kernel_rfl) [0,1,2,4,5,6,7,8] [3,9] [] [10,11,12,13,14] [1,2] [] [9,10,11,13,14,15,16,17,12,18,8,19,20,6,7] SE (by kernel_rfl) (by kernel_rfl) (by kernel_rfl) (by kernel_rfl) (fun t h=>nomatch h) ?_
 simp only[hc,cL,bZ,Sy,Sz,SA,bJ,av,ay,vL,seval, -List.reduceReplicate]
 refine jq ?_
 intro c1 G0 WO TM Zf
 simp only[cL,bZ,bJ,av,ay,vL,seval, -List.reduceReplicate]
 refine Kr (ta:=9) (td:=0) (ra:=true) (rd:=false) (cs:=G0) (ds:=ds) (f:=f) hmk (DI lP) hf ht (by simp only[vP,seval, -List.reduceReplicate]) TM Zf (by simp only[vP,seval, -List.reduceReplicate]) hv hq (by omega) ?_ ?_
 ·intro hs
  simp only[fX,SE,eO,Bool.not_true,cL,bZ,eu,bJ,av,ay,vL,seval, -List.reduceReplicate]
  refine ⟨⟨?_, ?_⟩, ?_⟩
  all_goals
   exact uI (Vh (q:=13) (by decide) (by simp only[eO,vP,seval, -List.reduceReplicate]) az) fun v out h=> .inl ⟨hs,h⟩
 ·intro hs
  simp only[qe,SE,eO,Bool.not_false,cL,bZ,eu,bJ,av,ay,vL,seval, -List.reduceReplicate]
  refine ⟨⟨?_, ?_⟩, ?_⟩
  all_goals
   refine .inl ?_
   simp only[eO,Bool.not_false,eu,av,ay,vL,seval, -List.reduceReplicate]
   refine ⟨by kernel_rfl, ?_⟩
   simp only[Tryz.cz,vR,seval, -List.reduceReplicate]
   exact uI (ao (v:=ot) rfl ⟨rfl,rfl⟩) fun v out h=> .inr ⟨hs,h⟩
def wV (f:Nat→En) (i:Nat):Nat→En:=fun j=>if j < i then f j else f (j+1)
theorem O6 {cs:List SV} {o n:Nat} {f:Nat→En} (h: ∀ j,j < n→ ∀ k,k < 66→cs[o+j*66+k]? =(je (f j))[k]?):dQ cs o n f:=fun j hj=>List.ext_getElem? fun k=>by
 rw[List.getElem?_take]
 split
 ·rename_i hk;rw[List.getElem?_drop];exact h j hj k hk
 ·symm;exact List.getElem?_eq_none (by rw[iz];omega)
theorem Ks {n c i:Nat} {f:Nat→En} {cs X Z:List SV} (hg:cF cs 0 n c f) (hi:i < n) (hX:X=(cs.drop ((i+1)*66)).take ((n - (i+1))*66)) (hZ:Z.length=66) (hz:Z.all SV.plain=true):
  cF (splice (splice cs (i*66) X) ((n - 1)*66) Z) 0 (n - 1) c (wV f i):=by
 have hr:=hg.room
 have hl:=hg.len
 have hcn:n*66≤c*66:=Nat.mul_le_mul_right _ hr
 have hXl:X.length=(n - (i+1))*66:=by rw[hX,List.length_take,List.length_drop,hl];omega
 have l1:(splice cs (i*66) X).length=cs.length:=gl _ _ _ (by rw[hXl];omega)
 refine ⟨?_,by omega,tS (tS hg.plain ?_) hz,O6 fun j hj k hk=> ?_⟩
 ·rw[gl _ _ _ (by rw[hZ,l1];omega),l1,hl]
 ·rw[hX];exact List.all_eq_true.2 fun x hx=>List.all_eq_true.1 hg.plain x (List.mem_of_mem_drop (List.mem_of_mem_take hx))
 ·rw[di _ _ _ (by rw[hZ,l1];omega),if_pos (by omega),di _ _ _ (by rw[hXl];omega)]
  unfold wV
  by_cases e:j < i
  ·rw[if_pos (by omega),if_pos e]
   exact hg.shows.cell (i:=j) (by omega) hk
  ·rw[if_neg (by omega),if_pos (by rw[hXl];omega),if_neg e,hX,List.getElem?_take,if_pos (by omega),List.getElem?_drop, ← hg.shows.cell (i:=j+1) (by omega) hk]
   congr 1;omega
theorem Yx {s:AS} {k o n c:Nat} {cs:List SV} {Post:AV→(Nat→Option aI)→Prop} (ht:0 < k) (hb:s.box 0=some ⟨true,cs⟩) (hp:cs.all SV.plain=true) (h:Post (Sl 0 o n c) (lk [(0,⟨true,cs⟩)])):sV k Post (Sl 0 o n c) s:=by
 refine ⟨k,Sl 0 o n c,lk [(0,⟨true,cs⟩)],Nat.le_refl _, ?_,(show 0 < k+1 by omega),fun m b hm=> ?_,h⟩
 ·show Sl 0 o n c=Sl (lM k k 0) o n c
  rw[CN ht]
 ·obtain ⟨rfl,rfl⟩:=D8 hm
  exact ⟨by omega,fun _=>rfl,aD hp,⟨true,cs⟩,by rw[CN ht];exact hb,fun h=>h,(aN hp _).symm⟩
theorem SG {n c i:Nat} {f:Nat→En} {cs:List SV} (hg:cF cs 0 n c f) (hi:i < n) (hn:n < 4611686018427387904):
  bz Tryz.prog 64 [Sl 0 0 n c,I .i64 i,I .i64 (i+1)] 1 (lk [(0,⟨true,cs⟩)]) (fun v out=>v=Sl 0 0 (n - 1) c∧ ∃ ds,cF ds 0 (n - 1) c (wV f i)∧out=lk [(0,⟨true,ds⟩)]):=by
 refine aA Tryz.func64 rfl (by kernel_rfl) (by simp[Tryz.ntmps64]) Tryz.sf (fun y hy=>by
  simp only[List.mem_cons,List.not_mem_nil,or_false]at hy
  rcases hy with rfl | rfl | rfl
  ·exact (show 0 < 1 by decide)
  ·trivial
  ·trivial) eH (eL hg.plain) ?_
 have hr:=hg.room
 have hl:=hg.len
 simp only[Tryz.results64,rB,bO,vR,seval, -List.reduceReplicate]
 refine ⟨⟨by omega,by omega,by omega⟩, ?_⟩
 have e1:((i:Int)==i+1)=false:=by simp;omega
 simp only[e1,rB,bO,vR,seval, -List.reduceReplicate]
 have t1:((i:Int)+1).toNat=i+1:=by omega
 simp only[t1]at*
 refine ⟨by kernel_rfl,by omega,⟨by omega,by omega,by omega⟩,by kernel_rfl, ?_⟩
 refine Df (sz:=66) (kB:=72) Tryz.tO Tryz.wq (cs:=cs) (by simp only[ae,vR,seval, -List.reduceReplicate]) (by omega) (by omega) ?_ ?_ rfl
 ·split<;>omega
 have n1:i+(n - (i+1))=n - 1:=by omega
 have n2:n - (n - 1)=1:=by omega
 have c1:(c=n - 1)=False:=eq_false (by omega)
 simp only[n1,n2,c1,if_false,rB,bO,vR,seval, -List.reduceReplicate]
 refine ⟨⟨by omega,by omega⟩, ?_⟩
 have hX:List.take ((n - (i+1))*66) (List.drop (if c=i+1 then 0 else (i+1)*66) cs)=List.take ((n - (i+1))*66) (List.drop ((i+1)*66) cs):=by
  by_cases e:n - (i+1)=0
  ·rw[e];simp
  ·rw[if_neg (by omega)]
 have hcn:n*66≤c*66:=Nat.mul_le_mul_right _ hr
 have l1:(splice cs (i*66) (List.take ((n - (i+1))*66) (List.drop ((i+1)*66) cs))).length=cs.length:=gl _ _ _ (by rw[List.length_take,List.length_drop,hl];omega)
 rw[hX]
 refine Rk Tryz.tO (by simp) (by simp) rfl (by simp only[ae,vR,seval, -List.reduceReplicate];rfl) (by rw[l1];omega) ?_
 have j6:=Ks (Z:=cZ (List.replicate 2 (Value.int IntKind.u32 0)++List.replicate 64 (Value.int IntKind.u8 0)) 1) hg hi rfl (by rw[jH];simp) (cQ (by simp) rfl rfl)
 simp only[rB,bO,vR,seval, -List.reduceReplicate]
 exact Yx (by decide) (by simp only[ae,vR,seval, -List.reduceReplicate]) j6.plain ⟨rfl,_,j6,rfl⟩
theorem kN {P:Program} [bA.Tables P] {s:AS} {nm k:Nat} {x:Operand} {dst:Option Nat} {ty:TypeId} {pos:String} {after:Array Edge} {K:AS→Prop}:rz P nm (some ⟨dst, .extract x k,ty,pos,after,none⟩) K s=bD (fu (s.aL x) k) nm dst K s:=rfl
theorem jW.name {t m:Nat} {f:Nat→Int} {sv:SV} {cs:List SV} (h:jW t m f sv cs) (k:Nat): ∃ v0,jW k m f v0 cs∧ ∀ r:Nat→Nat,r k=t→SV.ren r v0=sv:=by
 rcases h with ⟨h0,rfl⟩ | ⟨o,c,rfl,hs⟩
 ·exact ⟨.inl (.slice none 0 0), .inl ⟨h0,rfl⟩,fun r hr=>rfl⟩
 ·exact ⟨.inr (.inr (k,o,m,c)), .inr ⟨o,c,rfl,hs⟩,fun r hr=>by simp only[SV.ren,hr]⟩
theorem kO {s:AS} {nm td m:Nat} {mk aF f tag:Nat→Int} {pn x:Int} {sv:SV} {ds:List SV} {rd:Bool} (hmk:bg mk) (lP:bg aF) (hf:bg f) (ht:bg tag) (hb:s.box td=some ⟨rd,ds⟩) (hv:jW td m f sv ds) (hq:ds.all SV.plain=true) (hm:m≤65536) {dst:Option Nat} {K:AS→Prop}
  (h1:vb mk aF pn x m f tag=true→K ((⟨s.env,upd s.box nm (some ⟨true,ah .u8 m (cx mk f)⟩),s.next⟩:AS).put dst (some (ui nm m))))
  (h0:vb mk aF pn x m f tag=false→K ((⟨s.env,upd s.box nm none,s.next⟩:AS).put dst (some ot))):
  bw Tryz.prog nm 63 (some [Ag (ah .u8 32 mk),Ag (gk aF pn x sv tag)]) dst K s:=by
 obtain ⟨v0,g0,e0⟩:=hv.name 0
 refine (SF (pn:=pn) (x:=x) hmk lP hf ht g0 hq hm).bw (fun _=>td) (cy hb hq) (by simp only[List.map_cons,List.map_nil,fc,og,e0 (fun _=>td) rfl]) ?_
 rintro v out (⟨h,rfl,rfl⟩ | ⟨h,rfl,rfl⟩)
 ·have l0:lk [(1,(⟨true,ah .u8 m (cx mk f)⟩:aI))] 1=some ⟨true,ah .u8 m (cx mk f)⟩:=rfl
  have e:AV.ren (bt (fun _=>td) 1 nm) (ui 1 m)=ui nm m:=by show ui (bt _ 1 nm 1) m=_;rw[fU]
  rw[l0,cG az,e]
  exact h1 h
 ·exact h0 h
theorem HT {s:AS} {nm p n c i:Nat} {f:Nat→En} {cs:List SV} (hb:s.box p=some ⟨true,cs⟩) (hg:cF cs 0 n c f) (hi:i < n) (hn:n < 4611686018427387904) {dst:Option Nat} {K:AS→Prop}
  (hk: ∀ ds,cF ds 0 (n - 1) c (wV f i)→K ((⟨s.env,upd s.box p (some ⟨true,ds⟩),s.next⟩:AS).put dst (some (Sl p 0 (n - 1) c)))):aB Tryz.prog nm 64 (some [Sl p 0 n c,I .i64 i,I .i64 (i+1)]) dst K s:=by
 refine (SG hg hi hn).aB (fun _=>p) (some 0) (I0 hb hg.plain) rfl ?_
 rintro v out ⟨rfl,ds,hd,rfl⟩ _
 have e:after s (fun _=>p) 1 nm (some 0) (lk [(0,⟨true,ds⟩)])=upd s.box p (some ⟨true,ds⟩):=by
  simp only[after,lk]
  show upd s.box p (Option.map _ (some _))=_
  simp only[Option.map_some,aI.ren,aN hd.plain]
 rw[e]
 exact hk ds hd
theorem O7 {s:AS} {k m:Nat} {P Q:AV→(Nat→Option aI)→Prop} {v:AV} (h:tK k m P v s) (hi: ∀ v out,P v out→Q v out):tK k m Q v s:=by
 obtain ⟨q,v0,out,h1,h2,h3,h4,h5,h6⟩:=h
 exact ⟨q,v0,out,h1,h2,h3,h4,h5,hi _ _ h6⟩
theorem dD {s:AS} {k m q:Nat} {v:AV} {P:AV→(Nat→Option aI)→Prop} (hv:AV.plain v=true) (h:P v (fun _=>none)):tK k m P v s:=
 ⟨fun j=>k+j,v,fun _=>none,fun j hj=>Nat.le_add_right k j,fun i j hi hj e=>Nat.add_left_cancel e,(AV.bj hv _).symm,AV.aM hv,fun n b hb=>(by cases hb),h⟩
theorem xl {s:AS} {k q p m:Nat} {ep x:Int} {st:St} {sv qc:SV} {bx:Option aI} {ds:List SV} {Post:AV→(Nat→Option aI)→Prop} (hq:k≤q) (hp:k≤p) (hne:p≠q) (hb:s.box q=some ⟨true,ds⟩) (hd:ds.all SV.plain=true) (hb':s.box p=bx)
  (hr0: ∀ r:Nat→Nat,r k=p→SV.ren r qc=sv) (Sf: ∀ M:Nat→Prop,M k→SV.ok M qc) (ke: ∀ b,bx=some b→b.rw=true∧b.cells.all SV.plain=true)
  (h:Post (.inr [.inr (dO 0 { st with store:=qc } (.inr (.inr (k+1,0,m,m))) ep x), .inl (.inl .nilIface)]) (fun j=>if j=k then bx else if j=k+1 then some ⟨true,ds⟩ else none)):
  tK k 2 Post (.inr [.inr (dO 0 { st with store:=sv } (.inr (.inr (q,0,m,m))) ep x), .inl (.inl .nilIface)]) s:=by
 have r0:eM k (fun j=>if j=0 then p else q) k=p:=by unfold eM;rw[if_neg (by omega)];exact if_pos (by omega)
 have r1:eM k (fun j=>if j=0 then p else q) (k+1)=q:=by unfold eM;rw[if_neg (by omega)];exact if_neg (by omega)
 refine ⟨fun j=>if j=0 then p else q, .inr [.inr (dO 0 { st with store:=qc } (.inr (.inr (k+1,0,m,m))) ep x), .inl (.inl .nilIface)],fun j=>if j=k then bx else if j=k+1 then some ⟨true,ds⟩ else none,fun j hj=>by (dsimp only;split)<;>assumption,fun i j hi hj e=> ?_, ?_,fun y hy=> ?_,fun m b hm=> ?_,h⟩
 ·dsimp only at e
  split at e<;>split at e
  ·omega
  ·exact absurd e hne
  ·exact absurd e.symm hne
  ·omega
 ·have e2:SV.ren (eM k (fun j=>if j=0 then p else q)) (.inr (.inr (k+1,0,m,m)))= .inr (.inr (q,0,m,m)):=by simp only[SV.ren,r1]
  show _=(Sum.inr [Sum.inr ((dO 0 { st with store:=qc } (.inr (.inr (k+1,0,m,m))) ep x).map (SV.ren (eM k (fun j=>if j=0 then p else q)))), .inl (.inl .nilIface)]:AV)
  rw[JZ,e2]
  show _=(Sum.inr [Sum.inr (dO 0 { st with store:=SV.ren (eM k (fun j=>if j=0 then p else q)) qc } _ _ _), .inl (.inl .nilIface)]:AV)
  rw[hr0 _ r0]
 ·simp only[List.mem_cons,List.not_mem_nil,or_false]at hy
  rcases hy with rfl | rfl
  ·exact B1 (Sf _ (by omega)) ⟨(show k+1 < k+2 by omega),rfl⟩
  ·trivial
 ·dsimp only at hm
  split at hm
  ·rename_i e;subst e
   obtain ⟨h1,h2⟩:=ke b hm
   exact ⟨by omega,fun _=>h1,aD h2,b,by rw[r0,hb',hm],fun h=>h,(aN h2 _).symm⟩
  ·split at hm
   ·rename_i _ e;subst e;cases hm
    exact ⟨by omega,fun _=>rfl,aD hd,⟨true,ds⟩,by rw[r1];exact hb,fun h=>h,(aN hd _).symm⟩
   ·cases hm
def WU [aG] (k n m i:Nat) (s:St) (f:Nat→En) (aF g tag:Nat→Int) (pn x:Int) (v:AV) (out:Nat→Option aI):Prop:=
 (vb (f i).key aF pn x m g tag=false∧v= .inr [.inr (dO 0 nC (.inl (.slice none 0 0)) 0 0), .inl (.inl (fA 5))]∧out=fun _=>none)∨
 (vb (f i).key aF pn x m g tag=true∧ ∃ c cs,cF cs 0 (n - 1) c (wV f i)∧v= .inr [.inr (dO 0 { s with store:= .inr (.inr (k,0,n - 1,c)) } (.inr (.inr (k+1,0,m,m))) (f i).ep (f i).n), .inl (.inl .nilIface)]∧
  out=fun j=>if j=k then some ⟨true,cs⟩ else if j=k+1 then some ⟨true,ah .u8 m (cx (f i).key g)⟩ else none)
theorem SH {s:St} {n m i:Nat} {f:Nat→En} {aF g tag:Nat→Int} {pn x:Int} {sv:SV} {cs ds:List SV} (h0:aO 0 s.store n f cs) (hp:cs.all SV.plain=true) (hn:n*72≤140737488355328) (hi:i < n) (hk:bg (f i).key) (lP:bg aF) (hf:bg g) (ht:bg tag) (hv:jW 1 m g sv ds) (hq:ds.all SV.plain=true) (hm:m≤65536):
  gy Tryz.prog 37 [Ag (aU s),Ag (gk aF pn x sv tag),I .i64 i] 2 2 (lk [(0,⟨false,cs⟩),(1,⟨false,ds⟩)]) (WU 2 n m i s f aF g tag pn x):=by
 have Pu: ∀ {M:Nat→Prop},M 1→SV.ok M sv:=fun h=>by
  rcases hv with ⟨_,rfl⟩ | ⟨o,c,rfl,_⟩
  ·trivial
  ·exact ⟨h,rfl⟩
 have h1:=h0
 rcases h0 with ⟨_,h0⟩ | ⟨o,c,hst,hc,hsh⟩
 ·omega
 have b1:=hsh.lt hi
 refine cW Tryz.func37 rfl (by kernel_rfl) [2,5] [] (by simp[Tryz.ntmps37]) Tryz.rP (by decide) (fun y hy=>by
  simp only[List.mem_cons,List.not_mem_nil,or_false]at hy
  rcases hy with rfl | rfl | rfl
  ·exact bR (h1.ok (by decide))
  ·exact oc (Pu (by decide))
  ·trivial) lg (oU hp hq) ?_
 simp only[Tryz.results37,hst,cC,fH hi,hsh i hi,iz,b1,ia,vL,seval, -List.reduceReplicate]
 refine ⟨by decide, ?_⟩
 simp only[ia,vL,seval, -List.reduceReplicate]
 refine kO (td:=1) (rd:=false) (ds:=ds) (f:=g) hk lP hf ht (by simp only[vP,seval, -List.reduceReplicate]) hv hq hm ?_ ?_
 ·intro hs
  simp only[ui,kN,ia,vL,seval, -List.reduceReplicate]
  refine ⟨by decide, ?_⟩
  simp only[ia,vL,seval, -List.reduceReplicate]
  refine nX (t:=0) (rw:=false) (x:=s) (by simp only[vP,seval, -List.reduceReplicate]) hp h1 hn ?_
  rintro ZF bx1 (⟨h2,_⟩ | ⟨h2,c2,qH,rfl,hg,rfl⟩)
  ·omega
  simp only[ia,vL,seval, -List.reduceReplicate]
  have wi:IntKind.i64.wrap ((i:Int)+1)=i+1:=by rw[IntKind.wrap_i64];omega
  simp only[wi,ia,vL,seval, -List.reduceReplicate]
  refine HT (cs:=qH) (by simp only[vP,seval, -List.reduceReplicate]) hg hi (by omega) ?_
  intro es hes
  simp only[ia,vL,seval, -List.reduceReplicate]
  exact xl (st:=s) (q:=29) (p:=63) (qc:= .inr (.inr (2,0,n - 1,c2))) (bx:=some ⟨true,es⟩) (by decide) (by decide) (by decide) (by simp only[vP,seval, -List.reduceReplicate]) az (by simp only[vP,seval, -List.reduceReplicate])
   (fun r hr=>by simp only[SV.ren,hr]) (fun M h=>⟨h,rfl⟩) (fun b hb=>by cases hb;exact ⟨rfl,hes.plain⟩) (.inr ⟨hs,c2,es,hes,rfl,rfl⟩)
 ·intro hs
  have hni:kc BinOp.neq true (some (Sum.inl (Sum.inl (Sum.inl (fA 5)))))=some (some (B true),none):=rfl
  simp only[ot,kN,hni,ia,vL,seval, -List.reduceReplicate]
  exact dD (q:=0) (v:= .inr [.inr (dO 0 nC (.inl (.slice none 0 0)) 0 0), .inl (.inl (fA 5))]) (by rfl) (.inl ⟨hs,rfl,rfl⟩)
end Go.Proofs.YtbipdofobgabhaaGreatDoor
