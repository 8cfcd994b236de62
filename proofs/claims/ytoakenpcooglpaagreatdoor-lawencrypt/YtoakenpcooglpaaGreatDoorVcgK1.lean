/-
  The key derivations of the machine, in the program and in the document.
-/
import Derived.Test.YtoakenpcooglpaaGreatDoorVcgH7
import Derived.Test.YtoakenpcooglpaaGreatDoorVcgSt
import Derived.Test.YtoakenpcooglpaaGreatDoorVcgG
import Derived.Test.YtoakenpcooglpaaGreatDoorVcgN
import Derived.Test.YtoakenpcooglpaaGreatDoorVcgFacts
import Derived.Laws.Externs
set_option linter.unusedVariables false
set_option linter.unusedSimpArgs false
namespace Go.Proofs.YtoakenpcooglpaaGreatDoor
set_option maxHeartbeats 8000000
set_option maxRecDepth 20000
open Go.cA
set_option linter.unusedSectionVars false
variable [aX]
theorem FN {P:Program} [cA.Tables P] {f k:Nat} {args:List AV} {ins:Nat→Option aW} {Post Post':AV→(Nat→Option aW)→Prop} (h:bt P f args k ins Post) (hp: ∀ v out,Post v out→Post' v out):bt P f args k ins Post':=
 ⟨h.body,h.all,h.np,fun W g w a b c d=>(h.call W g w a b c d).mono (by
  rintro e w' ⟨v,out,g',h1,h2,h3⟩
  exact ⟨v,out,g',h1,hp _ _ h2,h3⟩)⟩
theorem n5 {n a m:Nat} {f:Nat→Int} {tail:List SV} (h:a+m≤n):List.take m (List.drop a (ae .u8 n f++tail))=ae .u8 m (fun i=>f (a+i)):=by
 apply List.ext_getElem?
 intro i
 by_cases hi:i < m
 ·rw[List.getElem?_take_of_lt hi,List.getElem?_drop,List.getElem?_append_left (by rw[ah];omega),ay .u8 n f (a+i) (by omega),ay .u8 m _ i hi]
 ·rw[List.getElem?_eq_none (by rw[List.length_take];omega),List.getElem?_eq_none (by rw[ah];omega)]
theorem tC {n m:Nat} {f:Nat→Int} {tail:List SV} (h:m≤n):List.take m (ae .u8 n f++tail)=ae .u8 m f:=by
 have:=n5 (n:=n) (a:=0) (m:=m) (f:=f) (tail:=tail) (by omega)
 rw[List.drop_zero]at this
 rw[this]
 exact aV fun i _=>by rw[Nat.zero_add]
def lb (i:Nat):Int:=[114,97,116,99,104,101,116,32,114,111,111,116].getD i 0
theorem BF:bY lb:=fun i=>by
 by_cases h:i < 12
 ·have: ∀ j,j < 12→0≤lb j∧lb j < 256:=by decide
  exact this i h
 ·have:lb i=0:=by
   simp only[lb,List.getD_eq_getElem?_getD]
   rw[List.getElem?_eq_none (by simp;omega)];rfl
  rw[this];decide
def Nj (root shared:Nat→Int):Nat→Int:=gK kW b9 (fA kW b9 root 32 shared 32) lb 12
def ae':cM:=
 let e0:cM:= .cons 9 .nil .nil
 let e1:cM:= .cons 8 e0 .nil
 let e2:cM:= .cons 3 e1 .nil
 let e3:cM:= .cons 2 e2 .nil
 let e4:cM:= .cons 1 e3 .nil
 let e5:cM:= .cons 0 e4 .nil
 let e6:cM:= .cons 7 e0 .nil
 let e7:cM:= .cons 7 e1 (.cons 8 e6 .nil)
 let e8:cM:= .cons 3 e7 (.cons 7 e2 .nil)
 let e9:cM:= .cons 2 e8 (.cons 7 e3 .nil)
 let e10:cM:= .cons 1 e9 (.cons 7 e4 .nil)
 let e11:cM:= .cons 0 e10 (.cons 7 e5 .nil)
 let e12:cM:= .cons 6 e6 .nil
 let e13:cM:= .cons 6 e7 (.cons 8 e12 .nil)
 let e14:cM:= .cons 3 e13 (.cons 6 e8 .nil)
 let e15:cM:= .cons 2 e14 (.cons 6 e9 .nil)
 let e16:cM:= .cons 1 e15 (.cons 6 e10 .nil)
 let e17:cM:= .cons 0 e16 (.cons 6 e11 .nil)
 let e18:cM:= .cons 5 e12 .nil
 let e19:cM:= .cons 5 e13 (.cons 8 e18 .nil)
 let e20:cM:= .cons 3 e19 (.cons 5 e14 .nil)
 let e21:cM:= .cons 2 e20 (.cons 5 e15 .nil)
 let e22:cM:= .cons 1 e21 (.cons 5 e16 .nil)
 let e23:cM:= .cons 0 e22 (.cons 5 e17 .nil)
 let e24:cM:= .cons 4 e18 .nil
 let e25:cM:= .cons 4 e19 (.cons 8 e24 .nil)
 let e26:cM:= .cons 3 e25 (.cons 4 e20 .nil)
 let e27:cM:= .cons 2 e26 (.cons 4 e21 .nil)
 let e28:cM:= .cons 1 e27 (.cons 4 e22 .nil)
 let e29:cM:= .cons 0 e28 (.cons 4 e23 .nil)
 e29
def afa:cM:=
 let e0:cM:= .cons 3 .nil .nil
 let e1:cM:= .cons 2 e0 .nil
 let e2:cM:= .cons 0 e1 .nil
 let e3:cM:= .cons 1 e0 .nil
 let e4:cM:= .cons 1 e1 (.cons 2 e3 .nil)
 let e5:cM:= .cons 0 e4 (.cons 1 e2 .nil)
 e5
def sf (f g:Nat→Int):AV:= .inr [.inr (ae .u8 32 f), .inr (ae .u8 32 g)]
theorem Mm (r x:Nat→Int) (hr:bY r) (hx:bY x):cB Tryz.prog 62 [Ag (ae .u8 32 r),Ag (ae .u8 32 x)] (sf (Nj r x) (fun i=>Nj r x (32+i))):=by
 refine AF Tryz.func62 rfl (by kernel_rfl) (by simp[Tryz.ntmps62]) rfl rfl ?_
 simp only[Tryz.results62,aj,ak,Tryz.vr,Value.oneCell',simprocAttr, -List.reduceReplicate]
 refine .inl ?_
 simp only[aj,ak,Tryz.vr,Value.oneCell',simprocAttr, -List.reduceReplicate]
 refine ⟨by kernel_rfl,by decide,by decide,by decide,by decide,by decide,by decide,by decide,by decide,by decide,by decide,by decide, ?_⟩
 refine oz (FN (Post':=Made 3 64 (Nj r x)) (ags (ok:=0) (ck:=32) (om:=0) (cm:=32) (oq:=0) (cq:=12) (nk:=32) (m:=32) (q:=12) (n:=64) (oT:=r) (f:=x) (info:=lb) (cs:=ae .u8 32 r) (ds:=ae .u8 32 x) (es:=ae .u8 12 lb) hr hx BF aP aw (by decide) aP aw aP aw (by decide)) (fun v out h=>h.resolve_left (fun e=>by cases e.1))) (three 0 1 6)
  (aif (r0:=true) (r1:=true) (r2:=true) (by simp only[af,Tryz.vr,Value.oneCell',simprocAttr, -List.reduceReplicate]) aw (by simp only[af,Tryz.vr,Value.oneCell',simprocAttr, -List.reduceReplicate]) aw (by simp only[ax];rfl) aw) rfl (fun M h n hn=> ?_) (by kernel_rfl) ?_
 ·have a:=h (Sl 0 0 32 32) (List.Mem.head _)
  have b:=h (Sl 1 0 32 32) (List.Mem.tail _ (List.Mem.head _))
  have c:=h (Sl 6 0 12 12) (List.Mem.tail _ (List.Mem.tail _ (List.Mem.head _)))
  simp only[three];split
  ·exact a
  ·split
   ·exact b
   ·exact c
 intro c1 eJ h1 h2 h3
 simp only[aj,ak,Tryz.vr,Value.oneCell',simprocAttr, -List.reduceReplicate]
 refine .inr ⟨Tryz.mixed,ae',by kernel_rfl, ?_⟩
 have n1:(c1=32)=False:=eq_false (by omega)
 have l1:(32≤(c1:Int))=True:=eq_true (by omega)
 have l2:(64≤(c1:Int))=True:=eq_true (by omega)
 have len: ∀ m,m≤64→(m≤(ae .u8 64 (Nj r x)++eJ).length)=True:=fun m hm=>eq_true (by rw[List.length_append,ah];omega)
 have p0:=tC (n:=64) (m:=32) (f:=Nj r x) (tail:=eJ) (by decide)
 have p1:=n5 (n:=64) (a:=32) (m:=32) (f:=Nj r x) (tail:=eJ) (by decide)
 simp only[ae',n1,l1,l2,len 32 (by decide),len 64 (by decide),p0,p1,aj,ak,Tryz.vr,Value.oneCell',simprocAttr, -List.reduceReplicate]
 rfl
theorem ab3 {o n c at':Nat} {f:Nat→Int} {cs:List SV} (hs:bE cs o n f) (hp:cs.all SV.plain=true) (h:at'+32≤n) (hn:n < 1000000):
  bt Tryz.prog 43 [Sl 0 o n c,I .i64 at'] 1 (lk [(0,⟨false,cs⟩)]) (fun v out=>v=Ag (ae .u8 32 (fun i=>f (at'+i)))∧out=fun _=>none):=by
 refine aE Tryz.func43 rfl (by kernel_rfl) (by simp[Tryz.ntmps43]) Tryz.qo (by simp[AV.ok,CV.ok,SV.names]) eG (eH hp) ?_
 have fy: ∀ {M:Nat→Prop},(∀ x ∈ cs,SV.ok M x)=True:=eq_true (aJ hp)
 simp only[Tryz.results43,Tryz.vr,Value.oneCell',simprocAttr, -List.reduceReplicate]
 refine aG 32 (fun k=>[(0,Sl 0 o n c),(1,I .i64 at'),(4,Ptr 1 0),(5,Ptr 2 0),(6,I .i64 k)])
  (fun k=>[(0,⟨false,cs⟩),(1,⟨true,ae .u8 32 (fun _=>0)⟩),(2,⟨true,ae .u8 32 (fun i=>if i < k then f (at'+i) else 0)⟩)]) _ ?_ ?_ ?_
 ·simp only[fy,Nat.not_lt_zero,if_false,Tryz.vr,Value.oneCell',simprocAttr, -List.reduceReplicate]
 ·intro k hk
  have a3:((k:Int) < 32)=True:=cf (m:=32) hk
  have d1:decide (0≤(at':Int))=true:=decide_eq_true (by omega)
  have w1:IntKind.i64.wrap ((at':Int)+(k:Int))=((at'+k:Nat):Int):=I0 _ _ (by omega)
  have d2:decide (((at'+k:Nat):Int) < (n:Int))=true:=decide_eq_true (by omega)
  have l2:(((at'+k:Nat):Int) < (n:Int))=True:=eq_true (by omega)
  have fin:ae .u8 32 (upd (fun i=>if i < k then f (at'+i) else 0) k (f (at'+k)))=ae .u8 32 (fun i=>if i < k+1 then f (at'+i) else 0):=fc (f:=fun i=>f (at'+i))
  simp only[Tryz.vr,Value.oneCell',simprocAttr, -List.reduceReplicate]
  refine aD (by simp;omega) ?_
  simp only[d1,l2,w1,a3,hs (at'+k) (by omega),bl,Nat.mul_one,aA .u8 32 _ k hk,fin,bD k (by omega),decide_true,Tryz.vr,Value.oneCell',simprocAttr, -List.reduceReplicate]
  exact ⟨by omega,aJ hp⟩
 ·simp only[Tryz.vr,Value.oneCell',simprocAttr, -List.reduceReplicate]
  refine aH (by simp) ?_
  simp only[dG,Tryz.vr,Value.oneCell',simprocAttr, -List.reduceReplicate]
  exact aC (v:=Ag (ae .u8 32 (fun i=>f (at'+i)))) aw ⟨rfl,rfl⟩
theorem BG {s:AS} {nm t o n c at':Nat} {rw:Bool} {f:Nat→Int} {cs:List SV} (hb:s.box t=some ⟨rw,cs⟩) (hs:bE cs o n f) (hp:cs.all SV.plain=true) (h:at'+32≤n) (hn:n < 1000000) {dst:Option Nat} {K:AS→Prop}
  (hk:K (s.put dst (some (Ag (ae .u8 32 (fun i=>f (at'+i))))))):aB Tryz.prog nm 43 (some [Sl t o n c,I .i64 at']) dst K s:=
 (ab3 hs hp h hn).dV (fun _=>t) (dp hb hp) aw rfl hk
theorem BH (r x:Nat→Int) (hr:bY r) (hx:bY x):cB Tryz.prog 23 [Ag (ae .u8 32 r),Ag (ae .u8 32 x)] (sf (Nj r x) (fun i=>Nj r x (32+i))):=by
 refine aK Tryz.func23 rfl (by kernel_rfl) (by simp[Tryz.ntmps23]) rfl rfl ?_
 simp only[Tryz.results23,Tryz.vr,Value.oneCell',simprocAttr, -List.reduceReplicate]
 refine ⟨by kernel_rfl,by decide,by decide,by decide,by decide,by decide,by decide,by decide,by decide,by decide,by decide,by decide, ?_⟩
 refine sd (t0:=0) (t1:=1) (t2:=6) (nk:=32) (m:=32) (q:=12) (N:=64) (r0:=true) (r1:=true) (r2:=true) (oT:=r) (f:=x) (info:=lb) (cs:=ae .u8 32 r) (ds:=ae .u8 32 x) (es:=ae .u8 12 lb)
  hr hx BF (by simp only[af,Tryz.vr,Value.oneCell',simprocAttr, -List.reduceReplicate]) aw (by simp only[af,Tryz.vr,Value.oneCell',simprocAttr, -List.reduceReplicate]) aw (by simp only[ax];rfl) aw
  (.inr ⟨0,32,rfl,aP⟩) (.inr ⟨0,32,rfl,aP⟩) (.inr ⟨0,12,rfl,aP⟩) (by decide) (by kernel_rfl) ?_
 intro c tail h1 h2 h3
 simp only[Tryz.vr,Value.oneCell',simprocAttr, -List.reduceReplicate]
 refine BG (at':=0) (rw:=true) (f:=Nj r x) (cs:=ae .u8 64 (Nj r x)++tail) (by simp only[af,Tryz.vr,Value.oneCell',simprocAttr, -List.reduceReplicate];rfl) cV (cH h3) (by decide) (by decide) ?_
 simp only[Tryz.vr,Value.oneCell',simprocAttr, -List.reduceReplicate]
 refine BG (at':=32) (rw:=true) (f:=Nj r x) (cs:=ae .u8 64 (Nj r x)++tail) (by simp only[af,Tryz.vr,Value.oneCell',simprocAttr, -List.reduceReplicate];rfl) cV (cH h3) (by decide) (by decide) ?_
 simp only[Nat.zero_add,Tryz.vr,Value.oneCell',simprocAttr, -List.reduceReplicate]
 rfl
def sN (k:Nat→Int) (x:Int):Nat→Int:=fA kW b9 k 32 (fun _=>x) 1
theorem G3 (k:Nat→Int) (hk:bY k):cB Tryz.prog 68 [Ag (ae .u8 32 k)] (sf (sN k 2) (sN k 1)):=by
 refine aK Tryz.func68 rfl (by kernel_rfl) (by simp[Tryz.ntmps68]) rfl rfl ?_
 simp only[Tryz.results68,dL,Tryz.vr,Value.oneCell',simprocAttr, -List.reduceReplicate]
 refine ⟨by kernel_rfl, ?_⟩
 have sW:bY (fun _=>(2:Int)):=fun i=>by show (0:Int)≤2∧(2:Int) < 256;decide
 have ux:bY (fun _=>(1:Int)):=fun i=>by show (0:Int)≤1∧(1:Int) < 256;decide
 have alP:bt Tryz.prog 91 [Sl 0 0 32 32,Sl 1 0 1 1] 2 (lk [(0,⟨false,ae .u8 32 k⟩),(1,⟨false,[Sum.inl (.int .u8 2)]⟩)]) (fun u out=>u=Ag (ae .u8 32 (sN k 2))∧out=fun _=>none):=aam (nk:=32) (m:=1) hk sW aP aw (by decide) b7 rfl
 have alQ:bt Tryz.prog 91 [Sl 0 0 32 32,Sl 1 0 1 1] 2 (lk [(0,⟨false,ae .u8 32 k⟩),(1,⟨false,[Sum.inl (.int .u8 1)]⟩)]) (fun u out=>u=Ag (ae .u8 32 (sN k 1))∧out=fun _=>none):=aam (nk:=32) (m:=1) hk ux aP aw (by decide) b7 rfl
 refine alP.en (two 0 4) (jz (rw:=true) (rw':=true) (by simp only[af,Tryz.vr,Value.oneCell',simprocAttr, -List.reduceReplicate]) aw (by simp only[af,Tryz.vr,Value.oneCell',simprocAttr, -List.reduceReplicate]) rfl) aw rfl (fun M h n hn=> ?_) ?_
 ·have a:=h (Sl 0 0 32 32) (List.Mem.head _)
  have b:=h (Sl 4 0 1 1) (List.Mem.tail _ (List.Mem.head _))
  simp only[two];split
  ·exact a
  ·exact b
 simp only[dL,Tryz.vr,Value.oneCell',simprocAttr, -List.reduceReplicate]
 refine alQ.en (two 0 7) (jz (rw:=true) (rw':=true) (by simp only[af,Tryz.vr,Value.oneCell',simprocAttr, -List.reduceReplicate]) aw (by simp only[af,Tryz.vr,Value.oneCell',simprocAttr, -List.reduceReplicate]) rfl) aw rfl (fun M h n hn=> ?_) ?_
 ·have a:=h (Sl 0 0 32 32) (List.Mem.head _)
  have b:=h (Sl 7 0 1 1) (List.Mem.tail _ (List.Mem.head _))
  simp only[two];split
  ·exact a
  ·exact b
 simp only[dL,Tryz.vr,Value.oneCell',simprocAttr, -List.reduceReplicate]
 rfl
theorem mM (k:Nat→Int) (hk:bY k):cB Tryz.prog 49 [Ag (ae .u8 32 k)] (sf (sN k 2) (sN k 1)):=by
 refine AF Tryz.func49 rfl (by kernel_rfl) (by simp[Tryz.ntmps49]) rfl rfl ?_
 simp only[Tryz.results49,dL,aj,ak,Tryz.vr,Value.oneCell',simprocAttr, -List.reduceReplicate]
 have sW:bY (fun _=>(2:Int)):=fun i=>by show (0:Int)≤2∧(2:Int) < 256;decide
 have ux:bY (fun _=>(1:Int)):=fun i=>by show (0:Int)≤1∧(1:Int) < 256;decide
 refine gm (ta:=0) (tb:=4) (rwa:=true) (rwb:=true) (key:=k) (f:=fun _=>2) hk sW (by simp only[af,Tryz.vr,Value.oneCell',simprocAttr, -List.reduceReplicate]) aP aw (by simp only[af,Tryz.vr,Value.oneCell',simprocAttr, -List.reduceReplicate]) b7 rfl (by decide) (by decide) ?_
 simp only[dL,aj,ak,Tryz.vr,Value.oneCell',simprocAttr, -List.reduceReplicate]
 refine gm (ta:=0) (tb:=9) (rwa:=true) (rwb:=true) (key:=k) (f:=fun _=>1) hk ux (by simp only[af,Tryz.vr,Value.oneCell',simprocAttr, -List.reduceReplicate]) aP aw (by simp only[af,Tryz.vr,Value.oneCell',simprocAttr, -List.reduceReplicate]) b7 rfl (by decide) (by decide) ?_
 simp only[dL,aj,ak,Tryz.vr,Value.oneCell',simprocAttr, -List.reduceReplicate]
 refine .inr ⟨Tryz.mixed,afa,by kernel_rfl, ?_⟩
 simp only[afa,aj,ak,Tryz.vr,Value.oneCell',simprocAttr, -List.reduceReplicate]
 rfl
end Go.Proofs.YtoakenpcooglpaaGreatDoor
namespace Go.Proofs.YtoakenpcooglpaaGreatDoor
open Go.cA
set_option linter.unusedSectionVars false
variable [aX]
theorem V0 (x y c:Int) (hx:0≤x) (hy:0≤y) (h0:0≤c) (h1:c≤1): ∀ (g:bG) (w:World),(callFunc 134 (([I .u64 x,I .u64 y,I .u64 c]:List AV).map (AV.av g)).toArray).run Tryz.prog w=
  .ok (.value (AV.av g (.inr [.inl (.inl (.int .u64 ((x+y+c)%18446744073709551616))), .inl (.inl (.int .u64 ((x+y+c) / 18446744073709551616)))]))) w:=by
 intro g w
 show (callFunc 134 #[.int .u64 x, .int .u64 y, .int .u64 c]).run Tryz.prog w=_
 rw[run_callFunc_extern Tryz.func134 (by kernel_rfl) (by kernel_rfl) (by kernel_rfl) (e:=add64Entry) (by kernel_rfl),run_add64 x y c hx hy h0 h1]
 rfl
theorem Add64.call {x y c:Int} (hx:0≤x) (hy:0≤y) (h0:0≤c) (h1:c≤1) {dst:Option Nat} {K:AS→Prop} {s:AS}
  (hk:K (s.put dst (some (.inr [.inl (.inl (.int .u64 ((x+y+c)%18446744073709551616))), .inl (.inl (.int .u64 ((x+y+c) / 18446744073709551616)))])))):
  mF Tryz.prog 134 (some [I .u64 x,I .u64 y,I .u64 c]) dst K s:=
 ⟨_,by intro v hv;simp at hv;rcases hv with rfl | rfl<;>trivial,V0 x y c hx hy h0 h1,hk⟩
theorem V1 (x y:Int) (hx:0≤x) (hx':x < 18446744073709551616) (hy:0≤y) (hy':y < 18446744073709551616):
  cB Tryz.prog 133 [I .u64 x,I .u64 y] (.inr [.inl (.inl (.int .u64 (x*y / 18446744073709551616))), .inl (.inl (.int .u64 (x*y%18446744073709551616)))]):=by
 refine aK Tryz.func133 rfl (by kernel_rfl) (by simp[Tryz.ntmps133]) rfl rfl ?_
 simp only[Tryz.results133,Tryz.vs,Value.oneCell',simprocAttr, -List.reduceReplicate]
 rw[NN x y hx hx' hy hy',wrap_u64]
def eE (W:Int):List SV:=[Sum.inl (.int .u64 (W / 18446744073709551616)),Sum.inl (.int .u64 (W%18446744073709551616))]
theorem cK (W x y:Int) (hW:0≤W) (hx:0≤x) (hx':x < 18446744073709551616) (hy:0≤y) (hy':y < 18446744073709551616) (hs:W+x*y < 340282366920938463463374607431768211456):
  cB Tryz.prog 121 [Ag (eE W),I .u64 x,I .u64 y] (Ag (eE (W+x*y))):=by
 have hxy:0≤x*y:=Int.mul_nonneg hx hy
 refine aK Tryz.func121 rfl (by kernel_rfl) (by simp[Tryz.ntmps121]) rfl rfl ?_
 simp only[eE,Tryz.results121,Tryz.vs,Value.oneCell',simprocAttr, -List.reduceReplicate]
 refine (V1 x y hx hx' hy hy').aB ?_
 simp only[Tryz.vs,Value.oneCell',simprocAttr, -List.reduceReplicate]
 refine Add64.call (by omega) (by omega) (by omega) (by omega) ?_
 simp only[Tryz.vs,Value.oneCell',simprocAttr, -List.reduceReplicate]
 refine Add64.call (by omega) (by omega) (by omega) (by omega) ?_
 simp only[Tryz.vs,Value.oneCell',simprocAttr, -List.reduceReplicate]
 generalize x*y=p at*
 rw[show (W / 18446744073709551616+p / 18446744073709551616+(W%18446744073709551616+p%18446744073709551616+0) / 18446744073709551616)%18446744073709551616=(W+p) / 18446744073709551616 from by omega,
  show (W%18446744073709551616+p%18446744073709551616+0)%18446744073709551616=(W+p)%18446744073709551616 from by omega]
theorem lE (W:Int) (hW:0≤W) (hW':W < 41538374868278621028243970633760768):cB Tryz.prog 123 [Ag (eE W)] (I .u64 (W / 2251799813685248)):=by
 refine aK Tryz.func123 rfl (by kernel_rfl) (by simp[Tryz.ntmps123]) rfl rfl ?_
 simp only[eE,Tryz.results123,Tryz.vs,Value.oneCell',simprocAttr, -List.reduceReplicate]
 rw[aib,mJ,Int.emod_eq_of_lt (by omega) (by omega)]
 have:=Xm (W / 18446744073709551616) (W%18446744073709551616 / 2251799813685248) 13 (by decide) (by omega) (by omega) (by omega) (by omega)
 rw[show (2:Int)^13=8192 from rfl]at this
 rw[this]
 rw[show W / 18446744073709551616*8192+W%18446744073709551616 / 2251799813685248=W / 2251799813685248 from by omega]
structure F5 where
 a0:Int
 a1:Int
 a2:Int
 a3:Int
 a4:Int
def F5.l (f:F5):List SV:=[Sum.inl (.int .u64 f.a0),Sum.inl (.int .u64 f.a1),Sum.inl (.int .u64 f.a2),Sum.inl (.int .u64 f.a3),Sum.inl (.int .u64 f.a4)]
def eL (f:F5):F5:=
 ⟨f.a0%2251799813685248+19*(f.a4 / 2251799813685248),f.a1%2251799813685248+f.a0 / 2251799813685248,f.a2%2251799813685248+f.a1 / 2251799813685248,
  f.a3%2251799813685248+f.a2 / 2251799813685248,f.a4%2251799813685248+f.a3 / 2251799813685248⟩
structure F5.U (f:F5):Prop where
 h0:0≤f.a0∧f.a0 < 18446744073709551616
 h1:0≤f.a1∧f.a1 < 18446744073709551616
 h2:0≤f.a2∧f.a2 < 18446744073709551616
 h3:0≤f.a3∧f.a3 < 18446744073709551616
 h4:0≤f.a4∧f.a4 < 18446744073709551616
theorem n6 (f:F5) (h:f.U):cB Tryz.prog 122 [I .u64 f.a0,I .u64 f.a1,I .u64 f.a2,I .u64 f.a3,I .u64 f.a4] (Ag (eL f).l):=by
 obtain ⟨⟨h0,BI⟩,⟨h1,h1'⟩,⟨h2,h2'⟩,⟨h3,h3'⟩,⟨h4,h4'⟩⟩:=h
 refine aK Tryz.func122 rfl (by kernel_rfl) (by simp[Tryz.ntmps122]) rfl rfl ?_
 simp only[Tryz.results122,Tryz.vs,Value.oneCell',simprocAttr, -List.reduceReplicate]
 simp only[mJ,hX f.a0 h0 BI,hX f.a1 h1 h1',hX f.a2 h2 h2',hX f.a3 h3 h3',hX f.a4 h4 h4']
 rw[au (19*_) (by omega) (by omega),au _ (by omega) (by omega),au _ (by omega) (by omega),au _ (by omega) (by omega),au _ (by omega) (by omega),au _ (by omega) (by omega)]
 rfl
structure F5.Ok (f:F5):Prop where
 h0:0≤f.a0∧f.a0 < 2251799813686272
 h1:0≤f.a1∧f.a1 < 2251799813686272
 h2:0≤f.a2∧f.a2 < 2251799813686272
 h3:0≤f.a3∧f.a3 < 2251799813686272
 h4:0≤f.a4∧f.a4 < 2251799813686272
def Mn (a b:F5):F5:=⟨a.a0+b.a0,a.a1+b.a1,a.a2+b.a2,a.a3+b.a3,a.a4+b.a4⟩
def Mp (a b:F5):F5:=⟨a.a0+4503599627370458 - b.a0,a.a1+4503599627370494 - b.a1,a.a2+4503599627370494 - b.a2,a.a3+4503599627370494 - b.a3,a.a4+4503599627370494 - b.a4⟩
theorem ab4 (a b:F5) (ha:a.Ok) (hb:b.Ok):cB Tryz.prog 118 [Ag a.l,Ag b.l] (Ag (eL (Mn a b)).l):=by
 obtain ⟨⟨h0,BI⟩,⟨h1,h1'⟩,⟨h2,h2'⟩,⟨h3,h3'⟩,⟨h4,h4'⟩⟩:=ha
 obtain ⟨⟨k0,Nk⟩,⟨k1,Nl⟩,⟨k2,Nm⟩,⟨k3,Nn⟩,⟨k4,No⟩⟩:=hb
 refine aK Tryz.func118 rfl (by kernel_rfl) (by simp[Tryz.ntmps118]) rfl rfl ?_
 simp only[F5.l,Tryz.results118,Tryz.vs,Value.oneCell',simprocAttr, -List.reduceReplicate]
 rw[au (a.a0+b.a0) (by omega) (by omega),au (a.a1+b.a1) (by omega) (by omega),au (a.a2+b.a2) (by omega) (by omega),au (a.a3+b.a3) (by omega) (by omega),au (a.a4+b.a4) (by omega) (by omega)]
 refine (n6 (Mn a b) ⟨?_, ?_, ?_, ?_, ?_⟩).aB ?_
 iterate 5 (simp only[Mn];omega)
 simp only[F5.l,Tryz.vs,Value.oneCell',simprocAttr, -List.reduceReplicate]
theorem ab5 (a b:F5) (ha:a.Ok) (hb:b.Ok):cB Tryz.prog 119 [Ag a.l,Ag b.l] (Ag (eL (Mp a b)).l):=by
 obtain ⟨⟨h0,BI⟩,⟨h1,h1'⟩,⟨h2,h2'⟩,⟨h3,h3'⟩,⟨h4,h4'⟩⟩:=ha
 obtain ⟨⟨k0,Nk⟩,⟨k1,Nl⟩,⟨k2,Nm⟩,⟨k3,Nn⟩,⟨k4,No⟩⟩:=hb
 refine aK Tryz.func119 rfl (by kernel_rfl) (by simp[Tryz.ntmps119]) rfl rfl ?_
 simp only[F5.l,Tryz.results119,Tryz.vs,Value.oneCell',simprocAttr, -List.reduceReplicate]
 rw[au (a.a0+_) (by omega) (by omega),au (a.a1+_) (by omega) (by omega),au (a.a2+_) (by omega) (by omega),au (a.a3+_) (by omega) (by omega),au (a.a4+_) (by omega) (by omega),
  au (a.a0+_ - b.a0) (by omega) (by omega),au (a.a1+_ - b.a1) (by omega) (by omega),au (a.a2+_ - b.a2) (by omega) (by omega),au (a.a3+_ - b.a3) (by omega) (by omega),au (a.a4+_ - b.a4) (by omega) (by omega)]
 refine (n6 (Mp a b) ⟨?_, ?_, ?_, ?_, ?_⟩).aB ?_
 iterate 5 (simp only[Mp];omega)
 simp only[F5.l,Tryz.vs,Value.oneCell',simprocAttr, -List.reduceReplicate]
end Go.Proofs.YtoakenpcooglpaaGreatDoor
namespace Go.Proofs.YtoakenpcooglpaaGreatDoor
set_option maxHeartbeats 2000000
open Go.cA
set_option linter.unusedSectionVars false
variable [aX]
theorem cB.draw {P:Program} [cA.Tables P] {f:Nat} {l:List AV} {r:AV} (h:cB P f l r) (hc:ai P f=true) {ops:Array Oper} {i nm:Nat} {dst:Option Nat} {K:AS→Prop} {s:AS} (hk:K (s.put dst (some r))):mG P ops i nm f (some l) dst K s:=
 .inl ⟨l,r,rfl, .inl ⟨hc,h⟩,hk⟩
def jL (a b:F5):F5:=
 ⟨0+a.a0*b.a0+a.a1*(19*b.a4)+a.a2*(19*b.a3)+a.a3*(19*b.a2)+a.a4*(19*b.a1),
  0+a.a0*b.a1+a.a1*b.a0+a.a2*(19*b.a4)+a.a3*(19*b.a3)+a.a4*(19*b.a2),
  0+a.a0*b.a2+a.a1*b.a1+a.a2*b.a0+a.a3*(19*b.a4)+a.a4*(19*b.a3),
  0+a.a0*b.a3+a.a1*b.a2+a.a2*b.a1+a.a3*b.a0+a.a4*(19*b.a4),
  0+a.a0*b.a4+a.a1*b.a3+a.a2*b.a2+a.a3*b.a1+a.a4*b.a0⟩
def dX (a b:F5):F5:=eL
 ⟨(jL a b).a0%18446744073709551616%2251799813685248+19*((jL a b).a4 / 2251799813685248),(jL a b).a1%18446744073709551616%2251799813685248+(jL a b).a0 / 2251799813685248,
  (jL a b).a2%18446744073709551616%2251799813685248+(jL a b).a1 / 2251799813685248,(jL a b).a3%18446744073709551616%2251799813685248+(jL a b).a2 / 2251799813685248,
  (jL a b).a4%18446744073709551616%2251799813685248+(jL a b).a3 / 2251799813685248⟩
theorem cL {x y:Int} (hx:0≤x) (hx':x < 2251799813686272) (hy:0≤y) (hy':y < 2251799813686272):0≤x*y∧x*y≤5070602400917524788405613885441:=
 pP hx (show x≤2251799813686271 by omega) hy (show y≤2251799813686271 by omega)
theorem cW {x y:Int} (hx:0≤x) (hx':x < 2251799813686272) (hy:0≤y) (hy':y < 2251799813686272):0≤x*(19*y)∧x*(19*y)≤96341445617432970979706663823379:=
 pP hx (show x≤2251799813686271 by omega) (show 0≤19*y by omega) (show 19*y≤42784196460039149 by omega)
theorem ka (a b:F5) (ha:a.Ok) (hb:b.Ok):cB Tryz.prog 105 [Ag a.l,Ag b.l] (Ag (dX a b).l):=by
 obtain ⟨⟨h0,BI⟩,⟨h1,h1'⟩,⟨h2,h2'⟩,⟨h3,h3'⟩,⟨h4,h4'⟩⟩:=ha
 obtain ⟨⟨k0,Nk⟩,⟨k1,Nl⟩,⟨k2,Nm⟩,⟨k3,Nn⟩,⟨k4,No⟩⟩:=hb
 have p00:=cL h0 BI k0 Nk
 have p14:=cW h1 h1' k4 No
 have p23:=cW h2 h2' k3 Nn
 have p32:=cW h3 h3' k2 Nm
 have p41:=cW h4 h4' k1 Nl
 have p01:=cL h0 BI k1 Nl
 have p10:=cL h1 h1' k0 Nk
 have p24:=cW h2 h2' k4 No
 have p33:=cW h3 h3' k3 Nn
 have p42:=cW h4 h4' k2 Nm
 have p02:=cL h0 BI k2 Nm
 have p11:=cL h1 h1' k1 Nl
 have p20:=cL h2 h2' k0 Nk
 have p34:=cW h3 h3' k4 No
 have p43:=cW h4 h4' k3 Nn
 have p03:=cL h0 BI k3 Nn
 have p12:=cL h1 h1' k2 Nm
 have p21:=cL h2 h2' k1 Nl
 have p30:=cL h3 h3' k0 Nk
 have p44:=cW h4 h4' k4 No
 have p04:=cL h0 BI k4 No
 have p13:=cL h1 h1' k3 Nn
 have p22:=cL h2 h2' k2 Nm
 have p31:=cL h3 h3' k1 Nl
 have p40:=cL h4 h4' k0 Nk
 have e1:IntKind.u64.wrap (19*b.a1)=19*b.a1:=au _ (by omega) (by omega)
 have e2:IntKind.u64.wrap (19*b.a2)=19*b.a2:=au _ (by omega) (by omega)
 have e3:IntKind.u64.wrap (19*b.a3)=19*b.a3:=au _ (by omega) (by omega)
 have e4:IntKind.u64.wrap (19*b.a4)=19*b.a4:=au _ (by omega) (by omega)
 refine aK Tryz.func105 rfl (by kernel_rfl) (by simp[Tryz.ntmps105]) rfl rfl ?_
 simp only[F5.l,Tryz.results105,e1,e2,e3,e4,Tryz.vs,Value.oneCell',simprocAttr, -List.reduceReplicate]
 refine ⟨by kernel_rfl, ?_⟩
 refine ⟨by kernel_rfl, ?_⟩
 refine cB.draw (cK (0) a.a0 b.a0 (by omega) (by omega) (by omega) (by omega) (by omega) (by omega)) Tryz.bB ?_
 simp only[eE,Tryz.vs,Value.oneCell',simprocAttr, -List.reduceReplicate]
 refine cB.draw (cK (0+a.a0*b.a0) a.a1 (19*b.a4) (by omega) (by omega) (by omega) (by omega) (by omega) (by omega)) Tryz.bB ?_
 simp only[eE,Tryz.vs,Value.oneCell',simprocAttr, -List.reduceReplicate]
 refine cB.draw (cK (0+a.a0*b.a0+a.a1*(19*b.a4)) a.a2 (19*b.a3) (by omega) (by omega) (by omega) (by omega) (by omega) (by omega)) Tryz.bB ?_
 simp only[eE,Tryz.vs,Value.oneCell',simprocAttr, -List.reduceReplicate]
 refine cB.draw (cK (0+a.a0*b.a0+a.a1*(19*b.a4)+a.a2*(19*b.a3)) a.a3 (19*b.a2) (by omega) (by omega) (by omega) (by omega) (by omega) (by omega)) Tryz.bB ?_
 simp only[eE,Tryz.vs,Value.oneCell',simprocAttr, -List.reduceReplicate]
 refine cB.draw (cK (0+a.a0*b.a0+a.a1*(19*b.a4)+a.a2*(19*b.a3)+a.a3*(19*b.a2)) a.a4 (19*b.a1) (by omega) (by omega) (by omega) (by omega) (by omega) (by omega)) Tryz.bB ?_
 simp only[eE,Tryz.vs,Value.oneCell',simprocAttr, -List.reduceReplicate]
 refine ⟨by kernel_rfl, ?_⟩
 refine cB.draw (cK (0) a.a0 b.a1 (by omega) (by omega) (by omega) (by omega) (by omega) (by omega)) Tryz.bB ?_
 simp only[eE,Tryz.vs,Value.oneCell',simprocAttr, -List.reduceReplicate]
 refine cB.draw (cK (0+a.a0*b.a1) a.a1 b.a0 (by omega) (by omega) (by omega) (by omega) (by omega) (by omega)) Tryz.bB ?_
 simp only[eE,Tryz.vs,Value.oneCell',simprocAttr, -List.reduceReplicate]
 refine cB.draw (cK (0+a.a0*b.a1+a.a1*b.a0) a.a2 (19*b.a4) (by omega) (by omega) (by omega) (by omega) (by omega) (by omega)) Tryz.bB ?_
 simp only[eE,Tryz.vs,Value.oneCell',simprocAttr, -List.reduceReplicate]
 refine cB.draw (cK (0+a.a0*b.a1+a.a1*b.a0+a.a2*(19*b.a4)) a.a3 (19*b.a3) (by omega) (by omega) (by omega) (by omega) (by omega) (by omega)) Tryz.bB ?_
 simp only[eE,Tryz.vs,Value.oneCell',simprocAttr, -List.reduceReplicate]
 refine cB.draw (cK (0+a.a0*b.a1+a.a1*b.a0+a.a2*(19*b.a4)+a.a3*(19*b.a3)) a.a4 (19*b.a2) (by omega) (by omega) (by omega) (by omega) (by omega) (by omega)) Tryz.bB ?_
 simp only[eE,Tryz.vs,Value.oneCell',simprocAttr, -List.reduceReplicate]
 refine ⟨by kernel_rfl, ?_⟩
 refine cB.draw (cK (0) a.a0 b.a2 (by omega) (by omega) (by omega) (by omega) (by omega) (by omega)) Tryz.bB ?_
 simp only[eE,Tryz.vs,Value.oneCell',simprocAttr, -List.reduceReplicate]
 refine cB.draw (cK (0+a.a0*b.a2) a.a1 b.a1 (by omega) (by omega) (by omega) (by omega) (by omega) (by omega)) Tryz.bB ?_
 simp only[eE,Tryz.vs,Value.oneCell',simprocAttr, -List.reduceReplicate]
 refine cB.draw (cK (0+a.a0*b.a2+a.a1*b.a1) a.a2 b.a0 (by omega) (by omega) (by omega) (by omega) (by omega) (by omega)) Tryz.bB ?_
 simp only[eE,Tryz.vs,Value.oneCell',simprocAttr, -List.reduceReplicate]
 refine cB.draw (cK (0+a.a0*b.a2+a.a1*b.a1+a.a2*b.a0) a.a3 (19*b.a4) (by omega) (by omega) (by omega) (by omega) (by omega) (by omega)) Tryz.bB ?_
 simp only[eE,Tryz.vs,Value.oneCell',simprocAttr, -List.reduceReplicate]
 refine cB.draw (cK (0+a.a0*b.a2+a.a1*b.a1+a.a2*b.a0+a.a3*(19*b.a4)) a.a4 (19*b.a3) (by omega) (by omega) (by omega) (by omega) (by omega) (by omega)) Tryz.bB ?_
 simp only[eE,Tryz.vs,Value.oneCell',simprocAttr, -List.reduceReplicate]
 refine ⟨by kernel_rfl, ?_⟩
 refine cB.draw (cK (0) a.a0 b.a3 (by omega) (by omega) (by omega) (by omega) (by omega) (by omega)) Tryz.bB ?_
 simp only[eE,Tryz.vs,Value.oneCell',simprocAttr, -List.reduceReplicate]
 refine cB.draw (cK (0+a.a0*b.a3) a.a1 b.a2 (by omega) (by omega) (by omega) (by omega) (by omega) (by omega)) Tryz.bB ?_
 simp only[eE,Tryz.vs,Value.oneCell',simprocAttr, -List.reduceReplicate]
 refine cB.draw (cK (0+a.a0*b.a3+a.a1*b.a2) a.a2 b.a1 (by omega) (by omega) (by omega) (by omega) (by omega) (by omega)) Tryz.bB ?_
 simp only[eE,Tryz.vs,Value.oneCell',simprocAttr, -List.reduceReplicate]
 refine cB.draw (cK (0+a.a0*b.a3+a.a1*b.a2+a.a2*b.a1) a.a3 b.a0 (by omega) (by omega) (by omega) (by omega) (by omega) (by omega)) Tryz.bB ?_
 simp only[eE,Tryz.vs,Value.oneCell',simprocAttr, -List.reduceReplicate]
 refine cB.draw (cK (0+a.a0*b.a3+a.a1*b.a2+a.a2*b.a1+a.a3*b.a0) a.a4 (19*b.a4) (by omega) (by omega) (by omega) (by omega) (by omega) (by omega)) Tryz.bB ?_
 simp only[eE,Tryz.vs,Value.oneCell',simprocAttr, -List.reduceReplicate]
 refine ⟨by kernel_rfl, ?_⟩
 refine cB.draw (cK (0) a.a0 b.a4 (by omega) (by omega) (by omega) (by omega) (by omega) (by omega)) Tryz.bB ?_
 simp only[eE,Tryz.vs,Value.oneCell',simprocAttr, -List.reduceReplicate]
 refine cB.draw (cK (0+a.a0*b.a4) a.a1 b.a3 (by omega) (by omega) (by omega) (by omega) (by omega) (by omega)) Tryz.bB ?_
 simp only[eE,Tryz.vs,Value.oneCell',simprocAttr, -List.reduceReplicate]
 refine cB.draw (cK (0+a.a0*b.a4+a.a1*b.a3) a.a2 b.a2 (by omega) (by omega) (by omega) (by omega) (by omega) (by omega)) Tryz.bB ?_
 simp only[eE,Tryz.vs,Value.oneCell',simprocAttr, -List.reduceReplicate]
 refine cB.draw (cK (0+a.a0*b.a4+a.a1*b.a3+a.a2*b.a2) a.a3 b.a1 (by omega) (by omega) (by omega) (by omega) (by omega) (by omega)) Tryz.bB ?_
 simp only[eE,Tryz.vs,Value.oneCell',simprocAttr, -List.reduceReplicate]
 refine cB.draw (cK (0+a.a0*b.a4+a.a1*b.a3+a.a2*b.a2+a.a3*b.a1) a.a4 b.a0 (by omega) (by omega) (by omega) (by omega) (by omega) (by omega)) Tryz.bB ?_
 simp only[eE,Tryz.vs,Value.oneCell',simprocAttr, -List.reduceReplicate]
 have q0:0≤0+a.a0*b.a0+a.a1*(19*b.a4)+a.a2*(19*b.a3)+a.a3*(19*b.a2)+a.a4*(19*b.a1)∧0+a.a0*b.a0+a.a1*(19*b.a4)+a.a2*(19*b.a3)+a.a3*(19*b.a2)+a.a4*(19*b.a1)≤390436384870649408707232269178957:=by omega
 have q1:0≤0+a.a0*b.a1+a.a1*b.a0+a.a2*(19*b.a4)+a.a3*(19*b.a3)+a.a4*(19*b.a2)∧0+a.a0*b.a1+a.a1*b.a0+a.a2*(19*b.a4)+a.a3*(19*b.a3)+a.a4*(19*b.a2)≤299165541654133962515931219241019:=by omega
 have q2:0≤0+a.a0*b.a2+a.a1*b.a1+a.a2*b.a0+a.a3*(19*b.a4)+a.a4*(19*b.a3)∧0+a.a0*b.a2+a.a1*b.a1+a.a2*b.a0+a.a3*(19*b.a4)+a.a4*(19*b.a3)≤207894698437618516324630169303081:=by omega
 have q3:0≤0+a.a0*b.a3+a.a1*b.a2+a.a2*b.a1+a.a3*b.a0+a.a4*(19*b.a4)∧0+a.a0*b.a3+a.a1*b.a2+a.a2*b.a1+a.a3*b.a0+a.a4*(19*b.a4)≤116623855221103070133329119365143:=by omega
 have q4:0≤0+a.a0*b.a4+a.a1*b.a3+a.a2*b.a2+a.a3*b.a1+a.a4*b.a0∧0+a.a0*b.a4+a.a1*b.a3+a.a2*b.a2+a.a3*b.a1+a.a4*b.a0≤25353012004587623942028069427205:=by omega
 clear p00 p01 p02 p03 p04 p10 p11 p12 p13 p14 p20 p21 p22 p23 p24 p30 p31 p32 p33 p34 p40 p41 p42 p43 p44
 generalize hW0:0+a.a0*b.a0+a.a1*(19*b.a4)+a.a2*(19*b.a3)+a.a3*(19*b.a2)+a.a4*(19*b.a1)=W0 at*
 generalize hW1:0+a.a0*b.a1+a.a1*b.a0+a.a2*(19*b.a4)+a.a3*(19*b.a3)+a.a4*(19*b.a2)=W1 at*
 generalize hW2:0+a.a0*b.a2+a.a1*b.a1+a.a2*b.a0+a.a3*(19*b.a4)+a.a4*(19*b.a3)=W2 at*
 generalize hW3:0+a.a0*b.a3+a.a1*b.a2+a.a2*b.a1+a.a3*b.a0+a.a4*(19*b.a4)=W3 at*
 generalize hW4:0+a.a0*b.a4+a.a1*b.a3+a.a2*b.a2+a.a3*b.a1+a.a4*b.a0=W4 at*
 refine ⟨by kernel_rfl, ?_⟩
 refine cB.draw (lE W4 (by omega) (by omega)) Tryz.gi ?_
 simp only[eE,Tryz.vs,Value.oneCell',simprocAttr, -List.reduceReplicate]
 refine cB.draw (lE W0 (by omega) (by omega)) Tryz.gi ?_
 simp only[eE,Tryz.vs,Value.oneCell',simprocAttr, -List.reduceReplicate]
 refine cB.draw (lE W1 (by omega) (by omega)) Tryz.gi ?_
 simp only[eE,Tryz.vs,Value.oneCell',simprocAttr, -List.reduceReplicate]
 refine cB.draw (lE W2 (by omega) (by omega)) Tryz.gi ?_
 simp only[eE,Tryz.vs,Value.oneCell',simprocAttr, -List.reduceReplicate]
 refine cB.draw (lE W3 (by omega) (by omega)) Tryz.gi ?_
 simp only[eE,Tryz.vs,Value.oneCell',simprocAttr, -List.reduceReplicate]
 simp only[hX (W0%18446744073709551616) (by omega) (by omega),hX (W1%18446744073709551616) (by omega) (by omega),hX (W2%18446744073709551616) (by omega) (by omega),hX (W3%18446744073709551616) (by omega) (by omega),hX (W4%18446744073709551616) (by omega) (by omega)]
 rw[au (19*_) (by omega) (by omega),au _ (by omega) (by omega),au _ (by omega) (by omega),au _ (by omega) (by omega),au _ (by omega) (by omega),au _ (by omega) (by omega)]
 refine cB.draw (n6 ⟨W0%18446744073709551616%2251799813685248+19*(W4 / 2251799813685248),W1%18446744073709551616%2251799813685248+W0 / 2251799813685248,
  W2%18446744073709551616%2251799813685248+W1 / 2251799813685248,W3%18446744073709551616%2251799813685248+W2 / 2251799813685248,
  W4%18446744073709551616%2251799813685248+W3 / 2251799813685248⟩ ⟨?_, ?_, ?_, ?_, ?_⟩) Tryz.nI ?_
 iterate 5 (simp only[];omega)
 simp only[F5.l,Tryz.vs,Value.oneCell',simprocAttr, -List.reduceReplicate]
 subst hW0 hW1 hW2 hW3 hW4
 rfl
end Go.Proofs.YtoakenpcooglpaaGreatDoor
namespace Go.Proofs.YtoakenpcooglpaaGreatDoor
open Go.cA
set_option linter.unusedSectionVars false
variable [aX]
def F5.v (f:F5):Int:=f.a0+2251799813685248*f.a1+5070602400912917605986812821504*f.a2+11417981541647679048466287755595961091061972992*f.a3+25711008708143844408671393477458601640355247900524685364822016*f.a4
def PP:Int:=57896044618658097711785492504343953926634992332820282019728792003956564819949
theorem rf (f:F5):(eL f).v=f.v+PP* -(f.a4 / 2251799813685248):=by
 simp only[eL,F5.v,PP]
 omega
theorem Mq (f:F5) (h:f.U) (h0:f.a0 < 2305843009213693952) (h1:f.a1 < 2305843009213693952) (h2:f.a2 < 2305843009213693952) (h3:f.a3 < 2305843009213693952) (h4:f.a4 < 108086391056891904):(eL f).Ok:=by
 obtain ⟨⟨k0,Nk⟩,⟨k1,Nl⟩,⟨k2,Nm⟩,⟨k3,Nn⟩,⟨k4,No⟩⟩:=h
 constructor<;>simp only[eL]<;>constructor<;>omega
theorem ab6 (a b:F5) (ha:a.Ok) (hb:b.Ok):(eL (Mn a b)).Ok:=by
 obtain ⟨⟨h0,BI⟩,⟨h1,h1'⟩,⟨h2,h2'⟩,⟨h3,h3'⟩,⟨h4,h4'⟩⟩:=ha
 obtain ⟨⟨k0,Nk⟩,⟨k1,Nl⟩,⟨k2,Nm⟩,⟨k3,Nn⟩,⟨k4,No⟩⟩:=hb
 constructor<;>simp only[eL,Mn]<;>constructor<;>omega
theorem ab7 (a b:F5) (ha:a.Ok) (hb:b.Ok):(eL (Mp a b)).Ok:=by
 obtain ⟨⟨h0,BI⟩,⟨h1,h1'⟩,⟨h2,h2'⟩,⟨h3,h3'⟩,⟨h4,h4'⟩⟩:=ha
 obtain ⟨⟨k0,Nk⟩,⟨k1,Nl⟩,⟨k2,Nm⟩,⟨k3,Nn⟩,⟨k4,No⟩⟩:=hb
 constructor<;>simp only[eL,Mp]<;>constructor<;>omega
theorem ab8 (a b:F5) (ha:a.Ok) (hb:b.Ok):(0≤(jL a b).a0∧(jL a b).a0≤390436384870649408707232269178957)∧(0≤(jL a b).a1∧(jL a b).a1≤299165541654133962515931219241019)∧
  (0≤(jL a b).a2∧(jL a b).a2≤207894698437618516324630169303081)∧(0≤(jL a b).a3∧(jL a b).a3≤116623855221103070133329119365143)∧(0≤(jL a b).a4∧(jL a b).a4≤25353012004587623942028069427205):=by
 obtain ⟨⟨h0,BI⟩,⟨h1,h1'⟩,⟨h2,h2'⟩,⟨h3,h3'⟩,⟨h4,h4'⟩⟩:=ha
 obtain ⟨⟨k0,Nk⟩,⟨k1,Nl⟩,⟨k2,Nm⟩,⟨k3,Nn⟩,⟨k4,No⟩⟩:=hb
 have p00:=cL h0 BI k0 Nk
 have p14:=cW h1 h1' k4 No
 have p23:=cW h2 h2' k3 Nn
 have p32:=cW h3 h3' k2 Nm
 have p41:=cW h4 h4' k1 Nl
 have p01:=cL h0 BI k1 Nl
 have p10:=cL h1 h1' k0 Nk
 have p24:=cW h2 h2' k4 No
 have p33:=cW h3 h3' k3 Nn
 have p42:=cW h4 h4' k2 Nm
 have p02:=cL h0 BI k2 Nm
 have p11:=cL h1 h1' k1 Nl
 have p20:=cL h2 h2' k0 Nk
 have p34:=cW h3 h3' k4 No
 have p43:=cW h4 h4' k3 Nn
 have p03:=cL h0 BI k3 Nn
 have p12:=cL h1 h1' k2 Nm
 have p21:=cL h2 h2' k1 Nl
 have p30:=cL h3 h3' k0 Nk
 have p44:=cW h4 h4' k4 No
 have p04:=cL h0 BI k4 No
 have p13:=cL h1 h1' k3 Nn
 have p22:=cL h2 h2' k2 Nm
 have p31:=cL h3 h3' k1 Nl
 have p40:=cL h4 h4' k0 Nk
 simp only[jL]
 refine ⟨?_, ?_, ?_, ?_, ?_⟩
 ·clear p01 p10 p24 p33 p42 p02 p11 p20 p34 p43 p03 p12 p21 p30 p44 p04 p13 p22 p31 p40;omega
 ·clear p00 p14 p23 p32 p41 p02 p11 p20 p34 p43 p03 p12 p21 p30 p44 p04 p13 p22 p31 p40;omega
 ·clear p00 p14 p23 p32 p41 p01 p10 p24 p33 p42 p03 p12 p21 p30 p44 p04 p13 p22 p31 p40;omega
 ·clear p00 p14 p23 p32 p41 p01 p10 p24 p33 p42 p02 p11 p20 p34 p43 p04 p13 p22 p31 p40;omega
 ·clear p00 p14 p23 p32 p41 p01 p10 p24 p33 p42 p02 p11 p20 p34 p43 p03 p12 p21 p30 p44;omega
theorem gv (a b:F5) (ha:a.Ok) (hb:b.Ok):(dX a b).Ok:=by
 obtain ⟨⟨h0,BI⟩,⟨h1,h1'⟩,⟨h2,h2'⟩,⟨h3,h3'⟩,⟨h4,h4'⟩⟩:=ab8 a b ha hb
 simp only[dX]
 generalize jL a b=W at*
 refine Mq _ ⟨?_, ?_, ?_, ?_, ?_⟩ ?_ ?_ ?_ ?_ ?_<;>simp only[]<;>omega
theorem agu (a b:F5):(jL a b).v=a.v*b.v+PP* -(a.a1*b.a4+a.a2*b.a3+a.a3*b.a2+a.a4*b.a1+2251799813685248*(a.a2*b.a4+a.a3*b.a3+a.a4*b.a2)+5070602400912917605986812821504*(a.a3*b.a4+a.a4*b.a3)+11417981541647679048466287755595961091061972992*(a.a4*b.a4)):=by
 simp only[jL,F5.v,PP]
 grind
theorem cg {x y q:Int} (h:x=y+PP*q):x%PP=y%PP:=by rw[h,Int.add_mul_emod_self_left]
theorem OV (a b:F5):(dX a b).v%PP=a.v*b.v%PP:=by
 rw[dX,cg (rf _)]
 refine Eq.trans ?_ (cg (agu a b))
 generalize jL a b=W at*
 refine cg (q:= -(W.a4 / 2251799813685248)) ?_
 simp only[F5.v,PP]
 omega
theorem aan (a b:F5):(eL (Mn a b)).v%PP=(a.v+b.v)%PP:=by
 rw[cg (rf _)]
 congr 1
 simp only[Mn,F5.v];omega
theorem aao (a b:F5):(eL (Mp a b)).v%PP=(a.v - b.v)%PP:=by
 rw[cg (rf _)]
 refine cg (q:=2) ?_
 simp only[Mp,F5.v,PP];omega
end Go.Proofs.YtoakenpcooglpaaGreatDoor
namespace Go.Proofs.YtoakenpcooglpaaGreatDoor
set_option maxRecDepth 20000
open Go.cA
set_option linter.unusedSectionVars false
variable [aX]
theorem kB (a:F5) (ha:a.Ok):cB Tryz.prog 120 [Ag a.l] (Ag (dX a a).l):=by
 refine aK Tryz.func120 rfl (by kernel_rfl) (by simp[Tryz.ntmps120]) rfl rfl ?_
 simp only[F5.l,Tryz.results120,Tryz.vs,Value.oneCell',simprocAttr, -List.reduceReplicate]
 refine (ka a a ha ha).aB ?_
 simp only[F5.l,Tryz.vs,Value.oneCell',simprocAttr, -List.reduceReplicate]
def F5.one:F5:=⟨1,0,0,0,0⟩
theorem F5.OW:F5.one.Ok:=by
 constructor<;>simp[F5.one]
def jj (a:F5):Nat→F5
 | 0=>F5.one
 | k+1=>if k=252∨k=250 then dX (jj a k) (jj a k) else dX (dX (jj a k) (jj a k)) a
theorem jt (a:F5) (ha:a.Ok): ∀ k,(jj a k).Ok
 | 0=>F5.OW
 | k+1=>by
  simp only[jj]
  split
  ·exact gv _ _ (jt a ha k) (jt a ha k)
  ·exact gv _ _ (gv _ _ (jt a ha k) (jt a ha k)) ha
theorem Mr (a:F5) (ha:a.Ok):cB Tryz.prog 106 [Ag a.l] (Ag (jj a 255).l):=by
 refine aK Tryz.func106 rfl (by kernel_rfl) (by simp[Tryz.ntmps106]) rfl rfl ?_
 simp only[F5.l,Tryz.results106,Tryz.vs,Value.oneCell',simprocAttr, -List.reduceReplicate]
 refine aG 255 (fun k=>[(1,Ptr 0 0),(2,Ptr 1 0),(3,Ptr 3 0),(4,I .i64 (254 - k))])
  (fun k=>[(0,⟨true,a.l⟩),(1,⟨true,[Sum.inl (Value.int IntKind.u64 0),Sum.inl (Value.int IntKind.u64 0),Sum.inl (Value.int IntKind.u64 0),Sum.inl (Value.int IntKind.u64 0),Sum.inl (Value.int IntKind.u64 0)]⟩),(3,⟨true,(jj a k).l⟩)]) _ ?_ ?_ ?_
 ·simp only[F5.l,jj,F5.one,Tryz.vs,Value.oneCell',simprocAttr, -List.reduceReplicate]
 ·intro k hk
  have ht:((254:Int) - k) - 1=254 - ((k+1:Nat):Int):=by omega
  have hw:IntKind.i64.wrap ((254:Int) - k - 1)=254 - ((k+1:Nat):Int):=by rw[wrap_i64 _ (by omega) (by omega)];omega
  simp only[F5.l,Tryz.vs,Value.oneCell',simprocAttr, -List.reduceReplicate]
  refine aD (by simp;omega) ?_
  simp only[Tryz.vs,Value.oneCell',simprocAttr, -List.reduceReplicate]
  refine (kB (jj a k) (jt a ha k)).aB ?_
  by_cases h2:k=252
  ·have e2:((254:Int) - k != 2)=false:=by subst h2;rfl
   have hs:jj a (k+1)=dX (jj a k) (jj a k):=by rw[jj,if_pos (Or.inl h2)]
   simp only[F5.l,e2,hw,hs,Tryz.vs,Value.oneCell',simprocAttr, -List.reduceReplicate]
  ·have e2:((254:Int) - k != 2)=true:=by simp;omega
   by_cases h4:k=250
   ·have e4:((254:Int) - k != 4)=false:=by subst h4;rfl
    have hs:jj a (k+1)=dX (jj a k) (jj a k):=by rw[jj,if_pos (Or.inr h4)]
    simp only[F5.l,e2,e4,hw,hs,Tryz.vs,Value.oneCell',simprocAttr, -List.reduceReplicate]
   ·have e4:((254:Int) - k != 4)=true:=by simp;omega
    simp only[F5.l,e2,e4,Tryz.vs,Value.oneCell',simprocAttr, -List.reduceReplicate]
    refine (ka _ a (gv _ _ (jt a ha k) (jt a ha k)) ha).aB ?_
    have hs:jj a (k+1)=dX (dX (jj a k) (jj a k)) a:=by rw[jj,if_neg (by omega)]
    simp only[F5.l,hw,hs,Tryz.vs,Value.oneCell',simprocAttr, -List.reduceReplicate]
 ·simp only[F5.l,Tryz.vs,Value.oneCell',simprocAttr, -List.reduceReplicate]
  refine aH (by simp) ?_
  simp only[Tryz.vs,Value.oneCell',simprocAttr, -List.reduceReplicate]
end Go.Proofs.YtoakenpcooglpaaGreatDoor
namespace Go.Proofs.YtoakenpcooglpaaGreatDoor
set_option maxHeartbeats 2000000
set_option maxRecDepth 20000
open Go.cA
set_option linter.unusedSectionVars false
variable [aX]
theorem gQ {α:Type} (x:α):List.replicate 20 x=[x,x,x,x,x,x,x,x,x,x,x,x,x,x,x,x,x,x,x,x]:=rfl
structure R4 where
 x2:F5
 z2:F5
 x3:F5
 z3:F5
def R4.l (r:R4):List SV:=[Sum.inl (.int .u64 r.x2.a0),Sum.inl (.int .u64 r.x2.a1),Sum.inl (.int .u64 r.x2.a2),Sum.inl (.int .u64 r.x2.a3),Sum.inl (.int .u64 r.x2.a4),
 Sum.inl (.int .u64 r.z2.a0),Sum.inl (.int .u64 r.z2.a1),Sum.inl (.int .u64 r.z2.a2),Sum.inl (.int .u64 r.z2.a3),Sum.inl (.int .u64 r.z2.a4),
 Sum.inl (.int .u64 r.x3.a0),Sum.inl (.int .u64 r.x3.a1),Sum.inl (.int .u64 r.x3.a2),Sum.inl (.int .u64 r.x3.a3),Sum.inl (.int .u64 r.x3.a4),
 Sum.inl (.int .u64 r.z3.a0),Sum.inl (.int .u64 r.z3.a1),Sum.inl (.int .u64 r.z3.a2),Sum.inl (.int .u64 r.z3.a3),Sum.inl (.int .u64 r.z3.a4)]
structure R4.Ok (r:R4):Prop where
 x2:r.x2.Ok
 z2:r.z2.Ok
 x3:r.x3.Ok
 z3:r.z3.Ok
def mN (a b:F5):F5:=eL (Mn a b)
def mO (a b:F5):F5:=eL (Mp a b)
theorem wQ (a b:F5) (ha:a.Ok) (hb:b.Ok):cB Tryz.prog 118 [Ag a.l,Ag b.l] (Ag (mN a b).l):=ab4 a b ha hb
theorem wR (a b:F5) (ha:a.Ok) (hb:b.Ok):cB Tryz.prog 119 [Ag a.l,Ag b.l] (Ag (mO a b).l):=ab5 a b ha hb
theorem BJ (a b:F5) (ha:a.Ok) (hb:b.Ok):(mN a b).Ok:=ab6 a b ha hb
theorem BK (a b:F5) (ha:a.Ok) (hb:b.Ok):(mO a b).Ok:=ab7 a b ha hb
def F5.c:F5:=⟨121665,0,0,0,0⟩
theorem F5.agv:F5.c.Ok:=by
 constructor<;>simp[F5.c]
def rh (r:R4) (u:F5):R4:=
 ⟨dX (dX (mN r.x2 r.z2) (mN r.x2 r.z2)) (dX (mO r.x2 r.z2) (mO r.x2 r.z2)),
  dX (mO (dX (mN r.x2 r.z2) (mN r.x2 r.z2)) (dX (mO r.x2 r.z2) (mO r.x2 r.z2)))
  (mN (dX (mN r.x2 r.z2) (mN r.x2 r.z2)) (dX F5.c (mO (dX (mN r.x2 r.z2) (mN r.x2 r.z2)) (dX (mO r.x2 r.z2) (mO r.x2 r.z2))))),
  dX (mN (dX (mO r.x3 r.z3) (mN r.x2 r.z2)) (dX (mN r.x3 r.z3) (mO r.x2 r.z2))) (mN (dX (mO r.x3 r.z3) (mN r.x2 r.z2)) (dX (mN r.x3 r.z3) (mO r.x2 r.z2))),
  dX u (dX (mO (dX (mO r.x3 r.z3) (mN r.x2 r.z2)) (dX (mN r.x3 r.z3) (mO r.x2 r.z2))) (mO (dX (mO r.x3 r.z3) (mN r.x2 r.z2)) (dX (mN r.x3 r.z3) (mO r.x2 r.z2))))⟩
theorem FO (r:R4) (u:F5) (hr:r.Ok) (hu:u.Ok):(rh r u).Ok:=by
 obtain ⟨h1,h2,h3,h4⟩:=hr
 constructor<;>simp only[rh]<;>repeat (first | assumption | exact F5.agv | apply gv | apply BJ | apply BK)
theorem Ms (r:R4) (u:F5) (hr:r.Ok) (hu:u.Ok):cB Tryz.prog 104 [Ag r.l,Ag u.l] (Ag (rh r u).l):=by
 obtain ⟨h1,h2,h3,h4⟩:=hr
 have hA:=BJ _ _ h1 h2
 have hB:=BK _ _ h1 h2
 have hC:=BJ _ _ h3 h4
 have hD:=BK _ _ h3 h4
 have hAA:=gv _ _ hA hA
 have hBB:=gv _ _ hB hB
 have hE:=BK _ _ hAA hBB
 have hDA:=gv _ _ hD hA
 have hCB:=gv _ _ hC hB
 have hcE:=gv _ _ F5.agv hE
 have hs:=BJ _ _ hAA hcE
 have hp:=BJ _ _ hDA hCB
 have hm:=BK _ _ hDA hCB
 have hmm:=gv _ _ hm hm
 simp only[rh]
 refine aK Tryz.func104 rfl (by kernel_rfl) (by simp[Tryz.ntmps104]) rfl rfl ?_
 simp only[F5.l,R4.l,Tryz.results104,gQ,Tryz.vs,Value.oneCell',simprocAttr, -List.reduceReplicate]
 refine ⟨by kernel_rfl, ?_⟩
 refine cB.draw (wQ r.x2 r.z2 h1 h2) Tryz.ib ?_
 generalize mN r.x2 r.z2=A at*
 simp only[F5.l,gQ,Tryz.vs,Value.oneCell',simprocAttr, -List.reduceReplicate]
 refine cB.draw (wR r.x2 r.z2 h1 h2) Tryz.jC ?_
 generalize mO r.x2 r.z2=B at*
 simp only[F5.l,gQ,Tryz.vs,Value.oneCell',simprocAttr, -List.reduceReplicate]
 refine ⟨by kernel_rfl, ?_⟩
 refine cB.draw (wQ r.x3 r.z3 h3 h4) Tryz.ib ?_
 generalize mN r.x3 r.z3=C at*
 simp only[F5.l,gQ,Tryz.vs,Value.oneCell',simprocAttr, -List.reduceReplicate]
 refine cB.draw (wR r.x3 r.z3 h3 h4) Tryz.jC ?_
 generalize mO r.x3 r.z3=D at*
 simp only[F5.l,gQ,Tryz.vs,Value.oneCell',simprocAttr, -List.reduceReplicate]
 refine ⟨by kernel_rfl, ?_⟩
 refine cB.draw (kB A hA) Tryz.ic ?_
 generalize dX A A=AA at*
 simp only[F5.l,gQ,Tryz.vs,Value.oneCell',simprocAttr, -List.reduceReplicate]
 refine cB.draw (kB B hB) Tryz.ic ?_
 generalize dX B B=BB at*
 simp only[F5.l,gQ,Tryz.vs,Value.oneCell',simprocAttr, -List.reduceReplicate]
 refine (wR AA BB hAA hBB).aB ?_
 generalize mO AA BB=E at*
 simp only[F5.l,gQ,Tryz.vs,Value.oneCell',simprocAttr, -List.reduceReplicate]
 refine ⟨by kernel_rfl, ?_⟩
 refine cB.draw (ka D A hD hA) Tryz.fq ?_
 generalize dX D A=DA at*
 simp only[F5.l,gQ,Tryz.vs,Value.oneCell',simprocAttr, -List.reduceReplicate]
 refine cB.draw (ka C B hC hB) Tryz.fq ?_
 generalize dX C B=CB at*
 simp only[F5.l,gQ,Tryz.vs,Value.oneCell',simprocAttr, -List.reduceReplicate]
 refine ⟨by kernel_rfl, ?_⟩
 refine cB.draw (ka AA BB hAA hBB) Tryz.fq ?_
 simp only[F5.l,gQ,Tryz.vs,Value.oneCell',simprocAttr, -List.reduceReplicate]
 refine cB.draw (ka F5.c E F5.agv hE) Tryz.fq ?_
 simp only[F5.l,gQ,Tryz.vs,Value.oneCell',simprocAttr, -List.reduceReplicate]
 refine cB.draw (wQ AA _ hAA hcE) Tryz.ib ?_
 generalize mN AA (dX F5.c E)=S at*
 simp only[F5.l,gQ,Tryz.vs,Value.oneCell',simprocAttr, -List.reduceReplicate]
 refine cB.draw (ka E S hE hs) Tryz.fq ?_
 simp only[F5.l,gQ,Tryz.vs,Value.oneCell',simprocAttr, -List.reduceReplicate]
 refine cB.draw (wQ DA CB hDA hCB) Tryz.ib ?_
 generalize mN DA CB=Q at*
 simp only[F5.l,gQ,Tryz.vs,Value.oneCell',simprocAttr, -List.reduceReplicate]
 refine cB.draw (kB Q hp) Tryz.ic ?_
 simp only[F5.l,gQ,Tryz.vs,Value.oneCell',simprocAttr, -List.reduceReplicate]
 refine cB.draw (wR DA CB hDA hCB) Tryz.jC ?_
 generalize mO DA CB=M at*
 simp only[F5.l,gQ,Tryz.vs,Value.oneCell',simprocAttr, -List.reduceReplicate]
 refine cB.draw (kB M hm) Tryz.ic ?_
 generalize dX M M=MM at*
 simp only[F5.l,gQ,Tryz.vs,Value.oneCell',simprocAttr, -List.reduceReplicate]
 refine cB.draw (ka u MM hu hmm) Tryz.fq ?_
 simp only[F5.l,R4.l,gQ,Tryz.vs,Value.oneCell',simprocAttr, -List.reduceReplicate]
end Go.Proofs.YtoakenpcooglpaaGreatDoor
namespace Go.Proofs.YtoakenpcooglpaaGreatDoor
set_option maxHeartbeats 2000000
set_option maxRecDepth 20000
open Go.cA
set_option linter.unusedSectionVars false
variable [aX]
def sO (s:Bool) (x y:Int):Int:=if s then y else x
def exM (s:Bool):Int:=if s then 18446744073709551615 else 0
theorem ju (s:Bool) {x y:Int} (hx:0≤x∧x < 18446744073709551616) (hy:0≤y∧y < 18446744073709551616):
  aS .xor .u64 x (aS .and .u64 (exM s) (aS .xor .u64 x y))=sO s x y∧aS .xor .u64 y (aS .and .u64 (exM s) (aS .xor .u64 x y))=sO s y x:=by
 obtain ⟨a,rfl⟩:=Int.eq_ofNat_of_zero_le hx.1
 obtain ⟨b,rfl⟩:=Int.eq_ofNat_of_zero_le hy.1
 have ha:a < 18446744073709551616:=by omega
 have hb:b < 18446744073709551616:=by omega
 have hab:a ^^^ b < 18446744073709551616:=Nat.xor_lt_two_pow (n:=64) ha hb
 rw[(fP a b ha hb).2.2]
 cases s
 ·have e:exM false=((0:Nat):Int):=rfl
  rw[e,(fP 0 (a ^^^ b) (by decide) hab).1]
  simp only[Nat.zero_and]
  rw[(fP a 0 ha (by decide)).2.2,(fP b 0 hb (by decide)).2.2]
  simp[sO]
 ·have e:exM true=((18446744073709551615:Nat):Int):=rfl
  rw[e,(fP 18446744073709551615 (a ^^^ b) (by decide) hab).1]
  have h1:18446744073709551615 &&& (a ^^^ b)=a ^^^ b:=by
   have:=Nat.and_two_pow_sub_one_eq_mod (a ^^^ b) 64
   rw[Nat.and_comm]
   rw[show (2:Nat)^64 - 1=18446744073709551615 from rfl]at this
   rw[this];exact Nat.mod_eq_of_lt hab
  rw[h1,(fP a (a ^^^ b) ha hab).2.2,(fP b (a ^^^ b) hb hab).2.2]
  simp only[sO,if_true]
  constructor
  ·rw[← Nat.xor_assoc,Nat.xor_self,Nat.zero_xor]
  ·rw[Nat.xor_comm a b, ← Nat.xor_assoc,Nat.xor_self,Nat.zero_xor]
def fS (i k:Nat) (n o:Int):Int:=if i < k then n else o
def exL (s:Bool) (r:R4) (k:Nat):List SV:=[
 Sum.inl (.int .u64 (fS 0 k (sO s r.x2.a0 r.x3.a0) r.x2.a0)),Sum.inl (.int .u64 (fS 1 k (sO s r.x2.a1 r.x3.a1) r.x2.a1)),Sum.inl (.int .u64 (fS 2 k (sO s r.x2.a2 r.x3.a2) r.x2.a2)),Sum.inl (.int .u64 (fS 3 k (sO s r.x2.a3 r.x3.a3) r.x2.a3)),Sum.inl (.int .u64 (fS 4 k (sO s r.x2.a4 r.x3.a4) r.x2.a4)),
 Sum.inl (.int .u64 (fS 0 k (sO s r.z2.a0 r.z3.a0) r.z2.a0)),Sum.inl (.int .u64 (fS 1 k (sO s r.z2.a1 r.z3.a1) r.z2.a1)),Sum.inl (.int .u64 (fS 2 k (sO s r.z2.a2 r.z3.a2) r.z2.a2)),Sum.inl (.int .u64 (fS 3 k (sO s r.z2.a3 r.z3.a3) r.z2.a3)),Sum.inl (.int .u64 (fS 4 k (sO s r.z2.a4 r.z3.a4) r.z2.a4)),
 Sum.inl (.int .u64 (fS 0 k (sO s r.x3.a0 r.x2.a0) r.x3.a0)),Sum.inl (.int .u64 (fS 1 k (sO s r.x3.a1 r.x2.a1) r.x3.a1)),Sum.inl (.int .u64 (fS 2 k (sO s r.x3.a2 r.x2.a2) r.x3.a2)),Sum.inl (.int .u64 (fS 3 k (sO s r.x3.a3 r.x2.a3) r.x3.a3)),Sum.inl (.int .u64 (fS 4 k (sO s r.x3.a4 r.x2.a4) r.x3.a4)),
 Sum.inl (.int .u64 (fS 0 k (sO s r.z3.a0 r.z2.a0) r.z3.a0)),Sum.inl (.int .u64 (fS 1 k (sO s r.z3.a1 r.z2.a1) r.z3.a1)),Sum.inl (.int .u64 (fS 2 k (sO s r.z3.a2 r.z2.a2) r.z3.a2)),Sum.inl (.int .u64 (fS 3 k (sO s r.z3.a3 r.z2.a3) r.z3.a3)),Sum.inl (.int .u64 (fS 4 k (sO s r.z3.a4 r.z2.a4) r.z3.a4))]
def exF (s:Bool) (r:R4):R4:=if s then ⟨r.x3,r.z3,r.x2,r.z2⟩ else r
theorem aap (s:Bool) (r:R4):exL s r 0=r.l:=rfl
theorem ab' (s:Bool) (r:R4):exL s r 5=(exF s r).l:=by cases s<;>rfl
theorem G4 (s:Bool) (r:R4) (h:r.Ok):(exF s r).Ok:=by
 cases s
 ·exact h
 ·exact ⟨h.x3,h.z3,h.x2,h.z2⟩
theorem F5.Ok.u {f:F5} (h:f.Ok):f.U:=by
 obtain ⟨⟨h0,BI⟩,⟨h1,h1'⟩,⟨h2,h2'⟩,⟨h3,h3'⟩,⟨h4,h4'⟩⟩:=h
 constructor<;>omega
theorem pB (s:Bool) (r:R4) (hr:r.Ok):cB Tryz.prog 103 [I .u64 (sO s 0 1),Ag r.l] (Ag (exF s r).l):=by
 have hn:IntKind.u64.wrap (0 - (sO s 0 1))=exM s:=by cases s<;>decide
 have e0:=ju s hr.x2.u.h0 hr.x3.u.h0
 have e1:=ju s hr.x2.u.h1 hr.x3.u.h1
 have e2:=ju s hr.x2.u.h2 hr.x3.u.h2
 have e3:=ju s hr.x2.u.h3 hr.x3.u.h3
 have e4:=ju s hr.x2.u.h4 hr.x3.u.h4
 have f0:=ju s hr.z2.u.h0 hr.z3.u.h0
 have f1:=ju s hr.z2.u.h1 hr.z3.u.h1
 have f2:=ju s hr.z2.u.h2 hr.z3.u.h2
 have f3:=ju s hr.z2.u.h3 hr.z3.u.h3
 have f4:=ju s hr.z2.u.h4 hr.z3.u.h4
 refine aK Tryz.func103 rfl (by kernel_rfl) (by simp[Tryz.ntmps103]) rfl rfl ?_
 simp only[R4.l,Tryz.results103,gQ,hn,Tryz.vs,Value.oneCell',simprocAttr, -List.reduceReplicate]
 refine aG 5 (fun k=>[(3,Ptr 0 0),(4,Ptr 1 0),(5,I .u64 (exM s)),(11,I .i64 k)])
  (fun k=>[(0,⟨true,exL s r k⟩),(1,⟨true,[Sum.inl (Value.int IntKind.u64 0),Sum.inl (Value.int IntKind.u64 0),Sum.inl (Value.int IntKind.u64 0),Sum.inl (Value.int IntKind.u64 0),Sum.inl (Value.int IntKind.u64 0),Sum.inl (Value.int IntKind.u64 0),Sum.inl (Value.int IntKind.u64 0),Sum.inl (Value.int IntKind.u64 0),Sum.inl (Value.int IntKind.u64 0),Sum.inl (Value.int IntKind.u64 0),Sum.inl (Value.int IntKind.u64 0),Sum.inl (Value.int IntKind.u64 0),Sum.inl (Value.int IntKind.u64 0),Sum.inl (Value.int IntKind.u64 0),Sum.inl (Value.int IntKind.u64 0),Sum.inl (Value.int IntKind.u64 0),Sum.inl (Value.int IntKind.u64 0),Sum.inl (Value.int IntKind.u64 0),Sum.inl (Value.int IntKind.u64 0),Sum.inl (Value.int IntKind.u64 0)]⟩)]) _ ?_ ?_ ?_
 ·simp only[aap,R4.l,hn,Tryz.vs,Value.oneCell',simprocAttr, -List.reduceReplicate]
 ·intro k hk
  match k,hk with
  | 0,_=>
   simp only[exL,fS,Tryz.vs,Value.oneCell',simprocAttr, -List.reduceReplicate]
   refine aD (by decide) ?_
   simp only[Tryz.vs,Value.oneCell',simprocAttr, -List.reduceReplicate]
   refine ⟨by kernel_rfl, ?_⟩
   refine ⟨by kernel_rfl, ?_⟩
   simp only[e0.1,e0.2,f0.1,f0.2,Tryz.vs,Value.oneCell',simprocAttr, -List.reduceReplicate]
   rfl
  | 1,_=>
   simp only[exL,fS,Tryz.vs,Value.oneCell',simprocAttr, -List.reduceReplicate]
   refine aD (by decide) ?_
   simp only[Tryz.vs,Value.oneCell',simprocAttr, -List.reduceReplicate]
   refine ⟨by kernel_rfl, ?_⟩
   refine ⟨by kernel_rfl, ?_⟩
   simp only[e1.1,e1.2,f1.1,f1.2,Tryz.vs,Value.oneCell',simprocAttr, -List.reduceReplicate]
   rfl
  | 2,_=>
   simp only[exL,fS,Tryz.vs,Value.oneCell',simprocAttr, -List.reduceReplicate]
   refine aD (by decide) ?_
   simp only[Tryz.vs,Value.oneCell',simprocAttr, -List.reduceReplicate]
   refine ⟨by kernel_rfl, ?_⟩
   refine ⟨by kernel_rfl, ?_⟩
   simp only[e2.1,e2.2,f2.1,f2.2,Tryz.vs,Value.oneCell',simprocAttr, -List.reduceReplicate]
   rfl
  | 3,_=>
   simp only[exL,fS,Tryz.vs,Value.oneCell',simprocAttr, -List.reduceReplicate]
   refine aD (by decide) ?_
   simp only[Tryz.vs,Value.oneCell',simprocAttr, -List.reduceReplicate]
   refine ⟨by kernel_rfl, ?_⟩
   refine ⟨by kernel_rfl, ?_⟩
   simp only[e3.1,e3.2,f3.1,f3.2,Tryz.vs,Value.oneCell',simprocAttr, -List.reduceReplicate]
   rfl
  | 4,_=>
   simp only[exL,fS,Tryz.vs,Value.oneCell',simprocAttr, -List.reduceReplicate]
   refine aD (by decide) ?_
   simp only[Tryz.vs,Value.oneCell',simprocAttr, -List.reduceReplicate]
   refine ⟨by kernel_rfl, ?_⟩
   refine ⟨by kernel_rfl, ?_⟩
   simp only[e4.1,e4.2,f4.1,f4.2,Tryz.vs,Value.oneCell',simprocAttr, -List.reduceReplicate]
   rfl
 ·simp only[ab',R4.l,Tryz.vs,Value.oneCell',simprocAttr, -List.reduceReplicate]
  refine aH (by decide) ?_
  simp only[Tryz.vs,Value.oneCell',simprocAttr, -List.reduceReplicate]
end Go.Proofs.YtoakenpcooglpaaGreatDoor
namespace Go.Proofs.YtoakenpcooglpaaGreatDoor
set_option maxHeartbeats 2000000
set_option maxRecDepth 20000
open Go.cA
set_option linter.unusedSectionVars false
variable [aX]
def lG (K:Nat→Int) (t:Nat):Bool:=(K (t / 8) / 2^(t%8))%2==1
def F5.zero:F5:=⟨0,0,0,0,0⟩
theorem F5.aca:F5.zero.Ok:=by
 constructor<;>simp[F5.zero]
def oU (K:Nat→Int) (u:F5):Nat→R4
 | 0=>⟨F5.one,F5.zero,u,F5.one⟩
 | k+1=>exF (lG K (254 - k)) (rh (exF (lG K (254 - k)) (oU K u k)) u)
theorem kb (K:Nat→Int) (u:F5) (hu:u.Ok): ∀ k,(oU K u k).Ok
 | 0=>⟨F5.OW,F5.aca,hu,F5.OW⟩
 | k+1=>G4 _ _ (FO _ _ (G4 _ _ (kb K u hu k)) hu)
def By (K:Nat→Int):Prop:= ∀ i,0≤K i∧K i < 256
theorem Cv (t d:Nat) (h:t < 9223372036854775808):IntKind.i64.wrap ((t:Int).tdiv (d:Int))=((t / d:Nat):Int):=by
 have:t / d≤t:=Nat.div_le_self t d
 rw[← Int.ofNat_tdiv]
 generalize t / d=q at*
 rw[wrap_i64 _ (by omega) (by omega)]
theorem Xn (t:Nat) (h:t < 9223372036854775808):IntKind.i64.wrap ((t:Int).tdiv 8)=((t / 8:Nat):Int):=Cv t 8 h
theorem IZ (t:Nat):(t:Int).tmod 8=((t%8:Nat):Int):=(Int.ofNat_tmod t 8).symm
theorem Gs (n:Nat):(0≤(n:Int))=True:=by simp
theorem cf {n m:Nat} (h:n < m):((n:Int) < (m:Int))=True:=by simp[h]
theorem alS (x:Int) (h0:0≤x) (h1:x < 18446744073709551616):aS .and .u64 x 1=x%2:=rL x 1 h0 h1 (by decide)
theorem wh {x:Int} (h:0≤x) (n:Nat):0≤x / 2^n∧x / 2^n≤x:=by
 have hp:(0:Int) < 2^n:=Int.pow_pos (by decide)
 exact ⟨Int.ediv_nonneg h (Int.le_of_lt hp),Int.ediv_le_self _ h⟩
theorem agw (K:Nat→Int) (hK:By K) (t:Nat):aS .and .u64 (IntKind.u64.wrap (cr .u8 (K (t / 8)) ((t%8:Nat):Int))) 1=sO (lG K t) 0 1:=by
 have h:=hK (t / 8)
 rw[dK .u8 _ _ (by simp[IntKind.bits];omega)]
 have hd:=wh h.1 (t%8)
 simp only[sO,lG]
 rw[au _ (by omega) (by omega),alS _ (by omega) (by omega)]
 by_cases he:K (t / 8) / 2^(t%8)%2=1
 ·simp[he]
 ·have:K (t / 8) / 2^(t%8)%2=0:=by omega
  simp[this]
theorem OX (K:Nat→Int) (u:F5) (hK:By K) (hu:u.Ok):cB Tryz.prog 82 [Ag (ae .u8 32 K),Ag u.l] (Ag (dX (oU K u 255).x2 (jj (oU K u 255).z2 255)).l):=by
 refine aK Tryz.func82 rfl (by kernel_rfl) (by simp[Tryz.ntmps82]) rfl rfl ?_
 simp only[F5.l,Tryz.results82,gQ,Tryz.vs,Value.oneCell',simprocAttr, -List.reduceReplicate]
 refine aG 255 (fun k=>[(2,Ptr 0 0),(3,Ptr 1 0),(4,Ptr 2 0),(5,Ptr 7 0),(6,I .i64 (254 - k))])
  (fun k=>[(0,⟨true,ae .u8 32 K⟩),(1,⟨true,u.l⟩),(2,⟨true,[Sum.inl (Value.int IntKind.u64 0),Sum.inl (Value.int IntKind.u64 0),Sum.inl (Value.int IntKind.u64 0),Sum.inl (Value.int IntKind.u64 0),Sum.inl (Value.int IntKind.u64 0)]⟩),(7,⟨true,(oU K u k).l⟩)]) _ ?_ ?_ ?_
 ·simp only[F5.l,R4.l,oU,F5.one,F5.zero,bV,Tryz.vs,Value.oneCell',simprocAttr, -List.reduceReplicate]
 ·intro k hk
  obtain ⟨t,ht⟩: ∃ t:Nat,(254:Int) - k=t:=⟨254 - k,by omega⟩
  have ht':t < 255:=by omega
  have hw:IntKind.i64.wrap ((t:Int) - 1)=254 - ((k+1:Nat):Int):=by rw[wrap_i64 _ (by omega) (by omega)];omega
  simp only[F5.l,ht,Tryz.vs,Value.oneCell',simprocAttr, -List.reduceReplicate]
  refine aD (by simp) ?_
  have hg:=ay .u8 32 K (t / 8) (by omega)
  have hb:=agw K hK t
  have hq:=Xn t (by omega)
  have hlt:(((t / 8:Nat):Int) < 32)=True:=cf (m:=32) (by omega)
  simp only[hq,IZ,hg,hb,hlt,Gs,Int.toNat_natCast,R4.l,F5.l,Tryz.vs,Value.oneCell',simprocAttr, -List.reduceReplicate]
  refine ⟨by kernel_rfl, ?_⟩
  refine cB.draw (pB (lG K t) (oU K u k) (kb K u hu k)) Tryz.kQ ?_
  simp only[R4.l,F5.l,Tryz.vs,Value.oneCell',simprocAttr, -List.reduceReplicate]
  refine cB.draw (Ms _ u (G4 _ _ (kb K u hu k)) hu) Tryz.ny ?_
  simp only[R4.l,F5.l,Tryz.vs,Value.oneCell',simprocAttr, -List.reduceReplicate]
  refine cB.draw (pB (lG K t) _ (FO _ _ (G4 _ _ (kb K u hu k)) hu)) Tryz.kQ ?_
  have hs:oU K u (k+1)=exF (lG K t) (rh (exF (lG K t) (oU K u k)) u):=by rw[oU,show 254 - k=t from by omega]
  simp only[R4.l,F5.l,hs,hw,Tryz.vs,Value.oneCell',simprocAttr, -List.reduceReplicate]
 ·simp only[F5.l,Tryz.vs,Value.oneCell',simprocAttr, -List.reduceReplicate]
  refine aH (by simp) ?_
  simp only[F5.l,R4.l,Tryz.vs,Value.oneCell',simprocAttr, -List.reduceReplicate]
  refine ⟨by kernel_rfl, ?_⟩
  refine cB.draw (Mr (oU K u 255).z2 (kb K u hu 255).z2) Tryz.nz ?_
  simp only[F5.l,Tryz.vs,Value.oneCell',simprocAttr, -List.reduceReplicate]
  refine cB.draw (ka (oU K u 255).x2 (jj (oU K u 255).z2 255) (kb K u hu 255).x2 (jt _ (kb K u hu 255).z2 255)) Tryz.fq ?_
  simp only[F5.l,Tryz.vs,Value.oneCell',simprocAttr, -List.reduceReplicate]
end Go.Proofs.YtoakenpcooglpaaGreatDoor
namespace Go.Proofs.YtoakenpcooglpaaGreatDoor
open Go.cA
set_option linter.unusedSectionVars false
variable [aX]
def gD (K:Nat→Int) (i:Nat):Int:=if i=0 then K 0 - K 0%8 else if i=31 then K 31%64+64 else K i
theorem V2:((List.range 256).all fun n=>aS .andNot .u8 (n:Int) 7==(n:Int) - n%8)=true:=by kernel_rfl
theorem OY:((List.range 256).all fun n=>aS .or .u8 (aS .andNot .u8 (n:Int) 128) 64==(n:Int)%64+64)=true:=by kernel_rfl
theorem FP (K:Nat→Int) (hK:By K):By (gD K):=by
 intro i
 have h0:=hK 0
 have h1:=hK 31
 have h2:=hK i
 simp only[gD]
 split
 ·omega
 ·split<;>omega
theorem ov (n:Nat) (k:IntKind) (c:Int):(List.replicate n (Value.int k c)).all Value.oneCell'=true:=by
 rw[List.all_eq_true];intro x hx;rw[List.eq_of_mem_replicate hx];rfl
theorem aF (n:Nat) (k:IntKind) (c:Int):List.map Sum.inl (List.replicate n (Value.int k c))=ae k n (fun _=>c):=by
 rw[ae,List.map_replicate]
 apply List.ext_getElem?
 intro i
 simp[List.getElem?_replicate]
 split
 ·rename_i h;rw[List.getElem?_range h];rfl
 ·rename_i h;rw[List.getElem?_eq_none (by simp;omega)];rfl
theorem dP (k:IntKind) (n:Nat) (f g:Nat→Int):splice (ae k n f) 0 (ae k n g)=ae k n g:=by
 rw[splice];simp[ah]
theorem hY (k:IntKind) (n:Nat) (f:Nat→Int):List.take n (ae k n f)=ae k n f:=List.take_of_length_le (by rw[ah];exact Nat.le_refl n)
theorem xU {k:IntKind} {n:Nat} {f g:Nat→Int} (h: ∀ i,i < n→f i=g i):Ag (ae k n f)=Ag (ae k n g):=by rw[aV h]
theorem Mt (K:Nat→Int) (hK:By K):cB Tryz.prog 83 [Ag (ae .u8 32 K)] (Ag (ae .u8 32 (gD K))):=by
 refine aK Tryz.func83 rfl (by kernel_rfl) (by simp[Tryz.ntmps83]) rfl rfl ?_
 simp only[Tryz.results83,ay .u8 32 _ 0 (by omega),ay .u8 32 _ 31 (by omega),aA .u8 32 _ 0 (by omega),aA .u8 32 _ 31 (by omega),Tryz.vr,Value.oneCell',simprocAttr, -List.reduceReplicate]
 have agx:aS .andNot .u8 (K 0) 7=K 0 - K 0%8:=by
  obtain ⟨n,hn⟩:=Int.eq_ofNat_of_zero_le (hK 0).1
  have:=List.all_eq_true.mp V2 n (List.mem_range.mpr (by have:=(hK 0).2;omega))
  rw[hn];exact eq_of_beq this
 have ajE:aS .or .u8 (aS .andNot .u8 (K 31) 128) 64=K 31%64+64:=by
  obtain ⟨n,hn⟩:=Int.eq_ofNat_of_zero_le (hK 31).1
  have:=List.all_eq_true.mp OY n (List.mem_range.mpr (by have:=(hK 31).2;omega))
  rw[hn];exact eq_of_beq this
 rw[agx,ajE]
 refine xU fun i _=> ?_
 simp only[gD,upd]
 by_cases h0:i=0
 ·subst h0;simp
 ·by_cases h1:i=31
  ·subst h1;simp
  ·simp[h0,h1]
def mX (K:Nat→Int):Nat→Nat→Int
 | 0=>fun _=>0
 | n+1=>upd (mX K n) (n / 8) (mX K n (n / 8)+K n*2^(n%8*8))
theorem mA (K:Nat→Int) (hK:By K): ∀ n,(∀ j,0≤mX K n j∧(n / 8 < j→mX K n j=0)∧mX K n j < 18446744073709551616)∧mX K n (n / 8) < 2^(n%8*8)
 | 0=>by simp[mX]
 | n+1=>by
  obtain ⟨h1,h2⟩:=mA K hK n
  have hk:=hK n
  have hb:K n*2^(n%8*8)≤255*2^(n%8*8):=Int.mul_le_mul_of_nonneg_right (by omega) (Int.le_of_lt (Int.pow_pos (by decide)))
  have hb0:0≤K n*2^(n%8*8):=Int.mul_nonneg hk.1 (Int.le_of_lt (Int.pow_pos (by decide)))
  have h3:=h1 (n / 8)
  have hm:n%8 < 8:=Nat.mod_lt _ (by decide)
  have hlt:mX K n (n / 8)+K n*2^(n%8*8) < 256*2^(n%8*8):=by omega
  have hle:(256:Int)*2^(n%8*8)≤18446744073709551616:=by
   generalize n%8=m at*
   match m,hm with
   | 0,_ | 1,_ | 2,_ | 3,_ | 4,_ | 5,_ | 6,_ | 7,_=>decide
  refine ⟨fun j=> ?_, ?_⟩
  ·have hj:=h1 j
   simp only[mX,upd]
   split
   ·refine ⟨by omega,fun hc=> ?_,by omega⟩
    omega
   ·exact ⟨hj.1,fun hc=>hj.2.1 (by omega),hj.2.2⟩
  ·simp only[mX,upd]
   by_cases h7:n%8=7
   ·rw[if_neg (by omega)]
    have:=(h1 ((n+1) / 8)).2.1 (by omega)
    rw[this,show (n+1)%8=0 from by omega];decide
   ·rw[show (n+1) / 8=n / 8 from by omega,if_pos rfl,show (n+1)%8*8=n%8*8+8 from by omega,Int.pow_add]
    omega
end Go.Proofs.YtoakenpcooglpaaGreatDoor
namespace Go.Proofs.YtoakenpcooglpaaGreatDoor
set_option maxHeartbeats 2000000
set_option maxRecDepth 20000
open Go.cA
set_option linter.unusedSectionVars false
variable [aX]
def kC (W:Nat→Int):F5:=⟨W 0%2251799813685248,W 1%274877906944*8192+W 0 / 2251799813685248,W 2%33554432*67108864+W 1 / 274877906944,W 3%4096*549755813888+W 2 / 33554432,W 3 / 4096%2251799813685248⟩
theorem FQ (W:Nat→Int) (h: ∀ j,0≤W j∧W j < 18446744073709551616):(kC W).Ok:=by
 have h0:=h 0
 have h1:=h 1
 have h2:=h 2
 have h3:=h 3
 constructor<;>simp only[kC]<;>constructor<;>omega
theorem V3 (x y:Int) (hx:0≤x) (hx':x < 18446744073709551616) (hy:0≤y) (hy':y < 18446744073709551616):aS .or .u64 x y=aS .or .u64 y x:=by
 obtain ⟨a,rfl⟩:=Int.eq_ofNat_of_zero_le hx
 obtain ⟨b,rfl⟩:=Int.eq_ofNat_of_zero_le hy
 rw[(fP a b (by omega) (by omega)).2.1,(fP b a (by omega) (by omega)).2.1,Nat.or_comm]
theorem G5 (a b:Int) (n:Nat) (hn:n < 64) (ha:0≤a) (ha':a < 2^n) (hb:0≤b) (hb':b*2^n < 18446744073709551616):aS .or .u64 a (b*2^n)=a+b*2^n:=by
 have hp:(0:Int) < 2^n:=Int.pow_pos (by decide)
 have hm:(2:Int)^n≤18446744073709551616:=by
  have:2^n≤2^64:=Nat.pow_le_pow_right (by decide) (Nat.le_of_lt hn)
  have e:(2:Int)^n=((2^n:Nat):Int):=by simp
  omega
 have h0:0≤b*2^n:=Int.mul_nonneg hb (Int.le_of_lt hp)
 rw[V3 _ _ ha (by omega) h0 hb',Xm b a n hn hb hb' ha ha',Int.add_comm]
theorem join (a b:Int) (n m:Nat) (h:n+m=64) (hn:n < 64) (N M:Int) (hN:(2:Int)^n=N) (hM:(2:Int)^m=M) (ha:0≤a) (ha':a < 18446744073709551616) (hb:0≤b) (hb':b < 18446744073709551616):
  aS .or .u64 (a / M) (b*N%18446744073709551616)=b%M*N+a / M:=by
 have hNM:N*M=18446744073709551616:=by rw[← hN, ← hM, ← Int.pow_add,h];rfl
 have hM0:0 < M:=by rw[← hM];exact Int.pow_pos (by decide)
 have hN0:0 < N:=by rw[← hN];exact Int.pow_pos (by decide)
 have e:b*N%18446744073709551616=b%M*N:=by rw[← hNM,Int.mul_comm b N,Int.mul_emod_mul_of_pos _ _ hN0,Int.mul_comm]
 have hbm:=Int.emod_nonneg b (Int.ne_of_gt hM0)
 have hbl:=Int.emod_lt_of_pos b hM0
 have hle:b%M*N < 18446744073709551616:=by rw[← hNM,Int.mul_comm N M];exact Int.mul_lt_mul_of_pos_right hbl hN0
 have hd:a / M < N:=Int.ediv_lt_of_lt_mul hM0 (by rw[hNM];exact ha')
 rw[e, ← hN,G5 (a / M) (b%M) n hn (Int.ediv_nonneg ha (Int.le_of_lt hM0)) (by rw[hN];exact hd) hbm (by rw[hN];exact hle),Int.add_comm]
theorem wi (x:Int) (n:Nat) (h:n≤64):cr .u64 x (n:Int)=x / 2^n:=dK .u64 x n h
theorem wj (x:Int) (n:Nat) (h:n≤64):gT .u64 x (n:Int)=x*2^n%18446744073709551616:=(lY .u64 x n h).trans (wrap_u64 _)
theorem Xo (n:Nat) (h:n < 9223372036854775808):IntKind.i64.wrap ((n:Int))=(n:Int):=wrap_i64 _ (by omega) (by omega)
theorem bD (n:Nat) (h:n < 9223372036854775807):IntKind.i64.wrap ((n:Int)+1)=((n+1:Nat):Int):=wrap_i64 _ (by omega) (by omega)
theorem Mu (K:Nat→Int) (hK:By K):cB Tryz.prog 84 [Ag (ae .u8 32 K)] (Ag (kC (mX K 32)).l):=by
 refine aK Tryz.func84 rfl (by kernel_rfl) (by simp[Tryz.ntmps84]) rfl rfl ?_
 simp only[Tryz.results84,Tryz.vr,Value.oneCell',simprocAttr, -List.reduceReplicate]
 refine aG 32 (fun k=>[(2,Ptr 1 0),(3,Ptr 2 0),(6,Ag (ae .u8 32 K)),(7,I .i64 k)])
  (fun k=>[(1,⟨true,[Sum.inl (Value.int IntKind.u64 0),Sum.inl (Value.int IntKind.u64 0),Sum.inl (Value.int IntKind.u64 0),Sum.inl (Value.int IntKind.u64 0),Sum.inl (Value.int IntKind.u64 0)]⟩),(2,⟨true,ae .u64 4 (mX K k)⟩)]) _ ?_ ?_ ?_
 ·simp only[bV,mX,Tryz.vr,Value.oneCell',simprocAttr, -List.reduceReplicate]
  rfl
 ·intro k hk
  have hkk:=hK k
  have hb:=mA K hK k
  have ux:=mA K hK (k+1)
  have hm:k%8 < 8:=Nat.mod_lt _ (by decide)
  have hq:=Xn k (by omega)
  have hmul:IntKind.i64.wrap (((k%8:Nat):Int)*8)=((k%8*8:Nat):Int):=by rw[wrap_i64 _ (by omega) (by omega)];omega
  have hu:IntKind.u64.wrap (K k)=K k:=au _ (by omega) (by omega)
  have hv:K k*2^(k%8*8) < 18446744073709551616∧0≤K k*2^(k%8*8):=by
   have h:=(ux.1 (k / 8)).2.2
   have h':=(hb.1 (k / 8)).1
   have hb0:0≤K k*2^(k%8*8):=Int.mul_nonneg hkk.1 (Int.le_of_lt (Int.pow_pos (by decide)))
   simp only[mX,upd,if_true]at h
   omega
  have hsh:gT .u64 (K k) ((k%8*8:Nat):Int)=K k*2^(k%8*8):=by
   rw[wj _ _ (by omega)];omega
  have hor:=G5 (mX K k (k / 8)) (K k) (k%8*8) (by omega) (hb.1 (k / 8)).1 hb.2 hkk.1 hv.1
  have hl4:(((k / 8:Nat):Int) < 4)=True:=cf (m:=4) (by omega)
  have G6:((k:Int) < 32)=True:=cf (m:=32) hk
  simp only[Tryz.vr,Value.oneCell',simprocAttr, -List.reduceReplicate]
  refine aD (by simp;omega) ?_
  simp only[G6,ay .u8 32 K k hk,hq,IZ,hmul,hu,hsh,hl4,ay .u64 4 _ (k / 8) (by omega),aA .u64 4 _ (k / 8) (by omega),hor,bD k (by omega),Tryz.vr,Value.oneCell',simprocAttr, -List.reduceReplicate]
  exact ⟨by kernel_rfl,by omega,rfl⟩
 ·simp only[Tryz.vr,Value.oneCell',simprocAttr, -List.reduceReplicate]
  refine aH (by decide) ?_
  have hb:=(mA K hK 32).1
  generalize mX K 32=W at*
  have h0:=hb 0
  have h1:=hb 1
  have h2:=hb 2
  have h3:=hb 3
  have j1:=join (W 0) (W 1) 13 51 rfl (by decide) 8192 2251799813685248 rfl rfl h0.1 h0.2.2 h1.1 h1.2.2
  have j2:=join (W 1) (W 2) 26 38 rfl (by decide) 67108864 274877906944 rfl rfl h1.1 h1.2.2 h2.1 h2.2.2
  have j3:=join (W 2) (W 3) 39 25 rfl (by decide) 549755813888 33554432 rfl rfl h2.1 h2.2.2 h3.1 h3.2.2
  simp only[ay .u64 4 _ 0 (by omega),ay .u64 4 _ 1 (by omega),ay .u64 4 _ 2 (by omega),ay .u64 4 _ 3 (by omega),ah,Tryz.vs,Value.oneCell',simprocAttr, -List.reduceReplicate]
  rw[show gT .u64 (W 1) 13=W 1*8192%18446744073709551616 from wj _ 13 (by decide),show gT .u64 (W 2) 26=W 2*67108864%18446744073709551616 from wj _ 26 (by decide),show gT .u64 (W 3) 39=W 3*549755813888%18446744073709551616 from wj _ 39 (by decide),
   show cr .u64 (W 0) 51=W 0 / 2251799813685248 from wi _ 51 (by decide),show cr .u64 (W 1) 38=W 1 / 274877906944 from wi _ 38 (by decide),show cr .u64 (W 2) 25=W 2 / 33554432 from wi _ 25 (by decide),show cr .u64 (W 3) 12=W 3 / 4096 from wi _ 12 (by decide),j1,j2,j3,
   hX _ h0.1 h0.2.2,hX _ (by omega) (by omega),hX _ (by omega) (by omega),hX _ (by omega) (by omega),hX _ (by omega) (by omega)]
  rw[show (W 1%2251799813685248*8192+W 0 / 2251799813685248)%2251799813685248=W 1%274877906944*8192+W 0 / 2251799813685248 from by omega,
   show (W 2%274877906944*67108864+W 1 / 274877906944)%2251799813685248=W 2%33554432*67108864+W 1 / 274877906944 from by omega,
   show (W 3%33554432*549755813888+W 2 / 33554432)%2251799813685248=W 3%4096*549755813888+W 2 / 33554432 from by omega]
  rfl
end Go.Proofs.YtoakenpcooglpaaGreatDoor
namespace Go.Proofs.YtoakenpcooglpaaGreatDoor
set_option maxHeartbeats 2000000
set_option maxRecDepth 20000
open Go.cA
set_option linter.unusedSectionVars false
variable [aX]
def F5.at (f:F5):Nat→Int
 | 0=>f.a0
 | 1=>f.a1
 | 2=>f.a2
 | 3=>f.a3
 | _=>f.a4
def oV (f:F5):Nat→Int
 | 0=>19
 | k+1=>(f.at k+oV f k) / 2251799813685248
def n7 (f:F5):Nat→Int
 | 0=>19*oV f 5
 | k+1=>(f.at k+n7 f k) / 2251799813685248
theorem ajG (f:F5):oV f 1=(f.a0+19) / 2251799813685248:=rfl
theorem ajH (f:F5):oV f 2=(f.a1+oV f 1) / 2251799813685248:=rfl
theorem ajI (f:F5):oV f 3=(f.a2+oV f 2) / 2251799813685248:=rfl
theorem ajJ (f:F5):oV f 4=(f.a3+oV f 3) / 2251799813685248:=rfl
theorem ajK (f:F5):oV f 5=(f.a4+oV f 4) / 2251799813685248:=rfl
theorem ajL (f:F5):n7 f 0=19*oV f 5:=rfl
theorem ajM (f:F5):n7 f 1=(f.a0+n7 f 0) / 2251799813685248:=rfl
theorem ajN (f:F5):n7 f 2=(f.a1+n7 f 1) / 2251799813685248:=rfl
theorem ajO (f:F5):n7 f 3=(f.a2+n7 f 2) / 2251799813685248:=rfl
theorem ajP (f:F5):n7 f 4=(f.a3+n7 f 3) / 2251799813685248:=rfl
theorem alW (f:F5):n7 f 5=(f.a4+n7 f 4) / 2251799813685248:=rfl
def kI (f:F5):F5:=⟨(f.a0+n7 f 0)%2251799813685248,(f.a1+n7 f 1)%2251799813685248,(f.a2+n7 f 2)%2251799813685248,(f.a3+n7 f 3)%2251799813685248,(f.a4+n7 f 4)%2251799813685248⟩
def Mv (f:F5) (k:Nat):List SV:=[Sum.inl (.int .u64 (fS 0 k (kI f).a0 f.a0)),Sum.inl (.int .u64 (fS 1 k (kI f).a1 f.a1)),Sum.inl (.int .u64 (fS 2 k (kI f).a2 f.a2)),Sum.inl (.int .u64 (fS 3 k (kI f).a3 f.a3)),Sum.inl (.int .u64 (fS 4 k (kI f).a4 f.a4))]
theorem acb (f:F5) (h:f.Ok):(oV f 5=0∧f.v < PP)∨(oV f 5=1∧PP≤f.v):=by
 obtain ⟨⟨h0,BI⟩,⟨h1,h1'⟩,⟨h2,h2'⟩,⟨h3,h3'⟩,⟨h4,h4'⟩⟩:=h
 have e1:=ajG f
 have e2:=ajH f
 have e3:=ajI f
 have e4:=ajJ f
 have e5:=ajK f
 generalize oV f 1=o1 at*
 generalize oV f 2=o2 at*
 generalize oV f 3=o3 at*
 generalize oV f 4=o4 at*
 generalize oV f 5=o5 at*
 simp only[F5.v,PP]
 have:o5=0∨o5=1:=by omega
 rcases this with rfl | rfl
 ·left;refine ⟨rfl, ?_⟩;omega
 ·right;refine ⟨rfl, ?_⟩;omega
theorem Mw (f:F5) (h:f.Ok):(kI f).v=f.v%PP∧(0≤(kI f).a0∧(kI f).a0 < 2251799813685248)∧(0≤(kI f).a1∧(kI f).a1 < 2251799813685248)∧(0≤(kI f).a2∧(kI f).a2 < 2251799813685248)∧(0≤(kI f).a3∧(kI f).a3 < 2251799813685248)∧(0≤(kI f).a4∧(kI f).a4 < 2251799813685248):=by
 obtain ⟨⟨h0,BI⟩,⟨h1,h1'⟩,⟨h2,h2'⟩,⟨h3,h3'⟩,⟨h4,h4'⟩⟩:=h
 refine ⟨?_, ?_⟩
 ·have ho:=acb f ⟨⟨h0,BI⟩,⟨h1,h1'⟩,⟨h2,h2'⟩,⟨h3,h3'⟩,⟨h4,h4'⟩⟩
  have e0:=ajL f
  have e1:=ajM f
  have e2:=ajN f
  have e3:=ajO f
  have e4:=ajP f
  have e5:=alW f
  simp only[kI]
  generalize n7 f 0=c0 at*
  generalize n7 f 1=c1 at*
  generalize n7 f 2=c2 at*
  generalize n7 f 3=c3 at*
  generalize n7 f 4=c4 at*
  generalize n7 f 5=c5 at*
  generalize oV f 5=o at*
  simp only[F5.v,PP]at*
  rcases ho with ⟨rfl,hv⟩ | ⟨rfl,hv⟩
  ·have:c5=0:=by omega
   omega
  ·have:c5=1:=by omega
   omega
 ·simp only[kI]
  omega
theorem Mx (f:F5) (h:f.Ok):cB Tryz.prog 102 [Ag f.l] (Ag (kI f).l):=by
 obtain ⟨⟨h0,BI⟩,⟨h1,h1'⟩,⟨h2,h2'⟩,⟨h3,h3'⟩,⟨h4,h4'⟩⟩:=h
 have o1:0≤oV f 1∧oV f 1≤1:=by rw[ajG];omega
 have o2:0≤oV f 2∧oV f 2≤1:=by rw[ajH];omega
 have o3:0≤oV f 3∧oV f 3≤1:=by rw[ajI];omega
 have o4:0≤oV f 4∧oV f 4≤1:=by rw[ajJ];omega
 have o0:oV f 0=19:=rfl
 refine aK Tryz.func102 rfl (by kernel_rfl) (by simp[Tryz.ntmps102]) rfl rfl ?_
 simp only[F5.l,Tryz.results102,Tryz.vs,Value.oneCell',simprocAttr, -List.reduceReplicate]
 refine aG 5 (fun k=>[(1,Ptr 0 0),(2,Ptr 1 0),(3,I .u64 (oV f k)),(8,Ag f.l),(9,I .i64 k)])
  (fun _=>[(0,⟨true,f.l⟩),(1,⟨true,[Sum.inl (Value.int IntKind.u64 0),Sum.inl (Value.int IntKind.u64 0),Sum.inl (Value.int IntKind.u64 0),Sum.inl (Value.int IntKind.u64 0),Sum.inl (Value.int IntKind.u64 0)]⟩)]) _ ?_ ?_ ?_
 ·simp only[F5.l,Tryz.vs,Value.oneCell',simprocAttr, -List.reduceReplicate]
  rfl
 ·intro k hk
  match k,hk with
  | 0,_=>
   simp only[F5.l,Tryz.vs,Value.oneCell',simprocAttr, -List.reduceReplicate]
   refine aD (by decide) ?_
   simp only[mJ,Tryz.vs,Value.oneCell',simprocAttr, -List.reduceReplicate]
   rw[au _ (by omega) (by omega)]
   exact ⟨rfl,rfl⟩
  | 1,_=>
   simp only[F5.l,Tryz.vs,Value.oneCell',simprocAttr, -List.reduceReplicate]
   refine aD (by decide) ?_
   simp only[mJ,Tryz.vs,Value.oneCell',simprocAttr, -List.reduceReplicate]
   rw[au _ (by omega) (by omega)]
   exact ⟨rfl,rfl⟩
  | 2,_=>
   simp only[F5.l,Tryz.vs,Value.oneCell',simprocAttr, -List.reduceReplicate]
   refine aD (by decide) ?_
   simp only[mJ,Tryz.vs,Value.oneCell',simprocAttr, -List.reduceReplicate]
   rw[au _ (by omega) (by omega)]
   exact ⟨rfl,rfl⟩
  | 3,_=>
   simp only[F5.l,Tryz.vs,Value.oneCell',simprocAttr, -List.reduceReplicate]
   refine aD (by decide) ?_
   simp only[mJ,Tryz.vs,Value.oneCell',simprocAttr, -List.reduceReplicate]
   rw[au _ (by omega) (by omega)]
   exact ⟨rfl,rfl⟩
  | 4,_=>
   simp only[F5.l,Tryz.vs,Value.oneCell',simprocAttr, -List.reduceReplicate]
   refine aD (by decide) ?_
   simp only[mJ,Tryz.vs,Value.oneCell',simprocAttr, -List.reduceReplicate]
   rw[au _ (by omega) (by omega)]
   exact ⟨rfl,rfl⟩
 ·simp only[F5.l,Tryz.vs,Value.oneCell',simprocAttr, -List.reduceReplicate]
  refine aH (by decide) ?_
  have ho:0≤oV f 5∧oV f 5≤1:=by rw[ajK];omega
  have hc:IntKind.u64.wrap (19*oV f 5)=n7 f 0:=by rw[au _ (by omega) (by omega)];rfl
  simp only[hc,Tryz.vs,Value.oneCell',simprocAttr, -List.reduceReplicate]
  have c0:0≤n7 f 0∧n7 f 0≤19:=by rw[ajL];omega
  have c1:0≤n7 f 1∧n7 f 1≤1:=by rw[ajM];omega
  have c2:0≤n7 f 2∧n7 f 2≤1:=by rw[ajN];omega
  have c3:0≤n7 f 3∧n7 f 3≤1:=by rw[ajO];omega
  have c4:0≤n7 f 4∧n7 f 4≤1:=by rw[ajP];omega
  refine aG 5 (fun k=>[(1,Ptr 0 0),(2,Ptr 1 0),(6,I .u64 (n7 f k)),(19,I .i64 k)])
   (fun k=>[(0,⟨true,Mv f k⟩),(1,⟨true,[Sum.inl (Value.int IntKind.u64 0),Sum.inl (Value.int IntKind.u64 0),Sum.inl (Value.int IntKind.u64 0),Sum.inl (Value.int IntKind.u64 0),Sum.inl (Value.int IntKind.u64 0)]⟩)]) _ ?_ ?_ ?_
  ·simp only[Mv,fS,Tryz.vs,Value.oneCell',simprocAttr, -List.reduceReplicate]
  ·intro k hk
   match k,hk with
   | 0,_=>
    simp only[Mv,fS,Tryz.vs,Value.oneCell',simprocAttr, -List.reduceReplicate]
    refine aD (by decide) ?_
    simp only[mJ,Tryz.vs,Value.oneCell',simprocAttr, -List.reduceReplicate]
    rw[au (f.a0+_) (by omega) (by omega),hX _ (by omega) (by omega)]
    exact ⟨⟨rfl,rfl⟩,rfl⟩
   | 1,_=>
    simp only[Mv,fS,Tryz.vs,Value.oneCell',simprocAttr, -List.reduceReplicate]
    refine aD (by decide) ?_
    simp only[mJ,Tryz.vs,Value.oneCell',simprocAttr, -List.reduceReplicate]
    rw[au (f.a1+_) (by omega) (by omega),hX _ (by omega) (by omega)]
    exact ⟨⟨rfl,rfl⟩,rfl⟩
   | 2,_=>
    simp only[Mv,fS,Tryz.vs,Value.oneCell',simprocAttr, -List.reduceReplicate]
    refine aD (by decide) ?_
    simp only[mJ,Tryz.vs,Value.oneCell',simprocAttr, -List.reduceReplicate]
    rw[au (f.a2+_) (by omega) (by omega),hX _ (by omega) (by omega)]
    exact ⟨⟨rfl,rfl⟩,rfl⟩
   | 3,_=>
    simp only[Mv,fS,Tryz.vs,Value.oneCell',simprocAttr, -List.reduceReplicate]
    refine aD (by decide) ?_
    simp only[mJ,Tryz.vs,Value.oneCell',simprocAttr, -List.reduceReplicate]
    rw[au (f.a3+_) (by omega) (by omega),hX _ (by omega) (by omega)]
    exact ⟨⟨rfl,rfl⟩,rfl⟩
   | 4,_=>
    simp only[Mv,fS,Tryz.vs,Value.oneCell',simprocAttr, -List.reduceReplicate]
    refine aD (by decide) ?_
    simp only[mJ,Tryz.vs,Value.oneCell',simprocAttr, -List.reduceReplicate]
    rw[au (f.a4+_) (by omega) (by omega),hX _ (by omega) (by omega)]
    exact ⟨⟨rfl,rfl⟩,rfl⟩
  ·simp only[Mv,fS,Tryz.vs,Value.oneCell',simprocAttr, -List.reduceReplicate]
   refine aH (by decide) ?_
   simp only[F5.l,Tryz.vs,Value.oneCell',simprocAttr, -List.reduceReplicate]
end Go.Proofs.YtoakenpcooglpaaGreatDoor
namespace Go.Proofs.YtoakenpcooglpaaGreatDoor
set_option maxHeartbeats 2000000
set_option maxRecDepth 20000
open Go.cA
set_option linter.unusedSectionVars false
variable [aX]
def gf (g:F5):Nat→Int
 | 0=>g.a0+g.a1*2251799813685248%18446744073709551616
 | 1=>g.a1 / 8192+g.a2*274877906944%18446744073709551616
 | 2=>g.a2 / 67108864+g.a3*33554432%18446744073709551616
 | _=>g.a3 / 549755813888+g.a4*4096%18446744073709551616
def FR (W:Nat→Int) (i:Nat):Int:=W (i / 8) / 2^(i%8*8)%256
theorem UT (x b:Int) (n m:Nat) (h:n+m=64) (hn:n < 64) (N M:Int) (hN:(2:Int)^n=N) (hM:(2:Int)^m=M) (hx:0≤x) (hx':x < N):
  aS .or .u64 x (b*N%18446744073709551616)=x+b*N%18446744073709551616:=by
 have hNM:N*M=18446744073709551616:=by rw[← hN, ← hM, ← Int.pow_add,h];rfl
 have hM0:0 < M:=by rw[← hM];exact Int.pow_pos (by decide)
 have hN0:0 < N:=by rw[← hN];exact Int.pow_pos (by decide)
 have e:b*N%18446744073709551616=b%M*N:=by rw[← hNM,Int.mul_comm b N,Int.mul_emod_mul_of_pos _ _ hN0,Int.mul_comm]
 have hbm:=Int.emod_nonneg b (Int.ne_of_gt hM0)
 have hbl:=Int.emod_lt_of_pos b hM0
 have hle:b%M*N < 18446744073709551616:=by rw[← hNM,Int.mul_comm N M];exact Int.mul_lt_mul_of_pos_right hbl hN0
 rw[e, ← hN,G5 x (b%M) n hn hx (by rw[hN];exact hx') hbm (by rw[hN];exact hle)]
theorem UU (g:F5) (h0:0≤g.a0∧g.a0 < 2251799813685248) (h1:0≤g.a1∧g.a1 < 2251799813685248) (h2:0≤g.a2∧g.a2 < 2251799813685248) (h3:0≤g.a3∧g.a3 < 2251799813685248) (h4:0≤g.a4∧g.a4 < 2251799813685248):
  ∀ j,0≤gf g j∧gf g j < 18446744073709551616
 | 0=>by simp only[gf];omega
 | 1=>by simp only[gf];omega
 | 2=>by simp only[gf];omega
 | _+3=>by simp only[gf];omega
theorem aaq (g:F5) (h0:0≤g.a0∧g.a0 < 2251799813685248) (h1:0≤g.a1∧g.a1 < 2251799813685248) (h2:0≤g.a2∧g.a2 < 2251799813685248) (h3:0≤g.a3∧g.a3 < 2251799813685248) (h4:0≤g.a4∧g.a4 < 2251799813685248):
  g.v=gf g 0+18446744073709551616*gf g 1+340282366920938463463374607431768211456*gf g 2+6277101735386680763835789423207666416102355444464034512896*gf g 3:=by
 simp only[gf,F5.v];omega
theorem fc {k:IntKind} {n m:Nat} {f:Nat→Int}:ae k n (upd (fun i=>if i < m then f i else 0) m (f m))=ae k n (fun i=>if i < m+1 then f i else 0):=by
 refine aV fun i _=> ?_
 simp only[upd]
 by_cases h:i=m
 ·subst h;simp
 ·rw[if_neg h]
  by_cases h2:i < m
  ·rw[if_pos h2,if_pos (by omega)]
  ·rw[if_neg h2,if_neg (by omega)]
theorem V4 (f:F5) (hf:f.Ok):cB Tryz.prog 81 [Ag f.l] (Ag (ae .u8 32 (FR (gf (kI f))))):=by
 refine aK Tryz.func81 rfl (by kernel_rfl) (by simp[Tryz.ntmps81]) rfl rfl ?_
 simp only[F5.l,Tryz.results81,ah,ov,aF,Tryz.vs,Value.oneCell',simprocAttr, -List.reduceReplicate]
 refine (Mx f hf).aB ?_
 obtain ⟨_,h0,h1,h2,h3,h4⟩:=Mw f hf
 generalize kI f=g at*
 have j0:=UT g.a0 g.a1 51 13 rfl (by decide) 2251799813685248 8192 rfl rfl h0.1 h0.2
 have j1:=UT (g.a1 / 8192) g.a2 38 26 rfl (by decide) 274877906944 67108864 rfl rfl (by omega) (by omega)
 have j2:=UT (g.a2 / 67108864) g.a3 25 39 rfl (by decide) 33554432 549755813888 rfl rfl (by omega) (by omega)
 have j3:=UT (g.a3 / 549755813888) g.a4 12 52 rfl (by decide) 4096 4503599627370496 rfl rfl (by omega) (by omega)
 simp only[F5.l,ah,ov,aF,show gT .u64 g.a1 51=g.a1*2251799813685248%18446744073709551616 from wj _ 51 (by decide),show gT .u64 g.a2 38=g.a2*274877906944%18446744073709551616 from wj _ 38 (by decide),show gT .u64 g.a3 25=g.a3*33554432%18446744073709551616 from wj _ 25 (by decide),show gT .u64 g.a4 12=g.a4*4096%18446744073709551616 from wj _ 12 (by decide),
  show cr .u64 g.a1 13=g.a1 / 8192 from wi _ 13 (by decide),show cr .u64 g.a2 26=g.a2 / 67108864 from wi _ 26 (by decide),show cr .u64 g.a3 39=g.a3 / 549755813888 from wi _ 39 (by decide),j0,j1,j2,j3,Tryz.vs,Value.oneCell',simprocAttr, -List.reduceReplicate]
 refine aG 32 (fun k=>[(2,Ptr 1 0),(3,Ptr 33 0),(4,Ptr 35 0),(36,I .i64 k)])
  (fun k=>[(1,⟨true,ae .u8 32 (fun _=>0)⟩),(33,⟨true,ae .u64 4 (gf g)⟩),(35,⟨true,ae .u8 32 (fun i=>if i < k then FR (gf g) i else 0)⟩)]) _ ?_ ?_ ?_
 ·simp only[bV,Tryz.vr,Value.oneCell',simprocAttr, -List.reduceReplicate]
  exact ⟨rfl,by simp only[Nat.not_lt_zero,if_false]⟩
 ·intro k hk
  have hw:=UU g h0 h1 h2 h3 h4 (k / 8)
  have hm:k%8 < 8:=Nat.mod_lt _ (by decide)
  have hq:=Xn k (by omega)
  have hmul:IntKind.i64.wrap (((k%8:Nat):Int)*8)=((k%8*8:Nat):Int):=by rw[wrap_i64 _ (by omega) (by omega)];omega
  have hsh:IntKind.u8.wrap (cr .u64 (gf g (k / 8)) ((k%8*8:Nat):Int))=FR (gf g) k:=by
   rw[wi _ _ (by omega),wrap_u8];rfl
  have hl4:(((k / 8:Nat):Int) < 4)=True:=cf (m:=4) (by omega)
  have G6:((k:Int) < 32)=True:=cf (m:=32) hk
  simp only[Tryz.vr,Value.oneCell',simprocAttr, -List.reduceReplicate]
  refine aD (by simp;omega) ?_
  simp only[G6,ay .u64 4 _ (k / 8) (by omega),hq,IZ,hmul,hsh,hl4,aA .u8 32 _ k hk,bD k (by omega),Tryz.vr,Value.oneCell',simprocAttr, -List.reduceReplicate]
  exact ⟨by omega,by rw[fc]⟩
 ·simp only[Tryz.vr,Value.oneCell',simprocAttr, -List.reduceReplicate]
  refine aH (by decide) ?_
  simp only[Tryz.vr,Value.oneCell',simprocAttr, -List.reduceReplicate]
  refine xU fun i hi=> ?_
  simp only[hi,if_true]
def sg (K U:Nat→Int):Nat→Int:=
 FR (gf (kI (dX (oU (gD K) (kC (mX U 32)) 255).x2 (jj (oU (gD K) (kC (mX U 32)) 255).z2 255))))
theorem FT (K U:Nat→Int) (hK:By K) (hU:By U):cB Tryz.prog 63 [Ag (ae .u8 32 K),Ag (ae .u8 32 U)] (Ag (ae .u8 32 (sg K U))):=by
 have hu:(kC (mX U 32)).Ok:=FQ _ fun j=>⟨((mA U hU 32).1 j).1,((mA U hU 32).1 j).2.2⟩
 have hr:=kb (gD K) _ hu 255
 refine aK Tryz.func63 rfl (by kernel_rfl) (by simp[Tryz.ntmps63]) rfl rfl ?_
 simp only[Tryz.results63,Tryz.vr,Value.oneCell',simprocAttr, -List.reduceReplicate]
 refine ⟨by kernel_rfl, ?_⟩
 refine cB.draw (Mt K hK) Tryz.qJ ?_
 simp only[Tryz.vr,Value.oneCell',simprocAttr, -List.reduceReplicate]
 refine cB.draw (Mu U hU) Tryz.qK ?_
 simp only[Tryz.vr,Value.oneCell',simprocAttr, -List.reduceReplicate]
 refine cB.draw (OX _ _ (FP K hK) hu) Tryz.qI ?_
 simp only[Tryz.vr,Value.oneCell',simprocAttr, -List.reduceReplicate]
 refine cB.draw (V4 _ (gv _ _ hr.x2 (jt _ hr.z2 255))) Tryz.qH ?_
 simp only[Tryz.vr,Value.oneCell',simprocAttr, -List.reduceReplicate]
 rfl
end Go.Proofs.YtoakenpcooglpaaGreatDoor
