/-
  What the statement lends, and how it holds lists against each other.
-/
import Derived.Test.YtpnehhpadofcbaaGreatDoorVcgFacts
import Derived.Test.YtpnehhpadofcbaaGreatDoorVcgK
import Derived.Test.YtpnehhpadofcbaaGreatDoorVcgW1
import Derived.Test.YtpnehhpadofcbaaGreatDoorVcgH9
import Derived.Test.YtpnehhpadofcbaaGreatDoorVcgR5
import Derived.Test.YtpnehhpadofcbaaGreatDoorVcgI1
set_option maxHeartbeats 16000000
set_option maxRecDepth 20000
set_option linter.unusedSimpArgs false
set_option linter.unusedVariables false
set_option linter.unusedSectionVars false
namespace Go.Proofs.YtpnehhpadofcbaaGreatDoor
open Go.bU
variable [aO]
theorem Qp {n:Nat} {f:Nat→Int} {o o' c c':Nat} {cs ds:List SV} (hc:aZ cs o n f) (hd:aZ ds o' n f) (hp:cs.all SV.plain=true) (hq:ds.all SV.plain=true) (hn:n < 4611686018427387904):
  bf Tryz.prog 18 [Sl 0 o n c,Sl 1 o' n c'] 2 (lk [(0,⟨false,cs⟩),(1,⟨false,ds⟩)]) (fun v out=>v=B true∧out=fun _=>none):=by
 refine av Tryz.func18 rfl (by kernel_rfl) (by simp[Tryz.ntmps18]) Tryz.kQ (by simp[AV.ok,CV.ok,SV.names]) lC (nU hp hq) ?_
 have fO: ∀ {M:Nat→Prop},(∀ x ∈ cs,SV.ok M x)=True:=eq_true (aC hp)
 have jX: ∀ {M:Nat→Prop},(∀ x ∈ ds,SV.ok M x)=True:=eq_true (aC hq)
 simp only[Tryz.results18,bne_self_eq_false,vR,seval, -List.reduceReplicate]
 refine aE n (fun k=>[(0,Sl 0 o n c),(1,Sl 1 o' n c'),(12,I .i64 n),(13,I .i64 k)])
  (fun k=>[(0,⟨false,cs⟩),(1,⟨false,ds⟩)]) _ ?_ ?_ ?_
 ·simp only[fO,jX,vR,seval, -List.reduceReplicate]
 ·intro j hj
  simp only[vR,seval, -List.reduceReplicate]
  refine az (by simp;omega) ?_
  simp only[aW,cF hj,hc j hj,hd j hj,bne_self_eq_false,bt j (by omega),vR,seval, -List.reduceReplicate]
  exact ⟨by kernel_rfl,aC hp,aC hq⟩
 ·simp only[vR,seval, -List.reduceReplicate]
  refine aD (by simp) ?_
  simp only[vR,seval, -List.reduceReplicate]
  exact ak rfl ⟨rfl,rfl⟩
theorem Qq {a:Option Addr} {o c:Nat} {cs:List SV} (hp:cs.all SV.plain=true):
  bf Tryz.prog 18 [V (.slice a 0 0),Sl 0 o 0 c] 1 (lk [(0,⟨false,cs⟩)]) (fun v out=>v=B true∧out=fun _=>none):=by
 refine av Tryz.func18 rfl (by kernel_rfl) (by simp[Tryz.ntmps18]) Tryz.kQ (by simp[AV.ok,CV.ok,SV.names]) dG (dH hp) ?_
 simp only[Tryz.results18,bne_self_eq_false,vR,seval, -List.reduceReplicate]
 refine aE 0 (fun k=>[(12,I .i64 0),(13,I .i64 k)]) (fun k=>[]) _ ?_ ?_ ?_
 ·simp only[vR,seval, -List.reduceReplicate]
 ·intro j hj;omega
 ·simp only[vR,seval, -List.reduceReplicate]
  refine aD (by simp) ?_
  simp only[vR,seval, -List.reduceReplicate]
  exact ak rfl ⟨rfl,rfl⟩
theorem Qr {a:Option Addr} {o c:Nat} {cs:List SV} (hp:cs.all SV.plain=true):
  bf Tryz.prog 18 [Sl 0 o 0 c,V (.slice a 0 0)] 1 (lk [(0,⟨false,cs⟩)]) (fun v out=>v=B true∧out=fun _=>none):=by
 refine av Tryz.func18 rfl (by kernel_rfl) (by simp[Tryz.ntmps18]) Tryz.kQ (by simp[AV.ok,CV.ok,SV.names]) dG (dH hp) ?_
 simp only[Tryz.results18,bne_self_eq_false,vR,seval, -List.reduceReplicate]
 refine aE 0 (fun k=>[(12,I .i64 0),(13,I .i64 k)]) (fun k=>[]) _ ?_ ?_ ?_
 ·simp only[vR,seval, -List.reduceReplicate]
 ·intro j hj;omega
 ·simp only[vR,seval, -List.reduceReplicate]
  refine aD (by simp) ?_
  simp only[vR,seval, -List.reduceReplicate]
  exact ak rfl ⟨rfl,rfl⟩
theorem Qs {a a':Option Addr}:bf Tryz.prog 18 [V (.slice a 0 0),V (.slice a' 0 0)] 0 (fun _=>none) (fun v out=>v=B true∧out=fun _=>none):=by
 refine av Tryz.func18 rfl (by kernel_rfl) (by simp[Tryz.ntmps18]) Tryz.kQ (by simp[AV.ok,CV.ok,SV.names]) tq tu ?_
 simp only[Tryz.results18,bne_self_eq_false,vR,seval, -List.reduceReplicate]
 refine aE 0 (fun k=>[(12,I .i64 0),(13,I .i64 k)]) (fun k=>[]) _ ?_ ?_ ?_
 ·simp only[vR,seval, -List.reduceReplicate]
 ·intro j hj;omega
 ·simp only[vR,seval, -List.reduceReplicate]
  refine aD (by simp) ?_
  simp only[vR,seval, -List.reduceReplicate]
  exact ak rfl ⟨rfl,rfl⟩
theorem RI {s:AS} {nm:Nat} {v u:AV} {n:Nat} {f:Nat→Int} (hn:n < 4611686018427387904) (h1:bG s.box v n f) (h2:bG s.box u n f) {dst:Option Nat} {K:AS→Prop} (hk:K (s.put dst (some (B true)))):
  ax Tryz.prog nm 18 (some [v,u]) dst K s:=by
 rcases h1 with ⟨⟨a,rfl⟩,rfl⟩ | ⟨t,o,c,rw1,cs,rfl,hb,hp,hc⟩<;>rcases h2 with ⟨⟨a',rfl⟩,h0⟩ | ⟨t',o',c',rw2,ds,rfl,hb',hq,hd⟩
 ·exact Qs.cW (fun n=>n) gF rfl rfl hk
 ·exact (Qq hq).cW (fun _=>t') (bS hb' hq) rfl rfl hk
 ·subst h0
  exact (Qr hp).cW (fun _=>t) (bS hb hp) rfl rfl hk
 ·exact (Qp hc hd hp hq hn).cW (two t t') (ie hb hp hb' hq) rfl rfl hk
theorem rV {s:AS} {nm:Nat} {v u:AV} {n:Nat} {f:Nat→Int} (hn:n < 4611686018427387904) (h1:bG s.box v n f) (h2:bG s.box u n f) {ops:Array Oper} {i:Nat} {dst:Option Nat} {K:AS→Prop} (hk:K (s.put dst (some (B true)))):
  ov Tryz.prog ops i nm 18 (some [v,u]) dst K s:=by
 rcases h1 with ⟨⟨a,rfl⟩,rfl⟩ | ⟨t,o,c,rw1,cs,rfl,hb,hp,hc⟩<;>rcases h2 with ⟨⟨a',rfl⟩,h0⟩ | ⟨t',o',c',rw2,ds,rfl,hb',hq,hd⟩
 ·exact Qs.cQ (fun n=>n) gF rfl rfl (fun M h n hn=>by omega) hk
 ·exact (Qq hq).cQ (fun _=>t') (bS hb' hq) rfl rfl (fun M h n _=>h (Sl t' o' 0 c') (List.Mem.tail _ (List.Mem.head _))) hk
 ·subst h0
  exact (Qr hp).cQ (fun _=>t) (bS hb hp) rfl rfl (fun M h n _=>h (Sl t o 0 c) (List.Mem.head _)) hk
 ·exact (Qp hc hd hp hq hn).cQ (two t t') (ie hb hp hb' hq) rfl rfl (fun M h n' hn'=>by
   rcases Nat.lt_or_ge n' 1 with h0 | h0
   ·rw[show n'=0 by omega];exact h (Sl t o n c) (List.Mem.head _)
   ·rw[show n'=1 by omega];exact h (Sl t' o' n c') (List.Mem.tail _ (List.Mem.head _))) hk
theorem U1 {n:Nat} {f:Nat→Int} {o c:Nat} {cs:List SV} (hc:aZ cs o n f) (hp:cs.all SV.plain=true) (hn:n≤140737488355328):
  bf Tryz.prog 15 [Sl 0 o n c] 1 (lk [(0,⟨false,cs⟩)]) (Made 1 n f):=by
 refine av Tryz.func15 rfl (by kernel_rfl) (by simp[Tryz.ntmps15]) Tryz.o9 (by simp[AV.ok,CV.ok,SV.names]) dG (dH hp) ?_
 simp only[Tryz.results15,vR,seval, -List.reduceReplicate]
 refine jK (b:=2) (olds:=[]) (news:=af .u8 n f) (m:=n) Tryz.bP Tryz.bR rfl (by decide) rfl rfl rfl (Nat.le_refl _) rfl Pa aw
  (.inl ⟨0,o,c,⟨false,cs⟩,rfl,rfl,by rw[ah,Nat.mul_one],fu hc,by decide⟩) (by omega) (by omega) ?_
 intro c' tail h1 h2 h3
 simp only[vR,seval, -List.reduceReplicate]
 refine dV (k:=1) (q:=4) (cs:=af .u8 n f++tail) (by decide) ?_ (cD h3) ⟨c',tail,rfl,rfl,by omega,by omega,h3⟩
 simp only[vR,seval, -List.reduceReplicate]
theorem U2 {a:Option Addr} {f:Nat→Int}:bf Tryz.prog 15 [V (.slice a 0 0)] 0 (fun _=>none) (Made 0 0 f):=by
 refine av Tryz.func15 rfl (by kernel_rfl) (by simp[Tryz.ntmps15]) Tryz.o9 (by simp[AV.ok,CV.ok,SV.names]) tq tu ?_
 simp only[Tryz.results15,vR,seval, -List.reduceReplicate]
 refine jK (b:=1) (olds:=[]) (news:=[]) (m:=0) Tryz.bP Tryz.bR rfl (by decide) rfl rfl rfl (Nat.le_refl _) rfl Pa aw
  (.inr ⟨⟨_,rfl⟩,rfl,rfl⟩) (by omega) (by omega) ?_
 intro c' tail h1 h2 h3
 simp only[vR,seval, -List.reduceReplicate]
 refine dV (k:=0) (q:=3) (cs:=af .u8 0 f++tail) (by decide) ?_ (cD h3) ⟨c',tail,rfl,rfl,by omega,by omega,h3⟩
 simp only[vR,seval, -List.reduceReplicate]
 rfl
def fE (k n c:Nat):AV:=Ag [Sum.inr (Sum.inr (k,0,n+64,c)),Sum.inl (.int .i64 n)]
def W9 (k n:Nat) (f:Nat→Int) (v:AV) (out:Nat→Option aN):Prop:=
 ∃ c tail,v=fE k n c∧out=lk [(k,⟨true,af .u8 n f++(af .u8 64 (fun _=>0)++tail)⟩)]∧n+64≤c∧tail.length=c - (n+64)∧tail.all SV.plain=true
theorem kr {n:Nat} {f:Nat→Int} {tail:List SV} (h:tail.all SV.plain=true):(af .u8 n f++(af .u8 64 (fun _=>0)++tail)).all SV.plain=true:=by
 rw[List.all_append,aw,cD h];rfl
theorem GJ {M:Nat→Prop} {k n c:Nat} (h:M k):AV.ok M (fE k n c):=by
 intro x hx
 simp only[List.mem_cons,List.not_mem_nil,or_false]at hx
 rcases hx with rfl | rfl
 ·exact ⟨h,rfl⟩
 ·exact ⟨trivial,rfl⟩
theorem KG {s:AS} {k q n c:Nat} {f:Nat→Int} {tail:List SV} (hq:k≤q) (hb:s.box q=some ⟨true,af .u8 n f++(af .u8 64 (fun _=>0)++tail)⟩) (h1:n+64≤c) (h2:tail.length=c - (n+64)) (h3:tail.all SV.plain=true):
  qA k (W9 k n f) (fE q n c) s:=by
 refine ⟨q,fE k n c,lk [(k,⟨true,af .u8 n f++(af .u8 64 (fun _=>0)++tail)⟩)],hq, ?_, ?_,fun m b hm=> ?_,c,tail,rfl,rfl,h1,h2,h3⟩
 ·show fE q n c=fE (kc k q k) n c
  rw[iR]
 ·intro x hx
  simp only[List.mem_cons,List.not_mem_nil,or_false]at hx
  rcases hx with rfl | rfl
  ·exact ⟨Nat.lt_succ_self k,rfl⟩
  ·exact ⟨trivial,rfl⟩
 ·simp only[lk]at hm
  split at hm
  ·rename_i e
   simp only[Option.some.injEq]at hm;subst e hm
   exact ⟨Nat.lt_succ_self m,fun _=>rfl,aC (kr h3),_,by rw[iR];exact hb,fun _=>rfl,(aQ (kr h3) _).symm⟩
  ·cases hm
theorem ZU {n:Nat} {f:Nat→Int} {o c:Nat} {cs:List SV} (hc:aZ cs o n f) (hp:cs.all SV.plain=true) (hn:n+64≤140737488355328):
  bf Tryz.prog 5 [Sl 0 o n c] 1 (lk [(0,⟨false,cs⟩)]) (W9 1 n f):=by
 refine av Tryz.func5 rfl (by kernel_rfl) (by simp[Tryz.ntmps5]) Tryz.rQ (by simp[AV.ok,CV.ok,SV.names]) dG (dH hp) ?_
 simp only[Tryz.results5,vR,seval, -List.reduceReplicate]
 refine dS (U1 hc hp (by omega)) (fun _=>0) (bS (rw:=false) (by simp only[ae,vR,seval, -List.reduceReplicate]) hp) rfl ?_
 intro c1 eU h1 h2 h3
 simp only[vR,seval, -List.reduceReplicate]
 refine pW (b:=3) (o:=0) (n:=n) (c:=c1) (m:=64) (cs:=af .u8 n f++eU) (olds:=af .u8 n f) Tryz.bP Tryz.Jw rfl (by decide) rfl (by simp only[ae,vR,seval, -List.reduceReplicate]) (by rw[List.length_append,ah];omega)
  (by rw[ah,Nat.mul_one]) (fu dg) (cD h3) (by decide) (by decide) (by decide) (by omega) (by omega) ?_
 intro c' tail h1' h2' h3'
 simp only[Bf,List.append_assoc,vS,PH,seval, -List.reduceReplicate]
 refine KG (k:=1) (q:=4) (by decide) ?_ h1' (by omega) h3'
 simp only[vR,seval, -List.reduceReplicate]
theorem ZV {a:Option Addr} {f:Nat→Int}:bf Tryz.prog 5 [V (.slice a 0 0)] 0 (fun _=>none) (W9 0 0 f):=by
 refine av Tryz.func5 rfl (by kernel_rfl) (by simp[Tryz.ntmps5]) Tryz.rQ (by simp[AV.ok,CV.ok,SV.names]) tq tu ?_
 simp only[Tryz.results5,vR,seval, -List.reduceReplicate]
 refine dS (f:=f) U2 (fun n=>n) gF rfl ?_
 intro c1 eU h1 h2 h3
 simp only[vR,seval, -List.reduceReplicate]
 refine pW (b:=2) (o:=0) (n:=0) (c:=c1) (m:=64) (cs:=af .u8 0 f++eU) (olds:=af .u8 0 f) Tryz.bP Tryz.Jw rfl (by decide) rfl (by simp only[ae,vR,seval, -List.reduceReplicate]) (by rw[List.length_append,ah];omega)
  (by rw[ah,Nat.mul_one]) (fu dg) (cD h3) (by decide) (by decide) (by decide) (by omega) (by omega) ?_
 intro c' tail h1' h2' h3'
 simp only[Bf,List.append_assoc,vS,PH,seval, -List.reduceReplicate]
 refine KG (k:=0) (q:=3) (by decide) ?_ h1' (by omega) h3'
 simp only[vR,seval, -List.reduceReplicate]
theorem ZW {n c:Nat} {cs:List SV} (hn:n+64≤c) (hp:cs.all SV.plain=true):bf Tryz.prog 8 [fE 0 n c] 1 (lk [(0,⟨false,cs⟩)]) (fun v out=>v=Sl 0 0 n c∧out=fun _=>none):=by
 refine av Tryz.func8 rfl (by kernel_rfl) (by simp[Tryz.ntmps8]) Tryz.xM (fun v hv=>by rw[List.mem_singleton.1 hv];exact GJ (by decide)) dG (dH hp) ?_
 have h1:((n:Int)≤(c:Int))=True:=eq_true (by omega)
 simp only[Tryz.results8,fE,aW,h1,vR,seval, -List.reduceReplicate]
 exact Y5 (by decide) ⟨rfl,rfl⟩
theorem Nm {n o c:Nat} {f:Nat→Int} {tail:List SV} (hp:tail.all SV.plain=true) (hn:n < 4611686018427387904) (ho:o=0):
  bf Tryz.prog 11 [Sl 0 o n c] 1 (lk [(0,⟨true,af .u8 n f++tail⟩)]) (fun v out=>v= .inr []∧out=lk [(0,⟨true,af .u8 n (fun i=>aU .xor .u8 (f i) 165)++tail⟩)]):=by
 subst ho
 refine av Tryz.func11 rfl (by kernel_rfl) (by simp[Tryz.ntmps11]) Tryz.tH (by simp[AV.ok,CV.ok,SV.names]) dG (dH (cD hp)) ?_
 simp only[Tryz.results11,vR,seval, -List.reduceReplicate]
 refine aE n (fun k=>[(0,Sl 0 0 n c),(4,I .i64 n),(5,I .i64 k)])
  (fun k=>[(0,⟨true,af .u8 n (fun i=>if i < k then aU .xor .u8 (f i) 165 else f i)++tail⟩)]) _ ?_ ?_ ?_
 ·simp only[Nat.not_lt_zero,if_false,vR,seval, -List.reduceReplicate]
  exact aC (cD hp)
 ·intro j hj
  have hg: ∀ g:Nat→Int,(af .u8 n g++tail)[j]? =some (Sum.inl (.int .u8 (g j))):=fun g=>by
   have:=dg (n:=n) (f:=g) (tail:=tail) j hj
   rwa [Nat.zero_add]at this
  have hs: ∀ (g:Nat→Int) (v:Int),splice (af .u8 n g++tail) j [Sum.inl (Value.int .u8 v)]=af .u8 n (upd g j v)++tail:=fun g v=>by
   rw[← aB .u8 n g j hj]
   simp only[splice,List.length_singleton]
   rw[List.take_append_of_le_length (by rw[ah];omega),List.drop_append_of_le_length (by rw[ah];omega)]
   simp only[List.append_assoc]
  simp only[vR,seval, -List.reduceReplicate]
  refine az (by simp;omega) ?_
  simp only[aW,cF hj,hg,hs,Nat.lt_irrefl,if_false,bt j (by omega),vR,seval, -List.reduceReplicate]
  refine ⟨by rw[List.length_append,ah];omega, ?_⟩
  exact ⟨congrArg (fun c=>some (aN.mk true (c++tail))) (fV (f:=fun i=>aU .xor .u8 (f i) 165) (g:=f)),aC (cD hp)⟩
 ·simp only[vR,seval, -List.reduceReplicate]
  refine aD (by simp) ?_
  simp only[dL,vR,seval, -List.reduceReplicate]
  exact xA (cs:=af .u8 n (fun i=>aU .xor .u8 (f i) 165)++tail) (by decide) rfl (by simp only[vR,seval, -List.reduceReplicate]) (cD hp) ⟨rfl,rfl⟩
theorem Nn:cI Tryz.prog 11 [V (.slice none 0 0)] (.inr []):=by
 refine aJ Tryz.func11 rfl (by kernel_rfl) (by simp[Tryz.ntmps11]) rfl rfl ?_
 simp only[Tryz.results11,vR,seval, -List.reduceReplicate]
 refine aE 0 (fun k=>[(4,I .i64 0),(5,I .i64 k)]) (fun k=>[]) _ ?_ ?_ ?_
 ·simp only[vR,seval, -List.reduceReplicate]
 ·intro j hj;omega
 ·simp only[vR,seval, -List.reduceReplicate]
  refine aD (by simp) ?_
  simp only[vR,seval, -List.reduceReplicate]
theorem ZX {n o c c':Nat} {f:Nat→Int} {tail cs:List SV} (hc:n+64≤c) (hn:n < 4611686018427387904) (hp:tail.all SV.plain=true) (hs:aZ cs o n f) (hq:cs.all SV.plain=true):
  bf Tryz.prog 13 [fE 0 n c,Sl 1 o n c'] 2 (lk [(0,⟨false,af .u8 n f++(af .u8 64 (fun _=>0)++tail)⟩),(1,⟨false,cs⟩)]) (fun v out=>v=B true∧out=fun _=>none):=by
 have hsh:aZ (af .u8 n f++(af .u8 64 (fun _=>0)++tail)) n 64 (fun _=>0):=fun i hi=>by
  rw[List.getElem?_append_right (by rw[ah];omega),ah,show n+i - n=i by omega,List.getElem?_append_left (by rw[ah];exact hi),aA .u8 64 _ i hi]
 refine av Tryz.func13 rfl (by kernel_rfl) (by simp[Tryz.ntmps13]) Tryz.o8 (fun v hv=>by
  simp only[List.mem_cons,List.not_mem_nil,or_false]at hv
  rcases hv with rfl | rfl
  ·exact GJ (by decide)
  ·exact (by decide:1 < 2)) lC (nU (kr hp) hq) ?_
 have h1:((n:Int)≤(c:Int))=True:=eq_true (by omega)
 have h2:((n:Int)≤((n+64:Nat):Int))=True:=eq_true (by omega)
 have h3:(((n+64:Nat):Int)≤(c:Int))=True:=eq_true (by omega)
 have h4:(if c=n then 0 else n)=n:=if_neg (by omega)
 have h5:n+64 - n=64:=by omega
 simp only[Tryz.results13,fE,aW,h1,h2,h3,vR,seval, -List.reduceReplicate]
 refine ⟨by kernel_rfl, ?_⟩
 refine rV hn (.inr ⟨0,0,c,false,_,rfl,by simp only[ae,vR,seval, -List.reduceReplicate],kr hp,dg⟩) (.inr ⟨1,o,c',false,cs,rfl,by simp only[ae,vR,seval, -List.reduceReplicate],hq,hs⟩) ?_
 simp only[aW,h1,h2,h3,h4,h5,vR,seval, -List.reduceReplicate]
 try refine ⟨by decide, ?_⟩
 refine rV (by decide) (.inr ⟨0,n,c - n,false,_,rfl,by simp only[ae,vR,seval, -List.reduceReplicate],kr hp,hsh⟩) (.inr ⟨17,0,64,true,af .u8 64 (fun _=>0),rfl,by simp only[ae,vR,seval, -List.reduceReplicate],aw,aV⟩) ?_
 simp only[vR,seval, -List.reduceReplicate]
 exact ak rfl ⟨rfl,rfl⟩
theorem ZY {a:Option Addr} {c:Nat} {f:Nat→Int} {tail:List SV} (hc:0+64≤c) (hp:tail.all SV.plain=true):
  bf Tryz.prog 13 [fE 0 0 c,V (.slice a 0 0)] 1 (lk [(0,⟨false,af .u8 0 f++(af .u8 64 (fun _=>0)++tail)⟩)]) (fun v out=>v=B true∧out=fun _=>none):=by
 have hsh:aZ (af .u8 0 f++(af .u8 64 (fun _=>0)++tail)) 0 64 (fun _=>0):=fun i hi=>by
  rw[List.getElem?_append_right (by rw[ah];omega),ah,show 0+i - 0=i by omega,List.getElem?_append_left (by rw[ah];exact hi),aA .u8 64 _ i hi]
 refine av Tryz.func13 rfl (by kernel_rfl) (by simp[Tryz.ntmps13]) Tryz.o8 (fun v hv=>by
  simp only[List.mem_cons,List.not_mem_nil,or_false]at hv
  rcases hv with rfl | rfl
  ·exact GJ (by decide)
  ·trivial) dG (dH (kr hp)) ?_
 have h0:(0≤(c:Int))=True:=eq_true (by omega)
 have h3:(64≤(c:Int))=True:=eq_true (by omega)
 have h4:(if c=0 then 0 else 0)=0:=by split<;>rfl
 simp only[Tryz.results13,fE,aW,h0,h3,vR,seval, -List.reduceReplicate]
 refine ⟨by kernel_rfl, ?_⟩
 refine rV (n:=0) (f:=f) (by decide) (.inr ⟨0,0,c,false,_,rfl,by simp only[ae,vR,seval, -List.reduceReplicate],kr hp,dg⟩) (.inl ⟨⟨_,rfl⟩,rfl⟩) ?_
 simp only[aW,h0,h3,h4,vR,seval, -List.reduceReplicate]
 try refine ⟨by decide, ?_⟩
 refine rV (by decide) (.inr ⟨0,0,c - 0,false,_,rfl,by simp only[ae,vR,seval, -List.reduceReplicate],kr hp,hsh⟩) (.inr ⟨16,0,64,true,af .u8 64 (fun _=>0),rfl,by simp only[ae,vR,seval, -List.reduceReplicate],aw,aV⟩) ?_
 simp only[vR,seval, -List.reduceReplicate]
 exact ak rfl ⟨rfl,rfl⟩
theorem Fj {s:AS} {fn k n nm:Nat} {f:Nat→Int} {args l:List AV} {ins:Nat→Option aN} (h:bf Tryz.prog fn args k ins (W9 k n f)) (r:Nat→Nat) (hfit:Fits s r ins none) (hl:l=args.map (AV.aI r)) {dst:Option Nat} {K:AS→Prop}
  (hk: ∀ c tail,n+64≤c→tail.length=c - (n+64)→tail.all SV.plain=true→K ((⟨s.env,upd s.box nm (some ⟨true,af .u8 n f++(af .u8 64 (fun _=>0)++tail)⟩),s.next⟩:AS).put dst (some (fE nm n c)))):ax Tryz.prog nm fn (some l) dst K s:=by
 refine h.ax r none hfit hl ?_
 rintro v out ⟨c,tail,rfl,rfl,h1,h2,h3⟩ _
 rw[fN (kr h3)]
 have e:AV.aI (dJ r k nm) (fE k n c)=fE nm n c:=by show fE (dJ r k nm k) n c=_;rw[gT]
 rw[e]
 exact hk c tail h1 h2 h3
theorem zm (t:Nat):(t:Int).tmod 16=((t%16:Nat):Int):=(Int.ofNat_tmod t 16).symm
def acC (K J:Nat→Int) (i:Nat):Int:=UU (mr K) (ja J ((i / 16:Nat):Int)) (i%16)
def pP (K J f:Nat→Int) (i:Nat):Int:=aU .xor .u8 (f i) (acC K J i)
def GK (k:Nat):Nat:=(k+15) / 16
def KH (K J:Nat→Int) (k:Nat):Nat→Int:=if k=0 then fun _=>0 else UU (mr K) (ja J (((k - 1) / 16:Nat):Int))
theorem acD {n o c:Nat} {K J f:Nat→Int} {cs:List SV} (hK:br K) (hJ:br J) (hs:aZ cs o n f) (hp:cs.all SV.plain=true) (hn:n≤140737488355328):
  bf Tryz.prog 102 [Ag (af .u8 32 K),Ag (af .u8 16 J),Sl 0 o n c] 1 (lk [(0,⟨false,cs⟩)]) (fun v out=>v=Sl 1 0 n n∧out=lk [(1,⟨true,af .u8 n (pP K J f)⟩)]):=by
 refine av Tryz.func102 rfl (by kernel_rfl) (by simp[Tryz.ntmps102]) Tryz.nG (by simp[AV.ok,CV.ok,SV.names];exact ⟨aC aw,aC aw⟩) dG (dH hp) ?_
 have fO: ∀ {M:Nat→Prop},(∀ x ∈ cs,SV.ok M x)=True:=eq_true (aC hp)
 simp only[Tryz.results102,vR,seval, -List.reduceReplicate]
 refine (wN K hK).ax ?_
 have hby:(1*(n:Int)≤281474976710656)=True:=eq_true (by omega)
 have h63:((n:Int)≤9223372036854775807)=True:=eq_true (by omega)
 have hnn:((n:Int)≤(n:Int))=True:=eq_true (by omega)
 simp only[aW,hby,h63,hnn,vR,seval, -List.reduceReplicate]
 refine aE n (fun k=>[(2,Sl 0 o n c),(4,Ptr 2 0),(7,Ptr 6 0),(8,Sl 10 0 n n),(9,Ptr 12 0),(17,I .i64 n),(18,I .i64 k)])
  (fun k=>[(0,⟨false,cs⟩),(2,⟨true,af .u8 16 (ja J (GK k:Nat))⟩),(6,⟨true,af .u8 496 (mr K)⟩),(10,⟨true,af .u8 n (fun i=>if i < k then pP K J f i else 0)⟩),(12,⟨true,af .u8 16 (KH K J k)⟩)]) _ ?_ ?_ ?_
 ·simp only[bW,fO,Nat.not_lt_zero,if_false,KH,vR,seval, -List.reduceReplicate]
  exact congrArg (fun c=>some (aN.mk true c)) (aX fun i hi=>(RF J hJ i).symm)
 ·intro k hk
  have RJ:k%16 < 16:=Nat.mod_lt _ (by decide)
  have Li:(((k%16:Nat):Int) < 16)=True:=eq_true (by omega)
  have eb:KH K J (k+1)=UU (mr K) (ja J ((k / 16:Nat):Int)):=by simp only[KH];rw[if_neg (by omega),show k+1 - 1=k by omega]
  have ec:aU .xor .u8 (f k) (KH K J (k+1) (k%16))=pP K J f k:=by rw[eb];rfl
  have fin:af .u8 n (upd (fun i=>if i < k then pP K J f i else 0) k (pP K J f k))=af .u8 n (fun i=>if i < k+1 then pP K J f i else 0):=fk
  simp only[vR,seval, -List.reduceReplicate]
  refine az (by simp;omega) ?_
  by_cases h0:k%16=0
  ·have e0:((((k%16:Nat):Int))==0)=true:=by rw[h0];rfl
   have ecn:GK k=k / 16:=by simp only[GK];omega
   have ZZ:GK (k+1)=k / 16+1:=by simp only[GK];omega
   have ej:af .u8 16 (ja (ja J ((k / 16:Nat):Int)) 1)=af .u8 16 (ja J ((k / 16+1:Nat):Int)):=aX fun i hi=>RE J _ i hi
   simp only[zm,e0,vR,seval, -List.reduceReplicate]
   refine (RG (mr K) (ja J (GK k:Nat))).cW (fun _=>6) (bS (rw:=true) (by simp only[ae,vR,seval, -List.reduceReplicate]) aw) aw (by rfl) ?_
   simp only[ecn, ← eb,vR,seval, -List.reduceReplicate]
   refine (Dl (ja J ((k / 16:Nat):Int)) (UT _ _)).ax ?_
   simp only[zm,ej,aW,Li,cF hk,hs k hk,aA .u8 16 _ _ RJ,ec,aB .u8 n _ k hk,bt k (by omega),ZZ,fin,vR,seval, -List.reduceReplicate]
   exact ⟨by kernel_rfl,by omega,aC hp⟩
  ·have e0:((((k%16:Nat):Int))==0)=false:=by simp;omega
   have ZZ:GK (k+1)=GK k:=by simp only[GK];omega
   have ebk:KH K J (k+1)=KH K J k:=by
    rw[eb];simp only[KH];rw[if_neg (by omega),show (k - 1) / 16=k / 16 by omega]
   rw[ebk]at ec
   simp only[zm,e0,aW,Li,cF hk,hs k hk,aA .u8 16 _ _ RJ,ec,aB .u8 n _ k hk,bt k (by omega),ZZ,ebk,fin,vR,seval, -List.reduceReplicate]
   exact ⟨by kernel_rfl,by omega,aC hp⟩
 ·simp only[vR,seval, -List.reduceReplicate]
  refine aD (by simp) ?_
  simp only[dL,vR,seval, -List.reduceReplicate]
  refine dV (k:=1) (q:=10) (cs:=af .u8 n (pP K J f)) (by decide) ?_ aw ⟨rfl,rfl⟩
  simp only[vR,seval, -List.reduceReplicate]
theorem KI {s:AS} {fn k n nm:Nat} {cs:List SV} {args l:List AV} {ins:Nat→Option aN} (h:bf Tryz.prog fn args k ins (fun v out=>v=Sl k 0 n n∧out=lk [(k,⟨true,cs⟩)])) (hp:cs.all SV.plain=true) (r:Nat→Nat) (hfit:Fits s r ins none) (hl:l=args.map (AV.aI r)) {dst:Option Nat} {K:AS→Prop}
  (hk:K ((⟨s.env,upd s.box nm (some ⟨true,cs⟩),s.next⟩:AS).put dst (some (Sl nm 0 n n)))):ax Tryz.prog nm fn (some l) dst K s:=by
 refine h.ax r none hfit hl ?_
 rintro v out ⟨rfl,rfl⟩ _
 rw[fN hp]
 have e:AV.aI (dJ r k nm) (Sl k 0 n n)=Sl nm 0 n n:=by show Sl (dJ r k nm k) 0 n n=_;rw[gT]
 rw[e]
 exact hk
def acF (K J:Nat→Int) (i:Nat):Int:=kY (ja J ((i / 16:Nat):Int)) (cM dM K 240) dM 14 (i%16)
def mv (K J f:Nat→Int) (i:Nat):Int:=aU .xor .u8 (f i) (acF K J i)
theorem Z0 {K J f:Nat→Int} (hK:br K) (i:Nat):pP K J f i=mv K J f i:=by
 simp only[pP,mv,acC,acF]
 rw[block_eq K _ hK _ (Nat.mod_lt _ (by decide))]
def Np (K J:Nat→Int) (k:Nat):Nat→Int:=if k=0 then fun _=>0 else kY (ja J (((k - 1) / 16:Nat):Int)) (cM dM K 240) dM 14
def RK (p k c:Nat):AV:=if k=0 then V (.slice none 0 0) else Sl p 0 k c
theorem acG {n o c:Nat} {K J f:Nat→Int} {cs:List SV} (hK:br K) (hJ:br J) (hs:aZ cs o n f) (hp:cs.all SV.plain=true) (hn:n≤1048576) (h0:0 < n):
  bf Tryz.prog 89 [Ag (af .u8 32 K),Ag (af .u8 16 J),Sl 0 o n c] 1 (lk [(0,⟨false,cs⟩)]) (Made 1 n (mv K J f)):=by
 refine av Tryz.func89 rfl (by kernel_rfl) (by simp[Tryz.ntmps89]) Tryz.pC (by simp[AV.ok,CV.ok,SV.names];exact ⟨aC aw,aC aw⟩) dG (dH hp) ?_
 have fO: ∀ {M:Nat→Prop},(∀ x ∈ cs,SV.ok M x)=True:=eq_true (aC hp)
 simp only[Tryz.results89,vR,seval, -List.reduceReplicate]
 refine aD (by simp;omega) ?_
 simp only[vR,seval, -List.reduceReplicate]
 refine GD.ax ?_
 simp only[vR,seval, -List.reduceReplicate]
 refine (lY K dM hK).ax ?_
 simp only[vR,seval, -List.reduceReplicate]
 refine QP (β:=Nat×List SV) n (fun k x=>k=0∨(k≤x.1∧x.2.length=x.1 - k∧x.2.all SV.plain=true))
  (fun k x=>[(2,Sl 0 o n c),(4,Ptr 2 0),(7,Ptr 8 0),(8,Ptr 13 0),(9,RK 18 k x.1),(10,Ptr 16 0),(11,I .i64 k)])
  (fun k x=>[(0,⟨false,cs⟩),(2,⟨true,af .u8 16 J⟩),(8,⟨true,af .u8 256 dM⟩),(13,⟨true,af .u8 240 (cM dM K 240)⟩),(16,⟨true,af .u8 16 (Np K J k)⟩)]++
   (if k=0 then [] else [(18,⟨true,af .u8 k (mv K J f)++x.2⟩)])) 19 (0,[]) ?_ ?_ ?_ (by show 18≤19;decide)
 ·refine ⟨.inl rfl,18,18,Nat.le_refl _,Nat.le_refl _, ?_, ?_⟩
  ·intro x hx
   simp only[List.mem_cons,List.not_mem_nil,or_false]at hx
   rcases hx with rfl | rfl | rfl | rfl | rfl | rfl | rfl
   all_goals refine ⟨rfl, ?_⟩
   all_goals simp[AV.ok,CV.ok,SV.names,RK]
  ·intro x hx
   simp only[if_true,List.append_nil,List.mem_cons,List.not_mem_nil,or_false]at hx
   rcases hx with rfl | rfl | rfl | rfl | rfl
   ·exact ⟨.inl (by simp),rfl,by simp,hp⟩
   all_goals exact ⟨.inl (by simp),rfl,by simp,aw⟩
 ·rintro k ⟨c1,tail⟩ hk hinv
  have RJ:k%16 < 16:=Nat.mod_lt _ (by decide)
  have Li:(((k%16:Nat):Int) < 16)=True:=eq_true (by omega)
  have q16:IntKind.i64.wrap ((k:Int).tdiv 16)=((k / 16:Nat):Int):=C' k 16 (by omega)
  have u16:IntKind.u64.wrap ((k / 16:Nat):Int)=((k / 16:Nat):Int):=au _ (by omega) (by omega)
  have eb:Np K J (k+1)=kY (ja J ((k / 16:Nat):Int)) (cM dM K 240) dM 14:=by simp only[Np];rw[if_neg (by omega),show k+1 - 1=k by omega]
  have ec:aU .xor .u8 (f k) (Np K J (k+1) (k%16))=mv K J f k:=by rw[eb];rfl
  have one:splice (af .u8 1 (fun _=>0)) 0 [Sum.inl (Value.int .u8 (mv K J f k))]=[Sum.inl (Value.int .u8 (mv K J f k))]:=rfl
  have sap:af .u8 (k+1) (mv K J f)=af .u8 k (mv K J f)++[Sum.inl (Value.int .u8 (mv K J f k))]:=by
   simp only[af,List.range_succ,List.map_append,List.map_cons,List.map_nil]
  by_cases EG:k%16=0
  ·have e0:((((k%16:Nat):Int))==0)=true:=by rw[EG];rfl
   by_cases vj:k=0
   ·simp only[RK,if_pos vj,if_neg (Nat.succ_ne_zero k),List.cons_append,List.nil_append,List.append_nil,vR,seval, -List.reduceReplicate]
    refine az (by simp;omega) ?_
    simp only[zm,e0,q16,u16,vR,seval, -List.reduceReplicate]
    refine ⟨by kernel_rfl, ?_⟩
    refine cI.draw (Fh J hJ ((k / 16:Nat):Int) (by omega) (by omega)) Tryz.yZ ?_
    simp only[vR,seval, -List.reduceReplicate]
    refine cI.draw (uX (ja J ((k / 16:Nat):Int)) (cM dM K 240) dM Cv 14 (by decide)) Tryz.nI ?_
    simp only[← eb,zm,aW,Li,cF hk,hs k hk,aA .u8 16 _ _ RJ,ec,one,vR,seval, -List.reduceReplicate]
    refine ⟨by kernel_rfl,by kernel_rfl, ?_⟩
    have hz:af .u8 k (mv K J f)=[]:=by rw[vj];rfl
    refine ji (m:=k+1) (news:=[Sum.inl (Value.int .u8 (mv K J f k))]) Tryz.bP Tryz.bR rfl (by decide) rfl (.inl ⟨45,0,1,⟨true,[Sum.inl (Value.int .u8 (mv K J f k))]⟩,by rw[vj],by simp only[ae,vR,seval, -List.reduceReplicate],by rw[vj];rfl,fun j u h=>by simpa using h,by decide⟩) (by omega) (by omega) (fun h=>by omega) ?_
    intro _ c' tail' g1 g2 g3
    simp only[bt k (by omega),vR,seval, -List.reduceReplicate]
    refine ⟨(c',tail'), .inr ⟨by simp only;omega,by simp only[g2];omega,g3⟩,18,46,Nat.le_refl _,by decide,fun x hx=> ?_,fun x hx=> ?_⟩
    ·simp only[List.mem_cons,List.not_mem_nil,or_false]at hx
     rcases hx with rfl | rfl | rfl | rfl | rfl | rfl | rfl
     all_goals refine ⟨rfl, ?_⟩
     all_goals simp[AV.ok,CV.ok,SV.names]
    ·simp only[List.mem_cons,List.not_mem_nil,or_false]at hx
     rcases hx with rfl | rfl | rfl | rfl | rfl | rfl
     ·exact ⟨.inl (by simp),rfl,by simp,hp⟩
     ·exact ⟨.inl (by simp),rfl,by simp,aw⟩
     ·exact ⟨.inl (by simp),rfl,by simp,aw⟩
     ·exact ⟨.inl (by simp),rfl,by simp,aw⟩
     ·exact ⟨.inl (by simp),rfl,by simp,aw⟩
     ·refine ⟨.inr rfl, ?_,by simp,cD g3⟩
      simp only[sap,hz,List.nil_append]
      rfl
   ·simp only[RK,if_neg vj,if_neg (Nat.succ_ne_zero k),List.cons_append,List.nil_append,vR,seval, -List.reduceReplicate]
    refine az (by simp;omega) ?_
    simp only[zm,e0,q16,u16,vR,seval, -List.reduceReplicate]
    refine ⟨by kernel_rfl, ?_⟩
    refine cI.draw (Fh J hJ ((k / 16:Nat):Int) (by omega) (by omega)) Tryz.yZ ?_
    simp only[vR,seval, -List.reduceReplicate]
    refine cI.draw (uX (ja J ((k / 16:Nat):Int)) (cM dM K 240) dM Cv 14 (by decide)) Tryz.nI ?_
    simp only[← eb,zm,aW,Li,cF hk,hs k hk,aA .u8 16 _ _ RJ,ec,one,vR,seval, -List.reduceReplicate]
    refine ⟨by kernel_rfl,by kernel_rfl, ?_⟩
    obtain ⟨i1,i2,i3⟩:=hinv.resolve_left vj
    simp only at i1 i2 i3
    refine jK (b:=18) (m:=1) (olds:=af .u8 k (mv K J f)) (news:=[Sum.inl (Value.int .u8 (mv K J f k))]) Tryz.bP Tryz.bR rfl (by decide) rfl (cs:=af .u8 k (mv K J f)++tail) (by simp only[ae,vR,seval, -List.reduceReplicate]) (by rw[List.length_append,ah];omega) i1 (by rw[ah,Nat.mul_one]) (fu dg) (cD i3)
     (.inl ⟨45,0,1,⟨true,[Sum.inl (Value.int .u8 (mv K J f k))]⟩,rfl,by simp only[ae,vR,seval, -List.reduceReplicate],rfl,fun j u h=>by simpa using h,by decide⟩) (by omega) (by omega) ?_
    intro c' tail' g1 g2 g3
    simp only[bt k (by omega),vR,seval, -List.reduceReplicate]
    refine ⟨(c',tail'), .inr ⟨by simp only;omega,by simp only[g2];omega,g3⟩,18,46,Nat.le_refl _,by decide,fun x hx=> ?_,fun x hx=> ?_⟩
    ·simp only[List.mem_cons,List.not_mem_nil,or_false]at hx
     rcases hx with rfl | rfl | rfl | rfl | rfl | rfl | rfl
     all_goals refine ⟨rfl, ?_⟩
     all_goals simp[AV.ok,CV.ok,SV.names]
    ·simp only[List.mem_cons,List.not_mem_nil,or_false]at hx
     rcases hx with rfl | rfl | rfl | rfl | rfl | rfl
     ·exact ⟨.inl (by simp),rfl,by simp,hp⟩
     ·exact ⟨.inl (by simp),rfl,by simp,aw⟩
     ·exact ⟨.inl (by simp),rfl,by simp,aw⟩
     ·exact ⟨.inl (by simp),rfl,by simp,aw⟩
     ·exact ⟨.inl (by simp),rfl,by simp,aw⟩
     ·refine ⟨.inr rfl, ?_,by simp,cD g3⟩
      simp only[sap]
      rfl
  ·have vj:k≠0:=fun h=>EG (by rw[h])
   have e0:((((k%16:Nat):Int))==0)=false:=by simp;omega
   have ebk:Np K J (k+1)=Np K J k:=by
    rw[eb];simp only[Np];rw[if_neg vj,show (k - 1) / 16=k / 16 by omega]
   rw[ebk]at ec
   simp only[RK,if_neg vj,if_neg (Nat.succ_ne_zero k),List.cons_append,List.nil_append,vR,seval, -List.reduceReplicate]
   refine az (by simp;omega) ?_
   simp only[zm,e0,ebk,aW,Li,cF hk,hs k hk,aA .u8 16 _ _ RJ,ec,one,vR,seval, -List.reduceReplicate]
   refine ⟨by kernel_rfl,by kernel_rfl, ?_⟩
   obtain ⟨i1,i2,i3⟩:=hinv.resolve_left vj
   simp only at i1 i2 i3
   refine jK (b:=18) (m:=1) (olds:=af .u8 k (mv K J f)) (news:=[Sum.inl (Value.int .u8 (mv K J f k))]) Tryz.bP Tryz.bR rfl (by decide) rfl (cs:=af .u8 k (mv K J f)++tail) (by simp only[ae,vR,seval, -List.reduceReplicate]) (by rw[List.length_append,ah];omega) i1 (by rw[ah,Nat.mul_one]) (fu dg) (cD i3)
    (.inl ⟨36,0,1,⟨true,[Sum.inl (Value.int .u8 (mv K J f k))]⟩,rfl,by simp only[ae,vR,seval, -List.reduceReplicate],rfl,fun j u h=>by simpa using h,by decide⟩) (by omega) (by omega) ?_
   intro c' tail' g1 g2 g3
   simp only[bt k (by omega),vR,seval, -List.reduceReplicate]
   refine ⟨(c',tail'), .inr ⟨by simp only;omega,by simp only[g2];omega,g3⟩,18,37,Nat.le_refl _,by decide,fun x hx=> ?_,fun x hx=> ?_⟩
   ·simp only[List.mem_cons,List.not_mem_nil,or_false]at hx
    rcases hx with rfl | rfl | rfl | rfl | rfl | rfl | rfl
    all_goals refine ⟨rfl, ?_⟩
    all_goals simp[AV.ok,CV.ok,SV.names]
   ·simp only[List.mem_cons,List.not_mem_nil,or_false]at hx
    rcases hx with rfl | rfl | rfl | rfl | rfl | rfl
    ·exact ⟨.inl (by simp),rfl,by simp,hp⟩
    ·exact ⟨.inl (by simp),rfl,by simp,aw⟩
    ·exact ⟨.inl (by simp),rfl,by simp,aw⟩
    ·exact ⟨.inl (by simp),rfl,by simp,aw⟩
    ·exact ⟨.inl (by simp),rfl,by simp,aw⟩
    ·refine ⟨.inr rfl, ?_,by simp,cD g3⟩
     simp only[sap]
     rfl
 ·rintro ⟨c1,tail⟩ hinv
  simp only[if_neg (show ¬ n=0 by omega),RK,List.cons_append,List.nil_append,vR,seval, -List.reduceReplicate]
  refine aD (by simp) ?_
  simp only[vR,seval, -List.reduceReplicate]
  obtain ⟨i1,i2,i3⟩:=hinv.resolve_left (by omega)
  refine dV (k:=1) (q:=18) (cs:=af .u8 n (mv K J f)++tail) (by decide) ?_ (cD i3) ⟨c1,tail,rfl,rfl,i1,i2,i3⟩
  simp only[vR,seval, -List.reduceReplicate]
theorem Z1 {o c:Nat} {K J:Nat→Int} {cs:List SV} (hK:br K) (hp:cs.all SV.plain=true):
  bf Tryz.prog 89 [Ag (af .u8 32 K),Ag (af .u8 16 J),Sl 0 o 0 c] 1 (lk [(0,⟨false,cs⟩)]) (fun v out=>v=V (.slice none 0 0)∧out=fun _=>none):=by
 refine av Tryz.func89 rfl (by kernel_rfl) (by simp[Tryz.ntmps89]) Tryz.pC (by simp[AV.ok,CV.ok,SV.names];exact ⟨aC aw,aC aw⟩) dG (dH hp) ?_
 simp only[Tryz.results89,vR,seval, -List.reduceReplicate]
 refine aD (by simp) ?_
 simp only[vR,seval, -List.reduceReplicate]
 refine GD.ax ?_
 simp only[vR,seval, -List.reduceReplicate]
 refine (lY K dM hK).ax ?_
 simp only[vR,seval, -List.reduceReplicate]
 refine aE 0 (fun k=>[(2,Sl 0 o 0 c),(9,V (.slice none 0 0)),(11,I .i64 k)]) (fun k=>[]) _ ?_ ?_ ?_
 ·simp only[vR,seval, -List.reduceReplicate]
  trivial
 ·intro j hj;omega
 ·simp only[vR,seval, -List.reduceReplicate]
  refine aD (by simp) ?_
  simp only[vR,seval, -List.reduceReplicate]
  exact ak rfl ⟨rfl,rfl⟩
theorem Z2 {a:Option Addr} {K J:Nat→Int} (hK:br K):cI Tryz.prog 89 [Ag (af .u8 32 K),Ag (af .u8 16 J),V (.slice a 0 0)] (V (.slice none 0 0)):=by
 refine aJ Tryz.func89 rfl (by kernel_rfl) (by simp[Tryz.ntmps89]) rfl rfl ?_
 simp only[Tryz.results89,vR,seval, -List.reduceReplicate]
 refine aD (by simp) ?_
 simp only[vR,seval, -List.reduceReplicate]
 refine GD.ax ?_
 simp only[vR,seval, -List.reduceReplicate]
 refine (lY K dM hK).ax ?_
 simp only[vR,seval, -List.reduceReplicate]
 refine aE 0 (fun k=>[(2,V (.slice a 0 0)),(9,V (.slice none 0 0)),(11,I .i64 k)]) (fun k=>[]) _ ?_ ?_ ?_
 ·simp only[vR,seval, -List.reduceReplicate]
  trivial
 ·intro j hj;omega
 ·simp only[vR,seval, -List.reduceReplicate]
  refine aD (by simp) ?_
  simp only[vR,seval, -List.reduceReplicate]
theorem RL {f g:Nat→Int}:splice (splice (splice (af .u8 80 g) 0 (af .u8 32 f)) 32 (af .u8 32 (fun i=>f (32+i)))) 64 (af .u8 16 (fun i=>f (64+i)))=af .u8 80 f:=by
 rw[mK .u8 80 32 0 _ _ (by decide),mK .u8 80 32 32 _ _ (by decide),mK .u8 80 16 64 _ _ (by decide)]
 refine aX fun i hi=> ?_
 by_cases h1:64≤i
 ·rw[if_pos (by omega),show 64+(i - 64)=i by omega]
 ·rw[if_neg (by omega)]
  by_cases h2:32≤i
  ·rw[if_pos (by omega),show 32+(i - 32)=i by omega]
  ·rw[if_neg (by omega),if_pos (by omega),Nat.sub_zero]
def jG (i:Nat):Int:=[114,97,116,99,104,101,116,32,115,101,97,108].getD i 0
theorem Cw:br jG:=fun i=>by
 by_cases h:i < 12
 ·have: ∀ j,j < 12→0≤jG j∧jG j < 256:=by decide
  exact this i h
 ·have:jG i=0:=by
   simp only[jG,List.getD_eq_getElem?_getD]
   rw[List.getElem?_eq_none (by simp;omega)];rfl
  rw[this];decide
def ry (mk:Nat→Int):Nat→Int:=jk kW cj (gx kW cj (fun _=>0) 32 mk 32) jG 12
theorem acH (p info:Nat→Int) (m c:Nat):br (sd kW cj p info m c):=vV _ _ _ _ _ _
theorem kt (mk:Nat→Int):br (ry mk):=fun i=>acH _ _ _ _ _
theorem lp (mk:Nat→Int) (hb:br mk):cI Tryz.prog 99 [Ag (af .u8 32 mk)] (Ag (af .u8 80 (ry mk))):=by
 refine aJ Tryz.func99 rfl (by kernel_rfl) (by simp[Tryz.ntmps99]) rfl rfl ?_
 have xF: ∀ r:Nat→Int,splice (af .u8 32 (fun _=>0)) 0 (af .u8 32 r)=af .u8 32 r:=fun r=>du .u8 32 _ _
 simp only[Tryz.results99,aj,xF,vR,seval, -List.reduceReplicate]
 refine ⟨by kernel_rfl,show 1≤1 by decide, ?_⟩
 refine Rm (Sj:=true) (MS:=true) (key:=fun _=>0) (f0:=mk) (n0:=32) (by simp only[ay];rfl) rfl (.inr ⟨0,0,32,true,af .u8 32 mk,rfl,by simp only[ae,vR,seval, -List.reduceReplicate],aw,aV⟩) hb (by simp only[ae,vR,seval, -List.reduceReplicate]) aw aV (fun _=>⟨Int.le_refl 0,by show (0:Int) < 256;decide⟩) (by decide) (by decide) (by decide) ?_
 obtain ⟨p,Wz⟩: ∃ p,gx kW cj (fun _=>0) 32 mk 32=p:=⟨_,rfl⟩
 have wg:br p:=by rw[← Wz];exact jj _ _ _ _ _ _
 have eS:ry mk=jk kW cj p jG 12:=by rw[ry,Wz]
 rw[Wz]
 simp only[vR,seval, -List.reduceReplicate]
 refine ⟨by decide,by decide,by decide,by decide,by decide,by decide,by decide,by decide,by decide,by decide,by decide, ?_⟩
 refine rI (xR (Post':=Made 1 80 (jk kW cj p jG 12)) (J7 (o:=0) (m:=12) (c:=12) (n:=80) (cs:=af .u8 12 jG) wg Cw aV aw (by decide) (by decide)) (fun v out h=>h.resolve_left (fun e=>by cases e.1))) (fun _=>9) (bS (rw:=true) (by simp only[ay];rfl) aw)
  (by simp only[List.map_cons,List.map_nil,fg,eF];rfl) (fun M h n _=>h (Sl 9 0 12 12) (List.Mem.tail _ (List.Mem.head _))) (by kernel_rfl) ?_
 intro c1 eU h1 h2 h3
 have n1:(c1=32)=False:=eq_false (by omega)
 have n2:(c1=64)=False:=eq_false (by omega)
 have l1:(32≤(c1:Int))=True:=eq_true (by omega)
 have l2:(64≤(c1:Int))=True:=eq_true (by omega)
 have l3:(80≤(c1:Int))=True:=eq_true (by omega)
 have len: ∀ m,m≤80→(m≤(af .u8 80 (jk kW cj p jG 12)++eU).length)=True:=fun m hm=>eq_true (by rw[List.length_append,ah];omega)
 have p0:=kT (n:=80) (m:=32) (f:=jk kW cj p jG 12) (tail:=eU) (by decide)
 have p1:=jr (n:=80) (a:=32) (m:=32) (f:=jk kW cj p jG 12) (tail:=eU) (by decide)
 have p2:=jr (n:=80) (a:=64) (m:=16) (f:=jk kW cj p jG 12) (tail:=eU) (by decide)
 simp only[n1,n2,l1,l2,l3,len 32 (by decide),len 64 (by decide),len 80 (by decide),p0,p1,p2,aj,RL,vR,seval, -List.reduceReplicate]
 have ls: ∀ (l:List SV) (o:Nat) (m:List SV),o+m.length≤l.length→(splice l o m).length=l.length:=fun l o m h=>jd l o m h
 refine ⟨by kernel_rfl, ?_, ?_,by rw[eS]⟩
 ·rw[ls _ _ _ (by rw[ah,ah];decide),ah];decide
 ·rw[ls _ _ _ (by rw[ls _ _ _ (by rw[ah,ah];decide),ah,ah];decide),ls _ _ _ (by rw[ah,ah];decide),ah];decide
theorem zn {x:Int}:bf Tryz.prog 120 [V (.slice none 0 0),I .u64 x] 0 (fun _=>none) (Made 0 8 (iO x)):=by
 refine av Tryz.func120 rfl (by kernel_rfl) (by simp[Tryz.ntmps120]) Tryz.nJ (by simp[AV.ok,CV.ok,SV.names]) tq tu ?_
 simp only[Tryz.results120,vR,seval, -List.reduceReplicate]
 refine ox (β:=Nat×List SV) 8 (fun k y=>k=0∨bK y.2 0 k y.1 (iO x))
  (fun k y=>[(0,if k=0 then V (.slice none 0 0) else Sl 30 0 k y.1),(1,I .u64 x),(5,I .i64 (56 - 8*(k:Int)))]) (fun k y=>if k=0 then [] else [(30,⟨true,y.2⟩)]) 31 (0,[]) ?_ ?_ ?_ (by show _≤31;simp only[AS.put];omega)
 ·refine ⟨.inl rfl,30,0, ?_⟩
  simp only[eP,if_true,iS,eF,lE,mL,vR,seval, -List.reduceReplicate]
  simp
  trivial
 ·rintro k ⟨c',cs'⟩ hk h1
  simp only at h1
  have eb:IntKind.u8.wrap (cy .u64 x (56 - 8*(k:Int)))=iO x k:=rfl
  have ws:IntKind.i64.wrap (56 - 8*(k:Int) - 8)=56 - 8*((k+1:Nat):Int):=by rw[wrap_i64 _ (by omega) (by omega)];omega
  rcases k with _ | k
  ·have eb:IntKind.u8.wrap (cy .u64 x 56)=iO x 0:=rfl
   have a0:(56 - 8*(0:Int))=56:=rfl
   have ws:IntKind.i64.wrap 48=56 - 8*1:=by decide
   simp only[a0,vR,seval, -List.reduceReplicate]
   refine az (by decide) ?_
   simp only[eb,vR,seval, -List.reduceReplicate]
   refine iM (g:=fun _=>iO x 0) Tryz.bP Tryz.bR (.inr ⟨_,_,_,true,[Sum.inl (.int .u8 (iO x 0))],rfl,by simp only[ay];rfl,rfl,b9⟩) (by decide) (fun h=>by cases h) ?_
   intro _ c2 mD gI
   simp only[ws,vR,seval, -List.reduceReplicate]
   refine ⟨(c2,mD), .inr (gI.congr rfl fun i hi=>by rw[show i=0 by omega]),30,39, ?_⟩
   simp only[eP,iS,eF,lE,mL,gI.plain,true_or,vR,seval, -List.reduceReplicate]
   simp
  ·have hg:=h1.resolve_left (by omega)
   have a2:(0≤56 - 8*((k+1:Nat):Int))=True:=eq_true (by omega)
   simp only[Nat.add_one_ne_zero,if_false,vR,seval, -List.reduceReplicate]
   refine az (by simp;omega) ?_
   simp only[a2,eb,vR,seval, -List.reduceReplicate]
   refine bp (g:=fun _=>iO x (k+1)) Tryz.bP Tryz.bR (by simp only[ae,vR,seval, -List.reduceReplicate]) hg (.inr ⟨_,0,1,true,[Sum.inl (.int .u8 (iO x (k+1)))],rfl,by simp only[ay];rfl,b9,by decide⟩) (by omega) ?_
   intro c2 mD gI
   simp only[ws,vR,seval, -List.reduceReplicate]
   refine ⟨(c2,mD), .inr (gI.congr rfl fun i hi=> ?_),30,39, ?_⟩
   ·simp only[aP];split
    ·rfl
    ·rw[show i=k+1 by omega]
   simp only[eP,iS,eF,lE,mL,gI.plain,true_or,vR,seval, -List.reduceReplicate]
   simp
 ·rintro ⟨c',cs'⟩ h1
  have h1:=h1.resolve_left (by decide)
  simp only at h1
  simp only[vR,seval, -List.reduceReplicate]
  refine aD (by decide) ?_
  simp only[vR,seval, -List.reduceReplicate]
  refine dV (k:=0) (q:=30) (cs:=cs') (by decide) ?_ h1.plain h1.made
  simp only[vR,seval, -List.reduceReplicate]
theorem Cx (x:Int):br (iO x):=fun i=>by simp only[iO,wrap_u8];omega
def aeU (na nb:Nat) (ad body:Nat→Int):Nat→Int:=aP (8+na) (aP 8 (iO (na:Int)) ad) body
def uY (K:Nat→Int) (na nb:Nat) (ad body:Nat→Int):Nat→Int:=gx kW cj (fun i=>K (32+i)) 32 (aeU na nb ad body) (8+na+nb)
theorem Yu {oa na ca ob nb cb:Nat} {K ad body:Nat→Int} {cs ds:List SV} (hK:br K) (ha:br ad) (hb:br body) (hs:aZ cs oa na ad) (hp:cs.all SV.plain=true) (hs':aZ ds ob nb body) (hq:ds.all SV.plain=true) (hna:na < 40000000) (hnb:nb < 40000000):
  bf Tryz.prog 101 [Ag (af .u8 80 K),Sl 0 oa na ca,Sl 1 ob nb cb] 2 (lk [(0,⟨false,cs⟩),(1,⟨false,ds⟩)]) (fun u out=>u=Ag (af .u8 32 (uY K na nb ad body))∧out=fun _=>none):=by
 refine av Tryz.func101 rfl (by kernel_rfl) (by simp[Tryz.ntmps101]) Tryz.yY (fun u hu=>by
  simp only[List.mem_cons,List.not_mem_nil,or_false]at hu
  rcases hu with rfl | rfl | rfl
  ·exact aC aw
  ·exact (by decide:0 < 2)
  ·exact (by decide:1 < 2)) lC (nU hp hq) ?_
 have hw:IntKind.u64.wrap (na:Int)=(na:Int):=au _ (by omega) (by omega)
 simp only[Tryz.results101,hw,vR,seval, -List.reduceReplicate]
 refine dS zn (fun n=>n) gF rfl ?_
 intro c1 eU h1 h2 h3
 simp only[vR,seval, -List.reduceReplicate]
 refine ⟨show 1≤3 by decide,show 2≤3 by decide,show 3≤3 by decide, ?_⟩
 have hk:aZ (af .u8 80 K) 32 32 (fun i=>K (32+i)):=fun i hi=>aA .u8 80 K (32+i) (by omega)
 refine rS (Sj:=true) (MS:=true) (ze:=af .u8 80 K) (key:=fun i=>K (32+i)) (n0:=8) (n1:=na) (n2:=nb) (f0:=iO (na:Int)) (f1:=ad) (f2:=body) (by simp only[ay,Gk]) rfl
  (.inr ⟨7,0,c1,true,af .u8 8 (iO (na:Int))++eU,rfl,by simp only[ae,vR,seval, -List.reduceReplicate],cD h3,dg⟩) (.inr ⟨0,oa,ca,false,cs,rfl,by simp only[ae,vR,seval, -List.reduceReplicate],hp,hs⟩) (.inr ⟨1,ob,cb,false,ds,rfl,by simp only[ae,vR,seval, -List.reduceReplicate],hq,hs'⟩)
  (Cx _) ha hb (by simp only[ae,vR,seval, -List.reduceReplicate]) aw hk (fun i=>hK _) (by decide) (by decide) (by omega) ?_
 simp only[vR,seval, -List.reduceReplicate]
 exact ak aw ⟨rfl,rfl⟩
theorem gG (k:IntKind) (n:Nat) (f:Nat→Int):cS k (af k n f)=some ((List.range n).map f):=by
 rw[af]
 generalize List.range n=l
 induction l with
 | nil=>rfl
 | cons a l ih=>simp only[List.map_cons,cS,ih,if_true]
theorem xor_zero {a b:Int} (ha:0≤a∧a < 256) (hb:0≤b∧b < 256):aU .xor .u8 a b=0↔a=b:=by
 obtain ⟨n,rfl,hn⟩:=GH ha
 obtain ⟨m,rfl,hm⟩:=GH hb
 rw[Dm n m hn hm]
 constructor
 ·intro h
  have h2:n ^^^ m=0:=by omega
  have:n=m:=by
   apply Nat.eq_of_testBit_eq
   intro i
   have:=congrArg (fun z=>z.testBit i) h2
   simp only[Nat.testBit_xor,Nat.zero_testBit]at this
   revert this
   cases n.testBit i<;>cases m.testBit i<;>simp
  rw[this]
 ·intro h
  have:n=m:=by omega
  rw[this,Nat.xor_self];rfl
def gN (x y:Nat→Int):Bool:=decide ((List.range 32).map x=(List.range 32).map y)
theorem nO (x y:Nat→Int) (hx:br x) (hy:br y):cI Tryz.prog 100 [Ag (af .u8 32 x),Ag (af .u8 32 y)] (B (gN x y)):=by
 refine aJ Tryz.func100 rfl (by kernel_rfl) (by simp[Tryz.ntmps100]) rfl rfl ?_
 simp only[Tryz.results100,vR,seval, -List.reduceReplicate]
 refine aE 32 (fun k=>[(2,Ptr 0 0),(3,Ptr 1 0),(5,Ptr 3 0),(7,I .i64 k)]) (fun k=>[(0,⟨true,af .u8 32 x⟩),(1,⟨true,af .u8 32 y⟩),(3,⟨true,af .u8 32 (fun i=>if i < k then aU .xor .u8 (x i) (y i) else 0)⟩)]) _ ?_ ?_ ?_
 ·simp only[Nat.not_lt_zero,if_false,vR,seval, -List.reduceReplicate]
 ·intro k hk
  have a1:((k:Int) < 32)=True:=bX (m:=32) hk
  have fin:af .u8 32 (upd (fun i=>if i < k then aU .xor .u8 (x i) (y i) else 0) k (aU .xor .u8 (x k) (y k)))=af .u8 32 (fun i=>if i < k+1 then aU .xor .u8 (x i) (y i) else 0):=fk
  simp only[vR,seval, -List.reduceReplicate]
  refine az (by simp;omega) ?_
  simp only[a1,aW,Nat.mul_one,aA .u8 32 _ k hk,aB .u8 32 _ k hk,fin,bt k (by omega),vR,seval, -List.reduceReplicate]
  exact ⟨by kernel_rfl,by omega⟩
 ·simp only[vR,seval, -List.reduceReplicate]
  refine aD (by simp) ?_
  simp only[dL,aj,gG,O4,vR,seval, -List.reduceReplicate]
  refine ⟨⟨by simp,by simp⟩, ?_⟩
  have:(List.map (fun i=>aU BinOp.xor IntKind.u8 (x i) (y i)) (List.range 32)=List.map (fun _=>0) (List.range 32))=(List.map x (List.range 32)=List.map y (List.range 32)):=by
   rw[eq_iff_iff,List.map_inj_left,List.map_inj_left]
   exact ⟨fun h i hi=>(xor_zero (hx i) (hy i)).1 (h i hi),fun h i hi=>(xor_zero (hx i) (hy i)).2 (h i hi)⟩
  show B (decide _)=B (decide _)
  simp only[this]
def gu (mk f:Nat→Int):Nat→Int:=pP (ry mk) (fun i=>ry mk (64+i)) f
def nc (mk:Nat→Int) (na n:Nat) (ad body:Nat→Int):Nat→Int:=uY (ry mk) na n ad body
theorem KJ (K J f:Nat→Int):br (pP K J f):=fun i=>iL _ _ _
theorem df:List.map Sum.inl (List.replicate 1 (Value.slice none 0 0)++List.replicate 32 (Value.int IntKind.u8 0))=(Sum.inl (Value.slice none 0 0)::af .u8 32 (fun _=>0):List SV):=rfl
theorem cB:(List.replicate 1 (Sum.inl (Value.slice none 0 0))++List.replicate 32 (Sum.inl (Value.int IntKind.u8 0)):List SV)=Sum.inl (Value.slice none 0 0)::af .u8 32 (fun _=>0):=rfl
theorem gO {a0 a:SV} {g:Nat→Int}:splice (a0::af .u8 32 g) 0 [a]=a::af .u8 32 g:=rfl
theorem gP {a:SV} {g r:Nat→Int}:splice (a::af .u8 32 g) 1 (af .u8 32 r)=a::af .u8 32 r:=by simp[splice,ah]
theorem gQ {a0 a:SV} {g r:Nat→Int}:splice (a0::af .u8 32 g) 0 (a::af .u8 32 r)=a::af .u8 32 r:=by simp[splice,ah]
theorem nP {a:SV} {g:Nat→Int}:(a::af .u8 32 g).length=33:=by simp[ah]
theorem wQ {a b:Nat} (h: ¬ (1048576 < a∨1048576 < b)):decide (1048576 < (a:Int))=false∧decide (1048576 < (b:Int))=false:=⟨decide_eq_false (by omega),decide_eq_false (by omega)⟩
def gY (k n:Nat):AV:= .inr [.inl (.inr (.inr (k,0,n,n))), .inl (.inl (.bool true))]
def ku:AV:= .inr [.inl (.inl (.slice none 0 0)), .inl (.inl (.bool false))]
theorem Cy {s:AS} {k q n:Nat} {cs:List SV} (hq:k≤q) (hb:s.box q=some ⟨true,cs⟩) (hp:cs.all SV.plain=true):qA k (fun v out=>v=gY k n∧out=lk [(k,⟨true,cs⟩)]) (gY q n) s:=by
 refine ⟨q,gY k n,lk [(k,⟨true,cs⟩)],hq, ?_, ?_,fun m b hm=> ?_,rfl,rfl⟩
 ·show gY q n=gY (kc k q k) n
  rw[iR]
 ·intro x hx
  simp only[List.mem_cons,List.not_mem_nil,or_false]at hx
  rcases hx with rfl | rfl
  ·exact Nat.lt_succ_self k
  ·trivial
 ·simp only[lk]at hm
  split at hm
  ·rename_i e
   simp only[Option.some.injEq]at hm;subst e hm
   exact ⟨Nat.lt_succ_self m,fun _=>rfl,aC hp,_,by rw[iR];exact hb,fun _=>rfl,(aQ hp _).symm⟩
  ·cases hm
theorem Z3 {oa na ca ob n cb:Nat} {mk ad f tag:Nat→Int} {cs ds:List SV} (hmk:br mk) (ha:br ad) (hf:br f) (ht:br tag) (hs:aZ cs oa na ad) (hp:cs.all SV.plain=true) (hs':aZ ds ob n f) (hq:ds.all SV.plain=true) (hg: ¬ (1048576 < na∨1048576 < n)) (hsame:gN tag (nc mk na n ad f)=true):
  bf Tryz.prog 81 [Ag (af .u8 32 mk),Sl 0 oa na ca,Ag (Sum.inr (Sum.inr (1,ob,n,cb))::af .u8 32 tag)] 2 (lk [(0,⟨false,cs⟩),(1,⟨false,ds⟩)]) (fun v out=>v=gY 2 n∧out=lk [(2,⟨true,af .u8 n (gu mk f)⟩)]):=by
 refine av Tryz.func81 rfl (by kernel_rfl) (by simp[Tryz.ntmps81]) Tryz.kR (fun u hu=>by
  simp only[List.mem_cons,List.not_mem_nil,or_false]at hu
  rcases hu with rfl | rfl | rfl
  ·exact aC aw
  ·exact (by decide:0 < 2)
  ·intro x hx
   rcases List.mem_cons.1 hx with rfl | hx
   ·exact ⟨(by decide:1 < 2),rfl⟩
   ·exact SV.bk (List.all_eq_true.1 aw x hx)) lC (nU hp hq) ?_
 obtain ⟨d1,d2⟩:=wQ hg
 simp only[Tryz.results81,vR,seval, -List.reduceReplicate]
 refine eJ (rw:=false) (by simp only[ae,vR,seval, -List.reduceReplicate]) hp ?_
 simp only[d1,nP,vR,seval, -List.reduceReplicate]
 refine eJ (rw:=false) (by simp only[ae,vR,seval, -List.reduceReplicate]) hq ?_
 simp only[d2,vR,seval, -List.reduceReplicate]
 refine (lp mk hmk).ax ?_
 have t0:=kT (n:=80) (m:=32) (f:=ry mk) (tail:=[]) (by decide)
 have t2:=jr (n:=80) (a:=64) (m:=16) (f:=ry mk) (tail:=[]) (by decide)
 rw[List.append_nil]at t0 t2
 have tt:List.take 32 (af .u8 32 tag)=af .u8 32 tag:=ft _ _ _
 simp only[aj,du,t0,t2,tt,nP,vR,seval, -List.reduceReplicate]
 refine ⟨by kernel_rfl, ?_⟩
 refine (Yu (ca:=ca) (cb:=cb) (kt mk) ha hf hs hp hs' hq (by omega) (by omega)).cQ (two 0 1) (ie (rw:=false) (rw':=false) (by simp only[ae,vR,seval, -List.reduceReplicate]) hp (by simp only[ae,vR,seval, -List.reduceReplicate]) hq) aw (by simp only[List.map_cons,List.map_nil,fg,eF];rfl) (fun M h m hm=> ?_) ?_
 ·have a:=h (Sl 0 oa na ca) (List.Mem.tail _ (List.Mem.head _))
  have b:=h (Sl 1 ob n cb) (List.Mem.tail _ (List.Mem.tail _ (List.Mem.head _)))
  simp only[two];split
  ·exact a
  ·exact b
 simp only[vR,seval, -List.reduceReplicate]
 refine cI.draw (nO tag (uY (ry mk) na n ad f) ht (jj _ _ _ _ _ _)) Tryz.nF ?_
 have ng:gN tag (uY (ry mk) na n ad f)=true:=hsame
 simp only[ng,t0,t2,Bool.not_true,vR,seval, -List.reduceReplicate]
 refine KI (acD (c:=cb) (kt mk) (fun i=>kt mk (64+i)) hs' hq (by omega)) aw (fun _=>1) (bS (rw:=false) (by simp only[ae,vR,seval, -List.reduceReplicate]) hq) (by simp only[List.map_cons,List.map_nil,fg,eF]) ?_
 simp only[vR,seval, -List.reduceReplicate]
 exact Cy (by decide) (by simp only[ae,vR,seval, -List.reduceReplicate];rfl) aw
theorem RM {oa na ca ob n cb:Nat} {mk ad f tag:Nat→Int} {cs ds:List SV} (hmk:br mk) (ha:br ad) (hf:br f) (ht:br tag) (hs:aZ cs oa na ad) (hp:cs.all SV.plain=true) (hs':aZ ds ob n f) (hq:ds.all SV.plain=true) (hg: ¬ (1048576 < na∨1048576 < n)) (hsame:gN tag (nc mk na n ad f)=false):
  bf Tryz.prog 81 [Ag (af .u8 32 mk),Sl 0 oa na ca,Ag (Sum.inr (Sum.inr (1,ob,n,cb))::af .u8 32 tag)] 2 (lk [(0,⟨false,cs⟩),(1,⟨false,ds⟩)]) (fun v out=>v=ku∧out=fun _=>none):=by
 refine av Tryz.func81 rfl (by kernel_rfl) (by simp[Tryz.ntmps81]) Tryz.kR (fun u hu=>by
  simp only[List.mem_cons,List.not_mem_nil,or_false]at hu
  rcases hu with rfl | rfl | rfl
  ·exact aC aw
  ·exact (by decide:0 < 2)
  ·intro x hx
   rcases List.mem_cons.1 hx with rfl | hx
   ·exact ⟨(by decide:1 < 2),rfl⟩
   ·exact SV.bk (List.all_eq_true.1 aw x hx)) lC (nU hp hq) ?_
 obtain ⟨d1,d2⟩:=wQ hg
 simp only[Tryz.results81,vR,seval, -List.reduceReplicate]
 refine eJ (rw:=false) (by simp only[ae,vR,seval, -List.reduceReplicate]) hp ?_
 simp only[d1,nP,vR,seval, -List.reduceReplicate]
 refine eJ (rw:=false) (by simp only[ae,vR,seval, -List.reduceReplicate]) hq ?_
 simp only[d2,vR,seval, -List.reduceReplicate]
 refine (lp mk hmk).ax ?_
 have t0:=kT (n:=80) (m:=32) (f:=ry mk) (tail:=[]) (by decide)
 have t2:=jr (n:=80) (a:=64) (m:=16) (f:=ry mk) (tail:=[]) (by decide)
 rw[List.append_nil]at t0 t2
 have tt:List.take 32 (af .u8 32 tag)=af .u8 32 tag:=ft _ _ _
 simp only[aj,du,t0,t2,tt,nP,vR,seval, -List.reduceReplicate]
 refine ⟨by kernel_rfl, ?_⟩
 refine (Yu (ca:=ca) (cb:=cb) (kt mk) ha hf hs hp hs' hq (by omega) (by omega)).cQ (two 0 1) (ie (rw:=false) (rw':=false) (by simp only[ae,vR,seval, -List.reduceReplicate]) hp (by simp only[ae,vR,seval, -List.reduceReplicate]) hq) aw (by simp only[List.map_cons,List.map_nil,fg,eF];rfl) (fun M h m hm=> ?_) ?_
 ·have a:=h (Sl 0 oa na ca) (List.Mem.tail _ (List.Mem.head _))
  have b:=h (Sl 1 ob n cb) (List.Mem.tail _ (List.Mem.tail _ (List.Mem.head _)))
  simp only[two];split
  ·exact a
  ·exact b
 simp only[vR,seval, -List.reduceReplicate]
 refine cI.draw (nO tag (uY (ry mk) na n ad f) ht (jj _ _ _ _ _ _)) Tryz.nF ?_
 have ng:gN tag (uY (ry mk) na n ad f)=false:=hsame
 simp only[ng,Bool.not_false,vR,seval, -List.reduceReplicate]
 exact ak (v:=ku) rfl ⟨rfl,rfl⟩
theorem KK (mk:Nat→Int) (hb:br mk):bf Tryz.prog 66 [Ag (af .u8 32 mk)] 0 (fun _=>none) (Made 0 80 (ry mk)):=by
 refine av Tryz.func66 rfl (by kernel_rfl) (by simp[Tryz.ntmps66]) Tryz.uA (fun u hu=>by rw[List.mem_singleton.1 hu];exact aC aw) tq tu ?_
 simp only[Tryz.results66,vR,Value.oneCell',Nat.reduceAdd,Nat.reduceMul,Nat.reduceSub,Nat.reduceLT,Nat.reduceLeDiff,Nat.reduceEqDiff,Int.reduceLE,Int.reduceLT,Int.reduceToNat,Int.reduceNe,Int.reduceEq,Nat.reduceBEq,Nat.reduceDiv,Int.reduceAdd,Int.reduceSub,reduceIte,↓reduceIte,reduceCtorEq]
 refine ⟨by kernel_rfl,by decide,by decide,by decide,by decide,by decide,by decide,by decide,by decide,by decide,by decide,by decide,by decide, ?_⟩
 refine wy (t0:=2) (t1:=0) (t2:=4) (nk:=32) (m:=32) (q:=12) (N:=80) (r0:=true) (r1:=true) (r2:=true) (sh:=fun _=>0) (f:=mk) (info:=jG) (cs:=af .u8 32 (fun _=>0)) (ds:=af .u8 32 mk) (es:=af .u8 12 jG)
  (fun _=>⟨Int.le_refl 0,by show (0:Int) < 256;decide⟩) hb Cw (by simp only[ae,vR,Value.oneCell',Nat.reduceAdd,Nat.reduceMul,Nat.reduceSub,Nat.reduceLT,Nat.reduceLeDiff,Nat.reduceEqDiff,Int.reduceLE,Int.reduceLT,Int.reduceToNat,Int.reduceNe,Int.reduceEq,Nat.reduceBEq,Nat.reduceDiv,Int.reduceAdd,Int.reduceSub,reduceIte,↓reduceIte,reduceCtorEq]) aw (by simp only[ae,vR,Value.oneCell',Nat.reduceAdd,Nat.reduceMul,Nat.reduceSub,Nat.reduceLT,Nat.reduceLeDiff,Nat.reduceEqDiff,Int.reduceLE,Int.reduceLT,Int.reduceToNat,Int.reduceNe,Int.reduceEq,Nat.reduceBEq,Nat.reduceDiv,Int.reduceAdd,Int.reduceSub,reduceIte,↓reduceIte,reduceCtorEq]) aw (by simp only[ay];rfl) aw
  (.inr ⟨0,32,rfl,aV⟩) (.inr ⟨0,32,rfl,aV⟩) (.inr ⟨0,12,rfl,aV⟩) (by decide) (by kernel_rfl) ?_
 intro c tail h1 h2 h3
 simp only[vR,Value.oneCell',Nat.reduceAdd,Nat.reduceMul,Nat.reduceSub,Nat.reduceLT,Nat.reduceLeDiff,Nat.reduceEqDiff,Int.reduceLE,Int.reduceLT,Int.reduceToNat,Int.reduceNe,Int.reduceEq,Nat.reduceBEq,Nat.reduceDiv,Int.reduceAdd,Int.reduceSub,reduceIte,↓reduceIte,reduceCtorEq]
 exact fF (f:=ry mk) (by decide) (bK.row h1 h2 h3) (by simp only[ay];rfl) rfl
theorem Z4 {x:Int} (h0:0≤x) (h1:x < 18446744073709551616):bf Tryz.prog 87 [I .u64 x] 0 (fun _=>none) (Made 0 8 (iO x)):=by
 refine av Tryz.func87 rfl (by kernel_rfl) (by simp[Tryz.ntmps87]) Tryz.pB (by simp[AV.ok,CV.ok,SV.names]) tq tu ?_
 simp only[Tryz.results87,vR,Value.oneCell',Nat.reduceAdd,Nat.reduceMul,Nat.reduceSub,Nat.reduceLT,Nat.reduceLeDiff,Nat.reduceEqDiff,Int.reduceLE,Int.reduceLT,Int.reduceToNat,Int.reduceNe,Int.reduceEq,Nat.reduceBEq,Nat.reduceDiv,Int.reduceAdd,Int.reduceSub,reduceIte,↓reduceIte,reduceCtorEq]
 refine kL (zO _) (fun n=>n) gF rfl ?_
 simp only[vR,Value.oneCell',Nat.reduceAdd,Nat.reduceMul,Nat.reduceSub,Nat.reduceLT,Nat.reduceLeDiff,Nat.reduceEqDiff,Int.reduceLE,Int.reduceLT,Int.reduceToNat,Int.reduceNe,Int.reduceEq,Nat.reduceBEq,Nat.reduceDiv,Int.reduceAdd,Int.reduceSub,reduceIte,↓reduceIte,reduceCtorEq]
 refine kL (zO _) (fun n=>n) gF rfl ?_
 simp only[vR,Value.oneCell',Nat.reduceAdd,Nat.reduceMul,Nat.reduceSub,Nat.reduceLT,Nat.reduceLeDiff,Nat.reduceEqDiff,Int.reduceLE,Int.reduceLT,Int.reduceToNat,Int.reduceNe,Int.reduceEq,Nat.reduceBEq,Nat.reduceDiv,Int.reduceAdd,Int.reduceSub,reduceIte,↓reduceIte,reduceCtorEq]
 refine bp (g:=cH (IntKind.u32.wrap x)) Tryz.bP Tryz.bR (f:=cH (IntKind.u32.wrap (cy .u64 x 32))) (b:=4) (cs:=af .u8 4 (cH (IntKind.u32.wrap (cy .u64 x 32)))) (by simp only[ae,vR,Value.oneCell',Nat.reduceAdd,Nat.reduceMul,Nat.reduceSub,Nat.reduceLT,Nat.reduceLeDiff,Nat.reduceEqDiff,Int.reduceLE,Int.reduceLT,Int.reduceToNat,Int.reduceNe,Int.reduceEq,Nat.reduceBEq,Nat.reduceDiv,Int.reduceAdd,Int.reduceSub,reduceIte,↓reduceIte,reduceCtorEq])
  ⟨by rw[ah],by decide,aw,aV⟩ (.inr ⟨9,0,4,true,af .u8 4 (cH (IntKind.u32.wrap x)),rfl,by simp only[ae,vR,Value.oneCell',Nat.reduceAdd,Nat.reduceMul,Nat.reduceSub,Nat.reduceLT,Nat.reduceLeDiff,Nat.reduceEqDiff,Int.reduceLE,Int.reduceLT,Int.reduceToNat,Int.reduceNe,Int.reduceEq,Nat.reduceBEq,Nat.reduceDiv,Int.reduceAdd,Int.reduceSub,reduceIte,↓reduceIte,reduceCtorEq],aV,by decide⟩) (by decide) ?_
 intro c2 mD gI
 simp only[vR,Value.oneCell',Nat.reduceAdd,Nat.reduceMul,Nat.reduceSub,Nat.reduceLT,Nat.reduceLeDiff,Nat.reduceEqDiff,Int.reduceLE,Int.reduceLT,Int.reduceToNat,Int.reduceNe,Int.reduceEq,Nat.reduceBEq,Nat.reduceDiv,Int.reduceAdd,Int.reduceSub,reduceIte,↓reduceIte,reduceCtorEq]
 refine fF (k:=0) (by decide) (gI.congr (m:=8) rfl fun i hi=> ?_) (by simp only[ae,vR,Value.oneCell',Nat.reduceAdd,Nat.reduceMul,Nat.reduceSub,Nat.reduceLT,Nat.reduceLeDiff,Nat.reduceEqDiff,Int.reduceLE,Int.reduceLT,Int.reduceToNat,Int.reduceNe,Int.reduceEq,Nat.reduceBEq,Nat.reduceDiv,Int.reduceAdd,Int.reduceSub,reduceIte,↓reduceIte,reduceCtorEq]) rfl
 have e4: ∀ x:Int,IntKind.u32.wrap x=x%4294967296:=wrap_u32
 have s32:cy .u64 x 32=x / 4294967296:=ez .u64 _ 32 (by decide)
 rw[s32]
 have sz:cy .u64 x 0=x:=by have:=ez .u64 x 0 (by decide);simpa using this
 have V5: ∀ x:Int,cy .u32 x 24=x / 16777216:=fun x=>ez .u32 x 24 (by decide)
 have Ti: ∀ x:Int,cy .u32 x 16=x / 65536:=fun x=>ez .u32 x 16 (by decide)
 have s8: ∀ x:Int,cy .u32 x 8=x / 256:=fun x=>ez .u32 x 8 (by decide)
 have b56:cy .u64 x 56=x / 72057594037927936:=ez .u64 _ 56 (by decide)
 have b48:cy .u64 x 48=x / 281474976710656:=ez .u64 _ 48 (by decide)
 have b40:cy .u64 x 40=x / 1099511627776:=ez .u64 _ 40 (by decide)
 have b32:cy .u64 x 32=x / 4294967296:=ez .u64 _ 32 (by decide)
 have b24:cy .u64 x 24=x / 16777216:=ez .u64 _ 24 (by decide)
 have b16:cy .u64 x 16=x / 65536:=ez .u64 _ 16 (by decide)
 have b8:cy .u64 x 8=x / 256:=ez .u64 _ 8 (by decide)
 have hc:i=0∨i=1∨i=2∨i=3∨i=4∨i=5∨i=6∨i=7:=by omega
 rcases hc with rfl | rfl | rfl | rfl | rfl | rfl | rfl | rfl
 ·show cH _ 0=_
  simp only[cH,iO]
  show IntKind.u8.wrap (cy .u32 _ 24)=IntKind.u8.wrap (cy .u64 x 56)
  rw[V5,b56,e4,wrap_u8,wrap_u8];omega
 ·show cH _ 1=_
  simp only[cH,iO]
  show IntKind.u8.wrap (cy .u32 _ 16)=IntKind.u8.wrap (cy .u64 x 48)
  rw[Ti,b48,e4,wrap_u8,wrap_u8];omega
 ·show cH _ 2=_
  simp only[cH,iO]
  show IntKind.u8.wrap (cy .u32 _ 8)=IntKind.u8.wrap (cy .u64 x 40)
  rw[s8,b40,e4,wrap_u8,wrap_u8];omega
 ·show cH _ 3=_
  simp only[cH,iO]
  show IntKind.u8.wrap (cy .u32 _ 0)=IntKind.u8.wrap (cy .u64 x 32)
  rw[Rk,b32,e4,wrap_u8,wrap_u8];omega
 ·show cH _ 0=_
  simp only[cH,iO]
  show IntKind.u8.wrap (cy .u32 _ 24)=IntKind.u8.wrap (cy .u64 x 24)
  rw[V5,b24,e4,wrap_u8,wrap_u8];omega
 ·show cH _ 1=_
  simp only[cH,iO]
  show IntKind.u8.wrap (cy .u32 _ 16)=IntKind.u8.wrap (cy .u64 x 16)
  rw[Ti,b16,e4,wrap_u8,wrap_u8];omega
 ·show cH _ 2=_
  simp only[cH,iO]
  show IntKind.u8.wrap (cy .u32 _ 8)=IntKind.u8.wrap (cy .u64 x 8)
  rw[s8,b8,e4,wrap_u8,wrap_u8];omega
 ·show cH _ 3=_
  simp only[cH,iO]
  show IntKind.u8.wrap (cy .u32 _ 0)=IntKind.u8.wrap (cy .u64 x 0)
  rw[Rk,sz,e4,wrap_u8,wrap_u8];omega
theorem Xa {k co na nb:Nat} {l:List (Nat×aN)} {va vb vo:AV} {K ad body:Nat→Int} (hg:Handed k l) (hK:br K) (ha:br ad) (hb:br body) (ho:Arg k l vo 80 K) (F8: ∃ t o,vo=Sl t o 80 co∧80≤co) (Qt:Arg k l va na ad) (hvb:Arg k l vb nb body) (hna:na < 40000000) (hnb:nb < 40000000):
  bf Tryz.prog 67 [vo,va,vb] k (lk l) (fun u out=>u=Ag (af .u8 32 (uY K na nb ad body))∧out=fun _=>none):=by
 refine av Tryz.func67 rfl (by kernel_rfl) (by simp[Tryz.ntmps67]) Tryz.Mz (fun u hu=>by
  simp only[List.mem_cons,List.not_mem_nil,or_false]at hu
  rcases hu with rfl | rfl | rfl
  ·exact ho.ok
  ·exact Qt.ok
  ·exact hvb.ok) hg.all hg.kD ?_
 have hw:IntKind.u64.wrap (na:Int)=(na:Int):=au _ (by omega) (by omega)
 have hk:=hg.le
 simp only[Tryz.results67,iW Qt.at_,hw,vR,Value.oneCell',Nat.reduceAdd,Nat.reduceMul,Nat.reduceSub,Nat.reduceLT,Nat.reduceLeDiff,Nat.reduceEqDiff,Int.reduceLE,Int.reduceLT,Int.reduceToNat,Int.reduceNe,Int.reduceEq,Nat.reduceBEq,Nat.reduceDiv,Int.reduceAdd,Int.reduceSub,reduceIte,↓reduceIte,reduceCtorEq]
 refine dS (Z4 (by omega) (by omega)) (fun n=>n) gF rfl ?_
 intro c1 eU h1 h2 h3
 simp only[vR,Value.oneCell',Nat.reduceAdd,Nat.reduceMul,Nat.reduceSub,Nat.reduceLT,Nat.reduceLeDiff,Nat.reduceEqDiff,Int.reduceLE,Int.reduceLT,Int.reduceToNat,Int.reduceNe,Int.reduceEq,Nat.reduceBEq,Nat.reduceDiv,Int.reduceAdd,Int.reduceSub,reduceIte,↓reduceIte,reduceCtorEq]
 refine bp (g:=ad) Tryz.bP Tryz.bR (by simp only[ay]) (bK.row (f:=iO (na:Int)) h1 h2 h3) (oz Qt.at_ Qt.ok (by omega) (fun t ht=>by simp only[upd];rw[if_neg (by omega),if_neg (by omega)])) (by omega) ?_
 intro c2 mD gI
 simp only[vR,Value.oneCell',Nat.reduceAdd,Nat.reduceMul,Nat.reduceSub,Nat.reduceLT,Nat.reduceLeDiff,Nat.reduceEqDiff,Int.reduceLE,Int.reduceLT,Int.reduceToNat,Int.reduceNe,Int.reduceEq,Nat.reduceBEq,Nat.reduceDiv,Int.reduceAdd,Int.reduceSub,reduceIte,↓reduceIte,reduceCtorEq]
 refine bp (g:=body) Tryz.bP Tryz.bR (by simp only[ay]) gI (oz hvb.at_ hvb.ok (by omega) (fun t ht=>by simp only[upd];rw[if_neg (by omega),if_neg (by omega),if_neg (by omega),if_neg (by omega)])) (by omega) ?_
 intro c3 xP nu
 obtain ⟨t,o,rfl,aeW⟩:=F8
 have ht:t < k:=ho.ok
 obtain ⟨t',o',c',rw,cs,e,l6,hp,hs⟩:=rJ ho.at_ (by decide)
 cases e
 have n1:(co=32)=False:=eq_false (by omega)
 have l2:(64≤(co:Int))=True:=eq_true (by omega)
 simp only[n1,l2,vR,Value.oneCell',Nat.reduceAdd,Nat.reduceMul,Nat.reduceSub,Nat.reduceLT,Nat.reduceLeDiff,Nat.reduceEqDiff,Int.reduceLE,Int.reduceLT,Int.reduceToNat,Int.reduceNe,Int.reduceEq,Nat.reduceBEq,Nat.reduceDiv,Int.reduceAdd,Int.reduceSub,reduceIte,↓reduceIte,reduceCtorEq]
 refine iE (rwa:=rw) (Yn:=true) (key:=fun i=>K (32+i)) (f:=aP (8+na) (aP 8 (iO (na:Int)) ad) body) (cs:=cs) (ds:=xP) (fun i=>hK _) (fH (fH (Cx _) ha) hb) (by simp only[upd];rw[if_neg (by omega),if_neg (by omega),if_neg (by omega),if_neg (by omega),if_neg (by omega),if_neg (by omega)];exact l6) (jM hs 32 32 (by decide)) hp (by simp only[ay]) nu.shows nu.plain (by decide) (by omega) ?_
 have q1:(k=k+1+5+4+2)=False:=eq_false (by omega)
 have q2:(k=k+1+5+2)=False:=eq_false (by omega)
 have q3:(k=k+1+3)=False:=eq_false (by omega)
 simp only[q1,q2,q3,vR,Value.oneCell',Nat.reduceAdd,Nat.reduceMul,Nat.reduceSub,Nat.reduceLT,Nat.reduceLeDiff,Nat.reduceEqDiff,Int.reduceLE,Int.reduceLT,Int.reduceToNat,Int.reduceNe,Int.reduceEq,Nat.reduceBEq,Nat.reduceDiv,Int.reduceAdd,Int.reduceSub,reduceIte,↓reduceIte,reduceCtorEq]
 exact ak aw ⟨rfl,rfl⟩
theorem U3 {k co n:Nat} {l:List (Nat×aN)} {vd vo:AV} {K f:Nat→Int} (hg:Handed k l) (hK:br K) (hf:br f) (ho:Arg k l vo 80 K) (F8: ∃ t o,vo=Sl t o 80 co∧80≤co) (Qu:Arg k l vd n f) (hn:n≤1048576):
  bf Tryz.prog 68 [vo,vd] k (lk l) (Bytes k n (pP K (fun i=>K (64+i)) f)):=by
 refine av Tryz.func68 rfl (by kernel_rfl) (by simp[Tryz.ntmps68]) Tryz.uB (fun u hu=>by
  simp only[List.mem_cons,List.not_mem_nil,or_false]at hu
  rcases hu with rfl | rfl
  ·exact ho.ok
  ·exact Qu.ok) hg.all hg.kD ?_
 have hk:=hg.le
 obtain ⟨t,o,rfl,aeW⟩:=F8
 have ht:t < k:=ho.ok
 obtain ⟨t',o',c',rw,cs,e,l6,hp,hs⟩:=rJ ho.at_ (by decide)
 cases e
 have n2:(co=64)=False:=eq_false (by omega)
 have l1:(32≤(co:Int))=True:=eq_true (by omega)
 have l2:(80≤(co:Int))=True:=eq_true (by omega)
 simp only[Tryz.results68,n2,l1,l2,vR,Value.oneCell',Nat.reduceAdd,Nat.reduceMul,Nat.reduceSub,Nat.reduceLT,Nat.reduceLeDiff,Nat.reduceEqDiff,Int.reduceLE,Int.reduceLT,Int.reduceToNat,Int.reduceNe,Int.reduceEq,Nat.reduceBEq,Nat.reduceDiv,Int.reduceAdd,Int.reduceSub,reduceIte,↓reduceIte,reduceCtorEq]
 refine ⟨by kernel_rfl,by kernel_rfl, ?_⟩
 refine vG Tryz.bP Tryz.bR (cs:=af .u8 32 (fun _=>0)) (bx:=⟨rw,cs⟩) (news:=af .u8 32 K) (by simp only[upd];rw[if_neg (by omega)];exact if_pos trivial) (by simp only[upd];rw[if_neg (by omega),if_neg (by omega)];exact l6) (by rw[ah];rfl) (fu (mM hs (by decide))) (by rw[ah];decide) ?_
 have c1:splice (af .u8 32 (fun _=>0)) 0 (af .u8 32 K)=af .u8 32 K:=du _ _ _ _
 simp only[n2,l1,l2,c1,vR,Value.oneCell',Nat.reduceAdd,Nat.reduceMul,Nat.reduceSub,Nat.reduceLT,Nat.reduceLeDiff,Nat.reduceEqDiff,Int.reduceLE,Int.reduceLT,Int.reduceToNat,Int.reduceNe,Int.reduceEq,Nat.reduceBEq,Nat.reduceDiv,Int.reduceAdd,Int.reduceSub,reduceIte,↓reduceIte,reduceCtorEq]
 refine ⟨by kernel_rfl,by kernel_rfl, ?_⟩
 refine vG Tryz.bP Tryz.bR (cs:=af .u8 16 (fun _=>0)) (bx:=⟨rw,cs⟩) (news:=af .u8 16 (fun i=>K (64+i))) (by simp only[upd];rw[if_neg (by omega)];exact if_pos trivial) (by simp only[upd];rw[if_neg (by omega),if_neg (by omega),if_neg (by omega)];exact l6) (by rw[ah];rfl) (fu (jM hs 64 16 (by decide))) (by rw[ah];decide) ?_
 have c2:splice (af .u8 16 (fun _=>0)) 0 (af .u8 16 (fun i=>K (64+i)))=af .u8 16 (fun i=>K (64+i)):=du _ _ _ _
 have q1:(k+1=k+2)=False:=eq_false (by omega)
 simp only[n2,l1,l2,c2,q1,vR,Value.oneCell',Nat.reduceAdd,Nat.reduceMul,Nat.reduceSub,Nat.reduceLT,Nat.reduceLeDiff,Nat.reduceEqDiff,Int.reduceLE,Int.reduceLT,Int.reduceToNat,Int.reduceNe,Int.reduceEq,Nat.reduceBEq,Nat.reduceDiv,Int.reduceAdd,Int.reduceSub,reduceIte,↓reduceIte,reduceCtorEq]
 have hJ:br (fun i=>K (64+i)):=fun i=>hK _
 have eC: ∀ i,i < n→mv K (fun i=>K (64+i)) f i=pP K (fun i=>K (64+i)) f i:=fun i _=>(Z0 hK i).symm
 rcases Qu.at_ with ⟨⟨a,rfl⟩,rfl⟩ | ⟨td,od,cd,rwd,ds,rfl,hbd,hq,hsd⟩
 ·refine (Z2 hK).ax ?_
  simp only[vR,Value.oneCell',Nat.reduceAdd,Nat.reduceMul,Nat.reduceSub,Nat.reduceLT,Nat.reduceLeDiff,Nat.reduceEqDiff,Int.reduceLE,Int.reduceLT,Int.reduceToNat,Int.reduceNe,Int.reduceEq,Nat.reduceBEq,Nat.reduceDiv,Int.reduceAdd,Int.reduceSub,reduceIte,↓reduceIte,reduceCtorEq]
  exact ak (v:=V (.slice none 0 0)) rfl (.inl ⟨rfl,rfl,rfl⟩)
 ·have htd:td < k:=Qu.ok
  by_cases h0:n=0
  ·subst h0
   refine (Z1 (J:=fun i=>K (64+i)) (o:=od) (c:=cd) hK hq).cW (fun _=>td) (bS (rw:=rwd) (by simp only[upd];rw[if_neg (by omega),if_neg (by omega),if_neg (by omega),if_neg (by omega)];exact hbd) hq) rfl (by simp only[List.map_cons,List.map_nil,fg,eF]) ?_
   simp only[vR,Value.oneCell',Nat.reduceAdd,Nat.reduceMul,Nat.reduceSub,Nat.reduceLT,Nat.reduceLeDiff,Nat.reduceEqDiff,Int.reduceLE,Int.reduceLT,Int.reduceToNat,Int.reduceNe,Int.reduceEq,Nat.reduceBEq,Nat.reduceDiv,Int.reduceAdd,Int.reduceSub,reduceIte,↓reduceIte,reduceCtorEq]
   exact ak (v:=V (.slice none 0 0)) rfl (.inl ⟨rfl,rfl,rfl⟩)
  ·refine dS (acG (o:=od) (c:=cd) hK hJ hsd hq hn (by omega)) (fun _=>td) (bS (rw:=rwd) (by simp only[upd];rw[if_neg (by omega),if_neg (by omega),if_neg (by omega),if_neg (by omega)];exact hbd) hq) (by simp only[List.map_cons,List.map_nil,fg,eF]) ?_
   intro c3 Yv h1 h2 h3
   simp only[vR,Value.oneCell',Nat.reduceAdd,Nat.reduceMul,Nat.reduceSub,Nat.reduceLT,Nat.reduceLeDiff,Nat.reduceEqDiff,Int.reduceLE,Int.reduceLT,Int.reduceToNat,Int.reduceNe,Int.reduceEq,Nat.reduceBEq,Nat.reduceDiv,Int.reduceAdd,Int.reduceSub,reduceIte,↓reduceIte,reduceCtorEq]
   have eR:af .u8 n (mv K (fun i=>K (64+i)) f)=af .u8 n (pP K (fun i=>K (64+i)) f):=aX eC
   rw[eR]
   exact dV (k:=k) (q:=k+1+1+1+4+4+3) (cs:=af .u8 n (pP K (fun i=>K (64+i)) f)++Yv) (by omega) (by simp only[ay]) (cD h3) (.inr ⟨c3,Yv,rfl,rfl,h1,h2,h3⟩)
theorem nh {s:AS} {k n:Nat} {l:List (Nat×aN)} {r:Nat→Nat} {L:List AV} {v:AV} {f:Nat→Int} (h:Bc s k l r L) (hk:k < 20) (hv:bG s.box v n f):
  ∃ k' l' r' v',k'≤k+1∧Bc s k' l' r' (v::L)∧Arg k' l' v' n f∧AV.aI r' v'=v∧ ∀ u m g,Arg k l u m g→Arg k' l' u m g∧AV.aI r' u=AV.aI r u:=by
 rcases hv with ⟨⟨a,rfl⟩,h0⟩ | ⟨t,o,c,rw,cs,rfl,hb,hp,hs⟩
 ·exact ⟨k,l,r,V (.slice a 0 0),by omega,⟨h.good,h.fits,fun M hM=>h.named M fun u hu=>hM u (List.Mem.tail _ hu)⟩,⟨.inl ⟨⟨_,rfl⟩,h0⟩,trivial⟩,rfl,fun u m g hu=>⟨hu,rfl⟩⟩
 ·exact rL h hk (.inr ⟨o,c,rfl,hs⟩) hb hp
theorem Fk {k o co to:Nat} {l:List (Nat×aN)} {r:Nat→Nat} {v:AV} {f:Nat→Int} (h:Arg k l v 80 f) (e:AV.aI r v=Sl to o 80 co) (hc:80≤co): ∃ t o,v=Sl t o 80 co∧80≤co:=by
 obtain ⟨t',o',c',rw,cs,rfl,_⟩:=rJ h.at_ (by decide)
 rw[eF]at e
 cases e
 exact ⟨t',_,rfl,hc⟩
theorem KL {s:AS} {nm to o co n:Nat} {vd:AV} {K f:Nat→Int} (hK:br K) (hf:br f) (ho:bG s.box (Sl to o 80 co) 80 K) (F8:80≤co) (hd:bG s.box vd n f) (hn:n≤1048576) {dst:Option Nat} {K':AS→Prop}
  (h0:n=0→K' (s.put dst (some (V (.slice none 0 0)))))
  (h1: ∀ c tail,n≤c→tail.length=c - n→tail.all SV.plain=true→K' ((⟨s.env,upd s.box nm (some ⟨true,af .u8 n (pP K (fun i=>K (64+i)) f)++tail⟩),s.next⟩:AS).put dst (some (Sl nm 0 n c)))):
  ax Tryz.prog nm 68 (some [Sl to o 80 co,vd]) dst K' s:=by
 obtain ⟨k1,l1,r1,v1,q1,P1,A1,e1,_⟩:=nh (s:=s) rK (by decide) hd
 obtain ⟨k2,l2,r2,v2,q2,P2,A2,e2,T2⟩:=nh P1 (by omega) ho
 obtain ⟨B1,f1⟩:=T2 _ _ _ A1
 refine (U3 (co:=co) P2.good hK hf A2 (Fk A2 e2 F8) B1 hn).ax r2 none P2.fits (by simp only[List.map_cons,List.map_nil,e2,f1,e1]) ?_
 rintro v out (⟨g0,rfl,rfl⟩ | ⟨c,tail,rfl,rfl,g1,g2,g3⟩) _
 ·have e:after s r2 k2 nm none (fun _=>none)=s.box:=by funext x;simp[after]
  rw[e]
  exact h0 g0
 ·rw[fN (cD g3)]
  have e:AV.aI (dJ r2 k2 nm) (Sl k2 0 n c)=Sl nm 0 n c:=by show Sl (dJ r2 k2 nm k2) 0 n c=_;rw[gT]
  rw[e]
  exact h1 c tail g1 g2 g3
theorem KM {s:AS} {to o co na nb:Nat} {va vb:AV} {K ad body:Nat→Int} (ho:bG s.box (Sl to o 80 co) 80 K) (F8:80≤co) (ha:bG s.box va na ad) (hb:bG s.box vb nb body):
  ∃ k l r v0 v1 v2,Bc s k l r [Sl to o 80 co,va,vb]∧Arg k l v0 80 K∧(∃ t o,v0=Sl t o 80 co∧80≤co)∧Arg k l v1 na ad∧Arg k l v2 nb body∧[Sl to o 80 co,va,vb]=[v0,v1,v2].map (AV.aI r):=by
 obtain ⟨k1,l1,r1,v1,q1,P1,A1,e1,_⟩:=nh (s:=s) rK (by decide) hb
 obtain ⟨k2,l2,r2,v2,q2,P2,A2,e2,T2⟩:=nh P1 (by omega) ha
 obtain ⟨k3,l3,r3,v3,q3,P3,A3,e3,T3⟩:=nh P2 (by omega) ho
 obtain ⟨B1,f1⟩:=T2 _ _ _ A1
 obtain ⟨C1,g1⟩:=T3 _ _ _ B1
 obtain ⟨C2,g2⟩:=T3 _ _ _ A2
 exact ⟨k3,l3,r3,v3,v2,v1,P3,A3,Fk A3 e3 F8,C2,C1,by simp only[List.map_cons,List.map_nil,e3,g2,e2,g1,f1,e1]⟩
theorem Cz {s:AS} {nm to o co na nb:Nat} {va vb:AV} {K ad body:Nat→Int} (hK:br K) (hab:br ad) (hbb:br body) (ho:bG s.box (Sl to o 80 co) 80 K) (F8:80≤co) (ha:bG s.box va na ad) (hb:bG s.box vb nb body) (hna:na < 40000000) (hnb:nb < 40000000) {ops:Array Oper} {i:Nat} {dst:Option Nat} {K':AS→Prop}
  (hk:K' (s.put dst (some (Ag (af .u8 32 (uY K na nb ad body)))))):ov Tryz.prog ops i nm 67 (some [Sl to o 80 co,va,vb]) dst K' s:=by
 obtain ⟨k,l,r,v0,v1,v2,P,A0,hc,A1,A2,e⟩:=KM ho F8 ha hb
 exact (Xa (co:=co) P.good hK hab hbb A0 hc A1 A2 hna hnb).cQ r P.fits aw e (fun M h=>P.named M h) hk
theorem qG {s:AS} {k:Nat} {P Q:AV→(Nat→Option aN)→Prop} {v:AV} (h:qA k P v s) (hi: ∀ v out,P v out→Q v out):qA k Q v s:=by
 obtain ⟨q,v0,out,h1,h2,h3,h4,h5⟩:=h
 exact ⟨q,v0,out,h1,h2,h3,h4,hi _ _ h5⟩
def RN (k n:Nat) (body:Nat→Int) (v:AV) (out:Nat→Option aN):Prop:=
 (n=0∧v= .inr [.inl (.inl (.slice none 0 0)), .inl (.inl (.bool true))]∧out=fun _=>none)∨ ∃ c tail,v= .inr [.inl (.inr (.inr (k,0,n,c))), .inl (.inl (.bool true))]∧out=lk [(k,⟨true,af .u8 n body++tail⟩)]∧n≤c∧tail.length=c - n∧tail.all SV.plain=true
theorem KN (x y:Nat→Int):R' .neq 32 (cS .u8 (af .u8 32 x)) (cS .u8 (af .u8 32 y))=some (some (B (!gN x y)),none):=by
 rw[gG,gG,FI,if_pos ⟨by simp,by simp⟩];rfl
theorem Yw {k n:Nat} {l:List (Nat×aN)} {sv:SV} {f:Nat→Int} (h:Arg k l (.inl (.inl sv)) n f):SV.ok (fun n=>n < k) sv:=by
 rcases h.at_ with ⟨⟨a,e⟩,_⟩ | ⟨t,o,c,rw,cs,e,_⟩
 ·cases e;exact ⟨trivial,rfl⟩
 ·cases e;exact ⟨h.ok,rfl⟩
theorem U4 {s:AS} {k q n c:Nat} {cs:List SV} (hq:k≤q) (hb:s.box q=some ⟨true,cs⟩) (hp:cs.all SV.plain=true):qA k (fun v out=>v= .inr [.inl (.inr (.inr (k,0,n,c))), .inl (.inl (.bool true))]∧out=lk [(k,⟨true,cs⟩)]) (.inr [.inl (.inr (.inr (q,0,n,c))), .inl (.inl (.bool true))]) s:=by
 refine ⟨q, .inr [.inl (.inr (.inr (k,0,n,c))), .inl (.inl (.bool true))],lk [(k,⟨true,cs⟩)],hq, ?_, ?_,fun m b hm=> ?_,rfl,rfl⟩
 ·show (Sum.inr [Sum.inl (Sum.inr (Sum.inr (q,0,n,c))),Sum.inl (Sum.inl (Value.bool true))]:AV)=Sum.inr [Sum.inl (Sum.inr (Sum.inr (kc k q k,0,n,c))),Sum.inl (Sum.inl (Value.bool true))]
  rw[iR]
 ·intro x hx
  simp only[List.mem_cons,List.not_mem_nil,or_false]at hx
  rcases hx with rfl | rfl
  ·exact Nat.lt_succ_self k
  ·trivial
 ·simp only[lk]at hm
  split at hm
  ·rename_i e
   simp only[Option.some.injEq]at hm;subst e hm
   exact ⟨Nat.lt_succ_self m,fun _=>rfl,aC hp,_,by rw[iR];exact hb,fun _=>rfl,(aQ hp _).symm⟩
  ·cases hm
theorem RO {k na n:Nat} {l:List (Nat×aN)} {va:AV} {sv:SV} {mk ad f tag:Nat→Int} (hg:Handed k l) (hmk:br mk) (ha:br ad) (hf:br f) (Qt:Arg k l va na ad) (Qu:Arg k l (.inl (.inl sv)) n f) (RP: ¬ (1048576 < na∨1048576 < n)) (hsame:gN (nc mk na n ad f) tag=true):
  bf Tryz.prog 40 [Ag (af .u8 32 mk),va,Ag (sv::af .u8 32 tag)] k (lk l) (RN k n (gu mk f)):=by
 refine av Tryz.func40 rfl (by kernel_rfl) (by simp[Tryz.ntmps40]) Tryz.pq (fun u hu=>by
  simp only[List.mem_cons,List.not_mem_nil,or_false]at hu
  rcases hu with rfl | rfl | rfl
  ·exact aC aw
  ·exact Qt.ok
  ·intro x hx
   rcases List.mem_cons.1 hx with rfl | hx
   ·exact Yw Qu
   ·exact SV.bk (List.all_eq_true.1 aw x hx)) hg.all hg.kD ?_
 have hk:=hg.le
 obtain ⟨d1,d2⟩:=wQ RP
 have q1:(k=k+1)=False:=eq_false (by omega)
 simp only[Tryz.results40,iW Qt.at_,iW Qu.at_,d1,d2,q1,nP,vR,seval]
 refine dS (KK mk hmk) (fun n=>n) gF (by simp only[List.map_cons,List.map_nil,fg]) ?_
 intro c1 eU h1 h2 h3
 have hbb:br (gu mk f):=KJ _ _ _
 obtain ⟨T,hT⟩: ∃ T,uY (ry mk) na n ad f=T:=⟨_,rfl⟩
 have ng:gN T tag=true:=by rw[← hT];exact hsame
 have hO:aZ (af .u8 80 (ry mk)++eU) 0 80 (ry mk):=dg
 have pO:=cD (n:=80) (f:=ry mk) h3
 have q2:(k+1=k+4+9+1)=False:=eq_false (by omega)
 have tt:List.take 32 (af .u8 32 tag)=af .u8 32 tag:=ft _ _ _
 have hmono: ∀ (t:Nat) (b:aN),lk l t=some b→t≠k∧t≠k+1∧t≠k+4+9+1:=fun t b hb=>by
  have:=(hg.qn _ (bu _ _ _ hb)).1
  simp only at this
  omega
 simp only[q1,q2,tt,nP,vR,seval]
 refine ⟨by kernel_rfl, ?_⟩
 refine Cz (ad:=ad) (body:=f) (nb:=n) (kt mk) ha hf (.inr ⟨_,_,_,true,_,rfl,by simp only[ay],pO,hO⟩) h1 (mh Qt.at_ fun t b hb=> ?_) (mh Qu.at_ fun t b hb=> ?_) (by omega) (by omega) ?_
 ·obtain ⟨a1,a2,a3⟩:=hmono t b hb
  simp only[upd];rw[if_neg a3,if_neg a2,if_neg a1];exact hb
 ·obtain ⟨a1,a2,a3⟩:=hmono t b hb
  simp only[upd];rw[if_neg a3,if_neg a2,if_neg a1];exact hb
 rw[hT]
 simp only[q1,q2,tt,nP,KN,ng,Bool.not_true,vR,seval]
 refine KL (kt mk) hf (.inr ⟨_,_,_,true,_,rfl,by simp only[ay],pO,hO⟩) h1 (mh Qu.at_ fun t b hb=> ?_) (by omega) (fun hn0=> ?_) (fun c2 wz g1 g2 g3=> ?_)
 ·obtain ⟨a1,a2,a3⟩:=hmono t b hb
  simp only[upd];rw[if_neg a3,if_neg a2,if_neg a1];exact hb
 ·simp only[vR,seval]
  exact ak (v:= .inr [.inl (.inl (.slice none 0 0)), .inl (.inl (.bool true))]) rfl (.inl ⟨hn0,rfl,rfl⟩)
 ·simp only[vR,seval]
  exact qG (U4 (k:=k) (n:=n) (c:=c2) (cs:=af .u8 n (gu mk f)++wz) (by omega) (by simp only[ay];rfl) (cD g3)) (fun v out h=> .inr ⟨c2,wz,h.1,h.2,g1,g2,g3⟩)
theorem GL {k na n:Nat} {l:List (Nat×aN)} {va:AV} {sv:SV} {mk ad f tag:Nat→Int} (hg:Handed k l) (hmk:br mk) (ha:br ad) (hf:br f) (Qt:Arg k l va na ad) (Qu:Arg k l (.inl (.inl sv)) n f) (RP: ¬ (1048576 < na∨1048576 < n)) (hsame:gN (nc mk na n ad f) tag=false):
  bf Tryz.prog 40 [Ag (af .u8 32 mk),va,Ag (sv::af .u8 32 tag)] k (lk l) (fun v out=>v=ku∧out=fun _=>none):=by
 refine av Tryz.func40 rfl (by kernel_rfl) (by simp[Tryz.ntmps40]) Tryz.pq (fun u hu=>by
  simp only[List.mem_cons,List.not_mem_nil,or_false]at hu
  rcases hu with rfl | rfl | rfl
  ·exact aC aw
  ·exact Qt.ok
  ·intro x hx
   rcases List.mem_cons.1 hx with rfl | hx
   ·exact Yw Qu
   ·exact SV.bk (List.all_eq_true.1 aw x hx)) hg.all hg.kD ?_
 have hk:=hg.le
 obtain ⟨d1,d2⟩:=wQ RP
 have q1:(k=k+1)=False:=eq_false (by omega)
 simp only[Tryz.results40,iW Qt.at_,iW Qu.at_,d1,d2,q1,nP,vR,seval]
 refine dS (KK mk hmk) (fun n=>n) gF (by simp only[List.map_cons,List.map_nil,fg]) ?_
 intro c1 eU h1 h2 h3
 have hbb:br (gu mk f):=KJ _ _ _
 obtain ⟨T,hT⟩: ∃ T,uY (ry mk) na n ad f=T:=⟨_,rfl⟩
 have ng:gN T tag=false:=by rw[← hT];exact hsame
 have hO:aZ (af .u8 80 (ry mk)++eU) 0 80 (ry mk):=dg
 have pO:=cD (n:=80) (f:=ry mk) h3
 have q2:(k+1=k+4+9+1)=False:=eq_false (by omega)
 have tt:List.take 32 (af .u8 32 tag)=af .u8 32 tag:=ft _ _ _
 have hmono: ∀ (t:Nat) (b:aN),lk l t=some b→t≠k∧t≠k+1∧t≠k+4+9+1:=fun t b hb=>by
  have:=(hg.qn _ (bu _ _ _ hb)).1
  simp only at this
  omega
 simp only[q1,q2,tt,nP,vR,seval]
 refine ⟨by kernel_rfl, ?_⟩
 refine Cz (ad:=ad) (body:=f) (nb:=n) (kt mk) ha hf (.inr ⟨_,_,_,true,_,rfl,by simp only[ay],pO,hO⟩) h1 (mh Qt.at_ fun t b hb=> ?_) (mh Qu.at_ fun t b hb=> ?_) (by omega) (by omega) ?_
 ·obtain ⟨a1,a2,a3⟩:=hmono t b hb
  simp only[upd];rw[if_neg a3,if_neg a2,if_neg a1];exact hb
 ·obtain ⟨a1,a2,a3⟩:=hmono t b hb
  simp only[upd];rw[if_neg a3,if_neg a2,if_neg a1];exact hb
 rw[hT]
 simp only[q1,q2,tt,nP,KN,ng,Bool.not_false,vR,seval]
 exact ak (v:=ku) rfl ⟨rfl,rfl⟩
theorem Xb {s:AS} {nm t n:Nat} {v:AV} {rw:Bool} {f:Nat→Int} {cs:List SV} (hb:s.box t=some ⟨rw,cs⟩) (hp:cs.all SV.plain=true) (hv:eH t v n f cs) (hn:n+64≤140737488355328) {dst:Option Nat} {K:AS→Prop}
  (hk: ∀ c tail,n+64≤c→tail.length=c - (n+64)→tail.all SV.plain=true→K ((⟨s.env,upd s.box nm (some ⟨true,af .u8 n f++(af .u8 64 (fun _=>0)++tail)⟩),s.next⟩:AS).put dst (some (fE nm n c)))):ax Tryz.prog nm 5 (some [v]) dst K s:=by
 rcases hv with ⟨⟨a,rfl⟩,rfl⟩ | ⟨o,c,rfl,hs⟩
 ·exact Fj ZV (fun n=>n) gF rfl hk
 ·exact Fj (ZU hs hp hn) (fun _=>t) (bS hb hp) rfl hk
theorem Xc {s:AS} {nm t u n c:Nat} {v:AV} {rw rw':Bool} {f:Nat→Int} {tail cs:List SV} (hb:s.box u=some ⟨rw,af .u8 n f++(af .u8 64 (fun _=>0)++tail)⟩) (ht:tail.all SV.plain=true) (hc:n+64≤c) (hb':s.box t=some ⟨rw',cs⟩) (hp:cs.all SV.plain=true) (hv:eH t v n f cs) (hn:n < 4611686018427387904) {dst:Option Nat} {K:AS→Prop}
  (hk:K (s.put dst (some (B true)))):ax Tryz.prog nm 13 (some [fE u n c,v]) dst K s:=by
 rcases hv with ⟨⟨a,rfl⟩,rfl⟩ | ⟨o,c',rfl,hs⟩
 ·exact (ZY hc ht).cW (fun _=>u) (bS hb (kr ht)) rfl rfl hk
 ·exact (ZX hc hn ht hs hp).cW (two u t) (ie hb (kr ht) hb' hp) rfl rfl hk
theorem wR (a b:SV):splice [Sum.inl (Value.slice none 0 0),Sum.inl (Value.int IntKind.i64 0)] 0 [a,b]=[a,b]:=rfl
theorem Z5 {r:Nat→Nat} {v:AV} {sv:SV} {k n:Nat} {l:List (Nat×aN)} {f:Nat→Int} (h:Arg k l v n f) (e:AV.aI r v= .inl (.inl sv)): ∃ xj,v= .inl (.inl xj)∧SV.aI r xj=sv:=by
 rcases v with (x | y) | z
 ·simp only[AV.aI,CV.aI]at e
  cases e
  exact ⟨x,rfl,rfl⟩
 ·simp[AV.aI,CV.aI]at e
 ·simp[AV.aI]at e
def KO (aG:Nat→Int) (pn n:Int):Nat→Int:=xW aG pn n 0 (fun _=>0) (fun _=>0)
def acI (k:Nat) (aG:Nat→Int) (pn n:Int) (v:AV) (out:Nat→Option aN):Prop:= ∃ c cs,v=Sl k 0 41 c∧41≤c∧aZ cs 0 41 (KO aG pn n)∧cs.all SV.plain=true∧out=lk [(k,⟨true,cs⟩)]
theorem Dn {aG:Nat→Int} {pn n:Int}:bf Tryz.prog 82 [Ag (lQ aG pn n)] 0 (fun _=>none) (acI 0 aG pn n):=by
 refine av Tryz.func82 rfl (by kernel_rfl) (by simp[Tryz.ntmps82]) Tryz.uG (fun y hy=>by
  obtain rfl:=List.mem_singleton.1 hy
  exact AV.bk dU) (fun n hn=>by omega) (fun n b hb=>by cases hb) ?_
 simp only[Tryz.results82,bV,uT,pM,vR,seval, -List.reduceReplicate]
 refine KA (t:=0) (rw:=true) (cs:=lQ aG pn n) (m:=0) (body:=fun _=>0) (by simp only[ae,vR,seval, -List.reduceReplicate]) kV (.inl ⟨⟨none,rfl⟩,rfl⟩) (fun h=>absurd h (by decide)) (fun _ c cs hg=> ?_)
 have hr:=hg.room
 have l1:((41:Int)≤(c:Int))=True:=eq_true (by omega)
 simp only[l1,vR,seval, -List.reduceReplicate]
 exact dV (k:=0) (q:=4) (by decide) (by simp only[ae,vR,seval, -List.reduceReplicate]) hg.plain ⟨c,cs,rfl,by omega,fun i hi=>hg.shows i (by omega),hg.plain,rfl⟩
theorem wT {s:AS} {nm:Nat} {aG:Nat→Int} {pn n:Int} {dst:Option Nat} {K:AS→Prop}
  (hk: ∀ c cs,41≤c→aZ cs 0 41 (KO aG pn n)→cs.all SV.plain=true→K ((⟨s.env,upd s.box nm (some ⟨true,cs⟩),s.next⟩:AS).put dst (some (Sl nm 0 41 c)))):bA Tryz.prog nm 82 (some [Ag (lQ aG pn n)]) dst K s:=by
 refine (Dn (aG:=aG) (pn:=pn) (n:=n)).bA (fun n=>n) gF ?_ ?_
 ·simp only[List.map_cons,List.map_nil,AV.bB dU]
 ·rintro v out ⟨c,cs,rfl,hc,hs,hp,rfl⟩
  have l0:lk [(0,(⟨true,cs⟩:aN))] 0=some ⟨true,cs⟩:=rfl
  have e:AV.aI (bI (fun n=>n) 0 nm) (Sl 0 0 41 c)=Sl nm 0 41 c:=by show Sl (bI _ 0 nm 0) 0 41 c=_;rw[iN]
  rw[l0,fh hp,e]
  exact hk c cs hc hs hp
theorem pQ (k:Nat→Int) (x:Int):br (qk k x):=jj _ _ _ _ _ _
theorem Z6:br (fun _=>0):=fun i=>by show (0:Int)≤0∧(0:Int) < 256;decide
theorem Xd {aG tag body:Nat→Int} {pn n:Int} {m:Nat} (ic:br aG) (aeY:br tag) (hbody:br body):br (xW aG pn n m body tag):=by
 have aeZ:br (fun _=>(210:Int)):=fun i=>by show (0:Int)≤210∧(210:Int) < 256;decide
 have jb: ∀ {k:Nat} {f g:Nat→Int},br f→br g→br (aP k f g):=fun hf hg i=>by
  simp only[aP];split
  ·exact hf i
  ·exact hg _
 exact jb (jb (jb (jb (jb (jb aeZ ic) (Bu _)) (Bu _)) (Bu _)) hbody) aeY
theorem GM {aG:Nat→Int} {pn n:Int} (h:br aG):br (KO aG pn n):=Xd h Z6 Z6
theorem CA {s:AS} {p z n:Nat} {f:Nat→En} {sv:SV} {bx:Option aN} {rw:Bool} {cs:List SV} (hK:iT p n f sv bx) (hb:s.box p=bx) (hf:s.box z=some ⟨rw,cs⟩) (hp:cs.all SV.plain=true):
  ∃ u rw' ds,(u=p∨u=z)∧s.box u=some ⟨rw',ds⟩∧ds.all SV.plain=true∧aH u sv n f ds:=by
 rcases hK with ⟨h0,rfl,rfl⟩ | ⟨h0,c,ds,rfl,hg,rfl⟩
 ·exact ⟨z,rw,cs, .inr rfl,hf,hp, .inl ⟨⟨none,rfl⟩,h0⟩⟩
 ·exact ⟨p,true,ds, .inl rfl,hb,hg.plain, .inr ⟨0,c,rfl,hg.room,hg.shows⟩⟩
theorem Qv (r x:Nat→Int):br (Ll r x):=fun i=>by
 unfold Ll jk
 rw[sd]
 exact jj _ _ _ _ _ _ _
def yb (f g:Nat→Int):Bool:=decide ((List.range 32).map f=(List.range 32).map g)
theorem kv (f g:Nat→Int):R' .eql 32 (cS .u8 (af .u8 32 f)) (cS .u8 (af .u8 32 g))=some (some (B (yb f g)),none):=by
 rw[gG,gG];simp[R',yb]
def GN (e:En) (aG:Nat→Int) (n:Int):Bool:=yb e.aG aG&&(e.n==n)
theorem Nq {e:En} {aG:Nat→Int} {pn n:Int}:
  bf Tryz.prog 54 [Ag (gB e),Ptr 0 0] 1 (lk [(0,⟨false,lQ aG pn n⟩)]) (fun v out=>v=B (GN e aG n)∧out=fun _=>none):=by
 refine av Tryz.func54 rfl (by kernel_rfl) (by simp[Tryz.ntmps54]) Tryz.uq (fun y hy=>by
  simp only[List.mem_cons,List.not_mem_nil,or_false]at hy
  rcases hy with rfl | rfl
  ·exact Yd
  ·exact (show 0 < 1 by decide)) dG (dH kV) ?_
 rcases Bool.eq_false_or_eq_true (yb e.aG aG) with h | h
 ·simp only[Tryz.results54,h,kv,bV,bw,vR,seval]
  exact ak rfl ⟨by simp[GN,h],rfl⟩
 ·simp only[Tryz.results54,h,kv,bV,bw,vR,seval]
  exact ak rfl ⟨by simp[GN,h],rfl⟩
def lM (f:Nat→En) (aG:Nat→Int) (x:Int):Nat→Option Nat
 | 0=>none
 | n+1=>match lM f aG x n with
  | some i=>some i
  | none=>if GN (f n) aG x=true then some n else none
def RQ (o:Option Nat):Int:=match o with
 | some i=>i
 | none=> -1
theorem yc {f:Nat→En} {aG:Nat→Int} {x:Int} {i j:Nat} (h:lM f aG x j=some i): ∀ n,j≤n→lM f aG x n=some i
 | 0,hn=>by
  obtain rfl:j=0:=by omega
  exact h
 | n+1,hn=>by
  by_cases e:j=n+1
  ·subst e;exact h
  ·rw[lM,yc h n (by omega)]
abbrev kfV (t:Nat):AV:=V (.func (.func 54) #[] ⟨[.pointer (some ⟨t,0,none⟩)]⟩)
theorem KP {sv:SV} {n:Nat} {f:Nat→En} {cs:List SV} {aG:Nat→Int} {pn x:Int} (h0:aH 0 sv n f cs) (hp:cs.all SV.plain=true) (hn:n < 4611686018427387904):
  bf Tryz.prog 53 [.inl (.inl sv),kfV 1] 2 (lk [(0,⟨false,cs⟩),(1,⟨false,lQ aG pn x⟩)]) (fun v out=>v=I .i64 (RQ (lM f aG x n))∧out=fun _=>none):=by
 refine av Tryz.func53 rfl (by kernel_rfl) (by simp[Tryz.ntmps53]) Tryz.uo (fun y hy=>by
  simp only[List.mem_cons,List.not_mem_nil,or_false]at hy
  rcases hy with rfl | rfl
  ·exact (h0.ok (M:=fun n=>n < 2) (by decide)).1
  ·simp only[kfV,tE];decide) lC (nU hp kV) ?_
 have fO: ∀ {M:Nat→Prop},(∀ x ∈ cs,SV.ok M x)=True:=eq_true (aC hp)
 have jX: ∀ {M:Nat→Prop},(∀ y ∈ lQ aG pn x,SV.ok M y)=True:=eq_true (aC kV)
 have hl:=h0.len
 simp only[Tryz.results53,hl,vR,seval]
 refine qE n (fun k=>lM f aG x k=none) (fun k=>[(0, .inl (.inl sv)),(1,kfV 1),(4,I .i64 0),(7,I .i64 n),(8,I .i64 k)]) (fun k=>[(0,⟨false,cs⟩),(1,⟨false,lQ aG pn x⟩)]) _ ?_ ?_ ?_
 ·refine ⟨rfl, ?_⟩
  simp only[fO,jX,kfV,vR,seval]
  exact (h0.ok (M:=fun n=>n < 6) (by decide)).1
 ·intro j hj hinv
  have h1:=h0
  rcases h0 with ⟨_,rfl⟩ | ⟨o,c,rfl,hc,hsh⟩
  ·omega
  have b1:=hsh.lt hj
  simp only[vR,seval]
  refine az (by simp;omega) ?_
  simp only[kfV,aW,cF hj,hsh j hj,b1,bw,vR,seval]
  refine (Nq (e:=f j) (aG:=aG) (pn:=pn) (n:=x)).cW (fun _=>1) (bS (rw:=false) (by simp only[ae,vR,seval]) kV) rfl ?_ ?_
  ·have h2:AV.aI (fun _=>1) (Ag (gB (f j)))=Ag (gB (f j)):=AV.bB (show AV.plain (Ag (gB (f j)))=true from jO (e:=f j)) _
   simp only[List.map_cons,List.map_nil,h2];rfl
  rcases Bool.eq_false_or_eq_true (GN (f j) aG x) with g | g
  ·have e:lM f aG x n=some j:=yc (j:=j+1) (by rw[lM,hinv];simp only[g,if_true]) n (by omega)
   simp only[g,e,RQ,vR,seval]
   exact ak rfl ⟨rfl,rfl⟩
  ·have e:lM f aG x (j+1)=none:=by rw[lM,hinv];simp[g]
   simp only[g,e,fO,jX,bt j (by omega),vR,seval]
 ·intro hinv
  simp only[vR,seval]
  refine aD (by simp) ?_
  simp only[hinv,RQ,vR,seval]
  exact ak rfl ⟨rfl,rfl⟩
theorem RR {sv:SV} {n:Nat} {f:Nat→En} {cs:List SV} {aG:Nat→Int} {pn x:Int} (h0:aH 0 sv n f cs) (hp:cs.all SV.plain=true) (hn:n < 4611686018427387904):
  bf Tryz.prog 29 [.inl (.inl sv),Ag (lQ aG pn x)] 1 (lk [(0,⟨false,cs⟩)]) (fun v out=>v=I .i64 (RQ (lM f aG x n))∧out=fun _=>none):=by
 refine av Tryz.func29 rfl (by kernel_rfl) (by simp[Tryz.ntmps29]) Tryz.tW (fun y hy=>by
  simp only[List.mem_cons,List.not_mem_nil,or_false]at hy
  rcases hy with rfl | rfl
  ·exact (h0.ok (M:=fun n=>n < 1) (by decide)).1
  ·exact AV.bk dU) dG (dH hp) ?_
 simp only[Tryz.results29,bV,vR,seval]
 refine (KP (aG:=aG) (pn:=pn) (x:=x) h0 hp hn).cW (two 0 1) (ie (rw:=false) (rw':=true) (by simp only[ae,vR,seval]) hp (by simp only[ae,vR,seval]) kV) rfl ?_ ?_
 ·have e2:AV.aI (two 0 1) (.inl (.inl sv))= .inl (.inl sv):=congrArg (fun z=>Sum.inl (Sum.inl z)) (h0.aI rfl)
  simp only[List.map_cons,List.map_nil,e2];rfl
 simp only[vR,seval]
 exact ak rfl ⟨rfl,rfl⟩
end Go.Proofs.YtpnehhpadofcbaaGreatDoor
