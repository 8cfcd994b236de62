/-
  What operate defers: asks for the panic.
-/
import Derived.Test.YtaeagfdnfjenlaaGreatDoorVcgJW
import Derived.Test.YtaeagfdnfjenlaaGreatDoorVcgRv2
import Derived.Test.YtaeagfdnfjenlaaGreatDoorVcgWX
import Derived.Test.YtaeagfdnfjenlaaGreatDoorVcgJF
import Derived.Test.YtaeagfdnfjenlaaGreatDoorVcgWM
import Derived.Test.YtaeagfdnfjenlaaGreatDoorVcgWV
set_option maxRecDepth 20000
set_option linter.unusedSimpArgs false
set_option linter.unusedVariables false
set_option linter.unusedSectionVars false
set_option maxHeartbeats 8000000
namespace Go.Proofs.YtaeagfdnfjenlaaGreatDoor
open Go.cn
variable [aX]
theorem Tryz.ab7 (w:World):(Instr.typeAssert (cH 0) 20 62 true).run Tryz.prog w= .ok (.tuple #[cH 0, .bool true]) w:=by kernel_rfl
theorem Tryz.ab8 (w:World):(Instr.typeAssert .nilIface 20 62 true).run Tryz.prog w= .ok (.tuple #[.nilIface, .bool false]) w:=by kernel_rfl
def PZ (v:Value) (b:Bool):List (Nat×AV):=[(6,V v),(7, .inr [.inl (.inl v), .inl (.inl (.bool b))]),(5, .inr [.inl (.inl v), .inl (.inl (.bool b))]),(8,V v),(9,B b),(3,V v),(4,B b)]
def CD (m:Nat) (f:Nat→Int) (pc kc:List SV) (nc:List SV) (lc ec:List SV):List (Nat×aI):=
 [(0,⟨false,[Sum.inr (.inr (4,0,m,m))]⟩),(1,⟨false,pc⟩),(2,⟨false,[Sum.inl (.slice none 0 0)]⟩),(3,⟨false,nc⟩),(4,⟨false,ai .u8 (64*m) f⟩),(5,⟨false,kc⟩),(6,⟨true,lc⟩),(7,⟨true,ec⟩),(8,⟨false,fP 0 1 2 3⟩)]
section
variable {P:Program} {ops:Array Oper} {Q:Exit→Act→List Go.Frame→World→Prop} {a:Act} {cs:List Go.Frame} {w:World} {i:Nat} {rest:List Nat} {o:Oper}
theorem ov (ho:ops[i]? =some o) (hg:o.guard=none) {v:Value} (hr:(execOp a.eval o).run P w= .ok (.value v) w) (h:wpOpsS P ops Q rest (a.put o.dst v) cs w):wpOpsS P ops Q (i::rest) a cs w:=by
 unfold wpOpsS
 rw[ho]
 simp only
 rw[if_pos (by unfold Region.wanted;rw[hg])]
 rw[hr]
 exact h
theorem SK (ho:ops[i]? =some o) (hg:o.guard=none) (hr:(execOp a.eval o).run P w= .ok .recover w) {v:Value} {cs':List Go.Frame} (hc:recoverD cs=some (v,cs')∨(recoverD cs=none∧v= .nilIface∧cs=cs')) (h:wpOpsS P ops Q rest (a.put o.dst v) cs' w):wpOpsS P ops Q (i::rest) a cs w:=by
 unfold wpOpsS
 rw[ho]
 simp only
 rw[if_pos (by unfold Region.wanted;rw[hg])]
 rw[hr]
 rcases hc with hc | ⟨hc,rfl,rfl⟩
 ·simp only[hc]
  exact h
 ·simp only[hc]
  exact h
end
theorem eval_put {a:Act} {d:Nat} {u:Value} (hd:d < a.tmps.size):(a.put (some d) u).eval (.tmp d)=u:=by
 show (a.put (some d) u).tmps.getD d _=u
 rw[Array.getD_eq_getD_getElem?,kS hd,if_pos rfl]
 rfl
theorem wH {a:Act} {d x:Nat} {u:Value} (hd:d < a.tmps.size) (hx:x≠d):(a.put (some d) u).eval (.tmp x)=a.eval (.tmp x):=by
 show (a.put (some d) u).tmps.getD x _=a.tmps.getD x _
 rw[Array.getD_eq_getD_getElem?,Array.getD_eq_getD_getElem?,kS hd,if_neg hx]
theorem Jj {v:Value} {b:Bool} {PY:Array Oper} (ho:PY=(match Tryz.f86.body with
  | some (.seq (.region _ o _) _)=>o
  | _=> #[])) {Q:Exit→Act→List Go.Frame→World→Prop} {a:Act} {cs cs':List Go.Frame} {w:World} (hsz:a.tmps.size=14) (jT:recoverD cs=some (v,cs')∨(recoverD cs=none∧v= .nilIface∧cs=cs')) (has:(Instr.typeAssert v 20 62 true).run Tryz.prog w= .ok (.tuple #[v, .bool b]) w)
  (hQ:Q .normal (((((((a.put (some 6) v).put (some 7) (.tuple #[v, .bool b])).put (some 5) (.tuple #[v, .bool b])).put (some 8) v).put (some 9) (.bool b)).put (some 3) v).put (some 4) (.bool b)) cs' w):wpOpsS Tryz.prog PY Q [0,1,2,3,4,5,6] a cs w:=by
 subst ho
 have s1:(a.put (some 6) v).tmps.size=14:=by rw[gZ];exact hsz
 have s2:((a.put (some 6) v).put (some 7) (.tuple #[v, .bool b])).tmps.size=14:=by rw[gZ];exact s1
 have s3:(((a.put (some 6) v).put (some 7) (.tuple #[v, .bool b])).put (some 5) (.tuple #[v, .bool b])).tmps.size=14:=by rw[gZ];exact s2
 have s4:((((a.put (some 6) v).put (some 7) (.tuple #[v, .bool b])).put (some 5) (.tuple #[v, .bool b])).put (some 8) v).tmps.size=14:=by rw[gZ];exact s3
 have s5:(((((a.put (some 6) v).put (some 7) (.tuple #[v, .bool b])).put (some 5) (.tuple #[v, .bool b])).put (some 8) v).put (some 9) (.bool b)).tmps.size=14:=by rw[gZ];exact s4
 have s6:((((((a.put (some 6) v).put (some 7) (.tuple #[v, .bool b])).put (some 5) (.tuple #[v, .bool b])).put (some 8) v).put (some 9) (.bool b)).put (some 3) v).tmps.size=14:=by rw[gZ];exact s5
 have v7:((a.put (some 6) v).put (some 7) (.tuple #[v, .bool b])).eval (.tmp 7)= .tuple #[v, .bool b]:=eval_put (by rw[s1];decide)
 have v5:(((a.put (some 6) v).put (some 7) (.tuple #[v, .bool b])).put (some 5) (.tuple #[v, .bool b])).eval (.tmp 5)= .tuple #[v, .bool b]:=eval_put (by rw[s2];decide)
 have v5':((((a.put (some 6) v).put (some 7) (.tuple #[v, .bool b])).put (some 5) (.tuple #[v, .bool b])).put (some 8) v).eval (.tmp 5)= .tuple #[v, .bool b]:=(wH (by rw[s3];decide) (by decide)).trans v5
 have v8:(((((a.put (some 6) v).put (some 7) (.tuple #[v, .bool b])).put (some 5) (.tuple #[v, .bool b])).put (some 8) v).put (some 9) (.bool b)).eval (.tmp 8)=v:=(wH (by rw[s4];decide) (by decide)).trans (eval_put (by rw[s3];decide))
 have v9:((((((a.put (some 6) v).put (some 7) (.tuple #[v, .bool b])).put (some 5) (.tuple #[v, .bool b])).put (some 8) v).put (some 9) (.bool b)).put (some 3) v).eval (.tmp 9)= .bool b:=(wH (by rw[s5];decide) (by decide)).trans (eval_put (by rw[s4];decide))
 have v6:(a.put (some 6) v).eval (.tmp 6)=v:=eval_put (by rw[hsz];decide)
 refine SK (o:=⟨some 6, .call ⟨.builtin .recover, #[], #[]⟩,_,_,_,none⟩) rfl rfl rfl jT ?_
 refine ov (o:=⟨some 7, .typeAssert (.tmp 6) 20 62 true,_,_,_,none⟩) (v:= .tuple #[v, .bool b]) rfl rfl ?_ ?_
 ·show (do pure (Next.value (← Instr.typeAssert ((a.put (some 6) v).eval (.tmp 6)) 20 62 true)):Sem Next).run Tryz.prog w=_
  rw[v6]
  simp[has]
 refine ov (o:=⟨some 5, .move (.tmp 7),_,_,_,none⟩) (v:= .tuple #[v, .bool b]) rfl rfl (by show Result.ok (Next.value (((a.put (some 6) v).put (some 7) (.tuple #[v, .bool b])).eval (.tmp 7))) w=_;rw[v7]) ?_
 refine ov (o:=⟨some 8, .extract (.tmp 5) 0,_,_,_,none⟩) (v:=v) rfl rfl ?_ ?_
 ·show (do pure (Next.value (← Instr.extract ((((a.put (some 6) v).put (some 7) (.tuple #[v, .bool b])).put (some 5) (.tuple #[v, .bool b])).eval (.tmp 5)) 0)):Sem Next).run Tryz.prog w=_
  rw[v5]
  rfl
 refine ov (o:=⟨some 9, .extract (.tmp 5) 1,_,_,_,none⟩) (v:= .bool b) rfl rfl ?_ ?_
 ·show (do pure (Next.value (← Instr.extract (((((a.put (some 6) v).put (some 7) (.tuple #[v, .bool b])).put (some 5) (.tuple #[v, .bool b])).put (some 8) v).eval (.tmp 5)) 1)):Sem Next).run Tryz.prog w=_
  rw[v5']
  rfl
 refine ov (o:=⟨some 3, .assign (.tmp 8),_,_,_,none⟩) (v:=v) rfl rfl (by show Result.ok (Next.value ((((((a.put (some 6) v).put (some 7) (.tuple #[v, .bool b])).put (some 5) (.tuple #[v, .bool b])).put (some 8) v).put (some 9) (.bool b)).eval (.tmp 8))) w=_;rw[v8]) ?_
 refine ov (o:=⟨some 4, .assign (.tmp 9),_,_,_,none⟩) (v:= .bool b) rfl rfl (by show Result.ok (Next.value (((((((a.put (some 6) v).put (some 7) (.tuple #[v, .bool b])).put (some 5) (.tuple #[v, .bool b])).put (some 8) v).put (some 9) (.bool b)).put (some 3) v).eval (.tmp 9))) w=_;rw[v9]) ?_
 exact hQ
def Oa:List PanicEntry:=[{ v:=cH 0,recovered:=true }]
def Ob (m:Nat) (f:Nat→Int) (pc kc nc:List SV) (lc ec tc:List SV):List (Nat×aI):=(CD m f pc kc nc lc ec).map (fun x=>(x.1,⟨false,x.2.cells⟩))++[(9,⟨false,tc⟩)]
theorem VZ {m:Nat} {f:Nat→Int} {pc kc nc lc ec tc:List SV} (h:iy pc nc kc) (hlc: ∀ x ∈ lc,SV.ok (fun n=>n < 10) x) (ZV: ∀ x ∈ ec,SV.ok (fun n=>n < 10) x) (htc:tc.all SV.plain=true):
  Lw Tryz.prog 86 [Ptr 8 0,Ptr 6 0,Ptr 7 0] 10 (lk (Ob m f pc kc nc lc ec tc)) .returning .returning (fun out=>out=fun _=>none):=by
 refine xW Tryz.func86 rfl (by kernel_rfl) [] [] (by simp[Tryz.ntmps86]) (fun v hv=> ?_) (fun n hn=> ?_) (fun n b hb=> ?_) (PZ .nilIface false) (fun x hx=> ?_) ?_ ?_
 ·simp only[bQ]at hv
  rcases hv with rfl | rfl | rfl
  ·exact (by decide:8 < 10)
  ·exact (by decide:6 < 10)
  ·exact (by decide:7 < 10)
 ·rcases (show n=0∨n=1∨n=2∨n=3∨n=4∨n=5∨n=6∨n=7∨n=8∨n=9 by omega) with rfl | rfl | rfl | rfl | rfl | rfl | rfl | rfl | rfl | rfl<;>exact ⟨_,rfl⟩
 ·have h1:=bt _ _ _ hb
  simp only[Ob,CD,List.map_cons,List.map_nil,List.cons_append,List.nil_append,bQ,Prod.mk.injEq]at h1
  rcases h1 with ⟨rfl,rfl⟩ | ⟨rfl,rfl⟩ | ⟨rfl,rfl⟩ | ⟨rfl,rfl⟩ | ⟨rfl,rfl⟩ | ⟨rfl,rfl⟩ | ⟨rfl,rfl⟩ | ⟨rfl,rfl⟩ | ⟨rfl,rfl⟩ | ⟨rfl,rfl⟩
  ·exact ⟨by decide,fun x hx=>by rw[List.mem_singleton]at hx;subst hx;exact ⟨(by decide:4 < 10),rfl⟩⟩
  ·exact ⟨by decide,fun x hx=>SV.aL (fun n hn=>by subst hn;decide) (h.p x hx)⟩
  ·exact ⟨by decide,ao rfl⟩
  ·exact ⟨by decide,ao h.n⟩
  ·exact ⟨by decide,ao az⟩
  ·exact ⟨by decide,ao h.k⟩
  ·exact ⟨by decide,hlc⟩
  ·exact ⟨by decide,ZV⟩
  ·exact ⟨by decide,dY fun n hn=>by omega⟩
  ·exact ⟨by decide,ao htc⟩
 ·simp only[PZ,bQ]at hx
  have t: ∀ b:Bool,AV.ok (fun n=>n < 10) (.inr [.inl (.inl .nilIface), .inl (.inl (.bool b))]):=fun b x hx=>by
   simp only[bQ]at hx
   rcases hx with rfl | rfl<;>trivial
  rcases hx with rfl | rfl | rfl | rfl | rfl | rfl | rfl
  ·exact ⟨by simp[Tryz.ntmps86],trivial⟩
  ·exact ⟨by simp[Tryz.ntmps86],t _⟩
  ·exact ⟨by simp[Tryz.ntmps86],t _⟩
  ·exact ⟨by simp[Tryz.ntmps86],trivial⟩
  ·exact ⟨by simp[Tryz.ntmps86],trivial⟩
  ·exact ⟨by simp[Tryz.ntmps86],trivial⟩
  ·exact ⟨by simp[Tryz.ntmps86],trivial⟩
 ·intro Q g a c₀ cs w hu hsz hQ
  refine Jj (v:= .nilIface) (b:=false) rfl (by rw[hsz];rfl) (.inr ⟨by simp[recoverD,hu],rfl, ?_⟩) (Tryz.ab8 w) hQ
  cases c₀
  simp only at hu
  subst hu
  rfl
 ·simp only[Tryz.results86,PZ,Ei,List.foldl_cons,List.foldl_nil,ib,seval]
  exact aJ rfl rfl
theorem V0 {m:Nat} {f:Nat→Int} {pc kc nc lc ec:List SV} (h:iy pc nc kc) (hm:m≤1048576) (PE:lc.length=1) (he1:ec.length=1) (hlc: ∀ x ∈ lc,SV.ok (fun n=>n < 9) x) (ZV: ∀ x ∈ ec,SV.ok (fun n=>n < 9) x):
  Lw Tryz.prog 86 [Ptr 8 0,Ptr 6 0,Ptr 7 0] 9 (lk (CD m f pc kc nc lc ec)) (.panicking ga) (.panicking Oa) (fun out=> ∃ c tail,64*m≤c∧tail.length=c - 64*m∧tail.all SV.plain=true∧out=lk [(6,⟨true,[Sum.inr (.inr (9,0,64*m,c))]⟩),(7,⟨true,[Sum.inl (cH 0)]⟩),(9,⟨true,ai .u8 (64*m) f++tail⟩)]):=by
 refine xW Tryz.func86 rfl (by kernel_rfl) [] [] (by simp[Tryz.ntmps86]) (fun v hv=> ?_) (fun n hn=> ?_) (fun n b hb=> ?_) (PZ (cH 0) true) (fun x hx=> ?_) ?_ ?_
 ·simp only[bQ]at hv
  rcases hv with rfl | rfl | rfl
  ·exact (by decide:8 < 9)
  ·exact (by decide:6 < 9)
  ·exact (by decide:7 < 9)
 ·rcases (show n=0∨n=1∨n=2∨n=3∨n=4∨n=5∨n=6∨n=7∨n=8 by omega) with rfl | rfl | rfl | rfl | rfl | rfl | rfl | rfl | rfl<;>exact ⟨_,rfl⟩
 ·have h1:=bt _ _ _ hb
  simp only[CD,List.map_cons,List.map_nil,bQ,Prod.mk.injEq]at h1
  rcases h1 with ⟨rfl,rfl⟩ | ⟨rfl,rfl⟩ | ⟨rfl,rfl⟩ | ⟨rfl,rfl⟩ | ⟨rfl,rfl⟩ | ⟨rfl,rfl⟩ | ⟨rfl,rfl⟩ | ⟨rfl,rfl⟩ | ⟨rfl,rfl⟩
  ·exact ⟨by decide,fun x hx=>by rw[List.mem_singleton]at hx;subst hx;exact ⟨(by decide:4 < 9),rfl⟩⟩
  ·exact ⟨by decide,fun x hx=>SV.aL (fun n hn=>by subst hn;decide) (h.p x hx)⟩
  ·exact ⟨by decide,ao rfl⟩
  ·exact ⟨by decide,ao h.n⟩
  ·exact ⟨by decide,ao az⟩
  ·exact ⟨by decide,ao h.k⟩
  ·exact ⟨by decide,hlc⟩
  ·exact ⟨by decide,ZV⟩
  ·exact ⟨by decide,dY fun n hn=>by omega⟩
 ·simp only[PZ,bQ]at hx
  have t: ∀ b:Bool,AV.ok (fun n=>n < 9) (.inr [.inl (.inl (cH 0)), .inl (.inl (.bool b))]):=fun b x hx=>by
   simp only[bQ]at hx
   rcases hx with rfl | rfl<;>trivial
  rcases hx with rfl | rfl | rfl | rfl | rfl | rfl | rfl
  ·exact ⟨by simp[Tryz.ntmps86],trivial⟩
  ·exact ⟨by simp[Tryz.ntmps86],t _⟩
  ·exact ⟨by simp[Tryz.ntmps86],t _⟩
  ·exact ⟨by simp[Tryz.ntmps86],trivial⟩
  ·exact ⟨by simp[Tryz.ntmps86],trivial⟩
  ·exact ⟨by simp[Tryz.ntmps86],trivial⟩
  ·exact ⟨by simp[Tryz.ntmps86],trivial⟩
 ·intro Q g a c₀ cs w hu hsz hQ
  refine Jj (v:=cH 0) (b:=true) (cs':={ c₀ with mode:= .panicking Oa }::cs) rfl (by rw[hsz];rfl) (.inl ?_) (Tryz.ab7 w) hQ
  simp[recoverD,hu,ga,Oa]
 ·obtain ⟨l0,rfl⟩:=List.length_eq_one_iff.1 PE
  obtain ⟨e0,rfl⟩:=List.length_eq_one_iff.1 he1
  simp only[Tryz.results86,PZ,CD,Ei,List.foldl_cons,List.foldl_nil,aH,bH,seval]
  refine ia (uj (f:=f) h hm) (fun n=>n) ((fb (s:=_) m f (pc:=pc) (nc:=nc) (kc:=kc) (by simp only[ae,vR,seval]) (by simp only[ae,vR,seval]) (by simp only[ae,vR,seval]) (by simp only[ae,vR,seval]) (by simp only[ae,vR,seval]) (by simp only[ae,vR,seval])).fits kJ) (fC _) fun c tail g1 g2 g3=> ?_
  simp only[mT,Tryz.bO,aH,bH,seval]
  refine dV (q:=11) (v0:=Sum.inr []) (by decide) rfl (fun x hx=>(by cases hx)) (fun x hx=> ?_) ⟨c,tail,g1,g2,g3,rfl⟩
  simp only[bQ]at hx
  rcases hx with rfl | rfl | rfl
  ·exact ⟨(by decide:6 < 10),fun h=>(by cases h),fun y hy=>by rw[List.mem_singleton]at hy;subst hy;exact ⟨(by decide:9 < 10),rfl⟩,by show AS.box _ 6=some (aI.mk true [Sum.inr (.inr (11,0,64*m,c))]);simp only[aH,bj,dz,bI,aq,ay,bK,bm,mT,AS.mem,AS.put,vR,seval]⟩
  ·exact ⟨(by decide:7 < 10),fun h=>(by cases h),fun y hy=>by rw[List.mem_singleton]at hy;subst hy;exact ⟨trivial,rfl⟩,by show AS.box _ 7=some (aI.mk true [Sum.inl (cH 0)]);simp only[aH,bj,dz,bI,aq,ay,bK,bm,mT,AS.mem,AS.put,vR,seval]⟩
  ·exact ⟨(by decide:9 < 10),fun _=>rfl,ao (bY g3),by rw[au (bY g3)];show AS.box _ 11=some (aI.mk true (ai .u8 (64*m) f++tail));simp only[aH,bj,dz,bI,aq,ay,bK,bm,mT,AS.mem,AS.put,vR,seval]⟩
def Gf (m:Nat) (f:Nat→Int) (pc kc:List SV) (ps pl:List SV):List (Nat×aI):=ma m f pc kc 0++[(6,⟨false,ps⟩),(7,⟨false,pl⟩)]
def Lz (k m:Nat) (g:Nat→Int) (e:Value) (v:AV) (out:Nat→Option aI):Prop:= ∃ cnt c tail b2,64*m≤c∧tail.length=c - 64*m∧tail.all SV.plain=true∧v= .inr [.inl (.inr (.inr (k,0,64*m,c))), .inl (.inl e)]∧
 out=lk [(2,b2),(3,⟨true,[Sum.inl (.int .i64 cnt)]⟩),(4,⟨true,ai .u8 (64*m) g⟩),(k,⟨true,ai .u8 (64*m) g++tail⟩)]
def nine (n:Nat):Nat:=if n=6 then 9 else if n=7 then 10 else n
theorem V1 {l:List SV} (h: ∀ x ∈ l,SV.ok (fun n=>n=5) x):l.map (SV.ren nine)=l:=by
 conv=>rhs;rw[← List.map_id l]
 exact List.map_congr_left fun x hx=>SV.je (SV.br (fun n hn=>by subst hn;rfl) (h x hx).1)
theorem ZW:(fP 0 1 2 3).map (SV.ren nine)=fP 0 1 2 3:=rfl
theorem P0 {s:AS} {m:Nat} {g:Nat→Int} {pc nc kc lc ec:List SV} (h:iy pc nc kc) (hlc:lc.all SV.plain=true) (ZV:ec.all SV.plain=true) {r0 r1 r2 r3 r4 r5 r8:Bool} (h0:s.box 0=some ⟨r0,[Sum.inr (.inr (4,0,m,m))]⟩) (h1:s.box 1=some ⟨r1,pc⟩) (h2:s.box 2=some ⟨r2,[Sum.inl (.slice none 0 0)]⟩) (h3:s.box 3=some ⟨r3,nc⟩) (h4:s.box 4=some ⟨r4,ai .u8 (64*m) g⟩) (h5:s.box 5=some ⟨r5,kc⟩)
  (h9:s.box 9=some ⟨true,lc⟩) (h10:s.box 10=some ⟨true,ec⟩) (h8:s.box 8=some ⟨r8,fP 0 1 2 3⟩):jr s nine (lk (CD m g pc kc nc lc ec)) [6,7]:=by
 refine lY (fun x hx=> ?_) fun n hn=> ?_
 ·have inj: ∀ a,a=6∨a=7→ ∀ y ∈ CD m g pc kc nc lc ec,nine a=nine y.1→a=y.1:=fun a ha y hy e=>by
   have:y.1 < 9:=by
    simp only[CD,bQ]at hy
    rcases hy with rfl | rfl | rfl | rfl | rfl | rfl | rfl | rfl | rfl<;>(simp only;omega)
   unfold nine at e
   (repeat' split at e)<;>omega
  simp only[CD,bQ]at hx
  rcases hx with rfl | rfl | rfl | rfl | rfl | rfl | rfl | rfl | rfl
  ·exact ⟨⟨_,h0,fun h=>(by cases h)⟩,fun h=>(by cases h)⟩
  ·exact ⟨⟨_,by rw[V1 h.p];exact h1,fun h=>(by cases h)⟩,fun h=>(by cases h)⟩
  ·exact ⟨⟨_,h2,fun h=>(by cases h)⟩,fun h=>(by cases h)⟩
  ·exact ⟨⟨_,by rw[au h.n];exact h3,fun h=>(by cases h)⟩,fun h=>(by cases h)⟩
  ·exact ⟨⟨_,by rw[au az];exact h4,fun h=>(by cases h)⟩,fun h=>(by cases h)⟩
  ·exact ⟨⟨_,by rw[au h.k];exact h5,fun h=>(by cases h)⟩,fun h=>(by cases h)⟩
  ·exact ⟨⟨_,by rw[au hlc];exact h9,fun h=>rfl⟩,fun h=>⟨(by decide:(6:Nat) ∈ [6,7]),inj 6 (by decide)⟩⟩
  ·exact ⟨⟨_,by rw[au ZV];exact h10,fun h=>rfl⟩,fun h=>⟨(by decide:(7:Nat) ∈ [6,7]),inj 7 (by decide)⟩⟩
  ·exact ⟨⟨_,by rw[ZW];exact h8,fun h=>(by cases h)⟩,fun h=>(by cases h)⟩
 ·simp only[bQ]at hn
  rcases hn with rfl | rfl<;>exact ⟨_,rfl,rfl⟩
def Oc (t n:Nat):Nat:=if n=6 then 9 else if n=7 then 10 else if n=9 then t else n
theorem SL {t:Nat} {l:List SV} (h: ∀ x ∈ l,SV.ok (fun n=>n=5) x):l.map (SV.ren (Oc t))=l:=by
 conv=>rhs;rw[← List.map_id l]
 exact List.map_congr_left fun x hx=>SV.je (SV.br (fun n hn=>by subst hn;rfl) (h x hx).1)
theorem LA {s:AS} {m t:Nat} {g:Nat→Int} {pc nc kc lc lc' ec tc:List SV} (h:iy pc nc kc) (hlc:lc.map (SV.ren (Oc t))=lc') (ZV:ec.all SV.plain=true) (htc:tc.all SV.plain=true) {r0 r1 r2 r3 r4 r5 r8 r9 r10 rt:Bool} (h0:s.box 0=some ⟨r0,[Sum.inr (.inr (4,0,m,m))]⟩) (h1:s.box 1=some ⟨r1,pc⟩) (h2:s.box 2=some ⟨r2,[Sum.inl (.slice none 0 0)]⟩) (h3:s.box 3=some ⟨r3,nc⟩) (h4:s.box 4=some ⟨r4,ai .u8 (64*m) g⟩) (h5:s.box 5=some ⟨r5,kc⟩)
  (h9:s.box 9=some ⟨r9,lc'⟩) (h10:s.box 10=some ⟨r10,ec⟩) (h8:s.box 8=some ⟨r8,fP 0 1 2 3⟩) (ht:s.box t=some ⟨rt,tc⟩):jr s (Oc t) (lk (Ob m g pc kc nc lc ec tc)) []:=by
 refine lY (fun x hx=> ?_) fun n hn=>(by cases hn)
 simp only[Ob,CD,List.map_cons,List.map_nil,List.cons_append,List.nil_append,bQ]at hx
 rcases hx with rfl | rfl | rfl | rfl | rfl | rfl | rfl | rfl | rfl | rfl
 ·exact ⟨⟨_,h0,fun h=>(by cases h)⟩,fun h=>(by cases h)⟩
 ·exact ⟨⟨_,by rw[SL h.p];exact h1,fun h=>(by cases h)⟩,fun h=>(by cases h)⟩
 ·exact ⟨⟨_,h2,fun h=>(by cases h)⟩,fun h=>(by cases h)⟩
 ·exact ⟨⟨_,by rw[au h.n];exact h3,fun h=>(by cases h)⟩,fun h=>(by cases h)⟩
 ·exact ⟨⟨_,by rw[au az];exact h4,fun h=>(by cases h)⟩,fun h=>(by cases h)⟩
 ·exact ⟨⟨_,by rw[au h.k];exact h5,fun h=>(by cases h)⟩,fun h=>(by cases h)⟩
 ·exact ⟨⟨_,by rw[hlc];exact h9,fun h=>(by cases h)⟩,fun h=>(by cases h)⟩
 ·exact ⟨⟨_,by rw[au ZV];exact h10,fun h=>(by cases h)⟩,fun h=>(by cases h)⟩
 ·exact ⟨⟨_,h8,fun h=>(by cases h)⟩,fun h=>(by cases h)⟩
 ·exact ⟨⟨_,by rw[au htc];exact ht,fun h=>(by cases h)⟩,fun h=>(by cases h)⟩
theorem Tryz.ab9:zeroOf Tryz.prog 62=some [.nilIface]:=by kernel_rfl
theorem Ej {m F:Nat} {f g:Nat→Int} {pc kc ps pl:List SV} {cv:List Value} {cl:List AV} {flag:Bool} {e:Value} {co:Int} (hm:m≤1048576) (Xm: ∀ x ∈ pc,SV.ok (fun n=>n=5) x) (hkc:kc.all SV.plain=true) (hps:ps.all SV.plain=true) (gx: ∀ x ∈ pl,SV.ok (fun n=>n=6) x) (Ly:AV.ok (fun n=>n < 8) (V (.func (.func F) #[] ⟨cv⟩))) (oF:lh cv=some cl) (hF:ak Tryz.prog F=true) (he:e= .nilIface∨ ∃ i,e=cH i)
  (hop:flag=false→ ∀ {s:AS} {nm:Nat} {dst:Option Nat} {K:AS→Prop},AY s m f pc kc 0 (Sum.inl (.slice none 0 0))→s.box 6=some ⟨false,ps⟩→s.box 7=some ⟨false,pl⟩→K (({ s with box:=upd (ku s m g co) nm none }:AS).put dst (some (V e)))→av Tryz.prog nm F (some (Ag (fP 0 1 2 3)::cl)) dst K s)
  (aeJ:flag=true→ ∀ {s:AS} {F':Exit→AS→Prop},AY s m f pc kc 0 (Sum.inl (.slice none 0 0))→s.box 6=some ⟨false,ps⟩→s.box 7=some ⟨false,pl⟩→F' (.panic ga) { s with box:=ku s m g co }→fB Tryz.prog F (some (Ag (fP 0 1 2 3)::cl)) F' s):
  bd Tryz.prog 67 [Ag (fP 0 1 2 3),V (.func (.func F) #[] ⟨cv⟩)] 8 (lk (Gf m f pc kc ps pl)) (Lz 8 m g (if flag=true then cH 0 else e)):=by
 refine CB (r0:=_) (rest:=_) Tryz.func67 rfl (by kernel_rfl) (by kernel_rfl) (by simp[Tryz.ntmps67]) Tryz.KZ [3] [] (by simp[Tryz.ntmps67]) Tryz.tN (fun v hv=> ?_) (fun n hn=> ?_) (fun n b hb=> ?_) ?_
 ·simp only[bQ]at hv
  rcases hv with rfl | rfl
  ·exact dY fun n hn=>by omega
  ·exact Ly
 ·rcases (show n=0∨n=1∨n=2∨n=3∨n=4∨n=5∨n=6∨n=7 by omega) with rfl | rfl | rfl | rfl | rfl | rfl | rfl | rfl<;>exact ⟨_,rfl⟩
 ·have h1:=bt _ _ _ hb
  simp only[Gf,ma,List.cons_append,List.nil_append,bQ,Prod.mk.injEq]at h1
  rcases h1 with ⟨rfl,rfl⟩ | ⟨rfl,rfl⟩ | ⟨rfl,rfl⟩ | ⟨rfl,rfl⟩ | ⟨rfl,rfl⟩ | ⟨rfl,rfl⟩ | ⟨rfl,rfl⟩ | ⟨rfl,rfl⟩
  ·exact ⟨by decide,fun x hx=>by rw[List.mem_singleton]at hx;subst hx;exact ⟨(by decide:4 < 8),rfl⟩⟩
  ·exact ⟨by decide,fun x hx=>SV.aL (fun n hn=>by subst hn;decide) (Xm x hx)⟩
  ·exact ⟨by decide,ao rfl⟩
  ·exact ⟨by decide,ao rfl⟩
  ·exact ⟨by decide,ao az⟩
  ·exact ⟨by decide,ao hkc⟩
  ·exact ⟨by decide,ao hps⟩
  ·exact ⟨by decide,fun x hx=>SV.aL (fun n hn=>by subst hn;decide) (gx x hx)⟩
 ·simp only[Tryz.results67,Tryz.ab9,Tryz.bO,Gf,ma,List.cons_append,List.nil_append,aH,bH,seval]
  refine ⟨_,[Ptr 8 0,Ptr 9 0,Ptr 10 0],rfl,rfl,fun v hv=> ?_, ?_⟩
  ·simp only[bQ]at hv
   rcases hv with rfl | rfl | rfl
   ·exact (by decide:8 < 12)
   ·exact (by decide:9 < 12)
   ·exact (by decide:10 < 12)
  have hre: ∀ r,lN r (cH 0)=cH 0:=fun r=>rfl
  have hep:([Sum.inl e]:List SV).all SV.plain=true:=by
   rcases he with rfl | ⟨i,rfl⟩<;>rfl
  have ZC:SV.ok (fun n=>n < 10) (Sum.inl e:SV):=by
   rcases he with rfl | ⟨i,rfl⟩<;>exact ⟨trivial,rfl⟩
  have hce:cellsOf (some (V e))=some [Sum.inl e]:=by
   rcases he with rfl | ⟨i,rfl⟩<;>rfl
  cases flag
  ·refine .inl ?_
   simp only[Tryz.results67,Tryz.ab9,Tryz.bO,aH,bH,seval]
   refine ⟨hF, ?_⟩
   rw[oF]
   refine hop rfl ⟨?_, ?_, ?_, ?_, ?_, ?_⟩ ?_ ?_ ?_<;>try (simp only[aq,ay,ae,vR,seval];done)
   simp only[ku,hce,Tryz.bO,aH,bH,seval]
   refine H' (by kernel_rfl) [0,2] [1,3] [] [4] [8,10] [10] [10,12,11] (by kernel_rfl) (by kernel_rfl) (by kernel_rfl) (fun t ht=>by
    rw[List.mem_singleton]at ht
    subst ht
    exact ⟨rfl,_,by simp only[ae,vR,seval];rfl⟩) ?_
   simp only[Tryz.bO,aH,bH,seval]
   refine bd.cq (uj (f:=g) (pc:=pc) (nc:=[Sum.inl (.int .i64 co)]) (kc:=kc) ⟨Xm,rfl,hkc⟩ hm) (fun n=>n) ((j9 (r0:=false) (r1:=false) (r2:=true) (r3:=true) (r4:=true) (r5:=false) (by simp only[bV,seval]) (by simp only[bV,seval]) (by simp only[bV,seval]) (by simp only[bV,seval]) (by simp only[bV,seval]) (by simp only[bV,seval])).fits kJ) (fC _) ?_
   rintro v out ⟨c,tail,rfl,rfl,g1,g2,g3⟩
   simp only[lk,Option.map_some,aI.ren,au (bY g3),show AV.ren (aV (fun n=>n) 6 20) (Sl 6 0 (64*m) c)=Sl 20 0 (64*m) c from rfl,show AV.ren (aV (fun n=>n) 6 16) (Sl 6 0 (64*m) c)=Sl 16 0 (64*m) c from rfl,hce,Tryz.bO,aH,bH,seval]
   refine ⟨Nat.le_refl 1, ?_⟩
   refine ⟨.returning, .returning,rfl,rfl,10,_,_,Oc 20,[],_,VZ (m:=m) (f:=g) (pc:=pc) (kc:=kc) (nc:=[Sum.inl (.int .i64 co)]) (lc:=[Sum.inr (.inr (9,0,64*m,c))]) (ec:=[Sum.inl e]) (tc:=ai .u8 (64*m) g++tail) ⟨Xm,rfl,hkc⟩ (fun x hx=>by rw[List.mem_singleton]at hx;subst hx;exact ⟨(by decide:9 < 10),rfl⟩) (fun x hx=>by rw[List.mem_singleton]at hx;subst hx;exact ZC) (bY g3), ?_,rfl, ?_⟩
   ·refine LA (lc':=[Sum.inr (.inr (20,0,64*m,c))]) (r0:=false) (r1:=false) (r2:=true) (r3:=true) (r4:=true) (r5:=false) (r8:=false) (r9:=true) (r10:=true) (rt:=true) ⟨Xm,rfl,hkc⟩ rfl hep (bY g3) ?_ ?_ ?_ ?_ ?_ ?_ ?_ ?_ ?_ ?_<;>(simp only[aH,bH,seval];try rfl)
   ·rintro out rfl
    rw[gl]
    simp only[List.foldr_nil,Option.map_none,Tryz.bO,aH,bH,seval]
    refine dV (q:=20) (v0:= .inr [.inl (.inr (.inr (8,0,64*m,c))), .inl (.inl e)]) (by decide) ?_ (fun x hx=> ?_) (fun x hx=> ?_) ⟨co,c,tail,⟨true,[Sum.inl (.slice none 0 0)]⟩,g1,g2,g3,rfl,rfl⟩
    ·rcases he with rfl | ⟨i,rfl⟩<;>rfl
    ·simp only[bQ]at hx
     rcases hx with rfl | rfl
     ·exact (by decide:8 < 9)
     ·rcases he with rfl | ⟨i,rfl⟩<;>trivial
    ·simp only[bQ]at hx
     rcases hx with rfl | rfl | rfl | rfl
     ·exact ⟨(by decide:2 < 9),fun h=>(by cases h),ao rfl,by show AS.box _ 2=some _;simp only[aH,bH,seval];rfl⟩
     ·exact ⟨(by decide:3 < 9),fun h=>(by cases h),ao rfl,by show AS.box _ 3=some _;simp only[aH,bH,seval];rfl⟩
     ·exact ⟨(by decide:4 < 9),fun h=>(by cases h),ao az,by rw[au az];show AS.box _ 4=some _;simp only[aH,bH,seval]⟩
     ·exact ⟨(by decide:8 < 9),fun _=>rfl,ao (bY g3),by rw[au (bY g3)];show AS.box _ 20=some _;simp only[aH,bH,seval]⟩
  ·refine .inr ⟨2, ?_⟩
   simp only[SJ,List.take_succ_cons,List.take_zero,List.drop_succ_cons,List.drop_zero,aH,bH,seval]
   refine ⟨rfl,hF, ?_⟩
   rw[oF]
   refine aeJ rfl ⟨?_, ?_, ?_, ?_, ?_, ?_⟩ ?_ ?_ ?_<;>try (simp only[aq,ay,ae,vR,seval];done)
   refine ⟨.panicking ga, .panicking Oa,rfl,rfl,9,_,_,nine,[6,7],_,V0 (m:=m) (f:=g) (pc:=pc) (kc:=kc) (nc:=[Sum.inl (.int .i64 co)]) (lc:=[Sum.inl (.slice none 0 0)]) (ec:=[Sum.inl .nilIface]) ⟨Xm,rfl,hkc⟩ hm rfl rfl (ao rfl) (ao rfl), ?_,rfl, ?_⟩
   ·refine P0 (r0:=false) (r1:=false) (r2:=true) (r3:=true) (r4:=true) (r5:=false) (r8:=true) ⟨Xm,rfl,hkc⟩ rfl rfl ?_ ?_ ?_ ?_ ?_ ?_ ?_ ?_ ?_<;>(simp only[ku,aq,ay,ae,vR,seval];done)
   ·rintro out ⟨c,tail,g1,g2,g3,rfl⟩
    rw[gl]
    simp only[ku,List.foldr_cons,List.foldr_nil,lk,Option.map_some,Option.map_none,aI.ren,List.map_cons,List.map_nil,SV.ren,fj,au az,au (bY g3),Nat.reduceEqDiff,reduceIte,show nine 6=9 from rfl,show nine 7=10 from rfl,show aV nine 9 14 9=14 from rfl,hre,Tryz.bO,aH,bH,seval]
    refine dV (q:=14) (v0:= .inr [.inl (.inr (.inr (8,0,64*m,c))), .inl (.inl (cH 0))]) (by decide) rfl (fun x hx=> ?_) (fun x hx=> ?_) ⟨co,c,tail,⟨true,[Sum.inl (.slice none 0 0)]⟩,g1,g2,g3,rfl,rfl⟩
    ·simp only[bQ]at hx
     rcases hx with rfl | rfl
     ·exact (by decide:8 < 9)
     ·trivial
    ·simp only[bQ]at hx
     rcases hx with rfl | rfl | rfl | rfl
     ·exact ⟨(by decide:2 < 9),fun h=>(by cases h),ao rfl,by show AS.box _ 2=some _;simp only[aH,bH,seval];rfl⟩
     ·exact ⟨(by decide:3 < 9),fun h=>(by cases h),ao rfl,by show AS.box _ 3=some _;simp only[aH,bH,seval];rfl⟩
     ·exact ⟨(by decide:4 < 9),fun h=>(by cases h),ao az,by rw[au az];show AS.box _ 4=some _;simp only[aH,bH,seval]⟩
     ·exact ⟨(by decide:8 < 9),fun _=>rfl,ao (bY g3),by rw[au (bY g3)];show AS.box _ 14=some _;simp only[aH,bH,seval]⟩
def kM:Option Nat→Value
 | none=> .nilIface
 | some i=>cH i
theorem vh (e:Option Nat):kM e= .nilIface∨ ∃ i,kM e=cH i:=by
 rcases e with _ | i
 ·exact .inl rfl
 ·exact .inr ⟨i,rfl⟩
theorem pR.val_eq (r:pR):r.val=V (kM r.1):=by
 rcases r with ⟨_ | i,l⟩<;>rfl
def pq (at_:Int) (r:pR):Option Nat:=if bG at_ 0 (eN r.2)=true then some 0 else r.1
def ni (kn:Nat) (kb:Nat→Bool) (cut:Int) (f:Nat→Int) (at_:Int) (r:pR):Nat→Int:=if bG at_ 0 (eN r.2)=true then lH kn kb (eE cut) f r.2 (at_ - 0 - 1).toNat else pk f r.2
def P1 (at_:Int) (r:pR):Int:=if bG at_ 0 (eN r.2)=true then at_ else 0+(eN r.2:Nat)
theorem Jk {m:Nat} {f:Nat→Int} {pc kc:List SV} {cnt:Int}: ∀ n,n < 6→ ∃ c,lk (ma m f pc kc cnt) n=some c:=fun n hn=>by
 rcases (show n=0∨n=1∨n=2∨n=3∨n=4∨n=5 by omega) with rfl | rfl | rfl | rfl | rfl | rfl<;>exact ⟨_,rfl⟩
theorem Jl {m:Nat} {f:Nat→Int} {pc kc:List SV} {cnt:Int} (hp: ∀ x ∈ pc,SV.ok (fun n=>n=5) x) (hk:kc.all SV.plain=true): ∀ n c,lk (ma m f pc kc cnt) n=some c→n < 6∧ ∀ x ∈ c.cells,SV.ok (fun n=>n < 6) x:=fun n c hn=>by
 have h1:=bt _ _ _ hn
 simp only[ma,bQ,Prod.mk.injEq]at h1
 rcases h1 with ⟨rfl,rfl⟩ | ⟨rfl,rfl⟩ | ⟨rfl,rfl⟩ | ⟨rfl,rfl⟩ | ⟨rfl,rfl⟩ | ⟨rfl,rfl⟩
 ·exact ⟨by decide,fun x hx=>by rw[List.mem_singleton]at hx;subst hx;exact ⟨(by decide:4 < 6),rfl⟩⟩
 ·exact ⟨by decide,fun x hx=>SV.aL (fun n hn=>by subst hn;decide) (hp x hx)⟩
 ·exact ⟨by decide,ao rfl⟩
 ·exact ⟨by decide,ao rfl⟩
 ·exact ⟨by decide,ao az⟩
 ·exact ⟨by decide,ao hk⟩
theorem Od {m:Nat} {f:Nat→Int} {pc kc ps pl:List SV}: ∀ n,n < 8→ ∃ c,lk (Gf m f pc kc ps pl) n=some c:=fun n hn=>by
 rcases (show n=0∨n=1∨n=2∨n=3∨n=4∨n=5∨n=6∨n=7 by omega) with rfl | rfl | rfl | rfl | rfl | rfl | rfl | rfl<;>exact ⟨_,rfl⟩
theorem Oe {m:Nat} {f:Nat→Int} {pc kc ps pl:List SV} (Xm: ∀ x ∈ pc,SV.ok (fun n=>n=5) x) (hkc:kc.all SV.plain=true) (hps:ps.all SV.plain=true) (gx: ∀ x ∈ pl,SV.ok (fun n=>n=6) x): ∀ n b,lk (Gf m f pc kc ps pl) n=some b→n < 8∧ ∀ x ∈ b.cells,SV.ok (fun n=>n < 8) x:=fun n b hb=>by
 have h1:=bt _ _ _ hb
 simp only[Gf,ma,List.cons_append,List.nil_append,bQ,Prod.mk.injEq]at h1
 rcases h1 with ⟨rfl,rfl⟩ | ⟨rfl,rfl⟩ | ⟨rfl,rfl⟩ | ⟨rfl,rfl⟩ | ⟨rfl,rfl⟩ | ⟨rfl,rfl⟩ | ⟨rfl,rfl⟩ | ⟨rfl,rfl⟩
 ·exact ⟨by decide,fun x hx=>by rw[List.mem_singleton]at hx;subst hx;exact ⟨(by decide:4 < 8),rfl⟩⟩
 ·exact ⟨by decide,fun x hx=>SV.aL (fun n hn=>by subst hn;decide) (Xm x hx)⟩
 ·exact ⟨by decide,ao rfl⟩
 ·exact ⟨by decide,ao rfl⟩
 ·exact ⟨by decide,ao az⟩
 ·exact ⟨by decide,ao hkc⟩
 ·exact ⟨by decide,ao hps⟩
 ·exact ⟨by decide,fun x hx=>SV.aL (fun n hn=>by subst hn;decide) (gx x hx)⟩
theorem Og {s:AS} {m:Nat} {f:Nat→Int} {pc kc:List SV} {cnt:Int} {e:List (Nat×aI)} (hd:AY s m f pc kc cnt (Sum.inl (.slice none 0 0))) (he: ∀ x ∈ e,x.2.rw=false∧6≤x.1∧s.box x.1=some x.2):jr s (fun n=>n) (lk (ma m f pc kc cnt++e)) [2,3,4]:=by
 refine lY (fun x hx=> ?_) fun n hn=> ?_
 ·rw[List.mem_append]at hx
  rcases hx with hx | hx
  ·simp only[ma,bQ]at hx
   rcases hx with rfl | rfl | rfl | rfl | rfl | rfl
   ·exact ⟨⟨_,by rw[l6];exact hd.b0,fun h=>h⟩,fun h=>(by cases h)⟩
   ·exact ⟨⟨_,by rw[l6];exact hd.b1,fun h=>h⟩,fun h=>(by cases h)⟩
   ·exact ⟨⟨_,by rw[l6];exact hd.b2,fun h=>rfl⟩,fun h=>⟨(by decide:(2:Nat) ∈ [2,3,4]),fun y hy e=>e⟩⟩
   ·exact ⟨⟨_,by rw[l6];exact hd.b3,fun h=>rfl⟩,fun h=>⟨(by decide:(3:Nat) ∈ [2,3,4]),fun y hy e=>e⟩⟩
   ·exact ⟨⟨_,by rw[l6];exact hd.b4,fun h=>rfl⟩,fun h=>⟨(by decide:(4:Nat) ∈ [2,3,4]),fun y hy e=>e⟩⟩
   ·exact ⟨⟨_,by rw[l6];exact hd.b5,fun h=>h⟩,fun h=>(by cases h)⟩
  ·obtain ⟨h1,h2,h3⟩:=he x hx
   exact ⟨⟨_,by rw[l6,h3],fun h=>h⟩,fun h=>(by rw[h1]at h;cases h)⟩
 ·simp only[bQ]at hn
  rcases hn with rfl | rfl | rfl<;>exact ⟨_,rfl,rfl⟩
theorem V2 {s:AS} {m k nm:Nat} {f:Nat→Int} {cnt:Int} (hk:5≤k):cL s (fun n=>n) k 1 nm [2,3,4] (lk (dg m f cnt))=upd (ku s m f cnt) nm none:=by
 have h:lk (dg m f cnt) k=none:=by
  simp only[dg,lk]
  rw[if_neg (by omega),if_neg (by omega),if_neg (by omega)]
 rw[gl,h]
 simp only[dg,ku,List.foldr_cons,List.foldr_nil,lk,Option.map_some,Option.map_none,aI.ren,List.map_cons,List.map_nil,SV.ren,fj,au az,Nat.reduceEqDiff,reduceIte]
theorem V3 {s:AS} {m k nm:Nat} {f:Nat→Int} {cnt:Int}:cL s (fun n=>n) k 0 nm [2,3,4] (lk (dg m f cnt))=ku s m f cnt:=by
 rw[oq]
 simp only[dg,ku,List.foldr_cons,List.foldr_nil,lk,Option.map_some,Option.map_none,aI.ren,List.map_cons,List.map_nil,SV.ren,fj,au az,Nat.reduceEqDiff,reduceIte]
theorem ml {F k m:Nat} {args:List AV} {f:Nat→Int} {pc kc:List SV} {e:List (Nat×aI)} {r:pR} {at_:Int} {g:Nat→Int} {co:Int} (hk5:5≤k) (he: ∀ x ∈ e,x.2.rw=false∧6≤x.1):
  (bd Tryz.prog F args k (lk (ma m f pc kc 0++e)) (fun v out=>v=r.val∧out=lk (dg m g co))→ ∀ {s:AS} {nm:Nat} {dst:Option Nat} {K:AS→Prop},AY s m f pc kc 0 (Sum.inl (.slice none 0 0))→(∀ x ∈ e,s.box x.1=some x.2)→K (({ s with box:=upd (ku s m g co) nm none }:AS).put dst (some (V (kM r.1))))→av Tryz.prog nm F (some args) dst K s)∧
  (yi Tryz.prog F args k (lk (ma m f pc kc 0++e)) ga (fun out=>out=lk (dg m g co))→ ∀ {s:AS} {F':Exit→AS→Prop},AY s m f pc kc 0 (Sum.inl (.slice none 0 0))→(∀ x ∈ e,s.box x.1=some x.2)→F' (.panic ga) { s with box:=ku s m g co }→fB Tryz.prog F (some args) F' s):=by
 refine ⟨fun hm s nm dst K hd hb hK=> ?_,fun hm s F' hd hb hK=> ?_⟩
 ·refine hm.wide.nA (Nat.le_refl 1) (fun n=>n) [2,3,4] (Og hd fun x hx=>⟨(he x hx).1,(he x hx).2,hb x hx⟩) (fC _) ?_
  rintro v out ⟨rfl,rfl⟩
  rw[V2 hk5,pR.val_eq]
  have: ∀ q,AV.ren q (V (kM r.1))=V (kM r.1):=fun q=>by
   rcases vh r.1 with h | ⟨i,h⟩<;>rw[h]<;>rfl
  rw[this]
  exact hK
 ·refine hm.rq (fun n=>n) [2,3,4] (Og hd fun x hx=>⟨(he x hx).1,(he x hx).2,hb x hx⟩) (fC _) ?_
  rintro out rfl
  rw[V3]
  exact hK
theorem Jm {m kn:Nat} {kb:Nat→Bool} {cut at_:Int} {f:Nat→Int} {r:pR}:(if bG at_ 0 (eN r.2)=true then cH 0 else kM r.1)=kM (pq at_ r):=by
 unfold pq
 split<;>rfl
section
variable {m kn:Nat} {kb:Nat→Bool} {f:Nat→Int} {ks:SV} {kc:List SV} {at_ cut:Int}
theorem Jn {F:Nat} {fn:Func} {c:Code} {r:pR} (hf:Tryz.prog.funcs[F]? =some fn) (hb:fn.body=some c) (hok:codeOk fn.ntmps c=true) (hlen:[Ag (fP 0 1 2 3)].length≤fn.ntmps) (hc:ak Tryz.prog F=true) (wd pz:List Nat) (hk:gU ks kn kb kc) (hm:m≤1048576)
  (hv:kT Tryz.prog wd pz c (Cz 6 m kn kb f at_ cut 0 r fn.results.toList) (cn.start [Ag (fP 0 1 2 3)] (lk (ma m f (cI at_ cut ks) kc 0)) 6)):
  bd Tryz.prog 67 [Ag (fP 0 1 2 3),V (.func (.func F) #[] ⟨[]⟩)] 8 (lk (Gf m f (cI at_ cut ks) kc kc kc)) (Lz 8 m (ni kn kb cut f at_ r) (kM (pq at_ r))):=by
 have ab': ∀ v ∈ [Ag (fP 0 1 2 3)],AV.ok (fun n=>n < 6) v:=fun v hv=>by rw[List.mem_singleton]at hv;subst hv;exact dY fun n hn=>by omega
 have gx: ∀ x ∈ kc,SV.ok (fun n=>n=6) x:=ao hk.c
 have key:=Ej (m:=m) (F:=F) (f:=f) (g:=ni kn kb cut f at_ r) (pc:=cI at_ cut ks) (kc:=kc) (ps:=kc) (pl:=kc) (cv:=[]) (cl:=[]) (flag:=bG at_ 0 (eN r.2)) (e:=kM r.1) (co:=P1 at_ r) hm (fD hk) hk.c hk.c gx (fun c hc=>by cases hc) rfl hc (vh _) ?_ ?_
 ·rw[Jm (m:=m) (kn:=kn) (kb:=kb) (cut:=cut) (f:=f)]at key
  exact key
 ·intro hfl s nm dst K hd h6 h7 hK
  have e1:ni kn kb cut f at_ r=pk f r.2:=if_neg (by rw[hfl];decide)
  have e2:P1 at_ r=0+(eN r.2:Nat):=if_neg (by rw[hfl];decide)
  rw[e1,e2]at hK
  exact (ml (F:=F) (k:=6) (e:=[]) (at_:=at_) (by decide) (fun x hx=>by cases hx)).1 (ka hf hb hok wd pz hlen hc ab' (by simpa using Jk) (by simpa using Jl (fD hk) hk.c) hfl (by rw[List.append_nil];exact hv)) hd (fun x hx=>by cases hx) hK
 ·intro hfl s F' hd h6 h7 hK
  have e1:ni kn kb cut f at_ r=lH kn kb (eE cut) f r.2 (at_ - 0 - 1).toNat:=if_pos hfl
  have e2:P1 at_ r=at_:=if_pos hfl
  rw[e1,e2]at hK
  exact (ml (F:=F) (k:=6) (r:=r) (e:=[]) (at_:=at_) (by decide) (fun x hx=>by cases hx)).2 (kd hf hb hok wd pz hlen hc ab' (by simpa using Jk) (by simpa using Jl (fD hk) hk.c) hfl (by rw[List.append_nil];exact hv)) hd (fun x hx=>by cases hx) hK
theorem P2 (hk:gU ks kn kb kc) (hf:eJ f) (hm:m≤8192) (h2:2≤m):
  bd Tryz.prog 67 [Ag (fP 0 1 2 3),V (.func (.func 40) #[] ⟨[]⟩)] 8 (lk (Gf m f (cI at_ cut ks) kc kc kc)) (Lz 8 m (ni kn kb cut f at_ (eG f m)) (kM (pq at_ (eG f m)))):=
 Jn Tryz.func40 rfl (by kernel_rfl) (by simp[Tryz.ntmps40]) Tryz.KW [4] [4] hk (by omega) (PW hk hf hm h2 (Int.le_refl 0) (by decide) _ rfl)
theorem P3 (hk:gU ks kn kb kc) (hf:eJ f) (hm:m≤8192) (h2:2≤m):
  bd Tryz.prog 67 [Ag (fP 0 1 2 3),V (.func (.func 39) #[] ⟨[]⟩)] 8 (lk (Gf m f (cI at_ cut ks) kc kc kc)) (Lz 8 m (ni kn kb cut f at_ (cU f m)) (kM (pq at_ (cU f m)))):=
 Jn Tryz.func39 rfl (by kernel_rfl) (by simp[Tryz.ntmps39]) Tryz.KV [] [7] hk (by omega) (PX hk hf hm h2 (Int.le_refl 0) (by decide) _ rfl)
end
section
variable {m n kn:Nat} {kb:Nat→Bool} {f pf:Nat→Int} {ks sv:SV} {kc ps:List SV} {at_ cut:Int}
theorem Ek: ∀ v ∈ [Ag (fP 0 1 2 3),Ptr 7 0],AV.ok (fun n=>n < 8) v:=fun v hv=>by
 simp only[bQ]at hv
 rcases hv with rfl | rfl
 ·exact dY fun n hn=>by omega
 ·exact (by decide:7 < 8)
theorem SM (hl:cS 6 sv n pf ps):(∃ a,sv= .inl (.slice a 0 0))∨ ∃ o l c,sv= .inr (.inr (6,o,l,c)):=by
 rcases hl with ⟨⟨a,rfl⟩,_⟩ | ⟨o,c,rfl,_⟩
 ·exact .inl ⟨a,rfl⟩
 ·exact .inr ⟨o,_,c,rfl⟩
theorem Bu (hl:cS 6 sv n pf ps): ∀ x ∈ [sv],SV.ok (fun n=>n=6) x:=fun x hx=>by
 rw[List.mem_singleton]at hx
 subst hx
 rcases hl with ⟨⟨a,rfl⟩,_⟩ | ⟨o,c,rfl,_⟩
 ·exact ⟨trivial,rfl⟩
 ·exact ⟨rfl,rfl⟩
theorem aeL (hk:gU ks kn kb kc) (hf:eJ f) (hl:cS 6 sv n pf ps) (hp:ps.all SV.plain=true) (hpf:eJ pf) (hm:m≤8192) (h2:2≤m) (hn:n < 9223372036854775000) (hfl:bG at_ 0 (eN (aW f m n pf).2)=false):
  bd Tryz.prog 38 [Ag (fP 0 1 2 3),Sum.inl (Sum.inl sv)] 7 (lk (ma m f (cI at_ cut ks) kc 0++[(6,⟨false,ps⟩)])) (fun v out=>v=(aW f m n pf).val∧out=lk (dg m (pk f (aW f m n pf).2) (0+(eN (aW f m n pf).2:Nat)))):=
 ka Tryz.func38 rfl (by kernel_rfl) [11] [8,12] (by simp[Tryz.ntmps38]) Tryz.oU (fun v hv=>by
  simp only[bQ]at hv
  rcases hv with rfl | rfl
  ·exact dY fun n hn=>by omega
  ·exact (SV.aL (fun n hn=>by subst hn;decide) (Bu hl _ (List.mem_singleton.2 rfl)):SV.ok (fun n=>n < 7) _).1) ru (rv (fD hk) hk.c hp) hfl (Jd hk hf hl hp hpf hm h2 hn (Int.le_refl 0) (by decide) _ rfl)
theorem aeM (hk:gU ks kn kb kc) (hf:eJ f) (hl:cS 6 sv n pf ps) (hp:ps.all SV.plain=true) (hpf:eJ pf) (hm:m≤8192) (h2:2≤m) (hn:n < 9223372036854775000) (hfl:bG at_ 0 (eN (aW f m n pf).2)=true):
  yi Tryz.prog 38 [Ag (fP 0 1 2 3),Sum.inl (Sum.inl sv)] 7 (lk (ma m f (cI at_ cut ks) kc 0++[(6,⟨false,ps⟩)])) ga (fun out=>out=lk (dg m (lH kn kb (eE cut) f (aW f m n pf).2 (at_ - 0 - 1).toNat) at_)):=
 kd Tryz.func38 rfl (by kernel_rfl) [11] [8,12] (by simp[Tryz.ntmps38]) Tryz.oU (fun v hv=>by
  simp only[bQ]at hv
  rcases hv with rfl | rfl
  ·exact dY fun n hn=>by omega
  ·exact (SV.aL (fun n hn=>by subst hn;decide) (Bu hl _ (List.mem_singleton.2 rfl)):SV.ok (fun n=>n < 7) _).1) ru (rv (fD hk) hk.c hp) hfl (Jd hk hf hl hp hpf hm h2 hn (Int.le_refl 0) (by decide) _ rfl)
theorem aca (hk:gU ks kn kb kc) (hf:eJ f) (hl:cS 6 sv n pf ps) (hp:ps.all SV.plain=true) (hpf:eJ pf) (hm:m≤8192) (h2:2≤m) (hn:n < 9223372036854775000) (hfl:bG at_ 0 (eN (aW f m n pf).2)=false):
  bd Tryz.prog 37 [Ag (fP 0 1 2 3),Ptr 7 0] 8 (lk (ma m f (cI at_ cut ks) kc 0++[(6,⟨false,ps⟩),(7,⟨false,[sv]⟩)])) (fun v out=>v=(aW f m n pf).val∧out=lk (dg m (pk f (aW f m n pf).2) (0+(eN (aW f m n pf).2:Nat)))):=by
 refine cy Tryz.func37 rfl (by kernel_rfl) [] [] (by simp[Tryz.ntmps37]) Tryz.tj Ek Od (Oe (fD hk) hk.c hp (Bu hl)) ?_
 have R5: ∀ {s:AS},s.box 2=some ⟨true,[Sum.inl (.slice none 0 0)]⟩→s.box 3=some ⟨true,[Sum.inl (.int .i64 (0+(eN (aW f m n pf).2:Nat)))]⟩→s.box 4=some ⟨true,ai .u8 (64*m) (pk f (aW f m n pf).2)⟩→
   m8 8 (fun v out=>v=(aW f m n pf).val∧out=lk (dg m (pk f (aW f m n pf).2) (0+(eN (aW f m n pf).2:Nat)))) (V (kM (aW f m n pf).1)) s:=fun b2 b3 b4=>by
  have hv: ∀ q,AV.ren q (V (kM (aW f m n pf).1))=V (kM (aW f m n pf).1):=fun q=>by
   rcases vh (aW f m n pf).1 with h | ⟨i,h⟩<;>rw[h]<;>rfl
  refine dV (q:=8) (v0:=V (kM (aW f m n pf).1)) (Nat.le_refl 8) (hv _).symm (by rcases vh (aW f m n pf).1 with h | ⟨i,h⟩<;>rw[h]<;>trivial) (fun x hx=> ?_) ⟨(pR.val_eq _).symm,rfl⟩
  simp only[dg,bQ]at hx
  rcases hx with rfl | rfl | rfl
  ·exact ⟨(by decide:2 < 9),fun h=>(by cases h),ao rfl,b2⟩
  ·exact ⟨(by decide:3 < 9),fun h=>(by cases h),ao rfl,b3⟩
  ·exact ⟨(by decide:4 < 9),fun h=>(by cases h),ao az,by rw[au az];exact b4⟩
 rcases SM hl with ⟨a,rfl⟩ | ⟨o,l,c,rfl⟩
 all_goals
  simp only[Tryz.results37,Tryz.bO,Gf,ma,List.cons_append,List.nil_append,aH,bH,seval]
  refine (ml (F:=38) (k:=7) (r:=aW f m n pf) (e:=[(6,⟨false,ps⟩)]) (at_:=at_) (by decide) (fun x hx=>by rw[List.mem_singleton]at hx;subst hx;exact ⟨rfl,Nat.le_refl 6⟩)).1 (aeL (cut:=cut) hk hf hl hp hpf hm h2 hn hfl) ⟨?_, ?_, ?_, ?_, ?_, ?_⟩ (fun x hx=> ?_) ?_<;>try (simp only[aq,ay,ae,vR,seval];done)
  ·rw[List.mem_singleton]at hx
   subst hx
   simp only[aq,ay,ae,vR,seval]
  ·simp only[ku,aH,bH,seval]
   refine R5 ?_ ?_ ?_<;>simp only[aq,ay,ae,vR,seval]
theorem acb (hk:gU ks kn kb kc) (hf:eJ f) (hl:cS 6 sv n pf ps) (hp:ps.all SV.plain=true) (hpf:eJ pf) (hm:m≤8192) (h2:2≤m) (hn:n < 9223372036854775000) (hfl:bG at_ 0 (eN (aW f m n pf).2)=true):
  yi Tryz.prog 37 [Ag (fP 0 1 2 3),Ptr 7 0] 8 (lk (ma m f (cI at_ cut ks) kc 0++[(6,⟨false,ps⟩),(7,⟨false,[sv]⟩)])) ga (fun out=>out=lk (dg m (lH kn kb (eE cut) f (aW f m n pf).2 (at_ - 0 - 1).toNat) at_)):=by
 refine Ji Tryz.func37 rfl (by kernel_rfl) (by kernel_rfl) [] [] (by simp[Tryz.ntmps37]) Tryz.tj Ek Od (Oe (fD hk) hk.c hp (Bu hl)) ?_
 rcases SM hl with ⟨a,rfl⟩ | ⟨o,l,c,rfl⟩
 all_goals
  simp only[Tryz.results37,Tryz.bO,Gf,ma,List.cons_append,List.nil_append,aH,bH,seval]
  refine .inr ⟨2, ?_⟩
  simp only[SJ,List.take_succ_cons,List.take_zero,List.drop_succ_cons,List.drop_zero,Tryz.bO,aH,bH,seval]
  refine ⟨rfl, ?_⟩
  refine (ml (F:=38) (k:=7) (r:=aW f m n pf) (e:=[(6,⟨false,ps⟩)]) (at_:=at_) (by decide) (fun x hx=>by rw[List.mem_singleton]at hx;subst hx;exact ⟨rfl,Nat.le_refl 6⟩)).2 (aeM (cut:=cut) hk hf hl hp hpf hm h2 hn hfl) ⟨?_, ?_, ?_, ?_, ?_, ?_⟩ (fun x hx=> ?_) ?_<;>try (simp only[aq,ay,ae,vR,seval];done)
  ·rw[List.mem_singleton]at hx
   subst hx
   simp only[aq,ay,ae,vR,seval]
  ·simp only[ku,aH,bH,seval]
   refine ⟨rfl,_,fun n b hb=> ?_,rfl⟩
   have h1:=bt _ _ _ hb
   simp only[dg,bQ,Prod.mk.injEq]at h1
   rcases h1 with ⟨rfl,rfl⟩ | ⟨rfl,rfl⟩ | ⟨rfl,rfl⟩
   ·exact ⟨by decide,ao rfl,_,by simp only[aq,ay,ae,vR,seval],fun h=>h,rfl⟩
   ·exact ⟨by decide,ao rfl,_,by simp only[aq,ay,ae,vR,seval],fun h=>h,rfl⟩
   ·exact ⟨by decide,ao az,_,by simp only[aq,ay,ae,vR,seval],fun h=>h,rfl⟩
theorem SN (hk:gU ks kn kb kc) (hf:eJ f) (hl:cS 6 sv n pf ps) (hp:ps.all SV.plain=true) (hpf:eJ pf) (hm:m≤8192) (h2:2≤m) (hn:n < 9223372036854775000):
  bd Tryz.prog 67 [Ag (fP 0 1 2 3),V (.func (.func 37) #[] ⟨[.pointer (some { block:=7,off:=0 })]⟩)] 8 (lk (Gf m f (cI at_ cut ks) kc ps [sv])) (Lz 8 m (ni kn kb cut f at_ (aW f m n pf)) (kM (pq at_ (aW f m n pf)))):=by
 have key:=Ej (m:=m) (F:=37) (f:=f) (g:=ni kn kb cut f at_ (aW f m n pf)) (pc:=cI at_ cut ks) (kc:=kc) (ps:=ps) (pl:=[sv]) (cv:=[.pointer (some { block:=7,off:=0 })]) (cl:=[Ptr 7 0]) (flag:=bG at_ 0 (eN (aW f m n pf).2)) (e:=kM (aW f m n pf).1) (co:=P1 at_ (aW f m n pf)) (by omega) (fD hk) hk.c hp (Bu hl) ?_ rfl Tryz.tj (vh _) ?_ ?_
 ·rw[Jm (m:=m) (kn:=kn) (kb:=kb) (cut:=cut) (f:=f)]at key
  exact key
 ·intro c hc
  simp only[bQ]at hc
  subst hc
  exact (by decide:7 < 8)
 ·intro hfl s nm dst K hd h6 h7 hK
  have e1:ni kn kb cut f at_ (aW f m n pf)=pk f (aW f m n pf).2:=if_neg (by rw[hfl];decide)
  have e2:P1 at_ (aW f m n pf)=0+(eN (aW f m n pf).2:Nat):=if_neg (by rw[hfl];decide)
  rw[e1,e2]at hK
  exact (ml (F:=37) (k:=8) (e:=[(6,⟨false,ps⟩),(7,⟨false,[sv]⟩)]) (at_:=at_) (by decide) (fun x hx=>by simp only[bQ]at hx;rcases hx with rfl | rfl<;>refine ⟨rfl, ?_⟩<;>(simp only;omega))).1 (aca (cut:=cut) hk hf hl hp hpf hm h2 hn hfl) hd (fun x hx=>by simp only[bQ]at hx;rcases hx with rfl | rfl<;>assumption) hK
 ·intro hfl s F' hd h6 h7 hK
  have e1:ni kn kb cut f at_ (aW f m n pf)=lH kn kb (eE cut) f (aW f m n pf).2 (at_ - 0 - 1).toNat:=if_pos hfl
  have e2:P1 at_ (aW f m n pf)=at_:=if_pos hfl
  rw[e1,e2]at hK
  exact (ml (F:=37) (k:=8) (r:=aW f m n pf) (e:=[(6,⟨false,ps⟩),(7,⟨false,[sv]⟩)]) (at_:=at_) (by decide) (fun x hx=>by simp only[bQ]at hx;rcases hx with rfl | rfl<;>refine ⟨rfl, ?_⟩<;>(simp only;omega))).2 (acb (cut:=cut) hk hf hl hp hpf hm h2 hn hfl) hd (fun x hx=>by simp only[bQ]at hx;rcases hx with rfl | rfl<;>assumption) hK
end
def cX (k:Nat) (code:Int) (n:Nat) (g:Nat→Int) (v:AV) (out:Nat→Option aI):Prop:=
 (n=0∧v=Ag [Sum.inl (.int .i64 code),Sum.inl (.slice none 0 0)]∧out=fun _=>none)∨
 ∃ c cs,n≤c∧aY cs 0 n g∧cs.all SV.plain=true∧v=Ag [Sum.inl (.int .i64 code), .inr (.inr (k,0,n,c))]∧out=lk [(k,⟨true,cs⟩)]
theorem dE.iW {u n:Nat} {sv:SV} {f:Nat→Bool} {cs:List SV} (h:dE u sv n f cs) (t:Nat): ∃ s0,dE t s0 n f cs∧ ∀ r:Nat→Nat,r t=u→SV.ren r s0=sv:=by
 rcases h with ⟨⟨a,rfl⟩,h0⟩ | ⟨o,c,rfl,hs⟩
 ·exact ⟨_, .inl ⟨⟨a,rfl⟩,h0⟩,fun r _=>rfl⟩
 ·exact ⟨.inr (.inr (t,o,n,c)), .inr ⟨o,c,rfl,hs⟩,fun r hr=>by simp only[SV.ren,hr]⟩
def P4 (cs kc ps pl:List SV):List (Nat×aI):=[(0,⟨false,cs⟩),(1,⟨false,kc⟩),(2,⟨false,ps⟩),(3,⟨false,pl⟩)]
theorem Oh {cs kc ps pl:List SV}: ∀ n,n < 4→ ∃ c,lk (P4 cs kc ps pl) n=some c:=fun n hn=>by
 rcases (show n=0∨n=1∨n=2∨n=3 by omega) with rfl | rfl | rfl | rfl<;>exact ⟨_,rfl⟩
theorem Oi {cs kc ps pl:List SV} (h0:cs.all SV.plain=true) (h1:kc.all SV.plain=true) (h2:ps.all SV.plain=true) (h3: ∀ x ∈ pl,SV.ok (fun n=>n=2) x): ∀ n b,lk (P4 cs kc ps pl) n=some b→n < 4∧ ∀ x ∈ b.cells,SV.ok (fun n=>n < 4) x:=fun n b hb=>by
 have h:=bt _ _ _ hb
 simp only[P4,bQ,Prod.mk.injEq]at h
 rcases h with ⟨rfl,rfl⟩ | ⟨rfl,rfl⟩ | ⟨rfl,rfl⟩ | ⟨rfl,rfl⟩
 ·exact ⟨by decide,ao h0⟩
 ·exact ⟨by decide,ao h1⟩
 ·exact ⟨by decide,ao h2⟩
 ·exact ⟨by decide,fun x hx=>SV.aL (fun n hn=>by subst hn;decide) (h3 x hx)⟩
theorem ow {t:Nat} {at_ cut:Int} {ks:SV} {kn:Nat} {kb:Nat→Bool} {kc:List SV} (h:dE t ks kn kb kc) {M:Nat→Prop} (hM:M t): ∀ x ∈ cI at_ cut ks,SV.ok M x:=fun x hx=>by
 simp only[cI,bQ]at hx
 rcases hx with rfl | rfl | rfl
 ·exact ⟨trivial,rfl⟩
 ·exact h.ok hM
 ·exact ⟨trivial,rfl⟩
theorem dW {s:AS} {r:Nat→Nat} {k nm:Nat}:after s r k nm none (fun _=>none)=s.box:=rfl
theorem cN {a b x:SV}:splice [a,b] 0 [x]=[x,b]:=rfl
theorem cO {a b x:SV}:splice [a,b] 1 [x]=[a,x]:=rfl
theorem cQ {a b x y:SV}:splice [a,b] 0 [x,y]=[x,y]:=rfl
theorem El {cs:List SV} {o n:Nat} {f:Nat→Int} (hs:aY cs o n f): ∀ j u,(ai .u8 n f)[j]? =some u→cs[o+j]? =some u:=fun j u hj=>by
 have hjn:j < n:=by
  have:=(List.getElem?_eq_some_iff.1 hj).1
  rwa [aD]at this
 rw[bN .u8 n f j hjn]at hj
 rw[hs j hjn]
 exact hj
theorem bM {s:AS} {k q n c:Nat} {code:Int} {g:Nat→Int} {cs:List SV} (hq:k≤q) (hb:s.box q=some ⟨true,cs⟩) (hs:aY cs 0 n g) (hp:cs.all SV.plain=true) (hc:n≤c):
  m8 k (cX k code n g) (Ag [Sum.inl (.int .i64 code), .inr (.inr (q,0,n,c))]) s:=by
 refine dV (q:=q) (v0:=Ag [Sum.inl (.int .i64 code), .inr (.inr (k,0,n,c))]) hq ?_ (fun x hx=> ?_) (fun x hx=> ?_) (Or.inr ⟨c,cs,hc,hs,hp,rfl,rfl⟩)
 ·simp only[AV.ren,CV.ren,List.map_cons,List.map_nil,SV.ren,fj,kt]
 ·simp only[bQ]at hx
  rcases hx with rfl | rfl
  ·exact ⟨trivial,rfl⟩
  ·exact ⟨Nat.lt_succ_self k,rfl⟩
 ·rw[List.mem_singleton]at hx
  subst hx
  exact ⟨Nat.lt_succ_self k,fun _=>rfl,ao hp,by rw[au hp,kt];exact hb⟩
theorem Bv {s:AS} {r:Nat→Nat} {nm:Nat} {b0 b1 b2 b3:aI}:gH s r 2 4 nm none (lk [(2,b0),(2+1,b1),(2+2,b2),(2+3,b3)])=upd (upd (upd (upd s.box nm (some (aI.ren (aV r 2 nm) b0))) (nm+1) (some (aI.ren (aV r 2 nm) b1))) (nm+2) (some (aI.ren (aV r 2 nm) b2))) (nm+3) (some (aI.ren (aV r 2 nm) b3)):=by
 funext t
 unfold gH
 by_cases h:nm≤t∧t < nm+4
 ·rw[if_pos h]
  rcases (show t=nm∨t=nm+1∨t=nm+2∨t=nm+3 by omega) with rfl | rfl | rfl | rfl
  ·simp[lk,upd]
  ·simp[lk,upd,show 2+(nm+1 - nm)=3 by omega]
  ·simp[lk,upd,show 2+(nm+2 - nm)=4 by omega]
  ·simp[lk,upd,show 2+(nm+3 - nm)=5 by omega]
 ·rw[if_neg h]
  have h0:t≠nm:=by omega
  have h1:t≠nm+1:=by omega
  have h2:t≠nm+2:=by omega
  have h3:t≠nm+3:=by omega
  simp[upd,h0,h1,h2,h3]
def P5 (d a n:Nat):Nat:=if n < 4 then d+n else if n=4 then a else n - 4
theorem SQ {s:AS} {d a m:Nat} {f:Nat→Int} {at_ cut:Int} {ks ks':SV} {kc ps pl ZX:List SV} (hd:4≤d) (hda: ¬ (d≤a∧a < d+4)) (ha:4≤a) (hq:kc.all SV.plain=true) (hps:ps.all SV.plain=true) (hks:SV.ren (P5 d a) ks'=ks) (gx:ZX.map (SV.ren (P5 d a))=pl) {r1 r2 r3:Bool}
  (h0:s.box d=some ⟨true,[Sum.inr (.inr (a,0,m,m))]⟩) (h1:s.box (d+1)=some ⟨true,cI at_ cut ks⟩) (h2:s.box (d+2)=some ⟨true,[Sum.inl (.slice none 0 0)]⟩) (h3:s.box (d+3)=some ⟨true,[Sum.inl (.int .i64 0)]⟩) (h4:s.box a=some ⟨true,ai .u8 (64*m) f⟩) (h5:s.box 1=some ⟨r1,kc⟩) (h6:s.box 2=some ⟨r2,ps⟩) (h7:s.box 3=some ⟨r3,pl⟩):jr s (P5 d a) (lk (Gf m f (cI at_ cut ks') kc ps ZX)) [2,3,4]:=by
 have e: ∀ n,n < 4→P5 d a n=d+n:=fun n hn=>if_pos hn
 have e4:P5 d a 4=a:=by simp[P5]
 have e5: ∀ n,4 < n→P5 d a n=n - 4:=fun n hn=>by unfold P5;rw[if_neg (by omega),if_neg (by omega)]
 refine lY (fun x hx=> ?_) fun n hn=> ?_
 ·have inj: ∀ b,b=2∨b=3∨b=4→ ∀ y ∈ Gf m f (cI at_ cut ks') kc ps ZX,P5 d a b=P5 d a y.1→b=y.1:=fun b hb y hy h=>by
   have:y.1 < 8:=by
    simp only[Gf,ma,List.cons_append,List.nil_append,bQ]at hy
    rcases hy with rfl | rfl | rfl | rfl | rfl | rfl | rfl | rfl<;>(simp only;omega)
   unfold P5 at h
   (repeat' split at h)<;>omega
  simp only[Gf,ma,List.cons_append,List.nil_append,bQ]at hx
  rcases hx with rfl | rfl | rfl | rfl | rfl | rfl | rfl | rfl
  ·exact ⟨⟨_,by rw[e 0 (by omega)];simp only[List.map_cons,List.map_nil,SV.ren,e4];exact h0,fun h=>(by cases h)⟩,fun h=>(by cases h)⟩
  ·exact ⟨⟨_,by rw[e 1 (by omega)];simp only[cI,List.map_cons,List.map_nil,hks];exact h1,fun h=>(by cases h)⟩,fun h=>(by cases h)⟩
  ·exact ⟨⟨_,by rw[e 2 (by omega)];exact h2,fun h=>rfl⟩,fun h=>⟨(by decide:(2:Nat) ∈ [2,3,4]),inj 2 (by decide)⟩⟩
  ·exact ⟨⟨_,by rw[e 3 (by omega)];exact h3,fun h=>rfl⟩,fun h=>⟨(by decide:(3:Nat) ∈ [2,3,4]),inj 3 (by decide)⟩⟩
  ·exact ⟨⟨_,by rw[e4,au az];exact h4,fun h=>rfl⟩,fun h=>⟨(by decide:(4:Nat) ∈ [2,3,4]),inj 4 (by decide)⟩⟩
  ·exact ⟨⟨_,by rw[e5 5 (by omega),au hq];exact h5,fun h=>(by cases h)⟩,fun h=>(by cases h)⟩
  ·exact ⟨⟨_,by rw[e5 6 (by omega),au hps];exact h6,fun h=>(by cases h)⟩,fun h=>(by cases h)⟩
  ·exact ⟨⟨_,by rw[e5 7 (by omega),gx];exact h7,fun h=>(by cases h)⟩,fun h=>(by cases h)⟩
 ·simp only[bQ]at hn
  rcases hn with rfl | rfl | rfl<;>exact ⟨_,rfl,rfl⟩
section
variable {n o c kn:Nat} {kb:Nat→Bool} {f g:Nat→Int} {ks:SV} {cs kc ps pl:List SV} {at_ cut:Int} {cv:List Value} {F:Nat} {e:Option Nat}
theorem Bw (hk:dE 1 ks kn kb kc) (Ly:AV.ok (fun n=>n < 4) (V (.func (.func F) #[] ⟨cv⟩))): ∀ v ∈ [Sl 0 o n c,Ag (cI at_ cut ks),V (.func (.func F) #[] ⟨cv⟩)],AV.ok (fun n=>n < 4) v:=fun v hv=>by
 simp only[bQ]at hv
 rcases hv with rfl | rfl | rfl
 ·exact (by decide:0 < 4)
 ·exact ow hk (by decide)
 ·exact Ly
theorem Em (hs:aY cs o n f) (hc:n≤c) (hp:cs.all SV.plain=true) (hn:n≤1048576) (hk:dE 1 ks kn kb kc) (hq:kc.all SV.plain=true) (hps:ps.all SV.plain=true) (gx: ∀ x ∈ pl,SV.ok (fun n=>n=2) x) (Ly:AV.ok (fun n=>n < 4) (V (.func (.func F) #[] ⟨cv⟩))) (hb:gJ n=false):
  bd Tryz.prog 36 [Sl 0 o n c,Ag (cI at_ cut ks),V (.func (.func F) #[] ⟨cv⟩)] 4 (lk (P4 cs kc ps pl)) (cX 4 1 n f):=by
 refine cy Tryz.func36 rfl (by kernel_rfl) [4] [] (by simp[Tryz.ntmps36]) Tryz.oT (Bw hk Ly) Oh (Oi hp hq hps gx) ?_
 have hz:zeroOf Tryz.prog 40=some [.int .i64 0, .slice none 0 0]:=by kernel_rfl
 simp only[Tryz.results36,P4,hz,aH,bH,seval]
 refine (mX hs hc hp hn).av (fun _=>0) none (bZ (by simp only[bV,seval];rfl) hp) rfl ?_
 rintro v out (⟨_,rfl,rfl⟩ | ⟨h,_⟩) _
 case inr=>rw[hb]at h;cases h
 have e1: ∀ r,AV.ren r (.inr [.inl (.inl (.slice none 0 0)), .inl (.inl (cH 1))])= .inr [.inl (.inl (.slice none 0 0)), .inl (.inl (cH 1))]:=fun r=>rfl
 rw[Bq,e1]
 simp only[hz,cH,Tryz.bO,aH,bH,seval]
 refine (mW (e:=some 1) (fun i h=>by cases h;decide)).av ?_
 simp only[hz,Tryz.bO,aH,bH,seval]
 refine sd Tryz.eK Tryz.fc rfl (by decide) rfl (m:=n) (news:=ai .u8 n f) (.inl ⟨0,o,c,⟨false,cs⟩,rfl,by simp only[bV,seval];rfl,by rw[aD];omega,El hs,by simp⟩) (by omega) (by omega) (fun h0=> ?_) fun h0 c' tail g1 g2 g3=> ?_
 ·simp only[hz,fL,dW,cN,cO,cQ,mT,Tryz.bO,aH,bH,seval]
  refine aJ rfl (Or.inl ⟨h0, ?_,rfl⟩)
  rfl
 ·simp only[hz,fL,dW,cN,cO,cQ,mT,Tryz.bO,aH,bH,seval]
  exact bM (by decide) (by show AS.box _ 18=some _;simp only[bV,seval]) dy (bY g3) g1
theorem Jo {cv':List Value} {ks':SV} {ZX:List SV} (hs:aY cs o n f) (hc:n≤c) (hp:cs.all SV.plain=true) (hn:n≤1048576) (hk:dE 1 ks kn kb kc) (hq:kc.all SV.plain=true) (hps:ps.all SV.plain=true) (gx: ∀ x ∈ pl,SV.ok (fun n=>n=2) x) (Ly:AV.ok (fun n=>n < 4) (V (.func (.func F) #[] ⟨cv⟩))) (hb:gJ n=true)
  (he: ∀ i,e=some i→i < 5) (hks: ∀ r:Nat→Nat,r 5=1→SV.ren r ks'=ks) (aeN: ∀ r:Nat→Nat,r 6=2→ZX.map (SV.ren r)=pl) (aeO: ∀ r:Nat→Nat,r 7=3→AV.ren r (V (.func (.func F) #[] ⟨cv'⟩))=V (.func (.func F) #[] ⟨cv⟩))
  (hO:bd Tryz.prog 67 [Ag (fP 0 1 2 3),V (.func (.func F) #[] ⟨cv'⟩)] 8 (lk (Gf (n / 64) f (cI at_ cut ks') kc ps ZX)) (Lz 8 (n / 64) g (kM e))):
  bd Tryz.prog 36 [Sl 0 o n c,Ag (cI at_ cut ks),V (.func (.func F) #[] ⟨cv⟩)] 4 (lk (P4 cs kc ps pl)) (cX 4 (fL e) n g):=by
 refine cy Tryz.func36 rfl (by kernel_rfl) [4] [] (by simp[Tryz.ntmps36]) Tryz.oT (Bw hk Ly) Oh (Oi hp hq hps gx) ?_
 have hz:zeroOf Tryz.prog 40=some [.int .i64 0, .slice none 0 0]:=by kernel_rfl
 have Ge:64*(n / 64)=n:=by
  unfold gJ at hb
  simp only[decide_eq_true_eq]at hb
  omega
 simp only[Tryz.results36,P4,hz,aH,bH,seval]
 refine (mX hs hc hp hn).av (fun _=>0) none (bZ (by simp only[bV,seval];rfl) hp) rfl ?_
 rintro v out (⟨h,_⟩ | ⟨_,rfl,rfl⟩) _
 ·rw[hb]at h;cases h
 have e1:AV.ren (df (fun x=>0) 1 7) (Bq (.inr (.inr (1,0,n / 64,n / 64))) .nilIface)=Bq (.inr (.inr (7,0,n / 64,n / 64))) .nilIface:=rfl
 rw[e1,bX az,Bq]
 simp only[hz,Tryz.bO,aH,bH,seval]
 refine ⟨by decide, ?_⟩
 simp only[hz,Tryz.bO,aH,bH,seval]
 have Eo:SV.ren (two 7 1) ks=ks:=SV.je (SV.br (fun n hn=>by subst hn;rfl) (hk.ok (M:=fun n=>n=1) rfl).1)
 have aeP:SV.ren (aV (two 7 1) 2 27) ks=ks:=SV.je (SV.br (fun n hn=>by subst hn;rfl) (hk.ok (M:=fun n=>n=1) rfl).1)
 refine ⟨Nat.le_refl 3, ?_⟩
 rw[show List.take 3 (cI at_ cut ks)=cI at_ cut ks from rfl]
 refine (Br (m:=n / 64) (at_:=at_) (cut:=cut) (cs:=ai .u8 n f) az hk hq).av (two 7 1) none (jq (rw:=true) (rw':=false) ?_ az ?_ hq) ?_ ?_
 ·simp only[bV,seval]
 ·simp only[bV,seval]
 ·have SR:AV.ren (two 7 1) (Ag (cI at_ cut ks))=Ag (cI at_ cut ks):=by
   show Ag [_,SV.ren (two 7 1) ks,_]=_
   rw[Eo]
   rfl
  simp only[List.map_cons,List.map_nil,SR]
  rfl
 rintro v out ⟨rfl,rfl⟩
 rw[Bv,show AV.ren (aV (two 7 1) 2 27) (Ag (fP 2 (2+1) (2+2) (2+3)))=Ag (fP 27 28 29 30) from rfl]
 have Px:aI.ren (aV (two 7 1) 2 27) ⟨true,cI at_ cut ks⟩=⟨true,cI at_ cut ks⟩:=by
  show aI.mk true [_,SV.ren (aV (two 7 1) 2 27) ks,_]=_
  rw[aeP]
  rfl
 rw[Px,show aI.ren (aV (two 7 1) 2 27) ⟨true,[Sum.inr (.inr (0,0,n / 64,n / 64))]⟩=⟨true,[Sum.inr (.inr (7,0,n / 64,n / 64))]⟩ from rfl,show aI.ren (aV (two 7 1) 2 27) ⟨true,[Sum.inl (.slice none 0 0)]⟩=⟨true,[Sum.inl (.slice none 0 0)]⟩ from rfl,show aI.ren (aV (two 7 1) 2 27) ⟨true,[Sum.inl (.int .i64 0)]⟩=⟨true,[Sum.inl (.int .i64 0)]⟩ from rfl]
 simp only[hz,Tryz.bO,Nat.reduceAdd,aH,bH,seval]
 refine hO.wide.uP (P5 27 7) [2,3,4] (SQ (pl:=pl) (ks:=ks) (by decide) (by decide) (by decide) hq hps (hks _ rfl) (aeN _ rfl) (r1:=false) (r2:=false) (r3:=false) ?_ ?_ ?_ ?_ ?_ ?_ ?_ ?_) ?_ ?_
 ·simp only[aq,ae,Nat.reduceAdd,vR,seval]
 ·simp only[aq,ae,Nat.reduceAdd,vR,seval]
 ·simp only[aq,ae,Nat.reduceAdd,vR,seval]
 ·simp only[aq,ae,Nat.reduceAdd,vR,seval]
 ·rw[Ge]
  simp only[aq,ae,Nat.reduceAdd,vR,seval]
 ·simp only[aq,ae,Nat.reduceAdd,vR,seval]
 ·simp only[aq,ae,Nat.reduceAdd,vR,seval]
 ·simp only[aq,ae,Nat.reduceAdd,vR,seval]
 ·simp only[List.map_cons,List.map_nil,aeO (P5 27 7) rfl]
  rfl
 rintro v out ⟨cnt,c2,tail,b2,g1,g2,g3,rfl,rfl⟩
 rw[gl]
 have O9:nh e=V (kM e):=by
  rcases e with _ | i<;>rfl
 have H0: ∀ r:Nat→Nat,r 8=35→AV.ren r (.inr [.inl (.inr (.inr (8,0,64*(n / 64),c2))), .inl (.inl (kM e))])= .inr [.inl (.inr (.inr (35,0,n,c2))), .inl (.inl (kM e))]:=fun r hr=>by
  rw[Ge]
  have:SV.ren r (.inl (kM e))= .inl (kM e):=by
   rcases e with _ | i<;>rfl
  show Sum.inr [Sum.inl (Sum.inr (Sum.inr (r 8,0,n,c2))),Sum.inl (SV.ren r (.inl (kM e)))]=_
  rw[hr,this]
 rw[H0 _ rfl]
 simp only[List.foldr_cons,List.foldr_nil,lk,Option.map_some,Option.map_none,aI.ren,au (bY g3),au az,Nat.reduceEqDiff,reduceIte,hz,Tryz.bO,aH,bH,seval]
 refine (show pU Tryz.prog 29 [V (kM e)] (I .i64 (fL e)) by rw[← O9];exact mW he).av ?_
 simp only[cN,cO,cQ,mT,hz,Tryz.bO,aH,bH,seval]
 refine bM (by decide) (by show AS.box _ 35=some _;simp only[bV,seval];rfl) ?_ (bY g3) (by omega)
 have:=dy (n:=64*(n / 64)) (f:=g) (tail:=tail)
 rw[Ge]at this ⊢
 exact this
end
theorem pw {s:AS} {fn k n nm:Nat} {code:Int} {g:Nat→Int} {args l:List AV} {ins:Nat→Option aI} (h:bd Tryz.prog fn args k ins (cX k code n g)) (r:Nat→Nat) (hfit:Fits s r ins none) (hl:l=args.map (AV.ren r)) {dst:Option Nat} {K:AS→Prop}
  (h0:n=0→K (s.put dst (some (Ag [Sum.inl (.int .i64 code),Sum.inl (.slice none 0 0)]))))
  (h1: ∀ c cs,n≤c→aY cs 0 n g→cs.all SV.plain=true→K ((⟨s.env,upd s.box nm (some ⟨true,cs⟩),s.next⟩:AS).put dst (some (Ag [Sum.inl (.int .i64 code), .inr (.inr (nm,0,n,c))])))):av Tryz.prog nm fn (some l) dst K s:=by
 refine h.av r none hfit hl ?_
 rintro v out (⟨hn,rfl,rfl⟩ | ⟨c,cs,hc,hs,hp,rfl,rfl⟩) _
 ·rw[dW]
  exact h0 hn
 ·rw[bX hp]
  have e:AV.ren (df r k nm) (Ag [Sum.inl (.int .i64 code), .inr (.inr (k,0,n,c))])=Ag [Sum.inl (.int .i64 code), .inr (.inr (nm,0,n,c))]:=by
   show Ag [_,Sum.inr (Sum.inr (df r k nm k,0,n,c))]=_
   rw[gF]
   rfl
  rw[e]
  exact h1 c cs hc hs hp
theorem um {s:AS} {k:Nat} {code:Int} {g:Nat→Int} {n:Nat} (hn:n=0):m8 k (cX k code n g) (Ag [Sum.inl (.int .i64 code),Sum.inl (.slice none 0 0)]) s:=
 aJ rfl (Or.inl ⟨hn,rfl,rfl⟩)
def xX (n:Nat) (at_:Int) (r:pR):Int:=if gJ n=true then fL (pq at_ r) else 1
def Bx (kn:Nat) (kb:Nat→Bool) (cut:Int) (f:Nat→Int) (n:Nat) (at_:Int) (r:pR):Nat→Int:=if gJ n=true then ni kn kb cut f at_ r else f
theorem Oj {at_:Int} {r:pR} (h: ∀ i,r.1=some i→i < 5): ∀ i,pq at_ r=some i→i < 5:=fun i hi=>by
 unfold pq at hi
 split at hi
 ·cases hi;decide
 ·exact h i hi
theorem Jp {f:Nat→Int} {m:Nat}: ∀ i,(eG f m).1=some i→i < 5:=fun i hi=>by
 unfold eG at hi
 split at hi
 ·cases hi;decide
 ·cases hi
theorem Jq {f:Nat→Int} {m:Nat}: ∀ i,(cU f m).1=some i→i < 5:=fun i hi=>by
 unfold cU at hi
 (repeat' split at hi)<;>cases hi<;>decide
theorem LB {f pf:Nat→Int} {m n:Nat}: ∀ i,(aW f m n pf).1=some i→i < 5:=fun i hi=>by
 unfold aW at hi
 (repeat' split at hi)<;>cases hi<;>decide
theorem qM {n:Nat} (h:gJ n=true):n / 64≤8192∧2≤n / 64:=by
 unfold gJ at h
 simp only[decide_eq_true_eq]at h
 omega
section
variable {n o c kn:Nat} {kb:Nat→Bool} {f:Nat→Int} {ks:SV} {cs kc:List SV} {at_ cut:Int}
theorem xY {F:Nat} {r:pR} (hs:aY cs o n f) (hc:n≤c) (hp:cs.all SV.plain=true) (hn:n≤1048576) (hk:dE 1 ks kn kb kc) (hq:kc.all SV.plain=true) (he: ∀ i,r.1=some i→i < 5)
  (hO:gJ n=true→ ∀ ks',gU ks' kn kb kc→bd Tryz.prog 67 [Ag (fP 0 1 2 3),V (.func (.func F) #[] ⟨[]⟩)] 8 (lk (Gf (n / 64) f (cI at_ cut ks') kc kc kc)) (Lz 8 (n / 64) (ni kn kb cut f at_ r) (kM (pq at_ r)))):
  bd Tryz.prog 36 [Sl 0 o n c,Ag (cI at_ cut ks),V (.func (.func F) #[] ⟨[]⟩)] 4 (lk (P4 cs kc kc kc)) (cX 4 (xX n at_ r) n (Bx kn kb cut f n at_ r)):=by
 have Ly:AV.ok (fun n=>n < 4) (V (.func (.func F) #[] ⟨[]⟩)):=fun c hc=>by cases hc
 by_cases hb:gJ n=true
 ·obtain ⟨ks',hk',hr⟩:=dE.iW hk 5
  rw[xX,Bx,if_pos hb,if_pos hb]
  exact Jo hs hc hp hn hk hq hq (ao hq) Ly hb (Oj he) hr (fun r _=>au hq _) (fun r _=>rfl) (hO hb ks' ⟨hk',hq⟩)
 ·rw[xX,Bx,if_neg hb,if_neg hb]
  exact Em hs hc hp hn hk hq hq (ao hq) Ly (by simpa using hb)
theorem rC (hk:dE 1 ks kn kb kc): ∀ v ∈ [Sl 0 o n c,Ag (cI at_ cut ks)],AV.ok (fun n=>n < 2) v:=fun v hv=>by
 simp only[bQ]at hv
 rcases hv with rfl | rfl
 ·exact (by decide:0 < 2)
 ·exact ow hk (by decide)
theorem Jr {s:AS} {r0 r1:Bool} (h0:s.box 0=some ⟨r0,cs⟩) (hp:cs.all SV.plain=true) (h1:s.box 1=some ⟨r1,kc⟩) (hq:kc.all SV.plain=true):Fits s (two 0 1) (lk (P4 cs kc kc kc)) none:=by
 refine qE fun x hx=> ?_
 simp only[P4,bQ]at hx
 rcases hx with rfl | rfl | rfl | rfl
 ·exact ⟨rfl,_,by rw[au hp];exact h0⟩
 ·exact ⟨rfl,_,by rw[au hq];exact h1⟩
 ·exact ⟨rfl,_,by rw[au hq];exact h1⟩
 ·exact ⟨rfl,_,by rw[au hq];exact h1⟩
theorem Js (hk:dE 1 ks kn kb kc) {F:Nat}:[Sl 0 o n c,Ag (cI at_ cut ks),V (.func (.func F) #[] ⟨[]⟩)]=[Sl 0 o n c,Ag (cI at_ cut ks),V (.func (.func F) #[] ⟨[]⟩)].map (AV.ren (two 0 1)):=by
 have Eo:SV.ren (two 0 1) ks=ks:=SV.je (SV.br (fun n hn=>by subst hn;rfl) (hk.ok (M:=fun n=>n=1) rfl).1)
 have SR:AV.ren (two 0 1) (Ag (cI at_ cut ks))=Ag (cI at_ cut ks):=by
  show Ag [_,SV.ren (two 0 1) ks,_]=_
  rw[Eo]
  rfl
 simp only[List.map_cons,List.map_nil,SR]
 rfl
theorem LC (hs:aY cs o n f) (hc:n≤c) (hp:cs.all SV.plain=true) (hn:n≤1048576) (hf:eJ f) (hk:dE 1 ks kn kb kc) (hq:kc.all SV.plain=true):
  bd Tryz.prog 14 [Sl 0 o n c,Ag (cI at_ cut ks)] 2 (lk [(0,⟨false,cs⟩),(1,⟨false,kc⟩)]) (cX 2 (xX n at_ (eG f (n / 64))) n (Bx kn kb cut f n at_ (eG f (n / 64)))):=by
 have hw:=xY (F:=40) (at_:=at_) (cut:=cut) (r:=eG f (n / 64)) hs hc hp hn hk hq Jp fun hb ks' hk'=>P2 hk' hf (qM hb).1 (qM hb).2
 refine cy Tryz.func14 rfl (by kernel_rfl) [] [] (by simp[Tryz.ntmps14]) Tryz.sR (rC hk) pX (pY hp hq) ?_
 have hz:zeroOf Tryz.prog 40=some [.int .i64 0, .slice none 0 0]:=by kernel_rfl
 simp only[Tryz.results14,hz,aH,bH,seval]
 refine ⟨Nat.le_refl 3, ?_⟩
 rw[show List.take 3 (cI at_ cut ks)=cI at_ cut ks from rfl]
 refine pw hw (two 0 1) (Jr (r0:=false) (r1:=false) (by simp only[bV,seval]) hp (by simp only[bV,seval]) hq) (Js hk) (fun h0=> ?_) fun c' cs' g1 g2 g3=> ?_
 ·simp only[hz,cN,cO,cQ,Tryz.bO,aH,bH,seval]
  exact um h0
 ·simp only[hz,cN,cO,cQ,Tryz.bO,aH,bH,seval]
  exact bM (by decide) (by show AS.box _ _=some _;simp only[bV,seval]) g2 g3 g1
theorem LD (hs:aY cs o n f) (hc:n≤c) (hp:cs.all SV.plain=true) (hn:n≤1048576) (hf:eJ f) (hk:dE 1 ks kn kb kc) (hq:kc.all SV.plain=true):
  bd Tryz.prog 13 [Sl 0 o n c,Ag (cI at_ cut ks)] 2 (lk [(0,⟨false,cs⟩),(1,⟨false,kc⟩)]) (cX 2 (xX n at_ (cU f (n / 64))) n (Bx kn kb cut f n at_ (cU f (n / 64)))):=by
 have hw:=xY (F:=39) (at_:=at_) (cut:=cut) (r:=cU f (n / 64)) hs hc hp hn hk hq Jq fun hb ks' hk'=>P3 hk' hf (qM hb).1 (qM hb).2
 refine cy Tryz.func13 rfl (by kernel_rfl) [] [] (by simp[Tryz.ntmps13]) Tryz.sQ (rC hk) pX (pY hp hq) ?_
 have hz:zeroOf Tryz.prog 40=some [.int .i64 0, .slice none 0 0]:=by kernel_rfl
 simp only[Tryz.results13,hz,aH,bH,seval]
 refine ⟨Nat.le_refl 3, ?_⟩
 rw[show List.take 3 (cI at_ cut ks)=cI at_ cut ks from rfl]
 refine pw hw (two 0 1) (Jr (r0:=false) (r1:=false) (by simp only[bV,seval]) hp (by simp only[bV,seval]) hq) (Js hk) (fun h0=> ?_) fun c' cs' g1 g2 g3=> ?_
 ·simp only[hz,cN,cO,cQ,Tryz.bO,aH,bH,seval]
  exact um h0
 ·simp only[hz,cN,cO,cQ,Tryz.bO,aH,bH,seval]
  exact bM (by decide) (by show AS.box _ _=some _;simp only[bV,seval]) g2 g3 g1
variable {np:Nat} {pf:Nat→Int} {sv:SV} {ps:List SV}
theorem FJ (hs:aY cs o n f) (hc:n≤c) (hp:cs.all SV.plain=true) (hn:n≤1048576) (hf:eJ f) (hk:dE 1 ks kn kb kc) (hq:kc.all SV.plain=true) (hl:cS 2 sv np pf ps) (hps:ps.all SV.plain=true) (hpf:eJ pf) (hnp:np < 9223372036854775000):
  bd Tryz.prog 36 [Sl 0 o n c,Ag (cI at_ cut ks),V (.func (.func 37) #[] ⟨[.pointer (some { block:=3,off:=0 })]⟩)] 4 (lk (P4 cs kc ps [sv])) (cX 4 (xX n at_ (aW f (n / 64) np pf)) n (Bx kn kb cut f n at_ (aW f (n / 64) np pf))):=by
 have Ly:AV.ok (fun n=>n < 4) (V (.func (.func 37) #[] ⟨[.pointer (some { block:=3,off:=0 })]⟩)):=fun c hc=>by
  simp only[bQ]at hc
  subst hc
  exact (by decide:3 < 4)
 have gx: ∀ x ∈ [sv],SV.ok (fun n=>n=2) x:=fun x hx=>by
  rw[List.mem_singleton]at hx
  subst hx
  rcases hl with ⟨⟨a,rfl⟩,_⟩ | ⟨o,c,rfl,_⟩
  ·exact ⟨trivial,rfl⟩
  ·exact ⟨rfl,rfl⟩
 by_cases hb:gJ n=true
 ·obtain ⟨ks',hk',hr⟩:=dE.iW hk 5
  obtain ⟨Xn,hl',hr'⟩:=hl.iW 6
  rw[xX,Bx,if_pos hb,if_pos hb]
  exact Jo (ZX:=[Xn]) hs hc hp hn hk hq hps gx Ly hb (Oj LB) hr (fun r h=>by rw[List.map_cons,List.map_nil,hr' r h]) (fun r h=>by
   show V (.func _ _ ⟨[.pointer (some { block:=r 7,off:=0 })]⟩)=_
   rw[h]) (SN ⟨hk',hq⟩ hf hl' hps hpf (qM hb).1 (qM hb).2 hnp)
 ·rw[xX,Bx,if_neg hb,if_neg hb]
  exact Em hs hc hp hn hk hq hps gx Ly (by simpa using hb)
def LG (q n:Nat):Nat:=if n=0 then 0 else if n=1 then 2 else if n=2 then 1 else q
theorem P6 {s:AS} {q:Nat} {Xn:SV} {r0 r1 r2 r3:Bool} (h0:s.box 0=some ⟨r0,cs⟩) (hp:cs.all SV.plain=true) (h1:s.box 1=some ⟨r1,ps⟩) (hps:ps.all SV.plain=true) (h2:s.box 2=some ⟨r2,kc⟩) (hq:kc.all SV.plain=true) (h3:s.box q=some ⟨r3,[sv]⟩) (QK:SV.ren (LG q) Xn=sv):Fits s (LG q) (lk (P4 cs kc ps [Xn])) none:=by
 refine qE fun x hx=> ?_
 simp only[P4,bQ]at hx
 rcases hx with rfl | rfl | rfl | rfl
 ·exact ⟨rfl,_,by rw[au hp];exact h0⟩
 ·exact ⟨rfl,_,by rw[au hq];exact h2⟩
 ·exact ⟨rfl,_,by rw[au hps];exact h1⟩
 ·exact ⟨rfl,_,by rw[List.map_cons,List.map_nil,QK];exact h3⟩
theorem P7 (hs:aY cs o n f) (hc:n≤c) (hp:cs.all SV.plain=true) (hn:n≤1048576) (hf:eJ f) (hk:dE 2 ks kn kb kc) (hq:kc.all SV.plain=true) (hl:cS 1 sv np pf ps) (hps:ps.all SV.plain=true) (hpf:eJ pf) (hnp:np < 9223372036854775000):
  bd Tryz.prog 12 [Sl 0 o n c,Sum.inl (Sum.inl sv),Ag (cI at_ cut ks)] 3 (lk [(0,⟨false,cs⟩),(1,⟨false,ps⟩),(2,⟨false,kc⟩)]) (cX 3 (xX n at_ (aW f (n / 64) np pf)) n (Bx kn kb cut f n at_ (aW f (n / 64) np pf))):=by
 obtain ⟨ks',hk',Eo⟩:=dE.iW hk 1
 obtain ⟨Xn,hl',qZ⟩:=hl.iW 2
 have hw:=FJ (at_:=at_) (cut:=cut) hs hc hp hn hf hk' hq hl' hps hpf hnp
 refine cy Tryz.func12 rfl (by kernel_rfl) [] [] (by simp[Tryz.ntmps12]) Tryz.sO (fun v hv=> ?_) Y8 (Y9 hp hps hq) ?_
 ·simp only[bQ]at hv
  rcases hv with rfl | rfl | rfl
  ·exact (by decide:0 < 3)
  ·rcases hl with ⟨⟨a,rfl⟩,_⟩ | ⟨o,c,rfl,_⟩
   ·trivial
   ·exact (by decide:1 < 3)
  ·exact ow hk (by decide)
 have hz:zeroOf Tryz.prog 40=some [.int .i64 0, .slice none 0 0]:=by kernel_rfl
 have hce:cellsOf (some (Sum.inl (Sum.inl sv)))=some [sv]:=by
  rcases hl with ⟨⟨a,rfl⟩,_⟩ | ⟨o,c,rfl,_⟩<;>rfl
 simp only[Tryz.results12,hz,hce,aH,bH,seval]
 refine ⟨Nat.le_refl 3, ?_⟩
 rw[show List.take 3 (cI at_ cut ks)=cI at_ cut ks from rfl]
 have SR:AV.ren (LG 3) (Ag (cI at_ cut ks'))=Ag (cI at_ cut ks):=by
  show Ag [_,SV.ren (LG 3) ks',_]=_
  rw[Eo (LG 3) rfl]
  rfl
 refine pw hw (LG 3) (P6 (r0:=false) (r1:=false) (r2:=false) (r3:=true) (by simp only[bV,seval]) hp (by simp only[bV,seval]) hps (by simp only[bV,seval]) hq (by simp only[bV,seval]) (qZ (LG 3) rfl)) (by simp only[List.map_cons,List.map_nil,SR];rfl) (fun h0=> ?_) fun c' cs' g1 g2 g3=> ?_
 ·simp only[hz,cN,cO,cQ,Tryz.bO,aH,bH,seval]
  exact um h0
 ·simp only[hz,cN,cO,cQ,Tryz.bO,aH,bH,seval]
  exact bM (by decide) (by show AS.box _ _=some _;simp only[bV,seval]) g2 g3 g1
end
def bE (code seq live next:Int) (pv:SV):AV:=Ag [Sum.inl (.int .i64 code),Sum.inl (.int .u64 seq),Sum.inl (.int .i64 live),Sum.inl (.int .i64 next),pv]
def jz (k n:Nat) (f:Nat→Int) (v:AV) (out:Nat→Option aI):Prop:=
 ((gJ n=false∨gJ n=true∧dh f (n / 64 / 2)=none)∧v=bE 1 0 0 0 (.inl (.slice none 0 0))∧out=fun _=>none)∨
 (gJ n=true∧(∃ st,dh f (n / 64 / 2)=some st∧cM f (n / 64) st≠[])∧v=bE 11 0 0 0 (.inl (.slice none 0 0))∧out=fun _=>none)∨
 (gJ n=true∧ ∃ st c cs,dh f (n / 64 / 2)=some st∧cM f (n / 64) st=[]∧aY cs 0 (aN (aB f (aC f (st+n / 64 / 2) st))) (dP f (aC f (st+n / 64 / 2) st))∧aN (aB f (aC f (st+n / 64 / 2) st))≤c∧cs.all SV.plain=true∧
  v=bE 0 (bB (aB f (aC f (st+n / 64 / 2) st))) ((st / (n / 64 / 2):Nat):Int) ((aE f (aC f (st+n / 64 / 2) st) - st:Nat):Int) (.inr (.inr (k,0,aN (aB f (aC f (st+n / 64 / 2) st)),c)))∧out=lk [(k,⟨true,cs⟩)])
def Jt (d a b n:Nat):Nat:=if n < 4 then d+n else if n=4 then a else b
def QB:List SV:=cI 0 0 (.inl (.slice none 0 0))
theorem Bz {s:AS} {d a b m:Nat} {f:Nat→Int} {kc nc:List SV} (hq:kc.all SV.plain=true) (hn:nc.all SV.plain=true) {r0 r1 r2 r3 r4 r5:Bool}
  (h0:s.box d=some ⟨r0,[Sum.inr (.inr (a,0,m,m))]⟩) (h1:s.box (d+1)=some ⟨r1,QB⟩) (h2:s.box (d+2)=some ⟨r2,[Sum.inl (.slice none 0 0)]⟩) (h3:s.box (d+3)=some ⟨r3,nc⟩) (h4:s.box a=some ⟨r4,ai .u8 (64*m) f⟩) (h5:s.box b=some ⟨r5,kc⟩):Fits s (Jt d a b) (lk (kU m f QB nc kc)) none:=by
 refine qE fun x hx=> ?_
 simp only[kU,bQ]at hx
 rcases hx with rfl | rfl | rfl | rfl | rfl | rfl
 ·exact ⟨rfl,_,h0⟩
 ·exact ⟨rfl,_,h1⟩
 ·exact ⟨rfl,_,h2⟩
 ·exact ⟨rfl,_,by rw[au hn];exact h3⟩
 ·exact ⟨rfl,_,by rw[au az];exact h4⟩
 ·exact ⟨rfl,_,by rw[au hq];exact h5⟩
theorem LH: ∀ x ∈ QB,SV.ok (fun n=>n=5) x:=fun x hx=>by
 simp only[QB,cI,bQ]at hx
 rcases hx with rfl | rfl | rfl<;>exact ⟨trivial,rfl⟩
theorem SS {a b c d e x:SV}:splice [a,b,c,d,e] 0 [x]=[x,b,c,d,e]:=rfl
theorem SU {a b c d e x:SV}:splice [a,b,c,d,e] 1 [x]=[a,x,c,d,e]:=rfl
theorem SW {a b c d e x:SV}:splice [a,b,c,d,e] 2 [x]=[a,b,x,d,e]:=rfl
theorem SX {a b c d e x:SV}:splice [a,b,c,d,e] 3 [x]=[a,b,c,x,e]:=rfl
theorem SY {a b c d e x:SV}:splice [a,b,c,d,e] 4 [x]=[a,b,c,d,x]:=rfl
theorem SZ {a b c d e v w x y z:SV}:splice [a,b,c,d,e] 0 [v,w,x,y,z]=[v,w,x,y,z]:=rfl
theorem acd {a b c d:SV} {w x y z:Nat}:splice [a,b,c,d] 0 (fP w x y z)=fP w x y z:=rfl
theorem Ju {w x y z:Nat}:List.take 4 (fP w x y z)=fP w x y z:=rfl
theorem aR:type_of% @SS∧type_of% @SU∧type_of% @SW∧type_of% @SX∧type_of% @SY∧type_of% @SZ∧type_of% @acd∧type_of% @yw∧type_of% @Ju:=
 ⟨@SS, @SU, @SW, @SX, @SY, @SZ, @acd, @yw, @Ju⟩
theorem ig {s:AS} {k q n c:Nat} {a b d e:Int} {cs:List SV} {Post:AV→(Nat→Option aI)→Prop} (hq:k≤q) (hb:s.box q=some ⟨true,cs⟩) (hp:cs.all SV.plain=true) (h:Post (bE a b d e (.inr (.inr (k,0,n,c)))) (lk [(k,⟨true,cs⟩)])):
  m8 k Post (bE a b d e (.inr (.inr (q,0,n,c)))) s:=by
 refine dV (q:=q) (v0:=bE a b d e (.inr (.inr (k,0,n,c)))) hq ?_ (fun x hx=> ?_) (fun x hx=> ?_) h
 ·simp only[bE,AV.ren,CV.ren,List.map_cons,List.map_nil,SV.ren,fj,kt]
 ·simp only[bQ]at hx
  rcases hx with rfl | rfl | rfl | rfl | rfl
  ·exact ⟨trivial,rfl⟩
  ·exact ⟨trivial,rfl⟩
  ·exact ⟨trivial,rfl⟩
  ·exact ⟨trivial,rfl⟩
  ·exact ⟨Nat.lt_succ_self k,rfl⟩
 ·rw[List.mem_singleton]at hx
  subst hx
  exact ⟨Nat.lt_succ_self k,fun _=>rfl,ao hp,by rw[au hp,kt];exact hb⟩
section
variable {n o c:Nat} {f:Nat→Int} {cs:List SV}
theorem V4 (hs:aY cs o n f) (hc:n≤c) (hp:cs.all SV.plain=true) (hn:n≤1048576) (hf:eJ f):
  bd Tryz.prog 8 [Sl 0 o n c] 1 (lk [(0,⟨false,cs⟩)]) (jz 1 n f):=by
 refine cy Tryz.func8 rfl (by kernel_rfl) [4,8] [] (by simp[Tryz.ntmps8]) Tryz.vX (by simp[AV.ok,CV.ok,SV.names]) fF (fG hp) ?_
 have hz:zeroOf Tryz.prog 36=some [.int .i64 0, .int .u64 0, .int .i64 0, .int .i64 0, .slice none 0 0]:=by kernel_rfl
 simp only[Tryz.results8,hz,aR,aA,aH,bH,seval]
 refine (mX hs hc hp hn).av (fun _=>0) none (bZ (by simp only[bV,seval];rfl) hp) rfl ?_
 rintro v out (⟨hb,rfl,rfl⟩ | ⟨hb,rfl,rfl⟩) _
 ·have e1: ∀ r,AV.ren r (.inr [.inl (.inl (.slice none 0 0)), .inl (.inl (cH 1))])= .inr [.inl (.inl (.slice none 0 0)), .inl (.inl (cH 1))]:=fun r=>rfl
  rw[Bq,e1,dW]
  simp only[hz,cH,Tryz.bO,aR,aA,aH,bH,seval]
  refine (mW (e:=some 1) (fun i h=>by cases h;decide)).av ?_
  simp only[hz,fL,Tryz.bO,aR,aA,aH,bH,seval]
  exact aJ rfl (show jz 1 n f _ _ from Or.inl ⟨Or.inl hb,rfl,rfl⟩)
 ·have Ge:64*(n / 64)=n:=by
   unfold gJ at hb
   simp only[decide_eq_true_eq]at hb
   omega
  have hm:=(qM hb).1
  have h2:=(qM hb).2
  have e1: ∀ N,AV.ren (df (fun x=>0) 1 N) (Bq (.inr (.inr (1,0,n / 64,n / 64))) .nilIface)= .inr [.inl (.inr (.inr (N,0,n / 64,n / 64))), .inl (.inl .nilIface)]:=fun N=>rfl
  rw[e1,bX az]
  simp only[hz,Tryz.bO,aR,aA,aH,bH,seval]
  refine ⟨by decide, ?_⟩
  simp only[hz,Tryz.bO,aR,aA,aH,bH,seval]
  have ui:dE 1 (.inl (.slice none 0 0)) 0 (fun _=>false) cs:= .inl ⟨⟨none,rfl⟩,rfl⟩
  refine (Br (m:=n / 64) (at_:=0) (cut:=0) (ks:= .inl (.slice none 0 0)) (cs:=ai .u8 n f) az ui hp).av (two 3 0) none (jq (rw:=true) (rw':=false) ?_ az ?_ hp) rfl ?_
  ·simp only[bV,seval]
  ·simp only[bV,seval]
  rintro v out ⟨rfl,rfl⟩
  rw[Bv,show AV.ren (aV (two 3 0) 2 23) (Ag (fP 2 (2+1) (2+2) (2+3)))=Ag (fP 23 24 25 26) from rfl,show aI.ren (aV (two 3 0) 2 23) ⟨true,cI 0 0 (.inl (.slice none 0 0))⟩=⟨true,QB⟩ from rfl,show aI.ren (aV (two 3 0) 2 23) ⟨true,[Sum.inr (.inr (0,0,n / 64,n / 64))]⟩=⟨true,[Sum.inr (.inr (3,0,n / 64,n / 64))]⟩ from rfl,show aI.ren (aV (two 3 0) 2 23) ⟨true,[Sum.inl (.slice none 0 0)]⟩=⟨true,[Sum.inl (.slice none 0 0)]⟩ from rfl,show aI.ren (aV (two 3 0) 2 23) ⟨true,[Sum.inl (.int .i64 0)]⟩=⟨true,[Sum.inl (.int .i64 0)]⟩ from rfl]
  simp only[hz,Tryz.bO,Nat.reduceAdd,aR,aA,aH,bH,seval]
  refine (Bi (m:=n / 64) (f:=f) (pc:=QB) (nc:=[Sum.inl (.int .i64 0)]) (kc:=cs) ⟨LH,rfl,hp⟩ hf hm h2).av (Jt 23 3 0) none (Bz hp rfl (r0:=true) (r1:=true) (r2:=true) (r3:=true) (r4:=true) (r5:=false) ?_ ?_ ?_ ?_ ?_ ?_) rfl ?_
  ·simp only[bV,seval]
  ·simp only[bV,seval]
  ·simp only[bV,seval]
  ·simp only[bV,seval]
  ·rw[Ge];simp only[bV,seval]
  ·simp only[bV,seval]
  rintro v out (⟨hl,rfl,rfl⟩ | ⟨st,hl,hd,rfl,rfl⟩ | ⟨st,c1,lr,hl,hd,g1,g2,g3,rfl,rfl⟩) _
  ·have e2: ∀ r,AV.ren r (dH lx (cH 1))=dH lx (cH 1):=fun r=>rfl
   rw[e2,dW]
   simp only[dH,lx,cH,hz,Tryz.bO,aR,aA,aH,bH,seval]
   refine (mW (e:=some 1) (fun i h=>by cases h;decide)).av ?_
   simp only[hz,fL,Tryz.bO,aR,aA,aH,bH,seval]
   exact aJ rfl (show jz 1 n f _ _ from Or.inl ⟨Or.inr ⟨hb,hl⟩,rfl,rfl⟩)
  ·have e2: ∀ r,AV.ren r (dH lx (cH 2))=dH lx (cH 2):=fun r=>rfl
   rw[e2,dW]
   simp only[dH,lx,cH,hz,Tryz.bO,aR,aA,aH,bH,seval]
   refine (mW (e:=some 2) (fun i h=>by cases h;decide)).av ?_
   simp only[hz,fL,Tryz.bO,aR,aA,aH,bH,seval]
   exact aJ rfl (show jz 1 n f _ _ from Or.inr (Or.inl ⟨hb,⟨st,hl,hd⟩,rfl,rfl⟩))
  ·have e2: ∀ r,AV.ren (df r 6 36) (dH (cr f st (aC f (st+n / 64 / 2) st) (.inr (.inr (6,0,aN (aB f (aC f (st+n / 64 / 2) st)),c1)))) .nilIface)=dH (cr f st (aC f (st+n / 64 / 2) st) (.inr (.inr (36,0,aN (aB f (aC f (st+n / 64 / 2) st)),c1)))) .nilIface:=fun r=>rfl
   rw[e2,bX g3]
   simp only[dH,cr,bA,hz,Tryz.bO,aR,aA,aH,bH,seval]
   refine eW (by kernel_rfl) [0,1,2,3,4,5,8,9,10,11,12,13,14,15] [6,7,16] [] [17] [27,40] [30,31,32,33,34,35,38,39,40,41,42,43,44,45,36,37,46] (by kernel_rfl) (by kernel_rfl) (by kernel_rfl) ?_
   simp only[hz,Tryz.bO,aR,aA,aH,bH,seval]
   refine bd.cq (pd (m:=n / 64) (f:=f) (pc:=QB) (nc:=[Sum.inl (.int .i64 0)]) (kc:=cs) ⟨LH,rfl,hp⟩ (by omega)) (Jt 23 3 0) (Bz hp rfl (r0:=true) (r1:=true) (r2:=true) (r3:=true) (r4:=true) (r5:=false) ?_ ?_ ?_ ?_ ?_ ?_) rfl ?_
   ·simp only[bV,seval]
   ·simp only[bV,seval]
   ·simp only[bV,seval]
   ·simp only[bV,seval]
   ·rw[Ge];simp only[bV,seval]
   ·simp only[bV,seval]
   rintro v out ⟨rfl,rfl⟩
   have e3: ∀ r,AV.ren r (I .i64 ((n / 64 / 2:Nat):Int))=I .i64 ((n / 64 / 2:Nat):Int):=fun r=>rfl
   rw[e3]
   simp only[Option.map_none,hz,Tryz.bO,aR,aA,aH,bH,seval]
   obtain ⟨k1,k2⟩:=vg hl
   obtain ⟨k3,k4⟩:okB f (aC f (st+n / 64 / 2) st) (st+n / 64 / 2)=true∧st≤aC f (st+n / 64 / 2) st:=rB _ _ k1
   have k5:=po k3
   have k6:=hU (f:=f) (p:=aC f (st+n / 64 / 2) st)
   refine ⟨by omega, ?_⟩
   have w1:IntKind.i64.wrap ((st:Int).tdiv ((n / 64 / 2:Nat):Int))=((st / (n / 64 / 2):Nat):Int):=by
    rw[show ((st:Int).tdiv ((n / 64 / 2:Nat):Int))=((st / (n / 64 / 2):Nat):Int) from rfl]
    have:=Nat.div_le_self st (n / 64 / 2)
    revert this
    generalize st / (n / 64 / 2)=q
    intro this
    exact wrap_i64 _ (by omega) (by omega)
   have w2:IntKind.i64.wrap ((aE f (aC f (st+n / 64 / 2) st):Int) - (st:Int))=((aE f (aC f (st+n / 64 / 2) st) - st:Nat):Int):=by
    rw[wrap_i64 _ (by omega) (by omega)]
    omega
   rw[w1,w2]
   refine ig (q:=36) (Post:=jz 1 n f) (by decide) (by show AS.box _ _=some _;simp only[bV,seval]) g3 (Or.inr (Or.inr ⟨hb,st,c1,lr,hl,hd,g1,g2,g3,rfl,rfl⟩))
end
section
variable {P:Program} [cn.Tables P] {K:AS→Prop} {s:AS} {nm:Nat} {dst:Option Nat} {ty:TypeId} {pos:String} {after:Array Edge} {gd:Option (Nat×Bool)}
theorem P8 {t:Nat} {x y:Operand}:sL P nm (some ⟨dst, .makeSlice t x y,ty,pos,after,gd⟩) K s=bL (iQ nm (pT P t) (s.aS x) (s.aS y)) nm dst K s:=rfl
end
def V5 (r:Int) (n:Nat):Bool:=decide ((8≤r∧r≤4096)∧(aO n:Int)≤r)
def nQ (k n:Nat) (r:Int) (pf:Nat→Int) (v:AV) (out:Nat→Option aI):Prop:=
 (V5 r n=false∧v=V (.slice none 0 0)∧out=fun _=>none)∨(V5 r n=true∧Made k (128*r.toNat) (pk (fun _=>0) (nP 0 n 1 pf)) v out)
theorem P9 {s:AS} {d a b m:Nat} {f:Nat→Int} {ps:List SV} (hp:ps.all SV.plain=true) (hb:b < d) (hba:b≠a) (hda: ¬ (d≤a∧a < d+4)) {r0 r1 r5:Bool}
  (h0:s.box d=some ⟨r0,[Sum.inr (.inr (a,0,m,m))]⟩) (h1:s.box (d+1)=some ⟨r1,QB⟩) (h2:s.box (d+2)=some ⟨true,[Sum.inl (.slice none 0 0)]⟩) (h3:s.box (d+3)=some ⟨true,[Sum.inl (.int .i64 0)]⟩) (h4:s.box a=some ⟨true,ai .u8 (64*m) f⟩) (h5:s.box b=some ⟨r5,ps⟩):jr s (Jt d a b) (lk (Ca m f QB ps 0 ps)) [2,3,4]:=by
 refine lY (fun x hx=> ?_) fun n hn=> ?_
 ·have inj: ∀ c,c=2∨c=3∨c=4→ ∀ y ∈ Ca m f QB ps 0 ps,Jt d a b c=Jt d a b y.1→c=y.1:=fun c hc y hy h=>by
   have:y.1 < 7:=by
    simp only[Ca,bQ]at hy
    rcases hy with rfl | rfl | rfl | rfl | rfl | rfl | rfl<;>(simp only;omega)
   unfold Jt at h
   (repeat' split at h)<;>omega
  simp only[Ca,bQ]at hx
  rcases hx with rfl | rfl | rfl | rfl | rfl | rfl | rfl
  ·exact ⟨⟨_,h0,fun h=>(by cases h)⟩,fun h=>(by cases h)⟩
  ·exact ⟨⟨_,h1,fun h=>(by cases h)⟩,fun h=>(by cases h)⟩
  ·exact ⟨⟨_,h2,fun h=>rfl⟩,fun h=>⟨(by decide:(2:Nat) ∈ [2,3,4]),inj 2 (by decide)⟩⟩
  ·exact ⟨⟨_,h3,fun h=>rfl⟩,fun h=>⟨(by decide:(3:Nat) ∈ [2,3,4]),inj 3 (by decide)⟩⟩
  ·exact ⟨⟨_,by rw[au az];exact h4,fun h=>rfl⟩,fun h=>⟨(by decide:(4:Nat) ∈ [2,3,4]),inj 4 (by decide)⟩⟩
  ·exact ⟨⟨_,by rw[au hp];exact h5,fun h=>(by cases h)⟩,fun h=>(by cases h)⟩
  ·exact ⟨⟨_,by rw[au hp];exact h5,fun h=>(by cases h)⟩,fun h=>(by cases h)⟩
 ·simp only[bQ]at hn
  rcases hn with rfl | rfl | rfl<;>exact ⟨_,rfl,rfl⟩
theorem P' {s:AS} {m nm d a b:Nat} {f:Nat→Int} {cnt:Int}:cL s (Jt d a b) 7 1 nm [2,3,4] (lk (dg m f cnt))=upd (upd (upd (upd s.box a (some ⟨true,ai .u8 (64*m) f⟩)) (d+3) (some ⟨true,[Sum.inl (.int .i64 cnt)]⟩)) (d+2) (some ⟨true,[Sum.inl (.slice none 0 0)]⟩)) nm none:=by
 rw[gl]
 simp only[dg,List.foldr_cons,List.foldr_nil,lk,Option.map_some,Option.map_none,aI.ren,List.map_cons,List.map_nil,SV.ren,fj,au az,Nat.reduceEqDiff,reduceIte,show Jt d a b 2=d+2 from rfl,show Jt d a b 3=d+3 from rfl,show Jt d a b 4=a from rfl]
section
variable {n:Nat} {pf:Nat→Int} {ps:List SV} {sv:SV} {r:Int}
theorem S0 (hl:cS 0 sv n pf ps) (hp:ps.all SV.plain=true) (hpf:eJ pf) (hn:n < 9223372036854775000):
  bd Tryz.prog 6 [I .i64 r,Sum.inl (Sum.inl sv)] 1 (lk [(0,⟨false,ps⟩)]) (nQ 1 n r pf):=by
 refine cy Tryz.func6 rfl (by kernel_rfl) [4] [] (by simp[Tryz.ntmps6]) Tryz.vV (fun v hv=> ?_) fF (fG hp) ?_
 ·simp only[bQ]at hv
  rcases hv with rfl | rfl
  ·trivial
  ·rcases hl with ⟨⟨a,rfl⟩,_⟩ | ⟨o,c,rfl,_⟩
   ·trivial
   ·exact (by decide:0 < 1)
 have hce:cellsOf (some (Sum.inl (Sum.inl sv)))=some [sv]:=by
  rcases hl with ⟨⟨a,rfl⟩,_⟩ | ⟨o,c,rfl,_⟩<;>rfl
 have hz:zeroOf Tryz.prog 50=some [.int .u64 0, .slice none 0 0]:=by kernel_rfl
 simp only[Tryz.results6,hce,hz,aR,aA,aH,bH,seval, -List.reduceReplicate]
 refine uV.av ?_
 by_cases hr:8≤r∧r≤4096
 case neg=>
  simp only[decide_eq_false hr,Bool.not_false,Bool.not_true,hce,hz,aR,aA,aH,bH,seval, -List.reduceReplicate]
  exact aJ rfl (show nQ 1 n r pf _ _ from Or.inl ⟨decide_eq_false fun h=>hr h.1,rfl,rfl⟩)
 simp only[decide_eq_true hr,Bool.not_false,Bool.not_true,hce,hz,aR,aA,aH,bH,seval, -List.reduceReplicate]
 refine lX (t:=0) (eD:=false) (q:=1) ?_ hl hp hn ?_
 ·simp only[bV,seval, -List.reduceReplicate]
 by_cases hs:(r:Int) < (aO n:Int)
 ·simp only[decide_eq_true hs,hce,hz,aR,aA,aH,bH,seval, -List.reduceReplicate]
  exact aJ rfl (show nQ 1 n r pf _ _ from Or.inl ⟨decide_eq_false fun h=>by have:=h.2;omega,rfl,rfl⟩)
 simp only[decide_eq_false hs,hce,hz,aR,aA,aH,bH,seval, -List.reduceReplicate]
 obtain ⟨R,rfl⟩:=Int.eq_ofNat_of_zero_le (show 0≤r by omega)
 have w2:IntKind.i64.wrap (2*(R:Int))=((2*R:Nat):Int):=by rw[wrap_i64 _ (by omega) (by omega)];omega
 have ui:dE 1 (.inl (.slice none 0 0)) 0 (fun _=>false) ps:= .inl ⟨⟨none,rfl⟩,rfl⟩
 have hk5:gU (.inl (.slice none 0 0)) 0 (fun _=>false) ps:=⟨.inl ⟨⟨none,rfl⟩,rfl⟩,hp⟩
 refine ⟨by decide, ?_⟩
 simp only[P8,w2,AP (show 2*R≤1048576 by omega),hce,hz,aR,aA,aH,bH,seval, -List.reduceReplicate]
 refine (Br (m:=2*R) (at_:=0) (cut:=0) (ks:= .inl (.slice none 0 0)) (cs:=ai .u8 (64*(2*R)) (fun _=>0)) az ui hp).av (two 27 0) none (jq (rw:=true) (rw':=false) ?_ az ?_ hp) rfl ?_
 ·simp only[bV,seval, -List.reduceReplicate]
 ·simp only[bV,seval, -List.reduceReplicate]
 rintro v out ⟨rfl,rfl⟩
 rw[Bv,show AV.ren (aV (two 27 0) 2 35) (Ag (fP 2 (2+1) (2+2) (2+3)))=Ag (fP 35 36 37 38) from rfl,show aI.ren (aV (two 27 0) 2 35) ⟨true,cI 0 0 (.inl (.slice none 0 0))⟩=⟨true,QB⟩ from rfl,show aI.ren (aV (two 27 0) 2 35) ⟨true,[Sum.inr (.inr (0,0,2*R,2*R))]⟩=⟨true,[Sum.inr (.inr (27,0,2*R,2*R))]⟩ from rfl,show aI.ren (aV (two 27 0) 2 35) ⟨true,[Sum.inl (.slice none 0 0)]⟩=⟨true,[Sum.inl (.slice none 0 0)]⟩ from rfl,show aI.ren (aV (two 27 0) 2 35) ⟨true,[Sum.inl (.int .i64 0)]⟩=⟨true,[Sum.inl (.int .i64 0)]⟩ from rfl]
 simp only[hce,hz,Tryz.bO,Nat.reduceAdd,aR,aA,aH,bH,seval, -List.reduceReplicate]
 obtain ⟨Xn,hl',qZ⟩:=hl.iW 6
 have ab0:0+aT n < 2*R:=by
  have h1:aO n=1+aT n:=rfl
  omega
 have hn6:n < 600000:=by
  have h1:aO n=1+(n+63) / 64:=rfl
  omega
 have hfl:bG 0 0 (aT n+1)=false:=decide_eq_false (by omega)
 refine (SE (q:=1) (cut:=0) (f:=fun _=>0) hk5 hl' hp hpf (show 2*R≤8192 by omega) ab0 hn6 (Int.le_refl 0) (by decide) hfl).wide.nA (Nat.le_refl 1) (Jt 35 27 0) [2,3,4] (P9 hp (by decide) (by decide) (by decide) (r0:=true) (r1:=true) (r5:=false) ?_ ?_ ?_ ?_ ?_ ?_) ?_ ?_
 ·simp only[bV,seval, -List.reduceReplicate]
 ·simp only[bV,seval, -List.reduceReplicate]
 ·simp only[bV,seval, -List.reduceReplicate]
 ·simp only[bV,seval, -List.reduceReplicate]
 ·simp only[bV,seval, -List.reduceReplicate]
 ·simp only[bV,seval, -List.reduceReplicate]
 ·have:AV.ren (Jt 35 27 0) (Ag (bJ 1 Xn))=Ag (bJ 1 sv):=by
   show Ag [_,SV.ren (Jt 35 27 0) Xn]=_
   rw[qZ (Jt 35 27 0) rfl]
   rfl
  simp only[List.map_cons,List.map_nil,this]
  rfl
 rintro v out ⟨rfl,rfl⟩
 rw[P',show AV.ren (aV (Jt 35 27 0) 7 49) (Sum.inr [])=Sum.inr [] from rfl]
 simp only[hce,hz,Tryz.bO,Nat.reduceAdd,aR,aA,aH,bH,seval, -List.reduceReplicate]
 refine ia (uj (m:=2*R) (f:=nF (fun _=>0) 0 n 1 pf) (pc:=QB) (nc:=[Sum.inl (.int .i64 (0+(aT n:Nat)+1))]) (kc:=ps) ⟨LH,rfl,hp⟩ (by omega)) (Jt 35 27 0) (Bz hp rfl (r0:=true) (r1:=true) (r2:=true) (r3:=true) (r4:=true) (r5:=false) ?_ ?_ ?_ ?_ ?_ ?_) rfl fun c tail g1 g2 g3=> ?_
 ·simp only[bV,seval, -List.reduceReplicate]
 ·simp only[bV,seval, -List.reduceReplicate]
 ·simp only[bV,seval, -List.reduceReplicate]
 ·simp only[bV,seval, -List.reduceReplicate]
 ·simp only[bV,seval, -List.reduceReplicate]
 ·simp only[bV,seval, -List.reduceReplicate]
 simp only[hce,hz,Tryz.bO,Nat.reduceAdd,aR,aA,aH,bH,seval, -List.reduceReplicate]
 have hR:(128*(R:Int).toNat)=64*(2*R):=by
  rw[Int.toNat_natCast]
  omega
 refine gR (by decide) (by show AS.box _ 51=some _;simp only[bV,seval, -List.reduceReplicate]) (bY (n:=64*(2*R)) (f:=nF (fun _=>0) 0 n 1 pf) g3) (show nQ 1 n R pf _ _ from Or.inr ⟨decide_eq_true ⟨hr,by omega⟩, ?_⟩)
 rw[hR, ← FB]
 exact ⟨c,tail,rfl,rfl,g1,g2,g3⟩
end
def QG (n:Nat) (f g:Nat→Int):Bool:=decide ((List.range n).map f=(List.range n).map g)
theorem FK {n:Nat} {f g:Nat→Int}:QG n f g=true↔ ∀ i,i < n→f i=g i:=by
 unfold QG
 rw[decide_eq_true_eq]
 constructor
 ·intro h i hi
  have:=congrArg (fun l:List Int=>l[i]?) h
  simpa[List.getElem?_range hi] using this
 ·intro h
  exact List.map_congr_left fun i hi=>h i (List.mem_range.1 hi)
theorem aeQ {a b c d:Int} (ha:0≤a∧a < 256) (hb:0≤b∧b < 256) (hc:0≤c∧c < 256) (hd:0≤d∧d < 256):
  IntKind.u32.wrap (IntKind.u32.wrap (IntKind.u32.wrap (lK .u32 (IntKind.u32.wrap a) 24+lK .u32 (IntKind.u32.wrap b) 16)+lK .u32 (IntKind.u32.wrap c) 8)+IntKind.u32.wrap d)=a*16777216+b*65536+c*256+d:=by
 have e1:IntKind.u32.wrap a=a:=fR _ (by omega) (by omega)
 have e2:IntKind.u32.wrap b=b:=fR _ (by omega) (by omega)
 have e3:IntKind.u32.wrap c=c:=fR _ (by omega) (by omega)
 have e4:IntKind.u32.wrap d=d:=fR _ (by omega) (by omega)
 have s1:lK .u32 a 24=a*16777216:=by
  have:=lQ .u32 a 24 (by decide)
  rw[show (24:Int)=((24:Nat):Int) from rfl,this,wrap_u32];omega
 have s2:lK .u32 b 16=b*65536:=by
  have:=lQ .u32 b 16 (by decide)
  rw[show (16:Int)=((16:Nat):Int) from rfl,this,wrap_u32];omega
 have s3:lK .u32 c 8=c*256:=by
  have:=lQ .u32 c 8 (by decide)
  rw[show (8:Int)=((8:Nat):Int) from rfl,this,wrap_u32];omega
 rw[e1,e2,e3,e4,s1,s2,s3]
 rw[fR (a*16777216+b*65536) (by omega) (by omega),fR (a*16777216+b*65536+c*256) (by omega) (by omega),fR _ (by omega) (by omega)]
theorem V6 {n:Nat} {f:Nat→Int} {o c:Nat} {cs:List SV} (hf:eJ f) (hc:aY cs o n f) (hp:cs.all SV.plain=true) (t:Nat) (ht:t+4≤n) (hn:n < 140737488355328):
  bd Tryz.prog 81 [Sl 0 o n c,I .i64 ((t:Nat):Int)] 1 (lk [(0,⟨false,cs⟩)]) (fun v out=>v=I .u32 (Gd f t)∧out=fun _=>none):=by
 refine aG Tryz.func81 rfl (by kernel_rfl) (by simp[Tryz.ntmps81]) Tryz.o7 (by simp[AV.ok,CV.ok,SV.names]) fF (fG hp) ?_
 have a0:=hc t (by omega)
 have a1:=hc (t+1) (by omega)
 have a2:=hc (t+2) (by omega)
 have a3:=hc (t+3) (by omega)
 have w1:IntKind.i64.wrap ((t:Int)+1)=((t+1:Nat):Int):=wrap_i64 _ (by omega) (by omega)
 have w2:IntKind.i64.wrap ((t:Int)+2)=((t+2:Nat):Int):=wrap_i64 _ (by omega) (by omega)
 have w3:IntKind.i64.wrap ((t:Int)+3)=((t+3:Nat):Int):=wrap_i64 _ (by omega) (by omega)
 have w4:IntKind.i64.wrap ((t:Int)+4)=((t+4:Nat):Int):=wrap_i64 _ (by omega) (by omega)
 have d1:decide ((t:Int) < 0)=false:=decide_eq_false (by omega)
 have d2:decide ((n:Int) < ((t+4:Nat):Int))=false:=decide_eq_false (by omega)
 have l0:((t:Int) < (n:Int))=True:=eq_true (by omega)
 have l1:(((t+1:Nat):Int) < (n:Int))=True:=eq_true (by omega)
 have l2:(((t+2:Nat):Int) < (n:Int))=True:=eq_true (by omega)
 have l3:(((t+3:Nat):Int) < (n:Int))=True:=eq_true (by omega)
 have e:=aeQ (hf t) (hf (t+1)) (hf (t+2)) (hf (t+3))
 simp only[Tryz.results81,w1,w2,w3,w4,d1,d2,l0,l1,l2,l3,aF,a0,a1,a2,a3,Nat.mul_one,e,vR,seval]
 exact ⟨by kernel_rfl,aJ rfl ⟨rfl,rfl⟩⟩
theorem uo {s:AS} {nm t o n c:Nat} {a:Int} {at':Nat} {rw:Bool} {f:Nat→Int} {cs:List SV} (hf:eJ f) (ha:a=at') (hb:s.box t=some ⟨rw,cs⟩) (hs:aY cs o n f) (hp:cs.all SV.plain=true) (h:at'+4≤n) (hn:n < 140737488355328) {dst:Option Nat} {K:AS→Prop}
  (hk:K (s.put dst (some (I .u32 (Gd f at'))))):av Tryz.prog nm 81 (some [Sl t o n c,I .i64 a]) dst K s:=by
 subst ha
 exact (V6 hf hs hp at' h hn).cG (fun _=>t) (bZ hb hp) rfl rfl hk
theorem Qa {n:Nat} {f g:Nat→Int} {j:Nat} (hj:j < n) (h:f j≠g j):QG n f g=false:=by
 rw[Bool.eq_false_iff];intro e;exact h (FK.1 e j hj)
theorem BA {n:Nat} {f g:Nat→Int} {o o' c c':Nat} {cs ds:List SV} (hc:aY cs o n f) (hd:aY ds o' n g) (hp:cs.all SV.plain=true) (hq:ds.all SV.plain=true) (hn:n < 4611686018427387904):
  bd Tryz.prog 82 [Sl 0 o n c,Sl 1 o' n c'] 2 (lk [(0,⟨false,cs⟩),(1,⟨false,ds⟩)]) (fun v out=>v=B (QG n f g)∧out=fun _=>none):=by
 refine aG Tryz.func82 rfl (by kernel_rfl) (by simp[Tryz.ntmps82]) Tryz.tW (by simp[AV.ok,CV.ok,SV.names]) pX (pY hp hq) ?_
 have nC: ∀ {M:Nat→Prop},(∀ x ∈ cs,SV.ok M x)=True:=eq_true (ao hp)
 have IK: ∀ {M:Nat→Prop},(∀ x ∈ ds,SV.ok M x)=True:=eq_true (ao hq)
 simp only[Tryz.results82,bne_self_eq_false,vR,seval]
 refine Rn n (fun k=> ∀ i,i < k→f i=g i) (fun k=>[(0,Sl 0 o n c),(1,Sl 1 o' n c'),(5,I .i64 k)])
  (fun k=>[(0,⟨false,cs⟩),(1,⟨false,ds⟩)]) _ ?_ ?_ ?_
 ·refine ⟨fun i hi=>by omega, ?_⟩
  simp only[nC,IK,vR,seval]
 ·intro j hj hinv
  simp only[vR,seval]
  refine cz (by simp;omega) ?_
  simp only[aF,aP hj,hc j hj,hd j hj,bU j (by omega),vR,seval]
  refine ⟨by kernel_rfl, ?_⟩
  by_cases h:f j=g j
  ·have e1:(f j != g j)=false:=by simp[h]
   simp only[e1,bU j (by omega),vR,seval]
   refine ⟨fun i hi=> ?_,ao hp,ao hq⟩
   rcases Nat.lt_or_ge i j with h1 | h1
   ·exact hinv i h1
   ·rw[show i=j by omega];exact h
  ·have e1:(f j != g j)=true:=by simp[h]
   simp only[e1,vR,seval]
   exact aJ rfl ⟨by rw[Qa hj h],rfl⟩
 ·intro hinv
  simp only[vR,seval]
  refine bR (by simp) ?_
  simp only[vR,seval]
  exact aJ rfl ⟨by rw[FK.2 hinv],rfl⟩
theorem ZY {x:Int} (h0:0≤x) (h1:x < 18446744073709551616):bd Tryz.prog 83 [I .u64 x] 0 (fun _=>none) (Made 0 8 (lV x)):=by
 refine aG Tryz.func83 rfl (by kernel_rfl) (by simp[Tryz.ntmps83]) Tryz.o8 (by simp[AV.ok,CV.ok,SV.names]) rK rL ?_
 simp only[Tryz.results83,vR,seval]
 refine mE (uR _) (fun n=>n) fQ rfl ?_
 simp only[vR,seval]
 refine mE (uR _) (fun n=>n) fQ rfl ?_
 simp only[vR,seval]
 refine dC (g:=cj (IntKind.u32.wrap x)) Tryz.eK Tryz.fc (f:=cj (IntKind.u32.wrap (dK .u64 x 32))) (b:=4) (cs:=ai .u8 4 (cj (IntKind.u32.wrap (dK .u64 x 32)))) (by simp only[ae,vR,seval])
  ⟨by rw[aD],by decide,az,dL⟩ (.inr ⟨9,0,4,true,ai .u8 4 (cj (IntKind.u32.wrap x)),rfl,by simp only[ae,vR,seval],dL,by decide⟩) (by decide) ?_
 intro c2 j7 fS
 simp only[vR,seval]
 refine kF (k:=0) (by decide) (fS.congr (m:=8) rfl fun i hi=> ?_) (by simp only[ae,vR,seval]) rfl
 have e4: ∀ x:Int,IntKind.u32.wrap x=x%4294967296:=wrap_u32
 have s32:dK .u64 x 32=x / 4294967296:=dM .u64 _ 32 (by decide)
 rw[s32]
 have sz:dK .u64 x 0=x:=by have:=dM .u64 x 0 (by decide);simpa using this
 have Y': ∀ x:Int,dK .u32 x 24=x / 16777216:=fun x=>dM .u32 x 24 (by decide)
 have Za: ∀ x:Int,dK .u32 x 16=x / 65536:=fun x=>dM .u32 x 16 (by decide)
 have s8: ∀ x:Int,dK .u32 x 8=x / 256:=fun x=>dM .u32 x 8 (by decide)
 have b56:dK .u64 x 56=x / 72057594037927936:=dM .u64 _ 56 (by decide)
 have b48:dK .u64 x 48=x / 281474976710656:=dM .u64 _ 48 (by decide)
 have b40:dK .u64 x 40=x / 1099511627776:=dM .u64 _ 40 (by decide)
 have b32:dK .u64 x 32=x / 4294967296:=dM .u64 _ 32 (by decide)
 have b24:dK .u64 x 24=x / 16777216:=dM .u64 _ 24 (by decide)
 have b16:dK .u64 x 16=x / 65536:=dM .u64 _ 16 (by decide)
 have b8:dK .u64 x 8=x / 256:=dM .u64 _ 8 (by decide)
 have hc:i=0∨i=1∨i=2∨i=3∨i=4∨i=5∨i=6∨i=7:=by omega
 rcases hc with rfl | rfl | rfl | rfl | rfl | rfl | rfl | rfl
 ·show cj _ 0=_
  simp only[cj,lV]
  show IntKind.u8.wrap (dK .u32 _ 24)=IntKind.u8.wrap (dK .u64 x 56)
  rw[Y',b56,e4,wrap_u8,wrap_u8];omega
 ·show cj _ 1=_
  simp only[cj,lV]
  show IntKind.u8.wrap (dK .u32 _ 16)=IntKind.u8.wrap (dK .u64 x 48)
  rw[Za,b48,e4,wrap_u8,wrap_u8];omega
 ·show cj _ 2=_
  simp only[cj,lV]
  show IntKind.u8.wrap (dK .u32 _ 8)=IntKind.u8.wrap (dK .u64 x 40)
  rw[s8,b40,e4,wrap_u8,wrap_u8];omega
 ·show cj _ 3=_
  simp only[cj,lV]
  show IntKind.u8.wrap (dK .u32 _ 0)=IntKind.u8.wrap (dK .u64 x 32)
  rw[R8,b32,e4,wrap_u8,wrap_u8];omega
 ·show cj _ 0=_
  simp only[cj,lV]
  show IntKind.u8.wrap (dK .u32 _ 24)=IntKind.u8.wrap (dK .u64 x 24)
  rw[Y',b24,e4,wrap_u8,wrap_u8];omega
 ·show cj _ 1=_
  simp only[cj,lV]
  show IntKind.u8.wrap (dK .u32 _ 16)=IntKind.u8.wrap (dK .u64 x 16)
  rw[Za,b16,e4,wrap_u8,wrap_u8];omega
 ·show cj _ 2=_
  simp only[cj,lV]
  show IntKind.u8.wrap (dK .u32 _ 8)=IntKind.u8.wrap (dK .u64 x 8)
  rw[s8,b8,e4,wrap_u8,wrap_u8];omega
 ·show cj _ 3=_
  simp only[cj,lV]
  show IntKind.u8.wrap (dK .u32 _ 0)=IntKind.u8.wrap (dK .u64 x 0)
  rw[R8,sz,e4,wrap_u8,wrap_u8];omega
theorem Ol {n:Nat} {f g:Nat→Int}:QG n f g=pN n f g:=by
 rw[Bool.eq_iff_iff,FK,gI]
theorem Qb {x:Int} {j:Nat} (hj:j < 4):cj x j=Ix x 4 j:=by
 have a24:dK .u32 x 24=dK .u64 x 24:=(dM .u32 x 24 (by decide)).trans (dM .u64 x 24 (by decide)).symm
 have a16:dK .u32 x 16=dK .u64 x 16:=(dM .u32 x 16 (by decide)).trans (dM .u64 x 16 (by decide)).symm
 have a8:dK .u32 x 8=dK .u64 x 8:=(dM .u32 x 8 (by decide)).trans (dM .u64 x 8 (by decide)).symm
 have a0:dK .u32 x 0=dK .u64 x 0:=(dM .u32 x 0 (by decide)).trans (dM .u64 x 0 (by decide)).symm
 rcases (show j=0∨j=1∨j=2∨j=3 by omega) with rfl | rfl | rfl | rfl
 ·exact congrArg IntKind.u8.wrap a24
 ·exact congrArg IntKind.u8.wrap a16
 ·exact congrArg IntKind.u8.wrap a8
 ·exact congrArg IntKind.u8.wrap a0
theorem S1 {x:Int} {j:Nat} (hj:j < 8):lV x j=Ix x 8 j:=by
 rcases (show j=0∨j=1∨j=2∨j=3∨j=4∨j=5∨j=6∨j=7 by omega) with rfl | rfl | rfl | rfl | rfl | rfl | rfl | rfl<;>rfl
theorem dX {n:Nat} (hn:n < 9223372036854775000):pU Tryz.prog 34 [I .i64 n] (I .i64 (aO n)):=by
 have w1:IntKind.i64.wrap ((n:Int)+63)=((n+63:Nat):Int):=by rw[wrap_i64 _ (by omega) (by omega)];omega
 have w2:IntKind.i64.wrap (((n+63:Nat):Int).tdiv 64)=(((n+63) / 64:Nat):Int):=KB (n+63) 64 (by omega)
 have w3:IntKind.i64.wrap (1+(((n+63) / 64:Nat):Int))=((aO n:Nat):Int):=by
  unfold aO
  rw[wrap_i64 _ (by omega) (by omega)]
  omega
 refine fV Tryz.func34 rfl (by kernel_rfl) (by simp[Tryz.ntmps34]) rfl rfl ?_
 simp only[Tryz.results34,vS,seval]
 simp only[Tryz.results34,w1,w2,w3,vR,seval]
def nR (n:Nat):Nat:=if gJ n=true then n / 128 else 0
theorem jH {o n c:Nat} {cs:List SV} (hp:cs.all SV.plain=true) (hn:n < 4611686018427387904):bd Tryz.prog 41 [Sl 0 o n c] 1 (lk [(0,⟨false,cs⟩)]) (fun v out=>v=I .i64 (nR n)∧out=fun _=>none):=by
 have w1:IntKind.i64.wrap ((n:Int).tdiv 128)=((n / 128:Nat):Int):=KB n 128 (by omega)
 have w2:(n:Int).tmod 128=((n%128:Nat):Int):=zD n 128
 refine aG Tryz.func41 rfl (by kernel_rfl) (by simp[Tryz.ntmps41]) Tryz.oV (by simp[AV.ok,CV.ok,SV.names]) fF (fG hp) ?_
 simp only[Tryz.results41,w1,w2,vR,seval]
 have hr:gJ n=(!(((n%128:Nat):Int) != 0)&& !decide (((n / 128:Nat):Int) < 8)&& !decide ((4096:Int) < ((n / 128:Nat):Int))):=by
  unfold gJ
  rw[Bool.eq_iff_iff]
  simp
  omega
 by_cases h1:(((n%128:Nat):Int) != 0)=true
 ·have e:nR n=0:=by unfold nR;rw[hr,h1];rfl
  rw[e]
  simp only[h1,vR,seval]
  exact aJ rfl ⟨rfl,rfl⟩
 have h1:(((n%128:Nat):Int) != 0)=false:=by simpa using h1
 by_cases h2:((n / 128:Nat):Int) < 8
 ·have e:nR n=0:=by unfold nR;rw[hr,h1,decide_eq_true h2];rfl
  rw[e]
  simp only[h1,decide_eq_true h2,vR,seval]
  exact aJ rfl ⟨rfl,rfl⟩
 by_cases h3:(4096:Int) < ((n / 128:Nat):Int)
 ·have e:nR n=0:=by unfold nR;rw[hr,h1,decide_eq_false h2,decide_eq_true h3];rfl
  rw[e]
  simp only[h1,decide_eq_false h2,decide_eq_true h3,vR,seval]
  exact aJ rfl ⟨rfl,rfl⟩
 ·have e:nR n=n / 128:=by unfold nR;rw[hr,h1,decide_eq_false h2,decide_eq_false h3];rfl
  rw[e]
  simp only[h1,decide_eq_false h2,decide_eq_false h3,vR,seval]
  exact aJ rfl ⟨rfl,rfl⟩
theorem ZZ {x:Int}:dQ [Sum.inl (.int .u8 x)] 0 1 1 (fun _=>x):=⟨rfl,by decide,rfl,fun i hi=>by
 obtain rfl:i=0:=by omega
 rfl⟩
theorem S2 {s:AS} {nm b n c m:Nat} {kq:IntKind} {f:Nat→Int} {cs:List SV} (hb:s.box b=some ⟨true,cs⟩) (hg:dQ cs 0 n c f) (hm:0 < m) (hnm:n+m≤1000000000) {ty:TypeId} {ct:Array Bool} {dst:Option Nat} {K:AS→Prop}
  (hK: ∀ c' cs',dQ cs' 0 (n+m) c' (bC n f fun _=>0)→K ((⟨s.env,upd (upd s.box b none) nm (some ⟨true,cs'⟩),s.next⟩:AS).put dst (some (Sl nm 0 (n+m) c')))):
  cp Tryz.prog nm .append #[22,3] ty ct (some [Sl b 0 n c,I kq m]) dst K s:=by
 refine lz (olds:=ai .u8 n f) Tryz.eK Tryz.D1 rfl (by decide) rfl hb (by rw[hg.len];omega) (by rw[aD];omega) (fun j u hj=>El hg.shows j u hj) hg.plain hm (by omega) (by omega) (by omega) (by omega) fun c' tail g1 g2 g3=> ?_
 rw[uI]
 exact hK c' _ (dQ.join (fun i hi=>by simp only[bC,if_pos hi]) (fun i hi=>by simp only[bC];rw[if_neg (by omega)]) g1 g2 g3)
theorem S4 {s:AS} {t b n:Nat} {eD:Bool} {sv:SV} {f:Nat→Int} {cs:List SV} (hl:cS t sv n f cs) (hb:s.box t=some ⟨eD,cs⟩) (hne:t≠b):uH s.box b (Sum.inl (Sum.inl sv)) n f:=by
 rcases hl with ⟨⟨a,rfl⟩,h0⟩ | ⟨o,c,rfl,_,hs⟩
 ·exact .inl ⟨⟨a,rfl⟩,h0⟩
 ·exact .inr ⟨t,o,c,eD,cs,rfl,hb,hs,hne⟩
theorem LI {q:Int} {t k n:Nat} {sv:SV} {pf:Nat→Int} {ps:List SV} (hl:cS t sv n pf ps) (ht:t < k): ∀ v ∈ [I .u64 q,Sum.inl (Sum.inl sv)],AV.ok (fun n=>n < k) v:=fun v hv=>by
 simp only[bQ]at hv
 rcases hv with rfl | rfl
 ·trivial
 ·rcases hl with ⟨⟨a,rfl⟩,_⟩ | ⟨o,c,rfl,_⟩
  ·trivial
  ·exact ht
def LJ (q:Int) (n:Nat):Nat→Int:=bC 9 (bC 1 (fun _=>74) (lV q)) (cj n)
theorem FL {f g:Nat→Int}:bC 0 f g=g:=by
 funext i
 simp[bC]
theorem Om {q:Int} {n i:Nat} (hi:i < 13):LJ q n i=mU q n i:=by
 unfold LJ mU Co bC upd
 by_cases h0:i=0
 ·subst h0;rfl
 by_cases h9:i < 9
 ·rw[if_pos h9,if_neg (by omega),if_neg (by omega),if_pos (by omega),S1 (by omega)]
 ·rw[if_neg h9,if_pos (by omega),Qb (by omega)]
theorem Z0 {q:Int} {n i:Nat} {pf:Nat→Int} (hn:n < 1000000) (hi:i < 64):
  bC 63 (bC 45 (bC 13 (LJ q n) (pZ kW pH (bC 13 (LJ q n) pf) (13+n))) fun _=>0) (fun _=>199) i=lC q n pf i:=by
 have hj:bC 13 (LJ q n) pf=bC 13 (mU q n) pf:=by
  funext j
  unfold bC
  by_cases h:j < 13
  ·rw[if_pos h,if_pos h,Om h]
  ·rw[if_neg h,if_neg h]
 have hA:Ct (13+n) (bC 13 (mU q n) pf)=pZ kW pH (bC 13 (mU q n) pf) (13+n):=if_neg (by omega)
 rw[hj]
 unfold lC
 rw[hA]
 by_cases h63:i=63
 ·subst h63;rfl
 have e1:upd (fun i=>if 13≤i∧i < 45 then pZ kW pH (bC 13 (mU q n) pf) (13+n) (i - 13) else mU q n i) 63 199 i=if 13≤i∧i < 45 then pZ kW pH (bC 13 (mU q n) pf) (13+n) (i - 13) else mU q n i:=by
  unfold upd
  rw[if_neg h63]
 rw[e1]
 have e2: ∀ f g h k:Nat→Int,bC 63 (bC 45 (bC 13 f g) h) k i=if i < 13 then f i else if i < 45 then g (i - 13) else if i < 63 then h (i - 45) else k (i - 63):=fun f g h k=>by
  simp only[bC]
  (repeat' split)<;>first | rfl | omega
 rw[e2]
 by_cases h13:i < 13
 ·rw[if_pos h13,if_neg (by omega),Om h13]
 rw[if_neg h13]
 by_cases h45:i < 45
 ·rw[if_pos h45,if_pos (by omega)]
 have b1:i < 63:=by omega
 have b2: ¬ (13≤i∧i < 45):=by omega
 have a1: ¬ (9≤i∧i < 9+4):=by omega
 have a2: ¬ (1≤i∧i < 1+8):=by omega
 have a3: ¬ i=0:=by omega
 rw[if_neg h45,if_pos b1,if_neg b2]
 simp only[mU,Co,upd,if_neg a1,if_neg a2,if_neg a3]
section
variable {n:Nat} {q:Int} {sv:SV} {pf:Nat→Int} {ps:List SV}
theorem Jv (hl:cS 0 sv n pf ps) (hp:ps.all SV.plain=true) (hpf:eJ pf) (hn:n < 1000000) (h0:0≤q) (h1:q < 18446744073709551616):
  bd Tryz.prog 66 [I .u64 q,Sum.inl (Sum.inl sv)] 1 (lk [(0,⟨false,ps⟩)]) (Made 1 64 (lC q n pf)):=by
 refine aG Tryz.func66 rfl (by kernel_rfl) (by simp[Tryz.ntmps66]) Tryz.tM (LI hl (by decide)) fF (fG hp) ?_
 have hlen:=hl.len
 simp only[Tryz.results66,hlen,vR,seval]
 have e74:splice (ai .u8 1 fun _=>0) 0 [Sum.inl (.int .u8 74)]=[Sum.inl (.int .u8 74)]:=rfl
 have aeR:splice (ai .u8 1 fun _=>0) 0 [Sum.inl (.int .u8 199)]=[Sum.inl (.int .u8 199)]:=rfl
 rw[e74]
 refine ia (ZY h0 h1) (fun n=>n) fQ rfl fun c1 mM a1 a2 a3=> ?_
 simp only[vR,seval]
 refine dC (g:=lV q) Tryz.eK Tryz.fc (f:=fun _=>74) (cs:=[Sum.inl (.int .u8 74)]) (by simp only[ae,vR,seval]) ZZ (.inr ⟨_,0,c1,true,ai .u8 8 (lV q)++mM,rfl,by simp only[ae,vR,seval],dy,by decide⟩) (by decide) fun c2 j7 fS=> ?_
 simp only[hlen,vR,seval]
 have wl:IntKind.u32.wrap (n:Int)=(n:Int):=fR _ (by omega) (by omega)
 simp only[wl,vR,seval]
 refine mE (uR _) (fun n=>n) fQ rfl ?_
 simp only[vR,seval]
 refine dC (g:=cj n) Tryz.eK Tryz.fc (by simp only[ae,vR,seval]) fS (.inr ⟨_,0,4,true,ai .u8 4 (cj n),rfl,by simp only[ae,vR,seval],dL,by decide⟩) (by decide) fun c3 sm Cn=> ?_
 simp only[vR,seval]
 refine dC (g:=bC 9 (bC 1 (fun _=>74) (lV q)) (cj n)) Tryz.eK Tryz.fc (f:=fun _=>0) (cs:=ai .u8 0 fun _=>0) (n:=0) (by simp only[ae,vR,seval]) ⟨rfl,by decide,rfl,fun i hi=>by omega⟩ (.inr ⟨_,0,c3,true,sm,rfl,by simp only[ae,vR,seval],Cn.shows,by decide⟩) (by decide) fun c4 cs4 hg4=> ?_
 simp only[vR,seval]
 refine dC (g:=pf) Tryz.eK Tryz.fc (by simp only[ae,vR,seval]) hg4 (S4 (eD:=false) hl (by simp only[ae,vR,seval]) (by decide)) (by omega) fun c5 Zn PG=> ?_
 simp only[vR,seval]
 have Kd:eJ (bC (0+(9+4)) (bC 0 (fun _=>0) (bC 9 (bC 1 (fun _=>74) (lV q)) (cj n))) pf):=fun i=>by
  unfold bC lV cj
  (repeat' split)<;>first | (rw[wrap_u8];omega) | exact hpf _ | (simp only;omega)
 refine (Io (k:=1) (v:=Sl 0 0 (0+(9+4)+n) c5) (ins:=lk [(0,⟨false,Zn⟩)]) Kd (.inr ⟨0,0,c5,false,Zn,rfl,rfl,PG.plain,PG.shows⟩) (by omega) (by decide:0 < 1) fF (fG PG.plain) (by decide)).cG (fun _=>22) (bZ (rw:=true) (by simp only[ae,vR,seval]) PG.plain) az rfl ?_
 simp only[vR,seval]
 rw[FL]
 refine dC (g:=pZ kW pH (bC 13 (LJ q n) pf) (13+n)) Tryz.eK Tryz.fc (by simp only[ae,vR,seval]) Cn (.inr ⟨_,0,32,true,ai .u8 32 (pZ kW pH (bC 13 (LJ q n) pf) (13+n)),rfl,by simp only[ae,vR,seval];rfl,dL,by decide⟩) (by decide) fun c6 cs6 hg6=> ?_
 simp only[vR,seval]
 refine S2 (by simp only[ae,vR,seval]) hg6 (by decide) (by decide) fun c7 cs7 hg7=> ?_
 simp only[vR,seval]
 rw[aeR]
 refine dC (g:=fun _=>199) Tryz.eK Tryz.fc (by simp only[ae,vR,seval]) hg7 (.inr ⟨_,0,1,true,[Sum.inl (.int .u8 199)],rfl,by simp only[ae,vR,seval],jN,by decide⟩) (by decide) fun c8 cs8 hg8=> ?_
 simp only[vR,seval]
 exact kF (k:=1) (by decide) (hg8.congr (m:=64) rfl fun i hi=>Z0 hn hi) (by simp only[ae,vR,seval]) rfl
end
theorem vj {s:AS} {r0:Bool} {cs:List SV} (h:s.box 0=some ⟨r0,cs⟩) (hp:cs.all SV.plain=true):Fits s (fun n=>n) (lk [(0,⟨false,cs⟩)]) none:=
 qE fun x hx=>by
  rw[List.mem_singleton]at hx
  subst hx
  exact ⟨rfl,r0,by rw[au hp];exact h⟩
def gw (q:Int) (n:Nat) (pf:Nat→Int):Nat→Int:=bC 64 (lC q n pf) (iL n pf)
section
variable {n:Nat} {q:Int} {sv:SV} {pf:Nat→Int} {ps:List SV}
theorem qN (hl:cS 0 sv n pf ps) (hp:ps.all SV.plain=true) (hpf:eJ pf) (hn:n < 1000000) (h0:0≤q) (h1:q < 18446744073709551616):
  bd Tryz.prog 35 [I .u64 q,Sum.inl (Sum.inl sv)] 1 (lk [(0,⟨false,ps⟩)]) (Made 1 (64*aO n) (gw q n pf)):=by
 refine aG Tryz.func35 rfl (by kernel_rfl) (by simp[Tryz.ntmps35]) Tryz.tg (LI hl (by decide)) fF (fG hp) ?_
 simp only[Tryz.results35,vR,seval]
 have hN:aO n=1+aT n:=rfl
 have hC:aT n=(n+63) / 64:=rfl
 refine ia (Jv (q:=q) hl hp hpf hn h0 h1) (fun n=>n) (vj (r0:=false) (by simp only[ae,vR,seval]) hp) (fC _) fun c1 mM a1 a2 a3=> ?_
 simp only[vR,seval]
 refine dC (g:=pf) Tryz.eK Tryz.fc (f:=lC q n pf) (cs:=ai .u8 64 (lC q n pf)++mM) (by simp only[ae,vR,seval]) (dQ.row a1 a2 a3) (S4 (eD:=false) hl (by simp only[ae,vR,seval]) (by decide)) (by omega) fun c2 j7 fS=> ?_
 simp only[vR,seval]
 refine kE (β:=Nat×List SV) (64*aT n - n) (fun k y=>dQ y.2 0 (64+n+k) y.1 (gw q n pf))
  (fun k y=>[(5,Sl 60 0 (64+n+k) y.1)]) (fun k y=>[(60,⟨true,y.2⟩)]) 61 (c2,j7) ?_ ?_ ?_ (by show 10≤61;decide)
 ·refine ⟨fS.congr rfl fun i hi=> ?_,60,8, ?_⟩
  ·simp only[gw,bC,iL]
   split
   ·rfl
   ·rw[if_pos (by omega)]
  ·simp only[fJ,jM,iZ,sf,nu,fS.plain,true_or,vR,seval]
   simp
 ·rintro k ⟨c',cs'⟩ hk h1
  simp only at h1
  have hr:=zD (64+n+k) 64
  rw[show ((64:Nat):Int)=64 from rfl]at hr
  have hne:(64+n+k)%64≠0:=by omega
  simp only[hr,vR,seval]
  refine cz (by simp;omega) ?_
  simp only[vR,seval]
  refine dC (g:=fun _=>0) Tryz.eK Tryz.fc (by simp only[ae,vR,seval]) h1 (.inr ⟨_,_,_,true,[Sum.inl (.int .u8 0)],rfl,by simp only[ae,mD,vR,seval],jN,by decide⟩) (by omega) ?_
  intro c3 sm Cn
  simp only[vR,seval]
  refine ⟨(c3,sm),Cn.congr (by omega) fun i hi=> ?_,60,67, ?_⟩
  ·by_cases h:i < 64+n+k
   ·simp only[bC,if_pos h]
   ·simp only[gw,bC,iL]
    rw[if_neg h,if_neg (by omega),if_neg (by omega)]
  ·simp only[fJ,jM,iZ,sf,nu,Cn.plain,true_or,vR,seval]
   simp[Nat.add_assoc]
 ·rintro ⟨c',cs'⟩ h1
  simp only at h1
  have hr:=zD (64+n+(64*aT n - n)) 64
  rw[show ((64:Nat):Int)=64 from rfl]at hr
  have hne:(64+n+(64*aT n - n))%64=0:=by omega
  simp only[hr,vR,seval]
  refine bR (by rw[hne];rfl) ?_
  simp only[vR,seval]
  exact kF (k:=1) (by decide) h1 (by simp only[ae,vR,seval]) (by omega)
end
end Go.Proofs.YtaeagfdnfjenlaaGreatDoor
