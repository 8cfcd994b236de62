/-
  What operate defers: asks for the panic.
-/
import Derived.Test.YtkaamnnjeandlaaDoorVcgWZ
import Derived.Test.YtkaamnnjeandlaaDoorVcgRv2
import Derived.Test.YtkaamnnjeandlaaDoorVcgWX
import Derived.Test.YtkaamnnjeandlaaDoorVcgWM
import Derived.Test.YtkaamnnjeandlaaDoorVcgWV
set_option maxRecDepth 20000
set_option linter.unusedSimpArgs false
set_option linter.unusedVariables false
set_option linter.unusedSectionVars false
set_option maxHeartbeats 1000000
namespace Go.Proofs.YtkaamnnjeandlaaDoor
open Go.bM
variable [aV]
theorem Tryd.Ut (w:World):(Instr.typeAssert (bR 0) 20 57 true).run Tryd.prog w= .ok (.tuple #[bR 0, .bool true]) w:=by kernel_rfl
theorem Tryd.Uu (w:World):(Instr.typeAssert .nilIface 20 57 true).run Tryd.prog w= .ok (.tuple #[.nilIface, .bool false]) w:=by kernel_rfl
def Ku (v:Value) (b:Bool):List (Nat×AV):=[(6,V v),(7, .inr [.inl (.inl v), .inl (.inl (.bool b))]),(5, .inr [.inl (.inl v), .inl (.inl (.bool b))]),(8,V v),(9,B b),(3,V v),(4,B b)]
def yh (m:Nat) (f:Nat→Int) (pc kc:List SV) (nc:List SV) (lc ec:List SV):List (Nat×aG):=
 [(0,⟨false,[Sum.inr (.inr (4,0,m,m))]⟩),(1,⟨false,pc⟩),(2,⟨false,[Sum.inl (.slice none 0 0)]⟩),(3,⟨false,nc⟩),(4,⟨false,aA .u8 (64*m) f⟩),(5,⟨false,kc⟩),(6,⟨true,lc⟩),(7,⟨true,ec⟩),(8,⟨false,eE 0 1 2 3⟩)]
section
variable {P:Program} {ops:Array Oper} {Q:Exit→Act→List Go.Frame→World→Prop} {a:Act} {cs:List Go.Frame} {w:World} {i:Nat} {rest:List Nat} {o:Oper}
theorem mg (ho:ops[i]? =some o) (hg:o.guard=none) {v:Value} (hr:(execOp a.eval o).run P w= .ok (.value v) w) (h:wpOpsS P ops Q rest (a.put o.dst v) cs w):wpOpsS P ops Q (i::rest) a cs w:=by
 unfold wpOpsS
 rw[ho]
 simp only
 rw[if_pos (by unfold Region.wanted;rw[hg])]
 rw[hr]
 exact h
theorem Nv (ho:ops[i]? =some o) (hg:o.guard=none) (hr:(execOp a.eval o).run P w= .ok .recover w) {v:Value} {cs':List Go.Frame} (hc:recoverD cs=some (v,cs')∨(recoverD cs=none∧v= .nilIface∧cs=cs')) (h:wpOpsS P ops Q rest (a.put o.dst v) cs' w):wpOpsS P ops Q (i::rest) a cs w:=by
 unfold wpOpsS
 rw[ho]
 simp only
 rw[if_pos (by unfold Region.wanted;rw[hg])]
 rw[hr]
 rcases hc with hc | ⟨hc,rfl,rfl⟩
 ·simp only[hc]
  exact h
 ·simp only[hc]
  exact h
end
theorem eval_put {a:Act} {d:Nat} {u:Value} (hd:d < a.tmps.size):(a.put (some d) u).eval (.tmp d)=u:=by
 show (a.put (some d) u).tmps.getD d _=u
 rw[Array.getD_eq_getD_getElem?,oQ hd,if_pos rfl]
 rfl
theorem sB {a:Act} {d x:Nat} {u:Value} (hd:d < a.tmps.size) (hx:x≠d):(a.put (some d) u).eval (.tmp x)=a.eval (.tmp x):=by
 show (a.put (some d) u).tmps.getD x _=a.tmps.getD x _
 rw[Array.getD_eq_getD_getElem?,Array.getD_eq_getD_getElem?,oQ hd,if_neg hx]
theorem EE {v:Value} {b:Bool} {Kt:Array Oper} (ho:Kt=(match Tryd.f53.body with
  | some (.seq (.region _ o _) _)=>o
  | _=> #[])) {Q:Exit→Act→List Go.Frame→World→Prop} {a:Act} {cs cs':List Go.Frame} {w:World} (hsz:a.tmps.size=14) (jk:recoverD cs=some (v,cs')∨(recoverD cs=none∧v= .nilIface∧cs=cs')) (has:(Instr.typeAssert v 20 57 true).run Tryd.prog w= .ok (.tuple #[v, .bool b]) w)
  (hQ:Q .normal (((((((a.put (some 6) v).put (some 7) (.tuple #[v, .bool b])).put (some 5) (.tuple #[v, .bool b])).put (some 8) v).put (some 9) (.bool b)).put (some 3) v).put (some 4) (.bool b)) cs' w):wpOpsS Tryd.prog Kt Q [0,1,2,3,4,5,6] a cs w:=by
 subst ho
 have s1:(a.put (some 6) v).tmps.size=14:=by rw[iG];exact hsz
 have s2:((a.put (some 6) v).put (some 7) (.tuple #[v, .bool b])).tmps.size=14:=by rw[iG];exact s1
 have s3:(((a.put (some 6) v).put (some 7) (.tuple #[v, .bool b])).put (some 5) (.tuple #[v, .bool b])).tmps.size=14:=by rw[iG];exact s2
 have s4:((((a.put (some 6) v).put (some 7) (.tuple #[v, .bool b])).put (some 5) (.tuple #[v, .bool b])).put (some 8) v).tmps.size=14:=by rw[iG];exact s3
 have s5:(((((a.put (some 6) v).put (some 7) (.tuple #[v, .bool b])).put (some 5) (.tuple #[v, .bool b])).put (some 8) v).put (some 9) (.bool b)).tmps.size=14:=by rw[iG];exact s4
 have s6:((((((a.put (some 6) v).put (some 7) (.tuple #[v, .bool b])).put (some 5) (.tuple #[v, .bool b])).put (some 8) v).put (some 9) (.bool b)).put (some 3) v).tmps.size=14:=by rw[iG];exact s5
 have v7:((a.put (some 6) v).put (some 7) (.tuple #[v, .bool b])).eval (.tmp 7)= .tuple #[v, .bool b]:=eval_put (by rw[s1];decide)
 have v5:(((a.put (some 6) v).put (some 7) (.tuple #[v, .bool b])).put (some 5) (.tuple #[v, .bool b])).eval (.tmp 5)= .tuple #[v, .bool b]:=eval_put (by rw[s2];decide)
 have Zq:((((a.put (some 6) v).put (some 7) (.tuple #[v, .bool b])).put (some 5) (.tuple #[v, .bool b])).put (some 8) v).eval (.tmp 5)= .tuple #[v, .bool b]:=(sB (by rw[s3];decide) (by decide)).trans v5
 have v8:(((((a.put (some 6) v).put (some 7) (.tuple #[v, .bool b])).put (some 5) (.tuple #[v, .bool b])).put (some 8) v).put (some 9) (.bool b)).eval (.tmp 8)=v:=(sB (by rw[s4];decide) (by decide)).trans (eval_put (by rw[s3];decide))
 have v9:((((((a.put (some 6) v).put (some 7) (.tuple #[v, .bool b])).put (some 5) (.tuple #[v, .bool b])).put (some 8) v).put (some 9) (.bool b)).put (some 3) v).eval (.tmp 9)= .bool b:=(sB (by rw[s5];decide) (by decide)).trans (eval_put (by rw[s4];decide))
 have v6:(a.put (some 6) v).eval (.tmp 6)=v:=eval_put (by rw[hsz];decide)
 refine Nv (o:=⟨some 6, .call ⟨.builtin .recover, #[], #[]⟩,_,_,_,none⟩) rfl rfl rfl jk ?_
 refine mg (o:=⟨some 7, .typeAssert (.tmp 6) 20 57 true,_,_,_,none⟩) (v:= .tuple #[v, .bool b]) rfl rfl ?_ ?_
 ·show (do pure (Next.value (← Instr.typeAssert ((a.put (some 6) v).eval (.tmp 6)) 20 57 true)):Sem Next).run Tryd.prog w=_
  rw[v6]
  simp[has]
 refine mg (o:=⟨some 5, .move (.tmp 7),_,_,_,none⟩) (v:= .tuple #[v, .bool b]) rfl rfl (by show Result.ok (Next.value (((a.put (some 6) v).put (some 7) (.tuple #[v, .bool b])).eval (.tmp 7))) w=_;rw[v7]) ?_
 refine mg (o:=⟨some 8, .extract (.tmp 5) 0,_,_,_,none⟩) (v:=v) rfl rfl ?_ ?_
 ·show (do pure (Next.value (← Instr.extract ((((a.put (some 6) v).put (some 7) (.tuple #[v, .bool b])).put (some 5) (.tuple #[v, .bool b])).eval (.tmp 5)) 0)):Sem Next).run Tryd.prog w=_
  rw[v5]
  rfl
 refine mg (o:=⟨some 9, .extract (.tmp 5) 1,_,_,_,none⟩) (v:= .bool b) rfl rfl ?_ ?_
 ·show (do pure (Next.value (← Instr.extract (((((a.put (some 6) v).put (some 7) (.tuple #[v, .bool b])).put (some 5) (.tuple #[v, .bool b])).put (some 8) v).eval (.tmp 5)) 1)):Sem Next).run Tryd.prog w=_
  rw[Zq]
  rfl
 refine mg (o:=⟨some 3, .assign (.tmp 8),_,_,_,none⟩) (v:=v) rfl rfl (by show Result.ok (Next.value ((((((a.put (some 6) v).put (some 7) (.tuple #[v, .bool b])).put (some 5) (.tuple #[v, .bool b])).put (some 8) v).put (some 9) (.bool b)).eval (.tmp 8))) w=_;rw[v8]) ?_
 refine mg (o:=⟨some 4, .assign (.tmp 9),_,_,_,none⟩) (v:= .bool b) rfl rfl (by show Result.ok (Next.value (((((((a.put (some 6) v).put (some 7) (.tuple #[v, .bool b])).put (some 5) (.tuple #[v, .bool b])).put (some 8) v).put (some 9) (.bool b)).put (some 3) v).eval (.tmp 9))) w=_;rw[v9]) ?_
 exact hQ
def I3:List PanicEntry:=[{ v:=bR 0,recovered:=true }]
def I4 (m:Nat) (f:Nat→Int) (pc kc nc:List SV) (lc ec tc:List SV):List (Nat×aG):=(yh m f pc kc nc lc ec).map (fun x=>(x.1,⟨false,x.2.cells⟩))++[(9,⟨false,tc⟩)]
theorem Pq {m:Nat} {f:Nat→Int} {pc kc nc lc ec tc:List SV} (h:fY pc nc kc) (hlc: ∀ x ∈ lc,SV.ok (fun n=>n < 10) x) (Sf: ∀ x ∈ ec,SV.ok (fun n=>n < 10) x) (Wq:tc.all SV.plain=true):
  GD Tryd.prog 53 [Ptr 8 0,Ptr 6 0,Ptr 7 0] 10 (lk (I4 m f pc kc nc lc ec tc)) .returning .returning (fun out=>out=fun _=>none):=by
 refine tS Tryd.func53 rfl (by kernel_rfl) [] [] (by simp[Tryd.ntmps53]) (fun v hv=> ?_) (fun n hn=> ?_) (fun n b hb=> ?_) (Ku .nilIface false) (fun x hx=> ?_) ?_ ?_
 ·simp only[cz]at hv
  rcases hv with rfl | rfl | rfl
  ·exact (by decide:8 < 10)
  ·exact (by decide:6 < 10)
  ·exact (by decide:7 < 10)
 ·rcases (show n=0∨n=1∨n=2∨n=3∨n=4∨n=5∨n=6∨n=7∨n=8∨n=9 by omega) with rfl | rfl | rfl | rfl | rfl | rfl | rfl | rfl | rfl | rfl<;>exact ⟨_,rfl⟩
 ·have h1:=bg _ _ _ hb
  simp only[I4,yh,List.map_cons,List.map_nil,List.cons_append,List.nil_append,cz,Prod.mk.injEq]at h1
  rcases h1 with ⟨rfl,rfl⟩ | ⟨rfl,rfl⟩ | ⟨rfl,rfl⟩ | ⟨rfl,rfl⟩ | ⟨rfl,rfl⟩ | ⟨rfl,rfl⟩ | ⟨rfl,rfl⟩ | ⟨rfl,rfl⟩ | ⟨rfl,rfl⟩ | ⟨rfl,rfl⟩
  ·exact ⟨by decide,fun x hx=>by rw[List.mem_singleton]at hx;subst hx;exact ⟨(by decide:4 < 10),rfl⟩⟩
  ·exact ⟨by decide,fun x hx=>SV.aI (fun n hn=>by subst hn;decide) (h.p x hx)⟩
  ·exact ⟨by decide,ai rfl⟩
  ·exact ⟨by decide,ai h.n⟩
  ·exact ⟨by decide,ai aD⟩
  ·exact ⟨by decide,ai h.k⟩
  ·exact ⟨by decide,hlc⟩
  ·exact ⟨by decide,Sf⟩
  ·exact ⟨by decide,dg fun n hn=>by omega⟩
  ·exact ⟨by decide,ai Wq⟩
 ·simp only[Ku,cz]at hx
  have t: ∀ b:Bool,AV.ok (fun n=>n < 10) (.inr [.inl (.inl .nilIface), .inl (.inl (.bool b))]):=fun b x hx=>by
   simp only[cz]at hx
   rcases hx with rfl | rfl<;>trivial
  rcases hx with rfl | rfl | rfl | rfl | rfl | rfl | rfl
  ·exact ⟨by simp[Tryd.ntmps53],trivial⟩
  ·exact ⟨by simp[Tryd.ntmps53],t _⟩
  ·exact ⟨by simp[Tryd.ntmps53],t _⟩
  ·exact ⟨by simp[Tryd.ntmps53],trivial⟩
  ·exact ⟨by simp[Tryd.ntmps53],trivial⟩
  ·exact ⟨by simp[Tryd.ntmps53],trivial⟩
  ·exact ⟨by simp[Tryd.ntmps53],trivial⟩
 ·intro Q g a c₀ cs w hu hsz hQ
  refine EE (v:= .nilIface) (b:=false) rfl (by rw[hsz];rfl) (.inr ⟨by simp[recoverD,hu],rfl, ?_⟩) (Tryd.Uu w) hQ
  cases c₀
  simp only at hu
  subst hu
  rfl
 ·simp only[Tryd.results53,Ku,Ad,List.foldl_cons,List.foldl_nil,E7,seval]
  exact aL rfl rfl
theorem Pr {m:Nat} {f:Nat→Int} {pc kc nc lc ec:List SV} (h:fY pc nc kc) (hm:m≤1048576) (RI:lc.length=1) (Zr:ec.length=1) (hlc: ∀ x ∈ lc,SV.ok (fun n=>n < 9) x) (Sf: ∀ x ∈ ec,SV.ok (fun n=>n < 9) x):
  GD Tryd.prog 53 [Ptr 8 0,Ptr 6 0,Ptr 7 0] 9 (lk (yh m f pc kc nc lc ec)) (.panicking eR) (.panicking I3) (fun out=> ∃ c tail,64*m≤c∧tail.length=c - 64*m∧tail.all SV.plain=true∧out=lk [(6,⟨true,[Sum.inr (.inr (9,0,64*m,c))]⟩),(7,⟨true,[Sum.inl (bR 0)]⟩),(9,⟨true,aA .u8 (64*m) f++tail⟩)]):=by
 refine tS Tryd.func53 rfl (by kernel_rfl) [] [] (by simp[Tryd.ntmps53]) (fun v hv=> ?_) (fun n hn=> ?_) (fun n b hb=> ?_) (Ku (bR 0) true) (fun x hx=> ?_) ?_ ?_
 ·simp only[cz]at hv
  rcases hv with rfl | rfl | rfl
  ·exact (by decide:8 < 9)
  ·exact (by decide:6 < 9)
  ·exact (by decide:7 < 9)
 ·rcases (show n=0∨n=1∨n=2∨n=3∨n=4∨n=5∨n=6∨n=7∨n=8 by omega) with rfl | rfl | rfl | rfl | rfl | rfl | rfl | rfl | rfl<;>exact ⟨_,rfl⟩
 ·have h1:=bg _ _ _ hb
  simp only[yh,List.map_cons,List.map_nil,cz,Prod.mk.injEq]at h1
  rcases h1 with ⟨rfl,rfl⟩ | ⟨rfl,rfl⟩ | ⟨rfl,rfl⟩ | ⟨rfl,rfl⟩ | ⟨rfl,rfl⟩ | ⟨rfl,rfl⟩ | ⟨rfl,rfl⟩ | ⟨rfl,rfl⟩ | ⟨rfl,rfl⟩
  ·exact ⟨by decide,fun x hx=>by rw[List.mem_singleton]at hx;subst hx;exact ⟨(by decide:4 < 9),rfl⟩⟩
  ·exact ⟨by decide,fun x hx=>SV.aI (fun n hn=>by subst hn;decide) (h.p x hx)⟩
  ·exact ⟨by decide,ai rfl⟩
  ·exact ⟨by decide,ai h.n⟩
  ·exact ⟨by decide,ai aD⟩
  ·exact ⟨by decide,ai h.k⟩
  ·exact ⟨by decide,hlc⟩
  ·exact ⟨by decide,Sf⟩
  ·exact ⟨by decide,dg fun n hn=>by omega⟩
 ·simp only[Ku,cz]at hx
  have t: ∀ b:Bool,AV.ok (fun n=>n < 9) (.inr [.inl (.inl (bR 0)), .inl (.inl (.bool b))]):=fun b x hx=>by
   simp only[cz]at hx
   rcases hx with rfl | rfl<;>trivial
  rcases hx with rfl | rfl | rfl | rfl | rfl | rfl | rfl
  ·exact ⟨by simp[Tryd.ntmps53],trivial⟩
  ·exact ⟨by simp[Tryd.ntmps53],t _⟩
  ·exact ⟨by simp[Tryd.ntmps53],t _⟩
  ·exact ⟨by simp[Tryd.ntmps53],trivial⟩
  ·exact ⟨by simp[Tryd.ntmps53],trivial⟩
  ·exact ⟨by simp[Tryd.ntmps53],trivial⟩
  ·exact ⟨by simp[Tryd.ntmps53],trivial⟩
 ·intro Q g a c₀ cs w hu hsz hQ
  refine EE (v:=bR 0) (b:=true) (cs':={ c₀ with mode:= .panicking I3 }::cs) rfl (by rw[hsz];rfl) (.inl ?_) (Tryd.Ut w) hQ
  simp[recoverD,hu,eR,I3]
 ·obtain ⟨l0,rfl⟩:=List.length_eq_one_iff.1 RI
  obtain ⟨e0,rfl⟩:=List.length_eq_one_iff.1 Zr
  simp only[Tryd.results53,Ku,yh,Ad,List.foldl_cons,List.foldl_nil,bJ,seval]
  refine zo (qH (f:=f) h hm) (fun n=>n) ((dE (s:=_) m f (pc:=pc) (nc:=nc) (kc:=kc) (by simp only[ae,vR,seval]) (by simp only[ae,vR,seval]) (by simp only[ae,vR,seval]) (by simp only[ae,vR,seval]) (by simp only[ae,vR,seval]) (by simp only[ae,vR,seval])).fits jj) (fw _) fun c tail g1 g2 g3=> ?_
  simp only[kT,Tryd.bt,bJ,seval]
  refine dD (q:=11) (v0:=Sum.inr []) (by decide) rfl (fun x hx=>(by cases hx)) (fun x hx=> ?_) ⟨c,tail,g1,g2,g3,rfl⟩
  simp only[cz]at hx
  rcases hx with rfl | rfl | rfl
  ·exact ⟨(by decide:6 < 10),fun h=>(by cases h),fun y hy=>by rw[List.mem_singleton]at hy;subst hy;exact ⟨(by decide:9 < 10),rfl⟩,by show AS.box _ 6=some (aG.mk true [Sum.inr (.inr (11,0,64*m,c))]);simp only[fV,aQ,cO,bm,ao,aq,bq,aS,kT,AS.mem,AS.put,vR,seval]⟩
  ·exact ⟨(by decide:7 < 10),fun h=>(by cases h),fun y hy=>by rw[List.mem_singleton]at hy;subst hy;exact ⟨trivial,rfl⟩,by show AS.box _ 7=some (aG.mk true [Sum.inl (bR 0)]);simp only[fV,aQ,cO,bm,ao,aq,bq,aS,kT,AS.mem,AS.put,vR,seval]⟩
  ·exact ⟨(by decide:9 < 10),fun _=>rfl,ai (dz g3),by rw[az (dz g3)];show AS.box _ 11=some (aG.mk true (aA .u8 (64*m) f++tail));simp only[fV,aQ,cO,bm,ao,aq,bq,aS,kT,AS.mem,AS.put,vR,seval]⟩
def BQ (m:Nat) (f:Nat→Int) (pc kc:List SV) (ps pl:List SV):List (Nat×aG):=kk m f pc kc 0++[(6,⟨false,ps⟩),(7,⟨false,pl⟩)]
def GH (k m:Nat) (g:Nat→Int) (e:Value) (v:AV) (out:Nat→Option aG):Prop:= ∃ cnt c tail b2,64*m≤c∧tail.length=c - 64*m∧tail.all SV.plain=true∧v= .inr [.inl (.inr (.inr (k,0,64*m,c))), .inl (.inl e)]∧
 out=lk [(2,b2),(3,⟨true,[Sum.inl (.int .i64 cnt)]⟩),(4,⟨true,aA .u8 (64*m) g⟩),(k,⟨true,aA .u8 (64*m) g++tail⟩)]
def nine (n:Nat):Nat:=if n=6 then 9 else if n=7 then 10 else n
theorem Ps {l:List SV} (h: ∀ x ∈ l,SV.ok (fun n=>n=5) x):l.map (SV.ren nine)=l:=by
 conv=>rhs;rw[← List.map_id l]
 exact List.map_congr_left fun x hx=>SV.jc (SV.aY (fun n hn=>by subst hn;rfl) (h x hx).1)
theorem Sg:(eE 0 1 2 3).map (SV.ren nine)=eE 0 1 2 3:=rfl
theorem Kv {s:AS} {m:Nat} {g:Nat→Int} {pc nc kc lc ec:List SV} (h:fY pc nc kc) (hlc:lc.all SV.plain=true) (Sf:ec.all SV.plain=true) {r0 r1 r2 r3 r4 r5 r8:Bool} (h0:s.box 0=some ⟨r0,[Sum.inr (.inr (4,0,m,m))]⟩) (h1:s.box 1=some ⟨r1,pc⟩) (h2:s.box 2=some ⟨r2,[Sum.inl (.slice none 0 0)]⟩) (h3:s.box 3=some ⟨r3,nc⟩) (h4:s.box 4=some ⟨r4,aA .u8 (64*m) g⟩) (h5:s.box 5=some ⟨r5,kc⟩)
  (h9:s.box 9=some ⟨true,lc⟩) (h10:s.box 10=some ⟨true,ec⟩) (h8:s.box 8=some ⟨r8,eE 0 1 2 3⟩):iW s nine (lk (yh m g pc kc nc lc ec)) [6,7]:=by
 refine kd (fun x hx=> ?_) fun n hn=> ?_
 ·have inj: ∀ a,a=6∨a=7→ ∀ y ∈ yh m g pc kc nc lc ec,nine a=nine y.1→a=y.1:=fun a ha y hy e=>by
   have:y.1 < 9:=by
    simp only[yh,cz]at hy
    rcases hy with rfl | rfl | rfl | rfl | rfl | rfl | rfl | rfl | rfl<;>(simp only;omega)
   unfold nine at e
   (repeat' split at e)<;>omega
  simp only[yh,cz]at hx
  rcases hx with rfl | rfl | rfl | rfl | rfl | rfl | rfl | rfl | rfl
  ·exact ⟨⟨_,h0,fun h=>(by cases h)⟩,fun h=>(by cases h)⟩
  ·exact ⟨⟨_,by rw[Ps h.p];exact h1,fun h=>(by cases h)⟩,fun h=>(by cases h)⟩
  ·exact ⟨⟨_,h2,fun h=>(by cases h)⟩,fun h=>(by cases h)⟩
  ·exact ⟨⟨_,by rw[az h.n];exact h3,fun h=>(by cases h)⟩,fun h=>(by cases h)⟩
  ·exact ⟨⟨_,by rw[az aD];exact h4,fun h=>(by cases h)⟩,fun h=>(by cases h)⟩
  ·exact ⟨⟨_,by rw[az h.k];exact h5,fun h=>(by cases h)⟩,fun h=>(by cases h)⟩
  ·exact ⟨⟨_,by rw[az hlc];exact h9,fun h=>rfl⟩,fun h=>⟨(by decide:(6:Nat) ∈ [6,7]),inj 6 (by decide)⟩⟩
  ·exact ⟨⟨_,by rw[az Sf];exact h10,fun h=>rfl⟩,fun h=>⟨(by decide:(7:Nat) ∈ [6,7]),inj 7 (by decide)⟩⟩
  ·exact ⟨⟨_,by rw[Sg];exact h8,fun h=>(by cases h)⟩,fun h=>(by cases h)⟩
 ·simp only[cz]at hn
  rcases hn with rfl | rfl<;>exact ⟨_,rfl,rfl⟩
def I5 (t n:Nat):Nat:=if n=6 then 9 else if n=7 then 10 else if n=9 then t else n
theorem Nw {t:Nat} {l:List SV} (h: ∀ x ∈ l,SV.ok (fun n=>n=5) x):l.map (SV.ren (I5 t))=l:=by
 conv=>rhs;rw[← List.map_id l]
 exact List.map_congr_left fun x hx=>SV.jc (SV.aY (fun n hn=>by subst hn;rfl) (h x hx).1)
theorem GI {s:AS} {m t:Nat} {g:Nat→Int} {pc nc kc lc Wr ec tc:List SV} (h:fY pc nc kc) (hlc:lc.map (SV.ren (I5 t))=Wr) (Sf:ec.all SV.plain=true) (Wq:tc.all SV.plain=true) {r0 r1 r2 r3 r4 r5 r8 r9 XR rt:Bool} (h0:s.box 0=some ⟨r0,[Sum.inr (.inr (4,0,m,m))]⟩) (h1:s.box 1=some ⟨r1,pc⟩) (h2:s.box 2=some ⟨r2,[Sum.inl (.slice none 0 0)]⟩) (h3:s.box 3=some ⟨r3,nc⟩) (h4:s.box 4=some ⟨r4,aA .u8 (64*m) g⟩) (h5:s.box 5=some ⟨r5,kc⟩)
  (h9:s.box 9=some ⟨r9,Wr⟩) (h10:s.box 10=some ⟨XR,ec⟩) (h8:s.box 8=some ⟨r8,eE 0 1 2 3⟩) (ht:s.box t=some ⟨rt,tc⟩):iW s (I5 t) (lk (I4 m g pc kc nc lc ec tc)) []:=by
 refine kd (fun x hx=> ?_) fun n hn=>(by cases hn)
 simp only[I4,yh,List.map_cons,List.map_nil,List.cons_append,List.nil_append,cz]at hx
 rcases hx with rfl | rfl | rfl | rfl | rfl | rfl | rfl | rfl | rfl | rfl
 ·exact ⟨⟨_,h0,fun h=>(by cases h)⟩,fun h=>(by cases h)⟩
 ·exact ⟨⟨_,by rw[Nw h.p];exact h1,fun h=>(by cases h)⟩,fun h=>(by cases h)⟩
 ·exact ⟨⟨_,h2,fun h=>(by cases h)⟩,fun h=>(by cases h)⟩
 ·exact ⟨⟨_,by rw[az h.n];exact h3,fun h=>(by cases h)⟩,fun h=>(by cases h)⟩
 ·exact ⟨⟨_,by rw[az aD];exact h4,fun h=>(by cases h)⟩,fun h=>(by cases h)⟩
 ·exact ⟨⟨_,by rw[az h.k];exact h5,fun h=>(by cases h)⟩,fun h=>(by cases h)⟩
 ·exact ⟨⟨_,by rw[hlc];exact h9,fun h=>(by cases h)⟩,fun h=>(by cases h)⟩
 ·exact ⟨⟨_,by rw[az Sf];exact h10,fun h=>(by cases h)⟩,fun h=>(by cases h)⟩
 ·exact ⟨⟨_,h8,fun h=>(by cases h)⟩,fun h=>(by cases h)⟩
 ·exact ⟨⟨_,by rw[az Wq];exact ht,fun h=>(by cases h)⟩,fun h=>(by cases h)⟩
theorem Tryd.Uv:zeroOf Tryd.prog 57=some [.nilIface]:=by kernel_rfl
theorem Ae {m F:Nat} {f g:Nat→Int} {pc kc ps pl:List SV} {cv:List Value} {cl:List AV} {flag:Bool} {e:Value} {co:Int} (hm:m≤1048576) (QZ: ∀ x ∈ pc,SV.ok (fun n=>n=5) x) (hkc:kc.all SV.plain=true) (hps:ps.all SV.plain=true) (lx: ∀ x ∈ pl,SV.ok (fun n=>n=6) x) (GG:AV.ok (fun n=>n < 8) (V (.func (.func F) #[] ⟨cv⟩))) (iw:kB cv=some cl) (hF:au Tryd.prog F=true) (he:e= .nilIface∨ ∃ i,e=bR i)
  (hop:flag=false→ ∀ {s:AS} {nm:Nat} {dst:Option Nat} {K:AS→Prop},wU s m f pc kc 0 (Sum.inl (.slice none 0 0))→s.box 6=some ⟨false,ps⟩→s.box 7=some ⟨false,pl⟩→K (({ s with box:=upd (iZ s m g co) nm none }:AS).put dst (some (V e)))→aB Tryd.prog nm F (some (Ag (eE 0 1 2 3)::cl)) dst K s)
  (Ws:flag=true→ ∀ {s:AS} {F':Exit→AS→Prop},wU s m f pc kc 0 (Sum.inl (.slice none 0 0))→s.box 6=some ⟨false,ps⟩→s.box 7=some ⟨false,pl⟩→F' (.panic eR) { s with box:=iZ s m g co }→dV Tryd.prog F (some (Ag (eE 0 1 2 3)::cl)) F' s):
  bC Tryd.prog 40 [Ag (eE 0 1 2 3),V (.func (.func F) #[] ⟨cv⟩)] 8 (lk (BQ m f pc kc ps pl)) (GH 8 m g (if flag=true then bR 0 else e)):=by
 refine yg (r0:=_) (rest:=_) Tryd.func40 rfl (by kernel_rfl) (by kernel_rfl) (by simp[Tryd.ntmps40]) Tryd.F6 [3] [] (by simp[Tryd.ntmps40]) Tryd.ql (fun v hv=> ?_) (fun n hn=> ?_) (fun n b hb=> ?_) ?_
 ·simp only[cz]at hv
  rcases hv with rfl | rfl
  ·exact dg fun n hn=>by omega
  ·exact GG
 ·rcases (show n=0∨n=1∨n=2∨n=3∨n=4∨n=5∨n=6∨n=7 by omega) with rfl | rfl | rfl | rfl | rfl | rfl | rfl | rfl<;>exact ⟨_,rfl⟩
 ·have h1:=bg _ _ _ hb
  simp only[BQ,kk,List.cons_append,List.nil_append,cz,Prod.mk.injEq]at h1
  rcases h1 with ⟨rfl,rfl⟩ | ⟨rfl,rfl⟩ | ⟨rfl,rfl⟩ | ⟨rfl,rfl⟩ | ⟨rfl,rfl⟩ | ⟨rfl,rfl⟩ | ⟨rfl,rfl⟩ | ⟨rfl,rfl⟩
  ·exact ⟨by decide,fun x hx=>by rw[List.mem_singleton]at hx;subst hx;exact ⟨(by decide:4 < 8),rfl⟩⟩
  ·exact ⟨by decide,fun x hx=>SV.aI (fun n hn=>by subst hn;decide) (QZ x hx)⟩
  ·exact ⟨by decide,ai rfl⟩
  ·exact ⟨by decide,ai rfl⟩
  ·exact ⟨by decide,ai aD⟩
  ·exact ⟨by decide,ai hkc⟩
  ·exact ⟨by decide,ai hps⟩
  ·exact ⟨by decide,fun x hx=>SV.aI (fun n hn=>by subst hn;decide) (lx x hx)⟩
 ·simp only[Tryd.results40,Tryd.Uv,Tryd.bt,BQ,kk,List.cons_append,List.nil_append,bJ,seval]
  refine ⟨_,[Ptr 8 0,Ptr 9 0,Ptr 10 0],rfl,rfl,fun v hv=> ?_, ?_⟩
  ·simp only[cz]at hv
   rcases hv with rfl | rfl | rfl
   ·exact (by decide:8 < 12)
   ·exact (by decide:9 < 12)
   ·exact (by decide:10 < 12)
  have Zs: ∀ r,jU r (bR 0)=bR 0:=fun r=>rfl
  have Zt:([Sum.inl e]:List SV).all SV.plain=true:=by
   rcases he with rfl | ⟨i,rfl⟩<;>rfl
  have RV:SV.ok (fun n=>n < 10) (Sum.inl e:SV):=by
   rcases he with rfl | ⟨i,rfl⟩<;>exact ⟨trivial,rfl⟩
  have hce:cellsOf (some (V e))=some [Sum.inl e]:=by
   rcases he with rfl | ⟨i,rfl⟩<;>rfl
  cases flag
  ·refine .inl ?_
   simp only[Tryd.results40,Tryd.Uv,Tryd.bt,bJ,seval]
   refine ⟨hF, ?_⟩
   rw[iw]
   refine hop rfl ⟨?_, ?_, ?_, ?_, ?_, ?_⟩ ?_ ?_ ?_<;>try (simp only[ao,aq,ae,vR,seval];done)
   simp only[iZ,hce,Tryd.bt,bJ,seval]
   refine DI (by kernel_rfl) [0,2] [1,3] [] [4] [8,10] [10] [10,12,11] (by kernel_rfl) (by kernel_rfl) (by kernel_rfl) (fun t ht=>by
    rw[List.mem_singleton]at ht
    subst ht
    exact ⟨rfl,_,by simp only[ae,vR,seval];rfl⟩) ?_
   simp only[Tryd.bt,bJ,seval]
   refine bC.bD (qH (f:=g) (pc:=pc) (nc:=[Sum.inl (.int .i64 co)]) (kc:=kc) ⟨QZ,rfl,hkc⟩ hm) (fun n=>n) ((iK (r0:=false) (r1:=false) (r2:=true) (r3:=true) (r4:=true) (r5:=false) (by simp only[eJ,seval]) (by simp only[eJ,seval]) (by simp only[eJ,seval]) (by simp only[eJ,seval]) (by simp only[eJ,seval]) (by simp only[eJ,seval])).fits jj) (fw _) ?_
   rintro v out ⟨c,tail,rfl,rfl,g1,g2,g3⟩
   simp only[lk,Option.map_some,aG.ren,az (dz g3),show AV.ren (aR (fun n=>n) 6 20) (Sl 6 0 (64*m) c)=Sl 20 0 (64*m) c from rfl,show AV.ren (aR (fun n=>n) 6 16) (Sl 6 0 (64*m) c)=Sl 16 0 (64*m) c from rfl,hce,Tryd.bt,bJ,seval]
   refine ⟨Nat.le_refl 1, ?_⟩
   refine ⟨.returning, .returning,rfl,rfl,10,_,_,I5 20,[],_,Pq (m:=m) (f:=g) (pc:=pc) (kc:=kc) (nc:=[Sum.inl (.int .i64 co)]) (lc:=[Sum.inr (.inr (9,0,64*m,c))]) (ec:=[Sum.inl e]) (tc:=aA .u8 (64*m) g++tail) ⟨QZ,rfl,hkc⟩ (fun x hx=>by rw[List.mem_singleton]at hx;subst hx;exact ⟨(by decide:9 < 10),rfl⟩) (fun x hx=>by rw[List.mem_singleton]at hx;subst hx;exact RV) (dz g3), ?_,rfl, ?_⟩
   ·refine GI (Wr:=[Sum.inr (.inr (20,0,64*m,c))]) (r0:=false) (r1:=false) (r2:=true) (r3:=true) (r4:=true) (r5:=false) (r8:=false) (r9:=true) (XR:=true) (rt:=true) ⟨QZ,rfl,hkc⟩ rfl Zt (dz g3) ?_ ?_ ?_ ?_ ?_ ?_ ?_ ?_ ?_ ?_<;>(simp only[bJ,seval];try rfl)
   ·rintro out rfl
    rw[fc]
    simp only[List.foldr_nil,Option.map_none,Tryd.bt,bJ,seval]
    refine dD (q:=20) (v0:= .inr [.inl (.inr (.inr (8,0,64*m,c))), .inl (.inl e)]) (by decide) ?_ (fun x hx=> ?_) (fun x hx=> ?_) ⟨co,c,tail,⟨true,[Sum.inl (.slice none 0 0)]⟩,g1,g2,g3,rfl,rfl⟩
    ·rcases he with rfl | ⟨i,rfl⟩<;>rfl
    ·simp only[cz]at hx
     rcases hx with rfl | rfl
     ·exact (by decide:8 < 9)
     ·rcases he with rfl | ⟨i,rfl⟩<;>trivial
    ·simp only[cz]at hx
     rcases hx with rfl | rfl | rfl | rfl
     ·exact ⟨(by decide:2 < 9),fun h=>(by cases h),ai rfl,by show AS.box _ 2=some _;simp only[bJ,seval];rfl⟩
     ·exact ⟨(by decide:3 < 9),fun h=>(by cases h),ai rfl,by show AS.box _ 3=some _;simp only[bJ,seval];rfl⟩
     ·exact ⟨(by decide:4 < 9),fun h=>(by cases h),ai aD,by rw[az aD];show AS.box _ 4=some _;simp only[bJ,seval]⟩
     ·exact ⟨(by decide:8 < 9),fun _=>rfl,ai (dz g3),by rw[az (dz g3)];show AS.box _ 20=some _;simp only[bJ,seval]⟩
  ·refine .inr ⟨2, ?_⟩
   simp only[Nu,List.take_succ_cons,List.take_zero,List.drop_succ_cons,List.drop_zero,bJ,seval]
   refine ⟨rfl,hF, ?_⟩
   rw[iw]
   refine Ws rfl ⟨?_, ?_, ?_, ?_, ?_, ?_⟩ ?_ ?_ ?_<;>try (simp only[ao,aq,ae,vR,seval];done)
   refine ⟨.panicking eR, .panicking I3,rfl,rfl,9,_,_,nine,[6,7],_,Pr (m:=m) (f:=g) (pc:=pc) (kc:=kc) (nc:=[Sum.inl (.int .i64 co)]) (lc:=[Sum.inl (.slice none 0 0)]) (ec:=[Sum.inl .nilIface]) ⟨QZ,rfl,hkc⟩ hm rfl rfl (ai rfl) (ai rfl), ?_,rfl, ?_⟩
   ·refine Kv (r0:=false) (r1:=false) (r2:=true) (r3:=true) (r4:=true) (r5:=false) (r8:=true) ⟨QZ,rfl,hkc⟩ rfl rfl ?_ ?_ ?_ ?_ ?_ ?_ ?_ ?_ ?_<;>(simp only[iZ,ao,aq,ae,vR,seval];done)
   ·rintro out ⟨c,tail,g1,g2,g3,rfl⟩
    rw[fc]
    simp only[iZ,List.foldr_cons,List.foldr_nil,lk,Option.map_some,Option.map_none,aG.ren,List.map_cons,List.map_nil,SV.ren,dT,az aD,az (dz g3),Nat.reduceEqDiff,reduceIte,show nine 6=9 from rfl,show nine 7=10 from rfl,show aR nine 9 14 9=14 from rfl,Zs,Tryd.bt,bJ,seval]
    refine dD (q:=14) (v0:= .inr [.inl (.inr (.inr (8,0,64*m,c))), .inl (.inl (bR 0))]) (by decide) rfl (fun x hx=> ?_) (fun x hx=> ?_) ⟨co,c,tail,⟨true,[Sum.inl (.slice none 0 0)]⟩,g1,g2,g3,rfl,rfl⟩
    ·simp only[cz]at hx
     rcases hx with rfl | rfl
     ·exact (by decide:8 < 9)
     ·trivial
    ·simp only[cz]at hx
     rcases hx with rfl | rfl | rfl | rfl
     ·exact ⟨(by decide:2 < 9),fun h=>(by cases h),ai rfl,by show AS.box _ 2=some _;simp only[bJ,seval];rfl⟩
     ·exact ⟨(by decide:3 < 9),fun h=>(by cases h),ai rfl,by show AS.box _ 3=some _;simp only[bJ,seval];rfl⟩
     ·exact ⟨(by decide:4 < 9),fun h=>(by cases h),ai aD,by rw[az aD];show AS.box _ 4=some _;simp only[bJ,seval]⟩
     ·exact ⟨(by decide:8 < 9),fun _=>rfl,ai (dz g3),by rw[az (dz g3)];show AS.box _ 14=some _;simp only[bJ,seval]⟩
def jo:Option Nat→Value
 | none=> .nilIface
 | some i=>bR i
theorem rH (e:Option Nat):jo e= .nilIface∨ ∃ i,jo e=bR i:=by
 rcases e with _ | i
 ·exact .inl rfl
 ·exact .inr ⟨i,rfl⟩
theorem nI.val_eq (r:nI):r.val=V (jo r.1):=by
 rcases r with ⟨_ | i,l⟩<;>rfl
def m8 (at_:Int) (r:nI):Option Nat:=if bk at_ 0 (dF r.2)=true then some 0 else r.1
def fq (kn:Nat) (kb:Nat→Bool) (cut:Int) (f:Nat→Int) (at_:Int) (r:nI):Nat→Int:=if bk at_ 0 (dF r.2)=true then gN kn kb (dO cut) f r.2 (at_ - 0 - 1).toNat else iY f r.2
def Kw (at_:Int) (r:nI):Int:=if bk at_ 0 (dF r.2)=true then at_ else 0+(dF r.2:Nat)
theorem EF {m:Nat} {f:Nat→Int} {pc kc:List SV} {cnt:Int}: ∀ n,n < 6→ ∃ c,lk (kk m f pc kc cnt) n=some c:=fun n hn=>by
 rcases (show n=0∨n=1∨n=2∨n=3∨n=4∨n=5 by omega) with rfl | rfl | rfl | rfl | rfl | rfl<;>exact ⟨_,rfl⟩
theorem EG {m:Nat} {f:Nat→Int} {pc kc:List SV} {cnt:Int} (hp: ∀ x ∈ pc,SV.ok (fun n=>n=5) x) (hk:kc.all SV.plain=true): ∀ n c,lk (kk m f pc kc cnt) n=some c→n < 6∧ ∀ x ∈ c.cells,SV.ok (fun n=>n < 6) x:=fun n c hn=>by
 have h1:=bg _ _ _ hn
 simp only[kk,cz,Prod.mk.injEq]at h1
 rcases h1 with ⟨rfl,rfl⟩ | ⟨rfl,rfl⟩ | ⟨rfl,rfl⟩ | ⟨rfl,rfl⟩ | ⟨rfl,rfl⟩ | ⟨rfl,rfl⟩
 ·exact ⟨by decide,fun x hx=>by rw[List.mem_singleton]at hx;subst hx;exact ⟨(by decide:4 < 6),rfl⟩⟩
 ·exact ⟨by decide,fun x hx=>SV.aI (fun n hn=>by subst hn;decide) (hp x hx)⟩
 ·exact ⟨by decide,ai rfl⟩
 ·exact ⟨by decide,ai rfl⟩
 ·exact ⟨by decide,ai aD⟩
 ·exact ⟨by decide,ai hk⟩
theorem I6 {m:Nat} {f:Nat→Int} {pc kc ps pl:List SV}: ∀ n,n < 8→ ∃ c,lk (BQ m f pc kc ps pl) n=some c:=fun n hn=>by
 rcases (show n=0∨n=1∨n=2∨n=3∨n=4∨n=5∨n=6∨n=7 by omega) with rfl | rfl | rfl | rfl | rfl | rfl | rfl | rfl<;>exact ⟨_,rfl⟩
theorem I7 {m:Nat} {f:Nat→Int} {pc kc ps pl:List SV} (QZ: ∀ x ∈ pc,SV.ok (fun n=>n=5) x) (hkc:kc.all SV.plain=true) (hps:ps.all SV.plain=true) (lx: ∀ x ∈ pl,SV.ok (fun n=>n=6) x): ∀ n b,lk (BQ m f pc kc ps pl) n=some b→n < 8∧ ∀ x ∈ b.cells,SV.ok (fun n=>n < 8) x:=fun n b hb=>by
 have h1:=bg _ _ _ hb
 simp only[BQ,kk,List.cons_append,List.nil_append,cz,Prod.mk.injEq]at h1
 rcases h1 with ⟨rfl,rfl⟩ | ⟨rfl,rfl⟩ | ⟨rfl,rfl⟩ | ⟨rfl,rfl⟩ | ⟨rfl,rfl⟩ | ⟨rfl,rfl⟩ | ⟨rfl,rfl⟩ | ⟨rfl,rfl⟩
 ·exact ⟨by decide,fun x hx=>by rw[List.mem_singleton]at hx;subst hx;exact ⟨(by decide:4 < 8),rfl⟩⟩
 ·exact ⟨by decide,fun x hx=>SV.aI (fun n hn=>by subst hn;decide) (QZ x hx)⟩
 ·exact ⟨by decide,ai rfl⟩
 ·exact ⟨by decide,ai rfl⟩
 ·exact ⟨by decide,ai aD⟩
 ·exact ⟨by decide,ai hkc⟩
 ·exact ⟨by decide,ai hps⟩
 ·exact ⟨by decide,fun x hx=>SV.aI (fun n hn=>by subst hn;decide) (lx x hx)⟩
theorem I8 {s:AS} {m:Nat} {f:Nat→Int} {pc kc:List SV} {cnt:Int} {e:List (Nat×aG)} (hd:wU s m f pc kc cnt (Sum.inl (.slice none 0 0))) (he: ∀ x ∈ e,x.2.rw=false∧6≤x.1∧s.box x.1=some x.2):iW s (fun n=>n) (lk (kk m f pc kc cnt++e)) [2,3,4]:=by
 refine kd (fun x hx=> ?_) fun n hn=> ?_
 ·rw[List.mem_append]at hx
  rcases hx with hx | hx
  ·simp only[kk,cz]at hx
   rcases hx with rfl | rfl | rfl | rfl | rfl | rfl
   ·exact ⟨⟨_,by rw[kh];exact hd.b0,fun h=>h⟩,fun h=>(by cases h)⟩
   ·exact ⟨⟨_,by rw[kh];exact hd.b1,fun h=>h⟩,fun h=>(by cases h)⟩
   ·exact ⟨⟨_,by rw[kh];exact hd.b2,fun h=>rfl⟩,fun h=>⟨(by decide:(2:Nat) ∈ [2,3,4]),fun y hy e=>e⟩⟩
   ·exact ⟨⟨_,by rw[kh];exact hd.b3,fun h=>rfl⟩,fun h=>⟨(by decide:(3:Nat) ∈ [2,3,4]),fun y hy e=>e⟩⟩
   ·exact ⟨⟨_,by rw[kh];exact hd.b4,fun h=>rfl⟩,fun h=>⟨(by decide:(4:Nat) ∈ [2,3,4]),fun y hy e=>e⟩⟩
   ·exact ⟨⟨_,by rw[kh];exact hd.b5,fun h=>h⟩,fun h=>(by cases h)⟩
  ·obtain ⟨h1,h2,h3⟩:=he x hx
   exact ⟨⟨_,by rw[kh,h3],fun h=>h⟩,fun h=>(by rw[h1]at h;cases h)⟩
 ·simp only[cz]at hn
  rcases hn with rfl | rfl | rfl<;>exact ⟨_,rfl,rfl⟩
theorem Pt {s:AS} {m k nm:Nat} {f:Nat→Int} {cnt:Int} (hk:5≤k):dL s (fun n=>n) k 1 nm [2,3,4] (lk (cr m f cnt))=upd (iZ s m f cnt) nm none:=by
 have h:lk (cr m f cnt) k=none:=by
  simp only[cr,lk]
  rw[if_neg (by omega),if_neg (by omega),if_neg (by omega)]
 rw[fc,h]
 simp only[cr,iZ,List.foldr_cons,List.foldr_nil,lk,Option.map_some,Option.map_none,aG.ren,List.map_cons,List.map_nil,SV.ren,dT,az aD,Nat.reduceEqDiff,reduceIte]
theorem Pu {s:AS} {m k nm:Nat} {f:Nat→Int} {cnt:Int}:dL s (fun n=>n) k 0 nm [2,3,4] (lk (cr m f cnt))=iZ s m f cnt:=by
 rw[ma]
 simp only[cr,iZ,List.foldr_cons,List.foldr_nil,lk,Option.map_some,Option.map_none,aG.ren,List.map_cons,List.map_nil,SV.ren,dT,az aD,Nat.reduceEqDiff,reduceIte]
theorem kx {F k m:Nat} {args:List AV} {f:Nat→Int} {pc kc:List SV} {e:List (Nat×aG)} {r:nI} {at_:Int} {g:Nat→Int} {co:Int} (Wt:5≤k) (he: ∀ x ∈ e,x.2.rw=false∧6≤x.1):
  (bC Tryd.prog F args k (lk (kk m f pc kc 0++e)) (fun v out=>v=r.val∧out=lk (cr m g co))→ ∀ {s:AS} {nm:Nat} {dst:Option Nat} {K:AS→Prop},wU s m f pc kc 0 (Sum.inl (.slice none 0 0))→(∀ x ∈ e,s.box x.1=some x.2)→K (({ s with box:=upd (iZ s m g co) nm none }:AS).put dst (some (V (jo r.1))))→aB Tryd.prog nm F (some args) dst K s)∧
  (ud Tryd.prog F args k (lk (kk m f pc kc 0++e)) eR (fun out=>out=lk (cr m g co))→ ∀ {s:AS} {F':Exit→AS→Prop},wU s m f pc kc 0 (Sum.inl (.slice none 0 0))→(∀ x ∈ e,s.box x.1=some x.2)→F' (.panic eR) { s with box:=iZ s m g co }→dV Tryd.prog F (some args) F' s):=by
 refine ⟨fun hm s nm dst K hd hb hK=> ?_,fun hm s F' hd hb hK=> ?_⟩
 ·refine hm.wide.lE (Nat.le_refl 1) (fun n=>n) [2,3,4] (I8 hd fun x hx=>⟨(he x hx).1,(he x hx).2,hb x hx⟩) (fw _) ?_
  rintro v out ⟨rfl,rfl⟩
  rw[Pt Wt,nI.val_eq]
  have: ∀ q,AV.ren q (V (jo r.1))=V (jo r.1):=fun q=>by
   rcases rH r.1 with h | ⟨i,h⟩<;>rw[h]<;>rfl
  rw[this]
  exact hK
 ·refine hm.oT (fun n=>n) [2,3,4] (I8 hd fun x hx=>⟨(he x hx).1,(he x hx).2,hb x hx⟩) (fw _) ?_
  rintro out rfl
  rw[Pu]
  exact hK
theorem EH {m kn:Nat} {kb:Nat→Bool} {cut at_:Int} {f:Nat→Int} {r:nI}:(if bk at_ 0 (dF r.2)=true then bR 0 else jo r.1)=jo (m8 at_ r):=by
 unfold m8
 split<;>rfl
section
variable {m kn:Nat} {kb:Nat→Bool} {f:Nat→Int} {ks:SV} {kc:List SV} {at_ cut:Int}
theorem EI {F:Nat} {fn:Func} {c:Code} {r:nI} (hf:Tryd.prog.funcs[F]? =some fn) (hb:fn.body=some c) (hok:codeOk fn.ntmps c=true) (hlen:[Ag (eE 0 1 2 3)].length≤fn.ntmps) (hc:au Tryd.prog F=true) (wd pz:List Nat) (hk:fR ks kn kb kc) (hm:m≤1048576)
  (hv:iX Tryd.prog wd pz c (yd 6 m kn kb f at_ cut 0 r fn.results.toList) (bM.start [Ag (eE 0 1 2 3)] (lk (kk m f (cL at_ cut ks) kc 0)) 6)):
  bC Tryd.prog 40 [Ag (eE 0 1 2 3),V (.func (.func F) #[] ⟨[]⟩)] 8 (lk (BQ m f (cL at_ cut ks) kc kc kc)) (GH 8 m (fq kn kb cut f at_ r) (jo (m8 at_ r))):=by
 have Uw: ∀ v ∈ [Ag (eE 0 1 2 3)],AV.ok (fun n=>n < 6) v:=fun v hv=>by rw[List.mem_singleton]at hv;subst hv;exact dg fun n hn=>by omega
 have lx: ∀ x ∈ kc,SV.ok (fun n=>n=6) x:=ai hk.c
 have key:=Ae (m:=m) (F:=F) (f:=f) (g:=fq kn kb cut f at_ r) (pc:=cL at_ cut ks) (kc:=kc) (ps:=kc) (pl:=kc) (cv:=[]) (cl:=[]) (flag:=bk at_ 0 (dF r.2)) (e:=jo r.1) (co:=Kw at_ r) hm (dW hk) hk.c hk.c lx (fun c hc=>by cases hc) rfl hc (rH _) ?_ ?_
 ·rw[EH (m:=m) (kn:=kn) (kb:=kb) (cut:=cut) (f:=f)]at key
  exact key
 ·intro hfl s nm dst K hd h6 h7 hK
  have e1:fq kn kb cut f at_ r=iY f r.2:=if_neg (by rw[hfl];decide)
  have e2:Kw at_ r=0+(dF r.2:Nat):=if_neg (by rw[hfl];decide)
  rw[e1,e2]at hK
  exact (kx (F:=F) (k:=6) (e:=[]) (at_:=at_) (by decide) (fun x hx=>by cases hx)).1 (iL hf hb hok wd pz hlen hc Uw (by simpa using EF) (by simpa using EG (dW hk) hk.c) hfl (by rw[List.append_nil];exact hv)) hd (fun x hx=>by cases hx) hK
 ·intro hfl s F' hd h6 h7 hK
  have e1:fq kn kb cut f at_ r=gN kn kb (dO cut) f r.2 (at_ - 0 - 1).toNat:=if_pos hfl
  have e2:Kw at_ r=at_:=if_pos hfl
  rw[e1,e2]at hK
  exact (kx (F:=F) (k:=6) (r:=r) (e:=[]) (at_:=at_) (by decide) (fun x hx=>by cases hx)).2 (iM hf hb hok wd pz hlen hc Uw (by simpa using EF) (by simpa using EG (dW hk) hk.c) hfl (by rw[List.append_nil];exact hv)) hd (fun x hx=>by cases hx) hK
theorem Kx (hk:fR ks kn kb kc) (hf:cU f) (hm:m≤8192) (h2:2≤m):
  bC Tryd.prog 40 [Ag (eE 0 1 2 3),V (.func (.func 43) #[] ⟨[]⟩)] 8 (lk (BQ m f (cL at_ cut ks) kc kc kc)) (GH 8 m (fq kn kb cut f at_ (bZ f m)) (jo (m8 at_ (bZ f m)))):=
 EI Tryd.func43 rfl (by kernel_rfl) (by simp[Tryd.ntmps43]) Tryd.F5 [4] [4] hk (by omega) (Kr hk hf hm h2 (Int.le_refl 0) (by decide) _ rfl)
theorem Ky (hk:fR ks kn kb kc) (hf:cU f) (hm:m≤8192) (h2:2≤m):
  bC Tryd.prog 40 [Ag (eE 0 1 2 3),V (.func (.func 22) #[] ⟨[]⟩)] 8 (lk (BQ m f (cL at_ cut ks) kc kc kc)) (GH 8 m (fq kn kb cut f at_ (bE f m)) (jo (m8 at_ (bE f m)))):=
 EI Tryd.func22 rfl (by kernel_rfl) (by simp[Tryd.ntmps22]) Tryd.F2 [] [7] hk (by omega) (Ks hk hf hm h2 (Int.le_refl 0) (by decide) _ rfl)
end
section
variable {m n kn:Nat} {kb:Nat→Bool} {f pf:Nat→Int} {ks sv:SV} {kc ps:List SV} {at_ cut:Int}
theorem Af: ∀ v ∈ [Ag (eE 0 1 2 3),Ptr 7 0],AV.ok (fun n=>n < 8) v:=fun v hv=>by
 simp only[cz]at hv
 rcases hv with rfl | rfl
 ·exact dg fun n hn=>by omega
 ·exact (by decide:7 < 8)
theorem Nx (hl:cY 6 sv n pf ps):(∃ a,sv= .inl (.slice a 0 0))∨ ∃ o l c,sv= .inr (.inr (6,o,l,c)):=by
 rcases hl with ⟨⟨a,rfl⟩,_⟩ | ⟨o,c,rfl,_⟩
 ·exact .inl ⟨a,rfl⟩
 ·exact .inr ⟨o,_,c,rfl⟩
theorem xt (hl:cY 6 sv n pf ps): ∀ x ∈ [sv],SV.ok (fun n=>n=6) x:=fun x hx=>by
 rw[List.mem_singleton]at hx
 subst hx
 rcases hl with ⟨⟨a,rfl⟩,_⟩ | ⟨o,c,rfl,_⟩
 ·exact ⟨trivial,rfl⟩
 ·exact ⟨rfl,rfl⟩
theorem Wu (hk:fR ks kn kb kc) (hf:cU f) (hl:cY 6 sv n pf ps) (hp:ps.all SV.plain=true) (hpf:cU pf) (hm:m≤8192) (h2:2≤m) (hn:n < 9223372036854775000) (hfl:bk at_ 0 (dF (aN f m n pf).2)=false):
  bC Tryd.prog 20 [Ag (eE 0 1 2 3),Sum.inl (Sum.inl sv)] 7 (lk (kk m f (cL at_ cut ks) kc 0++[(6,⟨false,ps⟩)])) (fun v out=>v=(aN f m n pf).val∧out=lk (cr m (iY f (aN f m n pf).2) (0+(dF (aN f m n pf).2:Nat)))):=
 iL Tryd.func20 rfl (by kernel_rfl) [11] [8,12] (by simp[Tryd.ntmps20]) Tryd.mQ (fun v hv=>by
  simp only[cz]at hv
  rcases hv with rfl | rfl
  ·exact dg fun n hn=>by omega
  ·exact (SV.aI (fun n hn=>by subst hn;decide) (xt hl _ (List.mem_singleton.2 rfl)):SV.ok (fun n=>n < 7) _).1) oU (oV (dW hk) hk.c hp) hfl (Ez hk hf hl hp hpf hm h2 hn (Int.le_refl 0) (by decide) _ rfl)
theorem Wv (hk:fR ks kn kb kc) (hf:cU f) (hl:cY 6 sv n pf ps) (hp:ps.all SV.plain=true) (hpf:cU pf) (hm:m≤8192) (h2:2≤m) (hn:n < 9223372036854775000) (hfl:bk at_ 0 (dF (aN f m n pf).2)=true):
  ud Tryd.prog 20 [Ag (eE 0 1 2 3),Sum.inl (Sum.inl sv)] 7 (lk (kk m f (cL at_ cut ks) kc 0++[(6,⟨false,ps⟩)])) eR (fun out=>out=lk (cr m (gN kn kb (dO cut) f (aN f m n pf).2 (at_ - 0 - 1).toNat) at_)):=
 iM Tryd.func20 rfl (by kernel_rfl) [11] [8,12] (by simp[Tryd.ntmps20]) Tryd.mQ (fun v hv=>by
  simp only[cz]at hv
  rcases hv with rfl | rfl
  ·exact dg fun n hn=>by omega
  ·exact (SV.aI (fun n hn=>by subst hn;decide) (xt hl _ (List.mem_singleton.2 rfl)):SV.ok (fun n=>n < 7) _).1) oU (oV (dW hk) hk.c hp) hfl (Ez hk hf hl hp hpf hm h2 hn (Int.le_refl 0) (by decide) _ rfl)
theorem Ux (hk:fR ks kn kb kc) (hf:cU f) (hl:cY 6 sv n pf ps) (hp:ps.all SV.plain=true) (hpf:cU pf) (hm:m≤8192) (h2:2≤m) (hn:n < 9223372036854775000) (hfl:bk at_ 0 (dF (aN f m n pf).2)=false):
  bC Tryd.prog 19 [Ag (eE 0 1 2 3),Ptr 7 0] 8 (lk (kk m f (cL at_ cut ks) kc 0++[(6,⟨false,ps⟩),(7,⟨false,[sv]⟩)])) (fun v out=>v=(aN f m n pf).val∧out=lk (cr m (iY f (aN f m n pf).2) (0+(dF (aN f m n pf).2:Nat)))):=by
 refine bO Tryd.func19 rfl (by kernel_rfl) [] [] (by simp[Tryd.ntmps19]) Tryd.p9 Af I6 (I7 (dW hk) hk.c hp (xt hl)) ?_
 have MO: ∀ {s:AS},s.box 2=some ⟨true,[Sum.inl (.slice none 0 0)]⟩→s.box 3=some ⟨true,[Sum.inl (.int .i64 (0+(dF (aN f m n pf).2:Nat)))]⟩→s.box 4=some ⟨true,aA .u8 (64*m) (iY f (aN f m n pf).2)⟩→
   nA 8 (fun v out=>v=(aN f m n pf).val∧out=lk (cr m (iY f (aN f m n pf).2) (0+(dF (aN f m n pf).2:Nat)))) (V (jo (aN f m n pf).1)) s:=fun b2 b3 b4=>by
  have hv: ∀ q,AV.ren q (V (jo (aN f m n pf).1))=V (jo (aN f m n pf).1):=fun q=>by
   rcases rH (aN f m n pf).1 with h | ⟨i,h⟩<;>rw[h]<;>rfl
  refine dD (q:=8) (v0:=V (jo (aN f m n pf).1)) (Nat.le_refl 8) (hv _).symm (by rcases rH (aN f m n pf).1 with h | ⟨i,h⟩<;>rw[h]<;>trivial) (fun x hx=> ?_) ⟨(nI.val_eq _).symm,rfl⟩
  simp only[cr,cz]at hx
  rcases hx with rfl | rfl | rfl
  ·exact ⟨(by decide:2 < 9),fun h=>(by cases h),ai rfl,b2⟩
  ·exact ⟨(by decide:3 < 9),fun h=>(by cases h),ai rfl,b3⟩
  ·exact ⟨(by decide:4 < 9),fun h=>(by cases h),ai aD,by rw[az aD];exact b4⟩
 rcases Nx hl with ⟨a,rfl⟩ | ⟨o,l,c,rfl⟩
 all_goals
  simp only[Tryd.results19,Tryd.bt,BQ,kk,List.cons_append,List.nil_append,bJ,seval]
  refine (kx (F:=20) (k:=7) (r:=aN f m n pf) (e:=[(6,⟨false,ps⟩)]) (at_:=at_) (by decide) (fun x hx=>by rw[List.mem_singleton]at hx;subst hx;exact ⟨rfl,Nat.le_refl 6⟩)).1 (Wu (cut:=cut) hk hf hl hp hpf hm h2 hn hfl) ⟨?_, ?_, ?_, ?_, ?_, ?_⟩ (fun x hx=> ?_) ?_<;>try (simp only[ao,aq,ae,vR,seval];done)
  ·rw[List.mem_singleton]at hx
   subst hx
   simp only[ao,aq,ae,vR,seval]
  ·simp only[iZ,bJ,seval]
   refine MO ?_ ?_ ?_<;>simp only[ao,aq,ae,vR,seval]
theorem Uy (hk:fR ks kn kb kc) (hf:cU f) (hl:cY 6 sv n pf ps) (hp:ps.all SV.plain=true) (hpf:cU pf) (hm:m≤8192) (h2:2≤m) (hn:n < 9223372036854775000) (hfl:bk at_ 0 (dF (aN f m n pf).2)=true):
  ud Tryd.prog 19 [Ag (eE 0 1 2 3),Ptr 7 0] 8 (lk (kk m f (cL at_ cut ks) kc 0++[(6,⟨false,ps⟩),(7,⟨false,[sv]⟩)])) eR (fun out=>out=lk (cr m (gN kn kb (dO cut) f (aN f m n pf).2 (at_ - 0 - 1).toNat) at_)):=by
 refine ED Tryd.func19 rfl (by kernel_rfl) (by kernel_rfl) [] [] (by simp[Tryd.ntmps19]) Tryd.p9 Af I6 (I7 (dW hk) hk.c hp (xt hl)) ?_
 rcases Nx hl with ⟨a,rfl⟩ | ⟨o,l,c,rfl⟩
 all_goals
  simp only[Tryd.results19,Tryd.bt,BQ,kk,List.cons_append,List.nil_append,bJ,seval]
  refine .inr ⟨2, ?_⟩
  simp only[Nu,List.take_succ_cons,List.take_zero,List.drop_succ_cons,List.drop_zero,Tryd.bt,bJ,seval]
  refine ⟨rfl, ?_⟩
  refine (kx (F:=20) (k:=7) (r:=aN f m n pf) (e:=[(6,⟨false,ps⟩)]) (at_:=at_) (by decide) (fun x hx=>by rw[List.mem_singleton]at hx;subst hx;exact ⟨rfl,Nat.le_refl 6⟩)).2 (Wv (cut:=cut) hk hf hl hp hpf hm h2 hn hfl) ⟨?_, ?_, ?_, ?_, ?_, ?_⟩ (fun x hx=> ?_) ?_<;>try (simp only[ao,aq,ae,vR,seval];done)
  ·rw[List.mem_singleton]at hx
   subst hx
   simp only[ao,aq,ae,vR,seval]
  ·simp only[iZ,bJ,seval]
   refine ⟨rfl,_,fun n b hb=> ?_,rfl⟩
   have h1:=bg _ _ _ hb
   simp only[cr,cz,Prod.mk.injEq]at h1
   rcases h1 with ⟨rfl,rfl⟩ | ⟨rfl,rfl⟩ | ⟨rfl,rfl⟩
   ·exact ⟨by decide,ai rfl,_,by simp only[ao,aq,ae,vR,seval],fun h=>h,rfl⟩
   ·exact ⟨by decide,ai rfl,_,by simp only[ao,aq,ae,vR,seval],fun h=>h,rfl⟩
   ·exact ⟨by decide,ai aD,_,by simp only[ao,aq,ae,vR,seval],fun h=>h,rfl⟩
theorem Ny (hk:fR ks kn kb kc) (hf:cU f) (hl:cY 6 sv n pf ps) (hp:ps.all SV.plain=true) (hpf:cU pf) (hm:m≤8192) (h2:2≤m) (hn:n < 9223372036854775000):
  bC Tryd.prog 40 [Ag (eE 0 1 2 3),V (.func (.func 19) #[] ⟨[.pointer (some { block:=7,off:=0 })]⟩)] 8 (lk (BQ m f (cL at_ cut ks) kc ps [sv])) (GH 8 m (fq kn kb cut f at_ (aN f m n pf)) (jo (m8 at_ (aN f m n pf)))):=by
 have key:=Ae (m:=m) (F:=19) (f:=f) (g:=fq kn kb cut f at_ (aN f m n pf)) (pc:=cL at_ cut ks) (kc:=kc) (ps:=ps) (pl:=[sv]) (cv:=[.pointer (some { block:=7,off:=0 })]) (cl:=[Ptr 7 0]) (flag:=bk at_ 0 (dF (aN f m n pf).2)) (e:=jo (aN f m n pf).1) (co:=Kw at_ (aN f m n pf)) (by omega) (dW hk) hk.c hp (xt hl) ?_ rfl Tryd.p9 (rH _) ?_ ?_
 ·rw[EH (m:=m) (kn:=kn) (kb:=kb) (cut:=cut) (f:=f)]at key
  exact key
 ·intro c hc
  simp only[cz]at hc
  subst hc
  exact (by decide:7 < 8)
 ·intro hfl s nm dst K hd h6 h7 hK
  have e1:fq kn kb cut f at_ (aN f m n pf)=iY f (aN f m n pf).2:=if_neg (by rw[hfl];decide)
  have e2:Kw at_ (aN f m n pf)=0+(dF (aN f m n pf).2:Nat):=if_neg (by rw[hfl];decide)
  rw[e1,e2]at hK
  exact (kx (F:=19) (k:=8) (e:=[(6,⟨false,ps⟩),(7,⟨false,[sv]⟩)]) (at_:=at_) (by decide) (fun x hx=>by simp only[cz]at hx;rcases hx with rfl | rfl<;>refine ⟨rfl, ?_⟩<;>(simp only;omega))).1 (Ux (cut:=cut) hk hf hl hp hpf hm h2 hn hfl) hd (fun x hx=>by simp only[cz]at hx;rcases hx with rfl | rfl<;>assumption) hK
 ·intro hfl s F' hd h6 h7 hK
  have e1:fq kn kb cut f at_ (aN f m n pf)=gN kn kb (dO cut) f (aN f m n pf).2 (at_ - 0 - 1).toNat:=if_pos hfl
  have e2:Kw at_ (aN f m n pf)=at_:=if_pos hfl
  rw[e1,e2]at hK
  exact (kx (F:=19) (k:=8) (r:=aN f m n pf) (e:=[(6,⟨false,ps⟩),(7,⟨false,[sv]⟩)]) (at_:=at_) (by decide) (fun x hx=>by simp only[cz]at hx;rcases hx with rfl | rfl<;>refine ⟨rfl, ?_⟩<;>(simp only;omega))).2 (Uy (cut:=cut) hk hf hl hp hpf hm h2 hn hfl) hd (fun x hx=>by simp only[cz]at hx;rcases hx with rfl | rfl<;>assumption) hK
end
def gI (k:Nat) (code:Int) (n:Nat) (g:Nat→Int) (v:AV) (out:Nat→Option aG):Prop:=
 (n=0∧v=Ag [Sum.inl (.int .i64 code),Sum.inl (.slice none 0 0)]∧out=fun _=>none)∨
 ∃ c cs,n≤c∧bu cs 0 n g∧cs.all SV.plain=true∧v=Ag [Sum.inl (.int .i64 code), .inr (.inr (k,0,n,c))]∧out=lk [(k,⟨true,cs⟩)]
theorem ft.jJ {u n:Nat} {sv:SV} {f:Nat→Bool} {cs:List SV} (h:ft u sv n f cs) (t:Nat): ∃ s0,ft t s0 n f cs∧ ∀ r:Nat→Nat,r t=u→SV.ren r s0=sv:=by
 rcases h with ⟨⟨a,rfl⟩,h0⟩ | ⟨o,c,rfl,hs⟩
 ·exact ⟨_, .inl ⟨⟨a,rfl⟩,h0⟩,fun r _=>rfl⟩
 ·exact ⟨.inr (.inr (t,o,n,c)), .inr ⟨o,c,rfl,hs⟩,fun r hr=>by simp only[SV.ren,hr]⟩
def Kz (cs kc ps pl:List SV):List (Nat×aG):=[(0,⟨false,cs⟩),(1,⟨false,kc⟩),(2,⟨false,ps⟩),(3,⟨false,pl⟩)]
theorem I9 {cs kc ps pl:List SV}: ∀ n,n < 4→ ∃ c,lk (Kz cs kc ps pl) n=some c:=fun n hn=>by
 rcases (show n=0∨n=1∨n=2∨n=3 by omega) with rfl | rfl | rfl | rfl<;>exact ⟨_,rfl⟩
theorem I' {cs kc ps pl:List SV} (h0:cs.all SV.plain=true) (h1:kc.all SV.plain=true) (h2:ps.all SV.plain=true) (h3: ∀ x ∈ pl,SV.ok (fun n=>n=2) x): ∀ n b,lk (Kz cs kc ps pl) n=some b→n < 4∧ ∀ x ∈ b.cells,SV.ok (fun n=>n < 4) x:=fun n b hb=>by
 have h:=bg _ _ _ hb
 simp only[Kz,cz,Prod.mk.injEq]at h
 rcases h with ⟨rfl,rfl⟩ | ⟨rfl,rfl⟩ | ⟨rfl,rfl⟩ | ⟨rfl,rfl⟩
 ·exact ⟨by decide,ai h0⟩
 ·exact ⟨by decide,ai h1⟩
 ·exact ⟨by decide,ai h2⟩
 ·exact ⟨by decide,fun x hx=>SV.aI (fun n hn=>by subst hn;decide) (h3 x hx)⟩
theorem EJ {t:Nat} {at_ cut:Int} {ks:SV} {kn:Nat} {kb:Nat→Bool} {kc:List SV} (h:ft t ks kn kb kc) {M:Nat→Prop} (hM:M t): ∀ x ∈ cL at_ cut ks,SV.ok M x:=fun x hx=>by
 simp only[cL,cz]at hx
 rcases hx with rfl | rfl | rfl
 ·exact ⟨trivial,rfl⟩
 ·exact h.ok hM
 ·exact ⟨trivial,rfl⟩
theorem mh {s:AS} {r:Nat→Nat} {k nm:Nat}:after s r k nm none (fun _=>none)=s.box:=rfl
theorem rI {a b x:SV}:splice [a,b] 0 [x]=[x,b]:=rfl
theorem rJ {a b x:SV}:splice [a,b] 1 [x]=[a,x]:=rfl
theorem rK {a b x y:SV}:splice [a,b] 0 [x,y]=[x,y]:=rfl
theorem KA {cs:List SV} {o n:Nat} {f:Nat→Int} (hs:bu cs o n f): ∀ j u,(aA .u8 n f)[j]? =some u→cs[o+j]? =some u:=fun j u hj=>by
 have hjn:j < n:=by
  have:=(List.getElem?_eq_some_iff.1 hj).1
  rwa [aH]at this
 rw[bI .u8 n f j hjn]at hj
 rw[hs j hjn]
 exact hj
theorem ig {s:AS} {k q n c:Nat} {code:Int} {g:Nat→Int} {cs:List SV} (hq:k≤q) (hb:s.box q=some ⟨true,cs⟩) (hs:bu cs 0 n g) (hp:cs.all SV.plain=true) (hc:n≤c):
  nA k (gI k code n g) (Ag [Sum.inl (.int .i64 code), .inr (.inr (q,0,n,c))]) s:=by
 refine dD (q:=q) (v0:=Ag [Sum.inl (.int .i64 code), .inr (.inr (k,0,n,c))]) hq ?_ (fun x hx=> ?_) (fun x hx=> ?_) (Or.inr ⟨c,cs,hc,hs,hp,rfl,rfl⟩)
 ·simp only[AV.ren,CV.ren,List.map_cons,List.map_nil,SV.ren,dT,jO]
 ·simp only[cz]at hx
  rcases hx with rfl | rfl
  ·exact ⟨trivial,rfl⟩
  ·exact ⟨Nat.lt_succ_self k,rfl⟩
 ·rw[List.mem_singleton]at hx
  subst hx
  exact ⟨Nat.lt_succ_self k,fun _=>rfl,ai hp,by rw[az hp,jO];exact hb⟩
theorem xu {s:AS} {r:Nat→Nat} {nm:Nat} {b0 b1 b2 b3:aG}:ia s r 2 4 nm none (lk [(2,b0),(2+1,b1),(2+2,b2),(2+3,b3)])=upd (upd (upd (upd s.box nm (some (aG.ren (aR r 2 nm) b0))) (nm+1) (some (aG.ren (aR r 2 nm) b1))) (nm+2) (some (aG.ren (aR r 2 nm) b2))) (nm+3) (some (aG.ren (aR r 2 nm) b3)):=by
 funext t
 unfold ia
 by_cases h:nm≤t∧t < nm+4
 ·rw[if_pos h]
  rcases (show t=nm∨t=nm+1∨t=nm+2∨t=nm+3 by omega) with rfl | rfl | rfl | rfl
  ·simp[lk,upd]
  ·simp[lk,upd,show 2+(nm+1 - nm)=3 by omega]
  ·simp[lk,upd,show 2+(nm+2 - nm)=4 by omega]
  ·simp[lk,upd,show 2+(nm+3 - nm)=5 by omega]
 ·rw[if_neg h]
  have h0:t≠nm:=by omega
  have h1:t≠nm+1:=by omega
  have h2:t≠nm+2:=by omega
  have h3:t≠nm+3:=by omega
  simp[upd,h0,h1,h2,h3]
def KB (d a n:Nat):Nat:=if n < 4 then d+n else if n=4 then a else n - 4
theorem Nz {s:AS} {d a m:Nat} {f:Nat→Int} {at_ cut:Int} {ks ks':SV} {kc ps pl KX:List SV} (hd:4≤d) (hda: ¬ (d≤a∧a < d+4)) (ha:4≤a) (hq:kc.all SV.plain=true) (hps:ps.all SV.plain=true) (hks:SV.ren (KB d a) ks'=ks) (lx:KX.map (SV.ren (KB d a))=pl) {r1 r2 r3:Bool}
  (h0:s.box d=some ⟨true,[Sum.inr (.inr (a,0,m,m))]⟩) (h1:s.box (d+1)=some ⟨true,cL at_ cut ks⟩) (h2:s.box (d+2)=some ⟨true,[Sum.inl (.slice none 0 0)]⟩) (h3:s.box (d+3)=some ⟨true,[Sum.inl (.int .i64 0)]⟩) (h4:s.box a=some ⟨true,aA .u8 (64*m) f⟩) (h5:s.box 1=some ⟨r1,kc⟩) (h6:s.box 2=some ⟨r2,ps⟩) (h7:s.box 3=some ⟨r3,pl⟩):iW s (KB d a) (lk (BQ m f (cL at_ cut ks') kc ps KX)) [2,3,4]:=by
 have e: ∀ n,n < 4→KB d a n=d+n:=fun n hn=>if_pos hn
 have e4:KB d a 4=a:=by simp[KB]
 have e5: ∀ n,4 < n→KB d a n=n - 4:=fun n hn=>by unfold KB;rw[if_neg (by omega),if_neg (by omega)]
 refine kd (fun x hx=> ?_) fun n hn=> ?_
 ·have inj: ∀ b,b=2∨b=3∨b=4→ ∀ y ∈ BQ m f (cL at_ cut ks') kc ps KX,KB d a b=KB d a y.1→b=y.1:=fun b hb y hy h=>by
   have:y.1 < 8:=by
    simp only[BQ,kk,List.cons_append,List.nil_append,cz]at hy
    rcases hy with rfl | rfl | rfl | rfl | rfl | rfl | rfl | rfl<;>(simp only;omega)
   unfold KB at h
   (repeat' split at h)<;>omega
  simp only[BQ,kk,List.cons_append,List.nil_append,cz]at hx
  rcases hx with rfl | rfl | rfl | rfl | rfl | rfl | rfl | rfl
  ·exact ⟨⟨_,by rw[e 0 (by omega)];simp only[List.map_cons,List.map_nil,SV.ren,e4];exact h0,fun h=>(by cases h)⟩,fun h=>(by cases h)⟩
  ·exact ⟨⟨_,by rw[e 1 (by omega)];simp only[cL,List.map_cons,List.map_nil,hks];exact h1,fun h=>(by cases h)⟩,fun h=>(by cases h)⟩
  ·exact ⟨⟨_,by rw[e 2 (by omega)];exact h2,fun h=>rfl⟩,fun h=>⟨(by decide:(2:Nat) ∈ [2,3,4]),inj 2 (by decide)⟩⟩
  ·exact ⟨⟨_,by rw[e 3 (by omega)];exact h3,fun h=>rfl⟩,fun h=>⟨(by decide:(3:Nat) ∈ [2,3,4]),inj 3 (by decide)⟩⟩
  ·exact ⟨⟨_,by rw[e4,az aD];exact h4,fun h=>rfl⟩,fun h=>⟨(by decide:(4:Nat) ∈ [2,3,4]),inj 4 (by decide)⟩⟩
  ·exact ⟨⟨_,by rw[e5 5 (by omega),az hq];exact h5,fun h=>(by cases h)⟩,fun h=>(by cases h)⟩
  ·exact ⟨⟨_,by rw[e5 6 (by omega),az hps];exact h6,fun h=>(by cases h)⟩,fun h=>(by cases h)⟩
  ·exact ⟨⟨_,by rw[e5 7 (by omega),lx];exact h7,fun h=>(by cases h)⟩,fun h=>(by cases h)⟩
 ·simp only[cz]at hn
  rcases hn with rfl | rfl | rfl<;>exact ⟨_,rfl,rfl⟩
section
variable {n o c kn:Nat} {kb:Nat→Bool} {f g:Nat→Int} {ks:SV} {cs kc ps pl:List SV} {at_ cut:Int} {cv:List Value} {F:Nat} {e:Option Nat}
theorem xv (hk:ft 1 ks kn kb kc) (GG:AV.ok (fun n=>n < 4) (V (.func (.func F) #[] ⟨cv⟩))): ∀ v ∈ [Sl 0 o n c,Ag (cL at_ cut ks),V (.func (.func F) #[] ⟨cv⟩)],AV.ok (fun n=>n < 4) v:=fun v hv=>by
 simp only[cz]at hv
 rcases hv with rfl | rfl | rfl
 ·exact (by decide:0 < 4)
 ·exact EJ hk (by decide)
 ·exact GG
theorem Ah (hs:bu cs o n f) (hc:n≤c) (hp:cs.all SV.plain=true) (hn:n≤1048576) (hk:ft 1 ks kn kb kc) (hq:kc.all SV.plain=true) (hps:ps.all SV.plain=true) (lx: ∀ x ∈ pl,SV.ok (fun n=>n=2) x) (GG:AV.ok (fun n=>n < 4) (V (.func (.func F) #[] ⟨cv⟩))) (hb:kl n=false):
  bC Tryd.prog 18 [Sl 0 o n c,Ag (cL at_ cut ks),V (.func (.func F) #[] ⟨cv⟩)] 4 (lk (Kz cs kc ps pl)) (gI 4 1 n f):=by
 refine bO Tryd.func18 rfl (by kernel_rfl) [4] [] (by simp[Tryd.ntmps18]) Tryd.mP (xv hk GG) I9 (I' hp hq hps lx) ?_
 have hz:zeroOf Tryd.prog 29=some [.int .i64 0, .slice none 0 0]:=by kernel_rfl
 simp only[Tryd.results18,Kz,hz,bJ,seval]
 refine (kX hs hc hp hn).aB (fun _=>0) none (dU (by simp only[eJ,seval];rfl) hp) rfl ?_
 rintro v out (⟨_,rfl,rfl⟩ | ⟨h,_⟩) _
 case inr=>rw[hb]at h;cases h
 have e1: ∀ r,AV.ren r (.inr [.inl (.inl (.slice none 0 0)), .inl (.inl (bR 1))])= .inr [.inl (.inl (.slice none 0 0)), .inl (.inl (bR 1))]:=fun r=>rfl
 rw[xn,e1]
 simp only[hz,bR,Tryd.bt,bJ,seval]
 refine (kV (e:=some 1) (fun i h=>by cases h;decide)).aB ?_
 simp only[hz,Tryd.bt,bJ,seval]
 refine pA Tryd.lH Tryd.kP rfl (by decide) rfl (m:=n) (news:=aA .u8 n f) (.inl ⟨0,o,c,⟨false,cs⟩,rfl,by simp only[eJ,seval];rfl,by rw[aH];omega,KA hs,by simp⟩) (by omega) (by omega) (fun h0=> ?_) fun h0 c' tail g1 g2 g3=> ?_
 ·simp only[hz,eB,mh,rI,rJ,rK,kT,Tryd.bt,bJ,seval]
  refine aL rfl (Or.inl ⟨h0, ?_,rfl⟩)
  rfl
 ·simp only[hz,eB,mh,rI,rJ,rK,kT,Tryd.bt,bJ,seval]
  exact ig (by decide) (by show AS.box _ 18=some _;simp only[eJ,seval]) ik (dz g3) g1
theorem EK {XS:List Value} {ks':SV} {KX:List SV} (hs:bu cs o n f) (hc:n≤c) (hp:cs.all SV.plain=true) (hn:n≤1048576) (hk:ft 1 ks kn kb kc) (hq:kc.all SV.plain=true) (hps:ps.all SV.plain=true) (lx: ∀ x ∈ pl,SV.ok (fun n=>n=2) x) (GG:AV.ok (fun n=>n < 4) (V (.func (.func F) #[] ⟨cv⟩))) (hb:kl n=true)
  (he: ∀ i,e=some i→i < 5) (hks: ∀ r:Nat→Nat,r 5=1→SV.ren r ks'=ks) (Ww: ∀ r:Nat→Nat,r 6=2→KX.map (SV.ren r)=pl) (Wx: ∀ r:Nat→Nat,r 7=3→AV.ren r (V (.func (.func F) #[] ⟨XS⟩))=V (.func (.func F) #[] ⟨cv⟩))
  (hO:bC Tryd.prog 40 [Ag (eE 0 1 2 3),V (.func (.func F) #[] ⟨XS⟩)] 8 (lk (BQ (n / 64) f (cL at_ cut ks') kc ps KX)) (GH 8 (n / 64) g (jo e))):
  bC Tryd.prog 18 [Sl 0 o n c,Ag (cL at_ cut ks),V (.func (.func F) #[] ⟨cv⟩)] 4 (lk (Kz cs kc ps pl)) (gI 4 (eB e) n g):=by
 refine bO Tryd.func18 rfl (by kernel_rfl) [4] [] (by simp[Tryd.ntmps18]) Tryd.mP (xv hk GG) I9 (I' hp hq hps lx) ?_
 have hz:zeroOf Tryd.prog 29=some [.int .i64 0, .slice none 0 0]:=by kernel_rfl
 have QV:64*(n / 64)=n:=by
  unfold kl at hb
  simp only[decide_eq_true_eq]at hb
  omega
 simp only[Tryd.results18,Kz,hz,bJ,seval]
 refine (kX hs hc hp hn).aB (fun _=>0) none (dU (by simp only[eJ,seval];rfl) hp) rfl ?_
 rintro v out (⟨h,_⟩ | ⟨_,rfl,rfl⟩) _
 ·rw[hb]at h;cases h
 have e1:AV.ren (dy (fun x=>0) 1 7) (xn (.inr (.inr (1,0,n / 64,n / 64))) .nilIface)=xn (.inr (.inr (7,0,n / 64,n / 64))) .nilIface:=rfl
 rw[e1,dv aD,xn]
 simp only[hz,Tryd.bt,bJ,seval]
 refine ⟨by decide, ?_⟩
 simp only[hz,Tryd.bt,bJ,seval]
 have Uz:SV.ren (two 7 1) ks=ks:=SV.jc (SV.aY (fun n hn=>by subst hn;rfl) (hk.ok (M:=fun n=>n=1) rfl).1)
 have Wy:SV.ren (aR (two 7 1) 2 27) ks=ks:=SV.jc (SV.aY (fun n hn=>by subst hn;rfl) (hk.ok (M:=fun n=>n=1) rfl).1)
 refine ⟨Nat.le_refl 3, ?_⟩
 rw[show List.take 3 (cL at_ cut ks)=cL at_ cut ks from rfl]
 refine (xp (m:=n / 64) (at_:=at_) (cut:=cut) (cs:=aA .u8 n f) aD hk hq).aB (two 7 1) none (lY (rw:=true) (rw':=false) ?_ aD ?_ hq) ?_ ?_
 ·simp only[eJ,seval]
 ·simp only[eJ,seval]
 ·have NA:AV.ren (two 7 1) (Ag (cL at_ cut ks))=Ag (cL at_ cut ks):=by
   show Ag [_,SV.ren (two 7 1) ks,_]=_
   rw[Uz]
   rfl
  simp only[List.map_cons,List.map_nil,NA]
  rfl
 rintro v out ⟨rfl,rfl⟩
 rw[xu,show AV.ren (aR (two 7 1) 2 27) (Ag (eE 2 (2+1) (2+2) (2+3)))=Ag (eE 27 28 29 30) from rfl]
 have J0:aG.ren (aR (two 7 1) 2 27) ⟨true,cL at_ cut ks⟩=⟨true,cL at_ cut ks⟩:=by
  show aG.mk true [_,SV.ren (aR (two 7 1) 2 27) ks,_]=_
  rw[Wy]
  rfl
 rw[J0,show aG.ren (aR (two 7 1) 2 27) ⟨true,[Sum.inr (.inr (0,0,n / 64,n / 64))]⟩=⟨true,[Sum.inr (.inr (7,0,n / 64,n / 64))]⟩ from rfl,show aG.ren (aR (two 7 1) 2 27) ⟨true,[Sum.inl (.slice none 0 0)]⟩=⟨true,[Sum.inl (.slice none 0 0)]⟩ from rfl,show aG.ren (aR (two 7 1) 2 27) ⟨true,[Sum.inl (.int .i64 0)]⟩=⟨true,[Sum.inl (.int .i64 0)]⟩ from rfl]
 simp only[hz,Tryd.bt,Nat.reduceAdd,bJ,seval]
 refine hO.wide.rj (KB 27 7) [2,3,4] (Nz (pl:=pl) (ks:=ks) (by decide) (by decide) (by decide) hq hps (hks _ rfl) (Ww _ rfl) (r1:=false) (r2:=false) (r3:=false) ?_ ?_ ?_ ?_ ?_ ?_ ?_ ?_) ?_ ?_
 ·simp only[ao,ae,Nat.reduceAdd,vR,seval]
 ·simp only[ao,ae,Nat.reduceAdd,vR,seval]
 ·simp only[ao,ae,Nat.reduceAdd,vR,seval]
 ·simp only[ao,ae,Nat.reduceAdd,vR,seval]
 ·rw[QV]
  simp only[ao,ae,Nat.reduceAdd,vR,seval]
 ·simp only[ao,ae,Nat.reduceAdd,vR,seval]
 ·simp only[ao,ae,Nat.reduceAdd,vR,seval]
 ·simp only[ao,ae,Nat.reduceAdd,vR,seval]
 ·simp only[List.map_cons,List.map_nil,Wx (KB 27 7) rfl]
  rfl
 rintro v out ⟨cnt,c2,tail,b2,g1,g2,g3,rfl,rfl⟩
 rw[fc]
 have Ju:lq e=V (jo e):=by
  rcases e with _ | i<;>rfl
 have OW: ∀ r:Nat→Nat,r 8=35→AV.ren r (.inr [.inl (.inr (.inr (8,0,64*(n / 64),c2))), .inl (.inl (jo e))])= .inr [.inl (.inr (.inr (35,0,n,c2))), .inl (.inl (jo e))]:=fun r hr=>by
  rw[QV]
  have:SV.ren r (.inl (jo e))= .inl (jo e):=by
   rcases e with _ | i<;>rfl
  show Sum.inr [Sum.inl (Sum.inr (Sum.inr (r 8,0,n,c2))),Sum.inl (SV.ren r (.inl (jo e)))]=_
  rw[hr,this]
 rw[OW _ rfl]
 simp only[List.foldr_cons,List.foldr_nil,lk,Option.map_some,Option.map_none,aG.ren,az (dz g3),az aD,Nat.reduceEqDiff,reduceIte,hz,Tryd.bt,bJ,seval]
 refine (show sM Tryd.prog 24 [V (jo e)] (I .i64 (eB e)) by rw[← Ju];exact kV he).aB ?_
 simp only[rI,rJ,rK,kT,hz,Tryd.bt,bJ,seval]
 refine ig (by decide) (by show AS.box _ 35=some _;simp only[eJ,seval];rfl) ?_ (dz g3) (by omega)
 have:=ik (n:=64*(n / 64)) (f:=g) (tail:=tail)
 rw[QV]at this ⊢
 exact this
end
theorem m9 {s:AS} {fn k n nm:Nat} {code:Int} {g:Nat→Int} {args l:List AV} {ins:Nat→Option aG} (h:bC Tryd.prog fn args k ins (gI k code n g)) (r:Nat→Nat) (hfit:Fits s r ins none) (hl:l=args.map (AV.ren r)) {dst:Option Nat} {K:AS→Prop}
  (h0:n=0→K (s.put dst (some (Ag [Sum.inl (.int .i64 code),Sum.inl (.slice none 0 0)]))))
  (h1: ∀ c cs,n≤c→bu cs 0 n g→cs.all SV.plain=true→K ((⟨s.env,upd s.box nm (some ⟨true,cs⟩),s.next⟩:AS).put dst (some (Ag [Sum.inl (.int .i64 code), .inr (.inr (nm,0,n,c))])))):aB Tryd.prog nm fn (some l) dst K s:=by
 refine h.aB r none hfit hl ?_
 rintro v out (⟨hn,rfl,rfl⟩ | ⟨c,cs,hc,hs,hp,rfl,rfl⟩) _
 ·rw[mh]
  exact h0 hn
 ·rw[dv hp]
  have e:AV.ren (dy r k nm) (Ag [Sum.inl (.int .i64 code), .inr (.inr (k,0,n,c))])=Ag [Sum.inl (.int .i64 code), .inr (.inr (nm,0,n,c))]:=by
   show Ag [_,Sum.inr (Sum.inr (dy r k nm k,0,n,c))]=_
   rw[gl]
   rfl
  rw[e]
  exact h1 c cs hc hs hp
theorem qK {s:AS} {k:Nat} {code:Int} {g:Nat→Int} {n:Nat} (hn:n=0):nA k (gI k code n g) (Ag [Sum.inl (.int .i64 code),Sum.inl (.slice none 0 0)]) s:=
 aL rfl (Or.inl ⟨hn,rfl,rfl⟩)
def KC (n:Nat) (at_:Int) (r:nI):Int:=if kl n=true then eB (m8 at_ r) else 1
def BF (kn:Nat) (kb:Nat→Bool) (cut:Int) (f:Nat→Int) (n:Nat) (at_:Int) (r:nI):Nat→Int:=if kl n=true then fq kn kb cut f at_ r else f
theorem Ja {at_:Int} {r:nI} (h: ∀ i,r.1=some i→i < 5): ∀ i,m8 at_ r=some i→i < 5:=fun i hi=>by
 unfold m8 at hi
 split at hi
 ·cases hi;decide
 ·exact h i hi
theorem EL {f:Nat→Int} {m:Nat}: ∀ i,(bZ f m).1=some i→i < 5:=fun i hi=>by
 unfold bZ at hi
 split at hi
 ·cases hi;decide
 ·cases hi
theorem EM {f:Nat→Int} {m:Nat}: ∀ i,(bE f m).1=some i→i < 5:=fun i hi=>by
 unfold bE at hi
 (repeat' split at hi)<;>cases hi<;>decide
theorem GJ {f pf:Nat→Int} {m n:Nat}: ∀ i,(aN f m n pf).1=some i→i < 5:=fun i hi=>by
 unfold aN at hi
 (repeat' split at hi)<;>cases hi<;>decide
theorem oG {n:Nat} (h:kl n=true):n / 64≤8192∧2≤n / 64:=by
 unfold kl at h
 simp only[decide_eq_true_eq]at h
 omega
section
variable {n o c kn:Nat} {kb:Nat→Bool} {f:Nat→Int} {ks:SV} {cs kc:List SV} {at_ cut:Int}
theorem tU {F:Nat} {r:nI} (hs:bu cs o n f) (hc:n≤c) (hp:cs.all SV.plain=true) (hn:n≤1048576) (hk:ft 1 ks kn kb kc) (hq:kc.all SV.plain=true) (he: ∀ i,r.1=some i→i < 5)
  (hO:kl n=true→ ∀ ks',fR ks' kn kb kc→bC Tryd.prog 40 [Ag (eE 0 1 2 3),V (.func (.func F) #[] ⟨[]⟩)] 8 (lk (BQ (n / 64) f (cL at_ cut ks') kc kc kc)) (GH 8 (n / 64) (fq kn kb cut f at_ r) (jo (m8 at_ r)))):
  bC Tryd.prog 18 [Sl 0 o n c,Ag (cL at_ cut ks),V (.func (.func F) #[] ⟨[]⟩)] 4 (lk (Kz cs kc kc kc)) (gI 4 (KC n at_ r) n (BF kn kb cut f n at_ r)):=by
 have GG:AV.ok (fun n=>n < 4) (V (.func (.func F) #[] ⟨[]⟩)):=fun c hc=>by cases hc
 by_cases hb:kl n=true
 ·obtain ⟨ks',hk',hr⟩:=ft.jJ hk 5
  rw[KC,BF,if_pos hb,if_pos hb]
  exact EK hs hc hp hn hk hq hq (ai hq) GG hb (Ja he) hr (fun r _=>az hq _) (fun r _=>rfl) (hO hb ks' ⟨hk',hq⟩)
 ·rw[KC,BF,if_neg hb,if_neg hb]
  exact Ah hs hc hp hn hk hq hq (ai hq) GG (by simpa using hb)
theorem Ai (hk:ft 1 ks kn kb kc): ∀ v ∈ [Sl 0 o n c,Ag (cL at_ cut ks)],AV.ok (fun n=>n < 2) v:=fun v hv=>by
 simp only[cz]at hv
 rcases hv with rfl | rfl
 ·exact (by decide:0 < 2)
 ·exact EJ hk (by decide)
theorem EN {s:AS} {r0 r1:Bool} (h0:s.box 0=some ⟨r0,cs⟩) (hp:cs.all SV.plain=true) (h1:s.box 1=some ⟨r1,kc⟩) (hq:kc.all SV.plain=true):Fits s (two 0 1) (lk (Kz cs kc kc kc)) none:=by
 refine qE fun x hx=> ?_
 simp only[Kz,cz]at hx
 rcases hx with rfl | rfl | rfl | rfl
 ·exact ⟨rfl,_,by rw[az hp];exact h0⟩
 ·exact ⟨rfl,_,by rw[az hq];exact h1⟩
 ·exact ⟨rfl,_,by rw[az hq];exact h1⟩
 ·exact ⟨rfl,_,by rw[az hq];exact h1⟩
theorem EO (hk:ft 1 ks kn kb kc) {F:Nat}:[Sl 0 o n c,Ag (cL at_ cut ks),V (.func (.func F) #[] ⟨[]⟩)]=[Sl 0 o n c,Ag (cL at_ cut ks),V (.func (.func F) #[] ⟨[]⟩)].map (AV.ren (two 0 1)):=by
 have Uz:SV.ren (two 0 1) ks=ks:=SV.jc (SV.aY (fun n hn=>by subst hn;rfl) (hk.ok (M:=fun n=>n=1) rfl).1)
 have NA:AV.ren (two 0 1) (Ag (cL at_ cut ks))=Ag (cL at_ cut ks):=by
  show Ag [_,SV.ren (two 0 1) ks,_]=_
  rw[Uz]
  rfl
 simp only[List.map_cons,List.map_nil,NA]
 rfl
theorem xw (hs:bu cs o n f) (hc:n≤c) (hp:cs.all SV.plain=true) (hn:n≤1048576) (hf:cU f) (hk:ft 1 ks kn kb kc) (hq:kc.all SV.plain=true):
  bC Tryd.prog 21 [Sl 0 o n c,Ag (cL at_ cut ks)] 2 (lk [(0,⟨false,cs⟩),(1,⟨false,kc⟩)]) (gI 2 (KC n at_ (bZ f (n / 64))) n (BF kn kb cut f n at_ (bZ f (n / 64)))):=by
 have hw:=tU (F:=43) (at_:=at_) (cut:=cut) (r:=bZ f (n / 64)) hs hc hp hn hk hq EL fun hb ks' hk'=>Kx hk' hf (oG hb).1 (oG hb).2
 refine bO Tryd.func21 rfl (by kernel_rfl) [] [] (by simp[Tryd.ntmps21]) Tryd.qa (Ai hk) xX (xY hp hq) ?_
 have hz:zeroOf Tryd.prog 29=some [.int .i64 0, .slice none 0 0]:=by kernel_rfl
 simp only[Tryd.results21,hz,bJ,seval]
 refine ⟨Nat.le_refl 3, ?_⟩
 rw[show List.take 3 (cL at_ cut ks)=cL at_ cut ks from rfl]
 refine m9 hw (two 0 1) (EN (r0:=false) (r1:=false) (by simp only[eJ,seval]) hp (by simp only[eJ,seval]) hq) (EO hk) (fun h0=> ?_) fun c' cs' g1 g2 g3=> ?_
 ·simp only[hz,rI,rJ,rK,Tryd.bt,bJ,seval]
  exact qK h0
 ·simp only[hz,rI,rJ,rK,Tryd.bt,bJ,seval]
  exact ig (by decide) (by show AS.box _ _=some _;simp only[eJ,seval]) g2 g3 g1
theorem xx (hs:bu cs o n f) (hc:n≤c) (hp:cs.all SV.plain=true) (hn:n≤1048576) (hf:cU f) (hk:ft 1 ks kn kb kc) (hq:kc.all SV.plain=true):
  bC Tryd.prog 11 [Sl 0 o n c,Ag (cL at_ cut ks)] 2 (lk [(0,⟨false,cs⟩),(1,⟨false,kc⟩)]) (gI 2 (KC n at_ (bE f (n / 64))) n (BF kn kb cut f n at_ (bE f (n / 64)))):=by
 have hw:=tU (F:=22) (at_:=at_) (cut:=cut) (r:=bE f (n / 64)) hs hc hp hn hk hq EM fun hb ks' hk'=>Ky hk' hf (oG hb).1 (oG hb).2
 refine bO Tryd.func11 rfl (by kernel_rfl) [] [] (by simp[Tryd.ntmps11]) Tryd.pY (Ai hk) xX (xY hp hq) ?_
 have hz:zeroOf Tryd.prog 29=some [.int .i64 0, .slice none 0 0]:=by kernel_rfl
 simp only[Tryd.results11,hz,bJ,seval]
 refine ⟨Nat.le_refl 3, ?_⟩
 rw[show List.take 3 (cL at_ cut ks)=cL at_ cut ks from rfl]
 refine m9 hw (two 0 1) (EN (r0:=false) (r1:=false) (by simp only[eJ,seval]) hp (by simp only[eJ,seval]) hq) (EO hk) (fun h0=> ?_) fun c' cs' g1 g2 g3=> ?_
 ·simp only[hz,rI,rJ,rK,Tryd.bt,bJ,seval]
  exact qK h0
 ·simp only[hz,rI,rJ,rK,Tryd.bt,bJ,seval]
  exact ig (by decide) (by show AS.box _ _=some _;simp only[eJ,seval]) g2 g3 g1
variable {np:Nat} {pf:Nat→Int} {sv:SV} {ps:List SV}
theorem BG (hs:bu cs o n f) (hc:n≤c) (hp:cs.all SV.plain=true) (hn:n≤1048576) (hf:cU f) (hk:ft 1 ks kn kb kc) (hq:kc.all SV.plain=true) (hl:cY 2 sv np pf ps) (hps:ps.all SV.plain=true) (hpf:cU pf) (hnp:np < 9223372036854775000):
  bC Tryd.prog 18 [Sl 0 o n c,Ag (cL at_ cut ks),V (.func (.func 19) #[] ⟨[.pointer (some { block:=3,off:=0 })]⟩)] 4 (lk (Kz cs kc ps [sv])) (gI 4 (KC n at_ (aN f (n / 64) np pf)) n (BF kn kb cut f n at_ (aN f (n / 64) np pf))):=by
 have GG:AV.ok (fun n=>n < 4) (V (.func (.func 19) #[] ⟨[.pointer (some { block:=3,off:=0 })]⟩)):=fun c hc=>by
  simp only[cz]at hc
  subst hc
  exact (by decide:3 < 4)
 have lx: ∀ x ∈ [sv],SV.ok (fun n=>n=2) x:=fun x hx=>by
  rw[List.mem_singleton]at hx
  subst hx
  rcases hl with ⟨⟨a,rfl⟩,_⟩ | ⟨o,c,rfl,_⟩
  ·exact ⟨trivial,rfl⟩
  ·exact ⟨rfl,rfl⟩
 by_cases hb:kl n=true
 ·obtain ⟨ks',hk',hr⟩:=ft.jJ hk 5
  obtain ⟨Q0,hl',hr'⟩:=hl.jJ 6
  rw[KC,BF,if_pos hb,if_pos hb]
  exact EK (KX:=[Q0]) hs hc hp hn hk hq hps lx GG hb (Ja GJ) hr (fun r h=>by rw[List.map_cons,List.map_nil,hr' r h]) (fun r h=>by
   show V (.func _ _ ⟨[.pointer (some { block:=r 7,off:=0 })]⟩)=_
   rw[h]) (Ny ⟨hk',hq⟩ hf hl' hps hpf (oG hb).1 (oG hb).2 hnp)
 ·rw[KC,BF,if_neg hb,if_neg hb]
  exact Ah hs hc hp hn hk hq hps lx GG (by simpa using hb)
def GK (q n:Nat):Nat:=if n=0 then 0 else if n=1 then 2 else if n=2 then 1 else q
theorem KD {s:AS} {q:Nat} {Q0:SV} {r0 r1 r2 r3:Bool} (h0:s.box 0=some ⟨r0,cs⟩) (hp:cs.all SV.plain=true) (h1:s.box 1=some ⟨r1,ps⟩) (hps:ps.all SV.plain=true) (h2:s.box 2=some ⟨r2,kc⟩) (hq:kc.all SV.plain=true) (h3:s.box q=some ⟨r3,[sv]⟩) (K6:SV.ren (GK q) Q0=sv):Fits s (GK q) (lk (Kz cs kc ps [Q0])) none:=by
 refine qE fun x hx=> ?_
 simp only[Kz,cz]at hx
 rcases hx with rfl | rfl | rfl | rfl
 ·exact ⟨rfl,_,by rw[az hp];exact h0⟩
 ·exact ⟨rfl,_,by rw[az hq];exact h2⟩
 ·exact ⟨rfl,_,by rw[az hps];exact h1⟩
 ·exact ⟨rfl,_,by rw[List.map_cons,List.map_nil,K6];exact h3⟩
theorem KE (hs:bu cs o n f) (hc:n≤c) (hp:cs.all SV.plain=true) (hn:n≤1048576) (hf:cU f) (hk:ft 2 ks kn kb kc) (hq:kc.all SV.plain=true) (hl:cY 1 sv np pf ps) (hps:ps.all SV.plain=true) (hpf:cU pf) (hnp:np < 9223372036854775000):
  bC Tryd.prog 6 [Sl 0 o n c,Sum.inl (Sum.inl sv),Ag (cL at_ cut ks)] 3 (lk [(0,⟨false,cs⟩),(1,⟨false,ps⟩),(2,⟨false,kc⟩)]) (gI 3 (KC n at_ (aN f (n / 64) np pf)) n (BF kn kb cut f n at_ (aN f (n / 64) np pf))):=by
 obtain ⟨ks',hk',Uz⟩:=ft.jJ hk 1
 obtain ⟨Q0,hl',zm⟩:=hl.jJ 2
 have hw:=BG (at_:=at_) (cut:=cut) hs hc hp hn hf hk' hq hl' hps hpf hnp
 refine bO Tryd.func6 rfl (by kernel_rfl) [] [] (by simp[Tryd.ntmps6]) Tryd.rY (fun v hv=> ?_) VU (VW hp hps hq) ?_
 ·simp only[cz]at hv
  rcases hv with rfl | rfl | rfl
  ·exact (by decide:0 < 3)
  ·rcases hl with ⟨⟨a,rfl⟩,_⟩ | ⟨o,c,rfl,_⟩
   ·trivial
   ·exact (by decide:1 < 3)
  ·exact EJ hk (by decide)
 have hz:zeroOf Tryd.prog 29=some [.int .i64 0, .slice none 0 0]:=by kernel_rfl
 have hce:cellsOf (some (Sum.inl (Sum.inl sv)))=some [sv]:=by
  rcases hl with ⟨⟨a,rfl⟩,_⟩ | ⟨o,c,rfl,_⟩<;>rfl
 simp only[Tryd.results6,hz,hce,bJ,seval]
 refine ⟨Nat.le_refl 3, ?_⟩
 rw[show List.take 3 (cL at_ cut ks)=cL at_ cut ks from rfl]
 have NA:AV.ren (GK 3) (Ag (cL at_ cut ks'))=Ag (cL at_ cut ks):=by
  show Ag [_,SV.ren (GK 3) ks',_]=_
  rw[Uz (GK 3) rfl]
  rfl
 refine m9 hw (GK 3) (KD (r0:=false) (r1:=false) (r2:=false) (r3:=true) (by simp only[eJ,seval]) hp (by simp only[eJ,seval]) hps (by simp only[eJ,seval]) hq (by simp only[eJ,seval]) (zm (GK 3) rfl)) (by simp only[List.map_cons,List.map_nil,NA];rfl) (fun h0=> ?_) fun c' cs' g1 g2 g3=> ?_
 ·simp only[hz,rI,rJ,rK,Tryd.bt,bJ,seval]
  exact qK h0
 ·simp only[hz,rI,rJ,rK,Tryd.bt,bJ,seval]
  exact ig (by decide) (by show AS.box _ _=some _;simp only[eJ,seval]) g2 g3 g1
end
def ui (code seq live next:Int) (pv:SV):AV:=Ag [Sum.inl (.int .i64 code),Sum.inl (.int .u64 seq),Sum.inl (.int .i64 live),Sum.inl (.int .i64 next),pv]
def nf (k n:Nat) (f:Nat→Int) (v:AV) (out:Nat→Option aG):Prop:=
 ((kl n=false∨kl n=true∧cX f (n / 64 / 2)=none)∧v=ui 1 0 0 0 (.inl (.slice none 0 0))∧out=fun _=>none)∨
 (kl n=true∧(∃ st,cX f (n / 64 / 2)=some st∧eZ f (n / 64) st≠[])∧v=ui 11 0 0 0 (.inl (.slice none 0 0))∧out=fun _=>none)∨
 (kl n=true∧ ∃ st c cs,cX f (n / 64 / 2)=some st∧eZ f (n / 64) st=[]∧bu cs 0 (bd (aF f (aC f (st+n / 64 / 2) st))) (dc f (aC f (st+n / 64 / 2) st))∧bd (aF f (aC f (st+n / 64 / 2) st))≤c∧cs.all SV.plain=true∧
  v=ui 0 (bW (aF f (aC f (st+n / 64 / 2) st))) ((st / (n / 64 / 2):Nat):Int) ((ay f (aC f (st+n / 64 / 2) st) - st:Nat):Int) (.inr (.inr (k,0,bd (aF f (aC f (st+n / 64 / 2) st)),c)))∧out=lk [(k,⟨true,cs⟩)])
def EP (d a b n:Nat):Nat:=if n < 4 then d+n else if n=4 then a else b
def KY:List SV:=cL 0 0 (.inl (.slice none 0 0))
theorem xy {s:AS} {d a b m:Nat} {f:Nat→Int} {kc nc:List SV} (hq:kc.all SV.plain=true) (hn:nc.all SV.plain=true) {r0 r1 r2 r3 r4 r5:Bool}
  (h0:s.box d=some ⟨r0,[Sum.inr (.inr (a,0,m,m))]⟩) (h1:s.box (d+1)=some ⟨r1,KY⟩) (h2:s.box (d+2)=some ⟨r2,[Sum.inl (.slice none 0 0)]⟩) (h3:s.box (d+3)=some ⟨r3,nc⟩) (h4:s.box a=some ⟨r4,aA .u8 (64*m) f⟩) (h5:s.box b=some ⟨r5,kc⟩):Fits s (EP d a b) (lk (ju m f KY nc kc)) none:=by
 refine qE fun x hx=> ?_
 simp only[ju,cz]at hx
 rcases hx with rfl | rfl | rfl | rfl | rfl | rfl
 ·exact ⟨rfl,_,h0⟩
 ·exact ⟨rfl,_,h1⟩
 ·exact ⟨rfl,_,h2⟩
 ·exact ⟨rfl,_,by rw[az hn];exact h3⟩
 ·exact ⟨rfl,_,by rw[az aD];exact h4⟩
 ·exact ⟨rfl,_,by rw[az hq];exact h5⟩
theorem GL: ∀ x ∈ KY,SV.ok (fun n=>n=5) x:=fun x hx=>by
 simp only[KY,cL,cz]at hx
 rcases hx with rfl | rfl | rfl<;>exact ⟨trivial,rfl⟩
theorem NC {a b c d e x:SV}:splice [a,b,c,d,e] 0 [x]=[x,b,c,d,e]:=rfl
theorem ND {a b c d e x:SV}:splice [a,b,c,d,e] 1 [x]=[a,x,c,d,e]:=rfl
theorem NF {a b c d e x:SV}:splice [a,b,c,d,e] 2 [x]=[a,b,x,d,e]:=rfl
theorem NG {a b c d e x:SV}:splice [a,b,c,d,e] 3 [x]=[a,b,c,x,e]:=rfl
theorem NH {a b c d e x:SV}:splice [a,b,c,d,e] 4 [x]=[a,b,c,d,x]:=rfl
theorem NI {a b c d e v w x y z:SV}:splice [a,b,c,d,e] 0 [v,w,x,y,z]=[v,w,x,y,z]:=rfl
theorem UA {a b c d:SV} {w x y z:Nat}:splice [a,b,c,d] 0 (eE w x y z)=eE w x y z:=rfl
theorem ER {w x y z:Nat}:List.take 4 (eE w x y z)=eE w x y z:=rfl
theorem cQ:type_of% @NC∧type_of% @ND∧type_of% @NF∧type_of% @NG∧type_of% @NH∧type_of% @NI∧type_of% @UA∧type_of% @uu∧type_of% @ER:=
 ⟨@NC, @ND, @NF, @NG, @NH, @NI, @UA, @uu, @ER⟩
theorem KF {s:AS} {k q n c:Nat} {a b d e:Int} {cs:List SV} {Post:AV→(Nat→Option aG)→Prop} (hq:k≤q) (hb:s.box q=some ⟨true,cs⟩) (hp:cs.all SV.plain=true) (h:Post (ui a b d e (.inr (.inr (k,0,n,c)))) (lk [(k,⟨true,cs⟩)])):
  nA k Post (ui a b d e (.inr (.inr (q,0,n,c)))) s:=by
 refine dD (q:=q) (v0:=ui a b d e (.inr (.inr (k,0,n,c)))) hq ?_ (fun x hx=> ?_) (fun x hx=> ?_) h
 ·simp only[ui,AV.ren,CV.ren,List.map_cons,List.map_nil,SV.ren,dT,jO]
 ·simp only[cz]at hx
  rcases hx with rfl | rfl | rfl | rfl | rfl
  ·exact ⟨trivial,rfl⟩
  ·exact ⟨trivial,rfl⟩
  ·exact ⟨trivial,rfl⟩
  ·exact ⟨trivial,rfl⟩
  ·exact ⟨Nat.lt_succ_self k,rfl⟩
 ·rw[List.mem_singleton]at hx
  subst hx
  exact ⟨Nat.lt_succ_self k,fun _=>rfl,ai hp,by rw[az hp,jO];exact hb⟩
section
variable {n o c:Nat} {f:Nat→Int} {cs:List SV}
theorem uB (hs:bu cs o n f) (hc:n≤c) (hp:cs.all SV.plain=true) (hn:n≤1048576) (hf:cU f):
  bC Tryd.prog 12 [Sl 0 o n c] 1 (lk [(0,⟨false,cs⟩)]) (nf 1 n f):=by
 refine bO Tryd.func12 rfl (by kernel_rfl) [4,8] [] (by simp[Tryd.ntmps12]) Tryd.pZ (by simp[AV.ok,CV.ok,SV.names]) j0 (j5 hp) ?_
 have hz:zeroOf Tryd.prog 40=some [.int .i64 0, .int .u64 0, .int .i64 0, .int .i64 0, .slice none 0 0]:=by kernel_rfl
 simp only[Tryd.results12,hz,cQ,av,bJ,seval]
 refine (kX hs hc hp hn).aB (fun _=>0) none (dU (by simp only[eJ,seval];rfl) hp) rfl ?_
 rintro v out (⟨hb,rfl,rfl⟩ | ⟨hb,rfl,rfl⟩) _
 ·have e1: ∀ r,AV.ren r (.inr [.inl (.inl (.slice none 0 0)), .inl (.inl (bR 1))])= .inr [.inl (.inl (.slice none 0 0)), .inl (.inl (bR 1))]:=fun r=>rfl
  rw[xn,e1,mh]
  simp only[hz,bR,Tryd.bt,cQ,av,bJ,seval]
  refine (kV (e:=some 1) (fun i h=>by cases h;decide)).aB ?_
  simp only[hz,eB,Tryd.bt,cQ,av,bJ,seval]
  exact aL rfl (show nf 1 n f _ _ from Or.inl ⟨Or.inl hb,rfl,rfl⟩)
 ·have QV:64*(n / 64)=n:=by
   unfold kl at hb
   simp only[decide_eq_true_eq]at hb
   omega
  have hm:=(oG hb).1
  have h2:=(oG hb).2
  have e1: ∀ N,AV.ren (dy (fun x=>0) 1 N) (xn (.inr (.inr (1,0,n / 64,n / 64))) .nilIface)= .inr [.inl (.inr (.inr (N,0,n / 64,n / 64))), .inl (.inl .nilIface)]:=fun N=>rfl
  rw[e1,dv aD]
  simp only[hz,Tryd.bt,cQ,av,bJ,seval]
  refine ⟨by decide, ?_⟩
  simp only[hz,Tryd.bt,cQ,av,bJ,seval]
  have qG:ft 1 (.inl (.slice none 0 0)) 0 (fun _=>false) cs:= .inl ⟨⟨none,rfl⟩,rfl⟩
  refine (xp (m:=n / 64) (at_:=0) (cut:=0) (ks:= .inl (.slice none 0 0)) (cs:=aA .u8 n f) aD qG hp).aB (two 3 0) none (lY (rw:=true) (rw':=false) ?_ aD ?_ hp) rfl ?_
  ·simp only[eJ,seval]
  ·simp only[eJ,seval]
  rintro v out ⟨rfl,rfl⟩
  rw[xu,show AV.ren (aR (two 3 0) 2 23) (Ag (eE 2 (2+1) (2+2) (2+3)))=Ag (eE 23 24 25 26) from rfl,show aG.ren (aR (two 3 0) 2 23) ⟨true,cL 0 0 (.inl (.slice none 0 0))⟩=⟨true,KY⟩ from rfl,show aG.ren (aR (two 3 0) 2 23) ⟨true,[Sum.inr (.inr (0,0,n / 64,n / 64))]⟩=⟨true,[Sum.inr (.inr (3,0,n / 64,n / 64))]⟩ from rfl,show aG.ren (aR (two 3 0) 2 23) ⟨true,[Sum.inl (.slice none 0 0)]⟩=⟨true,[Sum.inl (.slice none 0 0)]⟩ from rfl,show aG.ren (aR (two 3 0) 2 23) ⟨true,[Sum.inl (.int .i64 0)]⟩=⟨true,[Sum.inl (.int .i64 0)]⟩ from rfl]
  simp only[hz,Tryd.bt,Nat.reduceAdd,cQ,av,bJ,seval]
  refine (xe (m:=n / 64) (f:=f) (pc:=KY) (nc:=[Sum.inl (.int .i64 0)]) (kc:=cs) ⟨GL,rfl,hp⟩ hf hm h2).aB (EP 23 3 0) none (xy hp rfl (r0:=true) (r1:=true) (r2:=true) (r3:=true) (r4:=true) (r5:=false) ?_ ?_ ?_ ?_ ?_ ?_) rfl ?_
  ·simp only[eJ,seval]
  ·simp only[eJ,seval]
  ·simp only[eJ,seval]
  ·simp only[eJ,seval]
  ·rw[QV];simp only[eJ,seval]
  ·simp only[eJ,seval]
  rintro v out (⟨hl,rfl,rfl⟩ | ⟨st,hl,hd,rfl,rfl⟩ | ⟨st,c1,wB,hl,hd,g1,g2,g3,rfl,rfl⟩) _
  ·have e2: ∀ r,AV.ren r (cK jG (bR 1))=cK jG (bR 1):=fun r=>rfl
   rw[e2,mh]
   simp only[cK,jG,bR,hz,Tryd.bt,cQ,av,bJ,seval]
   refine (kV (e:=some 1) (fun i h=>by cases h;decide)).aB ?_
   simp only[hz,eB,Tryd.bt,cQ,av,bJ,seval]
   exact aL rfl (show nf 1 n f _ _ from Or.inl ⟨Or.inr ⟨hb,hl⟩,rfl,rfl⟩)
  ·have e2: ∀ r,AV.ren r (cK jG (bR 2))=cK jG (bR 2):=fun r=>rfl
   rw[e2,mh]
   simp only[cK,jG,bR,hz,Tryd.bt,cQ,av,bJ,seval]
   refine (kV (e:=some 2) (fun i h=>by cases h;decide)).aB ?_
   simp only[hz,eB,Tryd.bt,cQ,av,bJ,seval]
   exact aL rfl (show nf 1 n f _ _ from Or.inr (Or.inl ⟨hb,⟨st,hl,hd⟩,rfl,rfl⟩))
  ·have e2: ∀ r,AV.ren (dy r 6 36) (cK (bF f st (aC f (st+n / 64 / 2) st) (.inr (.inr (6,0,bd (aF f (aC f (st+n / 64 / 2) st)),c1)))) .nilIface)=cK (bF f st (aC f (st+n / 64 / 2) st) (.inr (.inr (36,0,bd (aF f (aC f (st+n / 64 / 2) st)),c1)))) .nilIface:=fun r=>rfl
   rw[e2,dv g3]
   simp only[cK,bF,aX,hz,Tryd.bt,cQ,av,bJ,seval]
   refine dK (by kernel_rfl) [0,1,2,3,4,5,8,9,10,11,12,13,14,15] [6,7,16] [] [17] [27,40] [30,31,32,33,34,35,38,39,40,41,42,43,44,45,36,37,46] (by kernel_rfl) (by kernel_rfl) (by kernel_rfl) ?_
   simp only[hz,Tryd.bt,cQ,av,bJ,seval]
   refine bC.bD (m6 (m:=n / 64) (f:=f) (pc:=KY) (nc:=[Sum.inl (.int .i64 0)]) (kc:=cs) ⟨GL,rfl,hp⟩ (by omega)) (EP 23 3 0) (xy hp rfl (r0:=true) (r1:=true) (r2:=true) (r3:=true) (r4:=true) (r5:=false) ?_ ?_ ?_ ?_ ?_ ?_) rfl ?_
   ·simp only[eJ,seval]
   ·simp only[eJ,seval]
   ·simp only[eJ,seval]
   ·simp only[eJ,seval]
   ·rw[QV];simp only[eJ,seval]
   ·simp only[eJ,seval]
   rintro v out ⟨rfl,rfl⟩
   have e3: ∀ r,AV.ren r (I .i64 ((n / 64 / 2:Nat):Int))=I .i64 ((n / 64 / 2:Nat):Int):=fun r=>rfl
   rw[e3]
   simp only[Option.map_none,hz,Tryd.bt,cQ,av,bJ,seval]
   obtain ⟨k1,k2⟩:=Bw hl
   obtain ⟨k3,k4⟩:okB f (aC f (st+n / 64 / 2) st) (st+n / 64 / 2)=true∧st≤aC f (st+n / 64 / 2) st:=uA _ _ k1
   have k5:=Bx k3
   have k6:=cW (f:=f) (p:=aC f (st+n / 64 / 2) st)
   refine ⟨by omega, ?_⟩
   have w1:IntKind.i64.wrap ((st:Int).tdiv ((n / 64 / 2:Nat):Int))=((st / (n / 64 / 2):Nat):Int):=by
    rw[show ((st:Int).tdiv ((n / 64 / 2:Nat):Int))=((st / (n / 64 / 2):Nat):Int) from rfl]
    have:=Nat.div_le_self st (n / 64 / 2)
    revert this
    generalize st / (n / 64 / 2)=q
    intro this
    exact wrap_i64 _ (by omega) (by omega)
   have w2:IntKind.i64.wrap ((ay f (aC f (st+n / 64 / 2) st):Int) - (st:Int))=((ay f (aC f (st+n / 64 / 2) st) - st:Nat):Int):=by
    rw[wrap_i64 _ (by omega) (by omega)]
    omega
   rw[w1,w2]
   refine KF (q:=36) (Post:=nf 1 n f) (by decide) (by show AS.box _ _=some _;simp only[eJ,seval]) g3 (Or.inr (Or.inr ⟨hb,st,c1,wB,hl,hd,g1,g2,g3,rfl,rfl⟩))
end
section
variable {P:Program} [bM.Tables P] {K:AS→Prop} {s:AS} {nm:Nat} {dst:Option Nat} {ty:TypeId} {pos:String} {after:Array Edge} {gd:Option (Nat×Bool)}
theorem KG {t:Nat} {x y:Operand}:ri P nm (some ⟨dst, .makeSlice t x y,ty,pos,after,gd⟩) K s=bH (iu nm (qU P t) (s.aK x) (s.aK y)) nm dst K s:=rfl
end
def ES (r:Int) (n:Nat):Bool:=decide ((8≤r∧r≤4096)∧(aM n:Int)≤r)
def sC (k n:Nat) (r:Int) (pf:Nat→Int) (v:AV) (out:Nat→Option aG):Prop:=
 (ES r n=false∧v=V (.slice none 0 0)∧out=fun _=>none)∨(ES r n=true∧Made k (128*r.toNat) (iY (fun _=>0) (eX 0 n 1 pf)) v out)
theorem KH {s:AS} {d a b m:Nat} {f:Nat→Int} {ps:List SV} (hp:ps.all SV.plain=true) (hb:b < d) (hba:b≠a) (hda: ¬ (d≤a∧a < d+4)) {r0 r1 r5:Bool}
  (h0:s.box d=some ⟨r0,[Sum.inr (.inr (a,0,m,m))]⟩) (h1:s.box (d+1)=some ⟨r1,KY⟩) (h2:s.box (d+2)=some ⟨true,[Sum.inl (.slice none 0 0)]⟩) (h3:s.box (d+3)=some ⟨true,[Sum.inl (.int .i64 0)]⟩) (h4:s.box a=some ⟨true,aA .u8 (64*m) f⟩) (h5:s.box b=some ⟨r5,ps⟩):iW s (EP d a b) (lk (xP m f KY ps 0 ps)) [2,3,4]:=by
 refine kd (fun x hx=> ?_) fun n hn=> ?_
 ·have inj: ∀ c,c=2∨c=3∨c=4→ ∀ y ∈ xP m f KY ps 0 ps,EP d a b c=EP d a b y.1→c=y.1:=fun c hc y hy h=>by
   have:y.1 < 7:=by
    simp only[xP,cz]at hy
    rcases hy with rfl | rfl | rfl | rfl | rfl | rfl | rfl<;>(simp only;omega)
   unfold EP at h
   (repeat' split at h)<;>omega
  simp only[xP,cz]at hx
  rcases hx with rfl | rfl | rfl | rfl | rfl | rfl | rfl
  ·exact ⟨⟨_,h0,fun h=>(by cases h)⟩,fun h=>(by cases h)⟩
  ·exact ⟨⟨_,h1,fun h=>(by cases h)⟩,fun h=>(by cases h)⟩
  ·exact ⟨⟨_,h2,fun h=>rfl⟩,fun h=>⟨(by decide:(2:Nat) ∈ [2,3,4]),inj 2 (by decide)⟩⟩
  ·exact ⟨⟨_,h3,fun h=>rfl⟩,fun h=>⟨(by decide:(3:Nat) ∈ [2,3,4]),inj 3 (by decide)⟩⟩
  ·exact ⟨⟨_,by rw[az aD];exact h4,fun h=>rfl⟩,fun h=>⟨(by decide:(4:Nat) ∈ [2,3,4]),inj 4 (by decide)⟩⟩
  ·exact ⟨⟨_,by rw[az hp];exact h5,fun h=>(by cases h)⟩,fun h=>(by cases h)⟩
  ·exact ⟨⟨_,by rw[az hp];exact h5,fun h=>(by cases h)⟩,fun h=>(by cases h)⟩
 ·simp only[cz]at hn
  rcases hn with rfl | rfl | rfl<;>exact ⟨_,rfl,rfl⟩
theorem KI {s:AS} {m nm d a b:Nat} {f:Nat→Int} {cnt:Int}:dL s (EP d a b) 7 1 nm [2,3,4] (lk (cr m f cnt))=upd (upd (upd (upd s.box a (some ⟨true,aA .u8 (64*m) f⟩)) (d+3) (some ⟨true,[Sum.inl (.int .i64 cnt)]⟩)) (d+2) (some ⟨true,[Sum.inl (.slice none 0 0)]⟩)) nm none:=by
 rw[fc]
 simp only[cr,List.foldr_cons,List.foldr_nil,lk,Option.map_some,Option.map_none,aG.ren,List.map_cons,List.map_nil,SV.ren,dT,az aD,Nat.reduceEqDiff,reduceIte,show EP d a b 2=d+2 from rfl,show EP d a b 3=d+3 from rfl,show EP d a b 4=a from rfl]
section
variable {n:Nat} {pf:Nat→Int} {ps:List SV} {sv:SV} {r:Int}
theorem NJ (hl:cY 0 sv n pf ps) (hp:ps.all SV.plain=true) (hpf:cU pf) (hn:n < 9223372036854775000):
  bC Tryd.prog 4 [I .i64 r,Sum.inl (Sum.inl sv)] 1 (lk [(0,⟨false,ps⟩)]) (sC 1 n r pf):=by
 refine bO Tryd.func4 rfl (by kernel_rfl) [4] [] (by simp[Tryd.ntmps4]) Tryd.rW (fun v hv=> ?_) j0 (j5 hp) ?_
 ·simp only[cz]at hv
  rcases hv with rfl | rfl
  ·trivial
  ·rcases hl with ⟨⟨a,rfl⟩,_⟩ | ⟨o,c,rfl,_⟩
   ·trivial
   ·exact (by decide:0 < 1)
 have hce:cellsOf (some (Sum.inl (Sum.inl sv)))=some [sv]:=by
  rcases hl with ⟨⟨a,rfl⟩,_⟩ | ⟨o,c,rfl,_⟩<;>rfl
 have hz:zeroOf Tryd.prog 44=some [.int .u64 0, .slice none 0 0]:=by kernel_rfl
 simp only[Tryd.results4,hce,hz,cQ,av,bJ,seval, -List.reduceReplicate]
 refine rr.aB ?_
 by_cases hr:8≤r∧r≤4096
 case neg=>
  simp only[decide_eq_false hr,Bool.not_false,Bool.not_true,hce,hz,cQ,av,bJ,seval, -List.reduceReplicate]
  exact aL rfl (show sC 1 n r pf _ _ from Or.inl ⟨decide_eq_false fun h=>hr h.1,rfl,rfl⟩)
 simp only[decide_eq_true hr,Bool.not_false,Bool.not_true,hce,hz,cQ,av,bJ,seval, -List.reduceReplicate]
 refine j9 (t:=0) (eY:=false) (q:=1) ?_ hl hp hn ?_
 ·simp only[eJ,seval, -List.reduceReplicate]
 by_cases hs:(r:Int) < (aM n:Int)
 ·simp only[decide_eq_true hs,hce,hz,cQ,av,bJ,seval, -List.reduceReplicate]
  exact aL rfl (show sC 1 n r pf _ _ from Or.inl ⟨decide_eq_false fun h=>by have:=h.2;omega,rfl,rfl⟩)
 simp only[decide_eq_false hs,hce,hz,cQ,av,bJ,seval, -List.reduceReplicate]
 obtain ⟨R,rfl⟩:=Int.eq_ofNat_of_zero_le (show 0≤r by omega)
 have w2:IntKind.i64.wrap (2*(R:Int))=((2*R:Nat):Int):=by rw[wrap_i64 _ (by omega) (by omega)];omega
 have qG:ft 1 (.inl (.slice none 0 0)) 0 (fun _=>false) ps:= .inl ⟨⟨none,rfl⟩,rfl⟩
 have Wt:fR (.inl (.slice none 0 0)) 0 (fun _=>false) ps:=⟨.inl ⟨⟨none,rfl⟩,rfl⟩,hp⟩
 refine ⟨by decide, ?_⟩
 simp only[KG,w2,wN (show 2*R≤1048576 by omega),hce,hz,cQ,av,bJ,seval, -List.reduceReplicate]
 refine (xp (m:=2*R) (at_:=0) (cut:=0) (ks:= .inl (.slice none 0 0)) (cs:=aA .u8 (64*(2*R)) (fun _=>0)) aD qG hp).aB (two 27 0) none (lY (rw:=true) (rw':=false) ?_ aD ?_ hp) rfl ?_
 ·simp only[eJ,seval, -List.reduceReplicate]
 ·simp only[eJ,seval, -List.reduceReplicate]
 rintro v out ⟨rfl,rfl⟩
 rw[xu,show AV.ren (aR (two 27 0) 2 35) (Ag (eE 2 (2+1) (2+2) (2+3)))=Ag (eE 35 36 37 38) from rfl,show aG.ren (aR (two 27 0) 2 35) ⟨true,cL 0 0 (.inl (.slice none 0 0))⟩=⟨true,KY⟩ from rfl,show aG.ren (aR (two 27 0) 2 35) ⟨true,[Sum.inr (.inr (0,0,2*R,2*R))]⟩=⟨true,[Sum.inr (.inr (27,0,2*R,2*R))]⟩ from rfl,show aG.ren (aR (two 27 0) 2 35) ⟨true,[Sum.inl (.slice none 0 0)]⟩=⟨true,[Sum.inl (.slice none 0 0)]⟩ from rfl,show aG.ren (aR (two 27 0) 2 35) ⟨true,[Sum.inl (.int .i64 0)]⟩=⟨true,[Sum.inl (.int .i64 0)]⟩ from rfl]
 simp only[hce,hz,Tryd.bt,Nat.reduceAdd,cQ,av,bJ,seval, -List.reduceReplicate]
 obtain ⟨Q0,hl',zm⟩:=hl.jJ 6
 have Uo:0+aO n < 2*R:=by
  have h1:aM n=1+aO n:=rfl
  omega
 have SI:n < 600000:=by
  have h1:aM n=1+(n+63) / 64:=rfl
  omega
 have hfl:bk 0 0 (aO n+1)=false:=decide_eq_false (by omega)
 refine (Np (q:=1) (cut:=0) (f:=fun _=>0) Wt hl' hp hpf (show 2*R≤8192 by omega) Uo SI (Int.le_refl 0) (by decide) hfl).wide.lE (Nat.le_refl 1) (EP 35 27 0) [2,3,4] (KH hp (by decide) (by decide) (by decide) (r0:=true) (r1:=true) (r5:=false) ?_ ?_ ?_ ?_ ?_ ?_) ?_ ?_
 ·simp only[eJ,seval, -List.reduceReplicate]
 ·simp only[eJ,seval, -List.reduceReplicate]
 ·simp only[eJ,seval, -List.reduceReplicate]
 ·simp only[eJ,seval, -List.reduceReplicate]
 ·simp only[eJ,seval, -List.reduceReplicate]
 ·simp only[eJ,seval, -List.reduceReplicate]
 ·have:AV.ren (EP 35 27 0) (Ag (bj 1 Q0))=Ag (bj 1 sv):=by
   show Ag [_,SV.ren (EP 35 27 0) Q0]=_
   rw[zm (EP 35 27 0) rfl]
   rfl
  simp only[List.map_cons,List.map_nil,this]
  rfl
 rintro v out ⟨rfl,rfl⟩
 rw[KI,show AV.ren (aR (EP 35 27 0) 7 49) (Sum.inr [])=Sum.inr [] from rfl]
 simp only[hce,hz,Tryd.bt,Nat.reduceAdd,cQ,av,bJ,seval, -List.reduceReplicate]
 refine zo (qH (m:=2*R) (f:=lK (fun _=>0) 0 n 1 pf) (pc:=KY) (nc:=[Sum.inl (.int .i64 (0+(aO n:Nat)+1))]) (kc:=ps) ⟨GL,rfl,hp⟩ (by omega)) (EP 35 27 0) (xy hp rfl (r0:=true) (r1:=true) (r2:=true) (r3:=true) (r4:=true) (r5:=false) ?_ ?_ ?_ ?_ ?_ ?_) rfl fun c tail g1 g2 g3=> ?_
 ·simp only[eJ,seval, -List.reduceReplicate]
 ·simp only[eJ,seval, -List.reduceReplicate]
 ·simp only[eJ,seval, -List.reduceReplicate]
 ·simp only[eJ,seval, -List.reduceReplicate]
 ·simp only[eJ,seval, -List.reduceReplicate]
 ·simp only[eJ,seval, -List.reduceReplicate]
 simp only[hce,hz,Tryd.bt,Nat.reduceAdd,cQ,av,bJ,seval, -List.reduceReplicate]
 have hR:(128*(R:Int).toNat)=64*(2*R):=by
  rw[Int.toNat_natCast]
  omega
 refine gX (by decide) (by show AS.box _ 51=some _;simp only[eJ,seval, -List.reduceReplicate]) (dz (n:=64*(2*R)) (f:=lK (fun _=>0) 0 n 1 pf) g3) (show sC 1 n R pf _ _ from Or.inr ⟨decide_eq_true ⟨hr,by omega⟩, ?_⟩)
 rw[hR, ← Bu]
 exact ⟨c,tail,rfl,rfl,g1,g2,g3⟩
end
def ET (f g:Nat→Int) (lo hi:Nat):Prop:= ∀ i,64*lo≤i→i < 64*hi→g i=f i
section
variable {f g:Nat→Int} {a e p s lo hi:Nat}
theorem ET.sub (h:ET f g lo hi) {lo' hi':Nat} (h1:lo≤lo') (h2:hi'≤hi):ET f g lo' hi':=fun i h3 h4=>h i (by omega) (by omega)
theorem ET.sec (h:ET f g lo hi) (h1:lo≤a) (h2:a < hi): ∀ i,i < 64→aF g a i=aF f a i:=fun i hi=>h _ (by omega) (by omega)
theorem rL {u v:Nat→Int}: ∀ {n:Nat},(∀ i,i < n→u i=v i)→ll u n=ll v n
 | 0,_=>rfl
 | n+1,h=>by
  simp only[ll]
  rw[rL fun i hi=>h i (by omega),h n (by omega)]
theorem iP {u v:Nat→Int} (h: ∀ i,i < 64→u i=v i):bW u=bW v:=rL fun i hi=>h _ (by omega)
theorem uC {u v:Nat→Int} (h: ∀ i,i < 64→u i=v i):bd u=bd v:=congrArg Int.toNat (rL fun i hi=>h _ (by omega))
theorem Jb {q:Int} {n:Nat} {u v:Nat→Int} (h: ∀ i,i < n→u i=v i):gM q n u=gM q n v:=by
 have e:sw (13+n) (cN 13 (oA q n) u)=sw (13+n) (cN 13 (oA q n) v):=by
  unfold sw
  split
  ·rfl
  ·exact JQ fun i hi=>FG (fun _ _=>rfl) h i hi
 unfold gM
 rw[e]
theorem GM {n:Nat}:n≤64*aO n:=by unfold aO;omega
theorem fH {n:Nat}:aM n=1+aO n:=rfl
theorem ET.NK (h:ET f g lo hi) (h1:lo≤a) (h2:ay f a≤hi): ∀ i,i < 64*aO (bd (aF f a))→dc g a i=dc f a i:=fun i hi=>by
 unfold ay at h2
 rw[fH]at h2
 exact h _ (by omega) (by omega)
theorem ET.next (h:ET f g lo hi) (h1:lo≤a) (h2:a < hi):ay g a=ay f a:=by
 unfold ay
 rw[uC (h.sec h1 h2)]
theorem NL {n:Nat} {u u' v v':Nat→Int} (h: ∀ i,i < n→u i=u' i) (h': ∀ i,i < n→v i=v' i):ug n u v=ug n u' v':=by
 rw[Bool.eq_iff_iff,fG,fG]
 exact ⟨fun k i hi=>by rw[← h i hi, ← h' i hi,k i hi],fun k i hi=>by rw[h i hi,h' i hi,k i hi]⟩
theorem ET.ok (h:ET f g lo hi) (h1:lo≤a) (h2:ay f a≤hi):okB g a e=okB f a e:=by
 have hlt:=cW (f:=f) (p:=a)
 have hs:=h.sec h1 (Nat.lt_of_lt_of_le hlt h2)
 have hp:=h.NK h1 h2
 have e1:=iP hs
 have e2:=uC hs
 unfold okB gU fS
 rw[e1,e2,Jb (q:=bW (aF f a)) (n:=bd (aF f a)) (u:=dc g a) (v:=dc f a) (fun i hi=>hp i (Nat.lt_of_lt_of_le hi GM)),NL (fun _ _=>rfl) hs,
  NL (n:=64*aO (bd (aF f a))) (u:=fX (bd (aF f a)) (dc g a)) (u':=fX (bd (aF f a)) (dc f a)) (v:=dc g a) (v':=dc f a) (fun i hi=>by
   unfold fX
   split
   ·exact hp i hi
   ·rfl) hp]
def ml (f:Nat→Int) (a:Nat):Prop:=f (64*a)≠74∨f (64*a+63)≠199
theorem Pv {q:Int} {n:Nat} {pf:Nat→Int}:gM q n pf 0=74:=rfl
theorem NM {q:Int} {n:Nat} {pf:Nat→Int}:gM q n pf 63=199:=rfl
theorem ml.bad (h:ml f a):okB f a e=false:=by
 unfold okB
 rw[Bool.and_eq_false_iff]
 refine .inr ?_
 unfold fS
 rw[Bool.and_eq_false_iff]
 refine .inl ?_
 rw[Bool.eq_false_iff]
 intro hh
 rw[fG]at hh
 have h0:=hh 0 (by decide)
 have h1:=hh 63 (by decide)
 rw[Pv]at h0
 rw[NM]at h1
 unfold aF at h0 h1
 rw[Nat.mul_comm a 64]at h0 h1
 rcases h with h | h
 ·exact h h0.symm
 ·exact h h1.symm
theorem oY (h:lL f e p=true):ay f p < e∧okB f (ay f p) e=true∧bW (aF f (ay f p))=bW (aF f p)+1:=by
 unfold lL at h
 simp only[Bool.and_eq_true,decide_eq_true_eq]at h
 exact ⟨h.1.1,h.1.2,h.2⟩
theorem GN (h1:ay f p < e) (h2:okB f (ay f p) e=true) (h3:bW (aF f (ay f p))=bW (aF f p)+1):lL f e p=true:=by
 unfold lL
 simp only[Bool.and_eq_true,decide_eq_true_eq]
 exact ⟨⟨h1,h2⟩,h3⟩
theorem BH (h:ay f p < e→okB f (ay f p) e=false):lL f e p=false:=by
 rw[Bool.eq_false_iff]
 intro hh
 obtain ⟨h1,h2,_⟩:=oY hh
 rw[h h1]at h2
 cases h2
theorem Pw (h:okB f a e=true) (ha:a < e):ay f a≤e:=by
 unfold okB gU at h
 simp only[Bool.and_eq_true,decide_eq_true_eq]at h
 have:=h.1.2
 unfold ay
 omega
theorem EU: ∀ (n:Nat) {s:Nat},e - s≤n→s < e→okB f s e=true→okB f (aC f e s) e=true∧s≤aC f e s∧aC f e s < e∧ay f s≤ay f (aC f e s)∧lL f e (aC f e s)=false∧bW (aF f s)≤bW (aF f (aC f e s))
 | 0,s,hn,hs,_=>by omega
 | n+1,s,hn,hs,ho=>by
  have hlt:=cW (f:=f) (p:=s)
  cases hg:lL f e s
  ·rw[c8 hg]
   exact ⟨ho,Nat.le_refl _,hs,Nat.le_refl _,hg,Int.le_refl _⟩
  ·obtain ⟨h1,h2,h3⟩:=oY hg
   obtain ⟨i1,i2,i3,i4,i5,i6⟩:=EU n (s:=ay f s) (by omega) h1 h2
   rw[jF hg]
   have:=cW (f:=f) (p:=ay f s)
   exact ⟨i1,by omega,i3,by omega,i5,by omega⟩
theorem kY (hs:s < e) (ho:okB f s e=true):okB f (aC f e s) e=true∧s≤aC f e s∧aC f e s < e∧ay f s≤ay f (aC f e s)∧lL f e (aC f e s)=false∧bW (aF f s)≤bW (aF f (aC f e s)):=EU (e - s) (Nat.le_refl _) hs ho
theorem EV: ∀ (n:Nat) {s:Nat},e - s≤n→s < e→okB f s e=true→ET f g s (ay f (aC f e s))→lL g e (aC f e s)=false→okB g s e=true∧aC g e s=aC f e s
 | 0,s,hn,hs,_,_,_=>by omega
 | n+1,s,hn,hs,ho,ha,hg'=>by
  have hlt:=cW (f:=f) (p:=s)
  obtain ⟨_,_,_,k4,_,_⟩:=kY hs ho
  have hok:okB g s e=true:=(ha.ok (Nat.le_refl _) k4).trans ho
  refine ⟨hok, ?_⟩
  cases hg:lL f e s
  ·rw[c8 hg]at hg' ⊢
   exact c8 hg'
  ·obtain ⟨h1,h2,h3⟩:=oY hg
   rw[jF hg]at ha hg' k4 ⊢
   obtain ⟨_,j2,j3,j4,_,_⟩:=kY h1 h2
   have en:ay g s=ay f s:=ha.next (Nat.le_refl _) (by omega)
   have Wz:=cW (f:=f) (p:=ay f s)
   have e1:okB g (ay f s) e=true:=(ha.ok (by omega) j4).trans h2
   have e2:=iP (ha.sec (a:=ay f s) (by omega) (by omega))
   have e3:=iP (ha.sec (a:=s) (by omega) (by omega))
   have gu:lL g e s=true:=GN (by rw[en];exact h1) (by rw[en];exact e1) (by rw[en,e2,e3];exact h3)
   rw[jF gu,en]
   exact (EV n (s:=ay f s) (by omega) h1 h2 (ha.sub (by omega) (Nat.le_refl _)) hg').2
end
structure Lg (f:Nat→Int) (r st p:Nat) (q:Int) (n:Nat) (pf:Nat→Int):Prop where
 at_:st=0∨st=r
 pos:0 < r
 ok:okB f st (st+r)=true
 last:aC f (st+r) st=p
 seq:bW (aF f p)=q
 len:bd (aF f p)=n
 NK: ∀ i,i < n→dc f p i=pf i
 fin:ay f p < st+r→ml f (ay f p)
 WA:ml f (r - st)∨bW (aF f (r - st)) < bW (aF f st)
def Clean (f:Nat→Int) (r st nx:Nat):Prop:= ∀ a,a < 2*r→(a < st∨nx≤a)→ ∀ j,j < 64→f (64*a+j)=0
section
variable {f g h:Nat→Int} {r st p n nx:Nat} {q:Int} {pf:Nat→Int} {P:Nat→Prop}
theorem Lg.facts (h:Lg f r st p q n pf):okB f p (st+r)=true∧st≤p∧p < st+r∧ay f st≤ay f p∧lL f (st+r) p=false∧bW (aF f st)≤q∧ay f p≤st+r:=by
 obtain ⟨h1,h2,h3,h4,h5,h6⟩:=kY (by have:=h.pos;omega) h.ok
 rw[h.last]at h1 h2 h3 h4 h5 h6
 rw[h.seq]at h6
 exact ⟨h1,h2,h3,h4,h5,h6,Pw h1 h3⟩
theorem Lg.live (h:Lg f r st p q n pf):cX f r=some st:=by
 have hp:=h.pos
 have ho:=h.ok
 have hb:=h.WA
 unfold cX
 rcases h.at_ with rfl | rfl
 ·rw[Nat.zero_add]at ho
  rw[Nat.sub_zero]at hb
  rw[if_neg,if_pos ho]
  rintro ⟨h1,h2⟩
  rcases hb with hb | hb
  ·rw[hb.bad]at h1;cases h1
  ·rcases h2 with h2 | h2
   ·rw[ho]at h2;cases h2
   ·omega
 ·rw[show st+st=2*st by omega]at ho
  rw[Nat.sub_self]at hb
  rw[if_pos]
  exact ⟨ho,hb.imp (fun h=>h.bad) id⟩
def Zw (P:Nat→Prop) (f g:Nat→Int):Prop:= ∀ a,(∃ c, ∀ j,j < 64→g (64*a+j)=if j < c then 0 else f (64*a+j))∧(¬ P a→ ∀ j,j < 64→g (64*a+j)=f (64*a+j))
theorem Zw.refl:Zw P f f:=fun a=>⟨⟨0,fun j _=>by rw[if_neg (Nat.not_lt_zero j)]⟩,fun _ j _=>rfl⟩
theorem Zw.trans (h1:Zw P f g) (h2:Zw P g h):Zw P f h:=fun a=>by
 obtain ⟨⟨c1,k1⟩,e1⟩:=h1 a
 obtain ⟨⟨c2,k2⟩,e2⟩:=h2 a
 refine ⟨⟨max c1 c2,fun j hj=> ?_⟩,fun hp j hj=>(e2 hp j hj).trans (e1 hp j hj)⟩
 rw[k2 j hj,k1 j hj]
 (repeat' split)<;>first | rfl | omega
theorem Zw.UB (h1:Zw P f g) {lo hi:Nat} (hP: ∀ a,lo≤a→a < hi→ ¬ P a):ET f g lo hi:=fun i h2 h3=>by
 have:=(h1 (i / 64)).2 (hP _ (by omega) (by omega)) (i%64) (by omega)
 rwa [show 64*(i / 64)+i%64=i by omega]at this
theorem Zw.dead (h1:Zw P f g) {a:Nat} (hd:ml f a):ml g a:=by
 obtain ⟨⟨c,k⟩,_⟩:=h1 a
 have k0:=k 0 (by decide)
 have XT:=k 63 (by decide)
 rw[Nat.add_zero]at k0
 unfold ml at hd ⊢
 by_cases hc:0 < c
 ·rw[if_pos hc]at k0
  left;rw[k0];decide
 ·rw[if_neg hc]at k0
  rw[if_neg (by omega)]at XT
  rw[k0,XT];exact hd
theorem Sh {a:Nat} (ha:P a):Zw P f (ka f (a,zF)):=fun b=>by
 by_cases hb:b=a
 ·subst hb
  refine ⟨⟨64,fun j hj=> ?_⟩,fun hn=>absurd ha hn⟩
  unfold ka
  simp only
  rw[if_pos (by omega),if_pos hj];rfl
 ·have e: ∀ j,j < 64→ka f (a,zF) (64*b+j)=f (64*b+j):=fun j hj=>by
   unfold ka
   simp only
   rw[if_neg (by omega)]
  exact ⟨⟨0,fun j hj=>by rw[if_neg (Nat.not_lt_zero j),e j hj]⟩,fun _=>e⟩
theorem xA: ∀ {L:List Pd} {f:Nat→Int},(∀ x ∈ L,x.2=zF∧P x.1)→Zw P f (eh f L)
 | [],f,_=>Zw.refl
 | (a,d)::L,f,h=>by
  have h0:=h (a,d) (List.mem_cons_self ..)
  obtain ⟨rfl,hp⟩:d=zF∧P a:=h0
  exact (Sh hp).trans (xA (L:=L) (f:=ka f (a,zF)) fun x hx=>h x (List.mem_cons_of_mem _ hx))
theorem Px {a c:Nat} (hc:c≤64) (ha:P a):Zw P f (fF f a c zF):=fun b=>by
 by_cases hb:b=a
 ·subst hb
  refine ⟨⟨c,fun j hj=> ?_⟩,fun hn=>absurd ha hn⟩
  unfold fF
  by_cases hj2:j < c
  ·rw[if_pos (by omega),if_pos hj2];rfl
  ·rw[if_neg (by omega),if_neg hj2]
 ·have e: ∀ j,j < 64→fF f a c zF (64*b+j)=f (64*b+j):=fun j hj=>by
   unfold fF
   rw[if_neg (by omega)]
  exact ⟨⟨0,fun j hj=>by rw[if_neg (Nat.not_lt_zero j),e j hj]⟩,fun _=>e⟩
theorem mo {kn:Nat} {kb:Nat→Bool}: ∀ {L:List Pd} {i:Nat} {x:Pd},x ∈ cZ kn kb i L→x ∈ L
 | [],_,_,h=>by cases h
 | y::L,i,x,h=>by
  unfold cZ at h
  split at h
  ·rcases List.mem_cons.1 h with rfl | h
   ·exact List.mem_cons_self ..
   ·exact List.mem_cons_of_mem _ (mo h)
  ·exact List.mem_cons_of_mem _ (mo h)
theorem uD {x:Int}:dO x≤64:=by unfold dO;omega
theorem qL {A:List Nat} {x:Pd} (h:x ∈ zL A):x.2=zF∧x.1 ∈ A:=by
 unfold zL at h
 rw[List.mem_map]at h
 obtain ⟨a,ha,rfl⟩:=h
 exact ⟨rfl,ha⟩
theorem NP {A:List Nat} {kn:Nat} {kb:Nat→Bool} {cut T:Nat} (hc:cut≤64) (hA: ∀ a ∈ A,P a):Zw P f (gN kn kb cut f [zL A] T):=by
 have hz: ∀ x ∈ zL A,x.2=zF∧P x.1:=fun x hx=>⟨(qL hx).1,hA _ (qL hx).2⟩
 unfold gN
 split
 ·rename_i h
  have h1:((zL A).getD T (0,zF)).2=zF∧P ((zL A).getD T (0,zF)).1:=by
   rw[List.getD_eq_getElem?_getD,List.getElem?_eq_getElem h]
   exact hz _ (List.getElem_mem h)
  rw[h1.1]
  exact (xA fun x hx=>hz x (List.mem_of_mem_take (mo hx))).trans (Px hc h1.2)
 ·unfold gN
  exact xA hz
end
section
variable {f g h:Nat→Int} {r st p n nx kn:Nat} {q at_ cut:Int} {pf:Nat→Int} {P:Nat→Prop} {kb:Nat→Bool}
theorem Lg.keep (h:Lg f r st p q n pf) (ha:ET f g st (ay f p)) (hd:ay f p < st+r→ml g (ay f p)) (ho:ml g (r - st)∨bW (aF g (r - st)) < bW (aF f st)):Lg g r st p q n pf∧ay g p=ay f p:=by
 obtain ⟨h1,h2,h3,h4,h5,h6,h7⟩:=h.facts
 have hlt:=cW (f:=f) (p:=p)
 have en:ay g p=ay f p:=ha.next h2 hlt
 have nz:lL g (st+r) p=false:=BH fun hh=>by
  rw[en]at hh ⊢
  exact (hd hh).bad
 obtain ⟨k1,k2⟩:=EV (g:=g) (st+r - st) (Nat.le_refl _) (by have:=h.pos;omega) h.ok (by rw[h.last];exact ha) (by rw[h.last];exact nz)
 have hs:=ha.sec h2 hlt
 refine ⟨⟨h.at_,h.pos,k1,k2.trans h.last,(iP hs).trans h.seq,(uC hs).trans h.len,fun i hi=> ?_,fun hh=> ?_, ?_⟩,en⟩
 ·rw[← h.NK i hi]
  exact ha.NK h2 (Nat.le_refl _) i (by rw[h.len];exact Nat.lt_of_lt_of_le hi GM)
 ·rw[en]at hh ⊢
  exact hd hh
 ·rw[iP (ha.sec (a:=st) (Nat.le_refl _) (Nat.lt_of_le_of_lt h2 hlt))]
  exact ho
theorem Lg.zero (h:Lg f r st p q n pf) (hz:Zw (fun a=>a < st∨ay f p≤a) f g):Lg g r st p q n pf∧ay g p=ay f p:=by
 obtain ⟨h1,h2,h3,h4,h5,h6,h7⟩:=h.facts
 refine h.keep (hz.UB fun a h1 h2 h3=>by omega) (fun hh=>hz.dead (h.fin hh)) ?_
 rcases h.WA with ho | ho
 ·exact .inl (hz.dead ho)
 ·obtain ⟨⟨c,k⟩,_⟩:=hz (r - st)
  by_cases hc:0 < c
  ·left;left
   have:=k 0 (by decide)
   rw[Nat.add_zero,if_pos hc]at this
   rw[this];decide
  ·right
   rw[iP (v:=aF f (r - st)) fun j hj=> ?_]
   ·exact ho
   ·have:=k j hj
    rw[if_neg (by omega)]at this
    unfold aF
    rw[Nat.mul_comm];exact this
theorem EW {m a:Nat} (ha:a ∈ cx f st nx m):a < m∧(a < st∨nx≤a):=by
 unfold cx at ha
 rw[List.mem_filter,List.mem_range]at ha
 refine ⟨ha.1, ?_⟩
 have:=ha.2
 unfold dh at this
 simp only[Bool.and_eq_true,Bool.or_eq_true,decide_eq_true_eq]at this
 exact this.1
theorem NQ {m:Nat}:cx f st nx m=[]↔ ∀ a,a < m→(a < st∨nx≤a)→ ∀ j,j < 64→f (64*a+j)=0:=by
 unfold cx
 rw[List.filter_eq_nil_iff]
 constructor
 ·intro h a ha ho j hj
  have:=h a (List.mem_range.2 ha)
  unfold dh at this
  rw[Bool.not_eq_true,Bool.and_eq_false_iff,Bool.or_eq_false_iff,Bool.not_eq_false',fG]at this
  rcases this with h1 | h1
  ·simp only[decide_eq_false_iff_not]at h1
   omega
  ·have:=h1 j hj
   unfold aF at this
   rw[Nat.mul_comm];exact this
 ·intro h a ha
  rw[List.mem_range]at ha
  unfold dh
  rw[Bool.not_eq_true,Bool.and_eq_false_iff,Bool.or_eq_false_iff,Bool.not_eq_false',fG]
  by_cases ho:a < st∨nx≤a
  ·right
   intro j hj
   have:=h a ha ho j hj
   unfold aF
   rw[Nat.mul_comm];exact this
  ·left
   simp only[decide_eq_false_iff_not]
   omega
theorem Lg.half (h:Lg f r st p q n pf):2*r / 2=r:=by omega
theorem Lg.left (h:Lg f r st p q n pf):eZ f (2*r) st=cx f st (ay f p) (2*r):=by
 unfold eZ
 rw[h.half,h.last]
theorem Lg.oZ (h:Lg f r st p q n pf):eZ f (2*r) st=[]↔Clean f r st (ay f p):=by
 rw[h.left];exact NQ
theorem Lg.UC (h:Lg f r st p q n pf):bZ f (2*r)=(none,[zL (cx f st (ay f p) (2*r))]):=by
 unfold bZ
 rw[h.half,h.live]
 simp only
 rw[h.left]
theorem Lg.recover (h:Lg f r st p q n pf):Lg (fq kn kb cut f at_ (bZ f (2*r))) r st p q n pf∧ay (fq kn kb cut f at_ (bZ f (2*r))) p=ay f p:=by
 refine h.zero ?_
 rw[h.UC]
 unfold fq
 split
 ·exact NP uD fun a ha=>(EW ha).2
 ·exact xA fun x hx=>⟨(qL hx).1,(EW (qL hx).2).2⟩
theorem xB {a:Nat}: ∀ {A:List Nat} {f:Nat→Int},(a ∈ A∨ ∀ j,j < 64→f (64*a+j)=0)→ ∀ j,j < 64→eh f (zL A) (64*a+j)=0
 | [],f,h=>fun j hj=>by
  rcases h with h | h
  ·cases h
  ·exact h j hj
 | b::A,f,h=>xB (A:=A) (f:=ka f (b,zF)) (by
  by_cases hb:a=b
  ·subst hb
   right
   intro j hj
   unfold ka
   simp only
   rw[if_pos (by omega)];rfl
  ·rcases h with h | h
   ·rcases List.mem_cons.1 h with h | h
    ·exact absurd h hb
    ·exact .inl h
   ·right
    intro j hj
    unfold ka
    simp only
    rw[if_neg (by omega)]
    exact h j hj)
theorem Lg.Si (h:Lg f r st p q n pf) (lj:at_≤0):Clean (fq kn kb cut f at_ (bZ f (2*r))) r st (ay f p):=by
 rw[h.UC]
 unfold fq bk
 rw[if_neg (by rw[decide_eq_true_eq];omega)]
 intro a ha ho
 refine xB ?_
 by_cases hin:a ∈ cx f st (ay f p) (2*r)
 ·exact .inl hin
 ·right
  intro j hj
  have:=hin
  unfold cx at this
  rw[List.mem_filter,List.mem_range]at this
  have h2:dh f st (ay f p) a=false:=by
   rw[Bool.eq_false_iff]
   exact fun hh=>this ⟨ha,hh⟩
  unfold dh at h2
  rw[Bool.and_eq_false_iff,Bool.or_eq_false_iff,Bool.not_eq_false',fG]at h2
  rcases h2 with h2 | h2
  ·simp only[decide_eq_false_iff_not]at h2
   omega
  ·have:=h2 j hj
   unfold aF at this
   rw[Nat.mul_comm];exact this
end
theorem Py {X k:Nat}:qS .u64 ((X:Nat):Int) k=((X / 2^(min k 64):Nat):Int):=by
 unfold qS
 rw[Int.toNat_natCast,show IntKind.u64.bits=64 from rfl]
 have:((2:Int)^(min k 64))=((2^(min k 64):Nat):Int):=by push_cast;rfl
 rw[this,Int.fdiv_eq_ediv_of_nonneg _ (Int.natCast_nonneg _)]
 rfl
theorem NR {X n j:Nat} (hj:j < n) (hn:n≤8):wL ((X:Nat):Int) n j=((X / 256^(n - 1 - j)%256:Nat):Int):=by
 unfold wL
 rw[show (8*((n:Int) - 1 - (j:Int)))=((8*(n - 1 - j):Nat):Int) by omega,Py,wrap_u8,show min (8*(n - 1 - j)) 64=8*(n - 1 - j) by omega,show (256:Nat)=2^8 from rfl, ← Nat.pow_mul]
 omega
theorem xC {X n:Nat} (hn:n≤8): ∀ {k:Nat},k≤n→ll (wL ((X:Nat):Int) n) k=((X / 256^(n - k)%256^k:Nat):Int)
 | 0,_=>by simp[ll,Nat.mod_one]
 | k+1,hk=>by
  have ih:=xC (X:=X) hn (k:=k) (by omega)
  simp only[ll]
  rw[ih,NR (by omega) hn]
  have e1:X / 256^(n - k)=X / 256^(n - (k+1)) / 256:=by
   rw[Nat.div_div_eq_div_mul, ← Nat.pow_succ,show (n - (k+1)).succ=n - k by omega]
  rw[e1,show n - 1 - k=n - (k+1) by omega]
  obtain ⟨Y,hY⟩: ∃ Y,Y=X / 256^(n - (k+1)):=⟨_,rfl⟩
  rw[← hY,Nat.pow_succ,Nat.mul_comm (256^k) 256,Nat.mod_mul]
  obtain ⟨z,hz⟩: ∃ z,z=Y / 256%256^k:=⟨_,rfl⟩
  obtain ⟨w,hw⟩: ∃ w,w=Y%256:=⟨_,rfl⟩
  rw[← hz, ← hw]
  omega
section
variable {f g:Nat→Int} {a e n b j kn cut T:Nat} {q:Int} {pf:Nat→Int} {kb:Nat→Bool}
theorem Pz {Q:Nat} (hq:Q < 18446744073709551616):bW (gM (Q:Int) n pf)=Q:=by
 unfold bW
 rw[rL (v:=wL (Q:Int) 8) fun i hi=> ?_,xC (by decide) (Nat.le_refl 8)]
 ·rw[Nat.sub_self,Nat.pow_zero,Nat.div_one,show (256:Nat)^8=18446744073709551616 from rfl,Nat.mod_eq_of_lt hq]
 ·unfold gM oA x7 upd
  rw[if_neg (by omega)]
  dsimp only
  rw[if_neg (by omega),if_neg (by omega),if_pos (by omega),show 1+i - 1=i by omega]
theorem PA (hn:n < 4294967296):bd (gM q n pf)=n:=by
 unfold bd Gv
 rw[rL (v:=wL (n:Int) 4) fun i hi=> ?_,xC (by decide) (Nat.le_refl 4)]
 ·rw[Nat.sub_self,Nat.pow_zero,Nat.div_one,show (256:Nat)^4=4294967296 from rfl,Nat.mod_eq_of_lt hn]
  rfl
 ·unfold gM oA x7 upd
  rw[if_neg (by omega)]
  dsimp only
  rw[if_neg (by omega),if_pos (by omega),show 9+i - 9=i by omega]
structure Rec (g:Nat→Int) (a:Nat) (q:Int) (n:Nat) (pf:Nat→Int):Prop where
 com: ∀ j,j < 64→g (64*a+j)=gM q n pf j
 body: ∀ i,i < 64*aO n→g (64*(a+1)+i)=fX n pf i
theorem Rec.read (h:Rec g a q n pf) (h0:0 < q) (h1:q < 18446744073709551616) (hn:n < 4294967296):bW (aF g a)=q∧bd (aF g a)=n∧(∀ i,i < n→dc g a i=pf i)∧ay g a=a+aM n:=by
 obtain ⟨Q,rfl⟩:=Int.eq_ofNat_of_zero_le (Int.le_of_lt h0)
 have hs: ∀ j,j < 64→aF g a j=gM (Q:Int) n pf j:=fun j hj=>by
  unfold aF
  rw[Nat.mul_comm];exact h.com j hj
 have e2:bd (aF g a)=n:=(uC hs).trans (PA hn)
 refine ⟨(iP hs).trans (Pz (by omega)),e2,fun i hi=> ?_,by unfold ay;rw[e2]⟩
 unfold dc
 rw[Nat.mul_comm,h.body i (Nat.lt_of_lt_of_le hi GM)]
 exact if_pos hi
theorem Rec.ok (h:Rec g a q n pf) (h0:0 < q) (h1:q < 18446744073709551616) (hn:n < 4294967296) (he:a+aM n≤e):okB g a e=true:=by
 obtain ⟨e1,e2,e3,_⟩:=h.read h0 h1 hn
 unfold okB gU fS
 rw[e1,e2]
 simp only[Bool.and_eq_true,Bool.not_eq_true',decide_eq_false_iff_not,decide_eq_true_eq,fG]
 refine ⟨⟨by omega,by omega⟩,fun j hj=> ?_,fun i hi=> ?_⟩
 ·rw[Jb e3]
  unfold aF
  rw[Nat.mul_comm];exact (h.com j hj).symm
 ·have hb:=h.body i hi
  have hb2:dc g a i=fX n pf i:=by
   unfold dc
   rw[Nat.mul_comm];exact hb
  unfold fX at hb2 ⊢
  rw[hb2]
  split
  ·rfl
  ·rfl
theorem GQ {p:Pd} (hj:j < 64):ka f p (64*b+j)=if p.1=b then p.2 j else f (64*b+j):=by
 unfold ka
 by_cases h:p.1=b
 ·subst h
  rw[if_pos (by omega),if_pos rfl,show 64*p.1+j - 64*p.1=j by omega]
 ·rw[if_neg (by omega),if_neg h]
theorem Jc (hj:j < 64): ∀ {L:List Pd} {f:Nat→Int},(∀ x ∈ L,x.1≠b)→eh f L (64*b+j)=f (64*b+j)
 | [],f,_=>rfl
 | p::L,f,h=>by
  have:=Jc hj (L:=L) (f:=ka f p) fun x hx=>h x (List.mem_cons_of_mem _ hx)
  show eh (ka f p) L (64*b+j)=_
  rw[this,GQ hj,if_neg (h p (List.mem_cons_self ..))]
theorem Jd {c:Nat} {d:Nat→Int} (hc:c≤64) (hj:j < 64):fF f a c d (64*b+j)=if a=b∧j < c then d j else f (64*b+j):=by
 unfold fF
 by_cases h:a=b
 ·subst h
  by_cases h2:j < c
  ·rw[if_pos (by omega),if_pos ⟨rfl,h2⟩,show 64*a+j - 64*a=j by omega]
  ·rw[if_neg (by omega),if_neg (fun h=>h2 h.2)]
 ·rw[if_neg (by omega),if_neg (fun h2=>h h2.1)]
theorem EX (hj:j < 64) {d:Nat→Nat→Int}: ∀ {k:Nat},eh f ((List.range k).map fun i=>(a+1+i,d i)) (64*b+j)=if a+1≤b∧b < a+1+k then d (b - a - 1) j else f (64*b+j)
 | 0=>by
  rw[if_neg (by omega)];rfl
 | k+1=>by
  rw[List.range_succ,List.map_append]
  show (List.foldl ka f _) _=_
  rw[List.foldl_append]
  show ka (eh f _) (a+1+k,d k) (64*b+j)=_
  rw[GQ hj]
  simp only
  by_cases h:a+1+k=b
  ·subst h
   rw[if_pos rfl,if_pos (by omega),show a+1+k - a - 1=k by omega]
  ·rw[if_neg h,EX hj]
   by_cases h2:a+1≤b∧b < a+1+k
   ·rw[if_pos h2,if_pos (by omega)]
   ·rw[if_neg h2,if_neg (by omega)]
theorem EY (hj:j < 64):eh f (dM a n pf) (64*b+j)=if a+1≤b∧b < a+1+aO n then fX n pf ((b - a - 1)*64+j) else f (64*b+j):=EX hj (d:=fun i j=>fX n pf (i*64+j))
theorem NS {x:Pd} (h:x ∈ dM a n pf):a+1≤x.1∧x.1 < a+1+aO n:=by
 unfold dM at h
 rw[List.mem_map]at h
 obtain ⟨i,hi,rfl⟩:=h
 rw[List.mem_range]at hi
 exact ⟨by simp only;omega,by simp only;omega⟩
theorem ng (hj:j < 64):iY f (eX a n q pf) (64*b+j)=if b=a then gM q n pf j else if a+1≤b∧b < a+1+aO n then fX n pf ((b - a - 1)*64+j) else f (64*b+j):=by
 show ka (eh f (dM a n pf)) (a,gM q n pf) (64*b+j)=_
 rw[GQ hj]
 simp only
 by_cases h:a=b
 ·subst h
  rw[if_pos rfl,if_pos rfl]
 ·rw[if_neg h,if_neg (Ne.symm h),EY hj]
theorem BI:Rec (iY f (eX a n q pf)) a q n pf:=
 ⟨fun j hj=>by rw[ng hj,if_pos rfl],fun i hi=>by
  have:=ng (f:=f) (a:=a) (n:=n) (q:=q) (pf:=pf) (b:=a+1+i / 64) (j:=i%64) (by omega)
  rw[show 64*(a+1+i / 64)+i%64=64*(a+1)+i by omega,if_neg (by omega),if_pos (by omega),show (a+1+i / 64 - a - 1)*64+i%64=i by omega]at this
  exact this⟩
theorem Je (hc:cut≤64) (hT:T < aO n) (hj:j < 64) (hb: ¬ (a+1≤b∧b < a+1+aO n)):gN kn kb cut f (eX a n q pf) T (64*b+j)=f (64*b+j):=by
 have hl:T < (dM a n pf).length:=by rw[gG];exact hT
 unfold eX gN
 rw[if_pos hl]
 have h1: ∃ d,((dM a n pf).getD T (0,zF))=(a+1+T,d):=by
  rw[List.getD_eq_getElem?_getD,wX hT]
  exact ⟨_,rfl⟩
 obtain ⟨d,h1⟩:=h1
 rw[h1]
 rw[Jd hc hj,if_neg (by simp only;omega),Jc hj fun x hx=> ?_]
 have:=NS (List.mem_of_mem_take (mo hx))
 omega
theorem xD (hc:cut≤64) (hj:j < 64):gN kn kb cut f (eX a n q pf) (aO n) (64*b+j)=if b=a∧cut≤j then f (64*b+j) else iY f (eX a n q pf) (64*b+j):=by
 unfold eX gN
 rw[if_neg (by rw[gG];omega),gG,Nat.sub_self]
 unfold gN
 rw[if_pos (show 0 < ([(a,gM q n pf)]:List Pd).length from Nat.zero_lt_one)]
 show fF (eh (eh f (dM a n pf)) []) a cut (gM q n pf) (64*b+j)=_
 rw[Jd hc hj]
 show _=if b=a∧cut≤j then f (64*b+j) else iY f (eX a n q pf) (64*b+j)
 rw[ng hj]
 show (if a=b∧j < cut then gM q n pf j else eh f (dM a n pf) (64*b+j))=_
 rw[EY hj]
 by_cases h:a=b
 ·subst h
  by_cases h2:j < cut
  ·rw[if_pos ⟨rfl,h2⟩,if_neg (by omega),if_pos rfl]
  ·rw[if_neg (by omega),if_neg (by omega),if_pos (by omega)]
 ·rw[if_neg (fun k:a=b∧j < cut=>h k.1),if_neg (fun k:b=a∧cut≤j=>h k.1.symm),if_neg (Ne.symm h: ¬ b=a)]
end
end Go.Proofs.YtkaamnnjeandlaaDoor
