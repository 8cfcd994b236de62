/-
  A frame is received, in the program.
-/
import Derived.Test.YtpnehhpadofcbaaGreatDoorVcgWZ
import Derived.Test.YtpnehhpadofcbaaGreatDoorVcgN3
set_option maxHeartbeats 8000000
set_option maxRecDepth 20000
set_option linter.unusedSimpArgs false
set_option linter.unusedVariables false
set_option linter.unusedSectionVars false
namespace Go.Proofs.YtpnehhpadofcbaaGreatDoor
open Go.bU
variable [aO]
def mA (s:St) (n m:Nat) (aG g tag:Nat→Int) (pn x:Int):Option Nat:=match lN s n (preB s aG) pn x with
 | some i=>some i
 | none=>if yd (qk (fJ (G7 s aG pn) (x - (G7 s aG pn).nr).toNat).recv 1) aG pn x m g tag=true then none else some 5
def lb (d:St) (N:Nat) (F:Nat→En) (m:Nat) (g:Nat→Int) (x:Int):G8:=
 ⟨0,fJ d ((x - d.nr).toNat+1),d.re,x,N+(x - d.nr).toNat,m,gA N F d,gu (qk (fJ d (x - d.nr).toNat).recv 1) g⟩
def oK (s:St) (n m:Nat) (f:Nat→En) (aG g:Nat→Int) (pn x:Int):G8:=lb (G7 s aG pn) (Ny s n aG pn) (VG s n f aG pn) m g x
theorem Xo {s:St} {v:SV} {pn:Int}:fq { s with store:=v } pn=fq s pn:=rfl
theorem GZ {s:St} {v:SV} {pk:Nat→Int}:gJ { s with store:=v } pk={ gJ s pk with store:=v }:=rfl
theorem NL {s:St} {v:SV} {aG:Nat→Int} {pn:Int}:G7 { s with store:=v } aG pn={ G7 s aG pn with store:=v }:=by
 have e:preB { s with store:=v } aG=preB s aG:=rfl
 unfold G7
 rw[e]
 split
 ·rfl
 ·rw[Xo,n8,GZ]
theorem wW {s:St} {v:SV} {n:Nat} {f:Nat→En}:gA n f { s with store:=v }=gA n f s:=by
 funext i
 unfold gA Nu
 rw[n8]
theorem Vo {s:St} {v:SV} {n:Nat} {f:Nat→En} {aG:Nat→Int} {pn:Int}:VG { s with store:=v } n f aG pn=VG s n f aG pn:=by
 have e:preB { s with store:=v } aG=preB s aG:=rfl
 unfold VG
 rw[e]
 split
 ·rfl
 ·exact wW
theorem Xp {s:St} {v:SV} {n:Nat} {pr:Bool} {pn x:Int}:lN { s with store:=v } n pr pn x=lN s n pr pn x:=rfl
theorem G0 {s:St} {v:SV} {n m:Nat} {aG g tag:Nat→Int} {pn x:Int}:mA { s with store:=v } n m aG g tag pn x=mA s n m aG g tag pn x:=by
 have e:preB { s with store:=v } aG=preB s aG:=rfl
 unfold mA
 rw[e,Xp,NL,n8]
theorem Xq {k:Nat} {E:Option Nat} {A:G8} {v:SV} {r:AV} {out:Nat→Option aN} (h:CL k E { A with x:={ A.x with store:=v } } r out):CL k E A r out:=h
theorem Xr {k:Nat} {E:Option Nat} {d:St} {v:SV} {N m:Nat} {F:Nat→En} {g:Nat→Int} {x:Int} {r:AV} {out:Nat→Option aN} (h:CL k E (lb { d with store:=v } N F m g x) r out):CL k E (lb d N F m g x) r out:=by
 unfold lb at h ⊢
 rw[n8 (s:=d) (v:=v) ((x - d.nr).toNat+1),n8 (s:=d) (v:=v) (x - d.nr).toNat,wW]at h
 dsimp only at h
 generalize fJ d ((x - d.nr).toNat+1)=y at h ⊢
 generalize qk (fJ d (x - d.nr).toNat).recv 1=z at h ⊢
 exact Xq (A:=⟨0,y,d.re,x,_,m,_,_⟩) (v:=v) h
theorem Xs {k:Nat} {E:Option Nat} {s:St} {v:SV} {n m:Nat} {f:Nat→En} {aG g:Nat→Int} {pn x:Int} {r:AV} {out:Nat→Option aN} (h:CL k E (oK { s with store:=v } n m f aG g pn x) r out):CL k E (oK s n m f aG g pn x) r out:=by
 have e2:Ny { s with store:=v } n aG pn=Ny s n aG pn:=rfl
 unfold oK at h
 rw[NL,Vo,e2]at h
 exact Xr h
theorem RY {k n m:Nat} {s:St} {f:Nat→En} {aG g tag:Nat→Int} {pn x:Int} {v:AV} {out:Nat→Option aN} (h:GU k n m s f aG g tag pn x v out):CL k (mA s n m aG g tag pn x) (oK s n m f aG g pn x) v out:=by
 rcases h with ⟨i,h1,rfl,rfl⟩ | ⟨h1,⟨h2,rfl,rfl⟩ | ⟨h2,sv,bx,hK,rfl,rfl⟩⟩
 ·exact .inl ⟨i,by unfold mA;rw[h1],rfl,rfl⟩
 ·exact .inl ⟨5,by unfold mA;rw[h1];exact if_neg (by rw[h2];decide),rfl,rfl⟩
 ·refine .inr ⟨by unfold mA;rw[h1];exact if_pos h2,sv,_,rfl, ?_, ?_⟩
  ·dsimp only;rw[if_pos rfl];exact Vk hK
  ·dsimp only;rw[if_neg (by omega),if_pos rfl];exact .inr ⟨m,_,rfl,yf,rfl⟩
def wX (m i:Nat) (f:Nat→En) (aG g tag:Nat→Int) (pn x:Int):Option Nat:=if yd (f i).key aG pn x m g tag=true then none else some 5
def wY (n m i:Nat) (s:St) (f:Nat→En) (g:Nat→Int):G8:=⟨0,s,(f i).ep,(f i).n,n - 1,m,GP f i,gu (f i).key g⟩
theorem Vp {k n m i:Nat} {s:St} {f:Nat→En} {aG g tag:Nat→Int} {pn x:Int} {v:AV} {out:Nat→Option aN} (h:Yy k n m i s f aG g tag pn x v out):CL k (wX m i f aG g tag pn x) (wY n m i s f g) v out:=by
 rcases h with ⟨h2,rfl,rfl⟩ | ⟨h2,c,cs,hg,rfl,rfl⟩
 ·exact .inl ⟨5,if_neg (by rw[h2];decide),rfl,rfl⟩
 ·refine .inr ⟨if_pos h2,_,_,rfl, ?_, ?_⟩
  ·dsimp only;rw[if_pos rfl];exact .inr ⟨c,cs,rfl,hg,rfl⟩
  ·dsimp only;rw[if_neg (by omega),if_pos rfl];exact .inr ⟨m,_,rfl,yf,rfl⟩
def nR (n:Nat) (f:Nat→Int):Bool:=decide (77≤n∧n≤65613∧f 0=210∧dW f 41=((n - 77:Nat):Int))
theorem lf {n:Nat} {f:Nat→Int}:nR n f=true↔K0 n f:=decide_eq_true_iff
def g9 (g:Nat→Int) (i:Nat):Int:=g (1+i)
def jc (g:Nat→Int) (i:Nat):Int:=g (45+i)
def zJ (L:Nat) (g:Nat→Int) (i:Nat):Int:=g (45+(L - 77)+i)
def jH (s:St) (n:Nat) (f:Nat→En) (L:Nat) (g:Nat→Int):Option Nat:=
 if jn s n f=false then some 0 else if nR L g=false then some 4 else if dW g 37=4294967295 then some 3 else
  match lM f (g9 g) (dW g 37) n with
  | some i=>wX (L - 77) i f (g9 g) (jc g) (zJ L g) (dW g 33) (dW g 37)
  | none=>mA s n (L - 77) (g9 g) (jc g) (zJ L g) (dW g 33) (dW g 37)
def qm (s:St) (n:Nat) (f:Nat→En) (L:Nat) (g:Nat→Int):G8:=
  match lM f (g9 g) (dW g 37) n with
  | some i=>wY n (L - 77) i s f (jc g)
  | none=>oK s n (L - 77) f (g9 g) (jc g) (dW g 33) (dW g 37)
def YA (L:Nat) (g:Nat→Int) (sv:SV):AV:= .inr [.inr (fT (g9 g) (dW g 33) (dW g 37) sv (zJ L g)), .inl (.inl (.bool true))]
theorem G1 {s:AS} {nm t o L c:Nat} {g:Nat→Int} {cs:List SV} {rw:Bool} (hf:br g) (hs:aZ cs o L g) (hb:s.box t=some ⟨rw,cs⟩) (hp:cs.all SV.plain=true) (hc:L≤c) (hn:L < 140737488355328) {dst:Option Nat} {K:AS→Prop}
  (MW:nR L g=false→K (s.put dst (some zp)))
  (hk:nR L g=true→ ∀ sv bx,(∀ b2:Nat→Option aN,b2 nm=bx→b2 t=some ⟨rw,cs⟩→ ∃ u rd ds,b2 u=some ⟨rd,ds⟩∧ds.all SV.plain=true∧kZ u (L - 77) (jc g) sv ds)→K ((⟨s.env,upd s.box nm bx,s.next⟩:AS).put dst (some (YA L g sv)))):
  ax Tryz.prog nm 28 (some [Sl t o L c]) dst K s:=by
 rcases Bool.eq_false_or_eq_true (nR L g) with h | h
 ·have hfr:=lf.1 h
  refine (K2 hf hs hp hc hn hfr).ax (fun _=>t) none (bS hb hp) rfl ?_
  rintro v out ⟨svx,rfl,⟨e,rfl,rfl⟩ | ⟨q,tail,hm,rfl,rfl,h1,h2,h3⟩⟩ _
  ·rw[AV.bB zq]
   have e2:upd s.box nm (s.box nm)=s.box:=funext fun t=>by unfold upd;split<;>simp_all
   have:=hk h (.inl (.slice none 0 0)) (s.box nm) (fun b2 _ h2=>⟨t,rw,cs,h2,hp, .inl ⟨e,rfl⟩⟩)
   rw[e2]at this
   exact this
  ·rw[fN (cD h3)]
   have e:SV.aI (dJ (fun _=>t) 1 nm) (Sum.inr (.inr (1,0,L - 77,q)))= .inr (.inr (nm,0,L - 77,q)):=by show (Sum.inr (.inr (dJ (fun _=>t) 1 nm 1,0,L - 77,q)):SV)=_;rw[gT]
   simp only[AV.aI,List.map_cons,List.map_nil,CV.aI,rT,e]
   exact hk h _ _ (fun b2 h2 _=>⟨nm,true,_,h2,cD h3, .inr ⟨0,q,rfl,dg⟩⟩)
 ·have hfr: ¬ K0 L g:=fun e=>by rw[lf.2 e]at h;cases h
  exact (NK hf hs hp hc hn hfr).cW (fun _=>t) (bS hb hp) jW rfl (MW h)
theorem K9 {s:AS} {nm t n m:Nat} {x:St} {f:Nat→En} {aG g tag:Nat→Int} {pn y:Int} {sv:SV} {ra:Bool} {cs:List SV} (hb:s.box t=some ⟨ra,cs⟩) (hi:aH t x.store n f cs) (hp:cs.all SV.plain=true) (hs:gy x) (hl:fx x n=true) (hn:n*72≤140737488355328) (ic:br aG) (hf:br g) (ht:br tag)
  (hB: ∃ u rd ds,s.box u=some ⟨rd,ds⟩∧ds.all SV.plain=true∧kZ u m g sv ds) (hm:m≤65536) (hx:mC y) (xg:mC pn) {dst:Option Nat} {K:AS→Prop}
  (h0: ∀ i,mA x n m aG g tag pn y=some i→K ((⟨s.env,upd (upd s.box nm none) (nm+1) none,s.next⟩:AS).put dst (some (.inr [.inr (eV 0 rM (.inl (.slice none 0 0)) 0 0), .inl (.inl (gH i))]))))
  (hk:mA x n m aG g tag pn y=none→ ∀ sv bx o bo,kz nm (oK x n m f aG g pn y).n (oK x n m f aG g pn y).F sv bx→kA (nm+1) (oK x n m f aG g pn y).m (oK x n m f aG g pn y).G o bo→K ((⟨s.env,upd (upd s.box nm bx) (nm+1) bo,s.next⟩:AS).put dst (some (.inr [.inr (eV 0 { (oK x n m f aG g pn y).x with store:=sv } o (oK x n m f aG g pn y).ep (oK x n m f aG g pn y).nn), .inl (.inl .nilIface)])))):
  bA Tryz.prog nm 31 (some [Ag (bC x),Ag (fT aG pn y sv tag)]) dst K s:=by
 obtain ⟨u,rd,ds,hb',hq,hv⟩:=hB
 obtain ⟨v0,g0,e0⟩:=hi.name (k:=0)
 obtain ⟨w0,g1,e1⟩:=hv.name 1
 have ec:mA { x with store:=v0 } n m aG g tag pn y=mA x n m aG g tag pn y:=G0
 refine yg (E:=mA x n m aG g tag pn y) (A:=oK x n m f aG g pn y) (RV (s:={ x with store:=v0 }) g0 hp (hs.ws v0) hl hn ic hf ht g1 hq hm hx xg) (fun v out h=> ?_) (two t u) (ie hb hp hb' hq) ?_ h0 hk
 ·have:=RY h
  rw[G0]at this
  exact Xs this
 ·simp only[List.map_cons,List.map_nil,eM,lX,e0 (two t u) rfl,e1 (two t u) rfl]
theorem NM {s:AS} {nm t n m i:Nat} {x:St} {f:Nat→En} {aG g tag:Nat→Int} {pn y:Int} {sv:SV} {ra:Bool} {cs:List SV} (hb:s.box t=some ⟨ra,cs⟩) (xd:aH t x.store n f cs) (hp:cs.all SV.plain=true) (hn:n*72≤140737488355328) (hi:i < n) (vj:br (f i).key) (ic:br aG) (hf:br g) (ht:br tag)
  (hB: ∃ u rd ds,s.box u=some ⟨rd,ds⟩∧ds.all SV.plain=true∧kZ u m g sv ds) (hm:m≤65536) {dst:Option Nat} {K:AS→Prop}
  (h0: ∀ j,wX m i f aG g tag pn y=some j→K ((⟨s.env,upd (upd s.box nm none) (nm+1) none,s.next⟩:AS).put dst (some (.inr [.inr (eV 0 rM (.inl (.slice none 0 0)) 0 0), .inl (.inl (gH j))]))))
  (hk:wX m i f aG g tag pn y=none→ ∀ sv bx o bo,kz nm (n - 1) (GP f i) sv bx→kA (nm+1) m (gu (f i).key g) o bo→K ((⟨s.env,upd (upd s.box nm bx) (nm+1) bo,s.next⟩:AS).put dst (some (.inr [.inr (eV 0 { x with store:=sv } o (f i).ep (f i).n), .inl (.inl .nilIface)])))):
  bA Tryz.prog nm 30 (some [Ag (bC x),Ag (fT aG pn y sv tag),I .i64 i]) dst K s:=by
 obtain ⟨u,rd,ds,hb',hq,hv⟩:=hB
 obtain ⟨v0,g0,e0⟩:=xd.name (k:=0)
 obtain ⟨w0,g1,e1⟩:=hv.name 1
 refine yg (E:=wX m i f aG g tag pn y) (A:=wY n m i x f g) (U8 (s:={ x with store:=v0 }) (pn:=pn) (x:=y) g0 hp hn hi vj ic hf ht g1 hq hm) (fun v out h=>Vp (s:={ x with store:=v0 }) h) (two t u) (ie hb hp hb' hq) ?_ h0 hk
 simp only[List.map_cons,List.map_nil,eM,lX,e0 (two t u) rfl,e1 (two t u) rfl];rfl
theorem QB {f:Nat→En} {aG:Nat→Int} {x:Int} {i:Nat}: ∀ {n},lM f aG x n=some i→i < n
 | 0,h=>by cases h
 | n+1,h=>by
  rw[lM]at h
  cases h1:lM f aG x n with
  | some j=>rw[h1]at h;cases h;have:=QB h1;omega
  | none=>rw[h1]at h;dsimp only at h;split at h<;>cases h;omega
def Fv:bn:=
 let e0:bn:=(.cons 3 .nil .nil)
 let e1:bn:=(.cons 2 e0 .nil)
 let e2:bn:=(.cons 1 e0 .nil)
 let e3:bn:=(.cons 1 e1 (.cons 2 e2 .nil))
 let e4:bn:=(.cons 0 e1 .nil)
 let e5:bn:=(.cons 0 e3 (.cons 1 e4 .nil))
 e5
theorem NN {s:St} {n L o c:Nat} {f:Nat→En} {g:Nat→Int} {cs ds:List SV} (h0:aH 0 s.store n f cs) (hp:cs.all SV.plain=true) (hs:gy s) (hf: ∀ i,nV (f i)) (hn:n*72≤140737488355328) (hv:aZ ds o L g) (hq:ds.all SV.plain=true) (hc:L≤c) (hL:L < 140737488355328) (hg:br g):
  gL Tryz.prog 16 [Ag (bC s),Sl 1 o L c] 2 2 (lk [(0,⟨false,cs⟩),(1,⟨false,ds⟩)]) (CL 2 (jH s n f L g) (qm s n f L g)):=by
 refine dF Tryz.func16 rfl (by kernel_rfl) [10,11] [] (by simp[Tryz.ntmps16]) Tryz.tK (by decide) (fun y hy=>by
  simp only[List.mem_cons,List.not_mem_nil,or_false]at hy
  rcases hy with rfl | rfl
  ·exact bF (h0.ok (by decide))
  ·exact (show 1 < 2 by decide)) lC (nU hp hq) ?_
 have CY: ∀ {box:Nat→Option aN},box 0=some ⟨false,cs⟩→jv box s.store n f:=fun hb=>⟨0,false,cs,hb,hp,h0⟩
 have zT:AV.plain (.inr [.inr (eV 0 rM (.inl (.slice none 0 0)) 0 0), .inl (.inl (.pointer none))])=true:=by rfl
 simp only[Tryz.results16,iZ,Tryz.di,vL,seval, -List.reduceReplicate]
 refine jv.calls (n:=n) (f:=f) (w:=B (jn s n f)) (CY (by simp only[vP,seval, -List.reduceReplicate])) rfl (fun v cs hv hp=>by have:=Wq (s:={ s with store:=v }) hv hp (hs.ws v) hf (by omega);rwa [MH]at this) ?_
 simp only[iZ,Tryz.di,vL,seval, -List.reduceReplicate]
 rcases Bool.eq_false_or_eq_true (jn s n f) with hb | hb
 rotate_left 1
 ·simp only[hb,Bool.not_false,iZ,Tryz.di,vL,seval, -List.reduceReplicate]
  refine .inr ⟨by kernel_rfl,Fv,by kernel_rfl, ?_⟩
  simp only[Fv,dv,iZ,Tryz.di,vL,seval, -List.reduceReplicate]
  (repeat' apply And.intro)<;>
   exact eY (q:=0) (v:= .inr [.inr (eV 0 rM (.inl (.slice none 0 0)) 0 0), .inl (.inl (gH 0))]) (by rfl) (.inl ⟨0,by simp[jH,hb],rfl,rfl⟩)
 simp only[hb,Bool.not_true,iZ,Tryz.di,vL,seval, -List.reduceReplicate]
 refine G1 (rw:=false) (cs:=ds) hg hv (by simp only[vP,seval, -List.reduceReplicate]) hq hc hL ?_ ?_
 ·intro nT
  simp only[zp,iZ,Tryz.di,vL,seval, -List.reduceReplicate]
  refine ⟨by kernel_rfl, ?_⟩
  simp only[Bool.not_false,iZ,Tryz.di,vL,seval, -List.reduceReplicate]
  refine .inr ⟨by kernel_rfl,Fv,by kernel_rfl, ?_⟩
  simp only[Fv,dv,iZ,Tryz.di,vL,seval, -List.reduceReplicate]
  (repeat' apply And.intro)<;>
   exact eY (q:=0) (v:= .inr [.inr (eV 0 rM (.inl (.slice none 0 0)) 0 0), .inl (.inl (gH 4))]) (by rfl) (.inl ⟨4,by simp[jH,hb,nT],rfl,rfl⟩)
 intro nT sv bx hB
 simp only[YA,iZ,Tryz.di,vL,seval, -List.reduceReplicate]
 refine ⟨by kernel_rfl, ?_⟩
 simp only[Bool.not_true,iZ,Tryz.di,vL,seval, -List.reduceReplicate]
 rcases Bool.eq_false_or_eq_true (dW g 37==4294967295) with h3 | h3
 ·have h3':dW g 37=4294967295:=by simpa using h3
  simp only[h3,iZ,Tryz.di,vL,seval, -List.reduceReplicate]
  refine .inr ⟨by kernel_rfl,Fv,by kernel_rfl, ?_⟩
  simp only[Fv,dv,iZ,Tryz.di,vL,seval, -List.reduceReplicate]
  (repeat' apply And.intro)<;>
   exact eY (q:=0) (v:= .inr [.inr (eV 0 rM (.inl (.slice none 0 0)) 0 0), .inl (.inl (gH 3))]) (by rfl) (.inl ⟨3,by simp[jH,hb,nT,h3'],rfl,rfl⟩)
 have h3': ¬ dW g 37=4294967295:=by simpa using h3
 simp only[h3,iZ,Tryz.di,vL,seval, -List.reduceReplicate]
 refine (RR (aG:=g9 g) (pn:=dW g 33) (x:=dW g 37) h0 hp (by omega)).cW (fun _=>0) (bS (rw:=false) (by simp only[vP,seval, -List.reduceReplicate]) hp) (by rfl) ?_ ?_
 ·have e:=h0.aI (r:=fun _=>0) rfl
  have e2:AV.aI (fun _=>0) (.inl (.inl s.store))= .inl (.inl s.store):=congrArg (fun z=>Sum.inl (Sum.inl z)) e
  simp only[List.map_cons,List.map_nil,e2,AV.bB dU]
 have hl:fx s n=true:=by
  have h:=hb;simp only[jn,Bool.and_eq_true]at h;exact h.1.1.1.1.1
 have hm:L - 77≤65536:=by have:=lf.1 nT;have:=this.2.1;omega
 rcases hH:lM f (g9 g) (dW g 37) n with _ | i
 ·have d0:decide ((-1:Int)≥0)=false:=rfl
  have d1:decide ((0:Int)≤ -1)=false:=rfl
  simp only[RQ,d0,d1,decide_false,decide_true,iZ,Tryz.di,vL,seval, -List.reduceReplicate]
  refine ⟨by decide, ?_⟩
  simp only[iZ,Tryz.di,vL,seval, -List.reduceReplicate]
  refine K9 (t:=0) (ra:=false) (cs:=cs) (f:=f) (g:=jc g) (m:=L - 77) (by simp only[vP,seval, -List.reduceReplicate]) h0 hp hs hl hn (fun i=>hg _) (fun i=>hg _) (fun i=>hg _) (hB _ (by simp only[vP,seval, -List.reduceReplicate]) (by simp only[vP,seval, -List.reduceReplicate])) hm (PJ hg _) (PJ hg _) (fun i hE=> ?_) (fun hE U9 Xf o1 YB hS hO=> ?_)
  ·simp only[iZ,Tryz.di,vL,seval, -List.reduceReplicate]
   exact eY (q:=0) (v:= .inr [.inr (eV 0 rM (.inl (.slice none 0 0)) 0 0), .inl (.inl (gH i))]) (by rfl) (.inl ⟨i,by simp[jH,hb,nT,h3',hH];exact hE,rfl,rfl⟩)
  ·have eE:jH s n f L g=none:=by simp[jH,hb,nT,h3',hH];exact hE
   have eA:qm s n f L g=oK s n (L - 77) f (g9 g) (jc g) (dW g 33) (dW g 37):=by unfold qm;rw[hH]
   simp only[iZ,Tryz.di,vL,seval, -List.reduceReplicate]
   rw[eA]
   exact KZ eE hS hO (by decide) (by decide) (by decide) (by simp only[AS.mem,AS.put,vP,seval, -List.reduceReplicate]) (by simp only[AS.mem,AS.put,vP,seval, -List.reduceReplicate])
 ·have d0:decide ((i:Int)≥0)=true:=decide_eq_true (by omega)
  have d1:decide (0≤(i:Int))=true:=decide_eq_true (by omega)
  have hi:=QB hH
  simp only[RQ,d0,d1,decide_false,decide_true,iZ,Tryz.di,vL,seval, -List.reduceReplicate]
  refine ⟨by decide, ?_⟩
  simp only[iZ,Tryz.di,vL,seval, -List.reduceReplicate]
  refine NM (t:=0) (ra:=false) (cs:=cs) (f:=f) (g:=jc g) (m:=L - 77) (by simp only[vP,seval, -List.reduceReplicate]) h0 hp hn hi (hf i).key (fun i=>hg _) (fun i=>hg _) (fun i=>hg _) (hB _ (by simp only[vP,seval, -List.reduceReplicate]) (by simp only[vP,seval, -List.reduceReplicate])) hm (fun j hE=> ?_) (fun hE U9 Xf o1 YB hS hO=> ?_)
  ·simp only[iZ,Tryz.di,vL,seval, -List.reduceReplicate]
   exact eY (q:=0) (v:= .inr [.inr (eV 0 rM (.inl (.slice none 0 0)) 0 0), .inl (.inl (gH j))]) (by rfl) (.inl ⟨j,by simp[jH,hb,nT,h3',hH];exact hE,rfl,rfl⟩)
  ·have eE:jH s n f L g=none:=by simp[jH,hb,nT,h3',hH];exact hE
   have eA:qm s n f L g=wY n (L - 77) i s f (jc g):=by unfold qm;rw[hH]
   simp only[iZ,Tryz.di,vL,seval, -List.reduceReplicate]
   rw[eA]
   exact KZ (A:=wY n (L - 77) i s f (jc g)) eE hS hO (by decide) (by decide) (by decide) (by simp only[AS.mem,AS.put,vP,seval, -List.reduceReplicate]) (by simp only[AS.mem,AS.put,vP,seval, -List.reduceReplicate])
def QJ (n:Nat) (f g:Nat→Int):Bool:=decide ((List.range n).map f=(List.range n).map g)
theorem G2 {n:Nat} {f g:Nat→Int}:QJ n f g=true↔ ∀ i,i < n→f i=g i:=by
 unfold QJ
 rw[decide_eq_true_eq]
 constructor
 ·intro h i hi
  have:=congrArg (fun l:List Int=>l[i]?) h
  simpa[List.getElem?_range hi] using this
 ·intro h
  exact List.map_congr_left fun i hi=>h i (List.mem_range.1 hi)
theorem Vq {o n c at':Nat} {f:Nat→Int} {cs:List SV} (hs:aZ cs o n f) (hp:cs.all SV.plain=true) (h:at'+32≤n) (hn:n < 140737488355328):
  bf Tryz.prog 36 [Sl 0 o n c,I .i64 at'] 1 (lk [(0,⟨false,cs⟩)]) (fun v out=>v=Ag (af .u8 32 (fun i=>f (at'+i)))∧out=fun _=>none):=by
 refine av Tryz.func36 rfl (by kernel_rfl) (by simp[Tryz.ntmps36]) Tryz.pj (by simp[AV.ok,CV.ok,SV.names]) dG (dH hp) ?_
 have fO: ∀ {M:Nat→Prop},(∀ x ∈ cs,SV.ok M x)=True:=eq_true (aC hp)
 simp only[Tryz.results36,vR,seval, -List.reduceReplicate]
 refine aE 32 (fun k=>[(0,Sl 0 o n c),(1,I .i64 at'),(4,Ptr 1 0),(5,Ptr 2 0),(6,I .i64 k)])
  (fun k=>[(0,⟨false,cs⟩),(1,⟨true,af .u8 32 (fun _=>0)⟩),(2,⟨true,af .u8 32 (fun i=>if i < k then f (at'+i) else 0)⟩)]) _ ?_ ?_ ?_
 ·simp only[fO,Nat.not_lt_zero,if_false,vR,seval, -List.reduceReplicate]
 ·intro k hk
  have a3:((k:Int) < 32)=True:=bX (m:=32) hk
  have d1:decide (0≤(at':Int))=true:=decide_eq_true (by omega)
  have w1:IntKind.i64.wrap ((at':Int)+(k:Int))=((at'+k:Nat):Int):=Es _ _ (by omega)
  have d2:decide (((at'+k:Nat):Int) < (n:Int))=true:=decide_eq_true (by omega)
  have l2:(((at'+k:Nat):Int) < (n:Int))=True:=eq_true (by omega)
  have fin:af .u8 32 (upd (fun i=>if i < k then f (at'+i) else 0) k (f (at'+k)))=af .u8 32 (fun i=>if i < k+1 then f (at'+i) else 0):=fk (f:=fun i=>f (at'+i))
  simp only[vR,seval, -List.reduceReplicate]
  refine az (by simp;omega) ?_
  simp only[d1,l2,w1,a3,hs (at'+k) (by omega),aW,Nat.mul_one,aB .u8 32 _ k hk,fin,bt k (by omega),decide_true,vR,seval, -List.reduceReplicate]
  exact ⟨by omega,aC hp⟩
 ·simp only[vR,seval, -List.reduceReplicate]
  refine aD (by simp) ?_
  simp only[dL,vR,seval, -List.reduceReplicate]
  exact ak (v:=Ag (af .u8 32 (fun i=>f (at'+i)))) aw ⟨rfl,rfl⟩
theorem RZ {s:AS} {nm t o n c:Nat} {a:Int} {at':Nat} {rw:Bool} {f:Nat→Int} {cs:List SV} (ha:a=at') (hb:s.box t=some ⟨rw,cs⟩) (hs:aZ cs o n f) (hp:cs.all SV.plain=true) (h:at'+32≤n) (hn:n < 140737488355328) {dst:Option Nat} {K:AS→Prop}
  (hk:K (s.put dst (some (Ag (af .u8 32 (fun i=>f (at'+i))))))):ax Tryz.prog nm 36 (some [Sl t o n c,I .i64 a]) dst K s:=by
 subst ha
 exact (Vq hs hp h hn).cW (fun _=>t) (bS hb hp) (by simpa[AV.plain,CV.plain] using aw) rfl hk
theorem ae7 {a b c d:Int} (ha:0≤a∧a < 256) (hb:0≤b∧b < 256) (hc:0≤c∧c < 256) (hd:0≤d∧d < 256):
  IntKind.u32.wrap (IntKind.u32.wrap (IntKind.u32.wrap (gp .u32 (IntKind.u32.wrap a) 24+gp .u32 (IntKind.u32.wrap b) 16)+gp .u32 (IntKind.u32.wrap c) 8)+IntKind.u32.wrap d)=a*16777216+b*65536+c*256+d:=by
 have e1:IntKind.u32.wrap a=a:=dt _ (by omega) (by omega)
 have e2:IntKind.u32.wrap b=b:=dt _ (by omega) (by omega)
 have e3:IntKind.u32.wrap c=c:=dt _ (by omega) (by omega)
 have e4:IntKind.u32.wrap d=d:=dt _ (by omega) (by omega)
 have s1:gp .u32 a 24=a*16777216:=by
  have:=iK .u32 a 24 (by decide)
  rw[show (24:Int)=((24:Nat):Int) from rfl,this,wrap_u32];omega
 have s2:gp .u32 b 16=b*65536:=by
  have:=iK .u32 b 16 (by decide)
  rw[show (16:Int)=((16:Nat):Int) from rfl,this,wrap_u32];omega
 have s3:gp .u32 c 8=c*256:=by
  have:=iK .u32 c 8 (by decide)
  rw[show (8:Int)=((8:Nat):Int) from rfl,this,wrap_u32];omega
 rw[e1,e2,e3,e4,s1,s2,s3]
 rw[dt (a*16777216+b*65536) (by omega) (by omega),dt (a*16777216+b*65536+c*256) (by omega) (by omega),dt _ (by omega) (by omega)]
theorem Xt {n:Nat} {f:Nat→Int} {o c:Nat} {cs:List SV} (hf:br f) (hc:aZ cs o n f) (hp:cs.all SV.plain=true) (t:Nat) (ht:t+4≤n) (hn:n < 140737488355328):
  bf Tryz.prog 37 [Sl 0 o n c,I .i64 ((t:Nat):Int)] 1 (lk [(0,⟨false,cs⟩)]) (fun v out=>v=I .u32 (dW f t)∧out=fun _=>none):=by
 refine av Tryz.func37 rfl (by kernel_rfl) (by simp[Tryz.ntmps37]) Tryz.po (by simp[AV.ok,CV.ok,SV.names]) dG (dH hp) ?_
 have a0:=hc t (by omega)
 have a1:=hc (t+1) (by omega)
 have a2:=hc (t+2) (by omega)
 have a3:=hc (t+3) (by omega)
 have w1:IntKind.i64.wrap ((t:Int)+1)=((t+1:Nat):Int):=wrap_i64 _ (by omega) (by omega)
 have w2:IntKind.i64.wrap ((t:Int)+2)=((t+2:Nat):Int):=wrap_i64 _ (by omega) (by omega)
 have w3:IntKind.i64.wrap ((t:Int)+3)=((t+3:Nat):Int):=wrap_i64 _ (by omega) (by omega)
 have w4:IntKind.i64.wrap ((t:Int)+4)=((t+4:Nat):Int):=wrap_i64 _ (by omega) (by omega)
 have d1:decide ((t:Int) < 0)=false:=decide_eq_false (by omega)
 have d2:decide ((n:Int) < ((t+4:Nat):Int))=false:=decide_eq_false (by omega)
 have l0:((t:Int) < (n:Int))=True:=eq_true (by omega)
 have l1:(((t+1:Nat):Int) < (n:Int))=True:=eq_true (by omega)
 have l2:(((t+2:Nat):Int) < (n:Int))=True:=eq_true (by omega)
 have l3:(((t+3:Nat):Int) < (n:Int))=True:=eq_true (by omega)
 have e:=ae7 (hf t) (hf (t+1)) (hf (t+2)) (hf (t+3))
 simp only[Tryz.results37,w1,w2,w3,w4,d1,d2,l0,l1,l2,l3,aW,a0,a1,a2,a3,Nat.mul_one,e,vR,seval, -List.reduceReplicate]
 exact ⟨by kernel_rfl,ak rfl ⟨rfl,rfl⟩⟩
theorem CN {s:AS} {nm t o n c:Nat} {a:Int} {at':Nat} {rw:Bool} {f:Nat→Int} {cs:List SV} (hf:br f) (ha:a=at') (hb:s.box t=some ⟨rw,cs⟩) (hs:aZ cs o n f) (hp:cs.all SV.plain=true) (h:at'+4≤n) (hn:n < 140737488355328) {dst:Option Nat} {K:AS→Prop}
  (hk:K (s.put dst (some (I .u32 (dW f at'))))):ax Tryz.prog nm 37 (some [Sl t o n c,I .i64 a]) dst K s:=by
 subst ha
 exact (Xt hf hs hp at' h hn).cW (fun _=>t) (bS hb hp) rfl rfl hk
theorem R0 {n:Nat} {f g:Nat→Int} {j:Nat} (hj:j < n) (h:f j≠g j):QJ n f g=false:=by
 rw[Bool.eq_false_iff];intro e;exact h (G2.1 e j hj)
theorem NP {n:Nat} {f g:Nat→Int} {o o' c c':Nat} {cs ds:List SV} (hc:aZ cs o n f) (hd:aZ ds o' n g) (hp:cs.all SV.plain=true) (hq:ds.all SV.plain=true) (hn:n < 4611686018427387904):
  bf Tryz.prog 38 [Sl 0 o n c,Sl 1 o' n c'] 2 (lk [(0,⟨false,cs⟩),(1,⟨false,ds⟩)]) (fun v out=>v=B (QJ n f g)∧out=fun _=>none):=by
 refine av Tryz.func38 rfl (by kernel_rfl) (by simp[Tryz.ntmps38]) Tryz.tZ (by simp[AV.ok,CV.ok,SV.names]) lC (nU hp hq) ?_
 have fO: ∀ {M:Nat→Prop},(∀ x ∈ cs,SV.ok M x)=True:=eq_true (aC hp)
 have jX: ∀ {M:Nat→Prop},(∀ x ∈ ds,SV.ok M x)=True:=eq_true (aC hq)
 simp only[Tryz.results38,bne_self_eq_false,vR,seval, -List.reduceReplicate]
 refine qE n (fun k=> ∀ i,i < k→f i=g i) (fun k=>[(0,Sl 0 o n c),(1,Sl 1 o' n c'),(5,I .i64 k)])
  (fun k=>[(0,⟨false,cs⟩),(1,⟨false,ds⟩)]) _ ?_ ?_ ?_
 ·refine ⟨fun i hi=>by omega, ?_⟩
  simp only[fO,jX,vR,seval, -List.reduceReplicate]
 ·intro j hj hinv
  simp only[vR,seval, -List.reduceReplicate]
  refine az (by simp;omega) ?_
  simp only[aW,cF hj,hc j hj,hd j hj,bt j (by omega),vR,seval, -List.reduceReplicate]
  refine ⟨by kernel_rfl, ?_⟩
  by_cases h:f j=g j
  ·have e1:(f j != g j)=false:=by simp[h]
   simp only[e1,bt j (by omega),vR,seval, -List.reduceReplicate]
   refine ⟨fun i hi=> ?_,aC hp,aC hq⟩
   rcases Nat.lt_or_ge i j with h1 | h1
   ·exact hinv i h1
   ·rw[show i=j by omega];exact h
  ·have e1:(f j != g j)=true:=by simp[h]
   simp only[e1,vR,seval, -List.reduceReplicate]
   exact ak rfl ⟨by rw[R0 hj h],rfl⟩
 ·intro hinv
  simp only[vR,seval, -List.reduceReplicate]
  refine aD (by simp) ?_
  simp only[vR,seval, -List.reduceReplicate]
  exact ak rfl ⟨by rw[G2.2 hinv],rfl⟩
theorem JW {x:Int} (h0:0≤x) (h1:x < 4294967296):fC x 0*16777216+fC x 1*65536+fC x 2*256+fC x 3=x:=by
 have e0:fC x 0=x / 16777216%256:=by
  show IntKind.u8.wrap (x.fdiv 16777216)=_
  rw[Int.fdiv_eq_ediv_of_nonneg _ (by decide),wrap_u8]
 have e1:fC x 1=x / 65536%256:=by
  show IntKind.u8.wrap (x.fdiv 65536)=_
  rw[Int.fdiv_eq_ediv_of_nonneg _ (by decide),wrap_u8]
 have e2:fC x 2=x / 256%256:=by
  show IntKind.u8.wrap (x.fdiv 256)=_
  rw[Int.fdiv_eq_ediv_of_nonneg _ (by decide),wrap_u8]
 have e3:fC x 3=x%256:=by
  show IntKind.u8.wrap (x.fdiv 1)=_
  rw[Int.fdiv_eq_ediv_of_nonneg _ (by decide),wrap_u8,Int.ediv_one]
 rw[e0,e1,e2,e3];omega
section
variable {aG tag body:Nat→Int} {pn n:Int} {m:Nat}
theorem YC:xW aG pn n m body tag 0=210:=by
 simp only[xW,aP];rw[if_pos (by omega)];rfl
theorem Xu (i:Nat) (hi:i < 32):xW aG pn n m body tag (1+i)=aG i:=by
 simp only[xW,aP]
 rw[if_pos (by omega),if_pos (by omega),if_pos (by omega),if_pos (by omega),if_pos (by omega),if_neg (by omega),show 1+i - 1=i by omega]
theorem aad (i:Nat) (hi:i < 4):xW aG pn n m body tag (33+i)=fC pn i:=by
 simp only[xW,aP]
 rw[if_pos (by omega),if_pos (by omega),if_pos (by omega),if_pos (by omega),if_neg (by omega),show 33+i - 33=i by omega]
theorem acV (i:Nat) (hi:i < 4):xW aG pn n m body tag (37+i)=fC n i:=by
 simp only[xW,aP]
 rw[if_pos (by omega),if_pos (by omega),if_pos (by omega),if_neg (by omega),show 37+i - 37=i by omega]
theorem La (i:Nat) (hi:i < 4):xW aG pn n m body tag (41+i)=fC m i:=by
 simp only[xW,aP]
 rw[if_pos (by omega),if_pos (by omega),if_neg (by omega),show 41+i - 41=i by omega]
theorem Vr (i:Nat) (hi:i < m):xW aG pn n m body tag (45+i)=body i:=by
 simp only[xW,aP]
 rw[if_pos (by omega),if_neg (by omega),show 45+i - 45=i by omega]
theorem Xv (i:Nat) (hi:i < 32):xW aG pn n m body tag (45+m+i)=tag i:=by
 simp only[xW,aP]
 rw[if_neg (by omega),show 45+m+i - (45+m)=i by omega]
theorem aae (h1:m≤65536):dW (xW aG pn n m body tag) 41=m:=by
 have a0:=La (aG:=aG) (pn:=pn) (n:=n) (m:=m) (body:=body) (tag:=tag) 0 (by decide)
 have a1:=La (aG:=aG) (pn:=pn) (n:=n) (m:=m) (body:=body) (tag:=tag) 1 (by decide)
 have a2:=La (aG:=aG) (pn:=pn) (n:=n) (m:=m) (body:=body) (tag:=tag) 2 (by decide)
 have a3:=La (aG:=aG) (pn:=pn) (n:=n) (m:=m) (body:=body) (tag:=tag) 3 (by decide)
 simp only[Nat.add_zero]at a0
 simp only[dW,a0,a1,a2,a3]
 exact JW (by omega) (by omega)
end
theorem CO {f:Nat→Int} (hf:br f) (a:Nat): ∀ j,j < 4→fC (dW f a) j=f (a+j):=by
 have h0:=hf a;have h1:=hf (a+1);have h2:=hf (a+2);have h3:=hf (a+3)
 intro j hj
 have:j=0∨j=1∨j=2∨j=3:=by omega
 rcases this with rfl | rfl | rfl | rfl
 ·show IntKind.u8.wrap ((dW f a).fdiv 16777216)=f a
  rw[Int.fdiv_eq_ediv_of_nonneg _ (by decide),wrap_u8,dW];omega
 ·show IntKind.u8.wrap ((dW f a).fdiv 65536)=_
  rw[Int.fdiv_eq_ediv_of_nonneg _ (by decide),wrap_u8,dW];omega
 ·show IntKind.u8.wrap ((dW f a).fdiv 256)=_
  rw[Int.fdiv_eq_ediv_of_nonneg _ (by decide),wrap_u8,dW];omega
 ·show IntKind.u8.wrap ((dW f a).fdiv 1)=_
  rw[Int.fdiv_eq_ediv_of_nonneg _ (by decide),wrap_u8,Int.ediv_one,dW];omega
theorem Xw {f:Nat→Int} {L:Nat} (hf:br f) (h:K0 L f) (i:Nat) (hi:i < L):xW (fun i=>f (1+i)) (dW f 33) (dW f 37) (L - 77) (fun i=>f (45+i)) (fun i=>f (45+(L - 77)+i)) i=f i:=by
 obtain ⟨h1,h2,h3,h4⟩:=h
 by_cases a0:i < 1
 ·obtain rfl:i=0:=by omega
  rw[YC,h3]
 by_cases a1:i < 33
 ·have:=Xu (aG:=fun i=>f (1+i)) (pn:=dW f 33) (n:=dW f 37) (m:=L - 77) (body:=fun i=>f (45+i)) (tag:=fun i=>f (45+(L - 77)+i)) (i - 1) (by omega)
  rw[show 1+(i - 1)=i by omega]at this;exact this
 by_cases a2:i < 37
 ·have:=aad (aG:=fun i=>f (1+i)) (pn:=dW f 33) (n:=dW f 37) (m:=L - 77) (body:=fun i=>f (45+i)) (tag:=fun i=>f (45+(L - 77)+i)) (i - 33) (by omega)
  rw[CO hf 33 _ (by omega),show 33+(i - 33)=i by omega]at this;exact this
 by_cases a3:i < 41
 ·have:=acV (aG:=fun i=>f (1+i)) (pn:=dW f 33) (n:=dW f 37) (m:=L - 77) (body:=fun i=>f (45+i)) (tag:=fun i=>f (45+(L - 77)+i)) (i - 37) (by omega)
  rw[CO hf 37 _ (by omega),show 37+(i - 37)=i by omega]at this;exact this
 by_cases a4:i < 45
 ·have:=La (aG:=fun i=>f (1+i)) (pn:=dW f 33) (n:=dW f 37) (m:=L - 77) (body:=fun i=>f (45+i)) (tag:=fun i=>f (45+(L - 77)+i)) (i - 41) (by omega)
  rw[← h4,CO hf 41 _ (by omega),show 41+(i - 41)=i by omega]at this;exact this
 by_cases a5:i < 45+(L - 77)
 ·have:=Vr (aG:=fun i=>f (1+i)) (pn:=dW f 33) (n:=dW f 37) (m:=L - 77) (body:=fun i=>f (45+i)) (tag:=fun i=>f (45+(L - 77)+i)) (i - 45) (by omega)
  rw[show 45+(i - 45)=i by omega]at this;exact this
 ·have:=Xv (aG:=fun i=>f (1+i)) (pn:=dW f 33) (n:=dW f 37) (m:=L - 77) (body:=fun i=>f (45+i)) (tag:=fun i=>f (45+(L - 77)+i)) (i - (45+(L - 77))) (by omega)
  rw[show 45+(L - 77)+(i - (45+(L - 77)))=i by omega]at this;exact this
theorem R1 {f g:Nat→Int} {a:Nat} (h: ∀ i,i < 4→f (a+i)=g (a+i)):dW f a=dW g a:=by
 have h0:=h 0 (by decide);have h1:=h 1 (by decide);have h2:=h 2 (by decide);have h3:=h 3 (by decide)
 simp only[Nat.add_zero]at h0
 unfold dW;rw[h0,h1,h2,h3]
theorem frame_eq {L:Nat} {g:Nat→Int} (hg:br g) (h1:77≤L) (h2:L≤65613):QJ (45+(L - 77)+32) (xW (g9 g) (dW g 33) (dW g 37) (L - 77) (jc g) (zJ L g)) g=nR L g:=by
 have e:45+(L - 77)+32=L:=by omega
 rw[e,Bool.eq_iff_iff,G2,lf]
 constructor
 ·intro h
  refine ⟨h1,h2,by rw[← h 0 (by omega)];exact YC, ?_⟩
  have:=aae (aG:=g9 g) (pn:=dW g 33) (n:=dW g 37) (m:=L - 77) (body:=jc g) (tag:=zJ L g) (by omega)
  rw[← this]
  exact R1 fun i hi=>(h (41+i) (by omega)).symm
 ·intro h i hi
  exact Xw hg h i hi
theorem NQ {s:AS} {nm t o n c:Nat} {a:Int} {at':Nat} {rw:Bool} {f:Nat→Int} {cs:List SV} (ha:a=at') (hb:s.box t=some ⟨rw,cs⟩) (hs:aZ cs o n f) (hp:cs.all SV.plain=true) (h:at'+32≤n) (hn:n < 140737488355328) {dst:Option Nat} {K:AS→Prop}
  (hk:K ((⟨s.env,upd s.box nm none,s.next⟩:AS).put dst (some (Ag (af .u8 32 (fun i=>f (at'+i))))))):bA Tryz.prog nm 36 (some [Sl t o n c,I .i64 a]) dst K s:=by
 subst ha
 exact (Vq hs hp h hn).Ga (fun _=>t) (bS hb hp) (by simpa[AV.plain,CV.plain] using aw) rfl hk
theorem G3 {s:AS} {nm t u n n' o o' c c':Nat} {f g:Nat→Int} {ra rb:Bool} {cs ds:List SV} (hlen:n'=n) (hb:s.box t=some ⟨ra,cs⟩) (hc:aZ cs o n' f) (hp:cs.all SV.plain=true) (hb':s.box u=some ⟨rb,ds⟩) (hd:aZ ds o' n g) (hq:ds.all SV.plain=true) (hn:n < 4611686018427387904) {dst:Option Nat} {K:AS→Prop}
  (hk:K (s.put dst (some (B (QJ n' f g))))):ax Tryz.prog nm 38 (some [Sl t o n' c,Sl u o' n c']) dst K s:=by
 subst hlen
 exact (NP hc hd hp hq hn).cW (two t u) (ie hb hp hb' hq) rfl rfl hk
def Lb (t:Nat) (v:AV) (n:Nat) (f:Nat→Int) (cs:List SV):Prop:=((∃ a,v=V (.slice a 0 0))∧n=0)∨ ∃ o c,v=Sl t o n c∧n≤c∧aZ cs o n f
theorem Lb.is {t n:Nat} {v:AV} {f:Nat→Int} {cs:List SV} (h:Lb t v n f cs):eH t v n f cs:=by
 rcases h with h | ⟨o,c,h,_,hs⟩
 ·exact .inl h
 ·exact .inr ⟨o,c,h,hs⟩
def aaf (k L:Nat) (g:Nat→Int) (v:AV) (out:Nat→Option aN):Prop:=
 (nR L g=false∧v=zp∧out=fun _=>none)∨(nR L g=true∧ ∃ c cs,v=YA L g (.inr (.inr (k,0,L - 77,c)))∧bK cs 0 (L - 77) c (jc g)∧out=lk [(k,⟨true,cs⟩)])
theorem Lc {L:Nat} {vp:AV} {g:Nat→Int} {cs:List SV} (hg:br g) (hv:Lb 0 vp L g cs) (hp:cs.all SV.plain=true) (hL:L < 140737488355328):
  bf Tryz.prog 22 [vp] 1 (lk [(0,⟨false,cs⟩)]) (aaf 1 L g):=by
 refine gX Tryz.func22 rfl (by kernel_rfl) [5] [] (by simp[Tryz.ntmps22]) Tryz.tP (fun y hy=>by
  obtain rfl:=List.mem_singleton.1 hy
  exact hv.is.ok (by decide)) dG (dH hp) ?_
 have hl:gR 1 (some [vp])=some (some (I .i64 L),none):=by
  rcases hv with ⟨⟨a,rfl⟩,rfl⟩ | ⟨o,c,rfl,_,_⟩<;>rfl
 have w0:IntKind.i64.wrap ((L:Int) - 77)=(L:Int) - 77:=by rw[IntKind.wrap_i64];omega
 simp only[Tryz.results22,hl,w0,bV,aK,aR,vL,seval, -List.reduceReplicate]
 refine ⟨by kernel_rfl, ?_⟩
 by_cases h1:L < 77
 ·have d1:decide ((L:Int) - 77 < 0)=true:=decide_eq_true (by omega)
  have e:nR L g=false:=by
   rw[Bool.eq_false_iff];intro h;have:=(lf.1 h).1;omega
  simp only[d1,bV,aK,aR,vL,seval, -List.reduceReplicate]
  exact ak jW (.inl ⟨e,rfl,rfl⟩)
 have d1:decide ((L:Int) - 77 < 0)=false:=decide_eq_false (by omega)
 by_cases h2:65613 < L
 ·have d2:decide ((L:Int) - 77 > 65536)=true:=decide_eq_true (by omega)
  have d3:decide (65536 < (L:Int) - 77)=true:=decide_eq_true (by omega)
  have e:nR L g=false:=by
   rw[Bool.eq_false_iff];intro h;have:=(lf.1 h).2.1;omega
  simp only[d1,d2,d3,bV,aK,aR,vL,seval, -List.reduceReplicate]
  exact ak jW (.inl ⟨e,rfl,rfl⟩)
 have d2:decide ((L:Int) - 77 > 65536)=false:=decide_eq_false (by omega)
 have d3:decide (65536 < (L:Int) - 77)=false:=decide_eq_false (by omega)
 rcases hv with ⟨_,rfl⟩ | ⟨o,c,rfl,hc,hs⟩
 ·omega
 simp only[d1,d2,d3,bV,aK,aR,vL,seval, -List.reduceReplicate]
 refine RZ (at':=1) rfl (t:=0) (rw:=false) (by simp only[vP,seval, -List.reduceReplicate]) hs hp (by omega) hL ?_
 simp only[bV,aK,aR,vL,seval, -List.reduceReplicate]
 refine CN (at':=33) hg rfl (t:=0) (rw:=false) (by simp only[vP,seval, -List.reduceReplicate]) hs hp (by omega) hL ?_
 simp only[bV,aK,aR,vL,seval, -List.reduceReplicate]
 refine CN (at':=37) hg rfl (t:=0) (rw:=false) (by simp only[vP,seval, -List.reduceReplicate]) hs hp (by omega) hL ?_
 simp only[bV,aK,aR,vL,seval, -List.reduceReplicate]
 refine ⟨by kernel_rfl, ?_⟩
 have w1:IntKind.i64.wrap (45+((L:Int) - 77))=((45+(L - 77):Nat):Int):=by rw[IntKind.wrap_i64];omega
 have l1:((45:Int)≤((45+(L - 77):Nat):Int))=True:=eq_true (by omega)
 have l2:(((45+(L - 77):Nat):Int)≤(c:Int))=True:=eq_true (by omega)
 have e1:(c=45)=False:=eq_false (by omega)
 have e2:45+(L - 77) - 45=L - 77:=by omega
 have sb:aZ cs (o+45) (L - 77) (jc g):=jM hs 45 (L - 77) (by omega)
 refine wk (by kernel_rfl) [0,2,3,4,5,7,8,9] [1,6,10,11] [12] [13] [20] [24,26,27,28,29,31,32,33,25,30,34,35,6] (by kernel_rfl) (by kernel_rfl) (by kernel_rfl) ?_
 simp only[w1,l1,l2,e1,e2,fS,bV,aK,aR,vL,seval, -List.reduceReplicate]
 refine Rd (m:=L - 77) (g:=jc g) Tryz.bP Tryz.bR (by simp only[vP,seval, -List.reduceReplicate]) (yf (m:=0) (G:=fun _=>0)) (.inr ⟨_,_,_,false,cs,rfl,by simp only[vP,seval, -List.reduceReplicate],sb,by decide⟩) (by omega) ?_
 intro c1 kk g1
 simp only[w1,l1,l2,e1,e2,fS,bV,aK,aR,vL,seval, -List.reduceReplicate]
 refine NQ (at':=45+(L - 77)) rfl (t:=0) (rw:=false) (by simp only[vP,seval, -List.reduceReplicate]) hs hp (by omega) hL ?_
 simp only[fS,bV,aK,aR,vL,seval, -List.reduceReplicate]
 replace g1:bK kk 0 (L - 77) c1 (jc g):=g1.congr (Nat.zero_add _) (fun i hi=>by unfold aP;rw[if_neg (by omega),Nat.sub_zero])
 refine ⟨by kernel_rfl, ?_⟩
 refine CF (z:=0) (rw:=false) (cs:=cs) (m:=L - 77) (body:=jc g) (by simp only[vP,seval, -List.reduceReplicate]) hp (.inr ⟨30,0,c1,true,kk,rfl,by simp only[vP,seval, -List.reduceReplicate],g1.plain,g1.shows⟩) (by omega) ?_
 intro c2 mD g2
 simp only[fS,bV,aK,aR,vL,seval, -List.reduceReplicate]
 refine G3 (by omega) (by simp only[vP,seval, -List.reduceReplicate]) g2.shows g2.plain (t:=_) (u:=0) (ra:=true) (rb:=false) (by simp only[vP,seval, -List.reduceReplicate]) hs hp (by omega) ?_
 have e3:QJ (45+(L - 77)+32) (xW (fun i=>g (1+i)) (dW g 33) (dW g 37) (L - 77) (jc g) fun i=>g (45+(L - 77)+i)) g=nR L g:=frame_eq hg (Nat.le_of_not_lt h1) (Nat.le_of_not_lt h2)
 rw[e3]
 rcases Bool.eq_false_or_eq_true (nR L g) with hF | hF
 ·simp only[hF,Bool.not_true,fS,bV,aK,aR,vL,seval, -List.reduceReplicate]
  exact qG (QA (k:=1) (by decide) (by simp only[AS.mem,AS.put,vP,seval, -List.reduceReplicate]) g1.plain) (fun v out h=> .inr ⟨hF,c1,kk,h.1,g1,h.2⟩)
 ·simp only[hF,Bool.not_false,fS,bV,aK,aR,vL,seval, -List.reduceReplicate]
  exact ak jW (.inl ⟨hF,rfl,rfl⟩)
theorem wZ {s:St}: ∀ k,(fJ s k).recv=Sn s.recv k
 | 0=>rfl
 | k+1=>by show qk (fJ s k).recv 2=_;rw[wZ k];rfl
theorem R2 {s:AS} {nm b t o N m c:Nat} {F f:Nat→En} {rw:Bool} {cs ds:List SV} {v:SV} (hb:s.box b=some ⟨true,cs⟩) (hg:bz cs o N c F) (ht:s.box t=some ⟨rw,ds⟩) (hne:b≠t) (hi:aH t v m f ds)
  (hby:(N+m)*72≤140737488355328) {ty:TypeId} {ct:Array Bool} {dst:Option Nat} {K:AS→Prop}
  (hK: ∀ c' cs',bz cs' 0 (N+m) c' (fun i=>if i < N then F i else f (i - N))→K ((⟨s.env,upd (upd s.box b none) nm (some ⟨true,cs'⟩),s.next⟩:AS).put dst (some (Sl nm 0 (N+m) c')))):
  bQ Tryz.prog nm .append #[25,25] ty ct (some [Sl b o N c, .inl (.inl v)]) dst K s:=by
 rcases hi with ⟨⟨a,rfl⟩,rfl⟩ | ⟨o',c0,rfl,_,hs⟩
 ·refine xH (by':=72) Tryz.jQ Tryz.ki hb hg (by omega) (by omega) fun c' cs' g=>hK c' cs' (g.congr rfl fun i hi=> ?_)
  rw[if_pos (by omega)]
 ·exact lG (by':=72) Tryz.jQ Tryz.ki hb hg ht hne hs hby (by omega) hK
def ae8 (k n:Nat) (f:Nat→En) (v:AV) (out:Nat→Option aN):Prop:= ∃ c cs,v=Sl k 0 n c∧bz cs 0 n c f∧out=lk [(k,⟨true,cs⟩)]
def sdS (s:St) (n j:Nat) (cA cK:Nat) (csA csK:List SV) (k:Nat):AS:=
 oZ [(1,I .i64 j),(2,Ptr 1 0),(5,Sl 60 0 (n+k) cA),(6,Sl 11 0 (j+1) cK),(7,I .i64 k)] [(60,⟨true,csA⟩),(1,⟨true,bC s⟩),(11,⟨true,csK⟩)] 100
theorem walk_call {s:AS} {nm n:Nat} {ch:Nat→Int} (hc:br ch) (hn:n < 1000000) {dst:Option Nat} {K:AS→Prop}
  (hk: ∀ c cs',kx cs' (n+1) c (zo ch n)→K ((⟨s.env,upd s.box nm (some ⟨true,cs'⟩),s.next⟩:AS).put dst (some (Sl nm 0 (n+1) c)))):
  ax Tryz.prog nm 42 (some [Ag (af .u8 32 ch),I .i64 n]) dst K s:=by
 refine (Z9 (n:=n) hc hn).ax (fun n=>n) none gF ?_ ?_
 ·simp only[List.map_cons,List.map_nil,fg];rfl
 ·rintro v out ⟨c,cs,rfl,hg,rfl⟩ _
  have e:AV.aI (dJ (fun n=>n) 0 nm) (Sl 0 0 (n+1) c)=Sl nm 0 (n+1) c:=by show Sl (dJ _ 0 nm 0) 0 (n+1) c=_;rw[gT]
  rw[fN hg.plain,e]
  exact hk c cs hg
theorem R3 {s:St} {n j:Nat} {f:Nat→En} {cs:List SV} (h0:aH 0 s.store n f cs) (hp:cs.all SV.plain=true) (hs:gy s) (hn:(n+j)*72≤140737488355328) (hj:j < 1000000) (Fm:0≤s.nr) (hx:s.nr+j < 4294967296):
  bf Tryz.prog 43 [Ag (bC s),I .i64 j] 1 (lk [(0,⟨false,cs⟩)]) (ae8 1 (n+j) (gA n f s)):=by
 refine gX Tryz.func43 rfl (by kernel_rfl) [] [] (by simp[Tryz.ntmps43]) Tryz.ud (fun y hy=>by
  simp only[List.mem_cons,List.not_mem_nil,or_false]at hy
  rcases hy with rfl | rfl
  ·exact bF (h0.ok (by decide))
  ·trivial) dG (dH hp) ?_
 simp only[Tryz.results43,qt,fS,bw,ao,bN,aK,aR,vL,seval, -List.reduceReplicate]
 have g0:bz [] 0 0 0 f:=⟨rfl,by decide,rfl,fun i hi=>by omega⟩
 refine R2 (t:=0) (rw:=false) (m:=n) (f:=f) (ds:=cs) (by simp only[vP,seval, -List.reduceReplicate]) g0 (by simp only[vP,seval, -List.reduceReplicate]) (by decide) h0 (by omega) ?_
 intro c1 kk g1
 replace g1:bz kk 0 n c1 f:=g1.congr (Nat.zero_add n) (fun i hi=>by rw[if_neg (by omega)];rfl)
 simp only[qt,fS,bw,ao,bN,aK,aR,vL,seval, -List.reduceReplicate]
 refine walk_call hs.recv hj ?_
 intro c2 mD g2
 simp only[qt,fS,bw,ao,bN,aK,aR,vL,seval, -List.reduceReplicate]
 refine Gd j (fun k t=> ∃ c cs',bz cs' 0 (n+k) c (gA n f s)∧t=sdS s n j c c2 cs' mD k) ?_ ?_ ?_ ?_
 ·rintro k t ⟨c,cs',_,rfl⟩;exact Nat.le_of_ble_eq_true rfl
 ·refine ⟨_,⟨c1,kk,g1.congr rfl (fun i hi=>by unfold gA;rw[if_pos (by omega)]),rfl⟩,eP.dq (p:=60) (q:=6) ⟨Nat.le_of_ble_eq_true rfl, .inr (TB (show 60≠6 by decide) (show 1≠6 by decide) (show 11≠6 by decide)),V' ⟨rfl,trivial⟩ ⟨rfl,show 1 < 100 by decide⟩ ⟨rfl,show 60 < 100 by decide⟩ ⟨rfl,show 11 < 100 by decide⟩ ⟨rfl,trivial⟩,
   TB ⟨.inr rfl,rfl,show 60 < 100 by decide, .inl g1.plain⟩ ⟨.inl (show 1 < 14 by decide),rfl,show 1 < 100 by decide, .inr (bF (h0.ok ⟨by decide,by decide⟩))⟩ ⟨.inl (show 11 < 14 by decide),rfl,show 11 < 100 by decide, .inl g2.plain⟩⟩⟩
 ·rintro k t hk ⟨c,cs',g3,rfl⟩
  simp only[sdS,dr,qt,fS,bw,ao,bN,aK,aR,vL,seval, -List.reduceReplicate]
  refine az (by simp;omega) ?_
  simp only[qt,fS,bw,ao,bN,aK,aR,vL,seval, -List.reduceReplicate]
  have l1:((k:Int) < ((j+1:Nat):Int))=True:=eq_true (by omega)
  have l2:(k*32+32≤mD.length)=True:=eq_true (by have:=g2.len;have:=g2.room;omega)
  have tk:List.take 32 (List.drop (k*32) mD)=af .u8 32 (zo s.recv j k):=kN (g2.key (by omega)) (Nat.le_refl 32)
  have w1:IntKind.u32.wrap (s.nr+IntKind.u32.wrap (k:Int))=s.nr+k:=by rw[dt (k:Int) (by omega) (by omega),dt _ (by omega) (by omega)]
  refine .inl ?_
  try simp only[l1,l2,tk,w1,Nv,ve,qt,fS,bw,ao,bN,aK,aR,vL,seval, -List.reduceReplicate]
  refine ⟨by kernel_rfl, ?_⟩
  try simp only[l1,l2,tk,w1,Nv,ve,qt,fS,bw,ao,bN,aK,aR,vL,seval, -List.reduceReplicate]
  have hent:Nu s k=⟨s.re,s.nr+k,s.zA,zo s.recv j k⟩:=by
   unfold Nu
   rw[CD Fm k (by omega),wZ,zo,if_pos hk];rfl
  refine ⟨by kernel_rfl, ?_⟩
  refine lG (by':=72) (rw:=true) (g:=fun _=>Nu s k) (m:=1) Tryz.jQ Tryz.ki (by simp only[vP,seval, -List.reduceReplicate]) g3 (by rw[hent];simp only[vP,seval, -List.reduceReplicate]) (by decide) rz (by omega) (by omega) ?_
  intro c4 C0 g4
  simp only[bt k (by omega),Nv,ve,qt,fS,bw,ao,bN,aK,aR,vL,seval, -List.reduceReplicate]
  refine ⟨_,⟨c4,C0,g4.congr rfl (rW (N:=n) (k:=k) (f:=f) (s:=s)),rfl⟩,eP.dq (p:=60) (q:=119) ⟨Nat.le_of_ble_eq_true rfl, .inl (Nat.le_of_ble_eq_true rfl),V' ⟨rfl,trivial⟩ ⟨rfl,show 1 < 100 by decide⟩ ⟨by simp only[vP,seval, -List.reduceReplicate];rfl,show 60 < 100 by decide⟩ ⟨rfl,show 11 < 100 by decide⟩ ⟨rfl,trivial⟩,
   TB ⟨.inr rfl,by simp only[ay,vP,seval, -List.reduceReplicate],show 60 < 100 by decide, .inl g4.plain⟩ ⟨.inl (show 1 < 14 by decide),rfl,show 1 < 100 by decide, .inr (bF (h0.ok ⟨by decide,by decide⟩))⟩ ⟨.inl (show 11 < 14 by decide),rfl,show 11 < 100 by decide, .inl g2.plain⟩⟩⟩
 ·rintro t ⟨c,cs',g3,rfl⟩
  simp only[sdS,dr,qt,fS,bw,ao,bN,aK,aR,vL,seval, -List.reduceReplicate]
  refine aD (by simp) ?_
  simp only[qt,fS,bw,ao,bN,aK,aR,vL,seval, -List.reduceReplicate]
  refine dV (k:=1) (cs:=cs') (by decide) (by simp only[vP,seval, -List.reduceReplicate]) g3.plain ⟨c,cs',rfl,g3,rfl⟩
theorem Ds {s:AS} {nm t n i:Nat} {x:St} {f:Nat→En} {rw:Bool} {cs:List SV} (hb:s.box t=some ⟨rw,cs⟩) (hp:cs.all SV.plain=true) (hi:aH t x.store n f cs) (Zt:i < 9) (hn:i≠0→n*72≤140737488355328) {dst:Option Nat} {K:AS→Prop}
  (h0:i=0→K ((⟨s.env,upd s.box nm none,s.next⟩:AS).put dst (some (Ag (eV 1 rM (.inl (.slice none 0 0)) 0 0)))))
  (hk:i≠0→ ∀ sv bx,iT nm n f sv bx→K ((⟨s.env,upd s.box nm bx,s.next⟩:AS).put dst (some (Ag (eV (rj i) { x with store:=sv } (.inl (.slice none 0 0)) 0 0))))):bA Tryz.prog nm 17 (some [Ag (bC x),V (gH i)]) dst K s:=by
 obtain ⟨v0,g0,e0⟩:=hi.name (k:=0)
 refine (Rh (s:={ x with store:=v0 }) g0 hp Zt hn).bA (fun _=>t) (bS hb hp) ?_ ?_
 ·simp only[List.map_cons,List.map_nil,eM,AV.bB (show AV.plain (V (gH i))=true from rfl),e0 (fun _=>t) rfl]
 ·rintro v out (⟨xd,rfl,rfl⟩ | ⟨xd,sv,rfl,hK⟩)
  ·rw[AV.bB (jV rfl rfl)]
   exact h0 xd
  ·rw[uK]
   exact hk xd _ _ (PV hK iN)
def gK (s:St) (n:Nat) (f:Nat→En) (L:Nat) (g:Nat→Int):G8:=match jH s n f L g with
 | some i=>if i=0 then ⟨1,rM,0,0,0,0,f,fun _=>0⟩ else ⟨rj i,s,0,0,n,0,f,fun _=>0⟩
 | none=>qm s n f L g
theorem QC {s:St} {n i:Nat} {a b:Int} (h:ni s n a b=some i):i < 9∧i≠0:=by
 unfold ni at h
 repeat' split at h
 all_goals first | (cases h;decide) | cases h
theorem Xx {s:St} {n i:Nat} {pr:Bool} {pn x:Int} (h:lN s n pr pn x=some i):i < 9∧i≠0:=by
 unfold lN at h
 repeat' split at h
 all_goals first | (cases h;decide) | exact QC h
theorem Xy {s:St} {n L i:Nat} {f:Nat→En} {g:Nat→Int} (h:jH s n f L g=some i):i < 9:=by
 unfold jH at h
 repeat' split at h
 all_goals first | (cases h;decide) | skip
 ·unfold wX at h
  split at h<;>cases h
  decide
 ·unfold mA at h
  split at h
  ·rename_i hs
   cases h
   exact (Xx hs).1
  ·split at h<;>cases h
   decide
theorem aag {s:St} {n L:Nat} {f:Nat→En} {g:Nat→Int}:(qm s n f L g).y=0:=by
 unfold qm;split<;>rfl
theorem Dt {s:St} {n L o c:Nat} {f:Nat→En} {g:Nat→Int} {cs ds:List SV} (h0:aH 0 s.store n f cs) (hp:cs.all SV.plain=true) (hs:gy s) (hf: ∀ i,nV (f i)) (hn:n*72≤140737488355328) (hv:aZ ds o L g) (hq:ds.all SV.plain=true) (hc:L≤c) (hL:L < 140737488355328) (hg:br g):
  gL Tryz.prog 6 [Ag (bC s),Sl 1 o L c] 2 2 (lk [(0,⟨false,cs⟩),(1,⟨false,ds⟩)]) (vg 2 (gK s n f L g)):=by
 refine dF Tryz.func6 rfl (by kernel_rfl) [1,3] [] (by simp[Tryz.ntmps6]) Tryz.xK (by decide) (fun y hy=>by
  simp only[List.mem_cons,List.not_mem_nil,or_false]at hy
  rcases hy with rfl | rfl
  ·exact bF (h0.ok (by decide))
  ·exact (show 1 < 2 by decide)) lC (nU hp hq) ?_
 simp only[Tryz.results6,iZ,Tryz.di,vL,seval, -List.reduceReplicate]
 refine ⟨by decide, ?_⟩
 simp only[iZ,Tryz.di,vL,seval, -List.reduceReplicate]
 refine yg (E:=jH s n f L g) (A:=qm s n f L g) (NN h0 hp hs hf hn hv hq hc hL hg) (fun v out h=>h) (two 0 1) (ie (rw:=false) (rw':=false) (by simp only[vP,seval, -List.reduceReplicate]) hp (by simp only[vP,seval, -List.reduceReplicate]) hq) ?_ (fun i hE=> ?_) (fun hE sv bx o bo hS hO=> ?_)
 ·have e2:SV.aI (two 0 1) s.store=s.store:=h0.aI rfl
  simp only[List.map_cons,List.map_nil,eM,e2];rfl
 ·have hni:lZ BinOp.neq true (some (Sum.inl (Sum.inl (Sum.inl (gH i)))))=some (some (B true),none):=rfl
  simp only[hni,bd,iZ,Tryz.di,vL,seval, -List.reduceReplicate]
  refine ⟨by decide, ?_⟩
  simp only[iZ,Tryz.di,vL,seval, -List.reduceReplicate]
  refine Ds (t:=0) (rw:=false) (i:=i) (cs:=cs) (by simp only[vP,seval, -List.reduceReplicate]) hp h0 (Xy hE) (fun _=>hn) (fun xd=> ?_) (fun xd sv bx hK=> ?_)
  ·have eD:gK s n f L g=⟨1,rM,0,0,0,0,f,fun _=>0⟩:=by unfold gK;rw[hE];exact if_pos xd
   simp only[iZ,Tryz.di,vL,seval, -List.reduceReplicate]
   rw[eD]
   exact eY (q:=0) (jV rfl rfl) ⟨.inl (.slice none 0 0), .inl (.slice none 0 0),rfl, .inl ⟨rfl,rfl,rfl⟩, .inl ⟨rfl,rfl,rfl⟩⟩
  ·have eD:gK s n f L g=⟨rj i,s,0,0,n,0,f,fun _=>0⟩:=by unfold gK;rw[hE];exact if_neg xd
   simp only[iZ,Tryz.di,vL,seval, -List.reduceReplicate]
   rw[eD]
   exact dE (A:=⟨rj i,s,0,0,n,0,f,fun _=>0⟩) (q':=999) (Vk hK) (.inl ⟨rfl,rfl,rfl⟩) (by decide) (by decide) (by decide) (by simp only[AS.mem,AS.put,vP,seval, -List.reduceReplicate]) (by rfl)
 ·simp only[bd,iZ,Tryz.di,vL,seval, -List.reduceReplicate]
  have eD:gK s n f L g=qm s n f L g:=by unfold gK;rw[hE]
  rw[eD]
  have e0: ∀ {x:St} {o:SV} {a b:Int},eV 0 x o a b=eV (qm s n f L g).y x o a b:=by rw[aag];exact rfl
  rw[e0]
  exact dE (A:=qm s n f L g) hS hO (by decide) (by decide) (by decide) (by simp only[AS.mem,AS.put,vP,seval, -List.reduceReplicate]) (by simp only[AS.mem,AS.put,vP,seval, -List.reduceReplicate])
theorem NR (x y:Nat→Int):gN x y=gN y x:=by
 unfold gN
 rw[Bool.eq_iff_iff]
 simp only[decide_eq_true_eq]
 exact eq_comm
theorem sV {s:AS} {nm na n:Nat} {va:AV} {sv:SV} {mk ad f tag:Nat→Int} (hmk:br mk) (ha:br ad) (hf:br f) (Qt:bG s.box va na ad) (Qu:bG s.box (.inl (.inl sv)) n f) (RP: ¬ (1048576 < na∨1048576 < n)) {dst:Option Nat} {K:AS→Prop}
  (h1:gN (nc mk na n ad f) tag=true→ ∀ sw bx,kA nm n (gu mk f) sw bx→K ((⟨s.env,upd s.box nm bx,s.next⟩:AS).put dst (some (.inr [.inl sw, .inl (.inl (.bool true))]))))
  (h0:gN (nc mk na n ad f) tag=false→K ((⟨s.env,upd s.box nm none,s.next⟩:AS).put dst (some ku))):
  bA Tryz.prog nm 40 (some [Ag (af .u8 32 mk),va,Ag (sv::af .u8 32 tag)]) dst K s:=by
 obtain ⟨k1,l1,r1,v1,q1,P1,A1,e1,_⟩:=nh (s:=s) rK (by decide) Qu
 obtain ⟨k2,l2,r2,v2,q2,P2,A2,e2,T2⟩:=nh P1 (by omega) Qt
 obtain ⟨B1,f1⟩:=T2 _ _ _ A1
 rw[e1]at f1
 obtain ⟨xj,rfl,es⟩:=Z5 B1 f1
 have el:[Ag (af .u8 32 mk),va,Ag (sv::af .u8 32 tag)]=[Ag (af .u8 32 mk),v2,Ag (xj::af .u8 32 tag)].map (AV.aI r2):=by
  simp only[List.map_cons,List.map_nil,fg,e2]
  congr 1
  congr 1
  congr 1
  show _=AV.aI _ (.inl (.inr _))
  simp only[AV.aI,CV.aI,List.map_cons,aQ aw,es]
 cases hsame:gN (nc mk na n ad f) tag with
 | true=>
  refine (RO P2.good hmk ha hf A2 B1 RP hsame).bA r2 P2.fits el ?_
  rintro v out (⟨g0,rfl,rfl⟩ | ⟨c,tail,rfl,rfl,g1,g2,g3⟩)
  ·exact h1 hsame (.inl (.slice none 0 0)) none (.inl ⟨g0,rfl,rfl⟩)
  ·have l0:lk [(k2,(⟨true,af .u8 n (gu mk f)++tail⟩:aN))] k2=some ⟨true,af .u8 n (gu mk f)++tail⟩:=by simp[lk]
   have e:AV.aI (bI r2 k2 nm) (.inr [.inl (.inr (.inr (k2,0,n,c))), .inl (.inl (.bool true))])= .inr [.inl (.inr (.inr (nm,0,n,c))), .inl (.inl (.bool true))]:=by
    show (Sum.inr [Sum.inl (Sum.inr (Sum.inr (bI r2 k2 nm k2,0,n,c))),Sum.inl (Sum.inl (Value.bool true))]:AV)=_
    rw[iN]
   rw[l0,fh (cD g3),e]
   exact h1 hsame (.inr (.inr (nm,0,n,c))) _ (.inr ⟨c,_,rfl,bK.row g1 g2 g3,rfl⟩)
 | false=>exact (GL P2.good hmk ha hf A2 B1 RP hsame).Ga r2 P2.fits rfl el (h0 hsame)
theorem zY {mk aG:Nat→Int} {pn x:Int} {m:Nat} {f tag:Nat→Int}:gN (nc mk 41 m (KO aG pn x) f) tag=yd mk aG pn x m f tag:=NR _ _
def gw (E:Option Nat) (A:G8) (s:St) (n:Nat) (f:Nat→En):G8:=match E with
 | some i=>⟨rj i,s,0,0,n,0,f,fun _=>0⟩
 | none=>A
def Vs:bn:=
 let e0:bn:=(.cons 19 .nil .nil)
 let e1:bn:=(.cons 18 e0 .nil)
 let e2:bn:=(.cons 17 e0 .nil)
 let e3:bn:=(.cons 17 e1 (.cons 18 e2 .nil))
 let e4:bn:=(.cons 16 e1 .nil)
 let e5:bn:=(.cons 16 e3 (.cons 17 e4 .nil))
 (.cons 15 e5 .nil)
theorem R5 {s:St} {n m i:Nat} {f:Nat→En} {aG g tag:Nat→Int} {pn x:Int} {sv:SV} {cs ds:List SV} (h0:aH 0 s.store n f cs) (hp:cs.all SV.plain=true) (hn:n*72≤140737488355328) (hi:i < n) (hk:br (f i).key) (ic:br aG) (hf:br g) (hv:eH 1 (.inl (.inl sv)) m g ds) (hq:ds.all SV.plain=true) (hm:m≤65536):
  gL Tryz.prog 23 [Ag (bC s),Ag (fT aG pn x sv tag),I .i64 i] 2 2 (lk [(0,⟨false,cs⟩),(1,⟨false,ds⟩)]) (vg 2 (gw (wX m i f aG g tag pn x) (wY n m i s f g) s n f)):=by
 have h1:=h0
 rcases h0 with ⟨_,h0⟩ | ⟨o,c,hst,hc,hsh⟩
 ·omega
 have b1:=hsh.lt hi
 have b2:List.take 32 (List.drop (o+i*66+34) cs)=af .u8 32 (f i).key:=kN (hsh.key hi) (Nat.le_refl 32)
 have g0:bz [] 0 0 0 f:=⟨rfl,by decide,rfl,fun i hi=>by omega⟩
 have hi1:cO cs o i f:=fun j hj=>hsh j (by omega)
 have hic:((i:Int)≤(c:Int))=True:=eq_true (by omega)
 have wi:IntKind.i64.wrap ((i:Int)+1)=((i+1:Nat):Int):=by rw[IntKind.wrap_i64];omega
 have hin:(((i+1:Nat):Int)≤(n:Int))=True:=eq_true (by omega)
 have hnc:((n:Int)≤(c:Int))=True:=eq_true (by omega)
 have e3:i+(n - (i+1))=n - 1:=by omega
 have hi2:cO cs (if c=i+1 then o else o+(i+1)*66) (n - (i+1)) (fun k=>f (i+1+k)):=by
  by_cases e:c=i+1
  ·intro j hj;omega
  ·rw[if_neg e];exact Ma hsh (i+1) _ (by omega)
 have hone:cellsOf (some (.inl (.inl sv)))=some [sv]:=by
  rcases hv with ⟨⟨a,e⟩,_⟩ | ⟨o,c,e,_⟩
  ·obtain rfl:sv= .inl (.slice a 0 0):=by injection e with e;injection e
   rfl
  ·obtain rfl:sv= .inr (.inr (1,o,m,c)):=by injection e with e;injection e
   rfl
 refine dF Tryz.func23 rfl (by kernel_rfl) [1] [] (by simp[Tryz.ntmps23]) Tryz.tQ (by decide) (fun y hy=>by
  simp only[List.mem_cons,List.not_mem_nil,or_false]at hy
  rcases hy with rfl | rfl | rfl
  ·exact bF (h1.ok (by decide))
  ·exact jF (mq hv (by decide))
  ·trivial) lC (nU hp hq) ?_
 simp only[Tryz.results23,hst,aW,cF hi,hsh i hi,eO,b1,bd,qt,df,cB,gO,gP,gQ,zF,vL,seval, -List.reduceReplicate]
 refine oA (by kernel_rfl) [0,1,2,3,4,5,6,7,9,10,11,12,13] [8,14] [] [15,16,17,18,19] [2,3] [] [11,12,13,14,15,16,17,18,20,21,22,23,24,19,25,10,26,27,7,8] Vs (by kernel_rfl) (by kernel_rfl) (by kernel_rfl) (by kernel_rfl) (fun t h=>nomatch h) ?_
 simp only[hone,hst,aW,cF hi,hsh i hi,eO,b1,bd,qt,df,cB,gO,gP,gQ,zF,vL,seval, -List.reduceReplicate]
 refine sT ?_
 intro c3 xP g3
 simp only[hone,b2,bd,qt,df,cB,gO,gP,gQ,zF,vL,seval, -List.reduceReplicate]
 refine sV (na:=41) (n:=m) (ad:=KO aG pn x) (f:=g) hk (GM ic) hf (.inr ⟨9,0,c3,true,xP,rfl,by simp only[vP,seval, -List.reduceReplicate],g3.plain,g3.shows⟩) (hv.at (t:=1) (rw:=false) (by simp only[vP,seval, -List.reduceReplicate]) hq) (by omega) ?_ ?_
 ·intro ho o1 YB hO
  rw[zY]at ho
  simp only[Vs,cp,dv,Bool.not_true,bd,qt,df,cB,gO,gP,gQ,zF,vL,seval, -List.reduceReplicate]
  refine ⟨⟨?_, ?_⟩, ?_⟩
  all_goals
   refine bM (t:=0) (rw:=false) (cs:=cs) (by simp only[cp,vP,seval, -List.reduceReplicate]) hp h1 (fun _=>hn) (fun h=>absurd h (by decide)) (fun _ c5 pZ g5=> ?_)
   simp only[hst,aW,hic,cp,dv,bd,qt,df,cB,gO,gP,gQ,zF,vL,seval, -List.reduceReplicate]
   refine lG (by':=72) (rw:=false) Tryz.jQ Tryz.ki (by simp only[cp,vP,seval, -List.reduceReplicate]) g0 (by simp only[cp,vP,seval, -List.reduceReplicate]) (by decide) hi1 (by omega) (by omega) ?_
   intro c6 cs6 g6
   replace g6:bz cs6 0 i c6 f:=g6.congr (Nat.zero_add i) (fun j hj=>by rw[if_neg (by omega)];rfl)
   simp only[cp,dv,bd,qt,df,cB,gO,gP,gQ,zF,vL,seval, -List.reduceReplicate]
   refine .inl ?_
   try simp only[hst,aW,wi,hin,hnc,cp,dv,bd,qt,df,cB,gO,gP,gQ,zF,vL,seval, -List.reduceReplicate]
   refine ⟨by kernel_rfl, ?_⟩
   try simp only[hst,aW,wi,hin,hnc,cp,dv,bd,qt,df,cB,gO,gP,gQ,zF,vL,seval, -List.reduceReplicate]
   refine ⟨by kernel_rfl, ?_⟩
   refine lG (by':=72) (rw:=false) (m:=n - (i+1)) (g:=fun k=>f (i+1+k)) Tryz.jQ Tryz.ki (by simp only[cp,vP,seval, -List.reduceReplicate]) g6 (by simp only[cp,vP,seval, -List.reduceReplicate]) (by decide) hi2 (by omega) (by omega) ?_
   intro c7 cs7 g7
   replace g7:bz cs7 0 (n - 1) c7 (GP f i):=g7.congr e3 (fun j hj=>by
    unfold GP
    split
    ·rfl
    ·congr 1;omega)
   have eE:wX m i f aG g tag pn x=none:=if_pos ho
   have aah:cellsOf (some (.inl (.inl o1)))=some [o1]:=by rcases hO with ⟨_,rfl,_⟩ | ⟨_,_,rfl,_⟩<;>rfl
   simp only[aah,hsh.ep hi,hsh.num hi,hst,aW,e3,cF hi,hsh i hi,eO,b1,cp,dv,bd,qt,df,cB,gO,gP,gQ,zF,vL,seval, -List.reduceReplicate]
   rw[eE]
   exact dE (A:=gw none (wY n m i s f g) s n f) (.inr ⟨c7,cs7,rfl,g7,rfl⟩) hO (by decide) (by decide) (by decide) (by simp only[cp,AS.mem,AS.put,vP,seval, -List.reduceReplicate]) (by simp only[cp,AS.mem,AS.put,vP,seval, -List.reduceReplicate])
 ·intro ho
  rw[zY]at ho
  simp only[ku,Vs,cp,dv,Bool.not_false,bd,qt,df,cB,gO,gP,gQ,zF,vL,seval, -List.reduceReplicate]
  refine ⟨⟨?_, ?_⟩, ?_⟩
  all_goals
   have eE:wX m i f aG g tag pn x=some 5:=if_neg (by rw[ho];decide)
   rw[eE]
   refine bM (t:=0) (rw:=false) (cs:=cs) (by simp only[cp,vP,seval, -List.reduceReplicate]) hp h1 (fun _=>hn) (fun h=>absurd h (by decide)) (fun _ c5 pZ g5=> ?_)
   simp only[cp,dv,bd,qt,df,cB,gO,gP,gQ,zF,vL,seval, -List.reduceReplicate]
   exact dE (A:=gw (some 5) (wY n m i s f g) s n f) (q':=999) (.inr ⟨c5,pZ,rfl,g5,rfl⟩) (.inl ⟨rfl,rfl,rfl⟩) (by decide) (by decide) (by decide) (by simp only[cp,AS.mem,AS.put,vP,seval, -List.reduceReplicate]) (by rfl)
theorem w9 {s:AS} {nm t n j:Nat} {x:St} {f:Nat→En} {rw:Bool} {cs:List SV} (hb:s.box t=some ⟨rw,cs⟩) (hp:cs.all SV.plain=true) (hi:aH t x.store n f cs) (hs:gy x) (hn:(n+j)*72≤140737488355328) (hj:j < 1000000) (Fm:0≤x.nr) (hx:x.nr+j < 4294967296) {dst:Option Nat} {K:AS→Prop}
  (hk: ∀ c cs',bz cs' 0 (n+j) c (gA n f x)→K ((⟨s.env,upd s.box nm (some ⟨true,cs'⟩),s.next⟩:AS).put dst (some (Sl nm 0 (n+j) c)))):ax Tryz.prog nm 43 (some [Ag (bC x),I .i64 j]) dst K s:=by
 obtain ⟨v0,g0,e0⟩:=hi.name (k:=0)
 refine (R3 (s:={ x with store:=v0 }) g0 hp (hs.ws v0) hn hj Fm hx).ax (fun _=>t) none (bS hb hp) ?_ ?_
 ·simp only[List.map_cons,List.map_nil,eM,e0 (fun _=>t) rfl];rfl
 ·rintro v out ⟨c,cs',rfl,hg,rfl⟩ _
  have e:AV.aI (dJ (fun _=>t) 1 nm) (Sl 1 0 (n+j) c)=Sl nm 0 (n+j) c:=by show Sl (dJ _ 1 nm 1) 0 (n+j) c=_;rw[gT]
  rw[fN hg.plain,e]
  rw[wW]at hg
  exact hk c cs' hg
def oM (d:St) (N m j:Nat) (aG g tag:Nat→Int) (pn x:Int):Option Nat:=
 if d.skip < j then some 6 else if d.room < N+j then some 7 else if yd (qk (fJ d j).recv 1) aG pn x m g tag=true then none else some 5
def three (a b c:Nat) (n:Nat):Nat:=if n=0 then a else if n=1 then b else c
def Vt:bn:=
 let e0:bn:=(.cons 17 .nil .nil)
 let e1:bn:=(.cons 16 e0 .nil)
 let e2:bn:=(.cons 15 e0 .nil)
 let e3:bn:=(.cons 15 e1 (.cons 16 e2 .nil))
 let e4:bn:=(.cons 14 e1 .nil)
 let e5:bn:=(.cons 14 e3 (.cons 15 e4 .nil))
 (.cons 13 e5 .nil)
theorem V2 {b0 b1 b2 b':aN} {n:Nat} (h:lk [(0,b0),(1,b1),(2,b2)] n=some b'):(n=0∧b'=b0)∨(n=1∧b'=b1)∨(n=2∧b'=b2):=by
 simp only[lk]at h
 (repeat' split at h)<;>simp_all
theorem NS {d:St}: ∀ k,fJ d k={ d with recv:=(fJ d k).recv,nr:=(fJ d k).nr }
 | 0=>rfl
 | k+1=>by
  show la (fJ d k)={ d with recv:=(la (fJ d k)).recv,nr:=(la (fJ d k)).nr }
  rw[NS k];rfl
theorem Xz {d:St} {N m j:Nat} {F:Nat→En} {g:Nat→Int} {x:Int} (h0:0≤d.nr) (hx:x=d.nr+j) (h1:x < 4294967295):
  lb d N F m g x=⟨0,{ d with recv:=(fJ d (j+1)).recv,nr:=IntKind.u32.wrap (x+1) },d.re,x,N+j,m,gA N F d,gu (qk (fJ d j).recv 1) g⟩:=by
 have e:(x - d.nr).toNat=j:=by omega
 have e2:(fJ d (j+1)).nr=IntKind.u32.wrap (x+1):=by rw[CD h0 (j+1) (by omega),wrap_u32];omega
 unfold lb
 rw[e, ← e2, ← NS (j+1)]
theorem NT {d s0:St} {N n m j:Nat} {F f:Nat→En} {aG g tag:Nat→Int} {pn x:Int} {sv:SV} {cs ds es:List SV} (h0:aH 0 d.store N F cs) (hp:cs.all SV.plain=true) (hv:eH 1 (.inl (.inl sv)) m g ds) (hq:ds.all SV.plain=true) (h2:aH 2 s0.store n f es) (hr:es.all SV.plain=true)
  (hs:gy d) (hn:n*72≤140737488355328) (hN:N≤4000) (TM:x=d.nr+j) (hx1:x < 4294967295) (hsk:0≤d.skip∧d.skip≤1000) (hro:0≤d.room∧d.room≤1000) (ic:br aG) (hf:br g) (hm:m≤65536):
  gL Tryz.prog 24 [Ag (bC d),Ag (fT aG pn x sv tag),Ag (bC s0)] 3 2 (lk [(0,⟨false,cs⟩),(1,⟨false,ds⟩),(2,⟨false,es⟩)]) (vg 3 (gw (oM d N m j aG g tag pn x) (lb d N F m g x) s0 n f)):=by
 have hone:cellsOf (some (.inl (.inl sv)))=some [sv]:=by
  rcases hv with ⟨⟨a,e⟩,_⟩ | ⟨o,c,e,_⟩
  ·obtain rfl:sv= .inl (.slice a 0 0):=by injection e with e;injection e
   rfl
  ·obtain rfl:sv= .inr (.inr (1,o,m,c)):=by injection e with e;injection e
   rfl
 refine dF Tryz.func24 rfl (by kernel_rfl) [7] [] (by simp[Tryz.ntmps24]) Tryz.tR (by decide) (fun y hy=>by
  simp only[List.mem_cons,List.not_mem_nil,or_false]at hy
  rcases hy with rfl | rfl | rfl
  ·exact bF (h0.ok (by decide))
  ·exact jF (mq hv (by decide))
  ·exact bF (h2.ok (by decide))) (fun n hn=>by
  have:n=0∨n=1∨n=2:=by omega
  rcases this with rfl | rfl | rfl<;>exact ⟨_,rfl⟩) (fun n b hb=>by
  rcases V2 hb with ⟨rfl,rfl⟩ | ⟨rfl,rfl⟩ | ⟨rfl,rfl⟩
  ·exact ⟨by decide,aC hp⟩
  ·exact ⟨by decide,aC hq⟩
  ·exact ⟨by decide,aC hr⟩) ?_
 have Fm:=hs.nr
 simp only[mC]at Fm
 have eA:=Xz (N:=N) (m:=m) (F:=F) (g:=g) Fm.1 TM hx1
 have ec:IntKind.u32.wrap (x - d.nr)=(j:Int):=by rw[wrap_u32];omega
 have w1:IntKind.u64.wrap (j:Int)=(j:Int):=by rw[IntKind.wrap_u64];omega
 have w2:IntKind.u64.wrap d.skip=d.skip:=by rw[IntKind.wrap_u64];omega
 have Yl:=h0.len
 simp only[Tryz.results24,ec,w1,w2,bd,qt,df,cB,gO,gP,gQ,zF,vL,seval, -List.reduceReplicate]
 refine dI (fun h=> ?_) (fun h=> ?_)
 ·have h':d.skip < j:=of_decide_eq_true h
  have eE:oM d N m j aG g tag pn x=some 6:=if_pos h'
  simp only[bd,qt,df,cB,gO,gP,gQ,zF,vL,seval, -List.reduceReplicate]
  refine bM (t:=2) (rw:=false) (cs:=es) (by simp only[vP,seval, -List.reduceReplicate]) hr h2 (fun _=>hn) (fun h=>absurd h (by decide)) (fun _ c5 pZ g5=> ?_)
  simp only[bd,qt,df,cB,gO,gP,gQ,zF,vL,seval, -List.reduceReplicate]
  rw[eE]
  exact dE (A:=gw (some 6) (lb d N F m g x) s0 n f) (q':=999) (.inr ⟨c5,pZ,rfl,g5,rfl⟩) (.inl ⟨rfl,rfl,rfl⟩) (by decide) (by decide) (by decide) (by simp only[AS.mem,AS.put,vP,seval, -List.reduceReplicate]) (by rfl)
 have h1: ¬ d.skip < j:=of_decide_eq_false h
 have w3:IntKind.i64.wrap (j:Int)=(j:Int):=by rw[IntKind.wrap_i64];omega
 have w4:IntKind.i64.wrap ((N:Int)+j)=(N:Int)+j:=by rw[IntKind.wrap_i64];omega
 simp only[Yl,ec,w3,w4,bd,qt,df,cB,gO,gP,gQ,zF,vL,seval, -List.reduceReplicate]
 refine dI (fun h=> ?_) (fun h=> ?_)
 ·have h':d.room < (N:Int)+j:=of_decide_eq_true h
  have eE:oM d N m j aG g tag pn x=some 7:=by unfold oM;rw[if_neg h1];exact if_pos h'
  simp only[bd,qt,df,cB,gO,gP,gQ,zF,vL,seval, -List.reduceReplicate]
  refine bM (t:=2) (rw:=false) (cs:=es) (by simp only[vP,seval, -List.reduceReplicate]) hr h2 (fun _=>hn) (fun h=>absurd h (by decide)) (fun _ c5 pZ g5=> ?_)
  simp only[bd,qt,df,cB,gO,gP,gQ,zF,vL,seval, -List.reduceReplicate]
  rw[eE]
  exact dE (A:=gw (some 7) (lb d N F m g x) s0 n f) (q':=999) (.inr ⟨c5,pZ,rfl,g5,rfl⟩) (.inl ⟨rfl,rfl,rfl⟩) (by decide) (by decide) (by decide) (by simp only[AS.mem,AS.put,vP,seval, -List.reduceReplicate]) (by rfl)
 have h3: ¬ d.room < (N:Int)+j:=of_decide_eq_false h
 have w5:IntKind.i64.wrap ((j:Int)+1)=((j+1:Nat):Int):=by rw[IntKind.wrap_i64];omega
 have w6:IntKind.u32.wrap ((j:Int)+1)=((j+1:Nat):Int):=by rw[wrap_u32];omega
 simp only[w3,w5,bd,qt,df,cB,gO,gP,gQ,zF,vL,seval, -List.reduceReplicate]
 refine walk_call hs.recv (by omega) ?_
 intro c1 kk g1
 simp only[bd,qt,df,cB,gO,gP,gQ,zF,vL,seval, -List.reduceReplicate]
 have l0:((j:Int) < ((j+1+1:Nat):Int))=True:=eq_true (by omega)
 have l1:(((j+1:Nat):Int) < ((j+1+1:Nat):Int))=True:=eq_true (by omega)
 have l2:(j*32+32≤kk.length)=True:=eq_true (by have:=g1.len;have:=g1.room;omega)
 have l3:((j+1)*32+32≤kk.length)=True:=eq_true (by have:=g1.len;have:=g1.room;omega)
 have k0:List.take 32 (List.drop (j*32) kk)=af .u8 32 (qk (fJ d j).recv 1):=by
  rw[kN (g1.key (by omega)) (Nat.le_refl 32),zo,if_pos (by omega),wZ];rfl
 have k1:List.take 32 (List.drop ((j+1)*32) kk)=af .u8 32 (fJ d (j+1)).recv:=by
  rw[kN (g1.key (by omega)) (Nat.le_refl 32),zo,if_neg (by omega),wZ]
 refine oA (by kernel_rfl) [0,1,2,3,4,5,7,8,9,10,11] [6,12] [] [13,14,15,16,17] [4,34] [] [43,44,45,46,47,48,50,51,52,53,54,49,55,42,56,57,9,10] Vt (by kernel_rfl) (by kernel_rfl) (by kernel_rfl) (by kernel_rfl) (fun t h=>nomatch h) ?_
 simp only[hone,aW,l0,l2,k0,bd,qt,df,cB,gO,gP,gQ,zF,vL,seval, -List.reduceReplicate]
 refine sT ?_
 intro c3 xP g3
 simp only[hone,bd,qt,df,cB,gO,gP,gQ,zF,vL,seval, -List.reduceReplicate]
 refine sV (na:=41) (n:=m) (ad:=KO aG pn x) (f:=g) (pQ _ _) (GM ic) hf (.inr ⟨40,0,c3,true,xP,rfl,by simp only[vP,seval, -List.reduceReplicate],g3.plain,g3.shows⟩) (hv.at (t:=1) (rw:=false) (by simp only[vP,seval, -List.reduceReplicate]) hq) (by omega) ?_ ?_
 ·intro ho o1 YB hO
  rw[zY]at ho
  have eE:oM d N m j aG g tag pn x=none:=by unfold oM;rw[if_neg h1,if_neg h3];exact if_pos ho
  have aah:cellsOf (some (.inl (.inl o1)))=some [o1]:=by rcases hO with ⟨_,rfl,_⟩ | ⟨_,_,rfl,_⟩<;>rfl
  simp only[w3,Vt,cp,dv,Bool.not_true,bd,qt,df,cB,gO,gP,gQ,zF,vL,seval, -List.reduceReplicate]
  refine ⟨⟨?_, ?_⟩, ?_⟩
  all_goals
   refine w9 (t:=0) (rw:=false) (cs:=cs) (j:=j) (by simp only[cp,vP,seval, -List.reduceReplicate]) hp h0 hs (by omega) (by omega) Fm.1 (by omega) ?_
   intro c5 pZ g5
   simp only[aW,w6,l1,l3,k1,aah,cp,dv,bd,qt,df,cB,gO,gP,gQ,zF,vL,seval, -List.reduceReplicate]
   rw[eE,eA]
   exact dE (A:=⟨0,{ d with recv:=(fJ d (j+1)).recv,nr:=IntKind.u32.wrap (x+1) },d.re,x,N+j,m,gA N F d,gu (qk (fJ d j).recv 1) g⟩) (.inr ⟨c5,pZ,rfl,g5,rfl⟩) hO (by decide) (by decide) (by decide) (by simp only[cp,AS.mem,AS.put,vP,seval, -List.reduceReplicate]) (by simp only[cp,AS.mem,AS.put,vP,seval, -List.reduceReplicate])
 ·intro ho
  rw[zY]at ho
  have eE:oM d N m j aG g tag pn x=some 5:=by unfold oM;rw[if_neg h1,if_neg h3];exact if_neg (by rw[ho];decide)
  simp only[ku,Vt,cp,dv,Bool.not_false,bd,qt,df,cB,gO,gP,gQ,zF,vL,seval, -List.reduceReplicate]
  refine ⟨⟨?_, ?_⟩, ?_⟩
  all_goals
   rw[eE]
   refine bM (t:=2) (rw:=false) (cs:=es) (by simp only[cp,vP,seval, -List.reduceReplicate]) hr h2 (fun _=>hn) (fun h=>absurd h (by decide)) (fun _ c5 pZ g5=> ?_)
   simp only[cp,dv,bd,qt,df,cB,gO,gP,gQ,zF,vL,seval, -List.reduceReplicate]
   exact dE (A:=gw (some 5) (lb d N F m g x) s0 n f) (q':=999) (.inr ⟨c5,pZ,rfl,g5,rfl⟩) (.inl ⟨rfl,rfl,rfl⟩) (by decide) (by decide) (by decide) (by simp only[cp,AS.mem,AS.put,vP,seval, -List.reduceReplicate]) (by rfl)
theorem nq {t k n:Nat} {sv:SV} {f:Nat→Int} {cs:List SV} (h:eH t (.inl (.inl sv)) n f cs): ∃ sk,eH k (.inl (.inl sk)) n f cs∧ ∀ r:Nat→Nat,r k=t→SV.aI r sk=sv:=by
 rcases h with ⟨⟨a,e⟩,h0⟩ | ⟨o,c,e,hs⟩
 ·obtain rfl:sv= .inl (.slice a 0 0):=by injection e with e;injection e
  exact ⟨.inl (.slice a 0 0), .inl ⟨⟨a,rfl⟩,h0⟩,fun r hr=>rfl⟩
 ·obtain rfl:sv= .inr (.inr (t,o,n,c)):=by injection e with e;injection e
  exact ⟨.inr (.inr (k,o,n,c)), .inr ⟨o,c,rfl,hs⟩,fun r hr=>by simp only[SV.aI,hr]⟩
theorem rY {k:Nat} {A:G8} {w:SV} {v:AV} {out:Nat→Option aN} (h:vg k { A with x:={ A.x with store:=w } } v out):vg k A v out:=h
theorem xc {k:Nat} {E:Option Nat} {d s0:St} {a b:SV} {N m n:Nat} {F f:Nat→En} {g:Nat→Int} {x:Int} {v:AV} {out:Nat→Option aN} (h:vg k (gw E (lb { d with store:=a } N F m g x) { s0 with store:=b } n f) v out):vg k (gw E (lb d N F m g x) s0 n f) v out:=by
 cases E with
 | some i=>exact rY (A:=gw (some i) (lb d N F m g x) s0 n f) (w:=b) h
 | none=>
  unfold gw lb at h ⊢
  dsimp only at h ⊢
  rw[n8 (s:=d) (v:=a) ((x - d.nr).toNat+1),n8 (s:=d) (v:=a) (x - d.nr).toNat,wW]at h
  dsimp only at h
  generalize fJ d ((x - d.nr).toNat+1)=y at h ⊢
  generalize qk (fJ d (x - d.nr).toNat).recv 1=z at h ⊢
  exact rY (A:=⟨0,y,d.re,x,_,m,_,_⟩) (w:=a) h
theorem QD {d:St} {v:SV} {N m j:Nat} {aG g tag:Nat→Int} {pn x:Int}:oM { d with store:=v } N m j aG g tag pn x=oM d N m j aG g tag pn x:=by
 unfold oM
 rw[n8 (s:=d) (v:=v) j]
theorem Td {s:AS} {a b c:Nat} {r0 r1 r2:Bool} {c0 c1 c2:List SV} (h0:s.box a=some ⟨r0,c0⟩) (p0:c0.all SV.plain=true) (h1:s.box b=some ⟨r1,c1⟩) (p1:c1.all SV.plain=true) (h2:s.box c=some ⟨r2,c2⟩) (p2:c2.all SV.plain=true):
  Fits s (three a b c) (lk [(0,⟨false,c0⟩),(1,⟨false,c1⟩),(2,⟨false,c2⟩)]) none:=by
 refine ⟨fun n b hb=> ?_,fun n n' b b' hb hrw=> ?_,fun n b hb hrw=> ?_,fun n h=>(by cases h)⟩
 ·rcases V2 hb with ⟨rfl,rfl⟩ | ⟨rfl,rfl⟩ | ⟨rfl,rfl⟩
  ·exact ⟨_,h0,fun h=>(by cases h),(aQ p0 _).symm⟩
  ·exact ⟨_,h1,fun h=>(by cases h),(aQ p1 _).symm⟩
  ·exact ⟨_,h2,fun h=>(by cases h),(aQ p2 _).symm⟩
 ·rcases V2 hb with ⟨rfl,rfl⟩ | ⟨rfl,rfl⟩ | ⟨rfl,rfl⟩<;>cases hrw
 ·rcases V2 hb with ⟨rfl,rfl⟩ | ⟨rfl,rfl⟩ | ⟨rfl,rfl⟩<;>cases hrw
theorem zr {s:AS} {nm t u z N n m j:Nat} {d s0:St} {F f:Nat→En} {aG g tag:Nat→Int} {pn x:Int} {sv:SV} {ra rb rc:Bool} {cs ds es:List SV} (hb:s.box t=some ⟨ra,cs⟩) (h0:aH t d.store N F cs) (hp:cs.all SV.plain=true) (hb':s.box u=some ⟨rb,ds⟩) (hv:eH u (.inl (.inl sv)) m g ds) (hq:ds.all SV.plain=true) (nT:s.box z=some ⟨rc,es⟩) (h2:aH z s0.store n f es) (hr:es.all SV.plain=true)
  (hs:gy d) (hn:n*72≤140737488355328) (hN:N≤4000) (TM:x=d.nr+j) (hx1:x < 4294967295) (hsk:0≤d.skip∧d.skip≤1000) (hro:0≤d.room∧d.room≤1000) (ic:br aG) (hf:br g) (hm:m≤65536) {dst:Option Nat} {K:AS→Prop}
  (hk:Xn nm (gw (oM d N m j aG g tag pn x) (lb d N F m g x) s0 n f) dst K s):
  bA Tryz.prog nm 24 (some [Ag (bC d),Ag (fT aG pn x sv tag),Ag (bC s0)]) dst K s:=by
 obtain ⟨v0,g0,e0⟩:=h0.name (k:=0)
 obtain ⟨w0,g1,e1⟩:=nq (k:=1) hv
 obtain ⟨u0,g2,e2⟩:=h2.name (k:=2)
 refine oJ (A:=gw (oM d N m j aG g tag pn x) (lb d N F m g x) s0 n f) (NT (d:={ d with store:=v0 }) (s0:={ s0 with store:=u0 }) (pn:=pn) (tag:=tag) g0 hp g1 hq g2 hr (hs.ws v0) hn hN TM hx1 hsk hro ic hf hm) (fun v out h=> ?_) (three t u z) (Td hb hp hb' hq nT hr) ?_ hk
 ·rw[QD]at h
  exact xc h
 ·simp only[List.map_cons,List.map_nil,eM,lX,e0 (three t u z) rfl,e1 (three t u z) rfl,e2 (three t u z) rfl]
def oN (s:St) (n m r:Nat) (aG g tag:Nat→Int) (pn x:Int):Option Nat:=match ni s n r x with
 | some i=>some i
 | none=>if yd (qk (fJ (gJ s aG) x.toNat).recv 1) aG pn x m g tag=true then none else some 5
def frM (s:St) (r:Nat) (aG tag:Nat→Int) (pn x:Int) (sv:SV) (cs ds:List SV):AS:=
 oZ [(2,Ptr 2 0),(3,Ptr 3 0),(4,Ptr 4 0),(5,I .u32 r)] [(0,⟨false,cs⟩),(1,⟨false,ds⟩),(2,⟨true,bC s⟩),(3,⟨true,fT aG pn x sv tag⟩),(4,⟨true,eV 0 rM (Sum.inl (.slice none 0 0)) 0 0⟩)] 10
theorem NU {s:St} {n m r:Nat} {f:Nat→En} {aG g tag:Nat→Int} {pn x:Int} {sv:SV} {cs ds:List SV} (h0:aH 0 s.store n f cs) (hp:cs.all SV.plain=true) (hv:eH 1 (.inl (.inl sv)) m g ds) (hq:ds.all SV.plain=true)
  (hs:gy s) (hn:n*72≤140737488355328) (hl:fx s n=true) (hr:fq s pn - s.nr=r) (hx0:0≤x) (hx1:x < 4294967295) (xg:mC pn) (ic:br aG) (hf:br g) (hm:m≤65536):
  gL Tryz.prog 25 [Ag (bC s),Ag (fT aG pn x sv tag)] 2 2 (lk [(0,⟨false,cs⟩),(1,⟨false,ds⟩)]) (vg 2 (gw (oN s n m r aG g tag pn x) (lb (gJ s aG) (n+r) (gA n f s) m g x) s n f)):=by
 refine dF Tryz.func25 rfl (by kernel_rfl) [19] [3] (by simp[Tryz.ntmps25]) Tryz.tS (by decide) (fun y hy=>by
  simp only[List.mem_cons,List.not_mem_nil,or_false]at hy
  rcases hy with rfl | rfl
  ·exact bF (h0.ok (by decide))
  ·exact jF (mq hv (by decide))) lC (nU hp hq) ?_
 have Fm:=hs.nr
 have hre:=hs.re
 simp only[mC]at Fm hre xg
 have ry: ∀ {M:Nat→Prop},M 0→ ∀ y ∈ bC s,SV.ok M y:=fun h=>bF (h0.ok h)
 have okF: ∀ {M:Nat→Prop},M 1→ ∀ y ∈ fT aG pn x sv tag,SV.ok M y:=fun h=>jF (mq hv h)
 have hl':=hl
 simp only[fx,Bool.and_eq_true,decide_eq_true_eq]at hl'
 obtain ⟨⟨⟨⟨l1,l2⟩,l3⟩,l4⟩,l5⟩:=hl'
 have r0:(r:Int) < 4294967296:=by rw[← hr];unfold fq;split<;>(try split)<;>omega
 have w1: ∀ y:Int,0≤y→y < 18446744073709551616→IntKind.u64.wrap y=y:=fun y a b=>by rw[IntKind.wrap_u64];omega
 have w2:=w1 s.skip (by omega) (by omega)
 have w3:=w1 (r:Int) (by omega) (by omega)
 have w4:=w1 x (by omega) (by omega)
 refine ⟨fun s2=>s2=frM s r aG tag pn x sv cs ds, ?_,fun s2 h=> ?_⟩
 ·have fin: ∀ (env:Nat→Option AV),env 2=some (Ptr 2 0)→env 3=some (Ptr 3 0)→env 4=some (Ptr 4 0)→env 5=some (I .u32 r)→ ∀ (bx:Nat→Option aN) (nx:Nat),bx 0=some ⟨false,cs⟩→bx 1=some ⟨false,ds⟩→bx 2=some ⟨true,bC s⟩→bx 3=some ⟨true,fT aG pn x sv tag⟩→bx 4=some ⟨true,eV 0 rM (Sum.inl (.slice none 0 0)) 0 0⟩→
    ∃ s2,oU 2 ⟨env,bx,nx⟩ s2∧2≤s2.next∧s2=frM s r aG tag pn x sv cs ds:=fun env e2 e3 e4 e5 bx nx b0 b1 b2 b3 b4=>
   ⟨frM s r aG tag pn x sv cs ds,vW (TC ⟨e2,show 2 < 10 by decide⟩ ⟨e3,show 3 < 10 by decide⟩ ⟨e4,show 4 < 10 by decide⟩ ⟨e5,trivial⟩)
    (V' ⟨⟨_,b0,fun h=>h,(aQ hp _).symm⟩,show 0 < 10 by decide,aC hp⟩ ⟨⟨_,b1,fun h=>h,(aQ hq _).symm⟩,show 1 < 10 by decide,aC hq⟩
     ⟨⟨_,b2,fun h=>h,by rw[eN,h0.aI rfl]⟩,show 2 < 10 by decide,ry (show 0 < 10 by decide)⟩ ⟨⟨_,b3,fun h=>h,by rw[rT,hv.abu rfl]⟩,show 3 < 10 by decide,okF (show 1 < 10 by decide)⟩ ⟨⟨_,b4,fun h=>h,by rw[B3];rfl⟩,show 4 < 10 by decide,wv (SV.bk rfl) (SV.bk rfl)⟩),show 2≤10 by decide,rfl⟩
  by_cases c1:0 < s.re
  ·have d1:decide (0 < s.re)=true:=decide_eq_true c1
   by_cases c2:s.nr < pn
   ·have d2:decide (s.nr < pn)=true:=decide_eq_true c2
    have er:IntKind.u32.wrap (pn - s.nr)=(r:Int):=by
     unfold fq at hr;rw[if_neg (by omega),if_pos c2]at hr;rw[wrap_u32];omega
    simp only[Tryz.results25,d1,d2,er,ju,vL,seval, -List.reduceReplicate]
    exact fin _ rfl rfl rfl rfl _ _ rfl rfl rfl rfl rfl
   ·have d2:decide (s.nr < pn)=false:=decide_eq_false c2
    obtain rfl:r=0:=by
     unfold fq at hr;rw[if_neg (by omega),if_neg c2]at hr;omega
    simp only[Tryz.results25,d1,d2,ju,vL,seval, -List.reduceReplicate]
    exact fin _ rfl rfl rfl rfl _ _ rfl rfl rfl rfl rfl
  ·have d1:decide (0 < s.re)=false:=decide_eq_false c1
   obtain rfl:r=0:=by
    unfold fq at hr;rw[if_pos (by omega)]at hr;omega
   simp only[Tryz.results25,d1,ju,vL,seval, -List.reduceReplicate]
   exact fin _ rfl rfl rfl rfl _ _ rfl rfl rfl rfl rfl
 ·subst h
  simp only[Tryz.f25,gV,gU,frM]
  by_cases c3:s.skip < r
  ·have d3:decide (s.skip < (r:Int))=true:=decide_eq_true c3
   have eE:oN s n m r aG g tag pn x=some 6:=by
    have:ni s n r x=some 6:=if_pos (by split<;>omega)
    unfold oN;rw[this]
   simp only[dr,w2,w3,w4,d3,ju,vL,seval, -List.reduceReplicate]
   refine bM (t:=0) (rw:=false) (cs:=cs) (by simp only[vP,seval, -List.reduceReplicate]) hp h0 (fun _=>hn) (fun h=>absurd h (by decide)) (fun _ c5 pZ g5=> ?_)
   simp only[ju,vL,seval, -List.reduceReplicate]
   rw[eE]
   exact dE (A:=gw (some 6) (lb (gJ s aG) (n+r) (gA n f s) m g x) s n f) (q':=999) (.inr ⟨c5,pZ,rfl,g5,rfl⟩) (.inl ⟨rfl,rfl,rfl⟩) (by decide) (by decide) (by decide) (by simp only[AS.mem,AS.put,vP,seval, -List.reduceReplicate]) (by rfl)
  have d3:decide (s.skip < (r:Int))=false:=decide_eq_false c3
  by_cases c4:s.skip < x
  ·have d4:decide (s.skip < x)=true:=decide_eq_true c4
   have eE:oN s n m r aG g tag pn x=some 6:=by
    have:ni s n r x=some 6:=if_pos (by split<;>omega)
    unfold oN;rw[this]
   simp only[dr,w2,w3,w4,d3,d4,ju,vL,seval, -List.reduceReplicate]
   refine bM (t:=0) (rw:=false) (cs:=cs) (by simp only[vP,seval, -List.reduceReplicate]) hp h0 (fun _=>hn) (fun h=>absurd h (by decide)) (fun _ c5 pZ g5=> ?_)
   simp only[ju,vL,seval, -List.reduceReplicate]
   rw[eE]
   exact dE (A:=gw (some 6) (lb (gJ s aG) (n+r) (gA n f s) m g x) s n f) (q':=999) (.inr ⟨c5,pZ,rfl,g5,rfl⟩) (.inl ⟨rfl,rfl,rfl⟩) (by decide) (by decide) (by decide) (by simp only[AS.mem,AS.put,vP,seval, -List.reduceReplicate]) (by rfl)
  have d4:decide (s.skip < x)=false:=decide_eq_false c4
  have v1:IntKind.i64.wrap (r:Int)=(r:Int):=by rw[IntKind.wrap_i64];omega
  have v2:IntKind.i64.wrap x=x:=by rw[IntKind.wrap_i64];omega
  have v3:IntKind.i64.wrap ((n:Int)+r)=(n:Int)+r:=by rw[IntKind.wrap_i64];omega
  have v4:IntKind.i64.wrap ((n:Int)+r+x)=(n:Int)+r+x:=by rw[IntKind.wrap_i64];omega
  have Yl:=h0.len
  simp only[dr,w2,w3,w4,d3,d4,v1,v2,v3,v4,Yl,ju,vL,seval, -List.reduceReplicate]
  by_cases c5:s.room < (n:Int)+r+x
  ·have d5:decide (s.room < (n:Int)+r+x)=true:=decide_eq_true c5
   have eE:oN s n m r aG g tag pn x=some 7:=by
    have:ni s n r x=some 7:=by
     unfold ni;rw[if_neg (by split<;>omega)];exact if_pos c5
    unfold oN;rw[this]
   simp only[d5,ju,vL,seval, -List.reduceReplicate]
   refine bM (t:=0) (rw:=false) (cs:=cs) (by simp only[vP,seval, -List.reduceReplicate]) hp h0 (fun _=>hn) (fun h=>absurd h (by decide)) (fun _ c5 pZ g5=> ?_)
   simp only[ju,vL,seval, -List.reduceReplicate]
   rw[eE]
   exact dE (A:=gw (some 7) (lb (gJ s aG) (n+r) (gA n f s) m g x) s n f) (q':=999) (.inr ⟨c5,pZ,rfl,g5,rfl⟩) (.inl ⟨rfl,rfl,rfl⟩) (by decide) (by decide) (by decide) (by simp only[AS.mem,AS.put,vP,seval, -List.reduceReplicate]) (by rfl)
  have d5:decide (s.room < (n:Int)+r+x)=false:=decide_eq_false c5
  have rc:=Gy s.priv aG hs.priv ic
  rw[← same s.priv aG ic]at rc
  have eS:ni s n r x=none:=by
   unfold ni;rw[if_neg (by split<;>omega)];exact if_neg c5
  simp only[d5,v1,ju,vL,seval, -List.reduceReplicate]
  refine w9 (t:=0) (rw:=false) (cs:=cs) (j:=r) (by simp only[vP,seval, -List.reduceReplicate]) hp h0 hs (by omega) (by omega) Fm.1 (by have:s.nr+r < 4294967296:=(by rw[← hr];unfold fq;split<;>(try split)<;>omega);exact this) ?_
  intro c6 cs6 g6
  simp only[ju,vL,seval, -List.reduceReplicate]
  refine .inl ?_
  try simp only[ju,vL,seval, -List.reduceReplicate]
  refine ⟨by kernel_rfl, ?_⟩
  refine rc.draw (by kernel_rfl) ?_
  simp only[ju,vL,seval, -List.reduceReplicate]
  refine (Ce s.root (zj s.priv aG) hs.root (Kx s.priv aG)).draw (by kernel_rfl) ?_
  simp only[wA,aj,bd,ju,vL,seval, -List.reduceReplicate]
  have eT:oM (gJ s aG) (n+r) m x.toNat aG g tag pn x=oN s n m r aG g tag pn x:=by
   unfold oM oN
   rw[eS,if_neg (show ¬ (gJ s aG).skip < ((x.toNat:Nat):Int) by show ¬ s.skip < _;omega),if_neg (show ¬ (gJ s aG).room < ((n+r:Nat):Int)+((x.toNat:Nat):Int) by show ¬ s.room < _;omega)]
  refine ⟨by decide, ?_⟩
  simp only[ju,vL,seval, -List.reduceReplicate]
  refine zr (d:={ gJ s aG with store:= .inr (.inr (46,0,n+r,c6)) }) (s0:=s) (N:=n+r) (F:=gA n f s) (j:=x.toNat) (t:=46) (u:=1) (z:=0) (ra:=true) (rb:=false) (rc:=false) (cs:=cs6) (ds:=ds) (es:=cs) (by simp only[vP,seval, -List.reduceReplicate]) (.inr ⟨0,c6,rfl,g6.room,g6.shows⟩) g6.plain (by simp only[vP,seval, -List.reduceReplicate]) hv hq (by simp only[vP,seval, -List.reduceReplicate]) h0 hp ((GS hs ic).ws _) hn (by omega) (by show x=0+_;omega) hx1 ⟨l1,l2⟩ ⟨l3,l4⟩ ic hf hm ?_
  rw[QD,eT]
  intro U9 Xf o1 YB hS hO
  simp only[ju,vL,seval, -List.reduceReplicate]
  exact RU (dE hS hO (by decide) (by decide) (by decide) (by simp only[AS.mem,AS.put,vP,seval, -List.reduceReplicate]) (by simp only[AS.mem,AS.put,vP,seval, -List.reduceReplicate])) (fun v out h=>xc (a:= .inr (.inr (46,0,n+r,c6))) (b:=s.store) h)
end Go.Proofs.YtpnehhpadofcbaaGreatDoor
